import Derived.Test.YtajnihjdhhmefaaTornMath
namespace Go.Proofs.Ytajnihjdhhmefaa

def flatF (ps : List (List Int)) : List Int := (ps.map fr).flatten
theorem flatF_cons (p : List Int) (ps : List (List Int)) : flatF (p :: ps) = fr p ++ flatF ps := rfl

/-- The first frame that lost a byte. -/
def fstZ : List (List Int) → (Nat → Bool) → Nat
  | [], _ => 0
  | p :: ps, Z => if (List.range (fr p).length).any Z then 0 else 1 + fstZ ps (fun j => Z ((fr p).length + j))

theorem scn_stop {a : List Int} (h : frmB a = false) (f : Nat) : scn f a = [] := by
  cases f with
  | zero => rfl
  | succ f => unfold scn; rw [h]; simp
theorem scn_go {a : List Int} (h : frmB a = true) (f : Nat) : scn (f + 1) a = (frm_p a, 2 + frm_m a) :: scn f (a.drop (2 + frm_m a)) := by
  conv => lhs; unfold scn
  rw [h]; simp

theorem getD_app_left (xs ys : List Int) (j : Nat) (h : j < xs.length) : (xs ++ ys).getD j 0 = xs.getD j 0 := by simp [List.getD, List.getElem?_append_left h]
theorem getD_app_right (xs ys : List Int) (j : Nat) : (xs ++ ys).getD (xs.length + j) 0 = ys.getD j 0 := by simp [List.getD, List.getElem?_append_right]

theorem list_split {A xs : List Int} (hl : xs.length ≤ A.length) (h : ∀ j, j < xs.length → A.getD j 0 = xs.getD j 0) : A = xs ++ A.drop xs.length := by
  have e : A.take xs.length = xs := by
    apply List.ext_getElem
    · rw [List.length_take]; omega
    · intro j h1 h2
      have := h j h2
      simp only [List.getD, List.getElem?_eq_getElem (show j < A.length by omega), List.getElem?_eq_getElem h2, Option.getD_some] at this
      rw [List.getElem_take]; exact this
  conv => lhs; rw [← List.take_append_drop xs.length A, e]

/-- What a scan of torn frames finds. -/
theorem scn_torn : ∀ (ps : List (List Int)) (A : List Int) (Z : Nat → Bool) (f : Nat), (∀ p ∈ ps, Byt p ∧ 0 < p.length ∧ p.length ≤ 2000) → A.length = (flatF ps).length + 40 →
    (∀ j, j < A.length → A.getD j 0 = if Z j then 0 else (flatF ps ++ List.replicate 40 0).getD j 0) → A.length ≤ f → scn f A = (ps.take (fstZ ps Z)).map (fun p => (p, (fr p).length))
  | [], A, Z, f, _, hl, hA, _ => by
    have hl' : A.length = 40 := by simpa [flatF] using hl
    have h0 := hA 0 (by omega)
    have h1 : A.getD 0 0 = 0 := by
      rw [h0]
      split
      · rfl
      · simp [flatF, List.getD]
    rw [scn_stop (frmB_no (fun hk => by have := hk.2.1; rw [h1] at this; omega)) f]
    simp
  | p :: ps, A, Z, f, hp, hl, hA, hf => by
    obtain ⟨hby, hp0, hp1⟩ := hp p (by simp)
    have hlen := fr_len hp0 hp1
    have hL := pk_length p
    rw [flatF_cons, List.length_append] at hl
    have hA1 : ∀ j, j < (fr p).length → A.getD j 0 = if Z j then 0 else (fr p).getD j 0 := fun j hj => by
      rw [hA j (by omega), flatF_cons, List.append_assoc, getD_app_left _ _ _ hj]
    by_cases hz : (List.range (fr p).length).any Z = true
    · have e : fstZ (p :: ps) Z = 0 := by unfold fstZ; rw [if_pos hz]
      rw [e]
      obtain ⟨i, hi, hzi⟩ := List.any_eq_true.1 hz
      rw [List.mem_range] at hi
      refine scn_stop (frm_torn (m := (pk p).length) ?_ i (by omega) (by omega) ?_) f
      · intro k0 k1
        have g0 := hA1 0 (by omega)
        have g1 := hA1 1 (by omega)
        have z0 : Z 0 = false := by
          cases e : Z 0 with
          | false => rfl
          | true => rw [e] at g0; simp only [if_true] at g0; omega
        have z1 : Z 1 = false := by
          cases e : Z 1 with
          | false => rfl
          | true => rw [e] at g1; simp only [if_true] at g1; omega
        rw [z0] at g0
        rw [z1] at g1
        have e0 : (fr p).getD 0 0 = 128 + ((pk p).length : Int) / 128 := by rw [fr_yes hp0 hp1]; rfl
        have e1 : (fr p).getD 1 0 = 128 + ((pk p).length : Int) % 128 := by rw [fr_yes hp0 hp1]; rfl
        unfold frm_m
        rw [g0, g1]
        simp only [Bool.false_eq_true, if_false]
        rw [e0, e1]
        exact hdr_back _ (by omega)
      · rw [hA1 i hi, hzi]; simp
    · have hz' : (List.range (fr p).length).any Z = false := by simpa using hz
      have e : fstZ (p :: ps) Z = 1 + fstZ ps (fun j => Z ((fr p).length + j)) := by
        conv => lhs; unfold fstZ
        rw [if_neg hz]
      have hno : ∀ j, j < (fr p).length → Z j = false := fun j hj => by
        have := List.any_eq_false.1 hz' j (List.mem_range.2 hj)
        simpa using this
      have hsplit : A = fr p ++ A.drop (fr p).length := list_split (by omega) (fun j hj => by rw [hA1 j hj, hno j hj]; simp)
      obtain ⟨em, ep, eB⟩ := frm_fr (rest := A.drop (fr p).length) hby hp0 hp1
      rw [← hsplit] at em ep eB
      obtain ⟨f', rfl⟩ : ∃ f', f = f' + 1 := ⟨f - 1, by omega⟩
      have hfl : 2 + frm_m A = (fr p).length := by rw [em, hlen]; omega
      rw [scn_go eB, hfl, ep, e, Nat.add_comm 1, List.take_succ_cons, List.map_cons]
      congr 1
      refine scn_torn ps (A.drop (fr p).length) (fun j => Z ((fr p).length + j)) f' (fun q hq => hp q (by simp [hq])) (by rw [List.length_drop]; omega) ?_ (by rw [List.length_drop]; omega)
      intro j hj
      rw [List.length_drop] at hj
      have := hA ((fr p).length + j) (by omega)
      rw [flatF_cons, List.append_assoc, getD_app_right] at this
      rw [← this]
      simp [List.getD, List.getElem?_drop]

end Go.Proofs.Ytajnihjdhhmefaa
