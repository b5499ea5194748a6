import Derived.Test.YtajnihjdhhmefaaTornScan
namespace Go.Proofs.Ytajnihjdhhmefaa

/-- Where frame number i begins. -/
def eF (ps : List (List Int)) (i : Nat) : Nat := (flatF (ps.take i)).length
theorem eF_zero (ps : List (List Int)) : eF ps 0 = 0 := rfl
theorem eF_cons (p : List Int) (ps : List (List Int)) (i : Nat) : eF (p :: ps) (i + 1) = (fr p).length + eF ps i := by
  unfold eF; rw [List.take_succ_cons, flatF_cons, List.length_append]
theorem eF_all (ps : List (List Int)) : eF ps ps.length = (flatF ps).length := by unfold eF; rw [List.take_length]
theorem flatF_snoc (ps : List (List Int)) (p : List Int) : flatF (ps ++ [p]) = flatF ps ++ fr p := by unfold flatF; simp
theorem eF_left (ps : List (List Int)) (p : List Int) (i : Nat) (h : i ≤ ps.length) : eF (ps ++ [p]) i = eF ps i := by
  unfold eF; rw [List.take_append_of_le_length h]

/-- The frame that a byte lies in. -/
def frIdx : List (List Int) → Nat → Nat
  | [], _ => 0
  | p :: ps, j => if j < (fr p).length then 0 else 1 + frIdx ps (j - (fr p).length)

theorem frIdx_lt : ∀ (ps : List (List Int)) (j m : Nat), m ≤ ps.length → (frIdx ps j < m ↔ j < eF ps m)
  | ps, j, 0, _ => by rw [eF_zero]; omega
  | [], j, m + 1, h => by simp at h
  | p :: ps, j, m + 1, h => by
    have h' : m ≤ ps.length := by simpa using h
    rw [eF_cons]
    unfold frIdx
    by_cases hj : j < (fr p).length
    · rw [if_pos hj]; omega
    · rw [if_neg hj]
      have := frIdx_lt ps (j - (fr p).length) m h'
      omega

theorem frIdx_at (ps : List (List Int)) (j i : Nat) (h : i < ps.length) : (j < eF ps (i + 1) ∧ (i = 0 ∨ eF ps i ≤ j)) ↔ frIdx ps j = i := by
  have h1 := frIdx_lt ps j (i + 1) h
  have h2 := frIdx_lt ps j i (by omega)
  rcases Nat.eq_zero_or_pos i with rfl | hi
  · omega
  · constructor
    · rintro ⟨a, b⟩
      have : eF ps i ≤ j := by rcases b with b | b <;> omega
      omega
    · intro e
      exact ⟨by omega, .inr (by omega)⟩

theorem fstZ_le : ∀ (ps : List (List Int)) (Z : Nat → Bool), fstZ ps Z ≤ ps.length
  | [], Z => Nat.le_refl _
  | p :: ps, Z => by
    unfold fstZ
    have := fstZ_le ps (fun j => Z ((fr p).length + j))
    simp only [List.length_cons]
    split <;> omega

theorem fstZ_lt : ∀ (ps : List (List Int)) (Z : Nat → Bool) (m : Nat), m ≤ ps.length → (fstZ ps Z < m ↔ ∃ j, j < eF ps m ∧ Z j = true)
  | ps, Z, 0, _ => by rw [eF_zero]; constructor; omega; rintro ⟨j, h, _⟩; omega
  | [], Z, m + 1, h => by simp at h
  | p :: ps, Z, m + 1, h => by
    have h' : m ≤ ps.length := by simpa using h
    rw [eF_cons]
    unfold fstZ
    by_cases hz : (List.range (fr p).length).any Z = true
    · rw [if_pos hz]
      obtain ⟨i, hi, hzi⟩ := List.any_eq_true.1 hz
      rw [List.mem_range] at hi
      exact ⟨fun _ => ⟨i, by omega, hzi⟩, fun _ => by omega⟩
    · rw [if_neg hz]
      have hno : ∀ j, j < (fr p).length → ¬ Z j = true := fun j hj e => hz (List.any_eq_true.2 ⟨j, List.mem_range.2 hj, e⟩)
      have ih := fstZ_lt ps (fun j => Z ((fr p).length + j)) m h'
      constructor
      · intro hlt
        obtain ⟨j, h1, h2⟩ := ih.1 (by omega)
        exact ⟨(fr p).length + j, by omega, h2⟩
      · rintro ⟨j, h1, h2⟩
        have hge : (fr p).length ≤ j := by
          rcases Nat.lt_or_ge j (fr p).length with hl | hl
          · exact absurd h2 (hno j hl)
          · exact hl
        have := ih.2 ⟨j - (fr p).length, by omega, by show Z _ = true; rw [show (fr p).length + (j - (fr p).length) = j by omega]; exact h2⟩
        omega

def addZ (Z : Nat → Bool) (j : Nat) : Nat → Bool := fun i => i == j || Z i
theorem frIdx_le (ps : List (List Int)) : ∀ j, frIdx ps j ≤ ps.length := by
  induction ps with
  | nil => intro j; exact Nat.le_refl _
  | cons p ps ih =>
    intro j
    unfold frIdx
    have := ih (j - (fr p).length)
    simp only [List.length_cons]
    split <;> omega

theorem eq_of_lt_iff {a b L : Nat} (ha : a ≤ L) (hb : b ≤ L) (h : ∀ m, m ≤ L → (a < m ↔ b < m)) : a = b := by
  rcases Nat.lt_trichotomy a b with hl | rfl | hl
  · have := (h b hb).1 hl; omega
  · rfl
  · have := (h a ha).2 hl; omega

theorem fstZ_add (ps : List (List Int)) (Z : Nat → Bool) (j : Nat) : fstZ ps (addZ Z j) = min (fstZ ps Z) (frIdx ps j) := by
  have h1 := fstZ_le ps (addZ Z j)
  have h2 := fstZ_le ps Z
  have h3 := frIdx_le ps j
  refine eq_of_lt_iff h1 (show min (fstZ ps Z) (frIdx ps j) ≤ ps.length by omega) (fun m hm => ?_)
  rw [fstZ_lt ps _ m hm, show min (fstZ ps Z) (frIdx ps j) < m ↔ (fstZ ps Z < m ∨ frIdx ps j < m) by omega, fstZ_lt ps Z m hm, frIdx_lt ps j m hm]
  constructor
  · rintro ⟨i, hi, hz⟩
    unfold addZ at hz
    rw [Bool.or_eq_true] at hz
    rcases hz with hz | hz
    · rw [beq_iff_eq] at hz; subst hz; exact .inr hi
    · exact .inl ⟨i, hi, hz⟩
  · rintro (⟨i, hi, hz⟩ | h)
    · exact ⟨i, hi, by unfold addZ; rw [hz]; simp⟩
    · exact ⟨j, h, by unfold addZ; simp⟩

theorem fstZ_none : ∀ (ps : List (List Int)), fstZ ps (fun _ => false) = ps.length
  | [] => rfl
  | p :: ps => by
    unfold fstZ
    rw [if_neg (by simp), fstZ_none ps]
    simp only [List.length_cons]; omega

/-- Bytes of which those in Z became zero. -/
def Zd (ps : List (List Int)) (Z : Nat → Bool) (A : List Int) : Prop :=
  A.length = (flatF ps).length + 40 ∧ ∀ j, j < A.length → A.getD j 0 = if Z j then 0 else (flatF ps ++ List.replicate 40 0).getD j 0

theorem Zd.zero (ps : List (List Int)) : Zd ps (fun _ => false) (flatF ps ++ List.replicate 40 0) := ⟨by simp, fun j _ => by simp⟩
theorem Zd.set {ps : List (List Int)} {Z : Nat → Bool} {A : List Int} (h : Zd ps Z A) (j : Nat) : Zd ps (addZ Z j) (A.set j 0) := by
  refine ⟨by rw [List.length_set]; exact h.1, fun i hi => ?_⟩
  rw [List.length_set] at hi
  unfold addZ
  by_cases e : j = i
  · subst e; simp [List.getD, hi]
  · have := h.2 i hi
    rw [show (A.set j 0).getD i 0 = A.getD i 0 by simp [List.getD, e], this]
    simp [show ¬ i = j from fun h => e h.symm]

theorem Zd.byt {ps : List (List Int)} {Z : Nat → Bool} {A : List Int} (h : Zd ps Z A) (hp : ∀ p ∈ ps, Byt p ∧ 0 < p.length ∧ p.length ≤ 2000) : Byt A := by
  intro x hx
  obtain ⟨j, hj, rfl⟩ := List.mem_iff_getElem.1 hx
  have e := h.2 j hj
  have e2 : A.getD j 0 = A[j] := by simp [List.getD, hj]
  rw [← e2, e]
  split
  · omega
  · have hb : Byt (flatF ps ++ List.replicate 40 0) := by
      intro y hy
      rcases List.mem_append.1 hy with hy | hy
      · unfold flatF at hy
        obtain ⟨l, hl, hyl⟩ := List.mem_flatten.1 hy
        obtain ⟨p, hpp, rfl⟩ := List.mem_map.1 hl
        obtain ⟨-, h0, h1⟩ := hp p hpp
        rw [fr_yes h0 h1] at hyl
        have := pk_length p
        rcases List.mem_append.1 hyl with hyl | hyl
        · simp only [List.mem_cons, List.not_mem_nil, or_false] at hyl
          rcases hyl with rfl | rfl <;> omega
        · have := pk_range _ y hyl; omega
      · have := List.eq_of_mem_replicate hy; omega
    have hlj : j < (flatF ps ++ List.replicate 40 0).length := by have := h.1; simp; omega
    have := hb _ (List.getElem_mem hlj)
    simpa only [List.getD, List.getElem?_eq_getElem hlj, Option.getD_some] using this

end Go.Proofs.Ytajnihjdhhmefaa
