import Derived.Test.YtajnihjdhhmefaaPay
namespace Go.Proofs.Ytajnihjdhhmefaa
open Go.RowKit

def frm_m (a : List Int) : Nat := (a.getD 0 0).toNat % 128 * 128 + (a.getD 1 0).toNat % 128
def frm_p (a : List Int) : List Int := unp ((a.drop 2).take (frm_m a))
def frm_ok (a : List Int) : Prop := 2 ≤ a.length ∧ 128 ≤ a.getD 0 0 ∧ 128 ≤ a.getD 1 0 ∧ 2 + frm_m a ≤ a.length ∧ frm_p a ≠ [] ∧ (frm_p a).length ≤ 2000
/-- Is there a record at the beginning of the bytes? -/
def frmB (a : List Int) : Bool := decide (2 ≤ a.length) && decide (128 ≤ a.getD 0 0) && decide (128 ≤ a.getD 1 0) && decide (2 + frm_m a ≤ a.length) && decide (frm_p a ≠ []) && decide ((frm_p a).length ≤ 2000)
theorem frmB_iff (a : List Int) : frmB a = true ↔ frm_ok a := by
  unfold frmB frm_ok
  simp only [Bool.and_eq_true, decide_eq_true_eq, and_assoc]
theorem frmB_no {a : List Int} (h : ¬ frm_ok a) : frmB a = false := by
  cases e : frmB a with
  | false => rfl
  | true => exact absurd ((frmB_iff a).1 e) h

/-- The records one behind the other, and how many bytes each takes. -/
def scn : Nat → List Int → List (List Int × Nat)
  | 0, _ => []
  | f + 1, a => if frmB a then (frm_p a, 2 + frm_m a) :: scn f (a.drop (2 + frm_m a)) else []

def pos (R : List (List Int × Nat)) (k : Nat) : Nat := ((R.take k).map (·.2)).sum
theorem pos_zero (R : List (List Int × Nat)) : pos R 0 = 0 := by simp [pos]
theorem pos_cons (r : List Int × Nat) (R : List (List Int × Nat)) (k : Nat) : pos (r :: R) (k + 1) = r.2 + pos R k := by simp [pos]

theorem scn_all : ∀ (f : Nat) (a : List Int), a.length ≤ f →
    (∀ k, k < (scn f a).length → frmB (a.drop (pos (scn f a) k)) = true ∧ (scn f a).getD k ([], 0) = (frm_p (a.drop (pos (scn f a) k)), 2 + frm_m (a.drop (pos (scn f a) k)))) ∧
    frmB (a.drop (pos (scn f a) (scn f a).length)) = false ∧ (∀ k, k ≤ (scn f a).length → pos (scn f a) k ≤ a.length)
  | 0, a, h => by
    have : a = [] := List.eq_nil_of_length_eq_zero (by omega)
    subst this
    exact ⟨fun k hk => by simp [scn] at hk, by rfl, fun k hk => by simp [scn] at hk; subst hk; simp [pos]⟩
  | f + 1, a, h => by
    cases e : frmB a with
    | false =>
      have hs : scn (f + 1) a = [] := by unfold scn; rw [e]; simp
      rw [hs]
      exact ⟨fun k hk => by simp at hk, by simpa [pos] using e, fun k hk => by simp at hk; subst hk; simp [pos]⟩
    | true =>
      have hs : scn (f + 1) a = (frm_p a, 2 + frm_m a) :: scn f (a.drop (2 + frm_m a)) := by
        conv => lhs; unfold scn
        rw [e]; simp
      obtain ⟨k1, k2, k3, k4, -⟩ := (frmB_iff a).1 e
      obtain ⟨i1, i2, i3⟩ := scn_all f (a.drop (2 + frm_m a)) (by rw [List.length_drop]; omega)
      rw [hs]
      refine ⟨fun k hk => ?_, ?_, fun k hk => ?_⟩
      · cases k with
        | zero => rw [pos_zero, List.drop_zero]; exact ⟨e, rfl⟩
        | succ k =>
          have := i1 k (by simpa using hk)
          rw [pos_cons, ← List.drop_drop]
          exact this
      · rw [List.length_cons, pos_cons, ← List.drop_drop]; exact i2
      · cases k with
        | zero => rw [pos_zero]; exact Nat.zero_le _
        | succ k =>
          have := i3 k (by simpa using hk)
          rw [List.length_drop] at this
          rw [pos_cons]
          show 2 + frm_m a + _ ≤ _
          omega

theorem pos_succ (R : List (List Int × Nat)) (k : Nat) (h : k < R.length) : pos R (k + 1) = pos R k + (R.getD k ([], 0)).2 := by
  unfold pos
  rw [List.take_succ_eq_append_getElem h, List.map_append, List.sum_append]
  simp [List.getD, h]

theorem unp_nil : unp [] = [] := by rfl

end Go.Proofs.Ytajnihjdhhmefaa
