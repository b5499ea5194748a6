import Derived.Test.YtajnihjdhhmefaaPay
namespace Go.Proofs.Ytajnihjdhhmefaa
open Go.RowKit

def zeros (n : Nat) : List Int := List.replicate n 0
theorem zeros_len (n : Nat) : (zeros n).length = n := by simp [zeros]

/-- How many bytes a new disk has. -/
def ndl (k : Int) : Nat := if 1 ≤ k ∧ k ≤ 300 then k.toNat * 64 else 0

theorem box2_later {w w1 : World} {x y : Value} {t : TypeId} (hb : Below (w.alloc (.cells #[x, y] t)).heap.size (w.alloc (.cells #[x, y] t)) w1) :
    w1.cell? ⟨w.heap.size, 0, none⟩ = some x ∧ w1.cell? ⟨w.heap.size, 1, none⟩ = some y ∧ w1.frozen? ⟨w.heap.size, 0, none⟩ = false ∧ w1.frozen? ⟨w.heap.size, 1, none⟩ = false ∧ w.heap.size < w1.heap.size := by
  obtain ⟨hc, hf⟩ := bcell hb
  have hs := hb.size
  simp at hs
  refine ⟨?_, ?_, ?_, ?_, by omega⟩
  · rw [hc _ _ (by simp)]; simp
  · rw [hc _ _ (by simp)]; simp
  · rw [hf _ _ (by simp)]; simp
  · rw [hf _ _ (by simp)]; simp



set_option maxHeartbeats 400000 in
theorem eqWriteS_nil (w : World) (ao bo : Option Addr) (ca cb : Nat) :
    Calls Try.prog 56 #[.slice ao 0 ca, .slice bo 0 cb] w fun e w' => e = .returned (.bool true) ∧ w' = w := by
  go_enter Try.func56, Try.ntmps56
  go_wp2
  go_rounds 1
  go_ret
  exact ⟨rfl, rfl⟩

set_option maxHeartbeats 400000 in
theorem markWriteS_nil (w : World) (ao : Option Addr) (ca : Nat) (k : Int) :
    Calls Try.prog 57 #[.slice ao 0 ca, .int .i64 k] w fun e w' => e = .returned (.int .i64 k) ∧ w' = w := by
  go_enter Try.func57, Try.ntmps57
  go_wp2
  go_rounds 1
  go_ret
  exact ⟨rfl, rfl⟩

set_option maxHeartbeats 400000 in
theorem heldWriteS_nil (w : World) (ao : Option Addr) (ca : Nat) (k : Int) :
    Calls Try.prog 61 #[.slice ao 0 ca, .int .i64 k] w fun e w' => e = .returned (.int .i64 k) ∧ w' = w := by
  go_enter Try.func61, Try.ntmps61
  go_wp2
  go_rounds 1
  go_ret
  exact ⟨rfl, rfl⟩

set_option maxHeartbeats 400000 in
theorem eqDisk_nil (w : World) (va vb : Value) (xs ys : List Int) (ao bo : Option Addr) (ca cb : Nat) (ha : Rd .u8 w va xs) (hb : Rd .u8 w vb ys) :
    Calls Try.prog 26 #[.agg #[va, .slice ao 0 ca], .agg #[vb, .slice bo 0 cb]] w fun e w' => e = .returned (.bool (decide (xs = ys))) ∧ Below w.heap.size w w' := by
  have B0 : Hid (Below w.heap.size w ((w.alloc (.cells #[va, .slice ao 0 ca] 45)).alloc (.cells #[vb, .slice bo 0 cb] 45))) := ((Below.refl _ _).alloc (Nat.le_refl _) _).alloc (by simp) _
  have RA : Hid (Rd .u8 ((w.alloc (.cells #[va, .slice ao 0 ca] 45)).alloc (.cells #[vb, .slice bo 0 cb] 45)) va xs) := ha.below B0.out
  have RB : Hid (Rd .u8 ((w.alloc (.cells #[va, .slice ao 0 ca] 45)).alloc (.cells #[vb, .slice bo 0 cb] 45)) vb ys) := hb.below B0.out
  clear ha hb
  go_enter Try.func26, Try.ntmps26
  go_wp2_with fail
  refine (eqByteS_any _ _ _ xs ys RA.out RB.out).mono ?_
  rintro e w1 ⟨rfl, q1, rfl⟩
  have BE : Hid (Below w.heap.size w (((w.alloc (.cells #[va, .slice ao 0 ca] 45)).alloc (.cells #[vb, .slice bo 0 cb] 45)).drewN q1)) := B0.out.trans ((below_drewN' _ q1).mono (by simp; omega))
  by_cases h : xs = ys
  · have hd : decide (xs = ys) = true := by simp [h]
    rw [hd]
    clear h
    go_wp2_with fail
    refine (eqWriteS_nil _ _ _ _ _).mono ?_
    rintro e w2 ⟨rfl, hw⟩
    subst hw
    go_wp2
    go_ret
    exact ⟨ret_bool hd.symm, BE.out⟩
  · have hd : decide (xs = ys) = false := by simp [h]
    rw [hd]
    clear h
    go_wp2
    go_ret
    exact ⟨ret_bool hd.symm, BE.out⟩

set_option maxHeartbeats 400000 in
theorem markDisk_nil (w : World) (base : Nat) (v : Value) (xs : List Int) (ao : Option Addr) (ca : Nat) (k : Int) (hown : Own .u8 5 w base v xs) (hk0 : 0 ≤ k) (hk1 : k ≤ 1099511627776) (hn : xs.length ≤ 1099511627776) :
    Calls Try.prog 27 #[.agg #[v, .slice ao 0 ca], .int .i64 k] w fun e w' => e = .returned (.int .i64 (k + xs.length)) ∧ Own .u8 5 w' base v (marks k xs.length) ∧ w.grownBy w' v.ownBlock := by
  have HO : Hid (Own .u8 5 (w.alloc (.cells #[v, .slice ao 0 ca] 45)) base v xs) := World.ownsRow.alloc hown _
  have NB : Hid (some w.heap.size ≠ v.ownBlock) := own_box hown (Nat.le_refl _)
  clear hown
  go_enter Try.func27, Try.ntmps27
  go_wp2_with fail
  refine (markByteS_any _ base _ xs k HO.out hk0 hk1 hn).mono ?_
  rintro e w1 ⟨rfl, o1, g1⟩
  have O1 : Hid (Own .u8 5 w1 base v (marks k xs.length)) := o1
  have G1 : Hid (w.grownBy w1 v.ownBlock) := ⟨g1.os, g1.tape, g1.output, by have := g1.size; simp at this; omega, fun j hj hne => (g1.block j (by simp; omega) hne).trans (Below.heap_alloc _ _ _ hj)⟩
  have c1 : w1.cell? ⟨w.heap.size, 1, none⟩ = some (.slice ao 0 ca) := g1.cell (a := ⟨w.heap.size, 1, none⟩) (by simp) NB.out
  clear o1 g1
  go_wp2_with fail
  refine (markWriteS_nil _ _ _ _).mono ?_
  rintro e w2 ⟨rfl, hw⟩
  subst hw
  go_wp2
  go_ret
  exact ⟨rfl, O1.out, G1.out⟩

set_option maxHeartbeats 400000 in
theorem heldDisk_nil (w : World) (v : Value) (n : Nat) (ao : Option Addr) (ca : Nat) (k : Int) (h : Rd .u8 w v (marks k n)) (hk0 : 0 ≤ k) (hk1 : k ≤ 1099511627776) (hn : n ≤ 1099511627776) :
    Calls Try.prog 30 #[.agg #[v, .slice ao 0 ca], .int .i64 k] w fun e w' => e = .returned (.int .i64 (k + n)) ∧ Below w.heap.size w w' := by
  have HR : Hid (Rd .u8 (w.alloc (.cells #[v, .slice ao 0 ca] 45)) v (marks k n)) := h.below ((Below.refl _ _).alloc (Nat.le_refl _) _)
  clear h
  go_enter Try.func30, Try.ntmps30
  go_wp2_with fail
  refine (heldByteS_any _ _ n k HR.out hk0 hk1 hn).mono ?_
  rintro e w1 ⟨rfl, hw⟩
  subst hw
  have h0 : ¬ (k + (n : Int)) < 0 := by omega
  go_wp2_with fail
  refine (heldWriteS_nil _ _ _ _).mono ?_
  rintro e w2 ⟨rfl, hw⟩
  subst hw
  go_wp2
  go_ret
  exact ⟨rfl, (Below.refl _ _).alloc (Nat.le_refl _) _⟩

end Go.Proofs.Ytajnihjdhhmefaa
