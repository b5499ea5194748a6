import Derived.Test.YtplfpfnedgjidaaUnpack
import Derived.Test.YtplfpfnedgjidaaLPack
namespace Go.Proofs.Ytplfpfnedgjidaa
open Go.RowKit

set_option maxHeartbeats 400000 in
theorem eqPayload_any (w : World) (va vb : Value) (xs ys : List Int) (ha : Rd .u8 w va xs) (hb : Rd .u8 w vb ys) :
    Calls Try.prog 32 #[.agg #[va], .agg #[vb]] w fun e w' => e = .returned (.bool (decide (xs = ys))) ∧ Below w.heap.size w w' := by
  have B0 : Hid (Below w.heap.size w ((w.alloc (.cells #[va] 32)).alloc (.cells #[vb] 32))) := ((Below.refl _ _).alloc (Nat.le_refl _) _).alloc (by simp) _
  have RA : Hid (Rd .u8 ((w.alloc (.cells #[va] 32)).alloc (.cells #[vb] 32)) va xs) := ha.below B0.out
  have RB : Hid (Rd .u8 ((w.alloc (.cells #[va] 32)).alloc (.cells #[vb] 32)) vb ys) := hb.below B0.out
  clear ha hb
  go_enter Try.func32, Try.ntmps32
  go_wp2_with fail
  refine (eqByteS_any _ _ _ xs ys RA.out RB.out).mono ?_
  rintro e w1 ⟨rfl, q1, rfl⟩
  have BE : Hid (Below w.heap.size w (((w.alloc (.cells #[va] 32)).alloc (.cells #[vb] 32)).drewN q1)) := B0.out.trans ((below_drewN' _ q1).mono (by simp; omega))
  by_cases h : xs = ys
  · have hd : decide (xs = ys) = true := by simp [h]
    rw [hd]
    clear h
    go_wp2
    go_ret
    exact ⟨ret_bool hd.symm, BE.out⟩
  · have hd : decide (xs = ys) = false := by simp [h]
    rw [hd]
    clear h
    go_wp2
    go_ret
    exact ⟨ret_bool hd.symm, BE.out⟩

set_option maxHeartbeats 400000 in
theorem markPayload_any (w : World) (base : Nat) (v : Value) (xs : List Int) (k : Int) (hown : Own .u8 5 w base v xs) (hk0 : 0 ≤ k) (hk1 : k ≤ 1099511627776) (hn : xs.length ≤ 1099511627776) :
    Calls Try.prog 33 #[.agg #[v], .int .i64 k] w fun e w' => e = .returned (.int .i64 (k + xs.length)) ∧ Own .u8 5 w' base v (marks k xs.length) ∧ w.grownBy w' v.ownBlock := by
  have HO : Hid (Own .u8 5 (w.alloc (.cells #[v] 32)) base v xs) := World.ownsRow.alloc hown _
  clear hown
  go_enter Try.func33, Try.ntmps33
  go_wp2_with fail
  refine (markByteS_any _ base _ xs k HO.out hk0 hk1 hn).mono ?_
  rintro e w1 ⟨rfl, o1, g1⟩
  have O1 : Hid (Own .u8 5 w1 base v (marks k xs.length)) := o1
  have G1 : Hid (w.grownBy w1 v.ownBlock) := ⟨g1.os, g1.tape, g1.output, by have := g1.size; simp at this; omega, fun j hj hne => (g1.block j (by simp; omega) hne).trans (Below.heap_alloc _ _ _ hj)⟩
  clear o1 g1
  go_wp2
  go_ret
  exact ⟨rfl, O1.out, G1.out⟩

set_option maxHeartbeats 400000 in
theorem heldPayload_any (w : World) (v : Value) (n : Nat) (k : Int) (h : Rd .u8 w v (marks k n)) (hk0 : 0 ≤ k) (hk1 : k ≤ 1099511627776) (hn : n ≤ 1099511627776) :
    Calls Try.prog 34 #[.agg #[v], .int .i64 k] w fun e w' => e = .returned (.int .i64 (k + n)) ∧ Below w.heap.size w w' := by
  have HR : Hid (Rd .u8 (w.alloc (.cells #[v] 32)) v (marks k n)) := h.below ((Below.refl _ _).alloc (Nat.le_refl _) _)
  clear h
  go_enter Try.func34, Try.ntmps34
  go_wp2_with fail
  refine (heldByteS_any _ _ n k HR.out hk0 hk1 hn).mono ?_
  rintro e w1 ⟨rfl, hw⟩
  subst hw
  have h0 : ¬ (k + (n : Int)) < 0 := by omega
  go_wp2
  go_ret
  exact ⟨rfl, (Below.refl _ _).alloc (Nat.le_refl _) _⟩

/-- A local struct of one cell. -/
def Box (w : World) (b : Nat) (v : Value) : Prop := b < w.heap.size ∧ w.cell? ⟨b, 0, none⟩ = some v
theorem Box.below {w w' : World} {b : Nat} {v : Value} (h : Box w b v) (hb : Below w.heap.size w w') : Box w' b v :=
  ⟨Nat.lt_of_lt_of_le h.1 hb.size, (hb.cell (p := ⟨b, 0, none⟩) h.1).trans h.2⟩
theorem Box.other {w w' : World} {b : Nat} {v : Value} {row : Option Nat} (h : Box w b v) (hg : w.grownBy w' row) (hne : some b ≠ row) : Box w' b v :=
  ⟨Nat.lt_of_lt_of_le h.1 hg.size, hg.cell h.2 hne⟩
theorem Box.new (w : World) (v : Value) (t : TypeId) : Box (w.alloc (.cells #[v] t)) w.heap.size v := ⟨by simp, by simp⟩
theorem Box.drewN {w : World} {b : Nat} {v : Value} (h : Box w b v) (n : Nat) : Box (w.drewN n) b v := h

/-- A block made behind a row is not that row; nor one made ahead of it. -/
theorem own_box {k : IntKind} {e : TypeId} {w : World} {B b : Nat} {v : Value} {xs : List Int} (h : Own k e w B v xs) (hb : w.heap.size ≤ b) : some b ≠ v.ownBlock := by
  intro e; have := (h.lt b e.symm).2; omega
theorem box_own {k : IntKind} {e : TypeId} {w : World} {B b : Nat} {v : Value} {xs : List Int} (h : Own k e w B v xs) (hb : b < B) : some b ≠ v.ownBlock := by
  intro e; have := (h.lt b e.symm).1; omega

end Go.Proofs.Ytplfpfnedgjidaa
