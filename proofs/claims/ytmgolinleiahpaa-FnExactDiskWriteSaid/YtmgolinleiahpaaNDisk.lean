import Derived.Test.YtmgolinleiahpaaPay
namespace Go.Proofs.Ytmgolinleiahpaa
open Go.RowKit

theorem box2_later {w w1 : World} {x y : Value} {t : TypeId} (hb : Below (w.alloc (.cells #[x, y] t)).heap.size (w.alloc (.cells #[x, y] t)) w1) :
    w1.cell? ⟨w.heap.size, 0, none⟩ = some x ∧ w1.cell? ⟨w.heap.size, 1, none⟩ = some y ∧ w1.frozen? ⟨w.heap.size, 0, none⟩ = false ∧ w1.frozen? ⟨w.heap.size, 1, none⟩ = false ∧ w.heap.size < w1.heap.size := by
  obtain ⟨hc, hf⟩ := bcell hb
  have hs := hb.size
  simp at hs
  refine ⟨?_, ?_, ?_, ?_, by omega⟩
  · rw [hc _ _ (by simp)]; simp
  · rw [hc _ _ (by simp)]; simp
  · rw [hf _ _ (by simp)]; simp
  · rw [hf _ _ (by simp)]; simp


set_option maxHeartbeats 400000 in
theorem eqWriteS_nil (w : World) (ao bo : Option Addr) (ca cb : Nat) :
    Calls Try.prog 62 #[.slice ao 0 ca, .slice bo 0 cb] w fun e w' => e = .returned (.bool true) ∧ w' = w := by
  go_enter Try.func62, Try.ntmps62
  go_wp2
  go_rounds 1
  go_ret
  exact ⟨rfl, rfl⟩

set_option maxHeartbeats 400000 in
theorem markWriteS_nil (w : World) (ao : Option Addr) (ca : Nat) (k : Int) :
    Calls Try.prog 63 #[.slice ao 0 ca, .int .i64 k] w fun e w' => e = .returned (.int .i64 k) ∧ w' = w := by
  go_enter Try.func63, Try.ntmps63
  go_wp2
  go_rounds 1
  go_ret
  exact ⟨rfl, rfl⟩

set_option maxHeartbeats 400000 in
theorem heldWriteS_nil (w : World) (ao : Option Addr) (ca : Nat) (k : Int) :
    Calls Try.prog 64 #[.slice ao 0 ca, .int .i64 k] w fun e w' => e = .returned (.int .i64 k) ∧ w' = w := by
  go_enter Try.func64, Try.ntmps64
  go_wp2
  go_rounds 1
  go_ret
  exact ⟨rfl, rfl⟩

end Go.Proofs.Ytmgolinleiahpaa
