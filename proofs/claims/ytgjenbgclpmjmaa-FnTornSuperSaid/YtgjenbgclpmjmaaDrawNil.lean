import Derived.Test.YtgjenbgclpmjmaaDrawNext
namespace Go.Proofs.Ytgjenbgclpmjmaa
open Go.RowKit

set_option maxHeartbeats 400000 in
set_option maxRecDepth 100000 in
theorem source_nil (w : World) (ao : Option Addr) (cap : Nat) :
    Calls Try.prog 26 #[.slice ao 0 cap] w fun e w' => ∃ k, e = .returned (.pointer (some ⟨k, 0, none⟩)) ∧ w.heap.size ≤ k ∧ SRC w' k w'.heap.size ∧ Below w.heap.size w w' := by
  go_enter Try.func26, Try.ntmps26
  go_wp2
  go_rounds 1
  go_rounds 1
  go_ret
  refine ⟨_, rfl, Nat.le_refl _, ⟨by simp, fun j => (by go_simp), none, 0, 0, 0, 53, 1, (by go_simp), (by go_simp), (by go_simp), (by go_simp), by omega, by omega, by omega, .inl rfl⟩, ?_⟩
  repeat (first | exact Below.refl _ _ | refine Below.setCell ?_ (by simp) _ | refine Below.alloc ?_ (by simp) _)

end Go.Proofs.Ytgjenbgclpmjmaa
