import Derived.Test.YtgjenbgclpmjmaaImplSuper
namespace Go.Proofs.Ytgjenbgclpmjmaa
open Go.RowKit

set_option maxHeartbeats 1000000 in
set_option maxRecDepth 100000 in
theorem specOk_any (w : World) (g b s l c : Int) :
    Calls Try.prog 29 #[.agg #[.int .i64 g, .int .i64 b, .int .i64 s, .int .i64 l, .int .i64 c]] w fun e w' => e = .returned (.bool (supOk g b s l c)) ∧ Below w.heap.size w w' := by
  go_enter Try.func29, Try.ntmps29
  go_wp2
  all_goals
    go_ret
    refine ⟨ret_bool ?_, (Below.refl _ _).alloc (Nat.le_refl _) _⟩
    unfold supOk
    rw [Bool.eq_iff_iff]
    simp only [Bool.and_eq_true, Bool.or_eq_true, decide_eq_true_eq, Bool.false_eq_true, false_iff]
    omega

end Go.Proofs.Ytgjenbgclpmjmaa
