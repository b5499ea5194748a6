import Derived.Test.YtgjenbgclpmjmaaReader
import Derived.Defers
import Derived.Recover
namespace Go.Proofs.Ytgjenbgclpmjmaa
open Go.RowKit

theorem assert_bad (W : World) (v : Value) : (Instr.typeAssert (.iface 76 v) 20 76 true).run Try.prog W = .ok (.tuple #[v, .bool true]) W := by kernel_rfl

set_option maxHeartbeats 400000 in
theorem end_nil (w : World) : Calls Try.prog 32 #[.nilIface] w fun e w' => e = .returned (.tuple #[]) ∧ w' = w := by
  go_enter Try.func32, Try.ntmps32
  go_wp2
  exact bodyPost_ret (results_none rfl _ _ _) rfl ⟨rfl, rfl⟩

set_option maxHeartbeats 400000 in
theorem end_bad (w : World) : Calls Try.prog 32 #[.iface 76 (.agg #[])] w fun e w' => e = .returned (.tuple #[]) ∧ Below w.heap.size w w' := by
  have ha : ∀ (W : World) (v : Value), (Instr.typeAssert (.iface 76 v) 20 76 true).run Try.prog W = .ok (.tuple #[v, .bool true]) W := fun W v => assert_bad W v
  go_enter Try.func32, Try.ntmps32
  go_wp2
  go_end0
  exact ⟨rfl, (Below.refl _ _).alloc (Nat.le_refl _) _⟩

theorem catch_bad (older : List PanicEntry) (w : World) :
    CallsD Try.prog 31 #[] (.panicking ({ v := .iface 76 (.agg #[]), recovered := false } :: older)) w fun e u' w' =>
      e = .returned (.tuple #[]) ∧ u' = .panicking ({ v := .iface 76 (.agg #[]), recovered := true } :: older) ∧ Below w.heap.size w w' := by
  refine callsD_of_wpS Try.func31 rfl fun c₀ cs hu => ?_
  apply wpS_region
  simp [wpOpsS, go_sem, recoverD, hu, Try.ntmps31]
  refine (end_bad w).mono ?_
  rintro e w' ⟨rfl, bw⟩
  simp_all [bodyPostS, results, Try.results31]

theorem catch_idle (w : World) :
    CallsD Try.prog 31 #[] .returning w fun e u' w' => e = .returned (.tuple #[]) ∧ u' = .returning ∧ w' = w := by
  refine callsD_of_wpS Try.func31 rfl fun c₀ cs hu => ?_
  apply wpS_region
  simp [wpOpsS, go_sem, recoverD, hu, Try.ntmps31]
  refine (end_nil w).mono ?_
  rintro e w' ⟨rfl, rfl⟩
  cases c₀
  simp_all [bodyPostS, results, Try.results31]

end Go.Proofs.Ytgjenbgclpmjmaa
