import Derived.Test.YtfmjalbiimhdhaaDoorReader
import Derived.Defers
import Derived.Recover
namespace Go.Proofs.YtfmjalbiimhdhaaDoor
open Go.RowKit

theorem assert_bad (W : World) (v : Value) : (Instr.typeAssert (.iface 129 v) 20 129 true).run Tryd.prog W = .ok (.tuple #[v, .bool true]) W := by kernel_rfl

set_option maxHeartbeats 400000 in
theorem end_nil (w : World) : Calls Tryd.prog 64 #[.nilIface] w fun e w' => e = .returned (.tuple #[]) ∧ w' = w := by
  go_enter Tryd.func64, Tryd.ntmps64
  go_wp2
  exact bodyPost_ret (results_none rfl _ _ _) rfl ⟨rfl, rfl⟩

set_option maxHeartbeats 400000 in
theorem end_bad (w : World) : Calls Tryd.prog 64 #[.iface 129 (.agg #[])] w fun e w' => e = .returned (.tuple #[]) ∧ Below w.heap.size w w' := by
  have ha : ∀ (W : World) (v : Value), (Instr.typeAssert (.iface 129 v) 20 129 true).run Tryd.prog W = .ok (.tuple #[v, .bool true]) W := fun W v => assert_bad W v
  go_enter Tryd.func64, Tryd.ntmps64
  go_wp2
  go_end0
  exact ⟨rfl, (Below.refl _ _).alloc (Nat.le_refl _) _⟩

theorem catchT_bad (older : List PanicEntry) (w : World) :
    CallsD Tryd.prog 70 #[] (.panicking ({ v := .iface 129 (.agg #[]), recovered := false } :: older)) w fun e u' w' =>
      e = .returned (.tuple #[]) ∧ u' = .panicking ({ v := .iface 129 (.agg #[]), recovered := true } :: older) ∧ Below w.heap.size w w' := by
  refine callsD_of_wpS Tryd.func70 rfl fun c₀ cs hu => ?_
  apply wpS_region
  simp [wpOpsS, go_sem, recoverD, hu, Tryd.ntmps70]
  refine (end_bad w).mono ?_
  rintro e w' ⟨rfl, bw⟩
  simp_all [bodyPostS, results, Tryd.results70]
theorem catchT_idle (w : World) :
    CallsD Tryd.prog 70 #[] .returning w fun e u' w' => e = .returned (.tuple #[]) ∧ u' = .returning ∧ w' = w := by
  refine callsD_of_wpS Tryd.func70 rfl fun c₀ cs hu => ?_
  apply wpS_region
  simp [wpOpsS, go_sem, recoverD, hu, Tryd.ntmps70]
  refine (end_nil w).mono ?_
  rintro e w' ⟨rfl, rfl⟩
  cases c₀
  simp_all [bodyPostS, results, Tryd.results70]

theorem catchX_bad (older : List PanicEntry) (w : World) :
    CallsD Tryd.prog 63 #[] (.panicking ({ v := .iface 129 (.agg #[]), recovered := false } :: older)) w fun e u' w' =>
      e = .returned (.tuple #[]) ∧ u' = .panicking ({ v := .iface 129 (.agg #[]), recovered := true } :: older) ∧ Below w.heap.size w w' := by
  refine callsD_of_wpS Tryd.func63 rfl fun c₀ cs hu => ?_
  apply wpS_region
  simp [wpOpsS, go_sem, recoverD, hu, Tryd.ntmps63]
  refine (end_bad w).mono ?_
  rintro e w' ⟨rfl, bw⟩
  simp_all [bodyPostS, results, Tryd.results63]
theorem catchX_idle (w : World) :
    CallsD Tryd.prog 63 #[] .returning w fun e u' w' => e = .returned (.tuple #[]) ∧ u' = .returning ∧ w' = w := by
  refine callsD_of_wpS Tryd.func63 rfl fun c₀ cs hu => ?_
  apply wpS_region
  simp [wpOpsS, go_sem, recoverD, hu, Tryd.ntmps63]
  refine (end_nil w).mono ?_
  rintro e w' ⟨rfl, rfl⟩
  cases c₀
  simp_all [bodyPostS, results, Tryd.results63]

end Go.Proofs.YtfmjalbiimhdhaaDoor
