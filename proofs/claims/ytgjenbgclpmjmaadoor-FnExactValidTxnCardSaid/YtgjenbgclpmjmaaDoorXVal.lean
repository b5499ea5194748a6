import Derived.Test.YtgjenbgclpmjmaaDoorXEq
import Derived.Test.YtgjenbgclpmjmaaDoorTTree
namespace Go.Proofs.YtgjenbgclpmjmaaDoor
open Go.RowKit

/-- Nothing but a path. -/
def blank (n : Nd) : Bool := (n.data.toList == []) && (n.ver == 0) && (n.cver == 0) && (n.cz == 0) && (n.mz == 0) && (n.pz == 0)
def okEf (e : Ef) : Bool := okNd e.nd && (!e.del || blank e.nd)
theorem okEf_false {e : Ef} (h : e.del = false) : okEf e = okNd e.nd := by unfold okEf; rw [h]; simp
theorem okEf_true {e : Ef} (h : e.del = true) : okEf e = (okNd e.nd && blank e.nd) := by unfold okEf; rw [h]; simp

set_option maxHeartbeats 4000000 in
set_option maxRecDepth 100000 in
theorem validEffect_any (w : World) (n : Ef) (hd : n.nd.data.size ≤ 1048576) :
    Calls Tryd.prog 66 #[.agg #[.bool n.del, .string n.nd.path, .string n.nd.data, .int .i64 n.nd.ver, .int .i64 n.nd.cver, .int .i64 n.nd.cz, .int .i64 n.nd.mz, .int .i64 n.nd.pz]] w fun e w' => e = .returned (.bool (okEf n)) ∧ Below w.heap.size w w' := by
  have B0 : Hid (∀ o, Below w.heap.size w (w.alloc o)) := fun o => (Below.refl _ _).alloc (Nat.le_refl _) _
  cases hdel : n.del with
  | false =>
    have HE : Hid (okEf n = okNd n.nd) := okEf_false hdel
    go_enter Tryd.func66, Tryd.ntmps66
    go_wp2_with fail
    refine (implNode_any _ n.nd hd).mono ?_
    rintro e w1 ⟨rfl, b1⟩
    have B1 : Hid (Below w.heap.size w w1) := (B0.out _).trans (b1.mono (by simp))
    clear b1
    go_wp2
    go_ret
    exact ⟨ret_b HE.out.symm, B1.out⟩
  | true =>
    have HE : Hid (okEf n = (okNd n.nd && blank n.nd)) := okEf_true hdel
    clear hdel
    have hpp : (n.nd.path.toList == n.nd.path.toList) = true := by simp
    cases h_dat : (n.nd.data.toList == []) with
    | false =>
      have HN : Hid (okEf n = false) := by show _ = _; rw [HE.out]; unfold blank; rw [h_dat]; simp
      go_enter Tryd.func66, Tryd.ntmps66
      go_wp2_with fail
      go_ret
      exact ⟨ret_b HN.out.symm, B0.out _⟩
    | true =>
      cases h_ver : (n.nd.ver == 0) with
      | false =>
        have HN : Hid (okEf n = false) := by show _ = _; rw [HE.out]; unfold blank; rw [h_ver]; simp
        go_enter Tryd.func66, Tryd.ntmps66
        go_wp2_with fail
        go_ret
        exact ⟨ret_b HN.out.symm, B0.out _⟩
      | true =>
        cases h_cver : (n.nd.cver == 0) with
        | false =>
          have HN : Hid (okEf n = false) := by show _ = _; rw [HE.out]; unfold blank; rw [h_cver]; simp
          go_enter Tryd.func66, Tryd.ntmps66
          go_wp2_with fail
          go_ret
          exact ⟨ret_b HN.out.symm, B0.out _⟩
        | true =>
          cases h_cz : (n.nd.cz == 0) with
          | false =>
            have HN : Hid (okEf n = false) := by show _ = _; rw [HE.out]; unfold blank; rw [h_cz]; simp
            go_enter Tryd.func66, Tryd.ntmps66
            go_wp2_with fail
            go_ret
            exact ⟨ret_b HN.out.symm, B0.out _⟩
          | true =>
            cases h_mz : (n.nd.mz == 0) with
            | false =>
              have HN : Hid (okEf n = false) := by show _ = _; rw [HE.out]; unfold blank; rw [h_mz]; simp
              go_enter Tryd.func66, Tryd.ntmps66
              go_wp2_with fail
              go_ret
              exact ⟨ret_b HN.out.symm, B0.out _⟩
            | true =>
              cases h_pz : (n.nd.pz == 0) with
              | false =>
                have HN : Hid (okEf n = false) := by show _ = _; rw [HE.out]; unfold blank; rw [h_pz]; simp
                go_enter Tryd.func66, Tryd.ntmps66
                go_wp2_with fail
                go_ret
                exact ⟨ret_b HN.out.symm, B0.out _⟩
              | true =>
                have HY : Hid (okEf n = okNd n.nd) := by show _ = _; rw [HE.out]; unfold blank; rw [h_dat, h_ver, h_cver, h_cz, h_mz, h_pz]; simp
                go_enter Tryd.func66, Tryd.ntmps66
                go_wp2_with fail
                refine (implNode_any _ n.nd hd).mono ?_
                rintro e w1 ⟨rfl, b1⟩
                have B1 : Hid (Below w.heap.size w w1) := (B0.out _).trans (b1.mono (by simp))
                clear b1
                go_wp2
                go_ret
                exact ⟨ret_b HY.out.symm, B1.out⟩

end Go.Proofs.YtgjenbgclpmjmaaDoor
