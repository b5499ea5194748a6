import Derived.Test.YtdiingonnddkcaaGreatDoorJ11
import Derived.Deep.QuietTactic
import Derived.Deep.RegionHeld3
namespace Go.Proofs.YtdiingonnddkcaaGreatDoor
open Go.RowKit Go.Shelf

set_option maxHeartbeats 2000000 in
set_option maxRecDepth 100000 in
theorem l3Do_check (w : World) (v : Value) (ns : List Nd) (o : Op5) (z : Int) (h : RdN w v ns) (hn : ns.length ≤ 1000) (hp : o.path.size ≤ 1048576) (hd : o.data.size ≤ 1048576) (hw : wfO o = true) (hk : o.kind = 4) :
    Calls Tryz.prog 32 #[v, .agg #[.int .i64 o.kind, .string o.path, .string o.data, .int .i64 o.ver, .bool o.seq], .int .i64 z] w fun e w' => DoPost w v ns o z e w' := by
  obtain ⟨ao, ca, rfl, _, _⟩ := h.len
  have HR : Hid (RdN w (.slice ao ns.length ca) ns) := h
  have HW : Hid (wfO o = true) := hw
  have hk1 : (o.kind == 1) = false := by simp [hk]
  have hk2 : (o.kind == 2) = false := by simp [hk]
  have hk3 : (o.kind == 3) = false := by simp [hk]
  have HD : Hid (doO ns o z = if ¬ ns.findIdx (isP o.path) < ns.length then (2, ns, ⟨#[]⟩)
    else if o.ver ≠ -1 ∧ o.ver ≠ (nAt ns (ns.findIdx (isP o.path))).ver then (4, ns, ⟨#[]⟩)
    else (0, ns, o.path)) := by
    show _ = _
    unfold doO
    rw [hw, if_neg (by simp), if_neg (by omega), if_neg (show ¬ o.kind = 2 by omega), if_neg (show ¬ o.kind = 3 by omega)]
  have B0 : Hid (Below w.heap.size w (w.alloc (.cells #[.int .i64 o.kind, .string o.path, .string o.data, .int .i64 o.ver, .bool o.seq] 40))) := (Below.refl _ _).alloc (Nat.le_refl _) _
  have X0 : Hid (BoxO (w.alloc (.cells #[.int .i64 o.kind, .string o.path, .string o.data, .int .i64 o.ver, .bool o.seq] 40)) w.heap.size o) := BoxO.new _ _ _
  clear h hw hk
  go_enter Tryz.func32, Tryz.ntmps32
  go_wp2_with fail
  generalize w.alloc (.cells #[.int .i64 o.kind, .string o.path, .string o.data, .int .i64 o.ver, .bool o.seq] 40) = w0 at *
  refine (l3Well_any _ o hp hd).mono ?_
  rintro e w1 ⟨rfl, b1⟩
  rw [HW.out]
  have B1 : Hid (Below w.heap.size w w1) := B0.out.trans (b1.mono B0.out.size)
  have X1 : Hid (BoxO w1 w.heap.size o) := X0.out.below b1
  clear b1 B0 X0
  obtain ⟨xl, c0, c1, c2, c3, c4⟩ := X1.out
  go_wp2_with fail
  clear xl c0 c1 c2 c3 c4
  refine (l3Find_any w1 _ ns o.path (HR.out.below B1.out) (by omega)).mono ?_
  rintro e w3 ⟨rfl, rfl⟩
  by_cases hf : ns.findIdx (isP o.path) < ns.length
  rotate_left
  · rw [if_pos hf] at HD
    rw [show fdV ns o.path = -1 by unfold fdV; rw [if_neg hf]]
    clear hf
    go_wp2
    exact bodyPost_ret (v := .tuple #[.int .i64 2, .slice ao ns.length ca, .string ⟨#[]⟩]) (by simp [results, Tryz.results32, go_sem]) rfl ⟨_, by rw [HD.out], by rw [HD.out]; exact HR.out.below B1.out, .inl rfl, B1.out⟩
  rw [if_neg (by simpa using hf)] at HD
  rw [show fdV ns o.path = ((ns.findIdx (isP o.path) : Nat) : Int) by unfold fdV; rw [if_pos hf]]
  generalize ns.findIdx (isP o.path) = k at *
  have hI : ¬ (k : Int) < 0 := by omega
  have hkI : (k : Int) < (ns.length : Int) := by omega
  obtain ⟨b, oo, hao, hb, hc⟩ : ∃ b o, ao = some ⟨b, o, none⟩ ∧ b < w.heap.size ∧ CellsN w b (o + k * 7) (nAt ns k) := by
    obtain ⟨ao', cap', e', -, -, h3⟩ := HR.out
    simp only [Value.slice.injEq] at e'
    obtain ⟨rfl, -, -⟩ := e'
    rcases h3 with h3 | ⟨b, o, rfl, hb, hc⟩
    · rw [h3] at hf; simp at hf
    · exact ⟨b, o, rfl, hb, hc k hf⟩
  subst hao
  obtain ⟨a0, a1, a2, a3, a4, a5, a6⟩ := hc.below B1.out hb
  generalize nAt ns k = m at *
  clear hc a0 a1 a3 a4 a5 a6
  obtain ⟨xl, c0, c1, c2, c3, c4⟩ := X1.out
  by_cases hv : o.ver ≠ -1 ∧ o.ver ≠ m.ver
  · rw [if_pos hv] at HD
    have hv1 : (o.ver != -1) = true := by simpa using hv.1
    have hv2 : (o.ver != m.ver) = true := by simpa using hv.2
    clear hv
    go_wp2
    go_quiet (fail)
    have BQ : Hid (Below w.heap.size w (w3.drewN nq)) := B1.out.trans ((below_drewN' w3 nq).mono B1.out.size)
    go_wp2
    exact bodyPost_ret (v := .tuple #[.int .i64 4, .slice (some ⟨b, oo, none⟩) ns.length ca, .string ⟨#[]⟩]) (by simp [results, Tryz.results32, go_sem]) rfl ⟨_, by rw [HD.out], by rw [HD.out]; exact HR.out.below BQ.out, .inl rfl, BQ.out⟩
  rw [if_neg hv] at HD
  have hcase : (o.ver != -1) = false ∨ ((o.ver != -1) = true ∧ (o.ver != m.ver) = false) := by
    by_cases e1 : o.ver = -1
    · exact .inl (by simp [e1])
    · by_cases e2 : o.ver = m.ver
      · exact .inr ⟨by simp [e1], by simp [e2]⟩
      · exact absurd ⟨e1, e2⟩ hv
  clear hv
  rcases hcase with hv1 | ⟨hv1, hv2⟩
  all_goals
    go_wp2
    go_quiet (fail)
    have BQ : Hid (Below w.heap.size w (w3.drewN nq)) := B1.out.trans ((below_drewN' w3 nq).mono B1.out.size)
    have XQ : Hid (BoxO (w3.drewN nq) w.heap.size o) := X1.out.below (below_drewN' w3 nq)
    clear xl c0 c1 c2 c3 c4 a2
    generalize w3.drewN nq = wq at *
    obtain ⟨xl, c0, c1, c2, c3, c4⟩ := XQ.out
    go_wp2
    go_quiet (fail)
    have BZ : Hid (Below w.heap.size w (wq.drewN nq)) := BQ.out.trans ((below_drewN' wq nq).mono BQ.out.size)
    go_wp2
    exact bodyPost_ret (v := .tuple #[.int .i64 0, .slice (some ⟨b, oo, none⟩) ns.length ca, .string o.path]) (by simp [results, Tryz.results32, go_sem]) rfl ⟨_, by rw [HD.out], by rw [HD.out]; exact HR.out.below BZ.out, .inl rfl, BZ.out⟩


set_option maxHeartbeats 2000000 in
set_option maxRecDepth 100000 in
theorem l3Do_set (w : World) (v : Value) (ns : List Nd) (o : Op5) (z : Int) (h : RdN w v ns) (hn : ns.length ≤ 1000) (hok : ∀ k, k < ns.length → okNd (nAt ns k) = true) (hp : o.path.size ≤ 1048576) (hd : o.data.size ≤ 1048576) (hw : wfO o = true) (hk : o.kind = 3) :
    Calls Tryz.prog 32 #[v, .agg #[.int .i64 o.kind, .string o.path, .string o.data, .int .i64 o.ver, .bool o.seq], .int .i64 z] w fun e w' => DoPost w v ns o z e w' := by
  obtain ⟨ao, ca, rfl, _, _⟩ := h.len
  have HR : Hid (RdN w (.slice ao ns.length ca) ns) := h
  have HW : Hid (wfO o = true) := hw
  have hk1 : (o.kind == 1) = false := by simp [hk]
  have hk2 : (o.kind == 2) = false := by simp [hk]
  have hk3 : (o.kind == 3) = true := by simp [hk]
  have HOK : Hid (∀ k, k < ns.length → okNd (nAt ns k) = true) := hok
  have HD : Hid (doO ns o z = if ¬ ns.findIdx (isP o.path) < ns.length then (2, ns, ⟨#[]⟩)
    else if o.ver ≠ -1 ∧ o.ver ≠ (nAt ns (ns.findIdx (isP o.path))).ver then (4, ns, ⟨#[]⟩)
    else (0, wiN ns { nAt ns (ns.findIdx (isP o.path)) with data := o.data, ver := mor (nAt ns (ns.findIdx (isP o.path))).ver, mz := z }, o.path)) := by
    show _ = _
    unfold doO
    rw [hw, if_neg (by simp), if_neg (by omega), if_neg (show ¬ o.kind = 2 by omega), if_pos hk]
  have B0 : Hid (Below w.heap.size w (w.alloc (.cells #[.int .i64 o.kind, .string o.path, .string o.data, .int .i64 o.ver, .bool o.seq] 40))) := (Below.refl _ _).alloc (Nat.le_refl _) _
  have X0 : Hid (BoxO (w.alloc (.cells #[.int .i64 o.kind, .string o.path, .string o.data, .int .i64 o.ver, .bool o.seq] 40)) w.heap.size o) := BoxO.new _ _ _
  clear h hw hk hok
  go_enter Tryz.func32, Tryz.ntmps32
  go_wp2_with fail
  generalize w.alloc (.cells #[.int .i64 o.kind, .string o.path, .string o.data, .int .i64 o.ver, .bool o.seq] 40) = w0 at *
  refine (l3Well_any _ o hp hd).mono ?_
  rintro e w1 ⟨rfl, b1⟩
  rw [HW.out]
  have B1 : Hid (Below w.heap.size w w1) := B0.out.trans (b1.mono B0.out.size)
  have X1 : Hid (BoxO w1 w.heap.size o) := X0.out.below b1
  clear b1 B0 X0
  obtain ⟨xl, c0, c1, c2, c3, c4⟩ := X1.out
  go_wp2_with fail
  clear xl c0 c1 c2 c3 c4
  refine (l3Find_any w1 _ ns o.path (HR.out.below B1.out) (by omega)).mono ?_
  rintro e w3 ⟨rfl, rfl⟩
  by_cases hf : ns.findIdx (isP o.path) < ns.length
  rotate_left
  · rw [if_pos hf] at HD
    rw [show fdV ns o.path = -1 by unfold fdV; rw [if_neg hf]]
    clear hf
    go_wp2
    exact bodyPost_ret (v := .tuple #[.int .i64 2, .slice ao ns.length ca, .string ⟨#[]⟩]) (by simp [results, Tryz.results32, go_sem]) rfl ⟨_, by rw [HD.out], by rw [HD.out]; exact HR.out.below B1.out, .inl rfl, B1.out⟩
  rw [if_neg (by simpa using hf)] at HD
  rw [show fdV ns o.path = ((ns.findIdx (isP o.path) : Nat) : Int) by unfold fdV; rw [if_pos hf]]
  generalize ns.findIdx (isP o.path) = k at *
  have hI : ¬ (k : Int) < 0 := by omega
  have hkI : (k : Int) < (ns.length : Int) := by omega
  obtain ⟨b, oo, hao, hb, hc⟩ : ∃ b o, ao = some ⟨b, o, none⟩ ∧ b < w.heap.size ∧ CellsN w b (o + k * 7) (nAt ns k) := by
    obtain ⟨ao', cap', e', -, -, h3⟩ := HR.out
    simp only [Value.slice.injEq] at e'
    obtain ⟨rfl, -, -⟩ := e'
    rcases h3 with h3 | ⟨b, o, rfl, hb, hc⟩
    · rw [h3] at hf; simp at hf
    · exact ⟨b, o, rfl, hb, hc k hf⟩
  subst hao
  obtain ⟨a0, a1, a2, a3, a4, a5, a6⟩ := hc.below B1.out hb
  have HC : Hid (CellsN w b (oo + k * 7) (nAt ns k)) := hc
  have hvr : -1 ≤ (nAt ns k).ver ∧ (nAt ns k).ver ≤ 2147483647 := by
    have := HOK.out k hf
    unfold okNd okS at this
    simp only [Bool.and_eq_true, decide_eq_true_eq] at this
    omega
  generalize nAt ns k = m at *
  clear hc a0 a1 a3 a4 a5 a6
  obtain ⟨xl, c0, c1, c2, c3, c4⟩ := X1.out
  by_cases hv : o.ver ≠ -1 ∧ o.ver ≠ m.ver
  · rw [if_pos hv] at HD
    have hv1 : (o.ver != -1) = true := by simpa using hv.1
    have hv2 : (o.ver != m.ver) = true := by simpa using hv.2
    clear hv
    go_wp2
    go_quiet (fail)
    have BQ : Hid (Below w.heap.size w (w3.drewN nq)) := B1.out.trans ((below_drewN' w3 nq).mono B1.out.size)
    go_wp2
    exact bodyPost_ret (v := .tuple #[.int .i64 4, .slice (some ⟨b, oo, none⟩) ns.length ca, .string ⟨#[]⟩]) (by simp [results, Tryz.results32, go_sem]) rfl ⟨_, by rw [HD.out], by rw [HD.out]; exact HR.out.below BQ.out, .inl rfl, BQ.out⟩
  rw [if_neg hv] at HD
  have hcase : (o.ver != -1) = false ∨ ((o.ver != -1) = true ∧ (o.ver != m.ver) = false) := by
    by_cases e1 : o.ver = -1
    · exact .inl (by simp [e1])
    · by_cases e2 : o.ver = m.ver
      · exact .inr ⟨by simp [e1], by simp [e2]⟩
      · exact absurd ⟨e1, e2⟩ hv
  clear hv
  rcases hcase with hv1 | ⟨hv1, hv2⟩
  · go_wp2
    go_quiet (fail)
    have BQ : Hid (Below w.heap.size w (w3.drewN nq)) := B1.out.trans ((below_drewN' w3 nq).mono B1.out.size)
    have XQ : Hid (BoxO (w3.drewN nq) w.heap.size o) := X1.out.below (below_drewN' w3 nq)
    clear xl c0 c1 c2 c3 c4 a2
    generalize w3.drewN nq = wq at *
    obtain ⟨xl, c0, c1, c2, c3, c4⟩ := XQ.out
    obtain ⟨a0, a1, a2, a3, a4, a5, a6⟩ := HC.out.below BQ.out hb
    go_wp2_with fail
    refine (l3More_any _ m.ver hvr.1 hvr.2).mono ?_
    rintro e w9 ⟨rfl, rfl⟩
    go_wp2_with fail
    have ba : Below wq.heap.size wq (wq.alloc (.cells #[.string m.path, .string o.data, .int .i64 (mor m.ver), .int .i64 m.cver, .int .i64 m.cz, .int .i64 z, .int .i64 m.pz] 42)) := (Below.refl _ _).alloc (Nat.le_refl _) _
    have XA : Hid (BoxO (wq.alloc (.cells #[.string m.path, .string o.data, .int .i64 (mor m.ver), .int .i64 m.cver, .int .i64 m.cz, .int .i64 z, .int .i64 m.pz] 42)) w.heap.size o ∧ BoxN (wq.alloc (.cells #[.string m.path, .string o.data, .int .i64 (mor m.ver), .int .i64 m.cver, .int .i64 m.cz, .int .i64 z, .int .i64 m.pz] 42)) wq.heap.size ⟨m.path, o.data, mor m.ver, m.cver, m.cz, z, m.pz⟩) := ⟨XQ.out.below ba, BoxN.new wq ⟨m.path, o.data, mor m.ver, m.cver, m.cz, z, m.pz⟩ _⟩
    have BA : Hid (Below w.heap.size w (wq.alloc (.cells #[.string m.path, .string o.data, .int .i64 (mor m.ver), .int .i64 m.cver, .int .i64 m.cz, .int .i64 z, .int .i64 m.pz] 42))) := BQ.out.trans (ba.mono BQ.out.size)
    clear ba xl c0 c1 c2 c3 c4 a0 a1 a2 a3 a4 a5 a6 XQ BQ
    generalize wq.alloc (.cells #[.string m.path, .string o.data, .int .i64 (mor m.ver), .int .i64 m.cver, .int .i64 m.cz, .int .i64 z, .int .i64 m.pz] 42) = wn at *
    generalize wq.heap.size = Bn at *
    refine wp_region_held_drew (S := fun W => BoxO W w.heap.size o ∧ BoxN W Bn ⟨m.path, o.data, mor m.ver, m.cver, m.cz, z, m.pz⟩) (by kernel_rfl) (⟨XA.out.1.below (below_drewN' wn 1), XA.out.2.below (below_drewN' wn 1)⟩) (fun hHeld => ?_)
    have BD : Hid (Below w.heap.size w wn.drew) := BA.out.trans ((below_drewN' wn 1).mono BA.out.size)
    clear XA BA
    generalize wn.drew = G0 at *
    refine wpAnyH_take (i := 0) (oi := { dst := some 128, op := _, type := _, pos := _, after := _, guard := _ }) (v := (.slice (some ⟨b, oo, none⟩) ns.length ca)) rfl (by kernel_rfl) (by kernel_rfl) (by kernel_rfl) (fun _ _ _ h => h) (Or.inl ⟨by rfl, ?hy1⟩) (by assumption) ?rest1
    case hy1 =>
      intro w9 hS9
      go_simp
    try simp only [Act.put, List.setIfInBounds_toArray, List.set_cons_zero, List.set_cons_succ]
    refine wpAnyH_take (i := 1) (oi := { dst := some 129, op := _, type := _, pos := _, after := _, guard := _ }) (v := (.agg #[.string m.path, .string o.data, .int .i64 (mor m.ver), .int .i64 m.cver, .int .i64 m.cz, .int .i64 z, .int .i64 m.pz])) rfl (by kernel_rfl) (by kernel_rfl) (by kernel_rfl) (fun _ _ _ h => h) (Or.inl ⟨by rfl, ?hy2⟩) (by assumption) ?rest2
    case hy2 =>
      intro w9 hS9
      obtain ⟨zl, z0, z1, z2, z3, z4, z5, z6⟩ := hS9.2
      go_simp
    try simp only [Act.put, List.setIfInBounds_toArray, List.set_cons_zero, List.set_cons_succ]
    refine wpAnyH_take (i := 3) (oi := { dst := some 131, op := _, type := _, pos := _, after := _, guard := _ }) (v := (.pointer (some ⟨w.heap.size, 1, none⟩))) rfl (by kernel_rfl) (by kernel_rfl) (by kernel_rfl) (fun _ _ _ h => h) (Or.inl ⟨by rfl, ?hy3⟩) (by assumption) ?rest3
    case hy3 =>
      intro w9 hS9
      go_simp
    try simp only [Act.put, List.setIfInBounds_toArray, List.set_cons_zero, List.set_cons_succ]
    refine wpAnyH_take (i := 4) (oi := { dst := some 132, op := _, type := _, pos := _, after := _, guard := _ }) (v := (.string o.path)) rfl (by kernel_rfl) (by kernel_rfl) (by kernel_rfl) (fun _ _ _ h => h) (Or.inl ⟨by rfl, ?hy4⟩) (by assumption) ?rest4
    case hy4 =>
      intro w9 hS9
      have y1 := hS9.1.c1
      go_simp
    try simp only [Act.put, List.setIfInBounds_toArray, List.set_cons_zero, List.set_cons_succ]
    refine wpAnyH_ready (rs := [2]) (by kernel_rfl) (by simp) ?_
    refine AllReadyH.cons (o := { dst := some 130, op := _, type := _, pos := _, after := _, guard := _ }) rfl (fun K hK => ?_) AllReadyH.nil
    go_simp
    refine (with_any G0 _ ns ⟨m.path, o.data, mor m.ver, m.cver, m.cz, z, m.pz⟩ (HR.out.below BD.out) (by omega)).mono ?_
    rintro e G1 ⟨v7, rfl, o7, bA⟩
    obtain ⟨a7, k7, hv7⟩ := o7.slice
    subst hv7
    have A2 : _ ∧ _ := ⟨hHeld.1.below bA, hHeld.2.below bA⟩
    refine hK.out _ _ (A2) (fun hx9 => ?_)
    clear hK K hHeld hx9
    have hHeld := A2
    try simp only [Act.put, List.setIfInBounds_toArray, List.set_cons_zero, List.set_cons_succ]
    refine wpAnyH_take (i := 5) (oi := { dst := some 6, op := _, type := _, pos := _, after := _, guard := _ }) (v := (.int .i64 0)) rfl (by kernel_rfl) (by kernel_rfl) (by kernel_rfl) (fun _ _ _ h => h) (Or.inl ⟨by rfl, ?hy5⟩) (by assumption) ?rest5
    case hy5 =>
      intro w9 hS9
      go_simp
    try simp only [Act.put, List.setIfInBounds_toArray, List.set_cons_zero, List.set_cons_succ]
    refine wpAnyH_take (i := 6) (oi := { dst := some 7, op := _, type := _, pos := _, after := _, guard := _ }) (v := (.slice a7 (wiN ns ⟨m.path, o.data, mor m.ver, m.cver, m.cz, z, m.pz⟩).length k7)) rfl (by kernel_rfl) (by kernel_rfl) (by kernel_rfl) (fun _ _ _ h => h) (Or.inl ⟨by rfl, ?hy6⟩) (by assumption) ?rest6
    case hy6 =>
      intro w9 hS9
      go_simp
    try simp only [Act.put, List.setIfInBounds_toArray, List.set_cons_zero, List.set_cons_succ]
    refine wpAnyH_take (i := 7) (oi := { dst := some 8, op := _, type := _, pos := _, after := _, guard := _ }) (v := (.string o.path)) rfl (by kernel_rfl) (by kernel_rfl) (by kernel_rfl) (fun _ _ _ h => h) (Or.inl ⟨by rfl, ?hy7⟩) (by assumption) ?rest7
    case hy7 =>
      intro w9 hS9
      go_simp
    try simp only [Act.put, List.setIfInBounds_toArray, List.set_cons_zero, List.set_cons_succ]
    refine wpAnyH_done (by kernel_rfl) ?_ _
    clear hHeld
    have R7 : Hid (RdN G1 (.slice a7 (wiN ns ⟨m.path, o.data, mor m.ver, m.cver, m.cz, z, m.pz⟩).length k7) (wiN ns ⟨m.path, o.data, mor m.ver, m.cver, m.cz, z, m.pz⟩)) := o7.rd
    have BZ : Hid (Below w.heap.size w G1) := BD.out.trans (bA.mono BD.out.size)
    have F7 : Hid (New w (.slice a7 (wiN ns ⟨m.path, o.data, mor m.ver, m.cver, m.cz, z, m.pz⟩).length k7)) := OwnN.new9 o7 BD.out.size
    clear A2 o7 bA BD
    go_wp2
    exact bodyPost_ret (v := .tuple #[.int .i64 0, .slice a7 (wiN ns ⟨m.path, o.data, mor m.ver, m.cver, m.cz, z, m.pz⟩).length k7, .string o.path]) (by simp [results, Tryz.results32, go_sem]) rfl ⟨_, by rw [HD.out], by rw [HD.out]; exact R7.out, .inr F7.out, BZ.out⟩
  · go_wp2
    go_quiet (fail)
    have BQ : Hid (Below w.heap.size w (w3.drewN nq)) := B1.out.trans ((below_drewN' w3 nq).mono B1.out.size)
    have XQ : Hid (BoxO (w3.drewN nq) w.heap.size o) := X1.out.below (below_drewN' w3 nq)
    clear xl c0 c1 c2 c3 c4 a2
    generalize w3.drewN nq = wq at *
    obtain ⟨xl, c0, c1, c2, c3, c4⟩ := XQ.out
    obtain ⟨a0, a1, a2, a3, a4, a5, a6⟩ := HC.out.below BQ.out hb
    go_wp2_with fail
    refine (l3More_any _ m.ver hvr.1 hvr.2).mono ?_
    rintro e w9 ⟨rfl, rfl⟩
    go_wp2_with fail
    have ba : Below wq.heap.size wq (wq.alloc (.cells #[.string m.path, .string o.data, .int .i64 (mor m.ver), .int .i64 m.cver, .int .i64 m.cz, .int .i64 z, .int .i64 m.pz] 42)) := (Below.refl _ _).alloc (Nat.le_refl _) _
    have XA : Hid (BoxO (wq.alloc (.cells #[.string m.path, .string o.data, .int .i64 (mor m.ver), .int .i64 m.cver, .int .i64 m.cz, .int .i64 z, .int .i64 m.pz] 42)) w.heap.size o ∧ BoxN (wq.alloc (.cells #[.string m.path, .string o.data, .int .i64 (mor m.ver), .int .i64 m.cver, .int .i64 m.cz, .int .i64 z, .int .i64 m.pz] 42)) wq.heap.size ⟨m.path, o.data, mor m.ver, m.cver, m.cz, z, m.pz⟩) := ⟨XQ.out.below ba, BoxN.new wq ⟨m.path, o.data, mor m.ver, m.cver, m.cz, z, m.pz⟩ _⟩
    have BA : Hid (Below w.heap.size w (wq.alloc (.cells #[.string m.path, .string o.data, .int .i64 (mor m.ver), .int .i64 m.cver, .int .i64 m.cz, .int .i64 z, .int .i64 m.pz] 42))) := BQ.out.trans (ba.mono BQ.out.size)
    clear ba xl c0 c1 c2 c3 c4 a0 a1 a2 a3 a4 a5 a6 XQ BQ
    generalize wq.alloc (.cells #[.string m.path, .string o.data, .int .i64 (mor m.ver), .int .i64 m.cver, .int .i64 m.cz, .int .i64 z, .int .i64 m.pz] 42) = wn at *
    generalize wq.heap.size = Bn at *
    refine wp_region_held_drew (S := fun W => BoxO W w.heap.size o ∧ BoxN W Bn ⟨m.path, o.data, mor m.ver, m.cver, m.cz, z, m.pz⟩) (by kernel_rfl) (⟨XA.out.1.below (below_drewN' wn 1), XA.out.2.below (below_drewN' wn 1)⟩) (fun hHeld => ?_)
    have BD : Hid (Below w.heap.size w wn.drew) := BA.out.trans ((below_drewN' wn 1).mono BA.out.size)
    clear XA BA
    generalize wn.drew = G0 at *
    refine wpAnyH_take (i := 0) (oi := { dst := some 128, op := _, type := _, pos := _, after := _, guard := _ }) (v := (.slice (some ⟨b, oo, none⟩) ns.length ca)) rfl (by kernel_rfl) (by kernel_rfl) (by kernel_rfl) (fun _ _ _ h => h) (Or.inl ⟨by rfl, ?hyb1⟩) (by assumption) ?restb1
    case hyb1 =>
      intro w9 hS9
      go_simp
    try simp only [Act.put, List.setIfInBounds_toArray, List.set_cons_zero, List.set_cons_succ]
    refine wpAnyH_take (i := 1) (oi := { dst := some 129, op := _, type := _, pos := _, after := _, guard := _ }) (v := (.agg #[.string m.path, .string o.data, .int .i64 (mor m.ver), .int .i64 m.cver, .int .i64 m.cz, .int .i64 z, .int .i64 m.pz])) rfl (by kernel_rfl) (by kernel_rfl) (by kernel_rfl) (fun _ _ _ h => h) (Or.inl ⟨by rfl, ?hyb2⟩) (by assumption) ?restb2
    case hyb2 =>
      intro w9 hS9
      obtain ⟨zl, z0, z1, z2, z3, z4, z5, z6⟩ := hS9.2
      go_simp
    try simp only [Act.put, List.setIfInBounds_toArray, List.set_cons_zero, List.set_cons_succ]
    refine wpAnyH_take (i := 3) (oi := { dst := some 131, op := _, type := _, pos := _, after := _, guard := _ }) (v := (.pointer (some ⟨w.heap.size, 1, none⟩))) rfl (by kernel_rfl) (by kernel_rfl) (by kernel_rfl) (fun _ _ _ h => h) (Or.inl ⟨by rfl, ?hyb3⟩) (by assumption) ?restb3
    case hyb3 =>
      intro w9 hS9
      go_simp
    try simp only [Act.put, List.setIfInBounds_toArray, List.set_cons_zero, List.set_cons_succ]
    refine wpAnyH_take (i := 4) (oi := { dst := some 132, op := _, type := _, pos := _, after := _, guard := _ }) (v := (.string o.path)) rfl (by kernel_rfl) (by kernel_rfl) (by kernel_rfl) (fun _ _ _ h => h) (Or.inl ⟨by rfl, ?hyb4⟩) (by assumption) ?restb4
    case hyb4 =>
      intro w9 hS9
      have y1 := hS9.1.c1
      go_simp
    try simp only [Act.put, List.setIfInBounds_toArray, List.set_cons_zero, List.set_cons_succ]
    refine wpAnyH_ready (rs := [2]) (by kernel_rfl) (by simp) ?_
    refine AllReadyH.cons (o := { dst := some 130, op := _, type := _, pos := _, after := _, guard := _ }) rfl (fun K hK => ?_) AllReadyH.nil
    go_simp
    refine (with_any G0 _ ns ⟨m.path, o.data, mor m.ver, m.cver, m.cz, z, m.pz⟩ (HR.out.below BD.out) (by omega)).mono ?_
    rintro e G1 ⟨v7, rfl, o7, bA⟩
    obtain ⟨a7, k7, hv7⟩ := o7.slice
    subst hv7
    have A2 : _ ∧ _ := ⟨hHeld.1.below bA, hHeld.2.below bA⟩
    refine hK.out _ _ (A2) (fun hx9 => ?_)
    clear hK K hHeld hx9
    have hHeld := A2
    try simp only [Act.put, List.setIfInBounds_toArray, List.set_cons_zero, List.set_cons_succ]
    refine wpAnyH_take (i := 5) (oi := { dst := some 6, op := _, type := _, pos := _, after := _, guard := _ }) (v := (.int .i64 0)) rfl (by kernel_rfl) (by kernel_rfl) (by kernel_rfl) (fun _ _ _ h => h) (Or.inl ⟨by rfl, ?hyb5⟩) (by assumption) ?restb5
    case hyb5 =>
      intro w9 hS9
      go_simp
    try simp only [Act.put, List.setIfInBounds_toArray, List.set_cons_zero, List.set_cons_succ]
    refine wpAnyH_take (i := 6) (oi := { dst := some 7, op := _, type := _, pos := _, after := _, guard := _ }) (v := (.slice a7 (wiN ns ⟨m.path, o.data, mor m.ver, m.cver, m.cz, z, m.pz⟩).length k7)) rfl (by kernel_rfl) (by kernel_rfl) (by kernel_rfl) (fun _ _ _ h => h) (Or.inl ⟨by rfl, ?hyb6⟩) (by assumption) ?restb6
    case hyb6 =>
      intro w9 hS9
      go_simp
    try simp only [Act.put, List.setIfInBounds_toArray, List.set_cons_zero, List.set_cons_succ]
    refine wpAnyH_take (i := 7) (oi := { dst := some 8, op := _, type := _, pos := _, after := _, guard := _ }) (v := (.string o.path)) rfl (by kernel_rfl) (by kernel_rfl) (by kernel_rfl) (fun _ _ _ h => h) (Or.inl ⟨by rfl, ?hyb7⟩) (by assumption) ?restb7
    case hyb7 =>
      intro w9 hS9
      go_simp
    try simp only [Act.put, List.setIfInBounds_toArray, List.set_cons_zero, List.set_cons_succ]
    refine wpAnyH_done (by kernel_rfl) ?_ _
    clear hHeld
    have R7 : Hid (RdN G1 (.slice a7 (wiN ns ⟨m.path, o.data, mor m.ver, m.cver, m.cz, z, m.pz⟩).length k7) (wiN ns ⟨m.path, o.data, mor m.ver, m.cver, m.cz, z, m.pz⟩)) := o7.rd
    have BZ : Hid (Below w.heap.size w G1) := BD.out.trans (bA.mono BD.out.size)
    have F7 : Hid (New w (.slice a7 (wiN ns ⟨m.path, o.data, mor m.ver, m.cver, m.cz, z, m.pz⟩).length k7)) := OwnN.new9 o7 BD.out.size
    clear A2 o7 bA BD
    go_wp2
    exact bodyPost_ret (v := .tuple #[.int .i64 0, .slice a7 (wiN ns ⟨m.path, o.data, mor m.ver, m.cver, m.cz, z, m.pz⟩).length k7, .string o.path]) (by simp [results, Tryz.results32, go_sem]) rfl ⟨_, by rw [HD.out], by rw [HD.out]; exact R7.out, .inr F7.out, BZ.out⟩


set_option maxHeartbeats 2000000 in
set_option maxRecDepth 100000 in
theorem l3Do_delete (w : World) (v : Value) (ns : List Nd) (o : Op5) (z : Int) (h : RdN w v ns) (hn : ns.length ≤ 1000) (hok : ∀ k, k < ns.length → okNd (nAt ns k) = true) (hp : o.path.size ≤ 1048576) (hd : o.data.size ≤ 1048576) (hw : wfO o = true) (hk : o.kind = 2) :
    Calls Tryz.prog 32 #[v, .agg #[.int .i64 o.kind, .string o.path, .string o.data, .int .i64 o.ver, .bool o.seq], .int .i64 z] w fun e w' => DoPost w v ns o z e w' := by
  obtain ⟨ao, ca, rfl, _, _⟩ := h.len
  have HR : Hid (RdN w (.slice ao ns.length ca) ns) := h
  have HW : Hid (wfO o = true) := hw
  have hk1 : (o.kind == 1) = false := by simp [hk]
  have hk2 : (o.kind == 2) = true := by simp [hk]
  have HOK : Hid (∀ k, k < ns.length → okNd (nAt ns k) = true) := hok
  have HPK : Hid (okPath o.path = true) := (wfO_path hw).1
  have HD : Hid (doO ns o z = if ¬ ns.findIdx (isP o.path) < ns.length then (2, ns, ⟨#[]⟩)
    else if o.ver ≠ -1 ∧ o.ver ≠ (nAt ns (ns.findIdx (isP o.path))).ver then (4, ns, ⟨#[]⟩)
    else if 0 < (chN ns o.path).length then (5, ns, ⟨#[]⟩) else (0, toN (woN ns o.path) (parB o.path) z, o.path)) := by
    show _ = _
    unfold doO
    rw [hw, if_neg (by simp), if_neg (show ¬ o.kind = 1 by omega), if_pos hk]
  have B0 : Hid (Below w.heap.size w (w.alloc (.cells #[.int .i64 o.kind, .string o.path, .string o.data, .int .i64 o.ver, .bool o.seq] 40))) := (Below.refl _ _).alloc (Nat.le_refl _) _
  have X0 : Hid (BoxO (w.alloc (.cells #[.int .i64 o.kind, .string o.path, .string o.data, .int .i64 o.ver, .bool o.seq] 40)) w.heap.size o) := BoxO.new _ _ _
  clear h hw hk hok
  go_enter Tryz.func32, Tryz.ntmps32
  go_wp2_with fail
  generalize w.alloc (.cells #[.int .i64 o.kind, .string o.path, .string o.data, .int .i64 o.ver, .bool o.seq] 40) = w0 at *
  refine (l3Well_any _ o hp hd).mono ?_
  rintro e w1 ⟨rfl, b1⟩
  rw [HW.out]
  have B1 : Hid (Below w.heap.size w w1) := B0.out.trans (b1.mono B0.out.size)
  have X1 : Hid (BoxO w1 w.heap.size o) := X0.out.below b1
  clear b1 B0 X0
  obtain ⟨xl, c0, c1, c2, c3, c4⟩ := X1.out
  go_wp2_with fail
  clear xl c0 c1 c2 c3 c4
  refine (l3Find_any w1 _ ns o.path (HR.out.below B1.out) (by omega)).mono ?_
  rintro e w3 ⟨rfl, rfl⟩
  by_cases hf : ns.findIdx (isP o.path) < ns.length
  rotate_left
  · rw [if_pos hf] at HD
    rw [show fdV ns o.path = -1 by unfold fdV; rw [if_neg hf]]
    clear hf
    go_wp2
    exact bodyPost_ret (v := .tuple #[.int .i64 2, .slice ao ns.length ca, .string ⟨#[]⟩]) (by simp [results, Tryz.results32, go_sem]) rfl ⟨_, by rw [HD.out], by rw [HD.out]; exact HR.out.below B1.out, .inl rfl, B1.out⟩
  rw [if_neg (by simpa using hf)] at HD
  rw [show fdV ns o.path = ((ns.findIdx (isP o.path) : Nat) : Int) by unfold fdV; rw [if_pos hf]]
  generalize ns.findIdx (isP o.path) = k at *
  have hI : ¬ (k : Int) < 0 := by omega
  have hkI : (k : Int) < (ns.length : Int) := by omega
  obtain ⟨b, oo, hao, hb, hc⟩ : ∃ b o, ao = some ⟨b, o, none⟩ ∧ b < w.heap.size ∧ CellsN w b (o + k * 7) (nAt ns k) := by
    obtain ⟨ao', cap', e', -, -, h3⟩ := HR.out
    simp only [Value.slice.injEq] at e'
    obtain ⟨rfl, -, -⟩ := e'
    rcases h3 with h3 | ⟨b, o, rfl, hb, hc⟩
    · rw [h3] at hf; simp at hf
    · exact ⟨b, o, rfl, hb, hc k hf⟩
  subst hao
  obtain ⟨a0, a1, a2, a3, a4, a5, a6⟩ := hc.below B1.out hb
  generalize nAt ns k = m at *
  clear hc a0 a1 a3 a4 a5 a6
  obtain ⟨xl, c0, c1, c2, c3, c4⟩ := X1.out
  by_cases hv : o.ver ≠ -1 ∧ o.ver ≠ m.ver
  · rw [if_pos hv] at HD
    have hv1 : (o.ver != -1) = true := by simpa using hv.1
    have hv2 : (o.ver != m.ver) = true := by simpa using hv.2
    clear hv
    go_wp2
    go_quiet (fail)
    have BQ : Hid (Below w.heap.size w (w3.drewN nq)) := B1.out.trans ((below_drewN' w3 nq).mono B1.out.size)
    go_wp2
    exact bodyPost_ret (v := .tuple #[.int .i64 4, .slice (some ⟨b, oo, none⟩) ns.length ca, .string ⟨#[]⟩]) (by simp [results, Tryz.results32, go_sem]) rfl ⟨_, by rw [HD.out], by rw [HD.out]; exact HR.out.below BQ.out, .inl rfl, BQ.out⟩
  rw [if_neg hv] at HD
  have hcase : (o.ver != -1) = false ∨ ((o.ver != -1) = true ∧ (o.ver != m.ver) = false) := by
    by_cases e1 : o.ver = -1
    · exact .inl (by simp [e1])
    · by_cases e2 : o.ver = m.ver
      · exact .inr ⟨by simp [e1], by simp [e2]⟩
      · exact absurd ⟨e1, e2⟩ hv
  clear hv
  rcases hcase with hv1 | ⟨hv1, hv2⟩
  · go_wp2
    go_quiet (fail)
    have BQ : Hid (Below w.heap.size w (w3.drewN nq)) := B1.out.trans ((below_drewN' w3 nq).mono B1.out.size)
    have XQ : Hid (BoxO (w3.drewN nq) w.heap.size o) := X1.out.below (below_drewN' w3 nq)
    clear xl c0 c1 c2 c3 c4 a2
    generalize w3.drewN nq = wq at *
    obtain ⟨xl, c0, c1, c2, c3, c4⟩ := XQ.out
    go_wp2_with fail
    refine (l3Below_any wq _ ns o.path (HR.out.below BQ.out) hn HOK.out).mono ?_
    rintro e w9 ⟨v9, rfl, o9, b9⟩
    obtain ⟨a9, k9, hv9⟩ := o9.slice
    subst hv9
    have B9 : Hid (Below w.heap.size w w9) := BQ.out.trans (b9.mono BQ.out.size)
    have X9 : Hid (BoxO w9 w.heap.size o) := XQ.out.below b9
    clear b9 o9 BQ XQ xl c0 c1 c2 c3 c4
    by_cases hch : 0 < (chN ns o.path).length
    · rw [if_pos hch] at HD
      have hchI : (0 : Int) < ((chN ns o.path).length : Int) := by omega
      go_wp2
      exact bodyPost_ret (v := .tuple #[.int .i64 5, .slice (some ⟨b, oo, none⟩) ns.length ca, .string ⟨#[]⟩]) (by simp [results, Tryz.results32, go_sem]) rfl ⟨_, by rw [HD.out], by rw [HD.out]; exact HR.out.below B9.out, .inl rfl, B9.out⟩
    rw [if_neg hch] at HD
    have hchI : ¬ (0 : Int) < ((chN ns o.path).length : Int) := by omega
    go_wp2_with fail
    refine wp_region_held_drew (S := fun W => BoxO W w.heap.size o) (by kernel_rfl) (X9.out.below (below_drewN' w9 1)) (fun hHeld => ?_)
    have BD : Hid (Below w.heap.size w w9.drew) := B9.out.trans ((below_drewN' w9 1).mono B9.out.size)
    clear X9 B9
    generalize w9.drew = G0 at *
    refine wpAnyH_take (i := 0) (oi := { dst := some 101, op := _, type := _, pos := _, after := _, guard := _ }) (v := (.slice (some ⟨b, oo, none⟩) ns.length ca)) rfl (by kernel_rfl) (by kernel_rfl) (by kernel_rfl) (fun _ _ _ h => h) (Or.inl ⟨by rfl, ?hy1⟩) (by assumption) ?rest1
    case hy1 =>
      intro w9 hS9
      go_simp
    try simp only [Act.put, List.setIfInBounds_toArray, List.set_cons_zero, List.set_cons_succ]
    refine wpAnyH_take (i := 1) (oi := { dst := some 102, op := _, type := _, pos := _, after := _, guard := _ }) (v := (.pointer (some ⟨w.heap.size, 1, none⟩))) rfl (by kernel_rfl) (by kernel_rfl) (by kernel_rfl) (fun _ _ _ h => h) (Or.inl ⟨by rfl, ?hy2⟩) (by assumption) ?rest2
    case hy2 =>
      intro w9 hS9
      go_simp
    try simp only [Act.put, List.setIfInBounds_toArray, List.set_cons_zero, List.set_cons_succ]
    refine wpAnyH_take (i := 2) (oi := { dst := some 103, op := _, type := _, pos := _, after := _, guard := _ }) (v := (.string o.path)) rfl (by kernel_rfl) (by kernel_rfl) (by kernel_rfl) (fun _ _ _ h => h) (Or.inl ⟨by rfl, ?hy3⟩) (by assumption) ?rest3
    case hy3 =>
      intro w9 hS9
      have y1 := hS9.c1
      go_simp
    try simp only [Act.put, List.setIfInBounds_toArray, List.set_cons_zero, List.set_cons_succ]
    refine wpAnyH_take (i := 4) (oi := { dst := some 105, op := _, type := _, pos := _, after := _, guard := _ }) (v := (.pointer (some ⟨w.heap.size, 1, none⟩))) rfl (by kernel_rfl) (by kernel_rfl) (by kernel_rfl) (fun _ _ _ h => h) (Or.inl ⟨by rfl, ?hy4⟩) (by assumption) ?rest4
    case hy4 =>
      intro w9 hS9
      go_simp
    try simp only [Act.put, List.setIfInBounds_toArray, List.set_cons_zero, List.set_cons_succ]
    refine wpAnyH_take (i := 5) (oi := { dst := some 106, op := _, type := _, pos := _, after := _, guard := _ }) (v := (.string o.path)) rfl (by kernel_rfl) (by kernel_rfl) (by kernel_rfl) (fun _ _ _ h => h) (Or.inl ⟨by rfl, ?hy5⟩) (by assumption) ?rest5
    case hy5 =>
      intro w9 hS9
      have y1 := hS9.c1
      go_simp
    try simp only [Act.put, List.setIfInBounds_toArray, List.set_cons_zero, List.set_cons_succ]
    refine wpAnyH_take (i := 7) (oi := { dst := some 108, op := _, type := _, pos := _, after := _, guard := _ }) (v := (.int .i64 z)) rfl (by kernel_rfl) (by kernel_rfl) (by kernel_rfl) (fun _ _ _ h => h) (Or.inl ⟨by rfl, ?hy6⟩) (by assumption) ?rest6
    case hy6 =>
      intro w9 hS9
      go_simp
    try simp only [Act.put, List.setIfInBounds_toArray, List.set_cons_zero, List.set_cons_succ]
    refine wpAnyH_take (i := 9) (oi := { dst := some 110, op := _, type := _, pos := _, after := _, guard := _ }) (v := (.pointer (some ⟨w.heap.size, 1, none⟩))) rfl (by kernel_rfl) (by kernel_rfl) (by kernel_rfl) (fun _ _ _ h => h) (Or.inl ⟨by rfl, ?hy7⟩) (by assumption) ?rest7
    case hy7 =>
      intro w9 hS9
      go_simp
    try simp only [Act.put, List.setIfInBounds_toArray, List.set_cons_zero, List.set_cons_succ]
    refine wpAnyH_take (i := 10) (oi := { dst := some 111, op := _, type := _, pos := _, after := _, guard := _ }) (v := (.string o.path)) rfl (by kernel_rfl) (by kernel_rfl) (by kernel_rfl) (fun _ _ _ h => h) (Or.inl ⟨by rfl, ?hy8⟩) (by assumption) ?rest8
    case hy8 =>
      intro w9 hS9
      have y1 := hS9.c1
      go_simp
    try simp only [Act.put, List.setIfInBounds_toArray, List.set_cons_zero, List.set_cons_succ]
    refine wpAnyH_ready (rs := [3]) (by kernel_rfl) (by simp) ?_
    refine AllReadyH.cons (o := { dst := some 104, op := _, type := _, pos := _, after := _, guard := _ }) rfl (fun K hK => ?_) AllReadyH.nil
    go_simp
    refine (without_any G0 _ ns o.path (HR.out.below BD.out) (by omega)).mono ?_
    rintro e G1 ⟨v7, rfl, o7, bA⟩
    obtain ⟨a7, k7, hv7⟩ := o7.slice
    subst hv7
    have R7 := o7.rd
    have F7 : New w (.slice a7 (woN ns o.path).length k7) := OwnN.new9 o7 BD.out.size
    have A2 := BoxO.below hHeld bA
    have BE : Hid (Below w.heap.size w G1) := BD.out.trans (bA.mono BD.out.size)
    clear o7 bA
    refine hK.out _ _ (A2) (fun hx9 => ?_)
    clear hK K hHeld hx9
    have hHeld := A2
    try simp only [Act.put, List.setIfInBounds_toArray, List.set_cons_zero, List.set_cons_succ]
    refine wpAnyH_ready (rs := [6]) (by kernel_rfl) (by simp) ?_
    refine AllReadyH.cons (o := { dst := some 107, op := _, type := _, pos := _, after := _, guard := _ }) rfl (fun K hK => ?_) AllReadyH.nil
    go_simp
    refine (l3Parent_any G1 o.path HPK.out).mono ?_
    rintro e G2 ⟨rfl, bA⟩
    have A3 := A2.below bA
    replace R7 := R7.below bA
    have BF : Hid (Below w.heap.size w G2) := BE.out.trans (bA.mono BE.out.size)
    clear bA
    refine hK.out _ _ (A3) (fun hx9 => ?_)
    clear hK K hHeld hx9
    have hHeld := A3
    try simp only [Act.put, List.setIfInBounds_toArray, List.set_cons_zero, List.set_cons_succ]
    refine wpAnyH_ready (rs := [8]) (by kernel_rfl) (by simp) ?_
    refine AllReadyH.cons (o := { dst := some 109, op := _, type := _, pos := _, after := _, guard := _ }) rfl (fun K hK => ?_) AllReadyH.nil
    go_simp
    refine (l3Touch_any G2 _ (woN ns o.path) (parB o.path) z R7 (by have := woN_len ns o.path; omega) (cv_at (fun m hm => cv_of HOK.out m (List.mem_filter.1 hm).1))).mono ?_
    rintro e G3 ⟨v8, rfl, r8, f8, bA⟩
    obtain ⟨a8, k8, hv8, -, -⟩ := r8.len
    subst hv8
    have A4 := A3.below bA
    have BG : Hid (Below w.heap.size w G3) := BF.out.trans (bA.mono BF.out.size)
    clear bA
    refine hK.out _ _ (A4) (fun hx9 => ?_)
    clear hK K hHeld hx9
    have hHeld := A4
    try simp only [Act.put, List.setIfInBounds_toArray, List.set_cons_zero, List.set_cons_succ]
    refine wpAnyH_take (i := 11) (oi := { dst := some 6, op := _, type := _, pos := _, after := _, guard := _ }) (v := (.int .i64 0)) rfl (by kernel_rfl) (by kernel_rfl) (by kernel_rfl) (fun _ _ _ h => h) (Or.inl ⟨by rfl, ?hy9⟩) (by assumption) ?rest9
    case hy9 =>
      intro w9 hS9
      go_simp
    try simp only [Act.put, List.setIfInBounds_toArray, List.set_cons_zero, List.set_cons_succ]
    refine wpAnyH_take (i := 12) (oi := { dst := some 7, op := _, type := _, pos := _, after := _, guard := _ }) (v := (.slice a8 (toN (woN ns o.path) (parB o.path) z).length k8)) rfl (by kernel_rfl) (by kernel_rfl) (by kernel_rfl) (fun _ _ _ h => h) (Or.inl ⟨by rfl, ?hy10⟩) (by assumption) ?rest10
    case hy10 =>
      intro w9 hS9
      go_simp
    try simp only [Act.put, List.setIfInBounds_toArray, List.set_cons_zero, List.set_cons_succ]
    refine wpAnyH_take (i := 13) (oi := { dst := some 8, op := _, type := _, pos := _, after := _, guard := _ }) (v := (.string o.path)) rfl (by kernel_rfl) (by kernel_rfl) (by kernel_rfl) (fun _ _ _ h => h) (Or.inl ⟨by rfl, ?hy11⟩) (by assumption) ?rest11
    case hy11 =>
      intro w9 hS9
      go_simp
    try simp only [Act.put, List.setIfInBounds_toArray, List.set_cons_zero, List.set_cons_succ]
    refine wpAnyH_done (by kernel_rfl) ?_ _
    clear hHeld
    have R8 : Hid (RdN G3 (.slice a8 (toN (woN ns o.path) (parB o.path) z).length k8) (toN (woN ns o.path) (parB o.path) z)) := r8
    have F8 : Hid (New w (.slice a8 (toN (woN ns o.path) (parB o.path) z).length k8)) := f8.new F7 BF.out.size
    clear A2 A3 A4 R7 F7 f8 r8 BD BE BF
    go_wp2
    exact bodyPost_ret (v := .tuple #[.int .i64 0, .slice a8 (toN (woN ns o.path) (parB o.path) z).length k8, .string o.path]) (by simp [results, Tryz.results32, go_sem]) rfl ⟨_, by rw [HD.out], by rw [HD.out]; exact R8.out, .inr F8.out, BG.out⟩
  · go_wp2
    go_quiet (fail)
    have BQ : Hid (Below w.heap.size w (w3.drewN nq)) := B1.out.trans ((below_drewN' w3 nq).mono B1.out.size)
    have XQ : Hid (BoxO (w3.drewN nq) w.heap.size o) := X1.out.below (below_drewN' w3 nq)
    clear xl c0 c1 c2 c3 c4 a2
    generalize w3.drewN nq = wq at *
    obtain ⟨xl, c0, c1, c2, c3, c4⟩ := XQ.out
    go_wp2_with fail
    refine (l3Below_any wq _ ns o.path (HR.out.below BQ.out) hn HOK.out).mono ?_
    rintro e w9 ⟨v9, rfl, o9, b9⟩
    obtain ⟨a9, k9, hv9⟩ := o9.slice
    subst hv9
    have B9 : Hid (Below w.heap.size w w9) := BQ.out.trans (b9.mono BQ.out.size)
    have X9 : Hid (BoxO w9 w.heap.size o) := XQ.out.below b9
    clear b9 o9 BQ XQ xl c0 c1 c2 c3 c4
    by_cases hch : 0 < (chN ns o.path).length
    · rw [if_pos hch] at HD
      have hchI : (0 : Int) < ((chN ns o.path).length : Int) := by omega
      go_wp2
      exact bodyPost_ret (v := .tuple #[.int .i64 5, .slice (some ⟨b, oo, none⟩) ns.length ca, .string ⟨#[]⟩]) (by simp [results, Tryz.results32, go_sem]) rfl ⟨_, by rw [HD.out], by rw [HD.out]; exact HR.out.below B9.out, .inl rfl, B9.out⟩
    rw [if_neg hch] at HD
    have hchI : ¬ (0 : Int) < ((chN ns o.path).length : Int) := by omega
    go_wp2_with fail
    refine wp_region_held_drew (S := fun W => BoxO W w.heap.size o) (by kernel_rfl) (X9.out.below (below_drewN' w9 1)) (fun hHeld => ?_)
    have BD : Hid (Below w.heap.size w w9.drew) := B9.out.trans ((below_drewN' w9 1).mono B9.out.size)
    clear X9 B9
    generalize w9.drew = G0 at *
    refine wpAnyH_take (i := 0) (oi := { dst := some 101, op := _, type := _, pos := _, after := _, guard := _ }) (v := (.slice (some ⟨b, oo, none⟩) ns.length ca)) rfl (by kernel_rfl) (by kernel_rfl) (by kernel_rfl) (fun _ _ _ h => h) (Or.inl ⟨by rfl, ?hyb1⟩) (by assumption) ?restb1
    case hyb1 =>
      intro w9 hS9
      go_simp
    try simp only [Act.put, List.setIfInBounds_toArray, List.set_cons_zero, List.set_cons_succ]
    refine wpAnyH_take (i := 1) (oi := { dst := some 102, op := _, type := _, pos := _, after := _, guard := _ }) (v := (.pointer (some ⟨w.heap.size, 1, none⟩))) rfl (by kernel_rfl) (by kernel_rfl) (by kernel_rfl) (fun _ _ _ h => h) (Or.inl ⟨by rfl, ?hyb2⟩) (by assumption) ?restb2
    case hyb2 =>
      intro w9 hS9
      go_simp
    try simp only [Act.put, List.setIfInBounds_toArray, List.set_cons_zero, List.set_cons_succ]
    refine wpAnyH_take (i := 2) (oi := { dst := some 103, op := _, type := _, pos := _, after := _, guard := _ }) (v := (.string o.path)) rfl (by kernel_rfl) (by kernel_rfl) (by kernel_rfl) (fun _ _ _ h => h) (Or.inl ⟨by rfl, ?hyb3⟩) (by assumption) ?restb3
    case hyb3 =>
      intro w9 hS9
      have y1 := hS9.c1
      go_simp
    try simp only [Act.put, List.setIfInBounds_toArray, List.set_cons_zero, List.set_cons_succ]
    refine wpAnyH_take (i := 4) (oi := { dst := some 105, op := _, type := _, pos := _, after := _, guard := _ }) (v := (.pointer (some ⟨w.heap.size, 1, none⟩))) rfl (by kernel_rfl) (by kernel_rfl) (by kernel_rfl) (fun _ _ _ h => h) (Or.inl ⟨by rfl, ?hyb4⟩) (by assumption) ?restb4
    case hyb4 =>
      intro w9 hS9
      go_simp
    try simp only [Act.put, List.setIfInBounds_toArray, List.set_cons_zero, List.set_cons_succ]
    refine wpAnyH_take (i := 5) (oi := { dst := some 106, op := _, type := _, pos := _, after := _, guard := _ }) (v := (.string o.path)) rfl (by kernel_rfl) (by kernel_rfl) (by kernel_rfl) (fun _ _ _ h => h) (Or.inl ⟨by rfl, ?hyb5⟩) (by assumption) ?restb5
    case hyb5 =>
      intro w9 hS9
      have y1 := hS9.c1
      go_simp
    try simp only [Act.put, List.setIfInBounds_toArray, List.set_cons_zero, List.set_cons_succ]
    refine wpAnyH_take (i := 7) (oi := { dst := some 108, op := _, type := _, pos := _, after := _, guard := _ }) (v := (.int .i64 z)) rfl (by kernel_rfl) (by kernel_rfl) (by kernel_rfl) (fun _ _ _ h => h) (Or.inl ⟨by rfl, ?hyb6⟩) (by assumption) ?restb6
    case hyb6 =>
      intro w9 hS9
      go_simp
    try simp only [Act.put, List.setIfInBounds_toArray, List.set_cons_zero, List.set_cons_succ]
    refine wpAnyH_take (i := 9) (oi := { dst := some 110, op := _, type := _, pos := _, after := _, guard := _ }) (v := (.pointer (some ⟨w.heap.size, 1, none⟩))) rfl (by kernel_rfl) (by kernel_rfl) (by kernel_rfl) (fun _ _ _ h => h) (Or.inl ⟨by rfl, ?hyb7⟩) (by assumption) ?restb7
    case hyb7 =>
      intro w9 hS9
      go_simp
    try simp only [Act.put, List.setIfInBounds_toArray, List.set_cons_zero, List.set_cons_succ]
    refine wpAnyH_take (i := 10) (oi := { dst := some 111, op := _, type := _, pos := _, after := _, guard := _ }) (v := (.string o.path)) rfl (by kernel_rfl) (by kernel_rfl) (by kernel_rfl) (fun _ _ _ h => h) (Or.inl ⟨by rfl, ?hyb8⟩) (by assumption) ?restb8
    case hyb8 =>
      intro w9 hS9
      have y1 := hS9.c1
      go_simp
    try simp only [Act.put, List.setIfInBounds_toArray, List.set_cons_zero, List.set_cons_succ]
    refine wpAnyH_ready (rs := [3]) (by kernel_rfl) (by simp) ?_
    refine AllReadyH.cons (o := { dst := some 104, op := _, type := _, pos := _, after := _, guard := _ }) rfl (fun K hK => ?_) AllReadyH.nil
    go_simp
    refine (without_any G0 _ ns o.path (HR.out.below BD.out) (by omega)).mono ?_
    rintro e G1 ⟨v7, rfl, o7, bA⟩
    obtain ⟨a7, k7, hv7⟩ := o7.slice
    subst hv7
    have R7 := o7.rd
    have F7 : New w (.slice a7 (woN ns o.path).length k7) := OwnN.new9 o7 BD.out.size
    have A2 := BoxO.below hHeld bA
    have BE : Hid (Below w.heap.size w G1) := BD.out.trans (bA.mono BD.out.size)
    clear o7 bA
    refine hK.out _ _ (A2) (fun hx9 => ?_)
    clear hK K hHeld hx9
    have hHeld := A2
    try simp only [Act.put, List.setIfInBounds_toArray, List.set_cons_zero, List.set_cons_succ]
    refine wpAnyH_ready (rs := [6]) (by kernel_rfl) (by simp) ?_
    refine AllReadyH.cons (o := { dst := some 107, op := _, type := _, pos := _, after := _, guard := _ }) rfl (fun K hK => ?_) AllReadyH.nil
    go_simp
    refine (l3Parent_any G1 o.path HPK.out).mono ?_
    rintro e G2 ⟨rfl, bA⟩
    have A3 := A2.below bA
    replace R7 := R7.below bA
    have BF : Hid (Below w.heap.size w G2) := BE.out.trans (bA.mono BE.out.size)
    clear bA
    refine hK.out _ _ (A3) (fun hx9 => ?_)
    clear hK K hHeld hx9
    have hHeld := A3
    try simp only [Act.put, List.setIfInBounds_toArray, List.set_cons_zero, List.set_cons_succ]
    refine wpAnyH_ready (rs := [8]) (by kernel_rfl) (by simp) ?_
    refine AllReadyH.cons (o := { dst := some 109, op := _, type := _, pos := _, after := _, guard := _ }) rfl (fun K hK => ?_) AllReadyH.nil
    go_simp
    refine (l3Touch_any G2 _ (woN ns o.path) (parB o.path) z R7 (by have := woN_len ns o.path; omega) (cv_at (fun m hm => cv_of HOK.out m (List.mem_filter.1 hm).1))).mono ?_
    rintro e G3 ⟨v8, rfl, r8, f8, bA⟩
    obtain ⟨a8, k8, hv8, -, -⟩ := r8.len
    subst hv8
    have A4 := A3.below bA
    have BG : Hid (Below w.heap.size w G3) := BF.out.trans (bA.mono BF.out.size)
    clear bA
    refine hK.out _ _ (A4) (fun hx9 => ?_)
    clear hK K hHeld hx9
    have hHeld := A4
    try simp only [Act.put, List.setIfInBounds_toArray, List.set_cons_zero, List.set_cons_succ]
    refine wpAnyH_take (i := 11) (oi := { dst := some 6, op := _, type := _, pos := _, after := _, guard := _ }) (v := (.int .i64 0)) rfl (by kernel_rfl) (by kernel_rfl) (by kernel_rfl) (fun _ _ _ h => h) (Or.inl ⟨by rfl, ?hyb9⟩) (by assumption) ?restb9
    case hyb9 =>
      intro w9 hS9
      go_simp
    try simp only [Act.put, List.setIfInBounds_toArray, List.set_cons_zero, List.set_cons_succ]
    refine wpAnyH_take (i := 12) (oi := { dst := some 7, op := _, type := _, pos := _, after := _, guard := _ }) (v := (.slice a8 (toN (woN ns o.path) (parB o.path) z).length k8)) rfl (by kernel_rfl) (by kernel_rfl) (by kernel_rfl) (fun _ _ _ h => h) (Or.inl ⟨by rfl, ?hyb10⟩) (by assumption) ?restb10
    case hyb10 =>
      intro w9 hS9
      go_simp
    try simp only [Act.put, List.setIfInBounds_toArray, List.set_cons_zero, List.set_cons_succ]
    refine wpAnyH_take (i := 13) (oi := { dst := some 8, op := _, type := _, pos := _, after := _, guard := _ }) (v := (.string o.path)) rfl (by kernel_rfl) (by kernel_rfl) (by kernel_rfl) (fun _ _ _ h => h) (Or.inl ⟨by rfl, ?hyb11⟩) (by assumption) ?restb11
    case hyb11 =>
      intro w9 hS9
      go_simp
    try simp only [Act.put, List.setIfInBounds_toArray, List.set_cons_zero, List.set_cons_succ]
    refine wpAnyH_done (by kernel_rfl) ?_ _
    clear hHeld
    have R8 : Hid (RdN G3 (.slice a8 (toN (woN ns o.path) (parB o.path) z).length k8) (toN (woN ns o.path) (parB o.path) z)) := r8
    have F8 : Hid (New w (.slice a8 (toN (woN ns o.path) (parB o.path) z).length k8)) := f8.new F7 BF.out.size
    clear A2 A3 A4 R7 F7 f8 r8 BD BE BF
    go_wp2
    exact bodyPost_ret (v := .tuple #[.int .i64 0, .slice a8 (toN (woN ns o.path) (parB o.path) z).length k8, .string o.path]) (by simp [results, Tryz.results32, go_sem]) rfl ⟨_, by rw [HD.out], by rw [HD.out]; exact R8.out, .inr F8.out, BG.out⟩


theorem wfO_kind {o : Op5} (h : wfO o = true) : o.kind = 1 ∨ o.kind = 2 ∨ o.kind = 3 ∨ o.kind = 4 := by
  unfold wfO at h
  simp only [Bool.and_eq_true, decide_eq_true_eq] at h
  omega
/-- One operation of the model, whatever it is. -/
theorem l3Do_any (w : World) (v : Value) (ns : List Nd) (o : Op5) (z : Int) (h : RdN w v ns) (hn : ns.length ≤ 1000) (hok : ∀ k, k < ns.length → okNd (nAt ns k) = true) (hp : o.path.size ≤ 1048576) (hd : o.data.size ≤ 1048576) :
    Calls Tryz.prog 32 #[v, .agg #[.int .i64 o.kind, .string o.path, .string o.data, .int .i64 o.ver, .bool o.seq], .int .i64 z] w fun e w' => DoPost w v ns o z e w' := by
  cases hw : wfO o with
  | false => exact l3Do_bad w v ns o z h hp hd hw
  | true =>
    rcases wfO_kind hw with hk | hk | hk | hk
    · exact l3Do_create w v ns o z h hn hok hp hd hw hk
    · exact l3Do_delete w v ns o z h hn hok hp hd hw hk
    · exact l3Do_set w v ns o z h hn hok hp hd hw hk
    · exact l3Do_check w v ns o z h hn hp hd hw hk


/-- The one that is deleted, by its place. -/
theorem wo_erase {ns : List Nd} (h : Asc ns) {p : ByteArray} (hl : ns.findIdx (isP p) < ns.length) : woN ns p = ns.eraseIdx (ns.findIdx (isP p)) := by
  obtain ⟨h1, h2⟩ := idx_some h hl
  have e := wo_all [] ns p (fun a ha => by simp at ha) h
  rw [List.nil_append, List.nil_append] at e
  rw [e, List.eraseIdx_eq_take_drop_succ, h2]
  unfold skp
  rw [h1, if_pos rfl]
theorem ch_any (ns : List Nd) (p : ByteArray) : (0 < (chN ns p).length) ↔ ns.any (fun m => chB m.path p) = true := by
  unfold chN
  rw [List.length_pos_iff_exists_mem, List.any_eq_true]
  constructor
  · rintro ⟨a, ha⟩
    obtain ⟨h1, h2⟩ := List.mem_filter.1 ha
    exact ⟨a, h1, h2⟩
  · rintro ⟨a, h1, h2⟩
    exact ⟨a, List.mem_filter.2 ⟨h1, h2⟩⟩
theorem rem_good {ns : List Nd} {o : Op5} {z : Int} (hw : wfO o = true) (hk : o.kind = 2) {I : Nat} (hs : Asc ns) (hv : wanV ns o = #[.int .i64 (I : Int), .nilIface]) : I < ns.length ∧ (ns.any (fun m => chB m.path o.path) = true → doO ns o z = (5, ns, ⟨#[]⟩)) ∧ (ns.any (fun m => chB m.path o.path) = false → woN ns o.path = ns.eraseIdx I ∧ doO ns o z = (0, toN (ns.eraseIdx I) (parB o.path) z, o.path)) := by
  unfold wanV at hv
  unfold doO
  rw [hw, if_neg (by simp), if_neg (by omega)]
  split at hv
  · simp [flt] at hv
  · rename_i h1
    rw [if_neg h1]
    split at hv
    · simp [flt] at hv
    · rename_i h2
      rw [if_neg h2, if_pos hk]
      have hI : ns.findIdx (isP o.path) = I := by simp at hv; omega
      have hl : ns.findIdx (isP o.path) < ns.length := by omega
      refine ⟨by omega, fun ha => ?_, fun ha => ?_⟩
      · rw [if_pos ((ch_any ns o.path).2 ha)]
      · have e := wo_erase hs hl
        rw [hI] at e
        rw [if_neg (fun h => by have := (ch_any ns o.path).1 h; rw [ha] at this; cases this), e]
        exact ⟨rfl, rfl⟩
theorem count_any (w : World) (D lo : Nat) (z : Int) (v : Value) (ns : List Nd) (s : ByteArray) (h : Df w D lo z v ns) (hs : okPath s = true) (hz : okS z = true) :
    Calls Tryz.prog 109 #[.pointer (some ⟨D, 0, none⟩), .string s] w (CntPost w D lo z v ns (parB s)) := by
  by_cases hl : ns.findIdx (isP (parB s)) < ns.length
  · exact count_some w D lo z v ns s h hs hz hl
  · refine (count_none w D lo z v ns s h hs hl).mono ?_
    rintro e w' ⟨rfl, b⟩
    refine ⟨rfl, ?_, Tw.ofBelow b _ _⟩
    rw [to_none hl]
    exact h.below b

set_option linter.unusedSimpArgs false in
set_option maxHeartbeats 2000000 in
set_option maxRecDepth 100000 in
theorem remove_judge (w : World) (D lo : Nat) (z : Int) (v : Value) (ns : List Nd) (o : Op5) (h : Df w D lo z v ns) (hw : wfO o = true) (hk : o.kind = 2) (hz : okS z = true) :
    Calls Tryz.prog 93 #[.pointer (some ⟨D, 0, none⟩), .agg #[.int .i64 o.kind, .string o.path, .string o.data, .int .i64 o.ver, .bool o.seq]] w (JP w D lo z v (doO ns o z)) := by
  have B0 : Hid (Below w.heap.size w (w.alloc (.cells #[.int .i64 o.kind, .string o.path, .string o.data, .int .i64 o.ver, .bool o.seq] 40))) := (Below.refl _ _).alloc (Nat.le_refl _) _
  have XO : Hid (St (w.alloc (.cells #[.int .i64 o.kind, .string o.path, .string o.data, .int .i64 o.ver, .bool o.seq] 40)) w.heap.size [.int .i64 o.kind, .string o.path, .string o.data, .int .i64 o.ver, .bool o.seq]) := St.new _ _ _
  have XD := hd9 (h.below B0.out)
  have hlt := h.s.lt
  have HLT : Hid (∀ q, v.ownBlock = some q → lo ≤ q ∧ q < w.heap.size) := World.ownsRow.lt h.o
  have HPT := hd9 (wfO_path hw).1
  have HZ := hd9 hz
  have HW : Hid (∀ W, Below w.heap.size w W → Calls Tryz.prog 110 #[.pointer (some ⟨D, 0, none⟩), .agg #[.int .i64 o.kind, .string o.path, .string o.data, .int .i64 o.ver, .bool o.seq]] W fun e w' => e = .returned (.tuple (wanV ns o)) ∧ Below W.heap.size W w') := fun W hW => wanted_any W D lo z v ns o (h.below hW)
  have HV : Hid ((∃ c : Int, c ≠ 0 ∧ wanV ns o = #[.int .i64 0, flt c]) ∨ ∃ I : Nat, wanV ns o = #[.int .i64 (I : Int), .nilIface]) := by
    unfold wanV
    split
    · exact .inl ⟨2, by omega, rfl⟩
    · split
      · exact .inl ⟨4, by omega, rfl⟩
      · exact .inr ⟨_, rfl⟩
  have HB : Hid (∀ c : Int, c ≠ 0 → wanV ns o = #[.int .i64 0, flt c] → doO ns o z = (c, ns, ⟨#[]⟩)) := fun c hc hv => set_bad hw (.inr hk) hc hv
  have HG : Hid (∀ I : Nat, wanV ns o = #[.int .i64 (I : Int), .nilIface] → I < ns.length ∧ (ns.any (fun m => chB m.path o.path) = true → doO ns o z = (5, ns, ⟨#[]⟩)) ∧ (ns.any (fun m => chB m.path o.path) = false → woN ns o.path = ns.eraseIdx I ∧ doO ns o z = (0, toN (ns.eraseIdx I) (parB o.path) z, o.path))) := fun I hv => rem_good hw hk h.n.1 hv
  clear h hw hk hz
  go_enter Tryz.func93, Tryz.ntmps93
  go_wp2_with fail
  generalize w.alloc _ = w0 at *
  refine (HW.out _ B0.out).mono ?_
  rintro e w1 ⟨rfl, b1⟩
  have B1 := hd9 (B0.out.trans (b1.mono B0.out.size))
  have X1 := hd9 (XO.out.below b1)
  have D1 := hd9 (XD.out.below b1)
  clear b1 B0 XO HW XD
  rcases HV.out with ⟨c, hc, e1⟩ | ⟨I, e1⟩
  · have HE := hd9 (HB.out c hc e1)
    rw [e1]
    clear e1 HV HB HG
    unfold flt
    go_wp2_with fail
    rw [HE.out]
    refine bodyPost_ret (v := .tuple #[.string ByteArray.empty, flt c]) (by simp [results, Tryz.results93, go_sem, flt]; try rfl) rfl ⟨v, ?_, D1.out, Tw.ofBelow B1.out _ _⟩
    unfold JV
    rw [if_neg hc]
  · obtain ⟨hl, e2⟩ := HG.out I e1
    have HE := hd9 e2
    rw [e1]
    clear e1 e2 HV HB HG
    have hL : (I : Int) < (ns.length : Int) := by omega
    have hg0 : (0 : Int) ≤ (I : Int) := by omega
    obtain ⟨g, gc, hv, hlo, hgl, hce⟩ := D1.out.o.at hl
    subst hv
    have c0 := D1.out.s.cl 0 _ rfl
    have HCF := hd9 (conF_row w1 g ns.length gc w.heap.size ns o.path rfl D1.out.n.2.2 hgl hce (fun m hm => okNd_path (D1.out.n.2.1 m hm)) X1.out.lt (X1.out.cl 1 _ rfl))
    clear hce
    go_wp2_with fail
    refine HCF.out.mono ?_
    rintro e w2 ⟨rfl, b2⟩
    have B2 := hd9 (B1.out.trans (b2.mono B1.out.size))
    have X2 := hd9 (X1.out.below b2)
    have D2 := hd9 (D1.out.below b2)
    clear b2 HCF B1 X1 D1 c0
    cases hAny : ns.any (fun m => chB m.path o.path) with
    | true =>
      have HE2 := hd9 (HE.out.1 hAny)
      clear hAny HE
      go_wp2_with fail
      rw [HE2.out]
      exact bodyPost_ret (v := .tuple #[.string ByteArray.empty, flt 5]) (by simp [results, Tryz.results93, go_sem, flt]; try rfl) rfl ⟨_, rfl, D2.out, Tw.ofBelow B2.out _ _⟩
    | false =>
      have HE2 := hd9 (HE.out.2 hAny)
      clear hAny HE
      have c0 := D2.out.s.cl 0 _ rfl
      have HDL := hd9 (delete_any w2 lo g gc ns I D2.out.o hl D2.out.n.2.2)
      have hgD : g ≠ D := fun e => D2.out.ne (by rw [e]; rfl)
      have hgw : g < w.heap.size := (HLT.out g rfl).2
      have hw1 : IntKind.i64.wrap ((I : Int) + 1) = (I : Int) + 1 := by have := D2.out.n.2.2; rw [IntKind.wrap_i64]; omega
      go_wp2_with fail
      refine HDL.out.mono ?_
      rintro e w3 ⟨rfl, o3, t3⟩
      have S3 := hd9 ((t3 g).st D2.out.s hgD.symm (fun e => hgD (Option.some.inj e)))
      have X3 := hd9 ((t3 g).st X2.out (by omega) (fun e => by have := Option.some.inj e; omega))
      have O3 := hd9 o3
      have T3 := hd9 ((Tw.ofBelow B2.out D (some g)).trans (t3 D))
      clear o3 t3 c0 HDL
      have c3 := S3.out.cl 0 _ rfl
      have f3 := S3.out.fz 0
      have x3 := X3.out.cl 1 _ rfl
      have hDb : ¬ w.heap.size = D := by omega
      have HCN : Hid (∀ W, W = w3.setCell ⟨D, 0, none⟩ (.slice (some ⟨g, 0, none⟩) (ns.eraseIdx I).length gc) → Calls Tryz.prog 109 #[.pointer (some ⟨D, 0, none⟩), .string o.path] W (CntPost W D lo z (.slice (some ⟨g, 0, none⟩) (ns.eraseIdx I).length gc) (ns.eraseIdx I) (parB o.path))) := by
        intro W hW
        subst hW
        refine count_any _ D lo z _ _ o.path ⟨?_, O3.out.setO (fun e => hgD (Option.some.inj e)) _, fun e => hgD (Option.some.inj e), ?_⟩ HPT.out HZ.out
        · exact S3.out.set 0 _
        · rw [← HE2.out.1]; exact D2.out.n.wo o.path
      go_wp2_with (go_at_call 109; refine (HCN.out _ rfl).mono ?_)
      rintro e w5 ⟨rfl, d5, t5⟩
      have D5 := hd9 d5
      have T5 := hd9 ((T3.out.set (j := 0) (x := .slice (some ⟨g, 0, none⟩) (ns.eraseIdx I).length gc)).trans t5)
      have x5 := (t5.st (X3.out.other (c := D) (j := 0) (x := .slice (some ⟨g, 0, none⟩) (ns.eraseIdx I).length gc) hDb) hDb (fun e => by have : g = w.heap.size := Option.some.inj e; omega)).cl 1 _ rfl
      clear d5 t5 HCN
      go_wp2_with fail
      rw [HE2.out.2]
      exact bodyPost_ret (v := .tuple #[.string o.path, .nilIface]) (by simp [results, Tryz.results93, go_sem]) rfl ⟨_, rfl, D5.out, T5.out⟩

end Go.Proofs.YtdiingonnddkcaaGreatDoor


