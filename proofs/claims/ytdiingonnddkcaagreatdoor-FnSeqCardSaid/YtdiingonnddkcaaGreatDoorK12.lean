import Derived.Test.YtdiingonnddkcaaGreatDoorK11
import Derived.Deep.RegionHeld3
import Derived.Deep.QuietTactic
import Derived.Test.YtdiingonnddkcaaGreatDoorK03
import Derived.Test.YtdiingonnddkcaaGreatDoorK07
namespace Go.Proofs.YtdiingonnddkcaaGreatDoor
open Go.RowKit Go.Shelf

set_option maxHeartbeats 2000000 in
set_option maxRecDepth 100000 in
theorem l3Do_delete (w : World) (v : Value) (ns : List Nd) (o : Op5) (z : Int) (h : RdN w v ns) (hn : ns.length ≤ 1000) (hok : ∀ k, k < ns.length → okNd (nAt ns k) = true) (hp : o.path.size ≤ 1048576) (hd : o.data.size ≤ 1048576) (hw : wfO o = true) (hk : o.kind = 2) :
    Calls Tryz.prog 32 #[v, .agg #[.int .i64 o.kind, .string o.path, .string o.data, .int .i64 o.ver, .bool o.seq], .int .i64 z] w fun e w' => DoPost w v ns o z e w' := by
  obtain ⟨ao, ca, rfl, _, _⟩ := h.len
  have HR : Hid (RdN w (.slice ao ns.length ca) ns) := h
  have HW : Hid (wfO o = true) := hw
  have hk1 : (o.kind == 1) = false := by simp [hk]
  have hk2 : (o.kind == 2) = true := by simp [hk]
  have HOK : Hid (∀ k, k < ns.length → okNd (nAt ns k) = true) := hok
  have HPK : Hid (okPath o.path = true) := (wfO_path hw).1
  have HD : Hid (doO ns o z = if ¬ ns.findIdx (isP o.path) < ns.length then (2, ns, ⟨#[]⟩)
    else if o.ver ≠ -1 ∧ o.ver ≠ (nAt ns (ns.findIdx (isP o.path))).ver then (4, ns, ⟨#[]⟩)
    else if 0 < (chN ns o.path).length then (5, ns, ⟨#[]⟩) else (0, toN (woN ns o.path) (parB o.path) z, o.path)) := by
    show _ = _
    unfold doO
    rw [hw, if_neg (by simp), if_neg (show ¬ o.kind = 1 by omega), if_pos hk]
  have B0 : Hid (Below w.heap.size w (w.alloc (.cells #[.int .i64 o.kind, .string o.path, .string o.data, .int .i64 o.ver, .bool o.seq] 40))) := (Below.refl _ _).alloc (Nat.le_refl _) _
  have X0 : Hid (BoxO (w.alloc (.cells #[.int .i64 o.kind, .string o.path, .string o.data, .int .i64 o.ver, .bool o.seq] 40)) w.heap.size o) := BoxO.new _ _ _
  clear h hw hk hok
  go_enter Tryz.func32, Tryz.ntmps32
  go_wp2_with fail
  generalize w.alloc (.cells #[.int .i64 o.kind, .string o.path, .string o.data, .int .i64 o.ver, .bool o.seq] 40) = w0 at *
  refine (l3Well_any _ o hp hd).mono ?_
  rintro e w1 ⟨rfl, b1⟩
  rw [HW.out]
  have B1 : Hid (Below w.heap.size w w1) := B0.out.trans (b1.mono B0.out.size)
  have X1 : Hid (BoxO w1 w.heap.size o) := X0.out.below b1
  clear b1 B0 X0
  obtain ⟨xl, c0, c1, c2, c3, c4⟩ := X1.out
  go_wp2_with fail
  clear xl c0 c1 c2 c3 c4
  refine (l3Find_any w1 _ ns o.path (HR.out.below B1.out) (by omega)).mono ?_
  rintro e w3 ⟨rfl, rfl⟩
  by_cases hf : ns.findIdx (isP o.path) < ns.length
  rotate_left
  · rw [if_pos hf] at HD
    rw [show fdV ns o.path = -1 by unfold fdV; rw [if_neg hf]]
    clear hf
    go_wp2
    exact bodyPost_ret (v := .tuple #[.int .i64 2, .slice ao ns.length ca, .string ⟨#[]⟩]) (by simp [results, Tryz.results32, go_sem]) rfl ⟨_, by rw [HD.out], by rw [HD.out]; exact HR.out.below B1.out, .inl rfl, B1.out⟩
  rw [if_neg (by simpa using hf)] at HD
  rw [show fdV ns o.path = ((ns.findIdx (isP o.path) : Nat) : Int) by unfold fdV; rw [if_pos hf]]
  generalize ns.findIdx (isP o.path) = k at *
  have hI : ¬ (k : Int) < 0 := by omega
  have hkI : (k : Int) < (ns.length : Int) := by omega
  obtain ⟨b, oo, hao, hb, hc⟩ : ∃ b o, ao = some ⟨b, o, none⟩ ∧ b < w.heap.size ∧ CellsN w b (o + k * 7) (nAt ns k) := by
    obtain ⟨ao', cap', e', -, -, h3⟩ := HR.out
    simp only [Value.slice.injEq] at e'
    obtain ⟨rfl, -, -⟩ := e'
    rcases h3 with h3 | ⟨b, o, rfl, hb, hc⟩
    · rw [h3] at hf; simp at hf
    · exact ⟨b, o, rfl, hb, hc k hf⟩
  subst hao
  obtain ⟨a0, a1, a2, a3, a4, a5, a6⟩ := hc.below B1.out hb
  generalize nAt ns k = m at *
  clear hc a0 a1 a3 a4 a5 a6
  obtain ⟨xl, c0, c1, c2, c3, c4⟩ := X1.out
  by_cases hv : o.ver ≠ -1 ∧ o.ver ≠ m.ver
  · rw [if_pos hv] at HD
    have hv1 : (o.ver != -1) = true := by simpa using hv.1
    have hv2 : (o.ver != m.ver) = true := by simpa using hv.2
    clear hv
    go_wp2
    go_quiet (fail)
    have BQ : Hid (Below w.heap.size w (w3.drewN nq)) := B1.out.trans ((below_drewN' w3 nq).mono B1.out.size)
    go_wp2
    exact bodyPost_ret (v := .tuple #[.int .i64 4, .slice (some ⟨b, oo, none⟩) ns.length ca, .string ⟨#[]⟩]) (by simp [results, Tryz.results32, go_sem]) rfl ⟨_, by rw [HD.out], by rw [HD.out]; exact HR.out.below BQ.out, .inl rfl, BQ.out⟩
  rw [if_neg hv] at HD
  have hcase : (o.ver != -1) = false ∨ ((o.ver != -1) = true ∧ (o.ver != m.ver) = false) := by
    by_cases e1 : o.ver = -1
    · exact .inl (by simp [e1])
    · by_cases e2 : o.ver = m.ver
      · exact .inr ⟨by simp [e1], by simp [e2]⟩
      · exact absurd ⟨e1, e2⟩ hv
  clear hv
  rcases hcase with hv1 | ⟨hv1, hv2⟩
  · go_wp2
    go_quiet (fail)
    have BQ : Hid (Below w.heap.size w (w3.drewN nq)) := B1.out.trans ((below_drewN' w3 nq).mono B1.out.size)
    have XQ : Hid (BoxO (w3.drewN nq) w.heap.size o) := X1.out.below (below_drewN' w3 nq)
    clear xl c0 c1 c2 c3 c4 a2
    generalize w3.drewN nq = wq at *
    obtain ⟨xl, c0, c1, c2, c3, c4⟩ := XQ.out
    go_wp2_with fail
    refine (l3Below_any wq _ ns o.path (HR.out.below BQ.out) hn HOK.out).mono ?_
    rintro e w9 ⟨v9, rfl, o9, b9⟩
    obtain ⟨a9, k9, hv9⟩ := o9.slice
    subst hv9
    have B9 : Hid (Below w.heap.size w w9) := BQ.out.trans (b9.mono BQ.out.size)
    have X9 : Hid (BoxO w9 w.heap.size o) := XQ.out.below b9
    clear b9 o9 BQ XQ xl c0 c1 c2 c3 c4
    by_cases hch : 0 < (chN ns o.path).length
    · rw [if_pos hch] at HD
      have hchI : (0 : Int) < ((chN ns o.path).length : Int) := by omega
      go_wp2
      exact bodyPost_ret (v := .tuple #[.int .i64 5, .slice (some ⟨b, oo, none⟩) ns.length ca, .string ⟨#[]⟩]) (by simp [results, Tryz.results32, go_sem]) rfl ⟨_, by rw [HD.out], by rw [HD.out]; exact HR.out.below B9.out, .inl rfl, B9.out⟩
    rw [if_neg hch] at HD
    have hchI : ¬ (0 : Int) < ((chN ns o.path).length : Int) := by omega
    go_wp2_with fail
    refine wp_region_held_drew (S := fun W => BoxO W w.heap.size o) (by kernel_rfl) (X9.out.below (below_drewN' w9 1)) (fun hHeld => ?_)
    have BD : Hid (Below w.heap.size w w9.drew) := B9.out.trans ((below_drewN' w9 1).mono B9.out.size)
    clear X9 B9
    generalize w9.drew = G0 at *
    refine wpAnyH_take (i := 0) (oi := { dst := some 101, op := _, type := _, pos := _, after := _, guard := _ }) (v := (.slice (some ⟨b, oo, none⟩) ns.length ca)) rfl (by kernel_rfl) (by kernel_rfl) (by kernel_rfl) (fun _ _ _ h => h) (Or.inl ⟨by rfl, ?hy1⟩) (by assumption) ?rest1
    case hy1 =>
      intro w9 hS9
      go_simp
    try simp only [Act.put, List.setIfInBounds_toArray, List.set_cons_zero, List.set_cons_succ]
    refine wpAnyH_take (i := 1) (oi := { dst := some 102, op := _, type := _, pos := _, after := _, guard := _ }) (v := (.pointer (some ⟨w.heap.size, 1, none⟩))) rfl (by kernel_rfl) (by kernel_rfl) (by kernel_rfl) (fun _ _ _ h => h) (Or.inl ⟨by rfl, ?hy2⟩) (by assumption) ?rest2
    case hy2 =>
      intro w9 hS9
      go_simp
    try simp only [Act.put, List.setIfInBounds_toArray, List.set_cons_zero, List.set_cons_succ]
    refine wpAnyH_take (i := 2) (oi := { dst := some 103, op := _, type := _, pos := _, after := _, guard := _ }) (v := (.string o.path)) rfl (by kernel_rfl) (by kernel_rfl) (by kernel_rfl) (fun _ _ _ h => h) (Or.inl ⟨by rfl, ?hy3⟩) (by assumption) ?rest3
    case hy3 =>
      intro w9 hS9
      have y1 := hS9.c1
      go_simp
    try simp only [Act.put, List.setIfInBounds_toArray, List.set_cons_zero, List.set_cons_succ]
    refine wpAnyH_take (i := 4) (oi := { dst := some 105, op := _, type := _, pos := _, after := _, guard := _ }) (v := (.pointer (some ⟨w.heap.size, 1, none⟩))) rfl (by kernel_rfl) (by kernel_rfl) (by kernel_rfl) (fun _ _ _ h => h) (Or.inl ⟨by rfl, ?hy4⟩) (by assumption) ?rest4
    case hy4 =>
      intro w9 hS9
      go_simp
    try simp only [Act.put, List.setIfInBounds_toArray, List.set_cons_zero, List.set_cons_succ]
    refine wpAnyH_take (i := 5) (oi := { dst := some 106, op := _, type := _, pos := _, after := _, guard := _ }) (v := (.string o.path)) rfl (by kernel_rfl) (by kernel_rfl) (by kernel_rfl) (fun _ _ _ h => h) (Or.inl ⟨by rfl, ?hy5⟩) (by assumption) ?rest5
    case hy5 =>
      intro w9 hS9
      have y1 := hS9.c1
      go_simp
    try simp only [Act.put, List.setIfInBounds_toArray, List.set_cons_zero, List.set_cons_succ]
    refine wpAnyH_take (i := 7) (oi := { dst := some 108, op := _, type := _, pos := _, after := _, guard := _ }) (v := (.int .i64 z)) rfl (by kernel_rfl) (by kernel_rfl) (by kernel_rfl) (fun _ _ _ h => h) (Or.inl ⟨by rfl, ?hy6⟩) (by assumption) ?rest6
    case hy6 =>
      intro w9 hS9
      go_simp
    try simp only [Act.put, List.setIfInBounds_toArray, List.set_cons_zero, List.set_cons_succ]
    refine wpAnyH_take (i := 9) (oi := { dst := some 110, op := _, type := _, pos := _, after := _, guard := _ }) (v := (.pointer (some ⟨w.heap.size, 1, none⟩))) rfl (by kernel_rfl) (by kernel_rfl) (by kernel_rfl) (fun _ _ _ h => h) (Or.inl ⟨by rfl, ?hy7⟩) (by assumption) ?rest7
    case hy7 =>
      intro w9 hS9
      go_simp
    try simp only [Act.put, List.setIfInBounds_toArray, List.set_cons_zero, List.set_cons_succ]
    refine wpAnyH_take (i := 10) (oi := { dst := some 111, op := _, type := _, pos := _, after := _, guard := _ }) (v := (.string o.path)) rfl (by kernel_rfl) (by kernel_rfl) (by kernel_rfl) (fun _ _ _ h => h) (Or.inl ⟨by rfl, ?hy8⟩) (by assumption) ?rest8
    case hy8 =>
      intro w9 hS9
      have y1 := hS9.c1
      go_simp
    try simp only [Act.put, List.setIfInBounds_toArray, List.set_cons_zero, List.set_cons_succ]
    refine wpAnyH_ready (rs := [3]) (by kernel_rfl) (by simp) ?_
    refine AllReadyH.cons (o := { dst := some 104, op := _, type := _, pos := _, after := _, guard := _ }) rfl (fun K hK => ?_) AllReadyH.nil
    go_simp
    refine (without_any G0 _ ns o.path (HR.out.below BD.out) (by omega)).mono ?_
    rintro e G1 ⟨v7, rfl, o7, bA⟩
    obtain ⟨a7, k7, hv7⟩ := o7.slice
    subst hv7
    have R7 := o7.rd
    have F7 : New w (.slice a7 (woN ns o.path).length k7) := OwnN.new9 o7 BD.out.size
    have A2 := BoxO.below hHeld bA
    have BE : Hid (Below w.heap.size w G1) := BD.out.trans (bA.mono BD.out.size)
    clear o7 bA
    refine hK.out _ _ (A2) (fun hx9 => ?_)
    clear hK K hHeld hx9
    have hHeld := A2
    try simp only [Act.put, List.setIfInBounds_toArray, List.set_cons_zero, List.set_cons_succ]
    refine wpAnyH_ready (rs := [6]) (by kernel_rfl) (by simp) ?_
    refine AllReadyH.cons (o := { dst := some 107, op := _, type := _, pos := _, after := _, guard := _ }) rfl (fun K hK => ?_) AllReadyH.nil
    go_simp
    refine (l3Parent_any G1 o.path HPK.out).mono ?_
    rintro e G2 ⟨rfl, bA⟩
    have A3 := A2.below bA
    replace R7 := R7.below bA
    have BF : Hid (Below w.heap.size w G2) := BE.out.trans (bA.mono BE.out.size)
    clear bA
    refine hK.out _ _ (A3) (fun hx9 => ?_)
    clear hK K hHeld hx9
    have hHeld := A3
    try simp only [Act.put, List.setIfInBounds_toArray, List.set_cons_zero, List.set_cons_succ]
    refine wpAnyH_ready (rs := [8]) (by kernel_rfl) (by simp) ?_
    refine AllReadyH.cons (o := { dst := some 109, op := _, type := _, pos := _, after := _, guard := _ }) rfl (fun K hK => ?_) AllReadyH.nil
    go_simp
    refine (l3Touch_any G2 _ (woN ns o.path) (parB o.path) z R7 (by have := woN_len ns o.path; omega) (cv_at (fun m hm => cv_of HOK.out m (List.mem_filter.1 hm).1))).mono ?_
    rintro e G3 ⟨v8, rfl, r8, f8, bA⟩
    obtain ⟨a8, k8, hv8, -, -⟩ := r8.len
    subst hv8
    have A4 := A3.below bA
    have BG : Hid (Below w.heap.size w G3) := BF.out.trans (bA.mono BF.out.size)
    clear bA
    refine hK.out _ _ (A4) (fun hx9 => ?_)
    clear hK K hHeld hx9
    have hHeld := A4
    try simp only [Act.put, List.setIfInBounds_toArray, List.set_cons_zero, List.set_cons_succ]
    refine wpAnyH_take (i := 11) (oi := { dst := some 6, op := _, type := _, pos := _, after := _, guard := _ }) (v := (.int .i64 0)) rfl (by kernel_rfl) (by kernel_rfl) (by kernel_rfl) (fun _ _ _ h => h) (Or.inl ⟨by rfl, ?hy9⟩) (by assumption) ?rest9
    case hy9 =>
      intro w9 hS9
      go_simp
    try simp only [Act.put, List.setIfInBounds_toArray, List.set_cons_zero, List.set_cons_succ]
    refine wpAnyH_take (i := 12) (oi := { dst := some 7, op := _, type := _, pos := _, after := _, guard := _ }) (v := (.slice a8 (toN (woN ns o.path) (parB o.path) z).length k8)) rfl (by kernel_rfl) (by kernel_rfl) (by kernel_rfl) (fun _ _ _ h => h) (Or.inl ⟨by rfl, ?hy10⟩) (by assumption) ?rest10
    case hy10 =>
      intro w9 hS9
      go_simp
    try simp only [Act.put, List.setIfInBounds_toArray, List.set_cons_zero, List.set_cons_succ]
    refine wpAnyH_take (i := 13) (oi := { dst := some 8, op := _, type := _, pos := _, after := _, guard := _ }) (v := (.string o.path)) rfl (by kernel_rfl) (by kernel_rfl) (by kernel_rfl) (fun _ _ _ h => h) (Or.inl ⟨by rfl, ?hy11⟩) (by assumption) ?rest11
    case hy11 =>
      intro w9 hS9
      go_simp
    try simp only [Act.put, List.setIfInBounds_toArray, List.set_cons_zero, List.set_cons_succ]
    refine wpAnyH_done (by kernel_rfl) ?_ _
    clear hHeld
    have R8 : Hid (RdN G3 (.slice a8 (toN (woN ns o.path) (parB o.path) z).length k8) (toN (woN ns o.path) (parB o.path) z)) := r8
    have F8 : Hid (New w (.slice a8 (toN (woN ns o.path) (parB o.path) z).length k8)) := f8.new F7 BF.out.size
    clear A2 A3 A4 R7 F7 f8 r8 BD BE BF
    go_wp2
    exact bodyPost_ret (v := .tuple #[.int .i64 0, .slice a8 (toN (woN ns o.path) (parB o.path) z).length k8, .string o.path]) (by simp [results, Tryz.results32, go_sem]) rfl ⟨_, by rw [HD.out], by rw [HD.out]; exact R8.out, .inr F8.out, BG.out⟩
  · go_wp2
    go_quiet (fail)
    have BQ : Hid (Below w.heap.size w (w3.drewN nq)) := B1.out.trans ((below_drewN' w3 nq).mono B1.out.size)
    have XQ : Hid (BoxO (w3.drewN nq) w.heap.size o) := X1.out.below (below_drewN' w3 nq)
    clear xl c0 c1 c2 c3 c4 a2
    generalize w3.drewN nq = wq at *
    obtain ⟨xl, c0, c1, c2, c3, c4⟩ := XQ.out
    go_wp2_with fail
    refine (l3Below_any wq _ ns o.path (HR.out.below BQ.out) hn HOK.out).mono ?_
    rintro e w9 ⟨v9, rfl, o9, b9⟩
    obtain ⟨a9, k9, hv9⟩ := o9.slice
    subst hv9
    have B9 : Hid (Below w.heap.size w w9) := BQ.out.trans (b9.mono BQ.out.size)
    have X9 : Hid (BoxO w9 w.heap.size o) := XQ.out.below b9
    clear b9 o9 BQ XQ xl c0 c1 c2 c3 c4
    by_cases hch : 0 < (chN ns o.path).length
    · rw [if_pos hch] at HD
      have hchI : (0 : Int) < ((chN ns o.path).length : Int) := by omega
      go_wp2
      exact bodyPost_ret (v := .tuple #[.int .i64 5, .slice (some ⟨b, oo, none⟩) ns.length ca, .string ⟨#[]⟩]) (by simp [results, Tryz.results32, go_sem]) rfl ⟨_, by rw [HD.out], by rw [HD.out]; exact HR.out.below B9.out, .inl rfl, B9.out⟩
    rw [if_neg hch] at HD
    have hchI : ¬ (0 : Int) < ((chN ns o.path).length : Int) := by omega
    go_wp2_with fail
    refine wp_region_held_drew (S := fun W => BoxO W w.heap.size o) (by kernel_rfl) (X9.out.below (below_drewN' w9 1)) (fun hHeld => ?_)
    have BD : Hid (Below w.heap.size w w9.drew) := B9.out.trans ((below_drewN' w9 1).mono B9.out.size)
    clear X9 B9
    generalize w9.drew = G0 at *
    refine wpAnyH_take (i := 0) (oi := { dst := some 101, op := _, type := _, pos := _, after := _, guard := _ }) (v := (.slice (some ⟨b, oo, none⟩) ns.length ca)) rfl (by kernel_rfl) (by kernel_rfl) (by kernel_rfl) (fun _ _ _ h => h) (Or.inl ⟨by rfl, ?hyb1⟩) (by assumption) ?restb1
    case hyb1 =>
      intro w9 hS9
      go_simp
    try simp only [Act.put, List.setIfInBounds_toArray, List.set_cons_zero, List.set_cons_succ]
    refine wpAnyH_take (i := 1) (oi := { dst := some 102, op := _, type := _, pos := _, after := _, guard := _ }) (v := (.pointer (some ⟨w.heap.size, 1, none⟩))) rfl (by kernel_rfl) (by kernel_rfl) (by kernel_rfl) (fun _ _ _ h => h) (Or.inl ⟨by rfl, ?hyb2⟩) (by assumption) ?restb2
    case hyb2 =>
      intro w9 hS9
      go_simp
    try simp only [Act.put, List.setIfInBounds_toArray, List.set_cons_zero, List.set_cons_succ]
    refine wpAnyH_take (i := 2) (oi := { dst := some 103, op := _, type := _, pos := _, after := _, guard := _ }) (v := (.string o.path)) rfl (by kernel_rfl) (by kernel_rfl) (by kernel_rfl) (fun _ _ _ h => h) (Or.inl ⟨by rfl, ?hyb3⟩) (by assumption) ?restb3
    case hyb3 =>
      intro w9 hS9
      have y1 := hS9.c1
      go_simp
    try simp only [Act.put, List.setIfInBounds_toArray, List.set_cons_zero, List.set_cons_succ]
    refine wpAnyH_take (i := 4) (oi := { dst := some 105, op := _, type := _, pos := _, after := _, guard := _ }) (v := (.pointer (some ⟨w.heap.size, 1, none⟩))) rfl (by kernel_rfl) (by kernel_rfl) (by kernel_rfl) (fun _ _ _ h => h) (Or.inl ⟨by rfl, ?hyb4⟩) (by assumption) ?restb4
    case hyb4 =>
      intro w9 hS9
      go_simp
    try simp only [Act.put, List.setIfInBounds_toArray, List.set_cons_zero, List.set_cons_succ]
    refine wpAnyH_take (i := 5) (oi := { dst := some 106, op := _, type := _, pos := _, after := _, guard := _ }) (v := (.string o.path)) rfl (by kernel_rfl) (by kernel_rfl) (by kernel_rfl) (fun _ _ _ h => h) (Or.inl ⟨by rfl, ?hyb5⟩) (by assumption) ?restb5
    case hyb5 =>
      intro w9 hS9
      have y1 := hS9.c1
      go_simp
    try simp only [Act.put, List.setIfInBounds_toArray, List.set_cons_zero, List.set_cons_succ]
    refine wpAnyH_take (i := 7) (oi := { dst := some 108, op := _, type := _, pos := _, after := _, guard := _ }) (v := (.int .i64 z)) rfl (by kernel_rfl) (by kernel_rfl) (by kernel_rfl) (fun _ _ _ h => h) (Or.inl ⟨by rfl, ?hyb6⟩) (by assumption) ?restb6
    case hyb6 =>
      intro w9 hS9
      go_simp
    try simp only [Act.put, List.setIfInBounds_toArray, List.set_cons_zero, List.set_cons_succ]
    refine wpAnyH_take (i := 9) (oi := { dst := some 110, op := _, type := _, pos := _, after := _, guard := _ }) (v := (.pointer (some ⟨w.heap.size, 1, none⟩))) rfl (by kernel_rfl) (by kernel_rfl) (by kernel_rfl) (fun _ _ _ h => h) (Or.inl ⟨by rfl, ?hyb7⟩) (by assumption) ?restb7
    case hyb7 =>
      intro w9 hS9
      go_simp
    try simp only [Act.put, List.setIfInBounds_toArray, List.set_cons_zero, List.set_cons_succ]
    refine wpAnyH_take (i := 10) (oi := { dst := some 111, op := _, type := _, pos := _, after := _, guard := _ }) (v := (.string o.path)) rfl (by kernel_rfl) (by kernel_rfl) (by kernel_rfl) (fun _ _ _ h => h) (Or.inl ⟨by rfl, ?hyb8⟩) (by assumption) ?restb8
    case hyb8 =>
      intro w9 hS9
      have y1 := hS9.c1
      go_simp
    try simp only [Act.put, List.setIfInBounds_toArray, List.set_cons_zero, List.set_cons_succ]
    refine wpAnyH_ready (rs := [3]) (by kernel_rfl) (by simp) ?_
    refine AllReadyH.cons (o := { dst := some 104, op := _, type := _, pos := _, after := _, guard := _ }) rfl (fun K hK => ?_) AllReadyH.nil
    go_simp
    refine (without_any G0 _ ns o.path (HR.out.below BD.out) (by omega)).mono ?_
    rintro e G1 ⟨v7, rfl, o7, bA⟩
    obtain ⟨a7, k7, hv7⟩ := o7.slice
    subst hv7
    have R7 := o7.rd
    have F7 : New w (.slice a7 (woN ns o.path).length k7) := OwnN.new9 o7 BD.out.size
    have A2 := BoxO.below hHeld bA
    have BE : Hid (Below w.heap.size w G1) := BD.out.trans (bA.mono BD.out.size)
    clear o7 bA
    refine hK.out _ _ (A2) (fun hx9 => ?_)
    clear hK K hHeld hx9
    have hHeld := A2
    try simp only [Act.put, List.setIfInBounds_toArray, List.set_cons_zero, List.set_cons_succ]
    refine wpAnyH_ready (rs := [6]) (by kernel_rfl) (by simp) ?_
    refine AllReadyH.cons (o := { dst := some 107, op := _, type := _, pos := _, after := _, guard := _ }) rfl (fun K hK => ?_) AllReadyH.nil
    go_simp
    refine (l3Parent_any G1 o.path HPK.out).mono ?_
    rintro e G2 ⟨rfl, bA⟩
    have A3 := A2.below bA
    replace R7 := R7.below bA
    have BF : Hid (Below w.heap.size w G2) := BE.out.trans (bA.mono BE.out.size)
    clear bA
    refine hK.out _ _ (A3) (fun hx9 => ?_)
    clear hK K hHeld hx9
    have hHeld := A3
    try simp only [Act.put, List.setIfInBounds_toArray, List.set_cons_zero, List.set_cons_succ]
    refine wpAnyH_ready (rs := [8]) (by kernel_rfl) (by simp) ?_
    refine AllReadyH.cons (o := { dst := some 109, op := _, type := _, pos := _, after := _, guard := _ }) rfl (fun K hK => ?_) AllReadyH.nil
    go_simp
    refine (l3Touch_any G2 _ (woN ns o.path) (parB o.path) z R7 (by have := woN_len ns o.path; omega) (cv_at (fun m hm => cv_of HOK.out m (List.mem_filter.1 hm).1))).mono ?_
    rintro e G3 ⟨v8, rfl, r8, f8, bA⟩
    obtain ⟨a8, k8, hv8, -, -⟩ := r8.len
    subst hv8
    have A4 := A3.below bA
    have BG : Hid (Below w.heap.size w G3) := BF.out.trans (bA.mono BF.out.size)
    clear bA
    refine hK.out _ _ (A4) (fun hx9 => ?_)
    clear hK K hHeld hx9
    have hHeld := A4
    try simp only [Act.put, List.setIfInBounds_toArray, List.set_cons_zero, List.set_cons_succ]
    refine wpAnyH_take (i := 11) (oi := { dst := some 6, op := _, type := _, pos := _, after := _, guard := _ }) (v := (.int .i64 0)) rfl (by kernel_rfl) (by kernel_rfl) (by kernel_rfl) (fun _ _ _ h => h) (Or.inl ⟨by rfl, ?hyb9⟩) (by assumption) ?restb9
    case hyb9 =>
      intro w9 hS9
      go_simp
    try simp only [Act.put, List.setIfInBounds_toArray, List.set_cons_zero, List.set_cons_succ]
    refine wpAnyH_take (i := 12) (oi := { dst := some 7, op := _, type := _, pos := _, after := _, guard := _ }) (v := (.slice a8 (toN (woN ns o.path) (parB o.path) z).length k8)) rfl (by kernel_rfl) (by kernel_rfl) (by kernel_rfl) (fun _ _ _ h => h) (Or.inl ⟨by rfl, ?hyb10⟩) (by assumption) ?restb10
    case hyb10 =>
      intro w9 hS9
      go_simp
    try simp only [Act.put, List.setIfInBounds_toArray, List.set_cons_zero, List.set_cons_succ]
    refine wpAnyH_take (i := 13) (oi := { dst := some 8, op := _, type := _, pos := _, after := _, guard := _ }) (v := (.string o.path)) rfl (by kernel_rfl) (by kernel_rfl) (by kernel_rfl) (fun _ _ _ h => h) (Or.inl ⟨by rfl, ?hyb11⟩) (by assumption) ?restb11
    case hyb11 =>
      intro w9 hS9
      go_simp
    try simp only [Act.put, List.setIfInBounds_toArray, List.set_cons_zero, List.set_cons_succ]
    refine wpAnyH_done (by kernel_rfl) ?_ _
    clear hHeld
    have R8 : Hid (RdN G3 (.slice a8 (toN (woN ns o.path) (parB o.path) z).length k8) (toN (woN ns o.path) (parB o.path) z)) := r8
    have F8 : Hid (New w (.slice a8 (toN (woN ns o.path) (parB o.path) z).length k8)) := f8.new F7 BF.out.size
    clear A2 A3 A4 R7 F7 f8 r8 BD BE BF
    go_wp2
    exact bodyPost_ret (v := .tuple #[.int .i64 0, .slice a8 (toN (woN ns o.path) (parB o.path) z).length k8, .string o.path]) (by simp [results, Tryz.results32, go_sem]) rfl ⟨_, by rw [HD.out], by rw [HD.out]; exact R8.out, .inr F8.out, BG.out⟩


theorem wfO_kind {o : Op5} (h : wfO o = true) : o.kind = 1 ∨ o.kind = 2 ∨ o.kind = 3 ∨ o.kind = 4 := by
  unfold wfO at h
  simp only [Bool.and_eq_true, decide_eq_true_eq] at h
  omega
/-- One operation of the model, whatever it is. -/
theorem l3Do_any (w : World) (v : Value) (ns : List Nd) (o : Op5) (z : Int) (h : RdN w v ns) (hn : ns.length ≤ 1000) (hok : ∀ k, k < ns.length → okNd (nAt ns k) = true) (hp : o.path.size ≤ 1048576) (hd : o.data.size ≤ 1048576) :
    Calls Tryz.prog 32 #[v, .agg #[.int .i64 o.kind, .string o.path, .string o.data, .int .i64 o.ver, .bool o.seq], .int .i64 z] w fun e w' => DoPost w v ns o z e w' := by
  cases hw : wfO o with
  | false => exact l3Do_bad w v ns o z h hp hd hw
  | true =>
    rcases wfO_kind hw with hk | hk | hk | hk
    · exact l3Do_create w v ns o z h hn hok hp hd hw hk
    · exact l3Do_delete w v ns o z h hn hok hp hd hw hk
    · exact l3Do_set w v ns o z h hn hok hp hd hw hk
    · exact l3Do_check w v ns o z h hn hp hd hw hk

end Go.Proofs.YtdiingonnddkcaaGreatDoor
namespace Go.Proofs.YtdiingonnddkcaaGreatDoor
open Go.RowKit

/-- An effect. -/
structure Ef where
  del : Bool
  nd : Nd
def efL (e : Ef) : List Value := [.bool e.del, .string e.nd.path, .string e.nd.data, .int .i64 e.nd.ver, .int .i64 e.nd.cver, .int .i64 e.nd.cz, .int .i64 e.nd.mz, .int .i64 e.nd.pz]
def ef0 : Ef := ⟨false, nd0⟩
def eAt (ns : List Ef) (i : Nat) : Ef := ns.getD i ef0
theorem eAt_get {ns : List Ef} {i : Nat} (h : i < ns.length) : eAt ns i = ns[i] := by unfold eAt; simp [List.getD, h]

/-- The cells of an effect. -/
structure CellsE (w : World) (b p : Nat) (n : Ef) : Prop where
  c0 : w.cell? ⟨b, p, none⟩ = some (.bool n.del)
  c1 : w.cell? ⟨b, p + 1, none⟩ = some (.string n.nd.path)
  c2 : w.cell? ⟨b, p + 2, none⟩ = some (.string n.nd.data)
  c3 : w.cell? ⟨b, p + 3, none⟩ = some (.int .i64 n.nd.ver)
  c4 : w.cell? ⟨b, p + 4, none⟩ = some (.int .i64 n.nd.cver)
  c5 : w.cell? ⟨b, p + 5, none⟩ = some (.int .i64 n.nd.cz)
  c6 : w.cell? ⟨b, p + 6, none⟩ = some (.int .i64 n.nd.mz)
  c7 : w.cell? ⟨b, p + 7, none⟩ = some (.int .i64 n.nd.pz)
theorem CellsE.below {w w' : World} {m b p : Nat} {n : Ef} (h : CellsE w b p n) (hb : Below m w w') (hl : b < m) : CellsE w' b p n :=
  ⟨(hb.cell (p := ⟨b, _, none⟩) hl).trans h.c0, (hb.cell (p := ⟨b, _, none⟩) hl).trans h.c1, (hb.cell (p := ⟨b, _, none⟩) hl).trans h.c2, (hb.cell (p := ⟨b, _, none⟩) hl).trans h.c3, (hb.cell (p := ⟨b, _, none⟩) hl).trans h.c4, (hb.cell (p := ⟨b, _, none⟩) hl).trans h.c5, (hb.cell (p := ⟨b, _, none⟩) hl).trans h.c6, (hb.cell (p := ⟨b, _, none⟩) hl).trans h.c7⟩
/-- A slice of nodes that reads as ns. -/
def RdE (w : World) (v : Value) (ns : List Ef) : Prop :=
  ∃ ao cap, v = .slice ao ns.length cap ∧ ns.length ≤ cap ∧ cap ≤ maxLen ∧
    (ns = [] ∨ ∃ b off, ao = some ⟨b, off, none⟩ ∧ b < w.heap.size ∧ ∀ i, i < ns.length → CellsE w b (off + i * 8) (eAt ns i))
theorem RdE.len {w : World} {v : Value} {ns : List Ef} (h : RdE w v ns) : ∃ ao cap, v = .slice ao ns.length cap ∧ ns.length ≤ cap ∧ cap ≤ maxLen := by
  obtain ⟨ao, cap, h0, h1, h2, _⟩ := h
  exact ⟨ao, cap, h0, h1, h2⟩
theorem RdE.below {w w' : World} {v : Value} {ns : List Ef} (h : RdE w v ns) (hb : Below w.heap.size w w') : RdE w' v ns := by
  obtain ⟨ao, cap, rfl, h1, h2, h3⟩ := h
  refine ⟨ao, cap, rfl, h1, h2, ?_⟩
  rcases h3 with h3 | ⟨b, off, rfl, hlt, hc⟩
  · exact .inl h3
  · exact .inr ⟨b, off, rfl, Nat.lt_of_lt_of_le hlt hb.size, fun i hi => (hc i hi).below hb hlt⟩

/-! ### rows of nodes -/
def erow (ns : List Ef) : List Value := ns.flatMap efL
theorem erow_cons (n : Ef) (ns : List Ef) : erow (n :: ns) = efL n ++ erow ns := by simp [erow]
theorem erow_append (ns ms : List Ef) : erow (ns ++ ms) = erow ns ++ erow ms := by simp [erow]
theorem erow_get : ∀ (ns : List Ef) (i j : Nat), i < ns.length → j < 8 → (erow ns)[i * 8 + j]? = (efL (eAt ns i))[j]?
  | [], i, j, h, _ => by simp at h
  | n :: ns, 0, j, _, hj => by
    rw [erow_cons, Nat.zero_mul, Nat.zero_add, List.getElem?_append_left (by show j < 8; exact hj)]; rfl
  | n :: ns, i + 1, j, h, hj => by
    rw [erow_cons, List.getElem?_append_right (by show 8 ≤ _; omega), show (i + 1) * 8 + j - (efL n).length = i * 8 + j by show (i + 1) * 8 + j - 8 = _; omega, erow_get ns i j (by simpa using h) hj]
    rfl
/-- A slice of nodes of the call's own. -/
def OwnE (e : TypeId) (w : World) (lo : Nat) (v : Value) (ns : List Ef) : Prop := w.ownsRow lo e 8 v ns.length (erow ns)
theorem OwnE.rd {e : TypeId} {w : World} {lo : Nat} {v : Value} {ns : List Ef} (h : OwnE e w lo v ns) : RdE w v ns := by
  rcases h.2 with ⟨rfl, h0⟩ | ⟨g, cap, cur, rfl, hb, hg, hn, hm, hs, ht⟩
  · have : ns = [] := List.eq_nil_of_length_eq_zero h0
    subst this
    exact ⟨none, 0, rfl, Nat.le_refl _, Nat.zero_le _, .inl rfl⟩
  · refine ⟨_, cap, rfl, hn, hm, .inr ⟨g, 0, rfl, (Array.getElem?_eq_some_iff.1 hg).1, fun i hi => ?_⟩⟩
    have c : ∀ j, j < 8 → w.cell? ⟨g, 0 + (i * 8 + j), none⟩ = (efL (eAt ns i))[j]? := fun j hj => by
      have hh := erow_get ns i j hi hj
      have h9 : (efL (eAt ns i))[j]? = some ((efL (eAt ns i)).getD j undef) := by
        match j, hj with
        | 0, _ => rfl
        | 1, _ => rfl
        | 2, _ => rfl
        | 3, _ => rfl
        | 4, _ => rfl
        | 5, _ => rfl
        | 6, _ => rfl
        | 7, _ => rfl
      rw [h9] at hh
      have := World.ownsRow.cells h (g := g) rfl (i * 8 + j) _ hh
      rw [Addr.add_lit] at this
      rw [this, h9]
    exact ⟨c 0 (by omega), c 1 (by omega), c 2 (by omega), c 3 (by omega), c 4 (by omega), c 5 (by omega), c 6 (by omega), c 7 (by omega)⟩
theorem OwnE.below {e : TypeId} {w w' : World} {lo : Nat} {v : Value} {ns : List Ef} (h : OwnE e w lo v ns) (hb : Below w.heap.size w w') : OwnE e w' lo v ns := by
  refine ⟨h.1, ?_⟩
  rcases h.2 with hn | ⟨g, cap, cur, rfl, hbg, hgg, rest⟩
  · exact .inl hn
  · exact .inr ⟨g, cap, cur, rfl, hbg, by rw [hb.block g (Array.getElem?_eq_some_iff.1 hgg).1]; exact hgg, rest⟩
theorem OwnE.slice {e : TypeId} {w : World} {lo : Nat} {v : Value} {ns : List Ef} (h : OwnE e w lo v ns) : ∃ a c, v = .slice a ns.length c := by
  obtain ⟨a, c, h0, _⟩ := h.rd.len
  exact ⟨a, c, h0⟩


@[reducible] def CE8 (W : World) (b : Nat) (n : Ef) : Prop := W.cell? ⟨b, 0, none⟩ = some (.bool n.del) ∧ W.cell? ⟨b, 1, none⟩ = some (.string n.nd.path) ∧ W.cell? ⟨b, 2, none⟩ = some (.string n.nd.data) ∧ W.cell? ⟨b, 3, none⟩ = some (.int .i64 n.nd.ver) ∧ W.cell? ⟨b, 4, none⟩ = some (.int .i64 n.nd.cver) ∧ W.cell? ⟨b, 5, none⟩ = some (.int .i64 n.nd.cz) ∧ W.cell? ⟨b, 6, none⟩ = some (.int .i64 n.nd.mz) ∧ W.cell? ⟨b, 7, none⟩ = some (.int .i64 n.nd.pz)














/-- Nothing but a path. -/
def blank (n : Nd) : Bool := (n.data.toList == []) && (n.ver == 0) && (n.cver == 0) && (n.cz == 0) && (n.mz == 0) && (n.pz == 0)
def okEf (e : Ef) : Bool := okNd e.nd && (!e.del || blank e.nd)
theorem okEf_false {e : Ef} (h : e.del = false) : okEf e = okNd e.nd := by unfold okEf; rw [h]; simp
theorem okEf_true {e : Ef} (h : e.del = true) : okEf e = (okNd e.nd && blank e.nd) := by unfold okEf; rw [h]; simp

set_option maxHeartbeats 4000000 in
set_option maxRecDepth 100000 in
theorem validEffect_any (w : World) (n : Ef) (hd : n.nd.data.size ≤ 1048576) :
    Calls Tryz.prog 68 #[.agg #[.bool n.del, .string n.nd.path, .string n.nd.data, .int .i64 n.nd.ver, .int .i64 n.nd.cver, .int .i64 n.nd.cz, .int .i64 n.nd.mz, .int .i64 n.nd.pz]] w fun e w' => e = .returned (.bool (okEf n)) ∧ Below w.heap.size w w' := by
  have B0 : Hid (∀ o, Below w.heap.size w (w.alloc o)) := fun o => (Below.refl _ _).alloc (Nat.le_refl _) _
  cases hdel : n.del with
  | false =>
    have HE := hd9 (okEf_false hdel)
    go_enter Tryz.func68, Tryz.ntmps68
    go_wp2_with fail
    refine (implNode_any _ n.nd hd).mono ?_
    rintro e w1 ⟨rfl, b1⟩
    have B1 := hd9 ((B0.out _).trans (b1.mono (by simp)))
    clear b1
    go_wp2
    go_ret
    exact ⟨ret_b HE.out.symm, B1.out⟩
  | true =>
    have HE := hd9 (okEf_true hdel)
    clear hdel
    have hpp : (n.nd.path.toList == n.nd.path.toList) = true := by simp
    cases h_dat : (n.nd.data.toList == []) with
    | false =>
      have HN : Hid (okEf n = false) := by show _ = _; rw [HE.out]; unfold blank; rw [h_dat]; simp
      go_enter Tryz.func68, Tryz.ntmps68
      go_wp2_with fail
      go_ret
      exact ⟨ret_b HN.out.symm, B0.out _⟩
    | true =>
      cases h_ver : (n.nd.ver == 0) with
      | false =>
        have HN : Hid (okEf n = false) := by show _ = _; rw [HE.out]; unfold blank; rw [h_ver]; simp
        go_enter Tryz.func68, Tryz.ntmps68
        go_wp2_with fail
        go_ret
        exact ⟨ret_b HN.out.symm, B0.out _⟩
      | true =>
        cases h_cver : (n.nd.cver == 0) with
        | false =>
          have HN : Hid (okEf n = false) := by show _ = _; rw [HE.out]; unfold blank; rw [h_cver]; simp
          go_enter Tryz.func68, Tryz.ntmps68
          go_wp2_with fail
          go_ret
          exact ⟨ret_b HN.out.symm, B0.out _⟩
        | true =>
          cases h_cz : (n.nd.cz == 0) with
          | false =>
            have HN : Hid (okEf n = false) := by show _ = _; rw [HE.out]; unfold blank; rw [h_cz]; simp
            go_enter Tryz.func68, Tryz.ntmps68
            go_wp2_with fail
            go_ret
            exact ⟨ret_b HN.out.symm, B0.out _⟩
          | true =>
            cases h_mz : (n.nd.mz == 0) with
            | false =>
              have HN : Hid (okEf n = false) := by show _ = _; rw [HE.out]; unfold blank; rw [h_mz]; simp
              go_enter Tryz.func68, Tryz.ntmps68
              go_wp2_with fail
              go_ret
              exact ⟨ret_b HN.out.symm, B0.out _⟩
            | true =>
              cases h_pz : (n.nd.pz == 0) with
              | false =>
                have HN : Hid (okEf n = false) := by show _ = _; rw [HE.out]; unfold blank; rw [h_pz]; simp
                go_enter Tryz.func68, Tryz.ntmps68
                go_wp2_with fail
                go_ret
                exact ⟨ret_b HN.out.symm, B0.out _⟩
              | true =>
                have HY : Hid (okEf n = okNd n.nd) := by show _ = _; rw [HE.out]; unfold blank; rw [h_dat, h_ver, h_cver, h_cz, h_mz, h_pz]; simp
                go_enter Tryz.func68, Tryz.ntmps68
                go_wp2_with fail
                refine (implNode_any _ n.nd hd).mono ?_
                rintro e w1 ⟨rfl, b1⟩
                have B1 := hd9 ((B0.out _).trans (b1.mono (by simp)))
                clear b1
                go_wp2
                go_ret
                exact ⟨ret_b HY.out.symm, B1.out⟩

end Go.Proofs.YtdiingonnddkcaaGreatDoor


