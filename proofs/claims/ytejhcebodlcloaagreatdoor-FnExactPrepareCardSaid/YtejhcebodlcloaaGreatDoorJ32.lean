import Derived.Test.YtejhcebodlcloaaGreatDoorJ31
namespace Go.Proofs.YtejhcebodlcloaaGreatDoor
open Go.RowKit Go.Shelf

set_option maxHeartbeats 8000000 in
set_option maxRecDepth 100000 in
theorem lawPrep_walk (w : World) (v : Value) (ns : List Nd) (h : InT w v ns) (vx : Value) (os : List Op5) (hx : InR w vx os) (z : Int)
    (hg : w.cell? ⟨0, 0, none⟩ = some (.iface 142 (.agg #[.pointer (some ⟨7, 74, none⟩)]))) (h0 : 0 < w.heap.size) (htab : Lib.TabIs Tryz.prog w "internal/strconv.uint64pow10" .u64 Lib.pow10Tab) :
    Calls Tryz.prog 3 #[.agg #[v], .agg #[vx], .int .i64 z] w fun e w' => e = .returned (.bool true) ∧ Below w.heap.size w w' := by
  obtain ⟨hr, hsz⟩ := h
  obtain ⟨hrx, hszx⟩ := hx
  obtain ⟨ao, ca, rfl, _, _⟩ := hr.len
  obtain ⟨xo, cx, rfl, _, _⟩ := hrx.len
  have B0 : Hid (Below w.heap.size w ((w.alloc (.cells #[.slice ao ns.length ca] 24)).alloc (.cells #[.slice xo os.length cx] 27))) := ((Below.refl _ _).alloc (Nat.le_refl _) _).alloc (by simp) _
  have X0 : Hid (LawR w.heap.size (.slice ao ns.length ca) (.slice xo os.length cx) ((w.alloc (.cells #[.slice ao ns.length ca] 24)).alloc (.cells #[.slice xo os.length cx] 27))) := LawR.new _ _ _
  have HR := hd9 hr
  have HX := hd9 hrx
  have HZ := hd9 hsz
  have HZX := hd9 hszx
  have HAi : Hid ((∀ i, (nAt ns i).path.size ≤ 1048576 ∧ (nAt ns i).data.size ≤ 1048576) → (∀ i, (oAt os i).path.size ≤ 1048576 ∧ (oAt os i).data.size ≤ 1048576) → ∀ W va vb, Below w.heap.size w W → RdN W va ns → RdO W vb os → Calls Tryz.prog 9 #[.agg #[va], .agg #[vb], .int .i64 z] W fun e w' => PA W (prF ns os z) e w') :=
    fun q1 q2 W va vb hb h1 h2 => implP_any W va vb ns os z h1 h2 q1 q2 ((hb.cell (p := ⟨0, 0, none⟩) h0).trans hg) (Nat.lt_of_lt_of_le h0 hb.size) (tab_below htab hb)
  clear hr hsz hrx hszx hg htab h0
  go_enter Tryz.func3, Tryz.ntmps3
  go_wp2_with fail
  generalize (w.alloc (.cells #[.slice ao ns.length ca] 24)).alloc (.cells #[.slice xo os.length cx] 27) = w0 at *
  refine (szTree_any _ _ ns (HR.out.below B0.out) HZ.out 1048576 (by omega) (by omega)).mono ?_
  rintro e w1 ⟨r, rfl, hsz, b1⟩
  have B1 : Hid (Below w.heap.size w w1) := B0.out.trans (b1.mono B0.out.size)
  have X1 : Hid (LawR w.heap.size (.slice ao ns.length ca) (.slice xo os.length cx) w1) := X0.out.below b1 X0.out.size
  clear b1 X0 B0
  by_cases hneg : r < 0
  · clear hsz
    go_wp2
    go_ret
    exact ⟨rfl, B1.out⟩
  have hsz' : r + ns.length + totN ns = 1048576 := by omega
  have hn : ns.length ≤ 1048576 := by omega
  have hd := hd9 (fun i => show (nAt ns i).path.size ≤ 1048576 ∧ (nAt ns i).data.size ≤ 1048576 by have := totN_ge ns i; omega)
  have hr0 : 0 ≤ r := by omega
  have hr1 : r ≤ 1048576 := by omega
  clear hsz hsz'
  obtain ⟨y0, y1⟩ := X1.out.cells
  go_wp2_with fail
  refine (szRequest_any _ _ os (HX.out.below B1.out) HZX.out r hr0 hr1).mono ?_
  rintro e w2 ⟨r2, rfl, hsz, b2⟩
  have B2 : Hid (Below w.heap.size w w2) := B1.out.trans (b2.mono B1.out.size)
  have X2 : Hid (LawR w.heap.size (.slice ao ns.length ca) (.slice xo os.length cx) w2) := X1.out.below b2 X1.out.size
  clear b2 X1 B1 y0 y1
  by_cases hneg2 : r2 < 0
  · clear hsz
    go_wp2
    go_ret
    exact ⟨rfl, B2.out⟩
  have hsz' : r2 + os.length + totO os = r := by omega
  have hm : os.length ≤ 1048576 := by omega
  have hdx := hd9 (fun i => show (oAt os i).path.size ≤ 1048576 ∧ (oAt os i).data.size ≤ 1048576 by have := totO_ge os i; omega)
  clear hsz hsz'
  have HSp : Hid (∀ W va vb, RdN W va ns → RdO W vb os → Calls Tryz.prog 6 #[.agg #[va], .agg #[vb], .int .i64 z] W fun e w' => PA W (prF ns os z) e w') :=
    fun W va vb h1 h2 => specP_any W va vb ns os z h1 h2 hn hd.out hdx.out
  have HAj := hd9 (HAi.out hd.out hdx.out)
  clear HAi hd hdx HZ HZX
  obtain ⟨hl, he⟩ := prF_len ns os z
  obtain ⟨A, hA⟩ : ∃ A, A = prF ns os z := ⟨_, rfl⟩
  rw [← hA] at hl he HSp HAj
  clear hA
  obtain ⟨c, i, zz, L, es⟩ := A
  replace hl : L.length ≤ 2000 := hl
  replace he : es.length ≤ 2000 := he
  have HS := hd9 (fun W va vb (h1 : RdN W va ns) (h2 : RdO W vb os) => show Calls Tryz.prog 6 #[.agg #[va], .agg #[vb], .int .i64 z] W fun e w' => ∃ vn ve, e = .returned (.agg #[.int .i64 c, .int .i64 i, vn, .int .i64 zz, ve]) ∧ OwnS w' W.heap.size vn L ∧ OwnE 100 w' W.heap.size ve es ∧ Below W.heap.size W w' from HSp.out W va vb h1 h2)
  have HI := hd9 (fun W va vb (hb : Below w.heap.size w W) (h1 : RdN W va ns) (h2 : RdO W vb os) => show Calls Tryz.prog 9 #[.agg #[va], .agg #[vb], .int .i64 z] W fun e w' => ∃ vn ve, e = .returned (.agg #[.int .i64 c, .int .i64 i, vn, .int .i64 zz, ve]) ∧ OwnS w' W.heap.size vn L ∧ OwnE 100 w' W.heap.size ve es ∧ Below W.heap.size W w' from HAj.out W va vb hb h1 h2)
  clear HSp HAj
  go_upto_region 8 with fail
  go_cut [8] from 26 to 31 (fun v8 wx => ∃ B vn ve, v8 = .pointer (some ⟨B, 0, none⟩) ∧ Hid (AnsP c i zz L es w2.heap.size B vn ve wx) ∧ Hid (Below w2.heap.size w2 wx))
  case first =>

    refine wp_region_held_drew (S := fun W => LawR w.heap.size (.slice ao ns.length ca) (.slice xo os.length cx) W) (by kernel_rfl) (X2.out.below (below_drewN' w2 1) X2.out.size) (fun hHeld => ?_)
    have bC : Below w2.heap.size w2 w2.drew := below_drewN' w2 1
    generalize w2.drew = P0 at *
    refine wpAnyH_take (i := 0) (oi := { dst := some 26, op := _, type := _, pos := _, after := _, guard := _ }) (v := (.agg #[.slice ao ns.length ca])) rfl (by kernel_rfl) (by kernel_rfl) (by kernel_rfl) (fun _ _ _ h => h) (Or.inl ⟨by rfl, ?hy1⟩) (by assumption) ?rest1
    case hy1 =>
      intro w9 hS9
      obtain ⟨y0, y1⟩ := hS9.cells
      go_simp
    try simp only [Act.put, List.setIfInBounds_toArray, List.set_cons_zero, List.set_cons_succ]
    refine wpAnyH_take (i := 2) (oi := { dst := some 28, op := _, type := _, pos := _, after := _, guard := _ }) (v := (.agg #[.slice xo os.length cx])) rfl (by kernel_rfl) (by kernel_rfl) (by kernel_rfl) (fun _ _ _ h => h) (Or.inl ⟨by rfl, ?hy2⟩) (by assumption) ?rest2
    case hy2 =>
      intro w9 hS9
      obtain ⟨y0, y1⟩ := hS9.cells
      go_simp
    try simp only [Act.put, List.setIfInBounds_toArray, List.set_cons_zero, List.set_cons_succ]
    refine wpAnyH_take (i := 4) (oi := { dst := some 30, op := _, type := _, pos := _, after := _, guard := _ }) (v := (.int .i64 z)) rfl (by kernel_rfl) (by kernel_rfl) (by kernel_rfl) (fun _ _ _ h => h) (Or.inl ⟨by rfl, ?hy3⟩) (by assumption) ?rest3
    case hy3 =>
      intro w9 hS9
      clear hS9
      go_simp
    try simp only [Act.put, List.setIfInBounds_toArray, List.set_cons_zero, List.set_cons_succ]
    refine wpAnyH_ready (rs := [1, 6]) (by kernel_rfl) (by simp) ?_
    refine (AllReadyH.cons (o := { dst := some 27, op := _, type := _, pos := _, after := _, guard := _ }) rfl (fun K hK => ?_) (AllReadyH.cons (o := { dst := some 8, op := _, type := _, pos := _, after := _, guard := _ }) rfl (fun K hK => ?_) AllReadyH.nil))
    · go_simp
      refine (toTree_any P0 _ ns (HR.out.below (B2.out.trans (bC.mono B2.out.size))) hn).mono ?_
      rintro e P1 ⟨a1, k1, rfl, r1', bA⟩
      have r1 := r1'.rd
      clear r1'
      replace bC : Below w2.heap.size w2 P1 := bC.trans (bA.mono bC.size)
      clear bA
      refine hK.out _ _ (X2.out.below bC X2.out.size) (fun hx9 => ?_)
      clear hK K hx9 hHeld
      have hHeld := X2.out.below bC X2.out.size
      try simp only [Act.put, List.setIfInBounds_toArray, List.set_cons_zero, List.set_cons_succ]
      refine wpAnyH_ready (rs := [3, 6]) (by kernel_rfl) (by simp) ?_
      refine (AllReadyH.cons (o := { dst := some 29, op := _, type := _, pos := _, after := _, guard := _ }) rfl (fun K hK => ?_) (AllReadyH.cons (o := { dst := some 8, op := _, type := _, pos := _, after := _, guard := _ }) rfl (fun K hK => ?_) AllReadyH.nil))
      · go_simp
        refine (toRequest_any P1 _ os (HX.out.below (B2.out.trans (bC.mono B2.out.size))) hm).mono ?_
        rintro e P2 ⟨a2, k2, rfl, r2', bA⟩
        have r2 := r2'.rd
        clear r2'
        replace bC : Below w2.heap.size w2 P2 := bC.trans (bA.mono bC.size)
        replace r1 : RdN P2 (.slice a1 ns.length k1) ns := r1.below bA
        clear bA
        refine hK.out _ _ (X2.out.below bC X2.out.size) (fun hx9 => ?_)
        clear hK K hx9 hHeld
        have hHeld := X2.out.below bC X2.out.size
        try simp only [Act.put, List.setIfInBounds_toArray, List.set_cons_zero, List.set_cons_succ]
        refine wpAnyH_ready (rs := [5, 6]) (by kernel_rfl) (by simp) ?_
        refine (AllReadyH.cons (o := { dst := some 31, op := _, type := _, pos := _, after := _, guard := _ }) rfl (fun K hK => ?_) (AllReadyH.cons (o := { dst := some 8, op := _, type := _, pos := _, after := _, guard := _ }) rfl (fun K hK => ?_) AllReadyH.nil))
        · go_simp
          refine (HS.out P2 _ _ r1 r2).mono ?_
          rintro e P3 ⟨v3, v4, rfl, o3, o4, bA⟩
          clear r1 r2
          obtain ⟨a3, k3, hv3⟩ := o3.slice
          subst hv3
          obtain ⟨a4, k4, hv4⟩ := o4.slice
          subst hv4
          replace o3 : OwnS P3 w2.heap.size (.slice a3 L.length k3) L := o3.mono bC.size
          replace o4 : OwnE 100 P3 w2.heap.size (.slice a4 es.length k4) es := o4.mono bC.size
          replace bC : Below w2.heap.size w2 P3 := bC.trans (bA.mono bC.size)
          clear bA
          refine hK.out _ _ (X2.out.below bC X2.out.size) (fun hx9 => ?_)
          clear hK K hx9 hHeld
          have hHeld := X2.out.below bC X2.out.size
          try simp only [Act.put, List.setIfInBounds_toArray, List.set_cons_zero, List.set_cons_succ]
          refine wpAnyH_ready (rs := [6]) (by kernel_rfl) (by simp) ?_
          refine (AllReadyH.cons (o := { dst := some 8, op := _, type := _, pos := _, after := _, guard := _ }) rfl (fun K hK => ?_) AllReadyH.nil)
          go_simp
          have bA : Below P3.heap.size P3 (P3.alloc (.cells #[.int .i64 0, .int .i64 0, .slice none 0 0, .int .i64 0, .slice none 0 0] 35)) := (Below.refl _ _).alloc (Nat.le_refl _) _
          obtain ⟨B, hBB⟩ : ∃ B, B = P3.heap.size := ⟨_, rfl⟩
          have hB : w2.heap.size ≤ B := by rw [hBB]; exact bC.size
          have xB : BxP (P3.alloc (.cells #[.int .i64 0, .int .i64 0, .slice none 0 0, .int .i64 0, .slice none 0 0] 35)) B 0 0 (.slice none 0 0) 0 (.slice none 0 0) := by rw [hBB]; exact BxP.new _ _ _ _ _ _
          rw [← hBB]
          generalize P3.alloc (.cells #[.int .i64 0, .int .i64 0, .slice none 0 0, .int .i64 0, .slice none 0 0] 35) = P4 at *
          replace bC : Below w2.heap.size w2 P4 := bC.trans (bA.mono bC.size)
          replace o3 : OwnS P4 w2.heap.size (.slice a3 L.length k3) L := o3.below bA
          replace o4 : OwnE 100 P4 w2.heap.size (.slice a4 es.length k4) es := o4.below bA
          clear bA hBB
          refine hK.out _ _ (X2.out.below bC X2.out.size) (fun hx9 => ?_)
          clear hK K hx9 hHeld
          have hHeld := X2.out.below bC X2.out.size
          try simp only [Act.put, List.setIfInBounds_toArray, List.set_cons_zero, List.set_cons_succ]
          refine wpAnyH_ready (rs := [7]) (by kernel_rfl) (by simp) ?_
          refine (AllReadyH.cons (o := { dst := none, op := _, type := _, pos := _, after := _, guard := _ }) rfl (fun K hK => ?_) AllReadyH.nil)
          obtain ⟨q0, q1, q2, q3, q4⟩ := xB.cells
          have f0 := xB.frozen 0
          have f1 := xB.frozen 1
          have f2 := xB.frozen 2
          have f3 := xB.frozen 3
          have f4 := xB.frozen 4
          go_simp
          have A4 : AnsP c i zz L es w2.heap.size B (.slice a3 L.length k3) (.slice a4 es.length k4) _ := ⟨xB.put c i (.slice a3 L.length k3) zz (.slice a4 es.length k4), row_put5 o3 (xB.not_row (by decide) o3) (.int .i64 c) (.int .i64 i) (.slice a3 L.length k3) (.int .i64 zz) (.slice a4 es.length k4), row_put5 o4 (xB.not_row (by decide) o4) (.int .i64 c) (.int .i64 i) (.slice a3 L.length k3) (.int .i64 zz) (.slice a4 es.length k4)⟩
          have bD := below_put5 bC hB (.int .i64 c) (.int .i64 i) (.slice a3 L.length k3) (.int .i64 zz) (.slice a4 es.length k4)
          clear q0 q1 q2 q3 q4 f0 f1 f2 f3 f4
          refine hK.out _ _ (X2.out.below bD X2.out.size) (fun hx9 => ?_)
          clear hK K hx9 hHeld
          try simp only [Act.put, List.setIfInBounds_toArray, List.set_cons_zero, List.set_cons_succ]
          refine wpAnyH_done (by kernel_rfl) ?_ _
          go_wp2_with fail
          go_meet
          exact ⟨_, _, _, rfl, A4, bD⟩
        · go_simp
          have bA : Below P2.heap.size P2 (P2.alloc (.cells #[.int .i64 0, .int .i64 0, .slice none 0 0, .int .i64 0, .slice none 0 0] 35)) := (Below.refl _ _).alloc (Nat.le_refl _) _
          obtain ⟨B, hBB⟩ : ∃ B, B = P2.heap.size := ⟨_, rfl⟩
          have hB : w2.heap.size ≤ B := by rw [hBB]; exact bC.size
          have xB : BxP (P2.alloc (.cells #[.int .i64 0, .int .i64 0, .slice none 0 0, .int .i64 0, .slice none 0 0] 35)) B 0 0 (.slice none 0 0) 0 (.slice none 0 0) := by rw [hBB]; exact BxP.new _ _ _ _ _ _
          rw [← hBB]
          generalize P2.alloc (.cells #[.int .i64 0, .int .i64 0, .slice none 0 0, .int .i64 0, .slice none 0 0] 35) = P5 at *
          replace bC : Below w2.heap.size w2 P5 := bC.trans (bA.mono bC.size)
          replace r1 : RdN P5 (.slice a1 ns.length k1) ns := r1.below bA
          replace r2 : RdO P5 (.slice a2 os.length k2) os := r2.below bA
          clear bA hBB
          refine hK.out _ _ (X2.out.below bC X2.out.size) (fun hx9 => ?_)
          clear hK K hx9 hHeld
          have hHeld := X2.out.below bC X2.out.size
          try simp only [Act.put, List.setIfInBounds_toArray, List.set_cons_zero, List.set_cons_succ]
          refine wpAnyH_ready (rs := [5]) (by kernel_rfl) (by simp) ?_
          refine (AllReadyH.cons (o := { dst := some 31, op := _, type := _, pos := _, after := _, guard := _ }) rfl (fun K hK => ?_) AllReadyH.nil)
          go_simp
          refine (HS.out P5 _ _ r1 r2).mono ?_
          rintro e P6 ⟨v3, v4, rfl, o3, o4, bA⟩
          clear r1 r2
          obtain ⟨a3, k3, hv3⟩ := o3.slice
          subst hv3
          obtain ⟨a4, k4, hv4⟩ := o4.slice
          subst hv4
          replace o3 : OwnS P6 w2.heap.size (.slice a3 L.length k3) L := o3.mono bC.size
          replace o4 : OwnE 100 P6 w2.heap.size (.slice a4 es.length k4) es := o4.mono bC.size
          replace bC : Below w2.heap.size w2 P6 := bC.trans (bA.mono bC.size)
          replace xB : BxP P6 B 0 0 (.slice none 0 0) 0 (.slice none 0 0) := xB.later bA
          clear bA
          refine hK.out _ _ (X2.out.below bC X2.out.size) (fun hx9 => ?_)
          clear hK K hx9 hHeld
          have hHeld := X2.out.below bC X2.out.size
          try simp only [Act.put, List.setIfInBounds_toArray, List.set_cons_zero, List.set_cons_succ]
          refine wpAnyH_ready (rs := [7]) (by kernel_rfl) (by simp) ?_
          refine (AllReadyH.cons (o := { dst := none, op := _, type := _, pos := _, after := _, guard := _ }) rfl (fun K hK => ?_) AllReadyH.nil)
          obtain ⟨q0, q1, q2, q3, q4⟩ := xB.cells
          have f0 := xB.frozen 0
          have f1 := xB.frozen 1
          have f2 := xB.frozen 2
          have f3 := xB.frozen 3
          have f4 := xB.frozen 4
          go_simp
          have A4 : AnsP c i zz L es w2.heap.size B (.slice a3 L.length k3) (.slice a4 es.length k4) _ := ⟨xB.put c i (.slice a3 L.length k3) zz (.slice a4 es.length k4), row_put5 o3 (xB.not_row (by decide) o3) (.int .i64 c) (.int .i64 i) (.slice a3 L.length k3) (.int .i64 zz) (.slice a4 es.length k4), row_put5 o4 (xB.not_row (by decide) o4) (.int .i64 c) (.int .i64 i) (.slice a3 L.length k3) (.int .i64 zz) (.slice a4 es.length k4)⟩
          have bD := below_put5 bC hB (.int .i64 c) (.int .i64 i) (.slice a3 L.length k3) (.int .i64 zz) (.slice a4 es.length k4)
          clear q0 q1 q2 q3 q4 f0 f1 f2 f3 f4
          refine hK.out _ _ (X2.out.below bD X2.out.size) (fun hx9 => ?_)
          clear hK K hx9 hHeld
          try simp only [Act.put, List.setIfInBounds_toArray, List.set_cons_zero, List.set_cons_succ]
          refine wpAnyH_done (by kernel_rfl) ?_ _
          go_wp2_with fail
          go_meet
          exact ⟨_, _, _, rfl, A4, bD⟩
      · go_simp
        have bA : Below P1.heap.size P1 (P1.alloc (.cells #[.int .i64 0, .int .i64 0, .slice none 0 0, .int .i64 0, .slice none 0 0] 35)) := (Below.refl _ _).alloc (Nat.le_refl _) _
        obtain ⟨B, hBB⟩ : ∃ B, B = P1.heap.size := ⟨_, rfl⟩
        have hB : w2.heap.size ≤ B := by rw [hBB]; exact bC.size
        have xB : BxP (P1.alloc (.cells #[.int .i64 0, .int .i64 0, .slice none 0 0, .int .i64 0, .slice none 0 0] 35)) B 0 0 (.slice none 0 0) 0 (.slice none 0 0) := by rw [hBB]; exact BxP.new _ _ _ _ _ _
        rw [← hBB]
        generalize P1.alloc (.cells #[.int .i64 0, .int .i64 0, .slice none 0 0, .int .i64 0, .slice none 0 0] 35) = P7 at *
        replace bC : Below w2.heap.size w2 P7 := bC.trans (bA.mono bC.size)
        replace r1 : RdN P7 (.slice a1 ns.length k1) ns := r1.below bA
        clear bA hBB
        refine hK.out _ _ (X2.out.below bC X2.out.size) (fun hx9 => ?_)
        clear hK K hx9 hHeld
        have hHeld := X2.out.below bC X2.out.size
        try simp only [Act.put, List.setIfInBounds_toArray, List.set_cons_zero, List.set_cons_succ]
        refine wpAnyH_ready (rs := [3]) (by kernel_rfl) (by simp) ?_
        refine (AllReadyH.cons (o := { dst := some 29, op := _, type := _, pos := _, after := _, guard := _ }) rfl (fun K hK => ?_) AllReadyH.nil)
        go_simp
        refine (toRequest_any P7 _ os (HX.out.below (B2.out.trans (bC.mono B2.out.size))) hm).mono ?_
        rintro e P8 ⟨a2, k2, rfl, r2', bA⟩
        have r2 := r2'.rd
        clear r2'
        replace bC : Below w2.heap.size w2 P8 := bC.trans (bA.mono bC.size)
        replace xB : BxP P8 B 0 0 (.slice none 0 0) 0 (.slice none 0 0) := xB.later bA
        replace r1 : RdN P8 (.slice a1 ns.length k1) ns := r1.below bA
        clear bA
        refine hK.out _ _ (X2.out.below bC X2.out.size) (fun hx9 => ?_)
        clear hK K hx9 hHeld
        have hHeld := X2.out.below bC X2.out.size
        try simp only [Act.put, List.setIfInBounds_toArray, List.set_cons_zero, List.set_cons_succ]
        refine wpAnyH_ready (rs := [5]) (by kernel_rfl) (by simp) ?_
        refine (AllReadyH.cons (o := { dst := some 31, op := _, type := _, pos := _, after := _, guard := _ }) rfl (fun K hK => ?_) AllReadyH.nil)
        go_simp
        refine (HS.out P8 _ _ r1 r2).mono ?_
        rintro e P9 ⟨v3, v4, rfl, o3, o4, bA⟩
        clear r1 r2
        obtain ⟨a3, k3, hv3⟩ := o3.slice
        subst hv3
        obtain ⟨a4, k4, hv4⟩ := o4.slice
        subst hv4
        replace o3 : OwnS P9 w2.heap.size (.slice a3 L.length k3) L := o3.mono bC.size
        replace o4 : OwnE 100 P9 w2.heap.size (.slice a4 es.length k4) es := o4.mono bC.size
        replace bC : Below w2.heap.size w2 P9 := bC.trans (bA.mono bC.size)
        replace xB : BxP P9 B 0 0 (.slice none 0 0) 0 (.slice none 0 0) := xB.later bA
        clear bA
        refine hK.out _ _ (X2.out.below bC X2.out.size) (fun hx9 => ?_)
        clear hK K hx9 hHeld
        have hHeld := X2.out.below bC X2.out.size
        try simp only [Act.put, List.setIfInBounds_toArray, List.set_cons_zero, List.set_cons_succ]
        refine wpAnyH_ready (rs := [7]) (by kernel_rfl) (by simp) ?_
        refine (AllReadyH.cons (o := { dst := none, op := _, type := _, pos := _, after := _, guard := _ }) rfl (fun K hK => ?_) AllReadyH.nil)
        obtain ⟨q0, q1, q2, q3, q4⟩ := xB.cells
        have f0 := xB.frozen 0
        have f1 := xB.frozen 1
        have f2 := xB.frozen 2
        have f3 := xB.frozen 3
        have f4 := xB.frozen 4
        go_simp
        have A4 : AnsP c i zz L es w2.heap.size B (.slice a3 L.length k3) (.slice a4 es.length k4) _ := ⟨xB.put c i (.slice a3 L.length k3) zz (.slice a4 es.length k4), row_put5 o3 (xB.not_row (by decide) o3) (.int .i64 c) (.int .i64 i) (.slice a3 L.length k3) (.int .i64 zz) (.slice a4 es.length k4), row_put5 o4 (xB.not_row (by decide) o4) (.int .i64 c) (.int .i64 i) (.slice a3 L.length k3) (.int .i64 zz) (.slice a4 es.length k4)⟩
        have bD := below_put5 bC hB (.int .i64 c) (.int .i64 i) (.slice a3 L.length k3) (.int .i64 zz) (.slice a4 es.length k4)
        clear q0 q1 q2 q3 q4 f0 f1 f2 f3 f4
        refine hK.out _ _ (X2.out.below bD X2.out.size) (fun hx9 => ?_)
        clear hK K hx9 hHeld
        try simp only [Act.put, List.setIfInBounds_toArray, List.set_cons_zero, List.set_cons_succ]
        refine wpAnyH_done (by kernel_rfl) ?_ _
        go_wp2_with fail
        go_meet
        exact ⟨_, _, _, rfl, A4, bD⟩
    · go_simp
      have bA : Below P0.heap.size P0 (P0.alloc (.cells #[.int .i64 0, .int .i64 0, .slice none 0 0, .int .i64 0, .slice none 0 0] 35)) := (Below.refl _ _).alloc (Nat.le_refl _) _
      obtain ⟨B, hBB⟩ : ∃ B, B = P0.heap.size := ⟨_, rfl⟩
      have hB : w2.heap.size ≤ B := by rw [hBB]; exact bC.size
      have xB : BxP (P0.alloc (.cells #[.int .i64 0, .int .i64 0, .slice none 0 0, .int .i64 0, .slice none 0 0] 35)) B 0 0 (.slice none 0 0) 0 (.slice none 0 0) := by rw [hBB]; exact BxP.new _ _ _ _ _ _
      rw [← hBB]
      generalize P0.alloc (.cells #[.int .i64 0, .int .i64 0, .slice none 0 0, .int .i64 0, .slice none 0 0] 35) = P10 at *
      replace bC : Below w2.heap.size w2 P10 := bC.trans (bA.mono bC.size)
      clear bA hBB
      refine hK.out _ _ (X2.out.below bC X2.out.size) (fun hx9 => ?_)
      clear hK K hx9 hHeld
      have hHeld := X2.out.below bC X2.out.size
      try simp only [Act.put, List.setIfInBounds_toArray, List.set_cons_zero, List.set_cons_succ]
      refine wpAnyH_ready (rs := [1]) (by kernel_rfl) (by simp) ?_
      refine (AllReadyH.cons (o := { dst := some 27, op := _, type := _, pos := _, after := _, guard := _ }) rfl (fun K hK => ?_) AllReadyH.nil)
      go_simp
      refine (toTree_any P10 _ ns (HR.out.below (B2.out.trans (bC.mono B2.out.size))) hn).mono ?_
      rintro e P11 ⟨a1, k1, rfl, r1', bA⟩
      have r1 := r1'.rd
      clear r1'
      replace bC : Below w2.heap.size w2 P11 := bC.trans (bA.mono bC.size)
      replace xB : BxP P11 B 0 0 (.slice none 0 0) 0 (.slice none 0 0) := xB.later bA
      clear bA
      refine hK.out _ _ (X2.out.below bC X2.out.size) (fun hx9 => ?_)
      clear hK K hx9 hHeld
      have hHeld := X2.out.below bC X2.out.size
      try simp only [Act.put, List.setIfInBounds_toArray, List.set_cons_zero, List.set_cons_succ]
      refine wpAnyH_ready (rs := [3]) (by kernel_rfl) (by simp) ?_
      refine (AllReadyH.cons (o := { dst := some 29, op := _, type := _, pos := _, after := _, guard := _ }) rfl (fun K hK => ?_) AllReadyH.nil)
      go_simp
      refine (toRequest_any P11 _ os (HX.out.below (B2.out.trans (bC.mono B2.out.size))) hm).mono ?_
      rintro e P12 ⟨a2, k2, rfl, r2', bA⟩
      have r2 := r2'.rd
      clear r2'
      replace bC : Below w2.heap.size w2 P12 := bC.trans (bA.mono bC.size)
      replace xB : BxP P12 B 0 0 (.slice none 0 0) 0 (.slice none 0 0) := xB.later bA
      replace r1 : RdN P12 (.slice a1 ns.length k1) ns := r1.below bA
      clear bA
      refine hK.out _ _ (X2.out.below bC X2.out.size) (fun hx9 => ?_)
      clear hK K hx9 hHeld
      have hHeld := X2.out.below bC X2.out.size
      try simp only [Act.put, List.setIfInBounds_toArray, List.set_cons_zero, List.set_cons_succ]
      refine wpAnyH_ready (rs := [5]) (by kernel_rfl) (by simp) ?_
      refine (AllReadyH.cons (o := { dst := some 31, op := _, type := _, pos := _, after := _, guard := _ }) rfl (fun K hK => ?_) AllReadyH.nil)
      go_simp
      refine (HS.out P12 _ _ r1 r2).mono ?_
      rintro e P13 ⟨v3, v4, rfl, o3, o4, bA⟩
      clear r1 r2
      obtain ⟨a3, k3, hv3⟩ := o3.slice
      subst hv3
      obtain ⟨a4, k4, hv4⟩ := o4.slice
      subst hv4
      replace o3 : OwnS P13 w2.heap.size (.slice a3 L.length k3) L := o3.mono bC.size
      replace o4 : OwnE 100 P13 w2.heap.size (.slice a4 es.length k4) es := o4.mono bC.size
      replace bC : Below w2.heap.size w2 P13 := bC.trans (bA.mono bC.size)
      replace xB : BxP P13 B 0 0 (.slice none 0 0) 0 (.slice none 0 0) := xB.later bA
      clear bA
      refine hK.out _ _ (X2.out.below bC X2.out.size) (fun hx9 => ?_)
      clear hK K hx9 hHeld
      have hHeld := X2.out.below bC X2.out.size
      try simp only [Act.put, List.setIfInBounds_toArray, List.set_cons_zero, List.set_cons_succ]
      refine wpAnyH_ready (rs := [7]) (by kernel_rfl) (by simp) ?_
      refine (AllReadyH.cons (o := { dst := none, op := _, type := _, pos := _, after := _, guard := _ }) rfl (fun K hK => ?_) AllReadyH.nil)
      obtain ⟨q0, q1, q2, q3, q4⟩ := xB.cells
      have f0 := xB.frozen 0
      have f1 := xB.frozen 1
      have f2 := xB.frozen 2
      have f3 := xB.frozen 3
      have f4 := xB.frozen 4
      go_simp
      have A4 : AnsP c i zz L es w2.heap.size B (.slice a3 L.length k3) (.slice a4 es.length k4) _ := ⟨xB.put c i (.slice a3 L.length k3) zz (.slice a4 es.length k4), row_put5 o3 (xB.not_row (by decide) o3) (.int .i64 c) (.int .i64 i) (.slice a3 L.length k3) (.int .i64 zz) (.slice a4 es.length k4), row_put5 o4 (xB.not_row (by decide) o4) (.int .i64 c) (.int .i64 i) (.slice a3 L.length k3) (.int .i64 zz) (.slice a4 es.length k4)⟩
      have bD := below_put5 bC hB (.int .i64 c) (.int .i64 i) (.slice a3 L.length k3) (.int .i64 zz) (.slice a4 es.length k4)
      clear q0 q1 q2 q3 q4 f0 f1 f2 f3 f4
      refine hK.out _ _ (X2.out.below bD X2.out.size) (fun hx9 => ?_)
      clear hK K hx9 hHeld
      try simp only [Act.put, List.setIfInBounds_toArray, List.set_cons_zero, List.set_cons_succ]
      refine wpAnyH_done (by kernel_rfl) ?_ _
      go_wp2_with fail
      go_meet
      exact ⟨_, _, _, rfl, A4, bD⟩
  case rest =>
    obtain ⟨BW, vn, ve, rfl, AW, bW⟩ := hcut
    obtain ⟨an, kn, hvn⟩ := AW.out.n.slice
    subst hvn
    obtain ⟨ae, ke, hve⟩ := AW.out.e.slice
    subst hve
    have XL : Hid (LawR w.heap.size (.slice ao ns.length ca) (.slice xo os.length cx) wc) := X2.out.below bW.out X2.out.size
    have BL : Hid (Below w.heap.size w wc) := B2.out.trans (bW.out.mono B2.out.size)
    have sW := bW.out.size
    have s2 := X2.out.size
    clear X2 B2 bW HS
    obtain ⟨y0, y1⟩ := XL.out.cells
    go_wp2_with fail
    clear y0 y1
    refine (toTree_any _ _ ns (HR.out.below BL.out) hn).mono ?_
    rintro e wd ⟨a7, k7, rfl, o7, b7⟩
    have XLd := XL.out.below b7 XL.out.size
    have sD := b7.size
    have ba : Below wd.heap.size wd (wd.alloc (.cells #[.slice a7 ns.length k7] 39)) := (Below.refl _ _).alloc (Nat.le_refl _) _
    have b7' := b7.trans (ba.mono b7.size)
    have XL1 : Hid (LawR w.heap.size (.slice ao ns.length ca) (.slice xo os.length cx) (wd.alloc (.cells #[.slice a7 ns.length k7] 39))) := XL.out.below b7' XL.out.size
    have BL1 : Hid (Below w.heap.size w (wd.alloc (.cells #[.slice a7 ns.length k7] 39))) := BL.out.trans (b7'.mono BL.out.size)
    have AW1 := hd9 (AW.out.later b7')
    have T1 : Hid (Boxed (wd.alloc (.cells #[.slice a7 ns.length k7] 39)) wd.heap.size 39 (.slice a7 ns.length k7)) := Boxed.new _ _ _
    have O1 : Hid (OwnN 70 (wd.alloc (.cells #[.slice a7 ns.length k7] 39)) wc.heap.size (.slice a7 ns.length k7) ns) := o7.below ba
    have NW : Hid (BW < wc.heap.size ∧ (∀ g, (Value.slice an L.length kn).ownBlock = some g → g < wc.heap.size) ∧ ∀ g, (Value.slice ae es.length ke).ownBlock = some g → g < wc.heap.size) := ⟨AW.out.b.lt, fun g hg => (World.ownsRow.lt AW.out.n g hg).2, fun g hg => (World.ownsRow.lt AW.out.e g hg).2⟩
    obtain ⟨y0, y1⟩ := XLd.cells
    have yl : w.heap.size + 1 < wd.heap.size := XLd.size
    have yl0 : w.heap.size < wd.heap.size := by omega
    clear ba b7 b7' o7 XLd XL BL AW
    go_wp2_with fail
    clear y0 y1 yl yl0
    generalize wd.alloc (.cells #[.slice a7 ns.length k7] 39) = w5 at *
    refine (toRequest_any _ _ os (HX.out.below BL1.out) hm).mono ?_
    rintro e w6 ⟨a8, k8, rfl, o8, b8⟩
    have s5 := XL1.out.size
    have s6 := b8.size
    have t5 := T1.out.lt
    have ba : Below w6.heap.size w6 (w6.alloc (.cells #[.slice a8 os.length k8] 43)) := (Below.refl _ _).alloc (Nat.le_refl _) _
    have b8' := b8.trans (ba.mono b8.size)
    have XL2 : Hid (LawR w.heap.size (.slice ao ns.length ca) (.slice xo os.length cx) (w6.alloc (.cells #[.slice a8 os.length k8] 43))) := XL1.out.below b8' XL1.out.size
    have BL2 : Hid (Below w.heap.size w (w6.alloc (.cells #[.slice a8 os.length k8] 43))) := BL1.out.trans (b8'.mono BL1.out.size)
    have AW2 := hd9 (AW1.out.later b8')
    have T2 : Hid (Boxed (w6.alloc (.cells #[.slice a8 os.length k8] 43)) wd.heap.size 39 (.slice a7 ns.length k7)) := boxed_below b8' T1.out
    have O2 : Hid (OwnN 70 (w6.alloc (.cells #[.slice a8 os.length k8] 43)) wc.heap.size (.slice a7 ns.length k7) ns) := O1.out.below b8'
    have V2 : Hid (Boxed (w6.alloc (.cells #[.slice a8 os.length k8] 43)) w6.heap.size 43 (.slice a8 os.length k8)) := Boxed.new _ _ _
    have U2 : Hid (OwnO 58 (w6.alloc (.cells #[.slice a8 os.length k8] 43)) w5.heap.size (.slice a8 os.length k8) os) := o8.below ba
    have c0 := (boxed_below b8 T1.out).cell
    have cl := (boxed_below b8 T1.out).lt
    clear ba b8 b8' o8 XL1 BL1 AW1 T1 O1
    go_wp2_with fail
    clear c0 cl
    generalize w6.alloc (.cells #[.slice a8 os.length k8] 43) = w7 at *
    refine (HI.out _ _ _ BL2.out O2.out.rd U2.out.rd).mono ?_
    rintro e w8 ⟨v9, u9, rfl, o9, q9, b9⟩
    obtain ⟨gn, hn9, hv9⟩ := o9.slice
    subst hv9
    obtain ⟨ge, he9, hu9⟩ := q9.slice
    subst hu9
    have s7 := V2.out.lt
    have s8 := b9.size
    have ba : Below w8.heap.size w8 (w8.alloc (.cells #[.int .i64 c, .int .i64 i, .slice gn L.length hn9, .int .i64 zz, .slice ge es.length he9] 35)) := (Below.refl _ _).alloc (Nat.le_refl _) _
    have b9' := b9.trans (ba.mono b9.size)
    have A0 : Hid (AP4 w (.slice ao ns.length ca) (.slice xo os.length cx) ns os c i zz L es w2.heap.size BW (.slice an L.length kn) (.slice ae es.length ke) wc.heap.size wd.heap.size (.slice a7 ns.length k7) w5.heap.size w6.heap.size (.slice a8 os.length k8) w7.heap.size w8.heap.size (.slice gn L.length hn9) (.slice ge es.length he9) (w8.alloc (.cells #[.int .i64 c, .int .i64 i, .slice gn L.length hn9, .int .i64 zz, .slice ge es.length he9] 35))) :=
      ⟨XL2.out.below b9' XL2.out.size, BL2.out.trans (b9'.mono BL2.out.size), AW2.out.later b9', boxed_below b9' T2.out, O2.out.below b9', boxed_below b9' V2.out, U2.out.below b9', ⟨BxP.new _ _ _ _ _ _, o9.below ba, q9.below ba⟩⟩
    obtain ⟨c0, c1, c2, c3, c4⟩ := (AW2.out.later b9).b.cells
    have cl := (AW2.out.later b9).b.lt
    clear ba b9 b9' o9 q9 XL2 BL2 AW2 T2 O2 V2 U2
    go_wp2_with fail
    clear c0 c1 c2 c3 c4 cl
    generalize w8.alloc (.cells #[.int .i64 c, .int .i64 i, .slice gn L.length hn9, .int .i64 zz, .slice ge es.length he9] 35) = w9 at *
    refine (eqPrepared_same _ c i zz L es _ _ _ _ A0.out.gb.n.rd A0.out.wb.n.rd A0.out.gb.e.rd A0.out.wb.e.rd (by omega) (by omega)).mono ?_
    rintro e wE ⟨rfl, bE⟩
    have A1 : Hid (AP4 w (.slice ao ns.length ca) (.slice xo os.length cx) ns os c i zz L es w2.heap.size BW (.slice an L.length kn) (.slice ae es.length ke) wc.heap.size wd.heap.size (.slice a7 ns.length k7) w5.heap.size w6.heap.size (.slice a8 os.length k8) w7.heap.size w8.heap.size (.slice gn L.length hn9) (.slice ge es.length he9) wE) := A0.out.later bE
    clear bE A0
    go_wp2_with fail

    refine wp_region_held_drew (S := fun W => AP4 w (.slice ao ns.length ca) (.slice xo os.length cx) ns os c i zz L es w2.heap.size BW (.slice an L.length kn) (.slice ae es.length ke) wc.heap.size wd.heap.size (.slice a7 ns.length k7) w5.heap.size w6.heap.size (.slice a8 os.length k8) w7.heap.size w8.heap.size (.slice gn L.length hn9) (.slice ge es.length he9) W) (by kernel_rfl) (A1.out.later (below_drewN' wE 1)) (fun hHeld => ?_)
    clear A1
    generalize wE.drew = E0 at *
    refine wpAnyH_take (i := 0) (oi := { dst := some 44, op := _, type := _, pos := _, after := _, guard := _ }) (v := (.agg #[.slice a7 ns.length k7])) rfl (by kernel_rfl) (by kernel_rfl) (by kernel_rfl) (fun _ _ _ h => h) (Or.inl ⟨by rfl, ?hy4⟩) (by assumption) ?rest4
    case hy4 =>
      intro w9 hS9
      have y0 := hS9.tb.cell
      go_simp
    try simp only [Act.put, List.setIfInBounds_toArray, List.set_cons_zero, List.set_cons_succ]
    refine wpAnyH_take (i := 1) (oi := { dst := some 45, op := _, type := _, pos := _, after := _, guard := _ }) (v := (.agg #[.slice ao ns.length ca])) rfl (by kernel_rfl) (by kernel_rfl) (by kernel_rfl) (fun _ _ _ h => h) (Or.inl ⟨by rfl, ?hy5⟩) (by assumption) ?rest5
    case hy5 =>
      intro w9 hS9
      have y0 := hS9.bx.t.cell
      go_simp
    try simp only [Act.put, List.setIfInBounds_toArray, List.set_cons_zero, List.set_cons_succ]
    refine wpAnyH_ready (rs := [2]) (by kernel_rfl) (by simp) ?_
    refine AllReadyH.cons (o := { dst := some 46, op := _, type := _, pos := _, after := _, guard := _ }) rfl (fun K hK => ?_) AllReadyH.nil
    go_simp
    refine (toTree_any _ _ ns (HR.out.below hHeld.below) hn).mono ?_
    rintro e E1 ⟨a1, k1, rfl, r1, bA⟩
    have A2 := hHeld.later bA
    refine hK.out _ _ (A2) (fun hx9 => ?_)
    clear hK K hHeld hx9
    have hHeld := A2
    try simp only [Act.put, List.setIfInBounds_toArray, List.set_cons_zero, List.set_cons_succ]
    refine wpAnyH_ready (rs := [3]) (by kernel_rfl) (by simp) ?_
    refine AllReadyH.cons (o := { dst := some 47, op := _, type := _, pos := _, after := _, guard := _ }) rfl (fun K hK => ?_) AllReadyH.nil
    go_simp
    refine (eqTree_same _ _ _ ns A2.tO.rd r1.rd hn).mono ?_
    rintro e E2 ⟨rfl, bB⟩
    have A3 := A2.later bB
    refine hK.out _ _ (A3) (fun hx9 => ?_)
    clear hK K hHeld hx9
    have hHeld := A3
    try simp only [Act.put, List.setIfInBounds_toArray, List.set_cons_zero, List.set_cons_succ]
    refine wpAnyH_take (i := 4) (oi := { dst := some 48, op := _, type := _, pos := _, after := _, guard := _ }) (v := (.bool false)) rfl (by kernel_rfl) (by kernel_rfl) (by kernel_rfl) (fun _ _ _ h => h) (Or.inl ⟨by rfl, ?hy6⟩) (by assumption) ?rest6
    case hy6 =>
      intro w9 hS9
      go_simp
    try simp only [Act.put, List.setIfInBounds_toArray, List.set_cons_zero, List.set_cons_succ]
    refine wpAnyH_done (by kernel_rfl) ?_ _
    clear hHeld
    have E : Hid (AP4 w (.slice ao ns.length ca) (.slice xo os.length cx) ns os c i zz L es w2.heap.size BW (.slice an L.length kn) (.slice ae es.length ke) wc.heap.size wd.heap.size (.slice a7 ns.length k7) w5.heap.size w6.heap.size (.slice a8 os.length k8) w7.heap.size w8.heap.size (.slice gn L.length hn9) (.slice ge es.length he9) E2) := A3
    clear A2 A3 r1 bA bB
    go_wp2_with fail
    refine wp_region_held_drew (S := fun W => AP4 w (.slice ao ns.length ca) (.slice xo os.length cx) ns os c i zz L es w2.heap.size BW (.slice an L.length kn) (.slice ae es.length ke) wc.heap.size wd.heap.size (.slice a7 ns.length k7) w5.heap.size w6.heap.size (.slice a8 os.length k8) w7.heap.size w8.heap.size (.slice gn L.length hn9) (.slice ge es.length he9) W) (by kernel_rfl) (E.out.later (below_drewN' E2 1)) (fun hHeld => ?_)
    clear E
    generalize E2.drew = F0 at *
    refine wpAnyH_take (i := 0) (oi := { dst := some 49, op := _, type := _, pos := _, after := _, guard := _ }) (v := (.agg #[.slice a8 os.length k8])) rfl (by kernel_rfl) (by kernel_rfl) (by kernel_rfl) (fun _ _ _ h => h) (Or.inl ⟨by rfl, ?hy7⟩) (by assumption) ?rest7
    case hy7 =>
      intro w9 hS9
      have y0 := hS9.xb.cell
      go_simp
    try simp only [Act.put, List.setIfInBounds_toArray, List.set_cons_zero, List.set_cons_succ]
    refine wpAnyH_take (i := 1) (oi := { dst := some 50, op := _, type := _, pos := _, after := _, guard := _ }) (v := (.agg #[.slice xo os.length cx])) rfl (by kernel_rfl) (by kernel_rfl) (by kernel_rfl) (fun _ _ _ h => h) (Or.inl ⟨by rfl, ?hy8⟩) (by assumption) ?rest8
    case hy8 =>
      intro w9 hS9
      have y0 := hS9.bx.x.cell
      go_simp
    try simp only [Act.put, List.setIfInBounds_toArray, List.set_cons_zero, List.set_cons_succ]
    refine wpAnyH_ready (rs := [2]) (by kernel_rfl) (by simp) ?_
    refine AllReadyH.cons (o := { dst := some 51, op := _, type := _, pos := _, after := _, guard := _ }) rfl (fun K hK => ?_) AllReadyH.nil
    go_simp
    refine (toRequest_any _ _ os (HX.out.below hHeld.below) hm).mono ?_
    rintro e F1 ⟨a1, k1, rfl, r1, bA⟩
    have A2 := hHeld.later bA
    refine hK.out _ _ (A2) (fun hx9 => ?_)
    clear hK K hHeld hx9
    have hHeld := A2
    try simp only [Act.put, List.setIfInBounds_toArray, List.set_cons_zero, List.set_cons_succ]
    refine wpAnyH_ready (rs := [3]) (by kernel_rfl) (by simp) ?_
    refine AllReadyH.cons (o := { dst := some 52, op := _, type := _, pos := _, after := _, guard := _ }) rfl (fun K hK => ?_) AllReadyH.nil
    go_simp
    refine (eqRequest_same _ _ _ os A2.xo.rd r1.rd hm).mono ?_
    rintro e F2 ⟨rfl, bB⟩
    have A3 := A2.later bB
    refine hK.out _ _ (A3) (fun hx9 => ?_)
    clear hK K hHeld hx9
    have hHeld := A3
    try simp only [Act.put, List.setIfInBounds_toArray, List.set_cons_zero, List.set_cons_succ]
    refine wpAnyH_take (i := 4) (oi := { dst := some 53, op := _, type := _, pos := _, after := _, guard := _ }) (v := (.bool false)) rfl (by kernel_rfl) (by kernel_rfl) (by kernel_rfl) (fun _ _ _ h => h) (Or.inl ⟨by rfl, ?hy9⟩) (by assumption) ?rest9
    case hy9 =>
      intro w9 hS9
      go_simp
    try simp only [Act.put, List.setIfInBounds_toArray, List.set_cons_zero, List.set_cons_succ]
    refine wpAnyH_done (by kernel_rfl) ?_ _
    clear hHeld
    have F : Hid (AP4 w (.slice ao ns.length ca) (.slice xo os.length cx) ns os c i zz L es w2.heap.size BW (.slice an L.length kn) (.slice ae es.length ke) wc.heap.size wd.heap.size (.slice a7 ns.length k7) w5.heap.size w6.heap.size (.slice a8 os.length k8) w7.heap.size w8.heap.size (.slice gn L.length hn9) (.slice ge es.length he9) F2) := A3
    clear A2 A3 r1 bA bB
    have c0 := F.out.tb.cell
    go_wp2_with fail
    clear c0
    refine (markTreeO_any _ wc.heap.size 1 _ ns F.out.tO (by have := F.out.tb.lt; omega) (by omega) hn).mono ?_
    rintro e wF ⟨rfl, oF, bF, kF, nF⟩
    have G : Hid (AP4 w (.slice ao ns.length ca) (.slice xo os.length cx) (mkNs 1 ns.length) os c i zz L es w2.heap.size BW (.slice an L.length kn) (.slice ae es.length ke) wc.heap.size wd.heap.size (.slice a7 ns.length k7) w5.heap.size w6.heap.size (.slice a8 os.length k8) w7.heap.size w8.heap.size (.slice gn L.length hn9) (.slice ge es.length he9) wF) :=
      ⟨F.out.bx.keep kF (by decide) (by decide), F.out.below.trans (bF.mono (by omega)), F.out.wb.keep kF (by decide) (by decide) (by decide), kF.box F.out.tb (by decide), oF, kF.box F.out.xb (by decide), F.out.xo.keepO kF (by decide), F.out.gb.keep kF (by decide) (by decide) (by decide)⟩
    clear oF bF kF nF F
    have c0 := G.out.xb.cell
    go_wp2_with fail
    clear c0
    refine (markRequest_any _ w5.heap.size (1 + 7 * ns.length) _ os G.out.xo (by have := G.out.xb.lt; omega) (by omega) hm).mono ?_
    rintro e wG ⟨rfl, bG, kG⟩
    have H : Hid (AP5 w (.slice ao ns.length ca) (.slice xo os.length cx) c i zz L L es es w2.heap.size BW (.slice an L.length kn) (.slice ae es.length ke) w7.heap.size w8.heap.size (.slice gn L.length hn9) (.slice ge es.length he9) wG) :=
      ⟨G.out.bx.keep kG (by decide) (by decide), G.out.below.trans (bG.mono (by omega)), G.out.wb.keep kG (by decide) (by decide) (by decide), G.out.gb.keep kG (by decide) (by decide) (by decide)⟩
    clear bG kG G
    have hk9 : ¬ ((1 + 7 * ns.length + 5 * os.length : Nat) : Int) < 0 := by omega
    obtain ⟨c0, c1, c2, c3, c4⟩ := H.out.gb.b.cells
    obtain ⟨d0, d1, d2, d3, d4⟩ := H.out.wb.b.cells
    go_wp2_with fail
    clear c0 c1 c2 c3 c4 d0 d1 d2 d3 d4
    refine (eqPrepared_same _ c i zz L es _ _ _ _ H.out.gb.n.rd H.out.wb.n.rd H.out.gb.e.rd H.out.wb.e.rd (by omega) (by omega)).mono ?_
    rintro e wH ⟨rfl, bH⟩
    have I : Hid (AP5 w (.slice ao ns.length ca) (.slice xo os.length cx) c i zz L L es es w2.heap.size BW (.slice an L.length kn) (.slice ae es.length ke) w7.heap.size w8.heap.size (.slice gn L.length hn9) (.slice ge es.length he9) wH) := H.out.later bH
    clear bH H hk9
    obtain ⟨c0, c1, c2, c3, c4⟩ := I.out.gb.b.cells
    go_wp2_with fail
    clear c0 c1 c2 c3 c4
    refine (markPrepared_any _ w7.heap.size 1 c i zz L es _ _ I.out.gb.n I.out.gb.e (by have := I.out.gb.b.lt; omega) (by omega) hl he).mono ?_
    rintro e wI ⟨rfl, oI, qI, bI, kI⟩
    have J : Hid (AP5 w (.slice ao ns.length ca) (.slice xo os.length cx) c i zz L (mkS 1 L.length) es (mkEs (1 + L.length) es.length) w2.heap.size BW (.slice an L.length kn) (.slice ae es.length ke) w7.heap.size w8.heap.size (.slice gn L.length hn9) (.slice ge es.length he9) wI) :=
      ⟨I.out.bx.below bI (by omega), I.out.below.trans (bI.mono (by omega)), I.out.wb.low bI (by have := NW.out.1; omega) (fun g hg => by have := NW.out.2.1 g hg; omega) (fun g hg => by have := NW.out.2.2 g hg; omega), ⟨kI _ _ _ _ I.out.gb.b (by decide) (by decide), oI, qI⟩⟩
    clear oI bI qI kI I
    obtain ⟨c0, c1, c2, c3, c4⟩ := J.out.gb.b.cells
    have hq0 : ¬ ((1 + L.length + 8 * es.length : Nat) : Int) < 0 := by omega
    go_wp2_with fail
    clear c0 c1 c2 c3 c4
    refine (heldPrepared_any _ 1 L.length es.length c i zz _ _ J.out.gb.n.rd J.out.gb.e.rd (by omega) hl he).mono ?_
    rintro e wJ ⟨rfl, bJ⟩
    have K0 : Hid (AP5 w (.slice ao ns.length ca) (.slice xo os.length cx) c i zz L (mkS 1 L.length) es (mkEs (1 + L.length) es.length) w2.heap.size BW (.slice an L.length kn) (.slice ae es.length ke) w7.heap.size w8.heap.size (.slice gn L.length hn9) (.slice ge es.length he9) wJ) := J.out.later bJ
    clear bJ J
    have X2 : Hid (LawR w.heap.size (.slice ao ns.length ca) (.slice xo os.length cx) wJ) := K0.out.bx
    have B2 : Hid (Below w.heap.size w wJ) := K0.out.below
    go_upto_region 31 with fail
    go_cut [15] from 79 to 84 (fun v15 wx => ∃ B vn ve, v15 = .pointer (some ⟨B, 0, none⟩) ∧ Hid (AnsP c i zz L es wJ.heap.size B vn ve wx) ∧ Hid (Below wJ.heap.size wJ wx))
    case first =>

      refine wp_region_held_drew (S := fun W => LawR w.heap.size (.slice ao ns.length ca) (.slice xo os.length cx) W) (by kernel_rfl) (X2.out.below (below_drewN' wJ 1) X2.out.size) (fun hHeld => ?_)
      have bC : Below wJ.heap.size wJ wJ.drew := below_drewN' wJ 1
      generalize wJ.drew = H0 at *
      refine wpAnyH_take (i := 0) (oi := { dst := some 79, op := _, type := _, pos := _, after := _, guard := _ }) (v := (.agg #[.slice ao ns.length ca])) rfl (by kernel_rfl) (by kernel_rfl) (by kernel_rfl) (fun _ _ _ h => h) (Or.inl ⟨by rfl, ?hy10⟩) (by assumption) ?rest10
      case hy10 =>
        intro w9 hS9
        obtain ⟨y0, y1⟩ := hS9.cells
        go_simp
      try simp only [Act.put, List.setIfInBounds_toArray, List.set_cons_zero, List.set_cons_succ]
      refine wpAnyH_take (i := 2) (oi := { dst := some 81, op := _, type := _, pos := _, after := _, guard := _ }) (v := (.agg #[.slice xo os.length cx])) rfl (by kernel_rfl) (by kernel_rfl) (by kernel_rfl) (fun _ _ _ h => h) (Or.inl ⟨by rfl, ?hy11⟩) (by assumption) ?rest11
      case hy11 =>
        intro w9 hS9
        obtain ⟨y0, y1⟩ := hS9.cells
        go_simp
      try simp only [Act.put, List.setIfInBounds_toArray, List.set_cons_zero, List.set_cons_succ]
      refine wpAnyH_take (i := 4) (oi := { dst := some 83, op := _, type := _, pos := _, after := _, guard := _ }) (v := (.int .i64 z)) rfl (by kernel_rfl) (by kernel_rfl) (by kernel_rfl) (fun _ _ _ h => h) (Or.inl ⟨by rfl, ?hy12⟩) (by assumption) ?rest12
      case hy12 =>
        intro w9 hS9
        clear hS9
        go_simp
      try simp only [Act.put, List.setIfInBounds_toArray, List.set_cons_zero, List.set_cons_succ]
      refine wpAnyH_ready (rs := [1, 6]) (by kernel_rfl) (by simp) ?_
      refine (AllReadyH.cons (o := { dst := some 80, op := _, type := _, pos := _, after := _, guard := _ }) rfl (fun K hK => ?_) (AllReadyH.cons (o := { dst := some 15, op := _, type := _, pos := _, after := _, guard := _ }) rfl (fun K hK => ?_) AllReadyH.nil))
      · go_simp
        refine (toTree_any H0 _ ns (HR.out.below (B2.out.trans (bC.mono B2.out.size))) hn).mono ?_
        rintro e H1 ⟨a1, k1, rfl, r1', bA⟩
        have r1 := r1'.rd
        clear r1'
        replace bC : Below wJ.heap.size wJ H1 := bC.trans (bA.mono bC.size)
        clear bA
        refine hK.out _ _ (X2.out.below bC X2.out.size) (fun hx9 => ?_)
        clear hK K hx9 hHeld
        have hHeld := X2.out.below bC X2.out.size
        try simp only [Act.put, List.setIfInBounds_toArray, List.set_cons_zero, List.set_cons_succ]
        refine wpAnyH_ready (rs := [3, 6]) (by kernel_rfl) (by simp) ?_
        refine (AllReadyH.cons (o := { dst := some 82, op := _, type := _, pos := _, after := _, guard := _ }) rfl (fun K hK => ?_) (AllReadyH.cons (o := { dst := some 15, op := _, type := _, pos := _, after := _, guard := _ }) rfl (fun K hK => ?_) AllReadyH.nil))
        · go_simp
          refine (toRequest_any H1 _ os (HX.out.below (B2.out.trans (bC.mono B2.out.size))) hm).mono ?_
          rintro e H2 ⟨a2, k2, rfl, r2', bA⟩
          have r2 := r2'.rd
          clear r2'
          replace bC : Below wJ.heap.size wJ H2 := bC.trans (bA.mono bC.size)
          replace r1 : RdN H2 (.slice a1 ns.length k1) ns := r1.below bA
          clear bA
          refine hK.out _ _ (X2.out.below bC X2.out.size) (fun hx9 => ?_)
          clear hK K hx9 hHeld
          have hHeld := X2.out.below bC X2.out.size
          try simp only [Act.put, List.setIfInBounds_toArray, List.set_cons_zero, List.set_cons_succ]
          refine wpAnyH_ready (rs := [5, 6]) (by kernel_rfl) (by simp) ?_
          refine (AllReadyH.cons (o := { dst := some 84, op := _, type := _, pos := _, after := _, guard := _ }) rfl (fun K hK => ?_) (AllReadyH.cons (o := { dst := some 15, op := _, type := _, pos := _, after := _, guard := _ }) rfl (fun K hK => ?_) AllReadyH.nil))
          · go_simp
            refine (HI.out H2 _ _ (B2.out.trans (bC.mono B2.out.size)) r1 r2).mono ?_
            rintro e H3 ⟨v3, v4, rfl, o3, o4, bA⟩
            clear r1 r2
            obtain ⟨a3, k3, hv3⟩ := o3.slice
            subst hv3
            obtain ⟨a4, k4, hv4⟩ := o4.slice
            subst hv4
            replace o3 : OwnS H3 wJ.heap.size (.slice a3 L.length k3) L := o3.mono bC.size
            replace o4 : OwnE 100 H3 wJ.heap.size (.slice a4 es.length k4) es := o4.mono bC.size
            replace bC : Below wJ.heap.size wJ H3 := bC.trans (bA.mono bC.size)
            clear bA
            refine hK.out _ _ (X2.out.below bC X2.out.size) (fun hx9 => ?_)
            clear hK K hx9 hHeld
            have hHeld := X2.out.below bC X2.out.size
            try simp only [Act.put, List.setIfInBounds_toArray, List.set_cons_zero, List.set_cons_succ]
            refine wpAnyH_ready (rs := [6]) (by kernel_rfl) (by simp) ?_
            refine (AllReadyH.cons (o := { dst := some 15, op := _, type := _, pos := _, after := _, guard := _ }) rfl (fun K hK => ?_) AllReadyH.nil)
            go_simp
            have bA : Below H3.heap.size H3 (H3.alloc (.cells #[.int .i64 0, .int .i64 0, .slice none 0 0, .int .i64 0, .slice none 0 0] 35)) := (Below.refl _ _).alloc (Nat.le_refl _) _
            obtain ⟨B, hBB⟩ : ∃ B, B = H3.heap.size := ⟨_, rfl⟩
            have hB : wJ.heap.size ≤ B := by rw [hBB]; exact bC.size
            have xB : BxP (H3.alloc (.cells #[.int .i64 0, .int .i64 0, .slice none 0 0, .int .i64 0, .slice none 0 0] 35)) B 0 0 (.slice none 0 0) 0 (.slice none 0 0) := by rw [hBB]; exact BxP.new _ _ _ _ _ _
            rw [← hBB]
            generalize H3.alloc (.cells #[.int .i64 0, .int .i64 0, .slice none 0 0, .int .i64 0, .slice none 0 0] 35) = H4 at *
            replace bC : Below wJ.heap.size wJ H4 := bC.trans (bA.mono bC.size)
            replace o3 : OwnS H4 wJ.heap.size (.slice a3 L.length k3) L := o3.below bA
            replace o4 : OwnE 100 H4 wJ.heap.size (.slice a4 es.length k4) es := o4.below bA
            clear bA hBB
            refine hK.out _ _ (X2.out.below bC X2.out.size) (fun hx9 => ?_)
            clear hK K hx9 hHeld
            have hHeld := X2.out.below bC X2.out.size
            try simp only [Act.put, List.setIfInBounds_toArray, List.set_cons_zero, List.set_cons_succ]
            refine wpAnyH_ready (rs := [7]) (by kernel_rfl) (by simp) ?_
            refine (AllReadyH.cons (o := { dst := none, op := _, type := _, pos := _, after := _, guard := _ }) rfl (fun K hK => ?_) AllReadyH.nil)
            obtain ⟨q0, q1, q2, q3, q4⟩ := xB.cells
            have f0 := xB.frozen 0
            have f1 := xB.frozen 1
            have f2 := xB.frozen 2
            have f3 := xB.frozen 3
            have f4 := xB.frozen 4
            go_simp
            have A4 : AnsP c i zz L es wJ.heap.size B (.slice a3 L.length k3) (.slice a4 es.length k4) _ := ⟨xB.put c i (.slice a3 L.length k3) zz (.slice a4 es.length k4), row_put5 o3 (xB.not_row (by decide) o3) (.int .i64 c) (.int .i64 i) (.slice a3 L.length k3) (.int .i64 zz) (.slice a4 es.length k4), row_put5 o4 (xB.not_row (by decide) o4) (.int .i64 c) (.int .i64 i) (.slice a3 L.length k3) (.int .i64 zz) (.slice a4 es.length k4)⟩
            have bD := below_put5 bC hB (.int .i64 c) (.int .i64 i) (.slice a3 L.length k3) (.int .i64 zz) (.slice a4 es.length k4)
            clear q0 q1 q2 q3 q4 f0 f1 f2 f3 f4
            refine hK.out _ _ (X2.out.below bD X2.out.size) (fun hx9 => ?_)
            clear hK K hx9 hHeld
            try simp only [Act.put, List.setIfInBounds_toArray, List.set_cons_zero, List.set_cons_succ]
            refine wpAnyH_done (by kernel_rfl) ?_ _
            go_wp2_with fail
            go_meet
            exact ⟨_, _, _, rfl, A4, bD⟩
          · go_simp
            have bA : Below H2.heap.size H2 (H2.alloc (.cells #[.int .i64 0, .int .i64 0, .slice none 0 0, .int .i64 0, .slice none 0 0] 35)) := (Below.refl _ _).alloc (Nat.le_refl _) _
            obtain ⟨B, hBB⟩ : ∃ B, B = H2.heap.size := ⟨_, rfl⟩
            have hB : wJ.heap.size ≤ B := by rw [hBB]; exact bC.size
            have xB : BxP (H2.alloc (.cells #[.int .i64 0, .int .i64 0, .slice none 0 0, .int .i64 0, .slice none 0 0] 35)) B 0 0 (.slice none 0 0) 0 (.slice none 0 0) := by rw [hBB]; exact BxP.new _ _ _ _ _ _
            rw [← hBB]
            generalize H2.alloc (.cells #[.int .i64 0, .int .i64 0, .slice none 0 0, .int .i64 0, .slice none 0 0] 35) = H5 at *
            replace bC : Below wJ.heap.size wJ H5 := bC.trans (bA.mono bC.size)
            replace r1 : RdN H5 (.slice a1 ns.length k1) ns := r1.below bA
            replace r2 : RdO H5 (.slice a2 os.length k2) os := r2.below bA
            clear bA hBB
            refine hK.out _ _ (X2.out.below bC X2.out.size) (fun hx9 => ?_)
            clear hK K hx9 hHeld
            have hHeld := X2.out.below bC X2.out.size
            try simp only [Act.put, List.setIfInBounds_toArray, List.set_cons_zero, List.set_cons_succ]
            refine wpAnyH_ready (rs := [5]) (by kernel_rfl) (by simp) ?_
            refine (AllReadyH.cons (o := { dst := some 84, op := _, type := _, pos := _, after := _, guard := _ }) rfl (fun K hK => ?_) AllReadyH.nil)
            go_simp
            refine (HI.out H5 _ _ (B2.out.trans (bC.mono B2.out.size)) r1 r2).mono ?_
            rintro e H6 ⟨v3, v4, rfl, o3, o4, bA⟩
            clear r1 r2
            obtain ⟨a3, k3, hv3⟩ := o3.slice
            subst hv3
            obtain ⟨a4, k4, hv4⟩ := o4.slice
            subst hv4
            replace o3 : OwnS H6 wJ.heap.size (.slice a3 L.length k3) L := o3.mono bC.size
            replace o4 : OwnE 100 H6 wJ.heap.size (.slice a4 es.length k4) es := o4.mono bC.size
            replace bC : Below wJ.heap.size wJ H6 := bC.trans (bA.mono bC.size)
            replace xB : BxP H6 B 0 0 (.slice none 0 0) 0 (.slice none 0 0) := xB.later bA
            clear bA
            refine hK.out _ _ (X2.out.below bC X2.out.size) (fun hx9 => ?_)
            clear hK K hx9 hHeld
            have hHeld := X2.out.below bC X2.out.size
            try simp only [Act.put, List.setIfInBounds_toArray, List.set_cons_zero, List.set_cons_succ]
            refine wpAnyH_ready (rs := [7]) (by kernel_rfl) (by simp) ?_
            refine (AllReadyH.cons (o := { dst := none, op := _, type := _, pos := _, after := _, guard := _ }) rfl (fun K hK => ?_) AllReadyH.nil)
            obtain ⟨q0, q1, q2, q3, q4⟩ := xB.cells
            have f0 := xB.frozen 0
            have f1 := xB.frozen 1
            have f2 := xB.frozen 2
            have f3 := xB.frozen 3
            have f4 := xB.frozen 4
            go_simp
            have A4 : AnsP c i zz L es wJ.heap.size B (.slice a3 L.length k3) (.slice a4 es.length k4) _ := ⟨xB.put c i (.slice a3 L.length k3) zz (.slice a4 es.length k4), row_put5 o3 (xB.not_row (by decide) o3) (.int .i64 c) (.int .i64 i) (.slice a3 L.length k3) (.int .i64 zz) (.slice a4 es.length k4), row_put5 o4 (xB.not_row (by decide) o4) (.int .i64 c) (.int .i64 i) (.slice a3 L.length k3) (.int .i64 zz) (.slice a4 es.length k4)⟩
            have bD := below_put5 bC hB (.int .i64 c) (.int .i64 i) (.slice a3 L.length k3) (.int .i64 zz) (.slice a4 es.length k4)
            clear q0 q1 q2 q3 q4 f0 f1 f2 f3 f4
            refine hK.out _ _ (X2.out.below bD X2.out.size) (fun hx9 => ?_)
            clear hK K hx9 hHeld
            try simp only [Act.put, List.setIfInBounds_toArray, List.set_cons_zero, List.set_cons_succ]
            refine wpAnyH_done (by kernel_rfl) ?_ _
            go_wp2_with fail
            go_meet
            exact ⟨_, _, _, rfl, A4, bD⟩
        · go_simp
          have bA : Below H1.heap.size H1 (H1.alloc (.cells #[.int .i64 0, .int .i64 0, .slice none 0 0, .int .i64 0, .slice none 0 0] 35)) := (Below.refl _ _).alloc (Nat.le_refl _) _
          obtain ⟨B, hBB⟩ : ∃ B, B = H1.heap.size := ⟨_, rfl⟩
          have hB : wJ.heap.size ≤ B := by rw [hBB]; exact bC.size
          have xB : BxP (H1.alloc (.cells #[.int .i64 0, .int .i64 0, .slice none 0 0, .int .i64 0, .slice none 0 0] 35)) B 0 0 (.slice none 0 0) 0 (.slice none 0 0) := by rw [hBB]; exact BxP.new _ _ _ _ _ _
          rw [← hBB]
          generalize H1.alloc (.cells #[.int .i64 0, .int .i64 0, .slice none 0 0, .int .i64 0, .slice none 0 0] 35) = H7 at *
          replace bC : Below wJ.heap.size wJ H7 := bC.trans (bA.mono bC.size)
          replace r1 : RdN H7 (.slice a1 ns.length k1) ns := r1.below bA
          clear bA hBB
          refine hK.out _ _ (X2.out.below bC X2.out.size) (fun hx9 => ?_)
          clear hK K hx9 hHeld
          have hHeld := X2.out.below bC X2.out.size
          try simp only [Act.put, List.setIfInBounds_toArray, List.set_cons_zero, List.set_cons_succ]
          refine wpAnyH_ready (rs := [3]) (by kernel_rfl) (by simp) ?_
          refine (AllReadyH.cons (o := { dst := some 82, op := _, type := _, pos := _, after := _, guard := _ }) rfl (fun K hK => ?_) AllReadyH.nil)
          go_simp
          refine (toRequest_any H7 _ os (HX.out.below (B2.out.trans (bC.mono B2.out.size))) hm).mono ?_
          rintro e H8 ⟨a2, k2, rfl, r2', bA⟩
          have r2 := r2'.rd
          clear r2'
          replace bC : Below wJ.heap.size wJ H8 := bC.trans (bA.mono bC.size)
          replace xB : BxP H8 B 0 0 (.slice none 0 0) 0 (.slice none 0 0) := xB.later bA
          replace r1 : RdN H8 (.slice a1 ns.length k1) ns := r1.below bA
          clear bA
          refine hK.out _ _ (X2.out.below bC X2.out.size) (fun hx9 => ?_)
          clear hK K hx9 hHeld
          have hHeld := X2.out.below bC X2.out.size
          try simp only [Act.put, List.setIfInBounds_toArray, List.set_cons_zero, List.set_cons_succ]
          refine wpAnyH_ready (rs := [5]) (by kernel_rfl) (by simp) ?_
          refine (AllReadyH.cons (o := { dst := some 84, op := _, type := _, pos := _, after := _, guard := _ }) rfl (fun K hK => ?_) AllReadyH.nil)
          go_simp
          refine (HI.out H8 _ _ (B2.out.trans (bC.mono B2.out.size)) r1 r2).mono ?_
          rintro e H9 ⟨v3, v4, rfl, o3, o4, bA⟩
          clear r1 r2
          obtain ⟨a3, k3, hv3⟩ := o3.slice
          subst hv3
          obtain ⟨a4, k4, hv4⟩ := o4.slice
          subst hv4
          replace o3 : OwnS H9 wJ.heap.size (.slice a3 L.length k3) L := o3.mono bC.size
          replace o4 : OwnE 100 H9 wJ.heap.size (.slice a4 es.length k4) es := o4.mono bC.size
          replace bC : Below wJ.heap.size wJ H9 := bC.trans (bA.mono bC.size)
          replace xB : BxP H9 B 0 0 (.slice none 0 0) 0 (.slice none 0 0) := xB.later bA
          clear bA
          refine hK.out _ _ (X2.out.below bC X2.out.size) (fun hx9 => ?_)
          clear hK K hx9 hHeld
          have hHeld := X2.out.below bC X2.out.size
          try simp only [Act.put, List.setIfInBounds_toArray, List.set_cons_zero, List.set_cons_succ]
          refine wpAnyH_ready (rs := [7]) (by kernel_rfl) (by simp) ?_
          refine (AllReadyH.cons (o := { dst := none, op := _, type := _, pos := _, after := _, guard := _ }) rfl (fun K hK => ?_) AllReadyH.nil)
          obtain ⟨q0, q1, q2, q3, q4⟩ := xB.cells
          have f0 := xB.frozen 0
          have f1 := xB.frozen 1
          have f2 := xB.frozen 2
          have f3 := xB.frozen 3
          have f4 := xB.frozen 4
          go_simp
          have A4 : AnsP c i zz L es wJ.heap.size B (.slice a3 L.length k3) (.slice a4 es.length k4) _ := ⟨xB.put c i (.slice a3 L.length k3) zz (.slice a4 es.length k4), row_put5 o3 (xB.not_row (by decide) o3) (.int .i64 c) (.int .i64 i) (.slice a3 L.length k3) (.int .i64 zz) (.slice a4 es.length k4), row_put5 o4 (xB.not_row (by decide) o4) (.int .i64 c) (.int .i64 i) (.slice a3 L.length k3) (.int .i64 zz) (.slice a4 es.length k4)⟩
          have bD := below_put5 bC hB (.int .i64 c) (.int .i64 i) (.slice a3 L.length k3) (.int .i64 zz) (.slice a4 es.length k4)
          clear q0 q1 q2 q3 q4 f0 f1 f2 f3 f4
          refine hK.out _ _ (X2.out.below bD X2.out.size) (fun hx9 => ?_)
          clear hK K hx9 hHeld
          try simp only [Act.put, List.setIfInBounds_toArray, List.set_cons_zero, List.set_cons_succ]
          refine wpAnyH_done (by kernel_rfl) ?_ _
          go_wp2_with fail
          go_meet
          exact ⟨_, _, _, rfl, A4, bD⟩
      · go_simp
        have bA : Below H0.heap.size H0 (H0.alloc (.cells #[.int .i64 0, .int .i64 0, .slice none 0 0, .int .i64 0, .slice none 0 0] 35)) := (Below.refl _ _).alloc (Nat.le_refl _) _
        obtain ⟨B, hBB⟩ : ∃ B, B = H0.heap.size := ⟨_, rfl⟩
        have hB : wJ.heap.size ≤ B := by rw [hBB]; exact bC.size
        have xB : BxP (H0.alloc (.cells #[.int .i64 0, .int .i64 0, .slice none 0 0, .int .i64 0, .slice none 0 0] 35)) B 0 0 (.slice none 0 0) 0 (.slice none 0 0) := by rw [hBB]; exact BxP.new _ _ _ _ _ _
        rw [← hBB]
        generalize H0.alloc (.cells #[.int .i64 0, .int .i64 0, .slice none 0 0, .int .i64 0, .slice none 0 0] 35) = H10 at *
        replace bC : Below wJ.heap.size wJ H10 := bC.trans (bA.mono bC.size)
        clear bA hBB
        refine hK.out _ _ (X2.out.below bC X2.out.size) (fun hx9 => ?_)
        clear hK K hx9 hHeld
        have hHeld := X2.out.below bC X2.out.size
        try simp only [Act.put, List.setIfInBounds_toArray, List.set_cons_zero, List.set_cons_succ]
        refine wpAnyH_ready (rs := [1]) (by kernel_rfl) (by simp) ?_
        refine (AllReadyH.cons (o := { dst := some 80, op := _, type := _, pos := _, after := _, guard := _ }) rfl (fun K hK => ?_) AllReadyH.nil)
        go_simp
        refine (toTree_any H10 _ ns (HR.out.below (B2.out.trans (bC.mono B2.out.size))) hn).mono ?_
        rintro e H11 ⟨a1, k1, rfl, r1', bA⟩
        have r1 := r1'.rd
        clear r1'
        replace bC : Below wJ.heap.size wJ H11 := bC.trans (bA.mono bC.size)
        replace xB : BxP H11 B 0 0 (.slice none 0 0) 0 (.slice none 0 0) := xB.later bA
        clear bA
        refine hK.out _ _ (X2.out.below bC X2.out.size) (fun hx9 => ?_)
        clear hK K hx9 hHeld
        have hHeld := X2.out.below bC X2.out.size
        try simp only [Act.put, List.setIfInBounds_toArray, List.set_cons_zero, List.set_cons_succ]
        refine wpAnyH_ready (rs := [3]) (by kernel_rfl) (by simp) ?_
        refine (AllReadyH.cons (o := { dst := some 82, op := _, type := _, pos := _, after := _, guard := _ }) rfl (fun K hK => ?_) AllReadyH.nil)
        go_simp
        refine (toRequest_any H11 _ os (HX.out.below (B2.out.trans (bC.mono B2.out.size))) hm).mono ?_
        rintro e H12 ⟨a2, k2, rfl, r2', bA⟩
        have r2 := r2'.rd
        clear r2'
        replace bC : Below wJ.heap.size wJ H12 := bC.trans (bA.mono bC.size)
        replace xB : BxP H12 B 0 0 (.slice none 0 0) 0 (.slice none 0 0) := xB.later bA
        replace r1 : RdN H12 (.slice a1 ns.length k1) ns := r1.below bA
        clear bA
        refine hK.out _ _ (X2.out.below bC X2.out.size) (fun hx9 => ?_)
        clear hK K hx9 hHeld
        have hHeld := X2.out.below bC X2.out.size
        try simp only [Act.put, List.setIfInBounds_toArray, List.set_cons_zero, List.set_cons_succ]
        refine wpAnyH_ready (rs := [5]) (by kernel_rfl) (by simp) ?_
        refine (AllReadyH.cons (o := { dst := some 84, op := _, type := _, pos := _, after := _, guard := _ }) rfl (fun K hK => ?_) AllReadyH.nil)
        go_simp
        refine (HI.out H12 _ _ (B2.out.trans (bC.mono B2.out.size)) r1 r2).mono ?_
        rintro e H13 ⟨v3, v4, rfl, o3, o4, bA⟩
        clear r1 r2
        obtain ⟨a3, k3, hv3⟩ := o3.slice
        subst hv3
        obtain ⟨a4, k4, hv4⟩ := o4.slice
        subst hv4
        replace o3 : OwnS H13 wJ.heap.size (.slice a3 L.length k3) L := o3.mono bC.size
        replace o4 : OwnE 100 H13 wJ.heap.size (.slice a4 es.length k4) es := o4.mono bC.size
        replace bC : Below wJ.heap.size wJ H13 := bC.trans (bA.mono bC.size)
        replace xB : BxP H13 B 0 0 (.slice none 0 0) 0 (.slice none 0 0) := xB.later bA
        clear bA
        refine hK.out _ _ (X2.out.below bC X2.out.size) (fun hx9 => ?_)
        clear hK K hx9 hHeld
        have hHeld := X2.out.below bC X2.out.size
        try simp only [Act.put, List.setIfInBounds_toArray, List.set_cons_zero, List.set_cons_succ]
        refine wpAnyH_ready (rs := [7]) (by kernel_rfl) (by simp) ?_
        refine (AllReadyH.cons (o := { dst := none, op := _, type := _, pos := _, after := _, guard := _ }) rfl (fun K hK => ?_) AllReadyH.nil)
        obtain ⟨q0, q1, q2, q3, q4⟩ := xB.cells
        have f0 := xB.frozen 0
        have f1 := xB.frozen 1
        have f2 := xB.frozen 2
        have f3 := xB.frozen 3
        have f4 := xB.frozen 4
        go_simp
        have A4 : AnsP c i zz L es wJ.heap.size B (.slice a3 L.length k3) (.slice a4 es.length k4) _ := ⟨xB.put c i (.slice a3 L.length k3) zz (.slice a4 es.length k4), row_put5 o3 (xB.not_row (by decide) o3) (.int .i64 c) (.int .i64 i) (.slice a3 L.length k3) (.int .i64 zz) (.slice a4 es.length k4), row_put5 o4 (xB.not_row (by decide) o4) (.int .i64 c) (.int .i64 i) (.slice a3 L.length k3) (.int .i64 zz) (.slice a4 es.length k4)⟩
        have bD := below_put5 bC hB (.int .i64 c) (.int .i64 i) (.slice a3 L.length k3) (.int .i64 zz) (.slice a4 es.length k4)
        clear q0 q1 q2 q3 q4 f0 f1 f2 f3 f4
        refine hK.out _ _ (X2.out.below bD X2.out.size) (fun hx9 => ?_)
        clear hK K hx9 hHeld
        try simp only [Act.put, List.setIfInBounds_toArray, List.set_cons_zero, List.set_cons_succ]
        refine wpAnyH_done (by kernel_rfl) ?_ _
        go_wp2_with fail
        go_meet
        exact ⟨_, _, _, rfl, A4, bD⟩
    case rest =>
      obtain ⟨BH, vn, ve, rfl, AH, bH⟩ := hcut
      obtain ⟨ah, kh, hvh⟩ := AH.out.n.slice
      subst hvh
      obtain ⟨ah2, kh2, hvh2⟩ := AH.out.e.slice
      subst hvh2
      have BJ : Hid (Below w.heap.size w wc) := K0.out.below.trans (bH.out.mono K0.out.below.size)
      have AK := hd9 (K0.out.wb.later bH.out)
      obtain ⟨c0, c1, c2, c3, c4⟩ := AH.out.b.cells
      obtain ⟨d0, d1, d2, d3, d4⟩ := AK.out.b.cells
      go_wp2_with fail
      clear c0 c1 c2 c3 c4 d0 d1 d2 d3 d4
      refine (eqPrepared_same _ c i zz L es _ _ _ _ AH.out.n.rd AK.out.n.rd AH.out.e.rd AK.out.e.rd (by omega) (by omega)).mono ?_
      rintro e wZ ⟨rfl, bZ⟩
      have BZ : Hid (Below w.heap.size w wZ) := BJ.out.trans (bZ.mono BJ.out.size)
      clear bZ
      go_wp2
      go_ret
      exact ⟨rfl, BZ.out⟩

end Go.Proofs.YtejhcebodlcloaaGreatDoor


