import Derived.Test.YtgjenbgclpmjmaaDoorETree
import Derived.Test.YtgjenbgclpmjmaaDoorStepOwn
namespace Go.Proofs.YtgjenbgclpmjmaaDoor
open Go.RowKit Go.Shelf

theorem own_full {e : TypeId} {w : World} {base : Nat} {v : Value} {xs : List Int} (h : Own .u8 e w base v xs) (hn : 0 < xs.length) : ∃ g c, v = .slice (some ⟨g, 0, none⟩) xs.length c := by
  rcases h.2 with ⟨-, h0⟩ | ⟨g, cap, cur, rfl, -⟩
  · omega
  · exact ⟨g, cap, rfl⟩
theorem u8_oneCell (xs : List Int) : ∀ u ∈ xs.map (Value.int .u8), u.oneCell' = true := by
  intro u hu
  obtain ⟨x, -, rfl⟩ := List.mem_map.1 hu
  rfl
theorem BoxN.belowM {w w' : World} {B m : Nat} {n : Nd} (h : BoxN w B n) (hb : Below m w w') (hl : B < m) : BoxN w' B n :=
  ⟨Nat.lt_of_lt_of_le h.lt hb.size, (hb.cell (p := ⟨B, _, none⟩) hl).trans h.c0, (hb.cell (p := ⟨B, _, none⟩) hl).trans h.c1, (hb.cell (p := ⟨B, _, none⟩) hl).trans h.c2, (hb.cell (p := ⟨B, _, none⟩) hl).trans h.c3,
   (hb.cell (p := ⟨B, _, none⟩) hl).trans h.c4, (hb.cell (p := ⟨B, _, none⟩) hl).trans h.c5, (hb.cell (p := ⟨B, _, none⟩) hl).trans h.c6⟩

set_option maxHeartbeats 2000000 in
set_option maxRecDepth 100000 in
theorem sNode_any (w : World) (n : Nd) (hn : okNd n = true) :
    Calls Tryd.prog 90 #[.agg #[.string n.path, .string n.data, .int .i64 n.ver, .int .i64 n.cver, .int .i64 n.cz, .int .i64 n.mz, .int .i64 n.pz]] w fun e w' => ∃ v', e = .returned v' ∧ Own .u8 5 w' w.heap.size v' (nodeB n) ∧ Below w.heap.size w w' := by
  obtain ⟨i0, hi, hz0, hz1, hz2⟩ := info_parts Tryd.infoB
  obtain ⟨p1, p2, p3, p4, p5, p6, p7⟩ := okNd_all hn
  clear hn
  obtain ⟨z0, hz0'⟩ : ∃ z : Nat, n.ver = (z : Int) := ⟨n.ver.toNat, by omega⟩
  have HZ0 : Hid (n.ver = (z0 : Int)) := hz0'
  have hb0 : z0 ≤ 2147483647 := by omega
  obtain ⟨z1, hz1'⟩ : ∃ z : Nat, n.cver = (z : Int) := ⟨n.cver.toNat, by omega⟩
  have HZ1 : Hid (n.cver = (z1 : Int)) := hz1'
  have hb1 : z1 ≤ 2147483647 := by omega
  obtain ⟨z2, hz2'⟩ : ∃ z : Nat, n.cz = (z : Int) := ⟨n.cz.toNat, by omega⟩
  have HZ2 : Hid (n.cz = (z2 : Int)) := hz2'
  have hb2 : z2 ≤ 2147483647 := by omega
  obtain ⟨z3, hz3'⟩ : ∃ z : Nat, n.mz = (z : Int) := ⟨n.mz.toNat, by omega⟩
  have HZ3 : Hid (n.mz = (z3 : Int)) := hz3'
  have hb3 : z3 ≤ 2147483647 := by omega
  obtain ⟨z4, hz4'⟩ : ∃ z : Nat, n.pz = (z : Int) := ⟨n.pz.toNat, by omega⟩
  have HZ4 : Hid (n.pz = (z4 : Int)) := hz4'
  have hb4 : z4 ≤ 2147483647 := by omega
  have HZ : Hid (nodeB n = txB n.path ++ txB n.data ++ bigR z0 4 ++ bigR z1 4 ++ bigR z2 4 ++ bigR z3 4 ++ bigR z4 4) := by
    show _ = _
    unfold nodeB stB
    simp [hz0', hz1', hz2', hz3', hz4']
  clear hz0' hz1' hz2' hz3' hz4' p3 p4 p5 p6 p7
  have X0 : Hid (BoxN (w.alloc (.cells #[.string n.path, .string n.data, .int .i64 n.ver, .int .i64 n.cver, .int .i64 n.cz, .int .i64 n.mz, .int .i64 n.pz] 81)) w.heap.size n) := BoxN.new _ _ _
  have B0 : Hid (Below w.heap.size w (w.alloc (.cells #[.string n.path, .string n.data, .int .i64 n.ver, .int .i64 n.cver, .int .i64 n.cz, .int .i64 n.mz, .int .i64 n.pz] 81))) := (Below.refl _ _).alloc (Nat.le_refl _) _
  go_enter Tryd.func90, Tryd.ntmps90
  go_wp2
  generalize w.alloc (.cells #[.string n.path, .string n.data, .int .i64 n.ver, .int .i64 n.cver, .int .i64 n.cz, .int .i64 n.mz, .int .i64 n.pz] 81) = w0 at *
  have s0 : w.heap.size + 1 ≤ w0.heap.size := X0.out.lt
  refine wp_region_held_drew (S := fun W => BoxN W w.heap.size n) (by kernel_rfl) (X0.out.below (below_drewN' w0 1)) (fun hHeld => ?_)
  refine wpAnyH_take (i := 0) (oi := { dst := some 4, op := _, type := _, pos := _, after := _, guard := _ }) (v := (.pointer (some ⟨w.heap.size, 0, none⟩))) rfl (by kernel_rfl) (by kernel_rfl) (by kernel_rfl) (fun _ _ _ h => h) (Or.inl ⟨by rfl, ?hy1⟩) (by assumption) ?rest1
  case hy1 =>
    intro w9 hS9
    obtain ⟨-, y0, y1, y2, y3, y4, y5, y6⟩ := hS9
    go_simp
    try with_reducible rfl
  try simp only [Act.put, List.setIfInBounds_toArray, List.set_cons_zero, List.set_cons_succ]
  refine wpAnyH_take (i := 1) (oi := { dst := some 5, op := _, type := _, pos := _, after := _, guard := _ }) (v := (.string n.path)) rfl (by kernel_rfl) (by kernel_rfl) (by kernel_rfl) (fun _ _ _ h => h) (Or.inl ⟨by rfl, ?hy2⟩) (by assumption) ?rest2
  case hy2 =>
    intro w9 hS9
    obtain ⟨-, y0, y1, y2, y3, y4, y5, y6⟩ := hS9
    go_simp
    try with_reducible rfl
  try simp only [Act.put, List.setIfInBounds_toArray, List.set_cons_zero, List.set_cons_succ]
  refine wpAnyH_take (i := 3) (oi := { dst := some 7, op := _, type := _, pos := _, after := _, guard := _ }) (v := (.pointer (some ⟨w.heap.size, 1, none⟩))) rfl (by kernel_rfl) (by kernel_rfl) (by kernel_rfl) (fun _ _ _ h => h) (Or.inl ⟨by rfl, ?hy3⟩) (by assumption) ?rest3
  case hy3 =>
    intro w9 hS9
    obtain ⟨-, y0, y1, y2, y3, y4, y5, y6⟩ := hS9
    go_simp
    try with_reducible rfl
  try simp only [Act.put, List.setIfInBounds_toArray, List.set_cons_zero, List.set_cons_succ]
  refine wpAnyH_take (i := 4) (oi := { dst := some 8, op := _, type := _, pos := _, after := _, guard := _ }) (v := (.string n.data)) rfl (by kernel_rfl) (by kernel_rfl) (by kernel_rfl) (fun _ _ _ h => h) (Or.inl ⟨by rfl, ?hy4⟩) (by assumption) ?rest4
  case hy4 =>
    intro w9 hS9
    obtain ⟨-, y0, y1, y2, y3, y4, y5, y6⟩ := hS9
    go_simp
    try with_reducible rfl
  try simp only [Act.put, List.setIfInBounds_toArray, List.set_cons_zero, List.set_cons_succ]
  refine wpAnyH_ready (rs := [2]) (by kernel_rfl) (by simp) ?_
  refine AllReadyH.cons (o := { dst := some 6, op := _, type := _, pos := _, after := _, guard := _ }) rfl (fun K hK => ?_) AllReadyH.nil
  go_simp
  refine (specText_any _ n.path (by omega)).mono ?_
  rintro e w1 ⟨v1, rfl, o1, b1⟩
  have X1 : Hid (BoxN w1 w.heap.size n) := (X0.out.below (below_drewN' w0 1)).below b1
  have B1 : Hid (Below w.heap.size w w1) := (B0.out.trans ((below_drewN' w0 1).mono B0.out.size)).trans (b1.mono (by show w.heap.size ≤ w0.heap.size; omega))
  have O1 : Hid (Own .u8 5 w1 (w.heap.size + 1) v1 (txB n.path)) := o1.mono s0
  clear o1 b1
  refine hK.out _ _ (X1.out) (fun hx9 => ?_)
  clear hK K hHeld hx9
  have hHeld := X1.out
  try simp only [Act.put, List.setIfInBounds_toArray, List.set_cons_zero, List.set_cons_succ]
  refine wpAnyH_ready (rs := [5]) (by kernel_rfl) (by simp) ?_
  refine AllReadyH.cons (o := { dst := some 9, op := _, type := _, pos := _, after := _, guard := _ }) rfl (fun K hK => ?_) AllReadyH.nil
  go_simp
  refine (specText_any _ n.data (by omega)).mono ?_
  rintro e w2 ⟨v2, rfl, o2, b2⟩
  have s1 : w.heap.size + 1 ≤ w1.heap.size := X1.out.lt
  have X2 : Hid (BoxN w2 w.heap.size n) := X1.out.below b2
  have B2 : Hid (Below w.heap.size w w2) := B1.out.trans (b2.mono (by omega))
  obtain ⟨g2, c2, hv2⟩ := own_full o2 (by rw [txB_len]; omega)
  rw [txB_len] at hv2
  subst hv2
  have O2 : Hid (w2.ownsRow (w.heap.size + 1) 5 1 v1 (1 + n.path.size) ((txB n.path).map (Value.int .u8))) := by have := O1.out.below b2; unfold Own at this; rw [txB_len] at this; exact this
  have N2 : Hid (∀ j u, ((txB n.data).map (Value.int .u8))[j]? = some u → w2.cell? ((⟨g2, 0, none⟩ : Addr).add j) = some u) := World.ownsRow.cells o2 rfl
  have s2 : w.heap.size + 1 ≤ w2.heap.size := X2.out.lt
  clear o2 b2 O1 X1 B1
  refine hK.out _ _ (X2.out) (fun hx9 => ?_)
  clear hK K hHeld hx9
  have hHeld := X2.out
  try simp only [Act.put, List.setIfInBounds_toArray, List.set_cons_zero, List.set_cons_succ]
  refine wpAnyH_ready (rs := [6]) (by kernel_rfl) (by simp) ?_
  refine AllReadyH.cons (o := { dst := some 10, op := _, type := _, pos := _, after := _, guard := _ }) rfl (fun K hK => ?_) AllReadyH.nil
  refine step_append rfl (.tmp 6) (.tmp 9) 45 rfl (w.heap.size + 1) 5 i0 (.int .u8 0) 1 1 Tryd.underlying45 hi hz0 hz1 hz2 rfl (by decide) v1 (1 + n.path.size) _ rfl O2.out ⟨g2, 0, none⟩ (1 + n.data.size) c2 ((txB n.data).map (Value.int .u8)) rfl (by rw [List.length_map, txB_len, Nat.mul_one]) N2.out (u8_oneCell _) (by unfold maxLen; omega) (by omega) s2 ?_
  intro v3 w3 ho3 hg3
  have b3 : Below (w.heap.size + 1) w2 w3 := (Below.refl _ _).grown hg3 s2 (fun q hq => (World.ownsRow.lt O2.out q hq).1)
  have X3 : Hid (BoxN w3 w.heap.size n) := X2.out.belowM b3 (by omega)
  have B3 : Hid (Below w.heap.size w w3) := B2.out.trans (b3.mono (by omega))
  have O3 : Hid (w3.ownsRow (w.heap.size + 1) 5 1 v3 (1 + n.path.size + (1 + n.data.size)) ((txB n.path ++ txB n.data).map (Value.int .u8))) := by show World.ownsRow _ _ _ _ _ _ _; rw [List.map_append]; exact ho3
  clear ho3 hg3 b3 O2 N2 X2 B2
  refine hK.out _ _ (X3.out) (fun hx9 => ?_)
  clear hK K hHeld hx9
  have hHeld := X3.out
  try simp only [Act.put, List.setIfInBounds_toArray, List.set_cons_zero, List.set_cons_succ]
  refine wpAnyH_take (i := 7) (oi := { dst := some 3, op := _, type := _, pos := _, after := _, guard := _ }) (v := v3) rfl (by kernel_rfl) (by kernel_rfl) (by kernel_rfl) (fun _ _ _ h => h) (Or.inl ⟨by rfl, ?hy5⟩) (by assumption) ?rest5
  case hy5 =>
    intro w9 hS9
    go_simp
  try simp only [Act.put, List.setIfInBounds_toArray, List.set_cons_zero, List.set_cons_succ]
  refine wpAnyH_done (by kernel_rfl) ?_ _
  clear hHeld
  obtain ⟨M, hM⟩ : ∃ M, M = 1 + n.path.size + (1 + n.data.size) := ⟨_, rfl⟩
  obtain ⟨L3, hL3⟩ : ∃ L, L = txB n.path ++ txB n.data := ⟨_, rfl⟩
  have hM2 : M ≤ 200 := by omega
  have HL3 : Hid (L3.length = M) := by show _ = _; rw [hL3, hM, List.length_append, txB_len, txB_len]
  rw [← hM, ← hL3] at O3
  rw [← hL3] at HZ
  clear hM hL3
  have s3 : w.heap.size + 1 ≤ w3.heap.size := X3.out.lt
  obtain ⟨-, y0, y1, y2, y3, y4, y5, y6⟩ := X3.out
  rw [HZ0.out] at y2
  go_wp2_with fail
  refine (specBig_any 4 _ z0 (by omega) (by omega)).mono ?_
  rintro e w4 ⟨v4, rfl, o4, b4⟩
  obtain ⟨g4, c4, hv4⟩ := own_full o4 (by rw [bigR_len]; omega)
  rw [bigR_len] at hv4
  subst hv4
  have X4 : Hid (BoxN w4 w.heap.size n) := X3.out.below b4
  have B4 : Hid (Below w.heap.size w w4) := B3.out.trans (b4.mono (by omega))
  have s4 : w.heap.size + 1 ≤ w4.heap.size := X4.out.lt
  have O4 : Hid (w4.ownsRow (w.heap.size + 1) 5 1 v3 M (L3.map (Value.int .u8))) := by
    refine World.ownsRow.kept O3.out (row := none) ⟨b4.os, b4.tape, b4.output, b4.size, fun k hk _ => b4.block k hk⟩ ?_
    cases hq : v3.ownBlock with
    | none => exact .inl rfl
    | some g => exact .inr (by simp)
  have N4 : Hid (∀ j u, ((bigR z0 4).map (Value.int .u8))[j]? = some u → w4.cell? ((⟨g4, 0, none⟩ : Addr).add j) = some u) := World.ownsRow.cells o4 rfl
  clear y0 y1 y2 y3 y4 y5 y6 o4 b4 X3 B3 O3
  go_wp2_with (at_builtin; go_must (refine wpList_append_own _ rfl _ _ 45 rfl (w.heap.size + 1) 5 i0 (.int .u8 0) 1 1 Tryd.underlying45 hi hz0 hz1 hz2 rfl (by decide) _ _ _ rfl O4.out ⟨g4, 0, none⟩ 4 c4 ((bigR z0 4).map (Value.int .u8)) rfl ?_ N4.out (u8_oneCell _) ?_ ?_ ?_ ?_))
  · rw [List.length_map, bigR_len]
  · unfold maxLen; omega
  · omega
  · exact s4
  intro v5 w5 ho5 hg5 _
  have b5 : Below (w.heap.size + 1) w4 w5 := (Below.refl _ _).grown hg5 s4 (fun q hq => (World.ownsRow.lt O4.out q hq).1)
  have X5 : Hid (BoxN w5 w.heap.size n) := X4.out.belowM b5 (by omega)
  have B5 : Hid (Below w.heap.size w w5) := B4.out.trans (b5.mono (by omega))
  have s5 : w.heap.size + 1 ≤ w5.heap.size := X5.out.lt
  obtain ⟨L5, hL5⟩ : ∃ L, L = L3 ++ bigR z0 4 := ⟨_, rfl⟩
  have O5 : Hid (w5.ownsRow (w.heap.size + 1) 5 1 v5 (M + 4) (L5.map (Value.int .u8))) := by
    show World.ownsRow _ _ _ _ _ _ _
    rw [hL5, List.map_append]; exact ho5
  have HL5 : Hid (L5.length = M + 4) := by show _ = _; rw [hL5, List.length_append, HL3.out, bigR_len]
  rw [← hL5] at HZ
  clear ho5 hg5 b5 X4 B4 O4 N4 hL5
  obtain ⟨-, y0, y1, y2, y3, y4, y5, y6⟩ := X5.out
  rw [HZ1.out] at y3
  go_wp2_with fail
  refine (specBig_any 4 _ z1 (by omega) (by omega)).mono ?_
  rintro e w6 ⟨v6, rfl, o6, b6⟩
  obtain ⟨g6, c6, hv6⟩ := own_full o6 (by rw [bigR_len]; omega)
  rw [bigR_len] at hv6
  subst hv6
  have X6 : Hid (BoxN w6 w.heap.size n) := X5.out.below b6
  have B6 : Hid (Below w.heap.size w w6) := B5.out.trans (b6.mono (by omega))
  have s6 : w.heap.size + 1 ≤ w6.heap.size := X6.out.lt
  have O6 : Hid (w6.ownsRow (w.heap.size + 1) 5 1 v5 (M + 4) (L5.map (Value.int .u8))) := by
    refine World.ownsRow.kept O5.out (row := none) ⟨b6.os, b6.tape, b6.output, b6.size, fun k hk _ => b6.block k hk⟩ ?_
    cases hq : v5.ownBlock with
    | none => exact .inl rfl
    | some g => exact .inr (by simp)
  have N6 : Hid (∀ j u, ((bigR z1 4).map (Value.int .u8))[j]? = some u → w6.cell? ((⟨g6, 0, none⟩ : Addr).add j) = some u) := World.ownsRow.cells o6 rfl
  clear y0 y1 y2 y3 y4 y5 y6 o6 b6 X5 B5 O5
  go_wp2_with (at_builtin; go_must (refine wpList_append_own _ rfl _ _ 45 rfl (w.heap.size + 1) 5 i0 (.int .u8 0) 1 1 Tryd.underlying45 hi hz0 hz1 hz2 rfl (by decide) _ _ _ rfl O6.out ⟨g6, 0, none⟩ 4 c6 ((bigR z1 4).map (Value.int .u8)) rfl ?_ N6.out (u8_oneCell _) ?_ ?_ ?_ ?_))
  · rw [List.length_map, bigR_len]
  · unfold maxLen; omega
  · omega
  · exact s6
  intro v7 w7 ho7 hg7 _
  have b7 : Below (w.heap.size + 1) w6 w7 := (Below.refl _ _).grown hg7 s6 (fun q hq => (World.ownsRow.lt O6.out q hq).1)
  have X7 : Hid (BoxN w7 w.heap.size n) := X6.out.belowM b7 (by omega)
  have B7 : Hid (Below w.heap.size w w7) := B6.out.trans (b7.mono (by omega))
  have s7 : w.heap.size + 1 ≤ w7.heap.size := X7.out.lt
  obtain ⟨L7, hL7⟩ : ∃ L, L = L5 ++ bigR z1 4 := ⟨_, rfl⟩
  have O7 : Hid (w7.ownsRow (w.heap.size + 1) 5 1 v7 (M + 8) (L7.map (Value.int .u8))) := by
    show World.ownsRow _ _ _ _ _ _ _
    rw [hL7, List.map_append]; exact ho7
  have HL7 : Hid (L7.length = M + 8) := by show _ = _; rw [hL7, List.length_append, HL5.out, bigR_len]
  rw [← hL7] at HZ
  clear ho7 hg7 b7 X6 B6 O6 N6 hL7
  obtain ⟨-, y0, y1, y2, y3, y4, y5, y6⟩ := X7.out
  rw [HZ2.out] at y4
  go_wp2_with fail
  refine (specBig_any 4 _ z2 (by omega) (by omega)).mono ?_
  rintro e w8 ⟨v8, rfl, o8, b8⟩
  obtain ⟨g8, c8, hv8⟩ := own_full o8 (by rw [bigR_len]; omega)
  rw [bigR_len] at hv8
  subst hv8
  have X8 : Hid (BoxN w8 w.heap.size n) := X7.out.below b8
  have B8 : Hid (Below w.heap.size w w8) := B7.out.trans (b8.mono (by omega))
  have s8 : w.heap.size + 1 ≤ w8.heap.size := X8.out.lt
  have O8 : Hid (w8.ownsRow (w.heap.size + 1) 5 1 v7 (M + 8) (L7.map (Value.int .u8))) := by
    refine World.ownsRow.kept O7.out (row := none) ⟨b8.os, b8.tape, b8.output, b8.size, fun k hk _ => b8.block k hk⟩ ?_
    cases hq : v7.ownBlock with
    | none => exact .inl rfl
    | some g => exact .inr (by simp)
  have N8 : Hid (∀ j u, ((bigR z2 4).map (Value.int .u8))[j]? = some u → w8.cell? ((⟨g8, 0, none⟩ : Addr).add j) = some u) := World.ownsRow.cells o8 rfl
  clear y0 y1 y2 y3 y4 y5 y6 o8 b8 X7 B7 O7
  go_wp2_with (at_builtin; go_must (refine wpList_append_own _ rfl _ _ 45 rfl (w.heap.size + 1) 5 i0 (.int .u8 0) 1 1 Tryd.underlying45 hi hz0 hz1 hz2 rfl (by decide) _ _ _ rfl O8.out ⟨g8, 0, none⟩ 4 c8 ((bigR z2 4).map (Value.int .u8)) rfl ?_ N8.out (u8_oneCell _) ?_ ?_ ?_ ?_))
  · rw [List.length_map, bigR_len]
  · unfold maxLen; omega
  · omega
  · exact s8
  intro v9 w9 ho9 hg9 _
  have b9 : Below (w.heap.size + 1) w8 w9 := (Below.refl _ _).grown hg9 s8 (fun q hq => (World.ownsRow.lt O8.out q hq).1)
  have X9 : Hid (BoxN w9 w.heap.size n) := X8.out.belowM b9 (by omega)
  have B9 : Hid (Below w.heap.size w w9) := B8.out.trans (b9.mono (by omega))
  have s9 : w.heap.size + 1 ≤ w9.heap.size := X9.out.lt
  obtain ⟨L9, hL9⟩ : ∃ L, L = L7 ++ bigR z2 4 := ⟨_, rfl⟩
  have O9 : Hid (w9.ownsRow (w.heap.size + 1) 5 1 v9 (M + 12) (L9.map (Value.int .u8))) := by
    show World.ownsRow _ _ _ _ _ _ _
    rw [hL9, List.map_append]; exact ho9
  have HL9 : Hid (L9.length = M + 12) := by show _ = _; rw [hL9, List.length_append, HL7.out, bigR_len]
  rw [← hL9] at HZ
  clear ho9 hg9 b9 X8 B8 O8 N8 hL9
  obtain ⟨-, y0, y1, y2, y3, y4, y5, y6⟩ := X9.out
  rw [HZ3.out] at y5
  go_wp2_with fail
  refine (specBig_any 4 _ z3 (by omega) (by omega)).mono ?_
  rintro e w10 ⟨v10, rfl, o10, b10⟩
  obtain ⟨g10, c10, hv10⟩ := own_full o10 (by rw [bigR_len]; omega)
  rw [bigR_len] at hv10
  subst hv10
  have X10 : Hid (BoxN w10 w.heap.size n) := X9.out.below b10
  have B10 : Hid (Below w.heap.size w w10) := B9.out.trans (b10.mono (by omega))
  have s10 : w.heap.size + 1 ≤ w10.heap.size := X10.out.lt
  have O10 : Hid (w10.ownsRow (w.heap.size + 1) 5 1 v9 (M + 12) (L9.map (Value.int .u8))) := by
    refine World.ownsRow.kept O9.out (row := none) ⟨b10.os, b10.tape, b10.output, b10.size, fun k hk _ => b10.block k hk⟩ ?_
    cases hq : v9.ownBlock with
    | none => exact .inl rfl
    | some g => exact .inr (by simp)
  have N10 : Hid (∀ j u, ((bigR z3 4).map (Value.int .u8))[j]? = some u → w10.cell? ((⟨g10, 0, none⟩ : Addr).add j) = some u) := World.ownsRow.cells o10 rfl
  clear y0 y1 y2 y3 y4 y5 y6 o10 b10 X9 B9 O9
  go_wp2_with (at_builtin; go_must (refine wpList_append_own _ rfl _ _ 45 rfl (w.heap.size + 1) 5 i0 (.int .u8 0) 1 1 Tryd.underlying45 hi hz0 hz1 hz2 rfl (by decide) _ _ _ rfl O10.out ⟨g10, 0, none⟩ 4 c10 ((bigR z3 4).map (Value.int .u8)) rfl ?_ N10.out (u8_oneCell _) ?_ ?_ ?_ ?_))
  · rw [List.length_map, bigR_len]
  · unfold maxLen; omega
  · omega
  · exact s10
  intro v11 w11 ho11 hg11 _
  have b11 : Below (w.heap.size + 1) w10 w11 := (Below.refl _ _).grown hg11 s10 (fun q hq => (World.ownsRow.lt O10.out q hq).1)
  have X11 : Hid (BoxN w11 w.heap.size n) := X10.out.belowM b11 (by omega)
  have B11 : Hid (Below w.heap.size w w11) := B10.out.trans (b11.mono (by omega))
  have s11 : w.heap.size + 1 ≤ w11.heap.size := X11.out.lt
  obtain ⟨L11, hL11⟩ : ∃ L, L = L9 ++ bigR z3 4 := ⟨_, rfl⟩
  have O11 : Hid (w11.ownsRow (w.heap.size + 1) 5 1 v11 (M + 16) (L11.map (Value.int .u8))) := by
    show World.ownsRow _ _ _ _ _ _ _
    rw [hL11, List.map_append]; exact ho11
  have HL11 : Hid (L11.length = M + 16) := by show _ = _; rw [hL11, List.length_append, HL9.out, bigR_len]
  rw [← hL11] at HZ
  clear ho11 hg11 b11 X10 B10 O10 N10 hL11
  obtain ⟨-, y0, y1, y2, y3, y4, y5, y6⟩ := X11.out
  rw [HZ4.out] at y6
  go_wp2_with fail
  refine (specBig_any 4 _ z4 (by omega) (by omega)).mono ?_
  rintro e w12 ⟨v12, rfl, o12, b12⟩
  obtain ⟨g12, c12, hv12⟩ := own_full o12 (by rw [bigR_len]; omega)
  rw [bigR_len] at hv12
  subst hv12
  have X12 : Hid (BoxN w12 w.heap.size n) := X11.out.below b12
  have B12 : Hid (Below w.heap.size w w12) := B11.out.trans (b12.mono (by omega))
  have s12 : w.heap.size + 1 ≤ w12.heap.size := X12.out.lt
  have O12 : Hid (w12.ownsRow (w.heap.size + 1) 5 1 v11 (M + 16) (L11.map (Value.int .u8))) := by
    refine World.ownsRow.kept O11.out (row := none) ⟨b12.os, b12.tape, b12.output, b12.size, fun k hk _ => b12.block k hk⟩ ?_
    cases hq : v11.ownBlock with
    | none => exact .inl rfl
    | some g => exact .inr (by simp)
  have N12 : Hid (∀ j u, ((bigR z4 4).map (Value.int .u8))[j]? = some u → w12.cell? ((⟨g12, 0, none⟩ : Addr).add j) = some u) := World.ownsRow.cells o12 rfl
  clear y0 y1 y2 y3 y4 y5 y6 o12 b12 X11 B11 O11
  go_wp2_with (at_builtin; go_must (refine wpList_append_own _ rfl _ _ 45 rfl (w.heap.size + 1) 5 i0 (.int .u8 0) 1 1 Tryd.underlying45 hi hz0 hz1 hz2 rfl (by decide) _ _ _ rfl O12.out ⟨g12, 0, none⟩ 4 c12 ((bigR z4 4).map (Value.int .u8)) rfl ?_ N12.out (u8_oneCell _) ?_ ?_ ?_ ?_))
  · rw [List.length_map, bigR_len]
  · unfold maxLen; omega
  · omega
  · exact s12
  intro v13 w13 ho13 hg13 _
  have b13 : Below (w.heap.size + 1) w12 w13 := (Below.refl _ _).grown hg13 s12 (fun q hq => (World.ownsRow.lt O12.out q hq).1)
  have X13 : Hid (BoxN w13 w.heap.size n) := X12.out.belowM b13 (by omega)
  have B13 : Hid (Below w.heap.size w w13) := B12.out.trans (b13.mono (by omega))
  have s13 : w.heap.size + 1 ≤ w13.heap.size := X13.out.lt
  obtain ⟨L13, hL13⟩ : ∃ L, L = L11 ++ bigR z4 4 := ⟨_, rfl⟩
  have O13 : Hid (w13.ownsRow (w.heap.size + 1) 5 1 v13 (M + 20) (L13.map (Value.int .u8))) := by
    show World.ownsRow _ _ _ _ _ _ _
    rw [hL13, List.map_append]; exact ho13
  have HL13 : Hid (L13.length = M + 20) := by show _ = _; rw [hL13, List.length_append, HL11.out, bigR_len]
  rw [← hL13] at HZ
  clear ho13 hg13 b13 X12 B12 O12 N12 hL13
  go_wp2
  go_ret
  exact ⟨_, rfl, (own_of HL13.out HZ.out O13.out).mono (Nat.le_succ _), B13.out⟩

end Go.Proofs.YtgjenbgclpmjmaaDoor
