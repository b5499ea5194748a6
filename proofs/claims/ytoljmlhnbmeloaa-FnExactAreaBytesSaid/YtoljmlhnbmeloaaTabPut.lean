import Derived.Test.YtoljmlhnbmeloaaTabLaws
namespace Go.Proofs.Ytoljmlhnbmeloaa
open Go.RowKit

set_option maxHeartbeats 2000000 in
set_option maxRecDepth 100000 in
theorem put_yes (w : World) (lo tb mb : Nat) (v : Value) (rs : List (Int × List Int)) (x : Int) (Vb : List Int) (i : Nat) (ht : Tab w lo tb mb v rs) (hi : i < rs.length) (hx : pB rs i = x) (hwx : (Lit.int .i64 x).wf = true) (hVb : Vb.length = 64) :
    Calls Try.prog 78 #[.pointer (some ⟨tb, 0, none⟩), .int .i64 x, .agg (Vb.map (Value.int .u8)).toArray] w fun e w' => e = .returned (.tuple #[]) ∧ Tab w' lo tb mb v (rs.set i (pB rs i, Vb)) ∧ Below lo w w' ∧ (∀ q, q < w.heap.size → q ≠ tb → q ≠ mb → v.ownBlock ≠ some q → w'.heap[q]? = w.heap[q]?) := by
  obtain ⟨g, cap, rfl, hg1, hg2, hc1, hc2⟩ := ht.form (by omega)
  obtain ⟨D, hD, hM⟩ := ht.map
  obtain ⟨⟨zt, c0, c1⟩, -⟩ := ht.box
  have hhas : Maps.has D (.int .i64 x) = true := (hM.1 x).2 ⟨i, hi, hx⟩
  have HAT : Hid (∀ z, D.atKey (.int .i64 x) z = .lit (.int .i64 i)) := by intro z; rw [← hx]; exact hM.2 i hi z
  have hkey := Maps.keyOf_int_mk (P := Try.prog) Try.underlying2 hwx
  obtain ⟨V, hV⟩ : ∃ V, V = Vb.map (Value.int .u8) := ⟨_, rfl⟩
  have HVL : Hid (V.length = 64) := by rw [hV]; show _ = _; rw [List.length_map]; exact hVb
  have HV1 : Hid (∀ v ∈ V, v.oneCell' = true) := by rw [hV]; exact ints_oneCell _ _
  rw [← hV]
  have hiI : (i : Int) < (rs.length : Int) := by omega
  unfold maxLen at hc2
  have BA : Hid (Below w.heap.size w (w.alloc (.cells V.toArray 75))) := (Below.refl _ _).alloc (Nat.le_refl _) _
  have TA : Hid (Tab (w.alloc (.cells V.toArray 75)) lo tb mb (.slice (some ⟨g, 0, none⟩) rs.length cap) rs) := ht.below BA.out
  have RB : Hid ((w.alloc (.cells V.toArray 75)).rangeAt w.heap.size 0 V) := by have := range_new w V.toArray 75; rw [List.toList_toArray] at this; exact this
  have HD : Hid ((w.alloc (.cells V.toArray 75)).ownsMap Try.prog 2 (plainElem Try.prog 3) mb rs.length D) := hD.alloc _
  have hlow : lo ≤ w.heap.size := by omega
  have FIN : Hid (∀ W, Tab W lo tb mb (.slice (some ⟨g, 0, none⟩) rs.length cap) rs → Below lo w W → Tab (W.setCells g (i * 65 + 1) V) lo tb mb (.slice (some ⟨g, 0, none⟩) rs.length cap) (rs.set i (pB rs i, Vb)) ∧ Below lo w (W.setCells g (i * 65 + 1) V) ∧ W.grownBy (W.setCells g (i * 65 + 1) V) (some g)) := by
    intro W hW hB
    have := hW.set hi Vb hVb
    rw [← hV] at this
    exact ⟨this.1, hB.grown this.2 (by have := hB.size; omega) (by intro q hq; simp at hq; omega), this.2⟩
  generalize hn : rs.length = n at *
  clear ht hD hM hx hV
  go_enter Try.func78, Try.ntmps78
  go_wp2_with (at_lookup; refine wpList_lookup_own_ok_int _ rfl _ _ 107 rfl 2 3 .i64 lawK Try.underlying107 Try.underlying3 (zeroInt _) mb n D rfl HD.out _ _ rfl hkey ?_)
  intro c hat hwc
  obtain rfl : c = (i : Int) := by have := HAT.out (.lit (.int .i64 0)); rw [hat] at this; simpa using this
  clear c0 c1 zt
  generalize w.alloc (.cells V.toArray 75) = W0 at *
  go_wp2_with fail
  have TH : Hid (W0.there g (i * 65 + 1) 64) := by
    intro j hj
    have hr := TA.out.rows
    have hfl := rowT_len rs TA.out.full
    rw [hn] at hr hfl
    exact ⟨by rw [World.ownsRow.cellAt hr (i * 65 + 1 + j) (by omega), List.getElem?_eq_getElem (by omega)]; rfl, World.ownsRow.frozenAt hr _⟩
  obtain ⟨⟨zt, c0, c1⟩, -⟩ := TA.out.box
  refine wp_region_held_drew (S := fun w' => w'.cell? ⟨tb, 0, none⟩ = some (.slice (some ⟨g, 0, none⟩) n cap) ∧ w'.rangeAt w.heap.size 0 V) (by kernel_rfl) ⟨c0, RB.out⟩ (fun hHeld => ?_)
  refine wpAnyH_take (i := 0) (oi := { dst := some 18, op := _, type := _, pos := _, after := _, guard := _ }) (v := (.pointer (some ⟨tb, 0, none⟩))) rfl (by kernel_rfl) (by kernel_rfl) (by kernel_rfl) (fun _ _ _ h => h) (Or.inl ⟨by rfl, fun w' hSw => ?_⟩) (by assumption) ?_
  · (try dsimp only at hSw)
    go_simp
  simp only [Act.put, List.setIfInBounds_toArray, List.set_cons_zero, List.set_cons_succ]
  refine wpAnyH_take (i := 1) (oi := { dst := some 19, op := _, type := _, pos := _, after := _, guard := _ }) (v := (.pointer (some ⟨tb, 0, none⟩))) rfl (by kernel_rfl) (by kernel_rfl) (by kernel_rfl) (fun _ _ _ h => h) (Or.inl ⟨by rfl, fun w' hSw => ?_⟩) (by assumption) ?_
  · (try dsimp only at hSw)
    go_simp
  simp only [Act.put, List.setIfInBounds_toArray, List.set_cons_zero, List.set_cons_succ]
  refine wpAnyH_take (i := 2) (oi := { dst := some 20, op := _, type := _, pos := _, after := _, guard := _ }) (v := (.pointer (some ⟨tb, 0, none⟩))) rfl (by kernel_rfl) (by kernel_rfl) (by kernel_rfl) (fun _ _ _ h => h) (Or.inl ⟨by rfl, fun w' hSw => ?_⟩) (by assumption) ?_
  · (try dsimp only at hSw)
    go_simp
  simp only [Act.put, List.setIfInBounds_toArray, List.set_cons_zero, List.set_cons_succ]
  refine wpAnyH_take (i := 3) (oi := { dst := some 21, op := _, type := _, pos := _, after := _, guard := _ }) (v := (.slice (some ⟨g, 0, none⟩) n cap)) rfl (by kernel_rfl) (by kernel_rfl) (by kernel_rfl) (fun _ _ _ h => h) (Or.inl ⟨by rfl, fun w' hSw => ?_⟩) (by assumption) ?_
  · (try dsimp only at hSw)
    go_simp
  simp only [Act.put, List.setIfInBounds_toArray, List.set_cons_zero, List.set_cons_succ]
  refine wpAnyH_take (i := 4) (oi := { dst := some 22, op := _, type := _, pos := _, after := _, guard := _ }) (v := (.int .i64 i)) rfl (by kernel_rfl) (by kernel_rfl) (by kernel_rfl) (fun _ _ _ h => h) (Or.inl ⟨by rfl, fun w' hSw => ?_⟩) (by assumption) ?_
  · (try dsimp only at hSw)
    go_simp
  simp only [Act.put, List.setIfInBounds_toArray, List.set_cons_zero, List.set_cons_succ]
  refine wpAnyH_take (i := 5) (oi := { dst := some 23, op := _, type := _, pos := _, after := _, guard := _ }) (v := .agg (V).toArray) rfl (by kernel_rfl) (by kernel_rfl) (by kernel_rfl) (fun _ _ _ h => h) (yieldsIf_load_mid (by rfl) _ _ rfl _ _ rfl V _ (fun w' hSw => hSw.2) Try.underlying75 rfl (sizeA _ HVL.out)) (by assumption) ?_
  simp only [Act.put, List.setIfInBounds_toArray, List.set_cons_zero, List.set_cons_succ]
  refine wpAnyH_take (i := 6) (oi := { dst := some 24, op := _, type := _, pos := _, after := _, guard := _ }) (v := (.pointer (some ⟨g, i * 65, none⟩))) rfl (by kernel_rfl) (by kernel_rfl) (by kernel_rfl) (fun _ _ _ h => h) (Or.inl ⟨by rfl, fun w' hSw => ?_⟩) (by assumption) ?_
  · (try dsimp only at hSw)
    go_simp
  simp only [Act.put, List.setIfInBounds_toArray, List.set_cons_zero, List.set_cons_succ]
  refine wpAnyH_take (i := 7) (oi := { dst := some 25, op := _, type := _, pos := _, after := _, guard := _ }) (v := (.pointer (some ⟨g, i * 65 + 1, none⟩))) rfl (by kernel_rfl) (by kernel_rfl) (by kernel_rfl) (fun _ _ _ h => h) (Or.inl ⟨by rfl, fun w' hSw => ?_⟩) (by assumption) ?_
  · (try dsimp only at hSw)
    go_simp
  simp only [Act.put, List.setIfInBounds_toArray, List.set_cons_zero, List.set_cons_succ]
  refine wpAnyH_ready (rs := [8]) (by kernel_rfl) (by simp) ?_
  refine AllReadyH.cons (o := { dst := none, op := _, type := _, pos := _, after := _, guard := _ }) rfl (fun K hK => ?_) AllReadyH.nil
  refine step_store_mid rfl 75 _ _ rfl g (i * 65 + 1) V.toArray rfl rfl ?t1 ?t2 (all_oneCell_toArray HV1.out) ?_
  case t1 =>
    have e : V.toArray.size = 64 := by rw [List.size_toArray]; exact HVL.out
    rw [e]; exact TH.out
  case t2 => rw [List.size_toArray]; exact sizeA _ HVL.out
  have hgt : g ≠ tb := fun e => TA.out.vt (by rw [e]; rfl)
  have FI := FIN.out W0.drew (TA.out.below (below_drewN' W0 1)) ((BA.out.mono hlow).trans ((below_drewN' W0 1).mono (by have := BA.out.size; omega)))
  rw [List.toList_toArray]
  refine hK.out _ _ ⟨?_, ?_⟩ (fun hHeld7 => ?_)
  · rw [World.cell?_setCells_out _ _ _ _ _ (fun h => absurd h (Ne.symm hgt))]; exact c0
  · exact World.rangeAt_setCells_apart (w := W0.drew) ((World.rangeAt_drew _ _ _ _).2 RB.out) _ _ _ (.inl (show w.heap.size ≠ g by omega))
  clear hK K hHeld
  refine wpAnyH_done (by kernel_rfl) ?_ _
  clear hHeld7 c0 c1
  go_wp2
  refine bodyPost_ret (results_none rfl _ _ _) rfl ⟨rfl, FI.1, FI.2.1, fun q hq n1 n2 n3 => (FI.2.2.block q (by have := BA.out.size; show q < W0.heap.size; omega) (fun e => n3 (by injection e with e; rw [e]; rfl))).trans (BA.out.block q hq)⟩


set_option maxHeartbeats 2000000 in
set_option maxRecDepth 100000 in
theorem put_no (w : World) (lo tb mb : Nat) (v : Value) (rs : List (Int × List Int)) (x : Int) (Vb : List Int) (ht : Tab w lo tb mb v rs) (hno : ∀ i, i < rs.length → pB rs i ≠ x) (hwx : (Lit.int .i64 x).wf = true) (hVb : Vb.length = 64) (hlen : rs.length ≤ 1048576) (hlow : lo ≤ w.heap.size) :
    Calls Try.prog 78 #[.pointer (some ⟨tb, 0, none⟩), .int .i64 x, .agg (Vb.map (Value.int .u8)).toArray] w fun e w' => e = .returned (.tuple #[]) ∧ (∃ v', Tab w' lo tb mb v' (rs ++ [(x, Vb)])) ∧ Below lo w w' ∧ (∀ q, q < w.heap.size → q ≠ tb → q ≠ mb → v.ownBlock ≠ some q → w'.heap[q]? = w.heap[q]?) := by
  obtain ⟨D, hD, hM⟩ := ht.map
  obtain ⟨⟨zt, c0, c1⟩, -⟩ := ht.box
  have hhas : Maps.has D (.int .i64 x) = false := by
    cases h : Maps.has D (.int .i64 x) with
    | false => rfl
    | true => obtain ⟨i, hi, e⟩ := (hM.1 x).1 h; exact absurd e (hno i hi)
  have hkey := Maps.keyOf_int_mk (P := Try.prog) Try.underlying2 hwx
  obtain ⟨i0, hi, hz0, hz1, hz2⟩ := info_parts infoT2
  obtain ⟨V, hV⟩ : ∃ V, V = Vb.map (Value.int .u8) := ⟨_, rfl⟩
  have HVL : Hid (V.length = 64) := by rw [hV]; show _ = _; rw [List.length_map]; exact hVb
  have HV1 : Hid (∀ v ∈ V, v.oneCell' = true) := by rw [hV]; exact ints_oneCell _ _
  have HVE : Hid (V = Vb.map (Value.int .u8)) := hV
  have HMN : Hid (MF (D.put (.int .i64 x) (.lit (.int .i64 (rs.length : Int)))) (rs ++ [(x, Vb)])) := hM.snoc hD.isMap x Vb hno
  have HNO : Hid (∀ i, i < rs.length → pB rs i ≠ x) := hno
  have HVB : Hid (Vb.length = 64) := hVb
  rw [← hV]
  have BA : Hid (Below w.heap.size w (w.alloc (.cells V.toArray 75))) := (Below.refl _ _).alloc (Nat.le_refl _) _
  have TA : Hid (Tab (w.alloc (.cells V.toArray 75)) lo tb mb v rs) := ht.below BA.out
  have RB : Hid ((w.alloc (.cells V.toArray 75)).rangeAt w.heap.size 0 V) := by have := range_new w V.toArray 75; rw [List.toList_toArray] at this; exact this
  have HD : Hid ((w.alloc (.cells V.toArray 75)).ownsMap Try.prog 2 (plainElem Try.prog 3) mb rs.length D) := hD.alloc _
  have sA : (w.alloc (.cells V.toArray 75)).heap.size = w.heap.size + 1 := by simp
  obtain ⟨va, vcap, rfl⟩ : ∃ a c, v = .slice a rs.length c := by
    rcases ht.rows.2 with ⟨rfl, h1⟩ | ⟨g, cap, cur, rfl, -⟩
    · exact ⟨none, 0, by rw [h1]⟩
    · exact ⟨_, _, rfl⟩
  have hvlt : ∀ q, Value.ownBlock (.slice va rs.length vcap) = some q → q < w.heap.size := fun q hq => (World.ownsRow.lt ht.rows q hq).2
  have HVLT : Hid (∀ q, Value.ownBlock (.slice va rs.length vcap) = some q → q < w.heap.size) := hvlt
  have zm : mb < w.heap.size := hD.lt
  clear ht hD hM hV hno hVb hvlt
  generalize hn : rs.length = n at *
  have HN : Hid (rs.length = n) := hn
  clear hn
  go_enter Try.func78, Try.ntmps78
  go_wp2_with (at_lookup; refine wpList_lookup_own_ok_int _ rfl _ _ 107 rfl 2 3 .i64 lawK Try.underlying107 Try.underlying3 (zeroInt _) mb n D rfl HD.out _ _ rfl hkey ?_)
  intro c hat hwc
  clear c0 c1
  generalize w.alloc (.cells V.toArray 75) = W0 at *
  go_wp2_with fail
  obtain ⟨⟨zt0, c0, c1⟩, f0, f1⟩ := TA.out.box
  refine wp_region_held_drew (S := fun w' => w'.cell? ⟨tb, 0, none⟩ = some (.slice va n vcap) ∧ w'.cell? ⟨tb, 1, none⟩ = some (.map (some mb))) (by kernel_rfl) ⟨c0, c1⟩ (fun hHeld => ?_)
  refine wpAnyH_take (i := 0) (oi := { dst := some 26, op := _, type := _, pos := _, after := _, guard := _ }) (v := (.pointer (some ⟨tb, 0, none⟩))) rfl (by kernel_rfl) (by kernel_rfl) (by kernel_rfl) (fun _ _ _ h => h) (Or.inl ⟨by rfl, fun w' hSw => ?_⟩) (by assumption) ?_
  · (try dsimp only at hSw)
    go_simp
  simp only [Act.put, List.setIfInBounds_toArray, List.set_cons_zero, List.set_cons_succ]
  refine wpAnyH_take (i := 1) (oi := { dst := some 27, op := _, type := _, pos := _, after := _, guard := _ }) (v := (.pointer (some ⟨tb, 0, none⟩))) rfl (by kernel_rfl) (by kernel_rfl) (by kernel_rfl) (fun _ _ _ h => h) (Or.inl ⟨by rfl, fun w' hSw => ?_⟩) (by assumption) ?_
  · (try dsimp only at hSw)
    go_simp
  simp only [Act.put, List.setIfInBounds_toArray, List.set_cons_zero, List.set_cons_succ]
  refine wpAnyH_take (i := 2) (oi := { dst := some 28, op := _, type := _, pos := _, after := _, guard := _ }) (v := (.pointer (some ⟨tb, 1, none⟩))) rfl (by kernel_rfl) (by kernel_rfl) (by kernel_rfl) (fun _ _ _ h => h) (Or.inl ⟨by rfl, fun w' hSw => ?_⟩) (by assumption) ?_
  · (try dsimp only at hSw)
    go_simp
  simp only [Act.put, List.setIfInBounds_toArray, List.set_cons_zero, List.set_cons_succ]
  refine wpAnyH_take (i := 3) (oi := { dst := some 29, op := _, type := _, pos := _, after := _, guard := _ }) (v := (.map (some mb))) rfl (by kernel_rfl) (by kernel_rfl) (by kernel_rfl) (fun _ _ _ h => h) (Or.inl ⟨by rfl, fun w' hSw => ?_⟩) (by assumption) ?_
  · (try dsimp only at hSw)
    go_simp
  simp only [Act.put, List.setIfInBounds_toArray, List.set_cons_zero, List.set_cons_succ]
  refine wpAnyH_take (i := 4) (oi := { dst := some 30, op := _, type := _, pos := _, after := _, guard := _ }) (v := (.int .i64 x)) rfl (by kernel_rfl) (by kernel_rfl) (by kernel_rfl) (fun _ _ _ h => h) (Or.inl ⟨by rfl, fun w' hSw => ?_⟩) (by assumption) ?_
  · (try dsimp only at hSw)
    go_simp
  simp only [Act.put, List.setIfInBounds_toArray, List.set_cons_zero, List.set_cons_succ]
  refine wpAnyH_take (i := 5) (oi := { dst := some 31, op := _, type := _, pos := _, after := _, guard := _ }) (v := (.pointer (some ⟨tb, 0, none⟩))) rfl (by kernel_rfl) (by kernel_rfl) (by kernel_rfl) (fun _ _ _ h => h) (Or.inl ⟨by rfl, fun w' hSw => ?_⟩) (by assumption) ?_
  · (try dsimp only at hSw)
    go_simp
  simp only [Act.put, List.setIfInBounds_toArray, List.set_cons_zero, List.set_cons_succ]
  refine wpAnyH_take (i := 6) (oi := { dst := some 32, op := _, type := _, pos := _, after := _, guard := _ }) (v := (.pointer (some ⟨tb, 0, none⟩))) rfl (by kernel_rfl) (by kernel_rfl) (by kernel_rfl) (fun _ _ _ h => h) (Or.inl ⟨by rfl, fun w' hSw => ?_⟩) (by assumption) ?_
  · (try dsimp only at hSw)
    go_simp
  simp only [Act.put, List.setIfInBounds_toArray, List.set_cons_zero, List.set_cons_succ]
  refine wpAnyH_take (i := 7) (oi := { dst := some 33, op := _, type := _, pos := _, after := _, guard := _ }) (v := (.pointer (some ⟨tb, 0, none⟩))) rfl (by kernel_rfl) (by kernel_rfl) (by kernel_rfl) (fun _ _ _ h => h) (Or.inl ⟨by rfl, fun w' hSw => ?_⟩) (by assumption) ?_
  · (try dsimp only at hSw)
    go_simp
  simp only [Act.put, List.setIfInBounds_toArray, List.set_cons_zero, List.set_cons_succ]
  refine wpAnyH_take (i := 8) (oi := { dst := some 34, op := _, type := _, pos := _, after := _, guard := _ }) (v := (.slice va n vcap)) rfl (by kernel_rfl) (by kernel_rfl) (by kernel_rfl) (fun _ _ _ h => h) (Or.inl ⟨by rfl, fun w' hSw => ?_⟩) (by assumption) ?_
  · (try dsimp only at hSw)
    go_simp
  simp only [Act.put, List.setIfInBounds_toArray, List.set_cons_zero, List.set_cons_succ]
  refine wpAnyH_take (i := 9) (oi := { dst := some 35, op := _, type := _, pos := _, after := _, guard := _ }) (v := (.int .i64 n)) rfl (by kernel_rfl) (by kernel_rfl) (by kernel_rfl) (fun _ _ _ h => h) (Or.inl ⟨by rfl, fun w' hSw => ?_⟩) (by assumption) ?_
  · (try dsimp only at hSw)
    go_simp
  simp only [Act.put, List.setIfInBounds_toArray, List.set_cons_zero, List.set_cons_succ]
  refine wpAnyH_ready (rs := [10]) (by kernel_rfl) (by simp) ?_
  refine AllReadyH.cons (o := { dst := none, op := _, type := _, pos := _, after := _, guard := _ }) rfl (fun K hK => ?_) AllReadyH.nil
  refine step_mapUpdate_own rfl _ _ _ 107 rfl 2 3 lawK Try.underlying107 _ mb n D rfl HD.out.drew ?m1 _ _ _ rfl rfl hkey (.lit (.int .i64 n)) [] ?m2 ?_
  case m1 => unfold maxLen; omega
  case m2 => exact plainElem_int Try.underlying3 (wf_small _ (by omega) (by omega))
  intro W1 m1 g1
  have hntm : tb ≠ mb := TA.out.ne
  have d0 : W1.cell? ⟨tb, 0, none⟩ = some (.slice va n vcap) := (g1.cell_far ⟨tb, 0, none⟩ zt0 (by simpa using hntm)).trans c0
  have d1 : W1.cell? ⟨tb, 1, none⟩ = some (.map (some mb)) := (g1.cell_far ⟨tb, 1, none⟩ zt0 (by simpa using hntm)).trans c1
  have e0 : W1.frozen? ⟨tb, 0, none⟩ = false := (g1.frozen_far ⟨tb, 0, none⟩ zt0 (by simpa using hntm)).trans f0
  have e1 : W1.frozen? ⟨tb, 1, none⟩ = false := (g1.frozen_far ⟨tb, 1, none⟩ zt0 (by simpa using hntm)).trans f1
  refine hK.out _ _ ⟨d0, d1⟩ (fun hHeld7 => ?_)
  clear hK K hHeld
  refine wpAnyH_done (by kernel_rfl) ?_ _
  have G1 : Hid (W0.grownBy W1 (some mb)) := ⟨g1.os, g1.tape, g1.output, g1.size, g1.block⟩
  have M1 : Hid (W1.ownsMap Try.prog 2 (plainElem Try.prog 3) mb (n + 1) (D.put (.int .i64 x) (.lit (.int .i64 n)))) := m1
  clear hHeld7 c0 c1 f0 f1 m1 g1
  go_wp2_with fail
  go_frame
  have RB1 : Hid (W1.rangeAt w.heap.size 0 V) := rangeAt_blk RB.out (G1.out.block _ (by omega) (by simp; omega))
  have hrow : ∀ W ob, Below W1.heap.size W1 W → (W.alloc ob).ownsRow lo 111 65 (.slice va n vcap) n (rowT rs) := by
    intro W ob hW
    have h0 := TA.out.rows
    rw [HN.out] at h0
    have h1 := World.ownsRow.kept h0 G1.out (by
      cases e : Value.ownBlock (.slice va n vcap) with
      | none => exact .inl rfl
      | some q => right; rw [← e]; exact TA.out.vm)
    refine World.ownsRow.alloc (World.ownsRow.kept h1 (row := none) ⟨hW.os, hW.tape, hW.output, hW.size, fun q hq _ => hW.block q hq⟩ ?_) ob
    cases Value.ownBlock (.slice va n vcap) with
    | none => exact .inl rfl
    | some q => exact .inr (by simp)
  have HROW : Hid (∀ W ob, Below W1.heap.size W1 W → (W.alloc ob).ownsRow lo 111 65 (.slice va n vcap) n (rowT rs)) := hrow
  have hz1t : tb < W1.heap.size := Nat.lt_of_lt_of_le zt0 G1.out.size
  have hwz1 : w.heap.size < W1.heap.size := by have := G1.out.size; omega
  have hwt : w.heap.size ≠ tb := by omega
  have H65 : Hid (∀ u ∈ (Value.int .i64 x :: V), u.oneCell' = true) := by
    intro u hu
    rcases List.mem_cons.1 hu with rfl | hu
    · rfl
    · exact HV1.out u hu
  have HCN : Hid (∀ W : World, ∀ j u, (Value.int .i64 x :: V)[j]? = some u → (W.alloc (.cells (Value.int .i64 x :: V).toArray 111)).cell? ((⟨W.heap.size, 0, none⟩ : Addr).add j) = some u) := by
    intro W j u hu
    rw [Addr.add_lit, Nat.zero_add, cell_of_row _ _ j _ _ _ (heap_alloc_new W _)]
    simpa using hu
  have HFAR : Hid (∀ w4 ob, (W1.drew.alloc ob).grownBy w4 (Value.ownBlock (.slice va n vcap)) → (∀ j, w4.cell? ⟨tb, j, none⟩ = W1.cell? ⟨tb, j, none⟩ ∧ w4.frozen? ⟨tb, j, none⟩ = W1.frozen? ⟨tb, j, none⟩) ∧ ∀ u, (w4.setCell ⟨tb, 0, none⟩ u).rangeAt w.heap.size 0 V ∧ w4.rangeAt w.heap.size 0 V) := by
    intro w4 ob hg
    have hG : W1.grownBy w4 (Value.ownBlock (.slice va n vcap)) := World.grownBy.trans (World.grownBy_alloc W1 ob _) ⟨hg.os, hg.tape, hg.output, hg.size, hg.block⟩
    have hr : w4.rangeAt w.heap.size 0 V := rangeAt_blk RB1.out (hG.block _ hwz1 (fun e => by have := HVLT.out _ e.symm; omega))
    refine ⟨fun j => ⟨hG.cell_far ⟨tb, j, none⟩ hz1t (fun e => TA.out.vt e.symm), hG.frozen_far ⟨tb, j, none⟩ hz1t (fun e => TA.out.vt e.symm)⟩, fun u => ⟨?_, hr⟩⟩
    intro j y hy
    rw [World.cell?_setCell_other _ _ _ _ (by intro e; injection e with e; exact hwt e.symm)]
    exact hr j y hy
  have FIN : Hid (∀ g cap w4 ob, w4.ownsRow lo 111 65 (.slice (some ⟨g, 0, none⟩) (n + 1) cap) (n + 1) (rowT rs ++ (.int .i64 x :: V)) → (W1.drew.alloc ob).grownBy w4 (Value.ownBlock (.slice va n vcap)) → (Value.ownBlock (.slice va n vcap) = some g ∨ g = W1.heap.size + 1) →
      Tab (w4.setCell ⟨tb, 0, none⟩ (.slice (some ⟨g, 0, none⟩) (n + 1) cap)) lo tb mb (.slice (some ⟨g, 0, none⟩) (n + 1) cap) (rs ++ [(x, Vb)]) ∧ Below lo w (w4.setCell ⟨tb, 0, none⟩ (.slice (some ⟨g, 0, none⟩) (n + 1) cap)) ∧ (∀ q, q < w.heap.size → q ≠ tb → q ≠ mb → Value.ownBlock (.slice va n vcap) ≠ some q → (w4.setCell ⟨tb, 0, none⟩ (.slice (some ⟨g, 0, none⟩) (n + 1) cap)).heap[q]? = w.heap[q]?)) := by
    intro g cap w4 ob h1 h2 h3
    have hT := TA.out
    have hM := HMN.out
    have hM1 := M1.out
    rw [HVE.out] at h1
    rw [← HN.out] at h1 h2 h3 hT hM1 ⊢
    rw [← HN.out] at hM
    have := Tab.snoc (W0 := W0) (W1 := W1) (ob := ob) hT G1.out hM1 hM h1 ⟨h2.os, h2.tape, h2.output, h2.size, h2.block⟩ h3 (by rw [HN.out]; exact HNO.out) HVB.out (by omega)
    exact ⟨this.1, (BA.out.mono hlow).trans this.2.1, fun q hq n1 n2 n3 => (this.2.2 q (by omega) n1 n2 n3).trans (BA.out.block q hq)⟩
  have hnum1 : n + 1 ≤ maxLen := by unfold maxLen; omega
  have hnum2 : (n + 1) * 72 ≤ 140737488355328 := by omega
  have hloz : lo ≤ W1.heap.size := by omega
  clear hrow
  refine wp_region_held_drew (S := fun w' => w'.rangeAt w.heap.size 0 V) (by kernel_rfl) ((World.rangeAt_drew _ _ _ _).2 RB1.out) (fun hHeld => ?_)
  refine wpAnyH_take (i := 0) (oi := { dst := some 36, op := _, type := _, pos := _, after := _, guard := _ }) (v := (.pointer (some ⟨tb, 0, none⟩))) rfl (by kernel_rfl) (by kernel_rfl) (by kernel_rfl) (fun _ _ _ h => h) (Or.inl ⟨by rfl, fun w' hSw => ?_⟩) (by assumption) ?_
  · (try dsimp only at hSw)
    go_simp
  simp only [Act.put, List.setIfInBounds_toArray, List.set_cons_zero, List.set_cons_succ]
  refine wpAnyH_take (i := 1) (oi := { dst := some 37, op := _, type := _, pos := _, after := _, guard := _ }) (v := (.pointer (some ⟨tb, 0, none⟩))) rfl (by kernel_rfl) (by kernel_rfl) (by kernel_rfl) (fun _ _ _ h => h) (Or.inl ⟨by rfl, fun w' hSw => ?_⟩) (by assumption) ?_
  · (try dsimp only at hSw)
    go_simp
  simp only [Act.put, List.setIfInBounds_toArray, List.set_cons_zero, List.set_cons_succ]
  refine wpAnyH_take (i := 2) (oi := { dst := some 38, op := _, type := _, pos := _, after := _, guard := _ }) (v := (.pointer (some ⟨tb, 0, none⟩))) rfl (by kernel_rfl) (by kernel_rfl) (by kernel_rfl) (fun _ _ _ h => h) (Or.inl ⟨by rfl, fun w' hSw => ?_⟩) (by assumption) ?_
  · (try dsimp only at hSw)
    go_simp
  simp only [Act.put, List.setIfInBounds_toArray, List.set_cons_zero, List.set_cons_succ]
  refine wpAnyH_take (i := 3) (oi := { dst := some 39, op := _, type := _, pos := _, after := _, guard := _ }) (v := (.pointer (some ⟨tb, 0, none⟩))) rfl (by kernel_rfl) (by kernel_rfl) (by kernel_rfl) (fun _ _ _ h => h) (Or.inl ⟨by rfl, fun w' hSw => ?_⟩) (by assumption) ?_
  · (try dsimp only at hSw)
    go_simp
  simp only [Act.put, List.setIfInBounds_toArray, List.set_cons_zero, List.set_cons_succ]
  refine wpAnyH_take (i := 5) (oi := { dst := some 41, op := _, type := _, pos := _, after := _, guard := _ }) (v := (.int .i64 x)) rfl (by kernel_rfl) (by kernel_rfl) (by kernel_rfl) (fun _ _ _ h => h) (Or.inl ⟨by rfl, fun w' hSw => ?_⟩) (by assumption) ?_
  · (try dsimp only at hSw)
    go_simp
  simp only [Act.put, List.setIfInBounds_toArray, List.set_cons_zero, List.set_cons_succ]
  refine wpAnyH_take (i := 6) (oi := { dst := some 42, op := _, type := _, pos := _, after := _, guard := _ }) (v := .agg (V).toArray) rfl (by kernel_rfl) (by kernel_rfl) (by kernel_rfl) (fun _ _ _ h => h) (yieldsIf_load_mid (by rfl) _ _ rfl _ _ rfl V _ (fun w' hSw => hSw) Try.underlying75 rfl (sizeA _ HVL.out)) (by assumption) ?_
  simp only [Act.put, List.setIfInBounds_toArray, List.set_cons_zero, List.set_cons_succ]
  refine wpAnyH_take (i := 7) (oi := { dst := some 43, op := _, type := _, pos := _, after := _, guard := _ }) (v := (.agg (Value.int .i64 x :: V).toArray)) rfl (by kernel_rfl) (by kernel_rfl) (by kernel_rfl) (fun _ _ _ h => h) (Or.inl ⟨by rfl, fun w' hSw => ?_⟩) (by assumption) ?_
  · (try dsimp only at hSw)
    have hb := runBuild_row w' x V HVL.out
    simp [execOp]
    exact congrArg (fun r => Result.andThen r fun a w'' => Result.ok (Next.value a) w'') hb
  simp only [Act.put, List.setIfInBounds_toArray, List.set_cons_zero, List.set_cons_succ]
  refine wpAnyH_ready (rs := [4, 8]) (by kernel_rfl) (by simp) ?_
  refine AllReadyH.cons (o := { dst := some 40, op := _, type := _, pos := _, after := _, guard := _ }) rfl (fun K hK => ?_) (AllReadyH.cons (o := { dst := some 44, op := _, type := _, pos := _, after := _, guard := _ }) rfl (fun K hK => ?_) AllReadyH.nil)
  · go_simp
    refine hK.out _ _ (by assumption) (fun hHeldL => ?_)
    clear hK K
    refine wpAnyH_ready (rs := [8]) (by kernel_rfl) (by simp) ?_
    refine AllReadyH.cons (o := { dst := some 44, op := _, type := _, pos := _, after := _, guard := _ }) rfl (fun K hK => ?_) AllReadyH.nil
    refine step_buildSlice_row rfl _ rfl x V HVL.out rfl ?_
    have hS2 : (W1.drew.alloc (.cells (Value.int .i64 x :: V).toArray 111)).rangeAt w.heap.size 0 V := World.rangeAt_alloc ((World.rangeAt_drew _ _ _ _).2 RB1.out) _
    refine hK.out _ _ hS2 (fun hHeldA => ?_)
    clear hK K
    simp only [Act.put, List.setIfInBounds_toArray, List.set_cons_zero, List.set_cons_succ]
    refine wpAnyH_ready (rs := [9]) (by kernel_rfl) (by simp) ?_
    refine AllReadyH.cons (o := { dst := some 45, op := _, type := _, pos := _, after := _, guard := _ }) rfl (fun K hK => ?_) AllReadyH.nil
    refine step_append_lies _ rfl _ _ 106 rfl lo 111 i0 zT 65 72 Try.underlying106 hi hz0 hz1 hz2 zT_size (by omega) (.slice va n vcap) n (rowT rs) rfl (HROW.out W1.drew _ (below_drewN' W1 1)) ⟨W1.heap.size, 0, none⟩ 1 1 (Value.int .i64 x :: V) rfl ?a1 (HCN.out W1.drew) H65.out (by omega) hnum1 hnum2 ?a2 (W1.heap.size + 1) ?a3 ?_
    case a1 => rw [List.length_cons, HVL.out]
    case a2 => exact (show lo ≤ (W1.alloc (.cells (Value.int .i64 x :: V).toArray 111)).heap.size by rw [World.size_alloc]; exact Nat.le_succ_of_le hloz)
    case a3 => exact (show (W1.alloc (.cells (Value.int .i64 x :: V).toArray 111)).heap.size = W1.heap.size + 1 by rw [World.size_alloc])
    intro g4 cap4 w4 ho4 hg4 hat4 hlt4
    obtain ⟨q1, q2⟩ := HFAR.out _ _ hg4
    have FI := FIN.out _ _ _ _ ho4 hg4 hat4
    have HFI : Hid (Tab (w4.setCell ⟨tb, 0, none⟩ (.slice (some ⟨g4, 0, none⟩) (n + 1) cap4)) lo tb mb (.slice (some ⟨g4, 0, none⟩) (n + 1) cap4) (rs ++ [(x, Vb)]) ∧ Below lo w (w4.setCell ⟨tb, 0, none⟩ (.slice (some ⟨g4, 0, none⟩) (n + 1) cap4)) ∧ (∀ q, q < w.heap.size → q ≠ tb → q ≠ mb → Value.ownBlock (.slice va n vcap) ≠ some q → (w4.setCell ⟨tb, 0, none⟩ (.slice (some ⟨g4, 0, none⟩) (n + 1) cap4)).heap[q]? = w.heap[q]?)) := FI
    have p0 := (q1 0).1.trans d0
    have p1 := (q1 0).2.trans e0
    refine hK.out _ _ (q2 (.int .i64 0)).2 (fun hHeldP => ?_)
    have HQ2 : Hid (∀ u, (w4.setCell ⟨tb, 0, none⟩ u).rangeAt w.heap.size 0 V ∧ w4.rangeAt w.heap.size 0 V) := q2
    clear hK K FI ho4 hg4 hat4 q1 q2
    simp only [Act.put, List.setIfInBounds_toArray, List.set_cons_zero, List.set_cons_succ]
    refine wpAnyH_take (i := 10) (oi := { dst := some 46, op := _, type := _, pos := _, after := _, guard := _ }) (v := (.pointer (some ⟨tb, 0, none⟩))) rfl (by kernel_rfl) (by kernel_rfl) (by kernel_rfl) (fun _ _ _ h => h) (Or.inl ⟨by rfl, fun w' hSw => ?_⟩) (by assumption) ?_
    · (try dsimp only at hSw)
      go_simp
    simp only [Act.put, List.setIfInBounds_toArray, List.set_cons_zero, List.set_cons_succ]
    refine wpAnyH_take (i := 11) (oi := { dst := some 47, op := _, type := _, pos := _, after := _, guard := _ }) (v := (.pointer (some ⟨tb, 0, none⟩))) rfl (by kernel_rfl) (by kernel_rfl) (by kernel_rfl) (fun _ _ _ h => h) (Or.inl ⟨by rfl, fun w' hSw => ?_⟩) (by assumption) ?_
    · (try dsimp only at hSw)
      go_simp
    simp only [Act.put, List.setIfInBounds_toArray, List.set_cons_zero, List.set_cons_succ]
    refine wpAnyH_ready (rs := [12]) (by kernel_rfl) (by simp) ?_
    refine AllReadyH.cons (o := { dst := none, op := _, type := _, pos := _, after := _, guard := _ }) rfl (fun K hK => ?_) AllReadyH.nil
    go_simp
    refine hK.out _ _ (HQ2.out _).1 (fun hHeldS => ?_)
    clear hK K
    refine wpAnyH_done (by kernel_rfl) ?_ _
    clear hHeldS hHeldP
    go_wp2
    go_end0
    exact ⟨rfl, ⟨_, HFI.out.1⟩, HFI.out.2.1, HFI.out.2.2⟩
  · refine step_buildSlice_row rfl _ rfl x V HVL.out rfl ?_
    have hS2 : (W1.drew.alloc (.cells (Value.int .i64 x :: V).toArray 111)).rangeAt w.heap.size 0 V := World.rangeAt_alloc ((World.rangeAt_drew _ _ _ _).2 RB1.out) _
    refine hK.out _ _ hS2 (fun hHeldA => ?_)
    clear hK K
    simp only [Act.put, List.setIfInBounds_toArray, List.set_cons_zero, List.set_cons_succ]
    refine wpAnyH_ready (rs := [4]) (by kernel_rfl) (by simp) ?_
    refine AllReadyH.cons (o := { dst := some 40, op := _, type := _, pos := _, after := _, guard := _ }) rfl (fun K hK => ?_) AllReadyH.nil
    go_simp
    refine hK.out _ _ (by assumption) (fun hHeldL => ?_)
    clear hK K
    refine wpAnyH_ready (rs := [9]) (by kernel_rfl) (by simp) ?_
    refine AllReadyH.cons (o := { dst := some 45, op := _, type := _, pos := _, after := _, guard := _ }) rfl (fun K hK => ?_) AllReadyH.nil
    refine step_append_lies _ rfl _ _ 106 rfl lo 111 i0 zT 65 72 Try.underlying106 hi hz0 hz1 hz2 zT_size (by omega) (.slice va n vcap) n (rowT rs) rfl (HROW.out W1.drew _ (below_drewN' W1 1)) ⟨W1.heap.size, 0, none⟩ 1 1 (Value.int .i64 x :: V) rfl ?a1 (HCN.out W1.drew) H65.out (by omega) hnum1 hnum2 ?a2 (W1.heap.size + 1) ?a3 ?_
    case a1 => rw [List.length_cons, HVL.out]
    case a2 => exact (show lo ≤ (W1.alloc (.cells (Value.int .i64 x :: V).toArray 111)).heap.size by rw [World.size_alloc]; exact Nat.le_succ_of_le hloz)
    case a3 => exact (show (W1.alloc (.cells (Value.int .i64 x :: V).toArray 111)).heap.size = W1.heap.size + 1 by rw [World.size_alloc])
    intro g4 cap4 w4 ho4 hg4 hat4 hlt4
    obtain ⟨q1, q2⟩ := HFAR.out _ _ hg4
    have FI := FIN.out _ _ _ _ ho4 hg4 hat4
    have HFI : Hid (Tab (w4.setCell ⟨tb, 0, none⟩ (.slice (some ⟨g4, 0, none⟩) (n + 1) cap4)) lo tb mb (.slice (some ⟨g4, 0, none⟩) (n + 1) cap4) (rs ++ [(x, Vb)]) ∧ Below lo w (w4.setCell ⟨tb, 0, none⟩ (.slice (some ⟨g4, 0, none⟩) (n + 1) cap4)) ∧ (∀ q, q < w.heap.size → q ≠ tb → q ≠ mb → Value.ownBlock (.slice va n vcap) ≠ some q → (w4.setCell ⟨tb, 0, none⟩ (.slice (some ⟨g4, 0, none⟩) (n + 1) cap4)).heap[q]? = w.heap[q]?)) := FI
    have p0 := (q1 0).1.trans d0
    have p1 := (q1 0).2.trans e0
    refine hK.out _ _ (q2 (.int .i64 0)).2 (fun hHeldP => ?_)
    have HQ2 : Hid (∀ u, (w4.setCell ⟨tb, 0, none⟩ u).rangeAt w.heap.size 0 V ∧ w4.rangeAt w.heap.size 0 V) := q2
    clear hK K FI ho4 hg4 hat4 q1 q2
    simp only [Act.put, List.setIfInBounds_toArray, List.set_cons_zero, List.set_cons_succ]
    refine wpAnyH_take (i := 10) (oi := { dst := some 46, op := _, type := _, pos := _, after := _, guard := _ }) (v := (.pointer (some ⟨tb, 0, none⟩))) rfl (by kernel_rfl) (by kernel_rfl) (by kernel_rfl) (fun _ _ _ h => h) (Or.inl ⟨by rfl, fun w' hSw => ?_⟩) (by assumption) ?_
    · (try dsimp only at hSw)
      go_simp
    simp only [Act.put, List.setIfInBounds_toArray, List.set_cons_zero, List.set_cons_succ]
    refine wpAnyH_take (i := 11) (oi := { dst := some 47, op := _, type := _, pos := _, after := _, guard := _ }) (v := (.pointer (some ⟨tb, 0, none⟩))) rfl (by kernel_rfl) (by kernel_rfl) (by kernel_rfl) (fun _ _ _ h => h) (Or.inl ⟨by rfl, fun w' hSw => ?_⟩) (by assumption) ?_
    · (try dsimp only at hSw)
      go_simp
    simp only [Act.put, List.setIfInBounds_toArray, List.set_cons_zero, List.set_cons_succ]
    refine wpAnyH_ready (rs := [12]) (by kernel_rfl) (by simp) ?_
    refine AllReadyH.cons (o := { dst := none, op := _, type := _, pos := _, after := _, guard := _ }) rfl (fun K hK => ?_) AllReadyH.nil
    go_simp
    refine hK.out _ _ (HQ2.out _).1 (fun hHeldS => ?_)
    clear hK K
    refine wpAnyH_done (by kernel_rfl) ?_ _
    clear hHeldS hHeldP
    go_wp2
    go_end0
    exact ⟨rfl, ⟨_, HFI.out.1⟩, HFI.out.2.1, HFI.out.2.2⟩

theorem put_any (w : World) (lo tb mb : Nat) (v : Value) (rs : List (Int × List Int)) (x : Int) (Vb : List Int) (ht : Tab w lo tb mb v rs) (hx0 : 0 ≤ x) (hx1 : x ≤ 1048576) (hVb : Vb.length = 64) (hlen : rs.length ≤ 1048576) (hlow : lo ≤ w.heap.size) :
    Calls Try.prog 78 #[.pointer (some ⟨tb, 0, none⟩), .int .i64 x, .agg (Vb.map (Value.int .u8)).toArray] w fun e w' => e = .returned (.tuple #[]) ∧ (∃ v' rs', Put rs x Vb rs' ∧ Tab w' lo tb mb v' rs') ∧ Below lo w w' ∧ (∀ q, q < w.heap.size → q ≠ tb → q ≠ mb → v.ownBlock ≠ some q → w'.heap[q]? = w.heap[q]?) := by
  by_cases h : ∃ i, i < rs.length ∧ pB rs i = x
  · obtain ⟨i, hi, e⟩ := h
    refine (put_yes w lo tb mb v rs x Vb i ht hi e (wf_small x hx0 hx1) hVb).mono ?_
    rintro e' w' ⟨rfl, h1, h2, h3⟩
    exact ⟨rfl, ⟨v, _, .inl ⟨i, hi, e, rfl⟩, h1⟩, h2, h3⟩
  · have hno : ∀ i, i < rs.length → pB rs i ≠ x := fun i hi e => h ⟨i, hi, e⟩
    refine (put_no w lo tb mb v rs x Vb ht hno (wf_small x hx0 hx1) hVb hlen hlow).mono ?_
    rintro e' w' ⟨rfl, ⟨v', h1⟩, h2, h3⟩
    exact ⟨rfl, ⟨v', _, .inr ⟨hno, rfl⟩, h1⟩, h2, h3⟩

end Go.Proofs.Ytoljmlhnbmeloaa
