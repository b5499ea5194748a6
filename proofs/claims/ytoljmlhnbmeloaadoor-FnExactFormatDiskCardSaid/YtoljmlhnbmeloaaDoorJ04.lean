import Derived.Test.YtoljmlhnbmeloaaDoorJ03
import Derived.Test.YtoljmlhnbmeloaaDoorJ02
import Derived.Test.YtoljmlhnbmeloaaDoorRows
import Derived.Deep.RegionWith
import Derived.Deep.RegionLaw
namespace Go.Proofs.YtoljmlhnbmeloaaDoor
open Go.RowKit

theorem ownsRow_below2 {w w' : World} {lo n z : Nat} {e : TypeId} {v : Value} {us : List Value} (ho : w.ownsRow lo e z v n us) (hb : Below w.heap.size w w') : w'.ownsRow lo e z v n us := by
  refine ⟨ho.1, ?_⟩
  rcases ho.2 with hn | ⟨g, cap, cur, rfl, hbg, hgg, rest⟩
  · exact .inl hn
  · exact .inr ⟨g, cap, cur, rfl, hbg, by rw [hb.block g (Array.getElem?_eq_some_iff.1 hgg).1]; exact hgg, rest⟩
theorem row_slice2 {w : World} {lo n : Nat} {e : TypeId} {v : Value} {us : List Value} (h : w.ownsRow lo e 1 v n us) : ∃ a c, v = .slice a n c ∧ n ≤ c ∧ c ≤ maxLen := by
  rcases h.2 with ⟨rfl, rfl⟩ | ⟨g, cap, cur, rfl, -, -, h1, h2, -⟩
  · exact ⟨none, 0, rfl, Nat.le_refl _, Nat.zero_le _⟩
  · exact ⟨_, _, rfl, h1, h2⟩

set_option maxHeartbeats 1000000 in
set_option maxRecDepth 100000 in
theorem specSuper_no (w : World) (g b s l c : Int) (h : supOk g b s l c = false) :
    Calls Tryd.prog 36 #[.agg #[.int .i64 g, .int .i64 b, .int .i64 s, .int .i64 l, .int .i64 c]] w fun e w' => ∃ v', e = .returned v' ∧ Own .u8 5 w' w.heap.size v' [] ∧ Below w.heap.size w w' := by
  have H : Hid (supOk g b s l c = false) := h
  clear h
  go_enter Tryd.func36, Tryd.ntmps36
  go_wp2_with fail
  refine (specOk_any _ g b s l c).mono ?_
  rintro e w1 ⟨rfl, b1⟩
  rw [H.out]
  have B1 : Hid (Below w.heap.size w w1) := ((Below.refl _ _).alloc (Nat.le_refl _) _).trans (b1.mono (by simp))
  clear b1
  go_wp2
  go_ret
  exact ⟨_, rfl, Own.mono (World.ownsRow_lit w1 #[] 0 (Nat.le_refl _) (Nat.zero_le _) rfl) B1.out.size, B1.out.alloc B1.out.size _⟩

set_option maxHeartbeats 2000000 in
set_option maxRecDepth 100000 in
theorem specSuper_yes (w : World) (g b s l c : Nat) (h : supOk g b s l c = true) (hg : g < 9223372036854775808) :
    Calls Tryd.prog 36 #[.agg #[.int .i64 g, .int .i64 b, .int .i64 s, .int .i64 l, .int .i64 c]] w fun e w' => ∃ v', e = .returned v' ∧ Own .u8 5 w' w.heap.size v' (supB g b s l c) ∧ Below w.heap.size w w' := by
  obtain ⟨i0, hi, hz0, hz1, hz2⟩ := info_parts Tryd.infoB
  have H : Hid (supOk g b s l c = true) := h
  have HG : Hid (g < 9223372036854775808 ∧ s < 9223372036854775808 ∧ l < 9223372036854775808 ∧ c < 9223372036854775808) := by
    unfold supOk at h
    simp only [Bool.and_eq_true, Bool.or_eq_true, decide_eq_true_eq] at h
    exact ⟨hg, by omega, by omega, by omega⟩
  clear h hg
  go_enter Tryd.func36, Tryd.ntmps36
  go_wp2_with fail
  refine (specOk_any _ g b s l c).mono ?_
  rintro e w1 ⟨rfl, b1⟩
  rw [H.out]
  have X1 : Hid (Bx5 w1 w.heap.size g b s l c) := (Bx5.new w g b s l c _).below b1 (by simp)
  have B1 : Hid (Below w.heap.size w w1) := ((Below.refl _ _).alloc (Nat.le_refl _) _).trans (b1.mono (by simp))
  have s1 : w.heap.size + 1 ≤ w1.heap.size := by have := b1.size; simpa using this
  clear b1
  have HV : Hid ((b : Int) % 256 = ((b % 256 : Nat) : Int)) := by show _ = _; omega
  go_wp2_with fail
  refine wp_region_held_drew (S := fun w' => Bx5 w' w.heap.size g b s l c) (by kernel_rfl) X1.out (fun hHeld => ?_)
  refine wpAnyH_take (i := 0) (oi := { dst := some 8, op := _, type := _, pos := _, after := _, guard := _ }) (v := (.pointer (some ⟨w.heap.size, 0, none⟩))) rfl (by kernel_rfl) (by kernel_rfl) (by kernel_rfl) (fun _ _ _ h => h) (Or.inl ⟨by rfl, fun w' hSw => ?_⟩) (by assumption) ?_
  · obtain ⟨-, y0, y1, y2, y3, y4⟩ := hSw
    go_simp
  simp only [Act.put, List.setIfInBounds_toArray, List.set_cons_zero, List.set_cons_succ]
  refine wpAnyH_take (i := 1) (oi := { dst := some 9, op := _, type := _, pos := _, after := _, guard := _ }) (v := (.int .i64 g)) rfl (by kernel_rfl) (by kernel_rfl) (by kernel_rfl) (fun _ _ _ h => h) (Or.inl ⟨by rfl, fun w' hSw => ?_⟩) (by assumption) ?_
  · obtain ⟨-, y0, y1, y2, y3, y4⟩ := hSw
    go_simp
  simp only [Act.put, List.setIfInBounds_toArray, List.set_cons_zero, List.set_cons_succ]
  refine wpAnyH_take (i := 3) (oi := { dst := some 11, op := _, type := _, pos := _, after := _, guard := _ }) (v := (.pointer (some ⟨w.heap.size, 1, none⟩))) rfl (by kernel_rfl) (by kernel_rfl) (by kernel_rfl) (fun _ _ _ h => h) (Or.inl ⟨by rfl, fun w' hSw => ?_⟩) (by assumption) ?_
  · obtain ⟨-, y0, y1, y2, y3, y4⟩ := hSw
    go_simp
  simp only [Act.put, List.setIfInBounds_toArray, List.set_cons_zero, List.set_cons_succ]
  refine wpAnyH_take (i := 4) (oi := { dst := some 12, op := _, type := _, pos := _, after := _, guard := _ }) (v := (.int .i64 b)) rfl (by kernel_rfl) (by kernel_rfl) (by kernel_rfl) (fun _ _ _ h => h) (Or.inl ⟨by rfl, fun w' hSw => ?_⟩) (by assumption) ?_
  · obtain ⟨-, y0, y1, y2, y3, y4⟩ := hSw
    go_simp
  simp only [Act.put, List.setIfInBounds_toArray, List.set_cons_zero, List.set_cons_succ]
  refine wpAnyH_take (i := 5) (oi := { dst := some 13, op := _, type := _, pos := _, after := _, guard := _ }) (v := (.int .u8 ((b : Int) % 256))) rfl (by kernel_rfl) (by kernel_rfl) (by kernel_rfl) (fun _ _ _ h => h) (Or.inl ⟨by rfl, fun w' hSw => ?_⟩) (by assumption) ?_
  · obtain ⟨-, y0, y1, y2, y3, y4⟩ := hSw
    go_simp
    rw [IntKind.wrap_u8]
  simp only [Act.put, List.setIfInBounds_toArray, List.set_cons_zero, List.set_cons_succ]
  refine wpAnyH_ready (rs := [2, 6]) (by kernel_rfl) (by simp) ?_
  refine AllReadyH.cons rfl (fun K hK => ?_) (AllReadyH.cons rfl (fun K hK => ?_) AllReadyH.nil)
  focus
    go_simp
    go_at_call 83
    refine (specBigS_any 8 _ g (by omega) HG.out.1).mono ?_
    rintro e w2 ⟨v2, rfl, o2, b2⟩
    have b2w : Below w1.heap.size w1 w2 := Below.trans (b := w1.drew) (below_drewN' w1 1) b2
    have X2 : Hid (Bx5 w2 w.heap.size g b s l c) := X1.out.below b2w (by omega)
    have B2 : Hid (Below w.heap.size w w2) := B1.out.trans (b2w.mono (by omega))
    clear b2w
    have O2 : Hid (w2.ownsRow (w.heap.size + 1) 5 1 v2 8 ((bigR g 8).map (Value.int .u8))) := by have h2 := o2.mono (show w.heap.size + 1 ≤ w1.heap.size from s1); unfold Own at h2; rw [bigR_len] at h2; exact h2
    refine hK.out _ _ X2.out (fun hHeld2 => ?_)
    clear hK K o2 b2
    try simp only [Act.put, List.setIfInBounds_toArray, List.set_cons_zero, List.set_cons_succ]
    refine wpAnyH_ready (rs := [6]) (by kernel_rfl) (by simp) ?_
    refine AllReadyH.cons (o := { dst := some 14, op := _, type := _, pos := _, after := _, guard := _ }) rfl (fun K hK => ?_) AllReadyH.nil
    go_simp
    have bA : Below (w.heap.size + 1) w2 (w2.alloc (.cells #[.int .u8 ((b : Int) % 256)] 5)) := (Below.refl _ _).alloc X2.out.1 _
    have XA : Hid (Bx5 (w2.alloc (.cells #[.int .u8 ((b : Int) % 256)] 5)) w.heap.size g b s l c) := X2.out.below bA (by omega)
    have BA : Hid (Below w.heap.size w (w2.alloc (.cells #[.int .u8 ((b : Int) % 256)] 5))) := B2.out.trans (bA.mono (by omega))
    have OA : Hid ((w2.alloc (.cells #[.int .u8 ((b : Int) % 256)] 5)).ownsRow (w.heap.size + 1) 5 1 v2 8 ((bigR g 8).map (Value.int .u8))) := O2.out.alloc _
    have NB : Hid (∀ j u, [Value.int .u8 ((b : Int) % 256)][j]? = some u → (w2.alloc (.cells #[.int .u8 ((b : Int) % 256)] 5)).cell? ((⟨w2.heap.size, 0, none⟩ : Addr).add j) = some u) := cell_one_new _ _ _
    refine hK.out _ _ XA.out (fun hHeldA => ?_)
    clear hK K hHeld2 X2 B2 O2 bA
    generalize w2.heap.size = GB at *
    generalize w2.alloc (.cells #[.int .u8 ((b : Int) % 256)] 5) = WA at *
    have sA : w.heap.size + 1 ≤ WA.heap.size := XA.out.1
    try simp only [Act.put, List.setIfInBounds_toArray, List.set_cons_zero, List.set_cons_succ]
    refine wpAnyH_ready (rs := [7]) (by kernel_rfl) (by simp) ?_
    refine AllReadyH.cons (o := { dst := some 15, op := _, type := _, pos := _, after := _, guard := _ }) rfl (fun K hK => ?_) AllReadyH.nil
    refine step_append rfl (.tmp 10) (.tmp 14) 24 rfl (w.heap.size + 1) 5 i0 (.int .u8 0) 1 1 Tryd.underlying24 hi hz0 hz1 hz2 rfl (by decide) v2 8 _ rfl OA.out ⟨GB, 0, none⟩ 1 1 [.int .u8 ((b : Int) % 256)] rfl rfl NB.out (by intro u hu; simp at hu; subst hu; rfl) (by unfold maxLen; omega) (by omega) sA ?_
    intro v3 w3 ho3 hg3
    have b3 : Below (w.heap.size + 1) WA w3 := (Below.refl _ _).grown hg3 sA (fun q hq => (World.ownsRow.lt OA.out q hq).1)
    have X3 : Hid (Bx5 w3 w.heap.size g b s l c) := XA.out.below b3 (by omega)
    have B3 : Hid (Below w.heap.size w w3) := BA.out.trans (b3.mono (by omega))
    have s3 : w.heap.size + 1 ≤ w3.heap.size := X3.out.1
    have O3 : Hid (w3.ownsRow (w.heap.size + 1) 5 1 v3 9 ((bigR g 8 ++ bigR b 1).map (Value.int .u8))) := by
      rw [HV.out] at ho3
      show World.ownsRow _ _ _ _ _ _ _
      rw [List.map_append]; exact ho3
    refine hK.out _ _ X3.out (fun hHeld3 => ?_)
    clear hK K ho3 hg3 b3
    try simp only [Act.put, List.setIfInBounds_toArray, List.set_cons_zero, List.set_cons_succ]
    refine wpAnyH_take (i := 8) (oi := { dst := some 3, op := _, type := _, pos := _, after := _, guard := _ }) (v := v3) rfl (by kernel_rfl) (by kernel_rfl) (by kernel_rfl) (fun _ _ _ h => h) (Or.inl ⟨by rfl, fun w' hSw => ?_⟩) (by assumption) ?_
    · go_simp
    try simp only [Act.put, List.setIfInBounds_toArray, List.set_cons_zero, List.set_cons_succ]
    refine wpAnyH_done (by kernel_rfl) ?_ _
    clear hHeld hHeldA hHeld3 XA BA OA NB sA
  rotate_left
  focus
    go_simp
    have bA0 : Below (w.heap.size + 1) w1 ((w1.alloc (.cells #[.int .u8 ((b : Int) % 256)] 5)).drew) := ((Below.refl _ _).alloc s1 _).drew
    have X2 : Hid (Bx5 ((w1.alloc (.cells #[.int .u8 ((b : Int) % 256)] 5)).drew) w.heap.size g b s l c) := X1.out.below bA0 (by omega)
    have B2 : Hid (Below w.heap.size w ((w1.alloc (.cells #[.int .u8 ((b : Int) % 256)] 5)).drew)) := B1.out.trans (bA0.mono (by omega))
    have N2 : Hid (∀ j u, [Value.int .u8 ((b : Int) % 256)][j]? = some u → ((w1.alloc (.cells #[.int .u8 ((b : Int) % 256)] 5)).drew).cell? ((⟨w1.heap.size, 0, none⟩ : Addr).add j) = some u) := cell_one_new w1 _ _
    have z2 : w1.heap.size < ((w1.alloc (.cells #[.int .u8 ((b : Int) % 256)] 5)).drew).heap.size := by simp
    refine hK.out _ _ X2.out (fun hHeld2 => ?_)
    clear hK K bA0
    generalize (w1.alloc (.cells #[.int .u8 ((b : Int) % 256)] 5)).drew = W2 at *
    try simp only [Act.put, List.setIfInBounds_toArray, List.set_cons_zero, List.set_cons_succ]
    refine wpAnyH_ready (rs := [2]) (by kernel_rfl) (by simp) ?_
    refine AllReadyH.cons (o := { dst := some 10, op := _, type := _, pos := _, after := _, guard := _ }) rfl (fun K hK => ?_) AllReadyH.nil
    go_simp
    go_at_call 83
    refine (specBigS_any 8 _ g (by omega) HG.out.1).mono ?_
    rintro e WA ⟨v2, rfl, o2, b2⟩
    have XA : Hid (Bx5 WA w.heap.size g b s l c) := X2.out.below b2 X2.out.1
    have BA : Hid (Below w.heap.size w WA) := B2.out.trans (b2.mono (by have := X2.out.1; omega))
    have OA : Hid (WA.ownsRow (w.heap.size + 1) 5 1 v2 8 ((bigR g 8).map (Value.int .u8))) := by have h2 := o2.mono (show w.heap.size + 1 ≤ W2.heap.size from X2.out.1); unfold Own at h2; rw [bigR_len] at h2; exact h2
    have NB : Hid (∀ j u, [Value.int .u8 ((b : Int) % 256)][j]? = some u → WA.cell? ((⟨w1.heap.size, 0, none⟩ : Addr).add j) = some u) := fun j u hj => by
      rw [b2.cell (p := (⟨w1.heap.size, 0, none⟩ : Addr).add j) (by rw [Addr.add_lit]; exact z2)]
      exact N2.out j u hj
    refine hK.out _ _ XA.out (fun hHeldA => ?_)
    clear hK K hHeld2 X2 B2 N2 o2 b2
    have sA : w.heap.size + 1 ≤ WA.heap.size := XA.out.1
    try simp only [Act.put, List.setIfInBounds_toArray, List.set_cons_zero, List.set_cons_succ]
    refine wpAnyH_ready (rs := [7]) (by kernel_rfl) (by simp) ?_
    refine AllReadyH.cons (o := { dst := some 15, op := _, type := _, pos := _, after := _, guard := _ }) rfl (fun K hK => ?_) AllReadyH.nil
    refine step_append rfl (.tmp 10) (.tmp 14) 24 rfl (w.heap.size + 1) 5 i0 (.int .u8 0) 1 1 Tryd.underlying24 hi hz0 hz1 hz2 rfl (by decide) v2 8 _ rfl OA.out ⟨w1.heap.size, 0, none⟩ 1 1 [.int .u8 ((b : Int) % 256)] rfl rfl NB.out (by intro u hu; simp at hu; subst hu; rfl) (by unfold maxLen; omega) (by omega) sA ?_
    intro v3 w3 ho3 hg3
    have b3 : Below (w.heap.size + 1) WA w3 := (Below.refl _ _).grown hg3 sA (fun q hq => (World.ownsRow.lt OA.out q hq).1)
    have X3 : Hid (Bx5 w3 w.heap.size g b s l c) := XA.out.below b3 (by omega)
    have B3 : Hid (Below w.heap.size w w3) := BA.out.trans (b3.mono (by omega))
    have s3 : w.heap.size + 1 ≤ w3.heap.size := X3.out.1
    have O3 : Hid (w3.ownsRow (w.heap.size + 1) 5 1 v3 9 ((bigR g 8 ++ bigR b 1).map (Value.int .u8))) := by
      rw [HV.out] at ho3
      show World.ownsRow _ _ _ _ _ _ _
      rw [List.map_append]; exact ho3
    refine hK.out _ _ X3.out (fun hHeld3 => ?_)
    clear hK K ho3 hg3 b3
    try simp only [Act.put, List.setIfInBounds_toArray, List.set_cons_zero, List.set_cons_succ]
    refine wpAnyH_take (i := 8) (oi := { dst := some 3, op := _, type := _, pos := _, after := _, guard := _ }) (v := v3) rfl (by kernel_rfl) (by kernel_rfl) (by kernel_rfl) (fun _ _ _ h => h) (Or.inl ⟨by rfl, fun w' hSw => ?_⟩) (by assumption) ?_
    · go_simp
    try simp only [Act.put, List.setIfInBounds_toArray, List.set_cons_zero, List.set_cons_succ]
    refine wpAnyH_done (by kernel_rfl) ?_ _
    clear hHeld hHeldA hHeld3 XA BA OA NB sA
  all_goals
    clear X1 B1 HV s1
    generalize hLg : bigR g 8 ++ bigR b 1 = L3 at *
    have HL3 : Hid (bigR g 8 ++ bigR b 1 = L3) := hLg
    clear hLg
    obtain ⟨-, x0, x1, x2, x3, x4⟩ := X3.out
    go_wp2_with fail
    refine (specBigS_any 4 _ s (by omega) HG.out.2.1).mono ?_
    rintro e w4 ⟨v4, rfl, o4, b4⟩
    obtain ⟨g4, c4, hv4⟩ := own_some o4 (by rw [bigR_len]; omega)
    rw [bigR_len] at hv4
    subst hv4
    have X4 : Hid (Bx5 w4 w.heap.size g b s l c) := X3.out.below b4 (by omega)
    have B4 : Hid (Below w.heap.size w w4) := B3.out.trans (b4.mono (by omega))
    have s4 : w.heap.size + 1 ≤ w4.heap.size := Nat.le_trans s3 b4.size
    have O4 : Hid (w4.ownsRow (w.heap.size + 1) 5 1 v3 9 (L3.map (Value.int .u8))) := ownsRow_below2 O3.out b4
    have N4 : Hid (∀ j u, ((bigR s 4).map (Value.int .u8))[j]? = some u → w4.cell? ((⟨g4, 0, none⟩ : Addr).add j) = some u) := World.ownsRow.cells o4 rfl
    clear x0 x1 x2 x3 x4 o4 b4 X3 B3 O3
    go_wp2_with (at_builtin; go_must (refine wpList_append_own _ rfl _ _ 24 rfl (w.heap.size + 1) 5 i0 (.int .u8 0) 1 1 Tryd.underlying24 hi hz0 hz1 hz2 rfl (by decide) _ _ _ rfl O4.out ⟨g4, 0, none⟩ 4 c4 ((bigR s 4).map (Value.int .u8)) rfl ?_ N4.out (ints_oneCell _ _) ?_ ?_ ?_ ?_))
    · rw [List.length_map, bigR_len]
    · unfold maxLen; omega
    · omega
    · exact s4
    intro v5 w5 ho5 hg5 _
    have b5 : Below (w.heap.size + 1) w4 w5 := (Below.refl _ _).grown hg5 s4 (fun q hq => (World.ownsRow.lt O4.out q hq).1)
    have X5 : Hid (Bx5 w5 w.heap.size g b s l c) := X4.out.below b5 (by omega)
    have B5 : Hid (Below w.heap.size w w5) := B4.out.trans (b5.mono (by omega))
    have s5 : w.heap.size + 1 ≤ w5.heap.size := Nat.le_trans s4 b5.size
    have O5 : Hid (w5.ownsRow (w.heap.size + 1) 5 1 v5 13 ((L3 ++ bigR s 4).map (Value.int .u8))) := by
      show World.ownsRow _ _ _ _ _ _ _
      rw [List.map_append]; exact ho5
    clear ho5 hg5 b5 X4 B4 O4 N4
    generalize hLg : L3 ++ bigR s 4 = L5 at *
    have HL5 : Hid (L3 ++ bigR s 4 = L5) := hLg
    clear hLg
    obtain ⟨-, x0, x1, x2, x3, x4⟩ := X5.out
    go_wp2_with fail
    refine (specBigS_any 4 _ l (by omega) HG.out.2.2.1).mono ?_
    rintro e w6 ⟨v6, rfl, o6, b6⟩
    obtain ⟨g6, c6, hv6⟩ := own_some o6 (by rw [bigR_len]; omega)
    rw [bigR_len] at hv6
    subst hv6
    have X6 : Hid (Bx5 w6 w.heap.size g b s l c) := X5.out.below b6 (by omega)
    have B6 : Hid (Below w.heap.size w w6) := B5.out.trans (b6.mono (by omega))
    have s6 : w.heap.size + 1 ≤ w6.heap.size := Nat.le_trans s5 b6.size
    have O6 : Hid (w6.ownsRow (w.heap.size + 1) 5 1 v5 13 (L5.map (Value.int .u8))) := ownsRow_below2 O5.out b6
    have N6 : Hid (∀ j u, ((bigR l 4).map (Value.int .u8))[j]? = some u → w6.cell? ((⟨g6, 0, none⟩ : Addr).add j) = some u) := World.ownsRow.cells o6 rfl
    clear x0 x1 x2 x3 x4 o6 b6 X5 B5 O5
    go_wp2_with (at_builtin; go_must (refine wpList_append_own _ rfl _ _ 24 rfl (w.heap.size + 1) 5 i0 (.int .u8 0) 1 1 Tryd.underlying24 hi hz0 hz1 hz2 rfl (by decide) _ _ _ rfl O6.out ⟨g6, 0, none⟩ 4 c6 ((bigR l 4).map (Value.int .u8)) rfl ?_ N6.out (ints_oneCell _ _) ?_ ?_ ?_ ?_))
    · rw [List.length_map, bigR_len]
    · unfold maxLen; omega
    · omega
    · exact s6
    intro v7 w7 ho7 hg7 _
    have b7 : Below (w.heap.size + 1) w6 w7 := (Below.refl _ _).grown hg7 s6 (fun q hq => (World.ownsRow.lt O6.out q hq).1)
    have X7 : Hid (Bx5 w7 w.heap.size g b s l c) := X6.out.below b7 (by omega)
    have B7 : Hid (Below w.heap.size w w7) := B6.out.trans (b7.mono (by omega))
    have s7 : w.heap.size + 1 ≤ w7.heap.size := Nat.le_trans s6 b7.size
    have O7 : Hid (w7.ownsRow (w.heap.size + 1) 5 1 v7 17 ((L5 ++ bigR l 4).map (Value.int .u8))) := by
      show World.ownsRow _ _ _ _ _ _ _
      rw [List.map_append]; exact ho7
    clear ho7 hg7 b7 X6 B6 O6 N6
    generalize hLg : L5 ++ bigR l 4 = L7 at *
    have HL7 : Hid (L5 ++ bigR l 4 = L7) := hLg
    clear hLg
    obtain ⟨-, x0, x1, x2, x3, x4⟩ := X7.out
    go_wp2_with fail
    refine (specBigS_any 4 _ c (by omega) HG.out.2.2.2).mono ?_
    rintro e w8 ⟨v8, rfl, o8, b8⟩
    obtain ⟨g8, c8, hv8⟩ := own_some o8 (by rw [bigR_len]; omega)
    rw [bigR_len] at hv8
    subst hv8
    have X8 : Hid (Bx5 w8 w.heap.size g b s l c) := X7.out.below b8 (by omega)
    have B8 : Hid (Below w.heap.size w w8) := B7.out.trans (b8.mono (by omega))
    have s8 : w.heap.size + 1 ≤ w8.heap.size := Nat.le_trans s7 b8.size
    have O8 : Hid (w8.ownsRow (w.heap.size + 1) 5 1 v7 17 (L7.map (Value.int .u8))) := ownsRow_below2 O7.out b8
    have N8 : Hid (∀ j u, ((bigR c 4).map (Value.int .u8))[j]? = some u → w8.cell? ((⟨g8, 0, none⟩ : Addr).add j) = some u) := World.ownsRow.cells o8 rfl
    clear x0 x1 x2 x3 x4 o8 b8 X7 B7 O7
    go_wp2_with (at_builtin; go_must (refine wpList_append_own _ rfl _ _ 24 rfl (w.heap.size + 1) 5 i0 (.int .u8 0) 1 1 Tryd.underlying24 hi hz0 hz1 hz2 rfl (by decide) _ _ _ rfl O8.out ⟨g8, 0, none⟩ 4 c8 ((bigR c 4).map (Value.int .u8)) rfl ?_ N8.out (ints_oneCell _ _) ?_ ?_ ?_ ?_))
    · rw [List.length_map, bigR_len]
    · unfold maxLen; omega
    · omega
    · exact s8
    intro v9 w9 ho9 hg9 _
    have b9 : Below (w.heap.size + 1) w8 w9 := (Below.refl _ _).grown hg9 s8 (fun q hq => (World.ownsRow.lt O8.out q hq).1)
    have X9 : Hid (Bx5 w9 w.heap.size g b s l c) := X8.out.below b9 (by omega)
    have B9 : Hid (Below w.heap.size w w9) := B8.out.trans (b9.mono (by omega))
    have s9 : w.heap.size + 1 ≤ w9.heap.size := Nat.le_trans s8 b9.size
    have O9 : Hid (w9.ownsRow (w.heap.size + 1) 5 1 v9 21 ((L7 ++ bigR c 4).map (Value.int .u8))) := by
      show World.ownsRow _ _ _ _ _ _ _
      rw [List.map_append]; exact ho9
    clear ho9 hg9 b9 X8 B8 O8 N8
    generalize hLg : L7 ++ bigR c 4 = L9 at *
    have HL9 : Hid (L7 ++ bigR c 4 = L9) := hLg
    clear hLg
    go_wp2
    go_loopw [3] (fun v wr => ∃ k : Nat, k ≤ 35 ∧ Hid (wr.ownsRow (w.heap.size + 1) 5 1 v (21 + k) ((L9 ++ List.replicate k 0).map (Value.int .u8))) ∧ Hid (Bx5 wr w.heap.size g b s l c) ∧ Hid (Below w.heap.size w wr)) (fun v _ => 56 - (match v with | .slice _ n _ => n | _ => 0))
    case atStart => exact ⟨0, by omega, by rw [List.replicate_zero, List.append_nil]; exact O9, X9, B9⟩
    case round =>
      clear O9 X9 B9
      obtain ⟨k, hk, O9, X9, B9⟩ := hrel
      have s9 : w.heap.size + 1 ≤ wr.heap.size := X9.out.1
      obtain ⟨a9, c9, hv9, -, -⟩ := row_slice2 O9.out
      subst hv9
      by_cases hlt : k < 35
      · have hI : ((21 + k : Nat) : Int) < 56 := by omega
        go_wp2_with (at_builtin; go_must (refine wpList_append_own _ rfl _ _ 24 rfl (w.heap.size + 1) 5 i0 (.int .u8 0) 1 1 Tryd.underlying24 hi hz0 hz1 hz2 rfl (by decide) _ _ _ rfl (O9.out.alloc _) ⟨wr.heap.size, 0, none⟩ 1 1 [.int .u8 0] rfl rfl (cell_one_new _ _ _) (by intro u hu; simp at hu; subst hu; rfl) ?_ ?_ ?_ ?_))
        · unfold maxLen; omega
        · omega
        · simp; omega
        intro v3 w3 ho3 hg3 _
        have b3 : Below (w.heap.size + 1) wr w3 := ((Below.refl _ _).alloc s9 _).grown hg3 (by simp; omega) (fun q hq => (World.ownsRow.lt O9.out q hq).1)
        have O10 : Hid (w3.ownsRow (w.heap.size + 1) 5 1 v3 (21 + (k + 1)) ((L9 ++ List.replicate (k + 1) 0).map (Value.int .u8))) := by
          show World.ownsRow _ _ _ _ _ _ _
          rw [← Nat.add_assoc, List.replicate_succ', ← List.append_assoc, List.map_append]
          simpa using ho3
        have X10 : Hid (Bx5 w3 w.heap.size g b s l c) := X9.out.below b3 (by omega)
        have B10 : Hid (Below w.heap.size w w3) := B9.out.trans (b3.mono (by omega))
        obtain ⟨a3, c3, hv3, -, -⟩ := row_slice2 O10.out
        clear ho3 hg3 b3 O9 X9 B9
        subst hv3
        go_wp2
        exact ⟨⟨k + 1, by omega, O10, X10, B10⟩, by simp; omega⟩
      · have hk35 : k = 35 := by omega
        subst hk35
        have O9' : Hid (wr.ownsRow (w.heap.size + 1) 5 1 (.slice a9 (21 + 35) c9) 56 ((L9 ++ List.replicate 35 0).map (Value.int .u8))) := O9.out
        clear O9
        generalize hLg : L9 ++ List.replicate 35 0 = L10 at *
        have HL10 : Hid (L9 ++ List.replicate 35 0 = L10) := hLg
        clear hLg
        obtain ⟨-, x0, x1, x2, x3, x4⟩ := X9.out
        go_wp2_with fail
        refine (specBigS_any 8 _ g (by omega) HG.out.1).mono ?_
        rintro e w11 ⟨v11, rfl, o11, b11⟩
        obtain ⟨g11, c11, hv11⟩ := own_some o11 (by rw [bigR_len]; omega)
        rw [bigR_len] at hv11
        subst hv11
        have B11 : Hid (Below w.heap.size w w11) := B9.out.trans (b11.mono (by omega))
        have s11 : w.heap.size + 1 ≤ w11.heap.size := Nat.le_trans s9 b11.size
        have O11 : Hid (w11.ownsRow (w.heap.size + 1) 5 1 (.slice a9 (21 + 35) c9) 56 (L10.map (Value.int .u8))) := ownsRow_below2 O9'.out b11
        have N11 : Hid (∀ j u, ((bigR g 8).map (Value.int .u8))[j]? = some u → w11.cell? ((⟨g11, 0, none⟩ : Addr).add j) = some u) := World.ownsRow.cells o11 rfl
        clear x0 x1 x2 x3 x4 o11 b11 O9'
        go_wp2_with (at_builtin; go_must (refine wpList_append_own _ rfl _ _ 24 rfl (w.heap.size + 1) 5 i0 (.int .u8 0) 1 1 Tryd.underlying24 hi hz0 hz1 hz2 rfl (by decide) _ _ _ rfl O11.out ⟨g11, 0, none⟩ 8 c11 ((bigR g 8).map (Value.int .u8)) rfl ?_ N11.out (ints_oneCell _ _) ?_ ?_ ?_ ?_))
        · rw [List.length_map, bigR_len]
        · unfold maxLen; omega
        · omega
        · exact s11
        intro v12 w12 ho12 hg12 _
        have B12 : Hid (Below w.heap.size w w12) := B11.out.grown hg12 (by omega) (fun q hq => by have := (World.ownsRow.lt O11.out q hq).1; omega)
        have O12 : Hid (Own .u8 5 w12 w.heap.size v12 (supB g b s l c)) := by
          have e : supB g b s l c = L10 ++ bigR g 8 := by
            rw [← HL10.out, ← HL9.out, ← HL7.out, ← HL5.out, ← HL3.out]; rfl
          have h12 : Own .u8 5 w12 (w.heap.size + 1) v12 (supB g b s l c) := own_of (q := 64) (ys := L10 ++ bigR g 8) (by rw [← e, supB_len]) e (by rw [List.map_append]; exact ho12)
          exact h12.mono (by omega)
        clear ho12 hg12
        go_wp2
        go_ret
        exact ⟨_, rfl, O12.out, B12.out⟩

theorem specSuper_any (w : World) (g b s l c : Int) (hg : g < 9223372036854775808) :
    Calls Tryd.prog 36 #[.agg #[.int .i64 g, .int .i64 b, .int .i64 s, .int .i64 l, .int .i64 c]] w fun e w' => ∃ v', e = .returned v' ∧ Own .u8 5 w' w.heap.size v' (sup g b s l c) ∧ Below w.heap.size w w' := by
  unfold sup
  by_cases h : supOk g b s l c = true
  · rw [if_pos h]
    obtain ⟨g, b, s, l, c, rfl, rfl, rfl, rfl, rfl⟩ := supOk_nat h
    exact specSuper_yes w g b s l c h (by omega)
  · rw [if_neg h]
    exact specSuper_no w g b s l c (by simpa using h)

end Go.Proofs.YtoljmlhnbmeloaaDoor

namespace Go.Proofs.YtoljmlhnbmeloaaDoor
open Go.RowKit

theorem Tryd.infoI : (Tryd.prog.info? 2).map (fun i => (i.zero, i.size, i.bytes)) = some (some (.int .i64 0), 1, 8) := by kernel_rfl

def bitsL (W : Nat) (xs : List Int) (q : Nat) : List Int := (List.range q).map (fun i => ((dig W 1 xs i : Nat) : Int))
theorem bitsL_len (W : Nat) (xs : List Int) (q : Nat) : (bitsL W xs q).length = q := by simp [bitsL]
theorem bitsL_getD (W : Nat) (xs : List Int) (q i : Nat) (h : i < q) : (bitsL W xs q).getD i 0 = ((dig W 1 xs i : Nat) : Int) := by simp [bitsL, List.getD, h]
theorem bitsL_succ (W : Nat) (xs : List Int) (q : Nat) : bitsL W xs (q + 1) = bitsL W xs q ++ [((dig W 1 xs q : Nat) : Int)] := range_snoc _ q

theorem bit_at (W : Nat) (xs : List Int) (k j x i : Nat) (hk : k < xs.length) (hj : j < W) (hx : xs.getD k 0 = (x : Int)) (hi : i + 1 + j = W * k + W) : dig W 1 xs i = x / 2 ^ j % 2 := by
  have e0 : W * (k + 1) = W * k + W := Nat.mul_succ W k
  rw [dig_take W 1 xs (k + 1) i hk (by rw [e0]; omega), numW_take_succ W xs k hk, hx, Int.toNat_natCast]
  rw [show W * (k + 1) - 1 * (i + 1) = j by rw [e0]; omega]
  have e : 2 ^ W = 2 ^ (W - j - 1) * 2 * 2 ^ j := by rw [← Nat.pow_succ, ← Nat.pow_add]; congr 1; omega
  rw [e, ← Nat.mul_assoc, Nat.add_comm, Nat.add_mul_div_right _ _ (pow_pos2 j), ← Nat.mul_assoc, Nat.pow_one, Nat.add_mul_mod_self_right]
  rw [Nat.mul_comm (2 ^ (W - j - 1) * 2) (2 ^ j), Nat.mod_mul_right_div_self, Nat.mod_mod_of_dvd _ (Nat.dvd_mul_left 2 _)]

theorem i64_low1 (n : Int) : bits .and .i64 n 1 = n % 2 := by
  have h1 : (BitVec.ofInt 64 1).toNat = 2 ^ 1 - 1 := by decide
  have key : (BitVec.ofInt 64 n &&& BitVec.ofInt 64 1).toNat = (n % ((2 ^ 64 : Nat) : Int)).toNat % 2 ^ 1 := by
    rw [BitVec.toNat_and, BitVec.toNat_ofInt, h1, Nat.and_two_pow_sub_one_eq_mod]
  show IntKind.i64.wrap ((BitVec.ofInt 64 n &&& BitVec.ofInt 64 1).toNat : Nat) = n % 2
  rw [key, IntKind.wrap_i64]
  omega

theorem shr_bit (x j : Nat) (hx : x < 256) : bits .and .i64 (wrap64 ((x : Int) / 2 ^ j)) 1 = ((x / 2 ^ j % 2 : Nat) : Int) := by
  have h := Nat.div_le_self x (2 ^ j)
  rw [i64_low1, shr_cast]
  generalize x / 2 ^ j = y at *
  rw [IntWalk.wrap64_in _ ⟨by omega, by omega⟩]
  omega

set_option maxHeartbeats 400000 in
set_option maxRecDepth 100000 in
theorem l2Bits_row (w : World) (b o n cap W : Nat) (xs : List Int) (hx : xs.length = n) (hb : b < w.heap.size) (hc : ∀ i, i < n → w.cell? ⟨b, o + i, none⟩ = some (.int .u8 (xs.getD i 0))) (hby : Byt xs) (hn : n ≤ 1099511627776) (hW : W ≤ 8) :
    Calls Tryd.prog 137 #[.slice (some ⟨b, o, none⟩) n cap, .int .i64 W] w fun e w' => ∃ v', e = .returned v' ∧ Own .i64 2 w' w.heap.size v' (bitsL W xs (W * n)) ∧ Below w.heap.size w w' := by
  obtain ⟨i0, hi, hz0, hz1, hz2⟩ := info_parts Tryd.infoI
  have HC : Hid (∀ i, i < n → w.cell? ⟨b, o + i, none⟩ = some (.int .u8 (xs.getD i 0))) := hc
  have HX : Hid (xs.length = n) := hx
  clear hc hx
  go_enter Tryd.func137, Tryd.ntmps137
  go_wp2
  go_loopw [5, 6] (fun v i wr => ∃ k : Nat, k ≤ n ∧ i = .int .i64 k ∧ wr.ownsRow w.heap.size 2 1 v (W * k) ((bitsL W xs (W * k)).map (Value.int .i64)) ∧ Below w.heap.size w wr) (fun _ i _ => n - (intOf i).toNat)
  case atStart => exact ⟨0, Nat.zero_le _, rfl, World.ownsRow_lit w #[] 0 (Nat.le_refl _) (Nat.zero_le _) rfl, (Below.refl _ _).alloc (Nat.le_refl _) _⟩
  case round =>
    obtain ⟨k, hk, rfl, ho, hg⟩ := hrel
    by_cases hlt : k < n
    · obtain ⟨x, hx, hxe⟩ := byt_at hby k
      have hltI : (k : Int) < (n : Int) := by omega
      have HXE : Hid (xs.getD k 0 = (x : Int)) := hxe
      have hsrc : w.cell? ⟨b, o + k, none⟩ = some (.int .u8 (x : Int)) := by rw [← hxe]; exact HC.out k hlt
      have HS : Hid (w.cell? ⟨b, o + k, none⟩ = some (.int .u8 (x : Int))) := hsrc
      clear hxe hsrc
      go_wp2
      go_loopw [5, 7] (fun v j wr => ∃ t : Nat, t ≤ W ∧ j = .int .i64 ((W : Int) - 1 - t) ∧ wr.ownsRow w.heap.size 2 1 v (W * k + t) ((bitsL W xs (W * k + t)).map (Value.int .i64)) ∧ Below w.heap.size w wr) (fun _ j _ => (intOf j + 1).toNat)
      case atStart => exact ⟨0, Nat.zero_le _, by go_num, ho, hg⟩
      case round =>
        clear ho hg
        obtain ⟨t, ht, rfl, ho, hg⟩ := hrel
        by_cases htl : t < W
        · obtain ⟨j, hj⟩ : ∃ j, t + 1 + j = W := ⟨W - 1 - t, by omega⟩
          have HJ : Hid (t + 1 + j = W) := hj
          have ej : (W : Int) - 1 - (t : Int) = (j : Int) := by omega
          rw [ej]
          have hj0 : (0 : Int) ≤ (j : Int) := by omega
          have hj8 : j < 8 := by omega
          clear hj ej
          have hsrc : wr.cell? ⟨b, o + k, none⟩ = some (.int .u8 (x : Int)) := (hg.cell (p := ⟨b, o + k, none⟩) hb).trans HS.out
          have HB : Hid (bits .and .i64 (wrap64 ((x : Int) / 2 ^ j)) 1 = ((dig W 1 xs (W * k + t) : Nat) : Int)) := by
            show _ = _
            have hj := HJ.out
            rw [bit_at W xs k j x (W * k + t) (by rw [HX.out]; exact hlt) (by omega) HXE.out (by omega), shr_bit x j hx]
          have HL : Hid (W * k + t + 1 ≤ 8796093022208) := by
            have : W * k ≤ 8 * k := Nat.mul_le_mul_right _ hW
            show _ ≤ _
            omega
          go_wp2_with (at_builtin; go_must (refine wpList_append_own _ rfl _ _ 199 rfl w.heap.size 2 i0 (.int .i64 0) 1 8 Tryd.underlying199 hi hz0 hz1 hz2 rfl (by decide) _ _ _ rfl (ho.alloc _) ⟨wr.heap.size, 0, none⟩ 1 1 [.int .i64 (bits .and .i64 (wrap64 ((x : Int) / 2 ^ j)) 1)] rfl rfl (cell_one_new _ _ _) (by intro u hu; simp at hu; subst hu; rfl) ?c3 ?c4 ?c5 ?_))
          case c3 => have := HL.out; unfold maxLen; omega
          case c4 => have := HL.out; omega
          case c5 => have := hg.size; simp; omega
          intro v2 w2 ho2 hg2 _
          have HO2 : Hid (w2.ownsRow w.heap.size 2 1 v2 (W * k + (t + 1)) ((bitsL W xs (W * k + (t + 1))).map (Value.int .i64))) := by
            rw [HB.out] at ho2; show World.ownsRow _ _ _ _ _ _ _; rw [← Nat.add_assoc, bitsL_succ, List.map_append]; exact ho2
          have HG2 : Hid (Below w.heap.size w w2) := (hg.alloc (hg.size) _).grown hg2 (by have := hg.size; simp; omega) (fun q hq => (ho.lt q hq).1)
          clear ho2 hg2 ho hg HB
          go_wp2
          go_roundw
          case rel => exact ⟨t + 1, by omega, by have := HJ.out; go_num, HO2.out, HG2.out⟩
          case measure => simp [intOf]
        · have htW : t = W := by omega
          subst htW
          have et : (t : Int) - 1 - (t : Int) = -1 := by omega
          rw [et]
          go_wp2
          go_roundw
          case rel => exact ⟨k + 1, by omega, by go_num, by rw [Nat.mul_succ]; exact ho, hg⟩
          case measure => simp [intOf]; omega
    · have hkn : k = n := by omega
      subst hkn
      go_wp2
      go_ret
      exact ⟨_, rfl, own_of (bitsL_len _ _ _) rfl ho, hg⟩

set_option maxHeartbeats 400000 in
theorem l2Bits_nil (w : World) (ao : Option Addr) (cap W : Nat) :
    Calls Tryd.prog 137 #[.slice ao 0 cap, .int .i64 W] w fun e w' => ∃ v', e = .returned v' ∧ Own .i64 2 w' w.heap.size v' [] ∧ Below w.heap.size w w' := by
  go_enter Tryd.func137, Tryd.ntmps137
  go_wp2
  go_rounds 1
  go_ret
  exact ⟨_, rfl, World.ownsRow_lit w #[] 0 (Nat.le_refl _) (Nat.zero_le _) rfl, (Below.refl _ _).alloc (Nat.le_refl _) _⟩

theorem l2Bits_any (w : World) (v : Value) (xs : List Int) (W : Nat) (h : Rd .u8 w v xs) (hby : Byt xs) (hn : xs.length ≤ 1099511627776) (hW : W ≤ 8) :
    Calls Tryd.prog 137 #[v, .int .i64 W] w fun e w' => ∃ v', e = .returned v' ∧ Own .i64 2 w' w.heap.size v' (bitsL W xs (W * xs.length)) ∧ Below w.heap.size w w' := by
  obtain ⟨ao, cap, rfl, h1, h2, h3⟩ := h
  rcases h3 with rfl | ⟨b, o, rfl, hb, hc⟩
  · exact l2Bits_nil w ao cap W
  · exact l2Bits_row w b o xs.length cap W xs rfl hb hc hby hn hW

/-! ### the groups of seven bits -/
def gv (xs : List Int) (q t : Nat) : Nat :=
  if 7 * q + t ≤ 8 * xs.length then numW 8 xs / 2 ^ (8 * xs.length - (7 * q + t)) % 2 ^ t else numW 8 xs % 2 ^ (8 * xs.length - 7 * q) * 2 ^ (7 * q + t - 8 * xs.length)

theorem gv_zero (xs : List Int) (q : Nat) (h : 7 * q ≤ 8 * xs.length) : gv xs q 0 = 0 := by
  unfold gv; rw [if_pos (by omega)]; simp [Nat.mod_one]

theorem gv_in (xs : List Int) (q t : Nat) (h : 7 * q + t < 8 * xs.length) : gv xs q (t + 1) = 2 * gv xs q t + dig 8 1 xs (7 * q + t) := by
  unfold gv dig
  rw [if_pos (by omega), if_pos (by omega)]
  have e : 8 * xs.length - (7 * q + t) = 8 * xs.length - (7 * q + (t + 1)) + 1 := by omega
  rw [e, show 2 ^ (8 * xs.length - (7 * q + (t + 1)) + 1) = 2 ^ (8 * xs.length - (7 * q + (t + 1))) * 2 from Nat.pow_succ _ _, ← Nat.div_div_eq_div_mul, show 8 * xs.length - 1 * (7 * q + t + 1) = 8 * xs.length - (7 * q + (t + 1)) by omega, Nat.pow_one]
  generalize numW 8 xs / 2 ^ (8 * xs.length - (7 * q + (t + 1))) = X
  rw [Nat.pow_succ, Nat.mul_comm (2 ^ t) 2, Nat.mod_mul]
  omega

theorem gv_out (xs : List Int) (q t : Nat) (h0 : 7 * q ≤ 8 * xs.length) (h : 8 * xs.length ≤ 7 * q + t) : gv xs q (t + 1) = 2 * gv xs q t := by
  unfold gv
  rw [if_neg (by omega)]
  by_cases e : 7 * q + t = 8 * xs.length
  · rw [if_pos (by omega), show 8 * xs.length - (7 * q + t) = 0 by omega, show 8 * xs.length - 7 * q = t by omega, show 7 * q + (t + 1) - 8 * xs.length = 1 by omega]
    simp; omega
  · rw [if_neg (by omega), show 7 * q + (t + 1) - 8 * xs.length = 7 * q + t - 8 * xs.length + 1 by omega, Nat.pow_succ]
    rw [← Nat.mul_assoc, Nat.mul_comm _ 2]

theorem gv_lt (xs : List Int) (q t : Nat) (h0 : 7 * q ≤ 8 * xs.length) : gv xs q t < 2 ^ t := by
  unfold gv
  by_cases h : 7 * q + t ≤ 8 * xs.length
  · rw [if_pos h]; exact Nat.mod_lt _ (pow_pos2 t)
  · rw [if_neg h]
    have h1 : numW 8 xs % 2 ^ (8 * xs.length - 7 * q) < 2 ^ (8 * xs.length - 7 * q) := Nat.mod_lt _ (pow_pos2 _)
    have h2 := shift_lt h1 t (by omega)
    rw [show 7 * q + t - 8 * xs.length = t - (8 * xs.length - 7 * q) by omega]
    exact h2

theorem gv_le (xs : List Int) (q t : Nat) (h0 : 7 * q ≤ 8 * xs.length) (ht : t ≤ 7) : gv xs q t ≤ 127 := by
  have h := gv_lt xs q t h0
  have h2 : 2 ^ t ≤ 2 ^ 7 := Nat.pow_le_pow_right (by omega) ht
  simp only [Nat.reducePow] at h2
  omega

def pkS (xs : List Int) (q : Nat) : List Int := (List.range q).map (fun j => ((128 + gv xs j 7 : Nat) : Int))
theorem pkS_len (xs : List Int) (q : Nat) : (pkS xs q).length = q := by simp [pkS]
theorem pkS_succ (xs : List Int) (q : Nat) : pkS xs (q + 1) = pkS xs q ++ [((128 + gv xs q 7 : Nat) : Int)] := range_snoc _ q

theorem pkS_full (xs : List Int) (q : Nat) (h : 7 * q ≤ 8 * xs.length) : pkS xs q = pkE xs q := by
  unfold pkS pkE
  apply List.map_congr_left
  intro j hj
  have hj := List.mem_range.1 hj
  unfold gv dig
  rw [if_pos (by omega), show 7 * j + 7 = 7 * (j + 1) by omega]

theorem pkS_all (xs : List Int) (q : Nat) (h : 8 * xs.length ≤ 7 * q) (h1 : 7 * q < 8 * xs.length + 7) : pkS xs q = pk xs := by
  by_cases e : 7 * q = 8 * xs.length
  · rw [pkS_full xs q (by omega), pk_even (by omega)]
  · obtain ⟨p, rfl⟩ : ∃ p, q = p + 1 := ⟨q - 1, by omega⟩
    rw [pkS_succ, pkS_full xs p (by omega), pk_odd (q := p) (A := 8 * xs.length - 7 * p) (by omega) (by omega) (by omega)]
    unfold gv
    rw [if_neg (by omega), show 7 * p + 7 - 8 * xs.length = 7 - (8 * xs.length - 7 * p) by omega]

end Go.Proofs.YtoljmlhnbmeloaaDoor

namespace Go.Proofs.YtoljmlhnbmeloaaDoor
open Go.RowKit

set_option maxHeartbeats 400000 in
set_option maxRecDepth 100000 in
theorem specPack_row (w : World) (v : Value) (xs : List Int) (h : Rd .u8 w v xs) (hby : Byt xs) (hn : xs.length ≤ 1099511627776) (hne : 0 < xs.length) :
    Calls Tryd.prog 110 #[v] w fun e w' => ∃ v', e = .returned v' ∧ Own .u8 5 w' w.heap.size v' (pk xs) ∧ Below w.heap.size w w' := by
  obtain ⟨i0, hi, hz0, hz1, hz2⟩ := info_parts Tryd.infoB
  go_enter Tryd.func110, Tryd.ntmps110
  go_wp2_with fail
  refine (l2Bits_any _ _ xs 8 h hby hn (by omega)).mono ?_
  rintro e w1 ⟨vb, rfl, hob, hb1⟩
  obtain ⟨ao, cap, rfl, h1, h2, h3⟩ := hob.rd
  rcases h3 with h3 | ⟨b, o, rfl, hlt1, hc1⟩
  · have := congrArg List.length h3; rw [bitsL_len] at this; simp at this; omega
  rw [bitsL_len] at h1 hc1 ⊢
  have HC : Hid (∀ i, i < 8 * xs.length → w1.cell? ⟨b, o + i, none⟩ = some (.int .i64 ((dig 8 1 xs i : Nat) : Int))) := fun i hi => by rw [hc1 i hi, bitsL_getD _ _ _ _ hi]
  generalize hnn : xs.length = n at *
  have HN : Hid (xs.length = n) := hnn
  have HB1 : Hid (Below w.heap.size w w1) := hb1
  have hsz := hb1.size
  clear hnn hc1 hob hb1 h2 h
  go_wp2
  go_loopw [4, 5] (fun v i wr => ∃ q : Nat, 7 * q < 8 * n + 7 ∧ i = .int .i64 (7 * q) ∧ wr.ownsRow w1.heap.size 5 1 v q ((pkS xs q).map (Value.int .u8)) ∧ Below w1.heap.size w1 wr) (fun _ i _ => 8 * n + 7 - (intOf i).toNat)
  case atStart => exact ⟨0, by omega, rfl, World.ownsRow_lit w1 #[] 0 (Nat.le_refl _) (Nat.zero_le _) rfl, (Below.refl _ _).alloc (Nat.le_refl _) _⟩
  case round =>
    obtain ⟨q, hq, rfl, ho, hg⟩ := hrel
    by_cases hlt : 7 * q < 8 * n
    · have hltI : 7 * (q : Int) < 8 * (n : Int) := by omega
      go_wp2
      go_loop [6, 7] (fun v j => ∃ t V : Nat, t ≤ 7 ∧ j = .int .i64 (7 * (q : Int) + t) ∧ V ≤ 127 ∧ v = .int .i64 V ∧ Hid (V = gv xs q t)) (fun _ j => (7 * (q : Int) + 7 - intOf j).toNat)
      case atStart => exact ⟨0, 0, by omega, by go_num, by omega, rfl, (gv_zero xs q (by rw [HN.out]; omega)).symm⟩
      case round =>
        obtain ⟨t, V, ht, rfl, hV, rfl, HV⟩ := hrel
        by_cases ht7 : t < 7
        · have hjI : 7 * (q : Int) + (t : Int) < 7 * (q : Int) + 7 := by omega
          by_cases hin : 7 * q + t < 8 * n
          · have hinI : 7 * (q : Int) + (t : Int) < 8 * (n : Int) := by omega
            have hgs := gv_in xs q t (by rw [HN.out]; exact hin)
            have hgl := gv_le xs q (t + 1) (by rw [HN.out]; omega) (by omega)
            have hsrc : wr.cell? ⟨b, o + (7 * q + t), none⟩ = some (.int .i64 ((dig 8 1 xs (7 * q + t) : Nat) : Int)) := (hg.cell (p := ⟨b, o + (7 * q + t), none⟩) hlt1).trans (HC.out _ hin)
            rw [← HV.out] at hgs
            generalize hD : dig 8 1 xs (7 * q + t) = D at *
            have hb : 2 * V + D ≤ 127 := by omega
            have HGS : Hid (2 * V + D = gv xs q (t + 1)) := hgs.symm
            clear hgs hgl hD
            go_wp2
            go_round
            case rel => exact ⟨t + 1, 2 * V + D, by omega, by go_num, hb, by go_num, HGS.out⟩
            case measure => simp [intOf]; omega
          · have hinI : ¬ 7 * (q : Int) + (t : Int) < 8 * (n : Int) := by omega
            have hgs := gv_out xs q t (by rw [HN.out]; omega) (by rw [HN.out]; omega)
            have hgl := gv_le xs q (t + 1) (by rw [HN.out]; omega) (by omega)
            rw [← HV.out] at hgs
            have hb : 2 * V ≤ 127 := by omega
            have HGS : Hid (2 * V = gv xs q (t + 1)) := hgs.symm
            clear hgs hgl
            go_wp2
            go_round
            case rel => exact ⟨t + 1, 2 * V, by omega, by go_num, hb, by go_num, HGS.out⟩
            case measure => simp [intOf]; omega
        · have ht8 : t = 7 := by omega
          subst ht8
          have HL : Hid (q + 1 ≤ 8796093022208) := by show _ ≤ _; omega
          go_wp2_with (at_builtin; go_must (refine wpList_append_own _ rfl _ _ 24 rfl w1.heap.size 5 i0 (.int .u8 0) 1 1 Tryd.underlying24 hi hz0 hz1 hz2 rfl (by decide) _ _ _ rfl (ho.alloc _) ⟨wr.heap.size, 0, none⟩ 1 1 [.int .u8 (128 + (V : Int))] rfl rfl (cell_one_new _ _ _) (by intro u hu; simp at hu; subst hu; rfl) ?c3 ?c4 ?c5 ?_))
          case c3 => have := HL.out; unfold maxLen; omega
          case c4 => have := HL.out; omega
          case c5 => have := hg.size; simp; omega
          intro v2 w2 ho2 hg2 _
          have HO2 : Hid (w2.ownsRow w1.heap.size 5 1 v2 (q + 1) ((pkS xs (q + 1)).map (Value.int .u8))) := by
            rw [HV.out] at ho2; show World.ownsRow _ _ _ _ _ _ _; rw [pkS_succ, List.map_append]; exact ho2
          have HG2 : Hid (Below w1.heap.size w1 w2) := (hg.alloc (hg.size) _).grown hg2 (by have := hg.size; simp; omega) (fun q hq => (ho.lt q hq).1)
          clear ho2 hg2 ho hg
          go_wp2
          go_roundw
          case rel => exact ⟨q + 1, by omega, by go_num, HO2.out, HG2.out⟩
          case measure => simp [intOf]; omega
    · have hltI : ¬ 7 * (q : Int) < 8 * (n : Int) := by omega
      go_wp2
      go_ret
      have ho3 : Own .u8 5 wr w1.heap.size u4 (pk xs) := own_of (pkS_len xs q) (pkS_all xs q (by rw [HN.out]; omega) (by rw [HN.out]; omega)).symm ho
      exact ⟨_, rfl, ho3.mono hsz, HB1.out.trans (hg.mono hsz)⟩

set_option maxHeartbeats 400000 in
theorem specPack_nil (w : World) (v : Value) (h : Rd .u8 w v []) :
    Calls Tryd.prog 110 #[v] w fun e w' => ∃ v', e = .returned v' ∧ Own .u8 5 w' w.heap.size v' [] ∧ Below w.heap.size w w' := by
  go_enter Tryd.func110, Tryd.ntmps110
  go_wp2_with fail
  refine (l2Bits_any _ _ [] 8 h (by intro x hx; cases hx) (by simp) (by omega)).mono ?_
  rintro e w1 ⟨vb, rfl, hob, hb1⟩
  obtain ⟨ao, cap, rfl, h1, h2, h3⟩ := hob.rd
  clear h1 h2 h3 hob
  have HB1 : Hid (Below w.heap.size w w1) := hb1
  clear hb1
  have hsz := HB1.out.size
  rw [show (bitsL 8 [] (8 * ([] : List Int).length)).length = 0 from rfl]
  go_wp2
  go_rounds 1
  go_ret
  have ho3 : Own .u8 5 (w1.alloc (.cells #[] 5)) w1.heap.size (.slice (some ⟨w1.heap.size, 0, none⟩) 0 0) [] := World.ownsRow_lit w1 #[] 0 (Nat.le_refl _) (Nat.zero_le _) rfl
  exact ⟨_, rfl, ho3.mono hsz, HB1.out.alloc hsz _⟩

theorem specPack_any (w : World) (v : Value) (xs : List Int) (h : Rd .u8 w v xs) (hby : Byt xs) (hn : xs.length ≤ 1099511627776) :
    Calls Tryd.prog 110 #[v] w fun e w' => ∃ v', e = .returned v' ∧ Own .u8 5 w' w.heap.size v' (pk xs) ∧ Below w.heap.size w w' := by
  by_cases hne : 0 < xs.length
  · exact specPack_row w v xs h hby hn hne
  · have : xs = [] := List.eq_nil_of_length_eq_zero (by omega)
    subst this
    exact specPack_nil w v h

end Go.Proofs.YtoljmlhnbmeloaaDoor

namespace Go.Proofs.YtoljmlhnbmeloaaDoor
open Go.RowKit

theorem map_inj_on {xs ys : List Int} (hx : Byt xs) (hy : Byt ys) (h : xs.map (fun n => UInt8.ofNat n.toNat) = ys.map (fun n => UInt8.ofNat n.toNat)) : xs = ys := by
  induction xs generalizing ys with
  | nil => cases ys with
    | nil => rfl
    | cons y ys => simp at h
  | cons x xs ih => cases ys with
    | nil => simp at h
    | cons y ys =>
      simp only [List.map_cons, List.cons.injEq] at h
      have bx := hx x (by simp)
      have by' := hy y (by simp)
      have e : x = y := by
        have h1 := congrArg UInt8.toNat h.1
        simp only [UInt8.toNat_ofNat'] at h1
        omega
      rw [e, ih (fun z hz => hx z (by simp [hz])) (fun z hz => hy z (by simp [hz])) h.2]

theorem same_iff {xs ys : List Int} (hx : Byt xs) (hy : Byt ys) : ((strOfNums xs).toList == (strOfNums ys).toList) = decide (xs = ys) := by
  rw [ByteArray.toList_eq, ByteArray.toList_eq, strOfNums_data, strOfNums_data]
  by_cases h : xs = ys
  · subst h; simp
  · rw [decide_eq_false h, beq_eq_false_iff_ne]
    exact fun e => h (map_inj_on hx hy e)

set_option maxHeartbeats 400000 in
theorem sameBytes_any (w : World) (va vb : Value) (xs ys : List Int) (ha : Rd .u8 w va xs) (hb : Rd .u8 w vb ys) (hx : Byt xs) (hy : Byt ys) :
    Calls Tryd.prog 138 #[va, vb] w fun e w' => e = .returned (.bool (decide (xs = ys))) ∧ w' = w := by
  have h1 := conv_any ha
  have h2 := conv_any hb
  have HS : Hid (((strOfNums xs).toList == (strOfNums ys).toList) = decide (xs = ys)) := same_iff hx hy
  clear ha hb
  go_enter Tryd.func138, Tryd.ntmps138
  go_wp2
  go_ret
  exact ⟨ret_bool HS.out, rfl⟩

set_option maxHeartbeats 400000 in
theorem bytesEqual_any (w : World) (va vb : Value) (xs ys : List Int) (ha : Rd .u8 w va xs) (hb : Rd .u8 w vb ys) (hx : Byt xs) (hy : Byt ys) :
    Calls Tryd.prog 156 #[va, vb] w fun e w' => e = .returned (.bool (decide (xs = ys))) ∧ w' = w := by
  have h1 := conv_any ha
  have h2 := conv_any hb
  have HS : Hid (((strOfNums xs).toList == (strOfNums ys).toList) = decide (xs = ys)) := same_iff hx hy
  clear ha hb
  go_enter Tryd.func156, Tryd.ntmps156
  go_wp2
  go_ret
  exact ⟨ret_bool HS.out, rfl⟩

end Go.Proofs.YtoljmlhnbmeloaaDoor

namespace Go.Proofs.YtoljmlhnbmeloaaDoor
open Go.RowKit

def upE (ps : List Int) (q : Nat) : List Int := (List.range q).map (fun j => ((dig 7 8 ps j : Nat) : Int))
theorem upE_len (ps : List Int) (q : Nat) : (upE ps q).length = q := by simp [upE]
theorem upE_succ (ps : List Int) (q : Nat) : upE ps (q + 1) = upE ps q ++ [((dig 7 8 ps q : Nat) : Int)] := range_snoc _ q
theorem upE_all {ps : List Int} {q : Nat} (h : q = 7 * ps.length / 8) : up ps = upE ps q := by subst h; rfl

theorem u8_low7 (x : Nat) (hx : x < 256) : bits .and .u8 (x : Int) 127 = ((x % 128 : Nat) : Int) := by
  rw [show (127 : Int) = ((127 : Nat) : Int) from rfl, u8_and_nat x 127 hx (by omega), nat_mask7]

theorem reg_in7 (R x A N : Nat) (hx : x < 128) (hA : A ≤ 7) (h : R % 2 ^ A = N % 2 ^ A) :
    ∃ R' : Nat, R' < 65536 ∧ bits .or .u16 (IntKind.u16.wrap ((R : Int) * 128)) (x : Int) = (R' : Int) ∧ R' % 2 ^ (A + 7) = (N * 128 + x) % 2 ^ (A + 7) := by
  have hs := reg_step R N x A 7 16 (by omega) h
  simp only [show (2 : Nat) ^ 7 = 128 from rfl, show (2 : Nat) ^ 16 = 65536 from rfl] at hs
  refine ⟨R * 128 % 65536 + x, by omega, ?_, hs⟩
  have e : IntKind.u16.wrap ((R : Int) * 128) = ((R * 128 % 65536 : Nat) : Int) := by rw [IntKind.wrap_u16]; omega
  rw [e, u16_or_nat _ _ (by omega) (by omega), nat_join 7 (R * 128 % 65536) x (by simp only [Nat.reducePow]; omega) (by simpa using hx)]

theorem reg_out8 (xs : List Int) (R A k q : Nat) (hk : k ≤ xs.length) (hq : 8 * q + (A + 8) = 7 * k) (h : R % 2 ^ (A + 8) = numW 7 (xs.take k) % 2 ^ (A + 8)) :
    IntKind.u8.wrap ((R : Int) / 2 ^ A) = ((dig 7 8 xs q : Nat) : Int) := by
  rw [IntKind.wrap_u8', shr_cast, dig_take 7 8 xs k q hk (by omega), show 7 * k - 8 * (q + 1) = A by omega, ← reg_dig R _ A 8 h]
  simp only [Nat.reducePow]
  omega

set_option maxHeartbeats 400000 in
set_option maxRecDepth 100000 in
theorem joinGroups_row (w : World) (b o n cap : Nat) (xs : List Int) (hx : xs.length = n) (hb : b < w.heap.size) (hc : ∀ i, i < n → w.cell? ⟨b, o + i, none⟩ = some (.int .u8 (xs.getD i 0))) (hby : Byt xs) (hn : n ≤ 1099511627776) :
    Calls Tryd.prog 155 #[.slice (some ⟨b, o, none⟩) n cap] w fun e w' => ∃ v', e = .returned v' ∧ Own .u8 5 w' w.heap.size v' (up xs) ∧ Below w.heap.size w w' := by
  obtain ⟨i0, hi, hz0, hz1, hz2⟩ := info_parts Tryd.infoB
  have HC : Hid (∀ i, i < n → w.cell? ⟨b, o + i, none⟩ = some (.int .u8 (xs.getD i 0))) := hc
  have HX : Hid (xs.length = n) := hx
  clear hc hx
  go_enter Tryd.func155, Tryd.ntmps155
  go_wp2_with (at_make; go_must (refine wpList_make_own _ rfl _ _ 24 rfl w.heap.size 5 i0 (.int .u8 0) 1 Tryd.underlying24 hi hz0 hz1 _ _ _ (n * 7 / 8) rfl rfl ?b1 ?b2 ?b3 ?b4 ?_))
  case b1 => omega
  case b2 => rw [hz2]; omega
  case b3 => unfold maxLen; omega
  case b4 => exact Nat.le_refl _
  intro w1 hown hgrow
  have HO : Hid (w1.ownsRow w.heap.size 5 1 (.slice (some ⟨w.heap.size, 0, none⟩) 0 (n * 7 / 8)) 0 []) := hown
  have HG : Hid (Below w.heap.size w w1) := (Below.refl _ _).grown hgrow (Nat.le_refl _) (by simp)
  clear hown hgrow
  go_wp2
  go_loopw [3, 4, 5, 15] (fun v r a i wr => ∃ k q A R : Nat, k ≤ n ∧ i = .int .i64 k ∧ A ≤ 7 ∧ Hid (8 * q + A = 7 * k) ∧ a = .int .u8 A ∧ R < 65536 ∧ r = .int .u16 R ∧ Hid (R % 2 ^ A = numW 7 (xs.take k) % 2 ^ A) ∧
      v = .slice (some ⟨w.heap.size, 0, none⟩) q (n * 7 / 8) ∧ wr.ownsRow w.heap.size 5 1 (.slice (some ⟨w.heap.size, 0, none⟩) q (n * 7 / 8)) q ((upE xs q).map (Value.int .u8)) ∧ Below w.heap.size w wr) (fun _ _ _ i _ => n - (intOf i).toNat)
  case atStart => exact ⟨0, 0, 0, 0, Nat.zero_le _, rfl, by omega, rfl, rfl, by omega, rfl, rfl, rfl, HO.out, HG.out⟩
  case round =>
    obtain ⟨k, q, A, R, hk, rfl, hA, HQ, rfl, hR, rfl, HR, rfl, ho, hg⟩ := hrel
    by_cases hlt : k < n
    · obtain ⟨x, hx, hxe⟩ := byt_at hby k
      have hsrc : wr.cell? ⟨b, o + k, none⟩ = some (.int .u8 (x : Int)) := by rw [← hxe]; exact (hg.cell (p := ⟨b, o + k, none⟩) hb).trans (HC.out k hlt)
      have hltI : (k : Int) < (n : Int) := by omega
      have hand := u8_low7 x hx
      have HN : Hid (numW 7 (xs.take (k + 1)) = numW 7 (xs.take k) * 128 + x % 128) := by
        have := numW_take_succ 7 xs k (by rw [HX.out]; exact hlt)
        rw [hxe] at this
        show _ = _
        rw [this, Int.toNat_natCast]
      generalize hy : x % 128 = y at *
      have hy7 : y < 128 := by omega
      obtain ⟨R', hR', hreg, HR'⟩ := reg_in7 R y A (numW 7 (xs.take k)) hy7 hA HR.out
      rw [← HN.out] at HR'
      have HR2 : Hid (R' % 2 ^ (A + 7) = numW 7 (xs.take (k + 1)) % 2 ^ (A + 7)) := HR'
      have HQ2 : Hid (8 * q + (A + 7) = 7 * (k + 1)) := by have := HQ.out; show _ = _; omega
      clear hxe HR' HR HN HQ hy
      by_cases h8 : 1 ≤ A
      · obtain ⟨A2, rfl⟩ : ∃ A2, A = A2 + 1 := ⟨A - 1, by omega⟩
        have h8I : (8 : Int) ≤ ((A2 + 1 : Nat) : Int) + 7 := by omega
        have HD : Hid (IntKind.u8.wrap ((R' : Int) / 2 ^ A2) = ((dig 7 8 xs q : Nat) : Int)) := reg_out8 xs R' A2 (k + 1) q (by rw [HX.out]; omega) (by have := HQ2.out; omega) HR2.out
        have hcap : q + 1 ≤ n * 7 / 8 := by have := HQ2.out; omega
        go_wp2_with (at_builtin; go_must (refine wpList_append_fits _ rfl _ _ 24 rfl w.heap.size 5 i0 1 Tryd.underlying24 hi hz1 w.heap.size q (n * 7 / 8) _ rfl (ho.alloc _) ⟨wr.heap.size, 0, none⟩ 1 1 [.int .u8 (IntKind.u8.wrap ((R' : Int) / 2 ^ A2))] rfl rfl (cell_one_new _ _ _) (by intro u hu; simp at hu; subst hu; rfl) hcap ?_))
        intro w2 ho2 hg2
        have HO2 : Hid (w2.ownsRow w.heap.size 5 1 (.slice (some ⟨w.heap.size, 0, none⟩) (q + 1) (n * 7 / 8)) (q + 1) ((upE xs (q + 1)).map (Value.int .u8))) := by
          rw [HD.out] at ho2; show World.ownsRow _ _ _ _ _ _ _; rw [upE_succ, List.map_append]; exact ho2
        have HG2 : Hid (Below w.heap.size w w2) := (hg.alloc (hg.size) _).grown hg2 (by have := hg.size; simp; omega) (by intro k hk; simp at hk; omega)
        clear ho2 hg2 ho hg
        go_wp2
        go_roundw
        case rel => exact ⟨k + 1, q + 1, A2, R', by omega, by go_num, by omega, (by have := HQ2.out; show _ = _; omega), by go_num, hR', rfl, mod_low (by omega) HR2.out, rfl, HO2.out, HG2.out⟩
        case measure => simp [intOf]; omega
      · have hA0 : A = 0 := by omega
        subst hA0
        go_wp2
        go_roundw
        case rel => exact ⟨k + 1, q, 7, R', by omega, by go_num, by omega, HQ2, by go_num, hR', rfl, HR2, rfl, ho, hg⟩
        case measure => simp [intOf]; omega
    · have hkn : k = n := by omega
      subst hkn
      go_wp2
      go_ret
      exact ⟨_, rfl, own_of (upE_len xs q) (upE_all (by rw [HX.out]; have := HQ.out; omega)) ho, hg⟩

set_option maxHeartbeats 400000 in
theorem joinGroups_nil (w : World) (ao : Option Addr) (cap : Nat) :
    Calls Tryd.prog 155 #[.slice ao 0 cap] w fun e w' => ∃ v', e = .returned v' ∧ Own .u8 5 w' w.heap.size v' [] ∧ Below w.heap.size w w' := by
  obtain ⟨i0, hi, hz0, hz1, hz2⟩ := info_parts Tryd.infoB
  go_enter Tryd.func155, Tryd.ntmps155
  go_wp2_with (at_make; go_must (refine wpList_make_own _ rfl _ _ 24 rfl w.heap.size 5 i0 (.int .u8 0) 1 Tryd.underlying24 hi hz0 hz1 _ _ _ 0 rfl rfl ?b1 ?b2 ?b3 ?b4 ?_))
  case b1 => rfl
  case b2 => rw [hz2]; omega
  case b3 => unfold maxLen; omega
  case b4 => exact Nat.le_refl _
  intro w1 hown hgrow
  have HO : Hid (w1.ownsRow w.heap.size 5 1 (.slice (some ⟨w.heap.size, 0, none⟩) 0 0) 0 []) := hown
  have HG : Hid (Below w.heap.size w w1) := (Below.refl _ _).grown hgrow (Nat.le_refl _) (by simp)
  clear hown hgrow
  go_wp2
  go_rounds 1
  go_ret
  exact ⟨_, rfl, HO.out, HG.out⟩

theorem joinGroups_any (w : World) (v : Value) (xs : List Int) (h : Rd .u8 w v xs) (hby : Byt xs) (hn : xs.length ≤ 1099511627776) :
    Calls Tryd.prog 155 #[v] w fun e w' => ∃ v', e = .returned v' ∧ Own .u8 5 w' w.heap.size v' (up xs) ∧ Below w.heap.size w w' := by
  obtain ⟨ao, cap, rfl, h1, h2, h3⟩ := h
  rcases h3 with rfl | ⟨b, o, rfl, hb, hc⟩
  · exact joinGroups_nil w ao cap
  · exact joinGroups_row w b o xs.length cap xs rfl hb hc hby hn

end Go.Proofs.YtoljmlhnbmeloaaDoor

namespace Go.Proofs.YtoljmlhnbmeloaaDoor
open Go.RowKit

def unp (ps : List Int) : List Int := if pk (up ps) = ps then up ps else []

theorem byt_pk (xs : List Int) : Byt (pk xs) := fun x hx => by have := pk_range xs x hx; omega
theorem byt_up (xs : List Int) : Byt (up xs) := fun x hx => by have := up_range xs x hx; omega

theorem bcell {W w1 : World} (hb : Below W.heap.size W w1) : (∀ b o, b < W.heap.size → w1.cell? ⟨b, o, none⟩ = W.cell? ⟨b, o, none⟩) ∧ (∀ b o, b < W.heap.size → w1.frozen? ⟨b, o, none⟩ = W.frozen? ⟨b, o, none⟩) :=
  ⟨fun b o h => hb.cell (p := ⟨b, o, none⟩) h, fun b o h => hb.frozen (p := ⟨b, o, none⟩) h⟩

/-- A new block of one cell, in every later world. -/
theorem box_later {w w1 : World} {x : Value} {t : TypeId} (hb : Below (w.alloc (.cells #[x] t)).heap.size (w.alloc (.cells #[x] t)) w1) :
    w1.cell? ⟨w.heap.size, 0, none⟩ = some x ∧ w1.frozen? ⟨w.heap.size, 0, none⟩ = false ∧ w.heap.size < w1.heap.size := by
  obtain ⟨hc, hf⟩ := bcell hb
  have hs := hb.size
  simp at hs
  refine ⟨?_, ?_, by omega⟩
  · rw [hc _ _ (by simp)]; simp
  · rw [hf _ _ (by simp)]; simp

theorem Own.setBelow {k : IntKind} {e : TypeId} {w : World} {base : Nat} {v : Value} {xs : List Int} (h : Own k e w base v xs) {a : Addr} (ha : a.block < base) (u : Value) : Own k e (w.setCell a u) base v xs := ownsRow_setCell_below h ha u

set_option maxHeartbeats 400000 in
set_option maxRecDepth 100000 in
theorem implUnpack_any (w : World) (v : Value) (xs : List Int) (h : Rd .u8 w v xs) (hby : Byt xs) (hn : xs.length ≤ 1099511627776) :
    Calls Tryd.prog 139 #[v] w fun e w' => ∃ v', e = .returned (.agg #[v']) ∧ Own .u8 5 w' w.heap.size v' (unp xs) ∧ Below w.heap.size w w' := by
  have B0 : Hid (Below w.heap.size w (w.alloc (.cells #[.slice none 0 0] 111))) := (Below.refl _ _).alloc (Nat.le_refl _) _
  have R0 : Hid (Rd .u8 (w.alloc (.cells #[.slice none 0 0] 111)) v xs) := h.below B0.out
  have hul : (up xs).length ≤ 1099511627776 := by rw [up_length]; omega
  have HUL : Hid ((up xs).length ≤ 1099511627776) := hul
  clear h hul
  go_enter Tryd.func139, Tryd.ntmps139
  go_wp2_with fail
  refine (joinGroups_any _ _ xs R0.out hby hn).mono ?_
  rintro e w1 ⟨v1, rfl, o1, b1⟩
  have O1 : Hid (Own .u8 5 w1 (w.heap.size + 1) v1 (up xs)) := by have := o1; simp at this; exact this
  have B1 : Hid (Below (w.alloc (.cells #[.slice none 0 0] 111)).heap.size (w.alloc (.cells #[.slice none 0 0] 111)) w1) := b1
  clear o1 b1
  go_wp2_with fail
  refine (implPack_any _ _ (up xs) O1.out.rd (byt_up xs) HUL.out).mono ?_
  rintro e w2 ⟨v2, rfl, o2, b2⟩
  have O2 : Hid (Own .u8 5 w2 w1.heap.size v2 (pk (up xs))) := o2
  have s1 := B1.out.size
  have B2 : Hid (Below (w.alloc (.cells #[.slice none 0 0] 111)).heap.size (w.alloc (.cells #[.slice none 0 0] 111)) w2) := B1.out.trans (b2.mono s1)
  have O12 : Hid (Own .u8 5 w2 (w.heap.size + 1) v1 (up xs)) := O1.out.below b2
  clear o2 b2 O1
  go_wp2_with fail
  refine (bytesEqual_any _ _ _ (pk (up xs)) xs O2.out.rd (R0.out.below B2.out) (byt_pk _) hby).mono ?_
  rintro e w2 ⟨rfl, rfl⟩
  obtain ⟨c1, f1, z1⟩ := box_later B2.out
  have BW : Hid (Below w.heap.size w w2) := B0.out.trans (B2.out.mono (by simp))
  clear s1
  by_cases he : pk (up xs) = xs
  · have hd : decide (pk (up xs) = xs) = true := by simp [he]
    have HU : Hid (unp xs = up xs) := if_pos he
    rw [hd]
    clear he hd
    obtain ⟨ao1, cp1, rfl, _, _⟩ := O12.out.rd.len
    go_wp2
    refine bodyPost_ret (v := .agg #[.slice ao1 (up xs).length cp1]) (by simp [results, Tryd.results139, go_sem, c1]) rfl ⟨.slice ao1 (up xs).length cp1, rfl, ?_, ?_⟩
    · rw [HU.out]
      exact (Own.setBelow O12.out (a := ⟨w.heap.size, 0, none⟩) (by simp) _).mono (by omega)
    · exact BW.out.setCell (Nat.le_refl _) _
  · have hd : decide (pk (up xs) = xs) = false := by simp [he]
    have HU : Hid (unp xs = []) := if_neg he
    rw [hd]
    clear he hd
    go_wp2
    refine bodyPost_ret (v := .agg #[.slice none 0 0]) (by simp [results, Tryd.results139, go_sem, c1]) rfl ⟨.slice none 0 0, rfl, ?_, ?_⟩
    · rw [HU.out]
      exact World.ownsRow_nil _ _ _ _
    · exact BW.out.setCell (Nat.le_refl _) _

/-! ### the groups of eight bits -/
def g8 (xs : List Int) (q t : Nat) : Nat := numW 7 xs / 2 ^ (7 * xs.length - (8 * q + t)) % 2 ^ t
theorem g8_zero (xs : List Int) (q : Nat) : g8 xs q 0 = 0 := by unfold g8; simp [Nat.mod_one]
theorem g8_in (xs : List Int) (q t : Nat) (h : 8 * q + t < 7 * xs.length) : g8 xs q (t + 1) = 2 * g8 xs q t + dig 7 1 xs (8 * q + t) := by
  unfold g8 dig
  have e : 7 * xs.length - (8 * q + t) = 7 * xs.length - (8 * q + (t + 1)) + 1 := by omega
  rw [e, show 2 ^ (7 * xs.length - (8 * q + (t + 1)) + 1) = 2 ^ (7 * xs.length - (8 * q + (t + 1))) * 2 from Nat.pow_succ _ _, ← Nat.div_div_eq_div_mul, show 7 * xs.length - 1 * (8 * q + t + 1) = 7 * xs.length - (8 * q + (t + 1)) by omega, Nat.pow_one]
  generalize numW 7 xs / 2 ^ (7 * xs.length - (8 * q + (t + 1))) = X
  rw [Nat.pow_succ, Nat.mul_comm (2 ^ t) 2, Nat.mod_mul]
  omega
theorem g8_le (xs : List Int) (q t : Nat) (ht : t ≤ 8) : g8 xs q t ≤ 255 := by
  have h : g8 xs q t < 2 ^ t := Nat.mod_lt _ (pow_pos2 t)
  have h2 : 2 ^ t ≤ 2 ^ 8 := Nat.pow_le_pow_right (by omega) ht
  simp only [Nat.reducePow] at h2
  omega
theorem g8_dig (xs : List Int) (q : Nat) : g8 xs q 8 = dig 7 8 xs q := by unfold g8 dig; rw [show 8 * q + 8 = 8 * (q + 1) by omega]

set_option maxHeartbeats 800000 in
set_option maxRecDepth 100000 in
theorem specUnpack_any (w : World) (v : Value) (xs : List Int) (h : Rd .u8 w v xs) (hby : Byt xs) (hn : xs.length ≤ 1099511627776) :
    Calls Tryd.prog 104 #[v] w fun e w' => ∃ v', e = .returned (.agg #[v']) ∧ Own .u8 5 w' w.heap.size v' (unp xs) ∧ Below w.heap.size w w' := by
  obtain ⟨i0, hi, hz0, hz1, hz2⟩ := info_parts Tryd.infoB
  have B0 : Hid (Below w.heap.size w (w.alloc (.cells #[.slice none 0 0] 111))) := (Below.refl _ _).alloc (Nat.le_refl _) _
  have R0 : Hid (Rd .u8 (w.alloc (.cells #[.slice none 0 0] 111)) v xs) := h.below B0.out
  have hul : (up xs).length ≤ 1099511627776 := by rw [up_length]; omega
  have HUL : Hid ((up xs).length ≤ 1099511627776) := hul
  clear h hul
  go_enter Tryd.func104, Tryd.ntmps104
  go_wp2_with fail
  refine (l2Bits_any _ _ xs 7 R0.out hby hn (by omega)).mono ?_
  rintro e w1 ⟨vb, rfl, hob, hb1⟩
  obtain ⟨ao, cap, rfl, h1, h2, h3⟩ := hob.rd
  rw [bitsL_len] at h1 h3 ⊢
  have h3' : xs.length = 0 ∨ ∃ b o, ao = some ⟨b, o, none⟩ ∧ b < w1.heap.size ∧ Hid (∀ i, i < 7 * xs.length → w1.cell? ⟨b, o + i, none⟩ = some (.int .i64 ((dig 7 1 xs i : Nat) : Int))) := by
    rcases h3 with h3 | ⟨b, o, rfl, hlt1, hc1⟩
    · left; have := congrArg List.length h3; rw [bitsL_len] at this; simp at this; omega
    · exact .inr ⟨b, o, rfl, hlt1, fun i hi => by rw [hc1 i hi, bitsL_getD _ _ _ _ hi]⟩
  have HB1 : Hid (Below (w.alloc (.cells #[.slice none 0 0] 111)).heap.size (w.alloc (.cells #[.slice none 0 0] 111)) w1) := hb1
  generalize hnn : xs.length = n at *
  have HN : Hid (xs.length = n) := hnn
  have hsz := hb1.size
  have H3 : Hid (n = 0 ∨ ∃ b o, ao = some ⟨b, o, none⟩ ∧ b < w1.heap.size ∧ Hid (∀ i, i < 7 * n → w1.cell? ⟨b, o + i, none⟩ = some (.int .i64 ((dig 7 1 xs i : Nat) : Int)))) := h3'
  clear hnn hob hb1 h3 h2 h3'
  go_wp2
  go_loopw [4, 5] (fun v i wr => ∃ q : Nat, 8 * q ≤ 7 * n ∧ i = .int .i64 (8 * q) ∧ wr.ownsRow w1.heap.size 5 1 v q ((upE xs q).map (Value.int .u8)) ∧ Below w1.heap.size w1 wr) (fun _ i _ => 7 * n + 8 - (intOf i).toNat)
  case atStart => exact ⟨0, by omega, rfl, World.ownsRow_lit w1 #[] 0 (Nat.le_refl _) (Nat.zero_le _) rfl, (Below.refl _ _).alloc (Nat.le_refl _) _⟩
  case round =>
    obtain ⟨q, hq, rfl, ho, hg⟩ := hrel
    by_cases hlt : 8 * q + 8 ≤ 7 * n
    · have hltI : 8 * (q : Int) + 8 ≤ 7 * (n : Int) := by omega
      rcases H3.out with h0 | ⟨b, o, rfl, hlt1, HC⟩
      · omega
      clear H3
      go_wp2
      go_loop [6, 7] (fun v j => ∃ t V : Nat, t ≤ 8 ∧ j = .int .i64 (8 * (q : Int) + t) ∧ V ≤ 255 ∧ v = .int .i64 V ∧ Hid (V = g8 xs q t)) (fun _ j => (8 * (q : Int) + 8 - intOf j).toNat)
      case atStart => exact ⟨0, 0, by omega, by go_num, by omega, rfl, (g8_zero xs q).symm⟩
      case round =>
        obtain ⟨t, V, ht, rfl, hV, rfl, HV⟩ := hrel
        by_cases ht8 : t < 8
        · have hjI : 8 * (q : Int) + (t : Int) < 8 * (q : Int) + 8 := by omega
          have hin : 8 * q + t < 7 * n := by omega
          have hinI : 8 * (q : Int) + (t : Int) < 7 * (n : Int) := by omega
          have hgs := g8_in xs q t (by rw [HN.out]; exact hin)
          have hgl := g8_le xs q (t + 1) (by omega)
          have hsrc : wr.cell? ⟨b, o + (8 * q + t), none⟩ = some (.int .i64 ((dig 7 1 xs (8 * q + t) : Nat) : Int)) := (hg.cell (p := ⟨b, o + (8 * q + t), none⟩) hlt1).trans (HC.out _ hin)
          rw [← HV.out] at hgs
          generalize hD : dig 7 1 xs (8 * q + t) = D at *
          have hb : 2 * V + D ≤ 255 := by omega
          have HGS : Hid (2 * V + D = g8 xs q (t + 1)) := hgs.symm
          clear hgs hgl hD
          go_wp2
          go_round
          case rel => exact ⟨t + 1, 2 * V + D, by omega, by go_num, hb, by go_num, HGS.out⟩
          case measure => simp [intOf]; omega
        · have ht9 : t = 8 := by omega
          subst ht9
          have HL : Hid (q + 1 ≤ 8796093022208) := by show _ ≤ _; omega
          go_wp2_with (at_builtin; go_must (refine wpList_append_own _ rfl _ _ 24 rfl w1.heap.size 5 i0 (.int .u8 0) 1 1 Tryd.underlying24 hi hz0 hz1 hz2 rfl (by decide) _ _ _ rfl (ho.alloc _) ⟨wr.heap.size, 0, none⟩ 1 1 [.int .u8 (V : Int)] rfl rfl (cell_one_new _ _ _) (by intro u hu; simp at hu; subst hu; rfl) ?c3 ?c4 ?c5 ?_))
          case c3 => have := HL.out; unfold maxLen; omega
          case c4 => have := HL.out; omega
          case c5 => have := hg.size; simp; omega
          intro v2 w2 ho2 hg2 _
          have HO2 : Hid (w2.ownsRow w1.heap.size 5 1 v2 (q + 1) ((upE xs (q + 1)).map (Value.int .u8))) := by
            rw [HV.out, g8_dig] at ho2; show World.ownsRow _ _ _ _ _ _ _; rw [upE_succ, List.map_append]; exact ho2
          have HG2 : Hid (Below w1.heap.size w1 w2) := (hg.alloc (hg.size) _).grown hg2 (by have := hg.size; simp; omega) (fun q hq => (ho.lt q hq).1)
          clear ho2 hg2 ho hg
          go_wp2
          go_roundw
          case rel => exact ⟨q + 1, by omega, by go_num, HO2.out, HG2.out⟩
          case measure => simp [intOf]; omega
    · have hltI : ¬ 8 * (q : Int) + 8 ≤ 7 * (n : Int) := by omega
      have O1 : Hid (Own .u8 5 wr w1.heap.size u4 (up xs)) := own_of (upE_len xs q) (upE_all (by rw [HN.out]; omega)) ho
      have BG : Hid (Below w1.heap.size w1 wr) := hg
      clear ho hg H3
      go_wp2_with fail
      refine (specPack_any _ _ (up xs) O1.out.rd (byt_up xs) HUL.out).mono ?_
      rintro e w2 ⟨v2, rfl, o2, b2⟩
      have O2 : Hid (Own .u8 5 w2 wr.heap.size v2 (pk (up xs))) := o2
      have sg := BG.out.size
      have B2 : Hid (Below (w.alloc (.cells #[.slice none 0 0] 111)).heap.size (w.alloc (.cells #[.slice none 0 0] 111)) w2) := (HB1.out.trans (BG.out.mono hsz)).trans (b2.mono (Nat.le_trans hsz sg))
      have O12 : Hid (Own .u8 5 w2 w1.heap.size u4 (up xs)) := O1.out.below b2
      clear o2 b2 O1
      go_wp2_with fail
      refine (sameBytes_any _ _ _ (pk (up xs)) xs O2.out.rd (R0.out.below B2.out) (byt_pk _) hby).mono ?_
      rintro e w2 ⟨rfl, rfl⟩
      obtain ⟨c1, f1, z1⟩ := box_later B2.out
      have BW : Hid (Below w.heap.size w w2) := B0.out.trans (B2.out.mono (by simp))
      have hsz' : w.heap.size < w1.heap.size := by simp at hsz; omega
      clear sg hsz
      by_cases he : pk (up xs) = xs
      · have hd : decide (pk (up xs) = xs) = true := by simp [he]
        have HU : Hid (unp xs = up xs) := if_pos he
        rw [hd]
        clear he hd
        obtain ⟨ao1, cp1, rfl, _, _⟩ := O12.out.rd.len
        go_wp2
        refine bodyPost_ret (v := .agg #[.slice ao1 (up xs).length cp1]) (by simp [results, Tryd.results104, go_sem, c1]) rfl ⟨.slice ao1 (up xs).length cp1, rfl, ?_, ?_⟩
        · rw [HU.out]
          exact (Own.setBelow O12.out (a := ⟨w.heap.size, 0, none⟩) hsz' _).mono (by omega)
        · exact BW.out.setCell (Nat.le_refl _) _
      · have hd : decide (pk (up xs) = xs) = false := by simp [he]
        have HU : Hid (unp xs = []) := if_neg he
        rw [hd]
        clear he hd
        go_wp2
        refine bodyPost_ret (v := .agg #[.slice none 0 0]) (by simp [results, Tryd.results104, go_sem, c1]) rfl ⟨.slice none 0 0, rfl, ?_, ?_⟩
        · rw [HU.out]
          exact World.ownsRow_nil _ _ _ _
        · exact BW.out.setCell (Nat.le_refl _) _

end Go.Proofs.YtoljmlhnbmeloaaDoor

namespace Go.Proofs.YtoljmlhnbmeloaaDoor
open Go.RowKit

/-- A row of another block is not the row that was written. -/
theorem own_ne {k : IntKind} {e e' : TypeId} {w w' : World} {B B' : Nat} {v v' : Value} {xs xs' : List Int} (h : Own k e w B v xs) (h' : Own k e' w' B' v' xs') (hlt : w.heap.size ≤ B') : v.ownBlock = none ∨ v.ownBlock ≠ v'.ownBlock := by
  cases hv : v.ownBlock with
  | none => exact .inl rfl
  | some g =>
    refine .inr fun e => ?_
    have h1 := (h.lt g hv).2
    have h2 := (h'.lt g e.symm).1
    omega

theorem own_ne' {k : IntKind} {e e' : TypeId} {w w' : World} {B B' : Nat} {v v' : Value} {xs xs' : List Int} (h : Own k e w B v xs) (h' : Own k e' w' B' v' xs') (hlt : w.heap.size ≤ B') : v'.ownBlock = none ∨ v'.ownBlock ≠ v.ownBlock := by
  cases hv : v'.ownBlock with
  | none => exact .inl rfl
  | some g =>
    refine .inr fun e => ?_
    have h1 := (h.lt g e.symm).2
    have h2 := (h'.lt g hv).1
    omega


end Go.Proofs.YtoljmlhnbmeloaaDoor

namespace Go.Proofs.YtoljmlhnbmeloaaDoor
open Go.RowKit




/-- A local struct of one cell. -/
def Box (w : World) (b : Nat) (v : Value) : Prop := b < w.heap.size ∧ w.cell? ⟨b, 0, none⟩ = some v
theorem Box.below {w w' : World} {b : Nat} {v : Value} (h : Box w b v) (hb : Below w.heap.size w w') : Box w' b v :=
  ⟨Nat.lt_of_lt_of_le h.1 hb.size, (hb.cell (p := ⟨b, 0, none⟩) h.1).trans h.2⟩
theorem Box.other {w w' : World} {b : Nat} {v : Value} {row : Option Nat} (h : Box w b v) (hg : w.grownBy w' row) (hne : some b ≠ row) : Box w' b v :=
  ⟨Nat.lt_of_lt_of_le h.1 hg.size, hg.cell h.2 hne⟩
theorem Box.new (w : World) (v : Value) (t : TypeId) : Box (w.alloc (.cells #[v] t)) w.heap.size v := ⟨by simp, by simp⟩
theorem Box.drewN {w : World} {b : Nat} {v : Value} (h : Box w b v) (n : Nat) : Box (w.drewN n) b v := h

/-- A block made behind a row is not that row; nor one made ahead of it. -/
theorem own_box {k : IntKind} {e : TypeId} {w : World} {B b : Nat} {v : Value} {xs : List Int} (h : Own k e w B v xs) (hb : w.heap.size ≤ b) : some b ≠ v.ownBlock := by
  intro e; have := (h.lt b e.symm).2; omega
theorem box_own {k : IntKind} {e : TypeId} {w : World} {B b : Nat} {v : Value} {xs : List Int} (h : Own k e w B v xs) (hb : b < B) : some b ≠ v.ownBlock := by
  intro e; have := (h.lt b e.symm).1; omega

end Go.Proofs.YtoljmlhnbmeloaaDoor

namespace Go.Proofs.YtoljmlhnbmeloaaDoor
open Go.RowKit

def zeros (n : Nat) : List Int := List.replicate n 0
theorem zeros_len (n : Nat) : (zeros n).length = n := by simp [zeros]

/-- How many bytes a new disk has. -/
def ndl (k : Int) : Nat := if 1 ≤ k ∧ k ≤ 300 then k.toNat * 64 else 0

theorem box2_later {w w1 : World} {x y : Value} {t : TypeId} (hb : Below (w.alloc (.cells #[x, y] t)).heap.size (w.alloc (.cells #[x, y] t)) w1) :
    w1.cell? ⟨w.heap.size, 0, none⟩ = some x ∧ w1.cell? ⟨w.heap.size, 1, none⟩ = some y ∧ w1.frozen? ⟨w.heap.size, 0, none⟩ = false ∧ w1.frozen? ⟨w.heap.size, 1, none⟩ = false ∧ w.heap.size < w1.heap.size := by
  obtain ⟨hc, hf⟩ := bcell hb
  have hs := hb.size
  simp at hs
  refine ⟨?_, ?_, ?_, ?_, by omega⟩
  · rw [hc _ _ (by simp)]; simp
  · rw [hc _ _ (by simp)]; simp
  · rw [hf _ _ (by simp)]; simp
  · rw [hf _ _ (by simp)]; simp

set_option maxHeartbeats 400000 in
set_option maxRecDepth 100000 in
theorem implNewDisk_any (w : World) (k : Int) :
    Calls Tryd.prog 40 #[.int .i64 k] w fun e w' => ∃ v', e = .returned (.agg #[v', .slice none 0 0]) ∧ Own .u8 5 w' w.heap.size v' (zeros (ndl k)) ∧ Below w.heap.size w w' := by
  obtain ⟨i0, hi, hz0, hz1, hz2⟩ := info_parts Tryd.infoB
  by_cases h1 : k < 1
  · have e : ndl k = 0 := if_neg (by omega)
    rw [e]
    go_enter Tryd.func40, Tryd.ntmps40
    go_wp2
    exact bodyPost_ret (v := .agg #[.slice none 0 0, .slice none 0 0]) (by simp [results, Tryd.results40, go_sem]) rfl ⟨_, rfl, World.ownsRow_nil _ _ _ _, (Below.refl _ _).alloc (Nat.le_refl _) _⟩
  · by_cases h2 : 300 < k
    · have e : ndl k = 0 := if_neg (by omega)
      rw [e]
      go_enter Tryd.func40, Tryd.ntmps40
      go_wp2
      exact bodyPost_ret (v := .agg #[.slice none 0 0, .slice none 0 0]) (by simp [results, Tryd.results40, go_sem]) rfl ⟨_, rfl, World.ownsRow_nil _ _ _ _, (Below.refl _ _).alloc (Nat.le_refl _) _⟩
    · obtain ⟨n, rfl⟩ : ∃ n : Nat, k = (n : Int) := ⟨k.toNat, by omega⟩
      have e : ndl (n : Int) = n * 64 := by unfold ndl; rw [if_pos (by omega), Int.toNat_natCast]
      rw [e]
      clear e
      go_enter Tryd.func40, Tryd.ntmps40
      go_wp2_with (at_make; go_must (refine wpList_make_full _ rfl _ _ 24 rfl (w.heap.size + 1) 5 i0 (.int .u8 0) 1 Tryd.underlying24 hi hz0 hz1 _ _ _ _ (n * 64) rfl rfl ?a1 ?a2 ?b2 ?b3 ?b4 ?_))
      case b2 => omega
      case b3 => unfold maxLen; omega
      intro w1 hown hgrow
      have B1 : Below (w.alloc (.cells #[.slice none 0 0, .slice none 0 0] 27)).heap.size (w.alloc (.cells #[.slice none 0 0, .slice none 0 0] 27)) w1 := (Below.refl _ _).grown hgrow (Nat.le_refl _) (by simp)
      obtain ⟨c0, c1, f0, f1, z1⟩ := box2_later B1
      have HB : Hid (Below w.heap.size w w1) := ((Below.refl _ _).alloc (Nat.le_refl _) _).trans (B1.mono (by simp))
      have HO : Hid (Own .u8 5 w1 (w.heap.size + 1) (.slice (some ⟨w.heap.size + 1, 0, none⟩) (n * 64) (n * 64)) (List.replicate (n * 64) 0)) := own_zeros (by simpa using hown)
      clear hown hgrow B1
      go_wp2
      refine bodyPost_ret (v := .agg #[.slice (some ⟨w.heap.size + 1, 0, none⟩) (n * 64) (n * 64), .slice none 0 0]) (by simp [results, Tryd.results40, go_sem, c0, c1]) rfl ⟨_, rfl, ?_, ?_⟩
      · exact (Own.setBelow (Own.setBelow HO.out (a := ⟨w.heap.size, 0, none⟩) (by simp) _) (a := ⟨w.heap.size, 1, none⟩) (by simp) _).mono (by omega)
      · exact (HB.out.setCell (Nat.le_refl _) _).setCell (Nat.le_refl _) _


set_option maxHeartbeats 400000 in
theorem eqWriteS_nil (w : World) (ao bo : Option Addr) (ca cb : Nat) :
    Calls Tryd.prog 48 #[.slice ao 0 ca, .slice bo 0 cb] w fun e w' => e = .returned (.bool true) ∧ w' = w := by
  go_enter Tryd.func48, Tryd.ntmps48
  go_wp2
  go_rounds 1
  go_ret
  exact ⟨rfl, rfl⟩

set_option maxHeartbeats 400000 in
theorem markWriteS_nil (w : World) (ao : Option Addr) (ca : Nat) (k : Int) :
    Calls Tryd.prog 49 #[.slice ao 0 ca, .int .i64 k] w fun e w' => e = .returned (.int .i64 k) ∧ w' = w := by
  go_enter Tryd.func49, Tryd.ntmps49
  go_wp2
  go_rounds 1
  go_ret
  exact ⟨rfl, rfl⟩

set_option maxHeartbeats 400000 in
theorem heldWriteS_nil (w : World) (ao : Option Addr) (ca : Nat) (k : Int) :
    Calls Tryd.prog 51 #[.slice ao 0 ca, .int .i64 k] w fun e w' => e = .returned (.int .i64 k) ∧ w' = w := by
  go_enter Tryd.func51, Tryd.ntmps51
  go_wp2
  go_rounds 1
  go_ret
  exact ⟨rfl, rfl⟩

set_option maxHeartbeats 400000 in
theorem eqDisk_nil (w : World) (va vb : Value) (xs ys : List Int) (ao bo : Option Addr) (ca cb : Nat) (ha : Rd .u8 w va xs) (hb : Rd .u8 w vb ys) :
    Calls Tryd.prog 9 #[.agg #[va, .slice ao 0 ca], .agg #[vb, .slice bo 0 cb]] w fun e w' => e = .returned (.bool (decide (xs = ys))) ∧ Below w.heap.size w w' := by
  have B0 : Hid (Below w.heap.size w ((w.alloc (.cells #[va, .slice ao 0 ca] 27)).alloc (.cells #[vb, .slice bo 0 cb] 27))) := ((Below.refl _ _).alloc (Nat.le_refl _) _).alloc (by simp) _
  have RA : Hid (Rd .u8 ((w.alloc (.cells #[va, .slice ao 0 ca] 27)).alloc (.cells #[vb, .slice bo 0 cb] 27)) va xs) := ha.below B0.out
  have RB : Hid (Rd .u8 ((w.alloc (.cells #[va, .slice ao 0 ca] 27)).alloc (.cells #[vb, .slice bo 0 cb] 27)) vb ys) := hb.below B0.out
  clear ha hb
  go_enter Tryd.func9, Tryd.ntmps9
  go_wp2_with fail
  refine (eqByteS_any _ _ _ xs ys RA.out RB.out).mono ?_
  rintro e w1 ⟨rfl, q1, rfl⟩
  have BE : Hid (Below w.heap.size w (((w.alloc (.cells #[va, .slice ao 0 ca] 27)).alloc (.cells #[vb, .slice bo 0 cb] 27)).drewN q1)) := B0.out.trans ((below_drewN' _ q1).mono (by simp; omega))
  by_cases h : xs = ys
  · have hd : decide (xs = ys) = true := by simp [h]
    rw [hd]
    clear h
    go_wp2_with fail
    refine (eqWriteS_nil _ _ _ _ _).mono ?_
    rintro e w2 ⟨rfl, hw⟩
    subst hw
    go_wp2
    go_ret
    exact ⟨ret_bool hd.symm, BE.out⟩
  · have hd : decide (xs = ys) = false := by simp [h]
    rw [hd]
    clear h
    go_wp2
    go_ret
    exact ⟨ret_bool hd.symm, BE.out⟩

set_option maxHeartbeats 400000 in
theorem markDisk_nil (w : World) (base : Nat) (v : Value) (xs : List Int) (ao : Option Addr) (ca : Nat) (k : Int) (hown : Own .u8 5 w base v xs) (hk0 : 0 ≤ k) (hk1 : k ≤ 1099511627776) (hn : xs.length ≤ 1099511627776) :
    Calls Tryd.prog 10 #[.agg #[v, .slice ao 0 ca], .int .i64 k] w fun e w' => e = .returned (.int .i64 (k + xs.length)) ∧ Own .u8 5 w' base v (marks k xs.length) ∧ w.grownBy w' v.ownBlock := by
  have HO : Hid (Own .u8 5 (w.alloc (.cells #[v, .slice ao 0 ca] 27)) base v xs) := World.ownsRow.alloc hown _
  have NB : Hid (some w.heap.size ≠ v.ownBlock) := own_box hown (Nat.le_refl _)
  clear hown
  go_enter Tryd.func10, Tryd.ntmps10
  go_wp2_with fail
  refine (markByteS_any _ base _ xs k HO.out hk0 hk1 hn).mono ?_
  rintro e w1 ⟨rfl, o1, g1⟩
  have O1 : Hid (Own .u8 5 w1 base v (marks k xs.length)) := o1
  have G1 : Hid (w.grownBy w1 v.ownBlock) := ⟨g1.os, g1.tape, g1.output, by have := g1.size; simp at this; omega, fun j hj hne => (g1.block j (by simp; omega) hne).trans (Below.heap_alloc _ _ _ hj)⟩
  have c1 : w1.cell? ⟨w.heap.size, 1, none⟩ = some (.slice ao 0 ca) := g1.cell (a := ⟨w.heap.size, 1, none⟩) (by simp) NB.out
  clear o1 g1
  go_wp2_with fail
  refine (markWriteS_nil _ _ _ _).mono ?_
  rintro e w2 ⟨rfl, hw⟩
  subst hw
  go_wp2
  go_ret
  exact ⟨rfl, O1.out, G1.out⟩

set_option maxHeartbeats 400000 in
theorem heldDisk_nil (w : World) (v : Value) (n : Nat) (ao : Option Addr) (ca : Nat) (k : Int) (h : Rd .u8 w v (marks k n)) (hk0 : 0 ≤ k) (hk1 : k ≤ 1099511627776) (hn : n ≤ 1099511627776) :
    Calls Tryd.prog 11 #[.agg #[v, .slice ao 0 ca], .int .i64 k] w fun e w' => e = .returned (.int .i64 (k + n)) ∧ Below w.heap.size w w' := by
  have HR : Hid (Rd .u8 (w.alloc (.cells #[v, .slice ao 0 ca] 27)) v (marks k n)) := h.below ((Below.refl _ _).alloc (Nat.le_refl _) _)
  clear h
  go_enter Tryd.func11, Tryd.ntmps11
  go_wp2_with fail
  refine (heldByteS_any _ _ n k HR.out hk0 hk1 hn).mono ?_
  rintro e w1 ⟨rfl, hw⟩
  subst hw
  have h0 : ¬ (k + (n : Int)) < 0 := by omega
  go_wp2_with fail
  refine (heldWriteS_nil _ _ _ _).mono ?_
  rintro e w2 ⟨rfl, hw⟩
  subst hw
  go_wp2
  go_ret
  exact ⟨rfl, (Below.refl _ _).alloc (Nat.le_refl _) _⟩

end Go.Proofs.YtoljmlhnbmeloaaDoor

namespace Go.Proofs.YtoljmlhnbmeloaaDoor
open Go.RowKit

/-- A local struct of two cells. -/
def Box2 (w : World) (b : Nat) (x y : Value) : Prop := b < w.heap.size ∧ w.cell? ⟨b, 0, none⟩ = some x ∧ w.cell? ⟨b, 1, none⟩ = some y
theorem Box2.below {w w' : World} {b : Nat} {x y : Value} (h : Box2 w b x y) (hb : Below w.heap.size w w') : Box2 w' b x y :=
  ⟨Nat.lt_of_lt_of_le h.1 hb.size, (hb.cell (p := ⟨b, 0, none⟩) h.1).trans h.2.1, (hb.cell (p := ⟨b, 1, none⟩) h.1).trans h.2.2⟩
theorem Box2.other {w w' : World} {b : Nat} {x y : Value} {row : Option Nat} (h : Box2 w b x y) (hg : w.grownBy w' row) (hne : some b ≠ row) : Box2 w' b x y :=
  ⟨Nat.lt_of_lt_of_le h.1 hg.size, hg.cell h.2.1 hne, hg.cell h.2.2 hne⟩
theorem Box2.new (w : World) (x y : Value) (t : TypeId) : Box2 (w.alloc (.cells #[x, y] t)) w.heap.size x y := ⟨by simp, by simp, by simp⟩


end Go.Proofs.YtoljmlhnbmeloaaDoor

namespace Go.Proofs.YtoljmlhnbmeloaaDoor
open Go.RowKit

def pB (ps : List (Int × List Int)) (i : Nat) : Int := (ps.getD i (0, [])).1
def pD (ps : List (Int × List Int)) (i : Nat) : List Int := (ps.getD i (0, [])).2

/-- A slice of records (a number and a list of bytes) that reads as ps. -/
def RdW (w : World) (v : Value) (ps : List (Int × List Int)) : Prop :=
  ∃ ao cap, v = .slice ao ps.length cap ∧ ps.length ≤ cap ∧ cap ≤ maxLen ∧
    (ps = [] ∨ ∃ b off, ao = some ⟨b, off, none⟩ ∧ b < w.heap.size ∧ ∀ i, i < ps.length →
      w.cell? ⟨b, off + i * 2, none⟩ = some (.int .i64 (pB ps i)) ∧ ∃ da c, w.cell? ⟨b, off + i * 2 + 1, none⟩ = some (.slice da (pD ps i).length c) ∧ Rd .u8 w (.slice da (pD ps i).length c) (pD ps i))

theorem RdW.len {w : World} {v : Value} {ps : List (Int × List Int)} (h : RdW w v ps) : ∃ ao cap, v = .slice ao ps.length cap ∧ ps.length ≤ cap ∧ cap ≤ maxLen := by
  obtain ⟨ao, cap, h0, h1, h2, _⟩ := h
  exact ⟨ao, cap, h0, h1, h2⟩

theorem RdW.below {w w' : World} {v : Value} {ps : List (Int × List Int)} (h : RdW w v ps) (hb : Below w.heap.size w w') : RdW w' v ps := by
  obtain ⟨ao, cap, rfl, h1, h2, h3⟩ := h
  refine ⟨ao, cap, rfl, h1, h2, ?_⟩
  rcases h3 with h3 | ⟨b, off, rfl, hlt, hc⟩
  · exact .inl h3
  · refine .inr ⟨b, off, rfl, Nat.lt_of_lt_of_le hlt hb.size, fun i hi => ?_⟩
    obtain ⟨c1, da, c, c2, r⟩ := hc i hi
    exact ⟨(hb.cell (p := ⟨b, _, none⟩) hlt).trans c1, da, c, (hb.cell (p := ⟨b, _, none⟩) hlt).trans c2, r.below hb⟩

def tot (ps : List (Int × List Int)) : Nat := (ps.map fun p => p.2.length).sum
theorem tot_take_succ (ps : List (Int × List Int)) (k : Nat) (h : k < ps.length) : tot (ps.take (k + 1)) = tot (ps.take k) + (pD ps k).length := by
  unfold tot pD
  rw [List.take_succ_eq_append_getElem h, List.map_append, List.sum_append]
  simp [List.getD, h]
theorem tot_all (ps : List (Int × List Int)) (k : Nat) (h : ps.length ≤ k) : tot (ps.take k) = tot ps := by rw [List.take_of_length_le h]







end Go.Proofs.YtoljmlhnbmeloaaDoor

namespace Go.Proofs.YtoljmlhnbmeloaaDoor
open Go.RowKit

/-! ### rows of records -/
def rowW (n : Nat) (f : Nat → Int) (g : Nat → Value) : List Value := (List.range n).flatMap fun i => [.int .i64 (f i), g i]

theorem rowW_succ (n : Nat) (f : Nat → Int) (g : Nat → Value) : rowW (n + 1) f g = rowW n f g ++ [.int .i64 (f n), g n] := by
  unfold rowW; rw [List.range_succ, List.flatMap_append]; simp
theorem rowW_length (n : Nat) (f : Nat → Int) (g : Nat → Value) : (rowW n f g).length = n * 2 := by
  induction n with
  | zero => rfl
  | succ n ih => rw [rowW_succ, List.length_append, ih]; simp; omega
theorem rowW_get (n : Nat) (f : Nat → Int) (g : Nat → Value) (j : Nat) (h : j < n * 2) : (rowW n f g)[j]? = some (if j % 2 = 0 then .int .i64 (f (j / 2)) else g (j / 2)) := by
  induction n with
  | zero => omega
  | succ n ih =>
    rw [rowW_succ]
    by_cases hj : j < n * 2
    · rw [List.getElem?_append_left (by rw [rowW_length]; exact hj), ih hj]
    · rw [List.getElem?_append_right (by rw [rowW_length]; omega), rowW_length]
      by_cases e : j = n * 2
      · subst e
        simp [show n * 2 % 2 = 0 by omega]
      · have e2 : j = n * 2 + 1 := by omega
        subst e2
        rw [if_neg (by omega), show n * 2 + 1 - n * 2 = 1 by omega, show (n * 2 + 1) / 2 = n by omega]
        rfl
theorem rowW_congr {n : Nat} {f f' : Nat → Int} {g g' : Nat → Value} (hf : ∀ i, i < n → f i = f' i) (hg : ∀ i, i < n → g i = g' i) : rowW n f g = rowW n f' g' := by
  unfold rowW
  rw [List.flatMap_def, List.flatMap_def]
  congr 1
  apply List.map_congr_left
  intro i hi
  have hi := List.mem_range.1 hi
  rw [hf i hi, hg i hi]
/-- Record k written. -/
theorem rowW_set {n : Nat} {f f' : Nat → Int} {g g' : Nat → Value} {k : Nat} (hk : k < n) (hf : ∀ i, i ≠ k → f i = f' i) (hg : ∀ i, i ≠ k → g i = g' i) :
    ((rowW n f g).set (k * 2) (.int .i64 (f' k))).set (k * 2 + 1) (g' k) = rowW n f' g' := by
  apply List.ext_getElem?
  intro j
  by_cases hj : j < n * 2
  · rw [List.getElem?_set, List.getElem?_set, rowW_get n f' g' j hj, rowW_get n f g j hj]
    simp only [List.length_set, rowW_length]
    by_cases e1 : k * 2 + 1 = j
    · rw [if_pos e1, if_pos (by omega), if_neg (by omega), show j / 2 = k by omega]
    · rw [if_neg e1]
      by_cases e2 : k * 2 = j
      · rw [if_pos e2, if_pos (by omega), if_pos (by omega), show j / 2 = k by omega]
      · rw [if_neg e2, hf _ (by omega), hg _ (by omega)]
  · rw [List.getElem?_eq_none (by simp [rowW_length]; omega), List.getElem?_eq_none (by rw [rowW_length]; omega)]

theorem rowW_zero (n : Nat) : (madeCells #[Value.int .i64 0, Value.slice none 0 0] (n * 2)).toList = rowW n (fun _ => 0) (fun _ => .slice none 0 0) := by
  apply List.ext_getElem?
  intro j
  by_cases hj : j < n * 2
  · rw [rowW_get _ _ _ _ hj]
    rcases Nat.mod_two_eq_zero_or_one j with e | e
    · simp [madeCells, hj, e]
    · simp [madeCells, hj, e]
  · simp [madeCells, hj, List.getElem?_eq_none (show (rowW n (fun _ => 0) (fun _ => Value.slice none 0 0)).length ≤ j by rw [rowW_length]; omega)]

def Ne2 (a b : Value) : Prop := a.ownBlock = none ∨ a.ownBlock ≠ b.ownBlock

/-- A slice of records that is the call's own, each list in a row of its own. -/
def OwnW (e : TypeId) (w : World) (lo : Nat) (v : Value) (ps : List (Int × List Int)) (dv : Nat → Value) : Prop :=
  w.ownsRow lo e 2 v ps.length (rowW ps.length (pB ps) dv) ∧ (∀ i, i < ps.length → Own .u8 5 w lo (dv i) (pD ps i)) ∧
  (∀ i j, i < ps.length → j < ps.length → i ≠ j → Ne2 (dv i) (dv j)) ∧ ∀ i, i < ps.length → Ne2 (dv i) v

theorem Own.slice {k : IntKind} {e : TypeId} {w : World} {lo : Nat} {v : Value} {xs : List Int} (h : Own k e w lo v xs) : ∃ a c, v = .slice a xs.length c := by
  obtain ⟨a, c, h0, _⟩ := h.rd.len
  exact ⟨a, c, h0⟩

theorem OwnW.rd {e : TypeId} {w : World} {lo : Nat} {v : Value} {ps : List (Int × List Int)} {dv : Nat → Value} (h : OwnW e w lo v ps dv) : RdW w v ps := by
  obtain ⟨ho, hd, _, _⟩ := h
  rcases ho.2 with ⟨rfl, h0⟩ | ⟨g, cap, cur, rfl, hb, hg, hn, hm, hs, ht⟩
  · have : ps = [] := List.eq_nil_of_length_eq_zero h0
    subst this
    exact ⟨none, 0, rfl, Nat.le_refl _, Nat.zero_le _, .inl rfl⟩
  · refine ⟨_, cap, rfl, hn, hm, .inr ⟨g, 0, rfl, (Array.getElem?_eq_some_iff.1 hg).1, fun i hi => ?_⟩⟩
    have c1 := World.ownsRow.cells ho (g := g) rfl (i * 2) _ (rowW_get _ _ _ _ (by omega))
    have c2 := World.ownsRow.cells ho (g := g) rfl (i * 2 + 1) _ (rowW_get _ _ _ _ (by omega))
    rw [Addr.add_lit] at c1 c2
    rw [if_pos (by omega), show i * 2 / 2 = i by omega] at c1
    rw [if_neg (by omega), show (i * 2 + 1) / 2 = i by omega] at c2
    obtain ⟨a, c, e⟩ := (hd i hi).slice
    refine ⟨c1, a, c, ?_, ?_⟩
    · rw [← e, Nat.add_assoc]; exact c2
    · rw [← e]; exact (hd i hi).rd

theorem OwnW.below {e : TypeId} {w w' : World} {lo : Nat} {v : Value} {ps : List (Int × List Int)} {dv : Nat → Value} (h : OwnW e w lo v ps dv) (hb : Below w.heap.size w w') : OwnW e w' lo v ps dv := by
  obtain ⟨ho, hd, h3, h4⟩ := h
  refine ⟨⟨ho.1, ?_⟩, fun i hi => (hd i hi).below hb, h3, h4⟩
  rcases ho.2 with hn | ⟨g, cap, cur, rfl, hbg, hgg, rest⟩
  · exact .inl hn
  · exact .inr ⟨g, cap, cur, rfl, hbg, by rw [hb.block g (Array.getElem?_eq_some_iff.1 hgg).1]; exact hgg, rest⟩

theorem OwnW.mono {e : TypeId} {w : World} {lo lo' : Nat} {v : Value} {ps : List (Int × List Int)} {dv : Nat → Value} (h : OwnW e w lo v ps dv) (hl : lo' ≤ lo) : OwnW e w lo' v ps dv := by
  obtain ⟨ho, hd, h3, h4⟩ := h
  refine ⟨⟨ho.1, ?_⟩, fun i hi => (hd i hi).mono hl, h3, h4⟩
  rcases ho.2 with hn | ⟨g, cap, cur, rfl, hbg, rest⟩
  · exact .inl hn
  · exact .inr ⟨g, cap, cur, rfl, by omega, rest⟩

theorem Own.setAt {k : IntKind} {e : TypeId} {w : World} {lo g j : Nat} {v u : Value} {xs : List Int} (h : Own k e w lo v xs) (hne : v.ownBlock = none ∨ v.ownBlock ≠ some g) : Own k e (w.setCell ⟨g, j, none⟩ u) lo v xs :=
  h.other (grownBy_set w w g j u (World.grownBy.refl _ _)) hne


end Go.Proofs.YtoljmlhnbmeloaaDoor

namespace Go.Proofs.YtoljmlhnbmeloaaDoor
open Go.RowKit

theorem Tryd.infoW : (Tryd.prog.info? 131).map (fun i => (i.zero, i.size, i.bytes)) = some (some (.agg #[.int .i64 0, .slice none 0 0]), 2, 32) := by kernel_rfl

/-- Of the first k records. -/
def pBk (ps : List (Int × List Int)) (k i : Nat) : Int := if i < k then pB ps i else 0
def dvk (dv : Nat → Value) (k i : Nat) : Value := if i < k then dv i else .slice none 0 0
def dvSet (dv : Nat → Value) (k : Nat) (v : Value) (i : Nat) : Value := if i = k then v else dv i

theorem rowW_step {n k : Nat} (ps : List (Int × List Int)) (dv : Nat → Value) (v : Value) (hk : k < n) :
    ((rowW n (pBk ps k) (dvk dv k)).set (k * 2) (.int .i64 (pB ps k))).set (k * 2 + 1) v = rowW n (pBk ps (k + 1)) (dvk (dvSet dv k v) (k + 1)) := by
  have h := rowW_set (n := n) (f := pBk ps k) (f' := pBk ps (k + 1)) (g := dvk dv k) (g' := dvk (dvSet dv k v) (k + 1)) hk
    (by intro i hi; unfold pBk; by_cases h : i < k
        · rw [if_pos h, if_pos (by omega)]
        · rw [if_neg h, if_neg (by omega)])
    (by intro i hi; unfold dvk dvSet; by_cases h : i < k
        · rw [if_pos h, if_pos (by omega), if_neg hi]
        · rw [if_neg h, if_neg (by omega)])
  rw [show pBk ps (k + 1) k = pB ps k from if_pos (by omega), show dvk (dvSet dv k v) (k + 1) k = v by unfold dvk dvSet; rw [if_pos (by omega), if_pos rfl]] at h
  exact h

theorem toWriteS_step {w2 w : World} {n k B lo : Nat} (ps : List (Int × List Int)) (dv : Nat → Value) {v : Value} (hk : k < n)
    (ho : w2.ownsRow lo 131 2 (.slice (some ⟨lo, 0, none⟩) n n) n (rowW n (pBk ps k) (dvk dv k))) (hB : lo < B)
    (h1 : ∀ i, i < k → Own .u8 5 w2 (lo + 1) (dv i) (pD ps i)) (h2 : ∀ i j, i < k → j < k → i ≠ j → Ne2 (dv i) (dv j)) (h3 : ∀ i, i < k → ∀ g, (dv i).ownBlock = some g → g < B)
    (h4 : Own .u8 5 w2 B v (pD ps k)) (hb : Below lo w w2) :
    ((w2.setCell ⟨lo, k * 2, none⟩ (.int .i64 (pB ps k))).setCell ⟨lo, k * 2 + 1, none⟩ v).ownsRow lo 131 2 (.slice (some ⟨lo, 0, none⟩) n n) n (rowW n (pBk ps (k + 1)) (dvk (dvSet dv k v) (k + 1))) ∧
    ((∀ i, i < k + 1 → Own .u8 5 ((w2.setCell ⟨lo, k * 2, none⟩ (.int .i64 (pB ps k))).setCell ⟨lo, k * 2 + 1, none⟩ v) (lo + 1) (dvSet dv k v i) (pD ps i)) ∧
      (∀ i j, i < k + 1 → j < k + 1 → i ≠ j → Ne2 (dvSet dv k v i) (dvSet dv k v j))) ∧
    Below lo w ((w2.setCell ⟨lo, k * 2, none⟩ (.int .i64 (pB ps k))).setCell ⟨lo, k * 2 + 1, none⟩ v) := by
  have ne : ∀ {x : Value} {q : List Int}, Own .u8 5 w2 (lo + 1) x q → x.ownBlock = none ∨ x.ownBlock ≠ some lo := by
    intro x q h
    cases hv : x.ownBlock with
    | none => exact .inl rfl
    | some g => exact .inr (fun e => by have := (h.lt g hv).1; simp at e; omega)
  refine ⟨?_, ⟨fun i hi => ?_, fun i j hi hj hne => ?_⟩, (hb.setCell (Nat.le_refl _) _).setCell (Nat.le_refl _) _⟩
  · have s1 := (World.ownsRow.stored ho (k * 2) (.int .i64 (pB ps k))).1
    have s2 := (World.ownsRow.stored s1 (k * 2 + 1) v).1
    rw [rowW_step ps dv v hk] at s2
    exact s2
  · unfold dvSet
    by_cases e : i = k
    · subst e
      rw [if_pos rfl]
      have h5 := h4.mono (show lo + 1 ≤ B by omega)
      exact (h5.setAt (ne h5)).setAt (ne h5)
    · rw [if_neg e]
      have h5 := h1 i (by omega)
      exact (h5.setAt (ne h5)).setAt (ne h5)
  · unfold dvSet Ne2
    by_cases ei : i = k
    · rw [if_pos ei, if_neg (show ¬ j = k by omega)]
      cases hv : v.ownBlock with
      | none => exact .inl rfl
      | some g => exact .inr (fun e => by have a := (h4.lt g hv).1; have b := h3 j (by omega) g e.symm; omega)
    · rw [if_neg ei]
      by_cases ej : j = k
      · rw [if_pos ej]
        cases hv : (dv i).ownBlock with
        | none => exact .inl rfl
        | some g => exact .inr (fun e => by have a := (h4.lt g e.symm).1; have b := h3 i (by omega) g hv; omega)
      · rw [if_neg ej]
        exact h2 i j (by omega) (by omega) hne




theorem OwnW.slice {e : TypeId} {w : World} {lo : Nat} {v : Value} {ps : List (Int × List Int)} {dv : Nat → Value} (h : OwnW e w lo v ps dv) : ∃ a c, v = .slice a ps.length c := by
  obtain ⟨a, c, h0, _⟩ := h.rd.len
  exact ⟨a, c, h0⟩

theorem OwnW.setBelow {e : TypeId} {w : World} {lo : Nat} {v : Value} {ps : List (Int × List Int)} {dv : Nat → Value} (h : OwnW e w lo v ps dv) {a : Addr} (ha : a.block < lo) (u : Value) : OwnW e (w.setCell a u) lo v ps dv :=
  ⟨ownsRow_setCell_below h.1 ha u, fun i hi => (h.2.1 i hi).setBelow ha u, h.2.2⟩


end Go.Proofs.YtoljmlhnbmeloaaDoor

namespace Go.Proofs.YtoljmlhnbmeloaaDoor
open Go.RowKit

/-- Record i is one of the disk. -/
def okP (n : Nat) (ps : List (Int × List Int)) (i : Nat) : Prop := 0 ≤ pB ps i ∧ pB ps i < n ∧ (pD ps i).length = 64
def vldP (dl : Nat) (ps : List (Int × List Int)) : Prop := dl % 64 = 0 ∧ 1 ≤ dl / 64 ∧ dl / 64 ≤ 300 ∧ ps.length ≤ 2000 ∧ ∀ i, i < ps.length → okP (dl / 64) ps i
def okBk (n : Nat) (ps : List (Int × List Int)) (i : Nat) : Bool := decide (0 ≤ pB ps i) && decide (pB ps i < n) && decide ((pD ps i).length = 64)
theorem okBk_iff (n : Nat) (ps : List (Int × List Int)) (i : Nat) : okBk n ps i = true ↔ okP n ps i := by unfold okBk okP; simp [and_assoc]
def vldD (dl : Nat) (ps : List (Int × List Int)) : Bool := decide (dl % 64 = 0) && decide (1 ≤ dl / 64) && decide (dl / 64 ≤ 300) && decide (ps.length ≤ 2000) && (List.range ps.length).all (okBk (dl / 64) ps)
theorem vldD_iff (dl : Nat) (ps : List (Int × List Int)) : vldD dl ps = true ↔ vldP dl ps := by
  unfold vldD vldP
  simp only [Bool.and_eq_true, decide_eq_true_eq, List.all_eq_true, List.mem_range, okBk_iff, and_assoc]
theorem vldD_yes {dl : Nat} {ps : List (Int × List Int)} (h : vldP dl ps) : vldD dl ps = true := (vldD_iff dl ps).2 h
theorem vldD_no {dl : Nat} {ps : List (Int × List Int)} (h : ¬ vldP dl ps) : vldD dl ps = false := by
  cases e : vldD dl ps with
  | false => rfl
  | true => exact absurd ((vldD_iff dl ps).1 e) h


set_option maxHeartbeats 400000 in
theorem blockCount_any (w : World) (ao : Option Addr) (n cap : Nat) (vp : Value) (hn : n ≤ 1048576) :
    Calls Tryd.prog 101 #[.agg #[.slice ao n cap, vp]] w fun e w' => e = .returned (.int .i64 ((n / 64 : Nat) : Int)) ∧ Below w.heap.size w w' := by
  go_enter Tryd.func101, Tryd.ntmps101
  go_wp2
  go_ret
  exact ⟨ret_int (by omega), (Below.refl _ _).alloc (Nat.le_refl _) _⟩

set_option maxHeartbeats 400000 in
theorem hasBlock_any (w : World) (ao : Option Addr) (n cap : Nat) (vp : Value) (x : Int) (hn : n ≤ 1048576) :
    Calls Tryd.prog 133 #[.agg #[.slice ao n cap, vp], .int .i64 x] w fun e w' => e = .returned (.bool (decide (0 ≤ x ∧ x < (n / 64 : Nat)))) ∧ Below w.heap.size w w' := by
  have B0 : Hid (Below w.heap.size w (w.alloc (.cells #[.slice ao n cap, vp] 27))) := (Below.refl _ _).alloc (Nat.le_refl _) _
  by_cases h0 : 0 ≤ x
  · go_enter Tryd.func133, Tryd.ntmps133
    go_wp2_with fail
    refine (blockCount_any _ ao n cap vp hn).mono ?_
    rintro e w1 ⟨rfl, b1⟩
    have B1 : Hid (Below w.heap.size w w1) := B0.out.trans (b1.mono (by simp))
    clear b1
    generalize hm : n / 64 = m at *
    have HM : Hid (n / 64 = m) := hm
    clear hm
    by_cases h1 : x < (m : Int)
    · go_wp2
      go_ret
      exact ⟨ret_bool (by have := HM.out; symm; rw [decide_eq_true_eq]; omega), B1.out⟩
    · go_wp2
      go_ret
      exact ⟨ret_bool (by have := HM.out; symm; rw [decide_eq_decide]; omega), B1.out⟩
  · have hd : decide (0 ≤ x) = false := by simpa using h0
    go_enter Tryd.func133, Tryd.ntmps133
    go_wp2
    go_ret
    exact ⟨ret_bool (by symm; first | rfl | (rw [decide_eq_false_iff_not]; omega)), B0.out⟩

/-- The cells of a slice of records. -/
def CellsW (w : World) (b o n : Nat) (ps : List (Int × List Int)) : Prop :=
  ∀ i, i < n → w.cell? ⟨b, o + i * 2, none⟩ = some (.int .i64 (pB ps i)) ∧ ∃ da c, w.cell? ⟨b, o + i * 2 + 1, none⟩ = some (.slice da (pD ps i).length c)

theorem RdW.cells {w : World} {ao : Option Addr} {n cap : Nat} {ps : List (Int × List Int)} (h : RdW w (.slice ao n cap) ps) (hn : 0 < n) : ∃ b o, ao = some ⟨b, o, none⟩ ∧ b < w.heap.size ∧ CellsW w b o n ps ∧ ps.length = n := by
  obtain ⟨ao', cap', e, h1, h2, h3⟩ := h
  simp only [Value.slice.injEq] at e
  obtain ⟨rfl, rfl, rfl⟩ := e
  rcases h3 with rfl | ⟨b, o, rfl, hb, hc⟩
  · simp at hn
  · exact ⟨b, o, rfl, hb, fun i hi => ⟨(hc i hi).1, by obtain ⟨da, c, h, _⟩ := (hc i hi).2; exact ⟨da, c, h⟩⟩, rfl⟩

theorem CellsW.below {w w' : World} {b o n : Nat} {ps : List (Int × List Int)} (h : CellsW w b o n ps) (hb : b < w.heap.size) (hB : Below w.heap.size w w') : CellsW w' b o n ps :=
  fun i hi => ⟨(hB.cell (p := ⟨b, _, none⟩) hb).trans (h i hi).1, by obtain ⟨da, c, e⟩ := (h i hi).2; exact ⟨da, c, (hB.cell (p := ⟨b, _, none⟩) hb).trans e⟩⟩




set_option maxHeartbeats 1000000 in
set_option maxRecDepth 100000 in
theorem implValid_head (w : World) (va vb : Option Addr) (dl ca n cb : Nat) (hd : dl ≤ 1048576) (hn : n ≤ 1048576) (h : ¬ (dl % 64 = 0 ∧ 1 ≤ dl / 64 ∧ dl / 64 ≤ 300 ∧ n ≤ 2000)) :
    Calls Tryd.prog 100 #[.agg #[.slice va dl ca, .slice vb n cb]] w fun e w' => e = .returned (.bool false) ∧ Below w.heap.size w w' := by
  have B0 : Hid (Below w.heap.size w (w.alloc (.cells #[.slice va dl ca, .slice vb n cb] 27))) := (Below.refl _ _).alloc (Nat.le_refl _) _
  by_cases h1 : dl % 64 = 0
  · have t1 : (((dl : Int) % 64) != 0) = false := by rw [bne_eq_false_iff_eq]; omega
    have HX : Hid (¬ (dl % 64 = 0 ∧ 1 ≤ dl / 64 ∧ dl / 64 ≤ 300 ∧ n ≤ 2000)) := h
    have H1 : Hid (dl % 64 = 0) := h1
    clear h h1
    go_enter Tryd.func100, Tryd.ntmps100
    go_wp2_with fail
    refine (blockCount_any _ va dl ca _ hd).mono ?_
    rintro e w1 ⟨rfl, b1⟩
    obtain ⟨c0, c1, _, _, z1⟩ := box2_later b1
    have B1 : Hid (Below w.heap.size w w1) := B0.out.trans (b1.mono (by simp))
    have h := HX.out
    have h1 := H1.out
    clear b1
    generalize dl / 64 = m at *
    by_cases h2 : (m : Int) < 1
    · clear h h1
      go_wp2
      go_ret
      exact ⟨rfl, B1.out⟩
    · by_cases h3 : (300 : Int) < (m : Int)
      · clear h h1
        go_wp2
        go_ret
        exact ⟨rfl, B1.out⟩
      · have h4 : (2000 : Int) < (n : Int) := by omega
        clear h h1
        go_wp2
        go_ret
        exact ⟨rfl, B1.out⟩
  · have t1 : (((dl : Int) % 64) != 0) = true := by rw [bne_iff_ne]; omega
    clear h1 h
    go_enter Tryd.func100, Tryd.ntmps100
    go_wp2
    go_ret
    exact ⟨rfl, B0.out⟩

set_option maxHeartbeats 1000000 in
set_option maxRecDepth 100000 in
theorem implValid_loop (w : World) (va vb : Option Addr) (dl ca n cb : Nat) (ps : List (Int × List Int)) (hp : RdW w (.slice vb n cb) ps) (hl : ps.length = n) (hd : dl ≤ 1048576)
    (h1 : dl % 64 = 0) (h2 : 1 ≤ dl / 64) (h3 : dl / 64 ≤ 300) (h4 : n ≤ 2000) (hdl : ∀ i, (pD ps i).length ≤ 1048576) :
    Calls Tryd.prog 100 #[.agg #[.slice va dl ca, .slice vb n cb]] w fun e w' => e = .returned (.bool (vldD dl ps)) ∧ Below w.heap.size w w' := by
  have B0 : Hid (Below w.heap.size w (w.alloc (.cells #[.slice va dl ca, .slice vb n cb] 27))) := (Below.refl _ _).alloc (Nat.le_refl _) _
  have HP : Hid (RdW w (.slice vb n cb) ps) := hp
  have HL : Hid (ps.length = n) := hl
  have HDL : Hid (∀ i, (pD ps i).length ≤ 1048576) := hdl
  have H1 : Hid (dl % 64 = 0) := h1
  have H2 : Hid (1 ≤ dl / 64 ∧ dl / 64 ≤ 300) := ⟨h2, h3⟩
  have t1 : (((dl : Int) % 64) != 0) = false := by rw [bne_eq_false_iff_eq]; omega
  clear hp hl hdl h1 h2 h3
  go_enter Tryd.func100, Tryd.ntmps100
  go_wp2_with fail
  refine (blockCount_any _ va dl ca _ hd).mono ?_
  rintro e w1 ⟨rfl, b1⟩
  have X1 : Hid (Box2 w1 w.heap.size (.slice va dl ca) (.slice vb n cb)) := (Box2.new w _ _ _).below b1
  have B1 : Hid (Below w.heap.size w w1) := B0.out.trans (b1.mono (by simp))
  clear b1
  have h2 := H2.out
  generalize hm : dl / 64 = m at *
  have HM : Hid (dl / 64 = m) := hm
  have t2 : ¬ (m : Int) < 1 := by omega
  have t3 : ¬ (300 : Int) < (m : Int) := by omega
  have t4 : ¬ (2000 : Int) < (n : Int) := by omega
  clear hm h2
  obtain ⟨z1, c0, c1⟩ := X1.out
  go_wp2
  clear c0 c1 z1
  go_loopw [28] (fun i wr => ∃ k : Nat, k ≤ n ∧ i = .int .i64 k ∧ Hid (∀ i, i < k → okP m ps i) ∧ Hid (Box2 wr w.heap.size (.slice va dl ca) (.slice vb n cb)) ∧ Below w.heap.size w wr) (fun i _ => n - (intOf i).toNat)
  case atStart => exact ⟨0, Nat.zero_le _, rfl, fun i hi => by omega, X1, B1.out⟩
  case round =>
    clear X1 B1
    obtain ⟨k, hk, rfl, HOK, HX, hg⟩ := hrel
    by_cases hlt : k < n
    · obtain ⟨b, o, rfl, hb, hc, _⟩ := HP.out.cells (by omega)
      obtain ⟨e1, da, dc, e2⟩ := (hc.below hb hg) k hlt
      have hltI : (k : Int) < (n : Int) := by omega
      have hdk := HDL.out k
      obtain ⟨z1, c0, c1⟩ := HX.out
      have HG : Hid (Below w.heap.size w wr) := hg
      clear hg hc
      go_wp2_with fail
      have BA : Hid (Below w.heap.size w (wr.alloc (.cells #[.int .i64 (pB ps k), .slice da (pD ps k).length dc] 131))) := HG.out.alloc HG.out.size _
      have XA : Hid (Box2 (wr.alloc (.cells #[.int .i64 (pB ps k), .slice da (pD ps k).length dc] 131)) w.heap.size (.slice va dl ca) (.slice (some ⟨b, o, none⟩) n cb)) := HX.out.below ((Below.refl _ _).alloc (Nat.le_refl _) _)
      have XB : Hid (Box2 (wr.alloc (.cells #[.int .i64 (pB ps k), .slice da (pD ps k).length dc] 131)) wr.heap.size (.int .i64 (pB ps k)) (.slice da (pD ps k).length dc)) := Box2.new _ _ _ _
      generalize wr.alloc (.cells #[.int .i64 (pB ps k), .slice da (pD ps k).length dc] 131) = wa at *
      refine (hasBlock_any _ va dl ca _ (pB ps k) hd).mono ?_
      rintro e w2 ⟨rfl, b2⟩
      rw [HM.out]
      have X2 : Hid (Box2 w2 w.heap.size (.slice va dl ca) (.slice (some ⟨b, o, none⟩) n cb)) := XA.out.below b2
      have XC : Hid (Box2 w2 wr.heap.size (.int .i64 (pB ps k)) (.slice da (pD ps k).length dc)) := XB.out.below b2
      have B2 : Hid (Below w.heap.size w w2) := BA.out.trans (b2.mono BA.out.size)
      obtain ⟨_, d0, d1⟩ := XC.out
      clear b2 c0 c1 z1 e1 e2 HX
      by_cases hok : okP m ps k
      · have HK : Hid (okP m ps k) := hok
        obtain ⟨q1, q2, q3⟩ := hok
        have q4 : (((pD ps k).length : Int) != 64) = false := by rw [bne_eq_false_iff_eq]; omega
        rw [show decide (0 ≤ pB ps k ∧ pB ps k < (m : Int)) = true by rw [decide_eq_true_eq]; omega]
        clear q1 q2 q3
        go_wp2
        go_roundw
        case rel => exact ⟨k + 1, by omega, by go_num, (fun i hi => by by_cases e : i = k; (subst e; exact HK.out); exact HOK.out i (by omega)), X2, B2.out⟩
        case measure => simp [intOf]; omega
      · have HN : Hid (vldD dl ps = false) := vldD_no (by rintro ⟨_, _, _, _, h5⟩; rw [HM.out] at h5; exact hok (h5 k (by rw [HL.out]; exact hlt)))
        by_cases q1 : 0 ≤ pB ps k ∧ pB ps k < (m : Int)
        · rw [show decide (0 ≤ pB ps k ∧ pB ps k < (m : Int)) = true by rw [decide_eq_true_eq]; exact q1]
          have q3 : (((pD ps k).length : Int) != 64) = true := by rw [bne_iff_ne]; intro e; exact hok ⟨q1.1, q1.2, by omega⟩
          clear hok q1
          go_wp2
          go_ret
          exact ⟨ret_bool HN.out.symm, B2.out⟩
        · rw [show decide (0 ≤ pB ps k ∧ pB ps k < (m : Int)) = false by rw [decide_eq_false_iff_not]; exact q1]
          clear hok q1
          go_wp2
          go_ret
          exact ⟨ret_bool HN.out.symm, B2.out⟩
    · have HY : Hid (vldD dl ps = true) := vldD_yes ⟨H1.out, by rw [HM.out]; exact H2.out.1, by rw [HM.out]; exact H2.out.2, by rw [HL.out]; omega, fun i hi => by rw [HM.out]; exact HOK.out i (by rw [HL.out] at hi; omega)⟩
      have hltI : ¬ (k : Int) < (n : Int) := by omega
      have HG : Hid (Below w.heap.size w wr) := hg
      clear hg
      go_wp2
      go_ret
      exact ⟨ret_bool HY.out.symm, HG.out⟩

theorem implValid_any (w : World) (va vb : Option Addr) (dl ca n cb : Nat) (ps : List (Int × List Int)) (hp : RdW w (.slice vb n cb) ps) (hl : ps.length = n) (hd : dl ≤ 1048576) (hn : n ≤ 1048576) (hdl : ∀ i, (pD ps i).length ≤ 1048576) :
    Calls Tryd.prog 100 #[.agg #[.slice va dl ca, .slice vb n cb]] w fun e w' => e = .returned (.bool (vldD dl ps)) ∧ Below w.heap.size w w' := by
  by_cases h : dl % 64 = 0 ∧ 1 ≤ dl / 64 ∧ dl / 64 ≤ 300 ∧ n ≤ 2000
  · exact implValid_loop w va vb dl ca n cb ps hp hl hd h.1 h.2.1 h.2.2.1 h.2.2.2 hdl
  · rw [vldD_no (fun h5 => h ⟨h5.1, h5.2.1, h5.2.2.1, by have := h5.2.2.2.1; omega⟩)]
    exact implValid_head w va vb dl ca n cb hd hn h

end Go.Proofs.YtoljmlhnbmeloaaDoor

namespace Go.Proofs.YtoljmlhnbmeloaaDoor
open Go.RowKit

set_option maxHeartbeats 400000 in
theorem eqWrite_any (w : World) (x y : Int) (va vb : Value) (xs ys : List Int) (ha : Rd .u8 w va xs) (hb : Rd .u8 w vb ys) :
    Calls Tryd.prog 89 #[.agg #[.int .i64 x, va], .agg #[.int .i64 y, vb]] w fun e w' => e = .returned (.bool (decide (x = y ∧ xs = ys))) ∧ Below w.heap.size w w' := by
  have B0 : Hid (Below w.heap.size w ((w.alloc (.cells #[.int .i64 x, va] 131)).alloc (.cells #[.int .i64 y, vb] 131))) := ((Below.refl _ _).alloc (Nat.le_refl _) _).alloc (by simp) _
  have RA : Hid (Rd .u8 ((w.alloc (.cells #[.int .i64 x, va] 131)).alloc (.cells #[.int .i64 y, vb] 131)) va xs) := ha.below B0.out
  have RB : Hid (Rd .u8 ((w.alloc (.cells #[.int .i64 x, va] 131)).alloc (.cells #[.int .i64 y, vb] 131)) vb ys) := hb.below B0.out
  obtain ⟨a1, c1, rfl, _, _⟩ := ha.len
  obtain ⟨a2, c2, rfl, _, _⟩ := hb.len
  clear ha hb
  by_cases he : x = y
  · subst he
    have t : (x != x) = false := by simp
    go_enter Tryd.func89, Tryd.ntmps89
    go_wp2_with fail
    refine (eqByteS_any _ _ _ xs ys RA.out RB.out).mono ?_
    rintro e w1 ⟨rfl, q1, rfl⟩
    have BE : Hid (Below w.heap.size w (((w.alloc (.cells #[.int .i64 x, .slice a1 xs.length c1] 131)).alloc (.cells #[.int .i64 x, .slice a2 ys.length c2] 131)).drewN q1)) := B0.out.trans ((below_drewN' _ q1).mono (by simp; omega))
    by_cases h : xs = ys
    · have hd : decide (xs = ys) = true := by simp [h]
      have hd2 : decide (x = x ∧ xs = ys) = true := by simp [h]
      rw [hd]
      clear h
      go_wp2
      go_ret
      exact ⟨ret_bool hd2.symm, BE.out⟩
    · have hd : decide (xs = ys) = false := by simp [h]
      have hd2 : decide (x = x ∧ xs = ys) = false := by simp [h]
      rw [hd]
      clear h
      go_wp2
      go_ret
      exact ⟨ret_bool hd2.symm, BE.out⟩
  · have t : (x != y) = true := by simp [he]
    have hd2 : decide (x = y ∧ xs = ys) = false := by simp [he]
    clear he
    go_enter Tryd.func89, Tryd.ntmps89
    go_wp2
    go_ret
    exact ⟨ret_bool hd2.symm, B0.out⟩

theorem recs_ext {ps qs : List (Int × List Int)} (hl : ps.length = qs.length) (h : ∀ i, i < ps.length → pB ps i = pB qs i ∧ pD ps i = pD qs i) : ps = qs := by
  apply List.ext_getElem hl
  intro i h1 h2
  have := h i h1
  unfold pB pD at this
  simp only [List.getD, List.getElem?_eq_getElem h1, List.getElem?_eq_getElem h2, Option.getD_some] at this
  exact Prod.ext this.1 this.2

set_option maxHeartbeats 1000000 in
set_option maxRecDepth 100000 in
theorem eqWriteS_row (w : World) (b o b2 o2 n ca cb : Nat) (ps qs : List (Int × List Int)) (hp : ps.length = n) (hq : qs.length = n) (hn : n ≤ 1048576) (hb : b < w.heap.size) (hb2 : b2 < w.heap.size)
    (hc : ∀ i, i < n → w.cell? ⟨b, o + i * 2, none⟩ = some (.int .i64 (pB ps i)) ∧ ∃ da c, w.cell? ⟨b, o + i * 2 + 1, none⟩ = some (.slice da (pD ps i).length c) ∧ Rd .u8 w (.slice da (pD ps i).length c) (pD ps i))
    (hc2 : ∀ i, i < n → w.cell? ⟨b2, o2 + i * 2, none⟩ = some (.int .i64 (pB qs i)) ∧ ∃ da c, w.cell? ⟨b2, o2 + i * 2 + 1, none⟩ = some (.slice da (pD qs i).length c) ∧ Rd .u8 w (.slice da (pD qs i).length c) (pD qs i)) :
    Calls Tryd.prog 48 #[.slice (some ⟨b, o, none⟩) n ca, .slice (some ⟨b2, o2, none⟩) n cb] w fun e w' => e = .returned (.bool (decide (ps = qs))) ∧ Below w.heap.size w w' := by
  have HC : Hid (∀ i, i < n → w.cell? ⟨b, o + i * 2, none⟩ = some (.int .i64 (pB ps i)) ∧ ∃ da c, w.cell? ⟨b, o + i * 2 + 1, none⟩ = some (.slice da (pD ps i).length c) ∧ Rd .u8 w (.slice da (pD ps i).length c) (pD ps i)) := hc
  have HC2 : Hid (∀ i, i < n → w.cell? ⟨b2, o2 + i * 2, none⟩ = some (.int .i64 (pB qs i)) ∧ ∃ da c, w.cell? ⟨b2, o2 + i * 2 + 1, none⟩ = some (.slice da (pD qs i).length c) ∧ Rd .u8 w (.slice da (pD qs i).length c) (pD qs i)) := hc2
  have HP : Hid (ps.length = n) := hp
  have HQ : Hid (qs.length = n) := hq
  clear hc hc2 hp hq
  have h1 : ((n : Int) != (n : Int)) = false := by simp
  go_enter Tryd.func48, Tryd.ntmps48
  go_wp2
  go_loopw [5] (fun i wr => ∃ k : Nat, k ≤ n ∧ i = .int .i64 k ∧ Hid (∀ i, i < k → pB ps i = pB qs i ∧ pD ps i = pD qs i) ∧ Below w.heap.size w wr) (fun i _ => n - (intOf i).toNat)
  case atStart => exact ⟨0, Nat.zero_le _, rfl, fun i hi => by omega, Below.refl _ _⟩
  case round =>
    obtain ⟨k, hk, rfl, HT, hg⟩ := hrel
    by_cases hlt : k < n
    · obtain ⟨e1, da, dc, e2, r⟩ := HC.out k hlt
      obtain ⟨g1, da2, dc2, g2, r2⟩ := HC2.out k hlt
      have e1' := (hg.cell (p := ⟨b, o + k * 2, none⟩) hb).trans e1
      have e2' := (hg.cell (p := ⟨b, o + k * 2 + 1, none⟩) hb).trans e2
      have g1' := (hg.cell (p := ⟨b2, o2 + k * 2, none⟩) hb2).trans g1
      have g2' := (hg.cell (p := ⟨b2, o2 + k * 2 + 1, none⟩) hb2).trans g2
      have hltI : (k : Int) < (n : Int) := by omega
      have HE : Hid (∀ q, Calls Tryd.prog 89 #[.agg #[.int .i64 (pB ps k), .slice da (pD ps k).length dc], .agg #[.int .i64 (pB qs k), .slice da2 (pD qs k).length dc2]] (wr.drewN q) fun e w' => e = .returned (.bool (decide (pB ps k = pB qs k ∧ pD ps k = pD qs k))) ∧ Below w.heap.size w w') := by
        intro q
        refine (eqWrite_any _ _ _ _ _ (pD ps k) (pD qs k) ((r.below hg).drewN q) ((r2.below hg).drewN q)).mono ?_
        rintro e w' ⟨rfl, b'⟩
        exact ⟨rfl, (hg.trans ((below_drewN' wr q).mono hg.size)).trans (b'.mono hg.size)⟩
      clear e1 e2 g1 g2 r r2 hg
      by_cases heq : pB ps k = pB qs k ∧ pD ps k = pD qs k
      · have HQ1 : Hid (pB ps k = pB qs k ∧ pD ps k = pD qs k) := heq
        have HD : Hid (decide (pB ps k = pB qs k ∧ pD ps k = pD qs k) = true) := by show _ = _; rw [decide_eq_true_eq]; exact heq
        clear heq
        go_wp2
        go_region_with (go_at_call 89; refine (HE.out 1).mono ?_; rintro e w' ⟨rfl, b'⟩; rw [HD.out])
        all_goals
          have HB : Hid (Below w.heap.size w w') := b'
          clear b'
          go_wp2
          go_roundw
          case rel => exact ⟨k + 1, by omega, by go_num, (fun i hi => by by_cases e : i = k; (subst e; exact HQ1.out); exact HT.out i (by omega)), HB.out⟩
          case measure => simp [intOf]; omega
      · have HD : Hid (decide (pB ps k = pB qs k ∧ pD ps k = pD qs k) = false) := by show _ = _; rw [decide_eq_false_iff_not]; exact heq
        have HN : Hid (decide (ps = qs) = false) := by show _ = _; rw [decide_eq_false_iff_not]; intro h; subst h; exact heq ⟨rfl, rfl⟩
        clear heq
        go_wp2
        go_region_with (go_at_call 89; refine (HE.out 1).mono ?_; rintro e w' ⟨rfl, b'⟩; rw [HD.out])
        all_goals
          have HB : Hid (Below w.heap.size w w') := b'
          clear b'
          go_wp2
          go_ret
          exact ⟨ret_bool HN.out.symm, HB.out⟩
    · have HY : Hid (decide (ps = qs) = true) := by show _ = _; rw [decide_eq_true_eq]; exact recs_ext (by rw [HP.out, HQ.out]) (fun i hi => HT.out i (by rw [HP.out] at hi; omega))
      have HG : Hid (Below w.heap.size w wr) := hg
      clear hg
      go_wp2
      go_ret
      exact ⟨ret_bool HY.out.symm, HG.out⟩

set_option maxHeartbeats 400000 in
theorem eqWriteS_len (w : World) (ao bo : Option Addr) (n m ca cb : Nat) (h : n ≠ m) :
    Calls Tryd.prog 48 #[.slice ao n ca, .slice bo m cb] w fun e w' => e = .returned (.bool false) ∧ w' = w := by
  have h1 : ((n : Int) != (m : Int)) = true := by rw [bne_iff_ne]; omega
  go_enter Tryd.func48, Tryd.ntmps48
  go_wp2
  go_ret
  exact ⟨rfl, rfl⟩

theorem eqWriteS_any (w : World) (va vb : Value) (ps qs : List (Int × List Int)) (ha : RdW w va ps) (hb : RdW w vb qs) (hn : ps.length ≤ 1048576) :
    Calls Tryd.prog 48 #[va, vb] w fun e w' => e = .returned (.bool (decide (ps = qs))) ∧ Below w.heap.size w w' := by
  obtain ⟨ao, ca, rfl, h1, h2, h3⟩ := ha
  obtain ⟨bo, cb, rfl, k1, k2, k3⟩ := hb
  by_cases hne : ps.length = qs.length
  · rcases h3 with rfl | ⟨b, o, rfl, hb, hc⟩
    · have hy : qs = [] := List.eq_nil_of_length_eq_zero hne.symm
      subst hy
      refine (eqWriteS_nil w ao bo ca cb).mono ?_
      rintro e w' ⟨rfl, rfl⟩
      exact ⟨ret_bool (by simp), Below.refl _ _⟩
    · rcases k3 with rfl | ⟨b2, o2, rfl, hb2, hc2⟩
      · have hx : ps = [] := List.eq_nil_of_length_eq_zero hne
        subst hx
        refine (eqWriteS_nil w _ bo ca cb).mono ?_
        rintro e w' ⟨rfl, rfl⟩
        exact ⟨ret_bool (by simp), Below.refl _ _⟩
      · rw [← hne] at hc2 ⊢
        exact eqWriteS_row w b o b2 o2 ps.length ca cb ps qs rfl hne.symm hn hb hb2 hc hc2
  · refine (eqWriteS_len w ao bo _ _ ca cb hne).mono ?_
    rintro e w' ⟨rfl, rfl⟩
    exact ⟨ret_bool (by symm; rw [decide_eq_false_iff_not]; intro h; exact hne (by rw [h])), Below.refl _ _⟩

set_option maxHeartbeats 400000 in
theorem eqDisk_any (w : World) (va vb pa pb : Value) (xs ys : List Int) (ps qs : List (Int × List Int)) (ha : Rd .u8 w va xs) (hb : Rd .u8 w vb ys) (hp : RdW w pa ps) (hq : RdW w pb qs) (hn : ps.length ≤ 1048576) :
    Calls Tryd.prog 9 #[.agg #[va, pa], .agg #[vb, pb]] w fun e w' => e = .returned (.bool (decide (xs = ys ∧ ps = qs))) ∧ Below w.heap.size w w' := by
  have B0 : Hid (Below w.heap.size w ((w.alloc (.cells #[va, pa] 27)).alloc (.cells #[vb, pb] 27))) := ((Below.refl _ _).alloc (Nat.le_refl _) _).alloc (by simp) _
  have RA : Hid (Rd .u8 ((w.alloc (.cells #[va, pa] 27)).alloc (.cells #[vb, pb] 27)) va xs) := ha.below B0.out
  have RB : Hid (Rd .u8 ((w.alloc (.cells #[va, pa] 27)).alloc (.cells #[vb, pb] 27)) vb ys) := hb.below B0.out
  have PA : Hid (RdW ((w.alloc (.cells #[va, pa] 27)).alloc (.cells #[vb, pb] 27)) pa ps) := hp.below B0.out
  have PB : Hid (RdW ((w.alloc (.cells #[va, pa] 27)).alloc (.cells #[vb, pb] 27)) pb qs) := hq.below B0.out
  clear ha hb hp hq
  go_enter Tryd.func9, Tryd.ntmps9
  go_wp2_with fail
  refine (eqByteS_any _ _ _ xs ys RA.out RB.out).mono ?_
  rintro e w1 ⟨rfl, q1, rfl⟩
  by_cases h : xs = ys
  · have hd : decide (xs = ys) = true := by simp [h]
    rw [hd]
    have HE : Hid (xs = ys) := h
    clear h
    go_wp2_with fail
    refine (eqWriteS_any _ _ _ ps qs (PA.out.below (below_drewN' _ q1)) (PB.out.below (below_drewN' _ q1)) hn).mono ?_
    rintro e w2 ⟨rfl, b2⟩
    have B2 : Hid (Below w.heap.size w w2) := (B0.out.trans ((below_drewN' _ q1).mono (by simp; omega))).trans (b2.mono (by simp; omega))
    clear b2
    by_cases h2 : ps = qs
    · have hd2 : decide (ps = qs) = true := by simp [h2]
      have hd3 : decide (xs = ys ∧ ps = qs) = true := by rw [decide_eq_true_eq]; exact ⟨HE.out, h2⟩
      rw [hd2]
      clear h2
      go_wp2
      go_ret
      exact ⟨ret_bool hd3.symm, B2.out⟩
    · have hd2 : decide (ps = qs) = false := by simp [h2]
      have hd3 : decide (xs = ys ∧ ps = qs) = false := by simp [h2]
      rw [hd2]
      clear h2
      go_wp2
      go_ret
      exact ⟨ret_bool hd3.symm, B2.out⟩
  · have hd : decide (xs = ys) = false := by simp [h]
    have hd3 : decide (xs = ys ∧ ps = qs) = false := by simp [h]
    rw [hd]
    have BE : Hid (Below w.heap.size w (((w.alloc (.cells #[va, pa] 27)).alloc (.cells #[vb, pb] 27)).drewN q1)) := B0.out.trans ((below_drewN' _ q1).mono (by simp; omega))
    clear h
    go_wp2
    go_ret
    exact ⟨ret_bool hd3.symm, BE.out⟩

end Go.Proofs.YtoljmlhnbmeloaaDoor

namespace Go.Proofs.YtoljmlhnbmeloaaDoor
open Go.RowKit

/-- Only blocks from lo to hi may have turned. -/
structure Within (lo hi : Nat) (w w' : World) : Prop where
  os : w'.os = w.os
  tape : w'.tape = w.tape
  output : w'.output = w.output
  size : w.heap.size ≤ w'.heap.size
  block : ∀ k, k < w.heap.size → (k < lo ∨ hi ≤ k) → w'.heap[k]? = w.heap[k]?

theorem Within.refl (lo hi : Nat) (w : World) : Within lo hi w w := ⟨rfl, rfl, rfl, Nat.le_refl _, fun _ _ _ => rfl⟩
theorem Within.trans {lo hi : Nat} {a b c : World} (h : Within lo hi a b) (k : Within lo hi b c) : Within lo hi a c :=
  ⟨k.os.trans h.os, k.tape.trans h.tape, k.output.trans h.output, Nat.le_trans h.size k.size, fun i hi hj => (k.block i (Nat.lt_of_lt_of_le hi h.size) hj).trans (h.block i hi hj)⟩
theorem Within.of_grown {lo hi : Nat} {a b : World} {row : Option Nat} (h : a.grownBy b row) (hr : ∀ g, row = some g → lo ≤ g ∧ g < hi) : Within lo hi a b :=
  ⟨h.os, h.tape, h.output, h.size, fun k hk hj => h.block k hk (fun e => by have := hr k e.symm; omega)⟩
theorem Within.of_below {lo hi : Nat} {a b : World} (h : Below a.heap.size a b) : Within lo hi a b := ⟨h.os, h.tape, h.output, h.size, fun k hk _ => h.block k hk⟩
theorem Within.setCell {lo hi g : Nat} (w : World) (h1 : lo ≤ g) (h2 : g < hi) (j : Nat) (u : Value) : Within lo hi w (w.setCell ⟨g, j, none⟩ u) :=
  Within.of_grown (grownBy_set w w g j u (World.grownBy.refl _ _)) (fun q e => by injection e with e; omega)
theorem Within.below {lo hi B : Nat} {a b c : World} (hb : Below B a b) (h : Within lo hi b c) (hB : B ≤ lo) (hs : B ≤ b.heap.size) : Below B a c :=
  ⟨h.os.trans hb.os, h.tape.trans hb.tape, h.output.trans hb.output, Nat.le_trans hb.size h.size, fun k hk => (h.block k (by omega) (.inl (by omega))).trans (hb.block k hk)⟩
theorem Within.own {lo hi : Nat} {a b : World} (h : Within lo hi a b) {k : IntKind} {e : TypeId} {B : Nat} {v : Value} {xs : List Int} (ho : Own k e a B v xs) (hv : ∀ g, v.ownBlock = some g → g < lo ∨ hi ≤ g) : Own k e b B v xs := by
  refine ⟨ho.1, ?_⟩
  rcases ho.2 with hn | ⟨g, cap, cur, rfl, hbg, hgg, rest⟩
  · exact .inl hn
  · exact .inr ⟨g, cap, cur, rfl, hbg, by rw [h.block g (Array.getElem?_eq_some_iff.1 hgg).1 (hv g rfl)]; exact hgg, rest⟩
theorem Within.ownW {lo hi : Nat} {a b : World} (h : Within lo hi a b) {e : TypeId} {B : Nat} {v : Value} {ps : List (Int × List Int)} {dv : Nat → Value} (ho : OwnW e a B v ps dv)
    (hv : ∀ g, v.ownBlock = some g → g < lo ∨ hi ≤ g) (hd : ∀ i, i < ps.length → ∀ g, (dv i).ownBlock = some g → g < lo ∨ hi ≤ g) : OwnW e b B v ps dv := by
  refine ⟨⟨ho.1.1, ?_⟩, fun i hi => h.own (ho.2.1 i hi) (hd i hi), ho.2.2⟩
  rcases ho.1.2 with hn | ⟨g, cap, cur, rfl, hbg, hgg, rest⟩
  · exact .inl hn
  · exact .inr ⟨g, cap, cur, rfl, hbg, by rw [h.block g (Array.getElem?_eq_some_iff.1 hgg).1 (hv g rfl)]; exact hgg, rest⟩
theorem Within.box2 {lo hi : Nat} {a b : World} (h : Within lo hi a b) {q : Nat} {x y : Value} (hb : Box2 a q x y) (hq : q < lo ∨ hi ≤ q) : Box2 b q x y :=
  ⟨Nat.lt_of_lt_of_le hb.1 h.size, (World.cell?_of_block (w := a) (a := ⟨q, 0, none⟩) (h.block q hb.1 hq)).trans hb.2.1, (World.cell?_of_block (w := a) (a := ⟨q, 1, none⟩) (h.block q hb.1 hq)).trans hb.2.2⟩

/-- The mark of record i. -/
def ks (ps : List (Int × List Int)) (k : Int) (i : Nat) : Int := k + i + tot (ps.take i)
theorem ks_succ (ps : List (Int × List Int)) (k : Int) (i : Nat) (h : i < ps.length) : ks ps k (i + 1) = ks ps k i + 1 + (pD ps i).length := by
  unfold ks; rw [tot_take_succ ps i h]; omega
def mkP (ps : List (Int × List Int)) (k : Int) : List (Int × List Int) := (List.range ps.length).map fun i => (ks ps k i, marks (ks ps k i + 1) (pD ps i).length)
theorem mkP_len (ps : List (Int × List Int)) (k : Int) : (mkP ps k).length = ps.length := by simp [mkP]
theorem mkP_B (ps : List (Int × List Int)) (k : Int) (i : Nat) (h : i < ps.length) : pB (mkP ps k) i = ks ps k i := by unfold pB mkP; simp [List.getD, h]
theorem mkP_D (ps : List (Int × List Int)) (k : Int) (i : Nat) (h : i < ps.length) : pD (mkP ps k) i = marks (ks ps k i + 1) (pD ps i).length := by show ((mkP ps k).getD i (0, [])).2 = _; unfold mkP; simp [List.getD, h]

def mB (ps : List (Int × List Int)) (k0 : Int) (k i : Nat) : Int := if i < k then ks ps k0 i else pB ps i
def mD (ps : List (Int × List Int)) (k0 : Int) (k i : Nat) : List Int := if i < k then marks (ks ps k0 i + 1) (pD ps i).length else pD ps i

theorem tot_le (ps : List (Int × List Int)) (i : Nat) : tot (ps.take i) ≤ tot ps := by
  unfold tot
  conv => rhs; rw [← List.take_append_drop i ps, List.map_append, List.sum_append]
  omega

theorem rowW_setB {n k : Nat} {f f' : Nat → Int} {g : Nat → Value} (hk : k < n) (hf : ∀ i, i ≠ k → f i = f' i) : (rowW n f g).set (k * 2) (.int .i64 (f' k)) = rowW n f' g := by
  have h := rowW_set (n := n) (f := f) (f' := f') (g := g) (g' := g) hk hf (fun _ _ => rfl)
  rw [← h]
  apply List.ext_getElem?
  intro j
  by_cases e : k * 2 + 1 = j
  · subst e
    rw [List.getElem?_set_self (by simp [rowW_length]; omega), List.getElem?_set_ne (by omega), rowW_get _ _ _ _ (by omega), if_neg (by omega), show (k * 2 + 1) / 2 = k by omega]
  · rw [List.getElem?_set_ne (l := (rowW n f g).set (k * 2) (.int .i64 (f' k))) e]

set_option maxHeartbeats 1000000 in
set_option maxRecDepth 100000 in
theorem markWriteS_row (w : World) (lo hi g n cap : Nat) (ps : List (Int × List Int)) (dv : Nat → Value) (k0 : Int) (hp : ps.length = n) (ho : OwnW 131 w lo (.slice (some ⟨g, 0, none⟩) n cap) ps dv)
    (hg : g < hi) (hd : ∀ i, i < n → ∀ q, (dv i).ownBlock = some q → q < hi) (hk0 : 0 ≤ k0) (hk1 : k0 ≤ 4194304) (hn : n ≤ 1048576) (ht : tot ps ≤ 1048576) :
    Calls Tryd.prog 49 #[.slice (some ⟨g, 0, none⟩) n cap, .int .i64 k0] w fun e w' => e = .returned (.int .i64 (ks ps k0 n)) ∧ OwnW 131 w' lo (.slice (some ⟨g, 0, none⟩) n cap) (mkP ps k0) dv ∧ Within lo hi w w' ∧ (∀ q, q < w.heap.size → some q ≠ Value.ownBlock (.slice (some ⟨g, 0, none⟩) n cap) → (∀ i, i < n → (dv i).ownBlock ≠ some q) → w'.heap[q]? = w.heap[q]?) := by
  have hlo : lo ≤ g := (World.ownsRow.lt ho.1 g rfl).1
  have HP : Hid (ps.length = n) := hp
  have HD : Hid (∀ i, i < n → ∀ q, (dv i).ownBlock = some q → q < hi) := hd
  have HO : Hid (OwnW 131 w lo (.slice (some ⟨g, 0, none⟩) n cap) ps dv) := ho
  clear hd ho hp
  go_enter Tryd.func49, Tryd.ntmps49
  go_wp2
  go_loopw [1, 5] (fun kk i wr => ∃ k : Nat, k ≤ n ∧ i = .int .i64 k ∧ kk = .int .i64 (ks ps k0 k) ∧ wr.ownsRow lo 131 2 (.slice (some ⟨g, 0, none⟩) n cap) n (rowW n (mB ps k0 k) dv) ∧ Hid (∀ i, i < n → Own .u8 5 wr lo (dv i) (mD ps k0 k i)) ∧ Within lo hi w wr ∧ Hid (∀ q, q < w.heap.size → some q ≠ Value.ownBlock (.slice (some ⟨g, 0, none⟩) n cap) → (∀ i, i < n → (dv i).ownBlock ≠ some q) → wr.heap[q]? = w.heap[q]?)) (fun _ i _ => n - (intOf i).toNat)
  case atStart => exact ⟨0, Nat.zero_le _, rfl, (by unfold ks; simp [tot]), (by have := HO.out.1; rw [HP.out] at this; exact this), (fun i hi => HO.out.2.1 i (by rw [HP.out]; exact hi)), Within.refl _ _ _, fun _ _ _ _ => rfl⟩
  case round =>
    obtain ⟨k, hk, rfl, rfl, hr, HI, hw, HF⟩ := hrel
    by_cases hlt : k < n
    · have hltI : (k : Int) < (n : Int) := by omega
      have f0 := World.ownsRow.frozenAt hr (k * 2)
      have d0 := (World.ownsRow.cellAt hr (k * 2) (by omega)).trans (rowW_get n _ _ (k * 2) (by omega))
      have d1 := (World.ownsRow.cellAt hr (k * 2 + 1) (by omega)).trans (rowW_get n _ _ (k * 2 + 1) (by omega))
      rw [if_neg (by omega), show (k * 2 + 1) / 2 = k by omega] at d1
      obtain ⟨x0, d0⟩ : ∃ x, wr.cell? ⟨g, k * 2, none⟩ = some x := ⟨_, d0⟩
      have hb1 := tot_le ps k
      have hkk : 0 ≤ ks ps k0 k ∧ ks ps k0 k ≤ 6291457 := by unfold ks; omega
      have HKS : Hid (ks ps k0 (k + 1) = ks ps k0 k + 1 + (pD ps k).length) := ks_succ ps k0 k (by rw [HP.out]; exact hlt)
      have hlen : (pD ps k).length ≤ 1048576 := by
        have h1 := tot_take_succ ps k (by rw [HP.out]; exact hlt)
        have h2 := tot_le ps (k + 1)
        omega
      have HR : Hid (wr.ownsRow lo 131 2 (.slice (some ⟨g, 0, none⟩) n cap) n (rowW n (mB ps k0 k) dv)) := hr
      have HW : Hid (Within lo hi w wr) := hw
      have OK : Hid (Own .u8 5 wr lo (dv k) (pD ps k)) := by have := HI.out k hlt; unfold mD at this; rw [if_neg (by omega)] at this; exact this
      have NE : Hid (∀ i, i < n → (dv i).ownBlock = none ∨ (dv i).ownBlock ≠ some g) := fun i hi => by have := HO.out.2.2.2 i (by rw [HP.out]; exact hi); exact this
      obtain ⟨da, dc, hdk⟩ := OK.out.slice
      rw [hdk] at d1
      clear hr hw hb1
      generalize hkx : ks ps k0 k = kx at *
      have HKX : Hid (ks ps k0 k = kx) := hkx
      clear hkx
      go_wp2_with fail
      have OK2 : Hid (Own .u8 5 (wr.setCell ⟨g, k * 2, none⟩ (.int .i64 kx)) lo (.slice da (pD ps k).length dc) (pD ps k)) := by
        have h1 := OK.out.setAt (j := k * 2) (u := .int .i64 kx) (NE.out k hlt); rw [hdk] at h1; exact h1
      refine (markByteS_any _ lo _ (pD ps k) (kx + 1) OK2.out (by omega) (by omega) (by omega)).mono ?_
      rintro e w2 ⟨rfl, o2, g2⟩
      have HDK : Hid (dv k = .slice da (pD ps k).length dc) := hdk
      have O2 : Hid (Own .u8 5 w2 lo (.slice da (pD ps k).length dc) (marks (kx + 1) (pD ps k).length)) := o2
      have G2 : Hid ((wr.setCell ⟨g, k * 2, none⟩ (.int .i64 kx)).grownBy w2 (Value.ownBlock (.slice da (pD ps k).length dc))) := g2
      clear o2 g2 OK OK2 d0 d1 f0 hdk
      have S : Hid (w2.ownsRow lo 131 2 (.slice (some ⟨g, 0, none⟩) n cap) n (rowW n (mB ps k0 (k + 1)) dv) ∧ (∀ i, i < n → Own .u8 5 w2 lo (dv i) (mD ps k0 (k + 1) i)) ∧ Within lo hi w w2 ∧ (∀ q, q < w.heap.size → some q ≠ Value.ownBlock (.slice (some ⟨g, 0, none⟩) n cap) → (∀ i, i < n → (dv i).ownBlock ≠ some q) → w2.heap[q]? = w.heap[q]?)) := by
        have nek := NE.out k hlt
        rw [HDK.out] at nek
        have r1 := (World.ownsRow.stored HR.out (k * 2) (.int .i64 kx)).1
        rw [show Value.int .i64 kx = .int .i64 (mB ps k0 (k + 1) k) by unfold mB; rw [if_pos (by omega), HKX.out], rowW_setB hlt (by intro i hi; unfold mB; by_cases h : i < k; (rw [if_pos h, if_pos (by omega)]); (rw [if_neg h, if_neg (by omega)]))] at r1
        refine ⟨World.ownsRow.kept (by rw [show mB ps k0 (k + 1) k = kx by unfold mB; rw [if_pos (by omega), HKX.out]] at r1; exact r1) G2.out ?_, fun i hi => ?_, (HW.out.trans (Within.setCell wr hlo hg _ _)).trans (Within.of_grown G2.out (fun q hq => ⟨(O2.out.lt q hq).1, HD.out k hlt q (by rw [HDK.out]; exact hq)⟩)), fun q hq hn1 hn2 => ?_⟩
        · right
          rcases nek with h | h
          · rw [h]; simp [Value.ownBlock]
          · exact fun e => h e.symm
        · by_cases e : i = k
          · subst e
            unfold mD
            rw [if_pos (by omega), HDK.out, HKX.out]
            exact O2.out
          · have h1 : Own .u8 5 (wr.setCell ⟨g, k * 2, none⟩ (.int .i64 kx)) lo (dv i) (mD ps k0 k i) := (HI.out i hi).setAt (NE.out i hi)
            have h2 : mD ps k0 (k + 1) i = mD ps k0 k i := by unfold mD; by_cases h : i < k; (rw [if_pos h, if_pos (by omega)]); (rw [if_neg h, if_neg (by omega)])
            rw [h2]
            have ne := HO.out.2.2.1 i k (by rw [HP.out]; exact hi) (by rw [HP.out]; exact hlt) e
            unfold Ne2 at ne
            rw [HDK.out] at ne
            exact h1.other G2.out ne
        · have e1 : (wr.setCell ⟨g, k * 2, none⟩ (.int .i64 kx)).heap[q]? = wr.heap[q]? := Below.heap_setCell _ _ _ _ (fun e => hn1 (by simp [Value.ownBlock, e]))
          rw [G2.out.block q (by have := HW.out.size; simp; omega) (fun e => hn2 k hlt (by rw [HDK.out]; exact e.symm)), e1]
          exact HF.out q hq hn1 hn2
      clear HI HR HW O2 G2
      go_wp2
      go_roundw
      case rel => exact ⟨k + 1, by omega, by go_num, (by rw [HKS.out]), S.out.1, S.out.2.1, S.out.2.2.1, S.out.2.2.2⟩
      case measure => simp [intOf]; omega
    · have hkn : k = n := by omega
      subst hkn
      have FIN : Hid (OwnW 131 wr lo (.slice (some ⟨g, 0, none⟩) k cap) (mkP ps k0) dv ∧ Within lo hi w wr) := by
        refine ⟨⟨?_, fun i hi => ?_, fun i j hi hj => HO.out.2.2.1 i j (by rw [mkP_len] at hi; exact hi) (by rw [mkP_len] at hj; exact hj), fun i hi => HO.out.2.2.2 i (by rw [mkP_len] at hi; exact hi)⟩, hw⟩
        · rw [mkP_len, HP.out, rowW_congr (f' := mB ps k0 k) (g' := dv) (fun i hi => by rw [mkP_B ps k0 i (by rw [HP.out]; exact hi)]; unfold mB; rw [if_pos hi]) (fun _ _ => rfl)]
          exact hr
        · rw [mkP_len, HP.out] at hi
          have := HI.out i hi
          unfold mD at this
          rw [if_pos hi] at this
          rw [mkP_D ps k0 i (by rw [HP.out]; exact hi)]
          exact this
      clear hr hw HI
      go_wp2
      go_ret
      exact ⟨rfl, FIN.out.1, FIN.out.2, HF.out⟩

theorem markWriteS_any (w : World) (lo hi : Nat) (v : Value) (ps : List (Int × List Int)) (dv : Nat → Value) (k0 : Int) (ho : OwnW 131 w lo v ps dv)
    (hg : ∀ g, v.ownBlock = some g → g < hi) (hd : ∀ i, i < ps.length → ∀ q, (dv i).ownBlock = some q → q < hi) (hk0 : 0 ≤ k0) (hk1 : k0 ≤ 4194304) (hn : ps.length ≤ 1048576) (ht : tot ps ≤ 1048576) :
    Calls Tryd.prog 49 #[v, .int .i64 k0] w fun e w' => e = .returned (.int .i64 (ks ps k0 ps.length)) ∧ OwnW 131 w' lo v (mkP ps k0) dv ∧ Within lo hi w w' ∧ (∀ q, q < w.heap.size → some q ≠ v.ownBlock → (∀ i, i < ps.length → (dv i).ownBlock ≠ some q) → w'.heap[q]? = w.heap[q]?) := by
  rcases ho.1.2 with ⟨rfl, h0⟩ | ⟨g, cap, cur, rfl, _⟩
  · have : ps = [] := List.eq_nil_of_length_eq_zero h0
    subst this
    refine (markWriteS_nil w none 0 k0).mono ?_
    rintro e w' ⟨rfl, rfl⟩
    exact ⟨ret_int (by unfold ks; simp [tot]), ho, Within.refl _ _ _, fun _ _ _ _ => rfl⟩
  · exact markWriteS_row w lo hi g ps.length cap ps dv k0 rfl ho (hg g rfl) hd hk0 hk1 hn ht

set_option maxHeartbeats 1000000 in
set_option maxRecDepth 100000 in
theorem heldWriteS_row (w : World) (b o n cap : Nat) (ps : List (Int × List Int)) (k0 : Int) (hp : ps.length = n)
    (hc : ∀ i, i < n → w.cell? ⟨b, o + i * 2, none⟩ = some (.int .i64 (pB (mkP ps k0) i)) ∧ ∃ da c, w.cell? ⟨b, o + i * 2 + 1, none⟩ = some (.slice da (pD (mkP ps k0) i).length c) ∧ Rd .u8 w (.slice da (pD (mkP ps k0) i).length c) (pD (mkP ps k0) i))
    (hk0 : 0 ≤ k0) (hk1 : k0 ≤ 4194304) (hn : n ≤ 1048576) (ht : tot ps ≤ 1048576) :
    Calls Tryd.prog 51 #[.slice (some ⟨b, o, none⟩) n cap, .int .i64 k0] w fun e w' => e = .returned (.int .i64 (ks ps k0 n)) ∧ w' = w := by
  have HC : Hid (∀ i, i < n → w.cell? ⟨b, o + i * 2, none⟩ = some (.int .i64 (ks ps k0 i)) ∧ ∃ da c, w.cell? ⟨b, o + i * 2 + 1, none⟩ = some (.slice da (pD ps i).length c) ∧ Rd .u8 w (.slice da (pD ps i).length c) (marks (ks ps k0 i + 1) (pD ps i).length)) := by
    intro i hi
    have := hc i hi
    rw [mkP_B ps k0 i (by omega), mkP_D ps k0 i (by omega), marks_length] at this
    exact this
  have HP : Hid (ps.length = n) := hp
  clear hc hp
  go_enter Tryd.func51, Tryd.ntmps51
  go_wp2
  go_loop [1, 5] (fun kk i => ∃ k : Nat, k ≤ n ∧ i = .int .i64 k ∧ kk = .int .i64 (ks ps k0 k)) (fun _ i => n - (intOf i).toNat)
  case atStart => exact ⟨0, Nat.zero_le _, rfl, by unfold ks; simp [tot]⟩
  case round =>
    obtain ⟨k, hk, rfl, rfl⟩ := hrel
    by_cases hlt : k < n
    · have hltI : (k : Int) < (n : Int) := by omega
      obtain ⟨c1, da, dc, c2, r⟩ := HC.out k hlt
      have hb1 := tot_le ps k
      have hkk : 0 ≤ ks ps k0 k ∧ ks ps k0 k ≤ 6291457 := by unfold ks; omega
      have HKS : Hid (ks ps k0 (k + 1) = ks ps k0 k + 1 + (pD ps k).length) := ks_succ ps k0 k (by rw [HP.out]; exact hlt)
      have hlen : (pD ps k).length ≤ 1048576 := by
        have h1 := tot_take_succ ps k (by rw [HP.out]; exact hlt)
        have h2 := tot_le ps (k + 1)
        omega
      have RR : Hid (Rd .u8 w (.slice da (pD ps k).length dc) (marks (ks ps k0 k + 1) (pD ps k).length)) := r
      clear r hb1
      generalize ks ps k0 k = kx at *
      have t : (kx != kx) = false := by simp
      go_wp2_with fail
      refine (heldByteS_any _ _ (pD ps k).length (kx + 1) RR.out (by omega) (by omega) (by omega)).mono ?_
      rintro e w2 ⟨rfl, hw⟩
      subst hw
      have t2 : ¬ kx + 1 + ((pD ps k).length : Int) < 0 := by omega
      go_wp2
      go_round
      case rel => exact ⟨k + 1, by omega, by go_num, (by rw [HKS.out])⟩
      case measure => simp [intOf]; omega
    · have hkn : k = n := by omega
      subst hkn
      go_wp2
      go_ret
      exact ⟨rfl, rfl⟩

theorem heldWriteS_any (w : World) (v : Value) (ps : List (Int × List Int)) (k0 : Int) (h : RdW w v (mkP ps k0)) (hk0 : 0 ≤ k0) (hk1 : k0 ≤ 4194304) (hn : ps.length ≤ 1048576) (ht : tot ps ≤ 1048576) :
    Calls Tryd.prog 51 #[v, .int .i64 k0] w fun e w' => e = .returned (.int .i64 (ks ps k0 ps.length)) ∧ w' = w := by
  obtain ⟨ao, cap, rfl, k1, k2, k3⟩ := h
  rw [mkP_len] at *
  rcases k3 with h0 | ⟨b, o, rfl, hb, hc⟩
  · have h1 : ps.length = 0 := by have := congrArg List.length h0; rw [mkP_len] at this; simpa using this
    rw [h1]
    refine (heldWriteS_nil w ao cap k0).mono ?_
    rintro e w' ⟨rfl, rfl⟩
    exact ⟨ret_int (by unfold ks; simp [tot]), rfl⟩
  · exact heldWriteS_row w b o ps.length cap ps k0 rfl hc hk0 hk1 hn ht

/-- A disk of the call's own: its bytes in blocks from lo to mid, its records from mid to hi. -/
structure OwnD (w : World) (lo hi : Nat) (vd vp : Value) (dur : List Int) (ps : List (Int × List Int)) (dv : Nat → Value) : Prop where
  d : Own .u8 5 w lo vd dur
  p : OwnW 131 w lo vp ps dv
  dlt : ∀ g, vd.ownBlock = some g → g < hi
  plt : ∀ g, vp.ownBlock = some g → g < hi
  qlt : ∀ i, i < ps.length → ∀ g, (dv i).ownBlock = some g → g < hi
  dp : Ne2 vp vd
  dq : ∀ i, i < ps.length → Ne2 (dv i) vd

theorem OwnD.within {w w' : World} {lo hi l h : Nat} {vd vp : Value} {dur : List Int} {ps : List (Int × List Int)} {dv : Nat → Value} (ho : OwnD w lo hi vd vp dur ps dv) (hw : Within l h w w') (hd : hi ≤ l ∨ h ≤ lo) : OwnD w' lo hi vd vp dur ps dv :=
  ⟨hw.own ho.d (fun g hg => by have := (ho.d.lt g hg).1; have := ho.dlt g hg; omega),
   hw.ownW ho.p (fun g hg => by have := (World.ownsRow.lt ho.p.1 g hg).1; have := ho.plt g hg; omega) (fun i hi g hg => by have := ((ho.p.2.1 i hi).lt g hg).1; have := ho.qlt i hi g hg; omega),
   ho.dlt, ho.plt, ho.qlt, ho.dp, ho.dq⟩
theorem OwnD.below {w w' : World} {lo hi : Nat} {vd vp : Value} {dur : List Int} {ps : List (Int × List Int)} {dv : Nat → Value} (ho : OwnD w lo hi vd vp dur ps dv) (hb : Below w.heap.size w w') : OwnD w' lo hi vd vp dur ps dv :=
  ⟨ho.d.below hb, ho.p.below hb, ho.dlt, ho.plt, ho.qlt, ho.dp, ho.dq⟩

set_option maxHeartbeats 400000 in
theorem markDisk_any (w : World) (lo hi : Nat) (vd vp : Value) (dur : List Int) (ps : List (Int × List Int)) (dv : Nat → Value) (k : Int) (ho : OwnD w lo hi vd vp dur ps dv) (hhi : hi ≤ w.heap.size) (hk0 : 0 ≤ k) (hk1 : k ≤ 2097152) (hl : dur.length ≤ 1048576) (hn : ps.length ≤ 1048576) (ht : tot ps ≤ 1048576) :
    Calls Tryd.prog 10 #[.agg #[vd, vp], .int .i64 k] w fun e w' => e = .returned (.int .i64 (ks ps (k + dur.length) ps.length)) ∧ OwnD w' lo hi vd vp (marks k dur.length) (mkP ps (k + dur.length)) dv ∧ Within lo hi w w' := by
  have BA : Hid (Below w.heap.size w (w.alloc (.cells #[vd, vp] 27))) := (Below.refl _ _).alloc (Nat.le_refl _) _
  have HO : Hid (OwnD (w.alloc (.cells #[vd, vp] 27)) lo hi vd vp dur ps dv) := ho.below BA.out
  have X0 : Hid (Box2 (w.alloc (.cells #[vd, vp] 27)) w.heap.size vd vp) := Box2.new _ _ _ _
  clear ho
  go_enter Tryd.func10, Tryd.ntmps10
  go_wp2_with fail
  generalize w.alloc (.cells #[vd, vp] 27) = w0 at *
  refine (markByteS_any _ lo _ dur k HO.out.d hk0 (by omega) (by omega)).mono ?_
  rintro e w1 ⟨rfl, o1, g1⟩
  have W1 : Hid (Within lo hi w0 w1) := Within.of_grown g1 (fun q hq => ⟨(HO.out.d.lt q hq).1, HO.out.dlt q hq⟩)
  have O1 : Hid (Own .u8 5 w1 lo vd (marks k dur.length)) := o1
  have P1 : Hid (OwnW 131 w1 lo vp ps dv) := ⟨World.ownsRow.kept HO.out.p.1 g1 HO.out.dp, fun i hi => (HO.out.p.2.1 i hi).other g1 (HO.out.dq i hi), HO.out.p.2.2⟩
  have X1 : Hid (Box2 w1 w.heap.size vd vp) := W1.out.box2 X0.out (.inr hhi)
  obtain ⟨z1, c0, c1⟩ := X1.out
  clear o1 g1
  go_wp2_with fail
  refine (markWriteS_any _ lo hi _ ps dv (k + dur.length) P1.out HO.out.plt HO.out.qlt (by omega) (by omega) hn ht).mono ?_
  rintro e w2 ⟨rfl, o2, g2, f2⟩
  have FIN : Hid (OwnD w2 lo hi vd vp (marks k dur.length) (mkP ps (k + dur.length)) dv ∧ Within lo hi w w2) := by
    refine ⟨⟨?_, o2, HO.out.dlt, HO.out.plt, fun i hi => HO.out.qlt i (by rw [mkP_len] at hi; exact hi), HO.out.dp, fun i hi => HO.out.dq i (by rw [mkP_len] at hi; exact hi)⟩, ((Within.of_below BA.out).trans W1.out).trans g2⟩
    refine ⟨O1.out.1, ?_⟩
    rcases O1.out.2 with hn | ⟨g, cap, cur, hv, hbg, hgg, rest⟩
    · exact .inl hn
    · refine .inr ⟨g, cap, cur, hv, hbg, ?_, rest⟩
      have hb : vd.ownBlock = some g := by rw [hv]; rfl
      rw [f2 g (Array.getElem?_eq_some_iff.1 hgg).1 ?_ ?_]
      · exact hgg
      · rcases HO.out.dp with h | h
        · rw [h]; simp
        · rw [← hb]; exact fun e => h e.symm
      · intro i hi
        rcases HO.out.dq i hi with h | h
        · rw [h]; simp
        · rw [← hb]; exact h
  clear o2 g2 f2
  go_wp2
  go_ret
  exact ⟨rfl, FIN.out.1, FIN.out.2⟩

set_option maxHeartbeats 400000 in
theorem heldDisk_any (w : World) (vd vp : Value) (dl : Nat) (ps : List (Int × List Int)) (k : Int) (h : Rd .u8 w vd (marks k dl)) (hp : RdW w vp (mkP ps (k + dl))) (hk0 : 0 ≤ k) (hk1 : k ≤ 2097152) (hl : dl ≤ 1048576) (hn : ps.length ≤ 1048576) (ht : tot ps ≤ 1048576) :
    Calls Tryd.prog 11 #[.agg #[vd, vp], .int .i64 k] w fun e w' => e = .returned (.int .i64 (ks ps (k + dl) ps.length)) ∧ Below w.heap.size w w' := by
  have BA : Hid (Below w.heap.size w (w.alloc (.cells #[vd, vp] 27))) := (Below.refl _ _).alloc (Nat.le_refl _) _
  have HR : Hid (Rd .u8 (w.alloc (.cells #[vd, vp] 27)) vd (marks k dl)) := h.below BA.out
  have HP : Hid (RdW (w.alloc (.cells #[vd, vp] 27)) vp (mkP ps (k + dl))) := hp.below BA.out
  clear h hp
  go_enter Tryd.func11, Tryd.ntmps11
  go_wp2_with fail
  refine (heldByteS_any _ _ dl k HR.out hk0 (by omega) (by omega)).mono ?_
  rintro e w1 ⟨rfl, hw⟩
  subst hw
  have h0 : ¬ (k + (dl : Int)) < 0 := by omega
  go_wp2_with fail
  refine (heldWriteS_any _ _ ps (k + dl) HP.out (by omega) (by omega) hn ht).mono ?_
  rintro e w2 ⟨rfl, hw⟩
  subst hw
  have h1 : ¬ ks ps (k + dl) ps.length < 0 := by unfold ks; omega
  go_wp2
  go_ret
  exact ⟨rfl, BA.out⟩

end Go.Proofs.YtoljmlhnbmeloaaDoor

namespace Go.Proofs.YtoljmlhnbmeloaaDoor
open Go.RowKit

set_option maxHeartbeats 400000 in
set_option maxRecDepth 100000 in
theorem l1Copy_row (w : World) (b o n cap : Nat) (xs : List Int) (hx : xs.length = n) (hb : b < w.heap.size) (hc : ∀ i, i < n → w.cell? ⟨b, o + i, none⟩ = some (.int .u8 (xs.getD i 0))) (hn : n ≤ 1099511627776) :
    Calls Tryd.prog 84 #[.slice (some ⟨b, o, none⟩) n cap] w fun e w' => ∃ v', e = .returned v' ∧ Own .u8 5 w' w.heap.size v' xs ∧ Below w.heap.size w w' := by
  obtain ⟨i0, hi, hz0, hz1, hz2⟩ := info_parts Tryd.infoB
  have HC : Hid (∀ i, i < n → w.cell? ⟨b, o + i, none⟩ = some (.int .u8 (xs.getD i 0))) := hc
  have HX : Hid (xs.length = n) := hx
  clear hc hx
  go_enter Tryd.func84, Tryd.ntmps84
  go_wp2
  go_loopw [3, 4] (fun v i wr => ∃ k : Nat, k ≤ n ∧ i = .int .i64 k ∧ wr.ownsRow w.heap.size 5 1 v k ((xs.take k).map (Value.int .u8)) ∧ Below w.heap.size w wr) (fun _ i _ => n - (intOf i).toNat)
  case atStart => exact ⟨0, Nat.zero_le _, rfl, World.ownsRow_lit w #[] 0 (Nat.le_refl _) (Nat.zero_le _) rfl, (Below.refl _ _).alloc (Nat.le_refl _) _⟩
  case round =>
    obtain ⟨k, hk, rfl, ho, hg⟩ := hrel
    by_cases hlt : k < n
    · have hltI : (k : Int) < (n : Int) := by omega
      have hsrc : wr.cell? ⟨b, o + k, none⟩ = some (.int .u8 (xs.getD k 0)) := (hg.cell (p := ⟨b, o + k, none⟩) hb).trans (HC.out k hlt)
      have HTK : Hid (xs.take (k + 1) = xs.take k ++ [xs.getD k 0]) := take_succ_getD xs k (by rw [HX.out]; exact hlt)
      generalize xs.getD k 0 = x at *
      go_wp2_with (at_builtin; go_must (refine wpList_append_own _ rfl _ _ 24 rfl w.heap.size 5 i0 (.int .u8 0) 1 1 Tryd.underlying24 hi hz0 hz1 hz2 rfl (by decide) _ _ _ rfl (ho.alloc _) ⟨wr.heap.size, 0, none⟩ 1 1 [.int .u8 x] rfl rfl (cell_one_new _ _ _) (by intro u hu; simp at hu; subst hu; rfl) ?c3 ?c4 ?c5 ?_))
      case c3 => unfold maxLen; omega
      case c4 => omega
      case c5 => have := hg.size; simp; omega
      intro v2 w2 ho2 hg2 _
      have HO2 : Hid (w2.ownsRow w.heap.size 5 1 v2 (k + 1) ((xs.take (k + 1)).map (Value.int .u8))) := by
        show World.ownsRow _ _ _ _ _ _ _; rw [HTK.out, List.map_append, List.map_take]; exact ho2
      have HG2 : Hid (Below w.heap.size w w2) := (hg.alloc (hg.size) _).grown hg2 (by have := hg.size; simp; omega) (fun q hq => (ho.lt q hq).1)
      clear ho2 hg2 ho hg
      go_wp2
      go_roundw
      case rel => exact ⟨k + 1, by omega, by go_num, HO2.out, HG2.out⟩
      case measure => simp [intOf]; omega
    · have hkn : k = n := by omega
      subst hkn
      go_wp2
      go_ret
      exact ⟨_, rfl, own_of (ys := xs) HX.out rfl (by rw [List.take_of_length_le (by rw [HX.out]; exact Nat.le_refl _)] at ho; exact ho), hg⟩

set_option maxHeartbeats 400000 in
theorem l1Copy_nil (w : World) (ao : Option Addr) (cap : Nat) :
    Calls Tryd.prog 84 #[.slice ao 0 cap] w fun e w' => ∃ v', e = .returned v' ∧ Own .u8 5 w' w.heap.size v' [] ∧ Below w.heap.size w w' := by
  go_enter Tryd.func84, Tryd.ntmps84
  go_wp2
  go_rounds 1
  go_ret
  exact ⟨_, rfl, World.ownsRow_lit w #[] 0 (Nat.le_refl _) (Nat.zero_le _) rfl, (Below.refl _ _).alloc (Nat.le_refl _) _⟩

theorem l1Copy_any (w : World) (v : Value) (xs : List Int) (h : Rd .u8 w v xs) (hn : xs.length ≤ 1099511627776) :
    Calls Tryd.prog 84 #[v] w fun e w' => ∃ v', e = .returned v' ∧ Own .u8 5 w' w.heap.size v' xs ∧ Below w.heap.size w w' := by
  obtain ⟨ao, cap, rfl, h1, h2, h3⟩ := h
  rcases h3 with rfl | ⟨b, o, rfl, hb, hc⟩
  · exact l1Copy_nil w ao cap
  · exact l1Copy_row w b o xs.length cap xs rfl hb hc hn

theorem cells_list {k : IntKind} {w : World} {b o : Nat} {xs : List Int} (hc : ∀ i, i < xs.length → w.cell? ⟨b, o + i, none⟩ = some (.int k (xs.getD i 0))) : ∀ j u, (xs.map (Value.int k))[j]? = some u → w.cell? ((⟨b, o, none⟩ : Addr).add j) = some u := by
  intro j u hu
  have hj : j < xs.length := by have := (List.getElem?_eq_some_iff.1 hu).1; simpa using this
  rw [Addr.add_lit, hc j hj]
  simp [List.getElem?_eq_getElem hj] at hu
  simp [List.getD, hj, hu]

set_option maxHeartbeats 400000 in
set_option maxRecDepth 100000 in
theorem clone_any (w : World) (v : Value) (xs : List Int) (h : Rd .u8 w v xs) (hn : xs.length ≤ 1099511627776) :
    Calls Tryd.prog 134 #[v] w fun e w' => ∃ v', e = .returned v' ∧ Own .u8 5 w' w.heap.size v' xs ∧ Below w.heap.size w w' := by
  obtain ⟨i0, hi, hz0, hz1, hz2⟩ := info_parts Tryd.infoB
  obtain ⟨ao, cap, rfl, h1, h2, h3⟩ := h
  have q22 : ∀ (w : World) (a : Option Addr) (n c n' c' : Nat), (binOp .eql 24 (.slice a n c) (.slice none n' c')).run Tryd.prog w = .ok (.bool a.isNone) w := fun w a n c n' c' => Lib.run_eql_slice_nil w _ _ a n c n' c' Tryd.underlying24
  have HE : Hid ((w.alloc (.cells #[] 5)).ownsRow w.heap.size 5 1 (.slice (some ⟨w.heap.size, 0, none⟩) 0 0) 0 []) := World.ownsRow_lit w #[] 0 (Nat.le_refl _) (Nat.zero_le _) rfl
  have HB : Hid (Below w.heap.size w (w.alloc (.cells #[] 5))) := (Below.refl _ _).alloc (Nat.le_refl _) _
  cases ao with
  | none =>
    have hx : xs = [] := by
      rcases h3 with h3 | ⟨b, o, e, _⟩
      · exact h3
      · cases e
    subst hx
    clear h3
    go_enter Tryd.func134, Tryd.ntmps134
    go_wp2
    go_ret
    exact ⟨_, rfl, World.ownsRow_nil _ _ _ _, Below.refl _ _⟩
  | some a =>
    have hcs : ∀ j u, (xs.map (Value.int .u8))[j]? = some u → (w.alloc (.cells #[] 5)).cell? (a.add j) = some u := by
      rcases h3 with rfl | ⟨b, o, e, hb, hc⟩
      · intro j u hu; simp at hu
      · injection e with e
        subst e
        exact cells_list (fun i hi => (HB.out.cell (p := ⟨b, o + i, none⟩) hb).trans (hc i hi))
    have HCS : Hid (∀ j u, (xs.map (Value.int .u8))[j]? = some u → (w.alloc (.cells #[] 5)).cell? (a.add j) = some u) := hcs
    clear h3 hcs
    go_enter Tryd.func134, Tryd.ntmps134
    go_wp2_with (at_builtin; go_must (refine wpList_append_own _ rfl _ _ 24 rfl w.heap.size 5 i0 (.int .u8 0) 1 1 Tryd.underlying24 hi hz0 hz1 hz2 rfl (by decide) _ _ _ rfl HE.out a xs.length cap (xs.map (Value.int .u8)) rfl ?c0 HCS.out (ints_oneCell _ _) ?c3 ?c4 ?c5 ?_))
    case c0 => simp
    case c3 => unfold maxLen; omega
    case c4 => omega
    case c5 => simp
    intro v2 w2 ho2 hg2 _
    have HO2 : Hid (Own .u8 5 w2 w.heap.size v2 xs) := by
      exact ho2
    have HG2 : Hid (Below w.heap.size w w2) := HB.out.grown hg2 (by simp) (by intro q hq; simp [Value.ownBlock] at hq; omega)
    clear ho2 hg2
    go_wp2
    go_ret
    exact ⟨_, rfl, HO2.out, HG2.out⟩

/-! ### appends inside a region that draws -/
theorem step_fits {P : Program} {ops : Array Oper} {o : Oper} {a : Act} {w : World} {K : Act → World → Prop} {Q : Exit → Act → World → Prop} {E : Prop}
    (hg : o.guard = none) (s x : Operand) (t : TypeId) (hop : o.op = Op.call { callee := Callee.builtin Builtin.append, args := #[s, x], argTypes := #[t, t] })
    (base : Nat) (e : TypeId) (i : TypeInfo) (size : Nat) (h1 : P.underlying t = some (.slice e)) (h2 : P.info? e = some i) (h4 : i.size = size)
    (g k cap : Nat) (xs : List Value) (hs : a.eval s = .slice (some ⟨g, 0, none⟩) k cap) (hown : w.ownsRow base e size (.slice (some ⟨g, 0, none⟩) k cap) k xs) (ad : Addr) (m c : Nat) (news : List Value) (hx : a.eval x = .slice (some ad) m c) (hn : news.length = m * size)
    (hc : ∀ j u, news[j]? = some u → w.cell? (ad.add j) = some u) (h1c : ∀ u ∈ news, u.oneCell' = true) (b1 : k + m ≤ cap)
    (hK : ∀ w', w'.ownsRow base e size (.slice (some ⟨g, 0, none⟩) (k + m) cap) (k + m) (xs ++ news) → w.grownBy w' (some g) → K (a.put o.dst (.slice (some ⟨g, 0, none⟩) (k + m) cap)) w') :
    if Region.wanted o (yielded ops a.tmps) = true then Oper.wp P o a w K Q else E := by
  have hw : Region.wanted o (yielded ops a.tmps) = true := by simp [Region.wanted, hg]
  rw [if_pos hw]
  obtain ⟨w', hrun, r1, r2⟩ := run_append_fits (P := P) w base t o.type e i size h1 h2 h4 g k cap xs hown ad m c news hn hc h1c b1
  unfold Oper.wp
  simp [execOp, hop, resolve, invoke, builtin, hs, hx, hrun, Result.andThen]
  exact hK w' r1 r2

theorem step_own {P : Program} {ops : Array Oper} {o : Oper} {a : Act} {w : World} {K : Act → World → Prop} {Q : Exit → Act → World → Prop} {E : Prop}
    (hg : o.guard = none) (s x : Operand) (t : TypeId) (hop : o.op = Op.call { callee := Callee.builtin Builtin.append, args := #[s, x], argTypes := #[t, t] })
    (base : Nat) (e : TypeId) (i : TypeInfo) (z : Value) (size bytes : Nat) (h1 : P.underlying t = some (.slice e)) (h2 : P.info? e = some i) (h3 : i.zero = some z) (h4 : i.size = size) (h5 : i.bytes = bytes) (h6 : z.cells.size = size) (h7 : 0 < size)
    (v : Value) (n : Nat) (xs : List Value) (hs : a.eval s = v) (hown : w.ownsRow base e size v n xs) (ad : Addr) (m c : Nat) (news : List Value) (hx : a.eval x = .slice (some ad) m c) (hn : news.length = m * size)
    (hc : ∀ j u, news[j]? = some u → w.cell? (ad.add j) = some u) (h1c : ∀ u ∈ news, u.oneCell' = true) (b1 : n + m ≤ maxLen) (b2 : (n + m) * bytes ≤ 140737488355328) (hb : base ≤ w.heap.size)
    (hK : ∀ v' w', w'.ownsRow base e size v' (n + m) (xs ++ news) → w.grownBy w' v.ownBlock → K (a.put o.dst v') w') :
    if Region.wanted o (yielded ops a.tmps) = true then Oper.wp P o a w K Q else E := by
  have hw : Region.wanted o (yielded ops a.tmps) = true := by simp [Region.wanted, hg]
  rw [if_pos hw]
  obtain ⟨v', w', hrun, r1, r2, _⟩ := run_append_own (P := P) w base t o.type e i z size bytes h1 h2 h3 h4 h5 h6 h7 v n xs hown ad m c news hn hc h1c b1 b2 hb
  unfold Oper.wp
  simp [execOp, hop, resolve, invoke, builtin, hs, hx, hrun, Result.andThen]
  exact hK v' w' r1 r2

end Go.Proofs.YtoljmlhnbmeloaaDoor

