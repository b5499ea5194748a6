import Derived.Test.YtgjenbgclpmjmaaSpecOk
import Derived.Test.YtgjenbgclpmjmaaSpecBig
import Derived.Test.YtgjenbgclpmjmaaStepOwn
namespace Go.Proofs.Ytgjenbgclpmjmaa
open Go.RowKit

theorem ownsRow_below2 {w w' : World} {lo n z : Nat} {e : TypeId} {v : Value} {us : List Value} (ho : w.ownsRow lo e z v n us) (hb : Below w.heap.size w w') : w'.ownsRow lo e z v n us := by
  refine ⟨ho.1, ?_⟩
  rcases ho.2 with hn | ⟨g, cap, cur, rfl, hbg, hgg, rest⟩
  · exact .inl hn
  · exact .inr ⟨g, cap, cur, rfl, hbg, by rw [hb.block g (Array.getElem?_eq_some_iff.1 hgg).1]; exact hgg, rest⟩
theorem row_slice2 {w : World} {lo n : Nat} {e : TypeId} {v : Value} {us : List Value} (h : w.ownsRow lo e 1 v n us) : ∃ a c, v = .slice a n c ∧ n ≤ c ∧ c ≤ maxLen := by
  rcases h.2 with ⟨rfl, rfl⟩ | ⟨g, cap, cur, rfl, -, -, h1, h2, -⟩
  · exact ⟨none, 0, rfl, Nat.le_refl _, Nat.zero_le _⟩
  · exact ⟨_, _, rfl, h1, h2⟩

set_option maxHeartbeats 1000000 in
set_option maxRecDepth 100000 in
theorem specSuper_no (w : World) (g b s l c : Int) (h : supOk g b s l c = false) :
    Calls Try.prog 12 #[.agg #[.int .i64 g, .int .i64 b, .int .i64 s, .int .i64 l, .int .i64 c]] w fun e w' => ∃ v', e = .returned v' ∧ Own .u8 5 w' w.heap.size v' [] ∧ Below w.heap.size w w' := by
  have H : Hid (supOk g b s l c = false) := h
  clear h
  go_enter Try.func12, Try.ntmps12
  go_wp2_with fail
  refine (specOk_any _ g b s l c).mono ?_
  rintro e w1 ⟨rfl, b1⟩
  rw [H.out]
  have B1 : Hid (Below w.heap.size w w1) := ((Below.refl _ _).alloc (Nat.le_refl _) _).trans (b1.mono (by simp))
  clear b1
  go_wp2
  go_ret
  exact ⟨_, rfl, Own.mono (World.ownsRow_lit w1 #[] 0 (Nat.le_refl _) (Nat.zero_le _) rfl) B1.out.size, B1.out.alloc B1.out.size _⟩

set_option maxHeartbeats 2000000 in
set_option maxRecDepth 100000 in
theorem specSuper_yes (w : World) (g b s l c : Nat) (h : supOk g b s l c = true) (hg : g < 9223372036854775808) :
    Calls Try.prog 12 #[.agg #[.int .i64 g, .int .i64 b, .int .i64 s, .int .i64 l, .int .i64 c]] w fun e w' => ∃ v', e = .returned v' ∧ Own .u8 5 w' w.heap.size v' (supB g b s l c) ∧ Below w.heap.size w w' := by
  obtain ⟨i0, hi, hz0, hz1, hz2⟩ := info_parts Try.infoB
  have H : Hid (supOk g b s l c = true) := h
  have HG : Hid (g < 9223372036854775808 ∧ s < 9223372036854775808 ∧ l < 9223372036854775808 ∧ c < 9223372036854775808) := by
    unfold supOk at h
    simp only [Bool.and_eq_true, Bool.or_eq_true, decide_eq_true_eq] at h
    exact ⟨hg, by omega, by omega, by omega⟩
  clear h hg
  go_enter Try.func12, Try.ntmps12
  go_wp2_with fail
  refine (specOk_any _ g b s l c).mono ?_
  rintro e w1 ⟨rfl, b1⟩
  rw [H.out]
  have X1 : Hid (Bx5 w1 w.heap.size g b s l c) := (Bx5.new w g b s l c _).below b1 (by simp)
  have B1 : Hid (Below w.heap.size w w1) := ((Below.refl _ _).alloc (Nat.le_refl _) _).trans (b1.mono (by simp))
  have s1 : w.heap.size + 1 ≤ w1.heap.size := by have := b1.size; simpa using this
  clear b1
  have HV : Hid ((b : Int) % 256 = ((b % 256 : Nat) : Int)) := by show _ = _; omega
  go_wp2_with fail
  refine wp_region_held_drew (S := fun w' => Bx5 w' w.heap.size g b s l c) (by kernel_rfl) X1.out (fun hHeld => ?_)
  refine wpAnyH_take (i := 0) (oi := { dst := some 8, op := _, type := _, pos := _, after := _, guard := _ }) (v := (.pointer (some ⟨w.heap.size, 0, none⟩))) rfl (by kernel_rfl) (by kernel_rfl) (by kernel_rfl) (fun _ _ _ h => h) (Or.inl ⟨by rfl, fun w' hSw => ?_⟩) (by assumption) ?_
  · obtain ⟨-, y0, y1, y2, y3, y4⟩ := hSw
    go_simp
  simp only [Act.put, List.setIfInBounds_toArray, List.set_cons_zero, List.set_cons_succ]
  refine wpAnyH_take (i := 1) (oi := { dst := some 9, op := _, type := _, pos := _, after := _, guard := _ }) (v := (.int .i64 g)) rfl (by kernel_rfl) (by kernel_rfl) (by kernel_rfl) (fun _ _ _ h => h) (Or.inl ⟨by rfl, fun w' hSw => ?_⟩) (by assumption) ?_
  · obtain ⟨-, y0, y1, y2, y3, y4⟩ := hSw
    go_simp
  simp only [Act.put, List.setIfInBounds_toArray, List.set_cons_zero, List.set_cons_succ]
  refine wpAnyH_take (i := 3) (oi := { dst := some 11, op := _, type := _, pos := _, after := _, guard := _ }) (v := (.pointer (some ⟨w.heap.size, 1, none⟩))) rfl (by kernel_rfl) (by kernel_rfl) (by kernel_rfl) (fun _ _ _ h => h) (Or.inl ⟨by rfl, fun w' hSw => ?_⟩) (by assumption) ?_
  · obtain ⟨-, y0, y1, y2, y3, y4⟩ := hSw
    go_simp
  simp only [Act.put, List.setIfInBounds_toArray, List.set_cons_zero, List.set_cons_succ]
  refine wpAnyH_take (i := 4) (oi := { dst := some 12, op := _, type := _, pos := _, after := _, guard := _ }) (v := (.int .i64 b)) rfl (by kernel_rfl) (by kernel_rfl) (by kernel_rfl) (fun _ _ _ h => h) (Or.inl ⟨by rfl, fun w' hSw => ?_⟩) (by assumption) ?_
  · obtain ⟨-, y0, y1, y2, y3, y4⟩ := hSw
    go_simp
  simp only [Act.put, List.setIfInBounds_toArray, List.set_cons_zero, List.set_cons_succ]
  refine wpAnyH_take (i := 5) (oi := { dst := some 13, op := _, type := _, pos := _, after := _, guard := _ }) (v := (.int .u8 ((b : Int) % 256))) rfl (by kernel_rfl) (by kernel_rfl) (by kernel_rfl) (fun _ _ _ h => h) (Or.inl ⟨by rfl, fun w' hSw => ?_⟩) (by assumption) ?_
  · obtain ⟨-, y0, y1, y2, y3, y4⟩ := hSw
    go_simp
    rw [IntKind.wrap_u8]
  simp only [Act.put, List.setIfInBounds_toArray, List.set_cons_zero, List.set_cons_succ]
  refine wpAnyH_ready (rs := [2, 6]) (by kernel_rfl) (by simp) ?_
  refine AllReadyH.cons rfl (fun K hK => ?_) (AllReadyH.cons rfl (fun K hK => ?_) AllReadyH.nil)
  focus
    go_simp
    go_at_call 30
    refine (specBigS_any 8 _ g (by omega) HG.out.1).mono ?_
    rintro e w2 ⟨v2, rfl, o2, b2⟩
    have b2w : Below w1.heap.size w1 w2 := Below.trans (b := w1.drew) (below_drewN' w1 1) b2
    have X2 : Hid (Bx5 w2 w.heap.size g b s l c) := X1.out.below b2w (by omega)
    have B2 : Hid (Below w.heap.size w w2) := B1.out.trans (b2w.mono (by omega))
    clear b2w
    have O2 : Hid (w2.ownsRow (w.heap.size + 1) 5 1 v2 8 ((bigR g 8).map (Value.int .u8))) := by have h2 := o2.mono (show w.heap.size + 1 ≤ w1.heap.size from s1); unfold Own at h2; rw [bigR_len] at h2; exact h2
    refine hK.out _ _ X2.out (fun hHeld2 => ?_)
    clear hK K o2 b2
    try simp only [Act.put, List.setIfInBounds_toArray, List.set_cons_zero, List.set_cons_succ]
    refine wpAnyH_ready (rs := [6]) (by kernel_rfl) (by simp) ?_
    refine AllReadyH.cons (o := { dst := some 14, op := _, type := _, pos := _, after := _, guard := _ }) rfl (fun K hK => ?_) AllReadyH.nil
    go_simp
    have bA : Below (w.heap.size + 1) w2 (w2.alloc (.cells #[.int .u8 ((b : Int) % 256)] 5)) := (Below.refl _ _).alloc X2.out.1 _
    have XA : Hid (Bx5 (w2.alloc (.cells #[.int .u8 ((b : Int) % 256)] 5)) w.heap.size g b s l c) := X2.out.below bA (by omega)
    have BA : Hid (Below w.heap.size w (w2.alloc (.cells #[.int .u8 ((b : Int) % 256)] 5))) := B2.out.trans (bA.mono (by omega))
    have OA : Hid ((w2.alloc (.cells #[.int .u8 ((b : Int) % 256)] 5)).ownsRow (w.heap.size + 1) 5 1 v2 8 ((bigR g 8).map (Value.int .u8))) := O2.out.alloc _
    have NB : Hid (∀ j u, [Value.int .u8 ((b : Int) % 256)][j]? = some u → (w2.alloc (.cells #[.int .u8 ((b : Int) % 256)] 5)).cell? ((⟨w2.heap.size, 0, none⟩ : Addr).add j) = some u) := cell_one_new _ _ _
    refine hK.out _ _ XA.out (fun hHeldA => ?_)
    clear hK K hHeld2 X2 B2 O2 bA
    generalize w2.heap.size = GB at *
    generalize w2.alloc (.cells #[.int .u8 ((b : Int) % 256)] 5) = WA at *
    have sA : w.heap.size + 1 ≤ WA.heap.size := XA.out.1
    try simp only [Act.put, List.setIfInBounds_toArray, List.set_cons_zero, List.set_cons_succ]
    refine wpAnyH_ready (rs := [7]) (by kernel_rfl) (by simp) ?_
    refine AllReadyH.cons (o := { dst := some 15, op := _, type := _, pos := _, after := _, guard := _ }) rfl (fun K hK => ?_) AllReadyH.nil
    refine step_append rfl (.tmp 10) (.tmp 14) 22 rfl (w.heap.size + 1) 5 i0 (.int .u8 0) 1 1 Try.underlying22 hi hz0 hz1 hz2 rfl (by decide) v2 8 _ rfl OA.out ⟨GB, 0, none⟩ 1 1 [.int .u8 ((b : Int) % 256)] rfl rfl NB.out (by intro u hu; simp at hu; subst hu; rfl) (by unfold maxLen; omega) (by omega) sA ?_
    intro v3 w3 ho3 hg3
    have b3 : Below (w.heap.size + 1) WA w3 := (Below.refl _ _).grown hg3 sA (fun q hq => (World.ownsRow.lt OA.out q hq).1)
    have X3 : Hid (Bx5 w3 w.heap.size g b s l c) := XA.out.below b3 (by omega)
    have B3 : Hid (Below w.heap.size w w3) := BA.out.trans (b3.mono (by omega))
    have s3 : w.heap.size + 1 ≤ w3.heap.size := X3.out.1
    have O3 : Hid (w3.ownsRow (w.heap.size + 1) 5 1 v3 9 ((bigR g 8 ++ bigR b 1).map (Value.int .u8))) := by
      rw [HV.out] at ho3
      show World.ownsRow _ _ _ _ _ _ _
      rw [List.map_append]; exact ho3
    refine hK.out _ _ X3.out (fun hHeld3 => ?_)
    clear hK K ho3 hg3 b3
    try simp only [Act.put, List.setIfInBounds_toArray, List.set_cons_zero, List.set_cons_succ]
    refine wpAnyH_take (i := 8) (oi := { dst := some 3, op := _, type := _, pos := _, after := _, guard := _ }) (v := v3) rfl (by kernel_rfl) (by kernel_rfl) (by kernel_rfl) (fun _ _ _ h => h) (Or.inl ⟨by rfl, fun w' hSw => ?_⟩) (by assumption) ?_
    · go_simp
    try simp only [Act.put, List.setIfInBounds_toArray, List.set_cons_zero, List.set_cons_succ]
    refine wpAnyH_done (by kernel_rfl) ?_ _
    clear hHeld hHeldA hHeld3 XA BA OA NB sA
  rotate_left
  focus
    go_simp
    have bA0 : Below (w.heap.size + 1) w1 ((w1.alloc (.cells #[.int .u8 ((b : Int) % 256)] 5)).drew) := ((Below.refl _ _).alloc s1 _).drew
    have X2 : Hid (Bx5 ((w1.alloc (.cells #[.int .u8 ((b : Int) % 256)] 5)).drew) w.heap.size g b s l c) := X1.out.below bA0 (by omega)
    have B2 : Hid (Below w.heap.size w ((w1.alloc (.cells #[.int .u8 ((b : Int) % 256)] 5)).drew)) := B1.out.trans (bA0.mono (by omega))
    have N2 : Hid (∀ j u, [Value.int .u8 ((b : Int) % 256)][j]? = some u → ((w1.alloc (.cells #[.int .u8 ((b : Int) % 256)] 5)).drew).cell? ((⟨w1.heap.size, 0, none⟩ : Addr).add j) = some u) := cell_one_new w1 _ _
    have z2 : w1.heap.size < ((w1.alloc (.cells #[.int .u8 ((b : Int) % 256)] 5)).drew).heap.size := by simp
    refine hK.out _ _ X2.out (fun hHeld2 => ?_)
    clear hK K bA0
    generalize (w1.alloc (.cells #[.int .u8 ((b : Int) % 256)] 5)).drew = W2 at *
    try simp only [Act.put, List.setIfInBounds_toArray, List.set_cons_zero, List.set_cons_succ]
    refine wpAnyH_ready (rs := [2]) (by kernel_rfl) (by simp) ?_
    refine AllReadyH.cons (o := { dst := some 10, op := _, type := _, pos := _, after := _, guard := _ }) rfl (fun K hK => ?_) AllReadyH.nil
    go_simp
    go_at_call 30
    refine (specBigS_any 8 _ g (by omega) HG.out.1).mono ?_
    rintro e WA ⟨v2, rfl, o2, b2⟩
    have XA : Hid (Bx5 WA w.heap.size g b s l c) := X2.out.below b2 X2.out.1
    have BA : Hid (Below w.heap.size w WA) := B2.out.trans (b2.mono (by have := X2.out.1; omega))
    have OA : Hid (WA.ownsRow (w.heap.size + 1) 5 1 v2 8 ((bigR g 8).map (Value.int .u8))) := by have h2 := o2.mono (show w.heap.size + 1 ≤ W2.heap.size from X2.out.1); unfold Own at h2; rw [bigR_len] at h2; exact h2
    have NB : Hid (∀ j u, [Value.int .u8 ((b : Int) % 256)][j]? = some u → WA.cell? ((⟨w1.heap.size, 0, none⟩ : Addr).add j) = some u) := fun j u hj => by
      rw [b2.cell (p := (⟨w1.heap.size, 0, none⟩ : Addr).add j) (by rw [Addr.add_lit]; exact z2)]
      exact N2.out j u hj
    refine hK.out _ _ XA.out (fun hHeldA => ?_)
    clear hK K hHeld2 X2 B2 N2 o2 b2
    have sA : w.heap.size + 1 ≤ WA.heap.size := XA.out.1
    try simp only [Act.put, List.setIfInBounds_toArray, List.set_cons_zero, List.set_cons_succ]
    refine wpAnyH_ready (rs := [7]) (by kernel_rfl) (by simp) ?_
    refine AllReadyH.cons (o := { dst := some 15, op := _, type := _, pos := _, after := _, guard := _ }) rfl (fun K hK => ?_) AllReadyH.nil
    refine step_append rfl (.tmp 10) (.tmp 14) 22 rfl (w.heap.size + 1) 5 i0 (.int .u8 0) 1 1 Try.underlying22 hi hz0 hz1 hz2 rfl (by decide) v2 8 _ rfl OA.out ⟨w1.heap.size, 0, none⟩ 1 1 [.int .u8 ((b : Int) % 256)] rfl rfl NB.out (by intro u hu; simp at hu; subst hu; rfl) (by unfold maxLen; omega) (by omega) sA ?_
    intro v3 w3 ho3 hg3
    have b3 : Below (w.heap.size + 1) WA w3 := (Below.refl _ _).grown hg3 sA (fun q hq => (World.ownsRow.lt OA.out q hq).1)
    have X3 : Hid (Bx5 w3 w.heap.size g b s l c) := XA.out.below b3 (by omega)
    have B3 : Hid (Below w.heap.size w w3) := BA.out.trans (b3.mono (by omega))
    have s3 : w.heap.size + 1 ≤ w3.heap.size := X3.out.1
    have O3 : Hid (w3.ownsRow (w.heap.size + 1) 5 1 v3 9 ((bigR g 8 ++ bigR b 1).map (Value.int .u8))) := by
      rw [HV.out] at ho3
      show World.ownsRow _ _ _ _ _ _ _
      rw [List.map_append]; exact ho3
    refine hK.out _ _ X3.out (fun hHeld3 => ?_)
    clear hK K ho3 hg3 b3
    try simp only [Act.put, List.setIfInBounds_toArray, List.set_cons_zero, List.set_cons_succ]
    refine wpAnyH_take (i := 8) (oi := { dst := some 3, op := _, type := _, pos := _, after := _, guard := _ }) (v := v3) rfl (by kernel_rfl) (by kernel_rfl) (by kernel_rfl) (fun _ _ _ h => h) (Or.inl ⟨by rfl, fun w' hSw => ?_⟩) (by assumption) ?_
    · go_simp
    try simp only [Act.put, List.setIfInBounds_toArray, List.set_cons_zero, List.set_cons_succ]
    refine wpAnyH_done (by kernel_rfl) ?_ _
    clear hHeld hHeldA hHeld3 XA BA OA NB sA
  all_goals
    clear X1 B1 HV s1
    generalize hLg : bigR g 8 ++ bigR b 1 = L3 at *
    have HL3 : Hid (bigR g 8 ++ bigR b 1 = L3) := hLg
    clear hLg
    obtain ⟨-, x0, x1, x2, x3, x4⟩ := X3.out
    go_wp2_with fail
    refine (specBigS_any 4 _ s (by omega) HG.out.2.1).mono ?_
    rintro e w4 ⟨v4, rfl, o4, b4⟩
    obtain ⟨g4, c4, hv4⟩ := own_some o4 (by rw [bigR_len]; omega)
    rw [bigR_len] at hv4
    subst hv4
    have X4 : Hid (Bx5 w4 w.heap.size g b s l c) := X3.out.below b4 (by omega)
    have B4 : Hid (Below w.heap.size w w4) := B3.out.trans (b4.mono (by omega))
    have s4 : w.heap.size + 1 ≤ w4.heap.size := Nat.le_trans s3 b4.size
    have O4 : Hid (w4.ownsRow (w.heap.size + 1) 5 1 v3 9 (L3.map (Value.int .u8))) := ownsRow_below2 O3.out b4
    have N4 : Hid (∀ j u, ((bigR s 4).map (Value.int .u8))[j]? = some u → w4.cell? ((⟨g4, 0, none⟩ : Addr).add j) = some u) := World.ownsRow.cells o4 rfl
    clear x0 x1 x2 x3 x4 o4 b4 X3 B3 O3
    go_wp2_with (at_builtin; go_must (refine wpList_append_own _ rfl _ _ 22 rfl (w.heap.size + 1) 5 i0 (.int .u8 0) 1 1 Try.underlying22 hi hz0 hz1 hz2 rfl (by decide) _ _ _ rfl O4.out ⟨g4, 0, none⟩ 4 c4 ((bigR s 4).map (Value.int .u8)) rfl ?_ N4.out (ints_oneCell _ _) ?_ ?_ ?_ ?_))
    · rw [List.length_map, bigR_len]
    · unfold maxLen; omega
    · omega
    · exact s4
    intro v5 w5 ho5 hg5 _
    have b5 : Below (w.heap.size + 1) w4 w5 := (Below.refl _ _).grown hg5 s4 (fun q hq => (World.ownsRow.lt O4.out q hq).1)
    have X5 : Hid (Bx5 w5 w.heap.size g b s l c) := X4.out.below b5 (by omega)
    have B5 : Hid (Below w.heap.size w w5) := B4.out.trans (b5.mono (by omega))
    have s5 : w.heap.size + 1 ≤ w5.heap.size := Nat.le_trans s4 b5.size
    have O5 : Hid (w5.ownsRow (w.heap.size + 1) 5 1 v5 13 ((L3 ++ bigR s 4).map (Value.int .u8))) := by
      show World.ownsRow _ _ _ _ _ _ _
      rw [List.map_append]; exact ho5
    clear ho5 hg5 b5 X4 B4 O4 N4
    generalize hLg : L3 ++ bigR s 4 = L5 at *
    have HL5 : Hid (L3 ++ bigR s 4 = L5) := hLg
    clear hLg
    obtain ⟨-, x0, x1, x2, x3, x4⟩ := X5.out
    go_wp2_with fail
    refine (specBigS_any 4 _ l (by omega) HG.out.2.2.1).mono ?_
    rintro e w6 ⟨v6, rfl, o6, b6⟩
    obtain ⟨g6, c6, hv6⟩ := own_some o6 (by rw [bigR_len]; omega)
    rw [bigR_len] at hv6
    subst hv6
    have X6 : Hid (Bx5 w6 w.heap.size g b s l c) := X5.out.below b6 (by omega)
    have B6 : Hid (Below w.heap.size w w6) := B5.out.trans (b6.mono (by omega))
    have s6 : w.heap.size + 1 ≤ w6.heap.size := Nat.le_trans s5 b6.size
    have O6 : Hid (w6.ownsRow (w.heap.size + 1) 5 1 v5 13 (L5.map (Value.int .u8))) := ownsRow_below2 O5.out b6
    have N6 : Hid (∀ j u, ((bigR l 4).map (Value.int .u8))[j]? = some u → w6.cell? ((⟨g6, 0, none⟩ : Addr).add j) = some u) := World.ownsRow.cells o6 rfl
    clear x0 x1 x2 x3 x4 o6 b6 X5 B5 O5
    go_wp2_with (at_builtin; go_must (refine wpList_append_own _ rfl _ _ 22 rfl (w.heap.size + 1) 5 i0 (.int .u8 0) 1 1 Try.underlying22 hi hz0 hz1 hz2 rfl (by decide) _ _ _ rfl O6.out ⟨g6, 0, none⟩ 4 c6 ((bigR l 4).map (Value.int .u8)) rfl ?_ N6.out (ints_oneCell _ _) ?_ ?_ ?_ ?_))
    · rw [List.length_map, bigR_len]
    · unfold maxLen; omega
    · omega
    · exact s6
    intro v7 w7 ho7 hg7 _
    have b7 : Below (w.heap.size + 1) w6 w7 := (Below.refl _ _).grown hg7 s6 (fun q hq => (World.ownsRow.lt O6.out q hq).1)
    have X7 : Hid (Bx5 w7 w.heap.size g b s l c) := X6.out.below b7 (by omega)
    have B7 : Hid (Below w.heap.size w w7) := B6.out.trans (b7.mono (by omega))
    have s7 : w.heap.size + 1 ≤ w7.heap.size := Nat.le_trans s6 b7.size
    have O7 : Hid (w7.ownsRow (w.heap.size + 1) 5 1 v7 17 ((L5 ++ bigR l 4).map (Value.int .u8))) := by
      show World.ownsRow _ _ _ _ _ _ _
      rw [List.map_append]; exact ho7
    clear ho7 hg7 b7 X6 B6 O6 N6
    generalize hLg : L5 ++ bigR l 4 = L7 at *
    have HL7 : Hid (L5 ++ bigR l 4 = L7) := hLg
    clear hLg
    obtain ⟨-, x0, x1, x2, x3, x4⟩ := X7.out
    go_wp2_with fail
    refine (specBigS_any 4 _ c (by omega) HG.out.2.2.2).mono ?_
    rintro e w8 ⟨v8, rfl, o8, b8⟩
    obtain ⟨g8, c8, hv8⟩ := own_some o8 (by rw [bigR_len]; omega)
    rw [bigR_len] at hv8
    subst hv8
    have X8 : Hid (Bx5 w8 w.heap.size g b s l c) := X7.out.below b8 (by omega)
    have B8 : Hid (Below w.heap.size w w8) := B7.out.trans (b8.mono (by omega))
    have s8 : w.heap.size + 1 ≤ w8.heap.size := Nat.le_trans s7 b8.size
    have O8 : Hid (w8.ownsRow (w.heap.size + 1) 5 1 v7 17 (L7.map (Value.int .u8))) := ownsRow_below2 O7.out b8
    have N8 : Hid (∀ j u, ((bigR c 4).map (Value.int .u8))[j]? = some u → w8.cell? ((⟨g8, 0, none⟩ : Addr).add j) = some u) := World.ownsRow.cells o8 rfl
    clear x0 x1 x2 x3 x4 o8 b8 X7 B7 O7
    go_wp2_with (at_builtin; go_must (refine wpList_append_own _ rfl _ _ 22 rfl (w.heap.size + 1) 5 i0 (.int .u8 0) 1 1 Try.underlying22 hi hz0 hz1 hz2 rfl (by decide) _ _ _ rfl O8.out ⟨g8, 0, none⟩ 4 c8 ((bigR c 4).map (Value.int .u8)) rfl ?_ N8.out (ints_oneCell _ _) ?_ ?_ ?_ ?_))
    · rw [List.length_map, bigR_len]
    · unfold maxLen; omega
    · omega
    · exact s8
    intro v9 w9 ho9 hg9 _
    have b9 : Below (w.heap.size + 1) w8 w9 := (Below.refl _ _).grown hg9 s8 (fun q hq => (World.ownsRow.lt O8.out q hq).1)
    have X9 : Hid (Bx5 w9 w.heap.size g b s l c) := X8.out.below b9 (by omega)
    have B9 : Hid (Below w.heap.size w w9) := B8.out.trans (b9.mono (by omega))
    have s9 : w.heap.size + 1 ≤ w9.heap.size := Nat.le_trans s8 b9.size
    have O9 : Hid (w9.ownsRow (w.heap.size + 1) 5 1 v9 21 ((L7 ++ bigR c 4).map (Value.int .u8))) := by
      show World.ownsRow _ _ _ _ _ _ _
      rw [List.map_append]; exact ho9
    clear ho9 hg9 b9 X8 B8 O8 N8
    generalize hLg : L7 ++ bigR c 4 = L9 at *
    have HL9 : Hid (L7 ++ bigR c 4 = L9) := hLg
    clear hLg
    go_wp2
    go_loopw [3] (fun v wr => ∃ k : Nat, k ≤ 35 ∧ Hid (wr.ownsRow (w.heap.size + 1) 5 1 v (21 + k) ((L9 ++ List.replicate k 0).map (Value.int .u8))) ∧ Hid (Bx5 wr w.heap.size g b s l c) ∧ Hid (Below w.heap.size w wr)) (fun v _ => 56 - (match v with | .slice _ n _ => n | _ => 0))
    case atStart => exact ⟨0, by omega, by rw [List.replicate_zero, List.append_nil]; exact O9, X9, B9⟩
    case round =>
      clear O9 X9 B9
      obtain ⟨k, hk, O9, X9, B9⟩ := hrel
      have s9 : w.heap.size + 1 ≤ wr.heap.size := X9.out.1
      obtain ⟨a9, c9, hv9, -, -⟩ := row_slice2 O9.out
      subst hv9
      by_cases hlt : k < 35
      · have hI : ((21 + k : Nat) : Int) < 56 := by omega
        go_wp2_with (at_builtin; go_must (refine wpList_append_own _ rfl _ _ 22 rfl (w.heap.size + 1) 5 i0 (.int .u8 0) 1 1 Try.underlying22 hi hz0 hz1 hz2 rfl (by decide) _ _ _ rfl (O9.out.alloc _) ⟨wr.heap.size, 0, none⟩ 1 1 [.int .u8 0] rfl rfl (cell_one_new _ _ _) (by intro u hu; simp at hu; subst hu; rfl) ?_ ?_ ?_ ?_))
        · unfold maxLen; omega
        · omega
        · simp; omega
        intro v3 w3 ho3 hg3 _
        have b3 : Below (w.heap.size + 1) wr w3 := ((Below.refl _ _).alloc s9 _).grown hg3 (by simp; omega) (fun q hq => (World.ownsRow.lt O9.out q hq).1)
        have O10 : Hid (w3.ownsRow (w.heap.size + 1) 5 1 v3 (21 + (k + 1)) ((L9 ++ List.replicate (k + 1) 0).map (Value.int .u8))) := by
          show World.ownsRow _ _ _ _ _ _ _
          rw [← Nat.add_assoc, List.replicate_succ', ← List.append_assoc, List.map_append]
          simpa using ho3
        have X10 : Hid (Bx5 w3 w.heap.size g b s l c) := X9.out.below b3 (by omega)
        have B10 : Hid (Below w.heap.size w w3) := B9.out.trans (b3.mono (by omega))
        obtain ⟨a3, c3, hv3, -, -⟩ := row_slice2 O10.out
        clear ho3 hg3 b3 O9 X9 B9
        subst hv3
        go_wp2
        exact ⟨⟨k + 1, by omega, O10, X10, B10⟩, by simp; omega⟩
      · have hk35 : k = 35 := by omega
        subst hk35
        have O9' : Hid (wr.ownsRow (w.heap.size + 1) 5 1 (.slice a9 (21 + 35) c9) 56 ((L9 ++ List.replicate 35 0).map (Value.int .u8))) := O9.out
        clear O9
        generalize hLg : L9 ++ List.replicate 35 0 = L10 at *
        have HL10 : Hid (L9 ++ List.replicate 35 0 = L10) := hLg
        clear hLg
        obtain ⟨-, x0, x1, x2, x3, x4⟩ := X9.out
        go_wp2_with fail
        refine (specBigS_any 8 _ g (by omega) HG.out.1).mono ?_
        rintro e w11 ⟨v11, rfl, o11, b11⟩
        obtain ⟨g11, c11, hv11⟩ := own_some o11 (by rw [bigR_len]; omega)
        rw [bigR_len] at hv11
        subst hv11
        have B11 : Hid (Below w.heap.size w w11) := B9.out.trans (b11.mono (by omega))
        have s11 : w.heap.size + 1 ≤ w11.heap.size := Nat.le_trans s9 b11.size
        have O11 : Hid (w11.ownsRow (w.heap.size + 1) 5 1 (.slice a9 (21 + 35) c9) 56 (L10.map (Value.int .u8))) := ownsRow_below2 O9'.out b11
        have N11 : Hid (∀ j u, ((bigR g 8).map (Value.int .u8))[j]? = some u → w11.cell? ((⟨g11, 0, none⟩ : Addr).add j) = some u) := World.ownsRow.cells o11 rfl
        clear x0 x1 x2 x3 x4 o11 b11 O9'
        go_wp2_with (at_builtin; go_must (refine wpList_append_own _ rfl _ _ 22 rfl (w.heap.size + 1) 5 i0 (.int .u8 0) 1 1 Try.underlying22 hi hz0 hz1 hz2 rfl (by decide) _ _ _ rfl O11.out ⟨g11, 0, none⟩ 8 c11 ((bigR g 8).map (Value.int .u8)) rfl ?_ N11.out (ints_oneCell _ _) ?_ ?_ ?_ ?_))
        · rw [List.length_map, bigR_len]
        · unfold maxLen; omega
        · omega
        · exact s11
        intro v12 w12 ho12 hg12 _
        have B12 : Hid (Below w.heap.size w w12) := B11.out.grown hg12 (by omega) (fun q hq => by have := (World.ownsRow.lt O11.out q hq).1; omega)
        have O12 : Hid (Own .u8 5 w12 w.heap.size v12 (supB g b s l c)) := by
          have e : supB g b s l c = L10 ++ bigR g 8 := by
            rw [← HL10.out, ← HL9.out, ← HL7.out, ← HL5.out, ← HL3.out]; rfl
          have h12 : Own .u8 5 w12 (w.heap.size + 1) v12 (supB g b s l c) := own_of (q := 64) (ys := L10 ++ bigR g 8) (by rw [← e, supB_len]) e (by rw [List.map_append]; exact ho12)
          exact h12.mono (by omega)
        clear ho12 hg12
        go_wp2
        go_ret
        exact ⟨_, rfl, O12.out, B12.out⟩

theorem specSuper_any (w : World) (g b s l c : Int) (hg : g < 9223372036854775808) :
    Calls Try.prog 12 #[.agg #[.int .i64 g, .int .i64 b, .int .i64 s, .int .i64 l, .int .i64 c]] w fun e w' => ∃ v', e = .returned v' ∧ Own .u8 5 w' w.heap.size v' (sup g b s l c) ∧ Below w.heap.size w w' := by
  unfold sup
  by_cases h : supOk g b s l c = true
  · rw [if_pos h]
    obtain ⟨g, b, s, l, c, rfl, rfl, rfl, rfl, rfl⟩ := supOk_nat h
    exact specSuper_yes w g b s l c h (by omega)
  · rw [if_neg h]
    exact specSuper_no w g b s l c (by simpa using h)

end Go.Proofs.Ytgjenbgclpmjmaa
