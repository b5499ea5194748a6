import Derived.Test.YtfmjalbiimhdhaaDoorESpecT
import Derived.Test.YtfmjalbiimhdhaaDoorXEnc2
namespace Go.Proofs.YtfmjalbiimhdhaaDoor
open Go.RowKit Go.Shelf

theorem BoxX.belowM {w w' : World} {b m : Nat} {x : Int} {y : Value} (h : BoxX w b x y) (hb : Below m w w') (hl : b < m) : BoxX w' b x y :=
  ⟨Nat.lt_of_lt_of_le h.1 hb.size, (hb.cell (p := ⟨b, 0, none⟩) hl).trans h.2.1, (hb.cell (p := ⟨b, 1, none⟩) hl).trans h.2.2⟩

set_option maxHeartbeats 2000000 in
set_option maxRecDepth 100000 in
theorem sTxn_any (w : World) (z : Int) (v : Value) (ns : List Ef) (h : RdE w v ns) (hsz : ∀ i, (eAt ns i).nd.path.size ≤ 1048576 ∧ (eAt ns i).nd.data.size ≤ 1048576) :
    Calls Tryd.prog 43 #[.agg #[.int .i64 z, v]] w fun e w' => ∃ v', e = .returned v' ∧ Own .u8 5 w' w.heap.size v' (txnB z ns) ∧ Below w.heap.size w w' := by
  obtain ⟨i0, hi, hz0, hz1, hz2⟩ := info_parts Tryd.infoB
  obtain ⟨ao, ca, rfl, _, _⟩ := h.len
  have HR : Hid (RdE w (.slice ao ns.length ca) ns) := h
  have HZ : Hid (∀ i, (eAt ns i).nd.path.size ≤ 1048576 ∧ (eAt ns i).nd.data.size ≤ 1048576) := hsz
  generalize hnn : ns.length = n at *
  have HP : Hid (ns.length = n) := hnn
  have B0 : Hid (Below w.heap.size w (w.alloc (.cells #[.int .i64 z, .slice ao n ca] 40))) := (Below.refl _ _).alloc (Nat.le_refl _) _
  have X0 : Hid (BoxX (w.alloc (.cells #[.int .i64 z, .slice ao n ca] 40)) w.heap.size z (.slice ao n ca)) := BoxX.new _ _ _ _
  clear h hsz hnn
  go_enter Tryd.func43, Tryd.ntmps43
  go_wp2_with fail
  generalize w.alloc (.cells #[.int .i64 z, .slice ao n ca] 40) = w0 at *
  refine (specTxn_any _ _ _ ns (HR.out.below B0.out) HZ.out).mono ?_
  rintro e w1 ⟨rfl, b1⟩
  have B1 : Hid (Below w.heap.size w w1) := B0.out.trans (b1.mono B0.out.size)
  have X1 : Hid (BoxX w1 w.heap.size z (.slice ao n ca)) := X0.out.below b1
  clear b1 X0 B0
  have s1 : w.heap.size + 1 ≤ w1.heap.size := X1.out.1
  by_cases hok : okTxn z ns = true
  rotate_left
  · have hok' : okTxn z ns = false := by simpa using hok
    have HT : Hid (txnB z ns = []) := by show _ = _; unfold txnB; rw [if_neg hok]
    have O2 : Hid (Own .u8 5 (w1.alloc (.cells #[] 5)) w.heap.size (.slice (some ⟨w1.heap.size, 0, none⟩) 0 0) []) := Own.mono (World.ownsRow_lit w1 #[] 0 (Nat.le_refl _) (Nat.zero_le _) rfl) B1.out.size
    have B2 : Hid (Below w.heap.size w (w1.alloc (.cells #[] 5))) := B1.out.alloc B1.out.size _
    rw [hok']
    clear hok hok'
    go_wp2
    go_ret
    exact ⟨_, rfl, (by rw [HT.out]; exact O2.out), B2.out⟩
  obtain ⟨g1, g2, g3, g4⟩ := okTxn_all hok
  rw [HP.out] at g3 g4
  obtain ⟨Z, rfl⟩ : ∃ Z : Nat, z = (Z : Int) := ⟨z.toNat, by omega⟩
  have HT : Hid (txnB Z ns = bigR Z 4 ++ bigR n 2 ++ effsB ns) := by show _ = _; unfold txnB; rw [if_pos hok, HP.out, Int.toNat_natCast]
  have HOK : Hid (∀ k, k < n → okEf (eAt ns k) = true) := g4
  have HLN : Hid (∀ k, k ≤ n → (effsB (ns.take k)).length ≤ k * 189) := fun k hk => effsB_len (fun k hk => g4 k (by rw [← HP.out]; exact hk)) k (by rw [HP.out]; exact hk)
  rw [hok]
  clear hok g4
  go_wp2
  refine wp_region_held_drew (S := fun W => BoxX W w.heap.size (Z : Int) (.slice ao n ca)) (by kernel_rfl) (X1.out.below (below_drewN' w1 1)) (fun hHeld => ?_)
  refine wpAnyH_take (i := 0) (oi := { dst := some 9, op := _, type := _, pos := _, after := _, guard := _ }) (v := (.pointer (some ⟨w.heap.size, 0, none⟩))) rfl (by kernel_rfl) (by kernel_rfl) (by kernel_rfl) (fun _ _ _ h => h) (Or.inl ⟨by rfl, ?hy1⟩) (by assumption) ?rest1
  case hy1 =>
    intro w9 hS9
    obtain ⟨-, y0, y1⟩ := hS9
    go_simp
    try with_reducible rfl
  try simp only [Act.put, List.setIfInBounds_toArray, List.set_cons_zero, List.set_cons_succ]
  refine wpAnyH_take (i := 1) (oi := { dst := some 10, op := _, type := _, pos := _, after := _, guard := _ }) (v := (.int .i64 (Z : Int))) rfl (by kernel_rfl) (by kernel_rfl) (by kernel_rfl) (fun _ _ _ h => h) (Or.inl ⟨by rfl, ?hy2⟩) (by assumption) ?rest2
  case hy2 =>
    intro w9 hS9
    obtain ⟨-, y0, y1⟩ := hS9
    go_simp
    try with_reducible rfl
  try simp only [Act.put, List.setIfInBounds_toArray, List.set_cons_zero, List.set_cons_succ]
  refine wpAnyH_take (i := 3) (oi := { dst := some 12, op := _, type := _, pos := _, after := _, guard := _ }) (v := (.pointer (some ⟨w.heap.size, 1, none⟩))) rfl (by kernel_rfl) (by kernel_rfl) (by kernel_rfl) (fun _ _ _ h => h) (Or.inl ⟨by rfl, ?hy3⟩) (by assumption) ?rest3
  case hy3 =>
    intro w9 hS9
    obtain ⟨-, y0, y1⟩ := hS9
    go_simp
    try with_reducible rfl
  try simp only [Act.put, List.setIfInBounds_toArray, List.set_cons_zero, List.set_cons_succ]
  refine wpAnyH_take (i := 4) (oi := { dst := some 13, op := _, type := _, pos := _, after := _, guard := _ }) (v := (.slice ao n ca)) rfl (by kernel_rfl) (by kernel_rfl) (by kernel_rfl) (fun _ _ _ h => h) (Or.inl ⟨by rfl, ?hy4⟩) (by assumption) ?rest4
  case hy4 =>
    intro w9 hS9
    obtain ⟨-, y0, y1⟩ := hS9
    go_simp
    try with_reducible rfl
  try simp only [Act.put, List.setIfInBounds_toArray, List.set_cons_zero, List.set_cons_succ]
  refine wpAnyH_take (i := 5) (oi := { dst := some 14, op := _, type := _, pos := _, after := _, guard := _ }) (v := (.int .i64 (n : Int))) rfl (by kernel_rfl) (by kernel_rfl) (by kernel_rfl) (fun _ _ _ h => h) (Or.inl ⟨by rfl, ?hy5⟩) (by assumption) ?rest5
  case hy5 =>
    intro w9 hS9
    obtain ⟨-, y0, y1⟩ := hS9
    go_simp
    try with_reducible rfl
  try simp only [Act.put, List.setIfInBounds_toArray, List.set_cons_zero, List.set_cons_succ]
  refine wpAnyH_ready (rs := [2]) (by kernel_rfl) (by simp) ?_
  refine AllReadyH.cons (o := { dst := some 11, op := _, type := _, pos := _, after := _, guard := _ }) rfl (fun K hK => ?_) AllReadyH.nil
  go_simp
  refine (specBig_any 4 _ Z (by omega) (by omega)).mono ?_
  rintro e w2 ⟨v2, rfl, o2, b2⟩
  have D2 : Hid (Below (w.heap.size + 1) w1 w2) := ((below_drewN' w1 1).mono s1).trans (b2.mono s1)
  have X2 : Hid (BoxX w2 w.heap.size (Z : Int) (.slice ao n ca)) := X1.out.belowM D2.out (Nat.lt_succ_self _)
  have O2 : Hid (Own .u8 5 w2 (w.heap.size + 1) v2 (bigR Z 4)) := o2.mono s1
  clear o2 b2
  refine hK.out _ _ (X2.out) (fun hx9 => ?_)
  clear hK K hHeld hx9
  have hHeld := X2.out
  try simp only [Act.put, List.setIfInBounds_toArray, List.set_cons_zero, List.set_cons_succ]
  refine wpAnyH_ready (rs := [6]) (by kernel_rfl) (by simp) ?_
  refine AllReadyH.cons (o := { dst := some 15, op := _, type := _, pos := _, after := _, guard := _ }) rfl (fun K hK => ?_) AllReadyH.nil
  go_simp
  refine (specBig_any 2 _ n (by omega) (by omega)).mono ?_
  rintro e w3 ⟨v3, rfl, o3, b3⟩
  have s2 : w.heap.size + 1 ≤ w2.heap.size := X2.out.1
  have D3 : Hid (Below (w.heap.size + 1) w1 w3) := D2.out.trans (b3.mono s2)
  have X3 : Hid (BoxX w3 w.heap.size (Z : Int) (.slice ao n ca)) := X2.out.below b3
  obtain ⟨g3, c3, hv3⟩ := own_full o3 (by rw [bigR_len]; omega)
  rw [bigR_len] at hv3
  subst hv3
  have O3 : Hid (w3.ownsRow (w.heap.size + 1) 5 1 v2 4 ((bigR Z 4).map (Value.int .u8))) := by have := O2.out.below b3; unfold Own at this; rw [bigR_len] at this; exact this
  have N3 : Hid (∀ j u, ((bigR n 2).map (Value.int .u8))[j]? = some u → w3.cell? ((⟨g3, 0, none⟩ : Addr).add j) = some u) := World.ownsRow.cells o3 rfl
  have s3 : w.heap.size + 1 ≤ w3.heap.size := X3.out.1
  clear o3 b3 O2 X2 D2
  refine hK.out _ _ (X3.out) (fun hx9 => ?_)
  clear hK K hHeld hx9
  have hHeld := X3.out
  try simp only [Act.put, List.setIfInBounds_toArray, List.set_cons_zero, List.set_cons_succ]
  refine wpAnyH_ready (rs := [7]) (by kernel_rfl) (by simp) ?_
  refine AllReadyH.cons (o := { dst := some 16, op := _, type := _, pos := _, after := _, guard := _ }) rfl (fun K hK => ?_) AllReadyH.nil
  refine step_append rfl (.tmp 11) (.tmp 15) 44 rfl (w.heap.size + 1) 5 i0 (.int .u8 0) 1 1 Tryd.underlying44 hi hz0 hz1 hz2 rfl (by decide) v2 4 _ rfl O3.out ⟨g3, 0, none⟩ 2 c3 ((bigR n 2).map (Value.int .u8)) rfl (by rw [List.length_map, bigR_len]) N3.out (u8_oneCell _) (by unfold maxLen; omega) (by omega) s3 ?_
  intro v4 w4 ho4 hg4
  have b4 : Below (w.heap.size + 1) w3 w4 := (Below.refl _ _).grown hg4 s3 (fun q hq => (World.ownsRow.lt O3.out q hq).1)
  have X4 : Hid (BoxX w4 w.heap.size (Z : Int) (.slice ao n ca)) := X3.out.belowM b4 (Nat.lt_succ_self _)
  have D4 : Hid (Below (w.heap.size + 1) w1 w4) := D3.out.trans b4
  have O4 : Hid (Own .u8 5 w4 (w.heap.size + 1) v4 (bigR Z 4 ++ bigR n 2)) := by refine own_of (q := 6) (ys := bigR Z 4 ++ bigR n 2) (by rw [List.length_append, bigR_len, bigR_len]) rfl ?_; rw [List.map_append]; exact ho4
  clear ho4 hg4 b4 O3 N3 X3 D3
  refine hK.out _ _ (X4.out) (fun hx9 => ?_)
  clear hK K hHeld hx9
  have hHeld := X4.out
  try simp only [Act.put, List.setIfInBounds_toArray, List.set_cons_zero, List.set_cons_succ]
  refine wpAnyH_take (i := 8) (oi := { dst := some 3, op := _, type := _, pos := _, after := _, guard := _ }) (v := v4) rfl (by kernel_rfl) (by kernel_rfl) (by kernel_rfl) (fun _ _ _ h => h) (Or.inl ⟨by rfl, ?hy6⟩) (by assumption) ?rest6
  case hy6 =>
    intro w9 hS9
    go_simp
  try simp only [Act.put, List.setIfInBounds_toArray, List.set_cons_zero, List.set_cons_succ]
  refine wpAnyH_done (by kernel_rfl) ?_ _
  clear hHeld
  obtain ⟨H, hH⟩ : ∃ H, H = bigR Z 4 ++ bigR n 2 := ⟨_, rfl⟩
  have HH : Hid (H.length = 6) := by show _ = _; rw [hH, List.length_append, bigR_len, bigR_len]
  rw [← hH] at O4 HT
  have O5 : Hid (Own .u8 5 w4 (w.heap.size + 1) v4 (H ++ effsB (ns.take 0))) := by show Own _ _ _ _ _ _; rw [List.take_zero, show effsB [] = [] from rfl, List.append_nil]; exact O4.out
  clear hH O4 X4
  go_wp2
  go_loopw [3, 4] (fun vo vk wr => ∃ k : Nat, k ≤ n ∧ vk = .int .i64 k ∧ Hid (Own .u8 5 wr (w.heap.size + 1) vo (H ++ effsB (ns.take k))) ∧ Hid (Below (w.heap.size + 1) w1 wr)) (fun _ i _ => n - (intOf i).toNat)
  case atStart => exact ⟨0, Nat.zero_le _, rfl, O5, D4⟩
  case round =>
    obtain ⟨k, hk, rfl, HW, HD⟩ := hrel
    have sD : w.heap.size + 1 ≤ wr.heap.size := Nat.le_trans s1 HD.out.size
    obtain ⟨-, y0, y1⟩ := X1.out.belowM HD.out (Nat.lt_succ_self _)
    by_cases hlt : k < n
    · have hltI : (k : Int) < (n : Int) := by omega
      obtain ⟨b, o, hao, hb, hc⟩ : ∃ b o, ao = some ⟨b, o, none⟩ ∧ b < w.heap.size ∧ CellsE w b (o + k * 8) (eAt ns k) := by
        obtain ⟨ao', cap', e', -, -, h3⟩ := HR.out
        simp only [Value.slice.injEq] at e'
        obtain ⟨rfl, -, -⟩ := e'
        rcases h3 with h3 | ⟨b, o, rfl, hb, hc⟩
        · have := HP.out; rw [h3] at this; simp at this; omega
        · exact ⟨b, o, rfl, hb, hc k (by rw [HP.out]; exact hlt)⟩
      subst hao
      have HCk : Hid (CellsE w1 b (o + k * 8) (eAt ns k)) := hc.below B1.out hb
      clear hc
      have hb1 : b < w.heap.size + 1 := Nat.lt_succ_of_lt hb
      have hef := HOK.out k hlt
      have hle := effB_len hef
      have HND : Hid (okNd (eAt ns k).nd = true) := okEf_nd' hef
      have hpz := (okNd_all HND.out).1
      have HSU : Hid (effsB (ns.take k) ++ effB (eAt ns k) = effsB (ns.take (k + 1))) := effsB_succ ns k (by rw [HP.out]; exact hlt)
      have HLE : Hid ((H ++ effsB (ns.take k)).length ≤ 6 + 189000) := by show _ ≤ _; have := HLN.out k hk; rw [List.length_append, HH.out]; omega
      obtain ⟨L, hL⟩ : ∃ L, L = H ++ effsB (ns.take k) := ⟨_, rfl⟩
      have HL2 : Hid (L ++ effB (eAt ns k) = H ++ effsB (ns.take (k + 1))) := by show _ = _; rw [hL, List.append_assoc, HSU.out]
      rw [← hL] at HW HLE
      clear hL HSU hef hle
      have hLE := HLE.out
      have OW : Hid (wr.ownsRow (w.heap.size + 1) 5 1 u3 L.length (L.map (Value.int .u8))) := HW.out
      obtain ⟨c0, c1, c2, c3, c4, c5, c6, c7⟩ := HCk.out.below HD.out hb1
      cases hdel : (eAt ns k).del with
      | true =>
        rw [hdel] at c0
        have HEF : Hid (effB (eAt ns k) = [2] ++ txB (eAt ns k).nd.path) := by show _ = _; unfold effB; rw [hdel]; rfl
        clear hdel
        go_wp2_with (at_builtin; go_must (refine wpList_append_own _ rfl _ _ 44 rfl (w.heap.size + 1) 5 i0 (.int .u8 0) 1 1 Tryd.underlying44 hi hz0 hz1 hz2 rfl (by decide) _ _ _ rfl (OW.out.alloc _) ⟨wr.heap.size, 0, none⟩ 1 1 [.int .u8 2] rfl rfl (cell_one_new _ _ _) (by intro u hu; simp at hu; subst hu; rfl) ?_ ?_ ?_ ?_))
        · unfold maxLen; omega
        · omega
        · simp; omega
        intro v5 w5 ho5 hg5 _
        have b5 : Below (w.heap.size + 1) wr w5 := ((Below.refl _ _).alloc sD _).grown hg5 (by simp; omega) (fun q hq => (World.ownsRow.lt OW.out q hq).1)
        have O5 : Hid (Own .u8 5 w5 (w.heap.size + 1) v5 (L ++ [2])) := by
          refine own_of (q := L.length + 1) (ys := L ++ [2]) (by simp) rfl ?_
          rw [List.map_append]; exact ho5
        have D5 : Hid (Below (w.heap.size + 1) w1 w5) := HD.out.trans b5
        clear ho5 hg5 b5 c0 c1 c2 c3 c4 c5 c6 c7 y0 y1 OW HW HD
        have s5 : w.heap.size + 1 ≤ w5.heap.size := Nat.le_trans s1 D5.out.size
        obtain ⟨-, y0, y1⟩ := X1.out.belowM D5.out (Nat.lt_succ_self _)
        obtain ⟨c0, c1, c2, c3, c4, c5, c6, c7⟩ := HCk.out.below D5.out hb1
        go_wp2_with fail
        refine (specText_any _ (eAt ns k).nd.path (by omega)).mono ?_
        rintro e w6 ⟨v6, rfl, o6, b6⟩
        clear c0 c1 c2 c3 c4 c5 c6 c7 y0 y1
        obtain ⟨N, hN⟩ : ∃ N, N = txB (eAt ns k).nd.path := ⟨_, rfl⟩
        have hNl : 0 < N.length ∧ N.length ≤ 188 := by
          have := okNd_all HND.out
          rw [hN, txB_len]; omega
        rw [← hN] at o6 HEF
        have HL3 : Hid (L ++ [2] ++ N = H ++ effsB (ns.take (k + 1))) := by show _ = _; rw [← HL2.out, HEF.out, List.append_assoc]
        generalize hm : N.length = m at *
        have HM : Hid (N.length = m) := hm
        obtain ⟨g6, q6, hv6⟩ := own_full o6 (by omega)
        rw [hm] at hv6
        subst hv6
        have O6 : Hid (w6.ownsRow (w.heap.size + 1) 5 1 v5 (L.length + 1) ((L ++ [2]).map (Value.int .u8))) := by have := O5.out.below b6; unfold Own at this; rw [List.length_append] at this; exact this
        have N6 : Hid (∀ j u, (N.map (Value.int .u8))[j]? = some u → w6.cell? ((⟨g6, 0, none⟩ : Addr).add j) = some u) := World.ownsRow.cells o6 rfl
        have D6 : Hid (Below (w.heap.size + 1) w1 w6) := D5.out.trans (b6.mono s5)
        have s6 : w.heap.size + 1 ≤ w6.heap.size := Nat.le_trans s1 D6.out.size
        clear o6 b6 O5 D5 hN hm HEF
        go_wp2_with (at_builtin; go_must (refine wpList_append_own _ rfl _ _ 44 rfl (w.heap.size + 1) 5 i0 (.int .u8 0) 1 1 Tryd.underlying44 hi hz0 hz1 hz2 rfl (by decide) _ _ _ rfl O6.out ⟨g6, 0, none⟩ m q6 (N.map (Value.int .u8)) rfl ?_ N6.out (u8_oneCell _) ?_ ?_ ?_ ?_))
        · rw [List.length_map, HM.out, Nat.mul_one]
        · unfold maxLen; omega
        · omega
        · exact s6
        intro v7 w7 ho7 hg7 _
        have O7 : Hid (Own .u8 5 w7 (w.heap.size + 1) v7 (H ++ effsB (ns.take (k + 1)))) := by
          refine own_of (q := L.length + 1 + m) (ys := L ++ [2] ++ N) (by rw [List.length_append, List.length_append, HM.out]; rfl) HL3.out.symm ?_
          rw [List.map_append, List.map_append, List.append_assoc]; exact ho7
        have D7 : Hid (Below (w.heap.size + 1) w1 w7) := D6.out.grown hg7 s6 (fun q hq => (World.ownsRow.lt O6.out q hq).1)
        clear ho7 hg7 O6 N6 D6
        go_wp2
        exact ⟨⟨k + 1, by omega, by go_num, O7, D7⟩, by simp [intOf]; omega⟩
      | false =>
        rw [hdel] at c0
        have HEF : Hid (effB (eAt ns k) = [1] ++ nodeB (eAt ns k).nd) := by show _ = _; unfold effB; rw [hdel]; rfl
        clear hdel
        go_wp2_with (at_builtin; go_must (refine wpList_append_own _ rfl _ _ 44 rfl (w.heap.size + 1) 5 i0 (.int .u8 0) 1 1 Tryd.underlying44 hi hz0 hz1 hz2 rfl (by decide) _ _ _ rfl (OW.out.alloc _) ⟨wr.heap.size, 0, none⟩ 1 1 [.int .u8 1] rfl rfl (cell_one_new _ _ _) (by intro u hu; simp at hu; subst hu; rfl) ?_ ?_ ?_ ?_))
        · unfold maxLen; omega
        · omega
        · simp; omega
        intro v5 w5 ho5 hg5 _
        have b5 : Below (w.heap.size + 1) wr w5 := ((Below.refl _ _).alloc sD _).grown hg5 (by simp; omega) (fun q hq => (World.ownsRow.lt OW.out q hq).1)
        have O5 : Hid (Own .u8 5 w5 (w.heap.size + 1) v5 (L ++ [1])) := by
          refine own_of (q := L.length + 1) (ys := L ++ [1]) (by simp) rfl ?_
          rw [List.map_append]; exact ho5
        have D5 : Hid (Below (w.heap.size + 1) w1 w5) := HD.out.trans b5
        clear ho5 hg5 b5 c0 c1 c2 c3 c4 c5 c6 c7 y0 y1 OW HW HD
        have s5 : w.heap.size + 1 ≤ w5.heap.size := Nat.le_trans s1 D5.out.size
        obtain ⟨-, y0, y1⟩ := X1.out.belowM D5.out (Nat.lt_succ_self _)
        obtain ⟨c0, c1, c2, c3, c4, c5, c6, c7⟩ := HCk.out.below D5.out hb1
        go_wp2_with fail
        refine (sNode_any _ (eAt ns k).nd HND.out).mono ?_
        rintro e w6 ⟨v6, rfl, o6, b6⟩
        clear c0 c1 c2 c3 c4 c5 c6 c7 y0 y1
        obtain ⟨N, hN⟩ : ∃ N, N = nodeB (eAt ns k).nd := ⟨_, rfl⟩
        have hNl : 0 < N.length ∧ N.length ≤ 188 := by
          have := okNd_all HND.out
          rw [hN, nodeB_len]; omega
        rw [← hN] at o6 HEF
        have HL3 : Hid (L ++ [1] ++ N = H ++ effsB (ns.take (k + 1))) := by show _ = _; rw [← HL2.out, HEF.out, List.append_assoc]
        generalize hm : N.length = m at *
        have HM : Hid (N.length = m) := hm
        obtain ⟨g6, q6, hv6⟩ := own_full o6 (by omega)
        rw [hm] at hv6
        subst hv6
        have O6 : Hid (w6.ownsRow (w.heap.size + 1) 5 1 v5 (L.length + 1) ((L ++ [1]).map (Value.int .u8))) := by have := O5.out.below b6; unfold Own at this; rw [List.length_append] at this; exact this
        have N6 : Hid (∀ j u, (N.map (Value.int .u8))[j]? = some u → w6.cell? ((⟨g6, 0, none⟩ : Addr).add j) = some u) := World.ownsRow.cells o6 rfl
        have D6 : Hid (Below (w.heap.size + 1) w1 w6) := D5.out.trans (b6.mono s5)
        have s6 : w.heap.size + 1 ≤ w6.heap.size := Nat.le_trans s1 D6.out.size
        clear o6 b6 O5 D5 hN hm HEF
        go_wp2_with (at_builtin; go_must (refine wpList_append_own _ rfl _ _ 44 rfl (w.heap.size + 1) 5 i0 (.int .u8 0) 1 1 Tryd.underlying44 hi hz0 hz1 hz2 rfl (by decide) _ _ _ rfl O6.out ⟨g6, 0, none⟩ m q6 (N.map (Value.int .u8)) rfl ?_ N6.out (u8_oneCell _) ?_ ?_ ?_ ?_))
        · rw [List.length_map, HM.out, Nat.mul_one]
        · unfold maxLen; omega
        · omega
        · exact s6
        intro v7 w7 ho7 hg7 _
        have O7 : Hid (Own .u8 5 w7 (w.heap.size + 1) v7 (H ++ effsB (ns.take (k + 1)))) := by
          refine own_of (q := L.length + 1 + m) (ys := L ++ [1] ++ N) (by rw [List.length_append, List.length_append, HM.out]; rfl) HL3.out.symm ?_
          rw [List.map_append, List.map_append, List.append_assoc]; exact ho7
        have D7 : Hid (Below (w.heap.size + 1) w1 w7) := D6.out.grown hg7 s6 (fun q hq => (World.ownsRow.lt O6.out q hq).1)
        clear ho7 hg7 O6 N6 D6
        go_wp2
        exact ⟨⟨k + 1, by omega, by go_num, O7, D7⟩, by simp [intOf]; omega⟩
    · have hkn : k = n := by omega
      subst hkn
      go_wp2
      go_ret
      refine ⟨_, rfl, ?_, B1.out.trans (HD.out.mono (Nat.le_succ _))⟩
      rw [HT.out, ← effsB_all ns k (by rw [HP.out]; exact Nat.le_refl _)]
      exact HW.out.mono (Nat.le_succ _)

end Go.Proofs.YtfmjalbiimhdhaaDoor
