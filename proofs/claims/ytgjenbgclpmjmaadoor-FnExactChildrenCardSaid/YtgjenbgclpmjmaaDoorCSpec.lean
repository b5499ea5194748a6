import Derived.Test.YtgjenbgclpmjmaaDoorCChild
namespace Go.Proofs.YtgjenbgclpmjmaaDoor
open Go.RowKit Go.Shelf

set_option maxHeartbeats 1000000 in
set_option maxRecDepth 100000 in
theorem l3Below_any (w : World) (v : Value) (ns : List Nd) (p : ByteArray) (h : RdN w v ns) (hn : ns.length ≤ 1000) (hok : ∀ k, k < ns.length → okNd (nAt ns k) = true) :
    Calls Tryd.prog 80 #[v, .string p] w fun e w' => ∃ v', e = .returned v' ∧ OwnN 81 w' w.heap.size v' (chN ns p) ∧ Below w.heap.size w w' := by
  obtain ⟨i0, hi, hz0, hz1, hz2⟩ := info_parts Tryd.infoN
  obtain ⟨ao, ca, rfl, _, _⟩ := h.len
  have HR : Hid (RdN w (.slice ao ns.length ca) ns) := h
  have HOK : Hid (∀ k, k < ns.length → okNd (nAt ns k) = true) := hok
  have O0 : Hid (OwnN 81 (w.alloc (.cells #[] 81)) w.heap.size (.slice (some ⟨w.heap.size, 0, none⟩) 0 0) (chN (ns.take 0) p)) := World.ownsRow_lit w #[] 0 (Nat.le_refl _) (Nat.zero_le _) rfl
  have B0 : Hid (Below w.heap.size w (w.alloc (.cells #[] 81))) := (Below.refl _ _).alloc (Nat.le_refl _) _
  generalize hnn : ns.length = n at *
  have HP : Hid (ns.length = n) := hnn
  clear h hok hnn
  go_enter Tryd.func80, Tryd.ntmps80
  go_wp2
  go_loopw [5, 6] (fun vo vk wr => ∃ k : Nat, k ≤ n ∧ vk = .int .i64 k ∧ Hid (OwnN 81 wr w.heap.size vo (chN (ns.take k) p)) ∧ Hid (Below w.heap.size w wr)) (fun _ i _ => n - (intOf i).toNat)
  case atStart => exact ⟨0, Nat.zero_le _, rfl, O0, B0⟩
  case round =>
    obtain ⟨k, hk, rfl, HW, HB⟩ := hrel
    have sB := HB.out.size
    by_cases hlt : k < n
    · have hltI : (k : Int) < (n : Int) := by omega
      obtain ⟨b, o, hao, hb, hc⟩ : ∃ b o, ao = some ⟨b, o, none⟩ ∧ b < w.heap.size ∧ CellsN w b (o + k * 7) (nAt ns k) := by
        obtain ⟨ao', cap', e', -, -, h3⟩ := HR.out
        simp only [Value.slice.injEq] at e'
        obtain ⟨rfl, -, -⟩ := e'
        rcases h3 with h3 | ⟨b, o, rfl, hb, hc⟩
        · have := HP.out; rw [h3] at this; simp at this; omega
        · exact ⟨b, o, rfl, hb, hc k (by rw [HP.out]; exact hlt)⟩
      subst hao
      have HCk : Hid (CellsN w b (o + k * 7) (nAt ns k)) := hc
      clear hc
      obtain ⟨c0, c1, c2, c3, c4, c5, c6⟩ := HCk.out.below HB.out hb
      have hok := HOK.out k hlt
      have hll : (chN (ns.take k) p).length ≤ 1000 := by
        have := chN_len (ns.take k) p
        rw [List.length_take] at this
        omega
      cases hA : ((nAt ns k).path.toList == [47]) with
      | true =>
        have HS : Hid (chN (ns.take (k + 1)) p = chN (ns.take k) p) := by show _ = _; exact chN_no ns p k (by rw [HP.out]; exact hlt) (by unfold chB; rw [hA]; rfl)
        go_wp2
        exact ⟨⟨k + 1, by omega, by go_num, (by rw [HS.out]; exact HW), HB⟩, by simp [intOf]; omega⟩
      | false =>
        go_wp2_with fail
        refine (l3Parent_any wr (nAt ns k).path (okNd_path hok)).mono ?_
        rintro e w3 ⟨rfl, b3⟩
        have O3 : Hid (OwnN 81 w3 w.heap.size u5 (chN (ns.take k) p)) := HW.out.below b3
        have B3 : Hid (Below w.heap.size w w3) := HB.out.trans (b3.mono sB)
        have s3 := B3.out.size
        clear c0 c1 c2 c3 c4 c5 c6 b3 HW HB
        obtain ⟨c0, c1, c2, c3, c4, c5, c6⟩ := HCk.out.below B3.out hb
        unfold sV
        cases hB : (parL (nAt ns k).path == p.toList) with
        | false =>
          have HS : Hid (chN (ns.take (k + 1)) p = chN (ns.take k) p) := by show _ = _; exact chN_no ns p k (by rw [HP.out]; exact hlt) (by unfold chB; rw [hA, hB]; rfl)
          go_wp2
          exact ⟨⟨k + 1, by omega, by go_num, (by rw [HS.out]; exact O3), B3⟩, by simp [intOf]; omega⟩
        | true =>
          have HS : Hid (chN (ns.take (k + 1)) p = chN (ns.take k) p ++ [nAt ns k]) := by show _ = _; exact chN_yes ns p k (by rw [HP.out]; exact hlt) (by unfold chB; rw [hA, hB]; rfl)
          generalize chN (ns.take k) p = Lk at *
          generalize nAt ns k = m at *
          have OR : Hid (w3.ownsRow w.heap.size 81 7 u5 Lk.length (nrow Lk)) := O3.out
          go_wp2_with (at_builtin; go_must (refine wpList_append_own _ rfl _ _ 28 rfl w.heap.size 81 i0 (.agg #[.string ByteArray.empty, .string ByteArray.empty, .int .i64 0, .int .i64 0, .int .i64 0, .int .i64 0, .int .i64 0]) 7 72 Tryd.underlying28 hi hz0 hz1 hz2 rfl (by decide) _ _ _ rfl (OR.out.alloc _) ⟨w3.heap.size, 0, none⟩ 1 1 (ndL m) rfl rfl (ndL_cells w3 m _) (ndL_one m) ?_ ?_ ?_ ?_))
          · unfold maxLen; omega
          · omega
          · simp; omega
          intro v5 w5 ho5 hg5 _
          have O5 : Hid (OwnN 81 w5 w.heap.size v5 (chN (ns.take (k + 1)) p)) := by
            rw [HS.out]
            unfold OwnN
            rw [List.length_append, nrow_one]
            exact ho5
          have B5 : Hid (Below w.heap.size w w5) := (B3.out.alloc s3 _).grown hg5 (by simp; omega) (fun q hq => (World.ownsRow.lt OR.out q hq).1)
          clear ho5 hg5 OR O3 B3 HS c0 c1 c2 c3 c4 c5 c6
          go_wp2
          exact ⟨⟨k + 1, by omega, by go_num, O5, B5⟩, by simp [intOf]; omega⟩
    · have hkn : k = n := by omega
      subst hkn
      go_wp2
      go_ret
      refine ⟨_, rfl, ?_, HB.out⟩
      have := HW.out
      rw [List.take_of_length_le (by rw [HP.out]; exact Nat.le_refl _)] at this
      exact this

theorem OwnN.keepS {w w' : World} {lo : Nat} {v : Value} {ns : List Nd} {t : TypeId} (h : OwnN 81 w lo v ns) (hk : KT t w w') (ht : 81 ≠ t) : OwnN 81 w' lo v ns := by
  refine ⟨h.1, ?_⟩
  rcases h.2 with hn | ⟨g, cap, cur, rfl, hbg, hgg, rest⟩
  · exact .inl hn
  · exact .inr ⟨g, cap, cur, rfl, hbg, hk.box hgg ht, rest⟩
theorem chL_take (M : List Nd) (k : Nat) (h : k < M.length) : (M.take (k + 1)).map (fun n => lastL n.path) = (M.take k).map (fun n => lastL n.path) ++ [lastL (nAt M k).path] := by
  rw [List.take_succ_eq_append_getElem h, List.map_append, nAt_get h]; rfl

set_option maxHeartbeats 1000000 in
set_option maxRecDepth 100000 in
theorem specChildren_any (w : World) (v : Value) (ns : List Nd) (p : ByteArray) (h : RdN w v ns) (hn : ns.length ≤ 1048576) (hsz : ∀ i, (nAt ns i).path.size ≤ 1048576 ∧ (nAt ns i).data.size ≤ 1048576) (hp : p.size ≤ 1048576) :
    Calls Tryd.prog 37 #[.agg #[v], .string p] w fun e w' => ∃ v', e = .returned v' ∧ OwnS w' w.heap.size v' (resC ns p) ∧ Below w.heap.size w w' := by
  obtain ⟨i0, hi, hz0, hz1, hz2⟩ := info_parts Tryd.infoT
  obtain ⟨ao, ca, rfl, _, _⟩ := h.len
  have HR : Hid (RdN w (.slice ao ns.length ca) ns) := h
  have HZ : Hid (∀ i, (nAt ns i).path.size ≤ 1048576 ∧ (nAt ns i).data.size ≤ 1048576) := hsz
  have B0 : Hid (Below w.heap.size w ((w.alloc (.cells #[.slice ao ns.length ca] 30)).alloc (.cells #[] 9))) := ((Below.refl _ _).alloc (Nat.le_refl _) _).alloc (by simp) _
  have X0 : Hid (Boxed ((w.alloc (.cells #[.slice ao ns.length ca] 30)).alloc (.cells #[] 9)) w.heap.size 30 (.slice ao ns.length ca)) := boxed_below ((Below.refl _ _).alloc (Nat.le_refl _) _) (Boxed.new _ _ _)
  have O0 : Hid (OwnS ((w.alloc (.cells #[.slice ao ns.length ca] 30)).alloc (.cells #[] 9)) w.heap.size (.slice (some ⟨w.heap.size + 1, 0, none⟩) 0 0) []) := by
    have := World.ownsRow_lit (base := w.heap.size) (e := 9) (size := 1) (w.alloc (.cells #[.slice ao ns.length ca] 30)) #[] 0 (by simp) (Nat.zero_le _) rfl
    rw [show (w.alloc (.cells #[.slice ao ns.length ca] 30)).heap.size = w.heap.size + 1 by simp] at this
    exact this
  clear h hsz
  go_enter Tryd.func37, Tryd.ntmps37
  go_wp2_with fail
  generalize (w.alloc (.cells #[.slice ao ns.length ca] 30)).alloc (.cells #[] 9) = w0 at *
  refine (specTree_any _ _ ns (HR.out.below B0.out) hn HZ.out).mono ?_
  rintro e w1 ⟨rfl, b1⟩
  have B1 : Hid (Below w.heap.size w w1) := B0.out.trans (b1.mono B0.out.size)
  have X1 : Hid (Boxed w1 w.heap.size 30 (.slice ao ns.length ca)) := boxed_below b1 X0.out
  have O1 : Hid (OwnS w1 w.heap.size (.slice (some ⟨w.heap.size + 1, 0, none⟩) 0 0) []) := O0.out.below b1
  clear b1 X0 B0 O0
  by_cases hok : okTree ns = true
  rotate_left
  · have hok' : okTree ns = false := by simpa using hok
    have HT : Hid (resC ns p = []) := by show _ = _; unfold resC; rw [hok']; rfl
    rw [hok']
    clear hok hok'
    go_wp2
    go_ret
    exact ⟨_, rfl, (by rw [HT.out]; exact O1.out), B1.out⟩
  rw [hok]
  go_wp2_with fail
  refine (specPath_any _ p hp).mono ?_
  rintro e w2 ⟨rfl, b2⟩
  have B2 : Hid (Below w.heap.size w w2) := B1.out.trans (b2.mono B1.out.size)
  have X2 : Hid (Boxed w2 w.heap.size 30 (.slice ao ns.length ca)) := boxed_below b2 X1.out
  have O2 : Hid (OwnS w2 w.heap.size (.slice (some ⟨w.heap.size + 1, 0, none⟩) 0 0) []) := O1.out.below b2
  clear b2 X1 B1 O1
  by_cases hpp : okPath p = true
  rotate_left
  · have hpp' : okPath p = false := by simpa using hpp
    have HT : Hid (resC ns p = []) := by show _ = _; unfold resC; rw [hpp']; simp
    rw [hpp']
    clear hpp hpp' hok
    go_wp2
    go_ret
    exact ⟨_, rfl, (by rw [HT.out]; exact O2.out), B2.out⟩
  have hn1 := okTree_len hok
  have HT : Hid (resC ns p = chL ns p) := by show _ = _; unfold resC; rw [hok, hpp]; rfl
  have HOK : Hid (∀ k, k < ns.length → okNd (nAt ns k) = true) := fun k hk => okTree_nd hok k hk
  rw [hpp]
  clear hok hpp
  have c0 := X2.out.cell
  go_wp2_with fail
  refine (l3Below_any _ _ ns p (HR.out.below B2.out) hn1 HOK.out).mono ?_
  rintro e w3 ⟨v3, rfl, o3, b3⟩
  have B3 : Hid (Below w.heap.size w w3) := B2.out.trans (b3.mono B2.out.size)
  have O3 : Hid (OwnS w3 w.heap.size (.slice (some ⟨w.heap.size + 1, 0, none⟩) 0 0) []) := O2.out.below b3
  obtain ⟨M, hM⟩ : ∃ M, M = chN ns p := ⟨_, rfl⟩
  have HM : Hid (chL ns p = M.map (fun n => lastL n.path)) := by show _ = _; rw [hM]; rfl
  have HMO : Hid (∀ j, j < M.length → okNd (nAt M j) = true) := by rw [hM]; exact fun j hj => chN_ok HOK.out j hj
  have hml : M.length ≤ 1000 := by rw [hM]; exact Nat.le_trans (chN_len ns p) hn1
  rw [← hM] at o3
  have R3 : Hid (OwnN 81 w3 w2.heap.size v3 M) := o3
  clear hM o3 b3 c0 X2 B2 O2
  obtain ⟨a3, k3, hv3, _, _⟩ := R3.out.rd.len
  subst hv3
  generalize hmm : M.length = m at *
  have HMM : Hid (M.length = m) := hmm
  clear hmm
  have s3 := B3.out.size
  go_wp2
  go_loopw [5, 7] (fun vo vk wr => ∃ k : Nat, k ≤ m ∧ vk = .int .i64 k ∧ Hid (OwnS wr w.heap.size vo ((M.take k).map (fun n => lastL n.path))) ∧ Hid (OwnN 81 wr w2.heap.size (.slice a3 m k3) M) ∧ Hid (Below w.heap.size w wr)) (fun _ i _ => m - (intOf i).toNat)
  case atStart => exact ⟨0, Nat.zero_le _, rfl, O3, R3, B3⟩
  case round =>
    obtain ⟨k, hk, rfl, HW, HRr, HB⟩ := hrel
    have sB := HB.out.size
    by_cases hlt : k < m
    · have hltI : (k : Int) < (m : Int) := by omega
      obtain ⟨b, o, hao, hb, hc⟩ : ∃ b o, a3 = some ⟨b, o, none⟩ ∧ b < wr.heap.size ∧ CellsN wr b (o + k * 7) (nAt M k) := by
        obtain ⟨ao', cap', e', -, -, h3⟩ := HRr.out.rd
        simp only [Value.slice.injEq] at e'
        obtain ⟨rfl, -, -⟩ := e'
        rcases h3 with h3 | ⟨b, o, rfl, hb, hc⟩
        · have := HMM.out; rw [h3] at this; simp at this; omega
        · exact ⟨b, o, rfl, hb, hc k (by rw [HMM.out]; exact hlt)⟩
      subst hao
      have e0 := hc.c0
      clear hc
      have hok := HMO.out k hlt
      go_wp2_with fail
      refine (l3Last_any wr (nAt M k).path (okNd_path hok)).mono ?_
      rintro e w4 ⟨rfl, b4⟩
      have O4 : Hid (OwnS w4 w.heap.size u5 ((M.take k).map (fun n => lastL n.path))) := HW.out.below b4
      have R4 : Hid (OwnN 81 w4 w2.heap.size (.slice (some ⟨b, o, none⟩) m k3) M) := HRr.out.below b4
      have B4 : Hid (Below w.heap.size w w4) := HB.out.trans (b4.mono sB)
      have s4 := B4.out.size
      have HS : Hid ((M.take (k + 1)).map (fun n => lastL n.path) = (M.take k).map (fun n => lastL n.path) ++ [lastL (nAt M k).path]) := chL_take M k (by rw [HMM.out]; exact hlt)
      have hll : ((M.take k).map (fun n => lastL n.path)).length ≤ 1000 := by rw [List.length_map, List.length_take]; omega
      clear b4 HW HRr HB e0
      generalize (M.take k).map (fun n => lastL n.path) = Lk at *
      generalize lastL (nAt M k).path = ln at *
      have OR : Hid (w4.ownsRow w.heap.size 9 1 u5 Lk.length (Lk.map sV)) := O4.out
      unfold sV
      go_wp2_with (at_builtin; go_must (refine wpList_append_own _ rfl _ _ 60 rfl w.heap.size 9 i0 (.string ByteArray.empty) 1 16 Tryd.underlying60 hi hz0 hz1 hz2 rfl (by decide) _ _ _ rfl (OR.out.alloc _) ⟨w4.heap.size, 0, none⟩ 1 1 [.string ⟨ln.toArray⟩] rfl rfl (cell_one_new _ _ _) (by intro u hu; simp at hu; subst hu; rfl) ?_ ?_ ?_ ?_))
      · unfold maxLen; omega
      · omega
      · simp; omega
      intro v5 w5 ho5 hg5 _
      have O5 : Hid (OwnS w5 w.heap.size v5 ((M.take (k + 1)).map (fun n => lastL n.path))) := by
        rw [HS.out]
        unfold OwnS
        rw [List.length_append, List.map_append]
        exact ho5
      have B5 : Hid (Below w.heap.size w w5) := (B4.out.alloc s4 _).grown hg5 (by simp; omega) (fun q hq => (World.ownsRow.lt OR.out q hq).1)
      have k5 : KT 9 w4 w5 := ((KT.refl _ _).alloc _).grown (OR.out.alloc _) hg5
      have R5 : Hid (OwnN 81 w5 w2.heap.size (.slice (some ⟨b, o, none⟩) m k3) M) := R4.out.keepS k5 (by decide)
      clear ho5 hg5 OR O4 R4 B4 HS k5
      go_wp2
      exact ⟨⟨k + 1, by omega, by go_num, O5, R5, B5⟩, by simp [intOf]; omega⟩
    · have hkn : k = m := by omega
      subst hkn
      go_wp2
      go_ret
      refine ⟨_, rfl, ?_, HB.out⟩
      have := HW.out
      rw [List.take_of_length_le (by rw [HMM.out]; exact Nat.le_refl _)] at this
      rw [HT.out, HM.out]; exact this

end Go.Proofs.YtgjenbgclpmjmaaDoor
