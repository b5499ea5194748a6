import Derived.Test.YtoljmlhnbmeloaaYoungest
namespace Go.Proofs.Ytoljmlhnbmeloaa
open Go.RowKit

set_option maxHeartbeats 400000 in
theorem markByteE_row {te : TypeId} (w : World) (base g n cap : Nat) (xs : List Int) (k : Int) (hx : xs.length = n) (hown : Own .u8 te w base (.slice (some ⟨g, 0, none⟩) n cap) xs) (hk0 : 0 ≤ k) (hk1 : k ≤ 1099511627776) (hn : n ≤ 1099511627776) :
    Calls Try.prog 27 #[.slice (some ⟨g, 0, none⟩) n cap, .int .i64 k] w fun e w' => e = .returned (.int .i64 (k + n)) ∧ Own .u8 te w' base (.slice (some ⟨g, 0, none⟩) n cap) (marks k n) ∧ w.grownBy w' (some g) := by
  have HX : Hid (xs.length = n) := hx
  clear hx
  go_enter Try.func27, Try.ntmps27
  go_wp2
  go_loopw [1, 5] (fun kk i wr => ∃ j : Nat, j ≤ n ∧ i = .int .i64 j ∧ kk = .int .i64 (k + j) ∧ Own .u8 te wr base (.slice (some ⟨g, 0, none⟩) n cap) (mix (marks k n) xs j) ∧ w.grownBy wr (some g)) (fun _ i _ => n - (intOf i).toNat)
  case atStart => exact ⟨0, Nat.zero_le _, rfl, by go_num, by rw [mix_zero]; exact hown, World.grownBy.refl _ _⟩
  case round =>
    obtain ⟨j, hj, rfl, rfl, ho, hg⟩ := hrel
    by_cases hlt : j < n
    · have ho' : wr.ownsRow base te 1 (.slice (some ⟨g, 0, none⟩) n cap) n ((mix (marks k n) xs j).map (Value.int .u8)) := by
        have := ho; unfold Own at this; rw [mix_length (by rw [marks_length, HX.out]), HX.out] at this; exact this
      have hf := World.ownsRow.frozenAt ho' j
      have hc : ∃ c, wr.cell? ⟨g, j, none⟩ = some c := ⟨_, (World.ownsRow.cellAt ho' j (by omega)).trans (List.getElem?_eq_getElem (by simp [mix_length (show (marks k n).length = xs.length by rw [marks_length, HX.out]), HX.out]; exact hlt))⟩
      obtain ⟨c, hc⟩ := hc
      have HO : Hid (Own .u8 te wr base (.slice (some ⟨g, 0, none⟩) n cap) (mix (marks k n) xs j)) := ho
      clear ho ho'
      have hltI : (j : Int) < (n : Int) := by omega
      go_wp2
      go_roundw
      case rel => exact ⟨j + 1, by omega, by go_num, by go_num, Own.mixed (by rw [marks_length, HX.out]) HX.out (by rw [HX.out]; exact hlt) HO.out (by rw [marks_getD _ _ _ hlt]), grownBy_set _ _ _ _ _ hg⟩
      case measure => simp [intOf]; omega
    · have hjn : j = n := by omega
      subst hjn
      go_wp2
      go_ret
      exact ⟨rfl, by rw [mix_all (by rw [marks_length, HX.out]) (by rw [HX.out]; exact Nat.le_refl _)] at ho; exact ho, hg⟩

theorem markByteE_any {te : TypeId} (w : World) (base : Nat) (v : Value) (xs : List Int) (k : Int) (hown : Own .u8 te w base v xs) (hk0 : 0 ≤ k) (hk1 : k ≤ 1099511627776) (hn : xs.length ≤ 1099511627776) :
    Calls Try.prog 27 #[v, .int .i64 k] w fun e w' => e = .returned (.int .i64 (k + xs.length)) ∧ Own .u8 te w' base v (marks k xs.length) ∧ w.grownBy w' v.ownBlock := by
  rcases hown.row with ⟨rfl, rfl⟩ | ⟨g, cap, rfl, _⟩
  · refine (markByteS_nil w k).mono ?_
    rintro e w' ⟨rfl, rfl⟩
    exact ⟨ret_int (by simp), World.ownsRow_nil _ _ _ _, World.grownBy.refl _ _⟩
  · exact markByteE_row w base g xs.length cap xs k rfl hown hk0 hk1 hn

theorem splice_whole {α : Type} (L V : List α) (h : V.length = L.length) : splice L 0 V = V := by
  unfold splice
  rw [List.take_zero, Nat.zero_add, List.drop_eq_nil_of_le (by omega)]
  simp

theorem own_arr {w W : World} {base : Nat} {t : TypeId} {cs : Array Value} {R : List Int} (hb : base ≤ w.heap.size) (hcs : cs.size = 64) (hR : R.length = 64) (hW : Below (w.alloc (.cells cs t)).heap.size (w.alloc (.cells cs t)) W) :
    Own .u8 t (W.setCells w.heap.size 0 (R.map (Value.int .u8))) base (.slice (some ⟨w.heap.size, 0, none⟩) 64 64) R ∧ W.there w.heap.size 0 64 := by
  have h0 : (w.alloc (.cells cs t)).ownsRow base t 1 (.slice (some ⟨w.heap.size, 0, none⟩) 64 64) 64 cs.toList := by
    have := World.ownsRow_lit (size := 1) (e := t) w cs 64 hb (by unfold maxLen; omega) (by omega)
    exact this
  have h1 : W.ownsRow base t 1 (.slice (some ⟨w.heap.size, 0, none⟩) 64 64) 64 cs.toList := World.ownsRow.kept h0 (row := none) ⟨hW.os, hW.tape, hW.output, hW.size, fun q hq _ => hW.block q hq⟩ (.inr (by simp [Value.ownBlock]))
  have h2 := (ownsRow_setCells (R.map (Value.int .u8)) 0 W cs.toList h1 (by simp [hR, hcs])).1
  rw [splice_whole _ _ (by simp [hR, hcs])] at h2
  refine ⟨?_, fun j hj => ⟨?_, ?_⟩⟩
  · unfold Own; rw [hR]; exact h2
  · rw [Nat.zero_add, World.ownsRow.cellAt h1 j (by omega), List.getElem?_eq_getElem (by simp [hcs]; exact hj)]; rfl
  · rw [Nat.zero_add]; exact World.ownsRow.frozenAt h1 j

theorem size_setC (b : Nat) : ∀ (vs : List Value) (o : Nat) (w : World), (w.setCells b o vs).heap.size = w.heap.size
  | [], _, _ => rfl
  | v :: r, o, w => by rw [World.setCells, size_setC b r]; simp

theorem own_arr2 {w W : World} {base : Nat} {t : TypeId} {cs : Array Value} {Z R : List Int} (hb : base ≤ w.heap.size) (hcs : cs.size = 64) (hZ : Z.length = 64) (hR : R.length = 64)
    (hW : Below ((w.alloc (.cells cs t)).setCells w.heap.size 0 (Z.map (Value.int .u8))).heap.size ((w.alloc (.cells cs t)).setCells w.heap.size 0 (Z.map (Value.int .u8))) W) :
    Own .u8 t (W.setCells w.heap.size 0 (R.map (Value.int .u8))) base (.slice (some ⟨w.heap.size, 0, none⟩) 64 64) R ∧ W.there w.heap.size 0 64 := by
  have h0 := (own_arr (R := Z) hb hcs hZ (Below.refl _ (w.alloc (.cells cs t)))).1
  unfold Own at h0
  rw [hZ] at h0
  have h1 : W.ownsRow base t 1 (.slice (some ⟨w.heap.size, 0, none⟩) 64 64) 64 (Z.map (Value.int .u8)) := World.ownsRow.kept h0 (row := none) ⟨hW.os, hW.tape, hW.output, hW.size, fun q hq _ => hW.block q hq⟩ (.inr (by simp [Value.ownBlock]))
  have h2 := (ownsRow_setCells (R.map (Value.int .u8)) 0 W (Z.map (Value.int .u8)) h1 (by simp [hR, hZ])).1
  rw [splice_whole _ _ (by simp [hR, hZ])] at h2
  refine ⟨?_, fun j hj => ⟨?_, ?_⟩⟩
  · unfold Own; rw [hR]; exact h2
  · rw [Nat.zero_add, World.ownsRow.cellAt h1 j (by omega), List.getElem?_eq_getElem (by simp [hZ]; exact hj)]; rfl
  · rw [Nat.zero_add]; exact World.ownsRow.frozenAt h1 j

theorem rdv_len (dur : List Int) (ps : List (Int × List Int)) (b : Nat) (hv : vldD dur.length ps = true) (hb : b * 64 + 64 ≤ dur.length) : ∀ k, k ≤ ps.length → (rdv dur ps b k).length = 64
  | 0, _ => by unfold rdv; rw [List.length_take, List.length_drop]; omega
  | k + 1, hk => by
    by_cases e : pB ps k = b
    · rw [rdv_at dur ps b k e]
      obtain ⟨_, _, _, _, h⟩ := vld_at hv k (by omega)
      exact h
    · rw [rdv_off dur ps b k e]; exact rdv_len dur ps b hv hb k (by omega)

set_option maxHeartbeats 2000000 in
set_option maxRecDepth 100000 in
theorem implRead_yes (w : World) (va vb : Option Addr) (dl ca n cb : Nat) (dur : List Int) (ps : List (Int × List Int)) (b : Nat) (hd : Rd .u8 w (.slice va dl ca) dur) (hdl : dur.length = dl) (hp : RdW w (.slice vb n cb) ps) (hl : ps.length = n)
    (hv : vldD dl ps = true) (hb : b < dl / 64) (hd1 : dl ≤ 1048576) (hpd : ∀ i, (pD ps i).length ≤ 1048576) :
    Calls Try.prog 17 #[.agg #[.slice va dl ca, .slice vb n cb], .int .i64 b] w fun e w' => ∃ v', e = .returned v' ∧ Own .u8 75 w' w.heap.size v' (rdv dur ps b n) ∧ Below w.heap.size w w' := by
  have HD : Hid (Rd .u8 w (.slice va dl ca) dur) := hd
  have HP : Hid (RdW w (.slice vb n cb) ps) := hp
  have HL : Hid (ps.length = n) := hl
  have HDL : Hid (dur.length = dl) := hdl
  have HPD : Hid (∀ i, (pD ps i).length ≤ 1048576) := hpd
  have B0 : Hid (Below w.heap.size w (w.alloc (.cells #[.slice va dl ca, .slice vb n cb] 32))) := (Below.refl _ _).alloc (Nat.le_refl _) _
  have X0 : Hid (Box2 (w.alloc (.cells #[.slice va dl ca, .slice vb n cb] 32)) w.heap.size (.slice va dl ca) (.slice vb n cb)) := Box2.new _ _ _ _
  have HV : Hid (vldD dl ps = true) := hv
  have hn2 : n ≤ 2000 := by have := ((vldD_iff dl ps).1 hv).2.2.2.1; omega
  have hb64 : b * 64 + 64 ≤ dl := by have := ((vldD_iff dl ps).1 hv).1; omega
  have hlen : (rdv dur ps b n).length = 64 := rdv_len dur ps b (by rw [hdl]; exact hv) (by omega) n (by omega)
  obtain ⟨R, hR⟩ : ∃ R, R = rdv dur ps b n := ⟨_, rfl⟩
  rw [← hR] at hlen ⊢
  have HR : Hid (R = rdv dur ps b n) := hR
  obtain ⟨V, hV⟩ : ∃ V, V = R.map (Value.int .u8) := ⟨_, rfl⟩
  have HVE : Hid (V = R.map (Value.int .u8)) := hV
  have HVL : Hid (V.length = 64) := by rw [hV]; show _ = _; rw [List.length_map]; exact hlen
  have HV1 : Hid (∀ v ∈ V, v.oneCell' = true) := by rw [hV]; exact ints_oneCell _ _
  have HRL : Hid (R.length = 64) := hlen
  clear hd hp hl hdl hpd hv hR hV hlen
  go_enter Try.func17, Try.ntmps17
  go_wp2_with fail
  generalize w.alloc (.cells #[.slice va dl ca, .slice vb n cb] 32) = w0 at *
  refine (implValid_any _ va vb dl ca n cb ps (HP.out.below B0.out) HL.out hd1 (by omega) HPD.out).mono ?_
  rintro e w1 ⟨rfl, b1⟩
  rw [HV.out]
  have B1 : Hid (Below w.heap.size w w1) := B0.out.trans (b1.mono B0.out.size)
  have X1 : Hid (Box2 w1 w.heap.size (.slice va dl ca) (.slice vb n cb)) := X0.out.below b1
  clear b1 X0 B0
  obtain ⟨z1, c0, c1⟩ := X1.out
  go_wp2_with fail
  refine (hasBlock_any _ va dl ca _ (b : Int) hd1).mono ?_
  rintro e w2 ⟨rfl, b2⟩
  rw [show decide (0 ≤ (b : Int) ∧ (b : Int) < ((dl / 64 : Nat) : Int)) = true by rw [decide_eq_true_eq]; exact ⟨by omega, by omega⟩]
  have B2 : Hid (Below w.heap.size w w2) := B1.out.trans (b2.mono B1.out.size)
  have X2 : Hid (Box2 w2 w.heap.size (.slice va dl ca) (.slice vb n cb)) := X1.out.below b2
  clear b2 X1 B1 z1 c0 c1
  obtain ⟨z1, c0, c1⟩ := X2.out
  go_wp2_with fail
  refine (youngest_any w2 va vb dl ca n cb dur ps HDL.out (HP.out.below B2.out) HL.out HV.out).mono ?_
  rintro e w3 ⟨rfl, ⟨tv, rs, ht, hof⟩, b3⟩
  have B3 : Hid (Below w.heap.size w w3) := B2.out.trans (b3.mono B2.out.size)
  have X3 : Hid (Box2 w3 w.heap.size (.slice va dl ca) (.slice vb n cb)) := X2.out.below b3
  have HT : Hid (Tab w3 (w2.heap.size + 1) (w2.heap.size + 2) (w2.heap.size + 1) tv rs) := ht
  have HOF : Hid (TabOf dur ps n rs) := hof
  clear b3 X2 B2 z1 c0 c1 ht hof
  obtain ⟨z1, c0, c1⟩ := X3.out
  by_cases hf : ∃ i, i < rs.length ∧ pB rs i = (b : Int)
  · obtain ⟨i, hi, hbi⟩ := hf
    have CG : Calls Try.prog 51 #[.pointer (some ⟨w2.heap.size + 2, 0, none⟩), .int .i64 b] w3 fun e w' => e = .returned (.tuple #[.agg V.toArray, .bool true]) ∧ Below w3.heap.size w3 w' := by
      rw [HVE.out, HR.out, (HOF.out.1 b).1 i hi hbi]
      exact get_yes w3 _ _ _ tv rs b i HT.out hi hbi (wf_small _ (by omega) (by omega))
    clear HT HOF hbi
    go_wp2_with fail
    refine CG.mono ?_
    rintro e w4 ⟨rfl, b4⟩
    have B4 : Hid (Below w.heap.size w w4) := B3.out.trans (b4.mono B3.out.size)
    clear b4 CG X3 c0 c1
    have BW : ∀ cs : Array Value, cs.size = 64 → Own .u8 75 ((w4.alloc (.cells cs 75)).setCells w4.heap.size 0 V) w.heap.size (.slice (some ⟨w4.heap.size, 0, none⟩) 64 64) R ∧ (w4.alloc (.cells cs 75)).there w4.heap.size 0 64 := by
      intro cs hcs
      rw [HVE.out]
      exact own_arr B4.out.size hcs HRL.out (Below.refl _ _)
    have HBW : Hid (∀ cs : Array Value, cs.size = 64 → Own .u8 75 ((w4.alloc (.cells cs 75)).setCells w4.heap.size 0 V) w.heap.size (.slice (some ⟨w4.heap.size, 0, none⟩) 64 64) R ∧ (w4.alloc (.cells cs 75)).there w4.heap.size 0 64) := BW
    clear BW
    go_wp2_with (refine wpList_store_mid rfl 75 _ _ rfl w4.heap.size 0 V.toArray rfl rfl ?s1 ?s2 ?s3 ?_)
    case s1 =>
      have e : V.toArray.size = 64 := by rw [List.size_toArray]; exact HVL.out
      rw [e]
      exact (HBW.out _ rfl).2
    case s2 => rw [List.size_toArray]; exact sizeA _ HVL.out
    case s3 => exact all_oneCell_toArray HV1.out
    go_ret
    exact ⟨_, rfl, (HBW.out _ rfl).1, below_setCells B4.out.size _ _ _ (B4.out.alloc B4.out.size _)⟩
  · have hno : ∀ i, i < rs.length → pB rs i ≠ (b : Int) := fun i hi e => hf ⟨i, hi, e⟩
    obtain ⟨Z, hZ⟩ : ∃ Z, Z = List.replicate 64 (Value.int .u8 0) := ⟨_, rfl⟩
    have HZL : Hid (Z.length = 64) := by rw [hZ]; show _ = _; simp
    have HZ1 : Hid (∀ v ∈ Z, v.oneCell' = true) := by rw [hZ]; intro u hu; rw [List.mem_replicate] at hu; rw [hu.2]; rfl
    have HZE : Hid (Z = (List.replicate 64 (0 : Int)).map (Value.int .u8)) := by rw [hZ]; show _ = _; simp
    have CG : Calls Try.prog 51 #[.pointer (some ⟨w2.heap.size + 2, 0, none⟩), .int .i64 b] w3 fun e w' => e = .returned (.tuple #[.agg Z.toArray, .bool false]) ∧ Below w3.heap.size w3 w' := by
      rw [hZ]
      exact get_no w3 _ _ _ tv rs b HT.out hno (wf_small _ (by omega) (by omega))
    have HRD : Hid (R = (dur.drop (b * 64)).take 64) := by rw [HR.out, (HOF.out.1 b).2 hno]; rfl
    clear HT HOF hno hf hZ
    go_wp2_with fail
    refine CG.mono ?_
    rintro e w4 ⟨rfl, b4⟩
    have B4 : Hid (Below w.heap.size w w4) := B3.out.trans (b4.mono B3.out.size)
    have X4 : Hid (Box2 w4 w.heap.size (.slice va dl ca) (.slice vb n cb)) := X3.out.below b4
    clear b4 CG X3 c0 c1 z1
    obtain ⟨blk, o, rfl, hblk, -⟩ := HD.out.cellAt HDL.out (show 0 < dl by omega)
    have BS : Hid (∀ cs : Array Value, Below w4.heap.size w4 ((w4.alloc (.cells cs 75)).setCells w4.heap.size 0 Z)) := fun cs => below_setCells (Nat.le_refl _) _ _ _ ((Below.refl _ _).alloc (Nat.le_refl _) _)
    have hc0 : ∀ cs : Array Value, ((w4.alloc (.cells cs 75)).setCells w4.heap.size 0 Z).cell? ⟨w.heap.size, 0, none⟩ = some (.slice (some ⟨blk, o, none⟩) dl ca) := fun cs => (X4.out.below (BS.out cs)).2.1
    have hsc : ∀ cs : Array Value, ((w4.alloc (.cells cs 75)).setCells w4.heap.size 0 Z).heap.size = w4.heap.size + 1 := fun cs => by rw [size_setC, World.size_alloc]
    have HSC : Hid (∀ cs : Array Value, ((w4.alloc (.cells cs 75)).setCells w4.heap.size 0 Z).heap.size = w4.heap.size + 1) := hsc
    clear hsc
    go_wp2_with (refine wpList_store_mid rfl 75 _ _ rfl w4.heap.size 0 Z.toArray rfl rfl ?s1 ?s2 ?s3 ?_)
    case s1 =>
      have e : Z.toArray.size = 64 := by rw [List.size_toArray]; exact HZL.out
      rw [e]
      exact there_new _ _ _ _ rfl
    case s2 => rw [List.size_toArray]; exact sizeA _ HZL.out
    case s3 => exact all_oneCell_toArray HZ1.out
    generalize hW5 : World.setCells _ _ _ _ = w5
    have O5 : Hid (∀ W, Below w5.heap.size w5 W → Own .u8 75 (W.setCells w4.heap.size 0 V) w.heap.size (.slice (some ⟨w4.heap.size, 0, none⟩) 64 64) R ∧ W.there w4.heap.size 0 64) := by
      intro W hW
      rw [HVE.out]
      rw [← hW5, HZE.out] at hW
      exact own_arr2 B4.out.size rfl (by simp) HRL.out hW
    have B5 : Hid (Below w.heap.size w w5) := by rw [← hW5]; exact B4.out.trans ((BS.out _).mono B4.out.size)
    have s5 : w5.heap.size = w4.heap.size + 1 := by rw [← hW5]; exact HSC.out _
    clear hW5 hc0 BS HSC X4
    have CB : Calls Try.prog 52 #[.slice (some ⟨blk, o, none⟩) dl ca, .int .i64 b] w5 fun e w' => e = .returned (.agg V.toArray) ∧ Below w5.heap.size w5 w' := by
      rw [HVE.out, HRD.out]; exact blockAt_any w5 blk o dl ca b dur (HD.out.below B5.out) HDL.out (by omega) hd1
    refine CB.mono ?_
    rintro e w6 ⟨rfl, b6⟩
    have B6 : Hid (Below w.heap.size w w6) := B5.out.trans (b6.mono B5.out.size)
    have O6 : Hid (Own .u8 75 (w6.setCells w4.heap.size 0 V) w.heap.size (.slice (some ⟨w4.heap.size, 0, none⟩) 64 64) R ∧ w6.there w4.heap.size 0 64) := O5.out w6 b6
    clear CB b6 O5 B5
    go_wp2_with (refine wpList_store_mid rfl 75 _ _ rfl w4.heap.size 0 V.toArray rfl rfl ?s1 ?s2 ?s3 ?_)
    case s1 =>
      have e : V.toArray.size = 64 := by rw [List.size_toArray]; exact HVL.out
      rw [e]
      exact O6.out.2
    case s2 => rw [List.size_toArray]; exact sizeA _ HVL.out
    case s3 => exact all_oneCell_toArray HV1.out
    go_ret
    exact ⟨_, rfl, O6.out.1, below_setCells B4.out.size _ _ _ B6.out⟩

set_option maxHeartbeats 1000000 in
set_option maxRecDepth 100000 in
theorem implRead_no (w : World) (va vb : Option Addr) (dl ca n cb : Nat) (ps : List (Int × List Int)) (x : Int) (hp : RdW w (.slice vb n cb) ps) (hl : ps.length = n)
    (hno : rdOk dl ps x = false) (hn : n ≤ 1048576) (hd1 : dl ≤ 1048576) (hpd : ∀ i, (pD ps i).length ≤ 1048576) :
    Calls Try.prog 17 #[.agg #[.slice va dl ca, .slice vb n cb], .int .i64 x] w fun e w' => e = .returned (.slice none 0 0) ∧ Below w.heap.size w w' := by
  have HP : Hid (RdW w (.slice vb n cb) ps) := hp
  have HL : Hid (ps.length = n) := hl
  have HPD : Hid (∀ i, (pD ps i).length ≤ 1048576) := hpd
  have HNO : Hid (rdOk dl ps x = false) := hno
  have B0 : Hid (Below w.heap.size w (w.alloc (.cells #[.slice va dl ca, .slice vb n cb] 32))) := (Below.refl _ _).alloc (Nat.le_refl _) _
  have X0 : Hid (Box2 (w.alloc (.cells #[.slice va dl ca, .slice vb n cb] 32)) w.heap.size (.slice va dl ca) (.slice vb n cb)) := Box2.new _ _ _ _
  clear hp hl hpd hno
  go_enter Try.func17, Try.ntmps17
  go_wp2_with fail
  generalize w.alloc (.cells #[.slice va dl ca, .slice vb n cb] 32) = w0 at *
  refine (implValid_any _ va vb dl ca n cb ps (HP.out.below B0.out) HL.out hd1 hn HPD.out).mono ?_
  rintro e w1 ⟨rfl, b1⟩
  have B1 : Hid (Below w.heap.size w w1) := B0.out.trans (b1.mono B0.out.size)
  have X1 : Hid (Box2 w1 w.heap.size (.slice va dl ca) (.slice vb n cb)) := X0.out.below b1
  clear b1 X0 B0
  obtain ⟨z1, c0, c1⟩ := X1.out
  by_cases hv : vldD dl ps = true
  · rw [hv]
    have hx : ¬ (0 ≤ x ∧ x < ((dl / 64 : Nat) : Int)) := by
      intro h
      have h' : rdOk dl ps x = true := by
        unfold rdOk
        simp only [Bool.and_eq_true, decide_eq_true_eq]
        exact ⟨hv, h⟩
      rw [HNO.out] at h'
      cases h'
    clear hv
    go_wp2_with fail
    refine (hasBlock_any _ va dl ca _ x hd1).mono ?_
    rintro e w2 ⟨rfl, b2⟩
    rw [show decide (0 ≤ x ∧ x < ((dl / 64 : Nat) : Int)) = false by rw [decide_eq_false_iff_not]; exact hx]
    have B2 : Hid (Below w.heap.size w w2) := B1.out.trans (b2.mono B1.out.size)
    clear b2 X1 B1 z1 c0 c1 hx
    go_wp2
    go_ret
    exact ⟨rfl, B2.out⟩
  · have hv' : vldD dl ps = false := by simpa using hv
    rw [hv']
    clear hv hv'
    go_wp2
    go_ret
    exact ⟨rfl, B1.out⟩

theorem implRead_any (w : World) (v1 v2 : Value) (dur : List Int) (ps : List (Int × List Int)) (x : Int) (hd : Rd .u8 w v1 dur) (hp : RdW w v2 ps) (hdl : dur.length ≤ 1048576) (hn : ps.length ≤ 1048576) (hpd : ∀ i, (pD ps i).length ≤ 1048576) :
    Calls Try.prog 17 #[.agg #[v1, v2], .int .i64 x] w fun e w' => ∃ v', e = .returned v' ∧ Own .u8 75 w' w.heap.size v' (rdA dur ps x) ∧ Below w.heap.size w w' := by
  obtain ⟨va, ca, rfl, -⟩ := hd.len
  obtain ⟨vb, cb, rfl, -⟩ := id hp
  unfold rdA
  cases h : rdOk dur.length ps x with
  | true =>
    simp only [if_true]
    have h' := h
    unfold rdOk at h'
    simp only [Bool.and_eq_true, decide_eq_true_eq] at h'
    obtain ⟨h1, h2, h3⟩ := h'
    obtain ⟨b, rfl⟩ : ∃ b : Nat, x = b := ⟨x.toNat, by omega⟩
    rw [Int.toNat_natCast]
    exact implRead_yes w va vb dur.length ca ps.length cb dur ps b hd rfl hp rfl h1 (by omega) hdl hpd
  | false =>
    simp only [Bool.false_eq_true, if_false]
    refine (implRead_no w va vb dur.length ca ps.length cb ps x hp rfl h hn hdl hpd).mono ?_
    rintro e w' ⟨rfl, b⟩
    exact ⟨_, rfl, World.ownsRow_nil _ _ _ _, b⟩

end Go.Proofs.Ytoljmlhnbmeloaa
