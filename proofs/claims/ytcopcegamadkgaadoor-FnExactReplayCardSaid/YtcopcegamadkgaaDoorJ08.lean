import Derived.Test.YtcopcegamadkgaaDoorJ07
import Derived.Test.YtcopcegamadkgaaDoorJ05
import Derived.Test.YtcopcegamadkgaaDoorJ06
import Derived.Deep.QuietTactic
import Derived.BigQuiet
import Derived.Test.YtcopcegamadkgaaDoorJ01
import Derived.Test.YtcopcegamadkgaaDoorJ02
import Derived.Test.YtcopcegamadkgaaDoorJ03
import Derived.Lib.AppendZeros
import Derived.Lib.AppendStr
namespace Go.Proofs.YtcopcegamadkgaaDoor
open Go.RowKit Go.Shelf

set_option maxHeartbeats 4000000 in
set_option maxRecDepth 100000 in
theorem specReplay_yes (w : World) (ta : Option Addr) (tc : Nat) (ns : List Nd) (start : Int) (ao : Option Addr) (n cap : Nat) (a : List Int) (ht : RdN w (.slice ta ns.length tc) ns) (hok : okTree ns = true) (hs : okS start = true) (hr : Rd .u8 w (.slice ao n cap) a) (hl : a.length = n) (hby : Byt a) (hn : n ≤ 8192) :
    Calls Tryd.prog 22 #[.agg #[.slice ta ns.length tc], .int .i64 start, .slice ao n cap] w (RpPost w (scn n a) (rpl start 0 ((scn n a).map (·.1)) ns start 0)) := by
  have HN : Hid (RdN w (.slice ta ns.length tc) ns) := ht
  have HOK : Hid (okTree ns = true) := hok
  have HS : Hid (okS start = true) := hs
  have HR : Hid (Rd .u8 w (.slice ao n cap) a) := hr
  have HL : Hid (a.length = n) := hl
  have HBY : Hid (Byt a) := hby
  have hnl : ns.length ≤ 1000 := by unfold okTree at hok; simp only [Bool.and_eq_true, decide_eq_true_eq] at hok; exact hok.1
  have hst : 0 ≤ start ∧ start ≤ 2147483647 := by unfold okS at hs; simpa using hs
  have HG : Hid (Good ns) := good_tree hok
  obtain ⟨res, hres⟩ : ∃ res, res = rpl start 0 ((scn n a).map (·.1)) ns start 0 := ⟨_, rfl⟩
  have HRES : Hid (rpl start 0 ((scn n a).map (·.1)) ns start 0 = res) := hres.symm
  rw [← hres]
  have hn2 : ¬ (8192 : Int) < (n : Int) := by omega
  have hn2d : decide ((8192 : Int) < (n : Int)) = false := by simpa using hn2
  clear ht hok hs hr hl hby hres
  go_enter Tryd.func22, Tryd.ntmps22
  go_wp2_with fail
  have F0 : Hid (RpS w (.slice ta ns.length tc) ((w.alloc (.cells #[.slice ta ns.length tc] 36)).alloc (.cells #[.slice none 0 0, .int .i64 0, .int .i64 0, .int .i64 0] 53))) := RpS.new _ _ _ _
  generalize (w.alloc (.cells #[.slice ta ns.length tc] 36)).alloc (.cells #[.slice none 0 0, .int .i64 0, .int .i64 0, .int .i64 0] 53) = w0 at *
  refine (specTree_any _ _ ns (HN.out.below F0.out.1) (by omega) (good_sz HG.out)).mono ?_
  rintro e w1 ⟨rfl, b1⟩
  rw [HOK.out]
  have F1 : Hid (RpS w (.slice ta ns.length tc) w1) := F0.out.below b1
  clear b1 F0
  go_wp2_with fail
  refine (stat_any _ start).mono ?_
  rintro e wq ⟨rfl, hwq⟩
  rw [HS.out, hwq]
  clear hwq
  go_wp2_with fail
  refine (specScan_any n _ ao n cap a (HR.out.below F1.out.1) HL.out HBY.out hn (Nat.le_refl _)).mono ?_
  rintro e w2 ⟨v2, us, rfl, o2, b2⟩
  have F2 : Hid (RpS w (.slice ta ns.length tc) w2) := F1.out.below b2
  obtain ⟨P, hP⟩ : ∃ P, P = (scn n a).map (·.1) := ⟨_, rfl⟩
  rw [← hP] at o2
  have HPE : Hid (P = (scn n a).map (·.1)) := hP
  clear hP
  obtain ⟨pa, pc, rfl⟩ := OwnP.slice o2
  have P2 : Hid (OwnP w2 w1.heap.size (.slice pa P.length pc) P us) := o2
  have s1 := F1.out.2.1
  have s2 := b2.size
  clear o2 b2 F1
  have hf9 := field_scan (.slice pa P.length pc) (.int .i64 ((pos (scn n a) (scn n a).length : Nat) : Int)) w2
  obtain ⟨-, -, x0, -⟩ := F2.out
  go_wp2_with fail
  clear hf9 x0
  refine (without_any _ _ ns ⟨#[]⟩ (HN.out.below F2.out.1) (by omega)).mono ?_
  rintro e w3 ⟨v3, rfl, o3, b3⟩
  rw [wo_empty (fun k hk => good_at HG.out k hk) ⟨#[]⟩ (by rw [ByteArray.toList_eq])] at o3
  obtain ⟨na, nc, rfl⟩ := OwnN.slice9 o3
  have F3 : Hid (RpS w (.slice ta ns.length tc) w3) := F2.out.below b3
  have O3 : Hid (OwnN 84 w3 w2.heap.size (.slice na ns.length nc) ns) := o3
  have P3 : Hid (OwnP w3 w1.heap.size (.slice pa P.length pc) P us) := P2.out.below b3
  have S23 : Hid (w2.heap.size ≤ w3.heap.size) := b3.size
  clear o3 b3 F2 P2
  go_wp2_with fail
  have BA : Hid (Below w3.heap.size w3 (w3.alloc (.cells #[.slice na ns.length nc, .int .i64 start, .int .i64 0, .int .i64 0] 53))) := (Below.refl _ _).alloc (Nat.le_refl _) _
  have XO : Hid (B4F (w3.alloc (.cells #[.slice na ns.length nc, .int .i64 start, .int .i64 0, .int .i64 0] 53)) w3.heap.size (.slice na ns.length nc) (.int .i64 start) (.int .i64 0) (.int .i64 0)) := B4F.new _ _ _ _ _ _
  generalize w3.alloc (.cells #[.slice na ns.length nc, .int .i64 start, .int .i64 0, .int .i64 0] 53) = w4 at *
  have s3 : w.heap.size + 2 ≤ w3.heap.size := F3.out.2.1
  have s23 : w2.heap.size ≤ w3.heap.size := S23.out
  have RP4 : Hid (Rp w (.slice ta ns.length tc) w3.heap.size (scn n a) start res 0 (.slice na ns.length nc) ns start 0 w4) :=
    ⟨F3.out.below BA.out, by have := XO.out; rw [pos_zero]; exact this, (O3.out.below BA.out).mono (by omega), fun e => by have := (World.ownsRow.lt O3.out _ e).2; omega, HG.out, hnl, ⟨by omega, by omega⟩, fun h => by omega, by rw [List.drop_zero]; exact HRES.out⟩
  have hP := HPE.out
  have hPl : P.length = (scn n a).length := by rw [hP, List.length_map]
  have hP8 : P.length ≤ 8192 := by have := scn_len n a; omega
  have HREC : Hid (∀ k, k < P.length → ∃ g ua uc, pa = some ⟨g, 0, none⟩ ∧ g < w3.heap.size ∧ w3.cell? ⟨g, k, none⟩ = some (.slice ua (pR P k).length uc) ∧ Rd .u8 w3 (.slice ua (pR P k).length uc) (pR P k)) := by
    intro k hk
    have h1 := P3.out.2.1 k hk
    obtain ⟨ua, uc, hu⟩ := Own.slice h1
    rcases P3.out.1.2 with ⟨h2, h3⟩ | ⟨g, gc, cur, h2, -⟩
    · omega
    · simp only [Value.slice.injEq] at h2
      obtain ⟨rfl, -, rfl⟩ := h2
      refine ⟨g, ua, uc, rfl, (World.ownsRow.lt P3.out.1 g rfl).2, ?_, by rw [← hu]; exact h1.rd⟩
      have h4 := World.ownsRow.cellAt P3.out.1 k (by omega)
      rw [h4, uV_get (by rw [OwnP.len P3.out]; exact hk), hu]
  have HBYT : Hid (∀ k, k < P.length → Byt (pR P k) ∧ (pR P k).length ≤ 2000 ∧ (fr (pR P k)).length = ((scn n a).getD k ([], 0)).2) := fun k hk => by rw [hP]; exact rec_byt HL.out k (by omega)
  have HPOS : Hid (∀ k, k ≤ P.length → pos (scn n a) k ≤ 8192) := fun k hk => by have := (scn_all n a (by rw [HL.out]; exact Nat.le_refl _)).2.2 k (by omega); have := HL.out; omega
  have HDR : Hid (∀ k, k < P.length → ((scn n a).drop k).map (·.1) = pR P k :: ((scn n a).drop (k + 1)).map (·.1)) := fun k hk => by rw [hP]; exact rec_drop _ k (by omega)
  have HPS : Hid (∀ k, k < P.length → pos (scn n a) (k + 1) = pos (scn n a) k + ((scn n a).getD k ([], 0)).2) := fun k hk => pos_succ _ _ (by omega)
  have HEND : Hid (∀ k, P.length ≤ k → ((scn n a).drop k).map (·.1) = []) := fun k hk => by rw [List.drop_of_length_le (by omega)]; rfl
  clear HPE hP
  generalize scn n a = R at *
  have B4 : Hid (Below w3.heap.size w3 w4) := BA.out
  clear XO BA P3 O3 hPl HRES
  go_loopw [9, 10] (fun bef i wr => ∃ (k : Nat) (v : Value) (ns' : List Nd) (zx last bv : Int), k ≤ P.length ∧ i = .int .i64 k ∧ bef = .int .i64 bv ∧ Hid (bv = if k = 0 then -1 else last) ∧ Hid (Rp w (.slice ta ns.length tc) w3.heap.size R start res k v ns' zx last wr) ∧ Hid (Below w3.heap.size w3 wr)) (fun _ i _ => P.length - (intOf i).toNat)
  case atStart => exact ⟨0, _, _, _, 0, -1, Nat.zero_le _, rfl, rfl, (show _ = _ from rfl), RP4, B4⟩
  case round =>
    clear RP4 B4
    obtain ⟨k, v, ns', zx, last, bv, hk, rfl, rfl, HBV, HRP, HB⟩ := hrel
    obtain ⟨va, vc, rfl⟩ := OwnN.slice9 HRP.out.own
    by_cases hlt : k < P.length
    · obtain ⟨g, ua, uc, rfl, hg3, hcell, hrd⟩ := HREC.out k hlt
      have hltI : (k : Int) < (P.length : Int) := by omega
      have hce := (HB.out.cell (p := ⟨g, k, none⟩) hg3).trans hcell
      have HRD : Hid (Rd .u8 wr (.slice ua (pR P k).length uc) (pR P k)) := hrd.below HB.out
      obtain ⟨hby, hp2, hfr⟩ := HBYT.out k hlt
      have HBY9 : Hid (Byt (pR P k)) := hby
      have HFR : Hid ((fr (pR P k)).length = (R.getD k ([], 0)).2) := hfr
      have HC3 : Hid (w3.cell? ⟨g, k, none⟩ = some (.slice ua (pR P k).length uc)) := hcell
      have HR3 : Hid (Rd .u8 w3 (.slice ua (pR P k).length uc) (pR P k)) := hrd
      clear hcell hrd hby hfr
      go_wp2_with fail
      refine (specDecX_any _ _ (pR P k) HRD.out HBY9.out (by omega)).mono ?_
      rintro e w5 ⟨b5, hd⟩
      have RP5 : Hid (Rp w (.slice ta ns.length tc) w3.heap.size R start res k (.slice va ns'.length vc) ns' zx last w5) := HRP.out.below b5
      have B5 : Hid (Below w3.heap.size w3 w5) := HB.out.trans (b5.mono HB.out.size)
      have HRD5 : Hid (Rd .u8 w5 (.slice ua (pR P k).length uc) (pR P k)) := HRD.out.below b5
      clear b5 HRP HB hce HRD
      have sr := RP5.out.head.2.1
      have hzx := RP5.out.zx0
      have hps := HPOS.out k hk
      rename_i K10 hK10 K9 hK9
      have HK10 : Hid _ := hK10
      clear hK10
      rcases hd with ⟨hd, rfl⟩ | ⟨z, es, vx, hd, rfl, ox⟩
      · have HRES9 : Hid (res = (ns', zx, k)) := by
          have := RP5.out.goes
          rw [HDR.out k hlt, rpl_none hd] at this
          exact this.symm
        clear hd
        have HX6 : Hid (Rp w (.slice ta ns.length tc) w3.heap.size R start res k (.slice va ns'.length vc) ns' zx last (w5.alloc (.cells #[.bool false, .int .i64 0, .slice none 0 0] 108))) := RP5.out.below ((Below.refl _ _).alloc (Nat.le_refl _) _)
        have t0 : (w5.alloc (.cells #[.bool false, .int .i64 0, .slice none 0 0] 108)).cell? ⟨w5.heap.size, 0, none⟩ = some (.bool false) := by simp
        unfold zeroX
        go_wp2_with fail
        generalize w5.alloc (.cells #[.bool false, .int .i64 0, .slice none 0 0] 108) = w6 at *
        refine HK10.out _ _ ?_
        clear HK10
        clear RP5
        have hrs := HX6.out.head.2.2.2
        obtain ⟨zr, ⟨d0, d1, d2, d3⟩, f0, f1, f2, f3⟩ := hrs
        obtain ⟨zo, ⟨e0, e1, e2, e3⟩, -⟩ := HX6.out.out
        go_wp2
        refine bodyPost_ret (v := .agg #[.slice va ns'.length vc, .int .i64 zx, .int .i64 (k : Int), .int .i64 ((pos R k : Nat) : Int)]) (by simp [results, Tryd.results22, go_sem, d0, d1, d2, d3]) rfl ?_
        rw [HRES9.out]
        exact ⟨_, rfl, OwnN.mono (by repeat (first | exact HX6.out.own | refine OwnN.setBelow ?_ (show w.heap.size + 1 < w.heap.size + 2 by omega) _)) (by omega), by repeat (first | exact HX6.out.head.1 | refine Below.setCell ?_ (by simp) _)⟩
      · have hzz := okTxn_z (decX_ok hd)
        have HD : Hid (decX (pR P k) = some (z, es)) := hd
        obtain ⟨xa, xc, rfl⟩ := OwnE.slice9 ox
        have OX : Hid (OwnE 157 w5 wr.heap.size (.slice xa es.length xc) es) := ox
        clear hd ox
        have HX6 : Hid (Rp w (.slice ta ns.length tc) w3.heap.size R start res k (.slice va ns'.length vc) ns' zx last (w5.alloc (.cells #[.bool true, .int .i64 z, .slice xa es.length xc] 108))) := RP5.out.below ((Below.refl _ _).alloc (Nat.le_refl _) _)
        have B6 : Hid (Below w3.heap.size w3 (w5.alloc (.cells #[.bool true, .int .i64 z, .slice xa es.length xc] 108))) := B5.out.alloc B5.out.size _
        have HRD6 : Hid (Rd .u8 (w5.alloc (.cells #[.bool true, .int .i64 z, .slice xa es.length xc] 108)) (.slice ua (pR P k).length uc) (pR P k)) := HRD5.out.below ((Below.refl _ _).alloc (Nat.le_refl _) _)
        have OX6 : Hid (RdE (w5.alloc (.cells #[.bool true, .int .i64 z, .slice xa es.length xc] 108)) (.slice xa es.length xc) es) := (OwnE.rd OX.out).below ((Below.refl _ _).alloc (Nat.le_refl _) _)
        have t0 : (w5.alloc (.cells #[.bool true, .int .i64 z, .slice xa es.length xc] 108)).cell? ⟨w5.heap.size, 0, none⟩ = some (.bool true) := by simp
        have t1 : (w5.alloc (.cells #[.bool true, .int .i64 z, .slice xa es.length xc] 108)).cell? ⟨w5.heap.size, 1, none⟩ = some (.int .i64 z) := by simp
        have t2 : (w5.alloc (.cells #[.bool true, .int .i64 z, .slice xa es.length xc] 108)).cell? ⟨w5.heap.size, 2, none⟩ = some (.slice xa es.length xc) := by simp
        have HS6 : Hid ((w5.alloc (.cells #[.bool true, .int .i64 z, .slice xa es.length xc] 108)).heap.size = w5.heap.size + 1) := by show _ = _; simp
        have S5 : Hid (w3.heap.size < w5.heap.size) := RP5.out.out.1
        go_wp2_with fail
        generalize w5.alloc (.cells #[.bool true, .int .i64 z, .slice xa es.length xc] 108) = w6 at *
        generalize hBx : w5.heap.size = Bx at *
        clear hBx
        refine HK10.out _ _ ?_
        clear HK10 RP5 B5 HRD5 OX
        cases hbad : (if k = 0 then decide (start + 1 < z) else decide (z ≠ last + 1)) with
        | true =>
          have HRES9 : Hid (res = (ns', zx, k)) := by
            have := HX6.out.goes
            rw [HDR.out k hlt, rpl_bad HD.out hbad] at this
            exact this.symm
          by_cases hk0 : k = 0
          · have hbv : bv = -1 := by have := HBV.out; rw [if_pos hk0] at this; exact this
            rw [if_pos hk0] at hbad
            have hz9 : start + 1 < z := by simpa using hbad
            clear hbad hk0 HBV
            subst hbv
            have hrs := HX6.out.head.2.2.2
            obtain ⟨zr, ⟨d0, d1, d2, d3⟩, f0, f1, f2, f3⟩ := hrs
            obtain ⟨zo, ⟨e0, e1, e2, e3⟩, -⟩ := HX6.out.out
            go_wp2
            refine bodyPost_ret (v := .agg #[.slice va ns'.length vc, .int .i64 zx, .int .i64 (k : Int), .int .i64 ((pos R k : Nat) : Int)]) (by simp [results, Tryd.results22, go_sem, d0, d1, d2, d3]) rfl ?_
            rw [HRES9.out]
            exact ⟨_, rfl, OwnN.mono (by repeat (first | exact HX6.out.own | refine OwnN.setBelow ?_ (show w.heap.size + 1 < w.heap.size + 2 by omega) _)) (by omega), by repeat (first | exact HX6.out.head.1 | refine Below.setCell ?_ (by simp) _)⟩
          · have hbv : bv = last := by have := HBV.out; rw [if_neg hk0] at this; exact this
            rw [if_neg hk0] at hbad
            have hla := HX6.out.last0 (by omega)
            have hz9 : ¬ z = last + 1 := by simpa using hbad
            have hz9b : (z != last + 1) = true := by simpa using hz9
            have hnl2 : ¬ last < 0 := by omega
            clear hbad hk0 HBV
            subst hbv
            have hrs := HX6.out.head.2.2.2
            obtain ⟨zr, ⟨d0, d1, d2, d3⟩, f0, f1, f2, f3⟩ := hrs
            obtain ⟨zo, ⟨e0, e1, e2, e3⟩, -⟩ := HX6.out.out
            go_wp2
            refine bodyPost_ret (v := .agg #[.slice va ns'.length vc, .int .i64 zx, .int .i64 (k : Int), .int .i64 ((pos R k : Nat) : Int)]) (by simp [results, Tryd.results22, go_sem, d0, d1, d2, d3]) rfl ?_
            rw [HRES9.out]
            exact ⟨_, rfl, OwnN.mono (by repeat (first | exact HX6.out.own | refine OwnN.setBelow ?_ (show w.heap.size + 1 < w.heap.size + 2 by omega) _)) (by omega), by repeat (first | exact HX6.out.head.1 | refine Below.setCell ?_ (by simp) _)⟩
        | false =>
          by_cases hk0 : k = 0
          · have hbv : bv = -1 := by have := HBV.out; rw [if_pos hk0] at this; exact this
            have HBAD : Hid ((if k = 0 then decide (start + 1 < z) else decide (z ≠ last + 1)) = false) := hbad
            rw [if_pos hk0] at hbad
            have hz9 : ¬ start + 1 < z := by simpa using hbad
            clear hbad hk0 HBV
            subst hbv
            obtain ⟨zo, ⟨e0, e1, e2, e3⟩, g0, g1, g2, g3⟩ := HX6.out.out
            by_cases hzx2 : zx < z
            · have HLEN := HX6.out.len
              have T6 : Hid (Bx < w6.heap.size ∧ w6.cell? ⟨Bx, 0, none⟩ = some (.bool true) ∧ w6.cell? ⟨Bx, 1, none⟩ = some (.int .i64 z) ∧ w6.cell? ⟨Bx, 2, none⟩ = some (.slice xa es.length xc)) := ⟨by have := HS6.out; omega, t0, t1, t2⟩
              go_wp2_with fail
              refine (specApply_any _ (.slice va ns'.length vc) ns' z (.slice xa es.length xc) es HX6.out.own.rd OX6.out (by omega) (good_sz HX6.out.good) (es_sz (decX_ok HD.out))).mono ?_
              rintro e w7 ⟨v7, rfl, o7, b7⟩
              rename_i K14 hK14 K13 hK13
              have HK14 : Hid _ := hK14
              clear hK14 e0 e1 e2 e3 g0 g1 g2 g3 zo t0 t1 t2
              obtain ⟨ra, rc, rfl⟩ := OwnN.slice9 o7
              have HRL := resA_len ns' z es
              have bA : Below w7.heap.size w7 (w7.alloc (.cells #[(.slice ra (resA ns' z es).length rc)] 36)) := (Below.refl _ _).alloc (Nat.le_refl _) _
              have b78 : Below w6.heap.size w6 (w7.alloc (.cells #[(.slice ra (resA ns' z es).length rc)] 36)) := b7.trans (bA.mono b7.size)
              have HX8 : Hid (Rp w (.slice ta ns.length tc) w3.heap.size R start res k (.slice va ns'.length vc) ns' zx last (w7.alloc (.cells #[(.slice ra (resA ns' z es).length rc)] 36))) := HX6.out.below b78
              have T8 : Hid ((w7.alloc (.cells #[(.slice ra (resA ns' z es).length rc)] 36)).cell? ⟨Bx, 1, none⟩ = some (.int .i64 z)) := (b78.cell (p := ⟨Bx, 1, none⟩) T6.out.1).trans T6.out.2.2.1
              have Y8 : Hid ((w7.alloc (.cells #[(.slice ra (resA ns' z es).length rc)] 36)).cell? ⟨w7.heap.size, 0, none⟩ = some (.slice ra (resA ns' z es).length rc)) := by show _ = _; simp
              have O9 : Hid (OwnN 84 (w7.alloc (.cells #[(.slice ra (resA ns' z es).length rc)] 36)) w6.heap.size (.slice ra (resA ns' z es).length rc) (resA ns' z es)) := o7.below bA
              have B9 : Hid (Below w3.heap.size w3 (w7.alloc (.cells #[(.slice ra (resA ns' z es).length rc)] 36))) := B6.out.trans (b78.mono B6.out.size)
              have S67 : Hid (w3.heap.size < w6.heap.size ∧ Bx ≠ w3.heap.size ∧ w7.heap.size ≠ w3.heap.size) := ⟨HX6.out.out.1, by have := S5.out; omega, by have := HX6.out.out.1; have := b7.size; omega⟩
              clear b7 bA b78 o7 HX6 B6 OX6 HRD6 HS6 T6 S5
              go_wp2_with fail
              generalize w7.alloc (.cells #[(.slice ra (resA ns' z es).length rc)] 36) = w8 at *
              generalize hBy : w7.heap.size = By at *
              clear hBy
              refine HK14.out _ _ ?_
              clear HK14
              have y0 := Y8.out
              have t1 := T8.out
              by_cases hbig : 1000 < (resA ns' z es).length
              · have HRES9 : Hid (res = (ns', zx, k)) := by
                  have := HX8.out.goes
                  rw [HDR.out k hlt, rpl_big HD.out HBAD.out hzx2 hbig] at this
                  exact this.symm
                have hbigI : (1000 : Int) < ((resA ns' z es).length : Int) := by omega
                have hrs := HX8.out.head.2.2.2
                obtain ⟨zr, ⟨d0, d1, d2, d3⟩, f0, f1, f2, f3⟩ := hrs
                obtain ⟨zo, ⟨e0, e1, e2, e3⟩, -⟩ := HX8.out.out
                go_wp2
                refine bodyPost_ret (v := .agg #[.slice va ns'.length vc, .int .i64 zx, .int .i64 (k : Int), .int .i64 ((pos R k : Nat) : Int)]) (by simp [results, Tryd.results22, go_sem, d0, d1, d2, d3]) rfl ?_
                rw [HRES9.out]
                exact ⟨_, rfl, OwnN.mono (by repeat (first | exact HX8.out.own | refine OwnN.setBelow ?_ (show w.heap.size + 1 < w.heap.size + 2 by omega) _)) (by omega), by repeat (first | exact HX8.out.head.1 | refine Below.setCell ?_ (by simp) _)⟩
              · have GOES : Hid (rpl start (k + 1) ((R.drop (k + 1)).map (·.1)) (resA ns' z es) z z = res) := by
                  have := HX8.out.goes
                  rw [HDR.out k hlt, rpl_app HD.out HBAD.out hzx2 hbig] at this
                  exact this
                have hbigI : ¬ (1000 : Int) < ((resA ns' z es).length : Int) := by omega
                obtain ⟨zo, ⟨e0, e1, e2, e3⟩, g0, g1, g2, g3⟩ := HX8.out.out
                have hne1 := S67.out.2.1
                have hne2 := S67.out.2.2
                have hne3 : w3.heap.size ≠ Bx := fun e => hne1 e.symm
                have hne4 : w3.heap.size ≠ By := fun e => hne2 e.symm
                go_wp2_with fail
                have F8 : Hid (RpS w (.slice ta ns.length tc) (((w8.setCell ⟨w3.heap.size, 0, none⟩ (.slice ra (resA ns' z es).length rc)).setCell ⟨w3.heap.size, 1, none⟩ (.int .i64 z)).setCell ⟨w3.heap.size, 2, none⟩ (.int .i64 ((k : Int) + 1)))) := ((HX8.out.head.setO s3 _).setO s3 _).setO s3 _
                have XO8 : Hid (B4F (((w8.setCell ⟨w3.heap.size, 0, none⟩ (.slice ra (resA ns' z es).length rc)).setCell ⟨w3.heap.size, 1, none⟩ (.int .i64 z)).setCell ⟨w3.heap.size, 2, none⟩ (.int .i64 ((k : Int) + 1))) w3.heap.size (.slice ra (resA ns' z es).length rc) (.int .i64 z) (.int .i64 ((k : Int) + 1)) (.int .i64 ((pos R k : Nat) : Int))) := ((HX8.out.out.set0 _).set1 _).set2 _
                have NE8 : Hid (Value.ownBlock (.slice ra (resA ns' z es).length rc) ≠ some w3.heap.size) := fun e => by have h1 : w6.heap.size ≤ w3.heap.size := (World.ownsRow.lt O9.out _ e).1; have := S67.out.1; omega
                have O8 : Hid (OwnN 84 (((w8.setCell ⟨w3.heap.size, 0, none⟩ (.slice ra (resA ns' z es).length rc)).setCell ⟨w3.heap.size, 1, none⟩ (.int .i64 z)).setCell ⟨w3.heap.size, 2, none⟩ (.int .i64 ((k : Int) + 1))) (w.heap.size + 2) (.slice ra (resA ns' z es).length rc) (resA ns' z es)) := (((O9.out.setO NE8.out _).setO NE8.out _).setO NE8.out _).mono (by have := S67.out.1; omega)
                have B8 : Hid (Below w3.heap.size w3 (((w8.setCell ⟨w3.heap.size, 0, none⟩ (.slice ra (resA ns' z es).length rc)).setCell ⟨w3.heap.size, 1, none⟩ (.int .i64 z)).setCell ⟨w3.heap.size, 2, none⟩ (.int .i64 ((k : Int) + 1)))) := ((B9.out.setCell (Nat.le_refl _) _).setCell (Nat.le_refl _) _).setCell (Nat.le_refl _) _
                have HRD8 : Hid (Rd .u8 (((w8.setCell ⟨w3.heap.size, 0, none⟩ (.slice ra (resA ns' z es).length rc)).setCell ⟨w3.heap.size, 1, none⟩ (.int .i64 z)).setCell ⟨w3.heap.size, 2, none⟩ (.int .i64 ((k : Int) + 1))) (.slice ua (pR P k).length uc) (pR P k)) := (HR3.out).below B8.out
                have GD8 : Hid (Good (resA ns' z es)) := good_resA HX8.out.good (decX_ok HD.out)
                have LN8 : Hid ((resA ns' z es).length ≤ 1000) := by show _ ≤ _; omega
                have ZX8 : Hid (-1 ≤ z ∧ z ≤ 2147483647) := ⟨by omega, by omega⟩
                clear HX8 O9 B9 T8 Y8 y0 t1 e0 e1 e2 e3 g0 g1 g2 g3 zo hne1 hne2 hne3 hne4 hbigI
                generalize ((w8.setCell ⟨w3.heap.size, 0, none⟩ (.slice ra (resA ns' z es).length rc)).setCell ⟨w3.heap.size, 1, none⟩ (.int .i64 z)).setCell ⟨w3.heap.size, 2, none⟩ (.int .i64 ((k : Int) + 1)) = w8x at *
                have hce8 := (B8.out.cell (p := ⟨g, k, none⟩) hg3).trans HC3.out
                have HFRM : Hid (Calls Tryd.prog 70 #[.slice ua (pR P k).length uc] w8x.drew fun e w' => ∃ fa fc, e = .returned (.slice fa (R.getD k ([], 0)).2 fc) ∧ w'.cell? ⟨w3.heap.size, 3, none⟩ = some (.int .i64 ((pos R k : Nat) : Int)) ∧ w'.frozen? ⟨w3.heap.size, 3, none⟩ = false ∧ w3.heap.size < w'.heap.size ∧ Hid (Below w8x.heap.size w8x w')) := by
                  refine (specFrame_any _ _ (pR P k) (HRD8.out.drewN 1) HBY9.out (by omega)).mono ?_
                  rintro e w' ⟨v', rfl, o', b'⟩
                  obtain ⟨fa, fc, rfl⟩ := Own.slice o'
                  have b2 : Below w8x.heap.size w8x w' := (below_drewN' _ 1).trans b'
                  have X := XO8.out.below b2
                  rw [HFR.out]
                  exact ⟨fa, fc, rfl, X.2.1.2.2.2, X.2.2.2.2.2, X.1, b2⟩
                obtain ⟨zo8, ⟨-, -, -, q3⟩, -, -, -, r3⟩ := XO8.out
                have hsz2 := HPS.out k hlt
                have hps1 := HPOS.out (k + 1) (by omega)
                have HPS9 : Hid (((pos R k : Nat) : Int) + (((R.getD k ([], 0)).2 : Nat) : Int) = ((pos R (k + 1) : Nat) : Int)) := by show _ = _; omega
                have hbd : ((pos R k : Nat) : Int) + (((R.getD k ([], 0)).2 : Nat) : Int) ≤ 8192 := by omega
                clear hsz2 hps1
                generalize (R.getD k ([], 0)).2 = sz at *
                generalize hpk : pos R k = pk9 at *
                go_region_law (go_simp; go_at_call 70; refine HFRM.out.mono ?_; rintro e w' ⟨fa, fc, rfl, k3, kz3, zw, bw⟩)
                all_goals
                  have RPN : Hid (Rp w (.slice ta ns.length tc) w3.heap.size R start res (k + 1) (.slice ra (resA ns' z es).length rc) (resA ns' z es) z z (w'.setCell ⟨w3.heap.size, 3, none⟩ (.int .i64 ((pk9 : Int) + (sz : Int))))) := Rp.next s3 F8.out (by rw [hpk]; exact XO8.out) O8.out NE8.out GD8.out LN8.out ZX8.out hzz GOES.out bw.out _ (by rw [HPS9.out])
                  have BN : Hid (Below w3.heap.size w3 (w'.setCell ⟨w3.heap.size, 3, none⟩ (.int .i64 ((pk9 : Int) + (sz : Int))))) := (B8.out.trans (bw.out.mono B8.out.size)).setCell (Nat.le_refl _) _
                  clear k3 kz3 zw bw HFRM q3 r3
                  go_wp2
                  exact ⟨⟨k + 1, _, _, _, z, z, by omega, by go_num, rfl, (show _ = _ by rw [if_neg (by omega)]), RPN, BN⟩, by simp [intOf]; omega⟩
            · have GOES : Hid (rpl start (k + 1) ((R.drop (k + 1)).map (·.1)) ns' zx z = res) := by
                have := HX6.out.goes
                rw [HDR.out k hlt, rpl_pass HD.out HBAD.out hzx2] at this
                exact this
              go_wp2_with fail
              have F8 : Hid (RpS w (.slice ta ns.length tc) (w6.setCell ⟨w3.heap.size, 2, none⟩ (.int .i64 ((k : Int) + 1)))) := HX6.out.head.setO s3 _
              have XO8 : Hid (B4F (w6.setCell ⟨w3.heap.size, 2, none⟩ (.int .i64 ((k : Int) + 1))) w3.heap.size (.slice va ns'.length vc) (.int .i64 zx) (.int .i64 ((k : Int) + 1)) (.int .i64 ((pos R k : Nat) : Int))) := HX6.out.out.set2 _
              have O8 : Hid (OwnN 84 (w6.setCell ⟨w3.heap.size, 2, none⟩ (.int .i64 ((k : Int) + 1))) (w.heap.size + 2) (.slice va ns'.length vc) ns') := HX6.out.own.setO HX6.out.ne _
              have B8 : Hid (Below w3.heap.size w3 (w6.setCell ⟨w3.heap.size, 2, none⟩ (.int .i64 ((k : Int) + 1)))) := B6.out.setCell (Nat.le_refl _) _
              have HRD8 : Hid (Rd .u8 (w6.setCell ⟨w3.heap.size, 2, none⟩ (.int .i64 ((k : Int) + 1))) (.slice ua (pR P k).length uc) (pR P k)) := (HR3.out).below B8.out
              have NE8 : Hid (Value.ownBlock (.slice va ns'.length vc) ≠ some w3.heap.size) := HX6.out.ne
              have GD8 : Hid (Good ns') := HX6.out.good
              have LN8 : Hid (ns'.length ≤ 1000) := HX6.out.len
              have ZX8 : Hid (-1 ≤ zx ∧ zx ≤ 2147483647) := HX6.out.zx0
              clear HX6 e0 e1 e2 e3 g0 g1 g2 g3 zo t0 t1 t2 HRD6 OX6 HS6
              generalize w6.setCell ⟨w3.heap.size, 2, none⟩ (.int .i64 ((k : Int) + 1)) = w8 at *
              have hce8 := (B8.out.cell (p := ⟨g, k, none⟩) hg3).trans HC3.out
              have HFRM : Hid (Calls Tryd.prog 70 #[.slice ua (pR P k).length uc] w8.drew fun e w' => ∃ fa fc, e = .returned (.slice fa (R.getD k ([], 0)).2 fc) ∧ w'.cell? ⟨w3.heap.size, 3, none⟩ = some (.int .i64 ((pos R k : Nat) : Int)) ∧ w'.frozen? ⟨w3.heap.size, 3, none⟩ = false ∧ w3.heap.size < w'.heap.size ∧ Hid (Below w8.heap.size w8 w')) := by
                refine (specFrame_any _ _ (pR P k) (HRD8.out.drewN 1) HBY9.out (by omega)).mono ?_
                rintro e w' ⟨v', rfl, o', b'⟩
                obtain ⟨fa, fc, rfl⟩ := Own.slice o'
                have b2 : Below w8.heap.size w8 w' := (below_drewN' _ 1).trans b'
                have X := XO8.out.below b2
                rw [HFR.out]
                exact ⟨fa, fc, rfl, X.2.1.2.2.2, X.2.2.2.2.2, X.1, b2⟩
              obtain ⟨zo8, ⟨-, -, -, q3⟩, -, -, -, r3⟩ := XO8.out
              have hsz2 := HPS.out k hlt
              have hps1 := HPOS.out (k + 1) (by omega)
              have HPS9 : Hid (((pos R k : Nat) : Int) + (((R.getD k ([], 0)).2 : Nat) : Int) = ((pos R (k + 1) : Nat) : Int)) := by show _ = _; omega
              have hbd : ((pos R k : Nat) : Int) + (((R.getD k ([], 0)).2 : Nat) : Int) ≤ 8192 := by omega
              clear hsz2 hps1
              generalize (R.getD k ([], 0)).2 = sz at *
              generalize hpk : pos R k = pk9 at *
              go_region_law (go_simp; go_at_call 70; refine HFRM.out.mono ?_; rintro e w' ⟨fa, fc, rfl, k3, kz3, zw, bw⟩)
              all_goals
                have RPN : Hid (Rp w (.slice ta ns.length tc) w3.heap.size R start res (k + 1) (.slice va ns'.length vc) ns' zx z (w'.setCell ⟨w3.heap.size, 3, none⟩ (.int .i64 ((pk9 : Int) + (sz : Int))))) := Rp.next s3 F8.out (by rw [hpk]; exact XO8.out) O8.out NE8.out GD8.out LN8.out ZX8.out hzz GOES.out bw.out _ (by rw [HPS9.out])
                have BN : Hid (Below w3.heap.size w3 (w'.setCell ⟨w3.heap.size, 3, none⟩ (.int .i64 ((pk9 : Int) + (sz : Int))))) := (B8.out.trans (bw.out.mono B8.out.size)).setCell (Nat.le_refl _) _
                clear k3 kz3 zw bw HFRM q3 r3
                go_wp2
                exact ⟨⟨k + 1, _, _, _, z, z, by omega, by go_num, rfl, (show _ = _ by rw [if_neg (by omega)]), RPN, BN⟩, by simp [intOf]; omega⟩
          · have hbv : bv = last := by have := HBV.out; rw [if_neg hk0] at this; exact this
            have HBAD : Hid ((if k = 0 then decide (start + 1 < z) else decide (z ≠ last + 1)) = false) := hbad
            rw [if_neg hk0] at hbad
            have hla := HX6.out.last0 (by omega)
            have hz9 : z = last + 1 := by simpa using hbad
            have hz9b : (z != last + 1) = false := by simpa using hz9
            have hnl2 : ¬ last < 0 := by omega
            have HZ9 : Hid (z = last + 1) := hz9
            clear hbad hk0 HBV hz9
            subst hbv
            obtain ⟨zo, ⟨e0, e1, e2, e3⟩, g0, g1, g2, g3⟩ := HX6.out.out
            by_cases hzx2 : zx < z
            · have HLEN := HX6.out.len
              have T6 : Hid (Bx < w6.heap.size ∧ w6.cell? ⟨Bx, 0, none⟩ = some (.bool true) ∧ w6.cell? ⟨Bx, 1, none⟩ = some (.int .i64 z) ∧ w6.cell? ⟨Bx, 2, none⟩ = some (.slice xa es.length xc)) := ⟨by have := HS6.out; omega, t0, t1, t2⟩
              go_wp2_with fail
              refine (specApply_any _ (.slice va ns'.length vc) ns' z (.slice xa es.length xc) es HX6.out.own.rd OX6.out (by omega) (good_sz HX6.out.good) (es_sz (decX_ok HD.out))).mono ?_
              rintro e w7 ⟨v7, rfl, o7, b7⟩
              rename_i K14 hK14 K13 hK13
              have HK14 : Hid _ := hK14
              clear hK14 e0 e1 e2 e3 g0 g1 g2 g3 zo t0 t1 t2
              obtain ⟨ra, rc, rfl⟩ := OwnN.slice9 o7
              have HRL := resA_len ns' z es
              have bA : Below w7.heap.size w7 (w7.alloc (.cells #[(.slice ra (resA ns' z es).length rc)] 36)) := (Below.refl _ _).alloc (Nat.le_refl _) _
              have b78 : Below w6.heap.size w6 (w7.alloc (.cells #[(.slice ra (resA ns' z es).length rc)] 36)) := b7.trans (bA.mono b7.size)
              have HX8 : Hid (Rp w (.slice ta ns.length tc) w3.heap.size R start res k (.slice va ns'.length vc) ns' zx bv (w7.alloc (.cells #[(.slice ra (resA ns' z es).length rc)] 36))) := HX6.out.below b78
              have T8 : Hid ((w7.alloc (.cells #[(.slice ra (resA ns' z es).length rc)] 36)).cell? ⟨Bx, 1, none⟩ = some (.int .i64 z)) := (b78.cell (p := ⟨Bx, 1, none⟩) T6.out.1).trans T6.out.2.2.1
              have Y8 : Hid ((w7.alloc (.cells #[(.slice ra (resA ns' z es).length rc)] 36)).cell? ⟨w7.heap.size, 0, none⟩ = some (.slice ra (resA ns' z es).length rc)) := by show _ = _; simp
              have O9 : Hid (OwnN 84 (w7.alloc (.cells #[(.slice ra (resA ns' z es).length rc)] 36)) w6.heap.size (.slice ra (resA ns' z es).length rc) (resA ns' z es)) := o7.below bA
              have B9 : Hid (Below w3.heap.size w3 (w7.alloc (.cells #[(.slice ra (resA ns' z es).length rc)] 36))) := B6.out.trans (b78.mono B6.out.size)
              have S67 : Hid (w3.heap.size < w6.heap.size ∧ Bx ≠ w3.heap.size ∧ w7.heap.size ≠ w3.heap.size) := ⟨HX6.out.out.1, by have := S5.out; omega, by have := HX6.out.out.1; have := b7.size; omega⟩
              clear b7 bA b78 o7 HX6 B6 OX6 HRD6 HS6 T6 S5
              go_wp2_with fail
              generalize w7.alloc (.cells #[(.slice ra (resA ns' z es).length rc)] 36) = w8 at *
              generalize hBy : w7.heap.size = By at *
              clear hBy
              refine HK14.out _ _ ?_
              clear HK14
              have y0 := Y8.out
              have t1 := T8.out
              by_cases hbig : 1000 < (resA ns' z es).length
              · have HRES9 : Hid (res = (ns', zx, k)) := by
                  have := HX8.out.goes
                  rw [HDR.out k hlt, rpl_big HD.out HBAD.out hzx2 hbig] at this
                  exact this.symm
                have hbigI : (1000 : Int) < ((resA ns' z es).length : Int) := by omega
                have hrs := HX8.out.head.2.2.2
                obtain ⟨zr, ⟨d0, d1, d2, d3⟩, f0, f1, f2, f3⟩ := hrs
                obtain ⟨zo, ⟨e0, e1, e2, e3⟩, -⟩ := HX8.out.out
                go_wp2
                refine bodyPost_ret (v := .agg #[.slice va ns'.length vc, .int .i64 zx, .int .i64 (k : Int), .int .i64 ((pos R k : Nat) : Int)]) (by simp [results, Tryd.results22, go_sem, d0, d1, d2, d3]) rfl ?_
                rw [HRES9.out]
                exact ⟨_, rfl, OwnN.mono (by repeat (first | exact HX8.out.own | refine OwnN.setBelow ?_ (show w.heap.size + 1 < w.heap.size + 2 by omega) _)) (by omega), by repeat (first | exact HX8.out.head.1 | refine Below.setCell ?_ (by simp) _)⟩
              · have GOES : Hid (rpl start (k + 1) ((R.drop (k + 1)).map (·.1)) (resA ns' z es) z z = res) := by
                  have := HX8.out.goes
                  rw [HDR.out k hlt, rpl_app HD.out HBAD.out hzx2 hbig] at this
                  exact this
                have hbigI : ¬ (1000 : Int) < ((resA ns' z es).length : Int) := by omega
                obtain ⟨zo, ⟨e0, e1, e2, e3⟩, g0, g1, g2, g3⟩ := HX8.out.out
                have hne1 := S67.out.2.1
                have hne2 := S67.out.2.2
                have hne3 : w3.heap.size ≠ Bx := fun e => hne1 e.symm
                have hne4 : w3.heap.size ≠ By := fun e => hne2 e.symm
                go_wp2_with fail
                have F8 : Hid (RpS w (.slice ta ns.length tc) (((w8.setCell ⟨w3.heap.size, 0, none⟩ (.slice ra (resA ns' z es).length rc)).setCell ⟨w3.heap.size, 1, none⟩ (.int .i64 z)).setCell ⟨w3.heap.size, 2, none⟩ (.int .i64 ((k : Int) + 1)))) := ((HX8.out.head.setO s3 _).setO s3 _).setO s3 _
                have XO8 : Hid (B4F (((w8.setCell ⟨w3.heap.size, 0, none⟩ (.slice ra (resA ns' z es).length rc)).setCell ⟨w3.heap.size, 1, none⟩ (.int .i64 z)).setCell ⟨w3.heap.size, 2, none⟩ (.int .i64 ((k : Int) + 1))) w3.heap.size (.slice ra (resA ns' z es).length rc) (.int .i64 z) (.int .i64 ((k : Int) + 1)) (.int .i64 ((pos R k : Nat) : Int))) := ((HX8.out.out.set0 _).set1 _).set2 _
                have NE8 : Hid (Value.ownBlock (.slice ra (resA ns' z es).length rc) ≠ some w3.heap.size) := fun e => by have h1 : w6.heap.size ≤ w3.heap.size := (World.ownsRow.lt O9.out _ e).1; have := S67.out.1; omega
                have O8 : Hid (OwnN 84 (((w8.setCell ⟨w3.heap.size, 0, none⟩ (.slice ra (resA ns' z es).length rc)).setCell ⟨w3.heap.size, 1, none⟩ (.int .i64 z)).setCell ⟨w3.heap.size, 2, none⟩ (.int .i64 ((k : Int) + 1))) (w.heap.size + 2) (.slice ra (resA ns' z es).length rc) (resA ns' z es)) := (((O9.out.setO NE8.out _).setO NE8.out _).setO NE8.out _).mono (by have := S67.out.1; omega)
                have B8 : Hid (Below w3.heap.size w3 (((w8.setCell ⟨w3.heap.size, 0, none⟩ (.slice ra (resA ns' z es).length rc)).setCell ⟨w3.heap.size, 1, none⟩ (.int .i64 z)).setCell ⟨w3.heap.size, 2, none⟩ (.int .i64 ((k : Int) + 1)))) := ((B9.out.setCell (Nat.le_refl _) _).setCell (Nat.le_refl _) _).setCell (Nat.le_refl _) _
                have HRD8 : Hid (Rd .u8 (((w8.setCell ⟨w3.heap.size, 0, none⟩ (.slice ra (resA ns' z es).length rc)).setCell ⟨w3.heap.size, 1, none⟩ (.int .i64 z)).setCell ⟨w3.heap.size, 2, none⟩ (.int .i64 ((k : Int) + 1))) (.slice ua (pR P k).length uc) (pR P k)) := (HR3.out).below B8.out
                have GD8 : Hid (Good (resA ns' z es)) := good_resA HX8.out.good (decX_ok HD.out)
                have LN8 : Hid ((resA ns' z es).length ≤ 1000) := by show _ ≤ _; omega
                have ZX8 : Hid (-1 ≤ z ∧ z ≤ 2147483647) := ⟨by omega, by omega⟩
                clear HX8 O9 B9 T8 Y8 y0 t1 e0 e1 e2 e3 g0 g1 g2 g3 zo hne1 hne2 hne3 hne4 hbigI
                generalize ((w8.setCell ⟨w3.heap.size, 0, none⟩ (.slice ra (resA ns' z es).length rc)).setCell ⟨w3.heap.size, 1, none⟩ (.int .i64 z)).setCell ⟨w3.heap.size, 2, none⟩ (.int .i64 ((k : Int) + 1)) = w8x at *
                have hce8 := (B8.out.cell (p := ⟨g, k, none⟩) hg3).trans HC3.out
                have HFRM : Hid (Calls Tryd.prog 70 #[.slice ua (pR P k).length uc] w8x.drew fun e w' => ∃ fa fc, e = .returned (.slice fa (R.getD k ([], 0)).2 fc) ∧ w'.cell? ⟨w3.heap.size, 3, none⟩ = some (.int .i64 ((pos R k : Nat) : Int)) ∧ w'.frozen? ⟨w3.heap.size, 3, none⟩ = false ∧ w3.heap.size < w'.heap.size ∧ Hid (Below w8x.heap.size w8x w')) := by
                  refine (specFrame_any _ _ (pR P k) (HRD8.out.drewN 1) HBY9.out (by omega)).mono ?_
                  rintro e w' ⟨v', rfl, o', b'⟩
                  obtain ⟨fa, fc, rfl⟩ := Own.slice o'
                  have b2 : Below w8x.heap.size w8x w' := (below_drewN' _ 1).trans b'
                  have X := XO8.out.below b2
                  rw [HFR.out]
                  exact ⟨fa, fc, rfl, X.2.1.2.2.2, X.2.2.2.2.2, X.1, b2⟩
                obtain ⟨zo8, ⟨-, -, -, q3⟩, -, -, -, r3⟩ := XO8.out
                have hsz2 := HPS.out k hlt
                have hps1 := HPOS.out (k + 1) (by omega)
                have HPS9 : Hid (((pos R k : Nat) : Int) + (((R.getD k ([], 0)).2 : Nat) : Int) = ((pos R (k + 1) : Nat) : Int)) := by show _ = _; omega
                have hbd : ((pos R k : Nat) : Int) + (((R.getD k ([], 0)).2 : Nat) : Int) ≤ 8192 := by omega
                clear hsz2 hps1
                generalize (R.getD k ([], 0)).2 = sz at *
                generalize hpk : pos R k = pk9 at *
                go_region_law (go_simp; go_at_call 70; refine HFRM.out.mono ?_; rintro e w' ⟨fa, fc, rfl, k3, kz3, zw, bw⟩)
                all_goals
                  have RPN : Hid (Rp w (.slice ta ns.length tc) w3.heap.size R start res (k + 1) (.slice ra (resA ns' z es).length rc) (resA ns' z es) z z (w'.setCell ⟨w3.heap.size, 3, none⟩ (.int .i64 ((pk9 : Int) + (sz : Int))))) := Rp.next s3 F8.out (by rw [hpk]; exact XO8.out) O8.out NE8.out GD8.out LN8.out ZX8.out hzz GOES.out bw.out _ (by rw [HPS9.out])
                  have BN : Hid (Below w3.heap.size w3 (w'.setCell ⟨w3.heap.size, 3, none⟩ (.int .i64 ((pk9 : Int) + (sz : Int))))) := (B8.out.trans (bw.out.mono B8.out.size)).setCell (Nat.le_refl _) _
                  clear k3 kz3 zw bw HFRM q3 r3
                  go_wp2
                  exact ⟨⟨k + 1, _, _, _, z, z, by omega, by go_num, rfl, (show _ = _ by rw [if_neg (by omega)]), RPN, BN⟩, by simp [intOf]; omega⟩
            · have GOES : Hid (rpl start (k + 1) ((R.drop (k + 1)).map (·.1)) ns' zx z = res) := by
                have := HX6.out.goes
                rw [HDR.out k hlt, rpl_pass HD.out HBAD.out hzx2] at this
                exact this
              go_wp2_with fail
              have F8 : Hid (RpS w (.slice ta ns.length tc) (w6.setCell ⟨w3.heap.size, 2, none⟩ (.int .i64 ((k : Int) + 1)))) := HX6.out.head.setO s3 _
              have XO8 : Hid (B4F (w6.setCell ⟨w3.heap.size, 2, none⟩ (.int .i64 ((k : Int) + 1))) w3.heap.size (.slice va ns'.length vc) (.int .i64 zx) (.int .i64 ((k : Int) + 1)) (.int .i64 ((pos R k : Nat) : Int))) := HX6.out.out.set2 _
              have O8 : Hid (OwnN 84 (w6.setCell ⟨w3.heap.size, 2, none⟩ (.int .i64 ((k : Int) + 1))) (w.heap.size + 2) (.slice va ns'.length vc) ns') := HX6.out.own.setO HX6.out.ne _
              have B8 : Hid (Below w3.heap.size w3 (w6.setCell ⟨w3.heap.size, 2, none⟩ (.int .i64 ((k : Int) + 1)))) := B6.out.setCell (Nat.le_refl _) _
              have HRD8 : Hid (Rd .u8 (w6.setCell ⟨w3.heap.size, 2, none⟩ (.int .i64 ((k : Int) + 1))) (.slice ua (pR P k).length uc) (pR P k)) := (HR3.out).below B8.out
              have NE8 : Hid (Value.ownBlock (.slice va ns'.length vc) ≠ some w3.heap.size) := HX6.out.ne
              have GD8 : Hid (Good ns') := HX6.out.good
              have LN8 : Hid (ns'.length ≤ 1000) := HX6.out.len
              have ZX8 : Hid (-1 ≤ zx ∧ zx ≤ 2147483647) := HX6.out.zx0
              clear HX6 e0 e1 e2 e3 g0 g1 g2 g3 zo t0 t1 t2 HRD6 OX6 HS6
              generalize w6.setCell ⟨w3.heap.size, 2, none⟩ (.int .i64 ((k : Int) + 1)) = w8 at *
              have hce8 := (B8.out.cell (p := ⟨g, k, none⟩) hg3).trans HC3.out
              have HFRM : Hid (Calls Tryd.prog 70 #[.slice ua (pR P k).length uc] w8.drew fun e w' => ∃ fa fc, e = .returned (.slice fa (R.getD k ([], 0)).2 fc) ∧ w'.cell? ⟨w3.heap.size, 3, none⟩ = some (.int .i64 ((pos R k : Nat) : Int)) ∧ w'.frozen? ⟨w3.heap.size, 3, none⟩ = false ∧ w3.heap.size < w'.heap.size ∧ Hid (Below w8.heap.size w8 w')) := by
                refine (specFrame_any _ _ (pR P k) (HRD8.out.drewN 1) HBY9.out (by omega)).mono ?_
                rintro e w' ⟨v', rfl, o', b'⟩
                obtain ⟨fa, fc, rfl⟩ := Own.slice o'
                have b2 : Below w8.heap.size w8 w' := (below_drewN' _ 1).trans b'
                have X := XO8.out.below b2
                rw [HFR.out]
                exact ⟨fa, fc, rfl, X.2.1.2.2.2, X.2.2.2.2.2, X.1, b2⟩
              obtain ⟨zo8, ⟨-, -, -, q3⟩, -, -, -, r3⟩ := XO8.out
              have hsz2 := HPS.out k hlt
              have hps1 := HPOS.out (k + 1) (by omega)
              have HPS9 : Hid (((pos R k : Nat) : Int) + (((R.getD k ([], 0)).2 : Nat) : Int) = ((pos R (k + 1) : Nat) : Int)) := by show _ = _; omega
              have hbd : ((pos R k : Nat) : Int) + (((R.getD k ([], 0)).2 : Nat) : Int) ≤ 8192 := by omega
              clear hsz2 hps1
              generalize (R.getD k ([], 0)).2 = sz at *
              generalize hpk : pos R k = pk9 at *
              go_region_law (go_simp; go_at_call 70; refine HFRM.out.mono ?_; rintro e w' ⟨fa, fc, rfl, k3, kz3, zw, bw⟩)
              all_goals
                have RPN : Hid (Rp w (.slice ta ns.length tc) w3.heap.size R start res (k + 1) (.slice va ns'.length vc) ns' zx z (w'.setCell ⟨w3.heap.size, 3, none⟩ (.int .i64 ((pk9 : Int) + (sz : Int))))) := Rp.next s3 F8.out (by rw [hpk]; exact XO8.out) O8.out NE8.out GD8.out LN8.out ZX8.out hzz GOES.out bw.out _ (by rw [HPS9.out])
                have BN : Hid (Below w3.heap.size w3 (w'.setCell ⟨w3.heap.size, 3, none⟩ (.int .i64 ((pk9 : Int) + (sz : Int))))) := (B8.out.trans (bw.out.mono B8.out.size)).setCell (Nat.le_refl _) _
                clear k3 kz3 zw bw HFRM q3 r3
                go_wp2
                exact ⟨⟨k + 1, _, _, _, z, z, by omega, by go_num, rfl, (show _ = _ by rw [if_neg (by omega)]), RPN, BN⟩, by simp [intOf]; omega⟩
    · have hkn : k = P.length := by omega
      have hltI : ¬ (k : Int) < (P.length : Int) := by omega
      have HRES9 : Hid (res = (ns', zx, k)) := by
        have := HRP.out.goes
        rw [HEND.out k (by omega), rpl] at this
        exact this.symm
      have sr := HRP.out.head.2.1
      clear hkn
      have hrs := HRP.out.head.2.2.2
      obtain ⟨zr, ⟨d0, d1, d2, d3⟩, f0, f1, f2, f3⟩ := hrs
      obtain ⟨zo, ⟨e0, e1, e2, e3⟩, -⟩ := HRP.out.out
      go_wp2
      refine bodyPost_ret (v := .agg #[.slice va ns'.length vc, .int .i64 zx, .int .i64 (k : Int), .int .i64 ((pos R k : Nat) : Int)]) (by simp [results, Tryd.results22, go_sem, d0, d1, d2, d3]) rfl ?_
      rw [HRES9.out]
      exact ⟨_, rfl, OwnN.mono (by repeat (first | exact HRP.out.own | refine OwnN.setBelow ?_ (show w.heap.size + 1 < w.heap.size + 2 by omega) _)) (by omega), by repeat (first | exact HRP.out.head.1 | refine Below.setCell ?_ (by simp) _)⟩

end Go.Proofs.YtcopcegamadkgaaDoor

namespace Go.Proofs.YtcopcegamadkgaaDoor
open Go.RowKit Go.Shelf

/-- A slice without an address has no room. -/
def NilOk (v : Value) : Prop := ∀ n c, v = .slice none n c → n = 0 ∧ c = 0
theorem OwnN.nilOk {e : TypeId} {w : World} {lo : Nat} {v : Value} {ns : List Nd} (h : OwnN e w lo v ns) : NilOk v := by
  intro n c hv
  rcases h.2 with ⟨rfl, _⟩ | ⟨g, cap, cur, rfl, _⟩
  · simp only [Value.slice.injEq, true_and] at hv
    exact ⟨hv.1.symm, hv.2.symm⟩
  · simp at hv
theorem nrow_take {R : List Nd} {L j : Nat} {u : Value} (h : (nrow (R.take L))[j]? = some u) : (nrow R)[j]? = some u := by
  have e : nrow R = nrow (R.take L) ++ nrow (R.drop L) := by rw [← nrow_append, List.take_append_drop]
  rw [e, List.getElem?_append_left (List.getElem?_eq_some_iff.1 h).1]
  exact h
theorem RdN.rowCells {w : World} {ao : Option Addr} {c : Nat} {R : List Nd} (h : RdN w (.slice ao R.length c) R) : ∀ ad, ao = some ad → ∀ j u, (nrow R)[j]? = some u → w.cell? (ad.add j) = some u := by
  obtain ⟨ao', c', e, -, -, h3⟩ := h
  simp only [Value.slice.injEq] at e
  obtain ⟨rfl, -, rfl⟩ := e
  intro ad had j u hu
  rcases h3 with rfl | ⟨b, o, rfl, hb, hc⟩
  · simp [nrow] at hu
  · obtain rfl := Option.some.inj had
    have hj : j < R.length * 7 := by have := (List.getElem?_eq_some_iff.1 hu).1; rw [nrow_length] at this; exact this
    have h7 : j % 7 < 7 := Nat.mod_lt _ (by decide)
    have hr := nrow_get R (j / 7) (j % 7) (by omega) h7
    rw [show j / 7 * 7 + j % 7 = j by omega, hu] at hr
    have hcc := hc (j / 7) (by omega)
    rw [Addr.add_lit]
    have e : o + j = o + j / 7 * 7 + j % 7 := by omega
    rw [e]
    clear e hu hj
    generalize j % 7 = r at *
    match r, h7 with
    | 0, _ => rw [Nat.add_zero, hcc.c0]; exact hr.symm
    | 1, _ => rw [hcc.c1]; exact hr.symm
    | 2, _ => rw [hcc.c2]; exact hr.symm
    | 3, _ => rw [hcc.c3]; exact hr.symm
    | 4, _ => rw [hcc.c4]; exact hr.symm
    | 5, _ => rw [hcc.c5]; exact hr.symm
    | 6, _ => rw [hcc.c6]; exact hr.symm
theorem ndL_ones (R : List Nd) : ∀ u ∈ nrow R, u.oneCell' = true := by
  intro u hu
  unfold nrow at hu
  obtain ⟨n, _, hn⟩ := List.mem_flatMap.1 hu
  exact ndL_one n u hn
theorem run_head (ao : Option Addr) (n c L : Nat) (h1 : L ≤ n) (h2 : n ≤ c) (W : World) : (Instr.slice 34 (.slice ao n c) none (some (.int .i64 (L : Int))) none).run Tryd.prog W = .ok (.slice ao L c) W := by
  have h : (0 : Int) ≤ (L : Int) := by omega
  have h' : (L : Int) ≤ (c : Int) := by omega
  have he : Tryd.prog.elem 34 = 84 := by kernel_rfl
  rw [run_slice_h W 34 ao n c (by rw [he]; exact Tryd.underlying34) .i64 (L : Int) h h', he]
  go_simp
theorem run_tail (ao : Option Addr) (n c L : Nat) (h1 : L ≤ n) (W : World) : (Instr.slice 34 (.slice ao n c) (some (.int .i64 (L : Int))) none none).run Tryd.prog W = .ok (.slice (if c = L then ao else ao.map (·.add (L * 7))) (n - L) (c - L)) W := by
  have h : (0 : Int) ≤ (L : Int) := by omega
  have h' : (L : Int) ≤ (n : Int) := by omega
  have he : Tryd.prog.elem 34 = 84 := by kernel_rfl
  rw [run_slice_l W 34 ao n c (by rw [he]; exact Tryd.underlying34) .i64 (L : Int) h h', he]
  go_simp
theorem slice_tail {w : World} {ao : Option Addr} {c : Nat} {R : List Nd} (h : RdN w (.slice ao R.length c) R) (hn : NilOk (.slice ao R.length c)) (L : Nat) (hL : L ≤ R.length) :
    ∃ a2, (∀ W, (Instr.slice 34 (.slice ao R.length c) (some (.int .i64 (L : Int))) none none).run Tryd.prog W = .ok (.slice a2 (R.length - L) (c - L)) W) ∧ RdN w (.slice a2 (R.length - L) (c - L)) (R.drop L) ∧ NilOk (.slice a2 (R.length - L) (c - L)) := by
  obtain ⟨ao', c', e, h1, h2, h3⟩ := h
  simp only [Value.slice.injEq] at e
  obtain ⟨rfl, -, rfl⟩ := e
  refine ⟨if c = L then ao else ao.map (·.add (L * 7)), run_tail ao _ c L hL, ⟨_, _, by rw [List.length_drop], by rw [List.length_drop]; omega, by omega, ?_⟩, ?_⟩
  · rcases h3 with rfl | ⟨b, o, rfl, hb, hc⟩
    · exact .inl (by simp)
    · by_cases hcl : c = L
      · exact .inl (List.drop_eq_nil_of_le (by omega))
      · refine .inr ⟨b, o + L * 7, by rw [if_neg hcl, Option.map_some, Addr.add_lit], hb, fun i hi => ?_⟩
        rw [List.length_drop] at hi
        have := hc (L + i) (by omega)
        have e1 : nAt (R.drop L) i = nAt R (L + i) := by unfold nAt; simp [List.getD]
        rw [e1, show o + L * 7 + i * 7 = o + (L + i) * 7 by omega]
        exact this
  · intro n' c2 hv
    simp only [Value.slice.injEq] at hv
    obtain ⟨ha, rfl, rfl⟩ := hv
    have hao : ao = none := by
      by_cases hcl : c = L
      · rw [if_pos hcl] at ha; exact ha
      · rw [if_neg hcl] at ha; simpa using ha
    subst hao
    have := hn _ _ rfl
    omega
theorem apI_rest (ns : List Nd) (es : List Ef) : (apI ns es).2.length ≤ ns.length := by
  have : ∀ (es : List Ef) (st : List Nd × List Nd), (es.foldl apS st).2.length ≤ st.2.length := by
    intro es
    induction es with
    | nil => exact fun st => Nat.le_refl _
    | cons e es ih =>
      intro st
      rw [List.foldl_cons]
      refine Nat.le_trans (ih _) ?_
      unfold apS
      rw [List.length_drop]
      omega
  exact this es ([], ns)
theorem BoxE.grown {w w' : World} {B g : Nat} {n : Ef} (h : BoxE w B n) (hg : w.grownBy w' (some g)) (hne : B ≠ g) : BoxE w' B n := by
  have e := hg.block B h.lt (by simpa using hne)
  have cc : ∀ i, w'.cell? ⟨B, i, none⟩ = w.cell? ⟨B, i, none⟩ := fun i => by simp [World.cell?, e]
  have hs : w.heap.size ≤ w'.heap.size := hg.size
  exact ⟨Nat.lt_of_lt_of_le h.lt hs, (cc _).trans h.c0, (cc _).trans h.c1, (cc _).trans h.c2, (cc _).trans h.c3, (cc _).trans h.c4, (cc _).trans h.c5, (cc _).trans h.c6, (cc _).trans h.c7⟩

/-- What a call of ApplyTxn holds behind k effects. -/
structure ApS (w : World) (g C : Nat) (st : List Nd × List Nd) (v : Value) (z : Int) (vx : Value) (vo vr : Value) (W : World) : Prop where
  own : W.ownsRow (w.heap.size + 3) 84 7 vo st.1.length (nrow st.1)
  head : vo = .slice (some ⟨g, 0, none⟩) st.1.length C
  rest : RdN w vr st.2
  nil : NilOk vr
  below : Below w.heap.size w W
  box : ApB w.heap.size v z vx W

set_option maxHeartbeats 2000000 in
set_option maxRecDepth 100000 in
theorem implApply_any (w : World) (v : Value) (ns : List Nd) (z : Int) (vx : Value) (es : List Ef) (h : RdN w v ns) (hnil : NilOk v) (hx : RdE w vx es)
    (hsz : ∀ i, (nAt ns i).path.size ≤ 1048576 ∧ (nAt ns i).data.size ≤ 1048576) (hsx : ∀ i, (eAt es i).nd.path.size ≤ 1048576 ∧ (eAt es i).nd.data.size ≤ 1048576) :
    Calls Tryd.prog 118 #[.agg #[v], .agg #[.int .i64 z, vx]] w fun e w' => ∃ v', e = .returned (.agg #[v']) ∧ OwnN 84 w' w.heap.size v' (resA ns z es) ∧ Below w.heap.size w w' := by
  obtain ⟨i0, hi, hz0, hz1, hz2⟩ := info_parts Tryd.infoN
  obtain ⟨ao, ca, rfl, _, _⟩ := h.len
  obtain ⟨xo, cx, rfl, _, _⟩ := hx.len
  have HR : Hid (RdN w (.slice ao ns.length ca) ns) := h
  have HX : Hid (RdE w (.slice xo es.length cx) es) := hx
  have HN : Hid (NilOk (.slice ao ns.length ca)) := hnil
  have HZ : Hid (∀ i, (nAt ns i).path.size ≤ 1048576 ∧ (nAt ns i).data.size ≤ 1048576) := hsz
  have HZX : Hid (∀ i, (eAt es i).nd.path.size ≤ 1048576 ∧ (eAt es i).nd.data.size ≤ 1048576) := hsx
  have B0 : Hid (Below w.heap.size w (((w.alloc (.cells #[.slice ao ns.length ca] 36)).alloc (.cells #[.int .i64 z, .slice xo es.length cx] 106)).alloc (.cells #[.slice none 0 0] 36))) := (((Below.refl _ _).alloc (Nat.le_refl _) _).alloc (by simp) _).alloc (by simp; omega) _
  have X0 : Hid (ApB w.heap.size (.slice ao ns.length ca) z (.slice xo es.length cx) (((w.alloc (.cells #[.slice ao ns.length ca] 36)).alloc (.cells #[.int .i64 z, .slice xo es.length cx] 106)).alloc (.cells #[.slice none 0 0] 36))) := ApB.new _ _ _ _
  clear h hx hsz hsx hnil
  go_enter Tryd.func118, Tryd.ntmps118
  go_wp2_with fail
  generalize ((w.alloc (.cells #[.slice ao ns.length ca] 36)).alloc (.cells #[.int .i64 z, .slice xo es.length cx] 106)).alloc (.cells #[.slice none 0 0] 36) = w0 at *
  refine (implTree_any _ _ ns (HR.out.below B0.out) HZ.out).mono ?_
  rintro e w1 ⟨rfl, b1⟩
  have B1 : Hid (Below w.heap.size w w1) := B0.out.trans (b1.mono B0.out.size)
  have X1 : Hid (ApB w.heap.size (.slice ao ns.length ca) z (.slice xo es.length cx) w1) := X0.out.below b1 X0.out.size
  clear b1 X0 B0
  by_cases hok : okTree ns = true
  rotate_left
  · have hok' : okTree ns = false := by simpa using hok
    have HT : Hid (resA ns z es = []) := by show _ = _; unfold resA; rw [hok']; rfl
    rw [hok']
    clear hok hok'
    have c0 := X1.out.r.cell
    have f0 := X1.out.r.frozen
    go_wp2
    refine bodyPost_ret (v := .agg #[.slice none 0 0]) (by simp [results, Tryd.results118, go_sem, c0]) rfl ⟨_, rfl, (by rw [HT.out]; exact World.ownsRow_nil _ _ _ _), ?_⟩
    repeat (first | exact B1.out | refine Below.setCell ?_ (by simp; try omega) _)
  rw [hok]
  have cx0 := X1.out.x.cells
  go_wp2_with fail
  clear cx0
  refine (implTxn_any _ _ _ es (HX.out.below B1.out) HZX.out).mono ?_
  rintro e w2 ⟨rfl, b2⟩
  have B2 : Hid (Below w.heap.size w w2) := B1.out.trans (b2.mono B1.out.size)
  have X2 : Hid (ApB w.heap.size (.slice ao ns.length ca) z (.slice xo es.length cx) w2) := X1.out.below b2 X1.out.size
  clear b2 X1 B1
  by_cases hpp : okTxn z es = true
  rotate_left
  · have hpp' : okTxn z es = false := by simpa using hpp
    have HT : Hid (resA ns z es = []) := by show _ = _; unfold resA; rw [hpp']; simp
    rw [hpp']
    clear hpp hpp' hok
    have c0 := X2.out.r.cell
    have f0 := X2.out.r.frozen
    go_wp2
    refine bodyPost_ret (v := .agg #[.slice none 0 0]) (by simp [results, Tryd.results118, go_sem, c0]) rfl ⟨_, rfl, (by rw [HT.out]; exact World.ownsRow_nil _ _ _ _), ?_⟩
    repeat (first | exact B2.out | refine Below.setCell ?_ (by simp; try omega) _)
  have hn1 : ns.length ≤ 1000 := okTree_len hok
  have he1 : es.length ≤ 1000 := (okTxn_es hpp).2
  have HT : Hid (resA ns z es = apL ns es) := by show _ = _; unfold resA; rw [hok, hpp]; rfl
  have HA : Hid (Asc ns) := okTree_asc hok
  have HE : Hid (AscE es) := okEs_asc (okTxn_es hpp).1
  rw [hpp]
  clear hok hpp
  have ct := X2.out.t.cell
  obtain ⟨y0, y1⟩ := X2.out.x.cells
  have s2 := X2.out.size
  generalize hen : es.length = n at *
  have HP : Hid (es.length = n) := hen
  clear hen
  generalize hnn : ns.length = m at *
  have HM : Hid (ns.length = m) := hnn
  clear hnn
  go_wp2_with (at_make; go_must (refine wpList_make_own _ rfl _ _ 34 rfl (w.heap.size + 3) 84 i0 (.agg #[.string ByteArray.empty, .string ByteArray.empty, .int .i64 0, .int .i64 0, .int .i64 0, .int .i64 0, .int .i64 0]) 7 Tryd.underlying34 hi hz0 hz1 _ _ _ (m + n) rfl rfl ?c0 ?b2 ?b3 ?b4 ?_))
  case c0 => omega
  case b2 => rw [hz2]; omega
  case b3 => unfold maxLen; omega
  case b4 => exact s2
  intro w3 ho3 hg3
  have BG : Hid (Below w2.heap.size w2 w3) := (Below.refl _ _).grown hg3 (Nat.le_refl _) (fun q hq => by simp at hq)
  have S3 : Hid (ApS w w2.heap.size (m + n) (apI ns (es.take 0)) (.slice ao m ca) z (.slice xo n cx) (.slice (some ⟨w2.heap.size, 0, none⟩) 0 (m + n)) (.slice ao m ca) w3) := ⟨ho3, rfl, HR.out, HN.out, B2.out.trans (BG.out.mono B2.out.size), X2.out.below BG.out s2⟩
  clear ho3 hg3 BG ct y0 y1
  have ct := S3.out.box.t.cell
  obtain ⟨y0, y1⟩ := S3.out.box.x.cells
  generalize hg : w2.heap.size = g at *
  clear X2 B2 hg
  go_wp2
  go_loopw [5, 6, 33] (fun vo vr vk wr => ∃ k : Nat, k ≤ n ∧ vk = .int .i64 k ∧ Hid (ApS w g (m + n) (apI ns (es.take k)) (.slice ao m ca) z (.slice xo n cx) vo vr wr)) (fun _ _ i _ => n - (intOf i).toNat)
  case atStart => exact ⟨0, Nat.zero_le _, rfl, S3⟩
  case round =>
    clear ct y0 y1 S3
    obtain ⟨k, hk, rfl, HS⟩ := hrel
    obtain ⟨A, R, hAR⟩ : ∃ A R, apI ns (es.take k) = (A, R) := ⟨_, _, rfl⟩
    have hlen : A.length + R.length ≤ m + k := by
      have := apI_len ns es k
      rw [hAR, HM.out] at this
      exact this
    have hrl : R.length ≤ m := by
      have := apI_rest ns (es.take k)
      rw [hAR, HM.out] at this
      exact this
    have HAsc : Hid (Asc R) := by
      have := apI_asc HA.out (es.take k)
      rw [hAR] at this
      exact this
    have HAR : Hid (apI ns (es.take k) = (A, R)) := hAR
    rw [hAR] at HS
    clear hAR
    obtain ⟨OW0, hd0, RR0, NN0, HB0, HBX0⟩ := HS.out
    obtain ⟨ro, rc, h6, hr1, hr2⟩ := RR0.len
    have OW : Hid (OwnN 84 wr (w.heap.size + 3) (.slice (some ⟨g, 0, none⟩) A.length (m + n)) A) := by rw [hd0] at OW0; exact OW0
    have RR : Hid (RdN w (.slice ro R.length rc) R) := by rw [h6] at RR0; exact RR0
    have NN : Hid (NilOk (.slice ro R.length rc)) := by rw [h6] at NN0; exact NN0
    have HB : Hid (Below w.heap.size w wr) := HB0
    have HBX : Hid (ApB w.heap.size (.slice ao m ca) z (.slice xo n cx) wr) := HBX0
    have hr1' : R.length ≤ rc := hr1
    replace hd0 : u5 = .slice (some ⟨g, 0, none⟩) A.length (m + n) := hd0
    replace h6 : u6 = .slice ro R.length rc := h6
    subst hd0 h6
    clear OW0 RR0 NN0 HB0 HBX0 HS hr1 hr2
    have sB := HB.out.size
    have hgl : g < wr.heap.size := (World.ownsRow.lt OW.out g rfl).2
    by_cases hlt : k < n
    · have hltI : (k : Int) < (n : Int) := by omega
      obtain ⟨b, o, hao, hb, hc⟩ : ∃ b o, xo = some ⟨b, o, none⟩ ∧ b < w.heap.size ∧ CellsE w b (o + k * 8) (eAt es k) := by
        obtain ⟨ao', cap', e', -, -, h3⟩ := HX.out
        simp only [Value.slice.injEq] at e'
        obtain ⟨rfl, -, -⟩ := e'
        rcases h3 with h3 | ⟨b, o, rfl, hb, hc⟩
        · have := HP.out; rw [h3] at this; simp at this; omega
        · exact ⟨b, o, rfl, hb, hc k (by rw [HP.out]; exact hlt)⟩
      subst hao
      obtain ⟨c0, c1, c2, c3, c4, c5, c6, c7⟩ := hc.below HB.out hb
      clear hc
      have HS1 : Hid (apI ns (es.take (k + 1)) = apS (A, R) (eAt es k)) := by
        show _ = _
        rw [← HAR.out]
        exact apI_succ ns es k (by rw [HP.out]; exact hlt)
      clear HAR
      go_wp2_with fail
      clear c0 c1 c2 c3 c4 c5 c6 c7
      generalize eAt es k = f at *
      have BA : Hid (Below wr.heap.size wr (wr.alloc (.cells #[.bool f.del, .string f.nd.path, .string f.nd.data, .int .i64 f.nd.ver, .int .i64 f.nd.cver, .int .i64 f.nd.cz, .int .i64 f.nd.mz, .int .i64 f.nd.pz] 157))) := (Below.refl _ _).alloc (Nat.le_refl _) _
      have EX : Hid (BoxE (wr.alloc (.cells #[.bool f.del, .string f.nd.path, .string f.nd.data, .int .i64 f.nd.ver, .int .i64 f.nd.cver, .int .i64 f.nd.cz, .int .i64 f.nd.mz, .int .i64 f.nd.pz] 157)) wr.heap.size f) := BoxE.new _ _ _
      generalize wr.alloc (.cells #[.bool f.del, .string f.nd.path, .string f.nd.data, .int .i64 f.nd.ver, .int .i64 f.nd.cver, .int .i64 f.nd.cz, .int .i64 f.nd.mz, .int .i64 f.nd.pz] 157) = wA at *
      generalize hB : wr.heap.size = B at *
      have HG : Hid (B ≠ g) := by show _ ≠ _; omega
      have OWA : Hid (OwnN 84 wA (w.heap.size + 3) (.slice (some ⟨g, 0, none⟩) A.length (m + n)) A) := OW.out.below (hB ▸ BA.out)
      have B1 : Hid (Below w.heap.size w wA) := HB.out.trans (BA.out.mono sB)
      have X1 : Hid (ApB w.heap.size (.slice ao m ca) z (.slice (some ⟨b, o, none⟩) n cx) wA) := HBX.out.below BA.out (by omega)
      clear OW HB HBX BA hB
      obtain ⟨L, hL⟩ : ∃ L, L = plc R f.nd.path := ⟨_, rfl⟩
      have hLR : L ≤ R.length := by rw [hL]; exact plc_le _ _
      have HLow : Hid (Low R f.nd.path L) := by rw [hL]; exact low_plc R _ HAsc.out
      have HS2 : Hid (apI ns (es.take (k + 1)) = (A ++ R.take L ++ (if f.del then [] else [f.nd]), R.drop (L + if fnd R f.nd.path L then 1 else 0))) := by
        show _ = _
        rw [HS1.out, hL]
        rfl
      have HF1 : Hid (fnd R f.nd.path L = true → L < R.length) := by
        intro hh
        unfold fnd at hh
        simp only [Bool.and_eq_true, decide_eq_true_eq] at hh
        exact hh.1
      clear HS1 hL
      refine (findNode_any wA _ R f.nd.path L (RR.out.below B1.out) (by omega) HLow.out).mono ?_
      rintro e w4 ⟨rfl, b4⟩
      have OW4 : Hid (OwnN 84 w4 (w.heap.size + 3) (.slice (some ⟨g, 0, none⟩) A.length (m + n)) A) := OWA.out.below b4
      have B4 : Hid (Below w.heap.size w w4) := B1.out.trans (b4.mono B1.out.size)
      have X4 : Hid (ApB w.heap.size (.slice ao m ca) z (.slice (some ⟨b, o, none⟩) n cx) w4) := X1.out.below b4 X1.out.size
      have E4 : Hid (BoxE w4 B f) := EX.out.below b4
      clear b4 OWA B1 X1 EX
      have hs1 := run_head ro R.length rc L hLR hr1'
      go_wp2_with (at_builtin; go_must (refine wpList_append_fits_any _ rfl _ _ 34 rfl (w.heap.size + 3) 84 i0 7 Tryd.underlying34 hi hz1 g A.length (m + n) (nrow A) rfl OW4.out ro L rc (nrow (R.take L)) rfl ?n1 ?n2 ?n3 ?n4 ?n5 ?_))
      case n1 => rw [nrow_length, List.length_take]; omega
      case n2 => exact fun e => by have := NN.out R.length rc (by rw [e]); omega
      case n3 => exact fun ad had j u hu => (RR.out.below B4.out).rowCells ad had j u (nrow_take hu)
      case n4 => exact ndL_ones _
      case n5 => omega
      intro w5 ho5 hg5
      have OW5 : Hid (OwnN 84 w5 (w.heap.size + 3) (.slice (some ⟨g, 0, none⟩) (A.length + L) (m + n)) (A ++ R.take L)) := by
        show World.ownsRow _ _ _ _ _ _ _
        rw [List.length_append, List.length_take, Nat.min_eq_left hLR, nrow_append]
        exact ho5
      have B5 : Hid (Below w.heap.size w w5) := B4.out.grown hg5 B4.out.size (fun q hq => by simp only [Option.some.injEq] at hq; omega)
      have X5 : Hid (ApB w.heap.size (.slice ao m ca) z (.slice (some ⟨b, o, none⟩) n cx) w5) := X4.out.below ((Below.refl (w.heap.size + 3) w4).grown hg5 X4.out.size (fun q hq => by simp only [Option.some.injEq] at hq; omega)) (Nat.le_refl _)
      have E5 : Hid (BoxE w5 B f) := E4.out.grown hg5 HG.out
      have G5 : g < w5.heap.size := (World.ownsRow.lt OW5.out g rfl).2
      clear ho5 hg5 OW4 B4 X4 E4 hs1
      obtain ⟨a2, hs2, r2, n2⟩ := slice_tail RR.out NN.out L hLR
      have R2 : Hid (RdN w (.slice a2 (R.length - L) (rc - L)) (R.drop L)) := r2
      have N2 : Hid (NilOk (.slice a2 (R.length - L) (rc - L))) := n2
      clear r2 n2
      obtain ⟨e0, e1, e2, e3, e4, e5, e6, e7⟩ := E5.out.all
      obtain ⟨vr, Rn, hw⟩ : ∃ vr Rn, (Rn = R.drop (L + if fnd R f.nd.path L then 1 else 0) ∧ Hid (RdN w vr Rn) ∧ Hid (NilOk vr)) ∧ ((fnd R f.nd.path L = false ∧ vr = .slice a2 (R.length - L) (rc - L)) ∨ (fnd R f.nd.path L = true ∧ ∀ W, (Instr.slice 34 (.slice a2 (R.length - L) (rc - L)) (some (.int .i64 1)) none none).run Tryd.prog W = .ok vr W)) := by
        cases hf : fnd R f.nd.path L with
        | false => exact ⟨_, _, ⟨rfl, R2, N2⟩, .inl ⟨rfl, rfl⟩⟩
        | true =>
          have hl := HF1.out hf
          have R2' : RdN w (.slice a2 (R.drop L).length (rc - L)) (R.drop L) := by rw [List.length_drop]; exact R2.out
          have N2' : NilOk (.slice a2 (R.drop L).length (rc - L)) := by rw [List.length_drop]; exact N2.out
          obtain ⟨a3, hs3, r3, n3⟩ := slice_tail R2' N2' 1 (by rw [List.length_drop]; omega)
          rw [List.length_drop] at hs3 r3 n3
          rw [List.drop_drop] at r3
          exact ⟨_, _, ⟨rfl, r3, n3⟩, .inr ⟨rfl, hs3⟩⟩
      obtain ⟨⟨hRn, R3, N3⟩, hw⟩ := hw
      have HS3 : Hid (apI ns (es.take (k + 1)) = (A ++ R.take L ++ (if f.del then [] else [f.nd]), Rn)) := by rw [hRn]; exact HS2.out
      have HLT : Hid ((A ++ R.take L).length = A.length + L) := by show _ = _; rw [List.length_append, List.length_take, Nat.min_eq_left hLR]
      clear HS2 hRn
      cases hdel : f.del with
      | true =>
        rw [hdel] at e0
        have S9 : Hid (ApS w g (m + n) (apI ns (es.take (k + 1))) (.slice ao m ca) z (.slice (some ⟨b, o, none⟩) n cx) (.slice (some ⟨g, 0, none⟩) (A.length + L) (m + n)) vr w5) := by
          have e9 : apI ns (es.take (k + 1)) = (A ++ R.take L, Rn) := by rw [HS3.out, hdel]; simp
          rw [e9]
          exact ⟨OW5.out, by rw [HLT.out], R3.out, N3.out, B5.out, X5.out⟩
        clear HS3 HLT OW5 R3 N3 B5 X5 R2 N2
        rcases hw with ⟨hf, rfl⟩ | ⟨hf, hs3⟩
        · rw [hf]
          go_wp2
          exact ⟨⟨k + 1, by omega, by go_num, S9⟩, by simp [intOf]; omega⟩
        · rw [hf]
          go_wp2
          exact ⟨⟨k + 1, by omega, by go_num, S9⟩, by simp [intOf]; omega⟩
      | false =>
        rw [hdel] at e0
        have FIN : Hid (∀ w', w'.ownsRow (w.heap.size + 3) 84 7 (.slice (some ⟨g, 0, none⟩) (A.length + L + 1) (m + n)) (A.length + L + 1) (nrow (A ++ R.take L) ++ ndL f.nd) → ∀ t, (w5.alloc (.cells #[.string f.nd.path, .string f.nd.data, .int .i64 f.nd.ver, .int .i64 f.nd.cver, .int .i64 f.nd.cz, .int .i64 f.nd.mz, .int .i64 f.nd.pz] t)).grownBy w' (some g) → Hid (ApS w g (m + n) (apI ns (es.take (k + 1))) (.slice ao m ca) z (.slice (some ⟨b, o, none⟩) n cx) (.slice (some ⟨g, 0, none⟩) (A.length + L + 1) (m + n)) vr w')) := by
          intro w' how t hgw
          have e9 : apI ns (es.take (k + 1)) = (A ++ R.take L ++ [f.nd], Rn) := by rw [HS3.out, hdel]; simp
          have el : (A ++ R.take L ++ [f.nd]).length = A.length + L + 1 := by rw [List.length_append, HLT.out]; rfl
          rw [e9]
          have hb3 : Below (w.heap.size + 3) w5 w' := ((Below.refl (w.heap.size + 3) w5).alloc X5.out.size _).grown hgw (by have := X5.out.size; simp; omega) (fun q hq => by simp only [Option.some.injEq] at hq; omega)
          refine ⟨?_, ?_, R3.out, N3.out, B5.out.trans (hb3.mono (by omega)), X5.out.below hb3 (Nat.le_refl _)⟩
          · show World.ownsRow _ _ _ _ _ (A ++ R.take L ++ [f.nd]).length (nrow (A ++ R.take L ++ [f.nd]))
            rw [el, nrow_one]
            exact how
          · show _ = Value.slice _ (A ++ R.take L ++ [f.nd]).length _
            rw [el]
        have OR : Hid (w5.ownsRow (w.heap.size + 3) 84 7 (.slice (some ⟨g, 0, none⟩) (A.length + L) (m + n)) (A.length + L) (nrow (A ++ R.take L))) := by
          have := OW5.out
          unfold OwnN at this
          rw [HLT.out] at this
          exact this
        clear HS3 HLT OW5 R3 N3 R2 N2
        rcases hw with ⟨hf, rfl⟩ | ⟨hf, hs3⟩
        · rw [hf]
          go_wp2_with (at_builtin; go_must (refine wpList_append_fits _ rfl _ _ 34 rfl (w.heap.size + 3) 84 i0 7 Tryd.underlying34 hi hz1 g (A.length + L) (m + n) _ rfl (OR.out.alloc _) ⟨w5.heap.size, 0, none⟩ 1 1 (ndL f.nd) rfl rfl (ndL_cells w5 f.nd _) (ndL_one f.nd) ?q1 ?_))
          case q1 => omega
          intro w6 ho6 hg6
          have S9 := FIN.out w6 ho6 _ hg6
          clear FIN OR ho6 hg6 e0 e1 e2 e3 e4 e5 e6 e7
          go_wp2
          exact ⟨⟨k + 1, by omega, by go_num, S9⟩, by simp [intOf]; omega⟩
        · rw [hf]
          go_wp2_with (at_builtin; go_must (refine wpList_append_fits _ rfl _ _ 34 rfl (w.heap.size + 3) 84 i0 7 Tryd.underlying34 hi hz1 g (A.length + L) (m + n) _ rfl (OR.out.alloc _) ⟨w5.heap.size, 0, none⟩ 1 1 (ndL f.nd) rfl rfl (ndL_cells w5 f.nd _) (ndL_one f.nd) ?q2 ?_))
          case q2 => have := HF1.out hf; omega
          intro w6 ho6 hg6
          have S9 := FIN.out w6 ho6 _ hg6
          clear FIN OR ho6 hg6 e0 e1 e2 e3 e4 e5 e6 e7
          go_wp2
          exact ⟨⟨k + 1, by omega, by go_num, S9⟩, by simp [intOf]; omega⟩
    · have hkn : k = n := by omega
      subst hkn
      have HF : Hid (A ++ R = resA ns z es) := by
        have := apI_all HA.out HE.out HP.out
        rw [HAR.out] at this
        rw [HT.out]
        exact this
      clear HAR
      go_wp2_with (at_builtin; go_must (refine wpList_append_fits_any _ rfl _ _ 34 rfl (w.heap.size + 3) 84 i0 7 Tryd.underlying34 hi hz1 g A.length (m + k) (nrow A) rfl OW.out ro R.length rc (nrow R) rfl ?m1 ?m2 ?m3 ?m4 ?m5 ?_))
      case m1 => rw [nrow_length]
      case m2 => exact fun e => NN.out R.length rc (by rw [e])
      case m3 => exact fun ad had j u hu => (RR.out.below HB.out).rowCells ad had j u hu
      case m4 => exact ndL_ones _
      case m5 => omega
      intro w5 ho5 hg5
      have OW5 : Hid (OwnN 84 w5 (w.heap.size + 3) (.slice (some ⟨g, 0, none⟩) (A.length + R.length) (m + k)) (resA ns z es)) := by
        rw [← HF.out]
        show World.ownsRow _ _ _ _ _ _ _
        rw [List.length_append, nrow_append]
        exact ho5
      have B5 : Hid (Below w.heap.size w w5) := HB.out.grown hg5 HB.out.size (fun q hq => by simp only [Option.some.injEq] at hq; omega)
      have X5 : Hid (ApB w.heap.size (.slice ao m ca) z (.slice xo k cx) w5) := HBX.out.below ((Below.refl (w.heap.size + 3) wr).grown hg5 HBX.out.size (fun q hq => by simp only [Option.some.injEq] at hq; omega)) (Nat.le_refl _)
      clear ho5 hg5 OW HB HBX
      have c0 := X5.out.r.cell
      have f0 := X5.out.r.frozen
      go_wp2
      refine bodyPost_ret (v := .agg #[.slice (some ⟨g, 0, none⟩) (A.length + R.length) (m + k)]) (by simp [results, Tryd.results118, go_sem, c0]) rfl ⟨_, rfl, ?_, ?_⟩
      · refine OwnN.mono ?_ (show w.heap.size ≤ w.heap.size + 3 by omega)
        repeat (first | exact OW5.out | refine OwnN.setBelow ?_ (by simp; try omega) _)
      · repeat (first | exact B5.out | refine Below.setCell ?_ (by simp; try omega) _)

end Go.Proofs.YtcopcegamadkgaaDoor

namespace Go.Proofs.YtcopcegamadkgaaDoor
open Go.RowKit Go.Shelf

set_option maxHeartbeats 1000000 in
set_option maxRecDepth 100000 in
theorem follows_any (w : World) (Br : Nat) (v : Value) (zx en last z : Int) (k : Nat) (xa : Option Addr) (xl xc : Nat) (h : B4F w Br v (.int .i64 zx) (.int .i64 (k : Int)) (.int .i64 en)) (hx : -1 ≤ zx ∧ zx ≤ 2147483647) (hl : 0 < k → 1 ≤ last ∧ last ≤ 2147483647) :
    Calls Tryd.prog 76 #[.pointer (some ⟨Br, 0, none⟩), .int .i64 last, .agg #[.int .i64 z, .slice xa xl xc]] w fun e w' => e = .returned (.bool (if k = 0 then decide (z ≤ zx + 1) else decide (z = last + 1))) ∧ Below w.heap.size w w' := by
  have B0 : Hid (Below w.heap.size w (w.alloc (.cells #[.int .i64 z, .slice xa xl xc] 106))) := (Below.refl _ _).alloc (Nat.le_refl _) _
  have H0 : Hid (B4F (w.alloc (.cells #[.int .i64 z, .slice xa xl xc] 106)) Br v (.int .i64 zx) (.int .i64 (k : Int)) (.int .i64 en)) := h.below B0.out
  have HT : Hid (Box2 (w.alloc (.cells #[.int .i64 z, .slice xa xl xc] 106)) w.heap.size (.int .i64 z) (.slice xa xl xc)) := Box2.new _ _ _ _
  clear h
  by_cases hk0 : k = 0
  · subst hk0
    rw [if_pos rfl]
    cases hle : decide (z ≤ zx + 1) with
    | true =>
      have hle' : z ≤ zx + 1 := by simpa using hle
      obtain ⟨z0, ⟨c0, c1, c2, c3⟩, -⟩ := H0.out
      go_enter Tryd.func76, Tryd.ntmps76
      go_wp2_with fail
      obtain ⟨z1, t0, t1⟩ := HT.out
      generalize w.alloc (.cells #[.int .i64 z, .slice xa xl xc] 106) = w0 at *
      go_quiet (fail)
      go_wp2
      go_ret
      exact ⟨rfl, below_drewQ B0.out _⟩
    | false =>
      have hle' : ¬ z ≤ zx + 1 := by simpa using hle
      obtain ⟨z0, ⟨c0, c1, c2, c3⟩, -⟩ := H0.out
      go_enter Tryd.func76, Tryd.ntmps76
      go_wp2_with fail
      obtain ⟨z1, t0, t1⟩ := HT.out
      generalize w.alloc (.cells #[.int .i64 z, .slice xa xl xc] 106) = w0 at *
      go_quiet (fail)
      go_wp2
      go_ret
      exact ⟨rfl, below_drewQ B0.out _⟩
  · rw [if_neg hk0]
    have hl' := hl (by omega)
    have hkI : ¬ (k : Int) = 0 := by omega
    have hkb : ((k : Int) == 0) = false := by simpa using hkI
    clear hl
    obtain ⟨z0, ⟨c0, c1, c2, c3⟩, -⟩ := H0.out
    obtain ⟨b, hb⟩ : ∃ b, b = (z == last + 1) := ⟨_, rfl⟩
    have HE : Hid (decide (z = last + 1) = b) := by rw [hb]; show _ = _; cases h : (z == last + 1) <;> simp_all
    rw [HE.out]
    go_enter Tryd.func76, Tryd.ntmps76
    go_wp2
    go_ret
    exact ⟨by rw [hb]; rfl, B0.out⟩

/-- What reach leaves behind. -/
def ReachPost (w : World) (Br : Nat) (ns : List Nd) (zx : Int) (k : Nat) (en z : Int) (es : List Ef) (e : Ending) (w' : World) : Prop :=
  (z ≤ zx ∧ e = .returned (.bool true) ∧ Below w.heap.size w w') ∨ (zx < z ∧ 1000 < (resA ns z es).length ∧ e = .returned (.bool false) ∧ Below w.heap.size w w') ∨
    (zx < z ∧ ¬ 1000 < (resA ns z es).length ∧ e = .returned (.bool true) ∧ ∃ v', B4F w' Br v' (.int .i64 z) (.int .i64 (k : Int)) (.int .i64 en) ∧ OwnN 84 w' w.heap.size v' (resA ns z es) ∧ w.grownBy w' (some Br))

set_option maxHeartbeats 2000000 in
set_option maxRecDepth 100000 in
theorem reach_any (w : World) (Br : Nat) (va : Option Addr) (vc : Nat) (ns : List Nd) (zx en z : Int) (k : Nat) (xa : Option Addr) (xc : Nat) (es : List Ef) (h : B4F w Br (.slice va ns.length vc) (.int .i64 zx) (.int .i64 (k : Int)) (.int .i64 en)) (hn : RdN w (.slice va ns.length vc) ns) (hnil : NilOk (.slice va ns.length vc)) (hg : Good ns) (hx : RdE w (.slice xa es.length xc) es) (hok : okTxn z es = true) :
    Calls Tryd.prog 77 #[.pointer (some ⟨Br, 0, none⟩), .agg #[.int .i64 z, .slice xa es.length xc]] w (ReachPost w Br ns zx k en z es) := by
  have B0 : Hid (Below w.heap.size w (w.alloc (.cells #[.int .i64 z, .slice xa es.length xc] 106))) := (Below.refl _ _).alloc (Nat.le_refl _) _
  have H0 : Hid (B4F (w.alloc (.cells #[.int .i64 z, .slice xa es.length xc] 106)) Br (.slice va ns.length vc) (.int .i64 zx) (.int .i64 (k : Int)) (.int .i64 en)) := h.below B0.out
  have HT : Hid (Box2 (w.alloc (.cells #[.int .i64 z, .slice xa es.length xc] 106)) w.heap.size (.int .i64 z) (.slice xa es.length xc)) := Box2.new _ _ _ _
  have HBr : Hid (Br < w.heap.size) := h.1
  have HN : Hid (RdN w (.slice va ns.length vc) ns) := hn
  have HX : Hid (RdE w (.slice xa es.length xc) es) := hx
  have HNIL : Hid (NilOk (.slice va ns.length vc)) := hnil
  have HG : Hid (Good ns) := hg
  have HOK : Hid (okTxn z es = true) := hok
  clear h hn hx hnil hg hok
  go_enter Tryd.func77, Tryd.ntmps77
  go_wp2_with fail
  obtain ⟨z0, ⟨c0, c1, c2, c3⟩, -⟩ := H0.out
  obtain ⟨z1, t0, t1⟩ := HT.out
  have HS0 : Hid ((w.alloc (.cells #[.int .i64 z, .slice xa es.length xc] 106)).heap.size = w.heap.size + 1) := by show _ = _; simp
  generalize w.alloc (.cells #[.int .i64 z, .slice xa es.length xc] 106) = w0 at *
  by_cases hle : z ≤ zx
  · go_quiet (fail)
    go_wp2
    go_ret
    exact .inl ⟨hle, rfl, below_drewQ B0.out _⟩
  · go_quiet (fail)
    have bq : Below w0.heap.size w0 (w0.drewN nq) := below_drewN' w0 nq
    have B1 : Hid (Below w.heap.size w (w0.drewN nq)) := B0.out.trans (bq.mono B0.out.size)
    have H1 : Hid (B4F (w0.drewN nq) Br (.slice va ns.length vc) (.int .i64 zx) (.int .i64 (k : Int)) (.int .i64 en)) := H0.out.below bq
    have T1 : Hid (Box2 (w0.drewN nq) w.heap.size (.int .i64 z) (.slice xa es.length xc)) := HT.out.below bq
    clear bq z0 c0 c1 c2 c3 z1 t0 t1 B0 H0 HT
    go_wp2_with fail
    generalize w0.drewN nq = w1 at *
    obtain ⟨z1, t0, t1⟩ := T1.out
    obtain ⟨z0, ⟨c0, c1, c2, c3⟩, -⟩ := H1.out
    have HAP : Hid (∀ W, Below w1.heap.size w1 W → Calls Tryd.prog 118 #[.agg #[.slice va ns.length vc], .agg #[.int .i64 z, .slice xa es.length xc]] W fun e w' => ∃ ra rc, e = .returned (.agg #[.slice ra (resA ns z es).length rc]) ∧ OwnN 84 w' W.heap.size (.slice ra (resA ns z es).length rc) (resA ns z es) ∧ Below W.heap.size W w') := by
      intro W hW
      have hb := B1.out.trans (hW.mono B1.out.size)
      refine (implApply_any W _ ns z _ es (HN.out.below hb) HNIL.out (HX.out.below hb) (good_sz HG.out) (es_sz HOK.out)).mono ?_
      rintro e w' ⟨v', rfl, o, b⟩
      obtain ⟨ra, rc, rfl⟩ := OwnN.slice9 o
      exact ⟨ra, rc, rfl, o, b⟩
    have hrl := resA_len ns z es
    have bP : Below w1.heap.size w1 w1.drew := below_drewN' w1 1
    refine wp_region_held_drew (S := fun W => W.cell? ⟨Br, 0, none⟩ = some (.slice va ns.length vc) ∧ W.cell? ⟨w.heap.size, 0, none⟩ = some (.int .i64 z) ∧ W.cell? ⟨w.heap.size, 1, none⟩ = some (.slice xa es.length xc)) (by kernel_rfl) (⟨(bP.cell (p := ⟨Br, 0, none⟩) H1.out.1).trans H1.out.2.1.1, (bP.cell (p := ⟨w.heap.size, 0, none⟩) T1.out.1).trans T1.out.2.1, (bP.cell (p := ⟨w.heap.size, 1, none⟩) T1.out.1).trans T1.out.2.2⟩) (fun hHeld => ?_)
    have BP : Hid (Below w1.heap.size w1 w1.drew) := bP
    clear bP
    generalize w1.drew = p1 at *
    refine wpAnyH_take (i := 0) (oi := { dst := some 13, op := _, type := _, pos := _, after := _, guard := _ }) (v := (.pointer (some ⟨Br, 0, none⟩))) rfl (by kernel_rfl) (by kernel_rfl) (by kernel_rfl) (fun _ _ _ h => h) (Or.inl ⟨by rfl, ?hy6⟩) (by assumption) ?rest6
    case hy6 =>
      intro w9 hS9
      obtain ⟨k0, k1, k2⟩ := hS9
      go_simp
      try with_reducible rfl
    try simp only [Act.put, List.setIfInBounds_toArray, List.set_cons_zero, List.set_cons_succ]
    refine wpAnyH_take (i := 1) (oi := { dst := some 14, op := _, type := _, pos := _, after := _, guard := _ }) (v := (.pointer (some ⟨Br, 0, none⟩))) rfl (by kernel_rfl) (by kernel_rfl) (by kernel_rfl) (fun _ _ _ h => h) (Or.inl ⟨by rfl, ?hy7⟩) (by assumption) ?rest7
    case hy7 =>
      intro w9 hS9
      obtain ⟨k0, k1, k2⟩ := hS9
      go_simp
      try with_reducible rfl
    try simp only [Act.put, List.setIfInBounds_toArray, List.set_cons_zero, List.set_cons_succ]
    refine wpAnyH_take (i := 2) (oi := { dst := some 15, op := _, type := _, pos := _, after := _, guard := _ }) (v := (.pointer (some ⟨Br, 0, none⟩))) rfl (by kernel_rfl) (by kernel_rfl) (by kernel_rfl) (fun _ _ _ h => h) (Or.inl ⟨by rfl, ?hy8⟩) (by assumption) ?rest8
    case hy8 =>
      intro w9 hS9
      obtain ⟨k0, k1, k2⟩ := hS9
      go_simp
      try with_reducible rfl
    try simp only [Act.put, List.setIfInBounds_toArray, List.set_cons_zero, List.set_cons_succ]
    refine wpAnyH_take (i := 3) (oi := { dst := some 16, op := _, type := _, pos := _, after := _, guard := _ }) (v := (.agg #[.slice va ns.length vc])) rfl (by kernel_rfl) (by kernel_rfl) (by kernel_rfl) (fun _ _ _ h => h) (Or.inl ⟨by rfl, ?hy9⟩) (by assumption) ?rest9
    case hy9 =>
      intro w9 hS9
      obtain ⟨k0, k1, k2⟩ := hS9
      go_simp
      try with_reducible rfl
    try simp only [Act.put, List.setIfInBounds_toArray, List.set_cons_zero, List.set_cons_succ]
    refine wpAnyH_take (i := 4) (oi := { dst := some 17, op := _, type := _, pos := _, after := _, guard := _ }) (v := (.agg #[.int .i64 z, .slice xa es.length xc])) rfl (by kernel_rfl) (by kernel_rfl) (by kernel_rfl) (fun _ _ _ h => h) (Or.inl ⟨by rfl, ?hy10⟩) (by assumption) ?rest10
    case hy10 =>
      intro w9 hS9
      obtain ⟨k0, k1, k2⟩ := hS9
      go_simp
      try with_reducible rfl
    try simp only [Act.put, List.setIfInBounds_toArray, List.set_cons_zero, List.set_cons_succ]
    refine wpAnyH_ready (rs := [5, 6]) (by kernel_rfl) (by simp) ?_
    refine (AllReadyH.cons (o := { dst := some 18, op := _, type := _, pos := _, after := _, guard := _ }) rfl (fun K hK => ?_) (AllReadyH.cons (o := { dst := some 5, op := _, type := _, pos := _, after := _, guard := _ }) rfl (fun K hK => ?_) AllReadyH.nil))
    · go_simp
      refine (HAP.out p1 BP.out).mono ?_
      rintro e w2 ⟨ra, rc, rfl, o2, b2⟩
      have B2 : Hid (Below w1.heap.size w1 w2) := BP.out.trans (b2.mono BP.out.size)
      have O2 : Hid (OwnN 84 w2 w1.heap.size (.slice ra (resA ns z es).length rc) (resA ns z es)) := o2.mono BP.out.size
      clear b2 o2
      refine hK.out _ _ (⟨(B2.out.cell (p := ⟨Br, 0, none⟩) H1.out.1).trans H1.out.2.1.1, (B2.out.cell (p := ⟨w.heap.size, 0, none⟩) T1.out.1).trans T1.out.2.1, (B2.out.cell (p := ⟨w.heap.size, 1, none⟩) T1.out.1).trans T1.out.2.2⟩) (fun hx9 => ?_)
      clear hK K hx9 hHeld
      have hHeld := (⟨(B2.out.cell (p := ⟨Br, 0, none⟩) H1.out.1).trans H1.out.2.1.1, (B2.out.cell (p := ⟨w.heap.size, 0, none⟩) T1.out.1).trans T1.out.2.1, (B2.out.cell (p := ⟨w.heap.size, 1, none⟩) T1.out.1).trans T1.out.2.2⟩ : (fun W => W.cell? ⟨Br, 0, none⟩ = some (.slice va ns.length vc) ∧ W.cell? ⟨w.heap.size, 0, none⟩ = some (.int .i64 z) ∧ W.cell? ⟨w.heap.size, 1, none⟩ = some (.slice xa es.length xc)) w2)
      try simp only [Act.put, List.setIfInBounds_toArray, List.set_cons_zero, List.set_cons_succ]
      refine wpAnyH_ready (rs := [6]) (by kernel_rfl) (by simp) ?_
      refine (AllReadyH.cons (o := { dst := some 5, op := _, type := _, pos := _, after := _, guard := _ }) rfl (fun K hK => ?_) AllReadyH.nil)
      go_simp
      have BA : Hid (Below w1.heap.size w1 (w2.alloc (.cells #[.slice none 0 0] 36))) := B2.out.alloc B2.out.size _
      refine hK.out _ _ (⟨(BA.out.cell (p := ⟨Br, 0, none⟩) H1.out.1).trans H1.out.2.1.1, (BA.out.cell (p := ⟨w.heap.size, 0, none⟩) T1.out.1).trans T1.out.2.1, (BA.out.cell (p := ⟨w.heap.size, 1, none⟩) T1.out.1).trans T1.out.2.2⟩) (fun hx9 => ?_)
      clear hK K hx9 hHeld
      have hHeld := (⟨(BA.out.cell (p := ⟨Br, 0, none⟩) H1.out.1).trans H1.out.2.1.1, (BA.out.cell (p := ⟨w.heap.size, 0, none⟩) T1.out.1).trans T1.out.2.1, (BA.out.cell (p := ⟨w.heap.size, 1, none⟩) T1.out.1).trans T1.out.2.2⟩ : (fun W => W.cell? ⟨Br, 0, none⟩ = some (.slice va ns.length vc) ∧ W.cell? ⟨w.heap.size, 0, none⟩ = some (.int .i64 z) ∧ W.cell? ⟨w.heap.size, 1, none⟩ = some (.slice xa es.length xc)) (w2.alloc (.cells #[.slice none 0 0] 36)))
      try simp only [Act.put, List.setIfInBounds_toArray, List.set_cons_zero, List.set_cons_succ]
      refine wpAnyH_ready (rs := [7]) (by kernel_rfl) (by simp) ?_
      refine (AllReadyH.cons (o := { dst := none, op := _, type := _, pos := _, after := _, guard := _ }) rfl (fun K hK => ?_) AllReadyH.nil)
      go_simp
      have B3 : Hid (Below w1.heap.size w1 (w2.alloc (.cells #[(.slice ra (resA ns z es).length rc)] 36))) := B2.out.alloc B2.out.size _
      have Y3 : Hid (w2.heap.size < (w2.alloc (.cells #[(.slice ra (resA ns z es).length rc)] 36)).heap.size ∧ (w2.alloc (.cells #[(.slice ra (resA ns z es).length rc)] 36)).cell? ⟨w2.heap.size, 0, none⟩ = some (.slice ra (resA ns z es).length rc)) := ⟨by simp, by simp⟩
      have O3 : Hid (OwnN 84 (w2.alloc (.cells #[(.slice ra (resA ns z es).length rc)] 36)) w1.heap.size (.slice ra (resA ns z es).length rc) (resA ns z es)) := O2.out.below ((Below.refl _ _).alloc (Nat.le_refl _) _)
      have N3 : Hid (w1.heap.size ≤ w2.heap.size) := B2.out.size
      clear BA B2 O2
      refine hK.out _ _ (⟨(B3.out.cell (p := ⟨Br, 0, none⟩) H1.out.1).trans H1.out.2.1.1, (B3.out.cell (p := ⟨w.heap.size, 0, none⟩) T1.out.1).trans T1.out.2.1, (B3.out.cell (p := ⟨w.heap.size, 1, none⟩) T1.out.1).trans T1.out.2.2⟩) (fun hx9 => ?_)
      clear hK K hx9 hHeld
      have hHeld := (⟨(B3.out.cell (p := ⟨Br, 0, none⟩) H1.out.1).trans H1.out.2.1.1, (B3.out.cell (p := ⟨w.heap.size, 0, none⟩) T1.out.1).trans T1.out.2.1, (B3.out.cell (p := ⟨w.heap.size, 1, none⟩) T1.out.1).trans T1.out.2.2⟩ : (fun W => W.cell? ⟨Br, 0, none⟩ = some (.slice va ns.length vc) ∧ W.cell? ⟨w.heap.size, 0, none⟩ = some (.int .i64 z) ∧ W.cell? ⟨w.heap.size, 1, none⟩ = some (.slice xa es.length xc)) ((w2.alloc (.cells #[(.slice ra (resA ns z es).length rc)] 36))))
      try simp only [Act.put, List.setIfInBounds_toArray, List.set_cons_zero, List.set_cons_succ]
      refine wpAnyH_done (by kernel_rfl) ?_ _
      clear hHeld
      generalize (w2.alloc (.cells #[(.slice ra (resA ns z es).length rc)] 36)) = w3 at *
      generalize hBy : w2.heap.size = By at *
      clear hBy
      have B3w : Hid (Below w.heap.size w w3) := B1.out.trans (B3.out.mono B1.out.size)
      have H3 : Hid (B4F w3 Br (.slice va ns.length vc) (.int .i64 zx) (.int .i64 (k : Int)) (.int .i64 en)) := H1.out.below B3.out
      have T3 : Hid (Box2 w3 w.heap.size (.int .i64 z) (.slice xa es.length xc)) := T1.out.below B3.out
      have S31 := B3.out.size
      have s1w := B1.out.size
      have hBr := HBr.out
      clear H1 T1 B1 z0 c0 c1 c2 c3 z1 t0 t1 HAP BP
      obtain ⟨z1, t0, t1⟩ := T3.out
      obtain ⟨z0, ⟨c0, c1, c2, c3⟩, f0, f1, f2, f3⟩ := H3.out
      obtain ⟨zy, y0⟩ := Y3.out
      by_cases hbig : 1000 < (resA ns z es).length
      · have hbigI : (1000 : Int) < ((resA ns z es).length : Int) := by omega
        go_wp2
        go_ret
        exact .inr (.inl ⟨by omega, hbig, rfl, B3w.out⟩)
      · have hbigI : ¬ (1000 : Int) < ((resA ns z es).length : Int) := by omega
        go_wp2_with fail
        have hyb : By ≠ Br := by have := N3.out; omega
        have hyb2 : Br ≠ By := fun e => hyb e.symm
        have hwb : w.heap.size ≠ Br := by omega
        have hwb2 : Br ≠ w.heap.size := by omega
        have NE : Hid (Value.ownBlock (.slice ra (resA ns z es).length rc) ≠ some Br) := fun e => by have h1 : w1.heap.size ≤ Br := (World.ownsRow.lt O3.out _ e).1; omega
        have FX : Hid (B4F (((w3.setCell ⟨Br, 0, none⟩ (.slice ra (resA ns z es).length rc)).setCell ⟨Br, 1, none⟩ (.int .i64 z))) Br (.slice ra (resA ns z es).length rc) (.int .i64 z) (.int .i64 (k : Int)) (.int .i64 en)) := (H3.out.set0 _).set1 _
        have FO : Hid (OwnN 84 (((w3.setCell ⟨Br, 0, none⟩ (.slice ra (resA ns z es).length rc)).setCell ⟨Br, 1, none⟩ (.int .i64 z))) w.heap.size (.slice ra (resA ns z es).length rc) (resA ns z es)) := ((O3.out.setO NE.out _).setO NE.out _).mono s1w
        have FG : Hid (w.grownBy (((w3.setCell ⟨Br, 0, none⟩ (.slice ra (resA ns z es).length rc)).setCell ⟨Br, 1, none⟩ (.int .i64 z))) (some Br)) := grownBy_set _ _ _ _ _ (grownBy_set _ _ _ _ _ ⟨B3w.out.os, B3w.out.tape, B3w.out.output, B3w.out.size, fun q hq _ => B3w.out.block q hq⟩)
        clear H3 T3 O3 B3 B3w NE
        go_region_law (fail)
        all_goals
          generalize ((w3.setCell ⟨Br, 0, none⟩ (.slice ra (resA ns z es).length rc)).setCell ⟨Br, 1, none⟩ (.int .i64 z)) = w9 at *
          go_wp2
          go_ret
          exact .inr (.inr ⟨by omega, hbig, rfl, _, FX.out.below (below_drewN' w9 1), FO.out.below (below_drewN' w9 1), ⟨FG.out.os, FG.out.tape, FG.out.output, FG.out.size, FG.out.block⟩⟩)
    · go_simp
      have BQ : Hid (Below w1.heap.size w1 (p1.alloc (.cells #[.slice none 0 0] 36))) := BP.out.alloc BP.out.size _
      have YQ : Hid (p1.heap.size < (p1.alloc (.cells #[.slice none 0 0] 36)).heap.size ∧ (p1.alloc (.cells #[.slice none 0 0] 36)).cell? ⟨p1.heap.size, 0, none⟩ = some (.slice none 0 0) ∧ (p1.alloc (.cells #[.slice none 0 0] 36)).frozen? ⟨p1.heap.size, 0, none⟩ = false) := ⟨by simp, by simp, by simp⟩
      refine hK.out _ _ (⟨(BQ.out.cell (p := ⟨Br, 0, none⟩) H1.out.1).trans H1.out.2.1.1, (BQ.out.cell (p := ⟨w.heap.size, 0, none⟩) T1.out.1).trans T1.out.2.1, (BQ.out.cell (p := ⟨w.heap.size, 1, none⟩) T1.out.1).trans T1.out.2.2⟩) (fun hx9 => ?_)
      clear hK K hx9 hHeld
      have hHeld := (⟨(BQ.out.cell (p := ⟨Br, 0, none⟩) H1.out.1).trans H1.out.2.1.1, (BQ.out.cell (p := ⟨w.heap.size, 0, none⟩) T1.out.1).trans T1.out.2.1, (BQ.out.cell (p := ⟨w.heap.size, 1, none⟩) T1.out.1).trans T1.out.2.2⟩ : (fun W => W.cell? ⟨Br, 0, none⟩ = some (.slice va ns.length vc) ∧ W.cell? ⟨w.heap.size, 0, none⟩ = some (.int .i64 z) ∧ W.cell? ⟨w.heap.size, 1, none⟩ = some (.slice xa es.length xc)) (p1.alloc (.cells #[.slice none 0 0] 36)))
      try simp only [Act.put, List.setIfInBounds_toArray, List.set_cons_zero, List.set_cons_succ]
      have SQ : Hid ((p1.alloc (.cells #[.slice none 0 0] 36)).heap.size = p1.heap.size + 1) := by show _ = _; simp
      generalize (p1.alloc (.cells #[.slice none 0 0] 36)) = q1 at *
      refine wpAnyH_ready (rs := [5]) (by kernel_rfl) (by simp) ?_
      refine (AllReadyH.cons (o := { dst := some 18, op := _, type := _, pos := _, after := _, guard := _ }) rfl (fun K hK => ?_) AllReadyH.nil)
      go_simp
      refine (HAP.out q1 BQ.out).mono ?_
      rintro e w2 ⟨ra, rc, rfl, o2, b2⟩
      have B2 : Hid (Below w1.heap.size w1 w2) := BQ.out.trans (b2.mono BQ.out.size)
      have O2 : Hid (OwnN 84 w2 q1.heap.size (.slice ra (resA ns z es).length rc) (resA ns z es)) := o2
      have Y2 : Hid (p1.heap.size < w2.heap.size ∧ w2.cell? ⟨p1.heap.size, 0, none⟩ = some (.slice none 0 0) ∧ w2.frozen? ⟨p1.heap.size, 0, none⟩ = false) := ⟨Nat.lt_of_lt_of_le YQ.out.1 b2.size, (b2.cell (p := ⟨p1.heap.size, 0, none⟩) YQ.out.1).trans YQ.out.2.1, (b2.frozen (p := ⟨p1.heap.size, 0, none⟩) YQ.out.1).trans YQ.out.2.2⟩
      clear b2 o2
      refine hK.out _ _ (⟨(B2.out.cell (p := ⟨Br, 0, none⟩) H1.out.1).trans H1.out.2.1.1, (B2.out.cell (p := ⟨w.heap.size, 0, none⟩) T1.out.1).trans T1.out.2.1, (B2.out.cell (p := ⟨w.heap.size, 1, none⟩) T1.out.1).trans T1.out.2.2⟩) (fun hx9 => ?_)
      clear hK K hx9 hHeld
      have hHeld := (⟨(B2.out.cell (p := ⟨Br, 0, none⟩) H1.out.1).trans H1.out.2.1.1, (B2.out.cell (p := ⟨w.heap.size, 0, none⟩) T1.out.1).trans T1.out.2.1, (B2.out.cell (p := ⟨w.heap.size, 1, none⟩) T1.out.1).trans T1.out.2.2⟩ : (fun W => W.cell? ⟨Br, 0, none⟩ = some (.slice va ns.length vc) ∧ W.cell? ⟨w.heap.size, 0, none⟩ = some (.int .i64 z) ∧ W.cell? ⟨w.heap.size, 1, none⟩ = some (.slice xa es.length xc)) w2)
      try simp only [Act.put, List.setIfInBounds_toArray, List.set_cons_zero, List.set_cons_succ]
      obtain ⟨zz, zc, zf⟩ := Y2.out
      refine wpAnyH_ready (rs := [7]) (by kernel_rfl) (by simp) ?_
      refine (AllReadyH.cons (o := { dst := none, op := _, type := _, pos := _, after := _, guard := _ }) rfl (fun K hK => ?_) AllReadyH.nil)
      go_simp
      have B3 : Hid (Below w1.heap.size w1 (w2.setCell ⟨p1.heap.size, 0, none⟩ (.slice ra (resA ns z es).length rc))) := B2.out.setCell BP.out.size _
      have Y3 : Hid (p1.heap.size < (w2.setCell ⟨p1.heap.size, 0, none⟩ (.slice ra (resA ns z es).length rc)).heap.size ∧ (w2.setCell ⟨p1.heap.size, 0, none⟩ (.slice ra (resA ns z es).length rc)).cell? ⟨p1.heap.size, 0, none⟩ = some (.slice ra (resA ns z es).length rc)) := ⟨by simpa using zz, World.cell?_setCell_same _ _ _ zc⟩
      have O3 : Hid (OwnN 84 (w2.setCell ⟨p1.heap.size, 0, none⟩ (.slice ra (resA ns z es).length rc)) w1.heap.size (.slice ra (resA ns z es).length rc) (resA ns z es)) := (OwnN.setO O2.out (fun e => by have h1 : q1.heap.size ≤ p1.heap.size := (World.ownsRow.lt O2.out _ e).1; have := SQ.out; omega) _).mono (by have := SQ.out; have := BP.out.size; omega)
      have N3 : Hid (w1.heap.size ≤ p1.heap.size) := BP.out.size
      clear BQ YQ B2 O2 Y2 zz zc zf SQ
      refine hK.out _ _ (⟨(B3.out.cell (p := ⟨Br, 0, none⟩) H1.out.1).trans H1.out.2.1.1, (B3.out.cell (p := ⟨w.heap.size, 0, none⟩) T1.out.1).trans T1.out.2.1, (B3.out.cell (p := ⟨w.heap.size, 1, none⟩) T1.out.1).trans T1.out.2.2⟩) (fun hx9 => ?_)
      clear hK K hx9 hHeld
      have hHeld := (⟨(B3.out.cell (p := ⟨Br, 0, none⟩) H1.out.1).trans H1.out.2.1.1, (B3.out.cell (p := ⟨w.heap.size, 0, none⟩) T1.out.1).trans T1.out.2.1, (B3.out.cell (p := ⟨w.heap.size, 1, none⟩) T1.out.1).trans T1.out.2.2⟩ : (fun W => W.cell? ⟨Br, 0, none⟩ = some (.slice va ns.length vc) ∧ W.cell? ⟨w.heap.size, 0, none⟩ = some (.int .i64 z) ∧ W.cell? ⟨w.heap.size, 1, none⟩ = some (.slice xa es.length xc)) ((w2.setCell ⟨p1.heap.size, 0, none⟩ (.slice ra (resA ns z es).length rc))))
      try simp only [Act.put, List.setIfInBounds_toArray, List.set_cons_zero, List.set_cons_succ]
      refine wpAnyH_done (by kernel_rfl) ?_ _
      clear hHeld
      generalize (w2.setCell ⟨p1.heap.size, 0, none⟩ (.slice ra (resA ns z es).length rc)) = w3 at *
      generalize hBy : p1.heap.size = By at *
      clear hBy
      have B3w : Hid (Below w.heap.size w w3) := B1.out.trans (B3.out.mono B1.out.size)
      have H3 : Hid (B4F w3 Br (.slice va ns.length vc) (.int .i64 zx) (.int .i64 (k : Int)) (.int .i64 en)) := H1.out.below B3.out
      have T3 : Hid (Box2 w3 w.heap.size (.int .i64 z) (.slice xa es.length xc)) := T1.out.below B3.out
      have S31 := B3.out.size
      have s1w := B1.out.size
      have hBr := HBr.out
      clear H1 T1 B1 z0 c0 c1 c2 c3 z1 t0 t1 HAP BP
      obtain ⟨z1, t0, t1⟩ := T3.out
      obtain ⟨z0, ⟨c0, c1, c2, c3⟩, f0, f1, f2, f3⟩ := H3.out
      obtain ⟨zy, y0⟩ := Y3.out
      by_cases hbig : 1000 < (resA ns z es).length
      · have hbigI : (1000 : Int) < ((resA ns z es).length : Int) := by omega
        go_wp2
        go_ret
        exact .inr (.inl ⟨by omega, hbig, rfl, B3w.out⟩)
      · have hbigI : ¬ (1000 : Int) < ((resA ns z es).length : Int) := by omega
        go_wp2_with fail
        have hyb : By ≠ Br := by have := N3.out; omega
        have hyb2 : Br ≠ By := fun e => hyb e.symm
        have hwb : w.heap.size ≠ Br := by omega
        have hwb2 : Br ≠ w.heap.size := by omega
        have NE : Hid (Value.ownBlock (.slice ra (resA ns z es).length rc) ≠ some Br) := fun e => by have h1 : w1.heap.size ≤ Br := (World.ownsRow.lt O3.out _ e).1; omega
        have FX : Hid (B4F (((w3.setCell ⟨Br, 0, none⟩ (.slice ra (resA ns z es).length rc)).setCell ⟨Br, 1, none⟩ (.int .i64 z))) Br (.slice ra (resA ns z es).length rc) (.int .i64 z) (.int .i64 (k : Int)) (.int .i64 en)) := (H3.out.set0 _).set1 _
        have FO : Hid (OwnN 84 (((w3.setCell ⟨Br, 0, none⟩ (.slice ra (resA ns z es).length rc)).setCell ⟨Br, 1, none⟩ (.int .i64 z))) w.heap.size (.slice ra (resA ns z es).length rc) (resA ns z es)) := ((O3.out.setO NE.out _).setO NE.out _).mono s1w
        have FG : Hid (w.grownBy (((w3.setCell ⟨Br, 0, none⟩ (.slice ra (resA ns z es).length rc)).setCell ⟨Br, 1, none⟩ (.int .i64 z))) (some Br)) := grownBy_set _ _ _ _ _ (grownBy_set _ _ _ _ _ ⟨B3w.out.os, B3w.out.tape, B3w.out.output, B3w.out.size, fun q hq _ => B3w.out.block q hq⟩)
        clear H3 T3 O3 B3 B3w NE
        go_region_law (fail)
        all_goals
          generalize ((w3.setCell ⟨Br, 0, none⟩ (.slice ra (resA ns z es).length rc)).setCell ⟨Br, 1, none⟩ (.int .i64 z)) = w9 at *
          go_wp2
          go_ret
          exact .inr (.inr ⟨by omega, hbig, rfl, _, FX.out.below (below_drewN' w9 1), FO.out.below (below_drewN' w9 1), ⟨FG.out.os, FG.out.tape, FG.out.output, FG.out.size, FG.out.block⟩⟩)

end Go.Proofs.YtcopcegamadkgaaDoor

namespace Go.Proofs.YtcopcegamadkgaaDoor
open Go.RowKit Go.Shelf

set_option maxHeartbeats 1000000 in
set_option maxRecDepth 100000 in
theorem cloneN_any (w : World) (ao : Option Addr) (cap : Nat) (ns : List Nd) (h : RdN w (.slice ao ns.length cap) ns) (hn : ns.length ≤ 1000) :
    Calls Tryd.prog 73 #[.slice ao ns.length cap] w fun e w' => ∃ v', e = .returned v' ∧ OwnN 84 w' w.heap.size v' ns ∧ Below w.heap.size w w' := by
  obtain ⟨i0, hi, hz0, hz1, hz2⟩ := info_parts Tryd.infoN
  have q22 : ∀ (w : World) (a : Option Addr) (n c n' c' : Nat), (binOp .eql 34 (.slice a n c) (.slice none n' c')).run Tryd.prog w = .ok (.bool a.isNone) w := fun w a n c n' c' => Lib.run_eql_slice_nil w _ _ a n c n' c' Tryd.underlying34
  have HE : Hid ((w.alloc (.cells #[] 84)).ownsRow w.heap.size 84 7 (.slice (some ⟨w.heap.size, 0, none⟩) 0 0) 0 []) := World.ownsRow_lit w #[] 0 (Nat.le_refl _) (Nat.zero_le _) rfl
  have HB : Hid (Below w.heap.size w (w.alloc (.cells #[] 84))) := (Below.refl _ _).alloc (Nat.le_refl _) _
  have HR : Hid (RdN w (.slice ao ns.length cap) ns) := h
  cases ao with
  | none =>
    have hx : ns = [] := by
      obtain ⟨a', c', e, -, -, h3⟩ := h
      simp only [Value.slice.injEq] at e
      rcases h3 with h3 | ⟨b, o, e2, _⟩
      · exact h3
      · rw [← e.1] at e2; cases e2
    subst hx
    clear h HR
    go_enter Tryd.func73, Tryd.ntmps73
    go_wp2
    go_ret
    exact ⟨_, rfl, World.ownsRow_nil _ _ _ _, Below.refl _ _⟩
  | some a =>
    have HCS : Hid (∀ j u, (nrow ns)[j]? = some u → (w.alloc (.cells #[] 84)).cell? (a.add j) = some u) := fun j u hu => (HR.out.below HB.out).rowCells a rfl j u hu
    clear h
    generalize hl : ns.length = m at *
    have HL : Hid (ns.length = m) := hl
    clear hl
    go_enter Tryd.func73, Tryd.ntmps73
    go_wp2_with (at_builtin; go_must (refine wpList_append_own _ rfl _ _ 34 rfl w.heap.size 84 i0 _ 7 72 Tryd.underlying34 hi hz0 hz1 hz2 rfl (by decide) _ _ _ rfl HE.out a m cap (nrow ns) rfl ?c0 HCS.out (ndL_ones _) ?c3 ?c4 ?c5 ?_))
    case c0 => rw [nrow_length, HL.out]
    case c3 => unfold maxLen; omega
    case c4 => omega
    case c5 => simp
    intro v2 w2 ho2 hg2 _
    have HO2 : Hid (OwnN 84 w2 w.heap.size v2 ns) := by
      show World.ownsRow _ _ _ _ _ _ _
      rw [HL.out]
      exact ho2
    have HG2 : Hid (Below w.heap.size w w2) := HB.out.grown hg2 (by simp) (by intro q hq; simp [Value.ownBlock] at hq; omega)
    clear ho2 hg2
    go_wp2
    go_ret
    exact ⟨_, rfl, HO2.out, HG2.out⟩

end Go.Proofs.YtcopcegamadkgaaDoor

namespace Go.Proofs.YtcopcegamadkgaaDoor
open Go.RowKit Go.Shelf

attribute [local go_sem] Oper.semAt_some

set_option maxHeartbeats 2000000 in
set_option maxRecDepth 100000 in
theorem frames1_br (nn : Nat) (hn1 : 1 ≤ nn) (l Ba : Nat) (blk o n cap : Nat) (a : List Int) (hl : a.length = n) (hby : Byt a) (hn : n ≤ 8192)
    (St : List Value → World → Prop) (Bk StX BkX : World → Prop)
    (hSB : ∀ s X Y, Below X.heap.size X Y → St s X → St s Y) (hBB : ∀ X Y, Below X.heap.size X Y → Bk X → Bk Y)
    (hSR : ∀ s W, St s W → W.cell? ⟨Ba, 0, none⟩ = some (.slice (some ⟨blk, o, none⟩) n cap) ∧ Rd .u8 W (.slice (some ⟨blk, o, none⟩) n cap) a)
    (hY : ∀ s vs W, St s W → Bk W → PreS (scn n a) St s vs W → YieldAt Fence.wide (nn - 1) Tryd.prog l vs W fun e W' => (e = .returned (.bool true) ∧ St (s ++ [uOf vs]) W' ∧ Bk W') ∨ (e = .returned (.bool false) ∧ StX W' ∧ BkX W'))
    (W : World) (h0 : St [] W) (h1 : Bk W) :
    CallsIn Fence.wide nn Tryd.prog 112 #[.func (.yield l) #[] #[], .pointer (some ⟨Ba, 0, none⟩)] W fun e W' => (∃ v, e = .returned v) ∧ ((∃ s, s.length = (scn n a).length ∧ St s W' ∧ Bk W') ∨ (StX W' ∧ BkX W')) := by
  have HY : Hid (∀ s vs W, St s W → Bk W → PreS (scn n a) St s vs W → YieldAt Fence.wide (nn - 1) Tryd.prog l vs W fun e W' => (e = .returned (.bool true) ∧ St (s ++ [uOf vs]) W' ∧ Bk W') ∨ (e = .returned (.bool false) ∧ StX W' ∧ BkX W')) := hY
  have HSB : Hid (∀ s X Y, Below X.heap.size X Y → St s X → St s Y) := hSB
  have HBB : Hid (∀ X Y, Below X.heap.size X Y → Bk X → Bk Y) := hBB
  have HSR : Hid (∀ s W, St s W → W.cell? ⟨Ba, 0, none⟩ = some (.slice (some ⟨blk, o, none⟩) n cap) ∧ Rd .u8 W (.slice (some ⟨blk, o, none⟩) n cap) a) := hSR
  have H0 : Hid (St [] W) := h0
  have H1 : Hid (Bk W) := h1
  have HL : Hid (a.length = n) := hl
  have HBY : Hid (Byt a) := hby
  have HALL : Hid _ := scn_all n a (by omega)
  clear hY hSB hBB hSR h0 h1 hl hby
  obtain ⟨c0, r0⟩ := HSR.out [] W H0.out
  have hcn : n ≤ cap ∧ cap ≤ maxLen := by
    obtain ⟨_, _, e1, hc1, hc2⟩ := r0.len
    simp only [Value.slice.injEq] at e1; have := HL.out; omega
  clear c0 r0
  obtain ⟨hcn1, hcn2⟩ := hcn
  have HCM : Hid (cap ≤ maxLen) := hcn2
  unfold maxLen at hcn2
  generalize scn n a = R at *
  refine callsIn_of_wp Tryd.func112 rfl trivial ?_ rfl
  simp only [Tryd.ntmps112, List.size_toArray, List.length_cons, List.length_nil, Nat.reduceAdd, Nat.reduceSub, Array.replicate_succ, Array.replicate_zero, List.push_toArray, List.append_toArray, List.nil_append, List.cons_append]
  gi_wp2
  gi_loopw [3] (fun i wr => ∃ s : List Value, ∃ p : Nat, s.length ≤ R.length ∧ Hid (pos R s.length = p) ∧ p ≤ n ∧ i = .int .i64 p ∧ Hid (St s wr) ∧ Hid (Bk wr)) (fun i _ => n - (intOf i).toNat)
  case atStart => exact ⟨[], 0, Nat.zero_le _, pos_zero _, Nat.zero_le _, rfl, H0.out, H1.out⟩
  case round =>
    obtain ⟨s, p, hs, HP, hp, rfl, HS, HB⟩ := hrel
    obtain ⟨cB, rA⟩ := HSR.out s wr HS.out
    have RA : Hid (Rd .u8 wr (.slice (some ⟨blk, o, none⟩) n cap) a) := rA
    clear rA
    by_cases hcp : cap = p
    · have RS : Hid (Rd .u8 wr (.slice (some ⟨blk, o, none⟩) (n - p) 0) (a.drop p)) := by
        have e1 : n - p = 0 := by omega
        have e2 : a.drop p = [] := List.eq_nil_of_length_eq_zero (by rw [List.length_drop, HL.out]; exact e1)
        rw [e1, e2]; exact rd_empty _ _ _ (Nat.zero_le _)
      gi_wp2_with fail
      refine ⟨trivial, ?_⟩
      refine (callsIn_wide.2 (recordAt_any wr (some ⟨blk, o, none⟩) (n - p) 0 (a.drop p) RS.out (by rw [List.length_drop, HL.out]) (fun x hx => HBY.out x (List.mem_of_mem_drop hx)) (by omega))).mono ?_
      rintro e w2 ⟨⟨u, sz, rfl, hc⟩, b2⟩
      have HS2 : Hid (St s w2) := HSB.out s wr w2 b2 HS.out
      have HB2 : Hid (Bk w2) := HBB.out wr w2 b2 HB.out
      by_cases hlt : s.length < R.length
      · rcases hc with ⟨hf, -, -⟩ | ⟨hf, hsz, o2⟩
        · have := (HALL.out.1 s.length hlt).1; rw [HP.out, hf] at this; cases this
        · subst hsz
          have hget := (HALL.out.1 s.length hlt).2
          have hps := pos_succ R s.length hlt
          have hle := HALL.out.2.2 (s.length + 1) hlt
          rw [HP.out] at hget hps
          rw [hget] at hps
          rw [HL.out] at hle
          rw [hps] at hle
          omega
      · rcases hc with ⟨hf, rfl, rfl⟩ | ⟨hf, -, -⟩
        · have hsl : Hid (s.length = R.length) := by show _ = _; omega
          gi_wp2
          refine bodyPost_ret (results_none rfl _ _ _) rfl ?_
          exact ⟨⟨_, rfl⟩, .inl ⟨s, hsl.out, HSB.out s _ _ ((Below.refl _ _).alloc (Nat.le_refl _) _) HS2.out, HBB.out _ _ ((Below.refl _ _).alloc (Nat.le_refl _) _) HB2.out⟩⟩
        · have h9 := HALL.out.2.1
          have e9 : s.length = R.length := by omega
          rw [← e9, HP.out, hf] at h9; cases h9
    · have RS : Hid (Rd .u8 wr (.slice (some ⟨blk, o + p, none⟩) (n - p) (cap - p)) (a.drop p)) := rd_cutN RA.out HL.out blk o rfl p hp
      gi_wp2_with fail
      refine ⟨trivial, ?_⟩
      refine (callsIn_wide.2 (recordAt_any wr (some ⟨blk, o + p, none⟩) (n - p) (cap - p) (a.drop p) RS.out (by rw [List.length_drop, HL.out]) (fun x hx => HBY.out x (List.mem_of_mem_drop hx)) (by omega))).mono ?_
      rintro e w2 ⟨⟨u, sz, rfl, hc⟩, b2⟩
      have HS2 : Hid (St s w2) := HSB.out s wr w2 b2 HS.out
      have HB2 : Hid (Bk w2) := HBB.out wr w2 b2 HB.out
      by_cases hlt : s.length < R.length
      · rcases hc with ⟨hf, -, -⟩ | ⟨hf, hsz, o2⟩
        · have := (HALL.out.1 s.length hlt).1; rw [HP.out, hf] at this; cases this
        · subst hsz
          have hget := (HALL.out.1 s.length hlt).2
          have hps := pos_succ R s.length hlt
          have hle := HALL.out.2.2 (s.length + 1) hlt
          rw [HP.out] at hget hps
          rw [hget] at hps
          rw [HL.out] at hle
          have hP2 : Hid (pos R (s.length + 1) = p + (2 + frm_m (a.drop p))) := hps
          have hle2 : p + (2 + frm_m (a.drop p)) ≤ n := by rw [hps] at hle; exact hle
          obtain ⟨ua, uc, rfl⟩ := Own.slice o2
          have hul : (frm_p (a.drop p)).length ≤ maxLen := by obtain ⟨_, _, e, h1, h2⟩ := o2.rd.len; simp only [Value.slice.injEq] at e; omega
          unfold maxLen at hul
          have BA : Below w2.heap.size w2 (w2.alloc (.cells #[.slice ua (frm_p (a.drop p)).length uc] 111)) := (Below.refl _ _).alloc (Nat.le_refl _) _
          have hpre : PreS R St s #[.int .i64 (((p : Nat) : Int) + ((2 + frm_m (a.drop p) : Nat) : Int)), .agg #[.slice ua (frm_p (a.drop p)).length uc]] (w2.alloc (.cells #[.slice ua (frm_p (a.drop p)).length uc] 111)) := ⟨_, wr, by rw [hP2.out, Int.natCast_add p], hlt, HS.out, b2.trans (BA.mono b2.size), by rw [hget]; exact o2.below BA⟩
          have hYx := HY.out s _ _ (HSB.out s _ _ BA HS2.out) (HBB.out _ _ BA HB2.out) hpre
          clear hpre hget hps hle hf o2 b2 cB HS HB BA HS2 HB2
          have hszI : ¬ (((2 + frm_m (a.drop p) : Nat) : Int) = 0) := by omega
          generalize (frm_p (a.drop p)).length = ul at *
          generalize 2 + frm_m (a.drop p) = sz at *
          have hszb : ((sz : Int) == 0) = false := by simpa using hszI
          obtain ⟨fn, tmps, assign, body, hy, hR⟩ := hYx
          gi_wp2
          refine hR.mono ?_
          rintro e W3 (⟨rfl, hS3, hB3⟩ | ⟨rfl, hS3, hB3⟩)
          rotate_left
          · have HX3 : Hid (StX W3 ∧ BkX W3) := ⟨hS3, hB3⟩
            clear hS3 hB3 hy hR
            gi_wp2
            refine bodyPost_ret (results_none rfl _ _ _) rfl ?_
            exact ⟨⟨_, rfl⟩, .inr HX3.out⟩
          have HS3 : Hid (St (s ++ [.slice ua ul uc]) W3) := hS3
          have HB3 : Hid (Bk W3) := hB3
          clear hS3 hB3 hy hR
          gi_wp2
          go_roundw
          case rel => exact ⟨s ++ [.slice ua ul uc], p + sz, by rw [List.length_append]; exact hlt, by rw [List.length_append]; exact hP2.out, hle2, by go_num, HS3, HB3⟩
          case measure => simp [intOf]; omega
      · rcases hc with ⟨hf, rfl, rfl⟩ | ⟨hf, -, -⟩
        · have hsl : Hid (s.length = R.length) := by show _ = _; omega
          gi_wp2
          refine bodyPost_ret (results_none rfl _ _ _) rfl ?_
          exact ⟨⟨_, rfl⟩, .inl ⟨s, hsl.out, HSB.out s _ _ ((Below.refl _ _).alloc (Nat.le_refl _) _) HS2.out, HBB.out _ _ ((Below.refl _ _).alloc (Nat.le_refl _) _) HB2.out⟩⟩
        · have h9 := HALL.out.2.1
          have e9 : s.length = R.length := by omega
          rw [← e9, HP.out, hf] at h9; cases h9

set_option maxHeartbeats 1000000 in
set_option maxRecDepth 100000 in
theorem frames1_brnil (nn : Nat) (hn1 : 1 ≤ nn) (l Ba : Nat) (St : List Value → World → Prop) (Bk StX BkX : World → Prop)
    (hSB : ∀ s X Y, Below X.heap.size X Y → St s X → St s Y) (hBB : ∀ X Y, Below X.heap.size X Y → Bk X → Bk Y)
    (hSR : ∀ s W, St s W → W.cell? ⟨Ba, 0, none⟩ = some (.slice none 0 0))
    (W : World) (h0 : St [] W) (h1 : Bk W) :
    CallsIn Fence.wide nn Tryd.prog 112 #[.func (.yield l) #[] #[], .pointer (some ⟨Ba, 0, none⟩)] W fun e W' => (∃ v, e = .returned v) ∧ ((∃ s, s.length = (scn 0 []).length ∧ St s W' ∧ Bk W') ∨ (StX W' ∧ BkX W')) := by
  have HSB : Hid (∀ s X Y, Below X.heap.size X Y → St s X → St s Y) := hSB
  have HBB : Hid (∀ X Y, Below X.heap.size X Y → Bk X → Bk Y) := hBB
  have HSR : Hid (∀ s W, St s W → W.cell? ⟨Ba, 0, none⟩ = some (.slice none 0 0)) := hSR
  have H0 : Hid (St [] W) := h0
  have H1 : Hid (Bk W) := h1
  clear hSB hBB hSR h0 h1
  refine callsIn_of_wp Tryd.func112 rfl trivial ?_ rfl
  simp only [Tryd.ntmps112, List.size_toArray, List.length_cons, List.length_nil, Nat.reduceAdd, Nat.reduceSub, Array.replicate_succ, Array.replicate_zero, List.push_toArray, List.append_toArray, List.nil_append, List.cons_append]
  gi_wp2
  gi_loopw [3] (fun i wr => i = .int .i64 0 ∧ Hid (St [] wr) ∧ Hid (Bk wr)) (fun _ _ => 0)
  case atStart => exact ⟨rfl, H0.out, H1.out⟩
  case round =>
    obtain ⟨rfl, HS, HB⟩ := hrel
    have cB := HSR.out [] wr HS.out
    gi_wp2_with fail
    refine ⟨trivial, ?_⟩
    refine (callsIn_wide.2 (recordAt_any wr none 0 0 [] (rd_empty _ _ _ (Nat.zero_le _)) rfl (fun x hx => by cases hx) (by omega))).mono ?_
    rintro e w2 ⟨⟨u, sz, rfl, hc⟩, b2⟩
    have HS2 : Hid (St [] w2) := HSB.out [] wr w2 b2 HS.out
    have HB2 : Hid (Bk w2) := HBB.out wr w2 b2 HB.out
    rcases hc with ⟨hf, rfl, rfl⟩ | ⟨hf, -, -⟩
    · clear hf
      gi_wp2
      refine bodyPost_ret (results_none rfl _ _ _) rfl ?_
      exact ⟨⟨_, rfl⟩, .inl ⟨[], rfl, HSB.out [] _ _ ((Below.refl _ _).alloc (Nat.le_refl _) _) HS2.out, HBB.out _ _ ((Below.refl _ _).alloc (Nat.le_refl _) _) HB2.out⟩⟩
    · have := ((frmB_iff []).1 hf).1
      simp at this

end Go.Proofs.YtcopcegamadkgaaDoor

namespace Go.Proofs.YtcopcegamadkgaaDoor
open Go.RowKit Go.Shelf

/-- The same, where the body may leave by a break of block L (StX: what it has left then). -/
theorem range_breaks {L : Nat} {F : Fence} {n : Nat} {P : Program} {β : Type} {g : Operand} {ps : Array Tmp} {assign body : Code} {Q : Exit → Act → World → Prop} {a : Act} {w : World}
    (hro : F.round = none) (h1 : 1 ≤ n) {gf : Nat} {lb : Array Value} (hg : a.eval g = .func (.func gf) #[] lb) (hFg : F.fn gf) (eg : ∀ args w, (callFunc gf args).run P w = .ok (.enter gf args) w)
    (St : β → World → Prop) (Pre : β → Array Value → World → Prop) (step : β → Array Value → β) (Kp : World → World → Prop) (Fin : β → Prop) (StX : World → Prop) (hStX : OwnFrom w.heap.size (fun (_ : Unit) W => StX W)) (s0 : β)
    (hSt : OwnFrom w.heap.size St) (hKt : ∀ {A B C : World}, Kp A B → Kp B C → Kp A C)
    (hKb : ∀ (W : World) (l : Nat) (o o' : Obj), w.heap.size ≤ l → W.heap[l]? = some o → o.isCells = false → o.isWalk = false → Kp W (W.putObj l o'))
    (hps : ∀ s vs W, Pre s vs W → vs.size = ps.size) (h0 : St s0 w)
    (Ax : β → Array Value → Act → World → Prop) (hAx : ∀ s vs a', OwnFrom w.heap.size (fun (_ : Unit) W => Ax s vs a' W))
    (hassign : ∀ (l : Nat) (s : β) (vs : Array Value) (W : World) (K : Act → World → Prop), St s W → Pre s vs W → (∀ a' W', KeepsFrom w.heap.size W W' → Kp W W' → Ax s vs a' W' → K a' W') →
      assign.wpIn (F.inRound l) (n - 1 - 1) P (Exit.then K (fun _ _ _ => False)) { tmps := (ps.zip vs).foldl (fun t (p, v) => t.setIfInBounds p v) a.tmps, defers := [] } W)
    (hbody : ∀ (l : Nat) (s : β) (vs : Array Value) (a' : Act) (W : World), Ax s vs a' W → body.wpIn (F.inRound l) (n - 1 - 1) P (fun e _ W' => (e = .normal ∧ KeepsFrom w.heap.size W W' ∧ Kp W W' ∧ St (step s vs) W') ∨ (e = .exit L ∧ KeepsFrom w.heap.size W W' ∧ StX W')) a' W)
    (hcall : ∀ (Bk BkX : World → Prop) (W1 : World), (∀ X Y, KeepsFrom w.heap.size X Y → Bk X → Bk Y) → (∀ X Y, KeepsFrom w.heap.size X Y → BkX X → BkX Y) →
      (∀ s vs W, St s W → Bk W → Pre s vs W → YieldAt F (n - 1 - 1) P (w.heap.size + 1) vs W fun e W' => (e = .returned (.bool true) ∧ St (step s vs) W' ∧ Bk W' ∧ Kp W W') ∨ (e = .returned (.bool false) ∧ StX W' ∧ BkX W')) →
      Below w.heap.size w W1 → w.heap.size + 2 ≤ W1.heap.size → St s0 W1 → Bk W1 →
      CallsIn F (n - 1) P gf (#[.func (.yield (w.heap.size + 1)) #[] #[]] ++ lb) W1 fun e W' => (∃ v, e = .returned v) ∧ ((∃ s, Fin s ∧ St s W' ∧ Bk W') ∨ (StX W' ∧ BkX W')))
    (hdone : ∀ (D : Nat) (s : β) (W : World), w.heap.size ≤ D → Fin s → St s W → W.heap[D]? = some (.deferred (some [])) → Q .normal { a with defers := { target := .collected D, args := #[] } :: a.defers } W)
    (hstop : ∀ (D : Nat) (W : World), w.heap.size ≤ D → StX W → W.heap[D]? = some (.deferred (some [])) → (Code.exit L).wpIn F n P Q { a with defers := { target := .collected D, args := #[] } :: a.defers } W) :
    (Code.rangeFunc g ps assign body).wpIn F n P Q a w := by
  refine wpIn_rangeFunc ?_
  intro fn hfn
  rw [hro]
  obtain ⟨r0, hr0⟩ : ∃ r : Loop, r = { state := .ready, pending := none, fn, tmps := a.tmps, params := ps, assign, body, defers := w.heap.size } := ⟨_, rfl⟩
  have hst : r0.state = .ready := by rw [hr0]
  have hpe : r0.pending = none := by rw [hr0]
  have hgrow : Below w.heap.size w ((w.alloc (.deferred (some []))).alloc (.loop r0)) := ((Below.refl _ w).alloc (Nat.le_refl _) _).alloc (by simp) _
  have hbook : Book r0 w.heap.size ((w.alloc (.deferred (some []))).alloc (.loop r0)) := by
    constructor
    · have := heap_alloc_new (w.alloc (.deferred (some []))) (.loop r0)
      rwa [World.size_alloc] at this
    · exact (Below.heap_alloc _ _ _ (by simp)).trans (heap_alloc_new w _)
  have hst1 : St s0 ((w.alloc (.deferred (some []))).alloc (.loop r0)) := hSt.alloc _ (hSt.alloc _ h0)
  have hsz : w.heap.size + 2 ≤ ((w.alloc (.deferred (some []))).alloc (.loop r0)).heap.size := by simp
  have henter : (Instr.enterLoop fn a.tmps ps assign body none).run P w = .ok (w.heap.size + 1, [{ target := .collected w.heap.size, args := #[] }]) ((w.alloc (.deferred (some []))).alloc (.loop r0)) := by
    rw [hr0]; exact run_enterLoop_outer _ _ _ _ _
  generalize (w.alloc (.deferred (some []))).alloc (.loop r0) = W1 at *
  refine ⟨_, _, W1, { target := .fn (.func gf) lb, args := #[.func (.yield (w.heap.size + 1)) #[] #[]] }, W1, gf, #[.func (.yield (w.heap.size + 1)) #[] #[]] ++ lb, W1, henter, ?_, ?_, ?_, fun _ => h1, ?_⟩
  · simp only [resolve, hg]
    simp [go_sem]
  · intro f' hf'
    simp [Target.leads] at hf'
    subst hf'
    exact hFg
  · simp [invoke, go_sem, eg]
  refine (hcall (Book r0 w.heap.size) (Book { r0 with state := .done, pending := some (.exit L) } w.heap.size) W1 (fun X Y hk hb => hb.keep hk) (fun X Y hk hb => hb.keep hk) ?_ hgrow hsz hst1 hbook).mono ?_
  · intro s vs W hs hb hp
    have hy := run_yield (P := P) (args := vs) hb.1 (by rw [hr0]; exact hps s vs W hp)
    rw [hr0] at hy
    refine ⟨fn, _, assign, body, hy, roundIn_of_wpIn hfn (hassign _ s vs W _ hs hp ?_)⟩
    clear hy
    intro a' Wa hka hkp hax
    have hba := hb.keep hka
    have hlt : w.heap.size + 1 < Wa.heap.size := (Array.getElem?_eq_some_iff.1 hba.1).1
    refine ⟨_, run_beginRound hba.1 hst, ?_⟩
    have hl2 : (Wa.putObj (w.heap.size + 1) (.loop { r0 with state := .busy })).heap[w.heap.size + 1]? = some (.loop { r0 with state := .busy }) := World.putObj_heap_same hlt
    have hk2 : (Wa.putObj (w.heap.size + 1) (.loop { r0 with state := .busy })).heap[w.heap.size]? = some (.deferred (some [])) := (World.putObj_heap_other (by omega)).trans hba.2
    have hkb : Kp Wa (Wa.putObj (w.heap.size + 1) (.loop { r0 with state := .busy })) := hKb _ _ _ _ (by omega) hba.1 rfl rfl
    refine wpIn_mono (hbody _ s vs a' _ ((hAx s vs a').putObj (s := ()) _ hax (by omega) hba.1 rfl)) ?_
    rintro e a3 W3 (⟨rfl, hk3, hp3, hs3⟩ | ⟨rfl, hk3, hs3⟩)
    · have hl3 := hk3.same _ _ (by omega) hl2 rfl
      have hd3 := hk3.same _ _ (Nat.le_refl _) hk2 rfl
      have hend := run_endRound (P := P) none hl3
      have hr1 : ({ { r0 with state := .busy } with state := if (none : Option Code).isNone then .ready else .done, pending := none } : Loop) = r0 := by rw [hr0]; rfl
      rw [hr1] at hend
      exact ⟨_, _, hend, .inl ⟨rfl, hSt.putObj _ hs3 (by omega) hl3 rfl, ⟨World.putObj_heap_same (Array.getElem?_eq_some_iff.1 hl3).1, (World.putObj_heap_other (by omega)).trans hd3⟩, hKt hkp (hKt (hKt hkb hp3) (hKb _ _ _ _ (by omega) hl3 rfl rfl))⟩⟩
    · have hl3 := hk3.same _ _ (by omega) hl2 rfl
      have hd3 := hk3.same _ _ (Nat.le_refl _) hk2 rfl
      have hend := run_endRound (P := P) (some (.exit L)) hl3
      have hr1 : ({ { r0 with state := .busy } with state := if (some (Code.exit L) : Option Code).isNone then .ready else .done, pending := some (.exit L) } : Loop) = { r0 with state := .done, pending := some (.exit L) } := by rw [hr0]; rfl
      rw [hr1] at hend
      exact ⟨_, _, hend, .inr ⟨rfl, hStX.putObj (s := ()) _ hs3 (by omega) hl3 rfl, ⟨World.putObj_heap_same (Array.getElem?_eq_some_iff.1 hl3).1, (World.putObj_heap_other (by omega)).trans hd3⟩⟩⟩
  · rintro e W2 ⟨⟨v, rfl⟩, (⟨s, hF, hs, hb⟩ | ⟨hs, hb⟩)⟩
    · have hend := run_endLoop (P := P) hb.1 (by rw [hst]; simp)
      rw [hpe] at hend
      exact ⟨none, _, hend, hdone _ s _ (Nat.le_refl _) hF (hSt.putObj _ hs (by omega) hb.1 rfl) ((World.putObj_heap_other (by omega)).trans hb.2)⟩
    · have hend := run_endLoop (P := P) hb.1 (by simp)
      exact ⟨some (.exit L), _, hend, hstop _ _ (Nat.le_refl _) (hStX.putObj (s := ()) _ hs (by omega) hb.1 rfl) ((World.putObj_heap_other (by omega)).trans hb.2)⟩

end Go.Proofs.YtcopcegamadkgaaDoor

namespace Go.Proofs.YtcopcegamadkgaaDoor
open Go.RowKit

set_option maxHeartbeats 400000 in
theorem implStat_any (w : World) (s : Int) :
    Calls Tryd.prog 72 #[.int .i64 s] w fun e w' => e = .returned (.bool (decide (0 ≤ s ∧ s ≤ 2147483647))) ∧ w' = w := by
  by_cases h1 : 0 ≤ s
  · by_cases h2 : s ≤ 2147483647
    · go_enter Tryd.func72, Tryd.ntmps72
      go_wp2
      go_ret
      exact ⟨ret_bool (by simp; omega), rfl⟩
    · go_enter Tryd.func72, Tryd.ntmps72
      go_wp2
      go_ret
      exact ⟨ret_bool (by simp; omega), rfl⟩
  · go_enter Tryd.func72, Tryd.ntmps72
    go_wp2
    go_ret
    exact ⟨ret_bool (by simp; omega), rfl⟩

/-- A local superblock: five cells. -/
def Bx5 (w : World) (k : Nat) (g b s l c : Int) : Prop :=
  k < w.heap.size ∧ w.cell? ⟨k, 0, none⟩ = some (.int .i64 g) ∧ w.cell? ⟨k, 1, none⟩ = some (.int .i64 b) ∧ w.cell? ⟨k, 2, none⟩ = some (.int .i64 s) ∧ w.cell? ⟨k, 3, none⟩ = some (.int .i64 l) ∧ w.cell? ⟨k, 4, none⟩ = some (.int .i64 c)
theorem Bx5.new (w : World) (g b s l c : Int) (t : TypeId) : Bx5 (w.alloc (.cells #[.int .i64 g, .int .i64 b, .int .i64 s, .int .i64 l, .int .i64 c] t)) w.heap.size g b s l c :=
  ⟨by simp, (by go_simp), (by go_simp), (by go_simp), (by go_simp), (by go_simp)⟩
theorem Bx5.below {w w' : World} {k B : Nat} {g b s l c : Int} (h : Bx5 w k g b s l c) (hb : Below B w w') (hk : k < B) : Bx5 w' k g b s l c := by
  obtain ⟨h0, h1, h2, h3, h4, h5⟩ := h
  exact ⟨Nat.lt_of_lt_of_le h0 hb.size, (hb.cell (p := ⟨k, 0, none⟩) hk).trans h1, (hb.cell (p := ⟨k, 1, none⟩) hk).trans h2, (hb.cell (p := ⟨k, 2, none⟩) hk).trans h3, (hb.cell (p := ⟨k, 3, none⟩) hk).trans h4, (hb.cell (p := ⟨k, 4, none⟩) hk).trans h5⟩

end Go.Proofs.YtcopcegamadkgaaDoor

