import Derived.Test.YtcopcegamadkgaaDoorJ09
import Derived.Test.YtcopcegamadkgaaDoorCards
import Derived.Test.YtcopcegamadkgaaDoorTie
import Derived.Deep.DeepHandedRow
import Derived.Lib.LaidIn
import Derived.ShutString
import Derived.ChangeOld
import Derived.ChangeMaps5
import Derived.Lib.LaidTab
import Derived.Test.YtcopcegamadkgaaDoorJ01
namespace Go.Proofs.YtcopcegamadkgaaDoor
open Go.RowKit Go.Shelf

theorem lawImages_big (w : World) (va : Option Addr) (n vc : Nat) (hb : 1048576 < n) :
    Calls Tryd.prog 4 #[.slice va n vc] w fun e w' => e = .returned (.bool true) ∧ Below w.heap.size w w' := by
  have hbI : (1048576 : Int) < (n : Int) := by omega
  go_enter Tryd.func4, Tryd.ntmps4
  go_wp2
  go_ret
  exact ⟨rfl, Below.refl _ _⟩

set_option maxHeartbeats 8000000 in
set_option maxRecDepth 100000 in
theorem lawImages_walk (w : World) (v : Value) (xs : List Int) (h : Rd .u8 w v xs) (hby : Byt xs) (hT : TabC w) (h0 : 0 < w.heap.size) :
    Calls Tryd.prog 4 #[v] w fun e w' => e = .returned (.bool true) ∧ Below w.heap.size w w' := by
  obtain ⟨va, vc, rfl, -⟩ := h.len
  by_cases hb : 1048576 < xs.length
  · exact lawImages_big w va _ vc hb
  have hbI : ¬ (1048576 : Int) < (xs.length : Int) := by omega
  have hbN : xs.length ≤ 1048576 := by omega
  have HR : Hid (Rd .u8 w (.slice va xs.length vc) xs) := h
  have HBY : Hid (Byt xs) := hby
  have HT : Hid (TabC w ∧ 0 < w.heap.size) := ⟨hT, h0⟩
  obtain ⟨hz, hl⟩ := tree_sz9 (srcOf xs) (Nat.min_le_left _ _)
  have HD : Hid (∀ W, Below w.heap.size w W → Calls Tryd.prog 12 #[.slice va xs.length vc] W fun e w' => ∃ u, e = .returned (.agg #[u]) ∧ RdN w' u (srcOf xs).tree.1 ∧ Below W.heap.size W w') := fun W hW => drawEncT_x W _ xs (HR.out.below hW) HBY.out hbN
  generalize (srcOf xs).tree.1 = ns at *
  have HSZ : Hid (∀ i, (nAt ns i).path.size ≤ 1048576 ∧ (nAt ns i).data.size ≤ 1048576) := hz.at
  clear h hby hT h0 hz hb
  go_enter Tryd.func4, Tryd.ntmps4
  go_wp2_with fail
  refine (HD.out w (Below.refl _ _)).mono ?_
  rintro e w1 ⟨u1, rfl, r1, b1⟩
  obtain ⟨ua, uc, rfl, _, _⟩ := r1.len
  have bA : Below w1.heap.size w1 (w1.alloc (.cells #[.slice ua ns.length uc] 36)) := (Below.refl _ _).alloc (Nat.le_refl _) _
  have B2 : Hid (Below w.heap.size w (w1.alloc (.cells #[.slice ua ns.length uc] 36))) := b1.trans (bA.mono b1.size)
  have R2 : Hid (RdN (w1.alloc (.cells #[.slice ua ns.length uc] 36)) (.slice ua ns.length uc) ns) := r1.below bA
  have C2 : Hid ((w1.alloc (.cells #[.slice ua ns.length uc] 36)).cell? ⟨w1.heap.size, 0, none⟩ = some (.slice ua ns.length uc) ∧ w1.heap.size < (w1.alloc (.cells #[.slice ua ns.length uc] 36)).heap.size) := by
    constructor <;> simp
  have hw1 : w.heap.size ≤ w1.heap.size := b1.size
  clear r1 b1 bA
  go_wp2_with fail
  generalize w1.alloc (.cells #[.slice ua ns.length uc] 36) = w2 at *
  generalize w1.heap.size = TB at *
  refine (HD.out w2 B2.out).mono ?_
  rintro e w3 ⟨u3, rfl, r3, b3⟩
  obtain ⟨ub, ud, rfl, _, _⟩ := r3.len
  have B3 : Hid (Below w.heap.size w w3) := B2.out.trans (b3.mono B2.out.size)
  have R3 : Hid (RdN w3 (.slice ua ns.length uc) ns) := R2.out.below b3
  have C3 : Hid (w3.cell? ⟨TB, 0, none⟩ = some (.slice ua ns.length uc) ∧ TB < w3.heap.size) := ⟨(b3.cell (p := ⟨TB, 0, none⟩) C2.out.2).trans C2.out.1, Nat.lt_of_lt_of_le C2.out.2 b3.size⟩
  have Q3 : Hid (RdN w3 (.slice ub ns.length ud) ns) := r3
  clear r3 b3 B2 R2 C2 HD
  go_wp2_with fail
  refine (encTree_any w3 _ ns Q3.out HSZ.out).mono ?_
  rintro e w4 ⟨v4, rfl, o4, b4⟩
  obtain ⟨ia, ic, rfl⟩ := o4.slice
  have B4 : Hid (Below w.heap.size w w4) := B3.out.trans (b4.mono B3.out.size)
  have R4 : Hid (RdN w4 (.slice ua ns.length uc) ns) := R3.out.below b4
  have C4 : Hid (w4.cell? ⟨TB, 0, none⟩ = some (.slice ua ns.length uc) ∧ TB < w4.heap.size) := ⟨(b4.cell (p := ⟨TB, 0, none⟩) C3.out.2).trans C3.out.1, Nat.lt_of_lt_of_le C3.out.2 b4.size⟩
  have I4 : Hid (Rd .u8 w4 (.slice ia (treeB ns).length ic) (treeB ns)) := o4.rd
  have HTL : Hid ((treeB ns).length ≤ 188000) := treeB_len ns
  clear o4 b4 B3 R3 C3 Q3
  have ct := C4.out.1
  go_wp2_with fail
  clear ct
  refine (specTree_any w4 _ ns R4.out hl HSZ.out).mono ?_
  rintro e w5 ⟨rfl, b5⟩
  have B5 : Hid (Below w.heap.size w w5) := B4.out.trans (b5.mono B4.out.size)
  have R5 : Hid (RdN w5 (.slice ua ns.length uc) ns) := R4.out.below b5
  have C5 : Hid (w5.cell? ⟨TB, 0, none⟩ = some (.slice ua ns.length uc) ∧ TB < w5.heap.size) := ⟨(b5.cell (p := ⟨TB, 0, none⟩) C4.out.2).trans C4.out.1, Nat.lt_of_lt_of_le C4.out.2 b5.size⟩
  have I5 : Hid (Rd .u8 w5 (.slice ia (treeB ns).length ic) (treeB ns)) := I4.out.below b5
  clear b5 B4 R4 C4 I4
  have HBT : Hid (Byt (treeB ns)) := treeB_byt ns
  cases hok : okTree ns with
  | false =>
    have htb : (treeB ns).length = 0 := by unfold treeB; rw [hok]; rfl
    rw [htb] at I5 ⊢
    have ct := C5.out.1
    go_wp2_with fail
    clear ct
    refine (implTree_any w5 _ ns R5.out HSZ.out).mono ?_
    rintro e w6 ⟨rfl, b6⟩
    rw [hok]
    have B6 : Hid (Below w.heap.size w w6) := B5.out.trans (b6.mono B5.out.size)
    clear b6 B5 R5 C5 I5 HSZ HBT hok htb
    go_wp2_with fail
    refine (lwAt_any _ _ xs 0 64 (HR.out.below B6.out) HBY.out (by omega) (by omega) (by omega)).mono ?_
    rintro e wa ⟨rfl, qa, hwa⟩
    have la := lw_lt xs 0 64 (by omega)
    generalize lw xs 0 64 = a0 at *
    have BA : Hid (Below w.heap.size w wa) := by rw [hwa]; exact B6.out.trans ((below_drewN' w6 qa).mono B6.out.size)
    clear hwa B6
    go_wp2_with fail
    refine (lwAt_any _ _ xs 1 64 (HR.out.below BA.out) HBY.out (by omega) (by omega) (by omega)).mono ?_
    rintro e wb ⟨rfl, qb, hwb⟩
    have lb := lw_lt xs 1 64 (by omega)
    generalize lw xs 1 64 = a1 at *
    have BB : Hid (Below w.heap.size w wb) := by rw [hwb]; exact BA.out.trans ((below_drewN' wa qb).mono BA.out.size)
    clear hwb BA
    have bC : Below wb.heap.size wb (wb.alloc (.cells #[.int .i64 (1 + (a0 : Int)), .int .i64 (1 + (a1 : Int))] 29)) := (Below.refl _ _).alloc (Nat.le_refl _) _
    have BC : Hid (Below w.heap.size w (wb.alloc (.cells #[.int .i64 (1 + (a0 : Int)), .int .i64 (1 + (a1 : Int))] 29))) := BB.out.trans (bC.mono BB.out.size)
    have XC : Hid (Box2 (wb.alloc (.cells #[.int .i64 (1 + (a0 : Int)), .int .i64 (1 + (a1 : Int))] 29)) wb.heap.size (.int .i64 (1 + (a0 : Int))) (.int .i64 (1 + (a1 : Int)))) := Box2.new _ _ _ _
    have HCF : Hid (cfgOk (1 + (a0 : Int)) (1 + (a1 : Int)) = true) := (cfgOk_iff _ _).2 ⟨⟨by omega, by omega⟩, by omega, by omega⟩
    clear bC BB
    go_wp2_with fail
    generalize wb.alloc (.cells #[.int .i64 (1 + (a0 : Int)), .int .i64 (1 + (a1 : Int))] 29) = wc at *
    generalize wb.heap.size = CB at *
    have HKP : Hid (∀ W', Below wc.heap.size wc W' → W'.cell? ⟨CB, 0, none⟩ = some (.int .i64 (1 + (a0 : Int))) ∧ W'.cell? ⟨CB, 1, none⟩ = some (.int .i64 (1 + (a1 : Int)))) := fun W' hW => ⟨(XC.out.below hW).2.1, (XC.out.below hW).2.2⟩
    have hS0 := HKP.out wc.drew (below_drewN' wc 1)
    have bP : Below wc.heap.size wc wc.drew := below_drewN' wc 1
    have XLT : Hid (∀ W' : World, Below wc.heap.size wc W' → CB < W'.heap.size) := fun W' hW => (XC.out.below hW).1
    refine wp_region_held_drew (S := fun w9 => w9.cell? ⟨CB, 0, none⟩ = some (.int .i64 (1 + (a0 : Int))) ∧ w9.cell? ⟨CB, 1, none⟩ = some (.int .i64 (1 + (a1 : Int)))) (by kernel_rfl) (hS0) (fun hHeld => ?_)
    clear hS0
    generalize wc.drew = wp at *
    refine wpAnyH_take (i := 0) (oi := { dst := some 46, op := _, type := _, pos := _, after := _, guard := _ }) (v := (.agg #[.int .i64 (1 + (a0 : Int)), .int .i64 (1 + (a1 : Int))])) rfl (by kernel_rfl) (by kernel_rfl) (by kernel_rfl) (fun _ _ _ h => h) (Or.inl ⟨by rfl, ?hy1⟩) (by assumption) ?rest1
    case hy1 =>
      intro w9 hS9
      obtain ⟨hq0, hq1⟩ := hS9
      go_simp
      try with_reducible rfl
    try simp only [Act.put, List.setIfInBounds_toArray, List.set_cons_zero, List.set_cons_succ]
    refine wpAnyH_take (i := 2) (oi := { dst := some 48, op := _, type := _, pos := _, after := _, guard := _ }) (v := (.agg #[.int .i64 (1 + (a0 : Int)), .int .i64 (1 + (a1 : Int))])) rfl (by kernel_rfl) (by kernel_rfl) (by kernel_rfl) (fun _ _ _ h => h) (Or.inl ⟨by rfl, ?hy2⟩) (by assumption) ?rest2
    case hy2 =>
      intro w9 hS9
      obtain ⟨hq0, hq1⟩ := hS9
      go_simp
      try with_reducible rfl
    try simp only [Act.put, List.setIfInBounds_toArray, List.set_cons_zero, List.set_cons_succ]
    refine wpAnyH_ready (rs := [1]) (by kernel_rfl) (by simp) ?_
    refine AllReadyH.cons (o := { dst := some 47, op := _, type := _, pos := _, after := _, guard := _ }) rfl (fun K hK => ?_) AllReadyH.nil
    go_simp
    refine (implFormat_yes _ (1 + (a0 : Int)) (1 + (a1 : Int)) HCF.out (HT.out.1.below HT.out.2 (BC.out.trans (bP.mono BC.out.size))) (by have := HT.out.2; have := BC.out.size; have := bP.size; omega)).mono ?_
    rintro e wd ⟨vd, rfl, od, bd⟩
    obtain ⟨fa, fc, rfl⟩ := od.slice
    have bQ : Below wc.heap.size wc wd := bP.trans (bd.mono bP.size)
    have hSd := HKP.out wd bQ
    have RD := od.rd
    clear od bd bP
    refine hK.out _ _ (hSd) (fun hx9 => ?_)
    clear hK K hHeld hx9
    have hHeld := hSd
    try simp only [Act.put, List.setIfInBounds_toArray, List.set_cons_zero, List.set_cons_succ]
    refine wpAnyH_ready (rs := [3]) (by kernel_rfl) (by simp) ?_
    refine AllReadyH.cons (o := { dst := some 49, op := _, type := _, pos := _, after := _, guard := _ }) rfl (fun K hK => ?_) AllReadyH.nil
    go_simp
    refine (implArea_any wd _ (.slice none 0 0) (fmN (fmK (1 + (a0 : Int)) (1 + (a1 : Int)))) [] (1 + (a0 : Int)) (1 + (a1 : Int)) 0 false RD ⟨none, 0, rfl, Nat.le_refl _, Nat.zero_le _, .inl rfl⟩ (by have := fmK_in HCF.out; rw [fmN_len _ (by omega)]; omega) (by simp) (fun i => by simp [pD])).mono ?_
    rintro e we ⟨ve, rfl, oe, be⟩
    have bR : Below wc.heap.size wc we := bQ.trans (be.mono bQ.size)
    have hSe := HKP.out we bR
    refine hK.out _ _ (hSe) (fun hx9 => ?_)
    clear hK K hHeld hx9
    have hHeld := hSe
    try simp only [Act.put, List.setIfInBounds_toArray, List.set_cons_zero, List.set_cons_succ]
    refine wpAnyH_take (i := 4) (oi := { dst := some 7, op := _, type := _, pos := _, after := _, guard := _ }) (v := ?v3) rfl (by kernel_rfl) (by kernel_rfl) (by kernel_rfl) (fun _ _ _ h => h) (Or.inl ⟨by rfl, ?hy3⟩) (by assumption) ?rest3
    case hy3 =>
      intro w9 hS9
      obtain ⟨hq0, hq1⟩ := hS9
      go_simp
      try with_reducible rfl
    try simp only [Act.put, List.setIfInBounds_toArray, List.set_cons_zero, List.set_cons_succ]
    refine wpAnyH_done (by kernel_rfl) ?_ _
    clear hHeld hSd
    try simp only [Act.put, List.setIfInBounds_toArray, List.set_cons_zero, List.set_cons_succ]
    have BE : Hid (Below w.heap.size w we) := BC.out.trans (bR.mono BC.out.size)
    obtain ⟨AR, hAR⟩ : ∃ AR, AR = arA (fmN (fmK (1 + (a0 : Int)) (1 + (a1 : Int)))) [] (1 + (a0 : Int)) (1 + (a1 : Int)) 0 false := ⟨_, rfl⟩
    rw [← hAR] at oe
    obtain ⟨hA1, hA2⟩ := img_area HCF.out
    rw [← hAR] at hA1 hA2
    have hA3 : AR.length = (1 + a0) * 64 := by rw [hA1]; omega
    have HA2 : Hid (AR.take 23 = I0) := hA2
    clear hAR hA1 hA2
    have RE := oe.rd
    obtain ⟨ga, go, gc, rfl, hgc⟩ : ∃ g o c, ve = .slice (some ⟨g, o, none⟩) AR.length c ∧ AR.length ≤ c := by
      rcases oe with ⟨-, h9⟩ | ⟨g, o, c, N, C, ys, h9, -, -, -, -, h8, -⟩
      · rw [h9] at hA3; simp at hA3; omega
      · exact ⟨g, o, c, h9, h8⟩
    clear oe be RD bQ HCF BC HKP XC
    have HRE : Hid (Rd .u8 we (.slice (some ⟨ga, go, none⟩) AR.length gc) AR) := RE
    have HCE : Hid (we.cell? ⟨CB, 0, none⟩ = some (.int .i64 (1 + (a0 : Int))) ∧ CB < we.heap.size) := ⟨hSe.1, XLT.out _ bR⟩
    clear RE hSe XLT bR
    go_wp2_with fail
    refine (implNewTree_any we).mono ?_
    rintro e wf ⟨rfl, n1, b1⟩
    go_wp2_with fail
    refine (encTree_any wf _ [rootN] (rdN_root n1) root_sz).mono ?_
    rintro e wg ⟨vr, rfl, orr, b2⟩
    replace orr : Own .u8 5 wg wf.heap.size vr I0 := orr
    obtain ⟨ra, rc, rfl⟩ := orr.slice
    have bH : Below we.heap.size we wg := b1.trans (b2.mono b1.size)
    have HRG := HRE.out.below bH
    have cc := (bH.cell (p := ⟨CB, 0, none⟩) HCE.out.2).trans HCE.out.1
    have hgI : (23 : Int) ≤ (gc : Int) := by omega
    have hgN : 23 ≤ gc := by omega
    have hcA : ∀ q, (convert 24 9 (.slice (some ⟨ga, go, none⟩) 23 gc)).run Tryd.prog (wg.drewN q) = .ok (.string (strOfNums I0)) (wg.drewN q) := fun q => by
      have := conv_any ((rd_pre9 HRG 23 (by omega)).drewN q)
      rw [HA2.out] at this
      exact this
    have hcR : ∀ q, (convert 24 9 (.slice ra I0.length rc)).run Tryd.prog (wg.drewN q) = .ok (.string (strOfNums I0)) (wg.drewN q) := fun q => conv_any (orr.rd.drewN q)
    rw [I0_len] at hcR
    have BG : Hid (∀ q, Below w.heap.size w (wg.drewN q)) := fun q => BE.out.trans ((bH.trans ((below_drewN' wg q).mono bH.size)).mono BE.out.size)
    generalize strOfNums I0 = SI at *
    rw [I0_len]
    have hlq : (((AR.length : Nat) : Int) == (1 + (a0 : Int)) * 64) = true := by rw [beq_iff_eq, hA3]; omega
    have hmul : (1 + (a0 : Int)) * 64 ≤ 5000 := by omega
    have hmul0 : 0 ≤ (1 + (a0 : Int)) * 64 := by omega
    clear orr b1 b2 n1 bH HRG HRE HCE HA2 BE HT HR HBY
    go_wp2_with fail
    go_quiet (fail)
    go_wp2
    go_ret
    exact ⟨rfl, BG.out _⟩
  | true =>
    have HOK : Hid (okTree ns = true) := hok
    clear hok
    go_wp2_with fail
    refine (implDecT_any w5 _ (treeB ns) I5.out HBT.out (by have := HTL.out; omega)).mono ?_
    rintro e w6 ⟨b6, hd⟩
    rw [decT_tree HOK.out] at hd
    rcases hd with ⟨hd, -⟩ | ⟨ms, v6, hd, rfl, o6⟩
    · cases hd
    obtain rfl : ns = ms := by simpa using hd
    obtain ⟨da, dc, rfl⟩ := OwnN.slice9 o6
    have bA : Below w6.heap.size w6 (w6.alloc (.cells #[.bool true, .slice da ns.length dc] 41)) := (Below.refl _ _).alloc (Nat.le_refl _) _
    have B7 : Hid (Below w.heap.size w (w6.alloc (.cells #[.bool true, .slice da ns.length dc] 41))) := (B5.out.trans (b6.mono B5.out.size)).trans (bA.mono (by have := B5.out.size; have := b6.size; omega))
    have R7 : Hid (RdN (w6.alloc (.cells #[.bool true, .slice da ns.length dc] 41)) (.slice ua ns.length uc) ns) := (R5.out.below b6).below bA
    have Q7 : Hid (RdN (w6.alloc (.cells #[.bool true, .slice da ns.length dc] 41)) (.slice da ns.length dc) ns) := o6.rd.below bA
    have C7 : Hid ((w6.alloc (.cells #[.bool true, .slice da ns.length dc] 41)).cell? ⟨TB, 0, none⟩ = some (.slice ua ns.length uc)) := (bA.cell (p := ⟨TB, 0, none⟩) (Nat.lt_of_lt_of_le C5.out.2 b6.size)).trans ((b6.cell (p := ⟨TB, 0, none⟩) C5.out.2).trans C5.out.1)
    clear hd o6 b6 bA B5 R5 C5 I5 HSZ HBT HOK
    have ct := C7.out
    go_wp2_with fail
    clear ct
    refine (sameTree_yes _ _ _ ns Q7.out R7.out hl).mono ?_
    rintro e w8 ⟨rfl, b8⟩
    have B6 : Hid (Below w.heap.size w w8) := B7.out.trans (b8.mono B7.out.size)
    clear b8 B7 R7 Q7 C7
    go_wp2_with fail
    refine (lwAt_any _ _ xs 0 64 (HR.out.below B6.out) HBY.out (by omega) (by omega) (by omega)).mono ?_
    rintro e wa ⟨rfl, qa, hwa⟩
    have la := lw_lt xs 0 64 (by omega)
    generalize lw xs 0 64 = a0 at *
    have BA : Hid (Below w.heap.size w wa) := by rw [hwa]; exact B6.out.trans ((below_drewN' w8 qa).mono B6.out.size)
    clear hwa B6
    go_wp2_with fail
    refine (lwAt_any _ _ xs 1 64 (HR.out.below BA.out) HBY.out (by omega) (by omega) (by omega)).mono ?_
    rintro e wb ⟨rfl, qb, hwb⟩
    have lb := lw_lt xs 1 64 (by omega)
    generalize lw xs 1 64 = a1 at *
    have BB : Hid (Below w.heap.size w wb) := by rw [hwb]; exact BA.out.trans ((below_drewN' wa qb).mono BA.out.size)
    clear hwb BA
    have bC : Below wb.heap.size wb (wb.alloc (.cells #[.int .i64 (1 + (a0 : Int)), .int .i64 (1 + (a1 : Int))] 29)) := (Below.refl _ _).alloc (Nat.le_refl _) _
    have BC : Hid (Below w.heap.size w (wb.alloc (.cells #[.int .i64 (1 + (a0 : Int)), .int .i64 (1 + (a1 : Int))] 29))) := BB.out.trans (bC.mono BB.out.size)
    have XC : Hid (Box2 (wb.alloc (.cells #[.int .i64 (1 + (a0 : Int)), .int .i64 (1 + (a1 : Int))] 29)) wb.heap.size (.int .i64 (1 + (a0 : Int))) (.int .i64 (1 + (a1 : Int)))) := Box2.new _ _ _ _
    have HCF : Hid (cfgOk (1 + (a0 : Int)) (1 + (a1 : Int)) = true) := (cfgOk_iff _ _).2 ⟨⟨by omega, by omega⟩, by omega, by omega⟩
    clear bC BB
    go_wp2_with fail
    generalize wb.alloc (.cells #[.int .i64 (1 + (a0 : Int)), .int .i64 (1 + (a1 : Int))] 29) = wc at *
    generalize wb.heap.size = CB at *
    have HKP : Hid (∀ W', Below wc.heap.size wc W' → W'.cell? ⟨CB, 0, none⟩ = some (.int .i64 (1 + (a0 : Int))) ∧ W'.cell? ⟨CB, 1, none⟩ = some (.int .i64 (1 + (a1 : Int)))) := fun W' hW => ⟨(XC.out.below hW).2.1, (XC.out.below hW).2.2⟩
    have hS0 := HKP.out wc.drew (below_drewN' wc 1)
    have bP : Below wc.heap.size wc wc.drew := below_drewN' wc 1
    have XLT : Hid (∀ W' : World, Below wc.heap.size wc W' → CB < W'.heap.size) := fun W' hW => (XC.out.below hW).1
    refine wp_region_held_drew (S := fun w9 => w9.cell? ⟨CB, 0, none⟩ = some (.int .i64 (1 + (a0 : Int))) ∧ w9.cell? ⟨CB, 1, none⟩ = some (.int .i64 (1 + (a1 : Int)))) (by kernel_rfl) (hS0) (fun hHeld => ?_)
    clear hS0
    generalize wc.drew = wp at *
    refine wpAnyH_take (i := 0) (oi := { dst := some 46, op := _, type := _, pos := _, after := _, guard := _ }) (v := (.agg #[.int .i64 (1 + (a0 : Int)), .int .i64 (1 + (a1 : Int))])) rfl (by kernel_rfl) (by kernel_rfl) (by kernel_rfl) (fun _ _ _ h => h) (Or.inl ⟨by rfl, ?hy4⟩) (by assumption) ?rest4
    case hy4 =>
      intro w9 hS9
      obtain ⟨hq0, hq1⟩ := hS9
      go_simp
      try with_reducible rfl
    try simp only [Act.put, List.setIfInBounds_toArray, List.set_cons_zero, List.set_cons_succ]
    refine wpAnyH_take (i := 2) (oi := { dst := some 48, op := _, type := _, pos := _, after := _, guard := _ }) (v := (.agg #[.int .i64 (1 + (a0 : Int)), .int .i64 (1 + (a1 : Int))])) rfl (by kernel_rfl) (by kernel_rfl) (by kernel_rfl) (fun _ _ _ h => h) (Or.inl ⟨by rfl, ?hy5⟩) (by assumption) ?rest5
    case hy5 =>
      intro w9 hS9
      obtain ⟨hq0, hq1⟩ := hS9
      go_simp
      try with_reducible rfl
    try simp only [Act.put, List.setIfInBounds_toArray, List.set_cons_zero, List.set_cons_succ]
    refine wpAnyH_ready (rs := [1]) (by kernel_rfl) (by simp) ?_
    refine AllReadyH.cons (o := { dst := some 47, op := _, type := _, pos := _, after := _, guard := _ }) rfl (fun K hK => ?_) AllReadyH.nil
    go_simp
    refine (implFormat_yes _ (1 + (a0 : Int)) (1 + (a1 : Int)) HCF.out (HT.out.1.below HT.out.2 (BC.out.trans (bP.mono BC.out.size))) (by have := HT.out.2; have := BC.out.size; have := bP.size; omega)).mono ?_
    rintro e wd ⟨vd, rfl, od, bd⟩
    obtain ⟨fa, fc, rfl⟩ := od.slice
    have bQ : Below wc.heap.size wc wd := bP.trans (bd.mono bP.size)
    have hSd := HKP.out wd bQ
    have RD := od.rd
    clear od bd bP
    refine hK.out _ _ (hSd) (fun hx9 => ?_)
    clear hK K hHeld hx9
    have hHeld := hSd
    try simp only [Act.put, List.setIfInBounds_toArray, List.set_cons_zero, List.set_cons_succ]
    refine wpAnyH_ready (rs := [3]) (by kernel_rfl) (by simp) ?_
    refine AllReadyH.cons (o := { dst := some 49, op := _, type := _, pos := _, after := _, guard := _ }) rfl (fun K hK => ?_) AllReadyH.nil
    go_simp
    refine (implArea_any wd _ (.slice none 0 0) (fmN (fmK (1 + (a0 : Int)) (1 + (a1 : Int)))) [] (1 + (a0 : Int)) (1 + (a1 : Int)) 0 false RD ⟨none, 0, rfl, Nat.le_refl _, Nat.zero_le _, .inl rfl⟩ (by have := fmK_in HCF.out; rw [fmN_len _ (by omega)]; omega) (by simp) (fun i => by simp [pD])).mono ?_
    rintro e we ⟨ve, rfl, oe, be⟩
    have bR : Below wc.heap.size wc we := bQ.trans (be.mono bQ.size)
    have hSe := HKP.out we bR
    refine hK.out _ _ (hSe) (fun hx9 => ?_)
    clear hK K hHeld hx9
    have hHeld := hSe
    try simp only [Act.put, List.setIfInBounds_toArray, List.set_cons_zero, List.set_cons_succ]
    refine wpAnyH_take (i := 4) (oi := { dst := some 7, op := _, type := _, pos := _, after := _, guard := _ }) (v := ?v6) rfl (by kernel_rfl) (by kernel_rfl) (by kernel_rfl) (fun _ _ _ h => h) (Or.inl ⟨by rfl, ?hy6⟩) (by assumption) ?rest6
    case hy6 =>
      intro w9 hS9
      obtain ⟨hq0, hq1⟩ := hS9
      go_simp
      try with_reducible rfl
    try simp only [Act.put, List.setIfInBounds_toArray, List.set_cons_zero, List.set_cons_succ]
    refine wpAnyH_done (by kernel_rfl) ?_ _
    clear hHeld hSd
    try simp only [Act.put, List.setIfInBounds_toArray, List.set_cons_zero, List.set_cons_succ]
    have BE : Hid (Below w.heap.size w we) := BC.out.trans (bR.mono BC.out.size)
    obtain ⟨AR, hAR⟩ : ∃ AR, AR = arA (fmN (fmK (1 + (a0 : Int)) (1 + (a1 : Int)))) [] (1 + (a0 : Int)) (1 + (a1 : Int)) 0 false := ⟨_, rfl⟩
    rw [← hAR] at oe
    obtain ⟨hA1, hA2⟩ := img_area HCF.out
    rw [← hAR] at hA1 hA2
    have hA3 : AR.length = (1 + a0) * 64 := by rw [hA1]; omega
    have HA2 : Hid (AR.take 23 = I0) := hA2
    clear hAR hA1 hA2
    have RE := oe.rd
    obtain ⟨ga, go, gc, rfl, hgc⟩ : ∃ g o c, ve = .slice (some ⟨g, o, none⟩) AR.length c ∧ AR.length ≤ c := by
      rcases oe with ⟨-, h9⟩ | ⟨g, o, c, N, C, ys, h9, -, -, -, -, h8, -⟩
      · rw [h9] at hA3; simp at hA3; omega
      · exact ⟨g, o, c, h9, h8⟩
    clear oe be RD bQ HCF BC HKP XC
    have HRE : Hid (Rd .u8 we (.slice (some ⟨ga, go, none⟩) AR.length gc) AR) := RE
    have HCE : Hid (we.cell? ⟨CB, 0, none⟩ = some (.int .i64 (1 + (a0 : Int))) ∧ CB < we.heap.size) := ⟨hSe.1, XLT.out _ bR⟩
    clear RE hSe XLT bR
    go_wp2_with fail
    refine (implNewTree_any we).mono ?_
    rintro e wf ⟨rfl, n1, b1⟩
    go_wp2_with fail
    refine (encTree_any wf _ [rootN] (rdN_root n1) root_sz).mono ?_
    rintro e wg ⟨vr, rfl, orr, b2⟩
    replace orr : Own .u8 5 wg wf.heap.size vr I0 := orr
    obtain ⟨ra, rc, rfl⟩ := orr.slice
    have bH : Below we.heap.size we wg := b1.trans (b2.mono b1.size)
    have HRG := HRE.out.below bH
    have cc := (bH.cell (p := ⟨CB, 0, none⟩) HCE.out.2).trans HCE.out.1
    have hgI : (23 : Int) ≤ (gc : Int) := by omega
    have hgN : 23 ≤ gc := by omega
    have hcA : ∀ q, (convert 24 9 (.slice (some ⟨ga, go, none⟩) 23 gc)).run Tryd.prog (wg.drewN q) = .ok (.string (strOfNums I0)) (wg.drewN q) := fun q => by
      have := conv_any ((rd_pre9 HRG 23 (by omega)).drewN q)
      rw [HA2.out] at this
      exact this
    have hcR : ∀ q, (convert 24 9 (.slice ra I0.length rc)).run Tryd.prog (wg.drewN q) = .ok (.string (strOfNums I0)) (wg.drewN q) := fun q => conv_any (orr.rd.drewN q)
    rw [I0_len] at hcR
    have BG : Hid (∀ q, Below w.heap.size w (wg.drewN q)) := fun q => BE.out.trans ((bH.trans ((below_drewN' wg q).mono bH.size)).mono BE.out.size)
    generalize strOfNums I0 = SI at *
    rw [I0_len]
    have hlq : (((AR.length : Nat) : Int) == (1 + (a0 : Int)) * 64) = true := by rw [beq_iff_eq, hA3]; omega
    have hmul : (1 + (a0 : Int)) * 64 ≤ 5000 := by omega
    have hmul0 : 0 ≤ (1 + (a0 : Int)) * 64 := by omega
    clear orr b1 b2 n1 bH HRG HRE HCE HA2 BE HT HR HBY
    go_wp2_with fail
    go_quiet (fail)
    go_wp2
    go_ret
    exact ⟨rfl, BG.out _⟩

end Go.Proofs.YtcopcegamadkgaaDoor

namespace Go.Proofs.YtcopcegamadkgaaDoor
open Go.ChangeShapes Go.WideShapes Go.ChangeAt Go.RowKit

theorem knob : ownKnob Tryd.prog.godebug = none := by kernel_rfl
theorem laidOut : laidOutB Tryd.prog = true := by kernel_rfl

def gFirst (P : Program) : Nat := (P.globalNamed "unicode/utf8.first").getD 0
def gAccept (P : Program) : Nat := (P.globalNamed "unicode/utf8.acceptRanges").getD 0

/-- The witness: the two tables as they are laid. -/
def laidWorld (P : Program) (os : Os) : World :=
  let w0 := World.holding P os ⟨#[], #[], []⟩
  let put (h : Array Obj) (g : Nat) (cs : Array Value) : Array Obj := h.modify g fun
    | .cells _ t frozen => .cells cs t frozen
    | o => o
  let h1 := put w0.heap (gFirst P) (Go.Pinned.utf8FirstZ.map fun (z : Nat) => Value.int .u8 (z : Int)).toArray
  let h2 := put h1 (gAccept P) ((([128, 191, 160, 191, 128, 159, 144, 191, 128, 143] : List Int) ++ List.replicate 22 0).map fun (z : Int) => Value.int .u8 z).toArray
  { w0 with heap := h2 }
end Go.Proofs.YtcopcegamadkgaaDoor

namespace Go.Proofs.YtcopcegamadkgaaDoor
open Go.ChangeShapes Go.WideShapes Go.ChangeAt Go.RowKit

theorem gTab : Tryd.prog.globalNamed "loop.example/s01594/impl.crcTable" = some 0 := by kernel_rfl
theorem gTabType : (Tryd.prog.globals[0]?).map (·.type) = some 127 := by kernel_rfl
theorem cellsT : Tryd.prog.cellsOf 127 = 16 := by kernel_rfl
theorem cellsE : Tryd.prog.cellsOf 126 = 1 := by kernel_rfl
def tabCells : Array Value := #[.int .u32 0, .int .u32 274646895, .int .u32 549293790, .int .u32 820201905, .int .u32 1098587580, .int .u32 1361435347, .int .u32 1640403810, .int .u32 1905808397, .int .u32 2197175160, .int .u32 2460548119, .int .u32 2722870694, .int .u32 2987750089, .int .u32 3280807620, .int .u32 3553878443, .int .u32 3811616794, .int .u32 4084100981]
abbrev tableH {H : Type} : DataW H := .agg [.lit (.int .u32 0), .lit (.int .u32 274646895), .lit (.int .u32 549293790), .lit (.int .u32 820201905), .lit (.int .u32 1098587580), .lit (.int .u32 1361435347), .lit (.int .u32 1640403810), .lit (.int .u32 1905808397), .lit (.int .u32 2197175160), .lit (.int .u32 2460548119), .lit (.int .u32 2722870694), .lit (.int .u32 2987750089), .lit (.int .u32 3280807620), .lit (.int .u32 3553878443), .lit (.int .u32 3811616794), .lit (.int .u32 4084100981)]
theorem reads_table {H : Type} (enc : TypeId × Value → H) (W : World) (sp : Nat → Bool) : DataW.trod enc Tryd.prog W 0 sp true 3 127 tabCells.toList = some (tableH, []) := by kernel_rfl
theorem tab_cell : ∀ i, i < 16 → some (Value.int .u32 (([0, 274646895, 549293790, 820201905, 1098587580, 1361435347, 1640403810, 1905808397, 2197175160, 2460548119, 2722870694, 2987750089, 3280807620, 3553878443, 3811616794, 4084100981] : List Int).getD i 0)) = some (.int .u32 ((tabL.getD i 0 : Nat) : Int)) := by
  intro i hi
  have : ∀ i, i < 16 → ([0, 274646895, 549293790, 820201905, 1098587580, 1361435347, 1640403810, 1905808397, 2197175160, 2460548119, 2722870694, 2987750089, 3280807620, 3553878443, 3811616794, 4084100981] : List Int).getD i 0 = ((tabL.getD i 0 : Nat) : Int) := by decide +kernel
  rw [this i hi]

/-- The witness: the three tables as they are laid. -/
def laidWorld3 (P : Program) (os : Os) : World :=
  let w0 := laidWorld P os
  { w0 with heap := w0.heap.modify 0 fun
    | .cells _ t frozen => .cells tabCells t frozen
    | o => o }
theorem laid_met3 (os : Os) (args : Array Value) : laidMet Tryd.prog [("unicode/utf8.acceptRanges", Rows.laid_unicode_utf8_acceptRanges), ("loop.example/s01594/impl.crcTable", Rows.laid_loop_example_s01594_impl_crcTable), ("unicode/utf8.first", Rows.laid_unicode_utf8_first)] ((laidWorld3 Tryd.prog os).forCall (fun _ _ => 0) ⟨#[], args, []⟩).memory :=
  (LaidIn.of_run (l := [("unicode/utf8.acceptRanges", Rows.laid_unicode_utf8_acceptRanges), ("loop.example/s01594/impl.crcTable", Rows.laid_loop_example_s01594_impl_crcTable), ("unicode/utf8.first", Rows.laid_unicode_utf8_first)]) [gAccept Tryd.prog, 0, gFirst Tryd.prog] 8 (by kernel_rfl) (by kernel_rfl) (by kernel_rfl) (by kernel_rfl)).met

theorem tab3 {W : World} (h : laidMet Tryd.prog [("unicode/utf8.acceptRanges", Rows.laid_unicode_utf8_acceptRanges), ("loop.example/s01594/impl.crcTable", Rows.laid_loop_example_s01594_impl_crcTable), ("unicode/utf8.first", Rows.laid_unicode_utf8_first)] W) : Lib.TabIs Tryd.prog W "loop.example/s01594/impl.crcTable" .u32 [0, 274646895, 549293790, 820201905, 1098587580, 1361435347, 1640403810, 1905808397, 2197175160, 2460548119, 2722870694, 2987750089, 3280807620, 3553878443, 3811616794, 4084100981] := by
  obtain ⟨ps, ⟨_, _, _, _, _, _, _, _, _, _, ⟨g', t', cs, fuel, p, q, hg', ht', hvar, hd, _, _⟩, _⟩, _⟩ := h
  obtain rfl := Option.some.inj (gTab.symm.trans hg')
  obtain rfl := Option.some.inj (gTabType.symm.trans ht')
  unfold Lib.TabIs
  rw [hvar, ← Lib.cells_of_tab Tryd.underlying127 Tryd.underlying126 cellsE cellsT (zs := [0, 274646895, 549293790, 820201905, 1098587580, 1361435347, 1640403810, 1905808397, 2197175160, 2460548119, 2722870694, 2987750089, 3280807620, 3553878443, 3811616794, 4084100981]) (k := .u32) hd]

end Go.Proofs.YtcopcegamadkgaaDoor

namespace Go.Proofs.YtcopcegamadkgaaDoor
open Go.ChangeShapes Go.WideShapes Go.ChangeAt Go.RowKit

theorem addr_add_none (b o i : Nat) : (⟨b, o, none⟩ : Addr).add i = ⟨b, o + i, none⟩ := Addr.add_lit ..

theorem rd_of {k : IntKind} {w : World} {x : Addr} {len cap : Nat} {zs : List Int} (hl : len ≤ cap) (hm : cap ≤ maxLen) (hz : zs.length = cap)
    (hcell : ∀ i, i < zs.length → w.cell? (x.add i) = some (.int k (zs.getD i 0))) : Rd k w (.slice (some x) len cap) (zs.take len) := by
  have hlen : (zs.take len).length = len := by simp; omega
  refine ⟨some x, cap, by rw [hlen], by rw [hlen]; exact hl, hm, ?_⟩
  by_cases h0 : len = 0
  · subst h0; exact .inl rfl
  · right
    obtain ⟨b, off, spot⟩ := x
    have hc := hcell 0 (by omega)
    have hspot : spot = none := by simpa [Addr.add] using World.cell?_spot hc
    subst hspot
    refine ⟨b, off, rfl, ?_, fun i hi => ?_⟩
    · have := World.block_lt_of_cell? w _ hc
      simpa [Addr.add] using this
    · rw [hlen] at hi
      have := hcell i (by omega)
      rw [addr_add_none] at this
      rw [this]
      simp [List.getD, List.getElem?_take_of_lt hi]

theorem byt_of {zs : List Int} {len : Nat} (h : ∀ n ∈ zs, (Lit.int .u8 n).wf = true) : Byt (zs.take len) := by
  intro x hx
  have := h x (List.mem_of_mem_take hx)
  have b := bounds_u8 this
  omega

/-- A []byte that came in. -/
theorem open_bytes {H : Type} {enc : TypeId × Value → H} {W : World} {a0 : Option Addr} {len0 cap0 : Nat} {d0 : DataW H} {p0 : List MemPlace} {base : Nat} {b : Bool}
    (h0 : DataW.Trod enc Tryd.prog W base (fun _ => true) b 24 (.slice a0 len0 cap0) d0 p0) : ∃ xs, Rd .u8 W (.slice a0 len0 cap0) xs ∧ Byt xs := by
  obtain ⟨fuel, hf⟩ := h0
  rcases open_ints Tryd.underlying24 Tryd.underlying5 (by kernel_rfl) hf with ⟨hcs, _⟩ | ⟨x, l, c, zs, hcs, _, hl, hm, hz, _, hcell, hwz⟩
  · simp [Value.cells] at hcs
    obtain ⟨rfl, rfl, rfl⟩ := hcs
    exact ⟨[], ⟨none, 0, rfl, Nat.le_refl _, Nat.zero_le _, .inl rfl⟩, fun x hx => by cases hx⟩
  · simp [Value.cells] at hcs
    obtain ⟨rfl, rfl, rfl⟩ := hcs
    exact ⟨zs.take len0, rd_of hl hm (by simpa using hz) hcell, byt_of hwz⟩

end Go.Proofs.YtcopcegamadkgaaDoor

