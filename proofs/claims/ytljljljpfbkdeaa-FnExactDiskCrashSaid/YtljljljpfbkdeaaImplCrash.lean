import Derived.Test.YtljljljpfbkdeaaTorn
import Derived.Test.YtljljljpfbkdeaaSpecSettle
import Derived.Deep.RegionHeld3
namespace Go.Proofs.Ytljljljpfbkdeaa
open Go.RowKit

theorem Rd.range {k : IntKind} {w : World} {b o n cap : Nat} {xs : List Int} (h : Rd k w (.slice (some ⟨b, o, none⟩) n cap) xs) (hl : xs.length = n) (h0 : 0 < n) : b < w.heap.size ∧ w.rangeAt b o (xs.map (Value.int k)) := by
  obtain ⟨b', o', e, hb, -⟩ := h.cellAt hl h0
  injection e with e
  injection e with e1 e2 _
  subst e1; subst e2
  refine ⟨hb, fun j v hv => ?_⟩
  have hj : j < xs.length := by have := (List.getElem?_eq_some_iff.1 hv).1; simpa using this
  obtain ⟨b', o', e, -, hc⟩ := h.cellAt hl (show j < n by omega)
  injection e with e
  injection e with e1 e2 _
  subst e1; subst e2
  rw [hc]
  simp [List.getElem?_eq_getElem hj] at hv
  simp [List.getD, hj, hv]

theorem size_setCells' (b : Nat) : ∀ (vs : List Value) (o : Nat) (w : World), (w.setCells b o vs).heap.size = w.heap.size
  | [], _, _ => rfl
  | v :: r, o, w => by rw [World.setCells, size_setCells' b r]; simp

theorem rangeAt_far {w w' : World} {b o : Nat} {cs : List Value} (h : w.rangeAt b o cs) (hc : w'.heap[b]? = w.heap[b]?) : w'.rangeAt b o cs := fun j v hv => (World.cell?_of_block (w := w) (a := ⟨b, o + j, none⟩) hc).trans (h j v hv)

theorem Own.rdAt {k : IntKind} {e : TypeId} {w : World} {base g n cap : Nat} {xs : List Int} (h : Own k e w base (.slice (some ⟨g, 0, none⟩) n cap) xs) : Rd k w (.slice (some ⟨g, 0, none⟩) n cap) xs := h.rd

set_option maxHeartbeats 2000000 in
set_option maxRecDepth 100000 in
theorem implCrash_loop (w : World) (va vb vc : Option Addr) (dl ca n cb m cc : Nat) (dur : List Int) (ps : List (Int × List Int)) (cs : List Int) (hd : Rd .u8 w (.slice va dl ca) dur) (hdl : dur.length = dl) (hp : RdW w (.slice vb n cb) ps) (hl : ps.length = n)
    (hc : Rd .i64 w (.slice vc m cc) cs) (hcl : cs.length = m) (hv : vldD dl ps = true) (hm : m ≤ 2000) (hd1 : dl ≤ 1048576) (hpd : ∀ i, (pD ps i).length ≤ 1048576) :
    Calls Try.prog 47 #[.agg #[.slice va dl ca, .slice vb n cb], .slice vc m cc] w fun e w' => ∃ v1, e = .returned (.agg #[v1, .slice none 0 0]) ∧ Own .u8 5 w' w.heap.size v1 (stl dur ps (chc cs) n) ∧ Below w.heap.size w w' := by
  have HD : Hid (Rd .u8 w (.slice va dl ca) dur) := hd
  have HP : Hid (RdW w (.slice vb n cb) ps) := hp
  have HC : Hid (Rd .i64 w (.slice vc m cc) cs) := hc
  have HL : Hid (ps.length = n) := hl
  have HDL : Hid (dur.length = dl) := hdl
  have HCL : Hid (cs.length = m) := hcl
  have HV : Hid (vldD dl ps = true) := hv
  have HPD : Hid (∀ i, (pD ps i).length ≤ 1048576) := hpd
  have hdp : 0 < dl := by have := ((vldD_iff dl ps).1 hv).2.1; omega
  have hn2 : n ≤ 2000 := by have := ((vldD_iff dl ps).1 hv).2.2.2.1; omega
  have BA : Hid (∀ o1 o2, Below w.heap.size w ((w.alloc o1).alloc o2)) := fun o1 o2 => ((Below.refl _ _).alloc (Nat.le_refl _) _).alloc (by simp) _
  clear hd hp hl hdl hc hcl hv hpd
  go_enter Try.func47, Try.ntmps47
  go_wp2_with fail
  have XA0 : Hid (BoxF ((w.alloc (.cells #[.slice va dl ca, .slice vb n cb] 38)).alloc (.cells #[.slice none 0 0, .slice none 0 0] 38)) w.heap.size (.slice va dl ca) (.slice vb n cb)) := (BoxF.new w _ _ _).below ((Below.refl _ _).alloc (Nat.le_refl _) _)
  have XR0 : Hid (BoxF ((w.alloc (.cells #[.slice va dl ca, .slice vb n cb] 38)).alloc (.cells #[.slice none 0 0, .slice none 0 0] 38)) (w.heap.size + 1) (.slice none 0 0) (.slice none 0 0)) := by
    have := BoxF.new (w.alloc (.cells #[.slice va dl ca, .slice vb n cb] 38)) (.slice none 0 0) (.slice none 0 0) 38
    show BoxF _ _ _ _
    simpa using this
  have B0 := BA.out (.cells #[.slice va dl ca, .slice vb n cb] 38) (.cells #[.slice none 0 0, .slice none 0 0] 38)
  have HB0 : Hid (Below w.heap.size w ((w.alloc (.cells #[.slice va dl ca, .slice vb n cb] 38)).alloc (.cells #[.slice none 0 0, .slice none 0 0] 38))) := B0
  clear B0 BA
  generalize (w.alloc (.cells #[.slice va dl ca, .slice vb n cb] 38)).alloc (.cells #[.slice none 0 0, .slice none 0 0] 38) = w0 at *
  refine (implValid_any _ va vb dl ca n cb ps (HP.out.below HB0.out) HL.out hd1 (by omega) HPD.out).mono ?_
  rintro e w1 ⟨rfl, b1⟩
  rw [HV.out]
  have HB1 : Hid (Below w.heap.size w w1) := HB0.out.trans (b1.mono HB0.out.size)
  have XA1 : Hid (BoxF w1 w.heap.size (.slice va dl ca) (.slice vb n cb)) := XA0.out.below b1
  have XR1 : Hid (BoxF w1 (w.heap.size + 1) (.slice none 0 0) (.slice none 0 0)) := XR0.out.below b1
  have s1 := HB1.out.size
  clear b1 XA0 XR0 HB0
  obtain ⟨⟨z1, c0, c1⟩, -⟩ := XA1.out
  have t1 : ¬ (2000 : Int) < (m : Int) := by omega
  have t1d : decide ((2000 : Int) < (m : Int)) = false := by simpa using t1
  go_wp2_with fail
  refine (clone_any _ _ dur (HD.out.below HB1.out) (by have := HDL.out; omega)).mono ?_
  rintro e w2 ⟨v2, rfl, o2, b2⟩
  obtain ⟨g, cap, rfl, hg0, hg1⟩ := o2.pos HDL.out hdp
  have XA2 : Hid (BoxF w2 w.heap.size (.slice va dl ca) (.slice vb n cb)) := XA1.out.below b2
  have XR2 : Hid (BoxF w2 (w.heap.size + 1) (.slice none 0 0) (.slice none 0 0)) := XR1.out.below b2
  have HB2 : Hid (Below w.heap.size w w2) := HB1.out.trans (b2.mono s1)
  have O2 : Hid (Own .u8 5 w2 g (.slice (some ⟨g, 0, none⟩) dl cap) dur) := by
    refine ⟨o2.1, ?_⟩
    rcases o2.2 with ⟨h, -⟩ | ⟨g', cap', cur, e, hb, rest⟩
    · simp at h
    · refine .inr ⟨g', cap', cur, e, ?_, rest⟩
      simp only [Value.slice.injEq, Option.some.injEq, Addr.mk.injEq] at e
      obtain ⟨⟨rfl, -⟩, -⟩ := e
      exact Nat.le_refl _
  have zR1 := XR1.out.1.1
  clear b2 o2 XA1 XR1 HB1 c0 c1
  obtain ⟨⟨z2, c0, c1⟩, -⟩ := XA2.out
  go_wp2
  clear c0 c1
  go_loopw [24] (fun i wr => ∃ k : Nat, k ≤ n ∧ i = .int .i64 k ∧ Hid (Own .u8 5 wr g (.slice (some ⟨g, 0, none⟩) dl cap) (stl dur ps (chc cs) k)) ∧ Hid (Below g w2 wr)) (fun i _ => n - (intOf i).toNat)
  case atStart => exact ⟨0, Nat.zero_le _, rfl, O2, Below.refl _ _⟩
  case round =>
    clear O2
    obtain ⟨k, hk, rfl, HO, HG⟩ := hrel
    have hlen : (stl dur ps (chc cs) k).length = dl := by rw [stl_len dur ps _ (by rw [HDL.out]; exact HV.out) k (by rw [HL.out]; exact hk), HDL.out]
    have HLEN : Hid ((stl dur ps (chc cs) k).length = dl) := hlen
    have sg := HG.out.size
    have BW : Hid (Below w.heap.size w wr) := HB2.out.trans (HG.out.mono (by omega))
    clear hlen
    by_cases hlt : k < n
    · obtain ⟨pb, po, rfl, hpb, e1, da, dc, e2, r⟩ := HP.out.recAt HL.out hlt
      obtain ⟨b, hb, hb2, hb3, hd64⟩ := vld_at HV.out k (by rw [HL.out]; exact hlt)
      rw [hb] at e1
      rw [hd64] at e2 r
      have e1' := (BW.out.cell (p := ⟨pb, po + k * 2, none⟩) hpb).trans e1
      have e2' := (BW.out.cell (p := ⟨pb, po + k * 2 + 1, none⟩) hpb).trans e2
      obtain ⟨db, dof, rfl, hdb, -⟩ := r.cellAt hd64 (show 0 < 64 by omega)
      have RU : Hid (w.rangeAt db dof ((pD ps k).map (Value.int .u8))) := (r.range hd64 (by omega)).2
      have HSTL : Hid (stl dur ps (chc cs) (k + 1) = splice (stl dur ps (chc cs) k) (b * 64) ((pD ps k).take (chc cs k))) := by show stl _ _ _ _ = _; rw [stl, hb, Int.toNat_natCast]
      have HD64 : Hid ((pD ps k).length = 64) := hd64
      have hltI : (k : Int) < (n : Int) := by omega
      clear e1 e2 r hb hd64
      go_wp2_with fail
      have BAl : Hid (Below wr.heap.size wr (wr.alloc (.cells #[.int .i64 b, .slice (some ⟨db, dof, none⟩) 64 dc] 64))) := (Below.refl _ _).alloc (Nat.le_refl _) _
      have XB : Hid (Box2 (wr.alloc (.cells #[.int .i64 b, .slice (some ⟨db, dof, none⟩) 64 dc] 64)) wr.heap.size (.int .i64 b) (.slice (some ⟨db, dof, none⟩) 64 dc)) := Box2.new _ _ _ _
      clear e1' e2'
      generalize wr.alloc (.cells #[.int .i64 b, .slice (some ⟨db, dof, none⟩) 64 dc] 64) = w3 at *
      obtain ⟨V, hV⟩ : ∃ V, V = (((stl dur ps (chc cs) k).drop (b * 64)).take 64).map (Value.int .u8) := ⟨_, rfl⟩
      obtain ⟨U, hU⟩ : ∃ U, U = (pD ps k).map (Value.int .u8) := ⟨_, rfl⟩
      obtain ⟨T, hT⟩ : ∃ T, T = (splice (((stl dur ps (chc cs) k).drop (b * 64)).take 64) 0 ((pD ps k).take (chc cs k))).map (Value.int .u8) := ⟨_, rfl⟩
      have HVL : Hid (V.length = 64) := by subst hV; show _ = _; rw [List.length_map, List.length_take, List.length_drop, HLEN.out]; omega
      have HUL : Hid (U.length = 64) := by subst hU; show _ = _; rw [List.length_map, HD64.out]
      have HV1 : Hid (∀ v ∈ V, v.oneCell' = true) := by subst hV; exact ints_oneCell _ _
      have O3 : Hid (Own .u8 5 w3 g (.slice (some ⟨g, 0, none⟩) dl cap) (stl dur ps (chc cs) k)) := HO.out.below BAl.out
      have CB : Calls Try.prog 83 #[.slice (some ⟨g, 0, none⟩) dl cap, .int .i64 b] w3 fun e w' => e = .returned (.agg V.toArray) ∧ Below w3.heap.size w3 w' := by
        rw [hV]; exact blockAt_any w3 g 0 dl cap b _ O3.out.rdAt HLEN.out (by omega) hd1
      rw [← hU] at RU
      have CT : Hid (∀ W, Calls Try.prog 85 #[.agg V.toArray, .agg U.toArray, .int .i64 (chc cs k)] W fun e w' => e = .returned (.agg T.toArray) ∧ Below W.heap.size W w') := by
        intro W
        rw [hV, hU, hT]
        exact tornBlock_any W _ _ _ (by rw [List.length_take, List.length_drop, HLEN.out]; omega) HD64.out (chc_le _ _)
      have CS : Hid (∀ W, Own .u8 5 W g (.slice (some ⟨g, 0, none⟩) dl cap) (stl dur ps (chc cs) k) → Calls Try.prog 84 #[.slice (some ⟨g, 0, none⟩) dl cap, .int .i64 b, .agg T.toArray] W fun e w' => e = .returned (.tuple #[]) ∧ Own .u8 5 w' g (.slice (some ⟨g, 0, none⟩) dl cap) (stl dur ps (chc cs) (k + 1)) ∧ W.grownBy w' (some g)) := by
        intro W hW
        have hsl : (splice (((stl dur ps (chc cs) k).drop (b * 64)).take 64) 0 ((pD ps k).take (chc cs k))).length = 64 := by
          have := chc_le cs k
          rw [length_splice _ _ _ (by rw [List.length_take, List.length_take, List.length_drop, HLEN.out, HD64.out]; omega), List.length_take, List.length_drop, HLEN.out]; omega
        have := setBlock_any W g g dl cap b _ _ hW HLEN.out hsl (by omega) hd1
        rw [hT, HSTL.out]
        rw [splice_torn _ _ _ _ HD64.out (chc_le _ _) (by rw [HLEN.out]; omega)] at this
        exact this
      have CK : Hid (∀ W, Below w.heap.size w W → Calls Try.prog 86 #[.slice vc m cc, .int .i64 k] W fun e w' => e = .returned (.int .i64 (chc cs k)) ∧ w' = W) := fun W hW => keptBytes_any W _ cs k ((HC.out.below hW)) (by omega)
      clear hV hU hT
      generalize chc cs k = ck at *
      refine CB.mono ?_
      rintro e w4 ⟨rfl, b4⟩
      have B4 : Hid (Below w3.heap.size w3 w4) := b4
      clear CB b4
      go_wp2_with (refine wpList_store_mid rfl 91 _ _ rfl w4.heap.size 0 V.toArray rfl rfl ?s1 ?s2 ?s3 ?_)
      case s1 =>
        have e : V.toArray.size = 64 := by rw [List.size_toArray]; exact HVL.out
        rw [e]
        exact there_new _ _ _ _ rfl
      case s2 => rw [List.size_toArray]; exact sizeA _ HVL.out
      case s3 => exact all_oneCell_toArray HV1.out
      generalize hW5 : World.setCells _ _ _ _ = w5
      have B5 : Hid (Below w4.heap.size w4 w5) := by subst hW5; exact below_setCells (Nat.le_refl _) _ _ _ ((Below.refl _ _).alloc (Nat.le_refl _) _)
      have RV : Hid (w5.rangeAt w4.heap.size 0 V) := by
        subst hW5
        exact World.rangeAt_setCells_same _ _ _ _ (there_new _ _ _ _ (by rw [HVL.out]; rfl))
      have s5 : w4.heap.size < w5.heap.size := by
        subst hW5
        have h2 : ∀ cs' : Array Value, ((w4.alloc (.cells cs' 91)).setCells w4.heap.size 0 V).heap.size = w4.heap.size + 1 := fun cs' => by rw [size_setCells', World.size_alloc]
        rw [h2]; omega
      clear hW5
      have s4 := B4.out.size
      have sB := BAl.out.size
      have B35 : Hid (Below w3.heap.size w3 w5) := B4.out.trans (B5.out.mono s4)
      have O5 : Hid (Own .u8 5 w5 g (.slice (some ⟨g, 0, none⟩) dl cap) (stl dur ps (chc cs) k)) := O3.out.below B35.out
      have BWr : Hid (Below wr.heap.size wr w5) := BAl.out.trans (B35.out.mono sB)
      have BW5 : Hid (Below w.heap.size w w5) := BW.out.trans (BWr.out.mono BW.out.size)
      have hgr : g < wr.heap.size := by omega
      have hwz : w.heap.size ≤ w2.heap.size := HB2.out.size
      have S5 : Hid (∀ W : World, (∀ q, q < w5.heap.size → q ≠ g → W.heap[q]? = w5.heap[q]?) → W.cell? ⟨wr.heap.size, 0, none⟩ = some (.int .i64 b) ∧ W.cell? ⟨wr.heap.size, 1, none⟩ = some (.slice (some ⟨db, dof, none⟩) 64 dc) ∧ W.rangeAt w4.heap.size 0 V ∧ W.rangeAt db dof U) := by
        intro W hW
        have X5 := XB.out.below B35.out
        have z3 := XB.out.1
        have h1 := hW wr.heap.size (by omega) (by omega)
        have h2 := hW w4.heap.size (by omega) (by omega)
        have h3 := hW db (by have := BW5.out.size; omega) (by omega)
        exact ⟨(World.cell?_of_block (w := w5) (a := ⟨wr.heap.size, 0, none⟩) h1).trans X5.2.1, (World.cell?_of_block (w := w5) (a := ⟨wr.heap.size, 1, none⟩) h1).trans X5.2.2, rangeAt_far RV.out h2, rangeAt_far RU.out (h3.trans (BW5.out.block db hdb))⟩
      have K5 : Hid (∀ W, Below w5.heap.size w5 W → Own .u8 5 W g (.slice (some ⟨g, 0, none⟩) dl cap) (stl dur ps (chc cs) k)) := fun W hW => O5.out.below hW
      have C86 : Hid (Calls Try.prog 86 #[.slice vc m cc, .int .i64 k] w5.drew fun e w' => e = .returned (.int .i64 ck) ∧ w' = w5.drew) := CK.out _ (BW5.out.trans (below_drewN' w5 1 |>.mono BW5.out.size))
      have C85 : Hid (Calls Try.prog 85 #[.agg V.toArray, .agg U.toArray, .int .i64 ck] w5.drew fun e w' => e = .returned (.agg T.toArray) ∧ w'.cell? ⟨wr.heap.size, 0, none⟩ = some (.int .i64 b) ∧ w'.cell? ⟨wr.heap.size, 1, none⟩ = some (.slice (some ⟨db, dof, none⟩) 64 dc) ∧ w'.rangeAt w4.heap.size 0 V ∧ w'.rangeAt db dof U ∧ Hid (Below w5.heap.size w5 w')) := by
        refine (CT.out w5.drew).mono ?_
        rintro e w' ⟨rfl, b'⟩
        have b2 : Below w5.heap.size w5 w' := (below_drewN' w5 1).trans b'
        obtain ⟨h1, h2, h3, h4⟩ := S5.out w' (fun q hq _ => b2.block q hq)
        exact ⟨rfl, h1, h2, h3, h4, b2⟩
      have C84 : Hid (∀ W, Below w5.heap.size w5 W → Calls Try.prog 84 #[.slice (some ⟨g, 0, none⟩) dl cap, .int .i64 b, .agg T.toArray] W fun e w' => e = .returned (.tuple #[]) ∧ w'.cell? ⟨wr.heap.size, 0, none⟩ = some (.int .i64 b) ∧ w'.cell? ⟨wr.heap.size, 1, none⟩ = some (.slice (some ⟨db, dof, none⟩) 64 dc) ∧ w'.rangeAt w4.heap.size 0 V ∧ w'.rangeAt db dof U ∧
          Hid (Own .u8 5 w' g (.slice (some ⟨g, 0, none⟩) dl cap) (stl dur ps (chc cs) (k + 1))) ∧ Hid (Below g w2 w')) := by
        intro W hW
        refine (CS.out W (K5.out W hW)).mono ?_
        rintro e w' ⟨rfl, o', g'⟩
        have sW := hW.size
        obtain ⟨h1, h2, h3, h4⟩ := S5.out w' (fun q hq hne => (g'.block q (by omega) (by simpa using hne)).trans (hW.block q hq))
        refine ⟨rfl, h1, h2, h3, h4, o', ?_⟩
        have hB : Below g w2 W := (HG.out.trans (BWr.out.mono (by omega))).trans (hW.mono (by omega))
        exact hB.grown g' (by omega) (by intro q hq; simp at hq; omega)
      obtain ⟨k0, k1, k2, k3⟩ := S5.out w5 (fun _ _ _ => rfl)
      have hu := Try.underlying91
      have hi1 : (Try.prog.info? 91).map (·.size) = some V.length := sizeA _ HVL.out
      have hi2 : (Try.prog.info? 91).map (·.size) = some U.length := sizeA _ HUL.out
      have hvl : V.length = 64 := HVL.out
      have hul : U.length = 64 := HUL.out
      have hat : ∀ W, (Instr.arrayAt 91 (.slice (some ⟨db, dof, none⟩) 64 dc)).run Try.prog W = .ok (.pointer (some ⟨db, dof, none⟩)) W := fun W => run_arrayAt W 91 _ 64 _ _ _ Try.underlying91 (Nat.le_refl _)
      clear RU CT CS CK O3 O5 S5 K5 RV HVL HUL HV1 BAl XB
      go_frame
      refine wp_region_held_drew (S := fun w' => w'.cell? ⟨wr.heap.size, 0, none⟩ = some (.int .i64 b) ∧ w'.cell? ⟨wr.heap.size, 1, none⟩ = some (.slice (some ⟨db, dof, none⟩) 64 dc) ∧ w'.rangeAt w4.heap.size 0 V ∧ w'.rangeAt db dof U) (by kernel_rfl) ⟨k0, k1, k2, k3⟩ (fun hHeld => ?_)
      refine wpAnyH_take (i := 0) (v := (.slice (some ⟨g, 0, none⟩) dl cap)) rfl (by kernel_rfl) (by kernel_rfl) (by kernel_rfl) (fun _ _ _ h => h) (Or.inl ⟨by rfl, fun w' hSw => ?_⟩) (by assumption) ?_
      · (try dsimp only at hSw)
        go_simp
      refine wpAnyH_take (i := 1) (v := (.pointer (some ⟨wr.heap.size, 0, none⟩))) rfl (by kernel_rfl) (by kernel_rfl) (by kernel_rfl) (fun _ _ _ h => h) (Or.inl ⟨by rfl, fun w' hSw => ?_⟩) (by assumption) ?_
      · (try dsimp only at hSw)
        go_simp
      refine wpAnyH_take (i := 2) (v := (.int .i64 b)) rfl (by kernel_rfl) (by kernel_rfl) (by kernel_rfl) (fun _ _ _ h => h) (Or.inl ⟨by rfl, fun w' hSw => ?_⟩) (by assumption) ?_
      · (try dsimp only at hSw)
        go_simp
      refine wpAnyH_take (i := 3) (v := .agg (V).toArray) rfl (by kernel_rfl) (by kernel_rfl) (by kernel_rfl) (fun _ _ _ h => h) (yieldsIf_load_mid (by rfl) _ _ rfl _ _ rfl V _ (fun w' hSw => hSw.2.2.1) hu rfl hi1) (by assumption) ?_
      refine wpAnyH_take (i := 4) (v := (.pointer (some ⟨wr.heap.size, 1, none⟩))) rfl (by kernel_rfl) (by kernel_rfl) (by kernel_rfl) (fun _ _ _ h => h) (Or.inl ⟨by rfl, fun w' hSw => ?_⟩) (by assumption) ?_
      · (try dsimp only at hSw)
        go_simp
      refine wpAnyH_take (i := 5) (v := (.slice (some ⟨db, dof, none⟩) 64 dc)) rfl (by kernel_rfl) (by kernel_rfl) (by kernel_rfl) (fun _ _ _ h => h) (Or.inl ⟨by rfl, fun w' hSw => ?_⟩) (by assumption) ?_
      · (try dsimp only at hSw)
        go_simp
      refine wpAnyH_take (i := 6) (v := (.pointer (some ⟨db, dof, none⟩))) rfl (by kernel_rfl) (by kernel_rfl) (by kernel_rfl) (fun _ _ _ h => h) (Or.inl ⟨by rfl, fun w' hSw => ?_⟩) (by assumption) ?_
      · (try dsimp only at hSw)
        go_simp
      refine wpAnyH_take (i := 7) (v := .agg (U).toArray) rfl (by kernel_rfl) (by kernel_rfl) (by kernel_rfl) (fun _ _ _ h => h) (yieldsIf_load_mid (by rfl) _ _ rfl _ _ rfl U _ (fun w' hSw => hSw.2.2.2) hu rfl hi2) (by assumption) ?_
      refine wpAnyH_take (i := 8) (v := (.slice vc m cc)) rfl (by kernel_rfl) (by kernel_rfl) (by kernel_rfl) (fun _ _ _ h => h) (Or.inl ⟨by rfl, fun w' hSw => ?_⟩) (by assumption) ?_
      · (try dsimp only at hSw)
        go_simp
      refine wpAnyH_take (i := 9) (v := (.int .i64 k)) rfl (by kernel_rfl) (by kernel_rfl) (by kernel_rfl) (fun _ _ _ h => h) (Or.inl ⟨by rfl, fun w' hSw => ?_⟩) (by assumption) ?_
      · (try dsimp only at hSw)
        go_simp
      refine wpAnyH_ready (rs := [10]) (by kernel_rfl) (by simp) ?_
      refine AllReadyH.cons rfl (fun K hK => ?_) AllReadyH.nil
      go_simp
      go_at_call 86
      refine C86.out.mono ?_
      rintro e w' ⟨rfl, rfl⟩
      refine hK.out _ _ hHeld (fun _ => ?_)
      clear hK K
      refine wpAnyH_ready (rs := [11]) (by kernel_rfl) (by simp) ?_
      refine AllReadyH.cons rfl (fun K hK => ?_) AllReadyH.nil
      go_simp
      go_at_call 85
      refine C85.out.mono ?_
      rintro e w6 ⟨rfl, j0, j1, j2, j3, B6⟩
      refine hK.out _ _ ⟨j0, j1, j2, j3⟩ (fun hHeld6 => ?_)
      clear hK K hHeld
      refine wpAnyH_ready (rs := [12]) (by kernel_rfl) (by simp) ?_
      refine AllReadyH.cons rfl (fun K hK => ?_) AllReadyH.nil
      go_simp
      go_at_call 84
      refine (C84.out _ B6.out).mono ?_
      rintro e w7 ⟨rfl, l0, l1, l2, l3, O7, B7⟩
      refine hK.out _ _ ⟨l0, l1, l2, l3⟩ (fun hHeld7 => ?_)
      clear hK K hHeld6
      refine wpAnyH_done (by kernel_rfl) ?_ _
      clear j0 j1 j2 j3 l0 l1 l2 l3 hHeld7 k0 k1 k2 k3 hat C86 C85 C84 hu hi1 hi2 hvl hul HO HG
      go_wp2
      go_roundw
      case rel => exact ⟨k + 1, by omega, by go_num, O7, B7⟩
      case measure => simp [intOf]; omega
    · have hkn : k = n := by omega
      subst hkn
      obtain ⟨⟨z5, d0, d1⟩, f0, f1⟩ := XR2.out.belowB HG.out (by omega)
      go_wp2
      refine bodyPost_ret (v := .agg #[.slice (some ⟨g, 0, none⟩) dl cap, .slice none 0 0]) (by simp [results, Try.results47, go_sem, d0, d1]) rfl ⟨_, rfl, ?_, ?_⟩
      · refine Own.mono (base := g) ?_ (by omega)
        repeat (first | exact HO.out | refine Own.setAt ?_ (.inr (by simp [Value.ownBlock]; omega)))
      · repeat (first | exact BW.out | refine Below.setCell ?_ (by simp; try omega) _)

end Go.Proofs.Ytljljljpfbkdeaa
