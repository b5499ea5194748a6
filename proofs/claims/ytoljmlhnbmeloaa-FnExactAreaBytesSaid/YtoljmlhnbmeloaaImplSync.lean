import Derived.Test.YtoljmlhnbmeloaaSyncIter
import Derived.Test.YtoljmlhnbmeloaaSpecSettle
namespace Go.Proofs.Ytoljmlhnbmeloaa
open Go.RowKit Go.Shelf

attribute [local go_sem] Oper.semAt_some

set_option maxHeartbeats 2000000 in
set_option maxRecDepth 100000 in
theorem implSync_yes (w : World) (va vb : Option Addr) (dl ca n cb : Nat) (dur : List Int) (ps : List (Int × List Int)) (hd : Rd .u8 w (.slice va dl ca) dur) (hdl : dur.length = dl) (hp : RdW w (.slice vb n cb) ps) (hl : ps.length = n)
    (hv : vldD dl ps = true) (hd1 : dl ≤ 1048576) (hpd : ∀ i, (pD ps i).length ≤ 1048576) :
    Calls Try.prog 19 #[.agg #[.slice va dl ca, .slice vb n cb]] w fun e w' => ∃ v1, e = .returned (.agg #[v1, .slice none 0 0]) ∧ Own .u8 5 w' w.heap.size v1 (stl dur ps (fun _ => 64) n) ∧ Below w.heap.size w w' := by
  have HD : Hid (Rd .u8 w (.slice va dl ca) dur) := hd
  have HP : Hid (RdW w (.slice vb n cb) ps) := hp
  have HL : Hid (ps.length = n) := hl
  have HDL : Hid (dur.length = dl) := hdl
  have HV : Hid (vldD dl ps = true) := hv
  have HPD : Hid (∀ i, (pD ps i).length ≤ 1048576) := hpd
  have hdp : 0 < dl := by have := ((vldD_iff dl ps).1 hv).2.1; omega
  have hn2 : n ≤ 2000 := by have := ((vldD_iff dl ps).1 hv).2.2.2.1; omega
  have BA : Hid (∀ o1 o2, Below w.heap.size w ((w.alloc o1).alloc o2)) := fun o1 o2 => ((Below.refl _ _).alloc (Nat.le_refl _) _).alloc (by simp) _
  clear hd hp hl hdl hv hpd
  refine (callsIn_wide (n := 6)).1 ?_
  refine callsIn_of_wp_marks Try.func19 rfl trivial ?_ rfl
  simp only [Try.ntmps19, List.size_toArray, List.length_cons, List.length_nil, Nat.reduceAdd, Nat.reduceSub, Array.replicate_succ, Array.replicate_zero, List.push_toArray, List.append_toArray, List.nil_append, List.cons_append]
  gi_wp2_with fail
  refine ⟨trivial, ?_⟩
  have XA0 : Hid (BoxF ((w.alloc (.cells #[.slice va dl ca, .slice vb n cb] 32)).alloc (.cells #[.slice none 0 0, .slice none 0 0] 32)) w.heap.size (.slice va dl ca) (.slice vb n cb)) := (BoxF.new w _ _ _).below ((Below.refl _ _).alloc (Nat.le_refl _) _)
  have XR0 : Hid (BoxF ((w.alloc (.cells #[.slice va dl ca, .slice vb n cb] 32)).alloc (.cells #[.slice none 0 0, .slice none 0 0] 32)) (w.heap.size + 1) (.slice none 0 0) (.slice none 0 0)) := by
    have := BoxF.new (w.alloc (.cells #[.slice va dl ca, .slice vb n cb] 32)) (.slice none 0 0) (.slice none 0 0) 32
    show BoxF _ _ _ _
    simpa using this
  have B0 := BA.out (.cells #[.slice va dl ca, .slice vb n cb] 32) (.cells #[.slice none 0 0, .slice none 0 0] 32)
  have HB0 : Hid (Below w.heap.size w ((w.alloc (.cells #[.slice va dl ca, .slice vb n cb] 32)).alloc (.cells #[.slice none 0 0, .slice none 0 0] 32))) := B0
  clear B0 BA
  generalize (w.alloc (.cells #[.slice va dl ca, .slice vb n cb] 32)).alloc (.cells #[.slice none 0 0, .slice none 0 0] 32) = w0 at *
  refine (callsIn_wide.2 (implValid_any _ va vb dl ca n cb ps (HP.out.below HB0.out) HL.out hd1 (by omega) HPD.out)).mono ?_
  rintro e w1 ⟨rfl, b1⟩
  rw [HV.out]
  have HB1 : Hid (Below w.heap.size w w1) := HB0.out.trans (b1.mono HB0.out.size)
  have XA1 : Hid (BoxF w1 w.heap.size (.slice va dl ca) (.slice vb n cb)) := XA0.out.below b1
  have XR1 : Hid (BoxF w1 (w.heap.size + 1) (.slice none 0 0) (.slice none 0 0)) := XR0.out.below b1
  have s1 := HB1.out.size
  have zA1 := XA1.out.1.1
  have zR1 := XR1.out.1.1
  clear b1 XA0 XR0 HB0
  obtain ⟨⟨z1, c0, c1⟩, -⟩ := XA1.out
  gi_wp2_with fail
  refine ⟨trivial, ?_⟩
  refine (callsIn_wide.2 (clone_any _ _ dur (HD.out.below HB1.out) (by have := HDL.out; omega))).mono ?_
  rintro e w2 ⟨v2, rfl, o2, b2⟩
  obtain ⟨g, cap, rfl, hg0, hg1⟩ := o2.pos HDL.out hdp
  have O2 : Hid (Own .u8 5 w2 w1.heap.size (.slice (some ⟨g, 0, none⟩) dl cap) dur) := o2
  have HB2 : Hid (Below w.heap.size w w2) := HB1.out.trans (b2.mono s1)
  have XA2 : Hid (BoxF w2 w.heap.size (.slice va dl ca) (.slice vb n cb)) := XA1.out.below b2
  have XR2 : Hid (BoxF w2 (w.heap.size + 1) (.slice none 0 0) (.slice none 0 0)) := XR1.out.below b2
  have s2 := HB2.out.size
  clear o2 b2 XA1 XR1 HB1 z1 c0 c1
  obtain ⟨⟨z1, c0, c1⟩, -⟩ := XA2.out
  gi_wp2_with fail
  refine ⟨trivial, ?_⟩
  have BA3 : Hid (Below w2.heap.size w2 (w2.alloc (.cells #[.slice (some ⟨g, 0, none⟩) dl cap] 29))) := (Below.refl _ _).alloc (Nat.le_refl _) _
  have BX3 : Hid (Boxed (w2.alloc (.cells #[.slice (some ⟨g, 0, none⟩) dl cap] 29)) w2.heap.size 29 (.slice (some ⟨g, 0, none⟩) dl cap)) := Boxed.new _ _ _
  have s3 : (w2.alloc (.cells #[.slice (some ⟨g, 0, none⟩) dl cap] 29)).heap.size = w2.heap.size + 1 := by simp
  clear z1 c0 c1
  generalize w2.alloc (.cells #[.slice (some ⟨g, 0, none⟩) dl cap] 29) = w3 at *
  have O3 : Hid (Own .u8 5 w3 w1.heap.size (.slice (some ⟨g, 0, none⟩) dl cap) dur) := O2.out.below BA3.out
  have HB3 : Hid (Below w.heap.size w w3) := HB2.out.trans (BA3.out.mono s2)
  have XR3 : Hid (BoxF w3 (w.heap.size + 1) (.slice none 0 0) (.slice none 0 0)) := XR2.out.below BA3.out
  clear O2 HB2 XA2 XR2 BA3
  refine (callsIn_wide.2 (youngest_any w3 va vb dl ca n cb dur ps HDL.out (HP.out.below HB3.out) HL.out HV.out)).mono ?_
  rintro e w4 ⟨rfl, ⟨tv, rs, ht, hof⟩, b4⟩
  have O4 : Hid (Own .u8 5 w4 w1.heap.size (.slice (some ⟨g, 0, none⟩) dl cap) dur) := O3.out.below b4
  have HB4 : Hid (Below w.heap.size w w4) := HB3.out.trans (b4.mono (by omega))
  have XR4 : Hid (BoxF w4 (w.heap.size + 1) (.slice none 0 0) (.slice none 0 0)) := XR3.out.below b4
  have BX4 : Hid (Boxed w4 w2.heap.size 29 (.slice (some ⟨g, 0, none⟩) dl cap)) := (b4.block w2.heap.size (by omega)).trans BX3.out
  have HT4 : Hid (Tab w4 (w3.heap.size + 1) (w3.heap.size + 2) (w3.heap.size + 1) tv rs) := ht
  have HOF : Hid (TabOf dur ps n rs) := hof
  have s4 := ht.box.1.1
  clear b4 O3 HB3 XR3 BX3 ht hof
  gi_wp2_with fail
  refine ⟨trivial, ?_⟩
  refine (all_in Fence.wide _ trivial rfl _ _).mono ?_
  rintro e w5 ⟨rfl, hw5⟩
  have s5 : w5.heap.size = w4.heap.size + 1 := by rw [hw5]; simp
  have b5 : Below w4.heap.size w4 w5 := by rw [hw5]; exact (Below.refl _ _).alloc (Nat.le_refl _) _
  have BX5a : Hid (w5.cell? ⟨w4.heap.size, 0, none⟩ = some (.pointer (some ⟨w3.heap.size + 2, 0, none⟩))) := by rw [hw5]; show _ = _; simp
  have O5 : Hid (Own .u8 5 w5 w1.heap.size (.slice (some ⟨g, 0, none⟩) dl cap) dur) := O4.out.below b5
  have HB5 : Hid (Below w.heap.size w w5) := HB4.out.trans (b5.mono (by omega))
  have XR5 : Hid (BoxF w5 (w.heap.size + 1) (.slice none 0 0) (.slice none 0 0)) := XR4.out.below b5
  have BX5 : Hid (Boxed w5 w2.heap.size 29 (.slice (some ⟨g, 0, none⟩) dl cap)) := (b5.block w2.heap.size (by omega)).trans BX4.out
  have HT5 : Hid (Tab w5 (w3.heap.size + 1) (w3.heap.size + 2) (w3.heap.size + 1) tv rs) := HT4.out.below b5
  clear hw5 b5 O4 HB4 XR4 BX4 HT4
  gi_wp2_with fail
  have hfit : ∀ r ∈ rs, Fits dl r := fits_of dl rs (fun i hi => by have := HOF.out.2 i hi; rw [HDL.out] at this; exact this) HT5.out.full
  have hvb : ∀ q, tv.ownBlock = some q → q < w5.heap.size ∧ q ≠ g := fun q hq => by have := World.ownsRow.lt HT5.out.rows q hq; omega
  have hrl := HT5.out.len
  have hfin : lays dur rs = stl dur ps (fun _ => 64) n := by
    have := lays_stl dur ps rs (by rw [HDL.out]; exact HV.out) (by rw [HL.out]; exact HOF.out) HT5.out.full HT5.out.apart
    rw [HL.out] at this; exact this
  have HFIN : Hid (lays dur rs = stl dur ps (fun _ => 64) n) := hfin
  clear hfin
  refine wpIn_rangeFunc_ownH (F := Fence.wide) (n := 6) rfl (by omega) (gf := 79) (lb := #[.pointer (some ⟨w4.heap.size, 0, none⟩)]) rfl trivial (enters_of Try.func79 (by kernel_rfl) rfl)
    (all_stops Fence.wide (6 - 1) trivial rfl (by omega) w4.heap.size w5.heap.size g _ _ _ dl tv rs hfit w5 (Nat.le_refl _) (by omega) hvb BX5a.out HT5.out hrl)
    (fun h k => KB.trans h k)
    (fun W l o o' hl h _ _ => ⟨(grownBy_putObj' W l o').size, fun q hq _ => (grownBy_putObj' W l o').block q (by have := (Array.getElem?_eq_some_iff.1 h).1; omega) (fun e => by injection e with e; omega)⟩)
    (Below.refl _ _) (fun _ => rfl)
    (fun pre W => Boxed W w2.heap.size 29 (.slice (some ⟨g, 0, none⟩) dl cap) ∧ Own .u8 5 W w1.heap.size (.slice (some ⟨g, 0, none⟩) dl cap) (lays dur (pre.map (·.1))) ∧ BoxF W (w.heap.size + 1) (.slice none 0 0) (.slice none 0 0) ∧ Below w.heap.size w W ∧ w5.heap.size ≤ W.heap.size)
    (fun _ _ _ => False)
    (fun s X Y row hs hg hr => ⟨(hg.block w2.heap.size (by have := hs.2.2.2.2; omega) (fun e => by have := (hr _ e.symm).1; omega)).trans hs.1, hs.2.1.other hg (.inr (fun e => by have := (hr g (by rw [← e]; rfl)).1; omega)), hs.2.2.1.other hg (fun e => by have := (hr _ e.symm).1; omega), hs.2.2.2.1.grown hg (by have := hs.2.2.2.1.size; omega) (fun q e => by have := (hr q e).1; omega), Nat.le_trans hs.2.2.2.2 hg.size⟩)
    (fun _ _ _ _ _ hs _ _ => hs)
    ⟨BX5.out, O5.out, XR5.out, HB5.out, Nat.le_refl _⟩
    (fun x a' W => ∃ Bx, w5.heap.size ≤ Bx ∧ W.heap[Bx]? = some (.cells (x.1.2.map (Value.int .u8)).toArray 75 (0, 0)) ∧ a' = { tmps := #[.agg #[.slice va dl ca, .slice vb n cb], .pointer (some ⟨w.heap.size, 0, none⟩), .pointer (some ⟨w.heap.size + 1, 0, none⟩), .pointer (some ⟨w2.heap.size, 0, none⟩), .int .i64 x.1.1, .pointer (some ⟨Bx, 0, none⟩), .agg #[.slice va dl ca, .slice vb n cb], .bool true, .bool false, undef, .pointer (some ⟨w.heap.size, 0, none⟩), .slice va dl ca, .slice (some ⟨g, 0, none⟩) dl cap, .agg #[.slice va dl ca, .slice vb n cb], .pointer (some ⟨w2.heap.size + 1 + 2, 0, none⟩), .func (.func 79) #[] #[.pointer (some ⟨w4.heap.size, 0, none⟩)], .int .i64 x.1.1, .agg (x.1.2.map (Value.int .u8)).toArray, undef, undef, undef, undef, undef, undef], defers := [] })
    (fun x a' _ X Y row hs hg hr => by
      obtain ⟨Bx, h1, h2, h3⟩ := hs
      exact ⟨Bx, h1, (hg.block Bx (Array.getElem?_eq_some_iff.1 h2).1 (fun e => by obtain ⟨-, o, ho, hc⟩ := hr Bx e.symm; rw [h2] at ho; injection ho with ho; rw [← ho] at hc; cases hc)).trans h2, h3⟩)
    ?assign ?body ?done ?stop
  case assign =>
    rintro l pre ⟨⟨key, Vb⟩, b, hb1, hb2, hVb⟩ W K hi hK
    unfold encR
    dsimp only at hb1 hVb ⊢
    subst hb1
    have HVL : Hid ((Vb.map (Value.int .u8)).length = 64) := by show _ = _; rw [List.length_map]; exact hVb
    gi_wp2_with (refine wpListIn_fill rfl 75 _ _ rfl (Vb.map (Value.int .u8)).toArray rfl rfl (by rw [List.size_toArray, HVL.out]; rfl) (by rw [List.size_toArray]; exact sizeA _ HVL.out) (all_oneCell_toArray (ints_oneCell _ _)) ?_)
    have hs := hi.2.2.2.2
    refine hK _ _ ((KeepsOthers.alloc _ _).from _) ((KB.refl _ _ W).alloc hs _) ⟨hi.1.alloc _, hi.2.1.below ((Below.refl _ _).alloc (Nat.le_refl _) _), hi.2.2.1.below ((Below.refl _ _).alloc (Nat.le_refl _) _), hi.2.2.2.1.alloc hi.2.2.2.1.size _, by simp; omega⟩ ⟨W.heap.size, hs, heap_alloc_new W _, rfl⟩
  case body =>
    rintro l pre ⟨⟨key, Vb⟩, b, hb1, hb2, hVb⟩ a' W hl ⟨r, hr⟩ ⟨bX, oW, xR, hB, hs⟩ ⟨Bx, hBx, hcell, rfl⟩ hlt
    dsimp only at hb1 hVb hcell ⊢
    subst hb1
    have cX := bX.cell
    have hmem : ∀ q ∈ pre.map (·.1), Fits dl q := by
      intro q hq
      obtain ⟨y, -, rfl⟩ := List.mem_map.1 hq
      exact y.2
    have hlen : (lays dur (pre.map (·.1))).length = dl := by rw [lays_len dur _ (by rw [HDL.out]; exact hmem), HDL.out]
    have HVL : Hid ((Vb.map (Value.int .u8)).length = 64) := by show _ = _; rw [List.length_map]; exact hVb
    have RG : Hid (W.rangeAt Bx 0 (Vb.map (Value.int .u8))) := by
      intro j u hu
      rw [Nat.zero_add, cell_of_row W Bx j _ _ _ hcell]
      simpa using hu
    gi_wp2_with (refine wpListIn_load_mid rfl 75 _ rfl Bx 0 rfl (Vb.map (Value.int .u8)) _ RG.out Try.underlying75 rfl (sizeA _ HVL.out) ?_)
    refine ⟨trivial, ?_⟩
    refine (CallsIn.inRound l (callsIn_wide.2 (setBlock_any W w1.heap.size g dl cap b _ Vb oW hlen hVb hb2 hd1))).mono ?_
    rintro e W' ⟨rfl, o', g'⟩
    have hgz : g < W.heap.size := (World.ownsRow.lt oW g rfl).2
    have SNOC : Hid (lays dur ((pre ++ [(⟨((b : Int), Vb), ⟨b, rfl, hb2, hVb⟩⟩ : RowF dl)]).map (·.1)) = splice (lays dur (pre.map (·.1))) (b * 64) Vb) := by
      show _ = _
      rw [List.map_append, List.map_cons, List.map_nil, lays_snoc, Int.toNat_natCast]
    gi_wp2
    refine ⟨KeepsFrom.of_grownBy g' (fun j e => by injection e with e; omega), ⟨g'.size, fun q hq hn => g'.block q (by omega) (by simpa using hn)⟩, ⟨(g'.block w2.heap.size (by omega) (by simp; omega)).trans bX, ?_, xR.other g' (by simp; omega), hB.grown g' (by have := hB.size; omega) (fun q e => by injection e with e; omega), Nat.le_trans hs g'.size⟩⟩
    rw [SNOC.out]; exact o'
  case done =>
    rintro D xs W hD rfl ⟨bX, oW, xR, hB, hs⟩ hK
    rw [rowsF_map, HFIN.out] at oW
    have cX := bX.cell
    obtain ⟨⟨zr, d0, d1⟩, f0, f1⟩ := xR
    have HO : Hid (Own .u8 5 W w1.heap.size (.slice (some ⟨g, 0, none⟩) dl cap) (stl dur ps (fun _ => 64) n)) := oW
    gi_wp2
    have hK2 : ((W.setCell ⟨w.heap.size + 1, 0, none⟩ (.slice (some ⟨g, 0, none⟩) dl cap)).setCell ⟨w.heap.size + 1, 1, none⟩ (.slice none 0 0)).heap[D]? = some (.deferred (some [])) := (KeepsOthers.setCell _ _ _).same D _ ((KeepsOthers.setCell _ _ _).same D _ hK rfl) rfl
    refine ⟨by simp, .inl ⟨_, _, rfl, run_takeDeferred hK2, ?_⟩⟩
    have x0 : ((W.setCell ⟨w.heap.size + 1, 0, none⟩ (.slice (some ⟨g, 0, none⟩) dl cap)).setCell ⟨w.heap.size + 1, 1, none⟩ (.slice none 0 0)).cell? ⟨w.heap.size + 1, 0, none⟩ = some (.slice (some ⟨g, 0, none⟩) dl cap) := by
      rw [World.cell?_setCell_other _ _ _ _ (by simp)]; exact World.cell?_setCell_same _ _ _ d0
    have x1 : ((W.setCell ⟨w.heap.size + 1, 0, none⟩ (.slice (some ⟨g, 0, none⟩) dl cap)).setCell ⟨w.heap.size + 1, 1, none⟩ (.slice none 0 0)).cell? ⟨w.heap.size + 1, 1, none⟩ = some (.slice none 0 0) :=
      World.cell?_setCell_same _ _ _ (by rw [World.cell?_setCell_other _ _ _ _ (by simp)]; exact d1)
    have OX : Own .u8 5 ((W.setCell ⟨w.heap.size + 1, 0, none⟩ (.slice (some ⟨g, 0, none⟩) dl cap)).setCell ⟨w.heap.size + 1, 1, none⟩ (.slice none 0 0)) w1.heap.size (.slice (some ⟨g, 0, none⟩) dl cap) (stl dur ps (fun _ => 64) n) :=
      (HO.out.setAt (.inr (by simp [Value.ownBlock]; omega))).setAt (.inr (by simp [Value.ownBlock]; omega))
    have BX : Below w.heap.size w ((W.setCell ⟨w.heap.size + 1, 0, none⟩ (.slice (some ⟨g, 0, none⟩) dl cap)).setCell ⟨w.heap.size + 1, 1, none⟩ (.slice none 0 0)) := (hB.setCell (by simp) _).setCell (by simp) _
    have SX : ((W.setCell ⟨w.heap.size + 1, 0, none⟩ (.slice (some ⟨g, 0, none⟩) dl cap)).setCell ⟨w.heap.size + 1, 1, none⟩ (.slice none 0 0)).heap.size = W.heap.size := by simp
    generalize (W.setCell ⟨w.heap.size + 1, 0, none⟩ (.slice (some ⟨g, 0, none⟩) dl cap)).setCell ⟨w.heap.size + 1, 1, none⟩ (.slice none 0 0) = X at *
    have GX := grownBy_putObj' X D (.deferred none)
    have y0 := (World.cell?_of_block (w := X) (a := ⟨w.heap.size + 1, 0, none⟩) (GX.block (w.heap.size + 1) (by omega) (by simp; omega))).trans x0
    have y1 := (World.cell?_of_block (w := X) (a := ⟨w.heap.size + 1, 1, none⟩) (GX.block (w.heap.size + 1) (by omega) (by simp; omega))).trans x1
    have OF : Own .u8 5 (X.putObj D (.deferred none)) w1.heap.size (.slice (some ⟨g, 0, none⟩) dl cap) (stl dur ps (fun _ => 64) n) := OX.other GX (.inr (by simp [Value.ownBlock]; omega))
    have BF : Below w.heap.size w (X.putObj D (.deferred none)) := BX.grown GX (by omega) (fun q e => by injection e with e; omega)
    generalize X.putObj D (.deferred none) = Z at *
    refine ⟨.agg #[.slice (some ⟨g, 0, none⟩) dl cap, .slice none 0 0], ?_, _, rfl, OF.mono s1, BF⟩
    simp [results, Try.results19, go_sem, y0, y1]
  case stop =>
    rintro D c pre W _ _ h _
    exact h.elim

end Go.Proofs.Ytoljmlhnbmeloaa
