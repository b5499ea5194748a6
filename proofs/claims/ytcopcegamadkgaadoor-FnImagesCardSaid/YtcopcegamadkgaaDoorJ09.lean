import Derived.Test.YtcopcegamadkgaaDoorJ08
import Derived.Deep.RegionHeld3
import Derived.Test.YtcopcegamadkgaaDoorJ01
import Derived.Test.YtcopcegamadkgaaDoorJ06
import Derived.Test.YtcopcegamadkgaaDoorJ07
namespace Go.Proofs.YtcopcegamadkgaaDoor
open Go.RowKit Go.Shelf

attribute [local go_sem] Oper.semAt_some

set_option maxHeartbeats 2000000 in
set_option maxRecDepth 100000 in
theorem implSync_yes (w : World) (va vb : Option Addr) (dl ca n cb : Nat) (dur : List Int) (ps : List (Int × List Int)) (hd : Rd .u8 w (.slice va dl ca) dur) (hdl : dur.length = dl) (hp : RdW w (.slice vb n cb) ps) (hl : ps.length = n)
    (hv : vldD dl ps = true) (hd1 : dl ≤ 1048576) (hpd : ∀ i, (pD ps i).length ≤ 1048576) :
    Calls Tryd.prog 102 #[.agg #[.slice va dl ca, .slice vb n cb]] w fun e w' => ∃ v1, e = .returned (.agg #[v1, .slice none 0 0]) ∧ Own .u8 5 w' w.heap.size v1 (stl dur ps (fun _ => 64) n) ∧ Below w.heap.size w w' := by
  have HD : Hid (Rd .u8 w (.slice va dl ca) dur) := hd
  have HP : Hid (RdW w (.slice vb n cb) ps) := hp
  have HL : Hid (ps.length = n) := hl
  have HDL : Hid (dur.length = dl) := hdl
  have HV : Hid (vldD dl ps = true) := hv
  have HPD : Hid (∀ i, (pD ps i).length ≤ 1048576) := hpd
  have hdp : 0 < dl := by have := ((vldD_iff dl ps).1 hv).2.1; omega
  have hn2 : n ≤ 2000 := by have := ((vldD_iff dl ps).1 hv).2.2.2.1; omega
  have BA : Hid (∀ o1 o2, Below w.heap.size w ((w.alloc o1).alloc o2)) := fun o1 o2 => ((Below.refl _ _).alloc (Nat.le_refl _) _).alloc (by simp) _
  clear hd hp hl hdl hv hpd
  refine (callsIn_wide (n := 6)).1 ?_
  refine callsIn_of_wp_marks Tryd.func102 rfl trivial ?_ rfl
  simp only [Tryd.ntmps102, List.size_toArray, List.length_cons, List.length_nil, Nat.reduceAdd, Nat.reduceSub, Array.replicate_succ, Array.replicate_zero, List.push_toArray, List.append_toArray, List.nil_append, List.cons_append]
  gi_wp2_with fail
  refine ⟨trivial, ?_⟩
  have XA0 : Hid (BoxF ((w.alloc (.cells #[.slice va dl ca, .slice vb n cb] 27)).alloc (.cells #[.slice none 0 0, .slice none 0 0] 27)) w.heap.size (.slice va dl ca) (.slice vb n cb)) := (BoxF.new w _ _ _).below ((Below.refl _ _).alloc (Nat.le_refl _) _)
  have XR0 : Hid (BoxF ((w.alloc (.cells #[.slice va dl ca, .slice vb n cb] 27)).alloc (.cells #[.slice none 0 0, .slice none 0 0] 27)) (w.heap.size + 1) (.slice none 0 0) (.slice none 0 0)) := by
    have := BoxF.new (w.alloc (.cells #[.slice va dl ca, .slice vb n cb] 27)) (.slice none 0 0) (.slice none 0 0) 27
    show BoxF _ _ _ _
    simpa using this
  have B0 := BA.out (.cells #[.slice va dl ca, .slice vb n cb] 27) (.cells #[.slice none 0 0, .slice none 0 0] 27)
  have HB0 : Hid (Below w.heap.size w ((w.alloc (.cells #[.slice va dl ca, .slice vb n cb] 27)).alloc (.cells #[.slice none 0 0, .slice none 0 0] 27))) := B0
  clear B0 BA
  generalize (w.alloc (.cells #[.slice va dl ca, .slice vb n cb] 27)).alloc (.cells #[.slice none 0 0, .slice none 0 0] 27) = w0 at *
  refine (callsIn_wide.2 (implValid_any _ va vb dl ca n cb ps (HP.out.below HB0.out) HL.out hd1 (by omega) HPD.out)).mono ?_
  rintro e w1 ⟨rfl, b1⟩
  rw [HV.out]
  have HB1 : Hid (Below w.heap.size w w1) := HB0.out.trans (b1.mono HB0.out.size)
  have XA1 : Hid (BoxF w1 w.heap.size (.slice va dl ca) (.slice vb n cb)) := XA0.out.below b1
  have XR1 : Hid (BoxF w1 (w.heap.size + 1) (.slice none 0 0) (.slice none 0 0)) := XR0.out.below b1
  have s1 := HB1.out.size
  have zA1 := XA1.out.1.1
  have zR1 := XR1.out.1.1
  clear b1 XA0 XR0 HB0
  obtain ⟨⟨z1, c0, c1⟩, -⟩ := XA1.out
  gi_wp2_with fail
  refine ⟨trivial, ?_⟩
  refine (callsIn_wide.2 (clone_any _ _ dur (HD.out.below HB1.out) (by have := HDL.out; omega))).mono ?_
  rintro e w2 ⟨v2, rfl, o2, b2⟩
  obtain ⟨g, cap, rfl, hg0, hg1⟩ := o2.pos HDL.out hdp
  have O2 : Hid (Own .u8 5 w2 w1.heap.size (.slice (some ⟨g, 0, none⟩) dl cap) dur) := o2
  have HB2 : Hid (Below w.heap.size w w2) := HB1.out.trans (b2.mono s1)
  have XA2 : Hid (BoxF w2 w.heap.size (.slice va dl ca) (.slice vb n cb)) := XA1.out.below b2
  have XR2 : Hid (BoxF w2 (w.heap.size + 1) (.slice none 0 0) (.slice none 0 0)) := XR1.out.below b2
  have s2 := HB2.out.size
  clear o2 b2 XA1 XR1 HB1 z1 c0 c1
  obtain ⟨⟨z1, c0, c1⟩, -⟩ := XA2.out
  gi_wp2_with fail
  refine ⟨trivial, ?_⟩
  have BA3 : Hid (Below w2.heap.size w2 (w2.alloc (.cells #[.slice (some ⟨g, 0, none⟩) dl cap] 24))) := (Below.refl _ _).alloc (Nat.le_refl _) _
  have BX3 : Hid (Boxed (w2.alloc (.cells #[.slice (some ⟨g, 0, none⟩) dl cap] 24)) w2.heap.size 24 (.slice (some ⟨g, 0, none⟩) dl cap)) := Boxed.new _ _ _
  have s3 : (w2.alloc (.cells #[.slice (some ⟨g, 0, none⟩) dl cap] 24)).heap.size = w2.heap.size + 1 := by simp
  clear z1 c0 c1
  generalize w2.alloc (.cells #[.slice (some ⟨g, 0, none⟩) dl cap] 24) = w3 at *
  have O3 : Hid (Own .u8 5 w3 w1.heap.size (.slice (some ⟨g, 0, none⟩) dl cap) dur) := O2.out.below BA3.out
  have HB3 : Hid (Below w.heap.size w w3) := HB2.out.trans (BA3.out.mono s2)
  have XR3 : Hid (BoxF w3 (w.heap.size + 1) (.slice none 0 0) (.slice none 0 0)) := XR2.out.below BA3.out
  clear O2 HB2 XA2 XR2 BA3
  refine (callsIn_wide.2 (youngest_any w3 va vb dl ca n cb dur ps HDL.out (HP.out.below HB3.out) HL.out HV.out)).mono ?_
  rintro e w4 ⟨rfl, ⟨tv, rs, ht, hof⟩, b4⟩
  have O4 : Hid (Own .u8 5 w4 w1.heap.size (.slice (some ⟨g, 0, none⟩) dl cap) dur) := O3.out.below b4
  have HB4 : Hid (Below w.heap.size w w4) := HB3.out.trans (b4.mono (by omega))
  have XR4 : Hid (BoxF w4 (w.heap.size + 1) (.slice none 0 0) (.slice none 0 0)) := XR3.out.below b4
  have BX4 : Hid (Boxed w4 w2.heap.size 24 (.slice (some ⟨g, 0, none⟩) dl cap)) := (b4.block w2.heap.size (by omega)).trans BX3.out
  have HT4 : Hid (Tab w4 (w3.heap.size + 1) (w3.heap.size + 2) (w3.heap.size + 1) tv rs) := ht
  have HOF : Hid (TabOf dur ps n rs) := hof
  have s4 := ht.box.1.1
  clear b4 O3 HB3 XR3 BX3 ht hof
  gi_wp2_with fail
  refine ⟨trivial, ?_⟩
  refine (all_in Fence.wide _ trivial rfl _ _).mono ?_
  rintro e w5 ⟨rfl, hw5⟩
  have s5 : w5.heap.size = w4.heap.size + 1 := by rw [hw5]; simp
  have b5 : Below w4.heap.size w4 w5 := by rw [hw5]; exact (Below.refl _ _).alloc (Nat.le_refl _) _
  have BX5a : Hid (w5.cell? ⟨w4.heap.size, 0, none⟩ = some (.pointer (some ⟨w3.heap.size + 2, 0, none⟩))) := by rw [hw5]; show _ = _; simp
  have O5 : Hid (Own .u8 5 w5 w1.heap.size (.slice (some ⟨g, 0, none⟩) dl cap) dur) := O4.out.below b5
  have HB5 : Hid (Below w.heap.size w w5) := HB4.out.trans (b5.mono (by omega))
  have XR5 : Hid (BoxF w5 (w.heap.size + 1) (.slice none 0 0) (.slice none 0 0)) := XR4.out.below b5
  have BX5 : Hid (Boxed w5 w2.heap.size 24 (.slice (some ⟨g, 0, none⟩) dl cap)) := (b5.block w2.heap.size (by omega)).trans BX4.out
  have HT5 : Hid (Tab w5 (w3.heap.size + 1) (w3.heap.size + 2) (w3.heap.size + 1) tv rs) := HT4.out.below b5
  clear hw5 b5 O4 HB4 XR4 BX4 HT4
  gi_wp2_with fail
  have hfit : ∀ r ∈ rs, Fits dl r := fits_of dl rs (fun i hi => by have := HOF.out.2 i hi; rw [HDL.out] at this; exact this) HT5.out.full
  have hvb : ∀ q, tv.ownBlock = some q → q < w5.heap.size ∧ q ≠ g := fun q hq => by have := World.ownsRow.lt HT5.out.rows q hq; omega
  have hrl := HT5.out.len
  have hfin : lays dur rs = stl dur ps (fun _ => 64) n := by
    have := lays_stl dur ps rs (by rw [HDL.out]; exact HV.out) (by rw [HL.out]; exact HOF.out) HT5.out.full HT5.out.apart
    rw [HL.out] at this; exact this
  have HFIN : Hid (lays dur rs = stl dur ps (fun _ => 64) n) := hfin
  clear hfin
  refine wpIn_rangeFunc_ownH (F := Fence.wide) (n := 6) rfl (by omega) (gf := 154) (lb := #[.pointer (some ⟨w4.heap.size, 0, none⟩)]) rfl trivial (enters_of Tryd.func154 (by kernel_rfl) rfl)
    (all_stops Fence.wide (6 - 1) trivial rfl (by omega) w4.heap.size w5.heap.size g _ _ _ dl tv rs hfit w5 (Nat.le_refl _) (by omega) hvb BX5a.out HT5.out hrl)
    (fun h k => KB.trans h k)
    (fun W l o o' hl h _ _ => ⟨(grownBy_putObj' W l o').size, fun q hq _ => (grownBy_putObj' W l o').block q (by have := (Array.getElem?_eq_some_iff.1 h).1; omega) (fun e => by injection e with e; omega)⟩)
    (Below.refl _ _) (fun _ => rfl)
    (fun pre W => Boxed W w2.heap.size 24 (.slice (some ⟨g, 0, none⟩) dl cap) ∧ Own .u8 5 W w1.heap.size (.slice (some ⟨g, 0, none⟩) dl cap) (lays dur (pre.map (·.1))) ∧ BoxF W (w.heap.size + 1) (.slice none 0 0) (.slice none 0 0) ∧ Below w.heap.size w W ∧ w5.heap.size ≤ W.heap.size)
    (fun _ _ _ => False)
    (fun s X Y row hs hg hr => ⟨(hg.block w2.heap.size (by have := hs.2.2.2.2; omega) (fun e => by have := (hr _ e.symm).1; omega)).trans hs.1, hs.2.1.other hg (.inr (fun e => by have := (hr g (by rw [← e]; rfl)).1; omega)), hs.2.2.1.other hg (fun e => by have := (hr _ e.symm).1; omega), hs.2.2.2.1.grown hg (by have := hs.2.2.2.1.size; omega) (fun q e => by have := (hr q e).1; omega), Nat.le_trans hs.2.2.2.2 hg.size⟩)
    (fun _ _ _ _ _ hs _ _ => hs)
    ⟨BX5.out, O5.out, XR5.out, HB5.out, Nat.le_refl _⟩
    (fun x a' W => ∃ Bx, w5.heap.size ≤ Bx ∧ W.heap[Bx]? = some (.cells (x.1.2.map (Value.int .u8)).toArray 77 (0, 0)) ∧ a' = { tmps := #[.agg #[.slice va dl ca, .slice vb n cb], .pointer (some ⟨w.heap.size, 0, none⟩), .pointer (some ⟨w.heap.size + 1, 0, none⟩), .pointer (some ⟨w2.heap.size, 0, none⟩), .int .i64 x.1.1, .pointer (some ⟨Bx, 0, none⟩), .agg #[.slice va dl ca, .slice vb n cb], .bool true, .bool false, undef, .pointer (some ⟨w.heap.size, 0, none⟩), .slice va dl ca, .slice (some ⟨g, 0, none⟩) dl cap, .agg #[.slice va dl ca, .slice vb n cb], .pointer (some ⟨w2.heap.size + 1 + 2, 0, none⟩), .func (.func 154) #[] #[.pointer (some ⟨w4.heap.size, 0, none⟩)], .int .i64 x.1.1, .agg (x.1.2.map (Value.int .u8)).toArray, undef, undef, undef, undef, undef, undef], defers := [] })
    (fun x a' _ X Y row hs hg hr => by
      obtain ⟨Bx, h1, h2, h3⟩ := hs
      exact ⟨Bx, h1, (hg.block Bx (Array.getElem?_eq_some_iff.1 h2).1 (fun e => by obtain ⟨-, o, ho, hc⟩ := hr Bx e.symm; rw [h2] at ho; injection ho with ho; rw [← ho] at hc; cases hc)).trans h2, h3⟩)
    ?assign ?body ?done ?stop
  case assign =>
    rintro l pre ⟨⟨key, Vb⟩, b, hb1, hb2, hVb⟩ W K hi hK
    unfold encR
    dsimp only at hb1 hVb ⊢
    subst hb1
    have HVL : Hid ((Vb.map (Value.int .u8)).length = 64) := by show _ = _; rw [List.length_map]; exact hVb
    gi_wp2_with (refine wpListIn_fill rfl 77 _ _ rfl (Vb.map (Value.int .u8)).toArray rfl rfl (by rw [List.size_toArray, HVL.out]; rfl) (by rw [List.size_toArray]; exact sizeA _ HVL.out) (all_oneCell_toArray (ints_oneCell _ _)) ?_)
    have hs := hi.2.2.2.2
    refine hK _ _ ((KeepsOthers.alloc _ _).from _) ((KB.refl _ _ W).alloc hs _) ⟨hi.1.alloc _, hi.2.1.below ((Below.refl _ _).alloc (Nat.le_refl _) _), hi.2.2.1.below ((Below.refl _ _).alloc (Nat.le_refl _) _), hi.2.2.2.1.alloc hi.2.2.2.1.size _, by simp; omega⟩ ⟨W.heap.size, hs, heap_alloc_new W _, rfl⟩
  case body =>
    rintro l pre ⟨⟨key, Vb⟩, b, hb1, hb2, hVb⟩ a' W hl ⟨r, hr⟩ ⟨bX, oW, xR, hB, hs⟩ ⟨Bx, hBx, hcell, rfl⟩ hlt
    dsimp only at hb1 hVb hcell ⊢
    subst hb1
    have cX := bX.cell
    have hmem : ∀ q ∈ pre.map (·.1), Fits dl q := by
      intro q hq
      obtain ⟨y, -, rfl⟩ := List.mem_map.1 hq
      exact y.2
    have hlen : (lays dur (pre.map (·.1))).length = dl := by rw [lays_len dur _ (by rw [HDL.out]; exact hmem), HDL.out]
    have HVL : Hid ((Vb.map (Value.int .u8)).length = 64) := by show _ = _; rw [List.length_map]; exact hVb
    have RG : Hid (W.rangeAt Bx 0 (Vb.map (Value.int .u8))) := by
      intro j u hu
      rw [Nat.zero_add, cell_of_row W Bx j _ _ _ hcell]
      simpa using hu
    gi_wp2_with (refine wpListIn_load_mid rfl 77 _ rfl Bx 0 rfl (Vb.map (Value.int .u8)) _ RG.out Tryd.underlying77 rfl (sizeA _ HVL.out) ?_)
    refine ⟨trivial, ?_⟩
    refine (CallsIn.inRound l (callsIn_wide.2 (setBlock_any W w1.heap.size g dl cap b _ Vb oW hlen hVb hb2 hd1))).mono ?_
    rintro e W' ⟨rfl, o', g'⟩
    have hgz : g < W.heap.size := (World.ownsRow.lt oW g rfl).2
    have SNOC : Hid (lays dur ((pre ++ [(⟨((b : Int), Vb), ⟨b, rfl, hb2, hVb⟩⟩ : RowF dl)]).map (·.1)) = splice (lays dur (pre.map (·.1))) (b * 64) Vb) := by
      show _ = _
      rw [List.map_append, List.map_cons, List.map_nil, lays_snoc, Int.toNat_natCast]
    gi_wp2
    refine ⟨KeepsFrom.of_grownBy g' (fun j e => by injection e with e; omega), ⟨g'.size, fun q hq hn => g'.block q (by omega) (by simpa using hn)⟩, ⟨(g'.block w2.heap.size (by omega) (by simp; omega)).trans bX, ?_, xR.other g' (by simp; omega), hB.grown g' (by have := hB.size; omega) (fun q e => by injection e with e; omega), Nat.le_trans hs g'.size⟩⟩
    rw [SNOC.out]; exact o'
  case done =>
    rintro D xs W hD rfl ⟨bX, oW, xR, hB, hs⟩ hK
    rw [rowsF_map, HFIN.out] at oW
    have cX := bX.cell
    obtain ⟨⟨zr, d0, d1⟩, f0, f1⟩ := xR
    have HO : Hid (Own .u8 5 W w1.heap.size (.slice (some ⟨g, 0, none⟩) dl cap) (stl dur ps (fun _ => 64) n)) := oW
    gi_wp2
    have hK2 : ((W.setCell ⟨w.heap.size + 1, 0, none⟩ (.slice (some ⟨g, 0, none⟩) dl cap)).setCell ⟨w.heap.size + 1, 1, none⟩ (.slice none 0 0)).heap[D]? = some (.deferred (some [])) := (KeepsOthers.setCell _ _ _).same D _ ((KeepsOthers.setCell _ _ _).same D _ hK rfl) rfl
    refine ⟨by simp, .inl ⟨_, _, rfl, run_takeDeferred hK2, ?_⟩⟩
    have x0 : ((W.setCell ⟨w.heap.size + 1, 0, none⟩ (.slice (some ⟨g, 0, none⟩) dl cap)).setCell ⟨w.heap.size + 1, 1, none⟩ (.slice none 0 0)).cell? ⟨w.heap.size + 1, 0, none⟩ = some (.slice (some ⟨g, 0, none⟩) dl cap) := by
      rw [World.cell?_setCell_other _ _ _ _ (by simp)]; exact World.cell?_setCell_same _ _ _ d0
    have x1 : ((W.setCell ⟨w.heap.size + 1, 0, none⟩ (.slice (some ⟨g, 0, none⟩) dl cap)).setCell ⟨w.heap.size + 1, 1, none⟩ (.slice none 0 0)).cell? ⟨w.heap.size + 1, 1, none⟩ = some (.slice none 0 0) :=
      World.cell?_setCell_same _ _ _ (by rw [World.cell?_setCell_other _ _ _ _ (by simp)]; exact d1)
    have OX : Own .u8 5 ((W.setCell ⟨w.heap.size + 1, 0, none⟩ (.slice (some ⟨g, 0, none⟩) dl cap)).setCell ⟨w.heap.size + 1, 1, none⟩ (.slice none 0 0)) w1.heap.size (.slice (some ⟨g, 0, none⟩) dl cap) (stl dur ps (fun _ => 64) n) :=
      (HO.out.setAt (.inr (by simp [Value.ownBlock]; omega))).setAt (.inr (by simp [Value.ownBlock]; omega))
    have BX : Below w.heap.size w ((W.setCell ⟨w.heap.size + 1, 0, none⟩ (.slice (some ⟨g, 0, none⟩) dl cap)).setCell ⟨w.heap.size + 1, 1, none⟩ (.slice none 0 0)) := (hB.setCell (by simp) _).setCell (by simp) _
    have SX : ((W.setCell ⟨w.heap.size + 1, 0, none⟩ (.slice (some ⟨g, 0, none⟩) dl cap)).setCell ⟨w.heap.size + 1, 1, none⟩ (.slice none 0 0)).heap.size = W.heap.size := by simp
    generalize (W.setCell ⟨w.heap.size + 1, 0, none⟩ (.slice (some ⟨g, 0, none⟩) dl cap)).setCell ⟨w.heap.size + 1, 1, none⟩ (.slice none 0 0) = X at *
    have GX := grownBy_putObj' X D (.deferred none)
    have y0 := (World.cell?_of_block (w := X) (a := ⟨w.heap.size + 1, 0, none⟩) (GX.block (w.heap.size + 1) (by omega) (by simp; omega))).trans x0
    have y1 := (World.cell?_of_block (w := X) (a := ⟨w.heap.size + 1, 1, none⟩) (GX.block (w.heap.size + 1) (by omega) (by simp; omega))).trans x1
    have OF : Own .u8 5 (X.putObj D (.deferred none)) w1.heap.size (.slice (some ⟨g, 0, none⟩) dl cap) (stl dur ps (fun _ => 64) n) := OX.other GX (.inr (by simp [Value.ownBlock]; omega))
    have BF : Below w.heap.size w (X.putObj D (.deferred none)) := BX.grown GX (by omega) (fun q e => by injection e with e; omega)
    generalize X.putObj D (.deferred none) = Z at *
    refine ⟨.agg #[.slice (some ⟨g, 0, none⟩) dl cap, .slice none 0 0], ?_, _, rfl, OF.mono s1, BF⟩
    simp [results, Tryd.results102, go_sem, y0, y1]
  case stop =>
    rintro D c pre W _ _ h _
    exact h.elim

end Go.Proofs.YtcopcegamadkgaaDoor

namespace Go.Proofs.YtcopcegamadkgaaDoor
open Go.RowKit

set_option maxHeartbeats 1000000 in
set_option maxRecDepth 100000 in
theorem implSync_no (w : World) (va vb : Option Addr) (dl ca n cb : Nat) (ps : List (Int × List Int)) (hp : RdW w (.slice vb n cb) ps) (hl : ps.length = n)
    (hno : vldD dl ps = false) (hn : n ≤ 1048576) (hd1 : dl ≤ 1048576) (hpd : ∀ i, (pD ps i).length ≤ 1048576) :
    Calls Tryd.prog 102 #[.agg #[.slice va dl ca, .slice vb n cb]] w fun e w' => e = .returned (.agg #[.slice none 0 0, .slice none 0 0]) ∧ Below w.heap.size w w' := by
  have HP : Hid (RdW w (.slice vb n cb) ps) := hp
  have HL : Hid (ps.length = n) := hl
  have HPD : Hid (∀ i, (pD ps i).length ≤ 1048576) := hpd
  have BA : Hid (∀ o1 o2, Below w.heap.size w ((w.alloc o1).alloc o2)) := fun o1 o2 => ((Below.refl _ _).alloc (Nat.le_refl _) _).alloc (by simp) _
  clear hp hl hpd
  go_enter Tryd.func102, Tryd.ntmps102
  go_wp2_with fail
  have XR0 : Hid (BoxF ((w.alloc (.cells #[.slice va dl ca, .slice vb n cb] 27)).alloc (.cells #[.slice none 0 0, .slice none 0 0] 27)) (w.heap.size + 1) (.slice none 0 0) (.slice none 0 0)) := by
    have := BoxF.new (w.alloc (.cells #[.slice va dl ca, .slice vb n cb] 27)) (.slice none 0 0) (.slice none 0 0) 27
    show BoxF _ _ _ _
    simpa using this
  have B0 := BA.out (.cells #[.slice va dl ca, .slice vb n cb] 27) (.cells #[.slice none 0 0, .slice none 0 0] 27)
  have HB0 : Hid (Below w.heap.size w ((w.alloc (.cells #[.slice va dl ca, .slice vb n cb] 27)).alloc (.cells #[.slice none 0 0, .slice none 0 0] 27))) := B0
  clear B0 BA
  generalize (w.alloc (.cells #[.slice va dl ca, .slice vb n cb] 27)).alloc (.cells #[.slice none 0 0, .slice none 0 0] 27) = w0 at *
  refine (implValid_any _ va vb dl ca n cb ps (HP.out.below HB0.out) HL.out hd1 hn HPD.out).mono ?_
  rintro e w1 ⟨rfl, b1⟩
  have HB1 : Hid (Below w.heap.size w w1) := HB0.out.trans (b1.mono HB0.out.size)
  have XR1 : Hid (BoxF w1 (w.heap.size + 1) (.slice none 0 0) (.slice none 0 0)) := XR0.out.below b1
  clear b1 XR0 HB0
  obtain ⟨⟨zr, d0, d1⟩, f0, f1⟩ := XR1.out
  rw [hno]
  clear hno
  go_wp2
  refine bodyPost_ret (v := .agg #[.slice none 0 0, .slice none 0 0]) (by simp [results, Tryd.results102, go_sem, d0, d1]) rfl ⟨rfl, ?_⟩
  repeat (first | exact HB1.out | refine Below.setCell ?_ (by simp; try omega) _)

theorem implSync_any (w : World) (v1 v2 : Value) (dur : List Int) (ps : List (Int × List Int)) (hd : Rd .u8 w v1 dur) (hp : RdW w v2 ps) (hdl : dur.length ≤ 1048576) (hn : ps.length ≤ 1048576) (hpd : ∀ i, (pD ps i).length ≤ 1048576) :
    Calls Tryd.prog 102 #[.agg #[v1, v2]] w fun e w' => ∃ u, e = .returned (.agg #[u, .slice none 0 0]) ∧ Own .u8 5 w' w.heap.size u (syD dur ps) ∧ Below w.heap.size w w' := by
  obtain ⟨va, ca, rfl, -⟩ := hd.len
  obtain ⟨vb, cb, rfl, -⟩ := id hp
  unfold syD
  cases h : vldD dur.length ps with
  | true =>
    simp only [if_true]
    exact implSync_yes w va vb dur.length ca ps.length cb dur ps hd rfl hp rfl h hdl hpd
  | false =>
    simp only [Bool.false_eq_true, if_false]
    refine (implSync_no w va vb dur.length ca ps.length cb ps hp rfl h hn hdl hpd).mono ?_
    rintro e w' ⟨rfl, b⟩
    exact ⟨_, rfl, World.ownsRow_nil _ _ _ _, b⟩



end Go.Proofs.YtcopcegamadkgaaDoor

namespace Go.Proofs.YtcopcegamadkgaaDoor
open Go.RowKit

/-- Is the configuration one? -/
def cfgOk (S L : Int) : Bool := decide (1 ≤ S ∧ S ≤ 64) && decide (1 ≤ L ∧ L ≤ 64)
/-- Is the disk laid out for it? -/
def fitD (S L : Int) (dl : Nat) (ps : List (Int × List Int)) : Bool := cfgOk S L && (vldD dl ps && decide (((dl / 64 : Nat) : Int) = 2 + 2 * (S + L)))
/-- The first block of an area, and its blocks. -/
def arF (S L bank : Int) (log : Bool) : Int := 2 + bank * (S + L) + if log then S else 0
def arL (S L : Int) (log : Bool) : Int := if log then L else S
def arOk (S L : Int) (dl : Nat) (ps : List (Int × List Int)) (bank : Int) : Bool := fitD S L dl ps && decide (0 ≤ bank ∧ bank ≤ 1)
def arN (D : List Int) (f l : Nat) : List Int := (D.drop (f * 64)).take (l * 64)
def arA (dur : List Int) (ps : List (Int × List Int)) (S L bank : Int) (log : Bool) : List Int :=
  if arOk S L dur.length ps bank then arN (syD dur ps) (arF S L bank log).toNat (arL S L log).toNat else []

theorem cfgOk_iff (S L : Int) : cfgOk S L = true ↔ (1 ≤ S ∧ S ≤ 64) ∧ 1 ≤ L ∧ L ≤ 64 := by unfold cfgOk; simp only [Bool.and_eq_true, decide_eq_true_eq]
theorem fitD_iff (S L : Int) (dl : Nat) (ps : List (Int × List Int)) : fitD S L dl ps = true ↔ cfgOk S L = true ∧ vldD dl ps = true ∧ ((dl / 64 : Nat) : Int) = 2 + 2 * (S + L) := by
  unfold fitD; simp only [Bool.and_eq_true, decide_eq_true_eq]

theorem syD_length {dur : List Int} {ps : List (Int × List Int)} (h : vldD dur.length ps = true) : (syD dur ps).length = dur.length := by
  unfold syD; rw [if_pos h]; exact stl_len _ _ _ h _ (Nat.le_refl _)
theorem arN_length (D : List Int) (f l : Nat) (h : (f + l) * 64 ≤ D.length) : (arN D f l).length = l * 64 := by
  unfold arN; rw [List.length_take, List.length_drop]; omega
end Go.Proofs.YtcopcegamadkgaaDoor

namespace Go.Proofs.YtcopcegamadkgaaDoor
open Go.RowKit

set_option maxHeartbeats 400000 in
theorem validArea_any (w : World) (S : Int) :
    Calls Tryd.prog 85 #[.int .i64 S] w fun e w' => e = .returned (.bool (decide (1 ≤ S ∧ S ≤ 64))) ∧ w' = w := by
  by_cases h1 : 1 ≤ S
  · by_cases h2 : S ≤ 64
    · go_enter Tryd.func85, Tryd.ntmps85
      go_wp2
      go_ret
      exact ⟨ret_bool (by first | rfl | (symm; rw [decide_eq_true_eq]; exact ⟨h1, h2⟩)), rfl⟩
    · have d2 : decide (S ≤ 64) = false := by simpa using h2
      go_enter Tryd.func85, Tryd.ntmps85
      go_wp2
      go_ret
      exact ⟨ret_bool (by first | rfl | (symm; rw [decide_eq_false_iff_not]; omega)), rfl⟩
  · have d1 : decide (1 ≤ S) = false := by simpa using h1
    go_enter Tryd.func85, Tryd.ntmps85
    go_wp2
    go_ret
    exact ⟨ret_bool (by first | rfl | (symm; rw [decide_eq_false_iff_not]; omega)), rfl⟩

set_option linter.unusedSimpArgs false in
set_option maxHeartbeats 1000000 in
theorem validConfig_any (w : World) (S L : Int) :
    Calls Tryd.prog 39 #[.agg #[.int .i64 S, .int .i64 L]] w fun e w' => e = .returned (.bool (cfgOk S L)) ∧ Below w.heap.size w w' := by
  have B0 : Hid (Below w.heap.size w (w.alloc (.cells #[.int .i64 S, .int .i64 L] 29))) := (Below.refl _ _).alloc (Nat.le_refl _) _
  obtain ⟨t, ht⟩ : ∃ t, t = decide (1 ≤ S ∧ S ≤ 64) := ⟨_, rfl⟩
  obtain ⟨u, hu⟩ : ∃ u, u = decide (1 ≤ L ∧ L ≤ 64) := ⟨_, rfl⟩
  have H : Hid (cfgOk S L = (t && u)) := by show _ = _; rw [ht, hu]; rfl
  have V1 : Hid (∀ W, Calls Tryd.prog 85 #[.int .i64 S] W fun e w' => e = .returned (.bool t) ∧ w' = W) := fun W => by rw [ht]; exact validArea_any W S
  have V2 : Hid (∀ W, Calls Tryd.prog 85 #[.int .i64 L] W fun e w' => e = .returned (.bool u) ∧ w' = W) := fun W => by rw [hu]; exact validArea_any W L
  clear ht hu
  go_enter Tryd.func39, Tryd.ntmps39
  go_wp2_with fail
  cases t with
  | true =>
    refine (V1.out _).mono ?_
    rintro e w1 ⟨rfl, rfl⟩
    go_wp2_with fail
    refine (V2.out _).mono ?_
    rintro e w1 ⟨rfl, rfl⟩
    go_wp2
    go_ret
    exact ⟨ret_bool (by rw [H.out]; simp), B0.out⟩
  | false =>
    refine (V1.out _).mono ?_
    rintro e w1 ⟨rfl, rfl⟩
    go_wp2
    go_ret
    exact ⟨ret_bool (by rw [H.out]; simp), B0.out⟩

set_option maxHeartbeats 400000 in
theorem bankBlocks_any (w : World) (S L : Int) (hS : 1 ≤ S) (hS2 : S ≤ 64) (hL : 1 ≤ L) (hL2 : L ≤ 64) :
    Calls Tryd.prog 86 #[.agg #[.int .i64 S, .int .i64 L]] w fun e w' => e = .returned (.int .i64 (S + L)) ∧ Below w.heap.size w w' := by
  have B0 : Hid (Below w.heap.size w (w.alloc (.cells #[.int .i64 S, .int .i64 L] 29))) := (Below.refl _ _).alloc (Nat.le_refl _) _
  go_enter Tryd.func86, Tryd.ntmps86
  go_wp2
  go_ret
  exact ⟨rfl, B0.out⟩

set_option maxHeartbeats 400000 in
theorem diskBlocks_any (w : World) (S L : Int) (hS : 1 ≤ S) (hS2 : S ≤ 64) (hL : 1 ≤ L) (hL2 : L ≤ 64) :
    Calls Tryd.prog 41 #[.agg #[.int .i64 S, .int .i64 L]] w fun e w' => e = .returned (.int .i64 (2 + 2 * (S + L))) ∧ Below w.heap.size w w' := by
  have B0 : Hid (Below w.heap.size w (w.alloc (.cells #[.int .i64 S, .int .i64 L] 29))) := (Below.refl _ _).alloc (Nat.le_refl _) _
  go_enter Tryd.func41, Tryd.ntmps41
  go_wp2_with fail
  refine (bankBlocks_any _ S L hS hS2 hL hL2).mono ?_
  rintro e w1 ⟨rfl, b1⟩
  have B1 : Hid (Below w.heap.size w w1) := B0.out.trans (b1.mono B0.out.size)
  clear b1 B0
  go_wp2
  go_ret
  exact ⟨rfl, B1.out⟩

/-- What the two arguments' boxes hold. -/
def FitS (w : World) (ao bo : Option Addr) (dl ca n cb : Nat) (S L : Int) (W : World) : Prop :=
  Hid (Below w.heap.size w W ∧ Box2 W w.heap.size (.slice ao dl ca) (.slice bo n cb) ∧ Box2 W (w.heap.size + 1) (.int .i64 S) (.int .i64 L)) ∧
    W.cell? ⟨w.heap.size, 0, none⟩ = some (.slice ao dl ca) ∧ W.cell? ⟨w.heap.size, 1, none⟩ = some (.slice bo n cb) ∧ W.cell? ⟨w.heap.size + 1, 0, none⟩ = some (.int .i64 S) ∧ W.cell? ⟨w.heap.size + 1, 1, none⟩ = some (.int .i64 L)
theorem FitS.mk {w : World} {ao bo : Option Addr} {dl ca n cb : Nat} {S L : Int} {W : World} (h1 : Below w.heap.size w W) (h2 : Box2 W w.heap.size (.slice ao dl ca) (.slice bo n cb)) (h3 : Box2 W (w.heap.size + 1) (.int .i64 S) (.int .i64 L)) : FitS w ao bo dl ca n cb S L W :=
  ⟨⟨h1, h2, h3⟩, h2.2.1, h2.2.2, h3.2.1, h3.2.2⟩
theorem FitS.below {w : World} {ao bo : Option Addr} {dl ca n cb : Nat} {S L : Int} {W W' : World} (h : FitS w ao bo dl ca n cb S L W) (hb : Below W.heap.size W W') : FitS w ao bo dl ca n cb S L W' :=
  FitS.mk (h.1.out.1.trans (hb.mono h.1.out.1.size)) (h.1.out.2.1.below hb) (h.1.out.2.2.below hb)


set_option linter.unusedSimpArgs false in
set_option maxHeartbeats 1000000 in
theorem isLaidOut_any (w : World) (ao bo : Option Addr) (dl ca n cb : Nat) (ps : List (Int × List Int)) (S L : Int) (hp : RdW w (.slice bo n cb) ps) (hl : ps.length = n) (hd1 : dl ≤ 1048576) (hn : n ≤ 1048576) (hpd : ∀ i, (pD ps i).length ≤ 1048576) :
    Calls Tryd.prog 61 #[.agg #[.slice ao dl ca, .slice bo n cb], .agg #[.int .i64 S, .int .i64 L]] w fun e w' => e = .returned (.bool (fitD S L dl ps)) ∧ Below w.heap.size w w' := by
  have HP : Hid (RdW w (.slice bo n cb) ps) := hp
  have HL : Hid (ps.length = n) := hl
  have HPD : Hid (∀ i, (pD ps i).length ≤ 1048576) := hpd
  have B0 : Hid (Below w.heap.size w ((w.alloc (.cells #[.slice ao dl ca, .slice bo n cb] 27)).alloc (.cells #[.int .i64 S, .int .i64 L] 29))) := ((Below.refl _ _).alloc (Nat.le_refl _) _).alloc (by simp) _
  have XD : Hid (Box2 ((w.alloc (.cells #[.slice ao dl ca, .slice bo n cb] 27)).alloc (.cells #[.int .i64 S, .int .i64 L] 29)) w.heap.size (.slice ao dl ca) (.slice bo n cb)) := (Box2.new w _ _ _).below ((Below.refl _ _).alloc (Nat.le_refl _) _)
  have XC : Hid (Box2 ((w.alloc (.cells #[.slice ao dl ca, .slice bo n cb] 27)).alloc (.cells #[.int .i64 S, .int .i64 L] 29)) (w.heap.size + 1) (.int .i64 S) (.int .i64 L)) := by
    have := Box2.new (w.alloc (.cells #[.slice ao dl ca, .slice bo n cb] 27)) (.int .i64 S) (.int .i64 L) 29
    show Box2 _ _ _ _
    simpa using this
  obtain ⟨t, ht⟩ : ∃ t, t = cfgOk S L := ⟨_, rfl⟩
  obtain ⟨u, hu⟩ : ∃ u, u = vldD dl ps := ⟨_, rfl⟩
  have H : Hid (fitD S L dl ps = (t && (u && decide (((dl / 64 : Nat) : Int) = 2 + 2 * (S + L))))) := by show _ = _; rw [ht, hu]; rfl
  have HB : Hid (t = true → (1 ≤ S ∧ S ≤ 64) ∧ 1 ≤ L ∧ L ≤ 64) := fun e => (cfgOk_iff S L).1 (ht ▸ e)
  have Q : Hid (∀ W W', FitS w ao bo dl ca n cb S L W → Below W.heap.size W W' → FitS w ao bo dl ca n cb S L W') := fun W W' h1 h4 => h1.below h4
  have V1 : Hid (∀ W, Calls Tryd.prog 39 #[.agg #[.int .i64 S, .int .i64 L]] W fun e w' => e = .returned (.bool t) ∧ Below W.heap.size W w') := fun W => by rw [ht]; exact validConfig_any W S L
  have V2 : Hid (∀ W, FitS w ao bo dl ca n cb S L W → Calls Tryd.prog 100 #[.agg #[.slice ao dl ca, .slice bo n cb]] W fun e w' => e = .returned (.bool u) ∧ Below W.heap.size W w') := fun W hW => by rw [hu]; exact implValid_any W ao bo dl ca n cb ps (HP.out.below hW.1.out.1) HL.out hd1 hn HPD.out
  clear ht hu hp hl hpd
  go_enter Tryd.func61, Tryd.ntmps61
  go_wp2_with fail
  have S0 : Hid (FitS w ao bo dl ca n cb S L ((w.alloc (.cells #[.slice ao dl ca, .slice bo n cb] 27)).alloc (.cells #[.int .i64 S, .int .i64 L] 29))) := FitS.mk B0.out XD.out XC.out
  clear B0 XD XC
  generalize (w.alloc (.cells #[.slice ao dl ca, .slice bo n cb] 27)).alloc (.cells #[.int .i64 S, .int .i64 L] 29) = w0 at *
  cases t with
  | false =>
    refine wp_region_held_drew (S := FitS w ao bo dl ca n cb S L) (by kernel_rfl) (S0.out.below (below_drewN' w0 1)) (fun hHeld => ?_)
    refine wpAnyH_take (i := 0) (oi := { dst := some 5, op := _, type := _, pos := _, after := _, guard := _ }) (v := ?v30) rfl (by kernel_rfl) (by kernel_rfl) (by kernel_rfl) (fun _ _ _ h => h) (Or.inl ⟨by rfl, ?hy30⟩) (by assumption) ?rest30
    case hy30 =>
      intro w9 hS9
      obtain ⟨-, k0, k1, k2, k3⟩ := hS9
      go_simp
      try with_reducible rfl
    try simp only [Act.put, List.setIfInBounds_toArray, List.set_cons_zero, List.set_cons_succ]
    refine wpAnyH_ready (rs := [1]) (by kernel_rfl) (by simp) ?_
    refine AllReadyH.cons (o := { dst := some 6, op := _, type := _, pos := _, after := _, guard := _ }) rfl (fun K hK => ?_) AllReadyH.nil
    go_simp
    refine (V1.out _).mono ?_
    rintro e w1 ⟨rfl, b1⟩
    have hN1 := Q.out _ _ hHeld b1
    clear b1
    refine hK.out _ _ (hN1) (fun hx9 => ?_)
    clear hK K hHeld hx9
    have hHeld := hN1
    try simp only [Act.put, List.setIfInBounds_toArray, List.set_cons_zero, List.set_cons_succ]
    refine wpAnyH_take (i := 2) (oi := { dst := some 7, op := _, type := _, pos := _, after := _, guard := _ }) (v := ?v31) rfl (by kernel_rfl) (by kernel_rfl) (by kernel_rfl) (fun _ _ _ h => h) (Or.inl ⟨by rfl, ?hy31⟩) (by assumption) ?rest31
    case hy31 =>
      intro w9 hS9
      obtain ⟨-, k0, k1, k2, k3⟩ := hS9
      go_simp
      try with_reducible rfl
    try simp only [Act.put, List.setIfInBounds_toArray, List.set_cons_zero, List.set_cons_succ]
    refine wpAnyH_take (i := 3) (oi := { dst := some 8, op := _, type := _, pos := _, after := _, guard := _ }) (v := undef) rfl (by kernel_rfl) (by kernel_rfl) (by kernel_rfl) (fun _ _ _ h => h) (Or.inr ⟨by rfl, rfl⟩) (by assumption) ?_
    try simp only [Act.put, List.setIfInBounds_toArray, List.set_cons_zero, List.set_cons_succ]
    refine wpAnyH_take (i := 4) (oi := { dst := some 9, op := _, type := _, pos := _, after := _, guard := _ }) (v := undef) rfl (by kernel_rfl) (by kernel_rfl) (by kernel_rfl) (fun _ _ _ h => h) (Or.inr ⟨by rfl, rfl⟩) (by assumption) ?_
    try simp only [Act.put, List.setIfInBounds_toArray, List.set_cons_zero, List.set_cons_succ]
    refine wpAnyH_take (i := 5) (oi := { dst := some 10, op := _, type := _, pos := _, after := _, guard := _ }) (v := ?v32) rfl (by kernel_rfl) (by kernel_rfl) (by kernel_rfl) (fun _ _ _ h => h) (Or.inl ⟨by rfl, ?hy32⟩) (by assumption) ?rest32
    case hy32 =>
      intro w9 hS9
      obtain ⟨-, k0, k1, k2, k3⟩ := hS9
      go_simp
      try with_reducible rfl
    try simp only [Act.put, List.setIfInBounds_toArray, List.set_cons_zero, List.set_cons_succ]
    refine wpAnyH_take (i := 6) (oi := { dst := some 11, op := _, type := _, pos := _, after := _, guard := _ }) (v := ?v33) rfl (by kernel_rfl) (by kernel_rfl) (by kernel_rfl) (fun _ _ _ h => h) (Or.inl ⟨by rfl, ?hy33⟩) (by assumption) ?rest33
    case hy33 =>
      intro w9 hS9
      obtain ⟨-, k0, k1, k2, k3⟩ := hS9
      go_simp
      try with_reducible rfl
    try simp only [Act.put, List.setIfInBounds_toArray, List.set_cons_zero, List.set_cons_succ]
    refine wpAnyH_take (i := 7) (oi := { dst := some 12, op := _, type := _, pos := _, after := _, guard := _ }) (v := undef) rfl (by kernel_rfl) (by kernel_rfl) (by kernel_rfl) (fun _ _ _ h => h) (Or.inr ⟨by rfl, rfl⟩) (by assumption) ?_
    try simp only [Act.put, List.setIfInBounds_toArray, List.set_cons_zero, List.set_cons_succ]
    refine wpAnyH_take (i := 8) (oi := { dst := some 13, op := _, type := _, pos := _, after := _, guard := _ }) (v := undef) rfl (by kernel_rfl) (by kernel_rfl) (by kernel_rfl) (fun _ _ _ h => h) (Or.inr ⟨by rfl, rfl⟩) (by assumption) ?_
    try simp only [Act.put, List.setIfInBounds_toArray, List.set_cons_zero, List.set_cons_succ]
    refine wpAnyH_take (i := 9) (oi := { dst := some 14, op := _, type := _, pos := _, after := _, guard := _ }) (v := undef) rfl (by kernel_rfl) (by kernel_rfl) (by kernel_rfl) (fun _ _ _ h => h) (Or.inr ⟨by rfl, rfl⟩) (by assumption) ?_
    try simp only [Act.put, List.setIfInBounds_toArray, List.set_cons_zero, List.set_cons_succ]
    refine wpAnyH_take (i := 10) (oi := { dst := some 15, op := _, type := _, pos := _, after := _, guard := _ }) (v := undef) rfl (by kernel_rfl) (by kernel_rfl) (by kernel_rfl) (fun _ _ _ h => h) (Or.inr ⟨by rfl, rfl⟩) (by assumption) ?_
    try simp only [Act.put, List.setIfInBounds_toArray, List.set_cons_zero, List.set_cons_succ]
    refine wpAnyH_take (i := 11) (oi := { dst := some 16, op := _, type := _, pos := _, after := _, guard := _ }) (v := undef) rfl (by kernel_rfl) (by kernel_rfl) (by kernel_rfl) (fun _ _ _ h => h) (Or.inr ⟨by rfl, rfl⟩) (by assumption) ?_
    try simp only [Act.put, List.setIfInBounds_toArray, List.set_cons_zero, List.set_cons_succ]
    refine wpAnyH_take (i := 12) (oi := { dst := some 17, op := _, type := _, pos := _, after := _, guard := _ }) (v := ?v34) rfl (by kernel_rfl) (by kernel_rfl) (by kernel_rfl) (fun _ _ _ h => h) (Or.inl ⟨by rfl, ?hy34⟩) (by assumption) ?rest34
    case hy34 =>
      intro w9 hS9
      obtain ⟨-, k0, k1, k2, k3⟩ := hS9
      go_simp
      try with_reducible rfl
    try simp only [Act.put, List.setIfInBounds_toArray, List.set_cons_zero, List.set_cons_succ]
    refine wpAnyH_take (i := 13) (oi := { dst := some 4, op := _, type := _, pos := _, after := _, guard := _ }) (v := ?v35) rfl (by kernel_rfl) (by kernel_rfl) (by kernel_rfl) (fun _ _ _ h => h) (Or.inl ⟨by rfl, ?hy35⟩) (by assumption) ?rest35
    case hy35 =>
      intro w9 hS9
      obtain ⟨-, k0, k1, k2, k3⟩ := hS9
      go_simp
      try with_reducible rfl
    try simp only [Act.put, List.setIfInBounds_toArray, List.set_cons_zero, List.set_cons_succ]
    refine wpAnyH_done (by kernel_rfl) ?_ _
    have BE := hHeld.1
    clear hHeld
    go_wp2
    go_ret
    exact ⟨ret_bool (by rw [H.out]; simp <;> rfl), BE.out.1⟩
  | true =>
    obtain ⟨⟨hS1, hS2⟩, hL1, hL2⟩ := HB.out rfl
    cases u with
    | false =>
      refine wp_region_held_drew (S := FitS w ao bo dl ca n cb S L) (by kernel_rfl) (S0.out.below (below_drewN' w0 1)) (fun hHeld => ?_)
      refine wpAnyH_take (i := 0) (oi := { dst := some 5, op := _, type := _, pos := _, after := _, guard := _ }) (v := ?v36) rfl (by kernel_rfl) (by kernel_rfl) (by kernel_rfl) (fun _ _ _ h => h) (Or.inl ⟨by rfl, ?hy36⟩) (by assumption) ?rest36
      case hy36 =>
        intro w9 hS9
        obtain ⟨-, k0, k1, k2, k3⟩ := hS9
        go_simp
        try with_reducible rfl
      try simp only [Act.put, List.setIfInBounds_toArray, List.set_cons_zero, List.set_cons_succ]
      refine wpAnyH_ready (rs := [1]) (by kernel_rfl) (by simp) ?_
      refine AllReadyH.cons (o := { dst := some 6, op := _, type := _, pos := _, after := _, guard := _ }) rfl (fun K hK => ?_) AllReadyH.nil
      go_simp
      refine (V1.out _).mono ?_
      rintro e w1 ⟨rfl, b1⟩
      have hN1 := Q.out _ _ hHeld b1
      clear b1
      refine hK.out _ _ (hN1) (fun hx9 => ?_)
      clear hK K hHeld hx9
      have hHeld := hN1
      try simp only [Act.put, List.setIfInBounds_toArray, List.set_cons_zero, List.set_cons_succ]
      refine wpAnyH_take (i := 2) (oi := { dst := some 7, op := _, type := _, pos := _, after := _, guard := _ }) (v := ?v37) rfl (by kernel_rfl) (by kernel_rfl) (by kernel_rfl) (fun _ _ _ h => h) (Or.inl ⟨by rfl, ?hy37⟩) (by assumption) ?rest37
      case hy37 =>
        intro w9 hS9
        obtain ⟨-, k0, k1, k2, k3⟩ := hS9
        go_simp
        try with_reducible rfl
      try simp only [Act.put, List.setIfInBounds_toArray, List.set_cons_zero, List.set_cons_succ]
      refine wpAnyH_take (i := 3) (oi := { dst := some 8, op := _, type := _, pos := _, after := _, guard := _ }) (v := ?v38) rfl (by kernel_rfl) (by kernel_rfl) (by kernel_rfl) (fun _ _ _ h => h) (Or.inl ⟨by rfl, ?hy38⟩) (by assumption) ?rest38
      case hy38 =>
        intro w9 hS9
        obtain ⟨-, k0, k1, k2, k3⟩ := hS9
        go_simp
        try with_reducible rfl
      try simp only [Act.put, List.setIfInBounds_toArray, List.set_cons_zero, List.set_cons_succ]
      refine wpAnyH_ready (rs := [4]) (by kernel_rfl) (by simp) ?_
      refine AllReadyH.cons (o := { dst := some 9, op := _, type := _, pos := _, after := _, guard := _ }) rfl (fun K hK => ?_) AllReadyH.nil
      go_simp
      refine (V2.out _ hHeld).mono ?_
      rintro e w2 ⟨rfl, b2⟩
      have hN2 := Q.out _ _ hHeld b2
      clear b2
      refine hK.out _ _ (hN2) (fun hx9 => ?_)
      clear hK K hHeld hx9
      have hHeld := hN2
      try simp only [Act.put, List.setIfInBounds_toArray, List.set_cons_zero, List.set_cons_succ]
      refine wpAnyH_take (i := 5) (oi := { dst := some 10, op := _, type := _, pos := _, after := _, guard := _ }) (v := ?v39) rfl (by kernel_rfl) (by kernel_rfl) (by kernel_rfl) (fun _ _ _ h => h) (Or.inl ⟨by rfl, ?hy39⟩) (by assumption) ?rest39
      case hy39 =>
        intro w9 hS9
        obtain ⟨-, k0, k1, k2, k3⟩ := hS9
        go_simp
        try with_reducible rfl
      try simp only [Act.put, List.setIfInBounds_toArray, List.set_cons_zero, List.set_cons_succ]
      refine wpAnyH_take (i := 6) (oi := { dst := some 11, op := _, type := _, pos := _, after := _, guard := _ }) (v := ?v40) rfl (by kernel_rfl) (by kernel_rfl) (by kernel_rfl) (fun _ _ _ h => h) (Or.inl ⟨by rfl, ?hy40⟩) (by assumption) ?rest40
      case hy40 =>
        intro w9 hS9
        obtain ⟨-, k0, k1, k2, k3⟩ := hS9
        go_simp
        try with_reducible rfl
      try simp only [Act.put, List.setIfInBounds_toArray, List.set_cons_zero, List.set_cons_succ]
      refine wpAnyH_take (i := 7) (oi := { dst := some 12, op := _, type := _, pos := _, after := _, guard := _ }) (v := undef) rfl (by kernel_rfl) (by kernel_rfl) (by kernel_rfl) (fun _ _ _ h => h) (Or.inr ⟨by rfl, rfl⟩) (by assumption) ?_
      try simp only [Act.put, List.setIfInBounds_toArray, List.set_cons_zero, List.set_cons_succ]
      refine wpAnyH_take (i := 8) (oi := { dst := some 13, op := _, type := _, pos := _, after := _, guard := _ }) (v := undef) rfl (by kernel_rfl) (by kernel_rfl) (by kernel_rfl) (fun _ _ _ h => h) (Or.inr ⟨by rfl, rfl⟩) (by assumption) ?_
      try simp only [Act.put, List.setIfInBounds_toArray, List.set_cons_zero, List.set_cons_succ]
      refine wpAnyH_take (i := 9) (oi := { dst := some 14, op := _, type := _, pos := _, after := _, guard := _ }) (v := undef) rfl (by kernel_rfl) (by kernel_rfl) (by kernel_rfl) (fun _ _ _ h => h) (Or.inr ⟨by rfl, rfl⟩) (by assumption) ?_
      try simp only [Act.put, List.setIfInBounds_toArray, List.set_cons_zero, List.set_cons_succ]
      refine wpAnyH_take (i := 10) (oi := { dst := some 15, op := _, type := _, pos := _, after := _, guard := _ }) (v := undef) rfl (by kernel_rfl) (by kernel_rfl) (by kernel_rfl) (fun _ _ _ h => h) (Or.inr ⟨by rfl, rfl⟩) (by assumption) ?_
      try simp only [Act.put, List.setIfInBounds_toArray, List.set_cons_zero, List.set_cons_succ]
      refine wpAnyH_take (i := 11) (oi := { dst := some 16, op := _, type := _, pos := _, after := _, guard := _ }) (v := undef) rfl (by kernel_rfl) (by kernel_rfl) (by kernel_rfl) (fun _ _ _ h => h) (Or.inr ⟨by rfl, rfl⟩) (by assumption) ?_
      try simp only [Act.put, List.setIfInBounds_toArray, List.set_cons_zero, List.set_cons_succ]
      refine wpAnyH_take (i := 12) (oi := { dst := some 17, op := _, type := _, pos := _, after := _, guard := _ }) (v := ?v41) rfl (by kernel_rfl) (by kernel_rfl) (by kernel_rfl) (fun _ _ _ h => h) (Or.inl ⟨by rfl, ?hy41⟩) (by assumption) ?rest41
      case hy41 =>
        intro w9 hS9
        obtain ⟨-, k0, k1, k2, k3⟩ := hS9
        go_simp
        try with_reducible rfl
      try simp only [Act.put, List.setIfInBounds_toArray, List.set_cons_zero, List.set_cons_succ]
      refine wpAnyH_take (i := 13) (oi := { dst := some 4, op := _, type := _, pos := _, after := _, guard := _ }) (v := ?v42) rfl (by kernel_rfl) (by kernel_rfl) (by kernel_rfl) (fun _ _ _ h => h) (Or.inl ⟨by rfl, ?hy42⟩) (by assumption) ?rest42
      case hy42 =>
        intro w9 hS9
        obtain ⟨-, k0, k1, k2, k3⟩ := hS9
        go_simp
        try with_reducible rfl
      try simp only [Act.put, List.setIfInBounds_toArray, List.set_cons_zero, List.set_cons_succ]
      refine wpAnyH_done (by kernel_rfl) ?_ _
      have BE := hHeld.1
      clear hHeld
      go_wp2
      go_ret
      exact ⟨ret_bool (by rw [H.out]; simp <;> rfl), BE.out.1⟩
    | true =>
      refine wp_region_held_drew (S := FitS w ao bo dl ca n cb S L) (by kernel_rfl) (S0.out.below (below_drewN' w0 1)) (fun hHeld => ?_)
      refine wpAnyH_take (i := 0) (oi := { dst := some 5, op := _, type := _, pos := _, after := _, guard := _ }) (v := ?v43) rfl (by kernel_rfl) (by kernel_rfl) (by kernel_rfl) (fun _ _ _ h => h) (Or.inl ⟨by rfl, ?hy43⟩) (by assumption) ?rest43
      case hy43 =>
        intro w9 hS9
        obtain ⟨-, k0, k1, k2, k3⟩ := hS9
        go_simp
        try with_reducible rfl
      try simp only [Act.put, List.setIfInBounds_toArray, List.set_cons_zero, List.set_cons_succ]
      refine wpAnyH_ready (rs := [1]) (by kernel_rfl) (by simp) ?_
      refine AllReadyH.cons (o := { dst := some 6, op := _, type := _, pos := _, after := _, guard := _ }) rfl (fun K hK => ?_) AllReadyH.nil
      go_simp
      refine (V1.out _).mono ?_
      rintro e w1 ⟨rfl, b1⟩
      have hN1 := Q.out _ _ hHeld b1
      clear b1
      refine hK.out _ _ (hN1) (fun hx9 => ?_)
      clear hK K hHeld hx9
      have hHeld := hN1
      try simp only [Act.put, List.setIfInBounds_toArray, List.set_cons_zero, List.set_cons_succ]
      refine wpAnyH_take (i := 2) (oi := { dst := some 7, op := _, type := _, pos := _, after := _, guard := _ }) (v := ?v44) rfl (by kernel_rfl) (by kernel_rfl) (by kernel_rfl) (fun _ _ _ h => h) (Or.inl ⟨by rfl, ?hy44⟩) (by assumption) ?rest44
      case hy44 =>
        intro w9 hS9
        obtain ⟨-, k0, k1, k2, k3⟩ := hS9
        go_simp
        try with_reducible rfl
      try simp only [Act.put, List.setIfInBounds_toArray, List.set_cons_zero, List.set_cons_succ]
      refine wpAnyH_take (i := 3) (oi := { dst := some 8, op := _, type := _, pos := _, after := _, guard := _ }) (v := ?v45) rfl (by kernel_rfl) (by kernel_rfl) (by kernel_rfl) (fun _ _ _ h => h) (Or.inl ⟨by rfl, ?hy45⟩) (by assumption) ?rest45
      case hy45 =>
        intro w9 hS9
        obtain ⟨-, k0, k1, k2, k3⟩ := hS9
        go_simp
        try with_reducible rfl
      try simp only [Act.put, List.setIfInBounds_toArray, List.set_cons_zero, List.set_cons_succ]
      refine wpAnyH_ready (rs := [4]) (by kernel_rfl) (by simp) ?_
      refine AllReadyH.cons (o := { dst := some 9, op := _, type := _, pos := _, after := _, guard := _ }) rfl (fun K hK => ?_) AllReadyH.nil
      go_simp
      refine (V2.out _ hHeld).mono ?_
      rintro e w2 ⟨rfl, b2⟩
      have hN2 := Q.out _ _ hHeld b2
      clear b2
      refine hK.out _ _ (hN2) (fun hx9 => ?_)
      clear hK K hHeld hx9
      have hHeld := hN2
      try simp only [Act.put, List.setIfInBounds_toArray, List.set_cons_zero, List.set_cons_succ]
      refine wpAnyH_take (i := 5) (oi := { dst := some 10, op := _, type := _, pos := _, after := _, guard := _ }) (v := ?v46) rfl (by kernel_rfl) (by kernel_rfl) (by kernel_rfl) (fun _ _ _ h => h) (Or.inl ⟨by rfl, ?hy46⟩) (by assumption) ?rest46
      case hy46 =>
        intro w9 hS9
        obtain ⟨-, k0, k1, k2, k3⟩ := hS9
        go_simp
        try with_reducible rfl
      try simp only [Act.put, List.setIfInBounds_toArray, List.set_cons_zero, List.set_cons_succ]
      refine wpAnyH_take (i := 6) (oi := { dst := some 11, op := _, type := _, pos := _, after := _, guard := _ }) (v := ?v47) rfl (by kernel_rfl) (by kernel_rfl) (by kernel_rfl) (fun _ _ _ h => h) (Or.inl ⟨by rfl, ?hy47⟩) (by assumption) ?rest47
      case hy47 =>
        intro w9 hS9
        obtain ⟨-, k0, k1, k2, k3⟩ := hS9
        go_simp
        try with_reducible rfl
      try simp only [Act.put, List.setIfInBounds_toArray, List.set_cons_zero, List.set_cons_succ]
      refine wpAnyH_take (i := 7) (oi := { dst := some 12, op := _, type := _, pos := _, after := _, guard := _ }) (v := ?v48) rfl (by kernel_rfl) (by kernel_rfl) (by kernel_rfl) (fun _ _ _ h => h) (Or.inl ⟨by rfl, ?hy48⟩) (by assumption) ?rest48
      case hy48 =>
        intro w9 hS9
        obtain ⟨-, k0, k1, k2, k3⟩ := hS9
        go_simp
        try with_reducible rfl
      try simp only [Act.put, List.setIfInBounds_toArray, List.set_cons_zero, List.set_cons_succ]
      refine wpAnyH_take (i := 9) (oi := { dst := some 14, op := _, type := _, pos := _, after := _, guard := _ }) (v := ?v49) rfl (by kernel_rfl) (by kernel_rfl) (by kernel_rfl) (fun _ _ _ h => h) (Or.inl ⟨by rfl, ?hy49⟩) (by assumption) ?rest49
      case hy49 =>
        intro w9 hS9
        obtain ⟨-, k0, k1, k2, k3⟩ := hS9
        go_simp
        try with_reducible rfl
      try simp only [Act.put, List.setIfInBounds_toArray, List.set_cons_zero, List.set_cons_succ]
      refine wpAnyH_ready (rs := [8]) (by kernel_rfl) (by simp) ?_
      refine AllReadyH.cons (o := { dst := some 13, op := _, type := _, pos := _, after := _, guard := _ }) rfl (fun K hK => ?_) AllReadyH.nil
      go_simp
      refine (blockCount_any _ ao dl ca _ hd1).mono ?_
      rintro e w3 ⟨rfl, b3⟩
      have hN3 := Q.out _ _ hHeld b3
      clear b3
      refine hK.out _ _ (hN3) (fun hx9 => ?_)
      clear hK K hHeld hx9
      have hHeld := hN3
      try simp only [Act.put, List.setIfInBounds_toArray, List.set_cons_zero, List.set_cons_succ]
      refine wpAnyH_ready (rs := [10]) (by kernel_rfl) (by simp) ?_
      refine AllReadyH.cons (o := { dst := some 15, op := _, type := _, pos := _, after := _, guard := _ }) rfl (fun K hK => ?_) AllReadyH.nil
      go_simp
      refine (diskBlocks_any _ S L hS1 hS2 hL1 hL2).mono ?_
      rintro e w4 ⟨rfl, b4⟩
      have hN4 := Q.out _ _ hHeld b4
      clear b4
      refine hK.out _ _ (hN4) (fun hx9 => ?_)
      clear hK K hHeld hx9
      have hHeld := hN4
      try simp only [Act.put, List.setIfInBounds_toArray, List.set_cons_zero, List.set_cons_succ]
      refine wpAnyH_take (i := 11) (oi := { dst := some 16, op := _, type := _, pos := _, after := _, guard := _ }) (v := ?v50) rfl (by kernel_rfl) (by kernel_rfl) (by kernel_rfl) (fun _ _ _ h => h) (Or.inl ⟨by rfl, ?hy50⟩) (by assumption) ?rest50
      case hy50 =>
        intro w9 hS9
        obtain ⟨-, k0, k1, k2, k3⟩ := hS9
        go_simp
        try with_reducible rfl
      try simp only [Act.put, List.setIfInBounds_toArray, List.set_cons_zero, List.set_cons_succ]
      refine wpAnyH_take (i := 12) (oi := { dst := some 17, op := _, type := _, pos := _, after := _, guard := _ }) (v := ?v51) rfl (by kernel_rfl) (by kernel_rfl) (by kernel_rfl) (fun _ _ _ h => h) (Or.inl ⟨by rfl, ?hy51⟩) (by assumption) ?rest51
      case hy51 =>
        intro w9 hS9
        obtain ⟨-, k0, k1, k2, k3⟩ := hS9
        go_simp
        try with_reducible rfl
      try simp only [Act.put, List.setIfInBounds_toArray, List.set_cons_zero, List.set_cons_succ]
      refine wpAnyH_take (i := 13) (oi := { dst := some 4, op := _, type := _, pos := _, after := _, guard := _ }) (v := ?v52) rfl (by kernel_rfl) (by kernel_rfl) (by kernel_rfl) (fun _ _ _ h => h) (Or.inl ⟨by rfl, ?hy52⟩) (by assumption) ?rest52
      case hy52 =>
        intro w9 hS9
        obtain ⟨-, k0, k1, k2, k3⟩ := hS9
        go_simp
        try with_reducible rfl
      try simp only [Act.put, List.setIfInBounds_toArray, List.set_cons_zero, List.set_cons_succ]
      refine wpAnyH_done (by kernel_rfl) ?_ _
      have BE := hHeld.1
      clear hHeld
      go_wp2
      go_ret
      exact ⟨ret_bool (by rw [H.out]; simp <;> rfl), BE.out.1⟩

end Go.Proofs.YtcopcegamadkgaaDoor

namespace Go.Proofs.YtcopcegamadkgaaDoor
open Go.RowKit



theorem arOk_iff (S L : Int) (dl : Nat) (ps : List (Int × List Int)) (bank : Int) : arOk S L dl ps bank = true ↔ fitD S L dl ps = true ∧ 0 ≤ bank ∧ bank ≤ 1 := by
  unfold arOk; simp only [Bool.and_eq_true, decide_eq_true_eq]

/-- Where an area lies. -/
theorem ar_in {S L bank : Int} {log : Bool} {dl : Nat} {ps : List (Int × List Int)} (h : arOk S L dl ps bank = true) :
    ∃ f l : Nat, arF S L bank log = f ∧ arL S L log = l ∧ 2 ≤ f ∧ 1 ≤ l ∧ l ≤ 64 ∧ f + l ≤ dl / 64 ∧ (f + l) * 64 ≤ dl ∧ dl / 64 ≤ 258 := by
  obtain ⟨h1, h2, h3⟩ := (arOk_iff ..).1 h
  obtain ⟨hc, hv, hn⟩ := (fitD_iff ..).1 h1
  obtain ⟨⟨hS1, hS2⟩, hL1, hL2⟩ := (cfgOk_iff S L).1 hc
  have hm := ((vldD_iff _ _).1 hv).1
  have hb : bank = 0 ∨ bank = 1 := by omega
  refine ⟨(arF S L bank log).toNat, (arL S L log).toNat, ?_⟩
  unfold arF arL
  rcases hb with rfl | rfl <;> cases log <;> simp <;> omega

theorem FitS.belowB {w : World} {ao bo : Option Addr} {dl ca n cb : Nat} {S L : Int} {W W' : World} (h : FitS w ao bo dl ca n cb S L W) (hb : Below (w.heap.size + 2) W W') : FitS w ao bo dl ca n cb S L W' :=
  FitS.mk (h.1.out.1.trans (hb.mono (by omega))) ⟨Nat.lt_of_lt_of_le h.1.out.2.1.1 hb.size, (hb.cell (p := ⟨w.heap.size, 0, none⟩) (by show w.heap.size < _; omega)).trans h.1.out.2.1.2.1, (hb.cell (p := ⟨w.heap.size, 1, none⟩) (by show w.heap.size < _; omega)).trans h.1.out.2.1.2.2⟩
    ⟨Nat.lt_of_lt_of_le h.1.out.2.2.1 hb.size, (hb.cell (p := ⟨w.heap.size + 1, 0, none⟩) (by show w.heap.size + 1 < _; omega)).trans h.1.out.2.2.2.1, (hb.cell (p := ⟨w.heap.size + 1, 1, none⟩) (by show w.heap.size + 1 < _; omega)).trans h.1.out.2.2.2.2⟩
theorem FitS.lt {w : World} {ao bo : Option Addr} {dl ca n cb : Nat} {S L : Int} {W : World} (h : FitS w ao bo dl ca n cb S L W) : w.heap.size + 2 ≤ W.heap.size := h.1.out.2.2.1
/-- The two boxes at the head of a call. -/
theorem FitS.new (w : World) (ao bo : Option Addr) (dl ca n cb : Nat) (S L : Int) (t1 t2 : TypeId) : FitS w ao bo dl ca n cb S L ((w.alloc (.cells #[.slice ao dl ca, .slice bo n cb] t1)).alloc (.cells #[.int .i64 S, .int .i64 L] t2)) := by
  refine FitS.mk (((Below.refl _ _).alloc (Nat.le_refl _) _).alloc (by simp) _) ((Box2.new w _ _ _).below ((Below.refl _ _).alloc (Nat.le_refl _) _)) ?_
  have := Box2.new (w.alloc (.cells #[.slice ao dl ca, .slice bo n cb] t1)) (.int .i64 S) (.int .i64 L) t2
  simpa using this




end Go.Proofs.YtcopcegamadkgaaDoor

namespace Go.Proofs.YtcopcegamadkgaaDoor
open Go.RowKit

/-- A stretch of a row of the call's own. -/
def OwnO (w : World) (base : Nat) (v : Value) (xs : List Int) : Prop :=
  (v = .slice none 0 0 ∧ xs = []) ∨ ∃ g o cap N C ys, v = .slice (some ⟨g, o, none⟩) xs.length cap ∧ Own .u8 5 w base (.slice (some ⟨g, 0, none⟩) N C) ys ∧ ys.length = N ∧ o + xs.length ≤ N ∧ (∀ i, i < xs.length → ys.getD (o + i) 0 = xs.getD i 0) ∧ xs.length ≤ cap ∧ cap ≤ maxLen

theorem OwnO.rd {w : World} {base : Nat} {v : Value} {xs : List Int} (h : OwnO w base v xs) : Rd .u8 w v xs := by
  rcases h with ⟨rfl, rfl⟩ | ⟨g, o, cap, N, C, ys, rfl, ho, hy, hN, hg, h1, h2⟩
  · exact ⟨none, 0, rfl, Nat.le_refl _, Nat.zero_le _, .inl rfl⟩
  · have hr := ho.rd
    obtain ⟨ao, c, e, r1, r2, r3⟩ := hr
    refine ⟨_, cap, rfl, h1, h2, ?_⟩
    by_cases hz : xs = []
    · exact .inl hz
    · right
      have hpos : 0 < xs.length := List.length_pos_iff.2 hz
      simp only [Value.slice.injEq] at e
      obtain ⟨rfl, -, rfl⟩ := e
      rcases r3 with r3 | ⟨b, o', e2, hb, hc⟩
      · subst r3; simp at hy; omega
      · simp only [Option.some.injEq, Addr.mk.injEq] at e2
        obtain ⟨rfl, rfl, -⟩ := e2
        refine ⟨g, o, rfl, hb, fun i hi => ?_⟩
        have := hc (o + i) (by omega)
        rw [Nat.zero_add, hg i hi] at this
        exact this

theorem OwnO.lt {w : World} {base : Nat} {v : Value} {xs : List Int} (h : OwnO w base v xs) : ∀ k, v.ownBlock = some k → base ≤ k ∧ k < w.heap.size := by
  intro k hk
  rcases h with ⟨rfl, rfl⟩ | ⟨g, o, cap, N, C, ys, rfl, ho, _⟩
  · simp [Value.ownBlock] at hk
  · exact ho.lt k hk

theorem OwnO.mono {w : World} {base base' : Nat} {v : Value} {xs : List Int} (h : OwnO w base v xs) (hb : base' ≤ base) : OwnO w base' v xs := by
  rcases h with h | ⟨g, o, cap, N, C, ys, e, ho, r⟩
  · exact .inl h
  · exact .inr ⟨g, o, cap, N, C, ys, e, ho.mono hb, r⟩

theorem OwnO.below {w w' : World} {base : Nat} {v : Value} {xs : List Int} (h : OwnO w base v xs) (hb : Below w.heap.size w w') : OwnO w' base v xs := by
  rcases h with h | ⟨g, o, cap, N, C, ys, e, ho, r⟩
  · exact .inl h
  · exact .inr ⟨g, o, cap, N, C, ys, e, ho.below hb, r⟩

end Go.Proofs.YtcopcegamadkgaaDoor

namespace Go.Proofs.YtcopcegamadkgaaDoor
open Go.RowKit

/-- The boxes of the configuration and of the answer. -/
def RunS (w : World) (S L : Int) (W : World) : Prop :=
  Hid (Below w.heap.size w W ∧ Box2 W w.heap.size (.int .i64 S) (.int .i64 L) ∧ ∃ x y, BoxF W (w.heap.size + 1) x y) ∧ W.cell? ⟨w.heap.size, 0, none⟩ = some (.int .i64 S) ∧ W.cell? ⟨w.heap.size, 1, none⟩ = some (.int .i64 L)
theorem RunS.below {w : World} {S L : Int} {W W' : World} (h : RunS w S L W) (hb : Below W.heap.size W W') : RunS w S L W' := by
  obtain ⟨x, y, hx⟩ := h.1.out.2.2
  exact ⟨⟨h.1.out.1.trans (hb.mono h.1.out.1.size), h.1.out.2.1.below hb, x, y, hx.below hb⟩, (h.1.out.2.1.below hb).2.1, (h.1.out.2.1.below hb).2.2⟩
theorem RunS.new (w : World) (S L : Int) (t1 t2 : TypeId) : RunS w S L ((w.alloc (.cells #[.int .i64 S, .int .i64 L] t1)).alloc (.cells #[.int .i64 0, .int .i64 0] t2)) := by
  have h1 := (Box2.new w (.int .i64 S) (.int .i64 L) t1).below ((Below.refl _ _).alloc (Nat.le_refl _) (.cells #[.int .i64 0, .int .i64 0] t2))
  have h2 := BoxF.new (w.alloc (.cells #[.int .i64 S, .int .i64 L] t1)) (.int .i64 0) (.int .i64 0) t2
  exact ⟨⟨((Below.refl _ _).alloc (Nat.le_refl _) _).alloc (by simp) _, h1, _, _, by simpa using h2⟩, h1.2.1, h1.2.2⟩
theorem BoxF.stored {W : World} {b : Nat} {x y : Value} (h : BoxF W b x y) (u v : Value) : BoxF ((W.setCell ⟨b, 0, none⟩ u).setCell ⟨b, 1, none⟩ v) b u v := by
  obtain ⟨⟨z, c0, c1⟩, f0, f1⟩ := h
  exact ⟨⟨by simpa using z, by go_simp, by go_simp⟩, by simpa using f0, by simpa using f1⟩
theorem RunS.stored {w : World} {S L : Int} {W : World} (h : RunS w S L W) (u v : Value) : Box2 ((W.setCell ⟨w.heap.size + 1, 0, none⟩ u).setCell ⟨w.heap.size + 1, 1, none⟩ v) (w.heap.size + 1) u v := by
  obtain ⟨x, y, hx⟩ := h.1.out.2.2
  exact (hx.stored u v).1
theorem RunS.store {w : World} {S L : Int} {W : World} (h : RunS w S L W) (u v : Value) : RunS w S L ((W.setCell ⟨w.heap.size + 1, 0, none⟩ u).setCell ⟨w.heap.size + 1, 1, none⟩ v) := by
  obtain ⟨x, y, hx⟩ := h.1.out.2.2
  have hb : Below (w.heap.size + 1) W ((W.setCell ⟨w.heap.size + 1, 0, none⟩ u).setCell ⟨w.heap.size + 1, 1, none⟩ v) := by
    refine Below.setCell (Below.setCell (Below.refl _ _) ?_ _) ?_ _ <;> exact Nat.le_refl _
  have b1 := h.1.out.2.1
  have b2 : Box2 ((W.setCell ⟨w.heap.size + 1, 0, none⟩ u).setCell ⟨w.heap.size + 1, 1, none⟩ v) w.heap.size (.int .i64 S) (.int .i64 L) := ⟨Nat.lt_of_lt_of_le b1.1 hb.size, (hb.cell (p := ⟨w.heap.size, 0, none⟩) (by show w.heap.size < _; omega)).trans b1.2.1, (hb.cell (p := ⟨w.heap.size, 1, none⟩) (by show w.heap.size < _; omega)).trans b1.2.2⟩
  exact ⟨⟨h.1.out.1.trans (hb.mono (by omega)), b2, u, v, hx.stored u v⟩, b2.2.1, b2.2.2⟩

set_option linter.unusedSimpArgs false in
set_option maxRecDepth 100000 in
set_option maxHeartbeats 1000000 in
theorem snapArea_any (w : World) (S L bank : Int) (hc : cfgOk S L = true) (hb : 0 ≤ bank ∧ bank ≤ 1) :
    Calls Tryd.prog 43 #[.agg #[.int .i64 S, .int .i64 L], .int .i64 bank] w fun e w' => e = .returned (.agg #[.int .i64 (arF S L bank false), .int .i64 (arL S L false)]) ∧ Below w.heap.size w w' := by
  obtain ⟨⟨hS1, hS2⟩, hL1, hL2⟩ := (cfgOk_iff S L).1 hc
  clear hc
  have hb' : bank = 0 ∨ bank = 1 := by omega
  have HA : Hid (arF S L bank false = 2 + bank * (S + L) ∧ arL S L false = S) := by unfold arF arL; exact ⟨by simp, rfl⟩
  have hm : 0 ≤ bank * (S + L) ∧ bank * (S + L) ≤ 128 := by rcases hb' with rfl | rfl <;> omega
  rw [HA.out.1, HA.out.2]
  go_enter Tryd.func43, Tryd.ntmps43
  go_wp2_with fail
  have F0 : Hid (RunS w S L ((w.alloc (.cells #[.int .i64 S, .int .i64 L] 29)).alloc (.cells #[.int .i64 0, .int .i64 0] 72))) := RunS.new _ _ _ _ _
  generalize (w.alloc (.cells #[.int .i64 S, .int .i64 L] 29)).alloc (.cells #[.int .i64 0, .int .i64 0] 72) = w0 at *
  refine wp_region_held_drew (S := RunS w S L) (by kernel_rfl) (F0.out.below (below_drewN' w0 1)) (fun hHeld => ?_)
  refine wpAnyH_take (i := 0) (oi := { dst := some 5, op := _, type := _, pos := _, after := _, guard := _ }) (v := ?v9) rfl (by kernel_rfl) (by kernel_rfl) (by kernel_rfl) (fun _ _ _ h => h) (Or.inl ⟨by rfl, ?hy9⟩) (by assumption) ?rest9
  case hy9 =>
    intro w9 hS9
    obtain ⟨-, k0, k1⟩ := hS9
    go_simp
    try with_reducible rfl
  try simp only [Act.put, List.setIfInBounds_toArray, List.set_cons_zero, List.set_cons_succ]
  refine wpAnyH_take (i := 1) (oi := { dst := some 6, op := _, type := _, pos := _, after := _, guard := _ }) (v := ?v10) rfl (by kernel_rfl) (by kernel_rfl) (by kernel_rfl) (fun _ _ _ h => h) (Or.inl ⟨by rfl, ?hy10⟩) (by assumption) ?rest10
  case hy10 =>
    intro w9 hS9
    obtain ⟨-, k0, k1⟩ := hS9
    go_simp
    try with_reducible rfl
  try simp only [Act.put, List.setIfInBounds_toArray, List.set_cons_zero, List.set_cons_succ]
  refine wpAnyH_take (i := 5) (oi := { dst := some 10, op := _, type := _, pos := _, after := _, guard := _ }) (v := ?v11) rfl (by kernel_rfl) (by kernel_rfl) (by kernel_rfl) (fun _ _ _ h => h) (Or.inl ⟨by rfl, ?hy11⟩) (by assumption) ?rest11
  case hy11 =>
    intro w9 hS9
    obtain ⟨-, k0, k1⟩ := hS9
    go_simp
    try with_reducible rfl
  try simp only [Act.put, List.setIfInBounds_toArray, List.set_cons_zero, List.set_cons_succ]
  refine wpAnyH_take (i := 6) (oi := { dst := some 11, op := _, type := _, pos := _, after := _, guard := _ }) (v := ?v12) rfl (by kernel_rfl) (by kernel_rfl) (by kernel_rfl) (fun _ _ _ h => h) (Or.inl ⟨by rfl, ?hy12⟩) (by assumption) ?rest12
  case hy12 =>
    intro w9 hS9
    obtain ⟨-, k0, k1⟩ := hS9
    go_simp
    try with_reducible rfl
  try simp only [Act.put, List.setIfInBounds_toArray, List.set_cons_zero, List.set_cons_succ]
  refine wpAnyH_ready (rs := [2]) (by kernel_rfl) (by simp) ?_
  refine AllReadyH.cons (o := { dst := some 7, op := _, type := _, pos := _, after := _, guard := _ }) rfl (fun K hK => ?_) AllReadyH.nil
  go_simp
  refine (bankBlocks_any _ S L hS1 hS2 hL1 hL2).mono ?_
  rintro e w2 ⟨rfl, b2⟩
  have F2 : Hid (RunS w S L w2) := hHeld.below b2
  clear b2
  refine hK.out _ _ (F2.out) (fun hx9 => ?_)
  clear hK K hHeld hx9
  have hHeld := F2.out
  try simp only [Act.put, List.setIfInBounds_toArray, List.set_cons_zero, List.set_cons_succ]
  refine wpAnyH_take (i := 3) (oi := { dst := some 8, op := _, type := _, pos := _, after := _, guard := _ }) (v := (.int .i64 (bank * (S + L)))) rfl (by kernel_rfl) (by kernel_rfl) (by kernel_rfl) (fun _ _ _ h => h) (Or.inl ⟨by rfl, ?hy13⟩) (by assumption) ?rest13
  case hy13 =>
    intro w9 hS9
    go_simp
    try (rw [IntKind.wrap_i64]; omega)
  try simp only [Act.put, List.setIfInBounds_toArray, List.set_cons_zero, List.set_cons_succ]
  refine wpAnyH_take (i := 4) (oi := { dst := some 9, op := _, type := _, pos := _, after := _, guard := _ }) (v := (.int .i64 (2 + bank * (S + L)))) rfl (by kernel_rfl) (by kernel_rfl) (by kernel_rfl) (fun _ _ _ h => h) (Or.inl ⟨by rfl, ?hy14⟩) (by assumption) ?rest14
  case hy14 =>
    intro w9 hS9
    go_simp
    try (rw [IntKind.wrap_i64]; omega)
  try simp only [Act.put, List.setIfInBounds_toArray, List.set_cons_zero, List.set_cons_succ]
  refine wpAnyH_take (i := 7) (oi := { dst := some 12, op := _, type := _, pos := _, after := _, guard := _ }) (v := ?v15) rfl (by kernel_rfl) (by kernel_rfl) (by kernel_rfl) (fun _ _ _ h => h) (Or.inl ⟨by rfl, ?hy15⟩) (by assumption) ?rest15
  case hy15 =>
    intro w9 hS9
    obtain ⟨-, k0, k1⟩ := hS9
    go_simp
    try with_reducible rfl
  try simp only [Act.put, List.setIfInBounds_toArray, List.set_cons_zero, List.set_cons_succ]
  refine wpAnyH_ready (rs := [8]) (by kernel_rfl) (by simp) ?_
  refine AllReadyH.cons (o := { dst := none, op := _, type := _, pos := _, after := _, guard := _ }) rfl (fun K hK => ?_) AllReadyH.nil
  obtain ⟨x9, y9, bx9⟩ := F2.out.1.out.2.2
  obtain ⟨⟨z9, d0, d1⟩, f0, f1⟩ := bx9
  go_simp
  have F3 : Hid (RunS w S L ((w2.setCell ⟨w.heap.size + 1, 0, none⟩ (.int .i64 (2 + bank * (S + L)))).setCell ⟨w.heap.size + 1, 1, none⟩ (.int .i64 S))) := F2.out.store _ _
  have X3 : Hid (Box2 ((w2.setCell ⟨w.heap.size + 1, 0, none⟩ (.int .i64 (2 + bank * (S + L)))).setCell ⟨w.heap.size + 1, 1, none⟩ (.int .i64 S)) (w.heap.size + 1) (.int .i64 (2 + bank * (S + L))) (.int .i64 S)) := F2.out.stored _ _
  clear d0 d1 f0 f1 z9 F2
  generalize ((w2.setCell ⟨w.heap.size + 1, 0, none⟩ (.int .i64 (2 + bank * (S + L)))).setCell ⟨w.heap.size + 1, 1, none⟩ (.int .i64 S)) = w3 at *
  refine hK.out _ _ (F3.out) (fun hx9 => ?_)
  clear hK K hHeld hx9
  have hHeld := F3.out
  try simp only [Act.put, List.setIfInBounds_toArray, List.set_cons_zero, List.set_cons_succ]
  refine wpAnyH_done (by kernel_rfl) ?_ _
  clear hHeld
  obtain ⟨-, d0, d1⟩ := X3.out
  go_wp2
  refine bodyPost_ret (v := .agg #[.int .i64 (2 + bank * (S + L)), .int .i64 S]) (by simp [results, Tryd.results43, go_sem, d0, d1]) rfl ⟨rfl, F3.out.1.out.1⟩

theorem field_diskA (x y : Value) (W : World) : (Instr.field 27 (.agg #[x, y]) 0).run Tryd.prog W = .ok x W := by kernel_rfl

theorem field_run (x y : Value) (W : World) : (Instr.field 72 (.agg #[x, y]) 0).run Tryd.prog W = .ok x W := by kernel_rfl

set_option linter.unusedSimpArgs false in
set_option maxRecDepth 100000 in
set_option maxHeartbeats 1000000 in
theorem logArea_any (w : World) (S L bank : Int) (hc : cfgOk S L = true) (hb : 0 ≤ bank ∧ bank ≤ 1) :
    Calls Tryd.prog 62 #[.agg #[.int .i64 S, .int .i64 L], .int .i64 bank] w fun e w' => e = .returned (.agg #[.int .i64 (arF S L bank true), .int .i64 (arL S L true)]) ∧ Below w.heap.size w w' := by
  obtain ⟨⟨hS1, hS2⟩, hL1, hL2⟩ := (cfgOk_iff S L).1 hc
  have HC : Hid (cfgOk S L = true ∧ 0 ≤ bank ∧ bank ≤ 1) := ⟨hc, hb⟩
  clear hc
  have hb' : bank = 0 ∨ bank = 1 := by omega
  have HA : Hid (arF S L bank true = arF S L bank false + S ∧ arL S L true = L) := by unfold arF arL; exact ⟨by simp, rfl⟩
  have hm : 2 ≤ arF S L bank false ∧ arF S L bank false ≤ 130 := by unfold arF; rcases hb' with rfl | rfl <;> simp <;> omega
  rw [HA.out.1, HA.out.2]
  have HSN : Hid (∀ W, Calls Tryd.prog 43 #[.agg #[.int .i64 S, .int .i64 L], .int .i64 bank] W fun e w' => e = .returned (.agg #[.int .i64 (arF S L bank false), .int .i64 (arL S L false)]) ∧ Below W.heap.size W w') := fun W => snapArea_any W S L bank HC.out.1 HC.out.2
  generalize arF S L bank false = q at *
  generalize arL S L false = q2 at *
  clear hb hb'
  go_enter Tryd.func62, Tryd.ntmps62
  go_wp2_with fail
  have F0 : Hid (RunS w S L ((w.alloc (.cells #[.int .i64 S, .int .i64 L] 29)).alloc (.cells #[.int .i64 0, .int .i64 0] 72))) := RunS.new _ _ _ _ _
  generalize (w.alloc (.cells #[.int .i64 S, .int .i64 L] 29)).alloc (.cells #[.int .i64 0, .int .i64 0] 72) = w0 at *
  refine wp_region_held_drew (S := RunS w S L) (by kernel_rfl) (F0.out.below (below_drewN' w0 1)) (fun hHeld => ?_)
  refine wpAnyH_take (i := 0) (oi := { dst := some 5, op := _, type := _, pos := _, after := _, guard := _ }) (v := ?v16) rfl (by kernel_rfl) (by kernel_rfl) (by kernel_rfl) (fun _ _ _ h => h) (Or.inl ⟨by rfl, ?hy16⟩) (by assumption) ?rest16
  case hy16 =>
    intro w9 hS9
    obtain ⟨-, k0, k1⟩ := hS9
    go_simp
    try with_reducible rfl
  try simp only [Act.put, List.setIfInBounds_toArray, List.set_cons_zero, List.set_cons_succ]
  refine wpAnyH_take (i := 1) (oi := { dst := some 6, op := _, type := _, pos := _, after := _, guard := _ }) (v := ?v17) rfl (by kernel_rfl) (by kernel_rfl) (by kernel_rfl) (fun _ _ _ h => h) (Or.inl ⟨by rfl, ?hy17⟩) (by assumption) ?rest17
  case hy17 =>
    intro w9 hS9
    obtain ⟨-, k0, k1⟩ := hS9
    go_simp
    try with_reducible rfl
  try simp only [Act.put, List.setIfInBounds_toArray, List.set_cons_zero, List.set_cons_succ]
  refine wpAnyH_take (i := 4) (oi := { dst := some 9, op := _, type := _, pos := _, after := _, guard := _ }) (v := ?v18) rfl (by kernel_rfl) (by kernel_rfl) (by kernel_rfl) (fun _ _ _ h => h) (Or.inl ⟨by rfl, ?hy18⟩) (by assumption) ?rest18
  case hy18 =>
    intro w9 hS9
    obtain ⟨-, k0, k1⟩ := hS9
    go_simp
    try with_reducible rfl
  try simp only [Act.put, List.setIfInBounds_toArray, List.set_cons_zero, List.set_cons_succ]
  refine wpAnyH_take (i := 5) (oi := { dst := some 10, op := _, type := _, pos := _, after := _, guard := _ }) (v := ?v19) rfl (by kernel_rfl) (by kernel_rfl) (by kernel_rfl) (fun _ _ _ h => h) (Or.inl ⟨by rfl, ?hy19⟩) (by assumption) ?rest19
  case hy19 =>
    intro w9 hS9
    obtain ⟨-, k0, k1⟩ := hS9
    go_simp
    try with_reducible rfl
  try simp only [Act.put, List.setIfInBounds_toArray, List.set_cons_zero, List.set_cons_succ]
  refine wpAnyH_take (i := 7) (oi := { dst := some 12, op := _, type := _, pos := _, after := _, guard := _ }) (v := ?v20) rfl (by kernel_rfl) (by kernel_rfl) (by kernel_rfl) (fun _ _ _ h => h) (Or.inl ⟨by rfl, ?hy20⟩) (by assumption) ?rest20
  case hy20 =>
    intro w9 hS9
    obtain ⟨-, k0, k1⟩ := hS9
    go_simp
    try with_reducible rfl
  try simp only [Act.put, List.setIfInBounds_toArray, List.set_cons_zero, List.set_cons_succ]
  refine wpAnyH_take (i := 8) (oi := { dst := some 13, op := _, type := _, pos := _, after := _, guard := _ }) (v := ?v21) rfl (by kernel_rfl) (by kernel_rfl) (by kernel_rfl) (fun _ _ _ h => h) (Or.inl ⟨by rfl, ?hy21⟩) (by assumption) ?rest21
  case hy21 =>
    intro w9 hS9
    obtain ⟨-, k0, k1⟩ := hS9
    go_simp
    try with_reducible rfl
  try simp only [Act.put, List.setIfInBounds_toArray, List.set_cons_zero, List.set_cons_succ]
  refine wpAnyH_ready (rs := [2]) (by kernel_rfl) (by simp) ?_
  refine AllReadyH.cons (o := { dst := some 7, op := _, type := _, pos := _, after := _, guard := _ }) rfl (fun K hK => ?_) AllReadyH.nil
  go_simp
  refine (HSN.out _).mono ?_
  rintro e w2 ⟨rfl, b2⟩
  have F2 : Hid (RunS w S L w2) := hHeld.below b2
  clear b2
  refine hK.out _ _ (F2.out) (fun hx9 => ?_)
  clear hK K hHeld hx9
  have hHeld := F2.out
  try simp only [Act.put, List.setIfInBounds_toArray, List.set_cons_zero, List.set_cons_succ]
  refine wpAnyH_take (i := 3) (oi := { dst := some 8, op := _, type := _, pos := _, after := _, guard := _ }) (v := (.int .i64 q)) rfl (by kernel_rfl) (by kernel_rfl) (by kernel_rfl) (fun _ _ _ h => h) (Or.inl ⟨by rfl, ?hy22⟩) (by assumption) ?rest22
  case hy22 =>
    intro w9 hS9
    have hf9 := field_run (.int .i64 q) (.int .i64 q2) w9
    go_simp
  try simp only [Act.put, List.setIfInBounds_toArray, List.set_cons_zero, List.set_cons_succ]
  refine wpAnyH_take (i := 6) (oi := { dst := some 11, op := _, type := _, pos := _, after := _, guard := _ }) (v := (.int .i64 (q + S))) rfl (by kernel_rfl) (by kernel_rfl) (by kernel_rfl) (fun _ _ _ h => h) (Or.inl ⟨by rfl, ?hy23⟩) (by assumption) ?rest23
  case hy23 =>
    intro w9 hS9
    go_simp
    try (rw [IntKind.wrap_i64]; omega)
  try simp only [Act.put, List.setIfInBounds_toArray, List.set_cons_zero, List.set_cons_succ]
  refine wpAnyH_take (i := 9) (oi := { dst := some 14, op := _, type := _, pos := _, after := _, guard := _ }) (v := ?v24) rfl (by kernel_rfl) (by kernel_rfl) (by kernel_rfl) (fun _ _ _ h => h) (Or.inl ⟨by rfl, ?hy24⟩) (by assumption) ?rest24
  case hy24 =>
    intro w9 hS9
    obtain ⟨-, k0, k1⟩ := hS9
    go_simp
    try with_reducible rfl
  try simp only [Act.put, List.setIfInBounds_toArray, List.set_cons_zero, List.set_cons_succ]
  refine wpAnyH_ready (rs := [10]) (by kernel_rfl) (by simp) ?_
  refine AllReadyH.cons (o := { dst := none, op := _, type := _, pos := _, after := _, guard := _ }) rfl (fun K hK => ?_) AllReadyH.nil
  obtain ⟨x9, y9, bx9⟩ := F2.out.1.out.2.2
  obtain ⟨⟨z9, d0, d1⟩, f0, f1⟩ := bx9
  go_simp
  have F3 : Hid (RunS w S L ((w2.setCell ⟨w.heap.size + 1, 0, none⟩ (.int .i64 (q + S))).setCell ⟨w.heap.size + 1, 1, none⟩ (.int .i64 L))) := F2.out.store _ _
  have X3 : Hid (Box2 ((w2.setCell ⟨w.heap.size + 1, 0, none⟩ (.int .i64 (q + S))).setCell ⟨w.heap.size + 1, 1, none⟩ (.int .i64 L)) (w.heap.size + 1) (.int .i64 (q + S)) (.int .i64 L)) := F2.out.stored _ _
  clear d0 d1 f0 f1 z9 F2
  generalize ((w2.setCell ⟨w.heap.size + 1, 0, none⟩ (.int .i64 (q + S))).setCell ⟨w.heap.size + 1, 1, none⟩ (.int .i64 L)) = w3 at *
  refine hK.out _ _ (F3.out) (fun hx9 => ?_)
  clear hK K hHeld hx9
  have hHeld := F3.out
  try simp only [Act.put, List.setIfInBounds_toArray, List.set_cons_zero, List.set_cons_succ]
  refine wpAnyH_done (by kernel_rfl) ?_ _
  clear hHeld
  obtain ⟨-, d0, d1⟩ := X3.out
  go_wp2
  refine bodyPost_ret (v := .agg #[.int .i64 (q + S), .int .i64 L]) (by simp [results, Tryd.results62, go_sem, d0, d1]) rfl ⟨rfl, F3.out.1.out.1⟩

set_option maxHeartbeats 1000000 in
theorem areaOf_any (w : World) (g N C f l : Nat) (hfl : (f + l) * 64 ≤ N) (hl1 : 1 ≤ l) (hN : N ≤ C) (hN3 : N ≤ 1048576) :
    Calls Tryd.prog 44 #[.agg #[.int .i64 (f : Int), .int .i64 (l : Int)], .slice (some ⟨g, 0, none⟩) N C] w fun e w' => e = .returned (.slice (some ⟨g, f * 64, none⟩) (l * 64) (C - f * 64)) ∧ Below w.heap.size w w' := by
  have B0 : Hid (Below w.heap.size w (w.alloc (.cells #[.int .i64 (f : Int), .int .i64 (l : Int)] 72))) := (Below.refl _ _).alloc (Nat.le_refl _) _
  have hne : ¬ C = f * 64 := by omega
  have HE : Hid ((f + l) * 64 - f * 64 = l * 64) := by show _ = _; omega
  go_enter Tryd.func44, Tryd.ntmps44
  go_wp2
  go_ret
  rw [HE.out]
  exact ⟨rfl, B0.out⟩

set_option maxRecDepth 100000 in
set_option maxHeartbeats 1000000 in
theorem readAll_any (w : World) (v1 v2 : Value) (dur : List Int) (ps : List (Int × List Int)) (hd : Rd .u8 w v1 dur) (hp : RdW w v2 ps) (hdl : dur.length ≤ 1048576) (hn : ps.length ≤ 1048576) (hpd : ∀ i, (pD ps i).length ≤ 1048576) :
    Calls Tryd.prog 63 #[.agg #[v1, v2]] w fun e w' => ∃ u, e = .returned u ∧ Own .u8 5 w' w.heap.size u (syD dur ps) ∧ Below w.heap.size w w' := by
  obtain ⟨va, ca, rfl, -⟩ := hd.len
  obtain ⟨vb, cb, rfl, -⟩ := id hp
  have HD : Hid (Rd .u8 w (.slice va dur.length ca) dur) := hd
  have HP : Hid (RdW w (.slice vb ps.length cb) ps) := hp
  have HPD : Hid (∀ i, (pD ps i).length ≤ 1048576) := hpd
  have B0 : Hid (Below w.heap.size w (w.alloc (.cells #[.slice va dur.length ca, .slice vb ps.length cb] 27))) := (Below.refl _ _).alloc (Nat.le_refl _) _
  clear hd hp hpd
  go_enter Tryd.func63, Tryd.ntmps63
  go_wp2_with fail
  generalize w.alloc (.cells #[.slice va dur.length ca, .slice vb ps.length cb] 27) = w0 at *
  refine (implSync_any _ _ _ dur ps (HD.out.below B0.out) (HP.out.below B0.out) hdl hn HPD.out).mono ?_
  rintro e w1 ⟨u, rfl, o1, b1⟩
  have O1 : Hid (Own .u8 5 w1 w.heap.size u (syD dur ps)) := o1.mono B0.out.size
  have B1 : Hid (Below w.heap.size w w1) := B0.out.trans (b1.mono B0.out.size)
  clear o1 b1 B0
  have hf9 := field_diskA u (.slice none 0 0) w1
  go_wp2
  go_ret
  exact ⟨_, rfl, O1.out, B1.out⟩

theorem arN_getD (D : List Int) (f l i : Nat) (hi : i < l * 64) : D.getD (f * 64 + i) 0 = (arN D f l).getD i 0 := by
  unfold arN
  rw [List.getD_eq_getElem?_getD, List.getD_eq_getElem?_getD, List.getElem?_take_of_lt hi, List.getElem?_drop]

set_option linter.unusedSimpArgs false in
set_option maxHeartbeats 2000000 in
set_option maxRecDepth 100000 in
theorem implArea_yes (w : World) (ao bo : Option Addr) (dl ca n cb : Nat) (dur : List Int) (ps : List (Int × List Int)) (S L bank : Int) (log : Bool) (hd : Rd .u8 w (.slice ao dl ca) dur) (hdl : dur.length = dl) (hp : RdW w (.slice bo n cb) ps) (hl : ps.length = n) (hd1 : dl ≤ 1048576) (hn : n ≤ 1048576) (hpd : ∀ i, (pD ps i).length ≤ 1048576)
    (hok : arOk S L dl ps bank = true) :
    Calls Tryd.prog 19 #[.agg #[.slice ao dl ca, .slice bo n cb], .agg #[.int .i64 S, .int .i64 L], .int .i64 bank, .bool log] w fun e w' => ∃ v', e = .returned v' ∧ OwnO w' w.heap.size v' (arN (syD dur ps) (arF S L bank log).toNat (arL S L log).toNat) ∧ Below w.heap.size w w' := by
  have HD : Hid (Rd .u8 w (.slice ao dl ca) dur) := hd
  have HDL : Hid (dur.length = dl) := hdl
  have HP : Hid (RdW w (.slice bo n cb) ps) := hp
  have HL : Hid (ps.length = n) := hl
  have HPD : Hid (∀ i, (pD ps i).length ≤ 1048576) := hpd
  obtain ⟨f, l, hf, hl', hf2, hl1, hl2, hfl, hfl2, hdm⟩ := ar_in (log := log) hok
  have h1 := ((arOk_iff ..).1 hok).1
  have hb0 := ((arOk_iff ..).1 hok).2.1
  have hb1 := ((arOk_iff ..).1 hok).2.2
  have HF : Hid (fitD S L dl ps = true) := h1
  have HC : Hid (cfgOk S L = true) := ((fitD_iff ..).1 h1).1
  have HV : Hid (vldD dl ps = true) := ((fitD_iff ..).1 h1).2.1
  rw [hf, hl', Int.toNat_natCast, Int.toNat_natCast]
  have HSL : Hid ((syD dur ps).length = dl) := by show _ = _; rw [syD_length (by rw [HDL.out]; exact HV.out), HDL.out]
  have HLN : Hid ((arN (syD dur ps) f l).length = l * 64) := arN_length _ _ _ (by rw [HSL.out]; exact hfl2)
  have HRA : Hid (∀ (W : World), FitS w ao bo dl ca n cb S L W → Calls Tryd.prog 63 #[.agg #[.slice ao dl ca, .slice bo n cb]] W fun e w' => ∃ g c, e = .returned (.slice (some ⟨g, 0, none⟩) dl c) ∧ Hid (Own .u8 5 w' w.heap.size (.slice (some ⟨g, 0, none⟩) dl c) (syD dur ps)) ∧ (dl ≤ c ∧ c ≤ maxLen) ∧ Below W.heap.size W w') := by
    intro W hF
    refine (readAll_any W _ _ dur ps (HD.out.below hF.1.out.1) (HP.out.below hF.1.out.1) (by rw [HDL.out]; exact hd1) (by rw [HL.out]; exact hn) HPD.out).mono ?_
    rintro e w' ⟨u, rfl, o, b⟩
    have hlt := hF.lt
    rcases o.row with ⟨rfl, h0⟩ | ⟨g, c, rfl, hg, h1, h2⟩
    · have := HSL.out; rw [h0] at this; simp at this; omega
    · rw [HSL.out] at o h1 ⊢
      exact ⟨g, c, rfl, o.mono (by omega), ⟨h1, h2⟩, b⟩
  have HOO : Hid (∀ (W : World) (g c : Nat), Own .u8 5 W w.heap.size (.slice (some ⟨g, 0, none⟩) dl c) (syD dur ps) → dl ≤ c → c ≤ maxLen → OwnO W w.heap.size (.slice (some ⟨g, f * 64, none⟩) (l * 64) (c - f * 64)) (arN (syD dur ps) f l)) := by
    intro W g c h h1 h2
    refine .inr ⟨g, f * 64, c - f * 64, dl, c, syD dur ps, by rw [HLN.out], h, HSL.out, by rw [HLN.out]; omega, fun i hi => ?_, by rw [HLN.out]; omega, by omega⟩
    rw [HLN.out] at hi
    exact arN_getD _ _ _ _ hi
  have HAR : Hid (∀ W, (log = true → Calls Tryd.prog 62 #[.agg #[.int .i64 S, .int .i64 L], .int .i64 bank] W fun e w' => e = .returned (.agg #[.int .i64 (f : Int), .int .i64 (l : Int)]) ∧ Below W.heap.size W w') ∧
      (log = false → Calls Tryd.prog 43 #[.agg #[.int .i64 S, .int .i64 L], .int .i64 bank] W fun e w' => e = .returned (.agg #[.int .i64 (f : Int), .int .i64 (l : Int)]) ∧ Below W.heap.size W w')) := by
    intro W
    rw [← hf, ← hl']
    exact ⟨fun e => by subst e; exact logArea_any W S L bank HC.out ⟨hb0, hb1⟩, fun e => by subst e; exact snapArea_any W S L bank HC.out ⟨hb0, hb1⟩⟩
  clear hd hdl hp hl hpd hok h1 hf hl'
  go_enter Tryd.func19, Tryd.ntmps19
  go_wp2_with fail
  have F1 : Hid (FitS w ao bo dl ca n cb S L ((w.alloc (.cells #[.slice ao dl ca, .slice bo n cb] 27)).alloc (.cells #[.int .i64 S, .int .i64 L] 29))) := FitS.new _ _ _ _ _ _ _ _ _ _ _
  generalize (w.alloc (.cells #[.slice ao dl ca, .slice bo n cb] 27)).alloc (.cells #[.int .i64 S, .int .i64 L] 29) = w1 at *
  refine (isLaidOut_any _ ao bo dl ca n cb ps S L (HP.out.below F1.out.1.out.1) HL.out hd1 hn HPD.out).mono ?_
  rintro e w2 ⟨rfl, b2⟩
  rw [HF.out]
  have F2 : Hid (FitS w ao bo dl ca n cb S L w2) := F1.out.below b2
  clear F1 b2
  have t0 : ¬ bank < 0 := by omega
  have t0d : decide (bank < 0) = false := by simpa using t0
  have t1 : ¬ 2 ≤ bank := by omega
  have t1d : decide (2 ≤ bank) = false := by simpa using t1
  have HL1 : Hid (∀ W, FitS w ao bo dl ca n cb S L W → True) := fun _ _ => trivial
  cases log with
  | true =>
    replace HAR : Hid (∀ W, Calls Tryd.prog 62 #[.agg #[.int .i64 S, .int .i64 L], .int .i64 bank] W fun e w' => e = .returned (.agg #[.int .i64 (f : Int), .int .i64 (l : Int)]) ∧ Below W.heap.size W w') := fun W => (HAR.out W).1 rfl
    · go_wp2_with fail
      refine wp_region_held_drew (S := FitS w ao bo dl ca n cb S L) (by kernel_rfl) (F2.out.below (below_drewN' w2 1)) (fun hHeld => ?_)
      refine wpAnyH_take (i := 0) (oi := { dst := some 22, op := _, type := _, pos := _, after := _, guard := _ }) (v := ?v25) rfl (by kernel_rfl) (by kernel_rfl) (by kernel_rfl) (fun _ _ _ h => h) (Or.inl ⟨by rfl, ?hy25⟩) (by assumption) ?rest25
      case hy25 =>
        intro w9 hS9
        obtain ⟨-, k0, k1, k2, k3⟩ := hS9
        go_simp
        try with_reducible rfl
      try simp only [Act.put, List.setIfInBounds_toArray, List.set_cons_zero, List.set_cons_succ]
      refine wpAnyH_take (i := 1) (oi := { dst := some 23, op := _, type := _, pos := _, after := _, guard := _ }) (v := ?v26) rfl (by kernel_rfl) (by kernel_rfl) (by kernel_rfl) (fun _ _ _ h => h) (Or.inl ⟨by rfl, ?hy26⟩) (by assumption) ?rest26
      case hy26 =>
        intro w9 hS9
        obtain ⟨-, k0, k1, k2, k3⟩ := hS9
        go_simp
        try with_reducible rfl
      try simp only [Act.put, List.setIfInBounds_toArray, List.set_cons_zero, List.set_cons_succ]
      refine wpAnyH_take (i := 3) (oi := { dst := some 25, op := _, type := _, pos := _, after := _, guard := _ }) (v := ?v27) rfl (by kernel_rfl) (by kernel_rfl) (by kernel_rfl) (fun _ _ _ h => h) (Or.inl ⟨by rfl, ?hy27⟩) (by assumption) ?rest27
      case hy27 =>
        intro w9 hS9
        obtain ⟨-, k0, k1, k2, k3⟩ := hS9
        go_simp
        try with_reducible rfl
      try simp only [Act.put, List.setIfInBounds_toArray, List.set_cons_zero, List.set_cons_succ]
      refine wpAnyH_ready (rs := [2]) (by kernel_rfl) (by simp) ?_
      refine AllReadyH.cons (o := { dst := some 24, op := _, type := _, pos := _, after := _, guard := _ }) rfl (fun K hK => ?_) AllReadyH.nil
      go_simp
      refine (HAR.out _).mono ?_
      rintro e w3 ⟨rfl, b3⟩
      have F3 : Hid (FitS w ao bo dl ca n cb S L w3) := hHeld.below b3
      clear b3
      refine hK.out _ _ (F3.out) (fun hx9 => ?_)
      clear hK K hHeld hx9
      have hHeld := F3.out
      try simp only [Act.put, List.setIfInBounds_toArray, List.set_cons_zero, List.set_cons_succ]
      refine wpAnyH_ready (rs := [4]) (by kernel_rfl) (by simp) ?_
      refine AllReadyH.cons (o := { dst := some 26, op := _, type := _, pos := _, after := _, guard := _ }) rfl (fun K hK => ?_) AllReadyH.nil
      go_simp
      refine (HRA.out _ F3.out).mono ?_
      rintro e w4 ⟨g4, c4, rfl, O4, hc4, b4⟩
      have F4 : Hid (FitS w ao bo dl ca n cb S L w4) := F3.out.below b4
      clear b4 F3
      refine hK.out _ _ (F4.out) (fun hx9 => ?_)
      clear hK K hHeld hx9
      have hHeld := F4.out
      try simp only [Act.put, List.setIfInBounds_toArray, List.set_cons_zero, List.set_cons_succ]
      refine wpAnyH_ready (rs := [5]) (by kernel_rfl) (by simp) ?_
      refine AllReadyH.cons (o := { dst := some 27, op := _, type := _, pos := _, after := _, guard := _ }) rfl (fun K hK => ?_) AllReadyH.nil
      go_simp
      refine (areaOf_any _ g4 dl c4 f l hfl2 hl1 hc4.1 hd1).mono ?_
      rintro e w5 ⟨rfl, b5⟩
      have F5 : Hid (FitS w ao bo dl ca n cb S L w5) := F4.out.below b5
      have O5 : Hid (Own .u8 5 w5 w.heap.size (.slice (some ⟨g4, 0, none⟩) dl c4) (syD dur ps)) := O4.out.below b5
      clear b5 F4 O4
      refine hK.out _ _ (F5.out) (fun hx9 => ?_)
      clear hK K hHeld hx9
      have hHeld := F5.out
      try simp only [Act.put, List.setIfInBounds_toArray, List.set_cons_zero, List.set_cons_succ]
      refine wpAnyH_take (i := 6) (oi := { dst := some 8, op := _, type := _, pos := _, after := _, guard := _ }) (v := ?v28) rfl (by kernel_rfl) (by kernel_rfl) (by kernel_rfl) (fun _ _ _ h => h) (Or.inl ⟨by rfl, ?hy28⟩) (by assumption) ?rest28
      case hy28 =>
        intro w9 hS9
        obtain ⟨-, k0, k1, k2, k3⟩ := hS9
        go_simp
        try with_reducible rfl
      try simp only [Act.put, List.setIfInBounds_toArray, List.set_cons_zero, List.set_cons_succ]
      refine wpAnyH_done (by kernel_rfl) ?_ _
      clear hHeld
      go_wp2
      go_ret
      exact ⟨_, rfl, HOO.out _ _ _ O5.out hc4.1 hc4.2, F5.out.1.out.1⟩
  | false =>
    replace HAR : Hid (∀ W, Calls Tryd.prog 43 #[.agg #[.int .i64 S, .int .i64 L], .int .i64 bank] W fun e w' => e = .returned (.agg #[.int .i64 (f : Int), .int .i64 (l : Int)]) ∧ Below W.heap.size W w') := fun W => (HAR.out W).2 rfl
    · go_wp2_with fail
      refine wp_region_held_drew (S := FitS w ao bo dl ca n cb S L) (by kernel_rfl) (F2.out.below (below_drewN' w2 1)) (fun hHeld => ?_)
      refine wpAnyH_take (i := 0) (oi := { dst := some 28, op := _, type := _, pos := _, after := _, guard := _ }) (v := ?v29) rfl (by kernel_rfl) (by kernel_rfl) (by kernel_rfl) (fun _ _ _ h => h) (Or.inl ⟨by rfl, ?hy29⟩) (by assumption) ?rest29
      case hy29 =>
        intro w9 hS9
        obtain ⟨-, k0, k1, k2, k3⟩ := hS9
        go_simp
        try with_reducible rfl
      try simp only [Act.put, List.setIfInBounds_toArray, List.set_cons_zero, List.set_cons_succ]
      refine wpAnyH_take (i := 1) (oi := { dst := some 29, op := _, type := _, pos := _, after := _, guard := _ }) (v := ?v30) rfl (by kernel_rfl) (by kernel_rfl) (by kernel_rfl) (fun _ _ _ h => h) (Or.inl ⟨by rfl, ?hy30⟩) (by assumption) ?rest30
      case hy30 =>
        intro w9 hS9
        obtain ⟨-, k0, k1, k2, k3⟩ := hS9
        go_simp
        try with_reducible rfl
      try simp only [Act.put, List.setIfInBounds_toArray, List.set_cons_zero, List.set_cons_succ]
      refine wpAnyH_take (i := 3) (oi := { dst := some 31, op := _, type := _, pos := _, after := _, guard := _ }) (v := ?v31) rfl (by kernel_rfl) (by kernel_rfl) (by kernel_rfl) (fun _ _ _ h => h) (Or.inl ⟨by rfl, ?hy31⟩) (by assumption) ?rest31
      case hy31 =>
        intro w9 hS9
        obtain ⟨-, k0, k1, k2, k3⟩ := hS9
        go_simp
        try with_reducible rfl
      try simp only [Act.put, List.setIfInBounds_toArray, List.set_cons_zero, List.set_cons_succ]
      refine wpAnyH_ready (rs := [2]) (by kernel_rfl) (by simp) ?_
      refine AllReadyH.cons (o := { dst := some 30, op := _, type := _, pos := _, after := _, guard := _ }) rfl (fun K hK => ?_) AllReadyH.nil
      go_simp
      refine (HAR.out _).mono ?_
      rintro e w3 ⟨rfl, b3⟩
      have F3 : Hid (FitS w ao bo dl ca n cb S L w3) := hHeld.below b3
      clear b3
      refine hK.out _ _ (F3.out) (fun hx9 => ?_)
      clear hK K hHeld hx9
      have hHeld := F3.out
      try simp only [Act.put, List.setIfInBounds_toArray, List.set_cons_zero, List.set_cons_succ]
      refine wpAnyH_ready (rs := [4]) (by kernel_rfl) (by simp) ?_
      refine AllReadyH.cons (o := { dst := some 32, op := _, type := _, pos := _, after := _, guard := _ }) rfl (fun K hK => ?_) AllReadyH.nil
      go_simp
      refine (HRA.out _ F3.out).mono ?_
      rintro e w4 ⟨g4, c4, rfl, O4, hc4, b4⟩
      have F4 : Hid (FitS w ao bo dl ca n cb S L w4) := F3.out.below b4
      clear b4 F3
      refine hK.out _ _ (F4.out) (fun hx9 => ?_)
      clear hK K hHeld hx9
      have hHeld := F4.out
      try simp only [Act.put, List.setIfInBounds_toArray, List.set_cons_zero, List.set_cons_succ]
      refine wpAnyH_ready (rs := [5]) (by kernel_rfl) (by simp) ?_
      refine AllReadyH.cons (o := { dst := some 33, op := _, type := _, pos := _, after := _, guard := _ }) rfl (fun K hK => ?_) AllReadyH.nil
      go_simp
      refine (areaOf_any _ g4 dl c4 f l hfl2 hl1 hc4.1 hd1).mono ?_
      rintro e w5 ⟨rfl, b5⟩
      have F5 : Hid (FitS w ao bo dl ca n cb S L w5) := F4.out.below b5
      have O5 : Hid (Own .u8 5 w5 w.heap.size (.slice (some ⟨g4, 0, none⟩) dl c4) (syD dur ps)) := O4.out.below b5
      clear b5 F4 O4
      refine hK.out _ _ (F5.out) (fun hx9 => ?_)
      clear hK K hHeld hx9
      have hHeld := F5.out
      try simp only [Act.put, List.setIfInBounds_toArray, List.set_cons_zero, List.set_cons_succ]
      refine wpAnyH_take (i := 6) (oi := { dst := some 8, op := _, type := _, pos := _, after := _, guard := _ }) (v := ?v32) rfl (by kernel_rfl) (by kernel_rfl) (by kernel_rfl) (fun _ _ _ h => h) (Or.inl ⟨by rfl, ?hy32⟩) (by assumption) ?rest32
      case hy32 =>
        intro w9 hS9
        obtain ⟨-, k0, k1, k2, k3⟩ := hS9
        go_simp
        try with_reducible rfl
      try simp only [Act.put, List.setIfInBounds_toArray, List.set_cons_zero, List.set_cons_succ]
      refine wpAnyH_done (by kernel_rfl) ?_ _
      clear hHeld
      go_wp2
      go_ret
      exact ⟨_, rfl, HOO.out _ _ _ O5.out hc4.1 hc4.2, F5.out.1.out.1⟩

set_option maxHeartbeats 2000000 in
set_option maxRecDepth 100000 in
theorem implArea_no (w : World) (ao bo : Option Addr) (dl ca n cb : Nat) (dur : List Int) (ps : List (Int × List Int)) (S L bank : Int) (log : Bool) (hd : Rd .u8 w (.slice ao dl ca) dur) (hdl : dur.length = dl) (hp : RdW w (.slice bo n cb) ps) (hl : ps.length = n) (hd1 : dl ≤ 1048576) (hn : n ≤ 1048576) (hpd : ∀ i, (pD ps i).length ≤ 1048576)
    (hok : arOk S L dl ps bank = false) :
    Calls Tryd.prog 19 #[.agg #[.slice ao dl ca, .slice bo n cb], .agg #[.int .i64 S, .int .i64 L], .int .i64 bank, .bool log] w fun e w' => e = .returned (.slice none 0 0) ∧ Below w.heap.size w w' := by
  have HD : Hid (Rd .u8 w (.slice ao dl ca) dur) := hd
  have HDL : Hid (dur.length = dl) := hdl
  have HP : Hid (RdW w (.slice bo n cb) ps) := hp
  have HL : Hid (ps.length = n) := hl
  have HPD : Hid (∀ i, (pD ps i).length ≤ 1048576) := hpd
  have HOK : Hid (arOk S L dl ps bank = false) := hok
  clear hd hdl hp hl hpd hok
  go_enter Tryd.func19, Tryd.ntmps19
  go_wp2_with fail
  have F1 : Hid (FitS w ao bo dl ca n cb S L ((w.alloc (.cells #[.slice ao dl ca, .slice bo n cb] 27)).alloc (.cells #[.int .i64 S, .int .i64 L] 29))) := FitS.new _ _ _ _ _ _ _ _ _ _ _
  generalize (w.alloc (.cells #[.slice ao dl ca, .slice bo n cb] 27)).alloc (.cells #[.int .i64 S, .int .i64 L] 29) = w1 at *
  refine (isLaidOut_any _ ao bo dl ca n cb ps S L (HP.out.below F1.out.1.out.1) HL.out hd1 hn HPD.out).mono ?_
  rintro e w2 ⟨rfl, b2⟩
  have F2 : Hid (FitS w ao bo dl ca n cb S L w2) := F1.out.below b2
  clear F1 b2
  cases hF : fitD S L dl ps with
  | false =>
    clear hF
    go_wp2
    go_ret
    exact ⟨rfl, F2.out.1.out.1⟩
  | true =>
    have hnb : ¬ (0 ≤ bank ∧ bank ≤ 1) := fun h => by
      have h2 := (arOk_iff S L dl ps bank).2 ⟨hF, h⟩
      rw [HOK.out] at h2; cases h2
    clear hF
    by_cases t0 : bank < 0
    · have t0d : decide (bank < 0) = true := by simpa using t0
      clear hnb
      go_wp2
      go_ret
      exact ⟨rfl, F2.out.1.out.1⟩
    · have t0d : decide (bank < 0) = false := by simpa using t0
      have t1 : 2 ≤ bank := by omega
      have t1d : decide (2 ≤ bank) = true := by simpa using t1
      clear hnb
      go_wp2
      go_ret
      exact ⟨rfl, F2.out.1.out.1⟩

theorem implArea_any (w : World) (v1 v2 : Value) (dur : List Int) (ps : List (Int × List Int)) (S L bank : Int) (log : Bool) (hd : Rd .u8 w v1 dur) (hp : RdW w v2 ps) (hdl : dur.length ≤ 1048576) (hn : ps.length ≤ 1048576) (hpd : ∀ i, (pD ps i).length ≤ 1048576) :
    Calls Tryd.prog 19 #[.agg #[v1, v2], .agg #[.int .i64 S, .int .i64 L], .int .i64 bank, .bool log] w fun e w' => ∃ v', e = .returned v' ∧ OwnO w' w.heap.size v' (arA dur ps S L bank log) ∧ Below w.heap.size w w' := by
  obtain ⟨va, ca, rfl, -⟩ := hd.len
  obtain ⟨vb, cb, rfl, -⟩ := id hp
  unfold arA
  cases h : arOk S L dur.length ps bank with
  | true =>
    simp only [if_true]
    exact implArea_yes w va vb dur.length ca ps.length cb dur ps S L bank log hd rfl hp rfl hdl hn hpd h
  | false =>
    simp only [Bool.false_eq_true, if_false]
    refine (implArea_no w va vb dur.length ca ps.length cb dur ps S L bank log hd rfl hp rfl hdl hn hpd h).mono ?_
    rintro e w' ⟨rfl, b⟩
    exact ⟨_, rfl, .inl ⟨rfl, rfl⟩, b⟩

end Go.Proofs.YtcopcegamadkgaaDoor

namespace Go.Proofs.YtcopcegamadkgaaDoor

def cP : Nat := 2197175160
/-- One step of the register. -/
def cT (r : Nat) : Nat := (r / 2) ^^^ (if r % 2 = 1 then cP else 0)

theorem xor_div2 (a b : Nat) : (a ^^^ b) / 2 = a / 2 ^^^ b / 2 := by
  have := Nat.xor_div_two (a := a) (b := b)
  exact this

theorem xor_mod2 (a b : Nat) : (a ^^^ b) % 2 = (a + b) % 2 := by
  have := Nat.xor_mod_two_eq_one (a := a) (b := b)
  omega

theorem cT_lin (a b : Nat) : cT (a ^^^ b) = cT a ^^^ cT b := by
  unfold cT
  rw [xor_div2, xor_mod2]
  rcases Nat.mod_two_eq_zero_or_one a with ha | ha <;> rcases Nat.mod_two_eq_zero_or_one b with hb | hb
  · rw [if_neg (by omega), if_neg (by omega), if_neg (by omega)]; simp
  · rw [if_pos (by omega), if_neg (by omega), if_pos (by omega)]; simp [Nat.xor_assoc]
  · rw [if_pos (by omega), if_pos (by omega), if_neg (by omega), Nat.xor_zero, Nat.xor_assoc, Nat.xor_comm (b / 2), ← Nat.xor_assoc]
  · rw [if_neg (by omega), if_pos (by omega), if_pos (by omega)]
    rw [Nat.xor_zero, Nat.xor_comm (b / 2) cP, ← Nat.xor_assoc, Nat.xor_assoc (a / 2) cP cP, Nat.xor_self, Nat.xor_zero]

def cT4 (r : Nat) : Nat := cT (cT (cT (cT r)))
theorem cT4_lin (a b : Nat) : cT4 (a ^^^ b) = cT4 a ^^^ cT4 b := by unfold cT4; simp only [cT_lin]

theorem cT_even (q : Nat) : cT (2 * q) = q := by unfold cT; rw [if_neg (by omega)]; simp

theorem cT4_16 (q : Nat) : cT4 (16 * q) = q := by
  unfold cT4
  rw [show 16 * q = 2 * (2 * (2 * (2 * q))) by omega, cT_even, cT_even, cT_even, cT_even]

theorem split16 (r : Nat) : r = 16 * (r / 16) ^^^ r % 16 := by
  apply Nat.eq_of_testBit_eq
  intro k
  rw [Nat.testBit_xor, show 16 * (r / 16) = r / 2 ^ 4 * 2 ^ 4 by simp only [Nat.reducePow]; omega, Nat.testBit_mul_two_pow, show r % 16 = r % 2 ^ 4 by rfl, Nat.testBit_mod_two_pow]
  by_cases h : 4 ≤ k
  · have h2 : ¬ k < 4 := by omega
    simp only [h, h2, decide_true, decide_false, Bool.true_and, Bool.false_and, Bool.xor_false, Nat.testBit_div_two_pow]
    congr 1; omega
  · have h2 : k < 4 := by omega
    simp [h, h2]

def tabL : List Nat := [0, 274646895, 549293790, 820201905, 1098587580, 1361435347, 1640403810, 1905808397, 2197175160, 2460548119, 2722870694, 2987750089, 3280807620, 3553878443, 3811616794, 4084100981]

theorem tab_eq : ∀ i, i < 16 → tabL.getD i 0 = cT4 i := by decide +kernel

/-- A nibble by the table. -/
theorem nibble (r : Nat) : cT4 r = r / 16 ^^^ tabL.getD (r % 16) 0 := by
  rw [tab_eq _ (Nat.mod_lt _ (by omega))]
  conv => lhs; rw [split16 r]
  rw [cT4_lin, cT4_16]

/-- A byte. -/
def cB (r x : Nat) : Nat := cT4 (cT4 (r ^^^ x))

/-- The register behind j bits of a byte. -/
def cS (r x : Nat) : Nat → Nat
  | 0 => r
  | j + 1 => (cS r x j / 2) ^^^ (if (cS r x j + x / 2 ^ j) % 2 = 1 then cP else 0)

def crcL (r : Nat) (xs : List Int) : Nat := xs.foldl (fun a x => cB a x.toNat) r
theorem crcL_snoc (r : Nat) (xs : List Int) (x : Int) : crcL r (xs ++ [x]) = cB (crcL r xs) x.toNat := by simp [crcL, List.foldl_append]

theorem xor_lt32 {a b : Nat} (ha : a < 4294967296) (hb : b < 4294967296) : a ^^^ b < 4294967296 := by
  have := Nat.xor_lt_two_pow (n := 32) (by simpa using ha) (by simpa using hb)
  simpa using this
end Go.Proofs.YtcopcegamadkgaaDoor

namespace Go.Proofs.YtcopcegamadkgaaDoor
open Go.RowKit

theorem take_snoc' (xs : List Int) (k : Nat) (h : k < xs.length) : xs.take (k + 1) = xs.take k ++ [xs.getD k 0] := by
  rw [List.take_succ_eq_append_getElem h]; simp [List.getD, h]

def M32 : Nat := 4294967296

theorem u32_xor_def (a b : Nat) (ha : a < M32) (hb : b < M32) : ∃ z : Nat, z < M32 ∧ bits .xor .u32 (a : Int) (b : Int) = (z : Int) ∧ z = a ^^^ b :=
  ⟨a ^^^ b, xor_lt32 ha hb, u32_xor_nat a b ha hb, rfl⟩
theorem u32_low4 (a : Nat) (ha : a < M32) : ∃ i : Nat, i < 16 ∧ bits .and .u32 (a : Int) 15 = (i : Int) ∧ i = a % 16 :=
  ⟨a % 16, Nat.mod_lt _ (by omega), by rw [show (15 : Int) = ((15 : Nat) : Int) from rfl, u32_and_nat a 15 ha (by unfold M32 at *; omega), nat_mask4], rfl⟩
theorem u32_xor_div (a b : Nat) (ha : a < M32) (hb : b < M32) : ∃ z : Nat, z < M32 ∧ bits .xor .u32 ((a : Int) / 16) (b : Int) = (z : Int) ∧ z = a / 16 ^^^ b := by
  refine ⟨a / 16 ^^^ b, xor_lt32 (by unfold M32 at *; omega) hb, ?_, rfl⟩
  have e : (a : Int) / 16 = ((a / 16 : Nat) : Int) := by omega
  rw [e, u32_xor_nat (a / 16) b (by unfold M32 at *; omega) hb]

theorem nat_not32 (R : Nat) (h : R < M32) : 4294967295 ^^^ R = 4294967295 - R := by
  have e := congrArg BitVec.toNat (BitVec.allOnes_xor (x := BitVec.ofNat 32 R))
  rw [BitVec.toNat_xor, BitVec.toNat_not, BitVec.toNat_allOnes, BitVec.toNat_ofNat, Nat.mod_eq_of_lt (show R < 2 ^ 32 from h)] at e
  simpa using e

theorem not32 (R : Nat) (h : R < M32) : wrap64 (bits .xor .u32 IntKind.u32.max (R : Int)) = ((4294967295 - R : Nat) : Int) := by
  rw [show IntKind.u32.max = ((4294967295 : Nat) : Int) from by decide, u32_xor_nat 4294967295 R (by decide) h, nat_not32 R h]
  have hz : 4294967295 - R ≤ 4294967295 := Nat.sub_le _ _
  generalize 4294967295 - R = z at *
  exact IntWalk.wrap64_in _ ⟨by omega, by omega⟩

/-- The table's cells. -/
def TabC (w : World) : Prop := ∀ i, i < 16 → w.cell? ⟨0, i, none⟩ = some (.int .u32 ((tabL.getD i 0 : Nat) : Int))
theorem TabC.below {w w' : World} (h : TabC w) (h0 : 0 < w.heap.size) (hb : Below w.heap.size w w') : TabC w' := fun i hi => (hb.cell (p := ⟨0, i, none⟩) h0).trans (h i hi)

theorem tabL_lt (i : Nat) : tabL.getD i 0 < M32 := by
  by_cases h : i < 16
  · exact (show ∀ i, i < 16 → tabL.getD i 0 < M32 by decide +kernel) i h
  · rw [show tabL.getD i 0 = 0 by rw [List.getD, List.getElem?_eq_none (show tabL.length ≤ i by simp [tabL]; omega)]; rfl]; decide

set_option maxHeartbeats 400000 in
set_option maxRecDepth 100000 in
theorem implCrc_row (w : World) (b o n cap : Nat) (xs : List Int) (hx : xs.length = n) (hc : ∀ i, i < n → w.cell? ⟨b, o + i, none⟩ = some (.int .u8 (xs.getD i 0))) (hby : Byt xs) (hn : n ≤ 1099511627776) (ht : TabC w) :
    Calls Tryd.prog 42 #[.slice (some ⟨b, o, none⟩) n cap] w fun e w' => e = .returned (.int .i64 ((4294967295 - crcL 4294967295 xs : Nat) : Int)) ∧ w' = w := by
  have HC : Hid (∀ i, i < n → w.cell? ⟨b, o + i, none⟩ = some (.int .u8 (xs.getD i 0))) := hc
  have HX : Hid (xs.length = n) := hx
  have HT : Hid (TabC w) := ht
  clear hc hx ht
  go_enter Tryd.func42, Tryd.ntmps42
  go_wp2
  go_loop [3, 8] (fun r i => ∃ k R : Nat, k ≤ n ∧ i = .int .i64 k ∧ Hid (R < M32) ∧ r = .int .u32 R ∧ Hid (R = crcL 4294967295 (xs.take k))) (fun _ i => n - (intOf i).toNat)
  case atStart => exact ⟨0, 4294967295, Nat.zero_le _, rfl, (by show _ < M32; decide), rfl, rfl⟩
  case round =>
    obtain ⟨k, R, hk, rfl, HR, rfl, HE⟩ := hrel
    by_cases hlt : k < n
    · obtain ⟨x, hx, hxe⟩ := byt_at hby k
      have hsrc : w.cell? ⟨b, o + k, none⟩ = some (.int .u8 (x : Int)) := by rw [← hxe]; exact HC.out k hlt
      have hltI : (k : Int) < (n : Int) := by omega
      obtain ⟨Y, hY, e1, y1⟩ := u32_xor_def R x HR.out (by unfold M32; omega)
      obtain ⟨I, hI, e2, y2⟩ := u32_low4 Y hY
      have c1 := HT.out I hI
      obtain ⟨T1, hT1⟩ : ∃ t, t = tabL.getD I 0 := ⟨_, rfl⟩
      rw [← hT1] at c1
      obtain ⟨Z, hZ, e3, y3⟩ := u32_xor_div Y T1 hY (by rw [hT1]; exact tabL_lt _)
      obtain ⟨J, hJ, e4, y4⟩ := u32_low4 Z hZ
      have c2 := HT.out J hJ
      obtain ⟨T2, hT2⟩ : ∃ t, t = tabL.getD J 0 := ⟨_, rfl⟩
      rw [← hT2] at c2
      obtain ⟨V, hV, e5, y5⟩ := u32_xor_div Z T2 hZ (by rw [hT2]; exact tabL_lt _)
      have HV : Hid (V = crcL 4294967295 (xs.take (k + 1))) := by
        show _ = _
        rw [take_snoc' xs k (by rw [HX.out]; exact hlt), crcL_snoc, ← HE.out, hxe, Int.toNat_natCast]
        have z1 : Z = cT4 Y := by rw [nibble, y3, hT1, y2]
        have v1 : V = cT4 Z := by rw [nibble, y5, hT2, y4]
        rw [v1, z1, y1]
        rfl
      have HVL : Hid (V < M32) := hV
      clear hV y1 y2 y3 y4 y5 hT1 hT2 hY hZ hxe HE HR
      go_wp2
      go_round
      case rel => exact ⟨k + 1, V, by omega, by go_num, HVL, rfl, HV⟩
      case measure => simp [intOf]; omega
    · go_wp2
      go_ret
      exact ⟨ret_int (by rw [not32 R HR.out, HE.out, List.take_of_length_le (by rw [HX.out]; omega)]), rfl⟩

set_option maxHeartbeats 400000 in
theorem implCrc_nil (w : World) (ao : Option Addr) (cap : Nat) :
    Calls Tryd.prog 42 #[.slice ao 0 cap] w fun e w' => e = .returned (.int .i64 0) ∧ w' = w := by
  go_enter Tryd.func42, Tryd.ntmps42
  go_wp2
  go_rounds 1
  go_ret
  exact ⟨ret_int (not32 4294967295 (by decide)), rfl⟩

theorem implCrc_any (w : World) (v : Value) (xs : List Int) (h : Rd .u8 w v xs) (hby : Byt xs) (hn : xs.length ≤ 1099511627776) (ht : TabC w) :
    Calls Tryd.prog 42 #[v] w fun e w' => e = .returned (.int .i64 ((4294967295 - crcL 4294967295 xs : Nat) : Int)) ∧ w' = w := by
  obtain ⟨ao, cap, rfl, h1, h2, h3⟩ := h
  rcases h3 with rfl | ⟨b, o, rfl, hb, hc⟩
  · exact implCrc_nil w ao cap
  · exact implCrc_row w b o xs.length cap xs rfl hc hby hn ht

end Go.Proofs.YtcopcegamadkgaaDoor

namespace Go.Proofs.YtcopcegamadkgaaDoor
open Go.RowKit

/-- Its image. -/
def I0 : List Int := treeB [rootN]
theorem I0_len : I0.length = 23 := by
  unfold I0 treeB nodesB
  rw [if_pos root_ok]
  simp [nodeB_len, rootN, slashT, empty]
  rfl
theorem I0_byt : Byt I0 := by
  have : I0.all (fun x => decide (0 ≤ x ∧ x < 256)) = true := by decide +kernel
  intro x hx
  have := List.all_eq_true.1 this x hx
  simpa using this
def C0 : Nat := 4294967295 - crcL 4294967295 I0
theorem C0_le : C0 ≤ 4294967295 := Nat.sub_le _ _
/-- The first superblock. -/
def Sp0 : List Int := sup 1 0 0 23 (C0 : Int)
theorem Sp0_ok : supOk 1 0 0 23 (C0 : Int) = true := by
  have := C0_le
  unfold supOk
  simp
  omega
theorem Sp0_len : Sp0.length = 64 := by unfold Sp0 sup; rw [if_pos Sp0_ok]; exact supB_len _ _ _ _ _
/-- A new disk's bytes. -/
def fmN (n : Nat) : List Int := zeros 64 ++ Sp0 ++ I0 ++ zeros (n * 64 - 151)
def fmK (S L : Int) : Nat := (2 + 2 * (S + L)).toNat
theorem fmN_len (n : Nat) (h : 3 ≤ n) : (fmN n).length = n * 64 := by
  unfold fmN; simp only [List.length_append, zeros_len, Sp0_len, I0_len]; omega
theorem fmK_in {S L : Int} (h : cfgOk S L = true) : 2 + 2 * (S + L) = ((fmK S L : Nat) : Int) ∧ 6 ≤ fmK S L ∧ fmK S L ≤ 258 := by
  obtain ⟨⟨h1, h2⟩, h3, h4⟩ := (cfgOk_iff S L).1 h
  unfold fmK; omega
/-- The two pieces laid over zeros. -/
theorem fmN_made (n : Nat) (h : 3 ≤ n) : splice (splice (zeros (n * 64)) 128 I0) 64 Sp0 = fmN n := by
  apply List.ext_getElem?
  intro j
  have hz : (zeros (n * 64)).length = n * 64 := zeros_len _
  rw [splice_get _ _ _ (by rw [length_splice _ _ _ (by rw [hz, I0_len]; omega), hz, Sp0_len]; omega), Sp0_len, splice_get _ _ _ (by rw [hz, I0_len]; omega), I0_len]
  unfold fmN
  by_cases h1 : j < 64
  · rw [if_pos h1, if_pos (show j < 128 by omega), List.append_assoc, List.append_assoc, List.getElem?_append_left (by rw [zeros_len]; exact h1)]
    unfold zeros
    rw [List.getElem?_replicate, List.getElem?_replicate, if_pos (show j < n * 64 by omega), if_pos h1]
  · by_cases h2 : j < 128
    · rw [if_neg h1, if_pos (show j < 64 + 64 by omega), List.append_assoc, List.append_assoc, List.getElem?_append_right (by rw [zeros_len]; omega), zeros_len, List.getElem?_append_left (by rw [Sp0_len]; omega)]
    · by_cases h3 : j < 151
      · have e : j - 128 = j - 64 - 64 := by omega
        rw [if_neg h1, if_neg (show ¬ j < 64 + 64 by omega), if_neg h2, if_pos (show j < 128 + 23 by omega), List.append_assoc, List.append_assoc, List.getElem?_append_right (by rw [zeros_len]; omega), zeros_len, List.getElem?_append_right (by rw [Sp0_len]; omega), Sp0_len, List.getElem?_append_left (by rw [I0_len]; omega), e]
      · rw [if_neg h1, if_neg (show ¬ j < 64 + 64 by omega), if_neg h2, if_neg (show ¬ j < 128 + 23 by omega), List.append_assoc, List.append_assoc, List.getElem?_append_right (by rw [zeros_len]; omega), zeros_len, List.getElem?_append_right (by rw [Sp0_len]; omega), Sp0_len, List.getElem?_append_right (by rw [I0_len]; omega), I0_len]
        unfold zeros
        rw [List.getElem?_replicate, List.getElem?_replicate]
        by_cases h4 : j < n * 64
        · rw [if_pos h4, if_pos (show j - 64 - 64 - 23 < n * 64 - 151 by omega)]
        · rw [if_neg h4, if_neg (show ¬ j - 64 - 64 - 23 < n * 64 - 151 by omega)]

end Go.Proofs.YtcopcegamadkgaaDoor

namespace Go.Proofs.YtcopcegamadkgaaDoor
open Go.RowKit

/-- The boxes at the head of a format. -/
def FmS (w : World) (S L : Int) (W : World) : Prop := Below w.heap.size w W ∧ Box2 W w.heap.size (.int .i64 S) (.int .i64 L) ∧ BoxF W (w.heap.size + 1) (.slice none 0 0) (.slice none 0 0)
theorem FmS.below {w : World} {S L : Int} {W W' : World} (h : FmS w S L W) (hb : Below W.heap.size W W') : FmS w S L W' := ⟨h.1.trans (hb.mono h.1.size), h.2.1.below hb, h.2.2.below hb⟩
theorem FmS.lt {w : World} {S L : Int} {W : World} (h : FmS w S L W) : w.heap.size + 2 ≤ W.heap.size := h.2.2.1.1
theorem FmS.belowB {w : World} {S L : Int} {W W' : World} {B : Nat} (h : FmS w S L W) (hb : Below B W W') (hB : w.heap.size + 2 ≤ B) : FmS w S L W' :=
  ⟨h.1.trans (hb.mono (by omega)), ⟨Nat.lt_of_lt_of_le h.2.1.1 hb.size, (hb.cell (p := ⟨w.heap.size, 0, none⟩) (by show w.heap.size < _; omega)).trans h.2.1.2.1, (hb.cell (p := ⟨w.heap.size, 1, none⟩) (by show w.heap.size < _; omega)).trans h.2.1.2.2⟩, h.2.2.belowB hb (by omega)⟩
theorem FmS.new (w : World) (S L : Int) : FmS w S L ((w.alloc (.cells #[.int .i64 S, .int .i64 L] 29)).alloc (.cells #[.slice none 0 0, .slice none 0 0] 27)) := by
  refine ⟨((Below.refl _ _).alloc (Nat.le_refl _) _).alloc (by simp) _, (Box2.new w _ _ _).below ((Below.refl _ _).alloc (Nat.le_refl _) _), ?_⟩
  have := BoxF.new (w.alloc (.cells #[.int .i64 S, .int .i64 L] 29)) (.slice none 0 0) (.slice none 0 0) 27
  simpa using this

end Go.Proofs.YtcopcegamadkgaaDoor

namespace Go.Proofs.YtcopcegamadkgaaDoor
open Go.RowKit

/-- A superblock's box. -/
def Sup5 (W : World) (b : Nat) (c : Int) : Prop := b < W.heap.size ∧ W.cell? ⟨b, 0, none⟩ = some (.int .i64 1) ∧ W.cell? ⟨b, 1, none⟩ = some (.int .i64 0) ∧ W.cell? ⟨b, 2, none⟩ = some (.int .i64 0) ∧ W.cell? ⟨b, 3, none⟩ = some (.int .i64 23) ∧ W.cell? ⟨b, 4, none⟩ = some (.int .i64 c)
theorem Sup5.below {W W' : World} {b : Nat} {c : Int} (h : Sup5 W b c) (hb : Below W.heap.size W W') : Sup5 W' b c :=
  ⟨Nat.lt_of_lt_of_le h.1 hb.size, (hb.cell (p := ⟨b, 0, none⟩) h.1).trans h.2.1, (hb.cell (p := ⟨b, 1, none⟩) h.1).trans h.2.2.1, (hb.cell (p := ⟨b, 2, none⟩) h.1).trans h.2.2.2.1, (hb.cell (p := ⟨b, 3, none⟩) h.1).trans h.2.2.2.2.1, (hb.cell (p := ⟨b, 4, none⟩) h.1).trans h.2.2.2.2.2⟩
theorem Sup5.other {W W' : World} {b g : Nat} {c : Int} (h : Sup5 W b c) (hg : W.grownBy W' (some g)) (hn : b ≠ g) : Sup5 W' b c := by
  have hbl := hg.block b h.1 (fun e => hn (by simpa using e))
  exact ⟨Nat.lt_of_lt_of_le h.1 hg.size, (World.cell?_of_block (a := ⟨b, 0, none⟩) hbl).trans h.2.1, (World.cell?_of_block (a := ⟨b, 1, none⟩) hbl).trans h.2.2.1, (World.cell?_of_block (a := ⟨b, 2, none⟩) hbl).trans h.2.2.2.1, (World.cell?_of_block (a := ⟨b, 3, none⟩) hbl).trans h.2.2.2.2.1, (World.cell?_of_block (a := ⟨b, 4, none⟩) hbl).trans h.2.2.2.2.2⟩
theorem box2_other {W W' : World} {b g : Nat} {x y : Value} (h : Box2 W b x y) (hg : W.grownBy W' (some g)) (hn : b ≠ g) : Box2 W' b x y := by
  have hbl := hg.block b h.1 (fun e => hn (by simpa using e))
  exact ⟨Nat.lt_of_lt_of_le h.1 hg.size, (World.cell?_of_block (a := ⟨b, 0, none⟩) hbl).trans h.2.1, (World.cell?_of_block (a := ⟨b, 1, none⟩) hbl).trans h.2.2⟩
theorem boxF_other {W W' : World} {b g : Nat} {x y : Value} (h : BoxF W b x y) (hg : W.grownBy W' (some g)) (hn : b ≠ g) : BoxF W' b x y := by
  have hbl := hg.block b h.1.1 (fun e => hn (by simpa using e))
  exact ⟨box2_other h.1 hg hn, (World.frozen?_of_block (a := ⟨b, 0, none⟩) hbl).trans h.2.1, (World.frozen?_of_block (a := ⟨b, 1, none⟩) hbl).trans h.2.2⟩
theorem FmS.other {w : World} {S L : Int} {W W' : World} {g : Nat} (h : FmS w S L W) (hg : W.grownBy W' (some g)) (hn : w.heap.size + 2 ≤ g) : FmS w S L W' :=
  ⟨h.1.grown hg (by have := h.lt; omega) (fun q hq => by simp at hq; omega), box2_other h.2.1 hg (by omega), boxF_other h.2.2 hg (by omega)⟩

/-- What a format has in its boxes. -/
def FmI (w : World) (S L : Int) (Bd Bs g N cap : Nat) (C9 : Int) (W : World) : Prop :=
  Hid (FmS w S L W ∧ Box2 W Bd (.slice (some ⟨g, 0, none⟩) N cap) (.slice none 0 0) ∧ Sup5 W Bs C9) ∧ W.cell? ⟨w.heap.size, 0, none⟩ = some (.int .i64 S) ∧ W.cell? ⟨w.heap.size, 1, none⟩ = some (.int .i64 L) ∧
    W.cell? ⟨Bd, 0, none⟩ = some (.slice (some ⟨g, 0, none⟩) N cap) ∧ W.cell? ⟨Bd, 1, none⟩ = some (.slice none 0 0) ∧
    W.cell? ⟨Bs, 0, none⟩ = some (.int .i64 1) ∧ W.cell? ⟨Bs, 1, none⟩ = some (.int .i64 0) ∧ W.cell? ⟨Bs, 2, none⟩ = some (.int .i64 0) ∧ W.cell? ⟨Bs, 3, none⟩ = some (.int .i64 23) ∧ W.cell? ⟨Bs, 4, none⟩ = some (.int .i64 C9)
theorem FmI.mk {w : World} {S L : Int} {Bd Bs g N cap : Nat} {C9 : Int} {W : World} (h1 : FmS w S L W) (h2 : Box2 W Bd (.slice (some ⟨g, 0, none⟩) N cap) (.slice none 0 0)) (h3 : Sup5 W Bs C9) : FmI w S L Bd Bs g N cap C9 W :=
  ⟨⟨h1, h2, h3⟩, h1.2.1.2.1, h1.2.1.2.2, h2.2.1, h2.2.2, h3.2⟩
theorem FmI.below {w : World} {S L : Int} {Bd Bs g N cap : Nat} {C9 : Int} {W W' : World} (h : FmI w S L Bd Bs g N cap C9 W) (hb : Below W.heap.size W W') : FmI w S L Bd Bs g N cap C9 W' :=
  FmI.mk (h.1.out.1.below hb) (h.1.out.2.1.below hb) (h.1.out.2.2.below hb)
theorem FmI.other {w : World} {S L : Int} {Bd Bs g N cap : Nat} {C9 : Int} {W W' : World} (h : FmI w S L Bd Bs g N cap C9 W) (hg : W.grownBy W' (some g)) (h1 : w.heap.size + 2 ≤ g) (h2 : Bd ≠ g) (h3 : Bs ≠ g) : FmI w S L Bd Bs g N cap C9 W' :=
  FmI.mk (h.1.out.1.other hg h1) (box2_other h.1.out.2.1 hg h2) (h.1.out.2.2.other hg h3)

/-- A row that a piece was laid into. -/
theorem own_spliced {W W' : World} {base g N cap : Nat} {D C : List Int} {off : Nat} {cur : List Value} (ho : Own .u8 5 W base (.slice (some ⟨g, 0, none⟩) N cap) D) (hD : D.length = N) (hgb : W.heap[g]? = some (.cells cur.toArray 5 (0, 0))) (hoff : off + C.length ≤ N)
    (hg : W'.heap[g]? = some (.cells (splice cur off (C.map (Value.int .u8))).toArray 5 (0, 0))) : Own .u8 5 W' base (.slice (some ⟨g, 0, none⟩) N cap) (splice D off C) := by
  rcases ho.2 with ⟨h, -⟩ | ⟨g', cap', cur', e, hb, h2, h3, h4, h5, h6⟩
  · simp at h
  · simp only [Value.slice.injEq, Option.some.injEq, Addr.mk.injEq] at e
    obtain ⟨⟨rfl, -⟩, -, rfl⟩ := e
    rw [hgb] at h2
    simp only [Option.some.injEq, Obj.cells.injEq] at h2
    obtain ⟨rfl, -⟩ := h2
    rw [hD] at h3 h6
    rw [Nat.mul_one] at h5 h6
    have hcl : cur.length = cap := by simpa using h5
    have hl : (splice D off C).length = N := by rw [length_splice _ _ _ (by omega), hD]
    refine ⟨by rw [List.length_map, hl]; omega, .inr ⟨g, cap, _, by rw [hl], hb, hg, by rw [hl]; exact h3, h4, ?_, ?_⟩⟩
    · rw [List.size_toArray, length_splice _ _ _ (by rw [List.length_map]; omega), hcl, Nat.mul_one]
    · rw [hl, Nat.mul_one, splice_map, ← h6]
      apply List.ext_getElem?
      intro j
      rw [splice_get _ _ _ (by rw [List.length_take, List.length_map]; simp; omega), List.getElem?_take]
      by_cases hj : j < N
      · rw [if_pos hj, splice_get _ _ _ (by rw [List.length_map]; omega)]
        simp only [List.getElem?_take_of_lt hj]
      · rw [if_neg hj, if_neg (by omega), if_neg (by rw [List.length_map]; omega), List.getElem?_take, if_neg hj]

set_option maxHeartbeats 400000 in
theorem slotOf_any (w : World) : Calls Tryd.prog 46 #[.int .i64 1] w fun e w' => e = .returned (.int .i64 ((1 : Nat) : Int)) ∧ w' = w := by
  go_enter Tryd.func46, Tryd.ntmps46
  go_wp2
  go_ret
  exact ⟨rfl, rfl⟩

theorem arr_at (g c : Nat) (W : World) : (Instr.arrayAt 77 (.slice (some ⟨g, 0, none⟩) 64 c)).run Tryd.prog W = .ok (.pointer (some ⟨g, 0, none⟩)) W := by kernel_rfl

theorem own_block {W : World} {base g N cap : Nat} {D : List Int} (ho : Own .u8 5 W base (.slice (some ⟨g, 0, none⟩) N cap) D) : ∃ cur : List Value, W.heap[g]? = some (.cells cur.toArray 5 (0, 0)) ∧ cur.length = cap := by
  rcases ho.2 with ⟨h, -⟩ | ⟨g', cap', cur, e, -, h2, h3, h4, h5, h6⟩
  · simp at h
  · simp only [Value.slice.injEq, Option.some.injEq, Addr.mk.injEq] at e
    obtain ⟨⟨rfl, -⟩, -, rfl⟩ := e
    exact ⟨cur.toList, by simpa using h2, by simpa using h5⟩

set_option linter.unusedSimpArgs false in
set_option maxHeartbeats 4000000 in
set_option maxRecDepth 100000 in
theorem implFormat_yes (w : World) (S L : Int) (hc : cfgOk S L = true) (hT : TabC w) (h0 : 0 < w.heap.size) :
    Calls Tryd.prog 8 #[.agg #[.int .i64 S, .int .i64 L]] w fun e w' => ∃ v', e = .returned (.agg #[v', .slice none 0 0]) ∧ Own .u8 5 w' (w.heap.size + 2) v' (fmN (fmK S L)) ∧ Below w.heap.size w w' := by
  have HC : Hid (cfgOk S L = true) := hc
  have HT : Hid (TabC w) := hT
  have H0 : Hid (0 < w.heap.size) := h0
  obtain ⟨hk1, hk2, hk3⟩ := fmK_in hc
  obtain ⟨⟨hS1, hS2⟩, hL1, hL2⟩ := (cfgOk_iff S L).1 hc
  have HK : Hid (2 + 2 * (S + L) = ((fmK S L : Nat) : Int)) := hk1
  have HND : Hid (∀ W, Calls Tryd.prog 40 #[.int .i64 (2 + 2 * (S + L))] W fun e w' => ∃ g cap, e = .returned (.agg #[.slice (some ⟨g, 0, none⟩) (fmK S L * 64) cap, .slice none 0 0]) ∧ Own .u8 5 w' W.heap.size (.slice (some ⟨g, 0, none⟩) (fmK S L * 64) cap) (zeros (fmK S L * 64)) ∧ (fmK S L * 64 ≤ cap ∧ cap ≤ maxLen) ∧ Below W.heap.size W w') := by
    intro W
    rw [HK.out]
    refine (implNewDisk_any W _).mono ?_
    rintro e w' ⟨v', rfl, o, b⟩
    have hn : ndl ((fmK S L : Nat) : Int) = fmK S L * 64 := by unfold ndl; rw [if_pos (by omega)]; rfl
    rw [hn] at o
    rcases o.row with ⟨rfl, hz⟩ | ⟨g, c, rfl, hg, h1, h2⟩
    · have := congrArg List.length hz; rw [zeros_len] at this; simp at this; omega
    · rw [zeros_len] at o h1 ⊢
      exact ⟨g, c, rfl, o, ⟨h1, h2⟩, b⟩
  obtain ⟨l, hl⟩ : ∃ l : Nat, (l : Int) = S := ⟨S.toNat, by omega⟩
  have hl1 : 1 ≤ l := by omega
  have HSN : Hid (∀ W, Calls Tryd.prog 43 #[.agg #[.int .i64 S, .int .i64 L], .int .i64 0] W fun e w' => e = .returned (.agg #[.int .i64 ((2 : Nat) : Int), .int .i64 (l : Int)]) ∧ Below W.heap.size W w') := by
    intro W
    have := snapArea_any W S L 0 HC.out ⟨by omega, by omega⟩
    unfold arF arL at this
    rw [hl]
    simpa using this
  obtain ⟨N, hN⟩ : ∃ N, N = fmK S L * 64 := ⟨_, rfl⟩
  have hNl : (2 + l) * 64 ≤ N := by omega
  have hNm : N ≤ 1048576 := by omega
  have HN : Hid (N = fmK S L * 64) := hN
  rw [← hN] at HND
  clear hN hc hT h0 hk1 hl
  go_enter Tryd.func8, Tryd.ntmps8
  go_wp2_with fail
  have F0 : Hid (FmS w S L ((w.alloc (.cells #[.int .i64 S, .int .i64 L] 29)).alloc (.cells #[.slice none 0 0, .slice none 0 0] 27))) := FmS.new _ _ _
  generalize (w.alloc (.cells #[.int .i64 S, .int .i64 L] 29)).alloc (.cells #[.slice none 0 0, .slice none 0 0] 27) = w0 at *
  refine (validConfig_any _ S L).mono ?_
  rintro e w1 ⟨rfl, b1⟩
  rw [HC.out]
  have F1 : Hid (FmS w S L w1) := F0.out.below b1
  clear b1 F0
  obtain ⟨-, x0, x1⟩ := F1.out.2.1
  go_wp2_with fail
  refine (diskBlocks_any _ S L hS1 hS2 hL1 hL2).mono ?_
  rintro e w2 ⟨rfl, b2⟩
  have F2 : Hid (FmS w S L w2) := F1.out.below b2
  clear b2 F1 x0 x1
  go_wp2_with fail
  refine (HND.out _).mono ?_
  rintro e w3 ⟨g, cap, rfl, o3, ⟨hNc, hcm⟩, b3⟩
  have F3 : Hid (FmS w S L w3) := F2.out.below b3
  have O3 : Hid (Own .u8 5 w3 w2.heap.size (.slice (some ⟨g, 0, none⟩) N cap) (zeros N)) := o3
  have s2 := F2.out.lt
  have hg2 : w.heap.size + 2 ≤ g := Nat.le_trans s2 (o3.lt g rfl).1
  have hg3 : g < w3.heap.size := (o3.lt g rfl).2
  clear o3 b3 F2
  go_wp2_with fail
  have BA : Hid (Below w3.heap.size w3 (w3.alloc (.cells #[(.slice (some ⟨g, 0, none⟩) N cap), .slice none 0 0] 27))) := (Below.refl _ _).alloc (Nat.le_refl _) _
  have XD0 : Hid (Box2 (w3.alloc (.cells #[(.slice (some ⟨g, 0, none⟩) N cap), .slice none 0 0] 27)) w3.heap.size (.slice (some ⟨g, 0, none⟩) N cap) (.slice none 0 0)) := Box2.new _ _ _ _
  generalize w3.alloc (.cells #[(.slice (some ⟨g, 0, none⟩) N cap), .slice none 0 0] 27) = wd at *
  obtain ⟨Bd, hBdE⟩ : ∃ Bd, Bd = w3.heap.size := ⟨_, rfl⟩
  have Fd : Hid (FmS w S L wd) := F3.out.below BA.out
  have Od : Hid (Own .u8 5 wd (w.heap.size + 2) (.slice (some ⟨g, 0, none⟩) N cap) (zeros N)) := (O3.out.below BA.out).mono s2
  have hBd : Bd ≠ g := by omega
  rw [← hBdE] at XD0
  refine (implNewTree_any _).mono ?_
  rintro e w4 ⟨rfl, hN4, b4⟩
  have N4 : Hid (RdN w4 (.slice (some ⟨wd.heap.size + 1, 0, none⟩) 1 1) [rootN]) := rdN_root hN4
  have F4 : Hid (FmS w S L w4) := Fd.out.below b4
  have O4 : Hid (Own .u8 5 w4 (w.heap.size + 2) (.slice (some ⟨g, 0, none⟩) N cap) (zeros N)) := Od.out.below b4
  have X4 : Hid (Box2 w4 Bd (.slice (some ⟨g, 0, none⟩) N cap) (.slice none 0 0)) := XD0.out.below b4
  have hgd4 : g < w4.heap.size := (O4.out.lt g rfl).2
  clear b4 hN4 Fd Od XD0 BA F3 O3
  rw [← hBdE]
  clear hBdE
  go_wp2_with fail
  refine (encTree_any _ _ [rootN] N4.out root_sz).mono ?_
  rintro e w5 ⟨v5, rfl, o5, b5⟩
  have o5' : Own .u8 5 w5 w4.heap.size v5 I0 := o5
  obtain ⟨g4, c4, hv5⟩ := own_full o5' (by rw [I0_len]; omega)
  rw [I0_len] at hv5
  subst hv5
  have I5 : Hid (Own .u8 5 w5 w4.heap.size (.slice (some ⟨g4, 0, none⟩) 23 c4) I0) := o5'
  have F5 : Hid (FmS w S L w5) := F4.out.below b5
  have O5 : Hid (Own .u8 5 w5 (w.heap.size + 2) (.slice (some ⟨g, 0, none⟩) N cap) (zeros N)) := O4.out.below b5
  have X5 : Hid (Box2 w5 Bd (.slice (some ⟨g, 0, none⟩) N cap) (.slice none 0 0)) := X4.out.below b5
  have s45 := b5.size
  clear o5 o5' b5 N4 F4 O4 X4
  go_wp2_with fail
  refine (implCrc_any _ _ I0 I5.out.rd I0_byt (by rw [I0_len]; omega) (HT.out.below H0.out F5.out.1)).mono ?_
  rintro e wq ⟨rfl, hwq⟩
  rw [hwq]
  clear hwq
  have HSP : Hid (∀ W, Calls Tryd.prog 47 #[.agg #[.int .i64 1, .int .i64 0, .int .i64 0, .int .i64 23, .int .i64 ((4294967295 - crcL 4294967295 I0 : Nat) : Int)]] W fun e w' => ∃ g c, e = .returned (.slice (some ⟨g, 0, none⟩) 64 c) ∧ Own .u8 5 w' W.heap.size (.slice (some ⟨g, 0, none⟩) 64 c) Sp0 ∧ Below W.heap.size W w') := by
    intro W
    refine (implSuper_any W 1 0 0 23 _).mono ?_
    rintro e w' ⟨v, rfl, o, b⟩
    have o' : Own .u8 5 w' W.heap.size v Sp0 := o
    obtain ⟨g, c, hv⟩ := own_full o' (by rw [Sp0_len]; omega)
    rw [Sp0_len] at hv
    subst hv
    exact ⟨g, c, rfl, o', b⟩
  generalize ((4294967295 - crcL 4294967295 I0 : Nat) : Int) = C9 at *
  go_wp2_with fail
  have BA : Hid (Below w5.heap.size w5 (w5.alloc (.cells #[.int .i64 1, .int .i64 0, .int .i64 0, .int .i64 23, .int .i64 C9] 67))) := (Below.refl _ _).alloc (Nat.le_refl _) _
  have XS0 : Hid (Sup5 (w5.alloc (.cells #[.int .i64 1, .int .i64 0, .int .i64 0, .int .i64 23, .int .i64 C9] 67)) w5.heap.size C9) := ⟨by simp, by simp, by simp, by simp, by simp, by simp⟩
  generalize w5.alloc (.cells #[.int .i64 1, .int .i64 0, .int .i64 0, .int .i64 23, .int .i64 C9] 67) = w6 at *
  obtain ⟨Bs, hBsE⟩ : ∃ Bs, Bs = w5.heap.size := ⟨_, rfl⟩
  have hBs : Bs ≠ g := by omega
  rw [← hBsE] at XS0 ⊢
  have bP : Below w6.heap.size w6 w6.drew := below_drewN' w6 1
  have FP : Hid (FmI w S L Bd Bs g N cap C9 w6.drew) := FmI.mk ((F5.out.below BA.out).below bP) ((X5.out.below BA.out).below bP) (XS0.out.below bP)
  have OP : Hid (Own .u8 5 w6.drew (w.heap.size + 2) (.slice (some ⟨g, 0, none⟩) N cap) (zeros N)) := (O5.out.below BA.out).below bP
  have IP : Hid (Own .u8 5 w6.drew w4.heap.size (.slice (some ⟨g4, 0, none⟩) 23 c4) I0) := (I5.out.below BA.out).below bP
  clear bP BA XS0 X5 O5 I5 F5 hBsE
  refine wp_region_held_drew (S := FmI w S L Bd Bs g N cap C9) (by kernel_rfl) (FP.out) (fun hHeld => ?_)
  generalize w6.drew = p6 at *
  refine wpAnyH_take (i := 0) (oi := { dst := some 20, op := _, type := _, pos := _, after := _, guard := _ }) (v := ?v1) rfl (by kernel_rfl) (by kernel_rfl) (by kernel_rfl) (fun _ _ _ h => h) (Or.inl ⟨by rfl, ?hy1⟩) (by assumption) ?rest1
  case hy1 =>
    intro w9 hS9
    obtain ⟨-, k0, k1, k2, k3, k4, k5, k6, k7, k8⟩ := hS9
    go_simp
    try with_reducible rfl
  try simp only [Act.put, List.setIfInBounds_toArray, List.set_cons_zero, List.set_cons_succ]
  refine wpAnyH_take (i := 1) (oi := { dst := some 21, op := _, type := _, pos := _, after := _, guard := _ }) (v := ?v2) rfl (by kernel_rfl) (by kernel_rfl) (by kernel_rfl) (fun _ _ _ h => h) (Or.inl ⟨by rfl, ?hy2⟩) (by assumption) ?rest2
  case hy2 =>
    intro w9 hS9
    obtain ⟨-, k0, k1, k2, k3, k4, k5, k6, k7, k8⟩ := hS9
    go_simp
    try with_reducible rfl
  try simp only [Act.put, List.setIfInBounds_toArray, List.set_cons_zero, List.set_cons_succ]
  refine wpAnyH_take (i := 2) (oi := { dst := some 22, op := _, type := _, pos := _, after := _, guard := _ }) (v := ?v3) rfl (by kernel_rfl) (by kernel_rfl) (by kernel_rfl) (fun _ _ _ h => h) (Or.inl ⟨by rfl, ?hy3⟩) (by assumption) ?rest3
  case hy3 =>
    intro w9 hS9
    obtain ⟨-, k0, k1, k2, k3, k4, k5, k6, k7, k8⟩ := hS9
    go_simp
    try with_reducible rfl
  try simp only [Act.put, List.setIfInBounds_toArray, List.set_cons_zero, List.set_cons_succ]
  refine wpAnyH_take (i := 4) (oi := { dst := some 24, op := _, type := _, pos := _, after := _, guard := _ }) (v := ?v4) rfl (by kernel_rfl) (by kernel_rfl) (by kernel_rfl) (fun _ _ _ h => h) (Or.inl ⟨by rfl, ?hy4⟩) (by assumption) ?rest4
  case hy4 =>
    intro w9 hS9
    obtain ⟨-, k0, k1, k2, k3, k4, k5, k6, k7, k8⟩ := hS9
    go_simp
    try with_reducible rfl
  try simp only [Act.put, List.setIfInBounds_toArray, List.set_cons_zero, List.set_cons_succ]
  refine wpAnyH_take (i := 5) (oi := { dst := some 25, op := _, type := _, pos := _, after := _, guard := _ }) (v := ?v5) rfl (by kernel_rfl) (by kernel_rfl) (by kernel_rfl) (fun _ _ _ h => h) (Or.inl ⟨by rfl, ?hy5⟩) (by assumption) ?rest5
  case hy5 =>
    intro w9 hS9
    obtain ⟨-, k0, k1, k2, k3, k4, k5, k6, k7, k8⟩ := hS9
    go_simp
    try with_reducible rfl
  try simp only [Act.put, List.setIfInBounds_toArray, List.set_cons_zero, List.set_cons_succ]
  refine wpAnyH_take (i := 7) (oi := { dst := some 27, op := _, type := _, pos := _, after := _, guard := _ }) (v := ?v6) rfl (by kernel_rfl) (by kernel_rfl) (by kernel_rfl) (fun _ _ _ h => h) (Or.inl ⟨by rfl, ?hy6⟩) (by assumption) ?rest6
  case hy6 =>
    intro w9 hS9
    obtain ⟨-, k0, k1, k2, k3, k4, k5, k6, k7, k8⟩ := hS9
    go_simp
    try with_reducible rfl
  try simp only [Act.put, List.setIfInBounds_toArray, List.set_cons_zero, List.set_cons_succ]
  refine wpAnyH_ready (rs := [3]) (by kernel_rfl) (by simp) ?_
  refine AllReadyH.cons (o := { dst := some 23, op := _, type := _, pos := _, after := _, guard := _ }) rfl (fun K hK => ?_) AllReadyH.nil
  go_simp
  refine (HSN.out _).mono ?_
  rintro e w6b ⟨rfl, b6⟩
  have F6 : Hid (FmI w S L Bd Bs g N cap C9 w6b) := hHeld.below b6
  have O6 : Hid (Own .u8 5 w6b (w.heap.size + 2) (.slice (some ⟨g, 0, none⟩) N cap) (zeros N)) := OP.out.below b6
  have I6 : Hid (Own .u8 5 w6b w4.heap.size (.slice (some ⟨g4, 0, none⟩) 23 c4) I0) := IP.out.below b6
  clear b6 OP IP
  refine hK.out _ _ (F6.out) (fun hx9 => ?_)
  clear hK K hHeld hx9
  have hHeld := F6.out
  try simp only [Act.put, List.setIfInBounds_toArray, List.set_cons_zero, List.set_cons_succ]
  refine wpAnyH_ready (rs := [6]) (by kernel_rfl) (by simp) ?_
  refine AllReadyH.cons (o := { dst := some 26, op := _, type := _, pos := _, after := _, guard := _ }) rfl (fun K hK => ?_) AllReadyH.nil
  go_simp
  refine (areaOf_any _ g N cap 2 l hNl hl1 hNc hNm).mono ?_
  rintro e w7 ⟨rfl, b7⟩
  have F7 : Hid (FmI w S L Bd Bs g N cap C9 w7) := F6.out.below b7
  have O7 : Hid (Own .u8 5 w7 (w.heap.size + 2) (.slice (some ⟨g, 0, none⟩) N cap) (zeros N)) := O6.out.below b7
  have I7 : Hid (Own .u8 5 w7 w4.heap.size (.slice (some ⟨g4, 0, none⟩) 23 c4) I0) := I6.out.below b7
  clear b7 O6 I6 F6
  obtain ⟨cur, hgb, hcur⟩ := own_block O7.out
  have N7 : Hid (∀ j u, (I0.map (Value.int .u8))[j]? = some u → w7.cell? ((⟨g4, 0, none⟩ : Addr).add j) = some u) := World.ownsRow.cells I7.out rfl
  have HGB : Hid (w7.heap[g]? = some (.cells cur.toArray 5 (0, 0))) := hgb
  have HCU : Hid (cur.length = cap) := hcur
  clear hgb hcur
  refine hK.out _ _ (F7.out) (fun hx9 => ?_)
  clear hK K hHeld hx9
  have hHeld := F7.out
  try simp only [Act.put, List.setIfInBounds_toArray, List.set_cons_zero, List.set_cons_succ]
  refine wpAnyH_ready (rs := [8]) (by kernel_rfl) (by simp) ?_
  refine AllReadyH.cons (o := { dst := some 28, op := _, type := _, pos := _, after := _, guard := _ }) rfl (fun K hK => ?_) AllReadyH.nil
  refine step_copy_grown rfl (.tmp 26) (.tmp 27) 24 24 rfl 5 Tryd.underlying24 sizeB _ _ _ _ _ _ rfl rfl g 128 cur 5 HGB.out (I0.map (Value.int .u8)) (by rw [List.length_map, I0_len]; exact (Nat.min_eq_left (show 23 ≤ l * 64 by omega)).symm) (fun _ => ⟨rfl, ⟨g4, 0, none⟩, rfl, N7.out⟩) (by rw [List.length_map, I0_len, HCU.out]; omega) (ints_oneCell _ _) ?_
  intro w8 hg8 hb8
  have F8 : Hid (FmI w S L Bd Bs g N cap C9 w8) := F7.out.other hb8.out hg2 hBd hBs
  have O8 : Hid (Own .u8 5 w8 (w.heap.size + 2) (.slice (some ⟨g, 0, none⟩) N cap) (splice (zeros N) 128 I0)) := own_spliced O7.out (zeros_len _) HGB.out (by rw [I0_len]; omega) hg8.out
  clear hg8 hb8 O7 I7 N7 HGB HCU F7
  refine hK.out _ _ (F8.out) (fun hx9 => ?_)
  clear hK K hHeld hx9
  have hHeld := F8.out
  try simp only [Act.put, List.setIfInBounds_toArray, List.set_cons_zero, List.set_cons_succ]
  refine wpAnyH_done (by kernel_rfl) ?_ _
  clear hHeld
  go_wp2_with fail
  have HSB : Hid (∀ W, Own .u8 5 W (w.heap.size + 2) (.slice (some ⟨g, 0, none⟩) N cap) (splice (zeros N) 128 I0) → Calls Tryd.prog 45 #[(.slice (some ⟨g, 0, none⟩) N cap), .int .i64 ((1 : Nat) : Int), .agg (Sp0.map (Value.int .u8)).toArray] W fun e w' => e = .returned (.tuple #[]) ∧ Own .u8 5 w' (w.heap.size + 2) (.slice (some ⟨g, 0, none⟩) N cap) (fmN (fmK S L)) ∧ W.grownBy w' (some g)) := by
    intro W hW
    have hlz : (splice (zeros N) 128 I0).length = N := by rw [length_splice _ _ _ (by rw [zeros_len, I0_len]; omega), zeros_len]
    refine (setBlock_any W (w.heap.size + 2) g N cap 1 (splice (zeros N) 128 I0) Sp0 hW hlz Sp0_len (by omega) hNm).mono ?_
    rintro e w' ⟨rfl, o, hg⟩
    rw [show 1 * 64 = 64 from rfl, HN.out, fmN_made _ (by omega)] at o
    rw [HN.out]
    exact ⟨rfl, o, hg⟩
  have bP : Below w8.heap.size w8 w8.drew := below_drewN' w8 1
  have FP : Hid (FmI w S L Bd Bs g N cap C9 w8.drew) := F8.out.below bP
  have OP : Hid (Own .u8 5 w8.drew (w.heap.size + 2) (.slice (some ⟨g, 0, none⟩) N cap) (splice (zeros N) 128 I0)) := O8.out.below bP
  clear bP O8 F8
  refine wp_region_held_drew (S := FmI w S L Bd Bs g N cap C9) (by kernel_rfl) (FP.out) (fun hHeld => ?_)
  generalize w8.drew = p8 at *
  refine wpAnyH_take (i := 0) (oi := { dst := some 29, op := _, type := _, pos := _, after := _, guard := _ }) (v := ?v7) rfl (by kernel_rfl) (by kernel_rfl) (by kernel_rfl) (fun _ _ _ h => h) (Or.inl ⟨by rfl, ?hy7⟩) (by assumption) ?rest7
  case hy7 =>
    intro w9 hS9
    obtain ⟨-, k0, k1, k2, k3, k4, k5, k6, k7, k8⟩ := hS9
    go_simp
    try with_reducible rfl
  try simp only [Act.put, List.setIfInBounds_toArray, List.set_cons_zero, List.set_cons_succ]
  refine wpAnyH_take (i := 1) (oi := { dst := some 30, op := _, type := _, pos := _, after := _, guard := _ }) (v := ?v8) rfl (by kernel_rfl) (by kernel_rfl) (by kernel_rfl) (fun _ _ _ h => h) (Or.inl ⟨by rfl, ?hy8⟩) (by assumption) ?rest8
  case hy8 =>
    intro w9 hS9
    obtain ⟨-, k0, k1, k2, k3, k4, k5, k6, k7, k8⟩ := hS9
    go_simp
    try with_reducible rfl
  try simp only [Act.put, List.setIfInBounds_toArray, List.set_cons_zero, List.set_cons_succ]
  refine wpAnyH_take (i := 2) (oi := { dst := some 31, op := _, type := _, pos := _, after := _, guard := _ }) (v := ?v9) rfl (by kernel_rfl) (by kernel_rfl) (by kernel_rfl) (fun _ _ _ h => h) (Or.inl ⟨by rfl, ?hy9⟩) (by assumption) ?rest9
  case hy9 =>
    intro w9 hS9
    obtain ⟨-, k0, k1, k2, k3, k4, k5, k6, k7, k8⟩ := hS9
    go_simp
    try with_reducible rfl
  try simp only [Act.put, List.setIfInBounds_toArray, List.set_cons_zero, List.set_cons_succ]
  refine wpAnyH_take (i := 3) (oi := { dst := some 32, op := _, type := _, pos := _, after := _, guard := _ }) (v := ?v10) rfl (by kernel_rfl) (by kernel_rfl) (by kernel_rfl) (fun _ _ _ h => h) (Or.inl ⟨by rfl, ?hy10⟩) (by assumption) ?rest10
  case hy10 =>
    intro w9 hS9
    obtain ⟨-, k0, k1, k2, k3, k4, k5, k6, k7, k8⟩ := hS9
    go_simp
    try with_reducible rfl
  try simp only [Act.put, List.setIfInBounds_toArray, List.set_cons_zero, List.set_cons_succ]
  refine wpAnyH_take (i := 5) (oi := { dst := some 34, op := _, type := _, pos := _, after := _, guard := _ }) (v := ?v11) rfl (by kernel_rfl) (by kernel_rfl) (by kernel_rfl) (fun _ _ _ h => h) (Or.inl ⟨by rfl, ?hy11⟩) (by assumption) ?rest11
  case hy11 =>
    intro w9 hS9
    obtain ⟨-, k0, k1, k2, k3, k4, k5, k6, k7, k8⟩ := hS9
    go_simp
    try with_reducible rfl
  try simp only [Act.put, List.setIfInBounds_toArray, List.set_cons_zero, List.set_cons_succ]
  refine wpAnyH_ready (rs := [4]) (by kernel_rfl) (by simp) ?_
  refine AllReadyH.cons (o := { dst := some 33, op := _, type := _, pos := _, after := _, guard := _ }) rfl (fun K hK => ?_) AllReadyH.nil
  go_simp
  refine (slotOf_any _).mono ?_
  rintro e wq ⟨rfl, hwq⟩
  rw [hwq]
  clear hwq
  refine hK.out _ _ (FP.out) (fun hx9 => ?_)
  clear hK K hHeld hx9
  have hHeld := FP.out
  try simp only [Act.put, List.setIfInBounds_toArray, List.set_cons_zero, List.set_cons_succ]
  refine wpAnyH_ready (rs := [6]) (by kernel_rfl) (by simp) ?_
  refine AllReadyH.cons (o := { dst := some 35, op := _, type := _, pos := _, after := _, guard := _ }) rfl (fun K hK => ?_) AllReadyH.nil
  go_simp
  refine (HSP.out _).mono ?_
  rintro e w9b ⟨g9, c9, rfl, o9, b9⟩
  have F9 : Hid (FmI w S L Bd Bs g N cap C9 w9b) := hHeld.below b9
  have O9 : Hid (Own .u8 5 w9b (w.heap.size + 2) (.slice (some ⟨g, 0, none⟩) N cap) (splice (zeros N) 128 I0)) := OP.out.below b9
  have RG : Hid (w9b.rangeAt g9 0 (Sp0.map (Value.int .u8))) := fun j v hj => by have := World.ownsRow.cells o9 rfl j v hj; rw [Addr.add_lit] at this; exact this
  clear o9 b9 OP
  refine hK.out _ _ (F9.out) (fun hx9 => ?_)
  clear hK K hHeld hx9
  have hHeld := F9.out
  try simp only [Act.put, List.setIfInBounds_toArray, List.set_cons_zero, List.set_cons_succ]
  refine wpAnyH_take (i := 7) (oi := { dst := some 36, op := _, type := _, pos := _, after := _, guard := _ }) (v := (.pointer (some ⟨g9, 0, none⟩))) rfl (by kernel_rfl) (by kernel_rfl) (by kernel_rfl) (fun _ _ _ h => h) (Or.inl ⟨by rfl, ?hy12⟩) (by assumption) ?rest12
  case hy12 =>
    intro w9 hS9
    have ha9 := arr_at g9 c9 w9
    go_simp
  try simp only [Act.put, List.setIfInBounds_toArray, List.set_cons_zero, List.set_cons_succ]
  refine wpAnyH_ready (rs := [8]) (by kernel_rfl) (by simp) ?_
  refine AllReadyH.cons (o := { dst := some 37, op := _, type := _, pos := _, after := _, guard := _ }) rfl (fun K hK => ?_) AllReadyH.nil
  rw [if_pos (by rfl)]
  refine wp_load_mid 77 _ rfl g9 0 rfl (Sp0.map (Value.int .u8)) _ RG.out Tryd.underlying77 rfl (sizeA _ (by rw [List.length_map, Sp0_len])) ?_
  refine hK.out _ _ (F9.out) (fun hx9 => ?_)
  clear hK K hHeld hx9
  have hHeld := F9.out
  try simp only [Act.put, List.setIfInBounds_toArray, List.set_cons_zero, List.set_cons_succ]
  refine wpAnyH_ready (rs := [9]) (by kernel_rfl) (by simp) ?_
  refine AllReadyH.cons (o := { dst := some 38, op := _, type := _, pos := _, after := _, guard := _ }) rfl (fun K hK => ?_) AllReadyH.nil
  go_simp
  refine (HSB.out _ O9.out).mono ?_
  rintro e w10 ⟨rfl, o10, g10⟩
  have F10 : Hid (FmI w S L Bd Bs g N cap C9 w10) := F9.out.other g10 hg2 hBd hBs
  have O10 : Hid (Own .u8 5 w10 (w.heap.size + 2) (.slice (some ⟨g, 0, none⟩) N cap) (fmN (fmK S L))) := o10
  clear o10 g10 O9 F9 RG
  refine hK.out _ _ (F10.out) (fun hx9 => ?_)
  clear hK K hHeld hx9
  have hHeld := F10.out
  try simp only [Act.put, List.setIfInBounds_toArray, List.set_cons_zero, List.set_cons_succ]
  refine wpAnyH_done (by kernel_rfl) ?_ _
  clear hHeld
  obtain ⟨-, -, -, k2, k3, -⟩ := F10.out
  have zr := F10.out.1.out.1.2.2.1.1
  obtain ⟨⟨-, d0, d1⟩, f0, f1⟩ := F10.out.1.out.1.2.2
  go_wp2
  refine bodyPost_ret (v := .agg #[(.slice (some ⟨g, 0, none⟩) N cap), .slice none 0 0]) (by simp [results, Tryd.results8, go_sem, d0, d1]) rfl ⟨_, rfl, ?_, ?_⟩
  · repeat (first | exact O10.out | refine Own.setBelow ?_ (show w.heap.size + 1 < w.heap.size + 2 by omega) _)
  · repeat (first | exact F10.out.1.out.1.1 | refine Below.setCell ?_ (by simp) _)

end Go.Proofs.YtcopcegamadkgaaDoor

namespace Go.Proofs.YtcopcegamadkgaaDoor
open Go.RowKit Go.Shelf

theorem txB_byt {s : ByteArray} (h : s.size < 256) : Byt (txB s) := by
  intro x hx
  unfold txB at hx
  rcases List.mem_append.1 hx with hx | hx
  · simp at hx; omega
  · unfold strN at hx
    obtain ⟨b, -, rfl⟩ := List.mem_map.1 hx
    have := b.toNat_lt
    omega
theorem nodeB_byt {n : Nd} (h : okNd n = true) : Byt (nodeB n) := by
  have hs := okNd_all h
  intro x hx
  unfold nodeB stB at hx
  simp only [List.mem_append] at hx
  rcases hx with (hx | hx) | ((((hx | hx) | hx) | hx) | hx)
  · exact txB_byt (by omega) x hx
  · exact txB_byt (by omega) x hx
  all_goals exact bigR_byt _ _ x hx
theorem treeB_byt (ns : List Nd) : Byt (treeB ns) := by
  unfold treeB
  split
  · rename_i h
    intro x hx
    obtain ⟨n, hn, hx⟩ := List.mem_flatMap.1 hx
    exact nodeB_byt ((okTree_snd.1 h).2.1 n hn) x hx
  · intro x hx; cases hx

theorem rd_pre9 {W : World} {g o n c : Nat} {xs : List Int} (h : Rd .u8 W (.slice (some ⟨g, o, none⟩) n c) xs) (m : Nat) (hm : m ≤ n) : Rd .u8 W (.slice (some ⟨g, o, none⟩) m c) (xs.take m) := by
  by_cases h0 : 0 < m
  · exact (Rd.split h m hm h0).1
  · obtain rfl : m = 0 := by omega
    obtain ⟨ao', c', e, h1, h2, h3⟩ := h
    simp only [Value.slice.injEq] at e
    obtain ⟨rfl, -, rfl⟩ := e
    exact ⟨_, c, rfl, Nat.zero_le _, h2, .inl (List.take_zero)⟩

theorem syD_nil (dur : List Int) (h : vldD dur.length [] = true) : syD dur [] = dur := by
  unfold syD
  rw [if_pos h]
  rfl
theorem img_area {S L : Int} (h : cfgOk S L = true) : (arA (fmN (fmK S L)) [] S L 0 false).length = S.toNat * 64 ∧ (arA (fmN (fmK S L)) [] S L 0 false).take 23 = I0 := by
  obtain ⟨⟨h1, h2⟩, h3, h4⟩ := (cfgOk_iff S L).1 h
  obtain ⟨k1, k2, k3⟩ := fmK_in h
  have hl := fmN_len (fmK S L) (by omega)
  have hv : vldD (fmN (fmK S L)).length [] = true := by
    rw [vldD_iff, hl]
    refine ⟨by omega, by omega, by omega, by simp, fun i hi => by simp at hi⟩
  have hok : arOk S L (fmN (fmK S L)).length [] 0 = true := by
    unfold arOk
    rw [Bool.and_eq_true]
    exact ⟨(fitD_iff _ _ _ _).2 ⟨h, hv, by rw [hl]; omega⟩, by simp⟩
  have hF : (arF S L 0 false).toNat = 2 := by unfold arF; simp
  have hL : (arL S L false).toNat = S.toNat := by unfold arL; simp
  unfold arA
  rw [if_pos hok, hF, hL, syD_nil _ hv]
  unfold arN fmN
  have e1 : zeros 64 ++ Sp0 ++ I0 ++ zeros (fmK S L * 64 - 151) = (zeros 64 ++ Sp0) ++ (I0 ++ zeros (fmK S L * 64 - 151)) := by simp only [List.append_assoc]
  have e2 : (zeros 64 ++ Sp0).length = 2 * 64 := by rw [List.length_append, Sp0_len, zeros_len]
  rw [e1, ← e2, List.drop_left]
  refine ⟨?_, ?_⟩
  · rw [List.length_take, List.length_append, I0_len, zeros_len]; omega
  · rw [List.take_take, Nat.min_eq_left (by omega), List.take_append_of_le_length (by rw [I0_len]; exact Nat.le_refl _), List.take_of_length_le (by rw [I0_len]; exact Nat.le_refl _)]

end Go.Proofs.YtcopcegamadkgaaDoor

namespace Go.Proofs.YtcopcegamadkgaaDoor
open Go.RowKit

def lw (xs : List Int) (i n : Nat) : Nat := if n ≤ 1 then 0 else if xs.length = 0 then i * 7 % n else ((xs.getD (i % xs.length) 0).toNat + i / xs.length) % n
theorem lw_lt (xs : List Int) (i n : Nat) (h : 1 ≤ n) : lw xs i n < n := by
  unfold lw
  by_cases h1 : n ≤ 1
  · rw [if_pos h1]; omega
  · rw [if_neg h1]
    split
    · exact Nat.mod_lt _ (by omega)
    · exact Nat.mod_lt _ (by omega)

set_option maxHeartbeats 400000 in
set_option maxRecDepth 100000 in
theorem lwAt_row (w : World) (b o m cap : Nat) (i n x : Nat) (hm : 0 < m) (hm1 : m ≤ 1099511627776) (hx : x < 256) (hc : w.cell? ⟨b, o + i % m, none⟩ = some (.int .u8 (x : Int))) (hi : i ≤ 1099511627776) (hn : 1 < n) (hn1 : n ≤ 1099511627776) :
    Calls Tryd.prog 18 #[.slice (some ⟨b, o, none⟩) m cap, .int .i64 i, .int .i64 n] w fun e w' => e = .returned (.int .i64 (((x + i / m) % n : Nat) : Int)) ∧ ∃ q, w' = w.drewN q := by
  have h1 : ¬ (n : Int) ≤ 1 := by omega
  have h2 : ((m : Int) == 0) = false := beq_eq_false_iff_ne.2 (by omega)
  have h3 : i % m < m := Nat.mod_lt _ hm
  have h4 : (i : Int) % (m : Int) = ((i % m : Nat) : Int) := by omega
  have h5 : (i : Int) / (m : Int) = ((i / m : Nat) : Int) := by omega
  have h6 : i / m ≤ i := Nat.div_le_self _ _
  generalize i % m = a at *
  generalize i / m = d at *
  have h7 : ((m : Int) == 0) = false := h2
  have h8 : ((n : Int) == 0) = false := beq_eq_false_iff_ne.2 (by omega)
  go_enter Tryd.func18, Tryd.ntmps18
  go_wp2
  go_quiet (fail)
  go_wp2
  go_ret
  exact ⟨ret_int (by rw [Int.natCast_emod, Int.natCast_add]), _, rfl⟩

set_option maxHeartbeats 400000 in
theorem lwAt_one (w : World) (v : Value) (i n : Nat) (hn : n ≤ 1) :
    Calls Tryd.prog 18 #[v, .int .i64 i, .int .i64 n] w fun e w' => e = .returned (.int .i64 0) ∧ w' = w := by
  have h1 : (n : Int) ≤ 1 := by omega
  go_enter Tryd.func18, Tryd.ntmps18
  go_wp2
  go_ret
  exact ⟨rfl, rfl⟩

set_option maxHeartbeats 400000 in
theorem lwAt_nil (w : World) (ao : Option Addr) (cap i n : Nat) (hn : 1 < n) (hn1 : n ≤ 1099511627776) (hi : i ≤ 1099511627776) :
    Calls Tryd.prog 18 #[.slice ao 0 cap, .int .i64 i, .int .i64 n] w fun e w' => e = .returned (.int .i64 ((i * 7 % n : Nat) : Int)) ∧ w' = w := by
  have h1 : ¬ (n : Int) ≤ 1 := by omega
  have h8 : ((n : Int) == 0) = false := beq_eq_false_iff_ne.2 (by omega)
  go_enter Tryd.func18, Tryd.ntmps18
  go_wp2
  go_ret
  exact ⟨rfl, rfl⟩

theorem lwAt_any (w : World) (v : Value) (xs : List Int) (i n : Nat) (h : Rd .u8 w v xs) (hby : ∀ x ∈ xs, 0 ≤ x ∧ x < 256) (hl : xs.length ≤ 1099511627776) (hi : i ≤ 1099511627776) (hn1 : n ≤ 1099511627776) :
    Calls Tryd.prog 18 #[v, .int .i64 i, .int .i64 n] w fun e w' => e = .returned (.int .i64 ((lw xs i n : Nat) : Int)) ∧ ∃ q, w' = w.drewN q := by
  unfold lw
  by_cases h1 : n ≤ 1
  · rw [if_pos h1]
    refine (lwAt_one w v i n h1).mono ?_
    rintro e w' ⟨rfl, rfl⟩
    exact ⟨rfl, 0, rfl⟩
  · rw [if_neg h1]
    obtain ⟨ao, cap, rfl, k1, k2, k3⟩ := h
    rcases k3 with rfl | ⟨b, o, rfl, hb, hc⟩
    · rw [if_pos (show ([] : List Int).length = 0 from rfl)]
      refine (lwAt_nil w ao cap i n (by omega) hn1 hi).mono ?_
      rintro e w' ⟨rfl, rfl⟩
      exact ⟨rfl, 0, rfl⟩
    · by_cases h0 : xs.length = 0
      · rw [if_pos h0, h0]
        refine (lwAt_nil w _ cap i n (by omega) hn1 hi).mono ?_
        rintro e w' ⟨rfl, rfl⟩
        exact ⟨rfl, 0, rfl⟩
      · rw [if_neg h0]
        have hlt : i % xs.length < xs.length := Nat.mod_lt _ (by omega)
        have hx := hby _ (List.getElem_mem hlt)
        have e : xs.getD (i % xs.length) 0 = (((xs.getD (i % xs.length) 0).toNat : Nat) : Int) := by
          simp only [List.getD, List.getElem?_eq_getElem hlt, Option.getD_some]; omega
        have hc' := hc _ hlt
        rw [e] at hc'
        exact lwAt_row w b o xs.length cap i n _ (by omega) hl (by simp only [List.getD, List.getElem?_eq_getElem hlt, Option.getD_some]; omega) hc' hi (by omega) hn1

end Go.Proofs.YtcopcegamadkgaaDoor

