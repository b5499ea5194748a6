import Derived.Test.YtmgolinleiahpaaJ01
import Derived.Laws.Cover3
import Derived.Deep.MidRow
import Derived.Laws.CopyOwn
import Derived.Great.BuildSlice
import Derived.Maps.OwnSet
import Derived.Deep.AppendLies
import Derived.Deep.RegionHeld3
import Derived.BigRegion
namespace Go.Proofs.Ytmgolinleiahpaa
open Go.RowKit

theorem there_new (w : World) (cs : Array Value) (t : TypeId) (n : Nat) (hn : cs.size = n) : (w.alloc (.cells cs t)).there w.heap.size 0 n := by
  intro j hj
  subst hn
  rw [Nat.zero_add]
  have h := cell_of_row (w.alloc (.cells cs t)) w.heap.size j cs t (0, 0) (heap_alloc_new w _)
  refine ⟨by rw [h]; simp [hj], by simp⟩

theorem below_setCells {B b : Nat} {w : World} (hB : B ≤ b) : ∀ (vs : List Value) (o : Nat) (w' : World), Below B w w' → Below B w (w'.setCells b o vs)
  | [], _, _, h => h
  | v :: vs, o, w', h => below_setCells hB vs (o + 1) (w'.setCell ⟨b, o, none⟩ v) (h.setCell hB v)

set_option maxHeartbeats 400000 in
set_option maxRecDepth 100000 in
theorem blockAt_any (w : World) (blk o dl ca b : Nat) (dur : List Int) (hd : Rd .u8 w (.slice (some ⟨blk, o, none⟩) dl ca) dur) (hdl : dur.length = dl) (hb : (b + 1) * 64 ≤ dl) (_hd1 : dl ≤ 1048576) :
    Calls Try.prog 52 #[.slice (some ⟨blk, o, none⟩) dl ca, .int .i64 b] w fun e w' => e = .returned (.agg (((dur.drop (b * 64)).take 64).map (Value.int .u8)).toArray) ∧ Below w.heap.size w w' := by
  have HD : Hid (Rd .u8 w (.slice (some ⟨blk, o, none⟩) dl ca) dur) := hd
  have hca : dl ≤ ca ∧ ca ≤ maxLen := by
    obtain ⟨ao, c', e, h1, h2⟩ := HD.out.len
    simp only [Value.slice.injEq] at e
    obtain ⟨_, e2, rfl⟩ := e
    omega
  obtain ⟨hca1, hca2⟩ := hca
  unfold maxLen at hca2
  have hge : 64 ≤ dl - b * 64 := by omega
  have hlt : ¬ dl - b * 64 < 64 := by omega
  have hat : ∀ W, (Instr.arrayAt 77 (.slice (some ⟨blk, o + b * 64, none⟩) (dl - b * 64) (ca - b * 64))).run Try.prog W = .ok (.pointer (some ⟨blk, o + b * 64, none⟩)) W := fun W => run_arrayAt W 77 _ 64 _ _ _ Try.underlying77 hge
  have hsz : (Try.prog.info? 77).map (·.size) = some (((dur.drop (b * 64)).take 64).map (Value.int .u8)).length := by
    rw [List.length_map, List.length_take, List.length_drop, show min 64 (dur.length - b * 64) = 64 by omega]
    kernel_rfl
  have hrg : w.rangeAt blk (o + b * 64) (((dur.drop (b * 64)).take 64).map (Value.int .u8)) := by
    obtain ⟨ao, cap', e, h1, h2, h3⟩ := hd
    simp only [Value.slice.injEq] at e
    obtain ⟨rfl, hl, rfl⟩ := e
    rcases h3 with rfl | ⟨b', o', e, hb', hc⟩
    · simp at hdl; omega
    · injection e with e
      injection e with e1 e2 _
      subst e1; subst e2
      intro j u hu
      have hj : j < 64 := by have := (List.getElem?_eq_some_iff.1 hu).1; simp at this; omega
      have := hc (b * 64 + j) (by omega)
      rw [Nat.add_assoc, this]
      simp [List.getElem?_drop, hj] at hu
      obtain ⟨y, hy, rfl⟩ := hu
      simp [List.getD, hy]
  have HSZ : Hid ((Try.prog.info? 77).map (·.size) = some (((dur.drop (b * 64)).take 64).map (Value.int .u8)).length) := hsz
  have HRG : Hid (w.rangeAt blk (o + b * 64) (((dur.drop (b * 64)).take 64).map (Value.int .u8))) := hrg
  clear hsz hrg
  clear hd
  go_enter Try.func52, Try.ntmps52
  go_wp2_with (first | (refine wpList_load_mid rfl 77 _ rfl blk (o + b * 64) rfl (((dur.drop (b * 64)).take 64).map (Value.int .u8)) _ (World.rangeAt_alloc HRG.out _) Try.underlying77 rfl HSZ.out ?_) | (refine wpList_store_mid rfl 77 _ _ rfl w.heap.size 0 (((dur.drop (b * 64)).take 64).map (Value.int .u8)).toArray rfl rfl ?s1 ?s2 ?s3 ?_))
  case s1 => exact there_new _ _ _ _ (by have h : (((dur.drop (b * 64)).take 64).map (Value.int .u8)).toArray.size = 64 := by { rw [List.size_toArray, List.length_map, List.length_take, List.length_drop]; omega }
                                         rw [h]; rfl)
  case s2 => rw [List.size_toArray]; exact HSZ.out
  case s3 => exact all_oneCell_toArray (ints_oneCell _ _)
  have hlen : (((dur.drop (b * 64)).take 64).map (Value.int .u8)).length = 64 := by rw [List.length_map, List.length_take, List.length_drop]; omega
  refine bodyPost_ret (v := .agg (((dur.drop (b * 64)).take 64).map (Value.int .u8)).toArray) ?_ rfl ⟨rfl, ?_⟩
  · have LV : ∀ cs : Array Value, cs.size = 64 → (loadVar 77 ⟨w.heap.size, 0, none⟩).run Try.prog ((w.alloc (.cells cs 77)).setCells w.heap.size 0 (((dur.drop (b * 64)).take 64).map (Value.int .u8))) = .ok (.agg (((dur.drop (b * 64)).take 64).map (Value.int .u8)).toArray) ((w.alloc (.cells cs 77)).setCells w.heap.size 0 (((dur.drop (b * 64)).take 64).map (Value.int .u8))) := fun cs hcs =>
      run_loadVar_mid (P := Try.prog) _ w.heap.size 0 77 _ _ (World.rangeAt_setCells_same _ _ _ _ (there_new _ _ _ _ (by rw [hlen, hcs]))) Try.underlying77 rfl HSZ.out
    simp [results, Try.results52, Act.put, asAddr, -List.map_take, -List.map_drop]
    exact LV _ rfl
  · exact below_setCells (Nat.le_refl _) _ _ _ ((Below.refl _ _).alloc (Nat.le_refl _) _)

end Go.Proofs.Ytmgolinleiahpaa

namespace Go.Proofs.Ytmgolinleiahpaa
open Go.RowKit

/-- A cell of another block is written. -/
theorem OwnD.setAt {w : World} {lo hi : Nat} {vd vp : Value} {dur : List Int} {ps : List (Int × List Int)} {dv : Nat → Value} (h : OwnD w lo hi vd vp dur ps dv) (b j : Nat) (u : Value) (h1 : vd.ownBlock ≠ some b) (h2 : vp.ownBlock ≠ some b) (h3 : ∀ i, i < ps.length → (dv i).ownBlock ≠ some b) :
    OwnD (w.setCell ⟨b, j, none⟩ u) lo hi vd vp dur ps dv := by
  have G : w.grownBy (w.setCell ⟨b, j, none⟩ u) (some b) := grownBy_set _ _ _ _ _ (World.grownBy.refl _ _)
  exact ⟨h.d.other G (.inr h1), ⟨World.ownsRow.kept h.p.1 G (.inr h2), fun i hi => (h.p.2.1 i hi).other G (.inr (h3 i hi)), h.p.2.2.1, h.p.2.2.2⟩, h.dlt, h.plt, h.qlt, h.dp, h.dq⟩

/-- One record more, behind a disk of the call's own. -/
theorem OwnD.snoc {w0 w5 w6 : World} {lo lo5 g n cap : Nat} {vd v : Value} {dur : List Int} {ps : List (Int × List Int)} {dv : Nat → Value} {x : Int} {xs : List Int} {ob : Obj} {te : TypeId} (hD : OwnD w0 lo w0.heap.size vd (.slice (some ⟨g, 0, none⟩) n cap) dur ps dv) (hl : ps.length = n)
    (b5 : Below w0.heap.size w0 w5) (o5 : Own .u8 te w5 lo5 v xs) (hlo5 : w0.heap.size ≤ lo5) (hlo : lo ≤ lo5)
    (ho6 : w6.ownsRow lo 42 2 (.slice (some ⟨g, 0, none⟩) (n + 1) cap) (n + 1) (rowW n (pB ps) dv ++ [.int .i64 x, v])) (hg6 : (w5.alloc ob).grownBy w6 (some g)) :
    OwnD w6 lo w6.heap.size vd (.slice (some ⟨g, 0, none⟩) (n + 1) cap) dur (ps ++ [(x, xs)]) (dvSet dv n v) := by
  subst hl
  have G : w5.grownBy w6 (some g) := World.grownBy.trans (World.grownBy_alloc w5 ob (some g)) hg6
  have hgl : g < w0.heap.size := hD.plt g rfl
  have hs5 := b5.size
  have hs6 := G.size
  have hn2 : ∀ u : Value, (∀ q, u.ownBlock = some q → lo5 ≤ q) → u.ownBlock = none ∨ u.ownBlock ≠ some g := fun u hu => by
    cases hv : u.ownBlock with
    | none => exact .inl rfl
    | some q => have := hu q hv; exact .inr (by simp; omega)
  have hdq : ∀ i, i < ps.length → OwnB w6 lo (dv i) (pD ps i) := fun i hi => by
    refine ((hD.p.2.1 i hi).below b5).other G ?_
    rcases hD.p.2.2.2 i hi with h | h
    · exact .inl h
    · exact .inr h
  have hlen : (ps ++ [(x, xs)]).length = ps.length + 1 := by simp
  have rB : ∀ i, i < ps.length → pB (ps ++ [(x, xs)]) i = pB ps i := fun i hi => pB_app _ _ _ hi
  have rD : ∀ i, i < ps.length → pD (ps ++ [(x, xs)]) i = pD ps i := fun i hi => pD_app _ _ _ hi
  have hvn : ∀ i, i < ps.length → Ne2 (dv i) v := fun i hi => by
    unfold Ne2
    cases hv : (dv i).ownBlock with
    | none => exact .inl rfl
    | some q =>
      right; intro e
      have h1 := hD.qlt i hi q hv; have h2 := (o5.lt q (by rw [e])).1; omega
  have hvn' : ∀ i, i < ps.length → Ne2 v (dv i) := fun i hi => by
    unfold Ne2
    cases hv : v.ownBlock with
    | none => exact .inl rfl
    | some q =>
      right; intro e
      have h1 := hD.qlt i hi q e.symm; have h2 := (o5.lt q hv).1; omega
  refine ⟨?_, ⟨?_, ?_, ?_, ?_⟩, ?_, ?_, ?_, ?_, ?_⟩
  · refine (hD.d.below b5).other G ?_
    rcases hD.dp with h | h
    · simp [Value.ownBlock] at h
    · exact .inr (fun e => h (by rw [e]; rfl))
  · rw [hlen]
    have : rowW (ps.length + 1) (pB (ps ++ [(x, xs)])) (dvSet dv ps.length v) = rowW ps.length (pB ps) dv ++ [.int .i64 x, v] := by
      rw [rowW_snoc, pB_last]
      congr 1
      exact rowW_congr (fun i hi => rB i hi) (fun _ _ => rfl)
    rw [this]; exact ho6
  · intro i hi
    rw [hlen] at hi
    unfold dvSet
    by_cases e : i = ps.length
    · subst e
      rw [if_pos rfl, pD_last]
      exact ((o5.mono hlo).other G (hn2 v (fun q hq => (o5.lt q hq).1))).b
    · rw [if_neg e, rD i (by omega)]
      exact hdq i (by omega)
  · intro i j hi hj hne
    rw [hlen] at hi hj
    unfold dvSet
    by_cases e : i = ps.length
    · rw [if_pos e]
      by_cases e' : j = ps.length
      · omega
      · rw [if_neg e']; exact hvn' j (by omega)
    · rw [if_neg e]
      by_cases e' : j = ps.length
      · rw [if_pos e']; exact hvn i (by omega)
      · rw [if_neg e']; exact hD.p.2.2.1 i j (by omega) (by omega) hne
  · intro i hi
    rw [hlen] at hi
    unfold dvSet
    by_cases e : i = ps.length
    · rw [if_pos e]; exact hn2 v (fun q hq => (o5.lt q hq).1)
    · rw [if_neg e]; exact hD.p.2.2.2 i (by omega)
  · intro q hq; have := hD.dlt q hq; omega
  · intro q hq; simp [Value.ownBlock] at hq; omega
  · intro i hi q hq
    rw [hlen] at hi
    unfold dvSet at hq
    by_cases e : i = ps.length
    · rw [if_pos e] at hq; have := (o5.lt q hq).2; omega
    · rw [if_neg e] at hq; have := hD.qlt i (by omega) q hq; omega
  · exact hD.dp
  · intro i hi
    rw [hlen] at hi
    unfold dvSet
    by_cases e : i = ps.length
    · rw [if_pos e]
      unfold Ne2
      cases hv : v.ownBlock with
      | none => exact .inl rfl
      | some q =>
        right; intro e
        have h1 := hD.dlt q e.symm; have h2 := (o5.lt q hv).1; omega
    · rw [if_neg e]; exact hD.dq i (by omega)

set_option maxHeartbeats 1000000 in
set_option maxRecDepth 100000 in
theorem implWrite_loop (w : World) (va vb vx : Option Addr) (dl ca n cb cx : Nat) (dur xs : List Int) (ps : List (Int × List Int)) (x : Int) (hd : Rd .u8 w (.slice va dl ca) dur) (hdl : dur.length = dl) (hp : RdW w (.slice vb n cb) ps) (hl : ps.length = n)
    (hx : Rd .u8 w (.slice vx 64 cx) xs) (hxl : xs.length = 64) (hv : vldD dl ps = true) (hn : n < 2000) (hx0 : 0 ≤ x) (hx1 : x < (dl / 64 : Nat)) (hd1 : dl ≤ 1048576) (hpd : ∀ i, (pD ps i).length ≤ 1048576) :
    Calls Try.prog 15 #[.agg #[.slice va dl ca, .slice vb n cb], .int .i64 x, .slice vx 64 cx] w fun e w' => ∃ v1 v2 dv, e = .returned (.agg #[v1, v2]) ∧ OwnD w' w.heap.size w'.heap.size v1 v2 dur (ps ++ [(x, xs)]) dv ∧ Below w.heap.size w w' := by
  obtain ⟨db, dof, rfl, hdb, RU⟩ : ∃ db dof, vx = some ⟨db, dof, none⟩ ∧ db < w.heap.size ∧ Hid (w.rangeAt db dof (xs.map (Value.int .u8))) := by
    obtain ⟨ao, cap', e, h1, h2, h3⟩ := hx
    simp only [Value.slice.injEq] at e
    obtain ⟨rfl, hl, rfl⟩ := e
    rcases h3 with rfl | ⟨b', o', e, hb', hc⟩
    · simp at hxl
    · refine ⟨b', o', e, hb', ?_⟩
      intro j u hu
      have hj : j < 64 := by have := (List.getElem?_eq_some_iff.1 hu).1; simp at this; omega
      rw [hc j (by omega)]
      simp at hu
      obtain ⟨y, hy, rfl⟩ := hu
      simp [List.getD, hy]
  have HD : Hid (Rd .u8 w (.slice va dl ca) dur) := hd
  have HP : Hid (RdW w (.slice vb n cb) ps) := hp
  have HX : Hid (Rd .u8 w (.slice (some ⟨db, dof, none⟩) 64 cx) xs) := hx
  have HL : Hid (ps.length = n) := hl
  have HXL : Hid (xs.length = 64) := hxl
  have HDL : Hid (dur.length = dl) := hdl
  have HPD : Hid (∀ i, (pD ps i).length ≤ 1048576) := hpd
  have BA : Hid (∀ o1 o2, Below w.heap.size w ((w.alloc o1).alloc o2)) := fun o1 o2 => ((Below.refl _ _).alloc (Nat.le_refl _) _).alloc (by simp) _
  clear hd hp hx hl hxl hdl hpd
  go_enter Try.func15, Try.ntmps15
  go_wp2_with fail
  have XA0 : Hid (BoxF ((w.alloc (.cells #[.slice va dl ca, .slice vb n cb] 32)).alloc (.cells #[.slice none 0 0, .slice none 0 0] 32)) w.heap.size (.slice va dl ca) (.slice vb n cb)) := (BoxF.new w _ _ _).below ((Below.refl _ _).alloc (Nat.le_refl _) _)
  have XR0 : Hid (BoxF ((w.alloc (.cells #[.slice va dl ca, .slice vb n cb] 32)).alloc (.cells #[.slice none 0 0, .slice none 0 0] 32)) (w.heap.size + 1) (.slice none 0 0) (.slice none 0 0)) := by
    have := BoxF.new (w.alloc (.cells #[.slice va dl ca, .slice vb n cb] 32)) (.slice none 0 0) (.slice none 0 0) 32
    show BoxF _ _ _ _
    simpa using this
  have B0 := BA.out (.cells #[.slice va dl ca, .slice vb n cb] 32) (.cells #[.slice none 0 0, .slice none 0 0] 32)
  have HB0 : Hid (Below w.heap.size w ((w.alloc (.cells #[.slice va dl ca, .slice vb n cb] 32)).alloc (.cells #[.slice none 0 0, .slice none 0 0] 32))) := B0
  clear B0 BA
  generalize (w.alloc (.cells #[.slice va dl ca, .slice vb n cb] 32)).alloc (.cells #[.slice none 0 0, .slice none 0 0] 32) = w0 at *
  refine (implValid_any _ va vb dl ca n cb ps (HP.out.below HB0.out) HL.out hd1 (by omega) HPD.out).mono ?_
  rintro e w1 ⟨rfl, b1⟩
  rw [hv]
  have HB1 : Hid (Below w.heap.size w w1) := HB0.out.trans (b1.mono HB0.out.size)
  have XA1 : Hid (BoxF w1 w.heap.size (.slice va dl ca) (.slice vb n cb)) := XA0.out.below b1
  have XR1 : Hid (BoxF w1 (w.heap.size + 1) (.slice none 0 0) (.slice none 0 0)) := XR0.out.below b1
  clear b1 XA0 XR0 HB0 hv
  obtain ⟨⟨z1, c0, c1⟩, -⟩ := XA1.out
  have t1 : ¬ (2000 : Int) ≤ (n : Int) := by omega
  have t1d : decide ((2000 : Int) ≤ (n : Int)) = false := by simpa using t1
  go_wp2_with fail
  refine (hasBlock_any _ va dl ca _ x hd1).mono ?_
  rintro e w2 ⟨rfl, b2⟩
  rw [show decide (0 ≤ x ∧ x < ((dl / 64 : Nat) : Int)) = true by rw [decide_eq_true_eq]; exact ⟨hx0, hx1⟩]
  have HB2 : Hid (Below w.heap.size w w2) := HB1.out.trans (b2.mono HB1.out.size)
  have XA2 : Hid (BoxF w2 w.heap.size (.slice va dl ca) (.slice vb n cb)) := XA1.out.below b2
  have XR2 : Hid (BoxF w2 (w.heap.size + 1) (.slice none 0 0) (.slice none 0 0)) := XR1.out.below b2
  have s2 := HB2.out.size
  clear b2 XA1 XR1 HB1 z1 c0 c1 hx0 hx1
  obtain ⟨⟨z1, c0, c1⟩, -⟩ := XA2.out
  have zr := XR2.out.1.1
  go_wp2_with fail
  refine (copyDisk_row _ va vb dl ca n cb dur ps (HD.out.below HB2.out) HDL.out (HP.out.below HB2.out) HL.out (by omega) hd1 HPD.out).mono ?_
  rintro e w3 ⟨a4, c4, g, dv, rfl, o3, b3⟩
  have D3 : Hid (OwnD w3 w2.heap.size w3.heap.size (.slice a4 dl c4) (.slice (some ⟨g, 0, none⟩) n (n + 1)) dur ps dv) := o3
  have HB3 : Hid (Below w.heap.size w w3) := HB2.out.trans (b3.mono s2)
  have XR3 : Hid (BoxF w3 (w.heap.size + 1) (.slice none 0 0) (.slice none 0 0)) := XR2.out.below b3
  have s3 := b3.size
  clear o3 b3 XA2 c0 c1 XR2
  go_wp2_with fail
  have BA4 : Hid (Below w3.heap.size w3 (w3.alloc (.cells #[(.slice a4 dl c4), (.slice (some ⟨g, 0, none⟩) n (n + 1))] 32))) := (Below.refl _ _).alloc (Nat.le_refl _) _
  have XB4 : Hid (BoxF (w3.alloc (.cells #[(.slice a4 dl c4), (.slice (some ⟨g, 0, none⟩) n (n + 1))] 32)) w3.heap.size (.slice a4 dl c4) (.slice (some ⟨g, 0, none⟩) n (n + 1))) := BoxF.new _ _ _ _
  have s4 : (w3.alloc (.cells #[(.slice a4 dl c4), (.slice (some ⟨g, 0, none⟩) n (n + 1))] 32)).heap.size = w3.heap.size + 1 := by simp
  generalize w3.alloc (.cells #[(.slice a4 dl c4), (.slice (some ⟨g, 0, none⟩) n (n + 1))] 32) = w4 at *
  have HS4 : Hid (w4.heap.size = w3.heap.size + 1) := s4
  clear s4
  have HB4 : Hid (Below w.heap.size w w4) := HB3.out.trans (BA4.out.mono (by omega))
  have XR4 : Hid (BoxF w4 (w.heap.size + 1) (.slice none 0 0) (.slice none 0 0)) := XR3.out.below BA4.out
  have D4 : Hid (OwnD w4 w2.heap.size w3.heap.size (.slice a4 dl c4) (.slice (some ⟨g, 0, none⟩) n (n + 1)) dur ps dv) := D3.out.below BA4.out
  have hg3 : g < w3.heap.size := D3.out.plt g rfl
  have RU4 : Hid (w4.rangeAt db dof (xs.map (Value.int .u8))) := fun j u hu => (HB4.out.cell (p := ⟨db, dof + j, none⟩) hdb).trans (RU.out j u hu)
  have hat : ∀ W, (Instr.arrayAt 77 (.slice (some ⟨db, dof, none⟩) 64 cx)).run Try.prog W = .ok (.pointer (some ⟨db, dof, none⟩)) W := fun W => run_arrayAt W 77 _ 64 _ _ _ Try.underlying77 (Nat.le_refl _)
  have HSZ : Hid ((Try.prog.info? 77).map (·.size) = some (xs.map (Value.int .u8)).length) := by
    show _ = _
    rw [List.length_map, HXL.out]
    kernel_rfl
  have hs4 : w4.heap.size = w3.heap.size + 1 := HS4.out
  obtain ⟨V, hV⟩ : ∃ V, V = xs.map (Value.int .u8) := ⟨_, rfl⟩
  rw [← hV] at RU4 HSZ
  have HV : Hid (V = xs.map (Value.int .u8)) := hV
  clear XR3 HB3 hV
  go_wp2_with fail
  go_simp
  go_wp2_with (refine wpList_load_mid rfl 77 _ rfl db dof rfl V _ RU4.out Try.underlying77 rfl HSZ.out ?_)
  have CA := addWrite_any w4 w3.heap.size 0 w2.heap.size w3.heap.size (.slice a4 dl c4) (.slice (some ⟨g, 0, none⟩) n (n + 1)) dur ps dv x xs D4.out (by omega) (by omega) XB4.out.1.2.2 XB4.out.2.2 (by omega) (by intro e; simp [Value.ownBlock] at e; omega) HXL.out (by rw [HL.out]; omega)
  rw [← HV.out, HL.out] at CA
  refine CA.mono ?_
  rintro e w6 ⟨rfl, w5, g5, cap5, v5, o5, gr5, hat5, hv5, rfl⟩
  have hg3 : g < w3.heap.size := D3.out.plt g rfl
  have hg2 : w2.heap.size ≤ g := (World.ownsRow.lt D3.out.p.1 g rfl).1
  have hs5 := gr5.size
  have K : ∀ b x' y', BoxF w4 b x' y' → b ≠ g → BoxF w5 b x' y' := fun b x' y' hb hne => by
    have hbl := gr5.block b hb.1.1 (fun e => hne (by simpa [Value.ownBlock] using e))
    exact ⟨⟨Nat.lt_of_lt_of_le hb.1.1 gr5.size, (World.cell?_of_block (a := ⟨b, 0, none⟩) hbl).trans hb.1.2.1, (World.cell?_of_block (a := ⟨b, 1, none⟩) hbl).trans hb.1.2.2⟩, (World.frozen?_of_block (a := ⟨b, 0, none⟩) hbl).trans hb.2.1, (World.frozen?_of_block (a := ⟨b, 1, none⟩) hbl).trans hb.2.2⟩
  have XB5 := K _ _ _ XB4.out (by omega)
  have XR5 := K _ _ _ XR4.out (by omega)
  have N6 : Hid (Value.ownBlock (.slice a4 dl c4) ≠ some w3.heap.size ∧ Value.ownBlock (.slice (some ⟨g5, 0, none⟩) (n + 1) cap5) ≠ some w3.heap.size ∧ ∀ i, i < (ps ++ [(x, xs)]).length → Value.ownBlock (dvSet dv n v5 i) ≠ some w3.heap.size) := by
    refine ⟨fun e => Nat.lt_irrefl _ (D3.out.dlt _ e), fun e => ?_, fun i hi e => ?_⟩
    · simp [Value.ownBlock] at e hat5
      omega
    · unfold dvSet at e
      by_cases e' : i = n
      · rw [if_pos e', hv5] at e
        simp at e
        omega
      · rw [if_neg e'] at e
        rw [List.length_append, HL.out] at hi
        exact Nat.lt_irrefl _ (D3.out.qlt i (by rw [HL.out]; simp at hi; omega) _ e)
  have D6 : Hid (OwnD w5 w2.heap.size w5.heap.size (.slice a4 dl c4) (.slice (some ⟨g5, 0, none⟩) (n + 1) cap5) dur (ps ++ [(x, xs)]) (dvSet dv n v5)) := o5
  have B6 : Hid (Below w.heap.size w w5) := HB4.out.grown gr5 HB4.out.size (by intro q hq; simp [Value.ownBlock] at hq; omega)
  clear o5 gr5 hat5 hv5 K CA RU4 HSZ hat D4 XR4 HB4 BA4 D3 HS4 XB4 HX RU HD HP
  obtain ⟨⟨y9, d0, d1⟩, f0, f1⟩ := XR5
  obtain ⟨⟨y0, m0, m1⟩, m2, m3⟩ := XB5
  have hne : w3.heap.size ≠ w.heap.size + 1 := by omega
  have hne2 : w.heap.size + 1 ≠ w3.heap.size := by omega
  go_wp2
  refine bodyPost_ret (v := .agg #[(.slice a4 dl c4), (.slice (some ⟨g5, 0, none⟩) (n + 1) cap5)]) (by simp [results, Try.results15, go_sem, d0, d1]) rfl ⟨_, _, dvSet dv n v5, rfl, ?_, ?_⟩
  · refine OwnD.mono (lo := w2.heap.size) (hi := w5.heap.size) ?_ s2 (by simp)
    repeat (first | exact D6.out | refine OwnD.within (l := w.heap.size + 1) (h := w.heap.size + 2) ?_ (Within.setCell _ (Nat.le_refl _) (by omega) _ _) (.inr (by omega)) | refine OwnD.setAt ?_ w3.heap.size _ _ N6.out.1 N6.out.2.1 N6.out.2.2)
  · repeat (first | exact B6.out | refine Below.setCell ?_ (by simp; try omega) _)

end Go.Proofs.Ytmgolinleiahpaa

namespace Go.Proofs.Ytmgolinleiahpaa
open Go.RowKit

set_option maxHeartbeats 1000000 in
set_option maxRecDepth 100000 in
theorem implWrite_no (w : World) (va vb vx : Option Addr) (dl ca n cb m cx : Nat) (ps : List (Int × List Int)) (x : Int) (hp : RdW w (.slice vb n cb) ps) (hl : ps.length = n)
    (hno : wrOk dl ps x m = false) (hn : n ≤ 1048576) (hd1 : dl ≤ 1048576) (hpd : ∀ i, (pD ps i).length ≤ 1048576) :
    Calls Try.prog 15 #[.agg #[.slice va dl ca, .slice vb n cb], .int .i64 x, .slice vx m cx] w fun e w' => e = .returned (.agg #[.slice none 0 0, .slice none 0 0]) ∧ Below w.heap.size w w' := by
  have HP : Hid (RdW w (.slice vb n cb) ps) := hp
  have HL : Hid (ps.length = n) := hl
  have HPD : Hid (∀ i, (pD ps i).length ≤ 1048576) := hpd
  have BA : Hid (∀ o1 o2, Below w.heap.size w ((w.alloc o1).alloc o2)) := fun o1 o2 => ((Below.refl _ _).alloc (Nat.le_refl _) _).alloc (by simp) _
  have HNO : Hid (wrOk dl ps x m = false) := hno
  clear hp hl hpd hno
  go_enter Try.func15, Try.ntmps15
  go_wp2_with fail
  have XA0 : Hid (BoxF ((w.alloc (.cells #[.slice va dl ca, .slice vb n cb] 32)).alloc (.cells #[.slice none 0 0, .slice none 0 0] 32)) w.heap.size (.slice va dl ca) (.slice vb n cb)) := (BoxF.new w _ _ _).below ((Below.refl _ _).alloc (Nat.le_refl _) _)
  have XR0 : Hid (BoxF ((w.alloc (.cells #[.slice va dl ca, .slice vb n cb] 32)).alloc (.cells #[.slice none 0 0, .slice none 0 0] 32)) (w.heap.size + 1) (.slice none 0 0) (.slice none 0 0)) := by
    have := BoxF.new (w.alloc (.cells #[.slice va dl ca, .slice vb n cb] 32)) (.slice none 0 0) (.slice none 0 0) 32
    show BoxF _ _ _ _
    simpa using this
  have B0 := BA.out (.cells #[.slice va dl ca, .slice vb n cb] 32) (.cells #[.slice none 0 0, .slice none 0 0] 32)
  have HB0 : Hid (Below w.heap.size w ((w.alloc (.cells #[.slice va dl ca, .slice vb n cb] 32)).alloc (.cells #[.slice none 0 0, .slice none 0 0] 32))) := B0
  clear B0 BA
  generalize (w.alloc (.cells #[.slice va dl ca, .slice vb n cb] 32)).alloc (.cells #[.slice none 0 0, .slice none 0 0] 32) = w0 at *
  refine (implValid_any _ va vb dl ca n cb ps (HP.out.below HB0.out) HL.out hd1 hn HPD.out).mono ?_
  rintro e w1 ⟨rfl, b1⟩
  have HB1 : Hid (Below w.heap.size w w1) := HB0.out.trans (b1.mono HB0.out.size)
  have XA1 : Hid (BoxF w1 w.heap.size (.slice va dl ca) (.slice vb n cb)) := XA0.out.below b1
  have XR1 : Hid (BoxF w1 (w.heap.size + 1) (.slice none 0 0) (.slice none 0 0)) := XR0.out.below b1
  clear b1 XA0 XR0 HB0
  obtain ⟨⟨z1, c0, c1⟩, -⟩ := XA1.out
  obtain ⟨⟨zr, d0, d1⟩, f0, f1⟩ := XR1.out
  by_cases hv : vldD dl ps = true
  · rw [hv]
    by_cases t1 : (2000 : Int) ≤ (n : Int)
    · have t1d : decide ((2000 : Int) ≤ (n : Int)) = true := by simpa using t1
      clear hv
      go_wp2
      refine bodyPost_ret (v := .agg #[.slice none 0 0, .slice none 0 0]) (by simp [results, Try.results15, go_sem, d0, d1]) rfl ⟨rfl, ?_⟩
      repeat (first | exact HB1.out | refine Below.setCell ?_ (by simp; try omega) _)
    · have t1d : decide ((2000 : Int) ≤ (n : Int)) = false := by simpa using t1
      have HV : Hid (vldD dl ps = true) := hv
      have HT : Hid (n < 2000) := by show _ < _; omega
      clear hv
      go_wp2_with fail
      refine (hasBlock_any _ va dl ca _ x hd1).mono ?_
      rintro e w2 ⟨rfl, b2⟩
      have HB2 : Hid (Below w.heap.size w w2) := HB1.out.trans (b2.mono HB1.out.size)
      have XR2 : Hid (BoxF w2 (w.heap.size + 1) (.slice none 0 0) (.slice none 0 0)) := XR1.out.below b2
      clear b2 XA1 XR1 HB1 z1 c0 c1 zr d0 d1 f0 f1
      obtain ⟨⟨zr, d0, d1⟩, f0, f1⟩ := XR2.out
      by_cases hx : 0 ≤ x ∧ x < ((dl / 64 : Nat) : Int)
      · rw [show decide (0 ≤ x ∧ x < ((dl / 64 : Nat) : Int)) = true by rw [decide_eq_true_eq]; exact hx]
        have hm64 : ¬ m = 64 := by
          intro e
          have h : wrOk dl ps x m = true := by
            unfold wrOk
            simp only [Bool.and_eq_true, decide_eq_true_eq]
            exact ⟨⟨⟨HV.out, by have := HL.out; have := HT.out; omega⟩, hx⟩, e⟩
          rw [HNO.out] at h
          cases h
        have hmI : ¬ (m : Int) = 64 := by omega
        clear hx
        go_wp2
        refine bodyPost_ret (v := .agg #[.slice none 0 0, .slice none 0 0]) (by simp [results, Try.results15, go_sem, d0, d1]) rfl ⟨rfl, ?_⟩
        repeat (first | exact HB2.out | refine Below.setCell ?_ (by simp; try omega) _)
      · rw [show decide (0 ≤ x ∧ x < ((dl / 64 : Nat) : Int)) = false by rw [decide_eq_false_iff_not]; exact hx]
        clear hx
        go_wp2
        refine bodyPost_ret (v := .agg #[.slice none 0 0, .slice none 0 0]) (by simp [results, Try.results15, go_sem, d0, d1]) rfl ⟨rfl, ?_⟩
        repeat (first | exact HB2.out | refine Below.setCell ?_ (by simp; try omega) _)
  · have hv' : vldD dl ps = false := by simpa using hv
    rw [hv']
    clear hv hv'
    go_wp2
    refine bodyPost_ret (v := .agg #[.slice none 0 0, .slice none 0 0]) (by simp [results, Try.results15, go_sem, d0, d1]) rfl ⟨rfl, ?_⟩
    repeat (first | exact HB1.out | refine Below.setCell ?_ (by simp; try omega) _)

theorem implWrite_any (w : World) (v1 v2 v3 : Value) (dur xs : List Int) (ps : List (Int × List Int)) (x : Int) (hd : Rd .u8 w v1 dur) (hp : RdW w v2 ps) (hx : Rd .u8 w v3 xs) (hdl : dur.length ≤ 1048576) (hn : ps.length ≤ 1048576) (hpd : ∀ i, (pD ps i).length ≤ 1048576) :
    Calls Try.prog 15 #[.agg #[v1, v2], .int .i64 x, v3] w fun e w' => ∃ u1 u2 dv, e = .returned (.agg #[u1, u2]) ∧ OwnD w' w.heap.size w'.heap.size u1 u2 (wrDur dur ps x xs) (wrPend dur ps x xs) dv ∧ Below w.heap.size w w' := by
  obtain ⟨va, ca, rfl, -⟩ := hd.len
  obtain ⟨vx, cx, rfl, -⟩ := hx.len
  obtain ⟨vb, cb, rfl, -⟩ := id hp
  unfold wrDur wrPend
  cases h : wrOk dur.length ps x xs.length with
  | true =>
    simp only [if_true]
    unfold wrOk at h
    simp only [Bool.and_eq_true, decide_eq_true_eq] at h
    obtain ⟨⟨⟨h1, h2⟩, h3, h4⟩, h5⟩ := h
    rw [h5] at hx ⊢
    exact implWrite_loop w va vb vx dur.length ca ps.length cb cx dur xs ps x hd rfl hp rfl hx h5 h1 h2 h3 h4 hdl hpd
  | false =>
    simp only [Bool.false_eq_true, if_false]
    refine (implWrite_no w va vb vx dur.length ca ps.length cb xs.length cx ps x hp rfl h hn hdl hpd).mono ?_
    rintro e w' ⟨rfl, b⟩
    exact ⟨_, _, _, rfl, ownD_nil _ _ _, b⟩

end Go.Proofs.Ytmgolinleiahpaa

namespace Go.Proofs.Ytmgolinleiahpaa
open Go.RowKit

theorem splice_get {α : Type} (L : List α) (off : Nat) (cs : List α) (h : off + cs.length ≤ L.length) (j : Nat) :
    (splice L off cs)[j]? = if j < off then L[j]? else if j < off + cs.length then cs[j - off]? else L[j]? := by
  unfold splice
  have hl : (L.take off).length = off := by rw [List.length_take]; omega
  by_cases h1 : j < off
  · rw [if_pos h1, List.getElem?_append_left (by omega), List.getElem?_take_of_lt h1]
  · rw [if_neg h1, List.getElem?_append_right (by omega), hl]
    by_cases h2 : j < off + cs.length
    · rw [if_pos h2, List.getElem?_append_left (by omega)]
    · rw [if_neg h2, List.getElem?_append_right (by omega), List.getElem?_drop]
      congr 1
      omega

theorem splice_map {α β : Type} (f : α → β) (L : List α) (off : Nat) (cs : List α) : (splice L off cs).map f = splice (L.map f) off (cs.map f) := by
  simp [splice, List.map_take, List.map_drop]

theorem splice_nil {α : Type} (L : List α) (off : Nat) : splice L off [] = L := by simp [splice]

theorem splice_snoc (L : List Int) (off : Nat) (ys : List Int) (j : Nat) (hj : j < ys.length) (h : off + ys.length ≤ L.length) :
    (splice L off (ys.take j)).set (off + j) (ys.getD j 0) = splice L off (ys.take (j + 1)) := by
  have hl1 : (ys.take j).length = j := by rw [List.length_take]; omega
  have hl2 : (ys.take (j + 1)).length = j + 1 := by rw [List.length_take]; omega
  apply List.ext_getElem?
  intro i
  rw [splice_get _ _ _ (by omega), List.getElem?_set, length_splice _ _ _ (by omega), splice_get _ _ _ (by omega), hl1, hl2]
  by_cases e : off + j = i
  · subst e
    rw [if_pos rfl, if_pos (by omega), if_neg (by omega), if_pos (by omega), show off + j - off = j by omega, List.getElem?_take_of_lt (by omega)]
    simp [List.getD, hj]
  · rw [if_neg e]
    by_cases h1 : i < off
    · rw [if_pos h1, if_pos h1]
    · rw [if_neg h1, if_neg h1]
      by_cases h2 : i < off + j
      · rw [if_pos h2, if_pos (by omega), List.getElem?_take_of_lt (by omega), List.getElem?_take_of_lt (by omega)]
      · rw [if_neg h2, if_neg (by omega)]

/-- A block that is read, torn and laid back. -/
theorem splice_torn (D W : List Int) (o c : Nat) (hW : W.length = 64) (hc : c ≤ 64) (ho : o + 64 ≤ D.length) :
    splice D o (splice ((D.drop o).take 64) 0 (W.take c)) = splice D o (W.take c) := by
  have hd : ((D.drop o).take 64).length = 64 := by rw [List.length_take, List.length_drop]; omega
  have hw : (W.take c).length = c := by rw [List.length_take]; omega
  have hs : (splice ((D.drop o).take 64) 0 (W.take c)).length = 64 := by rw [length_splice _ _ _ (by omega), hd]
  apply List.ext_getElem?
  intro i
  rw [splice_get _ _ _ (by omega), splice_get _ _ _ (by omega), splice_get _ _ _ (by omega), hs, hw]
  by_cases h1 : i < o
  · rw [if_pos h1, if_pos h1]
  · rw [if_neg h1, if_neg h1]
    by_cases h2 : i < o + 64
    · rw [if_pos h2, if_neg (by omega)]
      by_cases h3 : i < o + c
      · rw [if_pos h3, if_pos (by omega)]; rfl
      · rw [if_neg h3, if_neg (by omega), List.getElem?_take_of_lt (by omega), List.getElem?_drop]
        congr 1; omega
    · rw [if_neg h2, if_neg (by omega)]

/-- The durable bytes when the first k pending writes have come, each with so many of its first bytes. -/
def stl (dur : List Int) (ps : List (Int × List Int)) (c : Nat → Nat) : Nat → List Int
  | 0 => dur
  | k + 1 => splice (stl dur ps c k) ((pB ps k).toNat * 64) ((pD ps k).take (c k))

theorem vld_at {dl : Nat} {ps : List (Int × List Int)} (h : vldD dl ps = true) (k : Nat) (hk : k < ps.length) : ∃ b : Nat, pB ps k = b ∧ b * 64 + 64 ≤ dl ∧ b ≤ 300 ∧ (pD ps k).length = 64 := by
  obtain ⟨h1, h2, h3, h4, h5⟩ := (vldD_iff dl ps).1 h
  obtain ⟨k1, k2, k3⟩ := h5 k hk
  exact ⟨(pB ps k).toNat, by omega, by omega, by omega, k3⟩

theorem stl_len (dur : List Int) (ps : List (Int × List Int)) (c : Nat → Nat) (h : vldD dur.length ps = true) : ∀ k, k ≤ ps.length → (stl dur ps c k).length = dur.length
  | 0, _ => rfl
  | k + 1, hk => by
    have ih := stl_len dur ps c h k (by omega)
    obtain ⟨b, hb, hb2, _, hd⟩ := vld_at h k (by omega)
    rw [stl, length_splice, ih]
    rw [hb, Int.toNat_natCast, List.length_take, ih, hd]
    omega

/-- How many of its bytes write i keeps. -/
def chc (cs : List Int) (i : Nat) : Nat := if i < cs.length then (if 0 ≤ cs.getD i 0 ∧ cs.getD i 0 < 64 then (cs.getD i 0).toNat else 64) else 0
theorem chc_le (cs : List Int) (i : Nat) : chc cs i ≤ 64 := by
  unfold chc; split
  · split
    · omega
    · omega
  · omega

def crOk (dl : Nat) (ps : List (Int × List Int)) (m : Nat) : Bool := vldD dl ps && decide (m ≤ 2000)
def crD (dur : List Int) (ps : List (Int × List Int)) (cs : List Int) : List Int := if crOk dur.length ps cs.length then stl dur ps (chc cs) ps.length else []
def syD (dur : List Int) (ps : List (Int × List Int)) : List Int := if vldD dur.length ps then stl dur ps (fun _ => 64) ps.length else []

theorem crD_len (dur : List Int) (ps : List (Int × List Int)) (cs : List Int) : (crD dur ps cs).length ≤ dur.length := by
  unfold crD; split
  · rename_i h
    rw [stl_len dur ps _ (by unfold crOk at h; simp only [Bool.and_eq_true] at h; exact h.1) _ (Nat.le_refl _)]; exact Nat.le_refl _
  · simp
theorem syD_len (dur : List Int) (ps : List (Int × List Int)) : (syD dur ps).length ≤ dur.length := by
  unfold syD; split
  · rename_i h
    rw [stl_len dur ps _ h _ (Nat.le_refl _)]; exact Nat.le_refl _
  · simp

end Go.Proofs.Ytmgolinleiahpaa

namespace Go.Proofs.Ytmgolinleiahpaa
open Go.RowKit

/-- The cells of a table's rows. -/
def rowT (rs : List (Int × List Int)) : List Value := rs.flatMap fun r => .int .i64 r.1 :: r.2.map (Value.int .u8)
theorem rowT_app (a b : List (Int × List Int)) : rowT (a ++ b) = rowT a ++ rowT b := by simp [rowT]
theorem rowT_one (x : Int) (V : List Int) : rowT [(x, V)] = .int .i64 x :: V.map (Value.int .u8) := by simp [rowT]

theorem rowT_len : ∀ (rs : List (Int × List Int)), (∀ i, i < rs.length → (pD rs i).length = 64) → (rowT rs).length = rs.length * 65
  | [], _ => rfl
  | r :: rs, h => by
    have h0 : r.2.length = 64 := h 0 (by simp)
    have ih := rowT_len rs (fun i hi => h (i + 1) (by simp; omega))
    have e : rowT (r :: rs) = rowT [(r.1, r.2)] ++ rowT rs := by simp [rowT]
    rw [e, List.length_append, ih, rowT_one]
    simp [h0]; omega

theorem pD_take (rs : List (Int × List Int)) (i k : Nat) (h : i < k) : pD (rs.take k) i = pD rs i := by unfold pD; simp [List.getD, List.getElem?_take_of_lt h]

theorem rs_split (rs : List (Int × List Int)) (i : Nat) (hi : i < rs.length) : rs = rs.take i ++ ((pB rs i, pD rs i) :: rs.drop (i + 1)) := by
  have e : (pB rs i, pD rs i) = rs[i] := by unfold pB pD; simp [List.getD, hi]
  rw [e]
  conv => lhs; rw [← List.take_append_drop i rs]
  rw [List.drop_eq_getElem_cons hi]

theorem rowT_split (rs : List (Int × List Int)) (i : Nat) (hi : i < rs.length) : rowT rs = rowT (rs.take i) ++ (.int .i64 (pB rs i) :: ((pD rs i).map (Value.int .u8) ++ rowT (rs.drop (i + 1)))) := by
  conv => lhs; rw [rs_split rs i hi]
  rw [rowT_app]
  congr 1

theorem rowT_pre (rs : List (Int × List Int)) (i : Nat) (hi : i ≤ rs.length) (h : ∀ i, i < rs.length → (pD rs i).length = 64) : (rowT (rs.take i)).length = i * 65 := by
  rw [rowT_len _ (fun j hj => by rw [List.length_take] at hj; rw [pD_take _ _ _ (by omega)]; exact h j (by omega)), List.length_take, Nat.min_eq_left hi]

/-- The key of a row, and its value. -/
theorem rowT_key (rs : List (Int × List Int)) (i : Nat) (hi : i < rs.length) (h : ∀ i, i < rs.length → (pD rs i).length = 64) : (rowT rs)[i * 65]? = some (.int .i64 (pB rs i)) := by
  rw [rowT_split rs i hi, List.getElem?_append_right (by rw [rowT_pre rs i (by omega) h]; exact Nat.le_refl _), rowT_pre rs i (by omega) h]
  simp

theorem rowT_val (rs : List (Int × List Int)) (i : Nat) (hi : i < rs.length) (h : ∀ i, i < rs.length → (pD rs i).length = 64) (j : Nat) (u : Value) (hu : ((pD rs i).map (Value.int .u8))[j]? = some u) : (rowT rs)[i * 65 + 1 + j]? = some u := by
  have hj : j < (pD rs i).length := by have := (List.getElem?_eq_some_iff.1 hu).1; simpa using this
  rw [rowT_split rs i hi, List.getElem?_append_right (by rw [rowT_pre rs i (by omega) h]; omega), rowT_pre rs i (by omega) h, show i * 65 + 1 + j - i * 65 = j + 1 by omega, List.getElem?_cons_succ, List.getElem?_append_left (by simpa using hj)]
  exact hu

theorem set_split (rs : List (Int × List Int)) (i : Nat) (hi : i < rs.length) (r : Int × List Int) : rs.set i r = rs.take i ++ (r :: rs.drop (i + 1)) := by
  rw [List.set_eq_take_append_cons_drop, if_pos hi]

theorem rowT_set (rs : List (Int × List Int)) (i : Nat) (hi : i < rs.length) (h : ∀ i, i < rs.length → (pD rs i).length = 64) (V : List Int) (hV : V.length = 64) :
    rowT (rs.set i (pB rs i, V)) = splice (rowT rs) (i * 65 + 1) (V.map (Value.int .u8)) := by
  have hp := rowT_pre rs i (by omega) h
  have hd := h i hi
  rw [set_split rs i hi, rowT_app]
  have e1 : rowT ((pB rs i, V) :: rs.drop (i + 1)) = .int .i64 (pB rs i) :: (V.map (Value.int .u8) ++ rowT (rs.drop (i + 1))) := by simp [rowT]
  rw [e1, rowT_split rs i hi]
  generalize rowT (rs.take i) = A at *
  generalize rowT (rs.drop (i + 1)) = B at *
  have hO : ((pD rs i).map (Value.int .u8)).length = 64 := by simpa using hd
  have hV' : (V.map (Value.int .u8)).length = 64 := by simpa using hV
  generalize (pD rs i).map (Value.int .u8) = O at *
  generalize V.map (Value.int .u8) = V' at *
  generalize Value.int .i64 (pB rs i) = x at *
  unfold splice
  have t1 : (A ++ x :: (O ++ B)).take (i * 65 + 1) = A ++ [x] := by
    rw [List.take_append, List.take_of_length_le (by omega), show i * 65 + 1 - A.length = 1 by omega]; rfl
  have t2 : (A ++ x :: (O ++ B)).drop (i * 65 + 1 + V'.length) = B := by
    rw [List.drop_append, List.drop_eq_nil_of_le (by omega), show i * 65 + 1 + V'.length - A.length = 64 + 1 by omega, List.drop_succ_cons, List.drop_append, List.drop_eq_nil_of_le (by omega), show 64 - O.length = 0 by omega]
    simp
  rw [t1, t2]
  simp

theorem pB_set (rs : List (Int × List Int)) (i j : Nat) (hi : i < rs.length) (V : List Int) : pB (rs.set i (pB rs i, V)) j = pB rs j := by
  unfold pB
  simp only [List.getD, List.getElem?_set]
  by_cases e : i = j
  · subst e; simp [hi]
  · simp [e]
theorem pD_set (rs : List (Int × List Int)) (i j : Nat) (hi : i < rs.length) (V : List Int) : pD (rs.set i (pB rs i, V)) j = if j = i then V else pD rs j := by
  unfold pD
  simp only [List.getD, List.getElem?_set]
  by_cases e : i = j
  · subst e; simp [hi]
  · rw [if_neg e, if_neg (fun h => e h.symm)]

/-- One put. -/
def Put (rs : List (Int × List Int)) (x : Int) (V : List Int) (rs' : List (Int × List Int)) : Prop :=
  (∃ i, i < rs.length ∧ pB rs i = x ∧ rs' = rs.set i (pB rs i, V)) ∨ ((∀ i, i < rs.length → pB rs i ≠ x) ∧ rs' = rs ++ [(x, V)])

/-- The table after the first k pending writes. -/
def TabOf (dur : List Int) (ps : List (Int × List Int)) (k : Nat) (rs : List (Int × List Int)) : Prop :=
  (∀ b : Nat, (∀ i, i < rs.length → pB rs i = b → rdv dur ps b k = pD rs i) ∧ ((∀ i, i < rs.length → pB rs i ≠ b) → rdv dur ps b k = rdv dur ps b 0)) ∧
  (∀ i, i < rs.length → ∃ b : Nat, pB rs i = b ∧ b * 64 + 64 ≤ dur.length ∧ b ≤ 300)

theorem tabOf_nil (dur : List Int) (ps : List (Int × List Int)) : TabOf dur ps 0 [] := ⟨fun b => ⟨fun i hi => by simp at hi, fun _ => rfl⟩, fun i hi => by simp at hi⟩

theorem rdv_at (dur : List Int) (ps : List (Int × List Int)) (b k : Nat) (h : pB ps k = b) : rdv dur ps b (k + 1) = pD ps k := by unfold rdv; rw [if_pos h]
theorem rdv_off (dur : List Int) (ps : List (Int × List Int)) (b k : Nat) (h : ¬ pB ps k = b) : rdv dur ps b (k + 1) = rdv dur ps b k := by rw [rdv, if_neg h]

theorem tabOf_put (dur : List Int) (ps rs rs' : List (Int × List Int)) (k : Nat) (ht : TabOf dur ps k rs) (hk : ∃ b : Nat, pB ps k = b ∧ b * 64 + 64 ≤ dur.length ∧ b ≤ 300)
    (hap : ∀ i j, i < rs.length → j < rs.length → pB rs i = pB rs j → i = j) (h : Put rs (pB ps k) (pD ps k) rs') : TabOf dur ps (k + 1) rs' := by
  obtain ⟨h1, h2⟩ := ht
  rcases h with ⟨i, hi, hx, rfl⟩ | ⟨hno, rfl⟩
  · have hl : (rs.set i (pB rs i, pD ps k)).length = rs.length := List.length_set ..
    refine ⟨fun b => ⟨fun j hj hb => ?_, fun hb => ?_⟩, fun j hj => ?_⟩
    · rw [hl] at hj
      rw [pB_set rs i j hi] at hb
      rw [pD_set rs i j hi]
      by_cases e : j = i
      · subst e; rw [if_pos rfl]; exact rdv_at dur ps b k (by rw [← hx]; exact hb)
      · rw [if_neg e, rdv_off dur ps b k (fun e' => e (hap j i hj hi (by rw [hb, hx, e'])))]
        exact (h1 b).1 j hj hb
    · have hb' : ∀ j, j < rs.length → pB rs j ≠ b := fun j hj => by have := hb j (by rw [hl]; exact hj); rw [pB_set rs i j hi] at this; exact this
      rw [rdv_off dur ps b k (fun e => hb' i hi (by rw [hx, e]))]
      exact (h1 b).2 hb'
    · rw [hl] at hj
      rw [pB_set rs i j hi]
      exact h2 j hj
  · have hl : (rs ++ [(pB ps k, pD ps k)]).length = rs.length + 1 := by simp
    refine ⟨fun b => ⟨fun j hj hb => ?_, fun hb => ?_⟩, fun j hj => ?_⟩
    · rw [hl] at hj
      by_cases e : j = rs.length
      · subst e
        rw [pB_last] at hb
        rw [pD_last]; exact rdv_at dur ps b k hb
      · rw [pB_app _ _ _ (by omega)] at hb
        rw [pD_app _ _ _ (by omega), rdv_off dur ps b k (fun e' => hno j (by omega) (by rw [hb, e']))]
        exact (h1 b).1 j (by omega) hb
    · have hn := hb rs.length (by rw [hl]; omega)
      rw [pB_last] at hn
      rw [rdv_off dur ps b k hn]
      exact (h1 b).2 (fun j hj => by have := hb j (by rw [hl]; omega); rw [pB_app _ _ _ hj] at this; exact this)
    · rw [hl] at hj
      by_cases e : j = rs.length
      · subst e; rw [pB_last]; exact hk
      · rw [pB_app _ _ _ (by omega)]; exact h2 j (by omega)

/-- What a table's map says. -/
def MF (D : DataW Unit) (rs : List (Int × List Int)) : Prop :=
  (∀ x : Int, Maps.has D (.int .i64 x) = true ↔ ∃ i, i < rs.length ∧ pB rs i = x) ∧ ∀ i, i < rs.length → ∀ z, D.atKey (.int .i64 (pB rs i)) z = .lit (.int .i64 i)

theorem MF.set {D : DataW Unit} {rs : List (Int × List Int)} (h : MF D rs) (i : Nat) (hi : i < rs.length) (V : List Int) : MF D (rs.set i (pB rs i, V)) := by
  have hl : (rs.set i (pB rs i, V)).length = rs.length := List.length_set ..
  refine ⟨fun x => ?_, fun j hj z => ?_⟩
  · rw [h.1 x, hl]
    constructor
    · rintro ⟨j, hj, e⟩; exact ⟨j, hj, by rw [pB_set rs i j hi]; exact e⟩
    · rintro ⟨j, hj, e⟩; rw [pB_set rs i j hi] at e; exact ⟨j, hj, e⟩
  · rw [hl] at hj; rw [pB_set rs i j hi]; exact h.2 j hj z

theorem MF.snoc {D : DataW Unit} {rs : List (Int × List Int)} (h : MF D rs) (hD : Maps.IsMap D) (x : Int) (V : List Int) (hno : ∀ i, i < rs.length → pB rs i ≠ x) : MF (D.put (.int .i64 x) (.lit (.int .i64 (rs.length : Int)))) (rs ++ [(x, V)]) := by
  have hl : (rs ++ [(x, V)]).length = rs.length + 1 := by simp
  refine ⟨fun y => ?_, fun j hj z => ?_⟩
  · by_cases e : y = x
    · subst e
      rw [Maps.has_put_same (k := .int .i64 y) hD trivial]
      exact ⟨fun _ => ⟨rs.length, by rw [hl]; omega, pB_last _ _⟩, fun _ => rfl⟩
    · rw [Maps.has_put_other (by intro h; injection h; contradiction), h.1 y, hl]
      constructor
      · rintro ⟨j, hj, e'⟩; exact ⟨j, by omega, by rw [pB_app _ _ _ hj]; exact e'⟩
      · rintro ⟨j, hj, e'⟩
        by_cases ej : j = rs.length
        · subst ej; rw [pB_last] at e'; exact absurd e'.symm e
        · rw [pB_app _ _ _ (by omega)] at e'; exact ⟨j, by omega, e'⟩
  · rw [hl] at hj
    by_cases ej : j = rs.length
    · subst ej; rw [pB_last]; exact Maps.atKey_put_same (k := .int .i64 x) hD trivial _ _
    · rw [pB_app _ _ _ (by omega), Maps.atKey_put_other (by intro h'; injection h' with _ h'; exact hno j (by omega) h')]
      exact h.2 j (by omega) z

end Go.Proofs.Ytmgolinleiahpaa

namespace Go.Proofs.Ytmgolinleiahpaa
open Go.RowKit

set_option maxHeartbeats 400000 in
theorem keptBytes_any (w : World) (v : Value) (cs : List Int) (i : Nat) (h : Rd .i64 w v cs) (_hi : i ≤ 1048576) :
    Calls Try.prog 56 #[v, .int .i64 i] w fun e w' => e = .returned (.int .i64 (chc cs i)) ∧ w' = w := by
  obtain ⟨ao, cap, rfl, h1, h2, h3⟩ := h
  unfold maxLen at h2
  by_cases hlt : i < cs.length
  · rcases h3 with rfl | ⟨b, o, rfl, hb, hc⟩
    · simp at hlt
    · have c1 := hc i hlt
      have hge : ¬ (cs.length : Int) ≤ (i : Int) := by omega
      have hltI : (i : Int) < (cs.length : Int) := by omega
      have HE : Hid (chc cs i = if 0 ≤ cs.getD i 0 ∧ cs.getD i 0 < 64 then (cs.getD i 0).toNat else 64) := by show _ = _; unfold chc; rw [if_pos hlt]
      clear hc
      generalize hx : cs.getD i 0 = x at *
      clear hx
      by_cases hin : 0 ≤ x ∧ x < 64
      · have HV : Hid (((chc cs i : Nat) : Int) = x) := by have := HE.out; rw [if_pos hin] at this; show _ = _; omega
        obtain ⟨i1, i2⟩ := hin
        have d1 : decide (0 ≤ x) = true := by simpa using i1
        have d2 : decide (x < 64) = true := by simpa using i2
        go_enter Try.func56, Try.ntmps56
        go_wp2
        go_ret
        exact ⟨by rw [HV.out]; try rfl, rfl⟩
      · have HV : Hid (((chc cs i : Nat) : Int) = 64) := by have := HE.out; rw [if_neg hin] at this; show _ = _; omega
        by_cases i1 : 0 ≤ x
        · have i2 : ¬ x < 64 := fun h => hin ⟨i1, h⟩
          have d1 : decide (0 ≤ x) = true := by simpa using i1
          have d2 : decide (x < 64) = false := by simpa using i2
          clear hin
          go_enter Try.func56, Try.ntmps56
          go_wp2
          go_ret
          exact ⟨by rw [HV.out]; try rfl, rfl⟩
        · have d1 : decide (0 ≤ x) = false := by simpa using i1
          clear hin
          go_enter Try.func56, Try.ntmps56
          go_wp2
          go_ret
          exact ⟨by rw [HV.out]; try rfl, rfl⟩
  · have HV : Hid (((chc cs i : Nat) : Int) = 0) := by show _ = _; unfold chc; rw [if_neg hlt]; rfl
    have hge : (cs.length : Int) ≤ (i : Int) := by omega
    clear h3
    go_enter Try.func56, Try.ntmps56
    go_wp2
    go_ret
    exact ⟨by rw [HV.out]; try rfl, rfl⟩

theorem step_copy_grown {P : Program} {ops : Array Oper} {o : Oper} {a : Act} {w : World} {K : Act → World → Prop} {Q : Exit → Act → World → Prop} {E : Prop} (hgd : o.guard = none) (d s : Operand) (dT sT : TypeId)
    (ho : o.op = .call { callee := .builtin .copy, args := #[d, s], argTypes := #[dT, sT] }) (elem : TypeId) (hu : P.underlying dT = some (.slice elem)) (hsz : (P.info? elem).map (·.size) = some 1)
    (dp sp : Option Addr) (dLen dCap sLen sCap : Nat) (hd : a.eval d = .slice dp dLen dCap) (hs : a.eval s = .slice sp sLen sCap)
    (g off : Nat) (cur : List Value) (t : TypeId) (hg : w.heap[g]? = some (.cells cur.toArray t (0, 0))) (cs : List Value) (hn : cs.length = Nat.min sLen dLen)
    (hpos : 0 < cs.length → dp = some ⟨g, off, none⟩ ∧ ∃ ad, sp = some ad ∧ ∀ j v, cs[j]? = some v → w.cell? (ad.add j) = some v)
    (hfit : off + cs.length ≤ cur.length) (h1 : ∀ v ∈ cs, v.oneCell' = true)
    (h : ∀ w', Hid (w'.heap[g]? = some (.cells (splice cur off cs).toArray t (0, 0))) → Hid (w.grownBy w' (some g)) → K (a.put o.dst (goInt cs.length)) w') :
    if Region.wanted o (yielded ops a.tmps) = true then Oper.wp P o a w K Q else E := by
  have hw : Region.wanted o (yielded ops a.tmps) = true := by simp [Region.wanted, hgd]
  rw [if_pos hw]
  by_cases h0 : cs.length = 0
  · obtain rfl : cs = [] := List.eq_nil_of_length_eq_zero h0
    have hrun := run_copy_none (P := P) w dT sT o.type elem dp sp dLen dCap sLen sCap hu hsz (by simpa using hn.symm)
    unfold Oper.wp
    simp [execOp, ho, resolve, invoke, builtin, hd, hs, hrun, Result.andThen]
    exact h w (show _ = _ by simpa [splice] using hg) (World.grownBy.refl _ _)
  · obtain ⟨rfl, ad, rfl, hsrc⟩ := hpos (by omega)
    have hrun := run_copy_row (P := P) w dT sT o.type elem g off dLen dCap ad sLen sCap cur.toArray t cs hu hsz hg hn hsrc (by simpa using hfit) h1
    unfold Oper.wp
    simp [execOp, ho, resolve, invoke, builtin, hd, hs, hrun, Result.andThen]
    exact h _ (show _ = _ by simpa [splice] using setRow_heap w g _ _ t _ hg) (show World.grownBy _ _ _ from ⟨rfl, rfl, rfl, by simp [World.setRow], fun k _ hne => setRow_other w g k _ (fun e => hne (by rw [e]))⟩)

theorem there_third (w : World) (o1 o2 : Obj) (cs : Array Value) (t : TypeId) (n : Nat) (h : cs.size = n) : (((w.alloc o1).alloc o2).alloc (.cells cs t)).there (w.heap.size + 1 + 1) 0 n := by
  have := there_new ((w.alloc o1).alloc o2) cs t n h
  rwa [World.size_alloc, World.size_alloc] at this

theorem sizeA (n : Nat) (h : n = 64) : (Try.prog.info? 77).map (·.size) = some n := by subst h; kernel_rfl

theorem sizeB : (Try.prog.info? 5).map (·.size) = some 1 := by kernel_rfl

set_option maxHeartbeats 400000 in
set_option maxRecDepth 100000 in
theorem tornBlock_any (w : World) (bs ws : List Int) (c : Nat) (hb : bs.length = 64) (hw : ws.length = 64) (hc : c ≤ 64) :
    Calls Try.prog 55 #[.agg (bs.map (Value.int .u8)).toArray, .agg (ws.map (Value.int .u8)).toArray, .int .i64 c] w fun e w' => e = .returned (.agg ((splice bs 0 (ws.take c)).map (Value.int .u8)).toArray) ∧ Below w.heap.size w w' := by
  rw [splice_map]
  obtain ⟨X, hX⟩ : ∃ X, X = bs.map (Value.int .u8) := ⟨_, rfl⟩
  obtain ⟨Y, hY⟩ : ∃ Y, Y = ws.map (Value.int .u8) := ⟨_, rfl⟩
  obtain ⟨Z, hZ⟩ : ∃ Z, Z = (ws.take c).map (Value.int .u8) := ⟨_, rfl⟩
  rw [← hX, ← hY, ← hZ]
  obtain ⟨V, hV⟩ : ∃ V, V = splice X 0 Z := ⟨_, rfl⟩
  rw [← hV]
  have HV : Hid (V = splice X 0 Z) := hV
  have HX : Hid (X.length = 64) := by subst hX; show _ = _; simpa using hb
  have HY : Hid (Y.length = 64) := by subst hY; show _ = _; simpa using hw
  have HZ : Hid (Z.length = c) := by subst hZ; show _ = _; simp; omega
  have HZY : Hid (∀ (j : Nat) (v : Value), Z[j]? = some v → Y[j]? = some v) := by
    subst hZ; subst hY
    intro j v h
    simp [List.getElem?_take] at h ⊢
    obtain ⟨-, a, h2⟩ := h
    exact ⟨a, h2⟩
  have HZ1 : Hid (∀ v ∈ Z, v.oneCell' = true) := by subst hZ; exact ints_oneCell _ _
  have HX1 : Hid (∀ v ∈ X, v.oneCell' = true) := by subst hX; exact ints_oneCell _ _
  clear hX hY hZ hb hw hV
  go_enter Try.func55, Try.ntmps55
  go_wp2_with fail
  generalize hW : World.alloc _ _ = W0
  have GX : Hid (W0.heap[w.heap.size]? = some (.cells X.toArray 77 (0, 0))) := by
    subst hW; show _ = _
    rw [Below.heap_alloc _ _ _ (by simp; omega), Below.heap_alloc _ _ _ (by simp), heap_alloc_new]
  have GY : Hid (W0.heap[w.heap.size + 1]? = some (.cells Y.toArray 77 (0, 0))) := by
    subst hW; show _ = _
    rw [Below.heap_alloc _ _ _ (by simp)]
    have := heap_alloc_new (w.alloc (.cells X.toArray 77)) (.cells Y.toArray 77)
    simpa using this
  have TR : Hid (W0.there (w.heap.size + 1 + 1) 0 64) := by
    subst hW
    exact there_third _ _ _ _ _ _ rfl
  have BW : Hid (Below w.heap.size w W0) := by
    subst hW
    exact (((Below.refl _ _).alloc (Nat.le_refl _) _).alloc (by simp) _).alloc (by simp; omega) _
  have CY : Hid (∀ (j : Nat) (v : Value), Z[j]? = some v → W0.cell? ((⟨w.heap.size + 1, 0, none⟩ : Addr).add j) = some v) := by
    intro j v h
    rw [Addr.add_lit, Nat.zero_add, cell_of_row W0 _ j _ _ _ GY.out]
    simpa using HZY.out j v h
  have hsz : W0.heap.size = w.heap.size + 3 := by subst hW; simp
  clear hW
  have hcI : (c : Int) ≤ 64 := by omega
  go_region_law (refine step_copy_grown rfl (.tmp 8) (.tmp 10) 29 29 rfl 5 Try.underlying29 sizeB _ _ _ _ _ _ rfl rfl w.heap.size 0 X 77 GX.out Z (by rw [HZ.out]; exact (Nat.min_self c).symm) (fun _ => ⟨rfl, ⟨w.heap.size + 1, 0, none⟩, rfl, CY.out⟩) (by rw [HZ.out, HX.out]; omega) HZ1.out ?_; intro w4 hg4 hb4)
  have hlen : V.length = 64 := by rw [HV.out, length_splice _ _ _ (by rw [HZ.out, HX.out]; omega), HX.out]
  have HLEN : Hid (V.length = 64) := hlen
  have RG4 : Hid (w4.rangeAt w.heap.size 0 V) := by
    intro j v h
    rw [Nat.zero_add, cell_of_row w4 _ j _ _ _ hg4.out]
    rw [← HV.out]; simpa using h
  have TR4 : Hid (w4.there (w.heap.size + 1 + 1) 0 64) := by
    intro j hj
    obtain ⟨k1, k2⟩ := TR.out j hj
    refine ⟨?_, ?_⟩
    · rw [hb4.out.cell_far ⟨w.heap.size + 1 + 1, 0 + j, none⟩ (by show w.heap.size + 1 + 1 < W0.heap.size; omega) (by simp; omega)]; exact k1
    · rw [hb4.out.frozen_far ⟨w.heap.size + 1 + 1, 0 + j, none⟩ (by show w.heap.size + 1 + 1 < W0.heap.size; omega) (by simp; omega)]; exact k2
  have B4 : Hid (Below w.heap.size w w4) := BW.out.grown (show W0.grownBy w4 (some w.heap.size) from ⟨hb4.out.os, hb4.out.tape, hb4.out.output, hb4.out.size, hb4.out.block⟩) (by omega) (by intro q hq; simp at hq; omega)
  have H1 : Hid (∀ v ∈ V, v.oneCell' = true) := by
    intro v hv
    rw [HV.out] at hv
    unfold splice at hv
    simp only [List.mem_append] at hv
    rcases hv with hv | hv | hv
    · exact HX1.out v (List.mem_of_mem_take hv)
    · exact HZ1.out v hv
    · exact HX1.out v (List.mem_of_mem_drop hv)
  clear hg4 hb4 hlen
  go_wp2_with (first | (refine wpList_load_mid rfl 77 _ rfl w.heap.size 0 rfl V _ RG4.out Try.underlying77 rfl (sizeA _ HLEN.out) ?_) | (refine wpList_store_mid rfl 77 _ _ rfl (w.heap.size + 1 + 1) 0 V.toArray rfl rfl ?s1 ?s2 ?s3 ?_))
  case s1 =>
    have e : V.toArray.size = 64 := by rw [List.size_toArray]; exact HLEN.out
    rw [e]; exact TR4.out
  case s2 => rw [List.size_toArray]; exact sizeA _ HLEN.out
  case s3 => exact all_oneCell_toArray H1.out
  refine bodyPost_ret (v := .agg V.toArray) ?_ rfl ⟨rfl, ?_⟩
  · have LV : (loadVar 77 ⟨w.heap.size + 1 + 1, 0, none⟩).run Try.prog (w4.setCells (w.heap.size + 1 + 1) 0 V) = .ok (.agg V.toArray) (w4.setCells (w.heap.size + 1 + 1) 0 V) :=
      run_loadVar_mid (P := Try.prog) _ (w.heap.size + 1 + 1) 0 77 _ _ (World.rangeAt_setCells_same _ _ _ _ (by rw [HLEN.out]; exact TR4.out)) Try.underlying77 rfl (sizeA _ HLEN.out)
    simp [results, Try.results55, Act.put, asAddr]
    exact LV
  · exact below_setCells (by omega) _ _ _ B4.out

set_option maxHeartbeats 400000 in
set_option maxRecDepth 100000 in
theorem setBlock_any (w : World) (base g dl cap b : Nat) (D C : List Int) (ho : Own .u8 5 w base (.slice (some ⟨g, 0, none⟩) dl cap) D) (hD : D.length = dl) (hC : C.length = 64) (hb : b * 64 + 64 ≤ dl) (hd1 : dl ≤ 1048576) :
    Calls Try.prog 54 #[.slice (some ⟨g, 0, none⟩) dl cap, .int .i64 b, .agg (C.map (Value.int .u8)).toArray] w fun e w' => e = .returned (.tuple #[]) ∧ Own .u8 5 w' base (.slice (some ⟨g, 0, none⟩) dl cap) (splice D (b * 64) C) ∧ w.grownBy w' (some g) := by
  obtain ⟨X, hX⟩ : ∃ X, X = C.map (Value.int .u8) := ⟨_, rfl⟩
  rw [← hX]
  have HX : Hid (X.length = 64) := by subst hX; show _ = _; simpa using hC
  have HX1 : Hid (∀ v ∈ X, v.oneCell' = true) := by subst hX; exact ints_oneCell _ _
  have HO : Hid (Own .u8 5 w base (.slice (some ⟨g, 0, none⟩) dl cap) D) := ho
  obtain ⟨cur, hgb, hcur, hcap, hcm, htake⟩ : ∃ cur : Array Value, w.heap[g]? = some (.cells cur 5 (0, 0)) ∧ cur.size = cap ∧ dl ≤ cap ∧ cap ≤ maxLen ∧ cur.toList.take dl = D.map (Value.int .u8) := by
    rcases ho.2 with ⟨h, -⟩ | ⟨g', cap', cur, e, -, h2, h3, h4, h5, h6⟩
    · simp at h
    · simp only [Value.slice.injEq, Option.some.injEq, Addr.mk.injEq] at e
      obtain ⟨⟨rfl, -⟩, -, rfl⟩ := e
      rw [hD] at h3 h6
      rw [Nat.mul_one] at h5 h6
      exact ⟨cur, h2, h5, h3, h4, h6⟩
  have hgz : g < w.heap.size := (Array.getElem?_eq_some_iff.1 hgb).1
  have HGB : Hid (w.heap[g]? = some (.cells cur 5 (0, 0))) := hgb
  have HCUR : Hid (cur.size = cap) := hcur
  have HBASE : Hid (base ≤ g) := (World.ownsRow.lt ho g rfl).1
  have HFIN : Hid ((splice cur.toList (b * 64) X).take dl = (splice D (b * 64) C).map (Value.int .u8) ∧ (splice D (b * 64) C).length = dl ∧ (splice cur.toList (b * 64) X).length = cap) := by
    have hcl : cur.toList.length = cap := by simpa using hcur
    have hxl : X.length = 64 := HX.out
    refine ⟨?_, by rw [length_splice _ _ _ (by omega), hD], by rw [length_splice _ _ _ (by omega), hcl]⟩
    rw [splice_map, ← htake, ← hX]
    apply List.ext_getElem?
    intro j
    rw [splice_get _ _ _ (by rw [List.length_take]; omega), List.getElem?_take]
    by_cases hj : j < dl
    · rw [if_pos hj, splice_get _ _ _ (by omega), List.getElem?_take_of_lt hj]
    · rw [if_neg hj, if_neg (by omega), if_neg (by omega), List.getElem?_take, if_neg hj]
  unfold maxLen at hcm
  clear hX hC ho hgb htake hcur
  go_enter Try.func54, Try.ntmps54
  go_wp2_with fail
  have GA : Hid ((w.alloc (.cells X.toArray 77)).heap[g]? = some (.cells cur.toList.toArray 5 (0, 0))) := by
    show _ = _
    rw [Below.heap_alloc _ _ _ hgz, Array.toArray_toList]; exact HGB.out
  have CX : Hid (∀ (j : Nat) (v : Value), X[j]? = some v → (w.alloc (.cells X.toArray 77)).cell? ((⟨w.heap.size, 0, none⟩ : Addr).add j) = some v) := by
    intro j v h
    rw [Addr.add_lit, Nat.zero_add, cell_of_row _ _ j _ _ _ (heap_alloc_new w _)]
    simpa using h
  have hbI : ((b * 64 : Nat) : Int) ≤ (dl : Int) := by omega
  have hbI2 : (b : Int) * 64 ≤ (dl : Int) := by omega
  have hwr : IntKind.i64.wrap ((b : Int) * 64) = ((b * 64 : Nat) : Int) := by rw [IntKind.wrap_i64]; omega
  have hnc : ¬ cap = b * 64 := by omega
  have hb0 : (0 : Int) ≤ (b : Int) * 64 := by omega
  have htn : ((b : Int) * 64).toNat = b * 64 := by omega
  have hgr : w.grownBy (w.alloc (.cells X.toArray 77)) (some g) := World.grownBy_alloc _ _ _
  have HGR : Hid (w.grownBy (w.alloc (.cells X.toArray 77)) (some g)) := hgr
  clear hgr
  generalize w.alloc (.cells X.toArray 77) = W0 at *
  go_region_law (refine step_copy_grown rfl (.tmp 9) (.tmp 10) 29 29 rfl 5 Try.underlying29 sizeB _ _ _ _ _ _ rfl rfl g (b * 64) cur.toList 5 GA.out X (by rw [HX.out]; exact (Nat.min_eq_left (show 64 ≤ dl - b * 64 by omega)).symm) (fun _ => ⟨rfl, ⟨w.heap.size, 0, none⟩, rfl, CX.out⟩) (by rw [HX.out, Array.length_toList, HCUR.out]; omega) HX1.out ?_; intro w4 hg4 hb4)
  go_wp2
  go_end0
  refine ⟨rfl, ?_, ?_⟩
  · refine ⟨by rw [HFIN.out.2.1]; simpa using HFIN.out.2.1, .inr ⟨g, cap, (splice cur.toList (b * 64) X).toArray, ?_, HBASE.out, hg4.out, by rw [HFIN.out.2.1]; exact hcap, hcm, ?_, ?_⟩⟩
    · rw [HFIN.out.2.1]
    · simpa using HFIN.out.2.2
    · rw [HFIN.out.2.1, Nat.mul_one]; exact HFIN.out.1
  · exact HGR.out.trans (show W0.grownBy w4 (some g) from ⟨hb4.out.os, hb4.out.tape, hb4.out.output, hb4.out.size, hb4.out.block⟩)

end Go.Proofs.Ytmgolinleiahpaa

namespace Go.Proofs.Ytmgolinleiahpaa
open Go.RowKit

/-- A table of the call's own: its struct lies in block tb, its map in block mb. -/
structure Tab (w : World) (lo tb mb : Nat) (v : Value) (rs : List (Int × List Int)) : Prop where
  box : BoxF w tb v (.map (some mb))
  rows : w.ownsRow lo 113 65 v rs.length (rowT rs)
  map : ∃ D : DataW Unit, w.ownsMap Try.prog 2 (plainElem Try.prog 3) mb rs.length D ∧ MF D rs
  full : ∀ i, i < rs.length → (pD rs i).length = 64
  apart : ∀ i j, i < rs.length → j < rs.length → pB rs i = pB rs j → i = j
  lot : lo ≤ tb
  lom : lo ≤ mb
  ne : tb ≠ mb
  vt : v.ownBlock ≠ some tb
  vm : v.ownBlock ≠ some mb

theorem Tab.below {w w' : World} {lo tb mb : Nat} {v : Value} {rs : List (Int × List Int)} (h : Tab w lo tb mb v rs) (hb : Below w.heap.size w w') : Tab w' lo tb mb v rs := by
  have G : w.grownBy w' none := ⟨hb.os, hb.tape, hb.output, hb.size, fun q hq _ => hb.block q hq⟩
  obtain ⟨D, hD, hM⟩ := h.map
  refine ⟨h.box.below hb, World.ownsRow.kept h.rows G ?_, ⟨D, hD.kept G (by simp), hM⟩, h.full, h.apart, h.lot, h.lom, h.ne, h.vt, h.vm⟩
  cases v.ownBlock with
  | none => exact .inl rfl
  | some q => exact .inr (by simp)

theorem lawK : Maps.Keyed Try.prog 2 := Maps.int_keyed Try.underlying2
theorem zeroInt (w : World) : (zeroValue 3).run Try.prog w = .ok (.int .i64 0) w := by kernel_rfl
set_option maxHeartbeats 400000 in
theorem newTable_any (w : World) : Calls Try.prog 78 #[] w fun e w' => e = .returned (.pointer (some ⟨w.heap.size + 1, 0, none⟩)) ∧ Tab w' w.heap.size (w.heap.size + 1) w.heap.size (.slice none 0 0) [] ∧ Below w.heap.size w w' := by
  have hmm := @run_makeMap Try.prog
  go_enter Try.func78, Try.ntmps78
  go_wp2
  go_ret
  have B1 : Below w.heap.size w (w.alloc (.map #[] 0)) := (Below.refl _ _).alloc (Nat.le_refl _) _
  have hbx := BoxF.new (w.alloc (.map #[] 0)) (.slice none 0 0) (.map (some w.heap.size)) 111
  rw [World.size_alloc] at hbx
  refine ⟨rfl, ⟨hbx, World.ownsRow_nil _ _ _ _, ⟨.map [], (World.ownsMap_made w Try.prog _ _).alloc _, ⟨fun x => ⟨fun h => by simp [Maps.has] at h, fun ⟨i, hi, _⟩ => by simp at hi⟩, fun i hi => by simp at hi⟩⟩, fun i hi => by simp at hi, fun i j hi => by simp at hi, by omega, Nat.le_refl _, by omega, by simp [Value.ownBlock], by simp [Value.ownBlock]⟩, B1.alloc B1.size _⟩

theorem range_new (w : World) (cs : Array Value) (t : TypeId) : (w.alloc (.cells cs t)).rangeAt w.heap.size 0 cs.toList := by
  intro j v hv
  rw [Nat.zero_add, cell_of_row _ _ j cs t (0, 0) (heap_alloc_new w _)]
  simpa using hv

theorem range_second (w : World) (o : Obj) (cs : Array Value) (t : TypeId) : ((w.alloc o).alloc (.cells cs t)).rangeAt (w.heap.size + 1) 0 cs.toList := by
  have := range_new (w.alloc o) cs t
  rwa [World.size_alloc] at this

theorem Tab.form {w : World} {lo tb mb : Nat} {v : Value} {rs : List (Int × List Int)} (h : Tab w lo tb mb v rs) (h0 : 0 < rs.length) : ∃ g cap, v = .slice (some ⟨g, 0, none⟩) rs.length cap ∧ lo ≤ g ∧ g < w.heap.size ∧ rs.length ≤ cap ∧ cap ≤ maxLen := by
  rcases h.rows.2 with ⟨-, h1⟩ | ⟨g, cap, cur, rfl, hb, hg, h2, h3, -⟩
  · omega
  · exact ⟨g, cap, rfl, hb, (Array.getElem?_eq_some_iff.1 hg).1, h2, h3⟩

theorem Tab.range {w : World} {lo tb mb g cap i : Nat} {rs : List (Int × List Int)} (h : Tab w lo tb mb (.slice (some ⟨g, 0, none⟩) rs.length cap) rs) (hi : i < rs.length) : w.rangeAt g (i * 65 + 1) ((pD rs i).map (Value.int .u8)) := by
  intro j u hu
  have hj : j < 64 := by have := (List.getElem?_eq_some_iff.1 hu).1; simpa [h.full i hi] using this
  rw [World.ownsRow.cellAt h.rows (i * 65 + 1 + j) (by omega)]
  exact rowT_val rs i hi h.full j u hu

set_option maxHeartbeats 1000000 in
set_option maxRecDepth 100000 in
theorem get_yes (w : World) (lo tb mb : Nat) (v : Value) (rs : List (Int × List Int)) (x : Int) (i : Nat) (ht : Tab w lo tb mb v rs) (hi : i < rs.length) (hx : pB rs i = x) (hwx : (Lit.int .i64 x).wf = true) :
    Calls Try.prog 51 #[.pointer (some ⟨tb, 0, none⟩), .int .i64 x] w fun e w' => e = .returned (.tuple #[.agg ((pD rs i).map (Value.int .u8)).toArray, .bool true]) ∧ Below w.heap.size w w' := by
  obtain ⟨g, cap, rfl, hg1, hg2, hc1, hc2⟩ := ht.form (by omega)
  obtain ⟨D, hD, hM⟩ := ht.map
  obtain ⟨⟨zt, c0, c1⟩, -⟩ := ht.box
  have HT : Hid (Tab w lo tb mb (.slice (some ⟨g, 0, none⟩) rs.length cap) rs) := ht
  have HD : Hid (w.ownsMap Try.prog 2 (plainElem Try.prog 3) mb rs.length D) := hD
  have hhas : Maps.has D (.int .i64 x) = true := (hM.1 x).2 ⟨i, hi, hx⟩
  have HAT : Hid (∀ z, D.atKey (.int .i64 x) z = .lit (.int .i64 i)) := by intro z; rw [← hx]; exact hM.2 i hi z
  have hkey := Maps.keyOf_int_mk (P := Try.prog) Try.underlying2 hwx
  obtain ⟨V, hV⟩ : ∃ V, V = (pD rs i).map (Value.int .u8) := ⟨_, rfl⟩
  have RG : Hid (w.rangeAt g (i * 65 + 1) V) := by rw [hV]; exact ht.range hi
  have HVL : Hid (V.length = 64) := by rw [hV]; show _ = _; rw [List.length_map]; exact ht.full i hi
  have HV1 : Hid (∀ v ∈ V, v.oneCell' = true) := by rw [hV]; exact ints_oneCell _ _
  rw [← hV]
  have hiI : (i : Int) < (rs.length : Int) := by omega
  unfold maxLen at hc2
  generalize hn : rs.length = n at *
  clear ht hD hM hx hV hn
  go_enter Try.func51, Try.ntmps51
  go_wp2_with (at_lookup; refine wpList_lookup_own_ok_int _ rfl _ _ 109 rfl 2 3 .i64 lawK Try.underlying109 Try.underlying3 (zeroInt _) mb n D rfl (HD.out.alloc _) _ _ rfl hkey ?_)
  intro c hat hwc
  obtain rfl : c = (i : Int) := by have := HAT.out (.lit (.int .i64 0)); rw [hat] at this; simpa using this
  go_wp2_with (first | (refine wpList_load_mid rfl 77 _ rfl g (i * 65 + 1) rfl V _ (World.rangeAt_alloc RG.out _) Try.underlying77 rfl (sizeA _ HVL.out) ?_) | (refine wpList_store_mid rfl 77 _ _ rfl w.heap.size 0 V.toArray rfl rfl ?s1 ?s2 ?s3 ?_))
  case s1 =>
    have e : V.toArray.size = 64 := by rw [List.size_toArray]; exact HVL.out
    rw [e]
    exact there_new _ _ _ _ rfl
  case s2 => rw [List.size_toArray]; exact sizeA _ HVL.out
  case s3 => exact all_oneCell_toArray HV1.out
  refine bodyPost_ret (v := .tuple #[.agg V.toArray, .bool true]) ?_ rfl ⟨rfl, ?_⟩
  · have LV : ∀ cs : Array Value, cs.size = 64 → (loadVar 77 ⟨w.heap.size, 0, none⟩).run Try.prog ((w.alloc (.cells cs 77)).setCells w.heap.size 0 V) = .ok (.agg V.toArray) ((w.alloc (.cells cs 77)).setCells w.heap.size 0 V) := fun cs hcs =>
      run_loadVar_mid (P := Try.prog) _ w.heap.size 0 77 _ _ (World.rangeAt_setCells_same _ _ _ _ (there_new _ _ _ _ (by rw [HVL.out, hcs]))) Try.underlying77 rfl (sizeA _ HVL.out)
    simp [results, Try.results51, asAddr, LV]
  · exact below_setCells (Nat.le_refl _) _ _ _ ((Below.refl _ _).alloc (Nat.le_refl _) _)

set_option maxHeartbeats 1000000 in
set_option maxRecDepth 100000 in
theorem get_no (w : World) (lo tb mb : Nat) (v : Value) (rs : List (Int × List Int)) (x : Int) (ht : Tab w lo tb mb v rs) (hno : ∀ i, i < rs.length → pB rs i ≠ x) (hwx : (Lit.int .i64 x).wf = true) :
    Calls Try.prog 51 #[.pointer (some ⟨tb, 0, none⟩), .int .i64 x] w fun e w' => e = .returned (.tuple #[.agg (List.replicate 64 (Value.int .u8 0)).toArray, .bool false]) ∧ Below w.heap.size w w' := by
  obtain ⟨D, hD, hM⟩ := ht.map
  obtain ⟨⟨zt, c0, c1⟩, -⟩ := ht.box
  have HD : Hid (w.ownsMap Try.prog 2 (plainElem Try.prog 3) mb rs.length D) := hD
  have hhas : Maps.has D (.int .i64 x) = false := by
    cases h : Maps.has D (.int .i64 x) with
    | false => rfl
    | true => obtain ⟨i, hi, e⟩ := (hM.1 x).1 h; exact absurd e (hno i hi)
  have hkey := Maps.keyOf_int_mk (P := Try.prog) Try.underlying2 hwx
  obtain ⟨V, hV⟩ : ∃ V, V = List.replicate 64 (Value.int .u8 0) := ⟨_, rfl⟩
  have HVL : Hid (V.length = 64) := by rw [hV]; show _ = _; simp
  have HV1 : Hid (∀ v ∈ V, v.oneCell' = true) := by rw [hV]; intro u hu; rw [List.mem_replicate] at hu; rw [hu.2]; rfl
  have HVE : Hid (V = List.replicate 64 (Value.int .u8 0)) := hV
  rw [← hV]
  clear ht hD hM hno hV
  go_enter Try.func51, Try.ntmps51
  go_wp2_with (at_lookup; refine wpList_lookup_own_ok_int _ rfl _ _ 109 rfl 2 3 .i64 lawK Try.underlying109 Try.underlying3 (zeroInt _) mb rs.length D rfl (HD.out.alloc _) _ _ rfl hkey ?_)
  intro c hat hwc
  go_wp2_with (first | (refine wpList_load_mid rfl 77 _ rfl (w.heap.size + 1) 0 rfl V _ ?r1 Try.underlying77 rfl (sizeA _ HVL.out) ?_) | (refine wpList_store_mid rfl 77 _ _ rfl w.heap.size 0 V.toArray rfl rfl ?s1 ?s2 ?s3 ?_))
  case r1 => rw [HVE.out]; exact range_second _ _ _ _
  case s1 =>
    have e : V.toArray.size = 64 := by rw [List.size_toArray]; exact HVL.out
    rw [e]
    exact World.there_alloc (there_new _ _ _ _ rfl) _
  case s2 => rw [List.size_toArray]; exact sizeA _ HVL.out
  case s3 => exact all_oneCell_toArray HV1.out
  refine bodyPost_ret (v := .tuple #[.agg V.toArray, .bool false]) ?_ rfl ⟨rfl, ?_⟩
  · have LV : ∀ (cs : Array Value) (o : Obj), cs.size = 64 → (loadVar 77 ⟨w.heap.size, 0, none⟩).run Try.prog (((w.alloc (.cells cs 77)).alloc o).setCells w.heap.size 0 V) = .ok (.agg V.toArray) (((w.alloc (.cells cs 77)).alloc o).setCells w.heap.size 0 V) := fun cs o hcs =>
      run_loadVar_mid (P := Try.prog) _ w.heap.size 0 77 _ _ (World.rangeAt_setCells_same _ _ _ _ (World.there_alloc (there_new _ _ _ _ (by rw [HVL.out, hcs])) _)) Try.underlying77 rfl (sizeA _ HVL.out)
    simp [results, Try.results51, asAddr, LV]
  · exact below_setCells (Nat.le_refl _) _ _ _ (((Below.refl _ _).alloc (Nat.le_refl _) _).alloc (by simp) _)

end Go.Proofs.Ytmgolinleiahpaa

namespace Go.Proofs.Ytmgolinleiahpaa
open Go.RowKit

theorem Own.spliced {w : World} {base g n cap off j : Nat} {L ys : List Int} (hj : j < ys.length) (hf : off + ys.length ≤ L.length) (hn : L.length = n) {u : Int} (hu : u = ys.getD j 0)
    (h : Own .u8 5 w base (.slice (some ⟨g, 0, none⟩) n cap) (splice L off (ys.take j))) :
    Own .u8 5 (w.setCell ⟨g, off + j, none⟩ (.int .u8 u)) base (.slice (some ⟨g, 0, none⟩) n cap) (splice L off (ys.take (j + 1))) := by
  subst hu
  unfold Own at h ⊢
  have hl1 : (splice L off (ys.take j)).length = n := by rw [length_splice _ _ _ (by rw [List.length_take]; omega), hn]
  have hl2 : (splice L off (ys.take (j + 1))).length = n := by rw [length_splice _ _ _ (by rw [List.length_take]; omega), hn]
  rw [hl1] at h
  rw [hl2]
  have := (World.ownsRow.stored h (off + j) (.int .u8 (ys.getD j 0))).1
  rw [← List.map_set, splice_snoc L off ys j hj hf] at this
  exact this

theorem Own.spot {w : World} {base g n cap j : Nat} {xs : List Int} (h : Own .u8 5 w base (.slice (some ⟨g, 0, none⟩) n cap) xs) (hn : xs.length = n) (hj : j < n) : (∃ c, w.cell? ⟨g, j, none⟩ = some c) ∧ w.frozen? ⟨g, j, none⟩ = false := by
  unfold Own at h
  rw [hn] at h
  exact ⟨⟨_, (World.ownsRow.cellAt h j (by omega)).trans (List.getElem?_eq_getElem (by simpa [hn] using hj))⟩, World.ownsRow.frozenAt h j⟩

theorem Own.pos {w : World} {base n : Nat} {v : Value} {xs : List Int} (h : Own .u8 5 w base v xs) (hn : xs.length = n) (h0 : 0 < n) : ∃ g cap, v = .slice (some ⟨g, 0, none⟩) n cap ∧ base ≤ g ∧ g < w.heap.size := by
  subst hn
  rcases h.2 with ⟨-, h1⟩ | ⟨g, cap, cur, rfl, hb, hg, -⟩
  · omega
  · exact ⟨g, cap, rfl, hb, (Array.getElem?_eq_some_iff.1 hg).1⟩

theorem Rd.cellAt {k : IntKind} {w : World} {ao : Option Addr} {n cap i : Nat} {xs : List Int} (h : Rd k w (.slice ao n cap) xs) (hl : xs.length = n) (hi : i < n) : ∃ b o, ao = some ⟨b, o, none⟩ ∧ b < w.heap.size ∧ w.cell? ⟨b, o + i, none⟩ = some (.int k (xs.getD i 0)) := by
  obtain ⟨ao', cap', e, h1, h2, h3⟩ := h
  simp only [Value.slice.injEq] at e
  obtain ⟨rfl, _, rfl⟩ := e
  rcases h3 with rfl | ⟨b, o, rfl, hb, hc⟩
  · simp at hl; omega
  · exact ⟨b, o, rfl, hb, hc i (by omega)⟩

theorem grownBy_drew' {a b : World} {row : Option Nat} (h : a.grownBy b row) : a.grownBy b.drew row := ⟨h.os, h.tape, h.output, h.size, h.block⟩

theorem BoxF.other {w w' : World} {b : Nat} {x y : Value} {row : Option Nat} (h : BoxF w b x y) (hg : w.grownBy w' row) (hne : some b ≠ row) : BoxF w' b x y :=
  ⟨h.1.other hg hne, (hg.frozen_far ⟨b, 0, none⟩ h.1.1 hne).trans h.2.1, (hg.frozen_far ⟨b, 1, none⟩ h.1.1 hne).trans h.2.2⟩

set_option maxHeartbeats 2000000 in
set_option maxRecDepth 100000 in
theorem l1Settle_any (w : World) (va vb vc : Option Addr) (dl ca n cb cc : Nat) (dur : List Int) (ps : List (Int × List Int)) (cs : List Int) (c : Nat → Nat) (hd : Rd .u8 w (.slice va dl ca) dur) (hdl : dur.length = dl) (hp : RdW w (.slice vb n cb) ps) (hl : ps.length = n)
    (hc : Rd .i64 w (.slice vc n cc) cs) (hcl : cs.length = n) (hcs : ∀ i, i < n → cs.getD i 0 = (c i : Int) ∧ c i ≤ 64) (hv : vldD dl ps = true) (hd1 : dl ≤ 1048576) :
    Calls Try.prog 65 #[.agg #[.slice va dl ca, .slice vb n cb], .slice vc n cc] w fun e w' => ∃ v1, e = .returned (.agg #[v1, .slice none 0 0]) ∧ Own .u8 5 w' w.heap.size v1 (stl dur ps c n) ∧ Below w.heap.size w w' := by
  have HD : Hid (Rd .u8 w (.slice va dl ca) dur) := hd
  have HP : Hid (RdW w (.slice vb n cb) ps) := hp
  have HC : Hid (Rd .i64 w (.slice vc n cc) cs) := hc
  have HL : Hid (ps.length = n) := hl
  have HDL : Hid (dur.length = dl) := hdl
  have HCL : Hid (cs.length = n) := hcl
  have HCS : Hid (∀ i, i < n → cs.getD i 0 = (c i : Int) ∧ c i ≤ 64) := hcs
  have HV : Hid (vldD dl ps = true) := hv
  have hdp : 0 < dl := by have := ((vldD_iff dl ps).1 hv).2.1; omega
  have hn2 : n ≤ 2000 := by have := ((vldD_iff dl ps).1 hv).2.2.2.1; omega
  have BA : Hid (∀ o1 o2, Below w.heap.size w ((w.alloc o1).alloc o2)) := fun o1 o2 => ((Below.refl _ _).alloc (Nat.le_refl _) _).alloc (by simp) _
  clear hd hp hl hdl hc hcl hcs hv
  go_enter Try.func65, Try.ntmps65
  go_wp2_with fail
  have XA0 : Hid (BoxF ((w.alloc (.cells #[.slice va dl ca, .slice vb n cb] 32)).alloc (.cells #[.slice none 0 0, .slice none 0 0] 32)) w.heap.size (.slice va dl ca) (.slice vb n cb)) := (BoxF.new w _ _ _).below ((Below.refl _ _).alloc (Nat.le_refl _) _)
  have XR0 : Hid (BoxF ((w.alloc (.cells #[.slice va dl ca, .slice vb n cb] 32)).alloc (.cells #[.slice none 0 0, .slice none 0 0] 32)) (w.heap.size + 1) (.slice none 0 0) (.slice none 0 0)) := by
    have := BoxF.new (w.alloc (.cells #[.slice va dl ca, .slice vb n cb] 32)) (.slice none 0 0) (.slice none 0 0) 32
    show BoxF _ _ _ _
    simpa using this
  have B0 := BA.out (.cells #[.slice va dl ca, .slice vb n cb] 32) (.cells #[.slice none 0 0, .slice none 0 0] 32)
  have HB0 : Hid (Below w.heap.size w ((w.alloc (.cells #[.slice va dl ca, .slice vb n cb] 32)).alloc (.cells #[.slice none 0 0, .slice none 0 0] 32))) := B0
  clear B0 BA
  generalize (w.alloc (.cells #[.slice va dl ca, .slice vb n cb] 32)).alloc (.cells #[.slice none 0 0, .slice none 0 0] 32) = w0 at *
  refine (l1Copy_any _ _ dur (HD.out.below HB0.out) (by have := HDL.out; omega)).mono ?_
  rintro e w1 ⟨v1, rfl, o1, b1⟩
  obtain ⟨g, cap, rfl, hg0, hg1⟩ := o1.pos HDL.out hdp
  have HB1 : Hid (Below w.heap.size w w1) := HB0.out.trans (b1.mono HB0.out.size)
  have XA1 : Hid (BoxF w1 w.heap.size (.slice va dl ca) (.slice vb n cb)) := XA0.out.below b1
  have XR1 : Hid (BoxF w1 (w.heap.size + 1) (.slice none 0 0) (.slice none 0 0)) := XR0.out.below b1
  have O1 : Hid (Own .u8 5 w1 w0.heap.size (.slice (some ⟨g, 0, none⟩) dl cap) dur) := o1
  have zA := XA0.out.1.1
  have zR := XR0.out.1.1
  have s0 := HB0.out.size
  have b1s := b1.size
  have hcap : dl ≤ cap ∧ cap ≤ maxLen := by
    obtain ⟨ao, c', e, h1, h2⟩ := o1.rd.len
    simp only [Value.slice.injEq] at e
    obtain ⟨_, e2, rfl⟩ := e
    omega
  obtain ⟨hcap1, hcap2⟩ := hcap
  unfold maxLen at hcap2
  clear b1 o1 XA0 XR0 HB0
  have XO2 : Hid (BoxF (w1.alloc (.cells #[.slice (some ⟨g, 0, none⟩) dl cap, .slice none 0 0] 32)) w1.heap.size (.slice (some ⟨g, 0, none⟩) dl cap) (.slice none 0 0)) := BoxF.new _ _ _ _
  have O2 : Hid (Own .u8 5 (w1.alloc (.cells #[.slice (some ⟨g, 0, none⟩) dl cap, .slice none 0 0] 32)) w0.heap.size (.slice (some ⟨g, 0, none⟩) dl cap) dur) := O1.out.below ((Below.refl _ _).alloc (Nat.le_refl _) _)
  have HW : Hid (Below w.heap.size w (w1.alloc (.cells #[.slice (some ⟨g, 0, none⟩) dl cap, .slice none 0 0] 32))) := HB1.out.alloc HB1.out.size _
  have XA2 : Hid (BoxF (w1.alloc (.cells #[.slice (some ⟨g, 0, none⟩) dl cap, .slice none 0 0] 32)) w.heap.size (.slice va dl ca) (.slice vb n cb)) := XA1.out.below ((Below.refl _ _).alloc (Nat.le_refl _) _)
  have XR2 : Hid (BoxF (w1.alloc (.cells #[.slice (some ⟨g, 0, none⟩) dl cap, .slice none 0 0] 32)) (w.heap.size + 1) (.slice none 0 0) (.slice none 0 0)) := XR1.out.below ((Below.refl _ _).alloc (Nat.le_refl _) _)
  clear XA1 XR1 HB1 O1
  go_wp2_with fail
  generalize w1.alloc (.cells #[.slice (some ⟨g, 0, none⟩) dl cap, .slice none 0 0] 32) = w2 at *
  have sW := HW.out.size
  have zA2 := XA2.out.1.1
  have zR2 := XR2.out.1.1
  have zO2 := XO2.out.1.1
  have nA : g ≠ w.heap.size := by omega
  have nR : g ≠ w.heap.size + 1 := by omega
  have nO : g ≠ w1.heap.size := by omega
  have hgz : g < w2.heap.size := by omega
  go_wp2
  go_loopw [6] (fun i wr => ∃ k : Nat, k ≤ n ∧ i = .int .i64 k ∧ Hid (Own .u8 5 wr w0.heap.size (.slice (some ⟨g, 0, none⟩) dl cap) (stl dur ps c k)) ∧ Hid (w2.grownBy wr (some g))) (fun i _ => n - (intOf i).toNat)
  case atStart => exact ⟨0, Nat.zero_le _, rfl, O2, World.grownBy.refl _ _⟩
  case round =>
    clear O2
    obtain ⟨k, hk, rfl, HO, HG⟩ := hrel
    have hlen : (stl dur ps c k).length = dl := by rw [stl_len dur ps c (by rw [HDL.out]; exact HV.out) k (by rw [HL.out]; exact hk), HDL.out]
    have HLEN : Hid ((stl dur ps c k).length = dl) := hlen
    clear hlen
    by_cases hlt : k < n
    · obtain ⟨pb, po, rfl, hpb, e1, da, dc, e2, r⟩ := HP.out.recAt HL.out hlt
      obtain ⟨b, hb, hb2, hb3, hd64⟩ := vld_at HV.out k (by rw [HL.out]; exact hlt)
      rw [hb] at e1
      rw [hd64] at e2 r
      obtain ⟨qb, qo, rfl, hqb, e3⟩ := HC.out.cellAt HCL.out hlt
      obtain ⟨hck, hc64⟩ := HCS.out k hlt
      rw [hck] at e3
      have HSTL : Hid (stl dur ps c (k + 1) = splice (stl dur ps c k) (b * 64) ((pD ps k).take (c k))) := by show stl _ _ _ _ = _; rw [stl, hb, Int.toNat_natCast]
      have HD64 : Hid ((pD ps k).length = 64) := hd64
      have RK : Hid (Rd .u8 w (.slice da 64 dc) (pD ps k)) := r
      have E1 : Hid (w.cell? ⟨pb, po + k * 2, none⟩ = some (.int .i64 b)) := e1
      have E2 : Hid (w.cell? ⟨pb, po + k * 2 + 1, none⟩ = some (.slice da 64 dc)) := e2
      have E3 : Hid (w.cell? ⟨qb, qo + k, none⟩ = some (.int .i64 (c k))) := e3
      have hltI : (k : Int) < (n : Int) := by omega
      clear hb hd64 hck r e1 e2 e3
      generalize c k = ck at *
      obtain ⟨⟨z3, x0, x1⟩, -⟩ := XA2.out.other HG.out (by simp; omega)
      go_wp2
      clear x0 x1 z3
      go_loopw [7] (fun i wr => ∃ j : Nat, j ≤ ck ∧ i = .int .i64 j ∧ Hid (Own .u8 5 wr w0.heap.size (.slice (some ⟨g, 0, none⟩) dl cap) (splice (stl dur ps c k) (b * 64) ((pD ps k).take j))) ∧ Hid (w2.grownBy wr (some g))) (fun i _ => ck - (intOf i).toNat)
      case atStart => exact ⟨0, Nat.zero_le _, rfl, (by rw [List.take_zero, splice_nil]; exact HO), HG⟩
      case round =>
        clear HO HG
        obtain ⟨j, hj, rfl, HO, HG⟩ := hrel
        have hfar : ∀ p : Addr, p.block < w.heap.size → wr.cell? p = w.cell? p := fun p hp => (HG.out.cell_far p (by omega) (by simp; omega)).trans (HW.out.cell hp)
        have f3 := (hfar ⟨qb, qo + k, none⟩ hqb).trans E3.out
        by_cases hjt : j < ck
        · obtain ⟨db, dof, rfl, hdb, e4⟩ := RK.out.cellAt HD64.out (show j < 64 by omega)
          have f1 := (hfar ⟨pb, po + k * 2, none⟩ hpb).trans E1.out
          have f2 := (hfar ⟨pb, po + k * 2 + 1, none⟩ hpb).trans E2.out
          have f4 := (hfar ⟨db, dof + j, none⟩ hdb).trans e4
          obtain ⟨⟨u, hu⟩, hfz⟩ := HO.out.spot (j := b * 64 + j) (by rw [length_splice _ _ _ (by rw [List.length_take, HLEN.out]; have := HD64.out; omega), HLEN.out]) (by omega)
          obtain ⟨⟨z3, x0, x1⟩, -⟩ := XA2.out.other HG.out (by simp; omega)
          obtain ⟨⟨z4, y0, y1⟩, -⟩ := XO2.out.other HG.out (by simp; omega)
          have hjI : (j : Int) < (ck : Int) := by omega
          have hj64 : (j : Int) < 64 := by omega
          have hbI : ((b * 64 + j : Nat) : Int) < (dl : Int) := by omega
          have HX4 : Hid ((pD ps k).getD j 0 = (pD ps k).getD j 0) := rfl
          have O3 : Hid (∀ x, x = (pD ps k).getD j 0 → Own .u8 5 (wr.setCell ⟨g, b * 64 + j, none⟩ (.int .u8 x)) w0.heap.size (.slice (some ⟨g, 0, none⟩) dl cap) (splice (stl dur ps c k) (b * 64) ((pD ps k).take (j + 1)))) := fun x hx =>
            Own.spliced (by have := HD64.out; omega) (by have := HD64.out; have := HLEN.out; omega) HLEN.out hx HO.out
          have O4 := O3.out _ rfl
          have H4 : Hid (Own .u8 5 (wr.setCell ⟨g, b * 64 + j, none⟩ (.int .u8 ((pD ps k).getD j 0))) w0.heap.size (.slice (some ⟨g, 0, none⟩) dl cap) (splice (stl dur ps c k) (b * 64) ((pD ps k).take (j + 1)))) := O4
          clear e4 hfar O3 O4
          generalize (pD ps k).getD j 0 = x at *
          go_wp2_with fail
          go_region
          all_goals
            go_wp2
            go_roundw
            case rel => exact ⟨j + 1, by omega, by go_num, H4, grownBy_drew' (grownBy_set _ _ _ _ _ HG.out)⟩
            case measure => simp [intOf]; omega
        · have hjc : j = ck := by omega
          subst hjc
          clear hfar
          have hjI : ¬ (j : Int) < (j : Int) := by omega
          go_wp2
          go_roundw
          case rel => exact ⟨k + 1, by omega, by go_num, (by show Own _ _ _ _ _ _; rw [HSTL.out]; exact HO.out), HG⟩
          case measure => simp [intOf]; omega
    · have hkn : k = n := by omega
      subst hkn
      obtain ⟨⟨z3, x0, x1⟩, -⟩ := XA2.out.other HG.out (by simp; omega)
      obtain ⟨⟨z4, y0, y1⟩, -⟩ := XO2.out.other HG.out (by simp; omega)
      obtain ⟨⟨z5, d0, d1⟩, f0, f1⟩ := XR2.out.other HG.out (by simp; omega)
      have HB : Hid (Below w.heap.size w wr) := ⟨HG.out.os.trans HW.out.os, HG.out.tape.trans HW.out.tape, HG.out.output.trans HW.out.output, Nat.le_trans HW.out.size HG.out.size, fun q hq => (HG.out.block q (by omega) (by simp; omega)).trans (HW.out.block q hq)⟩
      go_wp2
      refine bodyPost_ret (v := .agg #[.slice (some ⟨g, 0, none⟩) dl cap, .slice none 0 0]) (by simp [results, Try.results65, go_sem, d0, d1]) rfl ⟨_, rfl, ?_, ?_⟩
      · refine Own.mono (base := w0.heap.size) ?_ (by omega)
        repeat (first | exact HO.out | refine Own.setAt ?_ (.inr (by simp [Value.ownBlock]; omega)))
      · repeat (first | exact HB.out | refine Below.setCell ?_ (by simp; try omega) _)

end Go.Proofs.Ytmgolinleiahpaa

namespace Go.Proofs.Ytmgolinleiahpaa
open Go.RowKit

theorem wf_small (x : Int) (h0 : 0 ≤ x) (h : x ≤ 1048576) : (Lit.int .i64 x).wf = true := by
  have := wrap64_wf x
  rw [show wrap64 x = x by unfold wrap64; omega] at this
  exact this

theorem Rd.span {k : IntKind} {w : World} {b o n cap : Nat} {xs : List Int} (h : Rd k w (.slice (some ⟨b, o, none⟩) n cap) xs) (hl : xs.length = n) (h0 : 0 < n) : b < w.heap.size ∧ w.rangeAt b o (xs.map (Value.int k)) := by
  obtain ⟨b', o', e, hb, -⟩ := h.cellAt hl h0
  injection e with e
  injection e with e1 e2 _
  subst e1; subst e2
  refine ⟨hb, fun j v hv => ?_⟩
  have hj : j < xs.length := by have := (List.getElem?_eq_some_iff.1 hv).1; simpa using this
  obtain ⟨b', o', e, -, hc⟩ := h.cellAt hl (show j < n by omega)
  injection e with e
  injection e with e1 e2 _
  subst e1; subst e2
  rw [hc]
  simp [List.getElem?_eq_getElem hj] at hv
  simp [List.getD, hj, hv]

theorem rangeAt_blk {w w' : World} {b o : Nat} {cs : List Value} (h : w.rangeAt b o cs) (hc : w'.heap[b]? = w.heap[b]?) : w'.rangeAt b o cs := fun j v hv => (World.cell?_of_block (w := w) (a := ⟨b, o + j, none⟩) hc).trans (h j v hv)

theorem fill_step {place : Nat → Option (Nat × Nat)} {cells : Array Value} {i off : Nat} {v : Value} {rest : List (Nat × Value)} (hp : place i = some (off, v.cells.size)) (hs : off + v.cells.size ≤ cells.size) :
    Instr.fill place cells ((i, v) :: rest) = Instr.fill place ((v.cells.toList.zipIdx 0).foldl (fun cs (x : Value × Nat) => cs.setIfInBounds (off + x.2) x.1) cells) rest := by
  conv => lhs; unfold Instr.fill
  simp only [hp]
  rw [if_neg (by simp; omega)]
  congr 1
  rw [← Array.foldl_toList, Array.toList_zipIdx]

theorem fill_row (x : Int) (V : List Value) (hV : V.length = 64) (z : Array Value) (hz : z.size = 65) :
    Instr.fill (#[(0, 1), (1, 64)][·]?) z [(0, .int .i64 x), (1, .agg V.toArray)] = some (Value.int .i64 x :: V).toArray := by
  have s1 : (Value.int .i64 x).cells.size = 1 := rfl
  have s2 : (Value.agg V.toArray).cells.size = 64 := by show V.toArray.size = 64; simpa using hV
  obtain ⟨g1, g2⟩ := Great.foldl_set 0 (Value.int .i64 x).cells.toList 0 z
  rw [fill_step (by rw [s1]; rfl) (by rw [s1]; omega), fill_step (by rw [s2]; rfl) (by rw [s2, g1]; omega)]
  obtain ⟨k1, k2⟩ := Great.foldl_set 1 (Value.agg V.toArray).cells.toList 0 ((Value.int .i64 x).cells.toList.zipIdx 0 |>.foldl (fun cs (y : Value × Nat) => cs.setIfInBounds (0 + y.2) y.1) z)
  unfold Instr.fill
  congr 1
  apply Array.ext_getElem?
  intro k
  have hl : (Value.agg V.toArray).cells.toList.length = 64 := by rw [Array.length_toList]; exact s2
  have hl1 : (Value.int .i64 x).cells.toList.length = 1 := rfl
  rw [k2 k, g1, hz, hl, g2 k, hl1, hz]
  have e : (Value.agg V.toArray).cells.toList = V := by show V.toArray.toList = V; simp
  have eA : (Value.int .i64 x :: V).toArray[k]? = (Value.int .i64 x :: V)[k]? := by simp
  rw [e, eA]
  by_cases h0 : k = 0
  · subst h0; rfl
  · by_cases h1 : k < 65
    · rw [if_pos (by omega)]
      obtain ⟨j, rfl⟩ : ∃ j, k = j + 1 := ⟨k - 1, by omega⟩
      rw [List.getElem?_cons_succ, show j + 1 - (1 + 0) = j by omega]
    · rw [if_neg (by omega), if_neg (by omega), List.getElem?_eq_none (by rw [List.length_cons, hV]; omega), Array.getElem?_eq_none (by omega)]

theorem built_of {P : Program} {t : TypeId} {z : Value} {places : List (Nat × Nat)} {parts : List (Nat × Value)} {cells : Array Value}
    (h : (match P.info? t, P.underlying t with
      | some it, some (.struct fields) => (it.zero, fields.toList.mapM (fun f => (P.info? f.type).map fun i => (f.offset, i.size)))
      | _, _ => (none, none)) = (some z, some places)) (hf : Instr.fill (places.toArray[·]?) z.cells parts = some cells) : P.built t parts = some cells := by
  unfold Program.built
  cases h1 : P.info? t with
  | none => simp [h1] at h
  | some it =>
    cases h2 : P.underlying t with
    | none => simp [h1, h2] at h
    | some d =>
      cases d <;> try (simp [h1, h2] at h; done)
      case struct fields =>
        simp only [h1, h2, Prod.mk.injEq] at h
        simp only [h.1, h.2]
        exact hf

def zT : Value := .agg (Value.int .i64 0 :: List.replicate 64 (.int .u8 0)).toArray
theorem zT_size : zT.cells.size = 65 := by decide +kernel
theorem infoT2 : (Try.prog.info? 113).map (fun i => (i.zero, i.size, i.bytes)) = some (some zT, 65, 72) := by kernel_rfl
theorem built_row (x : Int) (V : List Value) (hV : V.length = 64) : Try.prog.built 113 [(0, .int .i64 x), (1, .agg V.toArray)] = some (Value.int .i64 x :: V).toArray :=
  built_of (z := zT) (places := [(0, 1), (1, 64)]) (by kernel_rfl) (fill_row x V hV _ zT_size)

theorem runBuild_row (w : World) (x : Int) (V : List Value) (hV : V.length = 64) : (Instr.build 113 #[(0, .int .i64 x), (1, .agg V.toArray)]).run Try.prog w = .ok (.agg (Value.int .i64 x :: V).toArray) w :=
  run_build w _ _ _ (built_row x V hV)

theorem runSlice_row (w : World) (x : Int) (V : List Value) (hV : V.length = 64) : (Instr.buildSlice 108 1 #[(0, .agg (Value.int .i64 x :: V).toArray)]).run Try.prog w = .ok (.slice (some ⟨w.heap.size, 0, none⟩) 1 1) (w.alloc (.cells (Value.int .i64 x :: V).toArray 113)) := by
  obtain ⟨i0, hi, hz0, hz1, hz2⟩ := info_parts infoT2
  have hs : (Value.agg (Value.int .i64 x :: V).toArray).cells.size = 65 := by show (Value.int .i64 x :: V).toArray.size = 65; simp [hV]
  refine run_buildSlice w _ _ 1 _ _ i0 zT Try.underlying108 hi hz0 (by rw [hz1]; omega) (by rw [hz1]; omega) ?_
  have := Great.fill_whole (s := 65) (by omega) [.agg (Value.int .i64 x :: V).toArray] ((Array.range (1 * 65)).map (zT.cells[· % zT.cells.size]!)) (by intro v hv; simp at hv; subst hv; exact hs) (by simp)
  rw [hz1]
  simp at this
  simp
  exact this

theorem step_store_mid {P : Program} {ops : Array Oper} {o : Oper} {a : Act} {w : World} {K : Act → World → Prop} {Q : Exit → Act → World → Prop} {E : Prop} (hgd : o.guard = none) (ty : TypeId) (x y : Operand) (ho : o.op = .store ty x y)
    (b off : Nat) (cells : Array Value) (hx : a.eval x = .pointer (some ⟨b, off, none⟩)) (hy : a.eval y = .agg cells) (ht : w.there b off cells.size) (hi : (P.info? ty).map (·.size) = some cells.size) (h1 : cells.all (·.oneCell') = true)
    (h : K (a.put o.dst undef) (w.setCells b off cells.toList)) : if Region.wanted o (yielded ops a.tmps) = true then Oper.wp P o a w K Q else E := by
  rw [if_pos (by simp [Region.wanted, hgd])]
  exact wp_store_mid ty x y ho b off cells hx hy ht hi h1 h

theorem step_mapUpdate_own {H : Type} {P : Program} {w : World} {ops : Array Oper} {o : Oper} {a : Act} {K' : Act → World → Prop} {Q : Exit → Act → World → Prop} {E : Prop}
    (hg : o.guard = none) (m x v : Operand) (t : TypeId) (hop : o.op = Op.mapUpdate t m x v)
    (k e : TypeId) (K : Maps.Keyed P k) (ht : P.underlying t = some (.map k e)) (R : Value → Option (DataW H × List MemPlace)) (b n : Nat) (D : DataW H)
    (hm : a.eval m = .map (some b)) (hown : w.ownsMap P k R b n D) (hn : n < maxLen) (key val : Value) (kl : Lit) (hx : a.eval x = key) (hv : a.eval v = val) (hkey : keyOf P k key = some kl)
    (d : DataW H) (ps : List MemPlace) (hval : R val = some (d, ps))
    (hK : ∀ w', w'.ownsMap P k R b (n + 1) (D.put kl d) → w.grownBy w' (some b) → K' (a.put o.dst undef) w') :
    if Region.wanted o (yielded ops a.tmps) = true then Oper.wp P o a w K' Q else E := by
  rw [if_pos (by simp [Region.wanted, hg])]
  obtain ⟨w', hrun, r1, r2⟩ := hown.update K ht hn hkey hval
  unfold Oper.wp
  simp [execOp, hop, hm, hx, hv, hrun, Result.andThen]
  exact hK w' r1 r2

theorem splice_cons {α : Type} (L : List α) (o : Nat) (v : α) (vs : List α) (h : o + (vs.length + 1) ≤ L.length) : splice (L.set o v) (o + 1) vs = splice L o (v :: vs) := by
  apply List.ext_getElem?
  intro j
  rw [splice_get _ _ _ (by simp; omega), splice_get _ _ _ (by simp; omega)]
  simp only [List.length_cons, List.getElem?_set]
  by_cases h1 : j < o
  · rw [if_pos (by omega), if_pos h1, if_neg (by omega)]
  · rw [if_neg h1]
    by_cases h2 : j = o
    · subst h2; rw [if_pos (by omega), if_pos rfl, if_pos (by omega), if_pos (by omega)]; simp
    · rw [if_neg (by omega)]
      by_cases h3 : j < o + 1 + vs.length
      · rw [if_pos h3, if_pos (by omega)]
        obtain ⟨i, rfl⟩ : ∃ i, j = o + 1 + i := ⟨j - (o + 1), by omega⟩
        rw [show o + 1 + i - (o + 1) = i by omega, show o + 1 + i - o = i + 1 by omega, List.getElem?_cons_succ]
      · rw [if_neg h3, if_neg (by omega), if_neg (by omega)]

theorem ownsRow_setCells {base g n cap size : Nat} {e : TypeId} : ∀ (vs : List Value) (o : Nat) (w : World) (xs : List Value), w.ownsRow base e size (.slice (some ⟨g, 0, none⟩) n cap) n xs → o + vs.length ≤ xs.length →
    (w.setCells g o vs).ownsRow base e size (.slice (some ⟨g, 0, none⟩) n cap) n (splice xs o vs) ∧ w.grownBy (w.setCells g o vs) (some g)
  | [], o, w, xs, h, _ => by rw [splice_nil]; exact ⟨h, World.grownBy.refl _ _⟩
  | v :: vs, o, w, xs, h, hl => by
    have h1 := (World.ownsRow.stored h o v).1
    obtain ⟨r1, r2⟩ := ownsRow_setCells vs (o + 1) (w.setCell ⟨g, o, none⟩ v) (xs.set o v) h1 (by simp at hl ⊢; omega)
    rw [World.setCells, ← splice_cons xs o v vs (by simpa using hl)]
    exact ⟨r1, World.grownBy.trans (grownBy_set w w g o v (World.grownBy.refl _ _)) r2⟩

/-- A row's value is written. -/
theorem Tab.set {w : World} {lo tb mb g cap i : Nat} {rs : List (Int × List Int)} (h : Tab w lo tb mb (.slice (some ⟨g, 0, none⟩) rs.length cap) rs) (hi : i < rs.length) (V : List Int) (hV : V.length = 64) :
    Tab (w.setCells g (i * 65 + 1) (V.map (Value.int .u8))) lo tb mb (.slice (some ⟨g, 0, none⟩) rs.length cap) (rs.set i (pB rs i, V)) ∧ w.grownBy (w.setCells g (i * 65 + 1) (V.map (Value.int .u8))) (some g) := by
  have hlen := rowT_len rs h.full
  have hl : (rs.set i (pB rs i, V)).length = rs.length := List.length_set ..
  obtain ⟨r1, r2⟩ := ownsRow_setCells (V.map (Value.int .u8)) (i * 65 + 1) w (rowT rs) h.rows (by rw [hlen, List.length_map, hV]; omega)
  obtain ⟨D, hD, hM⟩ := h.map
  refine ⟨⟨h.box.other r2 (fun e => h.vt e.symm), by rw [hl, rowT_set rs i hi h.full V hV]; exact r1, ⟨D, by rw [hl]; exact hD.kept r2 (fun e => h.vm e.symm), hM.set i hi V⟩, fun j hj => ?_, fun j k hj hk e => ?_, h.lot, h.lom, h.ne, h.vt, h.vm⟩, r2⟩
  · rw [hl] at hj
    rw [pD_set rs i j hi]
    split
    · exact hV
    · exact h.full j hj
  · rw [hl] at hj hk
    rw [pB_set rs i j hi, pB_set rs i k hi] at e
    exact h.apart j k hj hk e

theorem step_buildSlice_row {ops : Array Oper} {o : Oper} {a : Act} {w : World} {K : Act → World → Prop} {Q : Exit → Act → World → Prop} {E : Prop} (hgd : o.guard = none) (y : Operand) (ho : o.op = .buildSlice 108 1 #[(0, y)])
    (x : Int) (V : List Value) (hV : V.length = 64) (hy : a.eval y = .agg (Value.int .i64 x :: V).toArray) (h : K (a.put o.dst (.slice (some ⟨w.heap.size, 0, none⟩) 1 1)) (w.alloc (.cells (Value.int .i64 x :: V).toArray 113))) :
    if Region.wanted o (yielded ops a.tmps) = true then Oper.wp Try.prog o a w K Q else E := by
  rw [if_pos (by simp [Region.wanted, hgd])]
  have hrun := runSlice_row w x V hV
  unfold Oper.wp execOp
  simp only [ho, List.map_toArray, List.map_cons, List.map_nil, hy, Sem.run_bind, hrun, Result.andThen_ok]
  exact h

/-- A row more. -/
theorem Tab.snoc {W0 W1 w4 : World} {lo tb mb g cap vcap : Nat} {va : Option Addr} {rs : List (Int × List Int)} {x : Int} {Vb : List Int} {D : DataW Unit} {ob : Obj} (hT : Tab W0 lo tb mb (.slice va rs.length vcap) rs) (G1 : W0.grownBy W1 (some mb))
    (M1 : W1.ownsMap Try.prog 2 (plainElem Try.prog 3) mb (rs.length + 1) D) (hM : MF D (rs ++ [(x, Vb)])) (ho : w4.ownsRow lo 113 65 (.slice (some ⟨g, 0, none⟩) (rs.length + 1) cap) (rs.length + 1) (rowT rs ++ (.int .i64 x :: Vb.map (Value.int .u8))))
    (hg : (W1.alloc ob).grownBy w4 (Value.ownBlock (.slice va rs.length vcap))) (hat : Value.ownBlock (.slice va rs.length vcap) = some g ∨ g = W1.heap.size + 1) (hno : ∀ i, i < rs.length → pB rs i ≠ x) (hVb : Vb.length = 64) (hlo : lo ≤ W0.heap.size) :
    Tab (w4.setCell ⟨tb, 0, none⟩ (.slice (some ⟨g, 0, none⟩) (rs.length + 1) cap)) lo tb mb (.slice (some ⟨g, 0, none⟩) (rs.length + 1) cap) (rs ++ [(x, Vb)]) ∧ Below lo W0 (w4.setCell ⟨tb, 0, none⟩ (.slice (some ⟨g, 0, none⟩) (rs.length + 1) cap)) ∧ (∀ q, q < W0.heap.size → q ≠ tb → q ≠ mb → Value.ownBlock (.slice va rs.length vcap) ≠ some q → (w4.setCell ⟨tb, 0, none⟩ (.slice (some ⟨g, 0, none⟩) (rs.length + 1) cap)).heap[q]? = W0.heap[q]?) := by
  have G : W1.grownBy w4 (Value.ownBlock (.slice va rs.length vcap)) := World.grownBy.trans (World.grownBy_alloc W1 ob _) hg
  have ztb : tb < W0.heap.size := hT.box.1.1
  have s1 := G1.size
  have s4 := G.size
  have hmt : mb < W1.heap.size := M1.lt
  have hgt : g ≠ tb := by
    rcases hat with e | e
    · intro h; exact hT.vt (by rw [e, h])
    · omega
  have hgm : g ≠ mb := by
    rcases hat with e | e
    · intro h; exact hT.vm (by rw [e, h])
    · omega
  have hl : (rs ++ [(x, Vb)]).length = rs.length + 1 := by simp
  have b1 := hT.box.other G1 (by simpa using hT.ne)
  have b4 := b1.other G (fun e => hT.vt e.symm)
  obtain ⟨⟨z4, q0, q1⟩, f0, f1⟩ := b4
  refine ⟨⟨⟨⟨by simpa using z4, World.cell?_setCell_same _ _ _ q0, ?_⟩, by rw [World.frozen?_setCell]; exact f0, by rw [World.frozen?_setCell]; exact f1⟩, ?_, ⟨D, ?_, hM⟩, fun i hi => ?_, fun i j hi hj e => ?_, hT.lot, hT.lom, hT.ne, by simpa [Value.ownBlock] using hgt, by simpa [Value.ownBlock] using hgm⟩, ?_, fun q hq n1 n2 n3 => ?_⟩
  · rw [World.cell?_setCell_other _ _ _ _ (by simp)]; exact q1
  · rw [hl, rowT_app, rowT_one]
    exact World.ownsRow.kept ho (grownBy_set w4 w4 tb 0 _ (World.grownBy.refl _ _)) (.inr (by simpa [Value.ownBlock] using hgt))
  · rw [hl]
    exact (M1.kept G (fun e => hT.vm e.symm)).setCell (a := ⟨tb, 0, none⟩) (fun e => hT.ne e.symm) _
  · rw [hl] at hi
    by_cases e : i = rs.length
    · subst e; rw [pD_last]; exact hVb
    · rw [pD_app _ _ _ (by omega)]; exact hT.full i (by omega)
  · rw [hl] at hi hj
    by_cases ei : i = rs.length
    · by_cases ej : j = rs.length
      · omega
      · subst ei; rw [pB_last, pB_app _ _ _ (by omega)] at e; exact absurd e.symm (hno j (by omega))
    · by_cases ej : j = rs.length
      · subst ej; rw [pB_last, pB_app _ _ _ (by omega)] at e; exact absurd e (hno i (by omega))
      · rw [pB_app _ _ _ (by omega), pB_app _ _ _ (by omega)] at e; exact hT.apart i j (by omega) (by omega) e
  · have h1 : Below lo W0 W1 := (Below.refl _ _).grown G1 hlo (by intro q hq; simp at hq; subst hq; exact hT.lom)
    have h2 : Below lo W0 w4 := h1.grown G (by omega) (fun q hq => (World.ownsRow.lt hT.rows q hq).1)
    exact h2.setCell (p := ⟨tb, 0, none⟩) hT.lot _
  · rw [Below.heap_setCell _ _ _ _ (show q ≠ (⟨tb, 0, none⟩ : Addr).block from n1), G.block q (by omega) (fun e => n3 e.symm)]
    exact G1.block q hq (by simpa using n2)

end Go.Proofs.Ytmgolinleiahpaa

namespace Go.Proofs.Ytmgolinleiahpaa
open Go.RowKit

set_option maxHeartbeats 2000000 in
set_option maxRecDepth 100000 in
theorem put_yes (w : World) (lo tb mb : Nat) (v : Value) (rs : List (Int × List Int)) (x : Int) (Vb : List Int) (i : Nat) (ht : Tab w lo tb mb v rs) (hi : i < rs.length) (hx : pB rs i = x) (hwx : (Lit.int .i64 x).wf = true) (hVb : Vb.length = 64) :
    Calls Try.prog 79 #[.pointer (some ⟨tb, 0, none⟩), .int .i64 x, .agg (Vb.map (Value.int .u8)).toArray] w fun e w' => e = .returned (.tuple #[]) ∧ Tab w' lo tb mb v (rs.set i (pB rs i, Vb)) ∧ Below lo w w' ∧ (∀ q, q < w.heap.size → q ≠ tb → q ≠ mb → v.ownBlock ≠ some q → w'.heap[q]? = w.heap[q]?) := by
  obtain ⟨g, cap, rfl, hg1, hg2, hc1, hc2⟩ := ht.form (by omega)
  obtain ⟨D, hD, hM⟩ := ht.map
  obtain ⟨⟨zt, c0, c1⟩, -⟩ := ht.box
  have hhas : Maps.has D (.int .i64 x) = true := (hM.1 x).2 ⟨i, hi, hx⟩
  have HAT : Hid (∀ z, D.atKey (.int .i64 x) z = .lit (.int .i64 i)) := by intro z; rw [← hx]; exact hM.2 i hi z
  have hkey := Maps.keyOf_int_mk (P := Try.prog) Try.underlying2 hwx
  obtain ⟨V, hV⟩ : ∃ V, V = Vb.map (Value.int .u8) := ⟨_, rfl⟩
  have HVL : Hid (V.length = 64) := by rw [hV]; show _ = _; rw [List.length_map]; exact hVb
  have HV1 : Hid (∀ v ∈ V, v.oneCell' = true) := by rw [hV]; exact ints_oneCell _ _
  rw [← hV]
  have hiI : (i : Int) < (rs.length : Int) := by omega
  unfold maxLen at hc2
  have BA : Hid (Below w.heap.size w (w.alloc (.cells V.toArray 77))) := (Below.refl _ _).alloc (Nat.le_refl _) _
  have TA : Hid (Tab (w.alloc (.cells V.toArray 77)) lo tb mb (.slice (some ⟨g, 0, none⟩) rs.length cap) rs) := ht.below BA.out
  have RB : Hid ((w.alloc (.cells V.toArray 77)).rangeAt w.heap.size 0 V) := by have := range_new w V.toArray 77; rw [List.toList_toArray] at this; exact this
  have HD : Hid ((w.alloc (.cells V.toArray 77)).ownsMap Try.prog 2 (plainElem Try.prog 3) mb rs.length D) := hD.alloc _
  have hlow : lo ≤ w.heap.size := by omega
  have FIN : Hid (∀ W, Tab W lo tb mb (.slice (some ⟨g, 0, none⟩) rs.length cap) rs → Below lo w W → Tab (W.setCells g (i * 65 + 1) V) lo tb mb (.slice (some ⟨g, 0, none⟩) rs.length cap) (rs.set i (pB rs i, Vb)) ∧ Below lo w (W.setCells g (i * 65 + 1) V) ∧ W.grownBy (W.setCells g (i * 65 + 1) V) (some g)) := by
    intro W hW hB
    have := hW.set hi Vb hVb
    rw [← hV] at this
    exact ⟨this.1, hB.grown this.2 (by have := hB.size; omega) (by intro q hq; simp at hq; omega), this.2⟩
  generalize hn : rs.length = n at *
  clear ht hD hM hx hV
  go_enter Try.func79, Try.ntmps79
  go_wp2_with (at_lookup; refine wpList_lookup_own_ok_int _ rfl _ _ 109 rfl 2 3 .i64 lawK Try.underlying109 Try.underlying3 (zeroInt _) mb n D rfl HD.out _ _ rfl hkey ?_)
  intro c hat hwc
  obtain rfl : c = (i : Int) := by have := HAT.out (.lit (.int .i64 0)); rw [hat] at this; simpa using this
  clear c0 c1 zt
  generalize w.alloc (.cells V.toArray 77) = W0 at *
  go_wp2_with fail
  have TH : Hid (W0.there g (i * 65 + 1) 64) := by
    intro j hj
    have hr := TA.out.rows
    have hfl := rowT_len rs TA.out.full
    rw [hn] at hr hfl
    exact ⟨by rw [World.ownsRow.cellAt hr (i * 65 + 1 + j) (by omega), List.getElem?_eq_getElem (by omega)]; rfl, World.ownsRow.frozenAt hr _⟩
  obtain ⟨⟨zt, c0, c1⟩, -⟩ := TA.out.box
  refine wp_region_held_drew (S := fun w' => w'.cell? ⟨tb, 0, none⟩ = some (.slice (some ⟨g, 0, none⟩) n cap) ∧ w'.rangeAt w.heap.size 0 V) (by kernel_rfl) ⟨c0, RB.out⟩ (fun hHeld => ?_)
  refine wpAnyH_take (i := 0) (oi := { dst := some 18, op := _, type := _, pos := _, after := _, guard := _ }) (v := (.pointer (some ⟨tb, 0, none⟩))) rfl (by kernel_rfl) (by kernel_rfl) (by kernel_rfl) (fun _ _ _ h => h) (Or.inl ⟨by rfl, fun w' hSw => ?_⟩) (by assumption) ?_
  · (try dsimp only at hSw)
    go_simp
  simp only [Act.put, List.setIfInBounds_toArray, List.set_cons_zero, List.set_cons_succ]
  refine wpAnyH_take (i := 1) (oi := { dst := some 19, op := _, type := _, pos := _, after := _, guard := _ }) (v := (.pointer (some ⟨tb, 0, none⟩))) rfl (by kernel_rfl) (by kernel_rfl) (by kernel_rfl) (fun _ _ _ h => h) (Or.inl ⟨by rfl, fun w' hSw => ?_⟩) (by assumption) ?_
  · (try dsimp only at hSw)
    go_simp
  simp only [Act.put, List.setIfInBounds_toArray, List.set_cons_zero, List.set_cons_succ]
  refine wpAnyH_take (i := 2) (oi := { dst := some 20, op := _, type := _, pos := _, after := _, guard := _ }) (v := (.pointer (some ⟨tb, 0, none⟩))) rfl (by kernel_rfl) (by kernel_rfl) (by kernel_rfl) (fun _ _ _ h => h) (Or.inl ⟨by rfl, fun w' hSw => ?_⟩) (by assumption) ?_
  · (try dsimp only at hSw)
    go_simp
  simp only [Act.put, List.setIfInBounds_toArray, List.set_cons_zero, List.set_cons_succ]
  refine wpAnyH_take (i := 3) (oi := { dst := some 21, op := _, type := _, pos := _, after := _, guard := _ }) (v := (.slice (some ⟨g, 0, none⟩) n cap)) rfl (by kernel_rfl) (by kernel_rfl) (by kernel_rfl) (fun _ _ _ h => h) (Or.inl ⟨by rfl, fun w' hSw => ?_⟩) (by assumption) ?_
  · (try dsimp only at hSw)
    go_simp
  simp only [Act.put, List.setIfInBounds_toArray, List.set_cons_zero, List.set_cons_succ]
  refine wpAnyH_take (i := 4) (oi := { dst := some 22, op := _, type := _, pos := _, after := _, guard := _ }) (v := (.int .i64 i)) rfl (by kernel_rfl) (by kernel_rfl) (by kernel_rfl) (fun _ _ _ h => h) (Or.inl ⟨by rfl, fun w' hSw => ?_⟩) (by assumption) ?_
  · (try dsimp only at hSw)
    go_simp
  simp only [Act.put, List.setIfInBounds_toArray, List.set_cons_zero, List.set_cons_succ]
  refine wpAnyH_take (i := 5) (oi := { dst := some 23, op := _, type := _, pos := _, after := _, guard := _ }) (v := .agg (V).toArray) rfl (by kernel_rfl) (by kernel_rfl) (by kernel_rfl) (fun _ _ _ h => h) (yieldsIf_load_mid (by rfl) _ _ rfl _ _ rfl V _ (fun w' hSw => hSw.2) Try.underlying77 rfl (sizeA _ HVL.out)) (by assumption) ?_
  simp only [Act.put, List.setIfInBounds_toArray, List.set_cons_zero, List.set_cons_succ]
  refine wpAnyH_take (i := 6) (oi := { dst := some 24, op := _, type := _, pos := _, after := _, guard := _ }) (v := (.pointer (some ⟨g, i * 65, none⟩))) rfl (by kernel_rfl) (by kernel_rfl) (by kernel_rfl) (fun _ _ _ h => h) (Or.inl ⟨by rfl, fun w' hSw => ?_⟩) (by assumption) ?_
  · (try dsimp only at hSw)
    go_simp
  simp only [Act.put, List.setIfInBounds_toArray, List.set_cons_zero, List.set_cons_succ]
  refine wpAnyH_take (i := 7) (oi := { dst := some 25, op := _, type := _, pos := _, after := _, guard := _ }) (v := (.pointer (some ⟨g, i * 65 + 1, none⟩))) rfl (by kernel_rfl) (by kernel_rfl) (by kernel_rfl) (fun _ _ _ h => h) (Or.inl ⟨by rfl, fun w' hSw => ?_⟩) (by assumption) ?_
  · (try dsimp only at hSw)
    go_simp
  simp only [Act.put, List.setIfInBounds_toArray, List.set_cons_zero, List.set_cons_succ]
  refine wpAnyH_ready (rs := [8]) (by kernel_rfl) (by simp) ?_
  refine AllReadyH.cons (o := { dst := none, op := _, type := _, pos := _, after := _, guard := _ }) rfl (fun K hK => ?_) AllReadyH.nil
  refine step_store_mid rfl 77 _ _ rfl g (i * 65 + 1) V.toArray rfl rfl ?t1 ?t2 (all_oneCell_toArray HV1.out) ?_
  case t1 =>
    have e : V.toArray.size = 64 := by rw [List.size_toArray]; exact HVL.out
    rw [e]; exact TH.out
  case t2 => rw [List.size_toArray]; exact sizeA _ HVL.out
  have hgt : g ≠ tb := fun e => TA.out.vt (by rw [e]; rfl)
  have FI := FIN.out W0.drew (TA.out.below (below_drewN' W0 1)) ((BA.out.mono hlow).trans ((below_drewN' W0 1).mono (by have := BA.out.size; omega)))
  rw [List.toList_toArray]
  refine hK.out _ _ ⟨?_, ?_⟩ (fun hHeld7 => ?_)
  · rw [World.cell?_setCells_out _ _ _ _ _ (fun h => absurd h (Ne.symm hgt))]; exact c0
  · exact World.rangeAt_setCells_apart (w := W0.drew) ((World.rangeAt_drew _ _ _ _).2 RB.out) _ _ _ (.inl (show w.heap.size ≠ g by omega))
  clear hK K hHeld
  refine wpAnyH_done (by kernel_rfl) ?_ _
  clear hHeld7 c0 c1
  go_wp2
  refine bodyPost_ret (results_none rfl _ _ _) rfl ⟨rfl, FI.1, FI.2.1, fun q hq n1 n2 n3 => (FI.2.2.block q (by have := BA.out.size; show q < W0.heap.size; omega) (fun e => n3 (by injection e with e; rw [e]; rfl))).trans (BA.out.block q hq)⟩

set_option maxHeartbeats 2000000 in
set_option maxRecDepth 100000 in
theorem put_no (w : World) (lo tb mb : Nat) (v : Value) (rs : List (Int × List Int)) (x : Int) (Vb : List Int) (ht : Tab w lo tb mb v rs) (hno : ∀ i, i < rs.length → pB rs i ≠ x) (hwx : (Lit.int .i64 x).wf = true) (hVb : Vb.length = 64) (hlen : rs.length ≤ 1048576) (hlow : lo ≤ w.heap.size) :
    Calls Try.prog 79 #[.pointer (some ⟨tb, 0, none⟩), .int .i64 x, .agg (Vb.map (Value.int .u8)).toArray] w fun e w' => e = .returned (.tuple #[]) ∧ (∃ v', Tab w' lo tb mb v' (rs ++ [(x, Vb)])) ∧ Below lo w w' ∧ (∀ q, q < w.heap.size → q ≠ tb → q ≠ mb → v.ownBlock ≠ some q → w'.heap[q]? = w.heap[q]?) := by
  obtain ⟨D, hD, hM⟩ := ht.map
  obtain ⟨⟨zt, c0, c1⟩, -⟩ := ht.box
  have hhas : Maps.has D (.int .i64 x) = false := by
    cases h : Maps.has D (.int .i64 x) with
    | false => rfl
    | true => obtain ⟨i, hi, e⟩ := (hM.1 x).1 h; exact absurd e (hno i hi)
  have hkey := Maps.keyOf_int_mk (P := Try.prog) Try.underlying2 hwx
  obtain ⟨i0, hi, hz0, hz1, hz2⟩ := info_parts infoT2
  obtain ⟨V, hV⟩ : ∃ V, V = Vb.map (Value.int .u8) := ⟨_, rfl⟩
  have HVL : Hid (V.length = 64) := by rw [hV]; show _ = _; rw [List.length_map]; exact hVb
  have HV1 : Hid (∀ v ∈ V, v.oneCell' = true) := by rw [hV]; exact ints_oneCell _ _
  have HVE : Hid (V = Vb.map (Value.int .u8)) := hV
  have HMN : Hid (MF (D.put (.int .i64 x) (.lit (.int .i64 (rs.length : Int)))) (rs ++ [(x, Vb)])) := hM.snoc hD.isMap x Vb hno
  have HNO : Hid (∀ i, i < rs.length → pB rs i ≠ x) := hno
  have HVB : Hid (Vb.length = 64) := hVb
  rw [← hV]
  have BA : Hid (Below w.heap.size w (w.alloc (.cells V.toArray 77))) := (Below.refl _ _).alloc (Nat.le_refl _) _
  have TA : Hid (Tab (w.alloc (.cells V.toArray 77)) lo tb mb v rs) := ht.below BA.out
  have RB : Hid ((w.alloc (.cells V.toArray 77)).rangeAt w.heap.size 0 V) := by have := range_new w V.toArray 77; rw [List.toList_toArray] at this; exact this
  have HD : Hid ((w.alloc (.cells V.toArray 77)).ownsMap Try.prog 2 (plainElem Try.prog 3) mb rs.length D) := hD.alloc _
  have sA : (w.alloc (.cells V.toArray 77)).heap.size = w.heap.size + 1 := by simp
  obtain ⟨va, vcap, rfl⟩ : ∃ a c, v = .slice a rs.length c := by
    rcases ht.rows.2 with ⟨rfl, h1⟩ | ⟨g, cap, cur, rfl, -⟩
    · exact ⟨none, 0, by rw [h1]⟩
    · exact ⟨_, _, rfl⟩
  have hvlt : ∀ q, Value.ownBlock (.slice va rs.length vcap) = some q → q < w.heap.size := fun q hq => (World.ownsRow.lt ht.rows q hq).2
  have HVLT : Hid (∀ q, Value.ownBlock (.slice va rs.length vcap) = some q → q < w.heap.size) := hvlt
  have zm : mb < w.heap.size := hD.lt
  clear ht hD hM hV hno hVb hvlt
  generalize hn : rs.length = n at *
  have HN : Hid (rs.length = n) := hn
  clear hn
  go_enter Try.func79, Try.ntmps79
  go_wp2_with (at_lookup; refine wpList_lookup_own_ok_int _ rfl _ _ 109 rfl 2 3 .i64 lawK Try.underlying109 Try.underlying3 (zeroInt _) mb n D rfl HD.out _ _ rfl hkey ?_)
  intro c hat hwc
  clear c0 c1
  generalize w.alloc (.cells V.toArray 77) = W0 at *
  go_wp2_with fail
  obtain ⟨⟨zt0, c0, c1⟩, f0, f1⟩ := TA.out.box
  refine wp_region_held_drew (S := fun w' => w'.cell? ⟨tb, 0, none⟩ = some (.slice va n vcap) ∧ w'.cell? ⟨tb, 1, none⟩ = some (.map (some mb))) (by kernel_rfl) ⟨c0, c1⟩ (fun hHeld => ?_)
  refine wpAnyH_take (i := 0) (oi := { dst := some 26, op := _, type := _, pos := _, after := _, guard := _ }) (v := (.pointer (some ⟨tb, 0, none⟩))) rfl (by kernel_rfl) (by kernel_rfl) (by kernel_rfl) (fun _ _ _ h => h) (Or.inl ⟨by rfl, fun w' hSw => ?_⟩) (by assumption) ?_
  · (try dsimp only at hSw)
    go_simp
  simp only [Act.put, List.setIfInBounds_toArray, List.set_cons_zero, List.set_cons_succ]
  refine wpAnyH_take (i := 1) (oi := { dst := some 27, op := _, type := _, pos := _, after := _, guard := _ }) (v := (.pointer (some ⟨tb, 0, none⟩))) rfl (by kernel_rfl) (by kernel_rfl) (by kernel_rfl) (fun _ _ _ h => h) (Or.inl ⟨by rfl, fun w' hSw => ?_⟩) (by assumption) ?_
  · (try dsimp only at hSw)
    go_simp
  simp only [Act.put, List.setIfInBounds_toArray, List.set_cons_zero, List.set_cons_succ]
  refine wpAnyH_take (i := 2) (oi := { dst := some 28, op := _, type := _, pos := _, after := _, guard := _ }) (v := (.pointer (some ⟨tb, 1, none⟩))) rfl (by kernel_rfl) (by kernel_rfl) (by kernel_rfl) (fun _ _ _ h => h) (Or.inl ⟨by rfl, fun w' hSw => ?_⟩) (by assumption) ?_
  · (try dsimp only at hSw)
    go_simp
  simp only [Act.put, List.setIfInBounds_toArray, List.set_cons_zero, List.set_cons_succ]
  refine wpAnyH_take (i := 3) (oi := { dst := some 29, op := _, type := _, pos := _, after := _, guard := _ }) (v := (.map (some mb))) rfl (by kernel_rfl) (by kernel_rfl) (by kernel_rfl) (fun _ _ _ h => h) (Or.inl ⟨by rfl, fun w' hSw => ?_⟩) (by assumption) ?_
  · (try dsimp only at hSw)
    go_simp
  simp only [Act.put, List.setIfInBounds_toArray, List.set_cons_zero, List.set_cons_succ]
  refine wpAnyH_take (i := 4) (oi := { dst := some 30, op := _, type := _, pos := _, after := _, guard := _ }) (v := (.int .i64 x)) rfl (by kernel_rfl) (by kernel_rfl) (by kernel_rfl) (fun _ _ _ h => h) (Or.inl ⟨by rfl, fun w' hSw => ?_⟩) (by assumption) ?_
  · (try dsimp only at hSw)
    go_simp
  simp only [Act.put, List.setIfInBounds_toArray, List.set_cons_zero, List.set_cons_succ]
  refine wpAnyH_take (i := 5) (oi := { dst := some 31, op := _, type := _, pos := _, after := _, guard := _ }) (v := (.pointer (some ⟨tb, 0, none⟩))) rfl (by kernel_rfl) (by kernel_rfl) (by kernel_rfl) (fun _ _ _ h => h) (Or.inl ⟨by rfl, fun w' hSw => ?_⟩) (by assumption) ?_
  · (try dsimp only at hSw)
    go_simp
  simp only [Act.put, List.setIfInBounds_toArray, List.set_cons_zero, List.set_cons_succ]
  refine wpAnyH_take (i := 6) (oi := { dst := some 32, op := _, type := _, pos := _, after := _, guard := _ }) (v := (.pointer (some ⟨tb, 0, none⟩))) rfl (by kernel_rfl) (by kernel_rfl) (by kernel_rfl) (fun _ _ _ h => h) (Or.inl ⟨by rfl, fun w' hSw => ?_⟩) (by assumption) ?_
  · (try dsimp only at hSw)
    go_simp
  simp only [Act.put, List.setIfInBounds_toArray, List.set_cons_zero, List.set_cons_succ]
  refine wpAnyH_take (i := 7) (oi := { dst := some 33, op := _, type := _, pos := _, after := _, guard := _ }) (v := (.pointer (some ⟨tb, 0, none⟩))) rfl (by kernel_rfl) (by kernel_rfl) (by kernel_rfl) (fun _ _ _ h => h) (Or.inl ⟨by rfl, fun w' hSw => ?_⟩) (by assumption) ?_
  · (try dsimp only at hSw)
    go_simp
  simp only [Act.put, List.setIfInBounds_toArray, List.set_cons_zero, List.set_cons_succ]
  refine wpAnyH_take (i := 8) (oi := { dst := some 34, op := _, type := _, pos := _, after := _, guard := _ }) (v := (.slice va n vcap)) rfl (by kernel_rfl) (by kernel_rfl) (by kernel_rfl) (fun _ _ _ h => h) (Or.inl ⟨by rfl, fun w' hSw => ?_⟩) (by assumption) ?_
  · (try dsimp only at hSw)
    go_simp
  simp only [Act.put, List.setIfInBounds_toArray, List.set_cons_zero, List.set_cons_succ]
  refine wpAnyH_take (i := 9) (oi := { dst := some 35, op := _, type := _, pos := _, after := _, guard := _ }) (v := (.int .i64 n)) rfl (by kernel_rfl) (by kernel_rfl) (by kernel_rfl) (fun _ _ _ h => h) (Or.inl ⟨by rfl, fun w' hSw => ?_⟩) (by assumption) ?_
  · (try dsimp only at hSw)
    go_simp
  simp only [Act.put, List.setIfInBounds_toArray, List.set_cons_zero, List.set_cons_succ]
  refine wpAnyH_ready (rs := [10]) (by kernel_rfl) (by simp) ?_
  refine AllReadyH.cons (o := { dst := none, op := _, type := _, pos := _, after := _, guard := _ }) rfl (fun K hK => ?_) AllReadyH.nil
  refine step_mapUpdate_own rfl _ _ _ 109 rfl 2 3 lawK Try.underlying109 _ mb n D rfl HD.out.drew ?m1 _ _ _ rfl rfl hkey (.lit (.int .i64 n)) [] ?m2 ?_
  case m1 => unfold maxLen; omega
  case m2 => exact plainElem_int Try.underlying3 (wf_small _ (by omega) (by omega))
  intro W1 m1 g1
  have hntm : tb ≠ mb := TA.out.ne
  have d0 : W1.cell? ⟨tb, 0, none⟩ = some (.slice va n vcap) := (g1.cell_far ⟨tb, 0, none⟩ zt0 (by simpa using hntm)).trans c0
  have d1 : W1.cell? ⟨tb, 1, none⟩ = some (.map (some mb)) := (g1.cell_far ⟨tb, 1, none⟩ zt0 (by simpa using hntm)).trans c1
  have e0 : W1.frozen? ⟨tb, 0, none⟩ = false := (g1.frozen_far ⟨tb, 0, none⟩ zt0 (by simpa using hntm)).trans f0
  have e1 : W1.frozen? ⟨tb, 1, none⟩ = false := (g1.frozen_far ⟨tb, 1, none⟩ zt0 (by simpa using hntm)).trans f1
  refine hK.out _ _ ⟨d0, d1⟩ (fun hHeld7 => ?_)
  clear hK K hHeld
  refine wpAnyH_done (by kernel_rfl) ?_ _
  have G1 : Hid (W0.grownBy W1 (some mb)) := ⟨g1.os, g1.tape, g1.output, g1.size, g1.block⟩
  have M1 : Hid (W1.ownsMap Try.prog 2 (plainElem Try.prog 3) mb (n + 1) (D.put (.int .i64 x) (.lit (.int .i64 n)))) := m1
  clear hHeld7 c0 c1 f0 f1 m1 g1
  go_wp2_with fail
  go_frame
  have RB1 : Hid (W1.rangeAt w.heap.size 0 V) := rangeAt_blk RB.out (G1.out.block _ (by omega) (by simp; omega))
  have hrow : ∀ W ob, Below W1.heap.size W1 W → (W.alloc ob).ownsRow lo 113 65 (.slice va n vcap) n (rowT rs) := by
    intro W ob hW
    have h0 := TA.out.rows
    rw [HN.out] at h0
    have h1 := World.ownsRow.kept h0 G1.out (by
      cases e : Value.ownBlock (.slice va n vcap) with
      | none => exact .inl rfl
      | some q => right; rw [← e]; exact TA.out.vm)
    refine World.ownsRow.alloc (World.ownsRow.kept h1 (row := none) ⟨hW.os, hW.tape, hW.output, hW.size, fun q hq _ => hW.block q hq⟩ ?_) ob
    cases Value.ownBlock (.slice va n vcap) with
    | none => exact .inl rfl
    | some q => exact .inr (by simp)
  have HROW : Hid (∀ W ob, Below W1.heap.size W1 W → (W.alloc ob).ownsRow lo 113 65 (.slice va n vcap) n (rowT rs)) := hrow
  have hz1t : tb < W1.heap.size := Nat.lt_of_lt_of_le zt0 G1.out.size
  have hwz1 : w.heap.size < W1.heap.size := by have := G1.out.size; omega
  have hwt : w.heap.size ≠ tb := by omega
  have H65 : Hid (∀ u ∈ (Value.int .i64 x :: V), u.oneCell' = true) := by
    intro u hu
    rcases List.mem_cons.1 hu with rfl | hu
    · rfl
    · exact HV1.out u hu
  have HCN : Hid (∀ W : World, ∀ j u, (Value.int .i64 x :: V)[j]? = some u → (W.alloc (.cells (Value.int .i64 x :: V).toArray 113)).cell? ((⟨W.heap.size, 0, none⟩ : Addr).add j) = some u) := by
    intro W j u hu
    rw [Addr.add_lit, Nat.zero_add, cell_of_row _ _ j _ _ _ (heap_alloc_new W _)]
    simpa using hu
  have HFAR : Hid (∀ w4 ob, (W1.drew.alloc ob).grownBy w4 (Value.ownBlock (.slice va n vcap)) → (∀ j, w4.cell? ⟨tb, j, none⟩ = W1.cell? ⟨tb, j, none⟩ ∧ w4.frozen? ⟨tb, j, none⟩ = W1.frozen? ⟨tb, j, none⟩) ∧ ∀ u, (w4.setCell ⟨tb, 0, none⟩ u).rangeAt w.heap.size 0 V ∧ w4.rangeAt w.heap.size 0 V) := by
    intro w4 ob hg
    have hG : W1.grownBy w4 (Value.ownBlock (.slice va n vcap)) := World.grownBy.trans (World.grownBy_alloc W1 ob _) ⟨hg.os, hg.tape, hg.output, hg.size, hg.block⟩
    have hr : w4.rangeAt w.heap.size 0 V := rangeAt_blk RB1.out (hG.block _ hwz1 (fun e => by have := HVLT.out _ e.symm; omega))
    refine ⟨fun j => ⟨hG.cell_far ⟨tb, j, none⟩ hz1t (fun e => TA.out.vt e.symm), hG.frozen_far ⟨tb, j, none⟩ hz1t (fun e => TA.out.vt e.symm)⟩, fun u => ⟨?_, hr⟩⟩
    intro j y hy
    rw [World.cell?_setCell_other _ _ _ _ (by intro e; injection e with e; exact hwt e.symm)]
    exact hr j y hy
  have FIN : Hid (∀ g cap w4 ob, w4.ownsRow lo 113 65 (.slice (some ⟨g, 0, none⟩) (n + 1) cap) (n + 1) (rowT rs ++ (.int .i64 x :: V)) → (W1.drew.alloc ob).grownBy w4 (Value.ownBlock (.slice va n vcap)) → (Value.ownBlock (.slice va n vcap) = some g ∨ g = W1.heap.size + 1) →
      Tab (w4.setCell ⟨tb, 0, none⟩ (.slice (some ⟨g, 0, none⟩) (n + 1) cap)) lo tb mb (.slice (some ⟨g, 0, none⟩) (n + 1) cap) (rs ++ [(x, Vb)]) ∧ Below lo w (w4.setCell ⟨tb, 0, none⟩ (.slice (some ⟨g, 0, none⟩) (n + 1) cap)) ∧ (∀ q, q < w.heap.size → q ≠ tb → q ≠ mb → Value.ownBlock (.slice va n vcap) ≠ some q → (w4.setCell ⟨tb, 0, none⟩ (.slice (some ⟨g, 0, none⟩) (n + 1) cap)).heap[q]? = w.heap[q]?)) := by
    intro g cap w4 ob h1 h2 h3
    have hT := TA.out
    have hM := HMN.out
    have hM1 := M1.out
    rw [HVE.out] at h1
    rw [← HN.out] at h1 h2 h3 hT hM1 ⊢
    rw [← HN.out] at hM
    have := Tab.snoc (W0 := W0) (W1 := W1) (ob := ob) hT G1.out hM1 hM h1 ⟨h2.os, h2.tape, h2.output, h2.size, h2.block⟩ h3 (by rw [HN.out]; exact HNO.out) HVB.out (by omega)
    exact ⟨this.1, (BA.out.mono hlow).trans this.2.1, fun q hq n1 n2 n3 => (this.2.2 q (by omega) n1 n2 n3).trans (BA.out.block q hq)⟩
  have hnum1 : n + 1 ≤ maxLen := by unfold maxLen; omega
  have hnum2 : (n + 1) * 72 ≤ 140737488355328 := by omega
  have hloz : lo ≤ W1.heap.size := by omega
  clear hrow
  refine wp_region_held_drew (S := fun w' => w'.rangeAt w.heap.size 0 V) (by kernel_rfl) ((World.rangeAt_drew _ _ _ _).2 RB1.out) (fun hHeld => ?_)
  refine wpAnyH_take (i := 0) (oi := { dst := some 36, op := _, type := _, pos := _, after := _, guard := _ }) (v := (.pointer (some ⟨tb, 0, none⟩))) rfl (by kernel_rfl) (by kernel_rfl) (by kernel_rfl) (fun _ _ _ h => h) (Or.inl ⟨by rfl, fun w' hSw => ?_⟩) (by assumption) ?_
  · (try dsimp only at hSw)
    go_simp
  simp only [Act.put, List.setIfInBounds_toArray, List.set_cons_zero, List.set_cons_succ]
  refine wpAnyH_take (i := 1) (oi := { dst := some 37, op := _, type := _, pos := _, after := _, guard := _ }) (v := (.pointer (some ⟨tb, 0, none⟩))) rfl (by kernel_rfl) (by kernel_rfl) (by kernel_rfl) (fun _ _ _ h => h) (Or.inl ⟨by rfl, fun w' hSw => ?_⟩) (by assumption) ?_
  · (try dsimp only at hSw)
    go_simp
  simp only [Act.put, List.setIfInBounds_toArray, List.set_cons_zero, List.set_cons_succ]
  refine wpAnyH_take (i := 2) (oi := { dst := some 38, op := _, type := _, pos := _, after := _, guard := _ }) (v := (.pointer (some ⟨tb, 0, none⟩))) rfl (by kernel_rfl) (by kernel_rfl) (by kernel_rfl) (fun _ _ _ h => h) (Or.inl ⟨by rfl, fun w' hSw => ?_⟩) (by assumption) ?_
  · (try dsimp only at hSw)
    go_simp
  simp only [Act.put, List.setIfInBounds_toArray, List.set_cons_zero, List.set_cons_succ]
  refine wpAnyH_take (i := 3) (oi := { dst := some 39, op := _, type := _, pos := _, after := _, guard := _ }) (v := (.pointer (some ⟨tb, 0, none⟩))) rfl (by kernel_rfl) (by kernel_rfl) (by kernel_rfl) (fun _ _ _ h => h) (Or.inl ⟨by rfl, fun w' hSw => ?_⟩) (by assumption) ?_
  · (try dsimp only at hSw)
    go_simp
  simp only [Act.put, List.setIfInBounds_toArray, List.set_cons_zero, List.set_cons_succ]
  refine wpAnyH_take (i := 5) (oi := { dst := some 41, op := _, type := _, pos := _, after := _, guard := _ }) (v := (.int .i64 x)) rfl (by kernel_rfl) (by kernel_rfl) (by kernel_rfl) (fun _ _ _ h => h) (Or.inl ⟨by rfl, fun w' hSw => ?_⟩) (by assumption) ?_
  · (try dsimp only at hSw)
    go_simp
  simp only [Act.put, List.setIfInBounds_toArray, List.set_cons_zero, List.set_cons_succ]
  refine wpAnyH_take (i := 6) (oi := { dst := some 42, op := _, type := _, pos := _, after := _, guard := _ }) (v := .agg (V).toArray) rfl (by kernel_rfl) (by kernel_rfl) (by kernel_rfl) (fun _ _ _ h => h) (yieldsIf_load_mid (by rfl) _ _ rfl _ _ rfl V _ (fun w' hSw => hSw) Try.underlying77 rfl (sizeA _ HVL.out)) (by assumption) ?_
  simp only [Act.put, List.setIfInBounds_toArray, List.set_cons_zero, List.set_cons_succ]
  refine wpAnyH_take (i := 7) (oi := { dst := some 43, op := _, type := _, pos := _, after := _, guard := _ }) (v := (.agg (Value.int .i64 x :: V).toArray)) rfl (by kernel_rfl) (by kernel_rfl) (by kernel_rfl) (fun _ _ _ h => h) (Or.inl ⟨by rfl, fun w' hSw => ?_⟩) (by assumption) ?_
  · (try dsimp only at hSw)
    have hb := runBuild_row w' x V HVL.out
    simp [execOp]
    exact congrArg (fun r => Result.andThen r fun a w'' => Result.ok (Next.value a) w'') hb
  simp only [Act.put, List.setIfInBounds_toArray, List.set_cons_zero, List.set_cons_succ]
  refine wpAnyH_ready (rs := [4, 8]) (by kernel_rfl) (by simp) ?_
  refine AllReadyH.cons (o := { dst := some 40, op := _, type := _, pos := _, after := _, guard := _ }) rfl (fun K hK => ?_) (AllReadyH.cons (o := { dst := some 44, op := _, type := _, pos := _, after := _, guard := _ }) rfl (fun K hK => ?_) AllReadyH.nil)
  · go_simp
    refine hK.out _ _ (by assumption) (fun hHeldL => ?_)
    clear hK K
    refine wpAnyH_ready (rs := [8]) (by kernel_rfl) (by simp) ?_
    refine AllReadyH.cons (o := { dst := some 44, op := _, type := _, pos := _, after := _, guard := _ }) rfl (fun K hK => ?_) AllReadyH.nil
    refine step_buildSlice_row rfl _ rfl x V HVL.out rfl ?_
    have hS2 : (W1.drew.alloc (.cells (Value.int .i64 x :: V).toArray 113)).rangeAt w.heap.size 0 V := World.rangeAt_alloc ((World.rangeAt_drew _ _ _ _).2 RB1.out) _
    refine hK.out _ _ hS2 (fun hHeldA => ?_)
    clear hK K
    simp only [Act.put, List.setIfInBounds_toArray, List.set_cons_zero, List.set_cons_succ]
    refine wpAnyH_ready (rs := [9]) (by kernel_rfl) (by simp) ?_
    refine AllReadyH.cons (o := { dst := some 45, op := _, type := _, pos := _, after := _, guard := _ }) rfl (fun K hK => ?_) AllReadyH.nil
    refine step_append_lies _ rfl _ _ 108 rfl lo 113 i0 zT 65 72 Try.underlying108 hi hz0 hz1 hz2 zT_size (by omega) (.slice va n vcap) n (rowT rs) rfl (HROW.out W1.drew _ (below_drewN' W1 1)) ⟨W1.heap.size, 0, none⟩ 1 1 (Value.int .i64 x :: V) rfl ?a1 (HCN.out W1.drew) H65.out (by omega) hnum1 hnum2 ?a2 (W1.heap.size + 1) ?a3 ?_
    case a1 => rw [List.length_cons, HVL.out]
    case a2 => exact (show lo ≤ (W1.alloc (.cells (Value.int .i64 x :: V).toArray 113)).heap.size by rw [World.size_alloc]; exact Nat.le_succ_of_le hloz)
    case a3 => exact (show (W1.alloc (.cells (Value.int .i64 x :: V).toArray 113)).heap.size = W1.heap.size + 1 by rw [World.size_alloc])
    intro g4 cap4 w4 ho4 hg4 hat4 hlt4
    obtain ⟨q1, q2⟩ := HFAR.out _ _ hg4
    have FI := FIN.out _ _ _ _ ho4 hg4 hat4
    have HFI : Hid (Tab (w4.setCell ⟨tb, 0, none⟩ (.slice (some ⟨g4, 0, none⟩) (n + 1) cap4)) lo tb mb (.slice (some ⟨g4, 0, none⟩) (n + 1) cap4) (rs ++ [(x, Vb)]) ∧ Below lo w (w4.setCell ⟨tb, 0, none⟩ (.slice (some ⟨g4, 0, none⟩) (n + 1) cap4)) ∧ (∀ q, q < w.heap.size → q ≠ tb → q ≠ mb → Value.ownBlock (.slice va n vcap) ≠ some q → (w4.setCell ⟨tb, 0, none⟩ (.slice (some ⟨g4, 0, none⟩) (n + 1) cap4)).heap[q]? = w.heap[q]?)) := FI
    have p0 := (q1 0).1.trans d0
    have p1 := (q1 0).2.trans e0
    refine hK.out _ _ (q2 (.int .i64 0)).2 (fun hHeldP => ?_)
    have HQ2 : Hid (∀ u, (w4.setCell ⟨tb, 0, none⟩ u).rangeAt w.heap.size 0 V ∧ w4.rangeAt w.heap.size 0 V) := q2
    clear hK K FI ho4 hg4 hat4 q1 q2
    simp only [Act.put, List.setIfInBounds_toArray, List.set_cons_zero, List.set_cons_succ]
    refine wpAnyH_take (i := 10) (oi := { dst := some 46, op := _, type := _, pos := _, after := _, guard := _ }) (v := (.pointer (some ⟨tb, 0, none⟩))) rfl (by kernel_rfl) (by kernel_rfl) (by kernel_rfl) (fun _ _ _ h => h) (Or.inl ⟨by rfl, fun w' hSw => ?_⟩) (by assumption) ?_
    · (try dsimp only at hSw)
      go_simp
    simp only [Act.put, List.setIfInBounds_toArray, List.set_cons_zero, List.set_cons_succ]
    refine wpAnyH_take (i := 11) (oi := { dst := some 47, op := _, type := _, pos := _, after := _, guard := _ }) (v := (.pointer (some ⟨tb, 0, none⟩))) rfl (by kernel_rfl) (by kernel_rfl) (by kernel_rfl) (fun _ _ _ h => h) (Or.inl ⟨by rfl, fun w' hSw => ?_⟩) (by assumption) ?_
    · (try dsimp only at hSw)
      go_simp
    simp only [Act.put, List.setIfInBounds_toArray, List.set_cons_zero, List.set_cons_succ]
    refine wpAnyH_ready (rs := [12]) (by kernel_rfl) (by simp) ?_
    refine AllReadyH.cons (o := { dst := none, op := _, type := _, pos := _, after := _, guard := _ }) rfl (fun K hK => ?_) AllReadyH.nil
    go_simp
    refine hK.out _ _ (HQ2.out _).1 (fun hHeldS => ?_)
    clear hK K
    refine wpAnyH_done (by kernel_rfl) ?_ _
    clear hHeldS hHeldP
    go_wp2
    go_end0
    exact ⟨rfl, ⟨_, HFI.out.1⟩, HFI.out.2.1, HFI.out.2.2⟩
  · refine step_buildSlice_row rfl _ rfl x V HVL.out rfl ?_
    have hS2 : (W1.drew.alloc (.cells (Value.int .i64 x :: V).toArray 113)).rangeAt w.heap.size 0 V := World.rangeAt_alloc ((World.rangeAt_drew _ _ _ _).2 RB1.out) _
    refine hK.out _ _ hS2 (fun hHeldA => ?_)
    clear hK K
    simp only [Act.put, List.setIfInBounds_toArray, List.set_cons_zero, List.set_cons_succ]
    refine wpAnyH_ready (rs := [4]) (by kernel_rfl) (by simp) ?_
    refine AllReadyH.cons (o := { dst := some 40, op := _, type := _, pos := _, after := _, guard := _ }) rfl (fun K hK => ?_) AllReadyH.nil
    go_simp
    refine hK.out _ _ (by assumption) (fun hHeldL => ?_)
    clear hK K
    refine wpAnyH_ready (rs := [9]) (by kernel_rfl) (by simp) ?_
    refine AllReadyH.cons (o := { dst := some 45, op := _, type := _, pos := _, after := _, guard := _ }) rfl (fun K hK => ?_) AllReadyH.nil
    refine step_append_lies _ rfl _ _ 108 rfl lo 113 i0 zT 65 72 Try.underlying108 hi hz0 hz1 hz2 zT_size (by omega) (.slice va n vcap) n (rowT rs) rfl (HROW.out W1.drew _ (below_drewN' W1 1)) ⟨W1.heap.size, 0, none⟩ 1 1 (Value.int .i64 x :: V) rfl ?a1 (HCN.out W1.drew) H65.out (by omega) hnum1 hnum2 ?a2 (W1.heap.size + 1) ?a3 ?_
    case a1 => rw [List.length_cons, HVL.out]
    case a2 => exact (show lo ≤ (W1.alloc (.cells (Value.int .i64 x :: V).toArray 113)).heap.size by rw [World.size_alloc]; exact Nat.le_succ_of_le hloz)
    case a3 => exact (show (W1.alloc (.cells (Value.int .i64 x :: V).toArray 113)).heap.size = W1.heap.size + 1 by rw [World.size_alloc])
    intro g4 cap4 w4 ho4 hg4 hat4 hlt4
    obtain ⟨q1, q2⟩ := HFAR.out _ _ hg4
    have FI := FIN.out _ _ _ _ ho4 hg4 hat4
    have HFI : Hid (Tab (w4.setCell ⟨tb, 0, none⟩ (.slice (some ⟨g4, 0, none⟩) (n + 1) cap4)) lo tb mb (.slice (some ⟨g4, 0, none⟩) (n + 1) cap4) (rs ++ [(x, Vb)]) ∧ Below lo w (w4.setCell ⟨tb, 0, none⟩ (.slice (some ⟨g4, 0, none⟩) (n + 1) cap4)) ∧ (∀ q, q < w.heap.size → q ≠ tb → q ≠ mb → Value.ownBlock (.slice va n vcap) ≠ some q → (w4.setCell ⟨tb, 0, none⟩ (.slice (some ⟨g4, 0, none⟩) (n + 1) cap4)).heap[q]? = w.heap[q]?)) := FI
    have p0 := (q1 0).1.trans d0
    have p1 := (q1 0).2.trans e0
    refine hK.out _ _ (q2 (.int .i64 0)).2 (fun hHeldP => ?_)
    have HQ2 : Hid (∀ u, (w4.setCell ⟨tb, 0, none⟩ u).rangeAt w.heap.size 0 V ∧ w4.rangeAt w.heap.size 0 V) := q2
    clear hK K FI ho4 hg4 hat4 q1 q2
    simp only [Act.put, List.setIfInBounds_toArray, List.set_cons_zero, List.set_cons_succ]
    refine wpAnyH_take (i := 10) (oi := { dst := some 46, op := _, type := _, pos := _, after := _, guard := _ }) (v := (.pointer (some ⟨tb, 0, none⟩))) rfl (by kernel_rfl) (by kernel_rfl) (by kernel_rfl) (fun _ _ _ h => h) (Or.inl ⟨by rfl, fun w' hSw => ?_⟩) (by assumption) ?_
    · (try dsimp only at hSw)
      go_simp
    simp only [Act.put, List.setIfInBounds_toArray, List.set_cons_zero, List.set_cons_succ]
    refine wpAnyH_take (i := 11) (oi := { dst := some 47, op := _, type := _, pos := _, after := _, guard := _ }) (v := (.pointer (some ⟨tb, 0, none⟩))) rfl (by kernel_rfl) (by kernel_rfl) (by kernel_rfl) (fun _ _ _ h => h) (Or.inl ⟨by rfl, fun w' hSw => ?_⟩) (by assumption) ?_
    · (try dsimp only at hSw)
      go_simp
    simp only [Act.put, List.setIfInBounds_toArray, List.set_cons_zero, List.set_cons_succ]
    refine wpAnyH_ready (rs := [12]) (by kernel_rfl) (by simp) ?_
    refine AllReadyH.cons (o := { dst := none, op := _, type := _, pos := _, after := _, guard := _ }) rfl (fun K hK => ?_) AllReadyH.nil
    go_simp
    refine hK.out _ _ (HQ2.out _).1 (fun hHeldS => ?_)
    clear hK K
    refine wpAnyH_done (by kernel_rfl) ?_ _
    clear hHeldS hHeldP
    go_wp2
    go_end0
    exact ⟨rfl, ⟨_, HFI.out.1⟩, HFI.out.2.1, HFI.out.2.2⟩

theorem put_any (w : World) (lo tb mb : Nat) (v : Value) (rs : List (Int × List Int)) (x : Int) (Vb : List Int) (ht : Tab w lo tb mb v rs) (hx0 : 0 ≤ x) (hx1 : x ≤ 1048576) (hVb : Vb.length = 64) (hlen : rs.length ≤ 1048576) (hlow : lo ≤ w.heap.size) :
    Calls Try.prog 79 #[.pointer (some ⟨tb, 0, none⟩), .int .i64 x, .agg (Vb.map (Value.int .u8)).toArray] w fun e w' => e = .returned (.tuple #[]) ∧ (∃ v' rs', Put rs x Vb rs' ∧ Tab w' lo tb mb v' rs') ∧ Below lo w w' ∧ (∀ q, q < w.heap.size → q ≠ tb → q ≠ mb → v.ownBlock ≠ some q → w'.heap[q]? = w.heap[q]?) := by
  by_cases h : ∃ i, i < rs.length ∧ pB rs i = x
  · obtain ⟨i, hi, e⟩ := h
    refine (put_yes w lo tb mb v rs x Vb i ht hi e (wf_small x hx0 hx1) hVb).mono ?_
    rintro e' w' ⟨rfl, h1, h2, h3⟩
    exact ⟨rfl, ⟨v, _, .inl ⟨i, hi, e, rfl⟩, h1⟩, h2, h3⟩
  · have hno : ∀ i, i < rs.length → pB rs i ≠ x := fun i hi e => h ⟨i, hi, e⟩
    refine (put_no w lo tb mb v rs x Vb ht hno (wf_small x hx0 hx1) hVb hlen hlow).mono ?_
    rintro e' w' ⟨rfl, ⟨v', h1⟩, h2, h3⟩
    exact ⟨rfl, ⟨v', _, .inr ⟨hno, rfl⟩, h1⟩, h2, h3⟩

end Go.Proofs.Ytmgolinleiahpaa

namespace Go.Proofs.Ytmgolinleiahpaa
open Go.RowKit

theorem put_len {rs rs' : List (Int × List Int)} {x : Int} {V : List Int} (h : Put rs x V rs') : rs'.length ≤ rs.length + 1 := by
  rcases h with ⟨i, _, _, rfl⟩ | ⟨_, rfl⟩
  · simp
  · simp

set_option maxHeartbeats 2000000 in
set_option maxRecDepth 100000 in
theorem youngest_any (w : World) (va vb : Option Addr) (dl ca n cb : Nat) (dur : List Int) (ps : List (Int × List Int)) (hdl : dur.length = dl) (hp : RdW w (.slice vb n cb) ps) (hl : ps.length = n) (hv : vldD dl ps = true) :
    Calls Try.prog 50 #[.agg #[.slice va dl ca, .slice vb n cb]] w fun e w' => e = .returned (.pointer (some ⟨w.heap.size + 2, 0, none⟩)) ∧ (∃ v rs, Tab w' (w.heap.size + 1) (w.heap.size + 2) (w.heap.size + 1) v rs ∧ TabOf dur ps n rs) ∧ Below w.heap.size w w' := by
  have HP : Hid (RdW w (.slice vb n cb) ps) := hp
  have HL : Hid (ps.length = n) := hl
  have HV : Hid (vldD dl ps = true) := hv
  have HDL : Hid (dur.length = dl) := hdl
  have hn2 : n ≤ 2000 := by have := ((vldD_iff dl ps).1 hv).2.2.2.1; omega
  have B0 : Hid (Below w.heap.size w (w.alloc (.cells #[.slice va dl ca, .slice vb n cb] 32))) := (Below.refl _ _).alloc (Nat.le_refl _) _
  have X0 : Hid (Box2 (w.alloc (.cells #[.slice va dl ca, .slice vb n cb] 32)) w.heap.size (.slice va dl ca) (.slice vb n cb)) := Box2.new _ _ _ _
  have s0 : (w.alloc (.cells #[.slice va dl ca, .slice vb n cb] 32)).heap.size = w.heap.size + 1 := by simp
  clear hp hl hv hdl
  go_enter Try.func50, Try.ntmps50
  go_wp2_with fail
  generalize w.alloc (.cells #[.slice va dl ca, .slice vb n cb] 32) = w0 at *
  refine (newTable_any w0).mono ?_
  rintro e w1 ⟨rfl, t1, b1⟩
  rw [s0] at t1 ⊢
  have T1 : Hid (Tab w1 (w.heap.size + 1) (w.heap.size + 2) (w.heap.size + 1) (.slice none 0 0) []) := t1
  have B1 : Hid (Below (w.heap.size + 1) w0 w1) := by have := b1; rw [s0] at this; exact this
  have X1 : Hid (Box2 w1 w.heap.size (.slice va dl ca) (.slice vb n cb)) := X0.out.below b1
  have z1 := T1.out.box.1.1
  clear t1 b1 X0
  obtain ⟨zx, c0, c1⟩ := X1.out
  go_wp2
  clear c0 c1
  go_loopw [10] (fun i wr => ∃ k : Nat, k ≤ n ∧ i = .int .i64 k ∧ Hid (∃ v rs, Tab wr (w.heap.size + 1) (w.heap.size + 2) (w.heap.size + 1) v rs ∧ TabOf dur ps k rs ∧ rs.length ≤ k) ∧ Hid (Below (w.heap.size + 1) w1 wr)) (fun i _ => n - (intOf i).toNat)
  case atStart => exact ⟨0, Nat.zero_le _, rfl, ⟨_, _, T1.out, tabOf_nil _ _, Nat.le_refl _⟩, Below.refl _ _⟩
  case round =>
    clear T1
    obtain ⟨k, hk, rfl, ⟨v, rs, ht, hof, hrl⟩, HG⟩ := hrel
    have HT : Hid (Tab wr (w.heap.size + 1) (w.heap.size + 2) (w.heap.size + 1) v rs) := ht
    have HOF : Hid (TabOf dur ps k rs) := hof
    have HRL : Hid (rs.length ≤ k) := hrl
    have sg := HG.out.size
    have BW : Hid (Below w.heap.size w wr) := B0.out.trans (((B1.out.trans HG.out)).mono (by omega))
    clear ht hof hrl
    by_cases hlt : k < n
    · obtain ⟨pb, po, rfl, hpb, e1, da, dc, e2, r⟩ := HP.out.recAt HL.out hlt
      obtain ⟨b, hb, hb2, hb3, hd64⟩ := vld_at HV.out k (by rw [HL.out]; exact hlt)
      have HB : Hid (pB ps k = b) := hb
      rw [hb] at e1
      rw [hd64] at e2 r
      have e1' := (BW.out.cell (p := ⟨pb, po + k * 2, none⟩) hpb).trans e1
      have e2' := (BW.out.cell (p := ⟨pb, po + k * 2 + 1, none⟩) hpb).trans e2
      obtain ⟨db, dof, rfl, hdb, -⟩ := r.cellAt hd64 (show 0 < 64 by omega)
      obtain ⟨V, hV⟩ : ∃ V, V = (pD ps k).map (Value.int .u8) := ⟨_, rfl⟩
      have RU : Hid (w.rangeAt db dof V) := by rw [hV]; exact (r.span hd64 (by omega)).2
      have HVL : Hid (V.length = 64) := by rw [hV]; show _ = _; rw [List.length_map]; exact hd64
      have hltI : (k : Int) < (n : Int) := by omega
      have HP1 : Hid (∀ W, Tab W (w.heap.size + 1) (w.heap.size + 2) (w.heap.size + 1) v rs → w.heap.size + 1 ≤ W.heap.size → Calls Try.prog 79 #[.pointer (some ⟨w.heap.size + 2, 0, none⟩), .int .i64 b, .agg V.toArray] W fun e w' => e = .returned (.tuple #[]) ∧ (∃ v' rs', Put rs b (pD ps k) rs' ∧ Tab w' (w.heap.size + 1) (w.heap.size + 2) (w.heap.size + 1) v' rs') ∧ Below (w.heap.size + 1) W w' ∧ (∀ q, q < W.heap.size → q ≠ w.heap.size + 2 → q ≠ w.heap.size + 1 → v.ownBlock ≠ some q → w'.heap[q]? = W.heap[q]?)) := by
        intro W hT hW
        rw [hV]
        exact put_any W _ _ _ v rs b (pD ps k) hT (by omega) (by omega) hd64 (by have := HRL.out; omega) hW
      clear e1 e2 r hb hd64 hV
      go_wp2_with fail
      have BAl : Hid (Below wr.heap.size wr (wr.alloc (.cells #[.int .i64 b, .slice (some ⟨db, dof, none⟩) 64 dc] 42))) := (Below.refl _ _).alloc (Nat.le_refl _) _
      have XB : Hid (Box2 (wr.alloc (.cells #[.int .i64 b, .slice (some ⟨db, dof, none⟩) 64 dc] 42)) wr.heap.size (.int .i64 b) (.slice (some ⟨db, dof, none⟩) 64 dc)) := Box2.new _ _ _ _
      clear e1' e2'
      generalize wr.alloc (.cells #[.int .i64 b, .slice (some ⟨db, dof, none⟩) 64 dc] 42) = w3 at *
      obtain ⟨z3, c0, c1⟩ := XB.out
      have sB := BAl.out.size
      have RU3 : w3.rangeAt db dof V := rangeAt_blk RU.out ((BAl.out.block db (by have := BW.out.size; omega)).trans (BW.out.block db hdb))
      have T3 : Hid (Tab w3 (w.heap.size + 1) (w.heap.size + 2) (w.heap.size + 1) v rs) := HT.out.below BAl.out
      have ztb := HT.out.box.1.1
      have hvlt : ∀ q, v.ownBlock = some q → q < wr.heap.size := fun q hq => (World.ownsRow.lt HT.out.rows q hq).2
      have hat : ∀ W, (Instr.arrayAt 77 (.slice (some ⟨db, dof, none⟩) 64 dc)).run Try.prog W = .ok (.pointer (some ⟨db, dof, none⟩)) W := fun W => run_arrayAt W 77 _ 64 _ _ _ Try.underlying77 (Nat.le_refl _)
      have CP : Hid (Calls Try.prog 79 #[.pointer (some ⟨w.heap.size + 2, 0, none⟩), .int .i64 b, .agg V.toArray] w3.drew fun e w' => e = .returned (.tuple #[]) ∧ w'.cell? ⟨wr.heap.size, 0, none⟩ = some (.int .i64 b) ∧ w'.cell? ⟨wr.heap.size, 1, none⟩ = some (.slice (some ⟨db, dof, none⟩) 64 dc) ∧ w'.rangeAt db dof V ∧ Hid (∃ v rs, Tab w' (w.heap.size + 1) (w.heap.size + 2) (w.heap.size + 1) v rs ∧ TabOf dur ps (k + 1) rs ∧ rs.length ≤ k + 1) ∧ Hid (Below (w.heap.size + 1) w1 w')) := by
        refine (HP1.out w3.drew (T3.out.below (below_drewN' w3 1)) (by show _ ≤ w3.heap.size; omega)).mono ?_
        rintro e w' ⟨rfl, ⟨v', rs', hput, hT'⟩, hb', hfr⟩
        have hc : ∀ j, w'.cell? ⟨wr.heap.size, j, none⟩ = w3.cell? ⟨wr.heap.size, j, none⟩ := fun j => World.cell?_of_block (w := w3) (a := ⟨wr.heap.size, j, none⟩) (hfr wr.heap.size z3 (by omega) (by omega) (fun e => by have := hvlt _ e; omega))
        refine ⟨rfl, (hc 0).trans c0, (hc 1).trans c1, rangeAt_blk RU3 (hb'.block db (by omega)), ⟨v', rs', hT', ?_, ?_⟩, ?_⟩
        · refine tabOf_put dur ps rs rs' k HOF.out ⟨b, HB.out, by rw [HDL.out]; exact hb2, hb3⟩ HT.out.apart ?_
          rw [HB.out]; exact hput
        · have := put_len hput; have := HRL.out; omega
        · exact ((HG.out.trans (BAl.out.mono (by omega))).trans ((below_drewN' w3 1).mono (by omega))).trans hb'
      clear HP1 XB T3 RU HG HT HOF
      refine wp_region_held_drew (S := fun w' => w'.cell? ⟨wr.heap.size, 0, none⟩ = some (.int .i64 b) ∧ w'.cell? ⟨wr.heap.size, 1, none⟩ = some (.slice (some ⟨db, dof, none⟩) 64 dc) ∧ w'.rangeAt db dof V) (by kernel_rfl) ⟨c0, c1, RU3⟩ (fun hHeld => ?_)
      refine wpAnyH_take (i := 0) (oi := { dst := some 14, op := _, type := _, pos := _, after := _, guard := _ }) (v := (.pointer (some ⟨w.heap.size + 2, 0, none⟩))) rfl (by kernel_rfl) (by kernel_rfl) (by kernel_rfl) (fun _ _ _ h => h) (Or.inl ⟨by rfl, fun w' hSw => ?_⟩) (by assumption) ?_
      · (try dsimp only at hSw)
        go_simp
      simp only [Act.put, List.setIfInBounds_toArray, List.set_cons_zero, List.set_cons_succ]
      refine wpAnyH_take (i := 1) (oi := { dst := some 15, op := _, type := _, pos := _, after := _, guard := _ }) (v := (.pointer (some ⟨wr.heap.size, 0, none⟩))) rfl (by kernel_rfl) (by kernel_rfl) (by kernel_rfl) (fun _ _ _ h => h) (Or.inl ⟨by rfl, fun w' hSw => ?_⟩) (by assumption) ?_
      · (try dsimp only at hSw)
        go_simp
      simp only [Act.put, List.setIfInBounds_toArray, List.set_cons_zero, List.set_cons_succ]
      refine wpAnyH_take (i := 2) (oi := { dst := some 16, op := _, type := _, pos := _, after := _, guard := _ }) (v := (.int .i64 b)) rfl (by kernel_rfl) (by kernel_rfl) (by kernel_rfl) (fun _ _ _ h => h) (Or.inl ⟨by rfl, fun w' hSw => ?_⟩) (by assumption) ?_
      · (try dsimp only at hSw)
        go_simp
      simp only [Act.put, List.setIfInBounds_toArray, List.set_cons_zero, List.set_cons_succ]
      refine wpAnyH_take (i := 3) (oi := { dst := some 17, op := _, type := _, pos := _, after := _, guard := _ }) (v := (.pointer (some ⟨wr.heap.size, 1, none⟩))) rfl (by kernel_rfl) (by kernel_rfl) (by kernel_rfl) (fun _ _ _ h => h) (Or.inl ⟨by rfl, fun w' hSw => ?_⟩) (by assumption) ?_
      · (try dsimp only at hSw)
        go_simp
      simp only [Act.put, List.setIfInBounds_toArray, List.set_cons_zero, List.set_cons_succ]
      refine wpAnyH_take (i := 4) (oi := { dst := some 18, op := _, type := _, pos := _, after := _, guard := _ }) (v := (.slice (some ⟨db, dof, none⟩) 64 dc)) rfl (by kernel_rfl) (by kernel_rfl) (by kernel_rfl) (fun _ _ _ h => h) (Or.inl ⟨by rfl, fun w' hSw => ?_⟩) (by assumption) ?_
      · (try dsimp only at hSw)
        go_simp
      simp only [Act.put, List.setIfInBounds_toArray, List.set_cons_zero, List.set_cons_succ]
      refine wpAnyH_take (i := 5) (oi := { dst := some 19, op := _, type := _, pos := _, after := _, guard := _ }) (v := (.pointer (some ⟨db, dof, none⟩))) rfl (by kernel_rfl) (by kernel_rfl) (by kernel_rfl) (fun _ _ _ h => h) (Or.inl ⟨by rfl, fun w' hSw => ?_⟩) (by assumption) ?_
      · (try dsimp only at hSw)
        go_simp
      simp only [Act.put, List.setIfInBounds_toArray, List.set_cons_zero, List.set_cons_succ]
      refine wpAnyH_take (i := 6) (oi := { dst := some 20, op := _, type := _, pos := _, after := _, guard := _ }) (v := .agg (V).toArray) rfl (by kernel_rfl) (by kernel_rfl) (by kernel_rfl) (fun _ _ _ h => h) (yieldsIf_load_mid (by rfl) _ _ rfl _ _ rfl V _ (fun w' hSw => hSw.2.2) Try.underlying77 rfl (sizeA _ HVL.out)) (by assumption) ?_
      simp only [Act.put, List.setIfInBounds_toArray, List.set_cons_zero, List.set_cons_succ]
      refine wpAnyH_ready (rs := [7]) (by kernel_rfl) (by simp) ?_
      refine AllReadyH.cons (o := { dst := some 21, op := _, type := _, pos := _, after := _, guard := _ }) rfl (fun K hK => ?_) AllReadyH.nil
      go_simp
      go_at_call 79
      refine CP.out.mono ?_
      rintro e w4 ⟨rfl, l0, l1, l2, R4, G4⟩
      refine hK.out _ _ ⟨l0, l1, l2⟩ (fun hHeld7 => ?_)
      clear hK K hHeld
      refine wpAnyH_done (by kernel_rfl) ?_ _
      clear l0 l1 l2 hHeld7 c0 c1 hat CP RU3
      go_wp2
      go_roundw
      case rel => exact ⟨k + 1, by omega, by go_num, R4, G4⟩
      case measure => simp [intOf]; omega
    · have hkn : k = n := by omega
      subst hkn
      go_wp2
      go_ret
      exact ⟨rfl, ⟨v, rs, HT.out, HOF.out⟩, BW.out⟩

end Go.Proofs.Ytmgolinleiahpaa

