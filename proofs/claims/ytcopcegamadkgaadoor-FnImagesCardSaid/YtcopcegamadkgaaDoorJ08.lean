import Derived.Test.YtcopcegamadkgaaDoorJ07
import Derived.Deep.RegionWith
import Derived.Deep.RegionLaw
import Derived.Laws.Cover3
import Derived.Deep.MidRow
import Derived.Laws.CopyOwn
import Derived.Deep.AppendLies
import Derived.Great.BuildSlice
import Derived.Maps.OwnSet
import Derived.Deep.RegionHeld3
import Derived.BigRegion
import Derived.RangeFuncNested
import Derived.RangeFuncLeaves
import Derived.Shelf.Abstract
import Derived.OwnWalkIn
import Derived.TacticsInMore
import Derived.LoopNIn
import Derived.LoopIn
namespace Go.Proofs.YtcopcegamadkgaaDoor
open Go.RowKit

/-! ### rows of records -/
def rowW (n : Nat) (f : Nat → Int) (g : Nat → Value) : List Value := (List.range n).flatMap fun i => [.int .i64 (f i), g i]

theorem rowW_succ (n : Nat) (f : Nat → Int) (g : Nat → Value) : rowW (n + 1) f g = rowW n f g ++ [.int .i64 (f n), g n] := by
  unfold rowW; rw [List.range_succ, List.flatMap_append]; simp
theorem rowW_length (n : Nat) (f : Nat → Int) (g : Nat → Value) : (rowW n f g).length = n * 2 := by
  induction n with
  | zero => rfl
  | succ n ih => rw [rowW_succ, List.length_append, ih]; simp; omega
theorem rowW_get (n : Nat) (f : Nat → Int) (g : Nat → Value) (j : Nat) (h : j < n * 2) : (rowW n f g)[j]? = some (if j % 2 = 0 then .int .i64 (f (j / 2)) else g (j / 2)) := by
  induction n with
  | zero => omega
  | succ n ih =>
    rw [rowW_succ]
    by_cases hj : j < n * 2
    · rw [List.getElem?_append_left (by rw [rowW_length]; exact hj), ih hj]
    · rw [List.getElem?_append_right (by rw [rowW_length]; omega), rowW_length]
      by_cases e : j = n * 2
      · subst e
        simp [show n * 2 % 2 = 0 by omega]
      · have e2 : j = n * 2 + 1 := by omega
        subst e2
        rw [if_neg (by omega), show n * 2 + 1 - n * 2 = 1 by omega, show (n * 2 + 1) / 2 = n by omega]
        rfl
def Ne2 (a b : Value) : Prop := a.ownBlock = none ∨ a.ownBlock ≠ b.ownBlock

theorem Own.slice {k : IntKind} {e : TypeId} {w : World} {lo : Nat} {v : Value} {xs : List Int} (h : Own k e w lo v xs) : ∃ a c, v = .slice a xs.length c := by
  obtain ⟨a, c, h0, _⟩ := h.rd.len
  exact ⟨a, c, h0⟩
theorem Own.setAt {k : IntKind} {e : TypeId} {w : World} {lo g j : Nat} {v u : Value} {xs : List Int} (h : Own k e w lo v xs) (hne : v.ownBlock = none ∨ v.ownBlock ≠ some g) : Own k e (w.setCell ⟨g, j, none⟩ u) lo v xs :=
  h.other (grownBy_set w w g j u (World.grownBy.refl _ _)) hne

/-- Bytes in a row of the call's own, whatever type the row is of. -/
def OwnB (w : World) (lo : Nat) (v : Value) (xs : List Int) : Prop := ∃ te, Own .u8 te w lo v xs
theorem Own.b {te : TypeId} {w : World} {lo : Nat} {v : Value} {xs : List Int} (h : Own .u8 te w lo v xs) : OwnB w lo v xs := ⟨te, h⟩
theorem OwnB.rd {w : World} {lo : Nat} {v : Value} {xs : List Int} (h : OwnB w lo v xs) : Rd .u8 w v xs := h.elim fun _ h => h.rd
theorem OwnB.below {w w' : World} {lo : Nat} {v : Value} {xs : List Int} (h : OwnB w lo v xs) (hb : Below w.heap.size w w') : OwnB w' lo v xs := h.elim fun _ h => ⟨_, h.below hb⟩
theorem OwnB.mono {w : World} {lo lo' : Nat} {v : Value} {xs : List Int} (h : OwnB w lo v xs) (hl : lo' ≤ lo) : OwnB w lo' v xs := h.elim fun _ h => ⟨_, h.mono hl⟩
theorem OwnB.other {w w' : World} {lo : Nat} {v : Value} {xs : List Int} {row : Option Nat} (h : OwnB w lo v xs) (hg : w.grownBy w' row) (hne : v.ownBlock = none ∨ v.ownBlock ≠ row) : OwnB w' lo v xs := h.elim fun _ h => ⟨_, h.other hg hne⟩
theorem OwnB.lt {w : World} {lo : Nat} {v : Value} {xs : List Int} (h : OwnB w lo v xs) : ∀ g, v.ownBlock = some g → lo ≤ g ∧ g < w.heap.size := h.elim fun _ h => h.lt
theorem OwnB.slice {w : World} {lo : Nat} {v : Value} {xs : List Int} (h : OwnB w lo v xs) : ∃ a c, v = .slice a xs.length c := h.elim fun _ h => h.slice
theorem OwnB.setAt {w : World} {lo g j : Nat} {v u : Value} {xs : List Int} (h : OwnB w lo v xs) (hne : v.ownBlock = none ∨ v.ownBlock ≠ some g) : OwnB (w.setCell ⟨g, j, none⟩ u) lo v xs := h.elim fun _ h => ⟨_, h.setAt hne⟩
theorem OwnB.setBelow {w : World} {lo : Nat} {v : Value} {xs : List Int} (h : OwnB w lo v xs) {a : Addr} (ha : a.block < lo) (u : Value) : OwnB (w.setCell a u) lo v xs := h.elim fun _ h => ⟨_, h.setBelow ha u⟩

/-- A slice of records that is the call's own, each list in a row of its own. -/
def OwnW (e : TypeId) (w : World) (lo : Nat) (v : Value) (ps : List (Int × List Int)) (dv : Nat → Value) : Prop :=
  w.ownsRow lo e 2 v ps.length (rowW ps.length (pB ps) dv) ∧ (∀ i, i < ps.length → OwnB w lo (dv i) (pD ps i)) ∧
  (∀ i j, i < ps.length → j < ps.length → i ≠ j → Ne2 (dv i) (dv j)) ∧ ∀ i, i < ps.length → Ne2 (dv i) v

theorem OwnW.rd {e : TypeId} {w : World} {lo : Nat} {v : Value} {ps : List (Int × List Int)} {dv : Nat → Value} (h : OwnW e w lo v ps dv) : RdW w v ps := by
  obtain ⟨ho, hd, _, _⟩ := h
  rcases ho.2 with ⟨rfl, h0⟩ | ⟨g, cap, cur, rfl, hb, hg, hn, hm, hs, ht⟩
  · have : ps = [] := List.eq_nil_of_length_eq_zero h0
    subst this
    exact ⟨none, 0, rfl, Nat.le_refl _, Nat.zero_le _, .inl rfl⟩
  · refine ⟨_, cap, rfl, hn, hm, .inr ⟨g, 0, rfl, (Array.getElem?_eq_some_iff.1 hg).1, fun i hi => ?_⟩⟩
    have c1 := World.ownsRow.cells ho (g := g) rfl (i * 2) _ (rowW_get _ _ _ _ (by omega))
    have c2 := World.ownsRow.cells ho (g := g) rfl (i * 2 + 1) _ (rowW_get _ _ _ _ (by omega))
    rw [Addr.add_lit] at c1 c2
    rw [if_pos (by omega), show i * 2 / 2 = i by omega] at c1
    rw [if_neg (by omega), show (i * 2 + 1) / 2 = i by omega] at c2
    obtain ⟨a, c, e⟩ := (hd i hi).slice
    refine ⟨c1, a, c, ?_, ?_⟩
    · rw [← e, Nat.add_assoc]; exact c2
    · rw [← e]; exact (hd i hi).rd

theorem OwnW.below {e : TypeId} {w w' : World} {lo : Nat} {v : Value} {ps : List (Int × List Int)} {dv : Nat → Value} (h : OwnW e w lo v ps dv) (hb : Below w.heap.size w w') : OwnW e w' lo v ps dv := by
  obtain ⟨ho, hd, h3, h4⟩ := h
  refine ⟨⟨ho.1, ?_⟩, fun i hi => (hd i hi).below hb, h3, h4⟩
  rcases ho.2 with hn | ⟨g, cap, cur, rfl, hbg, hgg, rest⟩
  · exact .inl hn
  · exact .inr ⟨g, cap, cur, rfl, hbg, by rw [hb.block g (Array.getElem?_eq_some_iff.1 hgg).1]; exact hgg, rest⟩

theorem OwnW.mono {e : TypeId} {w : World} {lo lo' : Nat} {v : Value} {ps : List (Int × List Int)} {dv : Nat → Value} (h : OwnW e w lo v ps dv) (hl : lo' ≤ lo) : OwnW e w lo' v ps dv := by
  obtain ⟨ho, hd, h3, h4⟩ := h
  refine ⟨⟨ho.1, ?_⟩, fun i hi => (hd i hi).mono hl, h3, h4⟩
  rcases ho.2 with hn | ⟨g, cap, cur, rfl, hbg, rest⟩
  · exact .inl hn
  · exact .inr ⟨g, cap, cur, rfl, by omega, rest⟩


end Go.Proofs.YtcopcegamadkgaaDoor

namespace Go.Proofs.YtcopcegamadkgaaDoor
open Go.RowKit

theorem OwnW.slice {e : TypeId} {w : World} {lo : Nat} {v : Value} {ps : List (Int × List Int)} {dv : Nat → Value} (h : OwnW e w lo v ps dv) : ∃ a c, v = .slice a ps.length c := by
  obtain ⟨a, c, h0, _⟩ := h.rd.len
  exact ⟨a, c, h0⟩

theorem OwnW.setBelow {e : TypeId} {w : World} {lo : Nat} {v : Value} {ps : List (Int × List Int)} {dv : Nat → Value} (h : OwnW e w lo v ps dv) {a : Addr} (ha : a.block < lo) (u : Value) : OwnW e (w.setCell a u) lo v ps dv :=
  ⟨ownsRow_setCell_below h.1 ha u, fun i hi => (h.2.1 i hi).setBelow ha u, h.2.2⟩


end Go.Proofs.YtcopcegamadkgaaDoor

namespace Go.Proofs.YtcopcegamadkgaaDoor
open Go.RowKit

/-- Record i is one of the disk. -/
def okP (n : Nat) (ps : List (Int × List Int)) (i : Nat) : Prop := 0 ≤ pB ps i ∧ pB ps i < n ∧ (pD ps i).length = 64
def vldP (dl : Nat) (ps : List (Int × List Int)) : Prop := dl % 64 = 0 ∧ 1 ≤ dl / 64 ∧ dl / 64 ≤ 300 ∧ ps.length ≤ 2000 ∧ ∀ i, i < ps.length → okP (dl / 64) ps i
def okBk (n : Nat) (ps : List (Int × List Int)) (i : Nat) : Bool := decide (0 ≤ pB ps i) && decide (pB ps i < n) && decide ((pD ps i).length = 64)
theorem okBk_iff (n : Nat) (ps : List (Int × List Int)) (i : Nat) : okBk n ps i = true ↔ okP n ps i := by unfold okBk okP; simp [and_assoc]
def vldD (dl : Nat) (ps : List (Int × List Int)) : Bool := decide (dl % 64 = 0) && decide (1 ≤ dl / 64) && decide (dl / 64 ≤ 300) && decide (ps.length ≤ 2000) && (List.range ps.length).all (okBk (dl / 64) ps)
theorem vldD_iff (dl : Nat) (ps : List (Int × List Int)) : vldD dl ps = true ↔ vldP dl ps := by
  unfold vldD vldP
  simp only [Bool.and_eq_true, decide_eq_true_eq, List.all_eq_true, List.mem_range, okBk_iff, and_assoc]
theorem vldD_yes {dl : Nat} {ps : List (Int × List Int)} (h : vldP dl ps) : vldD dl ps = true := (vldD_iff dl ps).2 h
theorem vldD_no {dl : Nat} {ps : List (Int × List Int)} (h : ¬ vldP dl ps) : vldD dl ps = false := by
  cases e : vldD dl ps with
  | false => rfl
  | true => exact absurd ((vldD_iff dl ps).1 e) h


set_option maxHeartbeats 400000 in
theorem blockCount_any (w : World) (ao : Option Addr) (n cap : Nat) (vp : Value) (hn : n ≤ 1048576) :
    Calls Tryd.prog 101 #[.agg #[.slice ao n cap, vp]] w fun e w' => e = .returned (.int .i64 ((n / 64 : Nat) : Int)) ∧ Below w.heap.size w w' := by
  go_enter Tryd.func101, Tryd.ntmps101
  go_wp2
  go_ret
  exact ⟨ret_int (by omega), (Below.refl _ _).alloc (Nat.le_refl _) _⟩

set_option maxHeartbeats 400000 in
theorem hasBlock_any (w : World) (ao : Option Addr) (n cap : Nat) (vp : Value) (x : Int) (hn : n ≤ 1048576) :
    Calls Tryd.prog 133 #[.agg #[.slice ao n cap, vp], .int .i64 x] w fun e w' => e = .returned (.bool (decide (0 ≤ x ∧ x < (n / 64 : Nat)))) ∧ Below w.heap.size w w' := by
  have B0 : Hid (Below w.heap.size w (w.alloc (.cells #[.slice ao n cap, vp] 27))) := (Below.refl _ _).alloc (Nat.le_refl _) _
  by_cases h0 : 0 ≤ x
  · go_enter Tryd.func133, Tryd.ntmps133
    go_wp2_with fail
    refine (blockCount_any _ ao n cap vp hn).mono ?_
    rintro e w1 ⟨rfl, b1⟩
    have B1 : Hid (Below w.heap.size w w1) := B0.out.trans (b1.mono (by simp))
    clear b1
    generalize hm : n / 64 = m at *
    have HM : Hid (n / 64 = m) := hm
    clear hm
    by_cases h1 : x < (m : Int)
    · go_wp2
      go_ret
      exact ⟨ret_bool (by have := HM.out; symm; rw [decide_eq_true_eq]; omega), B1.out⟩
    · go_wp2
      go_ret
      exact ⟨ret_bool (by have := HM.out; symm; rw [decide_eq_decide]; omega), B1.out⟩
  · have hd : decide (0 ≤ x) = false := by simpa using h0
    go_enter Tryd.func133, Tryd.ntmps133
    go_wp2
    go_ret
    exact ⟨ret_bool (by symm; first | rfl | (rw [decide_eq_false_iff_not]; omega)), B0.out⟩

/-- The cells of a slice of records. -/
def CellsW (w : World) (b o n : Nat) (ps : List (Int × List Int)) : Prop :=
  ∀ i, i < n → w.cell? ⟨b, o + i * 2, none⟩ = some (.int .i64 (pB ps i)) ∧ ∃ da c, w.cell? ⟨b, o + i * 2 + 1, none⟩ = some (.slice da (pD ps i).length c)

theorem RdW.cells {w : World} {ao : Option Addr} {n cap : Nat} {ps : List (Int × List Int)} (h : RdW w (.slice ao n cap) ps) (hn : 0 < n) : ∃ b o, ao = some ⟨b, o, none⟩ ∧ b < w.heap.size ∧ CellsW w b o n ps ∧ ps.length = n := by
  obtain ⟨ao', cap', e, h1, h2, h3⟩ := h
  simp only [Value.slice.injEq] at e
  obtain ⟨rfl, rfl, rfl⟩ := e
  rcases h3 with rfl | ⟨b, o, rfl, hb, hc⟩
  · simp at hn
  · exact ⟨b, o, rfl, hb, fun i hi => ⟨(hc i hi).1, by obtain ⟨da, c, h, _⟩ := (hc i hi).2; exact ⟨da, c, h⟩⟩, rfl⟩

theorem CellsW.below {w w' : World} {b o n : Nat} {ps : List (Int × List Int)} (h : CellsW w b o n ps) (hb : b < w.heap.size) (hB : Below w.heap.size w w') : CellsW w' b o n ps :=
  fun i hi => ⟨(hB.cell (p := ⟨b, _, none⟩) hb).trans (h i hi).1, by obtain ⟨da, c, e⟩ := (h i hi).2; exact ⟨da, c, (hB.cell (p := ⟨b, _, none⟩) hb).trans e⟩⟩




set_option maxHeartbeats 1000000 in
set_option maxRecDepth 100000 in
theorem implValid_head (w : World) (va vb : Option Addr) (dl ca n cb : Nat) (hd : dl ≤ 1048576) (hn : n ≤ 1048576) (h : ¬ (dl % 64 = 0 ∧ 1 ≤ dl / 64 ∧ dl / 64 ≤ 300 ∧ n ≤ 2000)) :
    Calls Tryd.prog 100 #[.agg #[.slice va dl ca, .slice vb n cb]] w fun e w' => e = .returned (.bool false) ∧ Below w.heap.size w w' := by
  have B0 : Hid (Below w.heap.size w (w.alloc (.cells #[.slice va dl ca, .slice vb n cb] 27))) := (Below.refl _ _).alloc (Nat.le_refl _) _
  by_cases h1 : dl % 64 = 0
  · have t1 : (((dl : Int) % 64) != 0) = false := by rw [bne_eq_false_iff_eq]; omega
    have HX : Hid (¬ (dl % 64 = 0 ∧ 1 ≤ dl / 64 ∧ dl / 64 ≤ 300 ∧ n ≤ 2000)) := h
    have H1 : Hid (dl % 64 = 0) := h1
    clear h h1
    go_enter Tryd.func100, Tryd.ntmps100
    go_wp2_with fail
    refine (blockCount_any _ va dl ca _ hd).mono ?_
    rintro e w1 ⟨rfl, b1⟩
    obtain ⟨c0, c1, _, _, z1⟩ := box2_later b1
    have B1 : Hid (Below w.heap.size w w1) := B0.out.trans (b1.mono (by simp))
    have h := HX.out
    have h1 := H1.out
    clear b1
    generalize dl / 64 = m at *
    by_cases h2 : (m : Int) < 1
    · clear h h1
      go_wp2
      go_ret
      exact ⟨rfl, B1.out⟩
    · by_cases h3 : (300 : Int) < (m : Int)
      · clear h h1
        go_wp2
        go_ret
        exact ⟨rfl, B1.out⟩
      · have h4 : (2000 : Int) < (n : Int) := by omega
        clear h h1
        go_wp2
        go_ret
        exact ⟨rfl, B1.out⟩
  · have t1 : (((dl : Int) % 64) != 0) = true := by rw [bne_iff_ne]; omega
    clear h1 h
    go_enter Tryd.func100, Tryd.ntmps100
    go_wp2
    go_ret
    exact ⟨rfl, B0.out⟩

set_option maxHeartbeats 1000000 in
set_option maxRecDepth 100000 in
theorem implValid_loop (w : World) (va vb : Option Addr) (dl ca n cb : Nat) (ps : List (Int × List Int)) (hp : RdW w (.slice vb n cb) ps) (hl : ps.length = n) (hd : dl ≤ 1048576)
    (h1 : dl % 64 = 0) (h2 : 1 ≤ dl / 64) (h3 : dl / 64 ≤ 300) (h4 : n ≤ 2000) (hdl : ∀ i, (pD ps i).length ≤ 1048576) :
    Calls Tryd.prog 100 #[.agg #[.slice va dl ca, .slice vb n cb]] w fun e w' => e = .returned (.bool (vldD dl ps)) ∧ Below w.heap.size w w' := by
  have B0 : Hid (Below w.heap.size w (w.alloc (.cells #[.slice va dl ca, .slice vb n cb] 27))) := (Below.refl _ _).alloc (Nat.le_refl _) _
  have HP : Hid (RdW w (.slice vb n cb) ps) := hp
  have HL : Hid (ps.length = n) := hl
  have HDL : Hid (∀ i, (pD ps i).length ≤ 1048576) := hdl
  have H1 : Hid (dl % 64 = 0) := h1
  have H2 : Hid (1 ≤ dl / 64 ∧ dl / 64 ≤ 300) := ⟨h2, h3⟩
  have t1 : (((dl : Int) % 64) != 0) = false := by rw [bne_eq_false_iff_eq]; omega
  clear hp hl hdl h1 h2 h3
  go_enter Tryd.func100, Tryd.ntmps100
  go_wp2_with fail
  refine (blockCount_any _ va dl ca _ hd).mono ?_
  rintro e w1 ⟨rfl, b1⟩
  have X1 : Hid (Box2 w1 w.heap.size (.slice va dl ca) (.slice vb n cb)) := (Box2.new w _ _ _).below b1
  have B1 : Hid (Below w.heap.size w w1) := B0.out.trans (b1.mono (by simp))
  clear b1
  have h2 := H2.out
  generalize hm : dl / 64 = m at *
  have HM : Hid (dl / 64 = m) := hm
  have t2 : ¬ (m : Int) < 1 := by omega
  have t3 : ¬ (300 : Int) < (m : Int) := by omega
  have t4 : ¬ (2000 : Int) < (n : Int) := by omega
  clear hm h2
  obtain ⟨z1, c0, c1⟩ := X1.out
  go_wp2
  clear c0 c1 z1
  go_loopw [28] (fun i wr => ∃ k : Nat, k ≤ n ∧ i = .int .i64 k ∧ Hid (∀ i, i < k → okP m ps i) ∧ Hid (Box2 wr w.heap.size (.slice va dl ca) (.slice vb n cb)) ∧ Below w.heap.size w wr) (fun i _ => n - (intOf i).toNat)
  case atStart => exact ⟨0, Nat.zero_le _, rfl, fun i hi => by omega, X1, B1.out⟩
  case round =>
    clear X1 B1
    obtain ⟨k, hk, rfl, HOK, HX, hg⟩ := hrel
    by_cases hlt : k < n
    · obtain ⟨b, o, rfl, hb, hc, _⟩ := HP.out.cells (by omega)
      obtain ⟨e1, da, dc, e2⟩ := (hc.below hb hg) k hlt
      have hltI : (k : Int) < (n : Int) := by omega
      have hdk := HDL.out k
      obtain ⟨z1, c0, c1⟩ := HX.out
      have HG : Hid (Below w.heap.size w wr) := hg
      clear hg hc
      go_wp2_with fail
      have BA : Hid (Below w.heap.size w (wr.alloc (.cells #[.int .i64 (pB ps k), .slice da (pD ps k).length dc] 131))) := HG.out.alloc HG.out.size _
      have XA : Hid (Box2 (wr.alloc (.cells #[.int .i64 (pB ps k), .slice da (pD ps k).length dc] 131)) w.heap.size (.slice va dl ca) (.slice (some ⟨b, o, none⟩) n cb)) := HX.out.below ((Below.refl _ _).alloc (Nat.le_refl _) _)
      have XB : Hid (Box2 (wr.alloc (.cells #[.int .i64 (pB ps k), .slice da (pD ps k).length dc] 131)) wr.heap.size (.int .i64 (pB ps k)) (.slice da (pD ps k).length dc)) := Box2.new _ _ _ _
      generalize wr.alloc (.cells #[.int .i64 (pB ps k), .slice da (pD ps k).length dc] 131) = wa at *
      refine (hasBlock_any _ va dl ca _ (pB ps k) hd).mono ?_
      rintro e w2 ⟨rfl, b2⟩
      rw [HM.out]
      have X2 : Hid (Box2 w2 w.heap.size (.slice va dl ca) (.slice (some ⟨b, o, none⟩) n cb)) := XA.out.below b2
      have XC : Hid (Box2 w2 wr.heap.size (.int .i64 (pB ps k)) (.slice da (pD ps k).length dc)) := XB.out.below b2
      have B2 : Hid (Below w.heap.size w w2) := BA.out.trans (b2.mono BA.out.size)
      obtain ⟨_, d0, d1⟩ := XC.out
      clear b2 c0 c1 z1 e1 e2 HX
      by_cases hok : okP m ps k
      · have HK : Hid (okP m ps k) := hok
        obtain ⟨q1, q2, q3⟩ := hok
        have q4 : (((pD ps k).length : Int) != 64) = false := by rw [bne_eq_false_iff_eq]; omega
        rw [show decide (0 ≤ pB ps k ∧ pB ps k < (m : Int)) = true by rw [decide_eq_true_eq]; omega]
        clear q1 q2 q3
        go_wp2
        go_roundw
        case rel => exact ⟨k + 1, by omega, by go_num, (fun i hi => by by_cases e : i = k; (subst e; exact HK.out); exact HOK.out i (by omega)), X2, B2.out⟩
        case measure => simp [intOf]; omega
      · have HN : Hid (vldD dl ps = false) := vldD_no (by rintro ⟨_, _, _, _, h5⟩; rw [HM.out] at h5; exact hok (h5 k (by rw [HL.out]; exact hlt)))
        by_cases q1 : 0 ≤ pB ps k ∧ pB ps k < (m : Int)
        · rw [show decide (0 ≤ pB ps k ∧ pB ps k < (m : Int)) = true by rw [decide_eq_true_eq]; exact q1]
          have q3 : (((pD ps k).length : Int) != 64) = true := by rw [bne_iff_ne]; intro e; exact hok ⟨q1.1, q1.2, by omega⟩
          clear hok q1
          go_wp2
          go_ret
          exact ⟨ret_bool HN.out.symm, B2.out⟩
        · rw [show decide (0 ≤ pB ps k ∧ pB ps k < (m : Int)) = false by rw [decide_eq_false_iff_not]; exact q1]
          clear hok q1
          go_wp2
          go_ret
          exact ⟨ret_bool HN.out.symm, B2.out⟩
    · have HY : Hid (vldD dl ps = true) := vldD_yes ⟨H1.out, by rw [HM.out]; exact H2.out.1, by rw [HM.out]; exact H2.out.2, by rw [HL.out]; omega, fun i hi => by rw [HM.out]; exact HOK.out i (by rw [HL.out] at hi; omega)⟩
      have hltI : ¬ (k : Int) < (n : Int) := by omega
      have HG : Hid (Below w.heap.size w wr) := hg
      clear hg
      go_wp2
      go_ret
      exact ⟨ret_bool HY.out.symm, HG.out⟩

theorem implValid_any (w : World) (va vb : Option Addr) (dl ca n cb : Nat) (ps : List (Int × List Int)) (hp : RdW w (.slice vb n cb) ps) (hl : ps.length = n) (hd : dl ≤ 1048576) (hn : n ≤ 1048576) (hdl : ∀ i, (pD ps i).length ≤ 1048576) :
    Calls Tryd.prog 100 #[.agg #[.slice va dl ca, .slice vb n cb]] w fun e w' => e = .returned (.bool (vldD dl ps)) ∧ Below w.heap.size w w' := by
  by_cases h : dl % 64 = 0 ∧ 1 ≤ dl / 64 ∧ dl / 64 ≤ 300 ∧ n ≤ 2000
  · exact implValid_loop w va vb dl ca n cb ps hp hl hd h.1 h.2.1 h.2.2.1 h.2.2.2 hdl
  · rw [vldD_no (fun h5 => h ⟨h5.1, h5.2.1, h5.2.2.1, by have := h5.2.2.2.1; omega⟩)]
    exact implValid_head w va vb dl ca n cb hd hn h

end Go.Proofs.YtcopcegamadkgaaDoor

namespace Go.Proofs.YtcopcegamadkgaaDoor
open Go.RowKit

/-- Only blocks from lo to hi may have turned. -/
structure Within (lo hi : Nat) (w w' : World) : Prop where
  os : w'.os = w.os
  tape : w'.tape = w.tape
  output : w'.output = w.output
  size : w.heap.size ≤ w'.heap.size
  block : ∀ k, k < w.heap.size → (k < lo ∨ hi ≤ k) → w'.heap[k]? = w.heap[k]?

theorem Within.refl (lo hi : Nat) (w : World) : Within lo hi w w := ⟨rfl, rfl, rfl, Nat.le_refl _, fun _ _ _ => rfl⟩
theorem Within.trans {lo hi : Nat} {a b c : World} (h : Within lo hi a b) (k : Within lo hi b c) : Within lo hi a c :=
  ⟨k.os.trans h.os, k.tape.trans h.tape, k.output.trans h.output, Nat.le_trans h.size k.size, fun i hi hj => (k.block i (Nat.lt_of_lt_of_le hi h.size) hj).trans (h.block i hi hj)⟩
theorem Within.of_grown {lo hi : Nat} {a b : World} {row : Option Nat} (h : a.grownBy b row) (hr : ∀ g, row = some g → lo ≤ g ∧ g < hi) : Within lo hi a b :=
  ⟨h.os, h.tape, h.output, h.size, fun k hk hj => h.block k hk (fun e => by have := hr k e.symm; omega)⟩
theorem Within.setCell {lo hi g : Nat} (w : World) (h1 : lo ≤ g) (h2 : g < hi) (j : Nat) (u : Value) : Within lo hi w (w.setCell ⟨g, j, none⟩ u) :=
  Within.of_grown (grownBy_set w w g j u (World.grownBy.refl _ _)) (fun q e => by injection e with e; omega)
theorem Within.below {lo hi B : Nat} {a b c : World} (hb : Below B a b) (h : Within lo hi b c) (hB : B ≤ lo) (hs : B ≤ b.heap.size) : Below B a c :=
  ⟨h.os.trans hb.os, h.tape.trans hb.tape, h.output.trans hb.output, Nat.le_trans hb.size h.size, fun k hk => (h.block k (by omega) (.inl (by omega))).trans (hb.block k hk)⟩
theorem Within.own {lo hi : Nat} {a b : World} (h : Within lo hi a b) {k : IntKind} {e : TypeId} {B : Nat} {v : Value} {xs : List Int} (ho : Own k e a B v xs) (hv : ∀ g, v.ownBlock = some g → g < lo ∨ hi ≤ g) : Own k e b B v xs := by
  refine ⟨ho.1, ?_⟩
  rcases ho.2 with hn | ⟨g, cap, cur, rfl, hbg, hgg, rest⟩
  · exact .inl hn
  · exact .inr ⟨g, cap, cur, rfl, hbg, by rw [h.block g (Array.getElem?_eq_some_iff.1 hgg).1 (hv g rfl)]; exact hgg, rest⟩
/-- A disk of the call's own: its bytes in blocks from lo to mid, its records from mid to hi. -/
structure OwnD (w : World) (lo hi : Nat) (vd vp : Value) (dur : List Int) (ps : List (Int × List Int)) (dv : Nat → Value) : Prop where
  d : Own .u8 5 w lo vd dur
  p : OwnW 131 w lo vp ps dv
  dlt : ∀ g, vd.ownBlock = some g → g < hi
  plt : ∀ g, vp.ownBlock = some g → g < hi
  qlt : ∀ i, i < ps.length → ∀ g, (dv i).ownBlock = some g → g < hi
  dp : Ne2 vp vd
  dq : ∀ i, i < ps.length → Ne2 (dv i) vd

theorem OwnD.below {w w' : World} {lo hi : Nat} {vd vp : Value} {dur : List Int} {ps : List (Int × List Int)} {dv : Nat → Value} (ho : OwnD w lo hi vd vp dur ps dv) (hb : Below w.heap.size w w') : OwnD w' lo hi vd vp dur ps dv :=
  ⟨ho.d.below hb, ho.p.below hb, ho.dlt, ho.plt, ho.qlt, ho.dp, ho.dq⟩

end Go.Proofs.YtcopcegamadkgaaDoor

namespace Go.Proofs.YtcopcegamadkgaaDoor
open Go.RowKit

theorem cells_list {k : IntKind} {w : World} {b o : Nat} {xs : List Int} (hc : ∀ i, i < xs.length → w.cell? ⟨b, o + i, none⟩ = some (.int k (xs.getD i 0))) : ∀ j u, (xs.map (Value.int k))[j]? = some u → w.cell? ((⟨b, o, none⟩ : Addr).add j) = some u := by
  intro j u hu
  have hj : j < xs.length := by have := (List.getElem?_eq_some_iff.1 hu).1; simpa using this
  rw [Addr.add_lit, hc j hj]
  simp [List.getElem?_eq_getElem hj] at hu
  simp [List.getD, hj, hu]

set_option maxHeartbeats 400000 in
set_option maxRecDepth 100000 in
theorem clone_any (w : World) (v : Value) (xs : List Int) (h : Rd .u8 w v xs) (hn : xs.length ≤ 1099511627776) :
    Calls Tryd.prog 134 #[v] w fun e w' => ∃ v', e = .returned v' ∧ Own .u8 5 w' w.heap.size v' xs ∧ Below w.heap.size w w' := by
  obtain ⟨i0, hi, hz0, hz1, hz2⟩ := info_parts Tryd.infoB
  obtain ⟨ao, cap, rfl, h1, h2, h3⟩ := h
  have q22 : ∀ (w : World) (a : Option Addr) (n c n' c' : Nat), (binOp .eql 24 (.slice a n c) (.slice none n' c')).run Tryd.prog w = .ok (.bool a.isNone) w := fun w a n c n' c' => Lib.run_eql_slice_nil w _ _ a n c n' c' Tryd.underlying24
  have HE : Hid ((w.alloc (.cells #[] 5)).ownsRow w.heap.size 5 1 (.slice (some ⟨w.heap.size, 0, none⟩) 0 0) 0 []) := World.ownsRow_lit w #[] 0 (Nat.le_refl _) (Nat.zero_le _) rfl
  have HB : Hid (Below w.heap.size w (w.alloc (.cells #[] 5))) := (Below.refl _ _).alloc (Nat.le_refl _) _
  cases ao with
  | none =>
    have hx : xs = [] := by
      rcases h3 with h3 | ⟨b, o, e, _⟩
      · exact h3
      · cases e
    subst hx
    clear h3
    go_enter Tryd.func134, Tryd.ntmps134
    go_wp2
    go_ret
    exact ⟨_, rfl, World.ownsRow_nil _ _ _ _, Below.refl _ _⟩
  | some a =>
    have hcs : ∀ j u, (xs.map (Value.int .u8))[j]? = some u → (w.alloc (.cells #[] 5)).cell? (a.add j) = some u := by
      rcases h3 with rfl | ⟨b, o, e, hb, hc⟩
      · intro j u hu; simp at hu
      · injection e with e
        subst e
        exact cells_list (fun i hi => (HB.out.cell (p := ⟨b, o + i, none⟩) hb).trans (hc i hi))
    have HCS : Hid (∀ j u, (xs.map (Value.int .u8))[j]? = some u → (w.alloc (.cells #[] 5)).cell? (a.add j) = some u) := hcs
    clear h3 hcs
    go_enter Tryd.func134, Tryd.ntmps134
    go_wp2_with (at_builtin; go_must (refine wpList_append_own _ rfl _ _ 24 rfl w.heap.size 5 i0 (.int .u8 0) 1 1 Tryd.underlying24 hi hz0 hz1 hz2 rfl (by decide) _ _ _ rfl HE.out a xs.length cap (xs.map (Value.int .u8)) rfl ?c0 HCS.out (ints_oneCell _ _) ?c3 ?c4 ?c5 ?_))
    case c0 => simp
    case c3 => unfold maxLen; omega
    case c4 => omega
    case c5 => simp
    intro v2 w2 ho2 hg2 _
    have HO2 : Hid (Own .u8 5 w2 w.heap.size v2 xs) := by
      exact ho2
    have HG2 : Hid (Below w.heap.size w w2) := HB.out.grown hg2 (by simp) (by intro q hq; simp [Value.ownBlock] at hq; omega)
    clear ho2 hg2
    go_wp2
    go_ret
    exact ⟨_, rfl, HO2.out, HG2.out⟩

end Go.Proofs.YtcopcegamadkgaaDoor

namespace Go.Proofs.YtcopcegamadkgaaDoor
open Go.RowKit

/-- A local struct of two cells that may be written. -/
def BoxF (w : World) (b : Nat) (x y : Value) : Prop := Box2 w b x y ∧ w.frozen? ⟨b, 0, none⟩ = false ∧ w.frozen? ⟨b, 1, none⟩ = false
theorem BoxF.below {w w' : World} {b : Nat} {x y : Value} (h : BoxF w b x y) (hb : Below w.heap.size w w') : BoxF w' b x y :=
  ⟨h.1.below hb, (hb.frozen (p := ⟨b, 0, none⟩) h.1.1).trans h.2.1, (hb.frozen (p := ⟨b, 1, none⟩) h.1.1).trans h.2.2⟩
theorem BoxF.new (w : World) (x y : Value) (t : TypeId) : BoxF (w.alloc (.cells #[x, y] t)) w.heap.size x y := ⟨Box2.new _ _ _ _, by simp, by simp⟩
theorem BoxF.belowB {w w' : World} {b B : Nat} {x y : Value} (h : BoxF w b x y) (hb : Below B w w') (hB : b < B) : BoxF w' b x y :=
  ⟨⟨Nat.lt_of_lt_of_le h.1.1 hb.size, (hb.cell (p := ⟨b, 0, none⟩) hB).trans h.1.2.1, (hb.cell (p := ⟨b, 1, none⟩) hB).trans h.1.2.2⟩, (hb.frozen (p := ⟨b, 0, none⟩) hB).trans h.2.1, (hb.frozen (p := ⟨b, 1, none⟩) hB).trans h.2.2⟩

theorem RdW.recAt {w : World} {ao : Option Addr} {n cap k : Nat} {ps : List (Int × List Int)} (h : RdW w (.slice ao n cap) ps) (hl : ps.length = n) (hk : k < n) : ∃ b o, ao = some ⟨b, o, none⟩ ∧ b < w.heap.size ∧
    w.cell? ⟨b, o + k * 2, none⟩ = some (.int .i64 (pB ps k)) ∧ ∃ da c, w.cell? ⟨b, o + k * 2 + 1, none⟩ = some (.slice da (pD ps k).length c) ∧ Rd .u8 w (.slice da (pD ps k).length c) (pD ps k) := by
  obtain ⟨ao', cap', e, h1, h2, h3⟩ := h
  simp only [Value.slice.injEq] at e
  obtain ⟨rfl, _, rfl⟩ := e
  rcases h3 with rfl | ⟨b, o, rfl, hb, hc⟩
  · simp at hl; omega
  · obtain ⟨c1, da, c, c2, r⟩ := hc k (by omega)
    exact ⟨b, o, rfl, hb, c1, da, c, c2, r⟩

/-- What the rounds of a copy have made so far. -/
def Made (w : World) (lo g k cap : Nat) (ps : List (Int × List Int)) (dv : Nat → Value) : Prop :=
  w.ownsRow lo 131 2 (.slice (some ⟨g, 0, none⟩) k cap) k (rowW k (pB ps) dv) ∧ (∀ i, i < k → Own .u8 5 w (g + 1) (dv i) (pD ps i)) ∧ (∀ i j, i < k → j < k → i ≠ j → Ne2 (dv i) (dv j))

theorem Made.below {w w' : World} {lo g k cap : Nat} {ps : List (Int × List Int)} {dv : Nat → Value} (h : Made w lo g k cap ps dv) (hb : Below w.heap.size w w') : Made w' lo g k cap ps dv :=
  ⟨World.ownsRow.kept h.1 (row := none) ⟨hb.os, hb.tape, hb.output, hb.size, fun q hq _ => hb.block q hq⟩ (.inr (by simp [Value.ownBlock])), fun i hi => (h.2.1 i hi).below hb, h.2.2⟩

theorem OwnD.mono {w : World} {lo lo' hi hi' : Nat} {vd vp : Value} {dur : List Int} {ps : List (Int × List Int)} {dv : Nat → Value} (ho : OwnD w lo hi vd vp dur ps dv) (hl : lo' ≤ lo) (hh : hi ≤ hi') : OwnD w lo' hi' vd vp dur ps dv :=
  ⟨ho.d.mono hl, ho.p.mono hl, fun g hg => Nat.lt_of_lt_of_le (ho.dlt g hg) hh, fun g hg => Nat.lt_of_lt_of_le (ho.plt g hg) hh, fun i hi g hg => Nat.lt_of_lt_of_le (ho.qlt i hi g hg) hh, ho.dp, ho.dq⟩

theorem pB_app (ps : List (Int × List Int)) (p : Int × List Int) (i : Nat) (h : i < ps.length) : pB (ps ++ [p]) i = pB ps i := by unfold pB; simp [List.getD, List.getElem?_append_left h]
theorem pD_app (ps : List (Int × List Int)) (p : Int × List Int) (i : Nat) (h : i < ps.length) : pD (ps ++ [p]) i = pD ps i := by unfold pD; simp [List.getD, List.getElem?_append_left h]
theorem pB_last (ps : List (Int × List Int)) (p : Int × List Int) : pB (ps ++ [p]) ps.length = p.1 := by unfold pB; simp [List.getD]
theorem pD_last (ps : List (Int × List Int)) (p : Int × List Int) : pD (ps ++ [p]) ps.length = p.2 := by unfold pD; simp [List.getD]

end Go.Proofs.YtcopcegamadkgaaDoor

namespace Go.Proofs.YtcopcegamadkgaaDoor
open Go.RowKit

/-- What a read of block b gives after the first k pending writes. -/
def rdv (dur : List Int) (ps : List (Int × List Int)) (b : Nat) : Nat → List Int
  | 0 => (dur.drop (b * 64)).take 64
  | k + 1 => if pB ps k = b then pD ps k else rdv dur ps b k

end Go.Proofs.YtcopcegamadkgaaDoor

namespace Go.Proofs.YtcopcegamadkgaaDoor
open Go.RowKit

theorem there_new (w : World) (cs : Array Value) (t : TypeId) (n : Nat) (hn : cs.size = n) : (w.alloc (.cells cs t)).there w.heap.size 0 n := by
  intro j hj
  subst hn
  rw [Nat.zero_add]
  have h := cell_of_row (w.alloc (.cells cs t)) w.heap.size j cs t (0, 0) (heap_alloc_new w _)
  refine ⟨by rw [h]; simp [hj], by simp⟩

end Go.Proofs.YtcopcegamadkgaaDoor

namespace Go.Proofs.YtcopcegamadkgaaDoor
open Go.RowKit

theorem splice_get {α : Type} (L : List α) (off : Nat) (cs : List α) (h : off + cs.length ≤ L.length) (j : Nat) :
    (splice L off cs)[j]? = if j < off then L[j]? else if j < off + cs.length then cs[j - off]? else L[j]? := by
  unfold splice
  have hl : (L.take off).length = off := by rw [List.length_take]; omega
  by_cases h1 : j < off
  · rw [if_pos h1, List.getElem?_append_left (by omega), List.getElem?_take_of_lt h1]
  · rw [if_neg h1, List.getElem?_append_right (by omega), hl]
    by_cases h2 : j < off + cs.length
    · rw [if_pos h2, List.getElem?_append_left (by omega)]
    · rw [if_neg h2, List.getElem?_append_right (by omega), List.getElem?_drop]
      congr 1
      omega

theorem splice_map {α β : Type} (f : α → β) (L : List α) (off : Nat) (cs : List α) : (splice L off cs).map f = splice (L.map f) off (cs.map f) := by
  simp [splice, List.map_take, List.map_drop]

theorem splice_nil {α : Type} (L : List α) (off : Nat) : splice L off [] = L := by simp [splice]

/-- The durable bytes when the first k pending writes have come, each with so many of its first bytes. -/
def stl (dur : List Int) (ps : List (Int × List Int)) (c : Nat → Nat) : Nat → List Int
  | 0 => dur
  | k + 1 => splice (stl dur ps c k) ((pB ps k).toNat * 64) ((pD ps k).take (c k))

theorem vld_at {dl : Nat} {ps : List (Int × List Int)} (h : vldD dl ps = true) (k : Nat) (hk : k < ps.length) : ∃ b : Nat, pB ps k = b ∧ b * 64 + 64 ≤ dl ∧ b ≤ 300 ∧ (pD ps k).length = 64 := by
  obtain ⟨h1, h2, h3, h4, h5⟩ := (vldD_iff dl ps).1 h
  obtain ⟨k1, k2, k3⟩ := h5 k hk
  exact ⟨(pB ps k).toNat, by omega, by omega, by omega, k3⟩

theorem stl_len (dur : List Int) (ps : List (Int × List Int)) (c : Nat → Nat) (h : vldD dur.length ps = true) : ∀ k, k ≤ ps.length → (stl dur ps c k).length = dur.length
  | 0, _ => rfl
  | k + 1, hk => by
    have ih := stl_len dur ps c h k (by omega)
    obtain ⟨b, hb, hb2, _, hd⟩ := vld_at h k (by omega)
    rw [stl, length_splice, ih]
    rw [hb, Int.toNat_natCast, List.length_take, ih, hd]
    omega

def syD (dur : List Int) (ps : List (Int × List Int)) : List Int := if vldD dur.length ps then stl dur ps (fun _ => 64) ps.length else []

end Go.Proofs.YtcopcegamadkgaaDoor

namespace Go.Proofs.YtcopcegamadkgaaDoor
open Go.RowKit


theorem step_copy_grown {P : Program} {ops : Array Oper} {o : Oper} {a : Act} {w : World} {K : Act → World → Prop} {Q : Exit → Act → World → Prop} {E : Prop} (hgd : o.guard = none) (d s : Operand) (dT sT : TypeId)
    (ho : o.op = .call { callee := .builtin .copy, args := #[d, s], argTypes := #[dT, sT] }) (elem : TypeId) (hu : P.underlying dT = some (.slice elem)) (hsz : (P.info? elem).map (·.size) = some 1)
    (dp sp : Option Addr) (dLen dCap sLen sCap : Nat) (hd : a.eval d = .slice dp dLen dCap) (hs : a.eval s = .slice sp sLen sCap)
    (g off : Nat) (cur : List Value) (t : TypeId) (hg : w.heap[g]? = some (.cells cur.toArray t (0, 0))) (cs : List Value) (hn : cs.length = Nat.min sLen dLen)
    (hpos : 0 < cs.length → dp = some ⟨g, off, none⟩ ∧ ∃ ad, sp = some ad ∧ ∀ j v, cs[j]? = some v → w.cell? (ad.add j) = some v)
    (hfit : off + cs.length ≤ cur.length) (h1 : ∀ v ∈ cs, v.oneCell' = true)
    (h : ∀ w', Hid (w'.heap[g]? = some (.cells (splice cur off cs).toArray t (0, 0))) → Hid (w.grownBy w' (some g)) → K (a.put o.dst (goInt cs.length)) w') :
    if Region.wanted o (yielded ops a.tmps) = true then Oper.wp P o a w K Q else E := by
  have hw : Region.wanted o (yielded ops a.tmps) = true := by simp [Region.wanted, hgd]
  rw [if_pos hw]
  by_cases h0 : cs.length = 0
  · obtain rfl : cs = [] := List.eq_nil_of_length_eq_zero h0
    have hrun := run_copy_none (P := P) w dT sT o.type elem dp sp dLen dCap sLen sCap hu hsz (by simpa using hn.symm)
    unfold Oper.wp
    simp [execOp, ho, resolve, invoke, builtin, hd, hs, hrun, Result.andThen]
    exact h w (show _ = _ by simpa [splice] using hg) (World.grownBy.refl _ _)
  · obtain ⟨rfl, ad, rfl, hsrc⟩ := hpos (by omega)
    have hrun := run_copy_row (P := P) w dT sT o.type elem g off dLen dCap ad sLen sCap cur.toArray t cs hu hsz hg hn hsrc (by simpa using hfit) h1
    unfold Oper.wp
    simp [execOp, ho, resolve, invoke, builtin, hd, hs, hrun, Result.andThen]
    exact h _ (show _ = _ by simpa [splice] using setRow_heap w g _ _ t _ hg) (show World.grownBy _ _ _ from ⟨rfl, rfl, rfl, by simp [World.setRow], fun k _ hne => setRow_other w g k _ (fun e => hne (by rw [e]))⟩)

theorem sizeA (n : Nat) (h : n = 64) : (Tryd.prog.info? 77).map (·.size) = some n := by subst h; kernel_rfl

theorem sizeB : (Tryd.prog.info? 5).map (·.size) = some 1 := by kernel_rfl


set_option maxHeartbeats 400000 in
set_option maxRecDepth 100000 in
theorem setBlock_any (w : World) (base g dl cap b : Nat) (D C : List Int) (ho : Own .u8 5 w base (.slice (some ⟨g, 0, none⟩) dl cap) D) (hD : D.length = dl) (hC : C.length = 64) (hb : b * 64 + 64 ≤ dl) (hd1 : dl ≤ 1048576) :
    Calls Tryd.prog 45 #[.slice (some ⟨g, 0, none⟩) dl cap, .int .i64 b, .agg (C.map (Value.int .u8)).toArray] w fun e w' => e = .returned (.tuple #[]) ∧ Own .u8 5 w' base (.slice (some ⟨g, 0, none⟩) dl cap) (splice D (b * 64) C) ∧ w.grownBy w' (some g) := by
  obtain ⟨X, hX⟩ : ∃ X, X = C.map (Value.int .u8) := ⟨_, rfl⟩
  rw [← hX]
  have HX : Hid (X.length = 64) := by subst hX; show _ = _; simpa using hC
  have HX1 : Hid (∀ v ∈ X, v.oneCell' = true) := by subst hX; exact ints_oneCell _ _
  have HO : Hid (Own .u8 5 w base (.slice (some ⟨g, 0, none⟩) dl cap) D) := ho
  obtain ⟨cur, hgb, hcur, hcap, hcm, htake⟩ : ∃ cur : Array Value, w.heap[g]? = some (.cells cur 5 (0, 0)) ∧ cur.size = cap ∧ dl ≤ cap ∧ cap ≤ maxLen ∧ cur.toList.take dl = D.map (Value.int .u8) := by
    rcases ho.2 with ⟨h, -⟩ | ⟨g', cap', cur, e, -, h2, h3, h4, h5, h6⟩
    · simp at h
    · simp only [Value.slice.injEq, Option.some.injEq, Addr.mk.injEq] at e
      obtain ⟨⟨rfl, -⟩, -, rfl⟩ := e
      rw [hD] at h3 h6
      rw [Nat.mul_one] at h5 h6
      exact ⟨cur, h2, h5, h3, h4, h6⟩
  have hgz : g < w.heap.size := (Array.getElem?_eq_some_iff.1 hgb).1
  have HGB : Hid (w.heap[g]? = some (.cells cur 5 (0, 0))) := hgb
  have HCUR : Hid (cur.size = cap) := hcur
  have HBASE : Hid (base ≤ g) := (World.ownsRow.lt ho g rfl).1
  have HFIN : Hid ((splice cur.toList (b * 64) X).take dl = (splice D (b * 64) C).map (Value.int .u8) ∧ (splice D (b * 64) C).length = dl ∧ (splice cur.toList (b * 64) X).length = cap) := by
    have hcl : cur.toList.length = cap := by simpa using hcur
    have hxl : X.length = 64 := HX.out
    refine ⟨?_, by rw [length_splice _ _ _ (by omega), hD], by rw [length_splice _ _ _ (by omega), hcl]⟩
    rw [splice_map, ← htake, ← hX]
    apply List.ext_getElem?
    intro j
    rw [splice_get _ _ _ (by rw [List.length_take]; omega), List.getElem?_take]
    by_cases hj : j < dl
    · rw [if_pos hj, splice_get _ _ _ (by omega), List.getElem?_take_of_lt hj]
    · rw [if_neg hj, if_neg (by omega), if_neg (by omega), List.getElem?_take, if_neg hj]
  unfold maxLen at hcm
  clear hX hC ho hgb htake hcur
  go_enter Tryd.func45, Tryd.ntmps45
  go_wp2_with fail
  have GA : Hid ((w.alloc (.cells X.toArray 77)).heap[g]? = some (.cells cur.toList.toArray 5 (0, 0))) := by
    show _ = _
    rw [Below.heap_alloc _ _ _ hgz, Array.toArray_toList]; exact HGB.out
  have CX : Hid (∀ (j : Nat) (v : Value), X[j]? = some v → (w.alloc (.cells X.toArray 77)).cell? ((⟨w.heap.size, 0, none⟩ : Addr).add j) = some v) := by
    intro j v h
    rw [Addr.add_lit, Nat.zero_add, cell_of_row _ _ j _ _ _ (heap_alloc_new w _)]
    simpa using h
  have hbI : ((b * 64 : Nat) : Int) ≤ (dl : Int) := by omega
  have hbI2 : (b : Int) * 64 ≤ (dl : Int) := by omega
  have hwr : IntKind.i64.wrap ((b : Int) * 64) = ((b * 64 : Nat) : Int) := by rw [IntKind.wrap_i64]; omega
  have hnc : ¬ cap = b * 64 := by omega
  have hb0 : (0 : Int) ≤ (b : Int) * 64 := by omega
  have htn : ((b : Int) * 64).toNat = b * 64 := by omega
  have hgr : w.grownBy (w.alloc (.cells X.toArray 77)) (some g) := World.grownBy_alloc _ _ _
  have HGR : Hid (w.grownBy (w.alloc (.cells X.toArray 77)) (some g)) := hgr
  clear hgr
  generalize w.alloc (.cells X.toArray 77) = W0 at *
  go_region_law (refine step_copy_grown rfl (.tmp 9) (.tmp 10) 24 24 rfl 5 Tryd.underlying24 sizeB _ _ _ _ _ _ rfl rfl g (b * 64) cur.toList 5 GA.out X (by rw [HX.out]; exact (Nat.min_eq_left (show 64 ≤ dl - b * 64 by omega)).symm) (fun _ => ⟨rfl, ⟨w.heap.size, 0, none⟩, rfl, CX.out⟩) (by rw [HX.out, Array.length_toList, HCUR.out]; omega) HX1.out ?_; intro w4 hg4 hb4)
  go_wp2
  go_end0
  refine ⟨rfl, ?_, ?_⟩
  · refine ⟨by rw [HFIN.out.2.1]; simpa using HFIN.out.2.1, .inr ⟨g, cap, (splice cur.toList (b * 64) X).toArray, ?_, HBASE.out, hg4.out, by rw [HFIN.out.2.1]; exact hcap, hcm, ?_, ?_⟩⟩
    · rw [HFIN.out.2.1]
    · simpa using HFIN.out.2.2
    · rw [HFIN.out.2.1, Nat.mul_one]; exact HFIN.out.1
  · exact HGR.out.trans (show W0.grownBy w4 (some g) from ⟨hb4.out.os, hb4.out.tape, hb4.out.output, hb4.out.size, hb4.out.block⟩)

end Go.Proofs.YtcopcegamadkgaaDoor

namespace Go.Proofs.YtcopcegamadkgaaDoor
open Go.RowKit

/-- The cells of a table's rows. -/
def rowT (rs : List (Int × List Int)) : List Value := rs.flatMap fun r => .int .i64 r.1 :: r.2.map (Value.int .u8)
theorem rowT_app (a b : List (Int × List Int)) : rowT (a ++ b) = rowT a ++ rowT b := by simp [rowT]
theorem rowT_one (x : Int) (V : List Int) : rowT [(x, V)] = .int .i64 x :: V.map (Value.int .u8) := by simp [rowT]

theorem rowT_len : ∀ (rs : List (Int × List Int)), (∀ i, i < rs.length → (pD rs i).length = 64) → (rowT rs).length = rs.length * 65
  | [], _ => rfl
  | r :: rs, h => by
    have h0 : r.2.length = 64 := h 0 (by simp)
    have ih := rowT_len rs (fun i hi => h (i + 1) (by simp; omega))
    have e : rowT (r :: rs) = rowT [(r.1, r.2)] ++ rowT rs := by simp [rowT]
    rw [e, List.length_append, ih, rowT_one]
    simp [h0]; omega

theorem pD_take (rs : List (Int × List Int)) (i k : Nat) (h : i < k) : pD (rs.take k) i = pD rs i := by unfold pD; simp [List.getD, List.getElem?_take_of_lt h]

theorem rs_split (rs : List (Int × List Int)) (i : Nat) (hi : i < rs.length) : rs = rs.take i ++ ((pB rs i, pD rs i) :: rs.drop (i + 1)) := by
  have e : (pB rs i, pD rs i) = rs[i] := by unfold pB pD; simp [List.getD, hi]
  rw [e]
  conv => lhs; rw [← List.take_append_drop i rs]
  rw [List.drop_eq_getElem_cons hi]

theorem rowT_split (rs : List (Int × List Int)) (i : Nat) (hi : i < rs.length) : rowT rs = rowT (rs.take i) ++ (.int .i64 (pB rs i) :: ((pD rs i).map (Value.int .u8) ++ rowT (rs.drop (i + 1)))) := by
  conv => lhs; rw [rs_split rs i hi]
  rw [rowT_app]
  congr 1

theorem rowT_pre (rs : List (Int × List Int)) (i : Nat) (hi : i ≤ rs.length) (h : ∀ i, i < rs.length → (pD rs i).length = 64) : (rowT (rs.take i)).length = i * 65 := by
  rw [rowT_len _ (fun j hj => by rw [List.length_take] at hj; rw [pD_take _ _ _ (by omega)]; exact h j (by omega)), List.length_take, Nat.min_eq_left hi]

/-- The key of a row, and its value. -/
theorem rowT_key (rs : List (Int × List Int)) (i : Nat) (hi : i < rs.length) (h : ∀ i, i < rs.length → (pD rs i).length = 64) : (rowT rs)[i * 65]? = some (.int .i64 (pB rs i)) := by
  rw [rowT_split rs i hi, List.getElem?_append_right (by rw [rowT_pre rs i (by omega) h]; exact Nat.le_refl _), rowT_pre rs i (by omega) h]
  simp

theorem rowT_val (rs : List (Int × List Int)) (i : Nat) (hi : i < rs.length) (h : ∀ i, i < rs.length → (pD rs i).length = 64) (j : Nat) (u : Value) (hu : ((pD rs i).map (Value.int .u8))[j]? = some u) : (rowT rs)[i * 65 + 1 + j]? = some u := by
  have hj : j < (pD rs i).length := by have := (List.getElem?_eq_some_iff.1 hu).1; simpa using this
  rw [rowT_split rs i hi, List.getElem?_append_right (by rw [rowT_pre rs i (by omega) h]; omega), rowT_pre rs i (by omega) h, show i * 65 + 1 + j - i * 65 = j + 1 by omega, List.getElem?_cons_succ, List.getElem?_append_left (by simpa using hj)]
  exact hu

theorem set_split (rs : List (Int × List Int)) (i : Nat) (hi : i < rs.length) (r : Int × List Int) : rs.set i r = rs.take i ++ (r :: rs.drop (i + 1)) := by
  rw [List.set_eq_take_append_cons_drop, if_pos hi]

theorem rowT_set (rs : List (Int × List Int)) (i : Nat) (hi : i < rs.length) (h : ∀ i, i < rs.length → (pD rs i).length = 64) (V : List Int) (hV : V.length = 64) :
    rowT (rs.set i (pB rs i, V)) = splice (rowT rs) (i * 65 + 1) (V.map (Value.int .u8)) := by
  have hp := rowT_pre rs i (by omega) h
  have hd := h i hi
  rw [set_split rs i hi, rowT_app]
  have e1 : rowT ((pB rs i, V) :: rs.drop (i + 1)) = .int .i64 (pB rs i) :: (V.map (Value.int .u8) ++ rowT (rs.drop (i + 1))) := by simp [rowT]
  rw [e1, rowT_split rs i hi]
  generalize rowT (rs.take i) = A at *
  generalize rowT (rs.drop (i + 1)) = B at *
  have hO : ((pD rs i).map (Value.int .u8)).length = 64 := by simpa using hd
  have hV' : (V.map (Value.int .u8)).length = 64 := by simpa using hV
  generalize (pD rs i).map (Value.int .u8) = O at *
  generalize V.map (Value.int .u8) = V' at *
  generalize Value.int .i64 (pB rs i) = x at *
  unfold splice
  have t1 : (A ++ x :: (O ++ B)).take (i * 65 + 1) = A ++ [x] := by
    rw [List.take_append, List.take_of_length_le (by omega), show i * 65 + 1 - A.length = 1 by omega]; rfl
  have t2 : (A ++ x :: (O ++ B)).drop (i * 65 + 1 + V'.length) = B := by
    rw [List.drop_append, List.drop_eq_nil_of_le (by omega), show i * 65 + 1 + V'.length - A.length = 64 + 1 by omega, List.drop_succ_cons, List.drop_append, List.drop_eq_nil_of_le (by omega), show 64 - O.length = 0 by omega]
    simp
  rw [t1, t2]
  simp

theorem pB_set (rs : List (Int × List Int)) (i j : Nat) (hi : i < rs.length) (V : List Int) : pB (rs.set i (pB rs i, V)) j = pB rs j := by
  unfold pB
  simp only [List.getD, List.getElem?_set]
  by_cases e : i = j
  · subst e; simp [hi]
  · simp [e]
theorem pD_set (rs : List (Int × List Int)) (i j : Nat) (hi : i < rs.length) (V : List Int) : pD (rs.set i (pB rs i, V)) j = if j = i then V else pD rs j := by
  unfold pD
  simp only [List.getD, List.getElem?_set]
  by_cases e : i = j
  · subst e; simp [hi]
  · rw [if_neg e, if_neg (fun h => e h.symm)]

/-- One put. -/
def Put (rs : List (Int × List Int)) (x : Int) (V : List Int) (rs' : List (Int × List Int)) : Prop :=
  (∃ i, i < rs.length ∧ pB rs i = x ∧ rs' = rs.set i (pB rs i, V)) ∨ ((∀ i, i < rs.length → pB rs i ≠ x) ∧ rs' = rs ++ [(x, V)])

/-- The table after the first k pending writes. -/
def TabOf (dur : List Int) (ps : List (Int × List Int)) (k : Nat) (rs : List (Int × List Int)) : Prop :=
  (∀ b : Nat, (∀ i, i < rs.length → pB rs i = b → rdv dur ps b k = pD rs i) ∧ ((∀ i, i < rs.length → pB rs i ≠ b) → rdv dur ps b k = rdv dur ps b 0)) ∧
  (∀ i, i < rs.length → ∃ b : Nat, pB rs i = b ∧ b * 64 + 64 ≤ dur.length ∧ b ≤ 300)

theorem tabOf_nil (dur : List Int) (ps : List (Int × List Int)) : TabOf dur ps 0 [] := ⟨fun b => ⟨fun i hi => by simp at hi, fun _ => rfl⟩, fun i hi => by simp at hi⟩

theorem rdv_at (dur : List Int) (ps : List (Int × List Int)) (b k : Nat) (h : pB ps k = b) : rdv dur ps b (k + 1) = pD ps k := by unfold rdv; rw [if_pos h]
theorem rdv_off (dur : List Int) (ps : List (Int × List Int)) (b k : Nat) (h : ¬ pB ps k = b) : rdv dur ps b (k + 1) = rdv dur ps b k := by rw [rdv, if_neg h]

theorem tabOf_put (dur : List Int) (ps rs rs' : List (Int × List Int)) (k : Nat) (ht : TabOf dur ps k rs) (hk : ∃ b : Nat, pB ps k = b ∧ b * 64 + 64 ≤ dur.length ∧ b ≤ 300)
    (hap : ∀ i j, i < rs.length → j < rs.length → pB rs i = pB rs j → i = j) (h : Put rs (pB ps k) (pD ps k) rs') : TabOf dur ps (k + 1) rs' := by
  obtain ⟨h1, h2⟩ := ht
  rcases h with ⟨i, hi, hx, rfl⟩ | ⟨hno, rfl⟩
  · have hl : (rs.set i (pB rs i, pD ps k)).length = rs.length := List.length_set ..
    refine ⟨fun b => ⟨fun j hj hb => ?_, fun hb => ?_⟩, fun j hj => ?_⟩
    · rw [hl] at hj
      rw [pB_set rs i j hi] at hb
      rw [pD_set rs i j hi]
      by_cases e : j = i
      · subst e; rw [if_pos rfl]; exact rdv_at dur ps b k (by rw [← hx]; exact hb)
      · rw [if_neg e, rdv_off dur ps b k (fun e' => e (hap j i hj hi (by rw [hb, hx, e'])))]
        exact (h1 b).1 j hj hb
    · have hb' : ∀ j, j < rs.length → pB rs j ≠ b := fun j hj => by have := hb j (by rw [hl]; exact hj); rw [pB_set rs i j hi] at this; exact this
      rw [rdv_off dur ps b k (fun e => hb' i hi (by rw [hx, e]))]
      exact (h1 b).2 hb'
    · rw [hl] at hj
      rw [pB_set rs i j hi]
      exact h2 j hj
  · have hl : (rs ++ [(pB ps k, pD ps k)]).length = rs.length + 1 := by simp
    refine ⟨fun b => ⟨fun j hj hb => ?_, fun hb => ?_⟩, fun j hj => ?_⟩
    · rw [hl] at hj
      by_cases e : j = rs.length
      · subst e
        rw [pB_last] at hb
        rw [pD_last]; exact rdv_at dur ps b k hb
      · rw [pB_app _ _ _ (by omega)] at hb
        rw [pD_app _ _ _ (by omega), rdv_off dur ps b k (fun e' => hno j (by omega) (by rw [hb, e']))]
        exact (h1 b).1 j (by omega) hb
    · have hn := hb rs.length (by rw [hl]; omega)
      rw [pB_last] at hn
      rw [rdv_off dur ps b k hn]
      exact (h1 b).2 (fun j hj => by have := hb j (by rw [hl]; omega); rw [pB_app _ _ _ hj] at this; exact this)
    · rw [hl] at hj
      by_cases e : j = rs.length
      · subst e; rw [pB_last]; exact hk
      · rw [pB_app _ _ _ (by omega)]; exact h2 j (by omega)

/-- What a table's map says. -/
def MF (D : DataW Unit) (rs : List (Int × List Int)) : Prop :=
  (∀ x : Int, Maps.has D (.int .i64 x) = true ↔ ∃ i, i < rs.length ∧ pB rs i = x) ∧ ∀ i, i < rs.length → ∀ z, D.atKey (.int .i64 (pB rs i)) z = .lit (.int .i64 i)

theorem MF.set {D : DataW Unit} {rs : List (Int × List Int)} (h : MF D rs) (i : Nat) (hi : i < rs.length) (V : List Int) : MF D (rs.set i (pB rs i, V)) := by
  have hl : (rs.set i (pB rs i, V)).length = rs.length := List.length_set ..
  refine ⟨fun x => ?_, fun j hj z => ?_⟩
  · rw [h.1 x, hl]
    constructor
    · rintro ⟨j, hj, e⟩; exact ⟨j, hj, by rw [pB_set rs i j hi]; exact e⟩
    · rintro ⟨j, hj, e⟩; rw [pB_set rs i j hi] at e; exact ⟨j, hj, e⟩
  · rw [hl] at hj; rw [pB_set rs i j hi]; exact h.2 j hj z

theorem MF.snoc {D : DataW Unit} {rs : List (Int × List Int)} (h : MF D rs) (hD : Maps.IsMap D) (x : Int) (V : List Int) (hno : ∀ i, i < rs.length → pB rs i ≠ x) : MF (D.put (.int .i64 x) (.lit (.int .i64 (rs.length : Int)))) (rs ++ [(x, V)]) := by
  have hl : (rs ++ [(x, V)]).length = rs.length + 1 := by simp
  refine ⟨fun y => ?_, fun j hj z => ?_⟩
  · by_cases e : y = x
    · subst e
      rw [Maps.has_put_same (k := .int .i64 y) hD trivial]
      exact ⟨fun _ => ⟨rs.length, by rw [hl]; omega, pB_last _ _⟩, fun _ => rfl⟩
    · rw [Maps.has_put_other (by intro h; injection h; contradiction), h.1 y, hl]
      constructor
      · rintro ⟨j, hj, e'⟩; exact ⟨j, by omega, by rw [pB_app _ _ _ hj]; exact e'⟩
      · rintro ⟨j, hj, e'⟩
        by_cases ej : j = rs.length
        · subst ej; rw [pB_last] at e'; exact absurd e'.symm e
        · rw [pB_app _ _ _ (by omega)] at e'; exact ⟨j, by omega, e'⟩
  · rw [hl] at hj
    by_cases ej : j = rs.length
    · subst ej; rw [pB_last]; exact Maps.atKey_put_same (k := .int .i64 x) hD trivial _ _
    · rw [pB_app _ _ _ (by omega), Maps.atKey_put_other (by intro h'; injection h' with _ h'; exact hno j (by omega) h')]
      exact h.2 j (by omega) z

end Go.Proofs.YtcopcegamadkgaaDoor

namespace Go.Proofs.YtcopcegamadkgaaDoor
open Go.RowKit

/-- A table of the call's own: its struct lies in block tb, its map in block mb. -/
structure Tab (w : World) (lo tb mb : Nat) (v : Value) (rs : List (Int × List Int)) : Prop where
  box : BoxF w tb v (.map (some mb))
  rows : w.ownsRow lo 221 65 v rs.length (rowT rs)
  map : ∃ D : DataW Unit, w.ownsMap Tryd.prog 2 (plainElem Tryd.prog 3) mb rs.length D ∧ MF D rs
  full : ∀ i, i < rs.length → (pD rs i).length = 64
  apart : ∀ i j, i < rs.length → j < rs.length → pB rs i = pB rs j → i = j
  lot : lo ≤ tb
  lom : lo ≤ mb
  ne : tb ≠ mb
  vt : v.ownBlock ≠ some tb
  vm : v.ownBlock ≠ some mb

theorem Tab.below {w w' : World} {lo tb mb : Nat} {v : Value} {rs : List (Int × List Int)} (h : Tab w lo tb mb v rs) (hb : Below w.heap.size w w') : Tab w' lo tb mb v rs := by
  have G : w.grownBy w' none := ⟨hb.os, hb.tape, hb.output, hb.size, fun q hq _ => hb.block q hq⟩
  obtain ⟨D, hD, hM⟩ := h.map
  refine ⟨h.box.below hb, World.ownsRow.kept h.rows G ?_, ⟨D, hD.kept G (by simp), hM⟩, h.full, h.apart, h.lot, h.lom, h.ne, h.vt, h.vm⟩
  cases v.ownBlock with
  | none => exact .inl rfl
  | some q => exact .inr (by simp)

theorem lawK : Maps.Keyed Tryd.prog 2 := Maps.int_keyed Tryd.underlying2
theorem zeroInt (w : World) : (zeroValue 3).run Tryd.prog w = .ok (.int .i64 0) w := by kernel_rfl
theorem infoT : (Tryd.prog.info? 221).map (fun i => (i.size, i.bytes)) = some (65, 72) := by kernel_rfl

set_option maxHeartbeats 400000 in
theorem newTable_any (w : World) : Calls Tryd.prog 152 #[] w fun e w' => e = .returned (.pointer (some ⟨w.heap.size + 1, 0, none⟩)) ∧ Tab w' w.heap.size (w.heap.size + 1) w.heap.size (.slice none 0 0) [] ∧ Below w.heap.size w w' := by
  have hmm := @run_makeMap Tryd.prog
  go_enter Tryd.func152, Tryd.ntmps152
  go_wp2
  go_ret
  have B1 : Below w.heap.size w (w.alloc (.map #[] 0)) := (Below.refl _ _).alloc (Nat.le_refl _) _
  have hbx := BoxF.new (w.alloc (.map #[] 0)) (.slice none 0 0) (.map (some w.heap.size)) 219
  rw [World.size_alloc] at hbx
  refine ⟨rfl, ⟨hbx, World.ownsRow_nil _ _ _ _, ⟨.map [], (World.ownsMap_made w Tryd.prog _ _).alloc _, ⟨fun x => ⟨fun h => by simp [Maps.has] at h, fun ⟨i, hi, _⟩ => by simp at hi⟩, fun i hi => by simp at hi⟩⟩, fun i hi => by simp at hi, fun i j hi => by simp at hi, by omega, Nat.le_refl _, by omega, by simp [Value.ownBlock], by simp [Value.ownBlock]⟩, B1.alloc B1.size _⟩

theorem range_new (w : World) (cs : Array Value) (t : TypeId) : (w.alloc (.cells cs t)).rangeAt w.heap.size 0 cs.toList := by
  intro j v hv
  rw [Nat.zero_add, cell_of_row _ _ j cs t (0, 0) (heap_alloc_new w _)]
  simpa using hv

theorem Tab.form {w : World} {lo tb mb : Nat} {v : Value} {rs : List (Int × List Int)} (h : Tab w lo tb mb v rs) (h0 : 0 < rs.length) : ∃ g cap, v = .slice (some ⟨g, 0, none⟩) rs.length cap ∧ lo ≤ g ∧ g < w.heap.size ∧ rs.length ≤ cap ∧ cap ≤ maxLen := by
  rcases h.rows.2 with ⟨-, h1⟩ | ⟨g, cap, cur, rfl, hb, hg, h2, h3, -⟩
  · omega
  · exact ⟨g, cap, rfl, hb, (Array.getElem?_eq_some_iff.1 hg).1, h2, h3⟩

theorem Tab.range {w : World} {lo tb mb g cap i : Nat} {rs : List (Int × List Int)} (h : Tab w lo tb mb (.slice (some ⟨g, 0, none⟩) rs.length cap) rs) (hi : i < rs.length) : w.rangeAt g (i * 65 + 1) ((pD rs i).map (Value.int .u8)) := by
  intro j u hu
  have hj : j < 64 := by have := (List.getElem?_eq_some_iff.1 hu).1; simpa [h.full i hi] using this
  rw [World.ownsRow.cellAt h.rows (i * 65 + 1 + j) (by omega)]
  exact rowT_val rs i hi h.full j u hu



end Go.Proofs.YtcopcegamadkgaaDoor

namespace Go.Proofs.YtcopcegamadkgaaDoor
open Go.RowKit

theorem Own.spot {w : World} {base g n cap j : Nat} {xs : List Int} (h : Own .u8 5 w base (.slice (some ⟨g, 0, none⟩) n cap) xs) (hn : xs.length = n) (hj : j < n) : (∃ c, w.cell? ⟨g, j, none⟩ = some c) ∧ w.frozen? ⟨g, j, none⟩ = false := by
  unfold Own at h
  rw [hn] at h
  exact ⟨⟨_, (World.ownsRow.cellAt h j (by omega)).trans (List.getElem?_eq_getElem (by simpa [hn] using hj))⟩, World.ownsRow.frozenAt h j⟩

theorem Own.pos {w : World} {base n : Nat} {v : Value} {xs : List Int} (h : Own .u8 5 w base v xs) (hn : xs.length = n) (h0 : 0 < n) : ∃ g cap, v = .slice (some ⟨g, 0, none⟩) n cap ∧ base ≤ g ∧ g < w.heap.size := by
  subst hn
  rcases h.2 with ⟨-, h1⟩ | ⟨g, cap, cur, rfl, hb, hg, -⟩
  · omega
  · exact ⟨g, cap, rfl, hb, (Array.getElem?_eq_some_iff.1 hg).1⟩

theorem Rd.cellAt {k : IntKind} {w : World} {ao : Option Addr} {n cap i : Nat} {xs : List Int} (h : Rd k w (.slice ao n cap) xs) (hl : xs.length = n) (hi : i < n) : ∃ b o, ao = some ⟨b, o, none⟩ ∧ b < w.heap.size ∧ w.cell? ⟨b, o + i, none⟩ = some (.int k (xs.getD i 0)) := by
  obtain ⟨ao', cap', e, h1, h2, h3⟩ := h
  simp only [Value.slice.injEq] at e
  obtain ⟨rfl, _, rfl⟩ := e
  rcases h3 with rfl | ⟨b, o, rfl, hb, hc⟩
  · simp at hl; omega
  · exact ⟨b, o, rfl, hb, hc i (by omega)⟩

theorem BoxF.other {w w' : World} {b : Nat} {x y : Value} {row : Option Nat} (h : BoxF w b x y) (hg : w.grownBy w' row) (hne : some b ≠ row) : BoxF w' b x y :=
  ⟨h.1.other hg hne, (hg.frozen_far ⟨b, 0, none⟩ h.1.1 hne).trans h.2.1, (hg.frozen_far ⟨b, 1, none⟩ h.1.1 hne).trans h.2.2⟩


end Go.Proofs.YtcopcegamadkgaaDoor

namespace Go.Proofs.YtcopcegamadkgaaDoor
open Go.RowKit

theorem wf_small (x : Int) (h0 : 0 ≤ x) (h : x ≤ 1048576) : (Lit.int .i64 x).wf = true := by
  have := wrap64_wf x
  rw [show wrap64 x = x by unfold wrap64; omega] at this
  exact this

theorem Rd.span {k : IntKind} {w : World} {b o n cap : Nat} {xs : List Int} (h : Rd k w (.slice (some ⟨b, o, none⟩) n cap) xs) (hl : xs.length = n) (h0 : 0 < n) : b < w.heap.size ∧ w.rangeAt b o (xs.map (Value.int k)) := by
  obtain ⟨b', o', e, hb, -⟩ := h.cellAt hl h0
  injection e with e
  injection e with e1 e2 _
  subst e1; subst e2
  refine ⟨hb, fun j v hv => ?_⟩
  have hj : j < xs.length := by have := (List.getElem?_eq_some_iff.1 hv).1; simpa using this
  obtain ⟨b', o', e, -, hc⟩ := h.cellAt hl (show j < n by omega)
  injection e with e
  injection e with e1 e2 _
  subst e1; subst e2
  rw [hc]
  simp [List.getElem?_eq_getElem hj] at hv
  simp [List.getD, hj, hv]

theorem rangeAt_blk {w w' : World} {b o : Nat} {cs : List Value} (h : w.rangeAt b o cs) (hc : w'.heap[b]? = w.heap[b]?) : w'.rangeAt b o cs := fun j v hv => (World.cell?_of_block (w := w) (a := ⟨b, o + j, none⟩) hc).trans (h j v hv)

theorem fill_step {place : Nat → Option (Nat × Nat)} {cells : Array Value} {i off : Nat} {v : Value} {rest : List (Nat × Value)} (hp : place i = some (off, v.cells.size)) (hs : off + v.cells.size ≤ cells.size) :
    Instr.fill place cells ((i, v) :: rest) = Instr.fill place ((v.cells.toList.zipIdx 0).foldl (fun cs (x : Value × Nat) => cs.setIfInBounds (off + x.2) x.1) cells) rest := by
  conv => lhs; unfold Instr.fill
  simp only [hp]
  rw [if_neg (by simp; omega)]
  congr 1
  rw [← Array.foldl_toList, Array.toList_zipIdx]

theorem fill_row (x : Int) (V : List Value) (hV : V.length = 64) (z : Array Value) (hz : z.size = 65) :
    Instr.fill (#[(0, 1), (1, 64)][·]?) z [(0, .int .i64 x), (1, .agg V.toArray)] = some (Value.int .i64 x :: V).toArray := by
  have s1 : (Value.int .i64 x).cells.size = 1 := rfl
  have s2 : (Value.agg V.toArray).cells.size = 64 := by show V.toArray.size = 64; simpa using hV
  obtain ⟨g1, g2⟩ := Great.foldl_set 0 (Value.int .i64 x).cells.toList 0 z
  rw [fill_step (by rw [s1]; rfl) (by rw [s1]; omega), fill_step (by rw [s2]; rfl) (by rw [s2, g1]; omega)]
  obtain ⟨k1, k2⟩ := Great.foldl_set 1 (Value.agg V.toArray).cells.toList 0 ((Value.int .i64 x).cells.toList.zipIdx 0 |>.foldl (fun cs (y : Value × Nat) => cs.setIfInBounds (0 + y.2) y.1) z)
  unfold Instr.fill
  congr 1
  apply Array.ext_getElem?
  intro k
  have hl : (Value.agg V.toArray).cells.toList.length = 64 := by rw [Array.length_toList]; exact s2
  have hl1 : (Value.int .i64 x).cells.toList.length = 1 := rfl
  rw [k2 k, g1, hz, hl, g2 k, hl1, hz]
  have e : (Value.agg V.toArray).cells.toList = V := by show V.toArray.toList = V; simp
  have eA : (Value.int .i64 x :: V).toArray[k]? = (Value.int .i64 x :: V)[k]? := by simp
  rw [e, eA]
  by_cases h0 : k = 0
  · subst h0; rfl
  · by_cases h1 : k < 65
    · rw [if_pos (by omega)]
      obtain ⟨j, rfl⟩ : ∃ j, k = j + 1 := ⟨k - 1, by omega⟩
      rw [List.getElem?_cons_succ, show j + 1 - (1 + 0) = j by omega]
    · rw [if_neg (by omega), if_neg (by omega), List.getElem?_eq_none (by rw [List.length_cons, hV]; omega), Array.getElem?_eq_none (by omega)]

theorem built_of {P : Program} {t : TypeId} {z : Value} {places : List (Nat × Nat)} {parts : List (Nat × Value)} {cells : Array Value}
    (h : (match P.info? t, P.underlying t with
      | some it, some (.struct fields) => (it.zero, fields.toList.mapM (fun f => (P.info? f.type).map fun i => (f.offset, i.size)))
      | _, _ => (none, none)) = (some z, some places)) (hf : Instr.fill (places.toArray[·]?) z.cells parts = some cells) : P.built t parts = some cells := by
  unfold Program.built
  cases h1 : P.info? t with
  | none => simp [h1] at h
  | some it =>
    cases h2 : P.underlying t with
    | none => simp [h1, h2] at h
    | some d =>
      cases d <;> try (simp [h1, h2] at h; done)
      case struct fields =>
        simp only [h1, h2, Prod.mk.injEq] at h
        simp only [h.1, h.2]
        exact hf

def zT : Value := .agg (Value.int .i64 0 :: List.replicate 64 (.int .u8 0)).toArray
theorem zT_size : zT.cells.size = 65 := by decide +kernel
theorem infoT2 : (Tryd.prog.info? 221).map (fun i => (i.zero, i.size, i.bytes)) = some (some zT, 65, 72) := by kernel_rfl

theorem built_row (x : Int) (V : List Value) (hV : V.length = 64) : Tryd.prog.built 221 [(0, .int .i64 x), (1, .agg V.toArray)] = some (Value.int .i64 x :: V).toArray :=
  built_of (z := zT) (places := [(0, 1), (1, 64)]) (by kernel_rfl) (fill_row x V hV _ zT_size)

theorem runBuild_row (w : World) (x : Int) (V : List Value) (hV : V.length = 64) : (Instr.build 221 #[(0, .int .i64 x), (1, .agg V.toArray)]).run Tryd.prog w = .ok (.agg (Value.int .i64 x :: V).toArray) w :=
  run_build w _ _ _ (built_row x V hV)

theorem runSlice_row (w : World) (x : Int) (V : List Value) (hV : V.length = 64) : (Instr.buildSlice 216 1 #[(0, .agg (Value.int .i64 x :: V).toArray)]).run Tryd.prog w = .ok (.slice (some ⟨w.heap.size, 0, none⟩) 1 1) (w.alloc (.cells (Value.int .i64 x :: V).toArray 221)) := by
  obtain ⟨i0, hi, hz0, hz1, hz2⟩ := info_parts infoT2
  have hs : (Value.agg (Value.int .i64 x :: V).toArray).cells.size = 65 := by show (Value.int .i64 x :: V).toArray.size = 65; simp [hV]
  refine run_buildSlice w _ _ 1 _ _ i0 zT Tryd.underlying216 hi hz0 (by rw [hz1]; omega) (by rw [hz1]; omega) ?_
  have := Great.fill_whole (s := 65) (by omega) [.agg (Value.int .i64 x :: V).toArray] ((Array.range (1 * 65)).map (zT.cells[· % zT.cells.size]!)) (by intro v hv; simp at hv; subst hv; exact hs) (by simp)
  rw [hz1]
  simp at this
  simp
  exact this

theorem step_store_mid {P : Program} {ops : Array Oper} {o : Oper} {a : Act} {w : World} {K : Act → World → Prop} {Q : Exit → Act → World → Prop} {E : Prop} (hgd : o.guard = none) (ty : TypeId) (x y : Operand) (ho : o.op = .store ty x y)
    (b off : Nat) (cells : Array Value) (hx : a.eval x = .pointer (some ⟨b, off, none⟩)) (hy : a.eval y = .agg cells) (ht : w.there b off cells.size) (hi : (P.info? ty).map (·.size) = some cells.size) (h1 : cells.all (·.oneCell') = true)
    (h : K (a.put o.dst undef) (w.setCells b off cells.toList)) : if Region.wanted o (yielded ops a.tmps) = true then Oper.wp P o a w K Q else E := by
  rw [if_pos (by simp [Region.wanted, hgd])]
  exact wp_store_mid ty x y ho b off cells hx hy ht hi h1 h

theorem step_mapUpdate_own {H : Type} {P : Program} {w : World} {ops : Array Oper} {o : Oper} {a : Act} {K' : Act → World → Prop} {Q : Exit → Act → World → Prop} {E : Prop}
    (hg : o.guard = none) (m x v : Operand) (t : TypeId) (hop : o.op = Op.mapUpdate t m x v)
    (k e : TypeId) (K : Maps.Keyed P k) (ht : P.underlying t = some (.map k e)) (R : Value → Option (DataW H × List MemPlace)) (b n : Nat) (D : DataW H)
    (hm : a.eval m = .map (some b)) (hown : w.ownsMap P k R b n D) (hn : n < maxLen) (key val : Value) (kl : Lit) (hx : a.eval x = key) (hv : a.eval v = val) (hkey : keyOf P k key = some kl)
    (d : DataW H) (ps : List MemPlace) (hval : R val = some (d, ps))
    (hK : ∀ w', w'.ownsMap P k R b (n + 1) (D.put kl d) → w.grownBy w' (some b) → K' (a.put o.dst undef) w') :
    if Region.wanted o (yielded ops a.tmps) = true then Oper.wp P o a w K' Q else E := by
  rw [if_pos (by simp [Region.wanted, hg])]
  obtain ⟨w', hrun, r1, r2⟩ := hown.update K ht hn hkey hval
  unfold Oper.wp
  simp [execOp, hop, hm, hx, hv, hrun, Result.andThen]
  exact hK w' r1 r2

theorem splice_cons {α : Type} (L : List α) (o : Nat) (v : α) (vs : List α) (h : o + (vs.length + 1) ≤ L.length) : splice (L.set o v) (o + 1) vs = splice L o (v :: vs) := by
  apply List.ext_getElem?
  intro j
  rw [splice_get _ _ _ (by simp; omega), splice_get _ _ _ (by simp; omega)]
  simp only [List.length_cons, List.getElem?_set]
  by_cases h1 : j < o
  · rw [if_pos (by omega), if_pos h1, if_neg (by omega)]
  · rw [if_neg h1]
    by_cases h2 : j = o
    · subst h2; rw [if_pos (by omega), if_pos rfl, if_pos (by omega), if_pos (by omega)]; simp
    · rw [if_neg (by omega)]
      by_cases h3 : j < o + 1 + vs.length
      · rw [if_pos h3, if_pos (by omega)]
        obtain ⟨i, rfl⟩ : ∃ i, j = o + 1 + i := ⟨j - (o + 1), by omega⟩
        rw [show o + 1 + i - (o + 1) = i by omega, show o + 1 + i - o = i + 1 by omega, List.getElem?_cons_succ]
      · rw [if_neg h3, if_neg (by omega), if_neg (by omega)]

theorem ownsRow_setCells {base g n cap size : Nat} {e : TypeId} : ∀ (vs : List Value) (o : Nat) (w : World) (xs : List Value), w.ownsRow base e size (.slice (some ⟨g, 0, none⟩) n cap) n xs → o + vs.length ≤ xs.length →
    (w.setCells g o vs).ownsRow base e size (.slice (some ⟨g, 0, none⟩) n cap) n (splice xs o vs) ∧ w.grownBy (w.setCells g o vs) (some g)
  | [], o, w, xs, h, _ => by rw [splice_nil]; exact ⟨h, World.grownBy.refl _ _⟩
  | v :: vs, o, w, xs, h, hl => by
    have h1 := (World.ownsRow.stored h o v).1
    obtain ⟨r1, r2⟩ := ownsRow_setCells vs (o + 1) (w.setCell ⟨g, o, none⟩ v) (xs.set o v) h1 (by simp at hl ⊢; omega)
    rw [World.setCells, ← splice_cons xs o v vs (by simpa using hl)]
    exact ⟨r1, World.grownBy.trans (grownBy_set w w g o v (World.grownBy.refl _ _)) r2⟩

/-- A row's value is written. -/
theorem Tab.set {w : World} {lo tb mb g cap i : Nat} {rs : List (Int × List Int)} (h : Tab w lo tb mb (.slice (some ⟨g, 0, none⟩) rs.length cap) rs) (hi : i < rs.length) (V : List Int) (hV : V.length = 64) :
    Tab (w.setCells g (i * 65 + 1) (V.map (Value.int .u8))) lo tb mb (.slice (some ⟨g, 0, none⟩) rs.length cap) (rs.set i (pB rs i, V)) ∧ w.grownBy (w.setCells g (i * 65 + 1) (V.map (Value.int .u8))) (some g) := by
  have hlen := rowT_len rs h.full
  have hl : (rs.set i (pB rs i, V)).length = rs.length := List.length_set ..
  obtain ⟨r1, r2⟩ := ownsRow_setCells (V.map (Value.int .u8)) (i * 65 + 1) w (rowT rs) h.rows (by rw [hlen, List.length_map, hV]; omega)
  obtain ⟨D, hD, hM⟩ := h.map
  refine ⟨⟨h.box.other r2 (fun e => h.vt e.symm), by rw [hl, rowT_set rs i hi h.full V hV]; exact r1, ⟨D, by rw [hl]; exact hD.kept r2 (fun e => h.vm e.symm), hM.set i hi V⟩, fun j hj => ?_, fun j k hj hk e => ?_, h.lot, h.lom, h.ne, h.vt, h.vm⟩, r2⟩
  · rw [hl] at hj
    rw [pD_set rs i j hi]
    split
    · exact hV
    · exact h.full j hj
  · rw [hl] at hj hk
    rw [pB_set rs i j hi, pB_set rs i k hi] at e
    exact h.apart j k hj hk e

theorem step_buildSlice_row {ops : Array Oper} {o : Oper} {a : Act} {w : World} {K : Act → World → Prop} {Q : Exit → Act → World → Prop} {E : Prop} (hgd : o.guard = none) (y : Operand) (ho : o.op = .buildSlice 216 1 #[(0, y)])
    (x : Int) (V : List Value) (hV : V.length = 64) (hy : a.eval y = .agg (Value.int .i64 x :: V).toArray) (h : K (a.put o.dst (.slice (some ⟨w.heap.size, 0, none⟩) 1 1)) (w.alloc (.cells (Value.int .i64 x :: V).toArray 221))) :
    if Region.wanted o (yielded ops a.tmps) = true then Oper.wp Tryd.prog o a w K Q else E := by
  rw [if_pos (by simp [Region.wanted, hgd])]
  have hrun := runSlice_row w x V hV
  unfold Oper.wp execOp
  simp only [ho, List.map_toArray, List.map_cons, List.map_nil, hy, Sem.run_bind, hrun, Result.andThen_ok]
  exact h

/-- A row more. -/
theorem Tab.snoc {W0 W1 w4 : World} {lo tb mb g cap vcap : Nat} {va : Option Addr} {rs : List (Int × List Int)} {x : Int} {Vb : List Int} {D : DataW Unit} {ob : Obj} (hT : Tab W0 lo tb mb (.slice va rs.length vcap) rs) (G1 : W0.grownBy W1 (some mb))
    (M1 : W1.ownsMap Tryd.prog 2 (plainElem Tryd.prog 3) mb (rs.length + 1) D) (hM : MF D (rs ++ [(x, Vb)])) (ho : w4.ownsRow lo 221 65 (.slice (some ⟨g, 0, none⟩) (rs.length + 1) cap) (rs.length + 1) (rowT rs ++ (.int .i64 x :: Vb.map (Value.int .u8))))
    (hg : (W1.alloc ob).grownBy w4 (Value.ownBlock (.slice va rs.length vcap))) (hat : Value.ownBlock (.slice va rs.length vcap) = some g ∨ g = W1.heap.size + 1) (hno : ∀ i, i < rs.length → pB rs i ≠ x) (hVb : Vb.length = 64) (hlo : lo ≤ W0.heap.size) :
    Tab (w4.setCell ⟨tb, 0, none⟩ (.slice (some ⟨g, 0, none⟩) (rs.length + 1) cap)) lo tb mb (.slice (some ⟨g, 0, none⟩) (rs.length + 1) cap) (rs ++ [(x, Vb)]) ∧ Below lo W0 (w4.setCell ⟨tb, 0, none⟩ (.slice (some ⟨g, 0, none⟩) (rs.length + 1) cap)) ∧ (∀ q, q < W0.heap.size → q ≠ tb → q ≠ mb → Value.ownBlock (.slice va rs.length vcap) ≠ some q → (w4.setCell ⟨tb, 0, none⟩ (.slice (some ⟨g, 0, none⟩) (rs.length + 1) cap)).heap[q]? = W0.heap[q]?) := by
  have G : W1.grownBy w4 (Value.ownBlock (.slice va rs.length vcap)) := World.grownBy.trans (World.grownBy_alloc W1 ob _) hg
  have ztb : tb < W0.heap.size := hT.box.1.1
  have s1 := G1.size
  have s4 := G.size
  have hmt : mb < W1.heap.size := M1.lt
  have hgt : g ≠ tb := by
    rcases hat with e | e
    · intro h; exact hT.vt (by rw [e, h])
    · omega
  have hgm : g ≠ mb := by
    rcases hat with e | e
    · intro h; exact hT.vm (by rw [e, h])
    · omega
  have hl : (rs ++ [(x, Vb)]).length = rs.length + 1 := by simp
  have b1 := hT.box.other G1 (by simpa using hT.ne)
  have b4 := b1.other G (fun e => hT.vt e.symm)
  obtain ⟨⟨z4, q0, q1⟩, f0, f1⟩ := b4
  refine ⟨⟨⟨⟨by simpa using z4, World.cell?_setCell_same _ _ _ q0, ?_⟩, by rw [World.frozen?_setCell]; exact f0, by rw [World.frozen?_setCell]; exact f1⟩, ?_, ⟨D, ?_, hM⟩, fun i hi => ?_, fun i j hi hj e => ?_, hT.lot, hT.lom, hT.ne, by simpa [Value.ownBlock] using hgt, by simpa [Value.ownBlock] using hgm⟩, ?_, fun q hq n1 n2 n3 => ?_⟩
  · rw [World.cell?_setCell_other _ _ _ _ (by simp)]; exact q1
  · rw [hl, rowT_app, rowT_one]
    exact World.ownsRow.kept ho (grownBy_set w4 w4 tb 0 _ (World.grownBy.refl _ _)) (.inr (by simpa [Value.ownBlock] using hgt))
  · rw [hl]
    exact (M1.kept G (fun e => hT.vm e.symm)).setCell (a := ⟨tb, 0, none⟩) (fun e => hT.ne e.symm) _
  · rw [hl] at hi
    by_cases e : i = rs.length
    · subst e; rw [pD_last]; exact hVb
    · rw [pD_app _ _ _ (by omega)]; exact hT.full i (by omega)
  · rw [hl] at hi hj
    by_cases ei : i = rs.length
    · by_cases ej : j = rs.length
      · omega
      · subst ei; rw [pB_last, pB_app _ _ _ (by omega)] at e; exact absurd e.symm (hno j (by omega))
    · by_cases ej : j = rs.length
      · subst ej; rw [pB_last, pB_app _ _ _ (by omega)] at e; exact absurd e (hno i (by omega))
      · rw [pB_app _ _ _ (by omega), pB_app _ _ _ (by omega)] at e; exact hT.apart i j (by omega) (by omega) e
  · have h1 : Below lo W0 W1 := (Below.refl _ _).grown G1 hlo (by intro q hq; simp at hq; subst hq; exact hT.lom)
    have h2 : Below lo W0 w4 := h1.grown G (by omega) (fun q hq => (World.ownsRow.lt hT.rows q hq).1)
    exact h2.setCell (p := ⟨tb, 0, none⟩) hT.lot _
  · rw [Below.heap_setCell _ _ _ _ (show q ≠ (⟨tb, 0, none⟩ : Addr).block from n1), G.block q (by omega) (fun e => n3 e.symm)]
    exact G1.block q hq (by simpa using n2)

end Go.Proofs.YtcopcegamadkgaaDoor

namespace Go.Proofs.YtcopcegamadkgaaDoor
open Go.RowKit

set_option maxHeartbeats 2000000 in
set_option maxRecDepth 100000 in
theorem put_yes (w : World) (lo tb mb : Nat) (v : Value) (rs : List (Int × List Int)) (x : Int) (Vb : List Int) (i : Nat) (ht : Tab w lo tb mb v rs) (hi : i < rs.length) (hx : pB rs i = x) (hwx : (Lit.int .i64 x).wf = true) (hVb : Vb.length = 64) :
    Calls Tryd.prog 153 #[.pointer (some ⟨tb, 0, none⟩), .int .i64 x, .agg (Vb.map (Value.int .u8)).toArray] w fun e w' => e = .returned (.tuple #[]) ∧ Tab w' lo tb mb v (rs.set i (pB rs i, Vb)) ∧ Below lo w w' ∧ (∀ q, q < w.heap.size → q ≠ tb → q ≠ mb → v.ownBlock ≠ some q → w'.heap[q]? = w.heap[q]?) := by
  obtain ⟨g, cap, rfl, hg1, hg2, hc1, hc2⟩ := ht.form (by omega)
  obtain ⟨D, hD, hM⟩ := ht.map
  obtain ⟨⟨zt, c0, c1⟩, -⟩ := ht.box
  have hhas : Maps.has D (.int .i64 x) = true := (hM.1 x).2 ⟨i, hi, hx⟩
  have HAT : Hid (∀ z, D.atKey (.int .i64 x) z = .lit (.int .i64 i)) := by intro z; rw [← hx]; exact hM.2 i hi z
  have hkey := Maps.keyOf_int_mk (P := Tryd.prog) Tryd.underlying2 hwx
  obtain ⟨V, hV⟩ : ∃ V, V = Vb.map (Value.int .u8) := ⟨_, rfl⟩
  have HVL : Hid (V.length = 64) := by rw [hV]; show _ = _; rw [List.length_map]; exact hVb
  have HV1 : Hid (∀ v ∈ V, v.oneCell' = true) := by rw [hV]; exact ints_oneCell _ _
  rw [← hV]
  have hiI : (i : Int) < (rs.length : Int) := by omega
  unfold maxLen at hc2
  have BA : Hid (Below w.heap.size w (w.alloc (.cells V.toArray 77))) := (Below.refl _ _).alloc (Nat.le_refl _) _
  have TA : Hid (Tab (w.alloc (.cells V.toArray 77)) lo tb mb (.slice (some ⟨g, 0, none⟩) rs.length cap) rs) := ht.below BA.out
  have RB : Hid ((w.alloc (.cells V.toArray 77)).rangeAt w.heap.size 0 V) := by have := range_new w V.toArray 77; rw [List.toList_toArray] at this; exact this
  have HD : Hid ((w.alloc (.cells V.toArray 77)).ownsMap Tryd.prog 2 (plainElem Tryd.prog 3) mb rs.length D) := hD.alloc _
  have hlow : lo ≤ w.heap.size := by omega
  have FIN : Hid (∀ W, Tab W lo tb mb (.slice (some ⟨g, 0, none⟩) rs.length cap) rs → Below lo w W → Tab (W.setCells g (i * 65 + 1) V) lo tb mb (.slice (some ⟨g, 0, none⟩) rs.length cap) (rs.set i (pB rs i, Vb)) ∧ Below lo w (W.setCells g (i * 65 + 1) V) ∧ W.grownBy (W.setCells g (i * 65 + 1) V) (some g)) := by
    intro W hW hB
    have := hW.set hi Vb hVb
    rw [← hV] at this
    exact ⟨this.1, hB.grown this.2 (by have := hB.size; omega) (by intro q hq; simp at hq; omega), this.2⟩
  generalize hn : rs.length = n at *
  clear ht hD hM hx hV
  go_enter Tryd.func153, Tryd.ntmps153
  go_wp2_with (at_lookup; refine wpList_lookup_own_ok_int _ rfl _ _ 217 rfl 2 3 .i64 lawK Tryd.underlying217 Tryd.underlying3 (zeroInt _) mb n D rfl HD.out _ _ rfl hkey ?_)
  intro c hat hwc
  obtain rfl : c = (i : Int) := by have := HAT.out (.lit (.int .i64 0)); rw [hat] at this; simpa using this
  clear c0 c1 zt
  generalize w.alloc (.cells V.toArray 77) = W0 at *
  go_wp2_with fail
  have TH : Hid (W0.there g (i * 65 + 1) 64) := by
    intro j hj
    have hr := TA.out.rows
    have hfl := rowT_len rs TA.out.full
    rw [hn] at hr hfl
    exact ⟨by rw [World.ownsRow.cellAt hr (i * 65 + 1 + j) (by omega), List.getElem?_eq_getElem (by omega)]; rfl, World.ownsRow.frozenAt hr _⟩
  obtain ⟨⟨zt, c0, c1⟩, -⟩ := TA.out.box
  refine wp_region_held_drew (S := fun w' => w'.cell? ⟨tb, 0, none⟩ = some (.slice (some ⟨g, 0, none⟩) n cap) ∧ w'.rangeAt w.heap.size 0 V) (by kernel_rfl) ⟨c0, RB.out⟩ (fun hHeld => ?_)
  refine wpAnyH_take (i := 0) (oi := { dst := some 18, op := _, type := _, pos := _, after := _, guard := _ }) (v := (.pointer (some ⟨tb, 0, none⟩))) rfl (by kernel_rfl) (by kernel_rfl) (by kernel_rfl) (fun _ _ _ h => h) (Or.inl ⟨by rfl, fun w' hSw => ?_⟩) (by assumption) ?_
  · (try dsimp only at hSw)
    go_simp
  simp only [Act.put, List.setIfInBounds_toArray, List.set_cons_zero, List.set_cons_succ]
  refine wpAnyH_take (i := 1) (oi := { dst := some 19, op := _, type := _, pos := _, after := _, guard := _ }) (v := (.pointer (some ⟨tb, 0, none⟩))) rfl (by kernel_rfl) (by kernel_rfl) (by kernel_rfl) (fun _ _ _ h => h) (Or.inl ⟨by rfl, fun w' hSw => ?_⟩) (by assumption) ?_
  · (try dsimp only at hSw)
    go_simp
  simp only [Act.put, List.setIfInBounds_toArray, List.set_cons_zero, List.set_cons_succ]
  refine wpAnyH_take (i := 2) (oi := { dst := some 20, op := _, type := _, pos := _, after := _, guard := _ }) (v := (.pointer (some ⟨tb, 0, none⟩))) rfl (by kernel_rfl) (by kernel_rfl) (by kernel_rfl) (fun _ _ _ h => h) (Or.inl ⟨by rfl, fun w' hSw => ?_⟩) (by assumption) ?_
  · (try dsimp only at hSw)
    go_simp
  simp only [Act.put, List.setIfInBounds_toArray, List.set_cons_zero, List.set_cons_succ]
  refine wpAnyH_take (i := 3) (oi := { dst := some 21, op := _, type := _, pos := _, after := _, guard := _ }) (v := (.slice (some ⟨g, 0, none⟩) n cap)) rfl (by kernel_rfl) (by kernel_rfl) (by kernel_rfl) (fun _ _ _ h => h) (Or.inl ⟨by rfl, fun w' hSw => ?_⟩) (by assumption) ?_
  · (try dsimp only at hSw)
    go_simp
  simp only [Act.put, List.setIfInBounds_toArray, List.set_cons_zero, List.set_cons_succ]
  refine wpAnyH_take (i := 4) (oi := { dst := some 22, op := _, type := _, pos := _, after := _, guard := _ }) (v := (.int .i64 i)) rfl (by kernel_rfl) (by kernel_rfl) (by kernel_rfl) (fun _ _ _ h => h) (Or.inl ⟨by rfl, fun w' hSw => ?_⟩) (by assumption) ?_
  · (try dsimp only at hSw)
    go_simp
  simp only [Act.put, List.setIfInBounds_toArray, List.set_cons_zero, List.set_cons_succ]
  refine wpAnyH_take (i := 5) (oi := { dst := some 23, op := _, type := _, pos := _, after := _, guard := _ }) (v := .agg (V).toArray) rfl (by kernel_rfl) (by kernel_rfl) (by kernel_rfl) (fun _ _ _ h => h) (yieldsIf_load_mid (by rfl) _ _ rfl _ _ rfl V _ (fun w' hSw => hSw.2) Tryd.underlying77 rfl (sizeA _ HVL.out)) (by assumption) ?_
  simp only [Act.put, List.setIfInBounds_toArray, List.set_cons_zero, List.set_cons_succ]
  refine wpAnyH_take (i := 6) (oi := { dst := some 24, op := _, type := _, pos := _, after := _, guard := _ }) (v := (.pointer (some ⟨g, i * 65, none⟩))) rfl (by kernel_rfl) (by kernel_rfl) (by kernel_rfl) (fun _ _ _ h => h) (Or.inl ⟨by rfl, fun w' hSw => ?_⟩) (by assumption) ?_
  · (try dsimp only at hSw)
    go_simp
  simp only [Act.put, List.setIfInBounds_toArray, List.set_cons_zero, List.set_cons_succ]
  refine wpAnyH_take (i := 7) (oi := { dst := some 25, op := _, type := _, pos := _, after := _, guard := _ }) (v := (.pointer (some ⟨g, i * 65 + 1, none⟩))) rfl (by kernel_rfl) (by kernel_rfl) (by kernel_rfl) (fun _ _ _ h => h) (Or.inl ⟨by rfl, fun w' hSw => ?_⟩) (by assumption) ?_
  · (try dsimp only at hSw)
    go_simp
  simp only [Act.put, List.setIfInBounds_toArray, List.set_cons_zero, List.set_cons_succ]
  refine wpAnyH_ready (rs := [8]) (by kernel_rfl) (by simp) ?_
  refine AllReadyH.cons (o := { dst := none, op := _, type := _, pos := _, after := _, guard := _ }) rfl (fun K hK => ?_) AllReadyH.nil
  refine step_store_mid rfl 77 _ _ rfl g (i * 65 + 1) V.toArray rfl rfl ?t1 ?t2 (all_oneCell_toArray HV1.out) ?_
  case t1 =>
    have e : V.toArray.size = 64 := by rw [List.size_toArray]; exact HVL.out
    rw [e]; exact TH.out
  case t2 => rw [List.size_toArray]; exact sizeA _ HVL.out
  have hgt : g ≠ tb := fun e => TA.out.vt (by rw [e]; rfl)
  have FI := FIN.out W0.drew (TA.out.below (below_drewN' W0 1)) ((BA.out.mono hlow).trans ((below_drewN' W0 1).mono (by have := BA.out.size; omega)))
  rw [List.toList_toArray]
  refine hK.out _ _ ⟨?_, ?_⟩ (fun hHeld7 => ?_)
  · rw [World.cell?_setCells_out _ _ _ _ _ (fun h => absurd h (Ne.symm hgt))]; exact c0
  · exact World.rangeAt_setCells_apart (w := W0.drew) ((World.rangeAt_drew _ _ _ _).2 RB.out) _ _ _ (.inl (show w.heap.size ≠ g by omega))
  clear hK K hHeld
  refine wpAnyH_done (by kernel_rfl) ?_ _
  clear hHeld7 c0 c1
  go_wp2
  refine bodyPost_ret (results_none rfl _ _ _) rfl ⟨rfl, FI.1, FI.2.1, fun q hq n1 n2 n3 => (FI.2.2.block q (by have := BA.out.size; show q < W0.heap.size; omega) (fun e => n3 (by injection e with e; rw [e]; rfl))).trans (BA.out.block q hq)⟩

set_option maxHeartbeats 2000000 in
set_option maxRecDepth 100000 in
theorem put_no (w : World) (lo tb mb : Nat) (v : Value) (rs : List (Int × List Int)) (x : Int) (Vb : List Int) (ht : Tab w lo tb mb v rs) (hno : ∀ i, i < rs.length → pB rs i ≠ x) (hwx : (Lit.int .i64 x).wf = true) (hVb : Vb.length = 64) (hlen : rs.length ≤ 1048576) (hlow : lo ≤ w.heap.size) :
    Calls Tryd.prog 153 #[.pointer (some ⟨tb, 0, none⟩), .int .i64 x, .agg (Vb.map (Value.int .u8)).toArray] w fun e w' => e = .returned (.tuple #[]) ∧ (∃ v', Tab w' lo tb mb v' (rs ++ [(x, Vb)])) ∧ Below lo w w' ∧ (∀ q, q < w.heap.size → q ≠ tb → q ≠ mb → v.ownBlock ≠ some q → w'.heap[q]? = w.heap[q]?) := by
  obtain ⟨D, hD, hM⟩ := ht.map
  obtain ⟨⟨zt, c0, c1⟩, -⟩ := ht.box
  have hhas : Maps.has D (.int .i64 x) = false := by
    cases h : Maps.has D (.int .i64 x) with
    | false => rfl
    | true => obtain ⟨i, hi, e⟩ := (hM.1 x).1 h; exact absurd e (hno i hi)
  have hkey := Maps.keyOf_int_mk (P := Tryd.prog) Tryd.underlying2 hwx
  obtain ⟨i0, hi, hz0, hz1, hz2⟩ := info_parts infoT2
  obtain ⟨V, hV⟩ : ∃ V, V = Vb.map (Value.int .u8) := ⟨_, rfl⟩
  have HVL : Hid (V.length = 64) := by rw [hV]; show _ = _; rw [List.length_map]; exact hVb
  have HV1 : Hid (∀ v ∈ V, v.oneCell' = true) := by rw [hV]; exact ints_oneCell _ _
  have HVE : Hid (V = Vb.map (Value.int .u8)) := hV
  have HMN : Hid (MF (D.put (.int .i64 x) (.lit (.int .i64 (rs.length : Int)))) (rs ++ [(x, Vb)])) := hM.snoc hD.isMap x Vb hno
  have HNO : Hid (∀ i, i < rs.length → pB rs i ≠ x) := hno
  have HVB : Hid (Vb.length = 64) := hVb
  rw [← hV]
  have BA : Hid (Below w.heap.size w (w.alloc (.cells V.toArray 77))) := (Below.refl _ _).alloc (Nat.le_refl _) _
  have TA : Hid (Tab (w.alloc (.cells V.toArray 77)) lo tb mb v rs) := ht.below BA.out
  have RB : Hid ((w.alloc (.cells V.toArray 77)).rangeAt w.heap.size 0 V) := by have := range_new w V.toArray 77; rw [List.toList_toArray] at this; exact this
  have HD : Hid ((w.alloc (.cells V.toArray 77)).ownsMap Tryd.prog 2 (plainElem Tryd.prog 3) mb rs.length D) := hD.alloc _
  have sA : (w.alloc (.cells V.toArray 77)).heap.size = w.heap.size + 1 := by simp
  obtain ⟨va, vcap, rfl⟩ : ∃ a c, v = .slice a rs.length c := by
    rcases ht.rows.2 with ⟨rfl, h1⟩ | ⟨g, cap, cur, rfl, -⟩
    · exact ⟨none, 0, by rw [h1]⟩
    · exact ⟨_, _, rfl⟩
  have hvlt : ∀ q, Value.ownBlock (.slice va rs.length vcap) = some q → q < w.heap.size := fun q hq => (World.ownsRow.lt ht.rows q hq).2
  have HVLT : Hid (∀ q, Value.ownBlock (.slice va rs.length vcap) = some q → q < w.heap.size) := hvlt
  have zm : mb < w.heap.size := hD.lt
  clear ht hD hM hV hno hVb hvlt
  generalize hn : rs.length = n at *
  have HN : Hid (rs.length = n) := hn
  clear hn
  go_enter Tryd.func153, Tryd.ntmps153
  go_wp2_with (at_lookup; refine wpList_lookup_own_ok_int _ rfl _ _ 217 rfl 2 3 .i64 lawK Tryd.underlying217 Tryd.underlying3 (zeroInt _) mb n D rfl HD.out _ _ rfl hkey ?_)
  intro c hat hwc
  clear c0 c1
  generalize w.alloc (.cells V.toArray 77) = W0 at *
  go_wp2_with fail
  obtain ⟨⟨zt0, c0, c1⟩, f0, f1⟩ := TA.out.box
  refine wp_region_held_drew (S := fun w' => w'.cell? ⟨tb, 0, none⟩ = some (.slice va n vcap) ∧ w'.cell? ⟨tb, 1, none⟩ = some (.map (some mb))) (by kernel_rfl) ⟨c0, c1⟩ (fun hHeld => ?_)
  refine wpAnyH_take (i := 0) (oi := { dst := some 26, op := _, type := _, pos := _, after := _, guard := _ }) (v := (.pointer (some ⟨tb, 0, none⟩))) rfl (by kernel_rfl) (by kernel_rfl) (by kernel_rfl) (fun _ _ _ h => h) (Or.inl ⟨by rfl, fun w' hSw => ?_⟩) (by assumption) ?_
  · (try dsimp only at hSw)
    go_simp
  simp only [Act.put, List.setIfInBounds_toArray, List.set_cons_zero, List.set_cons_succ]
  refine wpAnyH_take (i := 1) (oi := { dst := some 27, op := _, type := _, pos := _, after := _, guard := _ }) (v := (.pointer (some ⟨tb, 0, none⟩))) rfl (by kernel_rfl) (by kernel_rfl) (by kernel_rfl) (fun _ _ _ h => h) (Or.inl ⟨by rfl, fun w' hSw => ?_⟩) (by assumption) ?_
  · (try dsimp only at hSw)
    go_simp
  simp only [Act.put, List.setIfInBounds_toArray, List.set_cons_zero, List.set_cons_succ]
  refine wpAnyH_take (i := 2) (oi := { dst := some 28, op := _, type := _, pos := _, after := _, guard := _ }) (v := (.pointer (some ⟨tb, 1, none⟩))) rfl (by kernel_rfl) (by kernel_rfl) (by kernel_rfl) (fun _ _ _ h => h) (Or.inl ⟨by rfl, fun w' hSw => ?_⟩) (by assumption) ?_
  · (try dsimp only at hSw)
    go_simp
  simp only [Act.put, List.setIfInBounds_toArray, List.set_cons_zero, List.set_cons_succ]
  refine wpAnyH_take (i := 3) (oi := { dst := some 29, op := _, type := _, pos := _, after := _, guard := _ }) (v := (.map (some mb))) rfl (by kernel_rfl) (by kernel_rfl) (by kernel_rfl) (fun _ _ _ h => h) (Or.inl ⟨by rfl, fun w' hSw => ?_⟩) (by assumption) ?_
  · (try dsimp only at hSw)
    go_simp
  simp only [Act.put, List.setIfInBounds_toArray, List.set_cons_zero, List.set_cons_succ]
  refine wpAnyH_take (i := 4) (oi := { dst := some 30, op := _, type := _, pos := _, after := _, guard := _ }) (v := (.int .i64 x)) rfl (by kernel_rfl) (by kernel_rfl) (by kernel_rfl) (fun _ _ _ h => h) (Or.inl ⟨by rfl, fun w' hSw => ?_⟩) (by assumption) ?_
  · (try dsimp only at hSw)
    go_simp
  simp only [Act.put, List.setIfInBounds_toArray, List.set_cons_zero, List.set_cons_succ]
  refine wpAnyH_take (i := 5) (oi := { dst := some 31, op := _, type := _, pos := _, after := _, guard := _ }) (v := (.pointer (some ⟨tb, 0, none⟩))) rfl (by kernel_rfl) (by kernel_rfl) (by kernel_rfl) (fun _ _ _ h => h) (Or.inl ⟨by rfl, fun w' hSw => ?_⟩) (by assumption) ?_
  · (try dsimp only at hSw)
    go_simp
  simp only [Act.put, List.setIfInBounds_toArray, List.set_cons_zero, List.set_cons_succ]
  refine wpAnyH_take (i := 6) (oi := { dst := some 32, op := _, type := _, pos := _, after := _, guard := _ }) (v := (.pointer (some ⟨tb, 0, none⟩))) rfl (by kernel_rfl) (by kernel_rfl) (by kernel_rfl) (fun _ _ _ h => h) (Or.inl ⟨by rfl, fun w' hSw => ?_⟩) (by assumption) ?_
  · (try dsimp only at hSw)
    go_simp
  simp only [Act.put, List.setIfInBounds_toArray, List.set_cons_zero, List.set_cons_succ]
  refine wpAnyH_take (i := 7) (oi := { dst := some 33, op := _, type := _, pos := _, after := _, guard := _ }) (v := (.pointer (some ⟨tb, 0, none⟩))) rfl (by kernel_rfl) (by kernel_rfl) (by kernel_rfl) (fun _ _ _ h => h) (Or.inl ⟨by rfl, fun w' hSw => ?_⟩) (by assumption) ?_
  · (try dsimp only at hSw)
    go_simp
  simp only [Act.put, List.setIfInBounds_toArray, List.set_cons_zero, List.set_cons_succ]
  refine wpAnyH_take (i := 8) (oi := { dst := some 34, op := _, type := _, pos := _, after := _, guard := _ }) (v := (.slice va n vcap)) rfl (by kernel_rfl) (by kernel_rfl) (by kernel_rfl) (fun _ _ _ h => h) (Or.inl ⟨by rfl, fun w' hSw => ?_⟩) (by assumption) ?_
  · (try dsimp only at hSw)
    go_simp
  simp only [Act.put, List.setIfInBounds_toArray, List.set_cons_zero, List.set_cons_succ]
  refine wpAnyH_take (i := 9) (oi := { dst := some 35, op := _, type := _, pos := _, after := _, guard := _ }) (v := (.int .i64 n)) rfl (by kernel_rfl) (by kernel_rfl) (by kernel_rfl) (fun _ _ _ h => h) (Or.inl ⟨by rfl, fun w' hSw => ?_⟩) (by assumption) ?_
  · (try dsimp only at hSw)
    go_simp
  simp only [Act.put, List.setIfInBounds_toArray, List.set_cons_zero, List.set_cons_succ]
  refine wpAnyH_ready (rs := [10]) (by kernel_rfl) (by simp) ?_
  refine AllReadyH.cons (o := { dst := none, op := _, type := _, pos := _, after := _, guard := _ }) rfl (fun K hK => ?_) AllReadyH.nil
  refine step_mapUpdate_own rfl _ _ _ 217 rfl 2 3 lawK Tryd.underlying217 _ mb n D rfl HD.out.drew ?m1 _ _ _ rfl rfl hkey (.lit (.int .i64 n)) [] ?m2 ?_
  case m1 => unfold maxLen; omega
  case m2 => exact plainElem_int Tryd.underlying3 (wf_small _ (by omega) (by omega))
  intro W1 m1 g1
  have hntm : tb ≠ mb := TA.out.ne
  have d0 : W1.cell? ⟨tb, 0, none⟩ = some (.slice va n vcap) := (g1.cell_far ⟨tb, 0, none⟩ zt0 (by simpa using hntm)).trans c0
  have d1 : W1.cell? ⟨tb, 1, none⟩ = some (.map (some mb)) := (g1.cell_far ⟨tb, 1, none⟩ zt0 (by simpa using hntm)).trans c1
  have e0 : W1.frozen? ⟨tb, 0, none⟩ = false := (g1.frozen_far ⟨tb, 0, none⟩ zt0 (by simpa using hntm)).trans f0
  have e1 : W1.frozen? ⟨tb, 1, none⟩ = false := (g1.frozen_far ⟨tb, 1, none⟩ zt0 (by simpa using hntm)).trans f1
  refine hK.out _ _ ⟨d0, d1⟩ (fun hHeld7 => ?_)
  clear hK K hHeld
  refine wpAnyH_done (by kernel_rfl) ?_ _
  have G1 : Hid (W0.grownBy W1 (some mb)) := ⟨g1.os, g1.tape, g1.output, g1.size, g1.block⟩
  have M1 : Hid (W1.ownsMap Tryd.prog 2 (plainElem Tryd.prog 3) mb (n + 1) (D.put (.int .i64 x) (.lit (.int .i64 n)))) := m1
  clear hHeld7 c0 c1 f0 f1 m1 g1
  go_wp2_with fail
  go_frame
  have RB1 : Hid (W1.rangeAt w.heap.size 0 V) := rangeAt_blk RB.out (G1.out.block _ (by omega) (by simp; omega))
  have hrow : ∀ W ob, Below W1.heap.size W1 W → (W.alloc ob).ownsRow lo 221 65 (.slice va n vcap) n (rowT rs) := by
    intro W ob hW
    have h0 := TA.out.rows
    rw [HN.out] at h0
    have h1 := World.ownsRow.kept h0 G1.out (by
      cases e : Value.ownBlock (.slice va n vcap) with
      | none => exact .inl rfl
      | some q => right; rw [← e]; exact TA.out.vm)
    refine World.ownsRow.alloc (World.ownsRow.kept h1 (row := none) ⟨hW.os, hW.tape, hW.output, hW.size, fun q hq _ => hW.block q hq⟩ ?_) ob
    cases Value.ownBlock (.slice va n vcap) with
    | none => exact .inl rfl
    | some q => exact .inr (by simp)
  have HROW : Hid (∀ W ob, Below W1.heap.size W1 W → (W.alloc ob).ownsRow lo 221 65 (.slice va n vcap) n (rowT rs)) := hrow
  have hz1t : tb < W1.heap.size := Nat.lt_of_lt_of_le zt0 G1.out.size
  have hwz1 : w.heap.size < W1.heap.size := by have := G1.out.size; omega
  have hwt : w.heap.size ≠ tb := by omega
  have H65 : Hid (∀ u ∈ (Value.int .i64 x :: V), u.oneCell' = true) := by
    intro u hu
    rcases List.mem_cons.1 hu with rfl | hu
    · rfl
    · exact HV1.out u hu
  have HCN : Hid (∀ W : World, ∀ j u, (Value.int .i64 x :: V)[j]? = some u → (W.alloc (.cells (Value.int .i64 x :: V).toArray 221)).cell? ((⟨W.heap.size, 0, none⟩ : Addr).add j) = some u) := by
    intro W j u hu
    rw [Addr.add_lit, Nat.zero_add, cell_of_row _ _ j _ _ _ (heap_alloc_new W _)]
    simpa using hu
  have HFAR : Hid (∀ w4 ob, (W1.drew.alloc ob).grownBy w4 (Value.ownBlock (.slice va n vcap)) → (∀ j, w4.cell? ⟨tb, j, none⟩ = W1.cell? ⟨tb, j, none⟩ ∧ w4.frozen? ⟨tb, j, none⟩ = W1.frozen? ⟨tb, j, none⟩) ∧ ∀ u, (w4.setCell ⟨tb, 0, none⟩ u).rangeAt w.heap.size 0 V ∧ w4.rangeAt w.heap.size 0 V) := by
    intro w4 ob hg
    have hG : W1.grownBy w4 (Value.ownBlock (.slice va n vcap)) := World.grownBy.trans (World.grownBy_alloc W1 ob _) ⟨hg.os, hg.tape, hg.output, hg.size, hg.block⟩
    have hr : w4.rangeAt w.heap.size 0 V := rangeAt_blk RB1.out (hG.block _ hwz1 (fun e => by have := HVLT.out _ e.symm; omega))
    refine ⟨fun j => ⟨hG.cell_far ⟨tb, j, none⟩ hz1t (fun e => TA.out.vt e.symm), hG.frozen_far ⟨tb, j, none⟩ hz1t (fun e => TA.out.vt e.symm)⟩, fun u => ⟨?_, hr⟩⟩
    intro j y hy
    rw [World.cell?_setCell_other _ _ _ _ (by intro e; injection e with e; exact hwt e.symm)]
    exact hr j y hy
  have FIN : Hid (∀ g cap w4 ob, w4.ownsRow lo 221 65 (.slice (some ⟨g, 0, none⟩) (n + 1) cap) (n + 1) (rowT rs ++ (.int .i64 x :: V)) → (W1.drew.alloc ob).grownBy w4 (Value.ownBlock (.slice va n vcap)) → (Value.ownBlock (.slice va n vcap) = some g ∨ g = W1.heap.size + 1) →
      Tab (w4.setCell ⟨tb, 0, none⟩ (.slice (some ⟨g, 0, none⟩) (n + 1) cap)) lo tb mb (.slice (some ⟨g, 0, none⟩) (n + 1) cap) (rs ++ [(x, Vb)]) ∧ Below lo w (w4.setCell ⟨tb, 0, none⟩ (.slice (some ⟨g, 0, none⟩) (n + 1) cap)) ∧ (∀ q, q < w.heap.size → q ≠ tb → q ≠ mb → Value.ownBlock (.slice va n vcap) ≠ some q → (w4.setCell ⟨tb, 0, none⟩ (.slice (some ⟨g, 0, none⟩) (n + 1) cap)).heap[q]? = w.heap[q]?)) := by
    intro g cap w4 ob h1 h2 h3
    have hT := TA.out
    have hM := HMN.out
    have hM1 := M1.out
    rw [HVE.out] at h1
    rw [← HN.out] at h1 h2 h3 hT hM1 ⊢
    rw [← HN.out] at hM
    have := Tab.snoc (W0 := W0) (W1 := W1) (ob := ob) hT G1.out hM1 hM h1 ⟨h2.os, h2.tape, h2.output, h2.size, h2.block⟩ h3 (by rw [HN.out]; exact HNO.out) HVB.out (by omega)
    exact ⟨this.1, (BA.out.mono hlow).trans this.2.1, fun q hq n1 n2 n3 => (this.2.2 q (by omega) n1 n2 n3).trans (BA.out.block q hq)⟩
  have hnum1 : n + 1 ≤ maxLen := by unfold maxLen; omega
  have hnum2 : (n + 1) * 72 ≤ 140737488355328 := by omega
  have hloz : lo ≤ W1.heap.size := by omega
  clear hrow
  refine wp_region_held_drew (S := fun w' => w'.rangeAt w.heap.size 0 V) (by kernel_rfl) ((World.rangeAt_drew _ _ _ _).2 RB1.out) (fun hHeld => ?_)
  refine wpAnyH_take (i := 0) (oi := { dst := some 36, op := _, type := _, pos := _, after := _, guard := _ }) (v := (.pointer (some ⟨tb, 0, none⟩))) rfl (by kernel_rfl) (by kernel_rfl) (by kernel_rfl) (fun _ _ _ h => h) (Or.inl ⟨by rfl, fun w' hSw => ?_⟩) (by assumption) ?_
  · (try dsimp only at hSw)
    go_simp
  simp only [Act.put, List.setIfInBounds_toArray, List.set_cons_zero, List.set_cons_succ]
  refine wpAnyH_take (i := 1) (oi := { dst := some 37, op := _, type := _, pos := _, after := _, guard := _ }) (v := (.pointer (some ⟨tb, 0, none⟩))) rfl (by kernel_rfl) (by kernel_rfl) (by kernel_rfl) (fun _ _ _ h => h) (Or.inl ⟨by rfl, fun w' hSw => ?_⟩) (by assumption) ?_
  · (try dsimp only at hSw)
    go_simp
  simp only [Act.put, List.setIfInBounds_toArray, List.set_cons_zero, List.set_cons_succ]
  refine wpAnyH_take (i := 2) (oi := { dst := some 38, op := _, type := _, pos := _, after := _, guard := _ }) (v := (.pointer (some ⟨tb, 0, none⟩))) rfl (by kernel_rfl) (by kernel_rfl) (by kernel_rfl) (fun _ _ _ h => h) (Or.inl ⟨by rfl, fun w' hSw => ?_⟩) (by assumption) ?_
  · (try dsimp only at hSw)
    go_simp
  simp only [Act.put, List.setIfInBounds_toArray, List.set_cons_zero, List.set_cons_succ]
  refine wpAnyH_take (i := 3) (oi := { dst := some 39, op := _, type := _, pos := _, after := _, guard := _ }) (v := (.pointer (some ⟨tb, 0, none⟩))) rfl (by kernel_rfl) (by kernel_rfl) (by kernel_rfl) (fun _ _ _ h => h) (Or.inl ⟨by rfl, fun w' hSw => ?_⟩) (by assumption) ?_
  · (try dsimp only at hSw)
    go_simp
  simp only [Act.put, List.setIfInBounds_toArray, List.set_cons_zero, List.set_cons_succ]
  refine wpAnyH_take (i := 5) (oi := { dst := some 41, op := _, type := _, pos := _, after := _, guard := _ }) (v := (.int .i64 x)) rfl (by kernel_rfl) (by kernel_rfl) (by kernel_rfl) (fun _ _ _ h => h) (Or.inl ⟨by rfl, fun w' hSw => ?_⟩) (by assumption) ?_
  · (try dsimp only at hSw)
    go_simp
  simp only [Act.put, List.setIfInBounds_toArray, List.set_cons_zero, List.set_cons_succ]
  refine wpAnyH_take (i := 6) (oi := { dst := some 42, op := _, type := _, pos := _, after := _, guard := _ }) (v := .agg (V).toArray) rfl (by kernel_rfl) (by kernel_rfl) (by kernel_rfl) (fun _ _ _ h => h) (yieldsIf_load_mid (by rfl) _ _ rfl _ _ rfl V _ (fun w' hSw => hSw) Tryd.underlying77 rfl (sizeA _ HVL.out)) (by assumption) ?_
  simp only [Act.put, List.setIfInBounds_toArray, List.set_cons_zero, List.set_cons_succ]
  refine wpAnyH_take (i := 7) (oi := { dst := some 43, op := _, type := _, pos := _, after := _, guard := _ }) (v := (.agg (Value.int .i64 x :: V).toArray)) rfl (by kernel_rfl) (by kernel_rfl) (by kernel_rfl) (fun _ _ _ h => h) (Or.inl ⟨by rfl, fun w' hSw => ?_⟩) (by assumption) ?_
  · (try dsimp only at hSw)
    have hb := runBuild_row w' x V HVL.out
    simp [execOp]
    exact congrArg (fun r => Result.andThen r fun a w'' => Result.ok (Next.value a) w'') hb
  simp only [Act.put, List.setIfInBounds_toArray, List.set_cons_zero, List.set_cons_succ]
  refine wpAnyH_ready (rs := [4, 8]) (by kernel_rfl) (by simp) ?_
  refine AllReadyH.cons (o := { dst := some 40, op := _, type := _, pos := _, after := _, guard := _ }) rfl (fun K hK => ?_) (AllReadyH.cons (o := { dst := some 44, op := _, type := _, pos := _, after := _, guard := _ }) rfl (fun K hK => ?_) AllReadyH.nil)
  · go_simp
    refine hK.out _ _ (by assumption) (fun hHeldL => ?_)
    clear hK K
    refine wpAnyH_ready (rs := [8]) (by kernel_rfl) (by simp) ?_
    refine AllReadyH.cons (o := { dst := some 44, op := _, type := _, pos := _, after := _, guard := _ }) rfl (fun K hK => ?_) AllReadyH.nil
    refine step_buildSlice_row rfl _ rfl x V HVL.out rfl ?_
    have hS2 : (W1.drew.alloc (.cells (Value.int .i64 x :: V).toArray 221)).rangeAt w.heap.size 0 V := World.rangeAt_alloc ((World.rangeAt_drew _ _ _ _).2 RB1.out) _
    refine hK.out _ _ hS2 (fun hHeldA => ?_)
    clear hK K
    simp only [Act.put, List.setIfInBounds_toArray, List.set_cons_zero, List.set_cons_succ]
    refine wpAnyH_ready (rs := [9]) (by kernel_rfl) (by simp) ?_
    refine AllReadyH.cons (o := { dst := some 45, op := _, type := _, pos := _, after := _, guard := _ }) rfl (fun K hK => ?_) AllReadyH.nil
    refine step_append_lies _ rfl _ _ 216 rfl lo 221 i0 zT 65 72 Tryd.underlying216 hi hz0 hz1 hz2 zT_size (by omega) (.slice va n vcap) n (rowT rs) rfl (HROW.out W1.drew _ (below_drewN' W1 1)) ⟨W1.heap.size, 0, none⟩ 1 1 (Value.int .i64 x :: V) rfl ?a1 (HCN.out W1.drew) H65.out (by omega) hnum1 hnum2 ?a2 (W1.heap.size + 1) ?a3 ?_
    case a1 => rw [List.length_cons, HVL.out]
    case a2 => exact (show lo ≤ (W1.alloc (.cells (Value.int .i64 x :: V).toArray 221)).heap.size by rw [World.size_alloc]; exact Nat.le_succ_of_le hloz)
    case a3 => exact (show (W1.alloc (.cells (Value.int .i64 x :: V).toArray 221)).heap.size = W1.heap.size + 1 by rw [World.size_alloc])
    intro g4 cap4 w4 ho4 hg4 hat4 hlt4
    obtain ⟨q1, q2⟩ := HFAR.out _ _ hg4
    have FI := FIN.out _ _ _ _ ho4 hg4 hat4
    have HFI : Hid (Tab (w4.setCell ⟨tb, 0, none⟩ (.slice (some ⟨g4, 0, none⟩) (n + 1) cap4)) lo tb mb (.slice (some ⟨g4, 0, none⟩) (n + 1) cap4) (rs ++ [(x, Vb)]) ∧ Below lo w (w4.setCell ⟨tb, 0, none⟩ (.slice (some ⟨g4, 0, none⟩) (n + 1) cap4)) ∧ (∀ q, q < w.heap.size → q ≠ tb → q ≠ mb → Value.ownBlock (.slice va n vcap) ≠ some q → (w4.setCell ⟨tb, 0, none⟩ (.slice (some ⟨g4, 0, none⟩) (n + 1) cap4)).heap[q]? = w.heap[q]?)) := FI
    have p0 := (q1 0).1.trans d0
    have p1 := (q1 0).2.trans e0
    refine hK.out _ _ (q2 (.int .i64 0)).2 (fun hHeldP => ?_)
    have HQ2 : Hid (∀ u, (w4.setCell ⟨tb, 0, none⟩ u).rangeAt w.heap.size 0 V ∧ w4.rangeAt w.heap.size 0 V) := q2
    clear hK K FI ho4 hg4 hat4 q1 q2
    simp only [Act.put, List.setIfInBounds_toArray, List.set_cons_zero, List.set_cons_succ]
    refine wpAnyH_take (i := 10) (oi := { dst := some 46, op := _, type := _, pos := _, after := _, guard := _ }) (v := (.pointer (some ⟨tb, 0, none⟩))) rfl (by kernel_rfl) (by kernel_rfl) (by kernel_rfl) (fun _ _ _ h => h) (Or.inl ⟨by rfl, fun w' hSw => ?_⟩) (by assumption) ?_
    · (try dsimp only at hSw)
      go_simp
    simp only [Act.put, List.setIfInBounds_toArray, List.set_cons_zero, List.set_cons_succ]
    refine wpAnyH_take (i := 11) (oi := { dst := some 47, op := _, type := _, pos := _, after := _, guard := _ }) (v := (.pointer (some ⟨tb, 0, none⟩))) rfl (by kernel_rfl) (by kernel_rfl) (by kernel_rfl) (fun _ _ _ h => h) (Or.inl ⟨by rfl, fun w' hSw => ?_⟩) (by assumption) ?_
    · (try dsimp only at hSw)
      go_simp
    simp only [Act.put, List.setIfInBounds_toArray, List.set_cons_zero, List.set_cons_succ]
    refine wpAnyH_ready (rs := [12]) (by kernel_rfl) (by simp) ?_
    refine AllReadyH.cons (o := { dst := none, op := _, type := _, pos := _, after := _, guard := _ }) rfl (fun K hK => ?_) AllReadyH.nil
    go_simp
    refine hK.out _ _ (HQ2.out _).1 (fun hHeldS => ?_)
    clear hK K
    refine wpAnyH_done (by kernel_rfl) ?_ _
    clear hHeldS hHeldP
    go_wp2
    go_end0
    exact ⟨rfl, ⟨_, HFI.out.1⟩, HFI.out.2.1, HFI.out.2.2⟩
  · refine step_buildSlice_row rfl _ rfl x V HVL.out rfl ?_
    have hS2 : (W1.drew.alloc (.cells (Value.int .i64 x :: V).toArray 221)).rangeAt w.heap.size 0 V := World.rangeAt_alloc ((World.rangeAt_drew _ _ _ _).2 RB1.out) _
    refine hK.out _ _ hS2 (fun hHeldA => ?_)
    clear hK K
    simp only [Act.put, List.setIfInBounds_toArray, List.set_cons_zero, List.set_cons_succ]
    refine wpAnyH_ready (rs := [4]) (by kernel_rfl) (by simp) ?_
    refine AllReadyH.cons (o := { dst := some 40, op := _, type := _, pos := _, after := _, guard := _ }) rfl (fun K hK => ?_) AllReadyH.nil
    go_simp
    refine hK.out _ _ (by assumption) (fun hHeldL => ?_)
    clear hK K
    refine wpAnyH_ready (rs := [9]) (by kernel_rfl) (by simp) ?_
    refine AllReadyH.cons (o := { dst := some 45, op := _, type := _, pos := _, after := _, guard := _ }) rfl (fun K hK => ?_) AllReadyH.nil
    refine step_append_lies _ rfl _ _ 216 rfl lo 221 i0 zT 65 72 Tryd.underlying216 hi hz0 hz1 hz2 zT_size (by omega) (.slice va n vcap) n (rowT rs) rfl (HROW.out W1.drew _ (below_drewN' W1 1)) ⟨W1.heap.size, 0, none⟩ 1 1 (Value.int .i64 x :: V) rfl ?a1 (HCN.out W1.drew) H65.out (by omega) hnum1 hnum2 ?a2 (W1.heap.size + 1) ?a3 ?_
    case a1 => rw [List.length_cons, HVL.out]
    case a2 => exact (show lo ≤ (W1.alloc (.cells (Value.int .i64 x :: V).toArray 221)).heap.size by rw [World.size_alloc]; exact Nat.le_succ_of_le hloz)
    case a3 => exact (show (W1.alloc (.cells (Value.int .i64 x :: V).toArray 221)).heap.size = W1.heap.size + 1 by rw [World.size_alloc])
    intro g4 cap4 w4 ho4 hg4 hat4 hlt4
    obtain ⟨q1, q2⟩ := HFAR.out _ _ hg4
    have FI := FIN.out _ _ _ _ ho4 hg4 hat4
    have HFI : Hid (Tab (w4.setCell ⟨tb, 0, none⟩ (.slice (some ⟨g4, 0, none⟩) (n + 1) cap4)) lo tb mb (.slice (some ⟨g4, 0, none⟩) (n + 1) cap4) (rs ++ [(x, Vb)]) ∧ Below lo w (w4.setCell ⟨tb, 0, none⟩ (.slice (some ⟨g4, 0, none⟩) (n + 1) cap4)) ∧ (∀ q, q < w.heap.size → q ≠ tb → q ≠ mb → Value.ownBlock (.slice va n vcap) ≠ some q → (w4.setCell ⟨tb, 0, none⟩ (.slice (some ⟨g4, 0, none⟩) (n + 1) cap4)).heap[q]? = w.heap[q]?)) := FI
    have p0 := (q1 0).1.trans d0
    have p1 := (q1 0).2.trans e0
    refine hK.out _ _ (q2 (.int .i64 0)).2 (fun hHeldP => ?_)
    have HQ2 : Hid (∀ u, (w4.setCell ⟨tb, 0, none⟩ u).rangeAt w.heap.size 0 V ∧ w4.rangeAt w.heap.size 0 V) := q2
    clear hK K FI ho4 hg4 hat4 q1 q2
    simp only [Act.put, List.setIfInBounds_toArray, List.set_cons_zero, List.set_cons_succ]
    refine wpAnyH_take (i := 10) (oi := { dst := some 46, op := _, type := _, pos := _, after := _, guard := _ }) (v := (.pointer (some ⟨tb, 0, none⟩))) rfl (by kernel_rfl) (by kernel_rfl) (by kernel_rfl) (fun _ _ _ h => h) (Or.inl ⟨by rfl, fun w' hSw => ?_⟩) (by assumption) ?_
    · (try dsimp only at hSw)
      go_simp
    simp only [Act.put, List.setIfInBounds_toArray, List.set_cons_zero, List.set_cons_succ]
    refine wpAnyH_take (i := 11) (oi := { dst := some 47, op := _, type := _, pos := _, after := _, guard := _ }) (v := (.pointer (some ⟨tb, 0, none⟩))) rfl (by kernel_rfl) (by kernel_rfl) (by kernel_rfl) (fun _ _ _ h => h) (Or.inl ⟨by rfl, fun w' hSw => ?_⟩) (by assumption) ?_
    · (try dsimp only at hSw)
      go_simp
    simp only [Act.put, List.setIfInBounds_toArray, List.set_cons_zero, List.set_cons_succ]
    refine wpAnyH_ready (rs := [12]) (by kernel_rfl) (by simp) ?_
    refine AllReadyH.cons (o := { dst := none, op := _, type := _, pos := _, after := _, guard := _ }) rfl (fun K hK => ?_) AllReadyH.nil
    go_simp
    refine hK.out _ _ (HQ2.out _).1 (fun hHeldS => ?_)
    clear hK K
    refine wpAnyH_done (by kernel_rfl) ?_ _
    clear hHeldS hHeldP
    go_wp2
    go_end0
    exact ⟨rfl, ⟨_, HFI.out.1⟩, HFI.out.2.1, HFI.out.2.2⟩

theorem put_any (w : World) (lo tb mb : Nat) (v : Value) (rs : List (Int × List Int)) (x : Int) (Vb : List Int) (ht : Tab w lo tb mb v rs) (hx0 : 0 ≤ x) (hx1 : x ≤ 1048576) (hVb : Vb.length = 64) (hlen : rs.length ≤ 1048576) (hlow : lo ≤ w.heap.size) :
    Calls Tryd.prog 153 #[.pointer (some ⟨tb, 0, none⟩), .int .i64 x, .agg (Vb.map (Value.int .u8)).toArray] w fun e w' => e = .returned (.tuple #[]) ∧ (∃ v' rs', Put rs x Vb rs' ∧ Tab w' lo tb mb v' rs') ∧ Below lo w w' ∧ (∀ q, q < w.heap.size → q ≠ tb → q ≠ mb → v.ownBlock ≠ some q → w'.heap[q]? = w.heap[q]?) := by
  by_cases h : ∃ i, i < rs.length ∧ pB rs i = x
  · obtain ⟨i, hi, e⟩ := h
    refine (put_yes w lo tb mb v rs x Vb i ht hi e (wf_small x hx0 hx1) hVb).mono ?_
    rintro e' w' ⟨rfl, h1, h2, h3⟩
    exact ⟨rfl, ⟨v, _, .inl ⟨i, hi, e, rfl⟩, h1⟩, h2, h3⟩
  · have hno : ∀ i, i < rs.length → pB rs i ≠ x := fun i hi e => h ⟨i, hi, e⟩
    refine (put_no w lo tb mb v rs x Vb ht hno (wf_small x hx0 hx1) hVb hlen hlow).mono ?_
    rintro e' w' ⟨rfl, ⟨v', h1⟩, h2, h3⟩
    exact ⟨rfl, ⟨v', _, .inr ⟨hno, rfl⟩, h1⟩, h2, h3⟩

end Go.Proofs.YtcopcegamadkgaaDoor

namespace Go.Proofs.YtcopcegamadkgaaDoor
open Go.RowKit

theorem put_len {rs rs' : List (Int × List Int)} {x : Int} {V : List Int} (h : Put rs x V rs') : rs'.length ≤ rs.length + 1 := by
  rcases h with ⟨i, _, _, rfl⟩ | ⟨_, rfl⟩
  · simp
  · simp

set_option maxHeartbeats 2000000 in
set_option maxRecDepth 100000 in
theorem youngest_any (w : World) (va vb : Option Addr) (dl ca n cb : Nat) (dur : List Int) (ps : List (Int × List Int)) (hdl : dur.length = dl) (hp : RdW w (.slice vb n cb) ps) (hl : ps.length = n) (hv : vldD dl ps = true) :
    Calls Tryd.prog 135 #[.agg #[.slice va dl ca, .slice vb n cb]] w fun e w' => e = .returned (.pointer (some ⟨w.heap.size + 2, 0, none⟩)) ∧ (∃ v rs, Tab w' (w.heap.size + 1) (w.heap.size + 2) (w.heap.size + 1) v rs ∧ TabOf dur ps n rs) ∧ Below w.heap.size w w' := by
  have HP : Hid (RdW w (.slice vb n cb) ps) := hp
  have HL : Hid (ps.length = n) := hl
  have HV : Hid (vldD dl ps = true) := hv
  have HDL : Hid (dur.length = dl) := hdl
  have hn2 : n ≤ 2000 := by have := ((vldD_iff dl ps).1 hv).2.2.2.1; omega
  have B0 : Hid (Below w.heap.size w (w.alloc (.cells #[.slice va dl ca, .slice vb n cb] 27))) := (Below.refl _ _).alloc (Nat.le_refl _) _
  have X0 : Hid (Box2 (w.alloc (.cells #[.slice va dl ca, .slice vb n cb] 27)) w.heap.size (.slice va dl ca) (.slice vb n cb)) := Box2.new _ _ _ _
  have s0 : (w.alloc (.cells #[.slice va dl ca, .slice vb n cb] 27)).heap.size = w.heap.size + 1 := by simp
  clear hp hl hv hdl
  go_enter Tryd.func135, Tryd.ntmps135
  go_wp2_with fail
  generalize w.alloc (.cells #[.slice va dl ca, .slice vb n cb] 27) = w0 at *
  refine (newTable_any w0).mono ?_
  rintro e w1 ⟨rfl, t1, b1⟩
  rw [s0] at t1 ⊢
  have T1 : Hid (Tab w1 (w.heap.size + 1) (w.heap.size + 2) (w.heap.size + 1) (.slice none 0 0) []) := t1
  have B1 : Hid (Below (w.heap.size + 1) w0 w1) := by have := b1; rw [s0] at this; exact this
  have X1 : Hid (Box2 w1 w.heap.size (.slice va dl ca) (.slice vb n cb)) := X0.out.below b1
  have z1 := T1.out.box.1.1
  clear t1 b1 X0
  obtain ⟨zx, c0, c1⟩ := X1.out
  go_wp2
  clear c0 c1
  go_loopw [10] (fun i wr => ∃ k : Nat, k ≤ n ∧ i = .int .i64 k ∧ Hid (∃ v rs, Tab wr (w.heap.size + 1) (w.heap.size + 2) (w.heap.size + 1) v rs ∧ TabOf dur ps k rs ∧ rs.length ≤ k) ∧ Hid (Below (w.heap.size + 1) w1 wr)) (fun i _ => n - (intOf i).toNat)
  case atStart => exact ⟨0, Nat.zero_le _, rfl, ⟨_, _, T1.out, tabOf_nil _ _, Nat.le_refl _⟩, Below.refl _ _⟩
  case round =>
    clear T1
    obtain ⟨k, hk, rfl, ⟨v, rs, ht, hof, hrl⟩, HG⟩ := hrel
    have HT : Hid (Tab wr (w.heap.size + 1) (w.heap.size + 2) (w.heap.size + 1) v rs) := ht
    have HOF : Hid (TabOf dur ps k rs) := hof
    have HRL : Hid (rs.length ≤ k) := hrl
    have sg := HG.out.size
    have BW : Hid (Below w.heap.size w wr) := B0.out.trans (((B1.out.trans HG.out)).mono (by omega))
    clear ht hof hrl
    by_cases hlt : k < n
    · obtain ⟨pb, po, rfl, hpb, e1, da, dc, e2, r⟩ := HP.out.recAt HL.out hlt
      obtain ⟨b, hb, hb2, hb3, hd64⟩ := vld_at HV.out k (by rw [HL.out]; exact hlt)
      have HB : Hid (pB ps k = b) := hb
      rw [hb] at e1
      rw [hd64] at e2 r
      have e1' := (BW.out.cell (p := ⟨pb, po + k * 2, none⟩) hpb).trans e1
      have e2' := (BW.out.cell (p := ⟨pb, po + k * 2 + 1, none⟩) hpb).trans e2
      obtain ⟨db, dof, rfl, hdb, -⟩ := r.cellAt hd64 (show 0 < 64 by omega)
      obtain ⟨V, hV⟩ : ∃ V, V = (pD ps k).map (Value.int .u8) := ⟨_, rfl⟩
      have RU : Hid (w.rangeAt db dof V) := by rw [hV]; exact (r.span hd64 (by omega)).2
      have HVL : Hid (V.length = 64) := by rw [hV]; show _ = _; rw [List.length_map]; exact hd64
      have hltI : (k : Int) < (n : Int) := by omega
      have HP1 : Hid (∀ W, Tab W (w.heap.size + 1) (w.heap.size + 2) (w.heap.size + 1) v rs → w.heap.size + 1 ≤ W.heap.size → Calls Tryd.prog 153 #[.pointer (some ⟨w.heap.size + 2, 0, none⟩), .int .i64 b, .agg V.toArray] W fun e w' => e = .returned (.tuple #[]) ∧ (∃ v' rs', Put rs b (pD ps k) rs' ∧ Tab w' (w.heap.size + 1) (w.heap.size + 2) (w.heap.size + 1) v' rs') ∧ Below (w.heap.size + 1) W w' ∧ (∀ q, q < W.heap.size → q ≠ w.heap.size + 2 → q ≠ w.heap.size + 1 → v.ownBlock ≠ some q → w'.heap[q]? = W.heap[q]?)) := by
        intro W hT hW
        rw [hV]
        exact put_any W _ _ _ v rs b (pD ps k) hT (by omega) (by omega) hd64 (by have := HRL.out; omega) hW
      clear e1 e2 r hb hd64 hV
      go_wp2_with fail
      have BAl : Hid (Below wr.heap.size wr (wr.alloc (.cells #[.int .i64 b, .slice (some ⟨db, dof, none⟩) 64 dc] 131))) := (Below.refl _ _).alloc (Nat.le_refl _) _
      have XB : Hid (Box2 (wr.alloc (.cells #[.int .i64 b, .slice (some ⟨db, dof, none⟩) 64 dc] 131)) wr.heap.size (.int .i64 b) (.slice (some ⟨db, dof, none⟩) 64 dc)) := Box2.new _ _ _ _
      clear e1' e2'
      generalize wr.alloc (.cells #[.int .i64 b, .slice (some ⟨db, dof, none⟩) 64 dc] 131) = w3 at *
      obtain ⟨z3, c0, c1⟩ := XB.out
      have sB := BAl.out.size
      have RU3 : w3.rangeAt db dof V := rangeAt_blk RU.out ((BAl.out.block db (by have := BW.out.size; omega)).trans (BW.out.block db hdb))
      have T3 : Hid (Tab w3 (w.heap.size + 1) (w.heap.size + 2) (w.heap.size + 1) v rs) := HT.out.below BAl.out
      have ztb := HT.out.box.1.1
      have hvlt : ∀ q, v.ownBlock = some q → q < wr.heap.size := fun q hq => (World.ownsRow.lt HT.out.rows q hq).2
      have hat : ∀ W, (Instr.arrayAt 77 (.slice (some ⟨db, dof, none⟩) 64 dc)).run Tryd.prog W = .ok (.pointer (some ⟨db, dof, none⟩)) W := fun W => run_arrayAt W 77 _ 64 _ _ _ Tryd.underlying77 (Nat.le_refl _)
      have CP : Hid (Calls Tryd.prog 153 #[.pointer (some ⟨w.heap.size + 2, 0, none⟩), .int .i64 b, .agg V.toArray] w3.drew fun e w' => e = .returned (.tuple #[]) ∧ w'.cell? ⟨wr.heap.size, 0, none⟩ = some (.int .i64 b) ∧ w'.cell? ⟨wr.heap.size, 1, none⟩ = some (.slice (some ⟨db, dof, none⟩) 64 dc) ∧ w'.rangeAt db dof V ∧ Hid (∃ v rs, Tab w' (w.heap.size + 1) (w.heap.size + 2) (w.heap.size + 1) v rs ∧ TabOf dur ps (k + 1) rs ∧ rs.length ≤ k + 1) ∧ Hid (Below (w.heap.size + 1) w1 w')) := by
        refine (HP1.out w3.drew (T3.out.below (below_drewN' w3 1)) (by show _ ≤ w3.heap.size; omega)).mono ?_
        rintro e w' ⟨rfl, ⟨v', rs', hput, hT'⟩, hb', hfr⟩
        have hc : ∀ j, w'.cell? ⟨wr.heap.size, j, none⟩ = w3.cell? ⟨wr.heap.size, j, none⟩ := fun j => World.cell?_of_block (w := w3) (a := ⟨wr.heap.size, j, none⟩) (hfr wr.heap.size z3 (by omega) (by omega) (fun e => by have := hvlt _ e; omega))
        refine ⟨rfl, (hc 0).trans c0, (hc 1).trans c1, rangeAt_blk RU3 (hb'.block db (by omega)), ⟨v', rs', hT', ?_, ?_⟩, ?_⟩
        · refine tabOf_put dur ps rs rs' k HOF.out ⟨b, HB.out, by rw [HDL.out]; exact hb2, hb3⟩ HT.out.apart ?_
          rw [HB.out]; exact hput
        · have := put_len hput; have := HRL.out; omega
        · exact ((HG.out.trans (BAl.out.mono (by omega))).trans ((below_drewN' w3 1).mono (by omega))).trans hb'
      clear HP1 XB T3 RU HG HT HOF
      refine wp_region_held_drew (S := fun w' => w'.cell? ⟨wr.heap.size, 0, none⟩ = some (.int .i64 b) ∧ w'.cell? ⟨wr.heap.size, 1, none⟩ = some (.slice (some ⟨db, dof, none⟩) 64 dc) ∧ w'.rangeAt db dof V) (by kernel_rfl) ⟨c0, c1, RU3⟩ (fun hHeld => ?_)
      refine wpAnyH_take (i := 0) (oi := { dst := some 14, op := _, type := _, pos := _, after := _, guard := _ }) (v := (.pointer (some ⟨w.heap.size + 2, 0, none⟩))) rfl (by kernel_rfl) (by kernel_rfl) (by kernel_rfl) (fun _ _ _ h => h) (Or.inl ⟨by rfl, fun w' hSw => ?_⟩) (by assumption) ?_
      · (try dsimp only at hSw)
        go_simp
      simp only [Act.put, List.setIfInBounds_toArray, List.set_cons_zero, List.set_cons_succ]
      refine wpAnyH_take (i := 1) (oi := { dst := some 15, op := _, type := _, pos := _, after := _, guard := _ }) (v := (.pointer (some ⟨wr.heap.size, 0, none⟩))) rfl (by kernel_rfl) (by kernel_rfl) (by kernel_rfl) (fun _ _ _ h => h) (Or.inl ⟨by rfl, fun w' hSw => ?_⟩) (by assumption) ?_
      · (try dsimp only at hSw)
        go_simp
      simp only [Act.put, List.setIfInBounds_toArray, List.set_cons_zero, List.set_cons_succ]
      refine wpAnyH_take (i := 2) (oi := { dst := some 16, op := _, type := _, pos := _, after := _, guard := _ }) (v := (.int .i64 b)) rfl (by kernel_rfl) (by kernel_rfl) (by kernel_rfl) (fun _ _ _ h => h) (Or.inl ⟨by rfl, fun w' hSw => ?_⟩) (by assumption) ?_
      · (try dsimp only at hSw)
        go_simp
      simp only [Act.put, List.setIfInBounds_toArray, List.set_cons_zero, List.set_cons_succ]
      refine wpAnyH_take (i := 3) (oi := { dst := some 17, op := _, type := _, pos := _, after := _, guard := _ }) (v := (.pointer (some ⟨wr.heap.size, 1, none⟩))) rfl (by kernel_rfl) (by kernel_rfl) (by kernel_rfl) (fun _ _ _ h => h) (Or.inl ⟨by rfl, fun w' hSw => ?_⟩) (by assumption) ?_
      · (try dsimp only at hSw)
        go_simp
      simp only [Act.put, List.setIfInBounds_toArray, List.set_cons_zero, List.set_cons_succ]
      refine wpAnyH_take (i := 4) (oi := { dst := some 18, op := _, type := _, pos := _, after := _, guard := _ }) (v := (.slice (some ⟨db, dof, none⟩) 64 dc)) rfl (by kernel_rfl) (by kernel_rfl) (by kernel_rfl) (fun _ _ _ h => h) (Or.inl ⟨by rfl, fun w' hSw => ?_⟩) (by assumption) ?_
      · (try dsimp only at hSw)
        go_simp
      simp only [Act.put, List.setIfInBounds_toArray, List.set_cons_zero, List.set_cons_succ]
      refine wpAnyH_take (i := 5) (oi := { dst := some 19, op := _, type := _, pos := _, after := _, guard := _ }) (v := (.pointer (some ⟨db, dof, none⟩))) rfl (by kernel_rfl) (by kernel_rfl) (by kernel_rfl) (fun _ _ _ h => h) (Or.inl ⟨by rfl, fun w' hSw => ?_⟩) (by assumption) ?_
      · (try dsimp only at hSw)
        go_simp
      simp only [Act.put, List.setIfInBounds_toArray, List.set_cons_zero, List.set_cons_succ]
      refine wpAnyH_take (i := 6) (oi := { dst := some 20, op := _, type := _, pos := _, after := _, guard := _ }) (v := .agg (V).toArray) rfl (by kernel_rfl) (by kernel_rfl) (by kernel_rfl) (fun _ _ _ h => h) (yieldsIf_load_mid (by rfl) _ _ rfl _ _ rfl V _ (fun w' hSw => hSw.2.2) Tryd.underlying77 rfl (sizeA _ HVL.out)) (by assumption) ?_
      simp only [Act.put, List.setIfInBounds_toArray, List.set_cons_zero, List.set_cons_succ]
      refine wpAnyH_ready (rs := [7]) (by kernel_rfl) (by simp) ?_
      refine AllReadyH.cons (o := { dst := some 21, op := _, type := _, pos := _, after := _, guard := _ }) rfl (fun K hK => ?_) AllReadyH.nil
      go_simp
      go_at_call 153
      refine CP.out.mono ?_
      rintro e w4 ⟨rfl, l0, l1, l2, R4, G4⟩
      refine hK.out _ _ ⟨l0, l1, l2⟩ (fun hHeld7 => ?_)
      clear hK K hHeld
      refine wpAnyH_done (by kernel_rfl) ?_ _
      clear l0 l1 l2 hHeld7 c0 c1 hat CP RU3
      go_wp2
      go_roundw
      case rel => exact ⟨k + 1, by omega, by go_num, R4, G4⟩
      case measure => simp [intOf]; omega
    · have hkn : k = n := by omega
      subst hkn
      go_wp2
      go_ret
      exact ⟨rfl, ⟨v, rs, HT.out, HOF.out⟩, BW.out⟩

end Go.Proofs.YtcopcegamadkgaaDoor

namespace Go.Proofs.YtcopcegamadkgaaDoor
open Go.RowKit

theorem splice_whole {α : Type} (L V : List α) (h : V.length = L.length) : splice L 0 V = V := by
  unfold splice
  rw [List.take_zero, Nat.zero_add, List.drop_eq_nil_of_le (by omega)]
  simp

end Go.Proofs.YtcopcegamadkgaaDoor

namespace Go.Proofs.YtcopcegamadkgaaDoor
open Go.RowKit

def blk (D : List Int) (b : Nat) : List Int := (D.drop (b * 64)).take 64

theorem blk_get (D : List Int) (b j : Nat) : (blk D b)[j]? = if j < 64 then D[b * 64 + j]? else none := by
  unfold blk
  rw [List.getElem?_take]
  split
  · rw [List.getElem?_drop]
  · rfl

theorem blk_ext {D E : List Int} (hl : D.length = E.length) (hm : D.length % 64 = 0) (h : ∀ b, b * 64 + 64 ≤ D.length → blk D b = blk E b) : D = E := by
  apply List.ext_getElem?
  intro i
  by_cases hi : i < D.length
  · have h1 := h (i / 64) (by omega)
    have h2 : (blk D (i / 64))[i % 64]? = (blk E (i / 64))[i % 64]? := by rw [h1]
    rw [blk_get, blk_get, if_pos (by omega), if_pos (by omega), show i / 64 * 64 + i % 64 = i by omega] at h2
    exact h2
  · rw [List.getElem?_eq_none (by omega), List.getElem?_eq_none (by omega)]

theorem blk_splice (D V : List Int) (c b : Nat) (hV : V.length = 64) (hc : c * 64 + 64 ≤ D.length) : blk (splice D (c * 64) V) b = if b = c then V else blk D b := by
  apply List.ext_getElem?
  intro j
  rw [blk_get, splice_get _ _ _ (by omega), hV]
  by_cases hj : j < 64
  · rw [if_pos hj]
    by_cases e : b = c
    · subst e
      rw [if_pos rfl, if_neg (by omega), if_pos (by omega), show b * 64 + j - b * 64 = j by omega]
    · rw [if_neg e, blk_get, if_pos hj]
      by_cases h1 : b * 64 + j < c * 64
      · rw [if_pos h1]
      · rw [if_neg h1, if_neg (by omega)]
  · rw [if_neg hj]
    split
    · rw [List.getElem?_eq_none (by omega)]
    · rw [blk_get, if_neg hj]

/-- The rows laid over the durable bytes. -/
def lays (dur : List Int) (rs : List (Int × List Int)) : List Int := rs.foldl (fun D r => splice D (r.1.toNat * 64) r.2) dur
theorem lays_snoc (dur : List Int) (rs : List (Int × List Int)) (r : Int × List Int) : lays dur (rs ++ [r]) = splice (lays dur rs) (r.1.toNat * 64) r.2 := by simp [lays]

/-- A row that fits. -/
def Fits (dl : Nat) (r : Int × List Int) : Prop := ∃ b : Nat, r.1 = b ∧ b * 64 + 64 ≤ dl ∧ r.2.length = 64

theorem snoc_ind {α : Type} {p : List α → Prop} (h0 : p []) (hs : ∀ l x, p l → p (l ++ [x])) (l : List α) : p l := by
  rw [← List.reverse_reverse l]
  induction l.reverse with
  | nil => exact h0
  | cons x xs ih => rw [List.reverse_cons]; exact hs _ _ ih

theorem lays_len (dur : List Int) (rs : List (Int × List Int)) : (∀ r ∈ rs, Fits dur.length r) → (lays dur rs).length = dur.length := by
  refine snoc_ind (p := fun rs => (∀ r ∈ rs, Fits dur.length r) → (lays dur rs).length = dur.length) (fun _ => rfl) (fun rs r ih h => ?_) rs
  · have ih' := ih (fun q hq => h q (by simp [hq]))
    obtain ⟨b, hb, hb2, hl⟩ := h r (by simp)
    rw [lays_snoc, length_splice, ih']
    rw [ih', hb, Int.toNat_natCast, hl]
    exact hb2

theorem stl_blk (dur : List Int) (ps : List (Int × List Int)) (hv : vldD dur.length ps = true) (b : Nat) : ∀ k, k ≤ ps.length → blk (stl dur ps (fun _ => 64) k) b = rdv dur ps b k
  | 0, _ => rfl
  | k + 1, hk => by
    have ih := stl_blk dur ps hv b k (by omega)
    obtain ⟨c, hc, hc2, _, hd⟩ := vld_at hv k (by omega)
    have hl := stl_len dur ps (fun _ => 64) hv k (by omega)
    rw [stl, hc, Int.toNat_natCast, List.take_of_length_le (by omega), blk_splice _ _ _ _ hd (by omega)]
    by_cases e : b = c
    · rw [if_pos e, rdv_at dur ps b k (by rw [hc, e])]
    · rw [if_neg e, rdv_off dur ps b k (by rw [hc]; omega), ih]

theorem lays_blk (dur : List Int) (rs : List (Int × List Int)) (b : Nat) : (∀ r ∈ rs, Fits dur.length r) → (∀ i j, i < rs.length → j < rs.length → pB rs i = pB rs j → i = j) →
    (∀ i, i < rs.length → pB rs i = b → blk (lays dur rs) b = pD rs i) ∧ ((∀ i, i < rs.length → pB rs i ≠ b) → blk (lays dur rs) b = blk dur b) := by
  refine snoc_ind (p := fun rs => (∀ r ∈ rs, Fits dur.length r) → (∀ i j, i < rs.length → j < rs.length → pB rs i = pB rs j → i = j) →
    (∀ i, i < rs.length → pB rs i = b → blk (lays dur rs) b = pD rs i) ∧ ((∀ i, i < rs.length → pB rs i ≠ b) → blk (lays dur rs) b = blk dur b)) (fun _ _ => ⟨fun i hi => by simp at hi, fun _ => rfl⟩) (fun rs r ih h hap => ?_) rs
  · have hl : (rs ++ [r]).length = rs.length + 1 := by simp
    have hrs : ∀ q ∈ rs, Fits dur.length q := fun q hq => h q (by simp [hq])
    have hap' : ∀ i j, i < rs.length → j < rs.length → pB rs i = pB rs j → i = j := fun i j hi hj e => hap i j (by omega) (by omega) (by rw [pB_app _ _ _ hi, pB_app _ _ _ hj]; exact e)
    obtain ⟨i1, i2⟩ := ih hrs hap'
    obtain ⟨c, hc, hc2, hd⟩ := h r (by simp)
    have hlen := lays_len dur rs hrs
    rw [lays_snoc, hc, Int.toNat_natCast, blk_splice _ _ _ _ hd (by omega)]
    refine ⟨fun i hi e => ?_, fun hno => ?_⟩
    · rw [hl] at hi
      by_cases ei : i = rs.length
      · subst ei
        rw [pB_last] at e
        rw [pD_last, if_pos (by rw [hc] at e; omega)]
      · rw [pB_app _ _ _ (by omega)] at e
        rw [pD_app _ _ _ (by omega)]
        by_cases eb : b = c
        · have := hap i rs.length (by omega) (by omega) (by rw [pB_app _ _ _ (by omega), pB_last, e, hc, eb])
          omega
        · rw [if_neg eb]; exact i1 i (by omega) e
    · have hn := hno rs.length (by omega)
      rw [pB_last, hc] at hn
      rw [if_neg (by omega)]
      exact i2 (fun i hi => by have := hno i (by omega); rw [pB_app _ _ _ hi] at this; exact this)

theorem fits_of (dl : Nat) (rs : List (Int × List Int)) (h : ∀ i, i < rs.length → ∃ b : Nat, pB rs i = b ∧ b * 64 + 64 ≤ dl ∧ b ≤ 300) (hf : ∀ i, i < rs.length → (pD rs i).length = 64) : ∀ r ∈ rs, Fits dl r := by
  intro r hr
  obtain ⟨i, hi, rfl⟩ := List.mem_iff_getElem.1 hr
  obtain ⟨b, h1, h2, _⟩ := h i hi
  have h3 := hf i hi
  unfold pB at h1
  unfold pD at h3
  simp [List.getD, hi] at h1 h3
  exact ⟨b, h1, h2, h3⟩

/-- All the writes, one by one or by the table. -/
theorem lays_stl (dur : List Int) (ps rs : List (Int × List Int)) (hv : vldD dur.length ps = true) (ht : TabOf dur ps ps.length rs) (hf : ∀ i, i < rs.length → (pD rs i).length = 64) (hap : ∀ i j, i < rs.length → j < rs.length → pB rs i = pB rs j → i = j) :
    lays dur rs = stl dur ps (fun _ => 64) ps.length := by
  have hfit := fits_of dur.length rs ht.2 hf
  have h1 := lays_len dur rs hfit
  have h2 := stl_len dur ps (fun _ => 64) hv ps.length (Nat.le_refl _)
  refine blk_ext (by rw [h1, h2]) (by rw [h1]; exact ((vldD_iff _ _).1 hv).1) (fun b hb => ?_)
  rw [stl_blk dur ps hv b _ (Nat.le_refl _)]
  obtain ⟨k1, k2⟩ := lays_blk dur rs b hfit hap
  by_cases hex : ∃ i, i < rs.length ∧ pB rs i = (b : Int)
  · obtain ⟨i, hi, e⟩ := hex
    rw [k1 i hi e, (ht.1 b).1 i hi e]
  · have hno : ∀ i, i < rs.length → pB rs i ≠ (b : Int) := fun i hi e => hex ⟨i, hi, e⟩
    rw [k2 hno, (ht.1 b).2 hno]
    rfl

end Go.Proofs.YtcopcegamadkgaaDoor

namespace Go.Proofs.YtcopcegamadkgaaDoor
open Go.RowKit Go.Shelf

attribute [local go_sem] Oper.semAt_some

theorem wpListIn_load_mid {F : Fence} {nF : Nat} {P : Program} {ops : Array Oper} {rest : List Oper} {op : Oper} {a : Act} {w : World} {Q : Exit → Act → World → Prop} (hgd : op.guard = none) (ty : TypeId) (x : Operand) (ho : op.op = .load ty x)
    (b o : Nat) (hx : a.eval x = .pointer (some ⟨b, o, none⟩)) (cs : List Value) (d : TypeDesc) (hc : w.rangeAt b o cs) (hu : P.underlying ty = some d) (hd : d.isRow = true) (hi : (P.info? ty).map (·.size) = some cs.length)
    (h : wpListIn F nF P ops Q rest (a.put op.dst (.agg cs.toArray)) w) : wpListIn F nF P ops Q (op :: rest) a w := by
  refine wpListIn_plain hgd fun K' hK' => ?_
  have hrun := run_loadAt_mid (P := P) w b o ty cs d hc hu hd hi
  unfold Oper.wpIn
  refine ⟨by simp [Oper.about, ho], ?_⟩
  rw [Oper.semAt_plain F _ _ (by rw [ho]; intro c hc'; cases hc')]
  simp only [execOp, ho, hx, Sem.run_bind, hrun, Result.andThen_ok]
  exact hK' _ _ h

theorem wpListIn_store_mid {F : Fence} {nF : Nat} {P : Program} {ops : Array Oper} {rest : List Oper} {op : Oper} {a : Act} {w : World} {Q : Exit → Act → World → Prop} (hgd : op.guard = none) (ty : TypeId) (x y : Operand) (ho : op.op = .store ty x y)
    (b o : Nat) (cells : Array Value) (hx : a.eval x = .pointer (some ⟨b, o, none⟩)) (hy : a.eval y = .agg cells) (ht : w.there b o cells.size) (hi : (P.info? ty).map (·.size) = some cells.size) (h1 : cells.all (·.oneCell') = true)
    (h : wpListIn F nF P ops Q rest (a.put op.dst undef) (w.setCells b o cells.toList)) : wpListIn F nF P ops Q (op :: rest) a w := by
  refine wpListIn_plain hgd fun K' hK' => ?_
  have hrun := run_storeAt_mid (P := P) w b o ty cells ht hi h1
  unfold Oper.wpIn
  refine ⟨by simp [Oper.about, ho], ?_⟩
  rw [Oper.semAt_plain F _ _ (by rw [ho]; intro c hc'; cases hc')]
  simp only [execOp, ho, hx, hy, Sem.run_bind, hrun, Result.andThen_ok]
  exact hK' _ _ h

/-- A store that fills a new block. -/
theorem setCells_new (w : World) (t : TypeId) : ∀ (vs : List Value) (o : Nat) (cs : Array Value), o + vs.length ≤ cs.size → (w.alloc (.cells cs t)).setCells w.heap.size o vs = w.alloc (.cells (splice cs.toList o vs).toArray t)
  | [], o, cs, _ => by rw [splice_nil]; simp [World.setCells]
  | v :: vs, o, cs, h => by
    rw [World.setCells, World.setCell_alloc_at cs t _ o v rfl, setCells_new w t vs (o + 1) _ (by simp at h ⊢; omega), Array.toList_setIfInBounds, splice_cons _ _ _ _ (by simpa using h)]

theorem fill_new (w : World) (t : TypeId) (vs : List Value) (cs : Array Value) (h : vs.length = cs.size) : (w.alloc (.cells cs t)).setCells w.heap.size 0 vs = w.alloc (.cells vs.toArray t) := by
  rw [setCells_new w t vs 0 cs (by omega), splice_whole _ _ (by simpa using h)]

theorem wpListIn_fill {F : Fence} {nF : Nat} {P : Program} {ops : Array Oper} {rest : List Oper} {op : Oper} {a : Act} {w0 : World} {cs : Array Value} {t : TypeId} {Q : Exit → Act → World → Prop} (hgd : op.guard = none) (ty : TypeId) (x y : Operand) (ho : op.op = .store ty x y)
    (cells : Array Value) (hx : a.eval x = .pointer (some ⟨w0.heap.size, 0, none⟩)) (hy : a.eval y = .agg cells) (hcs : cells.size = cs.size) (hi : (P.info? ty).map (·.size) = some cells.size) (h1 : cells.all (·.oneCell') = true)
    (h : wpListIn F nF P ops Q rest (a.put op.dst undef) (w0.alloc (.cells cells t))) : wpListIn F nF P ops Q (op :: rest) a (w0.alloc (.cells cs t)) := by
  refine wpListIn_store_mid hgd ty x y ho w0.heap.size 0 cells hx hy (there_new _ _ _ _ hcs.symm) hi h1 ?_
  rw [fill_new w0 t cells.toList cs (by simpa using hcs)]
  simpa using h

theorem rowT_row (rs : List (Int × List Int)) (i : Nat) (hi : i < rs.length) (h : ∀ i, i < rs.length → (pD rs i).length = 64) (j : Nat) (u : Value) (hu : (Value.int .i64 (pB rs i) :: (pD rs i).map (Value.int .u8))[j]? = some u) : (rowT rs)[i * 65 + j]? = some u := by
  cases j with
  | zero => rw [Nat.add_zero, rowT_key rs i hi h]; simpa using hu
  | succ j =>
    rw [List.getElem?_cons_succ] at hu
    rw [show i * 65 + (j + 1) = i * 65 + 1 + j by omega]
    exact rowT_val rs i hi h j u hu

/-- Only blocks below M are asked, and of those not gd. -/
def KB (M gd : Nat) (W W' : World) : Prop := W.heap.size ≤ W'.heap.size ∧ ∀ q, q < M → q ≠ gd → W'.heap[q]? = W.heap[q]?
theorem KB.refl (M gd : Nat) (W : World) : KB M gd W W := ⟨Nat.le_refl _, fun _ _ _ => rfl⟩
theorem KB.trans {M gd : Nat} {A B C : World} (h : KB M gd A B) (k : KB M gd B C) : KB M gd A C := ⟨Nat.le_trans h.1 k.1, fun q hq hn => (k.2 q hq hn).trans (h.2 q hq hn)⟩
theorem KB.alloc {M gd : Nat} {A B : World} (h : KB M gd A B) (hM : M ≤ B.heap.size) (o : Obj) : KB M gd A (B.alloc o) := ⟨by have := h.1; simp; omega, fun q hq hn => (Below.heap_alloc B o q (by omega)).trans (h.2 q hq hn)⟩

/-- A row that fits, as a type. -/
abbrev RowF (dl : Nat) := { r : Int × List Int // Fits dl r }
def encR {dl : Nat} (x : RowF dl) : Array Value := #[.int .i64 x.1.1, .agg (x.1.2.map (Value.int .u8)).toArray]
def rowsF {dl : Nat} (rs : List (Int × List Int)) (h : ∀ r ∈ rs, Fits dl r) : List (RowF dl) := rs.pmap (fun r hr => ⟨r, hr⟩) h

theorem rowsF_map {dl : Nat} (rs : List (Int × List Int)) (h : ∀ r ∈ rs, Fits dl r) : (rowsF rs h).map (·.1) = rs := by
  unfold rowsF
  rw [List.map_pmap]
  simp

set_option maxHeartbeats 400000 in
theorem all_in (F : Fence) (n : Nat) (h87 : F.fn 136) (hro : F.round = none) (p0 : Option Addr) (w : World) :
    CallsIn F n Tryd.prog 136 #[.pointer p0] w fun e w' => e = .returned (.func (.func 154) #[] #[.pointer (some ⟨w.heap.size, 0, none⟩)]) ∧ w' = w.alloc (.cells #[.pointer p0] 196) := by
  refine callsIn_of_wp Tryd.func136 rfl h87 ?_ hro
  simp only [Tryd.ntmps136, List.size_toArray, List.length_cons, List.length_nil, Nat.reduceAdd, Nat.reduceSub, Array.replicate_succ, Array.replicate_zero, List.push_toArray, List.append_toArray, List.nil_append, List.cons_append]
  gi_wp2
  go_ret
  exact ⟨rfl, rfl⟩

theorem Tab.len {w : World} {lo tb mb : Nat} {v : Value} {rs : List (Int × List Int)} (h : Tab w lo tb mb v rs) : rs.length ≤ 9223372036854775807 := by
  rcases h.rows.2 with ⟨-, h1⟩ | ⟨g, cap, cur, -, -, -, h2, h3, -⟩
  · omega
  · unfold maxLen at h3; omega

theorem sizeT (n : Nat) (h : n = 65) : (Tryd.prog.info? 221).map (·.size) = some n := by subst h; kernel_rfl

set_option maxHeartbeats 2000000 in
set_option maxRecDepth 100000 in
theorem all1_in (F : Fence) (n : Nat) (h97 : F.fn 154) (hro : F.round = none) (hn : 1 ≤ n) (l Ba M gd lo tb mb dl : Nat) (v : Value) (rs : List (Int × List Int)) (hf : ∀ r ∈ rs, Fits dl r) (J Jx : List (RowF dl) → World → Prop)
    (hY : ∀ pre x W, J pre W → pre.length < rs.length → YieldAt F (n - 1) Tryd.prog l (encR x) W fun e W' =>
      (e = .returned (.bool true) ∧ J (pre ++ [x]) W' ∧ KB M gd W W') ∨ (e = .returned (.bool false) ∧ Jx (pre ++ [x]) W'))
    (W : World) (hJ : AbidesFrom W.heap.size J) (hM : M ≤ W.heap.size) (hvb : ∀ q, v.ownBlock = some q → q < M ∧ q ≠ gd) (hc : W.cell? ⟨Ba, 0, none⟩ = some (.pointer (some ⟨tb, 0, none⟩))) (hT : Tab W lo tb mb v rs) (hlen : rs.length ≤ 9223372036854775807) (h0 : J [] W) :
    CallsIn F n Tryd.prog 154 #[.func (.yield l) #[] #[], .pointer (some ⟨Ba, 0, none⟩)] W fun e W' => (∃ v, e = .returned v) ∧
      ((∃ ys, ys = rowsF rs hf ∧ J ys W') ∨ (∃ pre, True ∧ Jx pre W')) := by
  obtain ⟨va, vcap, rfl⟩ : ∃ a c, v = .slice a rs.length c := by
    rcases hT.rows.2 with ⟨rfl, h1⟩ | ⟨g, cap, cur, rfl, -⟩
    · exact ⟨none, 0, by rw [h1]⟩
    · exact ⟨_, _, rfl⟩
  have HT : Hid (Tab W lo tb mb (.slice va rs.length vcap) rs) := hT
  obtain ⟨⟨zt, c0, c1⟩, -⟩ := hT.box
  have HY : Hid (∀ pre x W, J pre W → pre.length < rs.length → YieldAt F (n - 1) Tryd.prog l (encR x) W fun e W' =>
      (e = .returned (.bool true) ∧ J (pre ++ [x]) W' ∧ KB M gd W W') ∨ (e = .returned (.bool false) ∧ Jx (pre ++ [x]) W')) := hY
  have HJ : Hid (AbidesFrom W.heap.size J) := hJ
  have H0 : Hid (J [] W) := h0
  clear hT hY hJ h0
  refine callsIn_of_wp Tryd.func154 rfl h97 ?_ hro
  simp only [Tryd.ntmps154, List.size_toArray, List.length_cons, List.length_nil, Nat.reduceAdd, Nat.reduceSub, Array.replicate_succ, Array.replicate_zero, List.push_toArray, List.append_toArray, List.nil_append, List.cons_append]
  gi_wp2
  clear c0 c1 hc
  gi_loopw [10] (fun i wr => ∃ k : Nat, k ≤ rs.length ∧ i = .int .i64 k ∧ Hid (J ((rowsF rs hf).take k) wr) ∧ Hid (KB M gd W wr)) (fun i _ => rs.length - (intOf i).toNat)
  case atStart => exact ⟨0, Nat.zero_le _, rfl, (by rw [List.take_zero]; exact H0.out), KB.refl _ _ _⟩
  case round =>
    obtain ⟨k, hk, rfl, HJk, HG⟩ := hrel
    have hlF : (rowsF rs hf).length = rs.length := by unfold rowsF; simp
    have HLF : Hid ((rowsF rs hf).length = rs.length) := hlF
    have sg := HG.out.1
    clear hlF
    by_cases hlt : k < rs.length
    · obtain ⟨g, cap, e, hg1, hg2, hc1, hc2⟩ := HT.out.form (by omega)
      simp only [Value.slice.injEq, true_and] at e
      obtain ⟨rfl, rfl⟩ := e
      obtain ⟨hgM, hgd⟩ := hvb g rfl
      obtain ⟨key, hkey⟩ : ∃ key, key = pB rs k := ⟨_, rfl⟩
      obtain ⟨V, hV⟩ : ∃ V, V = (pD rs k).map (Value.int .u8) := ⟨_, rfl⟩
      obtain ⟨x, hx⟩ : ∃ x, (rowsF rs hf)[k]? = some x := ⟨_, List.getElem?_eq_getElem (by rw [HLF.out]; exact hlt)⟩
      have hx1 : x.1 = (pB rs k, pD rs k) := by
        have h1 : ((rowsF rs hf).map (·.1))[k]? = some x.1 := by rw [List.getElem?_map, hx]; rfl
        rw [rowsF_map, List.getElem?_eq_getElem hlt] at h1
        injection h1 with h1
        rw [← h1]; unfold pB pD; simp [List.getD, hlt]
      have HTK : Hid ((rowsF rs hf).take (k + 1) = (rowsF rs hf).take k ++ [x]) := by show _ = _; rw [List.take_add_one, hx]; rfl
      have henc : encR x = #[.int .i64 key, .agg V.toArray] := by unfold encR; rw [hx1, hkey, hV]
      have HVL : Hid (V.length = 64) := by rw [hV]; show _ = _; rw [List.length_map]; exact HT.out.full k hlt
      have HV1 : Hid (∀ v ∈ V, v.oneCell' = true) := by rw [hV]; exact ints_oneCell _ _
      have RW : Hid (wr.rangeAt g (k * 65) (Value.int .i64 key :: V)) := by
        intro j u hu
        rw [hkey, hV] at hu
        have hj : j < 65 := by have := (List.getElem?_eq_some_iff.1 hu).1; simpa [HT.out.full k hlt] using this
        rw [World.cell?_of_block (w := W) (a := ⟨g, k * 65 + j, none⟩) (HG.out.2 g hgM hgd), World.ownsRow.cellAt HT.out.rows (k * 65 + j) (by omega)]
        exact rowT_row rs k hlt HT.out.full j u hu
      have H65 : Hid ((Value.int .i64 key :: V).length = 65) := by show _ = _; rw [List.length_cons, HVL.out]
      have H651 : Hid (∀ u ∈ (Value.int .i64 key :: V), u.oneCell' = true) := by
        intro u hu
        rcases List.mem_cons.1 hu with rfl | hu
        · rfl
        · exact HV1.out u hu
      have JA : J ((rowsF rs hf).take k) (wr.alloc (.cells (Value.int .i64 key :: V).toArray 221)) := HJ.out _ wr _ none HJk.out (World.grownBy_alloc _ _ _) (fun r e => by cases e)
      have hYx := HY.out _ x _ JA (by rw [List.length_take, HLF.out]; omega)
      rw [henc] at hYx
      have R2 : Hid ((wr.alloc (.cells (Value.int .i64 key :: V).toArray 221)).rangeAt wr.heap.size 1 V) := by
        intro j u hu
        rw [cell_of_row _ _ (1 + j) _ _ _ (heap_alloc_new wr _)]
        rw [show 1 + j = j + 1 by omega]
        simpa using hu
      have hltI : (k : Int) < (rs.length : Int) := by omega
      unfold maxLen at hc2
      obtain ⟨fn, tmps, assign, body, hy, hR⟩ := hYx
      clear hkey hV hx hx1 henc JA
      gi_wp2_with (first | (refine wpListIn_load_mid rfl 221 _ rfl g (k * 65) rfl (Value.int .i64 key :: V) _ (World.rangeAt_alloc RW.out _) Tryd.underlying221 rfl (sizeT _ H65.out) ?_) | (refine wpListIn_load_mid rfl 221 _ rfl g (k * 65) rfl (Value.int .i64 key :: V) _ RW.out Tryd.underlying221 rfl (sizeT _ H65.out) ?_) | (refine wpListIn_fill rfl 221 _ _ rfl (Value.int .i64 key :: V).toArray rfl rfl ?s1 ?s2 ?s3 ?_) | (refine wpListIn_load_mid rfl 77 _ rfl wr.heap.size 1 rfl V _ R2.out Tryd.underlying77 rfl (sizeA _ HVL.out) ?_))
      case s1 => rw [List.size_toArray, H65.out]; rfl
      case s2 => rw [List.size_toArray]; exact sizeT _ H65.out
      case s3 => exact all_oneCell_toArray H651.out
      refine hR.mono ?_
      rintro e W3 (⟨rfl, hJ3, hk3⟩ | ⟨rfl, hJx3⟩)
      · have HJ3 : Hid (J ((rowsF rs hf).take (k + 1)) W3) := by show J _ _; rw [HTK.out]; exact hJ3
        have HG3 : Hid (KB M gd W W3) := (HG.out.alloc (by omega) _).trans hk3
        clear hJ3 hk3 hy hR
        gi_wp2
        go_roundw
        case rel => exact ⟨k + 1, by omega, by go_num, HJ3, HG3⟩
        case measure => simp [intOf]; omega
      · gi_wp2
        refine bodyPost_ret (results_none rfl _ _ _) rfl ?_
        exact ⟨⟨_, rfl⟩, .inr ⟨_, trivial, hJx3⟩⟩
    · have hkn : k = rs.length := by omega
      subst hkn
      gi_wp2
      go_end0
      exact ⟨⟨_, rfl⟩, .inl ⟨_, rfl, by have := HJk.out; rw [List.take_of_length_le (by rw [HLF.out]; exact Nat.le_refl _)] at this; exact this⟩⟩

theorem all_stops (F : Fence) (n : Nat) (h97 : F.fn 154) (hro : F.round = none) (hn : 1 ≤ n) (Ba M gd lo tb mb dl : Nat) (v : Value) (rs : List (Int × List Int)) (hf : ∀ r ∈ rs, Fits dl r)
    (w : World) (hM : M ≤ w.heap.size) (hBa : Ba < w.heap.size) (hvb : ∀ q, v.ownBlock = some q → q < M ∧ q ≠ gd) (hc : w.cell? ⟨Ba, 0, none⟩ = some (.pointer (some ⟨tb, 0, none⟩))) (hT : Tab w lo tb mb v rs) (hlen : rs.length ≤ 9223372036854775807) :
    SeqStopsK F n Tryd.prog 154 #[.pointer (some ⟨Ba, 0, none⟩)] (encR (dl := dl)) (KB M gd) (fun ys => ys = rowsF rs hf) (fun _ => True) rs.length w := fun l J Jx W hW hJ _ hY h0 =>
  all1_in F n h97 hro hn l Ba M gd lo tb mb dl v rs hf J Jx hY W hJ (Nat.le_trans hM hW.size) hvb ((hW.cell (p := ⟨Ba, 0, none⟩) hBa).trans hc) (hT.below hW) hlen h0

end Go.Proofs.YtcopcegamadkgaaDoor

