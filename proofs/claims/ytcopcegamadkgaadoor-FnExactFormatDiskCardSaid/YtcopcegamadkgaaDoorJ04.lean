import Derived.Test.YtcopcegamadkgaaDoorJ03
import Derived.Deep.RegionWith
import Derived.Deep.RegionLaw
import Derived.Laws.Cover3
import Derived.Deep.MidRow
import Derived.Laws.CopyOwn
import Derived.Deep.AppendLies
import Derived.Great.BuildSlice
import Derived.Maps.OwnSet
import Derived.Deep.RegionHeld3
import Derived.BigRegion
import Derived.RangeFuncNested
import Derived.RangeFuncLeaves
import Derived.Shelf.Abstract
import Derived.OwnWalkIn
import Derived.TacticsInMore
import Derived.LoopNIn
import Derived.LoopIn
import Derived.Test.YtcopcegamadkgaaDoorJ02
import Derived.Test.YtcopcegamadkgaaDoorJ01
import Derived.Test.YtcopcegamadkgaaDoorCards
import Derived.Test.YtcopcegamadkgaaDoorTie
import Derived.Deep.DeepHandedRow
import Derived.Lib.LaidIn
import Derived.ShutString
import Derived.ChangeOld
import Derived.ChangeMaps5
import Derived.Lib.LaidTab
import Derived.Lib.SmallJoins
namespace Go.Proofs.YtcopcegamadkgaaDoor
open Go.RowKit

def pB (ps : List (Int × List Int)) (i : Nat) : Int := (ps.getD i (0, [])).1
def pD (ps : List (Int × List Int)) (i : Nat) : List Int := (ps.getD i (0, [])).2

/-- A slice of records (a number and a list of bytes) that reads as ps. -/
def RdW (w : World) (v : Value) (ps : List (Int × List Int)) : Prop :=
  ∃ ao cap, v = .slice ao ps.length cap ∧ ps.length ≤ cap ∧ cap ≤ maxLen ∧
    (ps = [] ∨ ∃ b off, ao = some ⟨b, off, none⟩ ∧ b < w.heap.size ∧ ∀ i, i < ps.length →
      w.cell? ⟨b, off + i * 2, none⟩ = some (.int .i64 (pB ps i)) ∧ ∃ da c, w.cell? ⟨b, off + i * 2 + 1, none⟩ = some (.slice da (pD ps i).length c) ∧ Rd .u8 w (.slice da (pD ps i).length c) (pD ps i))

theorem RdW.len {w : World} {v : Value} {ps : List (Int × List Int)} (h : RdW w v ps) : ∃ ao cap, v = .slice ao ps.length cap ∧ ps.length ≤ cap ∧ cap ≤ maxLen := by
  obtain ⟨ao, cap, h0, h1, h2, _⟩ := h
  exact ⟨ao, cap, h0, h1, h2⟩

theorem RdW.below {w w' : World} {v : Value} {ps : List (Int × List Int)} (h : RdW w v ps) (hb : Below w.heap.size w w') : RdW w' v ps := by
  obtain ⟨ao, cap, rfl, h1, h2, h3⟩ := h
  refine ⟨ao, cap, rfl, h1, h2, ?_⟩
  rcases h3 with h3 | ⟨b, off, rfl, hlt, hc⟩
  · exact .inl h3
  · refine .inr ⟨b, off, rfl, Nat.lt_of_lt_of_le hlt hb.size, fun i hi => ?_⟩
    obtain ⟨c1, da, c, c2, r⟩ := hc i hi
    exact ⟨(hb.cell (p := ⟨b, _, none⟩) hlt).trans c1, da, c, (hb.cell (p := ⟨b, _, none⟩) hlt).trans c2, r.below hb⟩

end Go.Proofs.YtcopcegamadkgaaDoor

namespace Go.Proofs.YtcopcegamadkgaaDoor
open Go.RowKit

/-! ### rows of records -/
def rowW (n : Nat) (f : Nat → Int) (g : Nat → Value) : List Value := (List.range n).flatMap fun i => [.int .i64 (f i), g i]

theorem rowW_succ (n : Nat) (f : Nat → Int) (g : Nat → Value) : rowW (n + 1) f g = rowW n f g ++ [.int .i64 (f n), g n] := by
  unfold rowW; rw [List.range_succ, List.flatMap_append]; simp
theorem rowW_length (n : Nat) (f : Nat → Int) (g : Nat → Value) : (rowW n f g).length = n * 2 := by
  induction n with
  | zero => rfl
  | succ n ih => rw [rowW_succ, List.length_append, ih]; simp; omega
theorem rowW_get (n : Nat) (f : Nat → Int) (g : Nat → Value) (j : Nat) (h : j < n * 2) : (rowW n f g)[j]? = some (if j % 2 = 0 then .int .i64 (f (j / 2)) else g (j / 2)) := by
  induction n with
  | zero => omega
  | succ n ih =>
    rw [rowW_succ]
    by_cases hj : j < n * 2
    · rw [List.getElem?_append_left (by rw [rowW_length]; exact hj), ih hj]
    · rw [List.getElem?_append_right (by rw [rowW_length]; omega), rowW_length]
      by_cases e : j = n * 2
      · subst e
        simp [show n * 2 % 2 = 0 by omega]
      · have e2 : j = n * 2 + 1 := by omega
        subst e2
        rw [if_neg (by omega), show n * 2 + 1 - n * 2 = 1 by omega, show (n * 2 + 1) / 2 = n by omega]
        rfl
def Ne2 (a b : Value) : Prop := a.ownBlock = none ∨ a.ownBlock ≠ b.ownBlock

theorem Own.slice {k : IntKind} {e : TypeId} {w : World} {lo : Nat} {v : Value} {xs : List Int} (h : Own k e w lo v xs) : ∃ a c, v = .slice a xs.length c := by
  obtain ⟨a, c, h0, _⟩ := h.rd.len
  exact ⟨a, c, h0⟩
/-- Bytes in a row of the call's own, whatever type the row is of. -/
def OwnB (w : World) (lo : Nat) (v : Value) (xs : List Int) : Prop := ∃ te, Own .u8 te w lo v xs
theorem Own.b {te : TypeId} {w : World} {lo : Nat} {v : Value} {xs : List Int} (h : Own .u8 te w lo v xs) : OwnB w lo v xs := ⟨te, h⟩
theorem OwnB.rd {w : World} {lo : Nat} {v : Value} {xs : List Int} (h : OwnB w lo v xs) : Rd .u8 w v xs := h.elim fun _ h => h.rd
theorem OwnB.below {w w' : World} {lo : Nat} {v : Value} {xs : List Int} (h : OwnB w lo v xs) (hb : Below w.heap.size w w') : OwnB w' lo v xs := h.elim fun _ h => ⟨_, h.below hb⟩
theorem OwnB.mono {w : World} {lo lo' : Nat} {v : Value} {xs : List Int} (h : OwnB w lo v xs) (hl : lo' ≤ lo) : OwnB w lo' v xs := h.elim fun _ h => ⟨_, h.mono hl⟩
theorem OwnB.other {w w' : World} {lo : Nat} {v : Value} {xs : List Int} {row : Option Nat} (h : OwnB w lo v xs) (hg : w.grownBy w' row) (hne : v.ownBlock = none ∨ v.ownBlock ≠ row) : OwnB w' lo v xs := h.elim fun _ h => ⟨_, h.other hg hne⟩
theorem OwnB.lt {w : World} {lo : Nat} {v : Value} {xs : List Int} (h : OwnB w lo v xs) : ∀ g, v.ownBlock = some g → lo ≤ g ∧ g < w.heap.size := h.elim fun _ h => h.lt
theorem OwnB.slice {w : World} {lo : Nat} {v : Value} {xs : List Int} (h : OwnB w lo v xs) : ∃ a c, v = .slice a xs.length c := h.elim fun _ h => h.slice
theorem OwnB.setBelow {w : World} {lo : Nat} {v : Value} {xs : List Int} (h : OwnB w lo v xs) {a : Addr} (ha : a.block < lo) (u : Value) : OwnB (w.setCell a u) lo v xs := h.elim fun _ h => ⟨_, h.setBelow ha u⟩

/-- A slice of records that is the call's own, each list in a row of its own. -/
def OwnW (e : TypeId) (w : World) (lo : Nat) (v : Value) (ps : List (Int × List Int)) (dv : Nat → Value) : Prop :=
  w.ownsRow lo e 2 v ps.length (rowW ps.length (pB ps) dv) ∧ (∀ i, i < ps.length → OwnB w lo (dv i) (pD ps i)) ∧
  (∀ i j, i < ps.length → j < ps.length → i ≠ j → Ne2 (dv i) (dv j)) ∧ ∀ i, i < ps.length → Ne2 (dv i) v

theorem OwnW.rd {e : TypeId} {w : World} {lo : Nat} {v : Value} {ps : List (Int × List Int)} {dv : Nat → Value} (h : OwnW e w lo v ps dv) : RdW w v ps := by
  obtain ⟨ho, hd, _, _⟩ := h
  rcases ho.2 with ⟨rfl, h0⟩ | ⟨g, cap, cur, rfl, hb, hg, hn, hm, hs, ht⟩
  · have : ps = [] := List.eq_nil_of_length_eq_zero h0
    subst this
    exact ⟨none, 0, rfl, Nat.le_refl _, Nat.zero_le _, .inl rfl⟩
  · refine ⟨_, cap, rfl, hn, hm, .inr ⟨g, 0, rfl, (Array.getElem?_eq_some_iff.1 hg).1, fun i hi => ?_⟩⟩
    have c1 := World.ownsRow.cells ho (g := g) rfl (i * 2) _ (rowW_get _ _ _ _ (by omega))
    have c2 := World.ownsRow.cells ho (g := g) rfl (i * 2 + 1) _ (rowW_get _ _ _ _ (by omega))
    rw [Addr.add_lit] at c1 c2
    rw [if_pos (by omega), show i * 2 / 2 = i by omega] at c1
    rw [if_neg (by omega), show (i * 2 + 1) / 2 = i by omega] at c2
    obtain ⟨a, c, e⟩ := (hd i hi).slice
    refine ⟨c1, a, c, ?_, ?_⟩
    · rw [← e, Nat.add_assoc]; exact c2
    · rw [← e]; exact (hd i hi).rd

theorem OwnW.below {e : TypeId} {w w' : World} {lo : Nat} {v : Value} {ps : List (Int × List Int)} {dv : Nat → Value} (h : OwnW e w lo v ps dv) (hb : Below w.heap.size w w') : OwnW e w' lo v ps dv := by
  obtain ⟨ho, hd, h3, h4⟩ := h
  refine ⟨⟨ho.1, ?_⟩, fun i hi => (hd i hi).below hb, h3, h4⟩
  rcases ho.2 with hn | ⟨g, cap, cur, rfl, hbg, hgg, rest⟩
  · exact .inl hn
  · exact .inr ⟨g, cap, cur, rfl, hbg, by rw [hb.block g (Array.getElem?_eq_some_iff.1 hgg).1]; exact hgg, rest⟩

theorem OwnW.mono {e : TypeId} {w : World} {lo lo' : Nat} {v : Value} {ps : List (Int × List Int)} {dv : Nat → Value} (h : OwnW e w lo v ps dv) (hl : lo' ≤ lo) : OwnW e w lo' v ps dv := by
  obtain ⟨ho, hd, h3, h4⟩ := h
  refine ⟨⟨ho.1, ?_⟩, fun i hi => (hd i hi).mono hl, h3, h4⟩
  rcases ho.2 with hn | ⟨g, cap, cur, rfl, hbg, rest⟩
  · exact .inl hn
  · exact .inr ⟨g, cap, cur, rfl, by omega, rest⟩


end Go.Proofs.YtcopcegamadkgaaDoor

namespace Go.Proofs.YtcopcegamadkgaaDoor
open Go.RowKit

theorem OwnW.slice {e : TypeId} {w : World} {lo : Nat} {v : Value} {ps : List (Int × List Int)} {dv : Nat → Value} (h : OwnW e w lo v ps dv) : ∃ a c, v = .slice a ps.length c := by
  obtain ⟨a, c, h0, _⟩ := h.rd.len
  exact ⟨a, c, h0⟩

theorem OwnW.setBelow {e : TypeId} {w : World} {lo : Nat} {v : Value} {ps : List (Int × List Int)} {dv : Nat → Value} (h : OwnW e w lo v ps dv) {a : Addr} (ha : a.block < lo) (u : Value) : OwnW e (w.setCell a u) lo v ps dv :=
  ⟨ownsRow_setCell_below h.1 ha u, fun i hi => (h.2.1 i hi).setBelow ha u, h.2.2⟩


end Go.Proofs.YtcopcegamadkgaaDoor

namespace Go.Proofs.YtcopcegamadkgaaDoor
open Go.RowKit

/-- The cells of a slice of records. -/
def CellsW (w : World) (b o n : Nat) (ps : List (Int × List Int)) : Prop :=
  ∀ i, i < n → w.cell? ⟨b, o + i * 2, none⟩ = some (.int .i64 (pB ps i)) ∧ ∃ da c, w.cell? ⟨b, o + i * 2 + 1, none⟩ = some (.slice da (pD ps i).length c)

theorem RdW.cells {w : World} {ao : Option Addr} {n cap : Nat} {ps : List (Int × List Int)} (h : RdW w (.slice ao n cap) ps) (hn : 0 < n) : ∃ b o, ao = some ⟨b, o, none⟩ ∧ b < w.heap.size ∧ CellsW w b o n ps ∧ ps.length = n := by
  obtain ⟨ao', cap', e, h1, h2, h3⟩ := h
  simp only [Value.slice.injEq] at e
  obtain ⟨rfl, rfl, rfl⟩ := e
  rcases h3 with rfl | ⟨b, o, rfl, hb, hc⟩
  · simp at hn
  · exact ⟨b, o, rfl, hb, fun i hi => ⟨(hc i hi).1, by obtain ⟨da, c, h, _⟩ := (hc i hi).2; exact ⟨da, c, h⟩⟩, rfl⟩

theorem CellsW.below {w w' : World} {b o n : Nat} {ps : List (Int × List Int)} (h : CellsW w b o n ps) (hb : b < w.heap.size) (hB : Below w.heap.size w w') : CellsW w' b o n ps :=
  fun i hi => ⟨(hB.cell (p := ⟨b, _, none⟩) hb).trans (h i hi).1, by obtain ⟨da, c, e⟩ := (h i hi).2; exact ⟨da, c, (hB.cell (p := ⟨b, _, none⟩) hb).trans e⟩⟩




end Go.Proofs.YtcopcegamadkgaaDoor

namespace Go.Proofs.YtcopcegamadkgaaDoor
open Go.RowKit

/-- Only blocks from lo to hi may have turned. -/
structure Within (lo hi : Nat) (w w' : World) : Prop where
  os : w'.os = w.os
  tape : w'.tape = w.tape
  output : w'.output = w.output
  size : w.heap.size ≤ w'.heap.size
  block : ∀ k, k < w.heap.size → (k < lo ∨ hi ≤ k) → w'.heap[k]? = w.heap[k]?

theorem Within.refl (lo hi : Nat) (w : World) : Within lo hi w w := ⟨rfl, rfl, rfl, Nat.le_refl _, fun _ _ _ => rfl⟩
theorem Within.trans {lo hi : Nat} {a b c : World} (h : Within lo hi a b) (k : Within lo hi b c) : Within lo hi a c :=
  ⟨k.os.trans h.os, k.tape.trans h.tape, k.output.trans h.output, Nat.le_trans h.size k.size, fun i hi hj => (k.block i (Nat.lt_of_lt_of_le hi h.size) hj).trans (h.block i hi hj)⟩
theorem Within.of_grown {lo hi : Nat} {a b : World} {row : Option Nat} (h : a.grownBy b row) (hr : ∀ g, row = some g → lo ≤ g ∧ g < hi) : Within lo hi a b :=
  ⟨h.os, h.tape, h.output, h.size, fun k hk hj => h.block k hk (fun e => by have := hr k e.symm; omega)⟩
theorem Within.setCell {lo hi g : Nat} (w : World) (h1 : lo ≤ g) (h2 : g < hi) (j : Nat) (u : Value) : Within lo hi w (w.setCell ⟨g, j, none⟩ u) :=
  Within.of_grown (grownBy_set w w g j u (World.grownBy.refl _ _)) (fun q e => by injection e with e; omega)
theorem Within.below {lo hi B : Nat} {a b c : World} (hb : Below B a b) (h : Within lo hi b c) (hB : B ≤ lo) (hs : B ≤ b.heap.size) : Below B a c :=
  ⟨h.os.trans hb.os, h.tape.trans hb.tape, h.output.trans hb.output, Nat.le_trans hb.size h.size, fun k hk => (h.block k (by omega) (.inl (by omega))).trans (hb.block k hk)⟩
theorem Within.own {lo hi : Nat} {a b : World} (h : Within lo hi a b) {k : IntKind} {e : TypeId} {B : Nat} {v : Value} {xs : List Int} (ho : Own k e a B v xs) (hv : ∀ g, v.ownBlock = some g → g < lo ∨ hi ≤ g) : Own k e b B v xs := by
  refine ⟨ho.1, ?_⟩
  rcases ho.2 with hn | ⟨g, cap, cur, rfl, hbg, hgg, rest⟩
  · exact .inl hn
  · exact .inr ⟨g, cap, cur, rfl, hbg, by rw [h.block g (Array.getElem?_eq_some_iff.1 hgg).1 (hv g rfl)]; exact hgg, rest⟩
/-- A disk of the call's own: its bytes in blocks from lo to mid, its records from mid to hi. -/
structure OwnD (w : World) (lo hi : Nat) (vd vp : Value) (dur : List Int) (ps : List (Int × List Int)) (dv : Nat → Value) : Prop where
  d : Own .u8 5 w lo vd dur
  p : OwnW 131 w lo vp ps dv
  dlt : ∀ g, vd.ownBlock = some g → g < hi
  plt : ∀ g, vp.ownBlock = some g → g < hi
  qlt : ∀ i, i < ps.length → ∀ g, (dv i).ownBlock = some g → g < hi
  dp : Ne2 vp vd
  dq : ∀ i, i < ps.length → Ne2 (dv i) vd

theorem OwnD.below {w w' : World} {lo hi : Nat} {vd vp : Value} {dur : List Int} {ps : List (Int × List Int)} {dv : Nat → Value} (ho : OwnD w lo hi vd vp dur ps dv) (hb : Below w.heap.size w w') : OwnD w' lo hi vd vp dur ps dv :=
  ⟨ho.d.below hb, ho.p.below hb, ho.dlt, ho.plt, ho.qlt, ho.dp, ho.dq⟩

end Go.Proofs.YtcopcegamadkgaaDoor

namespace Go.Proofs.YtcopcegamadkgaaDoor
open Go.RowKit

set_option maxHeartbeats 400000 in
set_option maxRecDepth 100000 in
theorem l1Copy_row (w : World) (b o n cap : Nat) (xs : List Int) (hx : xs.length = n) (hb : b < w.heap.size) (hc : ∀ i, i < n → w.cell? ⟨b, o + i, none⟩ = some (.int .u8 (xs.getD i 0))) (hn : n ≤ 1099511627776) :
    Calls Tryd.prog 84 #[.slice (some ⟨b, o, none⟩) n cap] w fun e w' => ∃ v', e = .returned v' ∧ Own .u8 5 w' w.heap.size v' xs ∧ Below w.heap.size w w' := by
  obtain ⟨i0, hi, hz0, hz1, hz2⟩ := info_parts Tryd.infoB
  have HC : Hid (∀ i, i < n → w.cell? ⟨b, o + i, none⟩ = some (.int .u8 (xs.getD i 0))) := hc
  have HX : Hid (xs.length = n) := hx
  clear hc hx
  go_enter Tryd.func84, Tryd.ntmps84
  go_wp2
  go_loopw [3, 4] (fun v i wr => ∃ k : Nat, k ≤ n ∧ i = .int .i64 k ∧ wr.ownsRow w.heap.size 5 1 v k ((xs.take k).map (Value.int .u8)) ∧ Below w.heap.size w wr) (fun _ i _ => n - (intOf i).toNat)
  case atStart => exact ⟨0, Nat.zero_le _, rfl, World.ownsRow_lit w #[] 0 (Nat.le_refl _) (Nat.zero_le _) rfl, (Below.refl _ _).alloc (Nat.le_refl _) _⟩
  case round =>
    obtain ⟨k, hk, rfl, ho, hg⟩ := hrel
    by_cases hlt : k < n
    · have hltI : (k : Int) < (n : Int) := by omega
      have hsrc : wr.cell? ⟨b, o + k, none⟩ = some (.int .u8 (xs.getD k 0)) := (hg.cell (p := ⟨b, o + k, none⟩) hb).trans (HC.out k hlt)
      have HTK : Hid (xs.take (k + 1) = xs.take k ++ [xs.getD k 0]) := take_succ_getD xs k (by rw [HX.out]; exact hlt)
      generalize xs.getD k 0 = x at *
      go_wp2_with (at_builtin; go_must (refine wpList_append_own _ rfl _ _ 24 rfl w.heap.size 5 i0 (.int .u8 0) 1 1 Tryd.underlying24 hi hz0 hz1 hz2 rfl (by decide) _ _ _ rfl (ho.alloc _) ⟨wr.heap.size, 0, none⟩ 1 1 [.int .u8 x] rfl rfl (cell_one_new _ _ _) (by intro u hu; simp at hu; subst hu; rfl) ?c3 ?c4 ?c5 ?_))
      case c3 => unfold maxLen; omega
      case c4 => omega
      case c5 => have := hg.size; simp; omega
      intro v2 w2 ho2 hg2 _
      have HO2 : Hid (w2.ownsRow w.heap.size 5 1 v2 (k + 1) ((xs.take (k + 1)).map (Value.int .u8))) := by
        show World.ownsRow _ _ _ _ _ _ _; rw [HTK.out, List.map_append, List.map_take]; exact ho2
      have HG2 : Hid (Below w.heap.size w w2) := (hg.alloc (hg.size) _).grown hg2 (by have := hg.size; simp; omega) (fun q hq => (ho.lt q hq).1)
      clear ho2 hg2 ho hg
      go_wp2
      go_roundw
      case rel => exact ⟨k + 1, by omega, by go_num, HO2.out, HG2.out⟩
      case measure => simp [intOf]; omega
    · have hkn : k = n := by omega
      subst hkn
      go_wp2
      go_ret
      exact ⟨_, rfl, own_of (ys := xs) HX.out rfl (by rw [List.take_of_length_le (by rw [HX.out]; exact Nat.le_refl _)] at ho; exact ho), hg⟩

set_option maxHeartbeats 400000 in
theorem l1Copy_nil (w : World) (ao : Option Addr) (cap : Nat) :
    Calls Tryd.prog 84 #[.slice ao 0 cap] w fun e w' => ∃ v', e = .returned v' ∧ Own .u8 5 w' w.heap.size v' [] ∧ Below w.heap.size w w' := by
  go_enter Tryd.func84, Tryd.ntmps84
  go_wp2
  go_rounds 1
  go_ret
  exact ⟨_, rfl, World.ownsRow_lit w #[] 0 (Nat.le_refl _) (Nat.zero_le _) rfl, (Below.refl _ _).alloc (Nat.le_refl _) _⟩

theorem l1Copy_any (w : World) (v : Value) (xs : List Int) (h : Rd .u8 w v xs) (hn : xs.length ≤ 1099511627776) :
    Calls Tryd.prog 84 #[v] w fun e w' => ∃ v', e = .returned v' ∧ Own .u8 5 w' w.heap.size v' xs ∧ Below w.heap.size w w' := by
  obtain ⟨ao, cap, rfl, h1, h2, h3⟩ := h
  rcases h3 with rfl | ⟨b, o, rfl, hb, hc⟩
  · exact l1Copy_nil w ao cap
  · exact l1Copy_row w b o xs.length cap xs rfl hb hc hn

end Go.Proofs.YtcopcegamadkgaaDoor

namespace Go.Proofs.YtcopcegamadkgaaDoor
open Go.RowKit

/-- A local struct of two cells that may be written. -/
def BoxF (w : World) (b : Nat) (x y : Value) : Prop := Box2 w b x y ∧ w.frozen? ⟨b, 0, none⟩ = false ∧ w.frozen? ⟨b, 1, none⟩ = false
theorem BoxF.below {w w' : World} {b : Nat} {x y : Value} (h : BoxF w b x y) (hb : Below w.heap.size w w') : BoxF w' b x y :=
  ⟨h.1.below hb, (hb.frozen (p := ⟨b, 0, none⟩) h.1.1).trans h.2.1, (hb.frozen (p := ⟨b, 1, none⟩) h.1.1).trans h.2.2⟩
theorem BoxF.new (w : World) (x y : Value) (t : TypeId) : BoxF (w.alloc (.cells #[x, y] t)) w.heap.size x y := ⟨Box2.new _ _ _ _, by simp, by simp⟩
theorem BoxF.belowB {w w' : World} {b B : Nat} {x y : Value} (h : BoxF w b x y) (hb : Below B w w') (hB : b < B) : BoxF w' b x y :=
  ⟨⟨Nat.lt_of_lt_of_le h.1.1 hb.size, (hb.cell (p := ⟨b, 0, none⟩) hB).trans h.1.2.1, (hb.cell (p := ⟨b, 1, none⟩) hB).trans h.1.2.2⟩, (hb.frozen (p := ⟨b, 0, none⟩) hB).trans h.2.1, (hb.frozen (p := ⟨b, 1, none⟩) hB).trans h.2.2⟩

/-- What the rounds of a copy have made so far. -/
def Made (w : World) (lo g k cap : Nat) (ps : List (Int × List Int)) (dv : Nat → Value) : Prop :=
  w.ownsRow lo 131 2 (.slice (some ⟨g, 0, none⟩) k cap) k (rowW k (pB ps) dv) ∧ (∀ i, i < k → Own .u8 5 w (g + 1) (dv i) (pD ps i)) ∧ (∀ i j, i < k → j < k → i ≠ j → Ne2 (dv i) (dv j))

theorem Made.below {w w' : World} {lo g k cap : Nat} {ps : List (Int × List Int)} {dv : Nat → Value} (h : Made w lo g k cap ps dv) (hb : Below w.heap.size w w') : Made w' lo g k cap ps dv :=
  ⟨World.ownsRow.kept h.1 (row := none) ⟨hb.os, hb.tape, hb.output, hb.size, fun q hq _ => hb.block q hq⟩ (.inr (by simp [Value.ownBlock])), fun i hi => (h.2.1 i hi).below hb, h.2.2⟩

theorem OwnD.mono {w : World} {lo lo' hi hi' : Nat} {vd vp : Value} {dur : List Int} {ps : List (Int × List Int)} {dv : Nat → Value} (ho : OwnD w lo hi vd vp dur ps dv) (hl : lo' ≤ lo) (hh : hi ≤ hi') : OwnD w lo' hi' vd vp dur ps dv :=
  ⟨ho.d.mono hl, ho.p.mono hl, fun g hg => Nat.lt_of_lt_of_le (ho.dlt g hg) hh, fun g hg => Nat.lt_of_lt_of_le (ho.plt g hg) hh, fun i hi g hg => Nat.lt_of_lt_of_le (ho.qlt i hi g hg) hh, ho.dp, ho.dq⟩

end Go.Proofs.YtcopcegamadkgaaDoor

namespace Go.Proofs.YtcopcegamadkgaaDoor
open Go.RowKit

theorem splice_get {α : Type} (L : List α) (off : Nat) (cs : List α) (h : off + cs.length ≤ L.length) (j : Nat) :
    (splice L off cs)[j]? = if j < off then L[j]? else if j < off + cs.length then cs[j - off]? else L[j]? := by
  unfold splice
  have hl : (L.take off).length = off := by rw [List.length_take]; omega
  by_cases h1 : j < off
  · rw [if_pos h1, List.getElem?_append_left (by omega), List.getElem?_take_of_lt h1]
  · rw [if_neg h1, List.getElem?_append_right (by omega), hl]
    by_cases h2 : j < off + cs.length
    · rw [if_pos h2, List.getElem?_append_left (by omega)]
    · rw [if_neg h2, List.getElem?_append_right (by omega), List.getElem?_drop]
      congr 1
      omega

theorem splice_map {α β : Type} (f : α → β) (L : List α) (off : Nat) (cs : List α) : (splice L off cs).map f = splice (L.map f) off (cs.map f) := by
  simp [splice, List.map_take, List.map_drop]

theorem splice_nil {α : Type} (L : List α) (off : Nat) : splice L off [] = L := by simp [splice]

end Go.Proofs.YtcopcegamadkgaaDoor

namespace Go.Proofs.YtcopcegamadkgaaDoor
open Go.RowKit


theorem step_copy_grown {P : Program} {ops : Array Oper} {o : Oper} {a : Act} {w : World} {K : Act → World → Prop} {Q : Exit → Act → World → Prop} {E : Prop} (hgd : o.guard = none) (d s : Operand) (dT sT : TypeId)
    (ho : o.op = .call { callee := .builtin .copy, args := #[d, s], argTypes := #[dT, sT] }) (elem : TypeId) (hu : P.underlying dT = some (.slice elem)) (hsz : (P.info? elem).map (·.size) = some 1)
    (dp sp : Option Addr) (dLen dCap sLen sCap : Nat) (hd : a.eval d = .slice dp dLen dCap) (hs : a.eval s = .slice sp sLen sCap)
    (g off : Nat) (cur : List Value) (t : TypeId) (hg : w.heap[g]? = some (.cells cur.toArray t (0, 0))) (cs : List Value) (hn : cs.length = Nat.min sLen dLen)
    (hpos : 0 < cs.length → dp = some ⟨g, off, none⟩ ∧ ∃ ad, sp = some ad ∧ ∀ j v, cs[j]? = some v → w.cell? (ad.add j) = some v)
    (hfit : off + cs.length ≤ cur.length) (h1 : ∀ v ∈ cs, v.oneCell' = true)
    (h : ∀ w', Hid (w'.heap[g]? = some (.cells (splice cur off cs).toArray t (0, 0))) → Hid (w.grownBy w' (some g)) → K (a.put o.dst (goInt cs.length)) w') :
    if Region.wanted o (yielded ops a.tmps) = true then Oper.wp P o a w K Q else E := by
  have hw : Region.wanted o (yielded ops a.tmps) = true := by simp [Region.wanted, hgd]
  rw [if_pos hw]
  by_cases h0 : cs.length = 0
  · obtain rfl : cs = [] := List.eq_nil_of_length_eq_zero h0
    have hrun := run_copy_none (P := P) w dT sT o.type elem dp sp dLen dCap sLen sCap hu hsz (by simpa using hn.symm)
    unfold Oper.wp
    simp [execOp, ho, resolve, invoke, builtin, hd, hs, hrun, Result.andThen]
    exact h w (show _ = _ by simpa [splice] using hg) (World.grownBy.refl _ _)
  · obtain ⟨rfl, ad, rfl, hsrc⟩ := hpos (by omega)
    have hrun := run_copy_row (P := P) w dT sT o.type elem g off dLen dCap ad sLen sCap cur.toArray t cs hu hsz hg hn hsrc (by simpa using hfit) h1
    unfold Oper.wp
    simp [execOp, ho, resolve, invoke, builtin, hd, hs, hrun, Result.andThen]
    exact h _ (show _ = _ by simpa [splice] using setRow_heap w g _ _ t _ hg) (show World.grownBy _ _ _ from ⟨rfl, rfl, rfl, by simp [World.setRow], fun k _ hne => setRow_other w g k _ (fun e => hne (by rw [e]))⟩)

theorem sizeA (n : Nat) (h : n = 64) : (Tryd.prog.info? 77).map (·.size) = some n := by subst h; kernel_rfl

theorem sizeB : (Tryd.prog.info? 5).map (·.size) = some 1 := by kernel_rfl


set_option maxHeartbeats 400000 in
set_option maxRecDepth 100000 in
theorem setBlock_any (w : World) (base g dl cap b : Nat) (D C : List Int) (ho : Own .u8 5 w base (.slice (some ⟨g, 0, none⟩) dl cap) D) (hD : D.length = dl) (hC : C.length = 64) (hb : b * 64 + 64 ≤ dl) (hd1 : dl ≤ 1048576) :
    Calls Tryd.prog 45 #[.slice (some ⟨g, 0, none⟩) dl cap, .int .i64 b, .agg (C.map (Value.int .u8)).toArray] w fun e w' => e = .returned (.tuple #[]) ∧ Own .u8 5 w' base (.slice (some ⟨g, 0, none⟩) dl cap) (splice D (b * 64) C) ∧ w.grownBy w' (some g) := by
  obtain ⟨X, hX⟩ : ∃ X, X = C.map (Value.int .u8) := ⟨_, rfl⟩
  rw [← hX]
  have HX : Hid (X.length = 64) := by subst hX; show _ = _; simpa using hC
  have HX1 : Hid (∀ v ∈ X, v.oneCell' = true) := by subst hX; exact ints_oneCell _ _
  have HO : Hid (Own .u8 5 w base (.slice (some ⟨g, 0, none⟩) dl cap) D) := ho
  obtain ⟨cur, hgb, hcur, hcap, hcm, htake⟩ : ∃ cur : Array Value, w.heap[g]? = some (.cells cur 5 (0, 0)) ∧ cur.size = cap ∧ dl ≤ cap ∧ cap ≤ maxLen ∧ cur.toList.take dl = D.map (Value.int .u8) := by
    rcases ho.2 with ⟨h, -⟩ | ⟨g', cap', cur, e, -, h2, h3, h4, h5, h6⟩
    · simp at h
    · simp only [Value.slice.injEq, Option.some.injEq, Addr.mk.injEq] at e
      obtain ⟨⟨rfl, -⟩, -, rfl⟩ := e
      rw [hD] at h3 h6
      rw [Nat.mul_one] at h5 h6
      exact ⟨cur, h2, h5, h3, h4, h6⟩
  have hgz : g < w.heap.size := (Array.getElem?_eq_some_iff.1 hgb).1
  have HGB : Hid (w.heap[g]? = some (.cells cur 5 (0, 0))) := hgb
  have HCUR : Hid (cur.size = cap) := hcur
  have HBASE : Hid (base ≤ g) := (World.ownsRow.lt ho g rfl).1
  have HFIN : Hid ((splice cur.toList (b * 64) X).take dl = (splice D (b * 64) C).map (Value.int .u8) ∧ (splice D (b * 64) C).length = dl ∧ (splice cur.toList (b * 64) X).length = cap) := by
    have hcl : cur.toList.length = cap := by simpa using hcur
    have hxl : X.length = 64 := HX.out
    refine ⟨?_, by rw [length_splice _ _ _ (by omega), hD], by rw [length_splice _ _ _ (by omega), hcl]⟩
    rw [splice_map, ← htake, ← hX]
    apply List.ext_getElem?
    intro j
    rw [splice_get _ _ _ (by rw [List.length_take]; omega), List.getElem?_take]
    by_cases hj : j < dl
    · rw [if_pos hj, splice_get _ _ _ (by omega), List.getElem?_take_of_lt hj]
    · rw [if_neg hj, if_neg (by omega), if_neg (by omega), List.getElem?_take, if_neg hj]
  unfold maxLen at hcm
  clear hX hC ho hgb htake hcur
  go_enter Tryd.func45, Tryd.ntmps45
  go_wp2_with fail
  have GA : Hid ((w.alloc (.cells X.toArray 77)).heap[g]? = some (.cells cur.toList.toArray 5 (0, 0))) := by
    show _ = _
    rw [Below.heap_alloc _ _ _ hgz, Array.toArray_toList]; exact HGB.out
  have CX : Hid (∀ (j : Nat) (v : Value), X[j]? = some v → (w.alloc (.cells X.toArray 77)).cell? ((⟨w.heap.size, 0, none⟩ : Addr).add j) = some v) := by
    intro j v h
    rw [Addr.add_lit, Nat.zero_add, cell_of_row _ _ j _ _ _ (heap_alloc_new w _)]
    simpa using h
  have hbI : ((b * 64 : Nat) : Int) ≤ (dl : Int) := by omega
  have hbI2 : (b : Int) * 64 ≤ (dl : Int) := by omega
  have hwr : IntKind.i64.wrap ((b : Int) * 64) = ((b * 64 : Nat) : Int) := by rw [IntKind.wrap_i64]; omega
  have hnc : ¬ cap = b * 64 := by omega
  have hb0 : (0 : Int) ≤ (b : Int) * 64 := by omega
  have htn : ((b : Int) * 64).toNat = b * 64 := by omega
  have hgr : w.grownBy (w.alloc (.cells X.toArray 77)) (some g) := World.grownBy_alloc _ _ _
  have HGR : Hid (w.grownBy (w.alloc (.cells X.toArray 77)) (some g)) := hgr
  clear hgr
  generalize w.alloc (.cells X.toArray 77) = W0 at *
  go_region_law (refine step_copy_grown rfl (.tmp 9) (.tmp 10) 24 24 rfl 5 Tryd.underlying24 sizeB _ _ _ _ _ _ rfl rfl g (b * 64) cur.toList 5 GA.out X (by rw [HX.out]; exact (Nat.min_eq_left (show 64 ≤ dl - b * 64 by omega)).symm) (fun _ => ⟨rfl, ⟨w.heap.size, 0, none⟩, rfl, CX.out⟩) (by rw [HX.out, Array.length_toList, HCUR.out]; omega) HX1.out ?_; intro w4 hg4 hb4)
  go_wp2
  go_end0
  refine ⟨rfl, ?_, ?_⟩
  · refine ⟨by rw [HFIN.out.2.1]; simpa using HFIN.out.2.1, .inr ⟨g, cap, (splice cur.toList (b * 64) X).toArray, ?_, HBASE.out, hg4.out, by rw [HFIN.out.2.1]; exact hcap, hcm, ?_, ?_⟩⟩
    · rw [HFIN.out.2.1]
    · simpa using HFIN.out.2.2
    · rw [HFIN.out.2.1, Nat.mul_one]; exact HFIN.out.1
  · exact HGR.out.trans (show W0.grownBy w4 (some g) from ⟨hb4.out.os, hb4.out.tape, hb4.out.output, hb4.out.size, hb4.out.block⟩)

end Go.Proofs.YtcopcegamadkgaaDoor

namespace Go.Proofs.YtcopcegamadkgaaDoor
open Go.RowKit

/-- The cells of a table's rows. -/
def rowT (rs : List (Int × List Int)) : List Value := rs.flatMap fun r => .int .i64 r.1 :: r.2.map (Value.int .u8)
theorem rowT_app (a b : List (Int × List Int)) : rowT (a ++ b) = rowT a ++ rowT b := by simp [rowT]
theorem rowT_one (x : Int) (V : List Int) : rowT [(x, V)] = .int .i64 x :: V.map (Value.int .u8) := by simp [rowT]

theorem rowT_len : ∀ (rs : List (Int × List Int)), (∀ i, i < rs.length → (pD rs i).length = 64) → (rowT rs).length = rs.length * 65
  | [], _ => rfl
  | r :: rs, h => by
    have h0 : r.2.length = 64 := h 0 (by simp)
    have ih := rowT_len rs (fun i hi => h (i + 1) (by simp; omega))
    have e : rowT (r :: rs) = rowT [(r.1, r.2)] ++ rowT rs := by simp [rowT]
    rw [e, List.length_append, ih, rowT_one]
    simp [h0]; omega

theorem pD_take (rs : List (Int × List Int)) (i k : Nat) (h : i < k) : pD (rs.take k) i = pD rs i := by unfold pD; simp [List.getD, List.getElem?_take_of_lt h]

theorem rs_split (rs : List (Int × List Int)) (i : Nat) (hi : i < rs.length) : rs = rs.take i ++ ((pB rs i, pD rs i) :: rs.drop (i + 1)) := by
  have e : (pB rs i, pD rs i) = rs[i] := by unfold pB pD; simp [List.getD, hi]
  rw [e]
  conv => lhs; rw [← List.take_append_drop i rs]
  rw [List.drop_eq_getElem_cons hi]

theorem rowT_split (rs : List (Int × List Int)) (i : Nat) (hi : i < rs.length) : rowT rs = rowT (rs.take i) ++ (.int .i64 (pB rs i) :: ((pD rs i).map (Value.int .u8) ++ rowT (rs.drop (i + 1)))) := by
  conv => lhs; rw [rs_split rs i hi]
  rw [rowT_app]
  congr 1

theorem rowT_pre (rs : List (Int × List Int)) (i : Nat) (hi : i ≤ rs.length) (h : ∀ i, i < rs.length → (pD rs i).length = 64) : (rowT (rs.take i)).length = i * 65 := by
  rw [rowT_len _ (fun j hj => by rw [List.length_take] at hj; rw [pD_take _ _ _ (by omega)]; exact h j (by omega)), List.length_take, Nat.min_eq_left hi]

theorem rowT_val (rs : List (Int × List Int)) (i : Nat) (hi : i < rs.length) (h : ∀ i, i < rs.length → (pD rs i).length = 64) (j : Nat) (u : Value) (hu : ((pD rs i).map (Value.int .u8))[j]? = some u) : (rowT rs)[i * 65 + 1 + j]? = some u := by
  have hj : j < (pD rs i).length := by have := (List.getElem?_eq_some_iff.1 hu).1; simpa using this
  rw [rowT_split rs i hi, List.getElem?_append_right (by rw [rowT_pre rs i (by omega) h]; omega), rowT_pre rs i (by omega) h, show i * 65 + 1 + j - i * 65 = j + 1 by omega, List.getElem?_cons_succ, List.getElem?_append_left (by simpa using hj)]
  exact hu

theorem set_split (rs : List (Int × List Int)) (i : Nat) (hi : i < rs.length) (r : Int × List Int) : rs.set i r = rs.take i ++ (r :: rs.drop (i + 1)) := by
  rw [List.set_eq_take_append_cons_drop, if_pos hi]

theorem rowT_set (rs : List (Int × List Int)) (i : Nat) (hi : i < rs.length) (h : ∀ i, i < rs.length → (pD rs i).length = 64) (V : List Int) (hV : V.length = 64) :
    rowT (rs.set i (pB rs i, V)) = splice (rowT rs) (i * 65 + 1) (V.map (Value.int .u8)) := by
  have hp := rowT_pre rs i (by omega) h
  have hd := h i hi
  rw [set_split rs i hi, rowT_app]
  have e1 : rowT ((pB rs i, V) :: rs.drop (i + 1)) = .int .i64 (pB rs i) :: (V.map (Value.int .u8) ++ rowT (rs.drop (i + 1))) := by simp [rowT]
  rw [e1, rowT_split rs i hi]
  generalize rowT (rs.take i) = A at *
  generalize rowT (rs.drop (i + 1)) = B at *
  have hO : ((pD rs i).map (Value.int .u8)).length = 64 := by simpa using hd
  have hV' : (V.map (Value.int .u8)).length = 64 := by simpa using hV
  generalize (pD rs i).map (Value.int .u8) = O at *
  generalize V.map (Value.int .u8) = V' at *
  generalize Value.int .i64 (pB rs i) = x at *
  unfold splice
  have t1 : (A ++ x :: (O ++ B)).take (i * 65 + 1) = A ++ [x] := by
    rw [List.take_append, List.take_of_length_le (by omega), show i * 65 + 1 - A.length = 1 by omega]; rfl
  have t2 : (A ++ x :: (O ++ B)).drop (i * 65 + 1 + V'.length) = B := by
    rw [List.drop_append, List.drop_eq_nil_of_le (by omega), show i * 65 + 1 + V'.length - A.length = 64 + 1 by omega, List.drop_succ_cons, List.drop_append, List.drop_eq_nil_of_le (by omega), show 64 - O.length = 0 by omega]
    simp
  rw [t1, t2]
  simp

theorem pB_set (rs : List (Int × List Int)) (i j : Nat) (hi : i < rs.length) (V : List Int) : pB (rs.set i (pB rs i, V)) j = pB rs j := by
  unfold pB
  simp only [List.getD, List.getElem?_set]
  by_cases e : i = j
  · subst e; simp [hi]
  · simp [e]
theorem pD_set (rs : List (Int × List Int)) (i j : Nat) (hi : i < rs.length) (V : List Int) : pD (rs.set i (pB rs i, V)) j = if j = i then V else pD rs j := by
  unfold pD
  simp only [List.getD, List.getElem?_set]
  by_cases e : i = j
  · subst e; simp [hi]
  · rw [if_neg e, if_neg (fun h => e h.symm)]

/-- What a table's map says. -/
def MF (D : DataW Unit) (rs : List (Int × List Int)) : Prop :=
  (∀ x : Int, Maps.has D (.int .i64 x) = true ↔ ∃ i, i < rs.length ∧ pB rs i = x) ∧ ∀ i, i < rs.length → ∀ z, D.atKey (.int .i64 (pB rs i)) z = .lit (.int .i64 i)

theorem MF.set {D : DataW Unit} {rs : List (Int × List Int)} (h : MF D rs) (i : Nat) (hi : i < rs.length) (V : List Int) : MF D (rs.set i (pB rs i, V)) := by
  have hl : (rs.set i (pB rs i, V)).length = rs.length := List.length_set ..
  refine ⟨fun x => ?_, fun j hj z => ?_⟩
  · rw [h.1 x, hl]
    constructor
    · rintro ⟨j, hj, e⟩; exact ⟨j, hj, by rw [pB_set rs i j hi]; exact e⟩
    · rintro ⟨j, hj, e⟩; rw [pB_set rs i j hi] at e; exact ⟨j, hj, e⟩
  · rw [hl] at hj; rw [pB_set rs i j hi]; exact h.2 j hj z

end Go.Proofs.YtcopcegamadkgaaDoor

namespace Go.Proofs.YtcopcegamadkgaaDoor
open Go.RowKit

/-- A table of the call's own: its struct lies in block tb, its map in block mb. -/
structure Tab (w : World) (lo tb mb : Nat) (v : Value) (rs : List (Int × List Int)) : Prop where
  box : BoxF w tb v (.map (some mb))
  rows : w.ownsRow lo 221 65 v rs.length (rowT rs)
  map : ∃ D : DataW Unit, w.ownsMap Tryd.prog 2 (plainElem Tryd.prog 3) mb rs.length D ∧ MF D rs
  full : ∀ i, i < rs.length → (pD rs i).length = 64
  apart : ∀ i j, i < rs.length → j < rs.length → pB rs i = pB rs j → i = j
  lot : lo ≤ tb
  lom : lo ≤ mb
  ne : tb ≠ mb
  vt : v.ownBlock ≠ some tb
  vm : v.ownBlock ≠ some mb

theorem Tab.below {w w' : World} {lo tb mb : Nat} {v : Value} {rs : List (Int × List Int)} (h : Tab w lo tb mb v rs) (hb : Below w.heap.size w w') : Tab w' lo tb mb v rs := by
  have G : w.grownBy w' none := ⟨hb.os, hb.tape, hb.output, hb.size, fun q hq _ => hb.block q hq⟩
  obtain ⟨D, hD, hM⟩ := h.map
  refine ⟨h.box.below hb, World.ownsRow.kept h.rows G ?_, ⟨D, hD.kept G (by simp), hM⟩, h.full, h.apart, h.lot, h.lom, h.ne, h.vt, h.vm⟩
  cases v.ownBlock with
  | none => exact .inl rfl
  | some q => exact .inr (by simp)

theorem infoT : (Tryd.prog.info? 221).map (fun i => (i.size, i.bytes)) = some (65, 72) := by kernel_rfl

theorem Tab.range {w : World} {lo tb mb g cap i : Nat} {rs : List (Int × List Int)} (h : Tab w lo tb mb (.slice (some ⟨g, 0, none⟩) rs.length cap) rs) (hi : i < rs.length) : w.rangeAt g (i * 65 + 1) ((pD rs i).map (Value.int .u8)) := by
  intro j u hu
  have hj : j < 64 := by have := (List.getElem?_eq_some_iff.1 hu).1; simpa [h.full i hi] using this
  rw [World.ownsRow.cellAt h.rows (i * 65 + 1 + j) (by omega)]
  exact rowT_val rs i hi h.full j u hu



end Go.Proofs.YtcopcegamadkgaaDoor

namespace Go.Proofs.YtcopcegamadkgaaDoor
open Go.RowKit

theorem Own.pos {w : World} {base n : Nat} {v : Value} {xs : List Int} (h : Own .u8 5 w base v xs) (hn : xs.length = n) (h0 : 0 < n) : ∃ g cap, v = .slice (some ⟨g, 0, none⟩) n cap ∧ base ≤ g ∧ g < w.heap.size := by
  subst hn
  rcases h.2 with ⟨-, h1⟩ | ⟨g, cap, cur, rfl, hb, hg, -⟩
  · omega
  · exact ⟨g, cap, rfl, hb, (Array.getElem?_eq_some_iff.1 hg).1⟩

theorem Rd.cellAt {k : IntKind} {w : World} {ao : Option Addr} {n cap i : Nat} {xs : List Int} (h : Rd k w (.slice ao n cap) xs) (hl : xs.length = n) (hi : i < n) : ∃ b o, ao = some ⟨b, o, none⟩ ∧ b < w.heap.size ∧ w.cell? ⟨b, o + i, none⟩ = some (.int k (xs.getD i 0)) := by
  obtain ⟨ao', cap', e, h1, h2, h3⟩ := h
  simp only [Value.slice.injEq] at e
  obtain ⟨rfl, _, rfl⟩ := e
  rcases h3 with rfl | ⟨b, o, rfl, hb, hc⟩
  · simp at hl; omega
  · exact ⟨b, o, rfl, hb, hc i (by omega)⟩

theorem BoxF.other {w w' : World} {b : Nat} {x y : Value} {row : Option Nat} (h : BoxF w b x y) (hg : w.grownBy w' row) (hne : some b ≠ row) : BoxF w' b x y :=
  ⟨h.1.other hg hne, (hg.frozen_far ⟨b, 0, none⟩ h.1.1 hne).trans h.2.1, (hg.frozen_far ⟨b, 1, none⟩ h.1.1 hne).trans h.2.2⟩


end Go.Proofs.YtcopcegamadkgaaDoor

namespace Go.Proofs.YtcopcegamadkgaaDoor
open Go.RowKit

theorem splice_cons {α : Type} (L : List α) (o : Nat) (v : α) (vs : List α) (h : o + (vs.length + 1) ≤ L.length) : splice (L.set o v) (o + 1) vs = splice L o (v :: vs) := by
  apply List.ext_getElem?
  intro j
  rw [splice_get _ _ _ (by simp; omega), splice_get _ _ _ (by simp; omega)]
  simp only [List.length_cons, List.getElem?_set]
  by_cases h1 : j < o
  · rw [if_pos (by omega), if_pos h1, if_neg (by omega)]
  · rw [if_neg h1]
    by_cases h2 : j = o
    · subst h2; rw [if_pos (by omega), if_pos rfl, if_pos (by omega), if_pos (by omega)]; simp
    · rw [if_neg (by omega)]
      by_cases h3 : j < o + 1 + vs.length
      · rw [if_pos h3, if_pos (by omega)]
        obtain ⟨i, rfl⟩ : ∃ i, j = o + 1 + i := ⟨j - (o + 1), by omega⟩
        rw [show o + 1 + i - (o + 1) = i by omega, show o + 1 + i - o = i + 1 by omega, List.getElem?_cons_succ]
      · rw [if_neg h3, if_neg (by omega), if_neg (by omega)]

theorem ownsRow_setCells {base g n cap size : Nat} {e : TypeId} : ∀ (vs : List Value) (o : Nat) (w : World) (xs : List Value), w.ownsRow base e size (.slice (some ⟨g, 0, none⟩) n cap) n xs → o + vs.length ≤ xs.length →
    (w.setCells g o vs).ownsRow base e size (.slice (some ⟨g, 0, none⟩) n cap) n (splice xs o vs) ∧ w.grownBy (w.setCells g o vs) (some g)
  | [], o, w, xs, h, _ => by rw [splice_nil]; exact ⟨h, World.grownBy.refl _ _⟩
  | v :: vs, o, w, xs, h, hl => by
    have h1 := (World.ownsRow.stored h o v).1
    obtain ⟨r1, r2⟩ := ownsRow_setCells vs (o + 1) (w.setCell ⟨g, o, none⟩ v) (xs.set o v) h1 (by simp at hl ⊢; omega)
    rw [World.setCells, ← splice_cons xs o v vs (by simpa using hl)]
    exact ⟨r1, World.grownBy.trans (grownBy_set w w g o v (World.grownBy.refl _ _)) r2⟩

/-- A row's value is written. -/
theorem Tab.set {w : World} {lo tb mb g cap i : Nat} {rs : List (Int × List Int)} (h : Tab w lo tb mb (.slice (some ⟨g, 0, none⟩) rs.length cap) rs) (hi : i < rs.length) (V : List Int) (hV : V.length = 64) :
    Tab (w.setCells g (i * 65 + 1) (V.map (Value.int .u8))) lo tb mb (.slice (some ⟨g, 0, none⟩) rs.length cap) (rs.set i (pB rs i, V)) ∧ w.grownBy (w.setCells g (i * 65 + 1) (V.map (Value.int .u8))) (some g) := by
  have hlen := rowT_len rs h.full
  have hl : (rs.set i (pB rs i, V)).length = rs.length := List.length_set ..
  obtain ⟨r1, r2⟩ := ownsRow_setCells (V.map (Value.int .u8)) (i * 65 + 1) w (rowT rs) h.rows (by rw [hlen, List.length_map, hV]; omega)
  obtain ⟨D, hD, hM⟩ := h.map
  refine ⟨⟨h.box.other r2 (fun e => h.vt e.symm), by rw [hl, rowT_set rs i hi h.full V hV]; exact r1, ⟨D, by rw [hl]; exact hD.kept r2 (fun e => h.vm e.symm), hM.set i hi V⟩, fun j hj => ?_, fun j k hj hk e => ?_, h.lot, h.lom, h.ne, h.vt, h.vm⟩, r2⟩
  · rw [hl] at hj
    rw [pD_set rs i j hi]
    split
    · exact hV
    · exact h.full j hj
  · rw [hl] at hj hk
    rw [pB_set rs i j hi, pB_set rs i k hi] at e
    exact h.apart j k hj hk e

end Go.Proofs.YtcopcegamadkgaaDoor

namespace Go.Proofs.YtcopcegamadkgaaDoor
open Go.RowKit Go.Shelf

attribute [local go_sem] Oper.semAt_some

/-- Only blocks below M are asked, and of those not gd. -/
def KB (M gd : Nat) (W W' : World) : Prop := W.heap.size ≤ W'.heap.size ∧ ∀ q, q < M → q ≠ gd → W'.heap[q]? = W.heap[q]?
theorem KB.refl (M gd : Nat) (W : World) : KB M gd W W := ⟨Nat.le_refl _, fun _ _ _ => rfl⟩
theorem KB.trans {M gd : Nat} {A B C : World} (h : KB M gd A B) (k : KB M gd B C) : KB M gd A C := ⟨Nat.le_trans h.1 k.1, fun q hq hn => (k.2 q hq hn).trans (h.2 q hq hn)⟩
theorem KB.alloc {M gd : Nat} {A B : World} (h : KB M gd A B) (hM : M ≤ B.heap.size) (o : Obj) : KB M gd A (B.alloc o) := ⟨by have := h.1; simp; omega, fun q hq hn => (Below.heap_alloc B o q (by omega)).trans (h.2 q hq hn)⟩

theorem Tab.len {w : World} {lo tb mb : Nat} {v : Value} {rs : List (Int × List Int)} (h : Tab w lo tb mb v rs) : rs.length ≤ 9223372036854775807 := by
  rcases h.rows.2 with ⟨-, h1⟩ | ⟨g, cap, cur, -, -, -, h2, h3, -⟩
  · omega
  · unfold maxLen at h3; omega

end Go.Proofs.YtcopcegamadkgaaDoor

namespace Go.Proofs.YtcopcegamadkgaaDoor
open Go.RowKit

/-- Is the configuration one? -/
def cfgOk (S L : Int) : Bool := decide (1 ≤ S ∧ S ≤ 64) && decide (1 ≤ L ∧ L ≤ 64)
/-- The first block of an area, and its blocks. -/
def arF (S L bank : Int) (log : Bool) : Int := 2 + bank * (S + L) + if log then S else 0
def arL (S L : Int) (log : Bool) : Int := if log then L else S
theorem cfgOk_iff (S L : Int) : cfgOk S L = true ↔ (1 ≤ S ∧ S ≤ 64) ∧ 1 ≤ L ∧ L ≤ 64 := by unfold cfgOk; simp only [Bool.and_eq_true, decide_eq_true_eq]
end Go.Proofs.YtcopcegamadkgaaDoor

namespace Go.Proofs.YtcopcegamadkgaaDoor
open Go.RowKit

set_option maxHeartbeats 400000 in
theorem l5Good_any (w : World) (S L : Int) :
    Calls Tryd.prog 33 #[.agg #[.int .i64 S, .int .i64 L]] w fun e w' => e = .returned (.bool (cfgOk S L)) ∧ Below w.heap.size w w' := by
  have B0 : Hid (Below w.heap.size w (w.alloc (.cells #[.int .i64 S, .int .i64 L] 29))) := (Below.refl _ _).alloc (Nat.le_refl _) _
  by_cases h1 : 1 ≤ S
  · by_cases h2 : S ≤ 64
    · by_cases h3 : 1 ≤ L
      · by_cases h4 : L ≤ 64
        · have H : Hid (cfgOk S L = true) := (cfgOk_iff S L).2 ⟨⟨h1, h2⟩, h3, h4⟩
          go_enter Tryd.func33, Tryd.ntmps33
          go_wp2
          go_ret
          exact ⟨ret_bool H.out.symm, B0.out⟩
        · have H : Hid (cfgOk S L = false) := by show _ = _; rw [← Bool.not_eq_true, cfgOk_iff]; omega
          have d4 : decide (L ≤ 64) = false := by simpa using h4
          go_enter Tryd.func33, Tryd.ntmps33
          go_wp2
          go_ret
          exact ⟨ret_bool H.out.symm, B0.out⟩
      · have H : Hid (cfgOk S L = false) := by show _ = _; rw [← Bool.not_eq_true, cfgOk_iff]; omega
        have d3 : decide (1 ≤ L) = false := by simpa using h3
        go_enter Tryd.func33, Tryd.ntmps33
        go_wp2
        go_ret
        exact ⟨ret_bool H.out.symm, B0.out⟩
    · have H : Hid (cfgOk S L = false) := by show _ = _; rw [← Bool.not_eq_true, cfgOk_iff]; omega
      have d2 : decide (S ≤ 64) = false := by simpa using h2
      go_enter Tryd.func33, Tryd.ntmps33
      go_wp2
      go_ret
      exact ⟨ret_bool H.out.symm, B0.out⟩
  · have H : Hid (cfgOk S L = false) := by show _ = _; rw [← Bool.not_eq_true, cfgOk_iff]; omega
    have d1 : decide (1 ≤ S) = false := by simpa using h1
    go_enter Tryd.func33, Tryd.ntmps33
    go_wp2
    go_ret
    exact ⟨ret_bool H.out.symm, B0.out⟩

set_option maxHeartbeats 400000 in
theorem validArea_any (w : World) (S : Int) :
    Calls Tryd.prog 85 #[.int .i64 S] w fun e w' => e = .returned (.bool (decide (1 ≤ S ∧ S ≤ 64))) ∧ w' = w := by
  by_cases h1 : 1 ≤ S
  · by_cases h2 : S ≤ 64
    · go_enter Tryd.func85, Tryd.ntmps85
      go_wp2
      go_ret
      exact ⟨ret_bool (by first | rfl | (symm; rw [decide_eq_true_eq]; exact ⟨h1, h2⟩)), rfl⟩
    · have d2 : decide (S ≤ 64) = false := by simpa using h2
      go_enter Tryd.func85, Tryd.ntmps85
      go_wp2
      go_ret
      exact ⟨ret_bool (by first | rfl | (symm; rw [decide_eq_false_iff_not]; omega)), rfl⟩
  · have d1 : decide (1 ≤ S) = false := by simpa using h1
    go_enter Tryd.func85, Tryd.ntmps85
    go_wp2
    go_ret
    exact ⟨ret_bool (by first | rfl | (symm; rw [decide_eq_false_iff_not]; omega)), rfl⟩

set_option linter.unusedSimpArgs false in
set_option maxHeartbeats 1000000 in
theorem validConfig_any (w : World) (S L : Int) :
    Calls Tryd.prog 39 #[.agg #[.int .i64 S, .int .i64 L]] w fun e w' => e = .returned (.bool (cfgOk S L)) ∧ Below w.heap.size w w' := by
  have B0 : Hid (Below w.heap.size w (w.alloc (.cells #[.int .i64 S, .int .i64 L] 29))) := (Below.refl _ _).alloc (Nat.le_refl _) _
  obtain ⟨t, ht⟩ : ∃ t, t = decide (1 ≤ S ∧ S ≤ 64) := ⟨_, rfl⟩
  obtain ⟨u, hu⟩ : ∃ u, u = decide (1 ≤ L ∧ L ≤ 64) := ⟨_, rfl⟩
  have H : Hid (cfgOk S L = (t && u)) := by show _ = _; rw [ht, hu]; rfl
  have V1 : Hid (∀ W, Calls Tryd.prog 85 #[.int .i64 S] W fun e w' => e = .returned (.bool t) ∧ w' = W) := fun W => by rw [ht]; exact validArea_any W S
  have V2 : Hid (∀ W, Calls Tryd.prog 85 #[.int .i64 L] W fun e w' => e = .returned (.bool u) ∧ w' = W) := fun W => by rw [hu]; exact validArea_any W L
  clear ht hu
  go_enter Tryd.func39, Tryd.ntmps39
  go_wp2_with fail
  cases t with
  | true =>
    refine (V1.out _).mono ?_
    rintro e w1 ⟨rfl, rfl⟩
    go_wp2_with fail
    refine (V2.out _).mono ?_
    rintro e w1 ⟨rfl, rfl⟩
    go_wp2
    go_ret
    exact ⟨ret_bool (by rw [H.out]; simp), B0.out⟩
  | false =>
    refine (V1.out _).mono ?_
    rintro e w1 ⟨rfl, rfl⟩
    go_wp2
    go_ret
    exact ⟨ret_bool (by rw [H.out]; simp), B0.out⟩

set_option maxHeartbeats 400000 in
theorem bankBlocks_any (w : World) (S L : Int) (hS : 1 ≤ S) (hS2 : S ≤ 64) (hL : 1 ≤ L) (hL2 : L ≤ 64) :
    Calls Tryd.prog 86 #[.agg #[.int .i64 S, .int .i64 L]] w fun e w' => e = .returned (.int .i64 (S + L)) ∧ Below w.heap.size w w' := by
  have B0 : Hid (Below w.heap.size w (w.alloc (.cells #[.int .i64 S, .int .i64 L] 29))) := (Below.refl _ _).alloc (Nat.le_refl _) _
  go_enter Tryd.func86, Tryd.ntmps86
  go_wp2
  go_ret
  exact ⟨rfl, B0.out⟩

set_option maxHeartbeats 400000 in
theorem diskBlocks_any (w : World) (S L : Int) (hS : 1 ≤ S) (hS2 : S ≤ 64) (hL : 1 ≤ L) (hL2 : L ≤ 64) :
    Calls Tryd.prog 41 #[.agg #[.int .i64 S, .int .i64 L]] w fun e w' => e = .returned (.int .i64 (2 + 2 * (S + L))) ∧ Below w.heap.size w w' := by
  have B0 : Hid (Below w.heap.size w (w.alloc (.cells #[.int .i64 S, .int .i64 L] 29))) := (Below.refl _ _).alloc (Nat.le_refl _) _
  go_enter Tryd.func41, Tryd.ntmps41
  go_wp2_with fail
  refine (bankBlocks_any _ S L hS hS2 hL hL2).mono ?_
  rintro e w1 ⟨rfl, b1⟩
  have B1 : Hid (Below w.heap.size w w1) := B0.out.trans (b1.mono B0.out.size)
  clear b1 B0
  go_wp2
  go_ret
  exact ⟨rfl, B1.out⟩

/-- What the two arguments' boxes hold. -/
def FitS (w : World) (ao bo : Option Addr) (dl ca n cb : Nat) (S L : Int) (W : World) : Prop :=
  Hid (Below w.heap.size w W ∧ Box2 W w.heap.size (.slice ao dl ca) (.slice bo n cb) ∧ Box2 W (w.heap.size + 1) (.int .i64 S) (.int .i64 L)) ∧
    W.cell? ⟨w.heap.size, 0, none⟩ = some (.slice ao dl ca) ∧ W.cell? ⟨w.heap.size, 1, none⟩ = some (.slice bo n cb) ∧ W.cell? ⟨w.heap.size + 1, 0, none⟩ = some (.int .i64 S) ∧ W.cell? ⟨w.heap.size + 1, 1, none⟩ = some (.int .i64 L)
theorem FitS.mk {w : World} {ao bo : Option Addr} {dl ca n cb : Nat} {S L : Int} {W : World} (h1 : Below w.heap.size w W) (h2 : Box2 W w.heap.size (.slice ao dl ca) (.slice bo n cb)) (h3 : Box2 W (w.heap.size + 1) (.int .i64 S) (.int .i64 L)) : FitS w ao bo dl ca n cb S L W :=
  ⟨⟨h1, h2, h3⟩, h2.2.1, h2.2.2, h3.2.1, h3.2.2⟩
theorem FitS.below {w : World} {ao bo : Option Addr} {dl ca n cb : Nat} {S L : Int} {W W' : World} (h : FitS w ao bo dl ca n cb S L W) (hb : Below W.heap.size W W') : FitS w ao bo dl ca n cb S L W' :=
  FitS.mk (h.1.out.1.trans (hb.mono h.1.out.1.size)) (h.1.out.2.1.below hb) (h.1.out.2.2.below hb)


end Go.Proofs.YtcopcegamadkgaaDoor

namespace Go.Proofs.YtcopcegamadkgaaDoor
open Go.RowKit



theorem FitS.belowB {w : World} {ao bo : Option Addr} {dl ca n cb : Nat} {S L : Int} {W W' : World} (h : FitS w ao bo dl ca n cb S L W) (hb : Below (w.heap.size + 2) W W') : FitS w ao bo dl ca n cb S L W' :=
  FitS.mk (h.1.out.1.trans (hb.mono (by omega))) ⟨Nat.lt_of_lt_of_le h.1.out.2.1.1 hb.size, (hb.cell (p := ⟨w.heap.size, 0, none⟩) (by show w.heap.size < _; omega)).trans h.1.out.2.1.2.1, (hb.cell (p := ⟨w.heap.size, 1, none⟩) (by show w.heap.size < _; omega)).trans h.1.out.2.1.2.2⟩
    ⟨Nat.lt_of_lt_of_le h.1.out.2.2.1 hb.size, (hb.cell (p := ⟨w.heap.size + 1, 0, none⟩) (by show w.heap.size + 1 < _; omega)).trans h.1.out.2.2.2.1, (hb.cell (p := ⟨w.heap.size + 1, 1, none⟩) (by show w.heap.size + 1 < _; omega)).trans h.1.out.2.2.2.2⟩
theorem FitS.lt {w : World} {ao bo : Option Addr} {dl ca n cb : Nat} {S L : Int} {W : World} (h : FitS w ao bo dl ca n cb S L W) : w.heap.size + 2 ≤ W.heap.size := h.1.out.2.2.1
/-- The two boxes at the head of a call. -/
theorem FitS.new (w : World) (ao bo : Option Addr) (dl ca n cb : Nat) (S L : Int) (t1 t2 : TypeId) : FitS w ao bo dl ca n cb S L ((w.alloc (.cells #[.slice ao dl ca, .slice bo n cb] t1)).alloc (.cells #[.int .i64 S, .int .i64 L] t2)) := by
  refine FitS.mk (((Below.refl _ _).alloc (Nat.le_refl _) _).alloc (by simp) _) ((Box2.new w _ _ _).below ((Below.refl _ _).alloc (Nat.le_refl _) _)) ?_
  have := Box2.new (w.alloc (.cells #[.slice ao dl ca, .slice bo n cb] t1)) (.int .i64 S) (.int .i64 L) t2
  simpa using this




end Go.Proofs.YtcopcegamadkgaaDoor

namespace Go.Proofs.YtcopcegamadkgaaDoor
open Go.RowKit

/-- A stretch of a row of the call's own. -/
def OwnO (w : World) (base : Nat) (v : Value) (xs : List Int) : Prop :=
  (v = .slice none 0 0 ∧ xs = []) ∨ ∃ g o cap N C ys, v = .slice (some ⟨g, o, none⟩) xs.length cap ∧ Own .u8 5 w base (.slice (some ⟨g, 0, none⟩) N C) ys ∧ ys.length = N ∧ o + xs.length ≤ N ∧ (∀ i, i < xs.length → ys.getD (o + i) 0 = xs.getD i 0) ∧ xs.length ≤ cap ∧ cap ≤ maxLen

theorem OwnO.rd {w : World} {base : Nat} {v : Value} {xs : List Int} (h : OwnO w base v xs) : Rd .u8 w v xs := by
  rcases h with ⟨rfl, rfl⟩ | ⟨g, o, cap, N, C, ys, rfl, ho, hy, hN, hg, h1, h2⟩
  · exact ⟨none, 0, rfl, Nat.le_refl _, Nat.zero_le _, .inl rfl⟩
  · have hr := ho.rd
    obtain ⟨ao, c, e, r1, r2, r3⟩ := hr
    refine ⟨_, cap, rfl, h1, h2, ?_⟩
    by_cases hz : xs = []
    · exact .inl hz
    · right
      have hpos : 0 < xs.length := List.length_pos_iff.2 hz
      simp only [Value.slice.injEq] at e
      obtain ⟨rfl, -, rfl⟩ := e
      rcases r3 with r3 | ⟨b, o', e2, hb, hc⟩
      · subst r3; simp at hy; omega
      · simp only [Option.some.injEq, Addr.mk.injEq] at e2
        obtain ⟨rfl, rfl, -⟩ := e2
        refine ⟨g, o, rfl, hb, fun i hi => ?_⟩
        have := hc (o + i) (by omega)
        rw [Nat.zero_add, hg i hi] at this
        exact this

theorem OwnO.lt {w : World} {base : Nat} {v : Value} {xs : List Int} (h : OwnO w base v xs) : ∀ k, v.ownBlock = some k → base ≤ k ∧ k < w.heap.size := by
  intro k hk
  rcases h with ⟨rfl, rfl⟩ | ⟨g, o, cap, N, C, ys, rfl, ho, _⟩
  · simp [Value.ownBlock] at hk
  · exact ho.lt k hk

theorem OwnO.mono {w : World} {base base' : Nat} {v : Value} {xs : List Int} (h : OwnO w base v xs) (hb : base' ≤ base) : OwnO w base' v xs := by
  rcases h with h | ⟨g, o, cap, N, C, ys, e, ho, r⟩
  · exact .inl h
  · exact .inr ⟨g, o, cap, N, C, ys, e, ho.mono hb, r⟩

theorem OwnO.below {w w' : World} {base : Nat} {v : Value} {xs : List Int} (h : OwnO w base v xs) (hb : Below w.heap.size w w') : OwnO w' base v xs := by
  rcases h with h | ⟨g, o, cap, N, C, ys, e, ho, r⟩
  · exact .inl h
  · exact .inr ⟨g, o, cap, N, C, ys, e, ho.below hb, r⟩

end Go.Proofs.YtcopcegamadkgaaDoor

namespace Go.Proofs.YtcopcegamadkgaaDoor
open Go.RowKit

/-- The boxes of the configuration and of the answer. -/
def RunS (w : World) (S L : Int) (W : World) : Prop :=
  Hid (Below w.heap.size w W ∧ Box2 W w.heap.size (.int .i64 S) (.int .i64 L) ∧ ∃ x y, BoxF W (w.heap.size + 1) x y) ∧ W.cell? ⟨w.heap.size, 0, none⟩ = some (.int .i64 S) ∧ W.cell? ⟨w.heap.size, 1, none⟩ = some (.int .i64 L)
theorem RunS.below {w : World} {S L : Int} {W W' : World} (h : RunS w S L W) (hb : Below W.heap.size W W') : RunS w S L W' := by
  obtain ⟨x, y, hx⟩ := h.1.out.2.2
  exact ⟨⟨h.1.out.1.trans (hb.mono h.1.out.1.size), h.1.out.2.1.below hb, x, y, hx.below hb⟩, (h.1.out.2.1.below hb).2.1, (h.1.out.2.1.below hb).2.2⟩
theorem RunS.new (w : World) (S L : Int) (t1 t2 : TypeId) : RunS w S L ((w.alloc (.cells #[.int .i64 S, .int .i64 L] t1)).alloc (.cells #[.int .i64 0, .int .i64 0] t2)) := by
  have h1 := (Box2.new w (.int .i64 S) (.int .i64 L) t1).below ((Below.refl _ _).alloc (Nat.le_refl _) (.cells #[.int .i64 0, .int .i64 0] t2))
  have h2 := BoxF.new (w.alloc (.cells #[.int .i64 S, .int .i64 L] t1)) (.int .i64 0) (.int .i64 0) t2
  exact ⟨⟨((Below.refl _ _).alloc (Nat.le_refl _) _).alloc (by simp) _, h1, _, _, by simpa using h2⟩, h1.2.1, h1.2.2⟩
theorem BoxF.stored {W : World} {b : Nat} {x y : Value} (h : BoxF W b x y) (u v : Value) : BoxF ((W.setCell ⟨b, 0, none⟩ u).setCell ⟨b, 1, none⟩ v) b u v := by
  obtain ⟨⟨z, c0, c1⟩, f0, f1⟩ := h
  exact ⟨⟨by simpa using z, by go_simp, by go_simp⟩, by simpa using f0, by simpa using f1⟩
theorem RunS.stored {w : World} {S L : Int} {W : World} (h : RunS w S L W) (u v : Value) : Box2 ((W.setCell ⟨w.heap.size + 1, 0, none⟩ u).setCell ⟨w.heap.size + 1, 1, none⟩ v) (w.heap.size + 1) u v := by
  obtain ⟨x, y, hx⟩ := h.1.out.2.2
  exact (hx.stored u v).1
theorem RunS.store {w : World} {S L : Int} {W : World} (h : RunS w S L W) (u v : Value) : RunS w S L ((W.setCell ⟨w.heap.size + 1, 0, none⟩ u).setCell ⟨w.heap.size + 1, 1, none⟩ v) := by
  obtain ⟨x, y, hx⟩ := h.1.out.2.2
  have hb : Below (w.heap.size + 1) W ((W.setCell ⟨w.heap.size + 1, 0, none⟩ u).setCell ⟨w.heap.size + 1, 1, none⟩ v) := by
    refine Below.setCell (Below.setCell (Below.refl _ _) ?_ _) ?_ _ <;> exact Nat.le_refl _
  have b1 := h.1.out.2.1
  have b2 : Box2 ((W.setCell ⟨w.heap.size + 1, 0, none⟩ u).setCell ⟨w.heap.size + 1, 1, none⟩ v) w.heap.size (.int .i64 S) (.int .i64 L) := ⟨Nat.lt_of_lt_of_le b1.1 hb.size, (hb.cell (p := ⟨w.heap.size, 0, none⟩) (by show w.heap.size < _; omega)).trans b1.2.1, (hb.cell (p := ⟨w.heap.size, 1, none⟩) (by show w.heap.size < _; omega)).trans b1.2.2⟩
  exact ⟨⟨h.1.out.1.trans (hb.mono (by omega)), b2, u, v, hx.stored u v⟩, b2.2.1, b2.2.2⟩

set_option linter.unusedSimpArgs false in
set_option maxRecDepth 100000 in
set_option maxHeartbeats 1000000 in
theorem snapArea_any (w : World) (S L bank : Int) (hc : cfgOk S L = true) (hb : 0 ≤ bank ∧ bank ≤ 1) :
    Calls Tryd.prog 43 #[.agg #[.int .i64 S, .int .i64 L], .int .i64 bank] w fun e w' => e = .returned (.agg #[.int .i64 (arF S L bank false), .int .i64 (arL S L false)]) ∧ Below w.heap.size w w' := by
  obtain ⟨⟨hS1, hS2⟩, hL1, hL2⟩ := (cfgOk_iff S L).1 hc
  clear hc
  have hb' : bank = 0 ∨ bank = 1 := by omega
  have HA : Hid (arF S L bank false = 2 + bank * (S + L) ∧ arL S L false = S) := by unfold arF arL; exact ⟨by simp, rfl⟩
  have hm : 0 ≤ bank * (S + L) ∧ bank * (S + L) ≤ 128 := by rcases hb' with rfl | rfl <;> omega
  rw [HA.out.1, HA.out.2]
  go_enter Tryd.func43, Tryd.ntmps43
  go_wp2_with fail
  have F0 : Hid (RunS w S L ((w.alloc (.cells #[.int .i64 S, .int .i64 L] 29)).alloc (.cells #[.int .i64 0, .int .i64 0] 72))) := RunS.new _ _ _ _ _
  generalize (w.alloc (.cells #[.int .i64 S, .int .i64 L] 29)).alloc (.cells #[.int .i64 0, .int .i64 0] 72) = w0 at *
  refine wp_region_held_drew (S := RunS w S L) (by kernel_rfl) (F0.out.below (below_drewN' w0 1)) (fun hHeld => ?_)
  refine wpAnyH_take (i := 0) (oi := { dst := some 5, op := _, type := _, pos := _, after := _, guard := _ }) (v := ?v9) rfl (by kernel_rfl) (by kernel_rfl) (by kernel_rfl) (fun _ _ _ h => h) (Or.inl ⟨by rfl, ?hy9⟩) (by assumption) ?rest9
  case hy9 =>
    intro w9 hS9
    obtain ⟨-, k0, k1⟩ := hS9
    go_simp
    try with_reducible rfl
  try simp only [Act.put, List.setIfInBounds_toArray, List.set_cons_zero, List.set_cons_succ]
  refine wpAnyH_take (i := 1) (oi := { dst := some 6, op := _, type := _, pos := _, after := _, guard := _ }) (v := ?v10) rfl (by kernel_rfl) (by kernel_rfl) (by kernel_rfl) (fun _ _ _ h => h) (Or.inl ⟨by rfl, ?hy10⟩) (by assumption) ?rest10
  case hy10 =>
    intro w9 hS9
    obtain ⟨-, k0, k1⟩ := hS9
    go_simp
    try with_reducible rfl
  try simp only [Act.put, List.setIfInBounds_toArray, List.set_cons_zero, List.set_cons_succ]
  refine wpAnyH_take (i := 5) (oi := { dst := some 10, op := _, type := _, pos := _, after := _, guard := _ }) (v := ?v11) rfl (by kernel_rfl) (by kernel_rfl) (by kernel_rfl) (fun _ _ _ h => h) (Or.inl ⟨by rfl, ?hy11⟩) (by assumption) ?rest11
  case hy11 =>
    intro w9 hS9
    obtain ⟨-, k0, k1⟩ := hS9
    go_simp
    try with_reducible rfl
  try simp only [Act.put, List.setIfInBounds_toArray, List.set_cons_zero, List.set_cons_succ]
  refine wpAnyH_take (i := 6) (oi := { dst := some 11, op := _, type := _, pos := _, after := _, guard := _ }) (v := ?v12) rfl (by kernel_rfl) (by kernel_rfl) (by kernel_rfl) (fun _ _ _ h => h) (Or.inl ⟨by rfl, ?hy12⟩) (by assumption) ?rest12
  case hy12 =>
    intro w9 hS9
    obtain ⟨-, k0, k1⟩ := hS9
    go_simp
    try with_reducible rfl
  try simp only [Act.put, List.setIfInBounds_toArray, List.set_cons_zero, List.set_cons_succ]
  refine wpAnyH_ready (rs := [2]) (by kernel_rfl) (by simp) ?_
  refine AllReadyH.cons (o := { dst := some 7, op := _, type := _, pos := _, after := _, guard := _ }) rfl (fun K hK => ?_) AllReadyH.nil
  go_simp
  refine (bankBlocks_any _ S L hS1 hS2 hL1 hL2).mono ?_
  rintro e w2 ⟨rfl, b2⟩
  have F2 : Hid (RunS w S L w2) := hHeld.below b2
  clear b2
  refine hK.out _ _ (F2.out) (fun hx9 => ?_)
  clear hK K hHeld hx9
  have hHeld := F2.out
  try simp only [Act.put, List.setIfInBounds_toArray, List.set_cons_zero, List.set_cons_succ]
  refine wpAnyH_take (i := 3) (oi := { dst := some 8, op := _, type := _, pos := _, after := _, guard := _ }) (v := (.int .i64 (bank * (S + L)))) rfl (by kernel_rfl) (by kernel_rfl) (by kernel_rfl) (fun _ _ _ h => h) (Or.inl ⟨by rfl, ?hy13⟩) (by assumption) ?rest13
  case hy13 =>
    intro w9 hS9
    go_simp
    try (rw [IntKind.wrap_i64]; omega)
  try simp only [Act.put, List.setIfInBounds_toArray, List.set_cons_zero, List.set_cons_succ]
  refine wpAnyH_take (i := 4) (oi := { dst := some 9, op := _, type := _, pos := _, after := _, guard := _ }) (v := (.int .i64 (2 + bank * (S + L)))) rfl (by kernel_rfl) (by kernel_rfl) (by kernel_rfl) (fun _ _ _ h => h) (Or.inl ⟨by rfl, ?hy14⟩) (by assumption) ?rest14
  case hy14 =>
    intro w9 hS9
    go_simp
    try (rw [IntKind.wrap_i64]; omega)
  try simp only [Act.put, List.setIfInBounds_toArray, List.set_cons_zero, List.set_cons_succ]
  refine wpAnyH_take (i := 7) (oi := { dst := some 12, op := _, type := _, pos := _, after := _, guard := _ }) (v := ?v15) rfl (by kernel_rfl) (by kernel_rfl) (by kernel_rfl) (fun _ _ _ h => h) (Or.inl ⟨by rfl, ?hy15⟩) (by assumption) ?rest15
  case hy15 =>
    intro w9 hS9
    obtain ⟨-, k0, k1⟩ := hS9
    go_simp
    try with_reducible rfl
  try simp only [Act.put, List.setIfInBounds_toArray, List.set_cons_zero, List.set_cons_succ]
  refine wpAnyH_ready (rs := [8]) (by kernel_rfl) (by simp) ?_
  refine AllReadyH.cons (o := { dst := none, op := _, type := _, pos := _, after := _, guard := _ }) rfl (fun K hK => ?_) AllReadyH.nil
  obtain ⟨x9, y9, bx9⟩ := F2.out.1.out.2.2
  obtain ⟨⟨z9, d0, d1⟩, f0, f1⟩ := bx9
  go_simp
  have F3 : Hid (RunS w S L ((w2.setCell ⟨w.heap.size + 1, 0, none⟩ (.int .i64 (2 + bank * (S + L)))).setCell ⟨w.heap.size + 1, 1, none⟩ (.int .i64 S))) := F2.out.store _ _
  have X3 : Hid (Box2 ((w2.setCell ⟨w.heap.size + 1, 0, none⟩ (.int .i64 (2 + bank * (S + L)))).setCell ⟨w.heap.size + 1, 1, none⟩ (.int .i64 S)) (w.heap.size + 1) (.int .i64 (2 + bank * (S + L))) (.int .i64 S)) := F2.out.stored _ _
  clear d0 d1 f0 f1 z9 F2
  generalize ((w2.setCell ⟨w.heap.size + 1, 0, none⟩ (.int .i64 (2 + bank * (S + L)))).setCell ⟨w.heap.size + 1, 1, none⟩ (.int .i64 S)) = w3 at *
  refine hK.out _ _ (F3.out) (fun hx9 => ?_)
  clear hK K hHeld hx9
  have hHeld := F3.out
  try simp only [Act.put, List.setIfInBounds_toArray, List.set_cons_zero, List.set_cons_succ]
  refine wpAnyH_done (by kernel_rfl) ?_ _
  clear hHeld
  obtain ⟨-, d0, d1⟩ := X3.out
  go_wp2
  refine bodyPost_ret (v := .agg #[.int .i64 (2 + bank * (S + L)), .int .i64 S]) (by simp [results, Tryd.results43, go_sem, d0, d1]) rfl ⟨rfl, F3.out.1.out.1⟩

set_option maxHeartbeats 1000000 in
theorem areaOf_any (w : World) (g N C f l : Nat) (hfl : (f + l) * 64 ≤ N) (hl1 : 1 ≤ l) (hN : N ≤ C) (hN3 : N ≤ 1048576) :
    Calls Tryd.prog 44 #[.agg #[.int .i64 (f : Int), .int .i64 (l : Int)], .slice (some ⟨g, 0, none⟩) N C] w fun e w' => e = .returned (.slice (some ⟨g, f * 64, none⟩) (l * 64) (C - f * 64)) ∧ Below w.heap.size w w' := by
  have B0 : Hid (Below w.heap.size w (w.alloc (.cells #[.int .i64 (f : Int), .int .i64 (l : Int)] 72))) := (Below.refl _ _).alloc (Nat.le_refl _) _
  have hne : ¬ C = f * 64 := by omega
  have HE : Hid ((f + l) * 64 - f * 64 = l * 64) := by show _ = _; omega
  go_enter Tryd.func44, Tryd.ntmps44
  go_wp2
  go_ret
  rw [HE.out]
  exact ⟨rfl, B0.out⟩

end Go.Proofs.YtcopcegamadkgaaDoor

namespace Go.Proofs.YtcopcegamadkgaaDoor

def cP : Nat := 2197175160
/-- One step of the register. -/
def cT (r : Nat) : Nat := (r / 2) ^^^ (if r % 2 = 1 then cP else 0)

theorem xor_div2 (a b : Nat) : (a ^^^ b) / 2 = a / 2 ^^^ b / 2 := by
  have := Nat.xor_div_two (a := a) (b := b)
  exact this

theorem xor_mod2 (a b : Nat) : (a ^^^ b) % 2 = (a + b) % 2 := by
  have := Nat.xor_mod_two_eq_one (a := a) (b := b)
  omega

theorem cT_lin (a b : Nat) : cT (a ^^^ b) = cT a ^^^ cT b := by
  unfold cT
  rw [xor_div2, xor_mod2]
  rcases Nat.mod_two_eq_zero_or_one a with ha | ha <;> rcases Nat.mod_two_eq_zero_or_one b with hb | hb
  · rw [if_neg (by omega), if_neg (by omega), if_neg (by omega)]; simp
  · rw [if_pos (by omega), if_neg (by omega), if_pos (by omega)]; simp [Nat.xor_assoc]
  · rw [if_pos (by omega), if_pos (by omega), if_neg (by omega), Nat.xor_zero, Nat.xor_assoc, Nat.xor_comm (b / 2), ← Nat.xor_assoc]
  · rw [if_neg (by omega), if_pos (by omega), if_pos (by omega)]
    rw [Nat.xor_zero, Nat.xor_comm (b / 2) cP, ← Nat.xor_assoc, Nat.xor_assoc (a / 2) cP cP, Nat.xor_self, Nat.xor_zero]

def cT4 (r : Nat) : Nat := cT (cT (cT (cT r)))
theorem cT4_lin (a b : Nat) : cT4 (a ^^^ b) = cT4 a ^^^ cT4 b := by unfold cT4; simp only [cT_lin]

theorem cT_even (q : Nat) : cT (2 * q) = q := by unfold cT; rw [if_neg (by omega)]; simp

theorem cT4_16 (q : Nat) : cT4 (16 * q) = q := by
  unfold cT4
  rw [show 16 * q = 2 * (2 * (2 * (2 * q))) by omega, cT_even, cT_even, cT_even, cT_even]

theorem split16 (r : Nat) : r = 16 * (r / 16) ^^^ r % 16 := by
  apply Nat.eq_of_testBit_eq
  intro k
  rw [Nat.testBit_xor, show 16 * (r / 16) = r / 2 ^ 4 * 2 ^ 4 by simp only [Nat.reducePow]; omega, Nat.testBit_mul_two_pow, show r % 16 = r % 2 ^ 4 by rfl, Nat.testBit_mod_two_pow]
  by_cases h : 4 ≤ k
  · have h2 : ¬ k < 4 := by omega
    simp only [h, h2, decide_true, decide_false, Bool.true_and, Bool.false_and, Bool.xor_false, Nat.testBit_div_two_pow]
    congr 1; omega
  · have h2 : k < 4 := by omega
    simp [h, h2]

def tabL : List Nat := [0, 274646895, 549293790, 820201905, 1098587580, 1361435347, 1640403810, 1905808397, 2197175160, 2460548119, 2722870694, 2987750089, 3280807620, 3553878443, 3811616794, 4084100981]

theorem tab_eq : ∀ i, i < 16 → tabL.getD i 0 = cT4 i := by decide +kernel

/-- A nibble by the table. -/
theorem nibble (r : Nat) : cT4 r = r / 16 ^^^ tabL.getD (r % 16) 0 := by
  rw [tab_eq _ (Nat.mod_lt _ (by omega))]
  conv => lhs; rw [split16 r]
  rw [cT4_lin, cT4_16]

/-- A byte. -/
def cB (r x : Nat) : Nat := cT4 (cT4 (r ^^^ x))

/-- The register behind j bits of a byte. -/
def cS (r x : Nat) : Nat → Nat
  | 0 => r
  | j + 1 => (cS r x j / 2) ^^^ (if (cS r x j + x / 2 ^ j) % 2 = 1 then cP else 0)

def cTn : Nat → Nat → Nat
  | 0, r => r
  | j + 1, r => cT (cTn j r)

theorem cS_T (r x j : Nat) : cTn j (r ^^^ x) = cS r x j ^^^ x / 2 ^ j := by
  induction j with
  | zero => simp [cTn, cS]
  | succ j ih =>
    rw [cTn, ih]
    unfold cT
    rw [xor_div2, xor_mod2, Nat.div_div_eq_div_mul, ← Nat.pow_succ, cS]
    rw [Nat.xor_assoc, Nat.xor_comm (x / 2 ^ (j + 1)), ← Nat.xor_assoc]

theorem cS_8 (r x : Nat) (hx : x < 256) : cS r x 8 = cB r x := by
  have h := cS_T r x 8
  rw [show x / 2 ^ 8 = 0 from Nat.div_eq_of_lt hx, Nat.xor_zero] at h
  rw [← h]; rfl

def crcL (r : Nat) (xs : List Int) : Nat := xs.foldl (fun a x => cB a x.toNat) r
theorem crcL_snoc (r : Nat) (xs : List Int) (x : Int) : crcL r (xs ++ [x]) = cB (crcL r xs) x.toNat := by simp [crcL, List.foldl_append]

theorem xor_lt32 {a b : Nat} (ha : a < 4294967296) (hb : b < 4294967296) : a ^^^ b < 4294967296 := by
  have := Nat.xor_lt_two_pow (n := 32) (by simpa using ha) (by simpa using hb)
  simpa using this
end Go.Proofs.YtcopcegamadkgaaDoor

namespace Go.Proofs.YtcopcegamadkgaaDoor
open Go.RowKit

theorem take_snoc' (xs : List Int) (k : Nat) (h : k < xs.length) : xs.take (k + 1) = xs.take k ++ [xs.getD k 0] := by
  rw [List.take_succ_eq_append_getElem h]; simp [List.getD, h]

def M32 : Nat := 4294967296

theorem u32_xor_def (a b : Nat) (ha : a < M32) (hb : b < M32) : ∃ z : Nat, z < M32 ∧ bits .xor .u32 (a : Int) (b : Int) = (z : Int) ∧ z = a ^^^ b :=
  ⟨a ^^^ b, xor_lt32 ha hb, u32_xor_nat a b ha hb, rfl⟩
theorem u32_low4 (a : Nat) (ha : a < M32) : ∃ i : Nat, i < 16 ∧ bits .and .u32 (a : Int) 15 = (i : Int) ∧ i = a % 16 :=
  ⟨a % 16, Nat.mod_lt _ (by omega), by rw [show (15 : Int) = ((15 : Nat) : Int) from rfl, u32_and_nat a 15 ha (by unfold M32 at *; omega), nat_mask4], rfl⟩
theorem u32_xor_div (a b : Nat) (ha : a < M32) (hb : b < M32) : ∃ z : Nat, z < M32 ∧ bits .xor .u32 ((a : Int) / 16) (b : Int) = (z : Int) ∧ z = a / 16 ^^^ b := by
  refine ⟨a / 16 ^^^ b, xor_lt32 (by unfold M32 at *; omega) hb, ?_, rfl⟩
  have e : (a : Int) / 16 = ((a / 16 : Nat) : Int) := by omega
  rw [e, u32_xor_nat (a / 16) b (by unfold M32 at *; omega) hb]

theorem nat_not32 (R : Nat) (h : R < M32) : 4294967295 ^^^ R = 4294967295 - R := by
  have e := congrArg BitVec.toNat (BitVec.allOnes_xor (x := BitVec.ofNat 32 R))
  rw [BitVec.toNat_xor, BitVec.toNat_not, BitVec.toNat_allOnes, BitVec.toNat_ofNat, Nat.mod_eq_of_lt (show R < 2 ^ 32 from h)] at e
  simpa using e

theorem not32 (R : Nat) (h : R < M32) : wrap64 (bits .xor .u32 IntKind.u32.max (R : Int)) = ((4294967295 - R : Nat) : Int) := by
  rw [show IntKind.u32.max = ((4294967295 : Nat) : Int) from by decide, u32_xor_nat 4294967295 R (by decide) h, nat_not32 R h]
  have hz : 4294967295 - R ≤ 4294967295 := Nat.sub_le _ _
  generalize 4294967295 - R = z at *
  exact IntWalk.wrap64_in _ ⟨by omega, by omega⟩

theorem i64_xor_nat (a b : Nat) (ha : a < M32) (hb : b < M32) : bits .xor .i64 (a : Int) (b : Int) = ((a ^^^ b : Nat) : Int) := by
  have key : (BitVec.ofInt 64 (a : Int) ^^^ BitVec.ofInt 64 (b : Int)).toNat = a ^^^ b := by
    unfold M32 at ha hb
    rw [BitVec.toNat_xor, BitVec.toNat_ofInt, BitVec.toNat_ofInt]
    congr 1 <;> omega
  have hz := xor_lt32 ha hb
  show IntKind.i64.wrap ((BitVec.ofInt 64 (a : Int) ^^^ BitVec.ofInt 64 (b : Int)).toNat : Nat) = _
  rw [key, IntKind.wrap_i64]
  generalize a ^^^ b = z at *
  omega

theorem byte_shr (x t : Nat) (hx : x < 256) : ∃ D : Nat, D ≤ 255 ∧ wrap64 ((x : Int) / 2 ^ t) = (D : Int) ∧ D = x / 2 ^ t := by
  have h := Nat.div_le_self x (2 ^ t)
  have e : (x : Int) / 2 ^ t = ((x / 2 ^ t : Nat) : Int) := by simp
  refine ⟨x / 2 ^ t, by omega, ?_, rfl⟩
  rw [e]
  generalize x / 2 ^ t = y at *
  exact IntWalk.wrap64_in _ ⟨by omega, by omega⟩

theorem i64_xor_half (S : Nat) (h : S ≤ 4294967295) : ∃ Z : Nat, Z ≤ 4294967295 ∧ bits .xor .i64 ((S : Int) / 2) 2197175160 = (Z : Int) ∧ Z = S / 2 ^^^ 2197175160 := by
  have hz := xor_lt32 (a := S / 2) (b := 2197175160) (by omega) (by decide)
  refine ⟨S / 2 ^^^ 2197175160, by omega, ?_, rfl⟩
  have e : (S : Int) / 2 = ((S / 2 : Nat) : Int) := by omega
  rw [e, show (2197175160 : Int) = ((2197175160 : Nat) : Int) from rfl, i64_xor_nat (S / 2) 2197175160 (by unfold M32; omega) (by decide)]

/-- The table's cells. -/
def TabC (w : World) : Prop := ∀ i, i < 16 → w.cell? ⟨0, i, none⟩ = some (.int .u32 ((tabL.getD i 0 : Nat) : Int))
theorem TabC.below {w w' : World} (h : TabC w) (h0 : 0 < w.heap.size) (hb : Below w.heap.size w w') : TabC w' := fun i hi => (hb.cell (p := ⟨0, i, none⟩) h0).trans (h i hi)

theorem tabL_lt (i : Nat) : tabL.getD i 0 < M32 := by
  by_cases h : i < 16
  · exact (show ∀ i, i < 16 → tabL.getD i 0 < M32 by decide +kernel) i h
  · rw [show tabL.getD i 0 = 0 by rw [List.getD, List.getElem?_eq_none (show tabL.length ≤ i by simp [tabL]; omega)]; rfl]; decide

set_option maxHeartbeats 400000 in
set_option maxRecDepth 100000 in
theorem implCrc_row (w : World) (b o n cap : Nat) (xs : List Int) (hx : xs.length = n) (hc : ∀ i, i < n → w.cell? ⟨b, o + i, none⟩ = some (.int .u8 (xs.getD i 0))) (hby : Byt xs) (hn : n ≤ 1099511627776) (ht : TabC w) :
    Calls Tryd.prog 42 #[.slice (some ⟨b, o, none⟩) n cap] w fun e w' => e = .returned (.int .i64 ((4294967295 - crcL 4294967295 xs : Nat) : Int)) ∧ w' = w := by
  have HC : Hid (∀ i, i < n → w.cell? ⟨b, o + i, none⟩ = some (.int .u8 (xs.getD i 0))) := hc
  have HX : Hid (xs.length = n) := hx
  have HT : Hid (TabC w) := ht
  clear hc hx ht
  go_enter Tryd.func42, Tryd.ntmps42
  go_wp2
  go_loop [3, 8] (fun r i => ∃ k R : Nat, k ≤ n ∧ i = .int .i64 k ∧ Hid (R < M32) ∧ r = .int .u32 R ∧ Hid (R = crcL 4294967295 (xs.take k))) (fun _ i => n - (intOf i).toNat)
  case atStart => exact ⟨0, 4294967295, Nat.zero_le _, rfl, (by show _ < M32; decide), rfl, rfl⟩
  case round =>
    obtain ⟨k, R, hk, rfl, HR, rfl, HE⟩ := hrel
    by_cases hlt : k < n
    · obtain ⟨x, hx, hxe⟩ := byt_at hby k
      have hsrc : w.cell? ⟨b, o + k, none⟩ = some (.int .u8 (x : Int)) := by rw [← hxe]; exact HC.out k hlt
      have hltI : (k : Int) < (n : Int) := by omega
      obtain ⟨Y, hY, e1, y1⟩ := u32_xor_def R x HR.out (by unfold M32; omega)
      obtain ⟨I, hI, e2, y2⟩ := u32_low4 Y hY
      have c1 := HT.out I hI
      obtain ⟨T1, hT1⟩ : ∃ t, t = tabL.getD I 0 := ⟨_, rfl⟩
      rw [← hT1] at c1
      obtain ⟨Z, hZ, e3, y3⟩ := u32_xor_div Y T1 hY (by rw [hT1]; exact tabL_lt _)
      obtain ⟨J, hJ, e4, y4⟩ := u32_low4 Z hZ
      have c2 := HT.out J hJ
      obtain ⟨T2, hT2⟩ : ∃ t, t = tabL.getD J 0 := ⟨_, rfl⟩
      rw [← hT2] at c2
      obtain ⟨V, hV, e5, y5⟩ := u32_xor_div Z T2 hZ (by rw [hT2]; exact tabL_lt _)
      have HV : Hid (V = crcL 4294967295 (xs.take (k + 1))) := by
        show _ = _
        rw [take_snoc' xs k (by rw [HX.out]; exact hlt), crcL_snoc, ← HE.out, hxe, Int.toNat_natCast]
        have z1 : Z = cT4 Y := by rw [nibble, y3, hT1, y2]
        have v1 : V = cT4 Z := by rw [nibble, y5, hT2, y4]
        rw [v1, z1, y1]
        rfl
      have HVL : Hid (V < M32) := hV
      clear hV y1 y2 y3 y4 y5 hT1 hT2 hY hZ hxe HE HR
      go_wp2
      go_round
      case rel => exact ⟨k + 1, V, by omega, by go_num, HVL, rfl, HV⟩
      case measure => simp [intOf]; omega
    · go_wp2
      go_ret
      exact ⟨ret_int (by rw [not32 R HR.out, HE.out, List.take_of_length_le (by rw [HX.out]; omega)]), rfl⟩

set_option maxHeartbeats 400000 in
theorem implCrc_nil (w : World) (ao : Option Addr) (cap : Nat) :
    Calls Tryd.prog 42 #[.slice ao 0 cap] w fun e w' => e = .returned (.int .i64 0) ∧ w' = w := by
  go_enter Tryd.func42, Tryd.ntmps42
  go_wp2
  go_rounds 1
  go_ret
  exact ⟨ret_int (not32 4294967295 (by decide)), rfl⟩

theorem implCrc_any (w : World) (v : Value) (xs : List Int) (h : Rd .u8 w v xs) (hby : Byt xs) (hn : xs.length ≤ 1099511627776) (ht : TabC w) :
    Calls Tryd.prog 42 #[v] w fun e w' => e = .returned (.int .i64 ((4294967295 - crcL 4294967295 xs : Nat) : Int)) ∧ w' = w := by
  obtain ⟨ao, cap, rfl, h1, h2, h3⟩ := h
  rcases h3 with rfl | ⟨b, o, rfl, hb, hc⟩
  · exact implCrc_nil w ao cap
  · exact implCrc_row w b o xs.length cap xs rfl hc hby hn ht

set_option maxHeartbeats 400000 in
theorem specCrc_nil (w : World) (ao : Option Addr) (cap : Nat) :
    Calls Tryd.prog 37 #[.slice ao 0 cap] w fun e w' => e = .returned (.int .i64 0) ∧ w' = w := by
  go_enter Tryd.func37, Tryd.ntmps37
  go_wp2
  go_rounds 1
  go_ret
  exact ⟨rfl, rfl⟩

set_option maxHeartbeats 400000 in
set_option maxRecDepth 100000 in
theorem specCrc_row (w : World) (b o n cap : Nat) (xs : List Int) (hx : xs.length = n) (hc : ∀ i, i < n → w.cell? ⟨b, o + i, none⟩ = some (.int .u8 (xs.getD i 0))) (hby : Byt xs) (hn : n ≤ 1099511627776) :
    Calls Tryd.prog 37 #[.slice (some ⟨b, o, none⟩) n cap] w fun e w' => e = .returned (.int .i64 ((4294967295 - crcL 4294967295 xs : Nat) : Int)) ∧ w' = w := by
  have HC : Hid (∀ i, i < n → w.cell? ⟨b, o + i, none⟩ = some (.int .u8 (xs.getD i 0))) := hc
  have HX : Hid (xs.length = n) := hx
  clear hc hx
  go_enter Tryd.func37, Tryd.ntmps37
  go_wp2
  go_loop [3, 4] (fun r i => ∃ k R : Nat, k ≤ n ∧ i = .int .i64 k ∧ Hid (R < M32) ∧ r = .int .i64 R ∧ Hid (R = crcL 4294967295 (xs.take k))) (fun _ i => n - (intOf i).toNat)
  case atStart => exact ⟨0, 4294967295, Nat.zero_le _, rfl, (by show _ < M32; decide), rfl, rfl⟩
  case round =>
    obtain ⟨k, R, hk, rfl, HR, rfl, HE⟩ := hrel
    by_cases hlt : k < n
    · obtain ⟨x, hx, hxe⟩ := byt_at hby k
      have hsrc : w.cell? ⟨b, o + k, none⟩ = some (.int .u8 (x : Int)) := by rw [← hxe]; exact HC.out k hlt
      have hltI : (k : Int) < (n : Int) := by omega
      have HXE : Hid (xs.getD k 0 = (x : Int)) := hxe
      clear hxe
      go_wp2
      go_loop [3, 5] (fun r j => ∃ t S : Nat, t ≤ 8 ∧ j = .int .i64 t ∧ S ≤ 4294967295 ∧ r = .int .i64 S ∧ Hid (S = cS R x t)) (fun _ j => 8 - (intOf j).toNat)
      case atStart => exact ⟨0, R, by omega, rfl, by have := HR.out; unfold M32 at this; omega, rfl, rfl⟩
      case round =>
        obtain ⟨t, S, ht, rfl, hS, rfl, HS⟩ := hrel
        by_cases ht8 : t < 8
        · obtain ⟨D, hD, hDe, hDx⟩ := byte_shr x t hx
          have ht8I : (t : Int) < 8 := by omega
          obtain ⟨Z, hZ, hZe, hZx⟩ := i64_xor_half S hS
          by_cases hbit : (S + D) % 2 = 1
          · have hb : (((S : Int) + (D : Int)) % 2 == 1) = true := by rw [beq_iff_eq]; omega
            have HZ : Hid (Z = cS R x (t + 1)) := by
              show _ = _
              rw [cS, ← HS.out, ← hDx, if_pos hbit, hZx]; rfl
            clear hDx hZx hbit
            go_wp2
            go_round
            case rel => exact ⟨t + 1, Z, by omega, by go_num, hZ, rfl, HZ⟩
            case measure => simp [intOf]; omega
          · have hb : (((S : Int) + (D : Int)) % 2 == 1) = false := by rw [beq_eq_false_iff_ne]; omega
            have HZ : Hid (S / 2 = cS R x (t + 1)) := by
              show _ = _
              rw [cS, ← HS.out, ← hDx, if_neg hbit, Nat.xor_zero]
            clear hDx hZx hbit hZe
            go_wp2
            go_round
            case rel => exact ⟨t + 1, S / 2, by omega, by go_num, by omega, by go_num, HZ⟩
            case measure => simp [intOf]; omega
        · have ht9 : t = 8 := by omega
          subst ht9
          go_wp2
          go_round
          case rel => exact ⟨k + 1, S, by omega, by go_num, (by show S < M32; unfold M32; omega), rfl, (by show _ = _; rw [HS.out, cS_8 R x hx, take_snoc' xs k (by rw [HX.out]; exact hlt), crcL_snoc, ← HE.out, HXE.out, Int.toNat_natCast])⟩
          case measure => simp [intOf]; omega
    · have hR : R ≤ 4294967295 := by have := HR.out; unfold M32 at this; omega
      go_wp2
      go_ret
      exact ⟨ret_int (by rw [HE.out, List.take_of_length_le (by rw [HX.out]; omega)] at *; omega), rfl⟩

theorem specCrc_any (w : World) (v : Value) (xs : List Int) (h : Rd .u8 w v xs) (hby : Byt xs) (hn : xs.length ≤ 1099511627776) :
    Calls Tryd.prog 37 #[v] w fun e w' => e = .returned (.int .i64 ((4294967295 - crcL 4294967295 xs : Nat) : Int)) ∧ w' = w := by
  obtain ⟨ao, cap, rfl, h1, h2, h3⟩ := h
  rcases h3 with rfl | ⟨b, o, rfl, hb, hc⟩
  · exact specCrc_nil w ao cap
  · exact specCrc_row w b o xs.length cap xs rfl hc hby hn

end Go.Proofs.YtcopcegamadkgaaDoor

namespace Go.Proofs.YtcopcegamadkgaaDoor
open Go.RowKit

def lenV : Value → Nat
  | .slice _ n _ => n
  | _ => 0

/-- Its image. -/
def I0 : List Int := treeB [rootN]
theorem I0_len : I0.length = 23 := by
  unfold I0 treeB nodesB
  rw [if_pos root_ok]
  simp [nodeB_len, rootN, slashT, empty]
  rfl
theorem I0_byt : Byt I0 := by
  have : I0.all (fun x => decide (0 ≤ x ∧ x < 256)) = true := by decide +kernel
  intro x hx
  have := List.all_eq_true.1 this x hx
  simpa using this
def C0 : Nat := 4294967295 - crcL 4294967295 I0
theorem C0_le : C0 ≤ 4294967295 := Nat.sub_le _ _
/-- The first superblock. -/
def Sp0 : List Int := sup 1 0 0 23 (C0 : Int)
theorem Sp0_ok : supOk 1 0 0 23 (C0 : Int) = true := by
  have := C0_le
  unfold supOk
  simp
  omega
theorem Sp0_len : Sp0.length = 64 := by unfold Sp0 sup; rw [if_pos Sp0_ok]; exact supB_len _ _ _ _ _
/-- A new disk's bytes. -/
def fmN (n : Nat) : List Int := zeros 64 ++ Sp0 ++ I0 ++ zeros (n * 64 - 151)
def fmK (S L : Int) : Nat := (2 + 2 * (S + L)).toNat
def fmA (S L : Int) : List Int := if cfgOk S L then fmN (fmK S L) else []
theorem fmN_len (n : Nat) (h : 3 ≤ n) : (fmN n).length = n * 64 := by
  unfold fmN; simp only [List.length_append, zeros_len, Sp0_len, I0_len]; omega
theorem fmK_in {S L : Int} (h : cfgOk S L = true) : 2 + 2 * (S + L) = ((fmK S L : Nat) : Int) ∧ 6 ≤ fmK S L ∧ fmK S L ≤ 258 := by
  obtain ⟨⟨h1, h2⟩, h3, h4⟩ := (cfgOk_iff S L).1 h
  unfold fmK; omega
theorem fmA_len {S L : Int} : (fmA S L).length ≤ 1048576 := by
  unfold fmA
  split
  · rename_i h
    rw [fmN_len _ (by have := fmK_in h; omega)]
    have := fmK_in h; omega
  · simp
/-- The two pieces laid over zeros. -/
theorem fmN_made (n : Nat) (h : 3 ≤ n) : splice (splice (zeros (n * 64)) 128 I0) 64 Sp0 = fmN n := by
  apply List.ext_getElem?
  intro j
  have hz : (zeros (n * 64)).length = n * 64 := zeros_len _
  rw [splice_get _ _ _ (by rw [length_splice _ _ _ (by rw [hz, I0_len]; omega), hz, Sp0_len]; omega), Sp0_len, splice_get _ _ _ (by rw [hz, I0_len]; omega), I0_len]
  unfold fmN
  by_cases h1 : j < 64
  · rw [if_pos h1, if_pos (show j < 128 by omega), List.append_assoc, List.append_assoc, List.getElem?_append_left (by rw [zeros_len]; exact h1)]
    unfold zeros
    rw [List.getElem?_replicate, List.getElem?_replicate, if_pos (show j < n * 64 by omega), if_pos h1]
  · by_cases h2 : j < 128
    · rw [if_neg h1, if_pos (show j < 64 + 64 by omega), List.append_assoc, List.append_assoc, List.getElem?_append_right (by rw [zeros_len]; omega), zeros_len, List.getElem?_append_left (by rw [Sp0_len]; omega)]
    · by_cases h3 : j < 151
      · have e : j - 128 = j - 64 - 64 := by omega
        rw [if_neg h1, if_neg (show ¬ j < 64 + 64 by omega), if_neg h2, if_pos (show j < 128 + 23 by omega), List.append_assoc, List.append_assoc, List.getElem?_append_right (by rw [zeros_len]; omega), zeros_len, List.getElem?_append_right (by rw [Sp0_len]; omega), Sp0_len, List.getElem?_append_left (by rw [I0_len]; omega), e]
      · rw [if_neg h1, if_neg (show ¬ j < 64 + 64 by omega), if_neg h2, if_neg (show ¬ j < 128 + 23 by omega), List.append_assoc, List.append_assoc, List.getElem?_append_right (by rw [zeros_len]; omega), zeros_len, List.getElem?_append_right (by rw [Sp0_len]; omega), Sp0_len, List.getElem?_append_right (by rw [I0_len]; omega), I0_len]
        unfold zeros
        rw [List.getElem?_replicate, List.getElem?_replicate]
        by_cases h4 : j < n * 64
        · rw [if_pos h4, if_pos (show j - 64 - 64 - 23 < n * 64 - 151 by omega)]
        · rw [if_neg h4, if_neg (show ¬ j - 64 - 64 - 23 < n * 64 - 151 by omega)]

end Go.Proofs.YtcopcegamadkgaaDoor

namespace Go.Proofs.YtcopcegamadkgaaDoor
open Go.RowKit

set_option maxHeartbeats 1000000 in
set_option maxRecDepth 100000 in
theorem l5Pad_any (w : World) (v : Value) (xs : List Int) (N : Nat) (h : Rd .u8 w v xs) (hx : xs.length ≤ N) (hN : N ≤ 1048576) :
    Calls Tryd.prog 38 #[v, .int .i64 (N : Int)] w fun e w' => ∃ v', e = .returned v' ∧ Own .u8 5 w' w.heap.size v' (xs ++ zeros (N - xs.length)) ∧ Below w.heap.size w w' := by
  obtain ⟨i0, hi, hz0, hz1, hz2⟩ := info_parts Tryd.infoB
  obtain ⟨va, ca, rfl, -⟩ := h.len
  have HR : Hid (Rd .u8 w (.slice va xs.length ca) xs) := h
  clear h
  generalize hm : xs.length = m at *
  have HM : Hid (xs.length = m) := hm
  clear hm
  go_enter Tryd.func38, Tryd.ntmps38
  go_wp2_with fail
  refine (l1Copy_any _ _ xs HR.out (by rw [HM.out]; omega)).mono ?_
  rintro e w1 ⟨v1, rfl, o1, b1⟩
  have O1 : Hid (Own .u8 5 w1 w.heap.size v1 (xs ++ zeros 0)) := by show Own _ _ _ _ _ _; unfold zeros; simpa using o1
  have B1 : Hid (Below w.heap.size w w1) := b1
  clear o1 b1
  go_wp2
  go_loopw [5] (fun u wr => ∃ k a c, m + k ≤ N ∧ u = .slice a (m + k) c ∧ Hid (Own .u8 5 wr w.heap.size (.slice a (m + k) c) (xs ++ zeros k)) ∧ Hid (Below w.heap.size w wr)) (fun u _ => N - lenV u)
  case atStart =>
    have ho := O1.out
    obtain ⟨a, c, hv⟩ := Own.slice ho
    rw [List.length_append, zeros_len, HM.out] at hv
    subst hv
    exact ⟨0, a, c, by omega, rfl, ho, B1.out⟩
  case round =>
    clear O1 B1
    obtain ⟨k, a, c, hk, rfl, HO, HB⟩ := hrel
    by_cases hlt : m + k < N
    · have hltI : ((m + k : Nat) : Int) < (N : Int) := by omega
      have hltI2 : (m : Int) + (k : Int) < (N : Int) := by omega
      have HW : Hid ((wr.alloc (.cells #[.int .u8 0] 5)).ownsRow w.heap.size 5 1 (.slice a (m + k) c) (m + k) ((xs ++ zeros k).map (Value.int .u8))) := by
        have := HO.out
        unfold Own at this
        rw [List.length_append, zeros_len, HM.out] at this
        exact World.ownsRow.alloc this _
      have sB := HB.out.size
      go_wp2_with (at_builtin; go_must (refine wpList_append_own _ rfl _ _ 24 rfl w.heap.size 5 i0 (.int .u8 0) 1 1 Tryd.underlying24 hi hz0 hz1 hz2 rfl (by decide) _ _ _ rfl HW.out ⟨wr.heap.size, 0, none⟩ 1 1 [.int .u8 0] rfl rfl (cell_one_new _ _ _) (by intro u hu; simp at hu; subst hu; rfl) ?c3 ?c4 ?c5 ?_))
      case c3 => unfold maxLen; omega
      case c4 => omega
      case c5 => simp; omega
      intro v2 w2 ho2 hg2 _
      obtain ⟨a2, c2, rfl⟩ : ∃ a2 c2, v2 = .slice a2 (m + k + 1) c2 := by
        rcases ho2.2 with ⟨-, h⟩ | ⟨g, gc, cur, rfl, -⟩
        · omega
        · exact ⟨_, gc, rfl⟩
      have O2 : Hid (Own .u8 5 w2 w.heap.size (.slice a2 (m + (k + 1)) c2) (xs ++ zeros (k + 1))) := by
        refine own_of (q := m + k + 1) (ys := (xs ++ zeros k) ++ [0]) (by rw [List.length_append, List.length_append, zeros_len, HM.out]; rfl) ?_ ?_
        · unfold zeros; rw [List.append_assoc, List.replicate_succ']
        · rw [List.map_append, List.map_append, List.append_assoc]; exact ho2
      have B2 : Hid (Below w.heap.size w w2) := (HB.out.alloc sB _).grown hg2 (by simp; omega) (fun q hq => (World.ownsRow.lt HW.out q hq).1)
      clear ho2 hg2 HW HO HB
      go_wp2
      exact ⟨⟨k + 1, a2, c2, by omega, rfl, O2, B2⟩, by simp [lenV]; omega⟩
    · have hkn : m + k = N := by omega
      have hltI : ¬ ((m + k : Nat) : Int) < (N : Int) := by omega
      have HK : Hid (N - m = k) := by show _ = _; omega
      clear hkn
      have hltI2 : ¬ (m : Int) + (k : Int) < (N : Int) := by omega
      go_wp2
      go_ret
      rw [HK.out]
      exact ⟨_, rfl, HO.out, HB.out⟩

/-- The boxes at the head of a format. -/
def FmS (w : World) (S L : Int) (W : World) : Prop := Below w.heap.size w W ∧ Box2 W w.heap.size (.int .i64 S) (.int .i64 L) ∧ BoxF W (w.heap.size + 1) (.slice none 0 0) (.slice none 0 0)
theorem FmS.below {w : World} {S L : Int} {W W' : World} (h : FmS w S L W) (hb : Below W.heap.size W W') : FmS w S L W' := ⟨h.1.trans (hb.mono h.1.size), h.2.1.below hb, h.2.2.below hb⟩
theorem FmS.lt {w : World} {S L : Int} {W : World} (h : FmS w S L W) : w.heap.size + 2 ≤ W.heap.size := h.2.2.1.1
theorem FmS.belowB {w : World} {S L : Int} {W W' : World} {B : Nat} (h : FmS w S L W) (hb : Below B W W') (hB : w.heap.size + 2 ≤ B) : FmS w S L W' :=
  ⟨h.1.trans (hb.mono (by omega)), ⟨Nat.lt_of_lt_of_le h.2.1.1 hb.size, (hb.cell (p := ⟨w.heap.size, 0, none⟩) (by show w.heap.size < _; omega)).trans h.2.1.2.1, (hb.cell (p := ⟨w.heap.size, 1, none⟩) (by show w.heap.size < _; omega)).trans h.2.1.2.2⟩, h.2.2.belowB hb (by omega)⟩
theorem FmS.new (w : World) (S L : Int) : FmS w S L ((w.alloc (.cells #[.int .i64 S, .int .i64 L] 29)).alloc (.cells #[.slice none 0 0, .slice none 0 0] 27)) := by
  refine ⟨((Below.refl _ _).alloc (Nat.le_refl _) _).alloc (by simp) _, (Box2.new w _ _ _).below ((Below.refl _ _).alloc (Nat.le_refl _) _), ?_⟩
  have := BoxF.new (w.alloc (.cells #[.int .i64 S, .int .i64 L] 29)) (.slice none 0 0) (.slice none 0 0) 27
  simpa using this

set_option maxHeartbeats 1000000 in
set_option maxRecDepth 100000 in
theorem specFormat_no (w : World) (S L : Int) (hc : cfgOk S L = false) :
    Calls Tryd.prog 6 #[.agg #[.int .i64 S, .int .i64 L]] w fun e w' => e = .returned (.agg #[.slice none 0 0, .slice none 0 0]) ∧ Below w.heap.size w w' := by
  have HC : Hid (cfgOk S L = false) := hc
  clear hc
  go_enter Tryd.func6, Tryd.ntmps6
  go_wp2_with fail
  have F0 : Hid (FmS w S L ((w.alloc (.cells #[.int .i64 S, .int .i64 L] 29)).alloc (.cells #[.slice none 0 0, .slice none 0 0] 27))) := FmS.new _ _ _
  generalize (w.alloc (.cells #[.int .i64 S, .int .i64 L] 29)).alloc (.cells #[.slice none 0 0, .slice none 0 0] 27) = w0 at *
  refine (l5Good_any _ S L).mono ?_
  rintro e w1 ⟨rfl, b1⟩
  rw [HC.out]
  have F1 : Hid (FmS w S L w1) := F0.out.below b1
  obtain ⟨⟨zr, d0, d1⟩, f0, f1⟩ := F1.out.2.2
  clear b1
  go_wp2
  refine bodyPost_ret (v := .agg #[.slice none 0 0, .slice none 0 0]) (by simp [results, Tryd.results6, go_sem, d0, d1]) rfl ⟨rfl, ?_⟩
  repeat (first | exact F1.out.1 | refine Below.setCell ?_ (by simp) _)

set_option maxHeartbeats 4000000 in
set_option maxRecDepth 100000 in
theorem specFormat_yes (w : World) (S L : Int) (hc : cfgOk S L = true) :
    Calls Tryd.prog 6 #[.agg #[.int .i64 S, .int .i64 L]] w fun e w' => ∃ v', e = .returned (.agg #[v', .slice none 0 0]) ∧ Own .u8 5 w' (w.heap.size + 2) v' (fmN (fmK S L)) ∧ Below w.heap.size w w' := by
  obtain ⟨i0, hi, hz0, hz1, hz2⟩ := info_parts Tryd.infoB
  have HC : Hid (cfgOk S L = true) := hc
  obtain ⟨hk1, hk2, hk3⟩ := fmK_in hc
  obtain ⟨⟨hS1, hS2⟩, hL1, hL2⟩ := (cfgOk_iff S L).1 hc
  have HK : Hid (64 * (2 + 2 * (S + L)) = ((fmK S L * 64 : Nat) : Int)) := by show _ = _; omega
  clear hc hk1
  go_enter Tryd.func6, Tryd.ntmps6
  go_wp2_with fail
  have F0 : Hid (FmS w S L ((w.alloc (.cells #[.int .i64 S, .int .i64 L] 29)).alloc (.cells #[.slice none 0 0, .slice none 0 0] 27))) := FmS.new _ _ _
  generalize (w.alloc (.cells #[.int .i64 S, .int .i64 L] 29)).alloc (.cells #[.slice none 0 0, .slice none 0 0] 27) = w0 at *
  refine (l5Good_any _ S L).mono ?_
  rintro e w1 ⟨rfl, b1⟩
  rw [HC.out]
  have F1 : Hid (FmS w S L w1) := F0.out.below b1
  clear b1 F0
  go_wp2_with fail
  refine (specNewTree_any _).mono ?_
  rintro e w2 ⟨rfl, hN2, b2⟩
  have N2 : Hid (RdN w2 (.slice (some ⟨w1.heap.size + 1, 0, none⟩) 1 1) [rootN]) := rdN_root hN2
  have F2 : Hid (FmS w S L w2) := F1.out.below b2
  clear b2 F1 hN2
  go_wp2_with fail
  refine (sTree_any _ _ [rootN] N2.out (by simp) root_sz).mono ?_
  rintro e w3 ⟨v3, rfl, o3, b3⟩
  have o3' : Own .u8 5 w3 w2.heap.size v3 I0 := o3
  obtain ⟨g3, c3, hv3⟩ := own_full o3' (by rw [I0_len]; omega)
  rw [I0_len] at hv3
  subst hv3
  have I3 : Hid (Own .u8 5 w3 w2.heap.size (.slice (some ⟨g3, 0, none⟩) 23 c3) I0) := o3'
  have F3 : Hid (FmS w S L w3) := F2.out.below b3
  clear o3 o3' b3 F2 N2
  go_wp2_with fail
  refine (specCrc_any _ _ I0 I3.out.rd I0_byt (by rw [I0_len]; omega)).mono ?_
  rintro e w4 ⟨rfl, hw4⟩
  rw [hw4]
  clear hw4
  have HC0 : Hid (∀ W, Calls Tryd.prog 36 #[.agg #[.int .i64 1, .int .i64 0, .int .i64 0, .int .i64 23, .int .i64 ((4294967295 - crcL 4294967295 I0 : Nat) : Int)]] W fun e w' => ∃ g c, e = .returned (.slice (some ⟨g, 0, none⟩) 64 c) ∧ Own .u8 5 w' W.heap.size (.slice (some ⟨g, 0, none⟩) 64 c) Sp0 ∧ Below W.heap.size W w') := by
    intro W
    refine (specSuper_any W 1 0 0 23 _ (by omega)).mono ?_
    rintro e w' ⟨v, rfl, o, b⟩
    have o' : Own .u8 5 w' W.heap.size v Sp0 := o
    obtain ⟨g, c, hv⟩ := own_full o' (by rw [Sp0_len]; omega)
    rw [Sp0_len] at hv
    subst hv
    exact ⟨g, c, rfl, o', b⟩
  generalize ((4294967295 - crcL 4294967295 I0 : Nat) : Int) = C9 at *
  go_wp2_with fail
  refine (HC0.out _).mono ?_
  rintro e w5 ⟨g5, c5, rfl, o5, b5⟩
  have F5 : Hid (FmS w S L w5) := F3.out.below b5
  have S5 : Hid (Own .u8 5 w5 w3.heap.size (.slice (some ⟨g5, 0, none⟩) 64 c5) Sp0) := o5
  have I5 : Hid (Own .u8 5 w5 w2.heap.size (.slice (some ⟨g3, 0, none⟩) 23 c3) I0) := I3.out.below b5
  clear o5 b5 F3 I3 HC0
  go_wp2_with fail
  have BA : Hid (Below w5.heap.size w5 (w5.alloc (.cells #[] 5))) := (Below.refl _ _).alloc (Nat.le_refl _) _
  have R6 : Hid (Rd .u8 (w5.alloc (.cells #[] 5)) (.slice (some ⟨w5.heap.size, 0, none⟩) 0 0) []) := ⟨_, 0, rfl, Nat.le_refl _, Nat.zero_le _, .inl rfl⟩
  refine (l5Pad_any _ _ [] 64 R6.out (by simp) (by omega)).mono ?_
  rintro e w6 ⟨v6, rfl, o6, b6⟩
  have b6' : Below w5.heap.size w5 w6 := BA.out.trans (b6.mono (by simp))
  obtain ⟨a6, c6, hv6⟩ := Own.slice o6
  rw [show ([] ++ zeros (64 - ([] : List Int).length) : List Int) = zeros 64 by simp] at o6 hv6
  rw [zeros_len] at hv6
  subst hv6
  have O6 : Hid (w6.ownsRow w5.heap.size 5 1 (.slice a6 64 c6) 64 ((zeros 64).map (Value.int .u8))) := by have := o6.mono (show w5.heap.size ≤ (w5.alloc (.cells #[] 5)).heap.size by simp); unfold Own at this; rw [zeros_len] at this; exact this
  have F6 : Hid (FmS w S L w6) := F5.out.below b6'
  have N6 : Hid (∀ j u, (Sp0.map (Value.int .u8))[j]? = some u → w6.cell? ((⟨g5, 0, none⟩ : Addr).add j) = some u) := World.ownsRow.cells (S5.out.below b6') rfl
  have I6 : Hid (Own .u8 5 w6 w2.heap.size (.slice (some ⟨g3, 0, none⟩) 23 c3) I0) := I5.out.below b6'
  have L6 : Hid (g3 < w5.heap.size) := (I5.out.lt g3 rfl).2
  have s6 := b6'.size
  have s5 := F5.out.lt
  clear o6 b6 b6' R6 BA F5 I5 S5
  go_wp2_with (at_builtin; go_must (refine wpList_append_own _ rfl _ _ 24 rfl w5.heap.size 5 i0 (.int .u8 0) 1 1 Tryd.underlying24 hi hz0 hz1 hz2 rfl (by decide) _ _ _ rfl O6.out ⟨g5, 0, none⟩ 64 c5 (Sp0.map (Value.int .u8)) rfl ?_ N6.out (u8_oneCell _) ?_ ?_ ?_ ?_))
  · rw [List.length_map, Sp0_len]
  · unfold maxLen; omega
  · omega
  · exact s6
  intro v7 w7 ho7 hg7 _
  have b7 : Below w5.heap.size w6 w7 := (Below.refl _ _).grown hg7 s6 (fun q hq => (World.ownsRow.lt O6.out q hq).1)
  have O7 : Hid (w7.ownsRow w5.heap.size 5 1 v7 128 ((zeros 64 ++ Sp0).map (Value.int .u8))) := by show World.ownsRow _ _ _ _ _ _ _; rw [List.map_append]; exact ho7
  have F7 : Hid (FmS w S L w7) := F6.out.belowB b7 s5
  have I7 : Hid (Own .u8 5 w7 w2.heap.size (.slice (some ⟨g3, 0, none⟩) 23 c3) I0) := I6.out.other hg7 (.inr (fun e => by have h1 : w5.heap.size ≤ g3 := (World.ownsRow.lt O6.out g3 e.symm).1; have h2 := L6.out; omega))
  have N7 : Hid (∀ j u, (I0.map (Value.int .u8))[j]? = some u → w7.cell? ((⟨g3, 0, none⟩ : Addr).add j) = some u) := World.ownsRow.cells I7.out rfl
  have s7 : w5.heap.size ≤ w7.heap.size := Nat.le_trans s6 b7.size
  clear ho7 hg7 b7 O6 N6 F6 I6
  go_wp2_with (at_builtin; go_must (refine wpList_append_own _ rfl _ _ 24 rfl w5.heap.size 5 i0 (.int .u8 0) 1 1 Tryd.underlying24 hi hz0 hz1 hz2 rfl (by decide) _ _ _ rfl O7.out ⟨g3, 0, none⟩ 23 c3 (I0.map (Value.int .u8)) rfl ?_ N7.out (u8_oneCell _) ?_ ?_ ?_ ?_))
  · rw [List.length_map, I0_len]
  · unfold maxLen; omega
  · omega
  · exact s7
  intro v8 w8 ho8 hg8 _
  have b8 : Below w5.heap.size w7 w8 := (Below.refl _ _).grown hg8 s7 (fun q hq => (World.ownsRow.lt O7.out q hq).1)
  have R8 : Hid (Rd .u8 w8 v8 (zeros 64 ++ Sp0 ++ I0)) := by
    have h8 : Own .u8 5 w8 w5.heap.size v8 (zeros 64 ++ Sp0 ++ I0) := own_of (q := 151) (ys := zeros 64 ++ Sp0 ++ I0) (by simp [zeros_len, Sp0_len, I0_len]) rfl (by rw [List.map_append]; exact ho8)
    exact h8.rd
  have F8 : Hid (FmS w S L w8) := F7.out.belowB b8 s5
  clear ho8 hg8 b8 O7 N7 F7 I7 L6
  obtain ⟨-, x0, x1⟩ := F8.out.2.1
  have H9 : Hid (∀ W, Rd .u8 W v8 (zeros 64 ++ Sp0 ++ I0) → Calls Tryd.prog 38 #[v8, .int .i64 (64 * (2 + 2 * (S + L)))] W fun e w' => ∃ v', e = .returned v' ∧ Own .u8 5 w' W.heap.size v' (fmN (fmK S L)) ∧ Below W.heap.size W w') := by
    intro W hW
    rw [HK.out]
    have hl : (zeros 64 ++ Sp0 ++ I0).length = 151 := by simp [zeros_len, Sp0_len, I0_len]
    have := l5Pad_any W v8 (zeros 64 ++ Sp0 ++ I0) (fmK S L * 64) hW (by rw [hl]; omega) (by omega)
    rw [hl] at this
    exact this
  go_wp2_with fail
  refine (H9.out _ R8.out).mono ?_
  rintro e w9 ⟨v9, rfl, o9, b9⟩
  obtain ⟨a9, c9, rfl⟩ := Own.slice o9
  have O9 : Hid (Own .u8 5 w9 (w.heap.size + 2) (.slice a9 (fmN (fmK S L)).length c9) (fmN (fmK S L))) := o9.mono F8.out.lt
  have F9 : Hid (FmS w S L w9) := F8.out.below b9
  clear o9 b9 H9 R8 F8 x0 x1
  obtain ⟨⟨zr, d0, d1⟩, f0, f1⟩ := F9.out.2.2
  go_wp2
  refine bodyPost_ret (v := .agg #[.slice a9 (fmN (fmK S L)).length c9, .slice none 0 0]) (by simp [results, Tryd.results6, go_sem, d0, d1]) rfl ⟨_, rfl, ?_, ?_⟩
  · repeat (first | exact O9.out | refine Own.setBelow ?_ (show w.heap.size + 1 < w.heap.size + 2 by omega) _)
  · repeat (first | exact F9.out.1 | refine Below.setCell ?_ (by simp) _)

end Go.Proofs.YtcopcegamadkgaaDoor

namespace Go.Proofs.YtcopcegamadkgaaDoor
open Go.RowKit

/-- A superblock's box. -/
def Sup5 (W : World) (b : Nat) (c : Int) : Prop := b < W.heap.size ∧ W.cell? ⟨b, 0, none⟩ = some (.int .i64 1) ∧ W.cell? ⟨b, 1, none⟩ = some (.int .i64 0) ∧ W.cell? ⟨b, 2, none⟩ = some (.int .i64 0) ∧ W.cell? ⟨b, 3, none⟩ = some (.int .i64 23) ∧ W.cell? ⟨b, 4, none⟩ = some (.int .i64 c)
theorem Sup5.below {W W' : World} {b : Nat} {c : Int} (h : Sup5 W b c) (hb : Below W.heap.size W W') : Sup5 W' b c :=
  ⟨Nat.lt_of_lt_of_le h.1 hb.size, (hb.cell (p := ⟨b, 0, none⟩) h.1).trans h.2.1, (hb.cell (p := ⟨b, 1, none⟩) h.1).trans h.2.2.1, (hb.cell (p := ⟨b, 2, none⟩) h.1).trans h.2.2.2.1, (hb.cell (p := ⟨b, 3, none⟩) h.1).trans h.2.2.2.2.1, (hb.cell (p := ⟨b, 4, none⟩) h.1).trans h.2.2.2.2.2⟩
theorem Sup5.other {W W' : World} {b g : Nat} {c : Int} (h : Sup5 W b c) (hg : W.grownBy W' (some g)) (hn : b ≠ g) : Sup5 W' b c := by
  have hbl := hg.block b h.1 (fun e => hn (by simpa using e))
  exact ⟨Nat.lt_of_lt_of_le h.1 hg.size, (World.cell?_of_block (a := ⟨b, 0, none⟩) hbl).trans h.2.1, (World.cell?_of_block (a := ⟨b, 1, none⟩) hbl).trans h.2.2.1, (World.cell?_of_block (a := ⟨b, 2, none⟩) hbl).trans h.2.2.2.1, (World.cell?_of_block (a := ⟨b, 3, none⟩) hbl).trans h.2.2.2.2.1, (World.cell?_of_block (a := ⟨b, 4, none⟩) hbl).trans h.2.2.2.2.2⟩
theorem box2_other {W W' : World} {b g : Nat} {x y : Value} (h : Box2 W b x y) (hg : W.grownBy W' (some g)) (hn : b ≠ g) : Box2 W' b x y := by
  have hbl := hg.block b h.1 (fun e => hn (by simpa using e))
  exact ⟨Nat.lt_of_lt_of_le h.1 hg.size, (World.cell?_of_block (a := ⟨b, 0, none⟩) hbl).trans h.2.1, (World.cell?_of_block (a := ⟨b, 1, none⟩) hbl).trans h.2.2⟩
theorem boxF_other {W W' : World} {b g : Nat} {x y : Value} (h : BoxF W b x y) (hg : W.grownBy W' (some g)) (hn : b ≠ g) : BoxF W' b x y := by
  have hbl := hg.block b h.1.1 (fun e => hn (by simpa using e))
  exact ⟨box2_other h.1 hg hn, (World.frozen?_of_block (a := ⟨b, 0, none⟩) hbl).trans h.2.1, (World.frozen?_of_block (a := ⟨b, 1, none⟩) hbl).trans h.2.2⟩
theorem FmS.other {w : World} {S L : Int} {W W' : World} {g : Nat} (h : FmS w S L W) (hg : W.grownBy W' (some g)) (hn : w.heap.size + 2 ≤ g) : FmS w S L W' :=
  ⟨h.1.grown hg (by have := h.lt; omega) (fun q hq => by simp at hq; omega), box2_other h.2.1 hg (by omega), boxF_other h.2.2 hg (by omega)⟩

/-- What a format has in its boxes. -/
def FmI (w : World) (S L : Int) (Bd Bs g N cap : Nat) (C9 : Int) (W : World) : Prop :=
  Hid (FmS w S L W ∧ Box2 W Bd (.slice (some ⟨g, 0, none⟩) N cap) (.slice none 0 0) ∧ Sup5 W Bs C9) ∧ W.cell? ⟨w.heap.size, 0, none⟩ = some (.int .i64 S) ∧ W.cell? ⟨w.heap.size, 1, none⟩ = some (.int .i64 L) ∧
    W.cell? ⟨Bd, 0, none⟩ = some (.slice (some ⟨g, 0, none⟩) N cap) ∧ W.cell? ⟨Bd, 1, none⟩ = some (.slice none 0 0) ∧
    W.cell? ⟨Bs, 0, none⟩ = some (.int .i64 1) ∧ W.cell? ⟨Bs, 1, none⟩ = some (.int .i64 0) ∧ W.cell? ⟨Bs, 2, none⟩ = some (.int .i64 0) ∧ W.cell? ⟨Bs, 3, none⟩ = some (.int .i64 23) ∧ W.cell? ⟨Bs, 4, none⟩ = some (.int .i64 C9)
theorem FmI.mk {w : World} {S L : Int} {Bd Bs g N cap : Nat} {C9 : Int} {W : World} (h1 : FmS w S L W) (h2 : Box2 W Bd (.slice (some ⟨g, 0, none⟩) N cap) (.slice none 0 0)) (h3 : Sup5 W Bs C9) : FmI w S L Bd Bs g N cap C9 W :=
  ⟨⟨h1, h2, h3⟩, h1.2.1.2.1, h1.2.1.2.2, h2.2.1, h2.2.2, h3.2⟩
theorem FmI.below {w : World} {S L : Int} {Bd Bs g N cap : Nat} {C9 : Int} {W W' : World} (h : FmI w S L Bd Bs g N cap C9 W) (hb : Below W.heap.size W W') : FmI w S L Bd Bs g N cap C9 W' :=
  FmI.mk (h.1.out.1.below hb) (h.1.out.2.1.below hb) (h.1.out.2.2.below hb)
theorem FmI.other {w : World} {S L : Int} {Bd Bs g N cap : Nat} {C9 : Int} {W W' : World} (h : FmI w S L Bd Bs g N cap C9 W) (hg : W.grownBy W' (some g)) (h1 : w.heap.size + 2 ≤ g) (h2 : Bd ≠ g) (h3 : Bs ≠ g) : FmI w S L Bd Bs g N cap C9 W' :=
  FmI.mk (h.1.out.1.other hg h1) (box2_other h.1.out.2.1 hg h2) (h.1.out.2.2.other hg h3)

/-- A row that a piece was laid into. -/
theorem own_spliced {W W' : World} {base g N cap : Nat} {D C : List Int} {off : Nat} {cur : List Value} (ho : Own .u8 5 W base (.slice (some ⟨g, 0, none⟩) N cap) D) (hD : D.length = N) (hgb : W.heap[g]? = some (.cells cur.toArray 5 (0, 0))) (hoff : off + C.length ≤ N)
    (hg : W'.heap[g]? = some (.cells (splice cur off (C.map (Value.int .u8))).toArray 5 (0, 0))) : Own .u8 5 W' base (.slice (some ⟨g, 0, none⟩) N cap) (splice D off C) := by
  rcases ho.2 with ⟨h, -⟩ | ⟨g', cap', cur', e, hb, h2, h3, h4, h5, h6⟩
  · simp at h
  · simp only [Value.slice.injEq, Option.some.injEq, Addr.mk.injEq] at e
    obtain ⟨⟨rfl, -⟩, -, rfl⟩ := e
    rw [hgb] at h2
    simp only [Option.some.injEq, Obj.cells.injEq] at h2
    obtain ⟨rfl, -⟩ := h2
    rw [hD] at h3 h6
    rw [Nat.mul_one] at h5 h6
    have hcl : cur.length = cap := by simpa using h5
    have hl : (splice D off C).length = N := by rw [length_splice _ _ _ (by omega), hD]
    refine ⟨by rw [List.length_map, hl]; omega, .inr ⟨g, cap, _, by rw [hl], hb, hg, by rw [hl]; exact h3, h4, ?_, ?_⟩⟩
    · rw [List.size_toArray, length_splice _ _ _ (by rw [List.length_map]; omega), hcl, Nat.mul_one]
    · rw [hl, Nat.mul_one, splice_map, ← h6]
      apply List.ext_getElem?
      intro j
      rw [splice_get _ _ _ (by rw [List.length_take, List.length_map]; simp; omega), List.getElem?_take]
      by_cases hj : j < N
      · rw [if_pos hj, splice_get _ _ _ (by rw [List.length_map]; omega)]
        simp only [List.getElem?_take_of_lt hj]
      · rw [if_neg hj, if_neg (by omega), if_neg (by rw [List.length_map]; omega), List.getElem?_take, if_neg hj]

set_option maxHeartbeats 400000 in
theorem slotOf_any (w : World) : Calls Tryd.prog 46 #[.int .i64 1] w fun e w' => e = .returned (.int .i64 ((1 : Nat) : Int)) ∧ w' = w := by
  go_enter Tryd.func46, Tryd.ntmps46
  go_wp2
  go_ret
  exact ⟨rfl, rfl⟩

theorem arr_at (g c : Nat) (W : World) : (Instr.arrayAt 77 (.slice (some ⟨g, 0, none⟩) 64 c)).run Tryd.prog W = .ok (.pointer (some ⟨g, 0, none⟩)) W := by kernel_rfl

theorem own_block {W : World} {base g N cap : Nat} {D : List Int} (ho : Own .u8 5 W base (.slice (some ⟨g, 0, none⟩) N cap) D) : ∃ cur : List Value, W.heap[g]? = some (.cells cur.toArray 5 (0, 0)) ∧ cur.length = cap := by
  rcases ho.2 with ⟨h, -⟩ | ⟨g', cap', cur, e, -, h2, h3, h4, h5, h6⟩
  · simp at h
  · simp only [Value.slice.injEq, Option.some.injEq, Addr.mk.injEq] at e
    obtain ⟨⟨rfl, -⟩, -, rfl⟩ := e
    exact ⟨cur.toList, by simpa using h2, by simpa using h5⟩

set_option linter.unusedSimpArgs false in
set_option maxHeartbeats 4000000 in
set_option maxRecDepth 100000 in
theorem implFormat_yes (w : World) (S L : Int) (hc : cfgOk S L = true) (hT : TabC w) (h0 : 0 < w.heap.size) :
    Calls Tryd.prog 8 #[.agg #[.int .i64 S, .int .i64 L]] w fun e w' => ∃ v', e = .returned (.agg #[v', .slice none 0 0]) ∧ Own .u8 5 w' (w.heap.size + 2) v' (fmN (fmK S L)) ∧ Below w.heap.size w w' := by
  have HC : Hid (cfgOk S L = true) := hc
  have HT : Hid (TabC w) := hT
  have H0 : Hid (0 < w.heap.size) := h0
  obtain ⟨hk1, hk2, hk3⟩ := fmK_in hc
  obtain ⟨⟨hS1, hS2⟩, hL1, hL2⟩ := (cfgOk_iff S L).1 hc
  have HK : Hid (2 + 2 * (S + L) = ((fmK S L : Nat) : Int)) := hk1
  have HND : Hid (∀ W, Calls Tryd.prog 40 #[.int .i64 (2 + 2 * (S + L))] W fun e w' => ∃ g cap, e = .returned (.agg #[.slice (some ⟨g, 0, none⟩) (fmK S L * 64) cap, .slice none 0 0]) ∧ Own .u8 5 w' W.heap.size (.slice (some ⟨g, 0, none⟩) (fmK S L * 64) cap) (zeros (fmK S L * 64)) ∧ (fmK S L * 64 ≤ cap ∧ cap ≤ maxLen) ∧ Below W.heap.size W w') := by
    intro W
    rw [HK.out]
    refine (implNewDisk_any W _).mono ?_
    rintro e w' ⟨v', rfl, o, b⟩
    have hn : ndl ((fmK S L : Nat) : Int) = fmK S L * 64 := by unfold ndl; rw [if_pos (by omega)]; rfl
    rw [hn] at o
    rcases o.row with ⟨rfl, hz⟩ | ⟨g, c, rfl, hg, h1, h2⟩
    · have := congrArg List.length hz; rw [zeros_len] at this; simp at this; omega
    · rw [zeros_len] at o h1 ⊢
      exact ⟨g, c, rfl, o, ⟨h1, h2⟩, b⟩
  obtain ⟨l, hl⟩ : ∃ l : Nat, (l : Int) = S := ⟨S.toNat, by omega⟩
  have hl1 : 1 ≤ l := by omega
  have HSN : Hid (∀ W, Calls Tryd.prog 43 #[.agg #[.int .i64 S, .int .i64 L], .int .i64 0] W fun e w' => e = .returned (.agg #[.int .i64 ((2 : Nat) : Int), .int .i64 (l : Int)]) ∧ Below W.heap.size W w') := by
    intro W
    have := snapArea_any W S L 0 HC.out ⟨by omega, by omega⟩
    unfold arF arL at this
    rw [hl]
    simpa using this
  obtain ⟨N, hN⟩ : ∃ N, N = fmK S L * 64 := ⟨_, rfl⟩
  have hNl : (2 + l) * 64 ≤ N := by omega
  have hNm : N ≤ 1048576 := by omega
  have HN : Hid (N = fmK S L * 64) := hN
  rw [← hN] at HND
  clear hN hc hT h0 hk1 hl
  go_enter Tryd.func8, Tryd.ntmps8
  go_wp2_with fail
  have F0 : Hid (FmS w S L ((w.alloc (.cells #[.int .i64 S, .int .i64 L] 29)).alloc (.cells #[.slice none 0 0, .slice none 0 0] 27))) := FmS.new _ _ _
  generalize (w.alloc (.cells #[.int .i64 S, .int .i64 L] 29)).alloc (.cells #[.slice none 0 0, .slice none 0 0] 27) = w0 at *
  refine (validConfig_any _ S L).mono ?_
  rintro e w1 ⟨rfl, b1⟩
  rw [HC.out]
  have F1 : Hid (FmS w S L w1) := F0.out.below b1
  clear b1 F0
  obtain ⟨-, x0, x1⟩ := F1.out.2.1
  go_wp2_with fail
  refine (diskBlocks_any _ S L hS1 hS2 hL1 hL2).mono ?_
  rintro e w2 ⟨rfl, b2⟩
  have F2 : Hid (FmS w S L w2) := F1.out.below b2
  clear b2 F1 x0 x1
  go_wp2_with fail
  refine (HND.out _).mono ?_
  rintro e w3 ⟨g, cap, rfl, o3, ⟨hNc, hcm⟩, b3⟩
  have F3 : Hid (FmS w S L w3) := F2.out.below b3
  have O3 : Hid (Own .u8 5 w3 w2.heap.size (.slice (some ⟨g, 0, none⟩) N cap) (zeros N)) := o3
  have s2 := F2.out.lt
  have hg2 : w.heap.size + 2 ≤ g := Nat.le_trans s2 (o3.lt g rfl).1
  have hg3 : g < w3.heap.size := (o3.lt g rfl).2
  clear o3 b3 F2
  go_wp2_with fail
  have BA : Hid (Below w3.heap.size w3 (w3.alloc (.cells #[(.slice (some ⟨g, 0, none⟩) N cap), .slice none 0 0] 27))) := (Below.refl _ _).alloc (Nat.le_refl _) _
  have XD0 : Hid (Box2 (w3.alloc (.cells #[(.slice (some ⟨g, 0, none⟩) N cap), .slice none 0 0] 27)) w3.heap.size (.slice (some ⟨g, 0, none⟩) N cap) (.slice none 0 0)) := Box2.new _ _ _ _
  generalize w3.alloc (.cells #[(.slice (some ⟨g, 0, none⟩) N cap), .slice none 0 0] 27) = wd at *
  obtain ⟨Bd, hBdE⟩ : ∃ Bd, Bd = w3.heap.size := ⟨_, rfl⟩
  have Fd : Hid (FmS w S L wd) := F3.out.below BA.out
  have Od : Hid (Own .u8 5 wd (w.heap.size + 2) (.slice (some ⟨g, 0, none⟩) N cap) (zeros N)) := (O3.out.below BA.out).mono s2
  have hBd : Bd ≠ g := by omega
  rw [← hBdE] at XD0
  refine (implNewTree_any _).mono ?_
  rintro e w4 ⟨rfl, hN4, b4⟩
  have N4 : Hid (RdN w4 (.slice (some ⟨wd.heap.size + 1, 0, none⟩) 1 1) [rootN]) := rdN_root hN4
  have F4 : Hid (FmS w S L w4) := Fd.out.below b4
  have O4 : Hid (Own .u8 5 w4 (w.heap.size + 2) (.slice (some ⟨g, 0, none⟩) N cap) (zeros N)) := Od.out.below b4
  have X4 : Hid (Box2 w4 Bd (.slice (some ⟨g, 0, none⟩) N cap) (.slice none 0 0)) := XD0.out.below b4
  have hgd4 : g < w4.heap.size := (O4.out.lt g rfl).2
  clear b4 hN4 Fd Od XD0 BA F3 O3
  rw [← hBdE]
  clear hBdE
  go_wp2_with fail
  refine (encTree_any _ _ [rootN] N4.out root_sz).mono ?_
  rintro e w5 ⟨v5, rfl, o5, b5⟩
  have o5' : Own .u8 5 w5 w4.heap.size v5 I0 := o5
  obtain ⟨g4, c4, hv5⟩ := own_full o5' (by rw [I0_len]; omega)
  rw [I0_len] at hv5
  subst hv5
  have I5 : Hid (Own .u8 5 w5 w4.heap.size (.slice (some ⟨g4, 0, none⟩) 23 c4) I0) := o5'
  have F5 : Hid (FmS w S L w5) := F4.out.below b5
  have O5 : Hid (Own .u8 5 w5 (w.heap.size + 2) (.slice (some ⟨g, 0, none⟩) N cap) (zeros N)) := O4.out.below b5
  have X5 : Hid (Box2 w5 Bd (.slice (some ⟨g, 0, none⟩) N cap) (.slice none 0 0)) := X4.out.below b5
  have s45 := b5.size
  clear o5 o5' b5 N4 F4 O4 X4
  go_wp2_with fail
  refine (implCrc_any _ _ I0 I5.out.rd I0_byt (by rw [I0_len]; omega) (HT.out.below H0.out F5.out.1)).mono ?_
  rintro e wq ⟨rfl, hwq⟩
  rw [hwq]
  clear hwq
  have HSP : Hid (∀ W, Calls Tryd.prog 47 #[.agg #[.int .i64 1, .int .i64 0, .int .i64 0, .int .i64 23, .int .i64 ((4294967295 - crcL 4294967295 I0 : Nat) : Int)]] W fun e w' => ∃ g c, e = .returned (.slice (some ⟨g, 0, none⟩) 64 c) ∧ Own .u8 5 w' W.heap.size (.slice (some ⟨g, 0, none⟩) 64 c) Sp0 ∧ Below W.heap.size W w') := by
    intro W
    refine (implSuper_any W 1 0 0 23 _).mono ?_
    rintro e w' ⟨v, rfl, o, b⟩
    have o' : Own .u8 5 w' W.heap.size v Sp0 := o
    obtain ⟨g, c, hv⟩ := own_full o' (by rw [Sp0_len]; omega)
    rw [Sp0_len] at hv
    subst hv
    exact ⟨g, c, rfl, o', b⟩
  generalize ((4294967295 - crcL 4294967295 I0 : Nat) : Int) = C9 at *
  go_wp2_with fail
  have BA : Hid (Below w5.heap.size w5 (w5.alloc (.cells #[.int .i64 1, .int .i64 0, .int .i64 0, .int .i64 23, .int .i64 C9] 67))) := (Below.refl _ _).alloc (Nat.le_refl _) _
  have XS0 : Hid (Sup5 (w5.alloc (.cells #[.int .i64 1, .int .i64 0, .int .i64 0, .int .i64 23, .int .i64 C9] 67)) w5.heap.size C9) := ⟨by simp, by simp, by simp, by simp, by simp, by simp⟩
  generalize w5.alloc (.cells #[.int .i64 1, .int .i64 0, .int .i64 0, .int .i64 23, .int .i64 C9] 67) = w6 at *
  obtain ⟨Bs, hBsE⟩ : ∃ Bs, Bs = w5.heap.size := ⟨_, rfl⟩
  have hBs : Bs ≠ g := by omega
  rw [← hBsE] at XS0 ⊢
  have bP : Below w6.heap.size w6 w6.drew := below_drewN' w6 1
  have FP : Hid (FmI w S L Bd Bs g N cap C9 w6.drew) := FmI.mk ((F5.out.below BA.out).below bP) ((X5.out.below BA.out).below bP) (XS0.out.below bP)
  have OP : Hid (Own .u8 5 w6.drew (w.heap.size + 2) (.slice (some ⟨g, 0, none⟩) N cap) (zeros N)) := (O5.out.below BA.out).below bP
  have IP : Hid (Own .u8 5 w6.drew w4.heap.size (.slice (some ⟨g4, 0, none⟩) 23 c4) I0) := (I5.out.below BA.out).below bP
  clear bP BA XS0 X5 O5 I5 F5 hBsE
  refine wp_region_held_drew (S := FmI w S L Bd Bs g N cap C9) (by kernel_rfl) (FP.out) (fun hHeld => ?_)
  generalize w6.drew = p6 at *
  refine wpAnyH_take (i := 0) (oi := { dst := some 20, op := _, type := _, pos := _, after := _, guard := _ }) (v := ?v1) rfl (by kernel_rfl) (by kernel_rfl) (by kernel_rfl) (fun _ _ _ h => h) (Or.inl ⟨by rfl, ?hy1⟩) (by assumption) ?rest1
  case hy1 =>
    intro w9 hS9
    obtain ⟨-, k0, k1, k2, k3, k4, k5, k6, k7, k8⟩ := hS9
    go_simp
    try with_reducible rfl
  try simp only [Act.put, List.setIfInBounds_toArray, List.set_cons_zero, List.set_cons_succ]
  refine wpAnyH_take (i := 1) (oi := { dst := some 21, op := _, type := _, pos := _, after := _, guard := _ }) (v := ?v2) rfl (by kernel_rfl) (by kernel_rfl) (by kernel_rfl) (fun _ _ _ h => h) (Or.inl ⟨by rfl, ?hy2⟩) (by assumption) ?rest2
  case hy2 =>
    intro w9 hS9
    obtain ⟨-, k0, k1, k2, k3, k4, k5, k6, k7, k8⟩ := hS9
    go_simp
    try with_reducible rfl
  try simp only [Act.put, List.setIfInBounds_toArray, List.set_cons_zero, List.set_cons_succ]
  refine wpAnyH_take (i := 2) (oi := { dst := some 22, op := _, type := _, pos := _, after := _, guard := _ }) (v := ?v3) rfl (by kernel_rfl) (by kernel_rfl) (by kernel_rfl) (fun _ _ _ h => h) (Or.inl ⟨by rfl, ?hy3⟩) (by assumption) ?rest3
  case hy3 =>
    intro w9 hS9
    obtain ⟨-, k0, k1, k2, k3, k4, k5, k6, k7, k8⟩ := hS9
    go_simp
    try with_reducible rfl
  try simp only [Act.put, List.setIfInBounds_toArray, List.set_cons_zero, List.set_cons_succ]
  refine wpAnyH_take (i := 4) (oi := { dst := some 24, op := _, type := _, pos := _, after := _, guard := _ }) (v := ?v4) rfl (by kernel_rfl) (by kernel_rfl) (by kernel_rfl) (fun _ _ _ h => h) (Or.inl ⟨by rfl, ?hy4⟩) (by assumption) ?rest4
  case hy4 =>
    intro w9 hS9
    obtain ⟨-, k0, k1, k2, k3, k4, k5, k6, k7, k8⟩ := hS9
    go_simp
    try with_reducible rfl
  try simp only [Act.put, List.setIfInBounds_toArray, List.set_cons_zero, List.set_cons_succ]
  refine wpAnyH_take (i := 5) (oi := { dst := some 25, op := _, type := _, pos := _, after := _, guard := _ }) (v := ?v5) rfl (by kernel_rfl) (by kernel_rfl) (by kernel_rfl) (fun _ _ _ h => h) (Or.inl ⟨by rfl, ?hy5⟩) (by assumption) ?rest5
  case hy5 =>
    intro w9 hS9
    obtain ⟨-, k0, k1, k2, k3, k4, k5, k6, k7, k8⟩ := hS9
    go_simp
    try with_reducible rfl
  try simp only [Act.put, List.setIfInBounds_toArray, List.set_cons_zero, List.set_cons_succ]
  refine wpAnyH_take (i := 7) (oi := { dst := some 27, op := _, type := _, pos := _, after := _, guard := _ }) (v := ?v6) rfl (by kernel_rfl) (by kernel_rfl) (by kernel_rfl) (fun _ _ _ h => h) (Or.inl ⟨by rfl, ?hy6⟩) (by assumption) ?rest6
  case hy6 =>
    intro w9 hS9
    obtain ⟨-, k0, k1, k2, k3, k4, k5, k6, k7, k8⟩ := hS9
    go_simp
    try with_reducible rfl
  try simp only [Act.put, List.setIfInBounds_toArray, List.set_cons_zero, List.set_cons_succ]
  refine wpAnyH_ready (rs := [3]) (by kernel_rfl) (by simp) ?_
  refine AllReadyH.cons (o := { dst := some 23, op := _, type := _, pos := _, after := _, guard := _ }) rfl (fun K hK => ?_) AllReadyH.nil
  go_simp
  refine (HSN.out _).mono ?_
  rintro e w6b ⟨rfl, b6⟩
  have F6 : Hid (FmI w S L Bd Bs g N cap C9 w6b) := hHeld.below b6
  have O6 : Hid (Own .u8 5 w6b (w.heap.size + 2) (.slice (some ⟨g, 0, none⟩) N cap) (zeros N)) := OP.out.below b6
  have I6 : Hid (Own .u8 5 w6b w4.heap.size (.slice (some ⟨g4, 0, none⟩) 23 c4) I0) := IP.out.below b6
  clear b6 OP IP
  refine hK.out _ _ (F6.out) (fun hx9 => ?_)
  clear hK K hHeld hx9
  have hHeld := F6.out
  try simp only [Act.put, List.setIfInBounds_toArray, List.set_cons_zero, List.set_cons_succ]
  refine wpAnyH_ready (rs := [6]) (by kernel_rfl) (by simp) ?_
  refine AllReadyH.cons (o := { dst := some 26, op := _, type := _, pos := _, after := _, guard := _ }) rfl (fun K hK => ?_) AllReadyH.nil
  go_simp
  refine (areaOf_any _ g N cap 2 l hNl hl1 hNc hNm).mono ?_
  rintro e w7 ⟨rfl, b7⟩
  have F7 : Hid (FmI w S L Bd Bs g N cap C9 w7) := F6.out.below b7
  have O7 : Hid (Own .u8 5 w7 (w.heap.size + 2) (.slice (some ⟨g, 0, none⟩) N cap) (zeros N)) := O6.out.below b7
  have I7 : Hid (Own .u8 5 w7 w4.heap.size (.slice (some ⟨g4, 0, none⟩) 23 c4) I0) := I6.out.below b7
  clear b7 O6 I6 F6
  obtain ⟨cur, hgb, hcur⟩ := own_block O7.out
  have N7 : Hid (∀ j u, (I0.map (Value.int .u8))[j]? = some u → w7.cell? ((⟨g4, 0, none⟩ : Addr).add j) = some u) := World.ownsRow.cells I7.out rfl
  have HGB : Hid (w7.heap[g]? = some (.cells cur.toArray 5 (0, 0))) := hgb
  have HCU : Hid (cur.length = cap) := hcur
  clear hgb hcur
  refine hK.out _ _ (F7.out) (fun hx9 => ?_)
  clear hK K hHeld hx9
  have hHeld := F7.out
  try simp only [Act.put, List.setIfInBounds_toArray, List.set_cons_zero, List.set_cons_succ]
  refine wpAnyH_ready (rs := [8]) (by kernel_rfl) (by simp) ?_
  refine AllReadyH.cons (o := { dst := some 28, op := _, type := _, pos := _, after := _, guard := _ }) rfl (fun K hK => ?_) AllReadyH.nil
  refine step_copy_grown rfl (.tmp 26) (.tmp 27) 24 24 rfl 5 Tryd.underlying24 sizeB _ _ _ _ _ _ rfl rfl g 128 cur 5 HGB.out (I0.map (Value.int .u8)) (by rw [List.length_map, I0_len]; exact (Nat.min_eq_left (show 23 ≤ l * 64 by omega)).symm) (fun _ => ⟨rfl, ⟨g4, 0, none⟩, rfl, N7.out⟩) (by rw [List.length_map, I0_len, HCU.out]; omega) (ints_oneCell _ _) ?_
  intro w8 hg8 hb8
  have F8 : Hid (FmI w S L Bd Bs g N cap C9 w8) := F7.out.other hb8.out hg2 hBd hBs
  have O8 : Hid (Own .u8 5 w8 (w.heap.size + 2) (.slice (some ⟨g, 0, none⟩) N cap) (splice (zeros N) 128 I0)) := own_spliced O7.out (zeros_len _) HGB.out (by rw [I0_len]; omega) hg8.out
  clear hg8 hb8 O7 I7 N7 HGB HCU F7
  refine hK.out _ _ (F8.out) (fun hx9 => ?_)
  clear hK K hHeld hx9
  have hHeld := F8.out
  try simp only [Act.put, List.setIfInBounds_toArray, List.set_cons_zero, List.set_cons_succ]
  refine wpAnyH_done (by kernel_rfl) ?_ _
  clear hHeld
  go_wp2_with fail
  have HSB : Hid (∀ W, Own .u8 5 W (w.heap.size + 2) (.slice (some ⟨g, 0, none⟩) N cap) (splice (zeros N) 128 I0) → Calls Tryd.prog 45 #[(.slice (some ⟨g, 0, none⟩) N cap), .int .i64 ((1 : Nat) : Int), .agg (Sp0.map (Value.int .u8)).toArray] W fun e w' => e = .returned (.tuple #[]) ∧ Own .u8 5 w' (w.heap.size + 2) (.slice (some ⟨g, 0, none⟩) N cap) (fmN (fmK S L)) ∧ W.grownBy w' (some g)) := by
    intro W hW
    have hlz : (splice (zeros N) 128 I0).length = N := by rw [length_splice _ _ _ (by rw [zeros_len, I0_len]; omega), zeros_len]
    refine (setBlock_any W (w.heap.size + 2) g N cap 1 (splice (zeros N) 128 I0) Sp0 hW hlz Sp0_len (by omega) hNm).mono ?_
    rintro e w' ⟨rfl, o, hg⟩
    rw [show 1 * 64 = 64 from rfl, HN.out, fmN_made _ (by omega)] at o
    rw [HN.out]
    exact ⟨rfl, o, hg⟩
  have bP : Below w8.heap.size w8 w8.drew := below_drewN' w8 1
  have FP : Hid (FmI w S L Bd Bs g N cap C9 w8.drew) := F8.out.below bP
  have OP : Hid (Own .u8 5 w8.drew (w.heap.size + 2) (.slice (some ⟨g, 0, none⟩) N cap) (splice (zeros N) 128 I0)) := O8.out.below bP
  clear bP O8 F8
  refine wp_region_held_drew (S := FmI w S L Bd Bs g N cap C9) (by kernel_rfl) (FP.out) (fun hHeld => ?_)
  generalize w8.drew = p8 at *
  refine wpAnyH_take (i := 0) (oi := { dst := some 29, op := _, type := _, pos := _, after := _, guard := _ }) (v := ?v7) rfl (by kernel_rfl) (by kernel_rfl) (by kernel_rfl) (fun _ _ _ h => h) (Or.inl ⟨by rfl, ?hy7⟩) (by assumption) ?rest7
  case hy7 =>
    intro w9 hS9
    obtain ⟨-, k0, k1, k2, k3, k4, k5, k6, k7, k8⟩ := hS9
    go_simp
    try with_reducible rfl
  try simp only [Act.put, List.setIfInBounds_toArray, List.set_cons_zero, List.set_cons_succ]
  refine wpAnyH_take (i := 1) (oi := { dst := some 30, op := _, type := _, pos := _, after := _, guard := _ }) (v := ?v8) rfl (by kernel_rfl) (by kernel_rfl) (by kernel_rfl) (fun _ _ _ h => h) (Or.inl ⟨by rfl, ?hy8⟩) (by assumption) ?rest8
  case hy8 =>
    intro w9 hS9
    obtain ⟨-, k0, k1, k2, k3, k4, k5, k6, k7, k8⟩ := hS9
    go_simp
    try with_reducible rfl
  try simp only [Act.put, List.setIfInBounds_toArray, List.set_cons_zero, List.set_cons_succ]
  refine wpAnyH_take (i := 2) (oi := { dst := some 31, op := _, type := _, pos := _, after := _, guard := _ }) (v := ?v9) rfl (by kernel_rfl) (by kernel_rfl) (by kernel_rfl) (fun _ _ _ h => h) (Or.inl ⟨by rfl, ?hy9⟩) (by assumption) ?rest9
  case hy9 =>
    intro w9 hS9
    obtain ⟨-, k0, k1, k2, k3, k4, k5, k6, k7, k8⟩ := hS9
    go_simp
    try with_reducible rfl
  try simp only [Act.put, List.setIfInBounds_toArray, List.set_cons_zero, List.set_cons_succ]
  refine wpAnyH_take (i := 3) (oi := { dst := some 32, op := _, type := _, pos := _, after := _, guard := _ }) (v := ?v10) rfl (by kernel_rfl) (by kernel_rfl) (by kernel_rfl) (fun _ _ _ h => h) (Or.inl ⟨by rfl, ?hy10⟩) (by assumption) ?rest10
  case hy10 =>
    intro w9 hS9
    obtain ⟨-, k0, k1, k2, k3, k4, k5, k6, k7, k8⟩ := hS9
    go_simp
    try with_reducible rfl
  try simp only [Act.put, List.setIfInBounds_toArray, List.set_cons_zero, List.set_cons_succ]
  refine wpAnyH_take (i := 5) (oi := { dst := some 34, op := _, type := _, pos := _, after := _, guard := _ }) (v := ?v11) rfl (by kernel_rfl) (by kernel_rfl) (by kernel_rfl) (fun _ _ _ h => h) (Or.inl ⟨by rfl, ?hy11⟩) (by assumption) ?rest11
  case hy11 =>
    intro w9 hS9
    obtain ⟨-, k0, k1, k2, k3, k4, k5, k6, k7, k8⟩ := hS9
    go_simp
    try with_reducible rfl
  try simp only [Act.put, List.setIfInBounds_toArray, List.set_cons_zero, List.set_cons_succ]
  refine wpAnyH_ready (rs := [4]) (by kernel_rfl) (by simp) ?_
  refine AllReadyH.cons (o := { dst := some 33, op := _, type := _, pos := _, after := _, guard := _ }) rfl (fun K hK => ?_) AllReadyH.nil
  go_simp
  refine (slotOf_any _).mono ?_
  rintro e wq ⟨rfl, hwq⟩
  rw [hwq]
  clear hwq
  refine hK.out _ _ (FP.out) (fun hx9 => ?_)
  clear hK K hHeld hx9
  have hHeld := FP.out
  try simp only [Act.put, List.setIfInBounds_toArray, List.set_cons_zero, List.set_cons_succ]
  refine wpAnyH_ready (rs := [6]) (by kernel_rfl) (by simp) ?_
  refine AllReadyH.cons (o := { dst := some 35, op := _, type := _, pos := _, after := _, guard := _ }) rfl (fun K hK => ?_) AllReadyH.nil
  go_simp
  refine (HSP.out _).mono ?_
  rintro e w9b ⟨g9, c9, rfl, o9, b9⟩
  have F9 : Hid (FmI w S L Bd Bs g N cap C9 w9b) := hHeld.below b9
  have O9 : Hid (Own .u8 5 w9b (w.heap.size + 2) (.slice (some ⟨g, 0, none⟩) N cap) (splice (zeros N) 128 I0)) := OP.out.below b9
  have RG : Hid (w9b.rangeAt g9 0 (Sp0.map (Value.int .u8))) := fun j v hj => by have := World.ownsRow.cells o9 rfl j v hj; rw [Addr.add_lit] at this; exact this
  clear o9 b9 OP
  refine hK.out _ _ (F9.out) (fun hx9 => ?_)
  clear hK K hHeld hx9
  have hHeld := F9.out
  try simp only [Act.put, List.setIfInBounds_toArray, List.set_cons_zero, List.set_cons_succ]
  refine wpAnyH_take (i := 7) (oi := { dst := some 36, op := _, type := _, pos := _, after := _, guard := _ }) (v := (.pointer (some ⟨g9, 0, none⟩))) rfl (by kernel_rfl) (by kernel_rfl) (by kernel_rfl) (fun _ _ _ h => h) (Or.inl ⟨by rfl, ?hy12⟩) (by assumption) ?rest12
  case hy12 =>
    intro w9 hS9
    have ha9 := arr_at g9 c9 w9
    go_simp
  try simp only [Act.put, List.setIfInBounds_toArray, List.set_cons_zero, List.set_cons_succ]
  refine wpAnyH_ready (rs := [8]) (by kernel_rfl) (by simp) ?_
  refine AllReadyH.cons (o := { dst := some 37, op := _, type := _, pos := _, after := _, guard := _ }) rfl (fun K hK => ?_) AllReadyH.nil
  rw [if_pos (by rfl)]
  refine wp_load_mid 77 _ rfl g9 0 rfl (Sp0.map (Value.int .u8)) _ RG.out Tryd.underlying77 rfl (sizeA _ (by rw [List.length_map, Sp0_len])) ?_
  refine hK.out _ _ (F9.out) (fun hx9 => ?_)
  clear hK K hHeld hx9
  have hHeld := F9.out
  try simp only [Act.put, List.setIfInBounds_toArray, List.set_cons_zero, List.set_cons_succ]
  refine wpAnyH_ready (rs := [9]) (by kernel_rfl) (by simp) ?_
  refine AllReadyH.cons (o := { dst := some 38, op := _, type := _, pos := _, after := _, guard := _ }) rfl (fun K hK => ?_) AllReadyH.nil
  go_simp
  refine (HSB.out _ O9.out).mono ?_
  rintro e w10 ⟨rfl, o10, g10⟩
  have F10 : Hid (FmI w S L Bd Bs g N cap C9 w10) := F9.out.other g10 hg2 hBd hBs
  have O10 : Hid (Own .u8 5 w10 (w.heap.size + 2) (.slice (some ⟨g, 0, none⟩) N cap) (fmN (fmK S L))) := o10
  clear o10 g10 O9 F9 RG
  refine hK.out _ _ (F10.out) (fun hx9 => ?_)
  clear hK K hHeld hx9
  have hHeld := F10.out
  try simp only [Act.put, List.setIfInBounds_toArray, List.set_cons_zero, List.set_cons_succ]
  refine wpAnyH_done (by kernel_rfl) ?_ _
  clear hHeld
  obtain ⟨-, -, -, k2, k3, -⟩ := F10.out
  have zr := F10.out.1.out.1.2.2.1.1
  obtain ⟨⟨-, d0, d1⟩, f0, f1⟩ := F10.out.1.out.1.2.2
  go_wp2
  refine bodyPost_ret (v := .agg #[(.slice (some ⟨g, 0, none⟩) N cap), .slice none 0 0]) (by simp [results, Tryd.results8, go_sem, d0, d1]) rfl ⟨_, rfl, ?_, ?_⟩
  · repeat (first | exact O10.out | refine Own.setBelow ?_ (show w.heap.size + 1 < w.heap.size + 2 by omega) _)
  · repeat (first | exact F10.out.1.out.1.1 | refine Below.setCell ?_ (by simp) _)

end Go.Proofs.YtcopcegamadkgaaDoor

namespace Go.Proofs.YtcopcegamadkgaaDoor
open Go.RowKit

theorem Own.far {k : IntKind} {e : TypeId} {w : World} {base : Nat} {v : Value} {xs : List Int} (h : Own k e w base v xs) {u : Value} (hu : ∀ g, u.ownBlock = some g → g < base) : v.ownBlock = none ∨ v.ownBlock ≠ u.ownBlock := by
  cases hv : v.ownBlock with
  | none => exact .inl rfl
  | some q =>
    right; intro e
    have := (h.lt q hv).1; have := hu q e.symm; omega

end Go.Proofs.YtcopcegamadkgaaDoor

namespace Go.Proofs.YtcopcegamadkgaaDoor
open Go.RowKit

theorem OwnB.far {w : World} {base : Nat} {v : Value} {xs : List Int} (h : OwnB w base v xs) {u : Value} (hu : ∀ g, u.ownBlock = some g → g < base) : v.ownBlock = none ∨ v.ownBlock ≠ u.ownBlock := h.elim fun _ h => h.far hu


end Go.Proofs.YtcopcegamadkgaaDoor

namespace Go.Proofs.YtcopcegamadkgaaDoor
open Go.RowKit

set_option maxHeartbeats 1000000 in
set_option maxRecDepth 100000 in
theorem toConfig_any (w : World) (S L : Int) :
    Calls Tryd.prog 7 #[.agg #[.int .i64 S, .int .i64 L]] w fun e w' => e = .returned (.agg #[.int .i64 S, .int .i64 L]) ∧ Below w.heap.size w w' := by
  have BA : Hid (∀ o1 o2 o3, Below w.heap.size w (((w.alloc o1).alloc o2).alloc o3)) := fun o1 o2 o3 => (((Below.refl _ _).alloc (Nat.le_refl _) _).alloc (by simp) _).alloc (by simp; omega) _
  go_enter Tryd.func7, Tryd.ntmps7
  go_wp2
  refine bodyPost_ret (v := .agg #[.int .i64 S, .int .i64 L]) (by simp [results, Tryd.results7, go_sem]) rfl ⟨rfl, ?_⟩
  repeat (first | exact BA.out _ _ _ | refine Below.setCell ?_ (by simp) _)

/-- The arguments' boxes, and one box more. -/
def Fit2S (w : World) (ao bo : Option Addr) (dl ca n cb : Nat) (S L : Int) (b : Nat) (x y : Value) (W : World) : Prop := FitS w ao bo dl ca n cb S L W ∧ W.cell? ⟨b, 0, none⟩ = some x ∧ W.cell? ⟨b, 1, none⟩ = some y
theorem Fit2S.mk {w : World} {ao bo : Option Addr} {dl ca n cb : Nat} {S L : Int} {b : Nat} {x y : Value} {W : World} (h : FitS w ao bo dl ca n cb S L W) (hb : Box2 W b x y) : Fit2S w ao bo dl ca n cb S L b x y W := ⟨h, hb.2.1, hb.2.2⟩

end Go.Proofs.YtcopcegamadkgaaDoor

namespace Go.Proofs.YtcopcegamadkgaaDoor
open Go.RowKit

set_option maxHeartbeats 1000000 in
set_option maxRecDepth 100000 in
theorem implFormat_no (w : World) (S L : Int) (hc : cfgOk S L = false) :
    Calls Tryd.prog 8 #[.agg #[.int .i64 S, .int .i64 L]] w fun e w' => e = .returned (.agg #[.slice none 0 0, .slice none 0 0]) ∧ Below w.heap.size w w' := by
  have HC : Hid (cfgOk S L = false) := hc
  clear hc
  go_enter Tryd.func8, Tryd.ntmps8
  go_wp2_with fail
  have F0 : Hid (FmS w S L ((w.alloc (.cells #[.int .i64 S, .int .i64 L] 29)).alloc (.cells #[.slice none 0 0, .slice none 0 0] 27))) := FmS.new _ _ _
  generalize (w.alloc (.cells #[.int .i64 S, .int .i64 L] 29)).alloc (.cells #[.slice none 0 0, .slice none 0 0] 27) = w0 at *
  refine (validConfig_any _ S L).mono ?_
  rintro e w1 ⟨rfl, b1⟩
  rw [HC.out]
  have F1 : Hid (FmS w S L w1) := F0.out.below b1
  obtain ⟨⟨zr, d0, d1⟩, f0, f1⟩ := F1.out.2.2
  clear b1
  go_wp2
  refine bodyPost_ret (v := .agg #[.slice none 0 0, .slice none 0 0]) (by simp [results, Tryd.results8, go_sem, d0, d1]) rfl ⟨rfl, ?_⟩
  repeat (first | exact F1.out.1 | refine Below.setCell ?_ (by simp) _)

theorem specFormat_any (w : World) (S L : Int) : Calls Tryd.prog 6 #[.agg #[.int .i64 S, .int .i64 L]] w fun e w' => ∃ v', e = .returned (.agg #[v', .slice none 0 0]) ∧ Own .u8 5 w' w.heap.size v' (fmA S L) ∧ Below w.heap.size w w' := by
  unfold fmA
  cases h : cfgOk S L with
  | true =>
    simp only [if_true]
    refine (specFormat_yes w S L h).mono ?_
    rintro e w' ⟨v, rfl, o, b⟩
    exact ⟨v, rfl, o.mono (by omega), b⟩
  | false =>
    simp only [Bool.false_eq_true, if_false]
    refine (specFormat_no w S L h).mono ?_
    rintro e w' ⟨rfl, b⟩
    exact ⟨_, rfl, World.ownsRow_nil _ _ _ _, b⟩
theorem implFormat_any (w : World) (S L : Int) (hT : TabC w) (h0 : 0 < w.heap.size) : Calls Tryd.prog 8 #[.agg #[.int .i64 S, .int .i64 L]] w fun e w' => ∃ v', e = .returned (.agg #[v', .slice none 0 0]) ∧ Own .u8 5 w' w.heap.size v' (fmA S L) ∧ Below w.heap.size w w' := by
  unfold fmA
  cases h : cfgOk S L with
  | true =>
    simp only [if_true]
    refine (implFormat_yes w S L h hT h0).mono ?_
    rintro e w' ⟨v, rfl, o, b⟩
    exact ⟨v, rfl, o.mono (by omega), b⟩
  | false =>
    simp only [Bool.false_eq_true, if_false]
    refine (implFormat_no w S L h).mono ?_
    rintro e w' ⟨rfl, b⟩
    exact ⟨_, rfl, World.ownsRow_nil _ _ _ _, b⟩

set_option maxHeartbeats 1000000 in
set_option maxRecDepth 100000 in
theorem lawFormat_walk (w : World) (S L : Int) (hT : TabC w) (h0 : 0 < w.heap.size) :
    Calls Tryd.prog 3 #[.agg #[.int .i64 S, .int .i64 L]] w fun e w' => e = .returned (.bool true) ∧ Below w.heap.size w w' := by
  have HPL : Hid ((fmA S L).length ≤ 1099511627776) := Nat.le_trans fmA_len (by omega)
  have HT : Hid (TabC w ∧ 0 < w.heap.size) := ⟨hT, h0⟩
  clear hT h0
  have HI : Hid (∀ W, Below w.heap.size w W → Calls Tryd.prog 8 #[.agg #[.int .i64 S, .int .i64 L]] W fun e w' => ∃ v', e = .returned (.agg #[v', .slice none 0 0]) ∧ Own .u8 5 w' W.heap.size v' (fmA S L) ∧ Below W.heap.size W w') := fun W hW => implFormat_any W S L (HT.out.1.below HT.out.2 hW) (Nat.lt_of_lt_of_le HT.out.2 hW.size)
  have B0 : Hid (Below w.heap.size w (w.alloc (.cells #[.int .i64 S, .int .i64 L] 23))) := (Below.refl _ _).alloc (Nat.le_refl _) _
  have XC0 : Hid (Box2 (w.alloc (.cells #[.int .i64 S, .int .i64 L] 23)) w.heap.size (.int .i64 S) (.int .i64 L)) := Box2.new _ _ _ _
  go_enter Tryd.func3, Tryd.ntmps3
  go_wp2_with fail
  generalize w.alloc (.cells #[.int .i64 S, .int .i64 L] 23) = w0 at *
  refine (toConfig_any _ S L).mono ?_
  rintro e wA ⟨rfl, bA⟩
  have BA0 : Hid (Below w.heap.size w wA) := B0.out.trans (bA.mono B0.out.size)
  have XCA : Hid (Box2 wA w.heap.size (.int .i64 S) (.int .i64 L)) := XC0.out.below bA
  clear bA B0 XC0
  go_wp2_with fail
  refine (specFormat_any wA S L).mono ?_
  rintro e w1 ⟨v1, rfl, o1', b1'⟩
  have o1 := o1'.mono BA0.out.size
  have b1 : Below w.heap.size w w1 := BA0.out.trans (b1'.mono BA0.out.size)
  have XC1 : Hid (Box2 w1 w.heap.size (.int .i64 S) (.int .i64 L)) := XCA.out.below b1'
  clear o1' b1' XCA BA0
  obtain ⟨a1, c1, rfl, _, _⟩ := o1.rd.len
  have B1 : Hid (Below w.heap.size w w1) := b1
  have O1 : Hid (Own .u8 5 w1 w.heap.size (.slice a1 (fmA S L).length c1) (fmA S L)) := o1
  have s1 := b1.size
  clear o1 b1
  obtain ⟨yA, e0, e1⟩ := XC1.out
  go_wp2_with fail
  have BA : Hid (Below w1.heap.size w1 (w1.alloc (.cells #[(.slice a1 (fmA S L).length c1), (.slice none 0 0)] 27))) := (Below.refl _ _).alloc (Nat.le_refl _) _
  have X1 : Hid (Box2 (w1.alloc (.cells #[(.slice a1 (fmA S L).length c1), (.slice none 0 0)] 27)) w1.heap.size (.slice a1 (fmA S L).length c1) (.slice none 0 0)) := Box2.new _ _ _ _
  have sA : w1.heap.size < (w1.alloc (.cells #[(.slice a1 (fmA S L).length c1), (.slice none 0 0)] 27)).heap.size := by simp
  generalize w1.alloc (.cells #[(.slice a1 (fmA S L).length c1), (.slice none 0 0)] 27) = wa at *
  have XCa : Hid (Box2 wa w.heap.size (.int .i64 S) (.int .i64 L)) := XC1.out.below BA.out
  clear e0 e1
  obtain ⟨-, e0, e1⟩ := XCa.out
  refine (toConfig_any _ S L).mono ?_
  rintro e wB ⟨rfl, bB⟩
  clear e0 e1
  have HBB : Hid (Below wa.heap.size wa wB) := bB
  clear bB
  go_wp2_with fail
  refine (HI.out wB ((B1.out.trans (BA.out.mono (by omega))).trans (HBB.out.mono (by omega)))).mono ?_
  rintro e w2 ⟨v2, rfl, o2', b2'⟩
  have o2 := o2'.mono HBB.out.size
  have b2 : Below wa.heap.size wa w2 := HBB.out.trans (b2'.mono HBB.out.size)
  have XC2 : Hid (Box2 w2 w.heap.size (.int .i64 S) (.int .i64 L)) := XCa.out.below b2
  clear o2' b2' HBB
  obtain ⟨a2, c2, rfl, _, _⟩ := o2.rd.len
  have B2 : Hid (Below wa.heap.size wa w2) := b2
  have O2 : Hid (Own .u8 5 w2 wa.heap.size (.slice a2 (fmA S L).length c2) (fmA S L)) := o2
  have s2 := b2.size
  clear o2 b2
  have X12 : Hid (Box2 w2 w1.heap.size (.slice a1 (fmA S L).length c1) (.slice none 0 0)) := X1.out.below B2.out
  obtain ⟨z1, d1, d2⟩ := X12.out
  go_wp2_with fail
  have BB : Hid (Below w2.heap.size w2 (w2.alloc (.cells #[(.slice a2 (fmA S L).length c2), (.slice none 0 0)] 27))) := (Below.refl _ _).alloc (Nat.le_refl _) _
  have X2 : Hid (Box2 (w2.alloc (.cells #[(.slice a2 (fmA S L).length c2), (.slice none 0 0)] 27)) w2.heap.size (.slice a2 (fmA S L).length c2) (.slice none 0 0)) := Box2.new _ _ _ _
  have sB : w2.heap.size < (w2.alloc (.cells #[(.slice a2 (fmA S L).length c2), (.slice none 0 0)] 27)).heap.size := by simp
  generalize w2.alloc (.cells #[(.slice a2 (fmA S L).length c2), (.slice none 0 0)] 27) = wb at *
  have O2b : Hid (Own .u8 5 wb wa.heap.size (.slice a2 (fmA S L).length c2) (fmA S L)) := O2.out.below BB.out
  have O1b : Hid (Own .u8 5 wb w.heap.size (.slice a1 (fmA S L).length c1) (fmA S L)) := ((O1.out.below BA.out).below B2.out).below BB.out
  have BWb : Hid (Below w.heap.size w wb) := ((B1.out.trans (BA.out.mono (by omega))).trans (B2.out.mono (by omega))).trans (BB.out.mono (by omega))
  have X1b : Hid (Box2 wb w1.heap.size (.slice a1 (fmA S L).length c1) (.slice none 0 0)) := X12.out.below BB.out
  refine (eqDisk_nil _ _ _ (fmA S L) (fmA S L) _ _ _ _ O2b.out.rd O1b.out.rd).mono ?_
  rintro e w3 ⟨rfl, b3⟩
  rw [show decide (fmA S L = fmA S L) = true by simp]
  have s3 := b3.size
  have O23 : Hid (Own .u8 5 w3 wa.heap.size (.slice a2 (fmA S L).length c2) (fmA S L)) := O2b.out.below b3
  have O13 : Hid (Own .u8 5 w3 w.heap.size (.slice a1 (fmA S L).length c1) (fmA S L)) := O1b.out.below b3
  have XC3 : Hid (Box2 w3 w.heap.size (.int .i64 S) (.int .i64 L)) := (XC2.out.below BB.out).below b3
  have X13 : Hid (Box2 w3 w1.heap.size (.slice a1 (fmA S L).length c1) (.slice none 0 0)) := X1b.out.below b3
  have X23 : Hid (Box2 w3 w2.heap.size (.slice a2 (fmA S L).length c2) (.slice none 0 0)) := X2.out.below b3
  have BW3 : Hid (Below w.heap.size w w3) := BWb.out.trans (b3.mono (by omega))
  have N12 : Hid (Value.ownBlock (.slice a1 (fmA S L).length c1) = none ∨ Value.ownBlock (.slice a1 (fmA S L).length c1) ≠ Value.ownBlock (.slice a2 (fmA S L).length c2)) := own_ne O1.out O2.out (by omega)
  have M02 : Hid (some w.heap.size ≠ Value.ownBlock (.slice a2 (fmA S L).length c2)) := box_own O2.out (by omega)
  have M12 : Hid (some w1.heap.size ≠ Value.ownBlock (.slice a2 (fmA S L).length c2)) := box_own O2.out (by omega)
  have M22 : Hid (some w2.heap.size ≠ Value.ownBlock (.slice a2 (fmA S L).length c2)) := own_box O2.out (Nat.le_refl _)
  clear b3 O1 O2 O2b O1b BWb X1b X2 X1 X12 B1 BA B2 BB z1 d1 d2
  obtain ⟨z2, d1, d2⟩ := X23.out
  go_wp2_with fail
  refine (markDisk_nil _ _ _ (fmA S L) _ _ 1 O23.out (by omega) (by omega) HPL.out).mono ?_
  rintro e w4 ⟨rfl, o4, g4⟩
  have s4 := g4.size
  have O24 : Hid (Own .u8 5 w4 wa.heap.size (.slice a2 (fmA S L).length c2) (marks 1 (fmA S L).length)) := o4
  have O14 : Hid (Own .u8 5 w4 w.heap.size (.slice a1 (fmA S L).length c1) (fmA S L)) := O13.out.other g4 N12.out
  have XC4 : Hid (Box2 w4 w.heap.size (.int .i64 S) (.int .i64 L)) := XC3.out.other g4 M02.out
  have X14 : Hid (Box2 w4 w1.heap.size (.slice a1 (fmA S L).length c1) (.slice none 0 0)) := X13.out.other g4 M12.out
  have X24 : Hid (Box2 w4 w2.heap.size (.slice a2 (fmA S L).length c2) (.slice none 0 0)) := X23.out.other g4 M22.out
  have BW4 : Hid (Below w.heap.size w w4) := BW3.out.grown g4 (by omega) (fun j hj => by have := (O23.out.lt j hj).1; omega)
  clear o4 g4 O23 O13 X13 X23 BW3 z2 d1 d2
  obtain ⟨z2, d1, d2⟩ := X24.out
  have hpl := HPL.out
  go_wp2_with fail
  refine (heldDisk_nil _ _ (fmA S L).length _ _ 1 O24.out.rd (by omega) (by omega) hpl).mono ?_
  rintro e w5 ⟨rfl, b5⟩
  have s5 := b5.size
  have hq0 : ¬ (1 + ((fmA S L).length : Int)) < 0 := by omega
  have BW5 : Hid (Below w.heap.size w w5) := BW4.out.trans (b5.mono (by omega))
  have XC5 : Hid (Box2 w5 w.heap.size (.int .i64 S) (.int .i64 L)) := XC4.out.below b5
  have X15 : Hid (Box2 w5 w1.heap.size (.slice a1 (fmA S L).length c1) (.slice none 0 0)) := X14.out.below b5
  have O15 : Hid (Own .u8 5 w5 w.heap.size (.slice a1 (fmA S L).length c1) (fmA S L)) := O14.out.below b5
  clear b5 O24 O14 X14 X24 BW4 z2 d1 d2
  obtain ⟨-, e0, e1⟩ := XC5.out
  go_wp2_with fail
  refine (toConfig_any _ S L).mono ?_
  rintro e wC ⟨rfl, bC⟩
  clear e0 e1
  have HBC : Hid (Below w5.heap.size w5 wC) := bC
  clear bC
  go_wp2_with fail
  refine (HI.out wC (BW5.out.trans (HBC.out.mono (by omega)))).mono ?_
  rintro e w6 ⟨v6, rfl, o6', b6'⟩
  have o6 := o6'.mono HBC.out.size
  have b6 : Below w5.heap.size w5 w6 := HBC.out.trans (b6'.mono HBC.out.size)
  clear o6' b6' HBC
  obtain ⟨a6, c6, rfl, _, _⟩ := o6.rd.len
  have s6 := b6.size
  have O6 : Hid (Own .u8 5 w6 w5.heap.size (.slice a6 (fmA S L).length c6) (fmA S L)) := o6
  have O16 : Hid (Own .u8 5 w6 w.heap.size (.slice a1 (fmA S L).length c1) (fmA S L)) := O15.out.below b6
  have X16 : Hid (Box2 w6 w1.heap.size (.slice a1 (fmA S L).length c1) (.slice none 0 0)) := X15.out.below b6
  have BW6 : Hid (Below w.heap.size w w6) := BW5.out.trans (b6.mono (by omega))
  clear o6 b6 O15 X15 BW5
  obtain ⟨z1, d1, d2⟩ := X16.out
  go_wp2_with fail
  have BC : Hid (Below w6.heap.size w6 (w6.alloc (.cells #[(.slice a6 (fmA S L).length c6), (.slice none 0 0)] 27))) := (Below.refl _ _).alloc (Nat.le_refl _) _
  refine (eqDisk_nil _ _ _ (fmA S L) (fmA S L) _ _ _ _ (O6.out.below BC.out).rd (O16.out.below BC.out).rd).mono ?_
  rintro e w7 ⟨rfl, b7⟩
  rw [show decide (fmA S L = fmA S L) = true by simp]
  have BW7 : Hid (Below w.heap.size w w7) := (BW6.out.trans (BC.out.mono (by omega))).trans (b7.mono (by simp; omega))
  clear b7
  go_wp2
  go_ret
  exact ⟨rfl, BW7.out⟩

end Go.Proofs.YtcopcegamadkgaaDoor

namespace Go.Proofs.YtcopcegamadkgaaDoor
open Go.ChangeShapes Go.WideShapes Go.ChangeAt Go.RowKit

theorem knob : ownKnob Tryd.prog.godebug = none := by kernel_rfl
theorem laidOut : laidOutB Tryd.prog = true := by kernel_rfl

def gFirst (P : Program) : Nat := (P.globalNamed "unicode/utf8.first").getD 0
def gAccept (P : Program) : Nat := (P.globalNamed "unicode/utf8.acceptRanges").getD 0

/-- The witness: the two tables as they are laid. -/
def laidWorld (P : Program) (os : Os) : World :=
  let w0 := World.holding P os ⟨#[], #[], []⟩
  let put (h : Array Obj) (g : Nat) (cs : Array Value) : Array Obj := h.modify g fun
    | .cells _ t frozen => .cells cs t frozen
    | o => o
  let h1 := put w0.heap (gFirst P) (Go.Pinned.utf8FirstZ.map fun (z : Nat) => Value.int .u8 (z : Int)).toArray
  let h2 := put h1 (gAccept P) ((([128, 191, 160, 191, 128, 159, 144, 191, 128, 143] : List Int) ++ List.replicate 22 0).map fun (z : Int) => Value.int .u8 z).toArray
  { w0 with heap := h2 }
end Go.Proofs.YtcopcegamadkgaaDoor

namespace Go.Proofs.YtcopcegamadkgaaDoor
open Go.ChangeShapes Go.WideShapes Go.ChangeAt Go.RowKit

theorem gTab : Tryd.prog.globalNamed "loop.example/s01594/impl.crcTable" = some 0 := by kernel_rfl
theorem gTabType : (Tryd.prog.globals[0]?).map (·.type) = some 127 := by kernel_rfl
theorem cellsT : Tryd.prog.cellsOf 127 = 16 := by kernel_rfl
theorem cellsE : Tryd.prog.cellsOf 126 = 1 := by kernel_rfl
def tabCells : Array Value := #[.int .u32 0, .int .u32 274646895, .int .u32 549293790, .int .u32 820201905, .int .u32 1098587580, .int .u32 1361435347, .int .u32 1640403810, .int .u32 1905808397, .int .u32 2197175160, .int .u32 2460548119, .int .u32 2722870694, .int .u32 2987750089, .int .u32 3280807620, .int .u32 3553878443, .int .u32 3811616794, .int .u32 4084100981]
abbrev tableH {H : Type} : DataW H := .agg [.lit (.int .u32 0), .lit (.int .u32 274646895), .lit (.int .u32 549293790), .lit (.int .u32 820201905), .lit (.int .u32 1098587580), .lit (.int .u32 1361435347), .lit (.int .u32 1640403810), .lit (.int .u32 1905808397), .lit (.int .u32 2197175160), .lit (.int .u32 2460548119), .lit (.int .u32 2722870694), .lit (.int .u32 2987750089), .lit (.int .u32 3280807620), .lit (.int .u32 3553878443), .lit (.int .u32 3811616794), .lit (.int .u32 4084100981)]
theorem reads_table {H : Type} (enc : TypeId × Value → H) (W : World) (sp : Nat → Bool) : DataW.trod enc Tryd.prog W 0 sp true 3 127 tabCells.toList = some (tableH, []) := by kernel_rfl
theorem tab_cell : ∀ i, i < 16 → some (Value.int .u32 (([0, 274646895, 549293790, 820201905, 1098587580, 1361435347, 1640403810, 1905808397, 2197175160, 2460548119, 2722870694, 2987750089, 3280807620, 3553878443, 3811616794, 4084100981] : List Int).getD i 0)) = some (.int .u32 ((tabL.getD i 0 : Nat) : Int)) := by
  intro i hi
  have : ∀ i, i < 16 → ([0, 274646895, 549293790, 820201905, 1098587580, 1361435347, 1640403810, 1905808397, 2197175160, 2460548119, 2722870694, 2987750089, 3280807620, 3553878443, 3811616794, 4084100981] : List Int).getD i 0 = ((tabL.getD i 0 : Nat) : Int) := by decide +kernel
  rw [this i hi]

/-- The witness: the three tables as they are laid. -/
def laidWorld3 (P : Program) (os : Os) : World :=
  let w0 := laidWorld P os
  { w0 with heap := w0.heap.modify 0 fun
    | .cells _ t frozen => .cells tabCells t frozen
    | o => o }
theorem laid_met3 (os : Os) (args : Array Value) : laidMet Tryd.prog [("unicode/utf8.acceptRanges", Rows.laid_unicode_utf8_acceptRanges), ("loop.example/s01594/impl.crcTable", Rows.laid_loop_example_s01594_impl_crcTable), ("unicode/utf8.first", Rows.laid_unicode_utf8_first)] ((laidWorld3 Tryd.prog os).forCall (fun _ _ => 0) ⟨#[], args, []⟩).memory :=
  (LaidIn.of_run (l := [("unicode/utf8.acceptRanges", Rows.laid_unicode_utf8_acceptRanges), ("loop.example/s01594/impl.crcTable", Rows.laid_loop_example_s01594_impl_crcTable), ("unicode/utf8.first", Rows.laid_unicode_utf8_first)]) [gAccept Tryd.prog, 0, gFirst Tryd.prog] 8 (by kernel_rfl) (by kernel_rfl) (by kernel_rfl) (by kernel_rfl)).met

theorem tab3 {W : World} (h : laidMet Tryd.prog [("unicode/utf8.acceptRanges", Rows.laid_unicode_utf8_acceptRanges), ("loop.example/s01594/impl.crcTable", Rows.laid_loop_example_s01594_impl_crcTable), ("unicode/utf8.first", Rows.laid_unicode_utf8_first)] W) : Lib.TabIs Tryd.prog W "loop.example/s01594/impl.crcTable" .u32 [0, 274646895, 549293790, 820201905, 1098587580, 1361435347, 1640403810, 1905808397, 2197175160, 2460548119, 2722870694, 2987750089, 3280807620, 3553878443, 3811616794, 4084100981] := by
  obtain ⟨ps, ⟨_, _, _, _, _, _, _, _, _, _, ⟨g', t', cs, fuel, p, q, hg', ht', hvar, hd, _, _⟩, _⟩, _⟩ := h
  obtain rfl := Option.some.inj (gTab.symm.trans hg')
  obtain rfl := Option.some.inj (gTabType.symm.trans ht')
  unfold Lib.TabIs
  rw [hvar, ← Lib.cells_of_tab Tryd.underlying127 Tryd.underlying126 cellsE cellsT (zs := [0, 274646895, 549293790, 820201905, 1098587580, 1361435347, 1640403810, 1905808397, 2197175160, 2460548119, 2722870694, 2987750089, 3280807620, 3553878443, 3811616794, 4084100981]) (k := .u32) hd]

end Go.Proofs.YtcopcegamadkgaaDoor

namespace Go.Proofs.YtcopcegamadkgaaDoor
open Go.ChangeShapes Go.WideShapes Go.ChangeAt Go.RowKit

theorem cells_C2 : Tryd.prog.cellsOf 23 = 2 := by kernel_rfl
theorem cells_CI : Tryd.prog.cellsOf 2 = 1 := by kernel_rfl

theorem array2 {α : Type} {cs : Array α} (h : cs.size = 2) : ∃ c0 c1, cs = #[c0, c1] := by
  obtain ⟨l⟩ := cs
  match l, h with
  | [c0, c1], _ => exact ⟨c0, c1, rfl⟩

section
variable {H : Type} {enc : TypeId × Value → H} {W : World} {base : Nat} {held : Bool}

set_option maxRecDepth 100000 in
/-- A configuration that came in. -/
theorem open_conf {b0 : Nat} {v : Value} {d : DataW H} {p : List MemPlace} (hv : Value.okWide Tryd.prog W .any b0 23 v) (h : DataW.Trod enc Tryd.prog W base (fun _ => true) held 23 v d p) :
    ∃ g b : Int, v = .agg #[.int .i64 g, .int .i64 b] := by
  obtain ⟨cs, rfl, hsz⟩ := okWide_struct Tryd.underlying23 hv
  obtain ⟨c0, c1, rfl⟩ := array2 (hsz.trans cells_C2)
  obtain ⟨fuel, hf⟩ := h
  obtain ⟨xs, n, -, -, hl, hlen, hfs⟩ := DataW.trod_struct Tryd.underlying23 hf
  match xs, hlen with
  | [y0, y1], _ =>
    have h0 : DataW.trod enc Tryd.prog W base (fun _ => true) held n 2 [c0] = some y0 := by
      have := hfs 0 _ rfl
      simpa [cells_CI, Value.cells] using this
    have h1 : DataW.trod enc Tryd.prog W base (fun _ => true) held n 2 [c1] = some y1 := by
      have := hfs 1 _ rfl
      simpa [cells_CI, Value.cells] using this
    obtain ⟨g, e0, -, -⟩ := DataW.trod_int Tryd.underlying2 h0
    obtain ⟨b, e1, -, -⟩ := DataW.trod_int Tryd.underlying2 h1
    simp only [List.cons.injEq, and_true] at e0 e1
    subst e0 e1
    exact ⟨g, b, rfl⟩
end

end Go.Proofs.YtcopcegamadkgaaDoor

