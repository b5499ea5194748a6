import Derived.Test.YtcopcegamadkgaaDoorJ06
import Derived.Test.YtcopcegamadkgaaDoorRows
import Derived.Deep.RegionWith
import Derived.Test.YtcopcegamadkgaaDoorJ01
import Derived.Deep.RegionLaw
import Derived.Laws.Cover3
import Derived.Deep.MidRow
import Derived.Laws.CopyOwn
import Derived.BigRegion
import Derived.Deep.AppendLies
import Derived.Test.YtcopcegamadkgaaDoorJ05
namespace Go.Proofs.YtcopcegamadkgaaDoor
open Go.RowKit




/-- A local struct of one cell. -/
def Box (w : World) (b : Nat) (v : Value) : Prop := b < w.heap.size ∧ w.cell? ⟨b, 0, none⟩ = some v
theorem Box.below {w w' : World} {b : Nat} {v : Value} (h : Box w b v) (hb : Below w.heap.size w w') : Box w' b v :=
  ⟨Nat.lt_of_lt_of_le h.1 hb.size, (hb.cell (p := ⟨b, 0, none⟩) h.1).trans h.2⟩
theorem Box.other {w w' : World} {b : Nat} {v : Value} {row : Option Nat} (h : Box w b v) (hg : w.grownBy w' row) (hne : some b ≠ row) : Box w' b v :=
  ⟨Nat.lt_of_lt_of_le h.1 hg.size, hg.cell h.2 hne⟩
theorem Box.new (w : World) (v : Value) (t : TypeId) : Box (w.alloc (.cells #[v] t)) w.heap.size v := ⟨by simp, by simp⟩
theorem Box.drewN {w : World} {b : Nat} {v : Value} (h : Box w b v) (n : Nat) : Box (w.drewN n) b v := h

end Go.Proofs.YtcopcegamadkgaaDoor

namespace Go.Proofs.YtcopcegamadkgaaDoor
open Go.RowKit

def frm_m (a : List Int) : Nat := (a.getD 0 0).toNat % 128 * 128 + (a.getD 1 0).toNat % 128
def frm_p (a : List Int) : List Int := unp ((a.drop 2).take (frm_m a))
def frm_ok (a : List Int) : Prop := 2 ≤ a.length ∧ 128 ≤ a.getD 0 0 ∧ 128 ≤ a.getD 1 0 ∧ 2 + frm_m a ≤ a.length ∧ frm_p a ≠ [] ∧ (frm_p a).length ≤ 2000
/-- Is there a record at the beginning of the bytes? -/
def frmB (a : List Int) : Bool := decide (2 ≤ a.length) && decide (128 ≤ a.getD 0 0) && decide (128 ≤ a.getD 1 0) && decide (2 + frm_m a ≤ a.length) && decide (frm_p a ≠ []) && decide ((frm_p a).length ≤ 2000)
theorem frmB_iff (a : List Int) : frmB a = true ↔ frm_ok a := by
  unfold frmB frm_ok
  simp only [Bool.and_eq_true, decide_eq_true_eq, and_assoc]
theorem frmB_no {a : List Int} (h : ¬ frm_ok a) : frmB a = false := by
  cases e : frmB a with
  | false => rfl
  | true => exact absurd ((frmB_iff a).1 e) h

/-- The records one behind the other, and how many bytes each takes. -/
def scn : Nat → List Int → List (List Int × Nat)
  | 0, _ => []
  | f + 1, a => if frmB a then (frm_p a, 2 + frm_m a) :: scn f (a.drop (2 + frm_m a)) else []

def pos (R : List (List Int × Nat)) (k : Nat) : Nat := ((R.take k).map (·.2)).sum
theorem pos_zero (R : List (List Int × Nat)) : pos R 0 = 0 := by simp [pos]
theorem pos_cons (r : List Int × Nat) (R : List (List Int × Nat)) (k : Nat) : pos (r :: R) (k + 1) = r.2 + pos R k := by simp [pos]

theorem scn_all : ∀ (f : Nat) (a : List Int), a.length ≤ f →
    (∀ k, k < (scn f a).length → frmB (a.drop (pos (scn f a) k)) = true ∧ (scn f a).getD k ([], 0) = (frm_p (a.drop (pos (scn f a) k)), 2 + frm_m (a.drop (pos (scn f a) k)))) ∧
    frmB (a.drop (pos (scn f a) (scn f a).length)) = false ∧ (∀ k, k ≤ (scn f a).length → pos (scn f a) k ≤ a.length)
  | 0, a, h => by
    have : a = [] := List.eq_nil_of_length_eq_zero (by omega)
    subst this
    exact ⟨fun k hk => by simp [scn] at hk, by rfl, fun k hk => by simp [scn] at hk; subst hk; simp [pos]⟩
  | f + 1, a, h => by
    cases e : frmB a with
    | false =>
      have hs : scn (f + 1) a = [] := by unfold scn; rw [e]; simp
      rw [hs]
      exact ⟨fun k hk => by simp at hk, by simpa [pos] using e, fun k hk => by simp at hk; subst hk; simp [pos]⟩
    | true =>
      have hs : scn (f + 1) a = (frm_p a, 2 + frm_m a) :: scn f (a.drop (2 + frm_m a)) := by
        conv => lhs; unfold scn
        rw [e]; simp
      obtain ⟨k1, k2, k3, k4, -⟩ := (frmB_iff a).1 e
      obtain ⟨i1, i2, i3⟩ := scn_all f (a.drop (2 + frm_m a)) (by rw [List.length_drop]; omega)
      rw [hs]
      refine ⟨fun k hk => ?_, ?_, fun k hk => ?_⟩
      · cases k with
        | zero => rw [pos_zero, List.drop_zero]; exact ⟨e, rfl⟩
        | succ k =>
          have := i1 k (by simpa using hk)
          rw [pos_cons, ← List.drop_drop]
          exact this
      · rw [List.length_cons, pos_cons, ← List.drop_drop]; exact i2
      · cases k with
        | zero => rw [pos_zero]; exact Nat.zero_le _
        | succ k =>
          have := i3 k (by simpa using hk)
          rw [List.length_drop] at this
          rw [pos_cons]
          show 2 + frm_m a + _ ≤ _
          omega

theorem pos_succ (R : List (List Int × Nat)) (k : Nat) (h : k < R.length) : pos R (k + 1) = pos R k + (R.getD k ([], 0)).2 := by
  unfold pos
  rw [List.take_succ_eq_append_getElem h, List.map_append, List.sum_append]
  simp [List.getD, h]

theorem unp_nil : unp [] = [] := by rfl

end Go.Proofs.YtcopcegamadkgaaDoor

namespace Go.Proofs.YtcopcegamadkgaaDoor
open Go.RowKit

/-- A local struct of two cells. -/
def Box2 (w : World) (b : Nat) (x y : Value) : Prop := b < w.heap.size ∧ w.cell? ⟨b, 0, none⟩ = some x ∧ w.cell? ⟨b, 1, none⟩ = some y
theorem Box2.below {w w' : World} {b : Nat} {x y : Value} (h : Box2 w b x y) (hb : Below w.heap.size w w') : Box2 w' b x y :=
  ⟨Nat.lt_of_lt_of_le h.1 hb.size, (hb.cell (p := ⟨b, 0, none⟩) h.1).trans h.2.1, (hb.cell (p := ⟨b, 1, none⟩) h.1).trans h.2.2⟩
theorem Box2.other {w w' : World} {b : Nat} {x y : Value} {row : Option Nat} (h : Box2 w b x y) (hg : w.grownBy w' row) (hne : some b ≠ row) : Box2 w' b x y :=
  ⟨Nat.lt_of_lt_of_le h.1 hg.size, hg.cell h.2.1 hne, hg.cell h.2.2 hne⟩
theorem Box2.new (w : World) (x y : Value) (t : TypeId) : Box2 (w.alloc (.cells #[x, y] t)) w.heap.size x y := ⟨by simp, by simp, by simp⟩


end Go.Proofs.YtcopcegamadkgaaDoor

namespace Go.Proofs.YtcopcegamadkgaaDoor
open Go.RowKit

def pB (ps : List (Int × List Int)) (i : Nat) : Int := (ps.getD i (0, [])).1
def pD (ps : List (Int × List Int)) (i : Nat) : List Int := (ps.getD i (0, [])).2

/-- A slice of records (a number and a list of bytes) that reads as ps. -/
def RdW (w : World) (v : Value) (ps : List (Int × List Int)) : Prop :=
  ∃ ao cap, v = .slice ao ps.length cap ∧ ps.length ≤ cap ∧ cap ≤ maxLen ∧
    (ps = [] ∨ ∃ b off, ao = some ⟨b, off, none⟩ ∧ b < w.heap.size ∧ ∀ i, i < ps.length →
      w.cell? ⟨b, off + i * 2, none⟩ = some (.int .i64 (pB ps i)) ∧ ∃ da c, w.cell? ⟨b, off + i * 2 + 1, none⟩ = some (.slice da (pD ps i).length c) ∧ Rd .u8 w (.slice da (pD ps i).length c) (pD ps i))

theorem RdW.len {w : World} {v : Value} {ps : List (Int × List Int)} (h : RdW w v ps) : ∃ ao cap, v = .slice ao ps.length cap ∧ ps.length ≤ cap ∧ cap ≤ maxLen := by
  obtain ⟨ao, cap, h0, h1, h2, _⟩ := h
  exact ⟨ao, cap, h0, h1, h2⟩

theorem RdW.below {w w' : World} {v : Value} {ps : List (Int × List Int)} (h : RdW w v ps) (hb : Below w.heap.size w w') : RdW w' v ps := by
  obtain ⟨ao, cap, rfl, h1, h2, h3⟩ := h
  refine ⟨ao, cap, rfl, h1, h2, ?_⟩
  rcases h3 with h3 | ⟨b, off, rfl, hlt, hc⟩
  · exact .inl h3
  · refine .inr ⟨b, off, rfl, Nat.lt_of_lt_of_le hlt hb.size, fun i hi => ?_⟩
    obtain ⟨c1, da, c, c2, r⟩ := hc i hi
    exact ⟨(hb.cell (p := ⟨b, _, none⟩) hlt).trans c1, da, c, (hb.cell (p := ⟨b, _, none⟩) hlt).trans c2, r.below hb⟩

end Go.Proofs.YtcopcegamadkgaaDoor

namespace Go.Proofs.YtcopcegamadkgaaDoor
open Go.RowKit

/-! ### rows of records -/
def rowW (n : Nat) (f : Nat → Int) (g : Nat → Value) : List Value := (List.range n).flatMap fun i => [.int .i64 (f i), g i]

theorem rowW_succ (n : Nat) (f : Nat → Int) (g : Nat → Value) : rowW (n + 1) f g = rowW n f g ++ [.int .i64 (f n), g n] := by
  unfold rowW; rw [List.range_succ, List.flatMap_append]; simp
theorem rowW_length (n : Nat) (f : Nat → Int) (g : Nat → Value) : (rowW n f g).length = n * 2 := by
  induction n with
  | zero => rfl
  | succ n ih => rw [rowW_succ, List.length_append, ih]; simp; omega
theorem rowW_get (n : Nat) (f : Nat → Int) (g : Nat → Value) (j : Nat) (h : j < n * 2) : (rowW n f g)[j]? = some (if j % 2 = 0 then .int .i64 (f (j / 2)) else g (j / 2)) := by
  induction n with
  | zero => omega
  | succ n ih =>
    rw [rowW_succ]
    by_cases hj : j < n * 2
    · rw [List.getElem?_append_left (by rw [rowW_length]; exact hj), ih hj]
    · rw [List.getElem?_append_right (by rw [rowW_length]; omega), rowW_length]
      by_cases e : j = n * 2
      · subst e
        simp [show n * 2 % 2 = 0 by omega]
      · have e2 : j = n * 2 + 1 := by omega
        subst e2
        rw [if_neg (by omega), show n * 2 + 1 - n * 2 = 1 by omega, show (n * 2 + 1) / 2 = n by omega]
        rfl
def Ne2 (a b : Value) : Prop := a.ownBlock = none ∨ a.ownBlock ≠ b.ownBlock

theorem Own.slice {k : IntKind} {e : TypeId} {w : World} {lo : Nat} {v : Value} {xs : List Int} (h : Own k e w lo v xs) : ∃ a c, v = .slice a xs.length c := by
  obtain ⟨a, c, h0, _⟩ := h.rd.len
  exact ⟨a, c, h0⟩
theorem Own.setAt {k : IntKind} {e : TypeId} {w : World} {lo g j : Nat} {v u : Value} {xs : List Int} (h : Own k e w lo v xs) (hne : v.ownBlock = none ∨ v.ownBlock ≠ some g) : Own k e (w.setCell ⟨g, j, none⟩ u) lo v xs :=
  h.other (grownBy_set w w g j u (World.grownBy.refl _ _)) hne

/-- Bytes in a row of the call's own, whatever type the row is of. -/
def OwnB (w : World) (lo : Nat) (v : Value) (xs : List Int) : Prop := ∃ te, Own .u8 te w lo v xs
theorem Own.b {te : TypeId} {w : World} {lo : Nat} {v : Value} {xs : List Int} (h : Own .u8 te w lo v xs) : OwnB w lo v xs := ⟨te, h⟩
theorem OwnB.rd {w : World} {lo : Nat} {v : Value} {xs : List Int} (h : OwnB w lo v xs) : Rd .u8 w v xs := h.elim fun _ h => h.rd
theorem OwnB.below {w w' : World} {lo : Nat} {v : Value} {xs : List Int} (h : OwnB w lo v xs) (hb : Below w.heap.size w w') : OwnB w' lo v xs := h.elim fun _ h => ⟨_, h.below hb⟩
theorem OwnB.mono {w : World} {lo lo' : Nat} {v : Value} {xs : List Int} (h : OwnB w lo v xs) (hl : lo' ≤ lo) : OwnB w lo' v xs := h.elim fun _ h => ⟨_, h.mono hl⟩
theorem OwnB.other {w w' : World} {lo : Nat} {v : Value} {xs : List Int} {row : Option Nat} (h : OwnB w lo v xs) (hg : w.grownBy w' row) (hne : v.ownBlock = none ∨ v.ownBlock ≠ row) : OwnB w' lo v xs := h.elim fun _ h => ⟨_, h.other hg hne⟩
theorem OwnB.lt {w : World} {lo : Nat} {v : Value} {xs : List Int} (h : OwnB w lo v xs) : ∀ g, v.ownBlock = some g → lo ≤ g ∧ g < w.heap.size := h.elim fun _ h => h.lt
theorem OwnB.slice {w : World} {lo : Nat} {v : Value} {xs : List Int} (h : OwnB w lo v xs) : ∃ a c, v = .slice a xs.length c := h.elim fun _ h => h.slice
theorem OwnB.setAt {w : World} {lo g j : Nat} {v u : Value} {xs : List Int} (h : OwnB w lo v xs) (hne : v.ownBlock = none ∨ v.ownBlock ≠ some g) : OwnB (w.setCell ⟨g, j, none⟩ u) lo v xs := h.elim fun _ h => ⟨_, h.setAt hne⟩
theorem OwnB.setBelow {w : World} {lo : Nat} {v : Value} {xs : List Int} (h : OwnB w lo v xs) {a : Addr} (ha : a.block < lo) (u : Value) : OwnB (w.setCell a u) lo v xs := h.elim fun _ h => ⟨_, h.setBelow ha u⟩

/-- A slice of records that is the call's own, each list in a row of its own. -/
def OwnW (e : TypeId) (w : World) (lo : Nat) (v : Value) (ps : List (Int × List Int)) (dv : Nat → Value) : Prop :=
  w.ownsRow lo e 2 v ps.length (rowW ps.length (pB ps) dv) ∧ (∀ i, i < ps.length → OwnB w lo (dv i) (pD ps i)) ∧
  (∀ i j, i < ps.length → j < ps.length → i ≠ j → Ne2 (dv i) (dv j)) ∧ ∀ i, i < ps.length → Ne2 (dv i) v

theorem OwnW.rd {e : TypeId} {w : World} {lo : Nat} {v : Value} {ps : List (Int × List Int)} {dv : Nat → Value} (h : OwnW e w lo v ps dv) : RdW w v ps := by
  obtain ⟨ho, hd, _, _⟩ := h
  rcases ho.2 with ⟨rfl, h0⟩ | ⟨g, cap, cur, rfl, hb, hg, hn, hm, hs, ht⟩
  · have : ps = [] := List.eq_nil_of_length_eq_zero h0
    subst this
    exact ⟨none, 0, rfl, Nat.le_refl _, Nat.zero_le _, .inl rfl⟩
  · refine ⟨_, cap, rfl, hn, hm, .inr ⟨g, 0, rfl, (Array.getElem?_eq_some_iff.1 hg).1, fun i hi => ?_⟩⟩
    have c1 := World.ownsRow.cells ho (g := g) rfl (i * 2) _ (rowW_get _ _ _ _ (by omega))
    have c2 := World.ownsRow.cells ho (g := g) rfl (i * 2 + 1) _ (rowW_get _ _ _ _ (by omega))
    rw [Addr.add_lit] at c1 c2
    rw [if_pos (by omega), show i * 2 / 2 = i by omega] at c1
    rw [if_neg (by omega), show (i * 2 + 1) / 2 = i by omega] at c2
    obtain ⟨a, c, e⟩ := (hd i hi).slice
    refine ⟨c1, a, c, ?_, ?_⟩
    · rw [← e, Nat.add_assoc]; exact c2
    · rw [← e]; exact (hd i hi).rd

theorem OwnW.below {e : TypeId} {w w' : World} {lo : Nat} {v : Value} {ps : List (Int × List Int)} {dv : Nat → Value} (h : OwnW e w lo v ps dv) (hb : Below w.heap.size w w') : OwnW e w' lo v ps dv := by
  obtain ⟨ho, hd, h3, h4⟩ := h
  refine ⟨⟨ho.1, ?_⟩, fun i hi => (hd i hi).below hb, h3, h4⟩
  rcases ho.2 with hn | ⟨g, cap, cur, rfl, hbg, hgg, rest⟩
  · exact .inl hn
  · exact .inr ⟨g, cap, cur, rfl, hbg, by rw [hb.block g (Array.getElem?_eq_some_iff.1 hgg).1]; exact hgg, rest⟩

theorem OwnW.mono {e : TypeId} {w : World} {lo lo' : Nat} {v : Value} {ps : List (Int × List Int)} {dv : Nat → Value} (h : OwnW e w lo v ps dv) (hl : lo' ≤ lo) : OwnW e w lo' v ps dv := by
  obtain ⟨ho, hd, h3, h4⟩ := h
  refine ⟨⟨ho.1, ?_⟩, fun i hi => (hd i hi).mono hl, h3, h4⟩
  rcases ho.2 with hn | ⟨g, cap, cur, rfl, hbg, rest⟩
  · exact .inl hn
  · exact .inr ⟨g, cap, cur, rfl, by omega, rest⟩


end Go.Proofs.YtcopcegamadkgaaDoor

namespace Go.Proofs.YtcopcegamadkgaaDoor
open Go.RowKit

theorem Rd.cut {k : IntKind} {w : World} {ao : Option Addr} {n cap : Nat} {xs : List Int} (h : Rd k w (.slice ao n cap) xs) (hn : xs.length = n) (h0 : 0 < n) : ∃ blk o, ao = some ⟨blk, o, none⟩ ∧ blk < w.heap.size ∧ n ≤ cap ∧ cap ≤ maxLen ∧ ∀ i, i < n → w.cell? ⟨blk, o + i, none⟩ = some (.int k (xs.getD i 0)) := by
  obtain ⟨ao', cap', e, h1, h2, h3⟩ := h
  simp only [Value.slice.injEq] at e
  obtain ⟨rfl, hl, rfl⟩ := e
  rcases h3 with rfl | ⟨b, o, rfl, hb, hc⟩
  · simp at hn; omega
  · exact ⟨b, o, rfl, hb, by omega, h2, fun i hi => hc i (by omega)⟩

theorem rd_piece {k : IntKind} {w : World} {blk o n cap : Nat} {xs : List Int} (hb : blk < w.heap.size) (hc : ∀ i, i < n → w.cell? ⟨blk, o + i, none⟩ = some (.int k (xs.getD i 0))) (hn : xs.length = n) (i m : Nat) (hm : i + m ≤ n) (hcap : n ≤ cap) (hcm : cap ≤ maxLen) : Rd k w (.slice (some ⟨blk, o + i, none⟩) m (cap - i)) ((xs.drop i).take m) := by
  have hlen : ((xs.drop i).take m).length = m := by rw [List.length_take, List.length_drop]; omega
  refine ⟨_, cap - i, by rw [hlen], by omega, by omega, .inr ⟨blk, o + i, rfl, hb, fun j hj => ?_⟩⟩
  rw [hlen] at hj
  have := hc (i + j) (by omega)
  rw [Nat.add_assoc, this]
  simp [List.getD, List.getElem?_drop, hj]

theorem below_drewQ {B : Nat} {w w' : World} (h : Below B w w') (q : Nat) : Below B w (w'.drewN q) := ⟨h.os, h.tape, h.output, h.size, h.block⟩

theorem byt_piece {xs : List Int} (h : Byt xs) (i m : Nat) : Byt ((xs.drop i).take m) := fun x hx => h x (List.mem_of_mem_drop (List.mem_of_mem_take hx))

theorem box_set {w : World} {B : Nat} {v : Value} (h : Box w B v) (u : Value) : Box (w.setCell ⟨B, 0, none⟩ u) B u := ⟨by have h1 := h.1; go_simp, by have h2 := h.2; go_simp⟩
theorem box_alloc {w : World} {B : Nat} {v : Value} (h : Box w B v) (o : Obj) : Box (w.alloc o) B v := h.below ((Below.refl _ _).alloc (Nat.le_refl _) _)

set_option maxHeartbeats 2000000 in
set_option maxRecDepth 100000 in
theorem recordAt_any (w : World) (ao : Option Addr) (n cap : Nat) (a : List Int) (h : Rd .u8 w (.slice ao n cap) a) (hl : a.length = n) (hby : Byt a) (hn : n ≤ 8192) :
    Calls Tryd.prog 113 #[.slice ao n cap] w fun e w' => (∃ u s, e = .returned (.tuple #[.agg #[u], .int .i64 s]) ∧ ((frmB a = false ∧ s = 0 ∧ u = .slice none 0 0) ∨ (frmB a = true ∧ s = ((2 + frm_m a : Nat) : Int) ∧ Own .u8 5 w' w.heap.size u (frm_p a)))) ∧ Below w.heap.size w w' := by
  have B0 : Hid (Below w.heap.size w (w.alloc (.cells #[.slice none 0 0] 111))) := (Below.refl _ _).alloc (Nat.le_refl _) _
  have HL : Hid (a.length = n) := hl
  clear hl
  by_cases h2 : n < 2
  · have h2I : (n : Int) < 2 := by omega
    have h2d : decide ((n : Int) < 2) = true := by simpa using h2I
    have HF : Hid (frmB a = false) := frmB_no (fun hk => by have := hk.1; have := HL.out; omega)
    clear h hby
    go_enter Tryd.func113, Tryd.ntmps113
    go_wp2
    refine bodyPost_ret (v := .tuple #[.agg #[.slice none 0 0], .int .i64 0]) (by simp [results, Tryd.results113, go_sem]) rfl ⟨⟨_, _, rfl, .inl ⟨HF.out, rfl, rfl⟩⟩, ?_⟩
    repeat (first | exact B0.out | refine Below.setCell ?_ (by simp; try omega) _)
  · have h2I : ¬ (n : Int) < 2 := by omega
    have h2d : decide ((n : Int) < 2) = false := by simpa using h2I
    obtain ⟨blk, o, rfl, hb, hcap, hcm, hc⟩ := h.cut HL.out (by omega)
    obtain ⟨x0, hx0, hxe0⟩ := byt_at hby 0
    obtain ⟨x1, hx1, hxe1⟩ := byt_at hby 1
    have c0 := hc 0 (by omega)
    have c1 := hc 1 (by omega)
    rw [hxe0, Nat.add_zero] at c0
    rw [hxe1] at c1
    have HC : Hid (∀ i, i < n → w.cell? ⟨blk, o + i, none⟩ = some (.int .u8 (a.getD i 0))) := hc
    have HBY : Hid (Byt a) := hby
    have hn0 : (0 : Int) < (n : Int) := by omega
    have hn1 : (1 : Int) < (n : Int) := by omega
    have HM : Hid (frm_m a = x0 % 128 * 128 + x1 % 128) := by show _ = _; unfold frm_m; rw [hxe0, hxe1, Int.toNat_natCast, Int.toNat_natCast]
    have HCM : Hid (cap ≤ maxLen) := hcm
    unfold maxLen at hcm
    by_cases q0 : (x0 : Int) < 128
    · have q0d : decide ((x0 : Int) < 128) = true := by simpa using q0
      have HF : Hid (frmB a = false) := frmB_no (fun hk => by have := hk.2.1; rw [hxe0] at this; omega)
      clear h hby hc hxe0 hxe1
      go_enter Tryd.func113, Tryd.ntmps113
      go_wp2
      refine bodyPost_ret (v := .tuple #[.agg #[.slice none 0 0], .int .i64 0]) (by simp [results, Tryd.results113, go_sem]) rfl ⟨⟨_, _, rfl, .inl ⟨HF.out, rfl, rfl⟩⟩, ?_⟩
      repeat (first | exact B0.out | refine Below.setCell ?_ (by simp; try omega) _)
    · have q0d : decide ((x0 : Int) < 128) = false := by simpa using q0
      by_cases q1 : (x1 : Int) < 128
      · have q1d : decide ((x1 : Int) < 128) = true := by simpa using q1
        have HF : Hid (frmB a = false) := frmB_no (fun hk => by have := hk.2.2.1; rw [hxe1] at this; omega)
        clear h hby hc hxe0 hxe1
        go_enter Tryd.func113, Tryd.ntmps113
        go_wp2
        refine bodyPost_ret (v := .tuple #[.agg #[.slice none 0 0], .int .i64 0]) (by simp [results, Tryd.results113, go_sem]) rfl ⟨⟨_, _, rfl, .inl ⟨HF.out, rfl, rfl⟩⟩, ?_⟩
        repeat (first | exact B0.out | refine Below.setCell ?_ (by simp; try omega) _)
      · have q1d : decide ((x1 : Int) < 128) = false := by simpa using q1
        have hand0 := u8_low7 x0 hx0
        have hand1 := u8_low7 x1 hx1
        have HOK : Hid (2 + frm_m a ≤ n → frm_p a ≠ [] → (frm_p a).length ≤ 2000 → frmB a = true) := fun k1 k2 k3 => (frmB_iff a).2 ⟨by rw [HL.out]; omega, by rw [hxe0]; omega, by rw [hxe1]; omega, by rw [HL.out]; exact k1, k2, k3⟩
        clear h hby hc hxe0 hxe1
        generalize hy0 : x0 % 128 = y0 at *
        generalize hy1 : x1 % 128 = y1 at *
        have hy0' : y0 < 128 := by omega
        have hy1' : y1 < 128 := by omega
        clear hy0 hy1
        go_enter Tryd.func113, Tryd.ntmps113
        go_wp2_with fail
        go_quiet (fail)
        by_cases hs : 2 + (y0 * 128 + y1) ≤ n
        · have hsI : ¬ (n : Int) < 2 + (y0 : Int) * 128 + (y1 : Int) := by omega
          have hsd : decide ((n : Int) < 2 + (y0 : Int) * 128 + (y1 : Int)) = false := by simpa using hsI
          by_cases hcp : cap = 2
          · have hcpd : (cap = 2) = True := by simp [hcp]
            clear hcpd
            have RS : Hid (Rd .u8 w (.slice (some ⟨blk, o, none⟩) (2 + y0 * 128 + y1 - 2) 0) ((a.drop 2).take (frm_m a))) := by
              have hz : y0 * 128 + y1 = 0 := by omega
              rw [HM.out, hz, show 2 + y0 * 128 + y1 - 2 = 0 by omega]
              exact ⟨_, 0, rfl, Nat.le_refl _, Nat.zero_le _, .inl (by simp)⟩
            go_wp2_with fail
            refine (implUnpack_any _ _ _ (RS.out.below (below_drewQ B0.out nq)) (byt_piece HBY.out 2 (frm_m a)) (by rw [List.length_take]; have := HM.out; omega)).mono ?_
            rintro e w2 ⟨u, rfl, o2, b2⟩
            have o2' : Own .u8 5 w2 _ u (frm_p a) := o2
            obtain ⟨ua, uc, rfl⟩ := Own.slice o2'
            have B2 : Hid (Below w.heap.size w w2) := (below_drewQ B0.out nq).trans (b2.mono (by show w.heap.size ≤ (w.alloc _).heap.size; simp))
            have O2 : Hid (Own .u8 5 w2 w.heap.size (.slice ua (frm_p a).length uc) (frm_p a)) := Own.mono o2' (by show w.heap.size ≤ (w.alloc _).heap.size; simp)
            have hul : (frm_p a).length ≤ maxLen := by obtain ⟨_, _, e, h1, h2⟩ := O2.out.rd.len; simp only [Value.slice.injEq] at e; omega
            unfold maxLen at hul
            have X2 : Hid (Box w2 w.heap.size (.slice none 0 0)) := (Box.drewN (Box.new w (.slice none 0 0) 111) nq).below b2
            have F2 : Hid (w2.frozen? ⟨w.heap.size, 0, none⟩ = false) := (b2.frozen (p := ⟨w.heap.size, 0, none⟩) (by show w.heap.size < (w.alloc _).heap.size; simp)).trans (by simp)
            have NB : Hid (Value.ownBlock (.slice ua (frm_p a).length uc) ≠ some w.heap.size) := fun e => by have := (Own.lt o2' _ e).1; have h' : (w.alloc (.cells #[.slice none 0 0] 111)).heap.size ≤ w.heap.size := this; rw [World.size_alloc] at h'; omega
            have HP : Hid (frm_p a ≠ [] ↔ (frm_p a).length ≠ 0) := by show _ ↔ _; cases frm_p a <;> simp
            have HS : Hid (((2 + frm_m a : Nat) : Int) = 2 + (y0 : Int) * 128 + (y1 : Int)) := by rw [HM.out]; show _ = _; omega
            have HIN : Hid (2 + frm_m a ≤ n) := by rw [HM.out]; show _ ≤ _; omega
            have HNO : Hid ((frm_p a).length = 0 ∨ 2000 < (frm_p a).length → frmB a = false) := fun hh => frmB_no (fun hk => by have h5 := HP.out.1 hk.2.2.2.2.1; have h6 := hk.2.2.2.2.2; omega)
            have HYES : Hid ((frm_p a).length ≠ 0 → (frm_p a).length ≤ 2000 → frmB a = true) := fun h5 h6 => HOK.out HIN.out (HP.out.2 h5) h6
            clear o2 o2' b2 RS HOK
            obtain ⟨z2, d0⟩ := X2.out
            have f0 : w2.frozen? ⟨w.heap.size, 0, none⟩ = false := F2.out
            generalize hp : frm_p a = p at *
            have HPE : Hid (frm_p a = p) := hp
            clear hp
            have YY : ∀ (u : Value) (o : Obj), ((w2.setCell ⟨w.heap.size, 0, none⟩ u).alloc o).cell? ⟨w.heap.size, 0, none⟩ = some u := fun u o => (box_alloc (box_set X2.out u) o).2
            by_cases l0 : p.length = 0
            · have l0I : (p.length : Int) = 0 := by omega
              have l0b : ((p.length : Int) == 0) = true := by simpa using l0I
              go_wp2
              refine bodyPost_ret (v := .tuple #[.agg #[.slice none 0 0], .int .i64 0]) (by simp [results, Tryd.results113, go_sem, YY]) rfl ⟨⟨_, _, rfl, .inl ⟨HNO.out (.inl l0), rfl, rfl⟩⟩, ?_⟩
              repeat (first | exact B2.out | exact B2.out.alloc B2.out.size _ | refine Below.setCell ?_ (by simp; try omega) _ | refine Below.alloc ?_ (by simp; try omega) _)
            · have l0I : ¬ (p.length : Int) = 0 := by omega
              have l0b : ((p.length : Int) == 0) = false := by simpa using l0I
              by_cases l2 : 2000 < p.length
              · have l2I : (2000 : Int) < (p.length : Int) := by omega
                have l2d : decide ((2000 : Int) < (p.length : Int)) = true := by simpa using l2I
                go_wp2
                refine bodyPost_ret (v := .tuple #[.agg #[.slice none 0 0], .int .i64 0]) (by simp [results, Tryd.results113, go_sem, YY]) rfl ⟨⟨_, _, rfl, .inl ⟨HNO.out (.inr l2), rfl, rfl⟩⟩, ?_⟩
                repeat (first | exact B2.out | exact B2.out.alloc B2.out.size _ | refine Below.setCell ?_ (by simp; try omega) _ | refine Below.alloc ?_ (by simp; try omega) _)
              · have l2I : ¬ (2000 : Int) < (p.length : Int) := by omega
                have l2d : decide ((2000 : Int) < (p.length : Int)) = false := by simpa using l2I
                go_wp2
                refine bodyPost_ret (v := .tuple #[.agg #[.slice ua p.length uc], .int .i64 (2 + (y0 : Int) * 128 + (y1 : Int))]) (by simp [results, Tryd.results113, go_sem, YY]) rfl ⟨⟨_, _, rfl, .inr ⟨HYES.out l0 (by omega), HS.out.symm, ?_⟩⟩, ?_⟩
                · rw [HPE.out]
                  repeat (first | exact O2.out | refine Own.setAt ?_ (.inr NB.out) | refine World.ownsRow.alloc ?_ _)
                · repeat (first | exact B2.out | exact B2.out.alloc B2.out.size _ | refine Below.setCell ?_ (by simp; try omega) _ | refine Below.alloc ?_ (by simp; try omega) _)
          · have RS : Hid (Rd .u8 w (.slice (some ⟨blk, o + 2, none⟩) (2 + y0 * 128 + y1 - 2) (cap - 2)) ((a.drop 2).take (frm_m a))) := by
              rw [HM.out, show 2 + y0 * 128 + y1 - 2 = y0 * 128 + y1 by omega]
              exact rd_piece hb HC.out HL.out 2 (y0 * 128 + y1) (by omega) hcap HCM.out
            go_wp2_with fail
            refine (implUnpack_any _ _ _ (RS.out.below (below_drewQ B0.out nq)) (byt_piece HBY.out 2 (frm_m a)) (by rw [List.length_take]; have := HM.out; omega)).mono ?_
            rintro e w2 ⟨u, rfl, o2, b2⟩
            have o2' : Own .u8 5 w2 _ u (frm_p a) := o2
            obtain ⟨ua, uc, rfl⟩ := Own.slice o2'
            have B2 : Hid (Below w.heap.size w w2) := (below_drewQ B0.out nq).trans (b2.mono (by show w.heap.size ≤ (w.alloc _).heap.size; simp))
            have O2 : Hid (Own .u8 5 w2 w.heap.size (.slice ua (frm_p a).length uc) (frm_p a)) := Own.mono o2' (by show w.heap.size ≤ (w.alloc _).heap.size; simp)
            have hul : (frm_p a).length ≤ maxLen := by obtain ⟨_, _, e, h1, h2⟩ := O2.out.rd.len; simp only [Value.slice.injEq] at e; omega
            unfold maxLen at hul
            have X2 : Hid (Box w2 w.heap.size (.slice none 0 0)) := (Box.drewN (Box.new w (.slice none 0 0) 111) nq).below b2
            have F2 : Hid (w2.frozen? ⟨w.heap.size, 0, none⟩ = false) := (b2.frozen (p := ⟨w.heap.size, 0, none⟩) (by show w.heap.size < (w.alloc _).heap.size; simp)).trans (by simp)
            have NB : Hid (Value.ownBlock (.slice ua (frm_p a).length uc) ≠ some w.heap.size) := fun e => by have := (Own.lt o2' _ e).1; have h' : (w.alloc (.cells #[.slice none 0 0] 111)).heap.size ≤ w.heap.size := this; rw [World.size_alloc] at h'; omega
            have HP : Hid (frm_p a ≠ [] ↔ (frm_p a).length ≠ 0) := by show _ ↔ _; cases frm_p a <;> simp
            have HS : Hid (((2 + frm_m a : Nat) : Int) = 2 + (y0 : Int) * 128 + (y1 : Int)) := by rw [HM.out]; show _ = _; omega
            have HIN : Hid (2 + frm_m a ≤ n) := by rw [HM.out]; show _ ≤ _; omega
            have HNO : Hid ((frm_p a).length = 0 ∨ 2000 < (frm_p a).length → frmB a = false) := fun hh => frmB_no (fun hk => by have h5 := HP.out.1 hk.2.2.2.2.1; have h6 := hk.2.2.2.2.2; omega)
            have HYES : Hid ((frm_p a).length ≠ 0 → (frm_p a).length ≤ 2000 → frmB a = true) := fun h5 h6 => HOK.out HIN.out (HP.out.2 h5) h6
            clear o2 o2' b2 RS HOK
            obtain ⟨z2, d0⟩ := X2.out
            have f0 : w2.frozen? ⟨w.heap.size, 0, none⟩ = false := F2.out
            generalize hp : frm_p a = p at *
            have HPE : Hid (frm_p a = p) := hp
            clear hp
            have YY : ∀ (u : Value) (o : Obj), ((w2.setCell ⟨w.heap.size, 0, none⟩ u).alloc o).cell? ⟨w.heap.size, 0, none⟩ = some u := fun u o => (box_alloc (box_set X2.out u) o).2
            by_cases l0 : p.length = 0
            · have l0I : (p.length : Int) = 0 := by omega
              have l0b : ((p.length : Int) == 0) = true := by simpa using l0I
              go_wp2
              refine bodyPost_ret (v := .tuple #[.agg #[.slice none 0 0], .int .i64 0]) (by simp [results, Tryd.results113, go_sem, YY]) rfl ⟨⟨_, _, rfl, .inl ⟨HNO.out (.inl l0), rfl, rfl⟩⟩, ?_⟩
              repeat (first | exact B2.out | exact B2.out.alloc B2.out.size _ | refine Below.setCell ?_ (by simp; try omega) _ | refine Below.alloc ?_ (by simp; try omega) _)
            · have l0I : ¬ (p.length : Int) = 0 := by omega
              have l0b : ((p.length : Int) == 0) = false := by simpa using l0I
              by_cases l2 : 2000 < p.length
              · have l2I : (2000 : Int) < (p.length : Int) := by omega
                have l2d : decide ((2000 : Int) < (p.length : Int)) = true := by simpa using l2I
                go_wp2
                refine bodyPost_ret (v := .tuple #[.agg #[.slice none 0 0], .int .i64 0]) (by simp [results, Tryd.results113, go_sem, YY]) rfl ⟨⟨_, _, rfl, .inl ⟨HNO.out (.inr l2), rfl, rfl⟩⟩, ?_⟩
                repeat (first | exact B2.out | exact B2.out.alloc B2.out.size _ | refine Below.setCell ?_ (by simp; try omega) _ | refine Below.alloc ?_ (by simp; try omega) _)
              · have l2I : ¬ (2000 : Int) < (p.length : Int) := by omega
                have l2d : decide ((2000 : Int) < (p.length : Int)) = false := by simpa using l2I
                go_wp2
                refine bodyPost_ret (v := .tuple #[.agg #[.slice ua p.length uc], .int .i64 (2 + (y0 : Int) * 128 + (y1 : Int))]) (by simp [results, Tryd.results113, go_sem, YY]) rfl ⟨⟨_, _, rfl, .inr ⟨HYES.out l0 (by omega), HS.out.symm, ?_⟩⟩, ?_⟩
                · rw [HPE.out]
                  repeat (first | exact O2.out | refine Own.setAt ?_ (.inr NB.out) | refine World.ownsRow.alloc ?_ _)
                · repeat (first | exact B2.out | exact B2.out.alloc B2.out.size _ | refine Below.setCell ?_ (by simp; try omega) _ | refine Below.alloc ?_ (by simp; try omega) _)
        · have hsI : (n : Int) < 2 + (y0 : Int) * 128 + (y1 : Int) := by omega
          have hsd : decide ((n : Int) < 2 + (y0 : Int) * 128 + (y1 : Int)) = true := by simpa using hsI
          have HF : Hid (frmB a = false) := frmB_no (fun hk => by have := hk.2.2.2.1; rw [HM.out, HL.out] at this; omega)
          go_wp2
          refine bodyPost_ret (v := .tuple #[.agg #[.slice none 0 0], .int .i64 0]) (by simp [results, Tryd.results113, go_sem]) rfl ⟨⟨_, _, rfl, .inl ⟨HF.out, rfl, rfl⟩⟩, ?_⟩
          repeat (first | exact B0.out | refine Below.setCell ?_ (by simp; try omega) _ | exact below_drewQ B0.out _)

end Go.Proofs.YtcopcegamadkgaaDoor

namespace Go.Proofs.YtcopcegamadkgaaDoor
open Go.RowKit

theorem OwnW.slice {e : TypeId} {w : World} {lo : Nat} {v : Value} {ps : List (Int × List Int)} {dv : Nat → Value} (h : OwnW e w lo v ps dv) : ∃ a c, v = .slice a ps.length c := by
  obtain ⟨a, c, h0, _⟩ := h.rd.len
  exact ⟨a, c, h0⟩

theorem OwnW.setBelow {e : TypeId} {w : World} {lo : Nat} {v : Value} {ps : List (Int × List Int)} {dv : Nat → Value} (h : OwnW e w lo v ps dv) {a : Addr} (ha : a.block < lo) (u : Value) : OwnW e (w.setCell a u) lo v ps dv :=
  ⟨ownsRow_setCell_below h.1 ha u, fun i hi => (h.2.1 i hi).setBelow ha u, h.2.2⟩


end Go.Proofs.YtcopcegamadkgaaDoor

namespace Go.Proofs.YtcopcegamadkgaaDoor
open Go.RowKit

/-- The cells of a slice of records. -/
def CellsW (w : World) (b o n : Nat) (ps : List (Int × List Int)) : Prop :=
  ∀ i, i < n → w.cell? ⟨b, o + i * 2, none⟩ = some (.int .i64 (pB ps i)) ∧ ∃ da c, w.cell? ⟨b, o + i * 2 + 1, none⟩ = some (.slice da (pD ps i).length c)

theorem RdW.cells {w : World} {ao : Option Addr} {n cap : Nat} {ps : List (Int × List Int)} (h : RdW w (.slice ao n cap) ps) (hn : 0 < n) : ∃ b o, ao = some ⟨b, o, none⟩ ∧ b < w.heap.size ∧ CellsW w b o n ps ∧ ps.length = n := by
  obtain ⟨ao', cap', e, h1, h2, h3⟩ := h
  simp only [Value.slice.injEq] at e
  obtain ⟨rfl, rfl, rfl⟩ := e
  rcases h3 with rfl | ⟨b, o, rfl, hb, hc⟩
  · simp at hn
  · exact ⟨b, o, rfl, hb, fun i hi => ⟨(hc i hi).1, by obtain ⟨da, c, h, _⟩ := (hc i hi).2; exact ⟨da, c, h⟩⟩, rfl⟩

theorem CellsW.below {w w' : World} {b o n : Nat} {ps : List (Int × List Int)} (h : CellsW w b o n ps) (hb : b < w.heap.size) (hB : Below w.heap.size w w') : CellsW w' b o n ps :=
  fun i hi => ⟨(hB.cell (p := ⟨b, _, none⟩) hb).trans (h i hi).1, by obtain ⟨da, c, e⟩ := (h i hi).2; exact ⟨da, c, (hB.cell (p := ⟨b, _, none⟩) hb).trans e⟩⟩




end Go.Proofs.YtcopcegamadkgaaDoor

namespace Go.Proofs.YtcopcegamadkgaaDoor
open Go.RowKit

/-- Only blocks from lo to hi may have turned. -/
structure Within (lo hi : Nat) (w w' : World) : Prop where
  os : w'.os = w.os
  tape : w'.tape = w.tape
  output : w'.output = w.output
  size : w.heap.size ≤ w'.heap.size
  block : ∀ k, k < w.heap.size → (k < lo ∨ hi ≤ k) → w'.heap[k]? = w.heap[k]?

theorem Within.refl (lo hi : Nat) (w : World) : Within lo hi w w := ⟨rfl, rfl, rfl, Nat.le_refl _, fun _ _ _ => rfl⟩
theorem Within.trans {lo hi : Nat} {a b c : World} (h : Within lo hi a b) (k : Within lo hi b c) : Within lo hi a c :=
  ⟨k.os.trans h.os, k.tape.trans h.tape, k.output.trans h.output, Nat.le_trans h.size k.size, fun i hi hj => (k.block i (Nat.lt_of_lt_of_le hi h.size) hj).trans (h.block i hi hj)⟩
theorem Within.of_grown {lo hi : Nat} {a b : World} {row : Option Nat} (h : a.grownBy b row) (hr : ∀ g, row = some g → lo ≤ g ∧ g < hi) : Within lo hi a b :=
  ⟨h.os, h.tape, h.output, h.size, fun k hk hj => h.block k hk (fun e => by have := hr k e.symm; omega)⟩
theorem Within.setCell {lo hi g : Nat} (w : World) (h1 : lo ≤ g) (h2 : g < hi) (j : Nat) (u : Value) : Within lo hi w (w.setCell ⟨g, j, none⟩ u) :=
  Within.of_grown (grownBy_set w w g j u (World.grownBy.refl _ _)) (fun q e => by injection e with e; omega)
theorem Within.below {lo hi B : Nat} {a b c : World} (hb : Below B a b) (h : Within lo hi b c) (hB : B ≤ lo) (hs : B ≤ b.heap.size) : Below B a c :=
  ⟨h.os.trans hb.os, h.tape.trans hb.tape, h.output.trans hb.output, Nat.le_trans hb.size h.size, fun k hk => (h.block k (by omega) (.inl (by omega))).trans (hb.block k hk)⟩
theorem Within.own {lo hi : Nat} {a b : World} (h : Within lo hi a b) {k : IntKind} {e : TypeId} {B : Nat} {v : Value} {xs : List Int} (ho : Own k e a B v xs) (hv : ∀ g, v.ownBlock = some g → g < lo ∨ hi ≤ g) : Own k e b B v xs := by
  refine ⟨ho.1, ?_⟩
  rcases ho.2 with hn | ⟨g, cap, cur, rfl, hbg, hgg, rest⟩
  · exact .inl hn
  · exact .inr ⟨g, cap, cur, rfl, hbg, by rw [h.block g (Array.getElem?_eq_some_iff.1 hgg).1 (hv g rfl)]; exact hgg, rest⟩
/-- A disk of the call's own: its bytes in blocks from lo to mid, its records from mid to hi. -/
structure OwnD (w : World) (lo hi : Nat) (vd vp : Value) (dur : List Int) (ps : List (Int × List Int)) (dv : Nat → Value) : Prop where
  d : Own .u8 5 w lo vd dur
  p : OwnW 131 w lo vp ps dv
  dlt : ∀ g, vd.ownBlock = some g → g < hi
  plt : ∀ g, vp.ownBlock = some g → g < hi
  qlt : ∀ i, i < ps.length → ∀ g, (dv i).ownBlock = some g → g < hi
  dp : Ne2 vp vd
  dq : ∀ i, i < ps.length → Ne2 (dv i) vd

theorem OwnD.below {w w' : World} {lo hi : Nat} {vd vp : Value} {dur : List Int} {ps : List (Int × List Int)} {dv : Nat → Value} (ho : OwnD w lo hi vd vp dur ps dv) (hb : Below w.heap.size w w') : OwnD w' lo hi vd vp dur ps dv :=
  ⟨ho.d.below hb, ho.p.below hb, ho.dlt, ho.plt, ho.qlt, ho.dp, ho.dq⟩

end Go.Proofs.YtcopcegamadkgaaDoor

namespace Go.Proofs.YtcopcegamadkgaaDoor
open Go.RowKit

def pR (rs : List (List Int)) (i : Nat) : List Int := rs.getD i []
def uV (us : List Value) (i : Nat) : Value := us.getD i (.slice none 0 0)

/-- A slice of payloads, as it is read. -/
def RdP (w : World) (v : Value) (rs : List (List Int)) : Prop :=
  ∃ ao cap, v = .slice ao rs.length cap ∧ rs.length ≤ cap ∧ cap ≤ maxLen ∧
    (rs = [] ∨ ∃ b off, ao = some ⟨b, off, none⟩ ∧ b < w.heap.size ∧ ∀ i, i < rs.length →
      ∃ da c, w.cell? ⟨b, off + i, none⟩ = some (.slice da (pR rs i).length c) ∧ Rd .u8 w (.slice da (pR rs i).length c) (pR rs i))

theorem RdP.len {w : World} {v : Value} {rs : List (List Int)} (h : RdP w v rs) : ∃ ao cap, v = .slice ao rs.length cap ∧ rs.length ≤ cap ∧ cap ≤ maxLen := by
  obtain ⟨ao, cap, h0, h1, h2, _⟩ := h
  exact ⟨ao, cap, h0, h1, h2⟩

theorem RdP.below {w w' : World} {v : Value} {rs : List (List Int)} (h : RdP w v rs) (hb : Below w.heap.size w w') : RdP w' v rs := by
  obtain ⟨ao, cap, rfl, h1, h2, h3⟩ := h
  refine ⟨ao, cap, rfl, h1, h2, ?_⟩
  rcases h3 with h3 | ⟨b, off, rfl, hlt, hc⟩
  · exact .inl h3
  · refine .inr ⟨b, off, rfl, Nat.lt_of_lt_of_le hlt hb.size, fun i hi => ?_⟩
    obtain ⟨da, c, c2, r⟩ := hc i hi
    exact ⟨da, c, (hb.cell (p := ⟨b, off + i, none⟩) hlt).trans c2, r.below hb⟩

/-- A slice of payloads of the call's own, each payload in a row of its own. -/
def OwnP (w : World) (lo : Nat) (v : Value) (rs : List (List Int)) (us : List Value) : Prop :=
  w.ownsRow lo 111 1 v rs.length us ∧ (∀ i, i < rs.length → Own .u8 5 w lo (uV us i) (pR rs i)) ∧
  (∀ i j, i < rs.length → j < rs.length → i ≠ j → Ne2 (uV us i) (uV us j)) ∧ ∀ i, i < rs.length → Ne2 (uV us i) v

theorem OwnP.len {w : World} {lo : Nat} {v : Value} {rs : List (List Int)} {us : List Value} (h : OwnP w lo v rs us) : us.length = rs.length := by have := h.1.1; omega

theorem uV_get {us : List Value} {i : Nat} (h : i < us.length) : us[i]? = some (uV us i) := by unfold uV; simp [List.getD, h]

theorem OwnP.cell {w : World} {lo g n cap : Nat} {rs : List (List Int)} {us : List Value} (h : OwnP w lo (.slice (some ⟨g, 0, none⟩) n cap) rs us) (i : Nat) (hi : i < rs.length) : w.cell? ⟨g, i, none⟩ = some (uV us i) := by
  have e : n = rs.length := by
    rcases h.1.2 with ⟨h', _⟩ | ⟨g', c', cur, h', _⟩
    · simp at h'
    · simp only [Value.slice.injEq] at h'; exact h'.2.1
  have h1 := h.1
  subst e
  exact (World.ownsRow.cellAt h1 i (by omega)).trans (uV_get (by rw [h.len]; exact hi))

theorem OwnP.rd {w : World} {lo : Nat} {v : Value} {rs : List (List Int)} {us : List Value} (h : OwnP w lo v rs us) : RdP w v rs := by
  rcases h.1.2 with ⟨rfl, h0⟩ | ⟨g, cap, cur, rfl, hb, hg, hn, hm, hs, ht⟩
  · have : rs = [] := List.eq_nil_of_length_eq_zero h0
    subst this
    exact ⟨none, 0, rfl, Nat.le_refl _, Nat.zero_le _, .inl rfl⟩
  · refine ⟨_, cap, rfl, hn, hm, .inr ⟨g, 0, rfl, (Array.getElem?_eq_some_iff.1 hg).1, fun i hi => ?_⟩⟩
    have c1 := h.cell i hi
    have o1 := h.2.1 i hi
    obtain ⟨da, c, e⟩ := Own.slice o1
    rw [e] at c1 o1
    exact ⟨da, c, by rw [Nat.zero_add]; exact c1, o1.rd⟩

theorem ownsRow_below {w w' : World} {lo n z : Nat} {e : TypeId} {v : Value} {us : List Value} (ho : w.ownsRow lo e z v n us) (hb : Below w.heap.size w w') : w'.ownsRow lo e z v n us := by
  refine ⟨ho.1, ?_⟩
  rcases ho.2 with hn | ⟨g, cap, cur, rfl, hbg, hgg, rest⟩
  · exact .inl hn
  · exact .inr ⟨g, cap, cur, rfl, hbg, by rw [hb.block g (Array.getElem?_eq_some_iff.1 hgg).1]; exact hgg, rest⟩

theorem OwnP.below {w w' : World} {lo : Nat} {v : Value} {rs : List (List Int)} {us : List Value} (h : OwnP w lo v rs us) (hb : Below w.heap.size w w') : OwnP w' lo v rs us :=
  ⟨ownsRow_below h.1 hb, fun i hi => (h.2.1 i hi).below hb, h.2.2⟩

theorem OwnP.slice {w : World} {lo : Nat} {v : Value} {rs : List (List Int)} {us : List Value} (h : OwnP w lo v rs us) : ∃ a c, v = .slice a rs.length c := by
  obtain ⟨a, c, h0, _⟩ := h.rd.len
  exact ⟨a, c, h0⟩

/-- All its blocks lie below hi. -/
def LtP (hi : Nat) (v : Value) (rs : List (List Int)) (us : List Value) : Prop := (∀ g, v.ownBlock = some g → g < hi) ∧ ∀ i, i < rs.length → ∀ g, (uV us i).ownBlock = some g → g < hi
theorem OwnP.lt {w : World} {lo : Nat} {v : Value} {rs : List (List Int)} {us : List Value} (h : OwnP w lo v rs us) : LtP w.heap.size v rs us :=
  ⟨fun g e => (World.ownsRow.lt h.1 g e).2, fun i hi g e => ((h.2.1 i hi).lt g e).2⟩

end Go.Proofs.YtcopcegamadkgaaDoor

namespace Go.Proofs.YtcopcegamadkgaaDoor
open Go.RowKit Go.Shelf

attribute [local go_sem] Oper.semAt_some

set_option maxHeartbeats 400000 in
theorem frames_in (F : Fence) (n : Nat) (h87 : F.fn 74) (hro : F.round = none) (ao : Option Addr) (m cap : Nat) (w : World) :
    CallsIn F n Tryd.prog 74 #[.slice ao m cap] w fun e w' => e = .returned (.func (.func 112) #[] #[.pointer (some ⟨w.heap.size, 0, none⟩)]) ∧ w' = w.alloc (.cells #[.slice ao m cap] 24) := by
  refine callsIn_of_wp Tryd.func74 rfl h87 ?_ hro
  simp only [Tryd.ntmps74, List.size_toArray, List.length_cons, List.length_nil, Nat.reduceAdd, Nat.reduceSub, Array.replicate_succ, Array.replicate_zero, List.push_toArray, List.append_toArray, List.nil_append, List.cons_append]
  gi_wp2
  go_ret
  exact ⟨rfl, rfl⟩

/-- The payload among what is handed on. -/
def uOf (vs : Array Value) : Value := match (vs.getD 1 (.slice none 0 0) : Value) with
  | Value.agg us => us.getD 0 (.slice none 0 0)
  | _ => .slice none 0 0

/-- What the iterator hands on behind the payloads s. -/
def PreS (R : List (List Int × Nat)) (St : List Value → World → Prop) (s : List Value) (vs : Array Value) (W : World) : Prop :=
  ∃ u W0, vs = #[.int .i64 ((pos R (s.length + 1) : Nat) : Int), .agg #[u]] ∧ s.length < R.length ∧ St s W0 ∧ Below W0.heap.size W0 W ∧ Own .u8 5 W W0.heap.size u (R.getD s.length ([], 0)).1

theorem rd_cutN {w : World} {ao : Option Addr} {n cap : Nat} {a : List Int} (h : Rd .u8 w (.slice ao n cap) a) (hl : a.length = n) (blk o : Nat) (he : ao = some ⟨blk, o, none⟩) (p : Nat) (hp : p ≤ n) : Rd .u8 w (.slice (some ⟨blk, o + p, none⟩) (n - p) (cap - p)) (a.drop p) := by
  obtain ⟨ao', cap', e, h1, h2, h3⟩ := h
  simp only [Value.slice.injEq] at e
  obtain ⟨rfl, hn, rfl⟩ := e
  have hlen : (a.drop p).length = n - p := by rw [List.length_drop]; omega
  refine ⟨_, cap - p, by rw [hlen], by omega, by omega, ?_⟩
  rcases h3 with rfl | ⟨b, o', e2, hb, hc⟩
  · exact .inl (by simp)
  · rw [he] at e2
    simp only [Option.some.injEq, Addr.mk.injEq, and_true] at e2
    obtain ⟨rfl, rfl⟩ := e2
    refine .inr ⟨blk, o + p, rfl, hb, fun j hj => ?_⟩
    rw [hlen] at hj
    have := hc (p + j) (by omega)
    rw [Nat.add_assoc, this]
    simp [List.getD, List.getElem?_drop]

theorem rd_empty (w : World) (ao : Option Addr) (cap : Nat) (hc : cap ≤ maxLen) : Rd .u8 w (.slice ao 0 cap) [] := ⟨ao, cap, rfl, Nat.zero_le _, hc, .inl rfl⟩

end Go.Proofs.YtcopcegamadkgaaDoor

namespace Go.Proofs.YtcopcegamadkgaaDoor
open Go.RowKit

/-- A local struct of two cells that may be written. -/
def BoxF (w : World) (b : Nat) (x y : Value) : Prop := Box2 w b x y ∧ w.frozen? ⟨b, 0, none⟩ = false ∧ w.frozen? ⟨b, 1, none⟩ = false
theorem BoxF.below {w w' : World} {b : Nat} {x y : Value} (h : BoxF w b x y) (hb : Below w.heap.size w w') : BoxF w' b x y :=
  ⟨h.1.below hb, (hb.frozen (p := ⟨b, 0, none⟩) h.1.1).trans h.2.1, (hb.frozen (p := ⟨b, 1, none⟩) h.1.1).trans h.2.2⟩
theorem BoxF.new (w : World) (x y : Value) (t : TypeId) : BoxF (w.alloc (.cells #[x, y] t)) w.heap.size x y := ⟨Box2.new _ _ _ _, by simp, by simp⟩
theorem BoxF.belowB {w w' : World} {b B : Nat} {x y : Value} (h : BoxF w b x y) (hb : Below B w w') (hB : b < B) : BoxF w' b x y :=
  ⟨⟨Nat.lt_of_lt_of_le h.1.1 hb.size, (hb.cell (p := ⟨b, 0, none⟩) hB).trans h.1.2.1, (hb.cell (p := ⟨b, 1, none⟩) hB).trans h.1.2.2⟩, (hb.frozen (p := ⟨b, 0, none⟩) hB).trans h.2.1, (hb.frozen (p := ⟨b, 1, none⟩) hB).trans h.2.2⟩

/-- What the rounds of a copy have made so far. -/
def Made (w : World) (lo g k cap : Nat) (ps : List (Int × List Int)) (dv : Nat → Value) : Prop :=
  w.ownsRow lo 131 2 (.slice (some ⟨g, 0, none⟩) k cap) k (rowW k (pB ps) dv) ∧ (∀ i, i < k → Own .u8 5 w (g + 1) (dv i) (pD ps i)) ∧ (∀ i j, i < k → j < k → i ≠ j → Ne2 (dv i) (dv j))

theorem Made.below {w w' : World} {lo g k cap : Nat} {ps : List (Int × List Int)} {dv : Nat → Value} (h : Made w lo g k cap ps dv) (hb : Below w.heap.size w w') : Made w' lo g k cap ps dv :=
  ⟨World.ownsRow.kept h.1 (row := none) ⟨hb.os, hb.tape, hb.output, hb.size, fun q hq _ => hb.block q hq⟩ (.inr (by simp [Value.ownBlock])), fun i hi => (h.2.1 i hi).below hb, h.2.2⟩

theorem OwnD.mono {w : World} {lo lo' hi hi' : Nat} {vd vp : Value} {dur : List Int} {ps : List (Int × List Int)} {dv : Nat → Value} (ho : OwnD w lo hi vd vp dur ps dv) (hl : lo' ≤ lo) (hh : hi ≤ hi') : OwnD w lo' hi' vd vp dur ps dv :=
  ⟨ho.d.mono hl, ho.p.mono hl, fun g hg => Nat.lt_of_lt_of_le (ho.dlt g hg) hh, fun g hg => Nat.lt_of_lt_of_le (ho.plt g hg) hh, fun i hi g hg => Nat.lt_of_lt_of_le (ho.qlt i hi g hg) hh, ho.dp, ho.dq⟩

end Go.Proofs.YtcopcegamadkgaaDoor

namespace Go.Proofs.YtcopcegamadkgaaDoor
open Go.RowKit

theorem Own.spot {w : World} {base g n cap j : Nat} {xs : List Int} (h : Own .u8 5 w base (.slice (some ⟨g, 0, none⟩) n cap) xs) (hn : xs.length = n) (hj : j < n) : (∃ c, w.cell? ⟨g, j, none⟩ = some c) ∧ w.frozen? ⟨g, j, none⟩ = false := by
  unfold Own at h
  rw [hn] at h
  exact ⟨⟨_, (World.ownsRow.cellAt h j (by omega)).trans (List.getElem?_eq_getElem (by simpa [hn] using hj))⟩, World.ownsRow.frozenAt h j⟩

theorem Own.pos {w : World} {base n : Nat} {v : Value} {xs : List Int} (h : Own .u8 5 w base v xs) (hn : xs.length = n) (h0 : 0 < n) : ∃ g cap, v = .slice (some ⟨g, 0, none⟩) n cap ∧ base ≤ g ∧ g < w.heap.size := by
  subst hn
  rcases h.2 with ⟨-, h1⟩ | ⟨g, cap, cur, rfl, hb, hg, -⟩
  · omega
  · exact ⟨g, cap, rfl, hb, (Array.getElem?_eq_some_iff.1 hg).1⟩

theorem Rd.cellAt {k : IntKind} {w : World} {ao : Option Addr} {n cap i : Nat} {xs : List Int} (h : Rd k w (.slice ao n cap) xs) (hl : xs.length = n) (hi : i < n) : ∃ b o, ao = some ⟨b, o, none⟩ ∧ b < w.heap.size ∧ w.cell? ⟨b, o + i, none⟩ = some (.int k (xs.getD i 0)) := by
  obtain ⟨ao', cap', e, h1, h2, h3⟩ := h
  simp only [Value.slice.injEq] at e
  obtain ⟨rfl, _, rfl⟩ := e
  rcases h3 with rfl | ⟨b, o, rfl, hb, hc⟩
  · simp at hl; omega
  · exact ⟨b, o, rfl, hb, hc i (by omega)⟩

theorem BoxF.other {w w' : World} {b : Nat} {x y : Value} {row : Option Nat} (h : BoxF w b x y) (hg : w.grownBy w' row) (hne : some b ≠ row) : BoxF w' b x y :=
  ⟨h.1.other hg hne, (hg.frozen_far ⟨b, 0, none⟩ h.1.1 hne).trans h.2.1, (hg.frozen_far ⟨b, 1, none⟩ h.1.1 hne).trans h.2.2⟩


end Go.Proofs.YtcopcegamadkgaaDoor

namespace Go.Proofs.YtcopcegamadkgaaDoor
open Go.RowKit Go.Shelf

attribute [local go_sem] Oper.semAt_some

theorem Tryd.infoP : (Tryd.prog.info? 111).map (fun i => (i.zero, i.size, i.bytes)) = some (some (.agg #[.slice none 0 0]), 1, 24) := by kernel_rfl

theorem ownsRow_notCells {W W' : World} {row : Option Nat} {lo n z : Nat} {e : TypeId} {v : Value} {xs : List Value} (h : W.ownsRow lo e z v n xs) (hg : W.grownBy W' row) (hr : ∀ r, row = some r → ∃ o : Obj, W.heap[r]? = some o ∧ o.isCells = false) : W'.ownsRow lo e z v n xs := by
  refine ⟨h.1, ?_⟩
  rcases h.2 with hn | ⟨g, cap, cur, rfl, hbg, hgg, rest⟩
  · exact .inl hn
  · refine .inr ⟨g, cap, cur, rfl, hbg, ?_, rest⟩
    rw [hg.block g (Array.getElem?_eq_some_iff.1 hgg).1 (fun e => by obtain ⟨o, ho, hc⟩ := hr g e.symm; rw [hgg] at ho; injection ho with ho; rw [← ho] at hc; cases hc)]
    exact hgg

theorem OwnP.notCells {W W' : World} {row : Option Nat} {lo : Nat} {v : Value} {rs : List (List Int)} {us : List Value} (h : OwnP W lo v rs us) (hg : W.grownBy W' row) (hr : ∀ r, row = some r → ∃ o : Obj, W.heap[r]? = some o ∧ o.isCells = false) : OwnP W' lo v rs us :=
  ⟨ownsRow_notCells h.1 hg hr, fun i hi => ownsRow_notCells (h.2.1 i hi) hg hr, h.2.2⟩

theorem OwnP.mono {w : World} {lo lo' : Nat} {v : Value} {rs : List (List Int)} {us : List Value} (h : OwnP w lo v rs us) (hl : lo' ≤ lo) : OwnP w lo' v rs us := by
  refine ⟨⟨h.1.1, ?_⟩, fun i hi => (h.2.1 i hi).mono hl, h.2.2⟩
  rcases h.1.2 with hn | ⟨g, cap, cur, rfl, hbg, rest⟩
  · exact .inl hn
  · exact .inr ⟨g, cap, cur, rfl, Nat.le_trans hl hbg, rest⟩

/-- The scan under way: its payloads s, in the slice v. -/
structure StV (w : World) (ao : Option Addr) (n cap : Nat) (R : List (List Int × Nat)) (s : List Value) (v : Value) (W : World) : Prop where
  le : s.length ≤ R.length
  own : OwnP W (w.heap.size + 3) v ((R.map (·.1)).take s.length) s
  scan : BoxF W (w.heap.size + 1) v (.int .i64 ((pos R s.length : Nat) : Int))
  res : BoxF W w.heap.size (.slice none 0 0) (.int .i64 0)
  area : Boxed W (w.heap.size + 2) 24 (.slice ao n cap)
  below : Below w.heap.size w W
  size : w.heap.size + 3 ≤ W.heap.size

theorem StV.later {w : World} {ao : Option Addr} {n cap : Nat} {R : List (List Int × Nat)} {s : List Value} {v : Value} {X Y : World} (h : StV w ao n cap R s v X) (hb : Below X.heap.size X Y) : StV w ao n cap R s v Y :=
  ⟨h.le, h.own.below hb, h.scan.below hb, h.res.below hb, (hb.block _ (by have := h.size; omega)).trans h.area, h.below.trans (hb.mono (by have := h.size; omega)), Nat.le_trans h.size hb.size⟩

theorem StV.notCells {w : World} {ao : Option Addr} {n cap : Nat} {R : List (List Int × Nat)} {s : List Value} {v : Value} {X Y : World} {row : Option Nat} (h : StV w ao n cap R s v X) (hg : X.grownBy Y row) (hr : ∀ r, row = some r → w.heap.size + 3 ≤ r ∧ ∃ o : Obj, X.heap[r]? = some o ∧ o.isCells = false) : StV w ao n cap R s v Y :=
  ⟨h.le, h.own.notCells hg (fun r e => (hr r e).2), h.scan.other hg (fun e => by have := (hr _ e.symm).1; omega), h.res.other hg (fun e => by have := (hr _ e.symm).1; omega),
   (hg.block _ (by have := h.size; omega) (fun e => by have := (hr _ e.symm).1; omega)).trans h.area, h.below.grown hg (by have := h.size; omega) (fun q e => by have := (hr q e).1; omega), Nat.le_trans h.size hg.size⟩

theorem below_keeps {B : Nat} {X Y : World} (h : Below X.heap.size X Y) : KeepsFrom B X Y := ⟨h.size, fun k _ _ hk _ => (h.block k (Array.getElem?_eq_some_iff.1 hk).1).trans hk⟩

theorem ne_by_type {w : World} {lo lo' n : Nat} {u v : Value} {xs : List Int} {us : List Value} (ho : Own .u8 5 w lo u xs) (hv : w.ownsRow lo' 111 1 v n us) : Ne2 u v := by
  rcases ho.2 with ⟨rfl, -⟩ | ⟨g, cap, cur, rfl, -, hg, -⟩
  · exact .inl rfl
  · refine .inr ?_
    rcases hv.2 with ⟨rfl, -⟩ | ⟨g', cap', cur', rfl, -, hg', -⟩
    · simp [Value.ownBlock]
    · intro e
      simp only [Value.ownBlock, Option.some.injEq] at e
      subst e
      rw [hg] at hg'
      injection hg' with hg'
      injection hg' with h1 h2
      cases h2

theorem keeps_row {B : Nat} {X Y : World} {lo n z : Nat} {e : TypeId} {v : Value} {xs : List Value} (h : X.ownsRow lo e z v n xs) (hg : X.grownBy Y v.ownBlock) : KeepsFrom B X Y := by
  refine ⟨hg.size, fun k o _ hk ho => (hg.block k (Array.getElem?_eq_some_iff.1 hk).1 (fun e => ?_)).trans hk⟩
  rcases h.2 with ⟨rfl, -⟩ | ⟨g, cap, cur, rfl, -, hgg, -⟩
  · cases e
  · simp only [Value.ownBlock, Option.some.injEq] at e
    subst e
    rw [hgg] at hk
    injection hk with hk
    rw [← hk] at ho; cases ho

theorem uV_left {s : List Value} {u : Value} {i : Nat} (h : i < s.length) : uV (s ++ [u]) i = uV s i := by unfold uV; simp [List.getD, List.getElem?_append_left h]
theorem uV_last {s : List Value} {u : Value} : uV (s ++ [u]) s.length = u := by unfold uV; simp [List.getD]
theorem pR_take {rs : List (List Int)} {m i : Nat} (h : i < m) : pR (rs.take m) i = pR rs i := by unfold pR; simp [List.getD, List.getElem?_take_of_lt h]

theorem scn_len : ∀ (f : Nat) (a : List Int), (scn f a).length ≤ f
  | 0, a => by simp [scn]
  | f + 1, a => by
    unfold scn
    split
    · have := scn_len f (a.drop (2 + frm_m a)); simp; omega
    · simp

theorem gset (w : World) (B j : Nat) (u : Value) : w.grownBy (w.setCell ⟨B, j, none⟩ u) (some B) := ⟨rfl, rfl, rfl, by simp, fun k _ hne => Below.heap_setCell _ _ _ _ (fun e => hne (by rw [e]))⟩

theorem StV.step {w : World} {ao : Option Addr} {n cap : Nat} {R : List (List Int × Nat)} {s : List Value} {V : Value} {W : World} (hS : StV w ao n cap R s V W) (hlt : s.length < R.length) {u : Value} {hi : Nat} (hL : LtP hi V ((R.map (·.1)).take s.length) s) (hhi : w.heap.size + 3 ≤ hi)
    (ho : Own .u8 5 W hi u (pR (R.map (·.1)) s.length)) {o : Obj} {v2 : Value} {w2 : World} (ho2 : w2.ownsRow (w.heap.size + 3) 111 1 v2 (s.length + 1) (s ++ [u])) (hg2 : (W.alloc o).grownBy w2 V.ownBlock) :
    KeepsFrom (w.heap.size + 3) W ((w2.setCell ⟨w.heap.size + 1, 0, none⟩ v2).setCell ⟨w.heap.size + 1, 1, none⟩ (.int .i64 ((pos R (s.length + 1) : Nat) : Int))) ∧
    StV w ao n cap R (s ++ [u]) v2 ((w2.setCell ⟨w.heap.size + 1, 0, none⟩ v2).setCell ⟨w.heap.size + 1, 1, none⟩ (.int .i64 ((pos R (s.length + 1) : Nat) : Int))) := by
  have hbA : Below W.heap.size W (W.alloc o) := (Below.refl _ _).alloc (Nat.le_refl _) _
  have hlen : ((R.map (·.1)).take s.length).length = s.length := by rw [List.length_take, List.length_map]; omega
  have hlen2 : ((R.map (·.1)).take (s.length + 1)).length = s.length + 1 := by rw [List.length_take, List.length_map]; omega
  have hsA := hS.later hbA
  have hV : ∀ g, V.ownBlock = some g → w.heap.size + 3 ≤ g := fun g e => (World.ownsRow.lt hS.own.1 g e).1
  have hz := hS.size
  have hz2 := hg2.size
  have hz3 := hbA.size
  have oS : ∀ i, i < s.length → Own .u8 5 w2 (w.heap.size + 3) (uV s i) (pR (R.map (·.1)) i) := fun i hi' => by
    have h1 := hsA.own.2.1 i (by rw [hlen]; exact hi')
    rw [pR_take hi'] at h1
    exact h1.other hg2 (hS.own.2.2.2 i (by rw [hlen]; exact hi'))
  have oU : Own .u8 5 w2 hi u (pR (R.map (·.1)) s.length) := (ho.below hbA).other hg2 (by
    cases e : u.ownBlock with
    | none => exact .inl rfl
    | some g => exact .inr (fun e2 => by have h1 := (ho.lt g e).1; have h2 := hL.1 g (by rw [← e2]); omega))
  have sc : BoxF w2 (w.heap.size + 1) V (.int .i64 ((pos R s.length : Nat) : Int)) := hsA.scan.other hg2 (fun e => by have := hV _ e.symm; omega)
  have rs : BoxF w2 w.heap.size (.slice none 0 0) (.int .i64 0) := hsA.res.other hg2 (fun e => by have := hV _ e.symm; omega)
  have ar : w2.heap[w.heap.size + 2]? = (W.alloc o).heap[w.heap.size + 2]? := hg2.block _ (by omega) (fun e => by have := hV _ e.symm; omega)
  have bl : Below w.heap.size w w2 := hsA.below.grown hg2 (by omega) (fun q e => by have := hV q e; omega)
  refine ⟨((below_keeps hbA).trans (keeps_row hsA.own.1 hg2)).trans (((KeepsOthers.setCell _ _ _).from _).trans ((KeepsOthers.setCell _ _ _).from _)), ?_⟩
  refine ⟨by rw [List.length_append]; exact hlt, ?_, ?_, ?_, ?_, (bl.setCell (by simp) _).setCell (by simp) _, by simp; omega⟩
  · rw [show (s ++ [u]).length = s.length + 1 by simp]
    refine ⟨?_, fun i hi' => ?_, fun i j hi' hj' hne => ?_, fun i hi' => ?_⟩
    · rw [hlen2]
      exact ownsRow_setCell_below (ownsRow_setCell_below ho2 (by show w.heap.size + 1 < _; omega) _) (by show w.heap.size + 1 < _; omega) _
    · rw [hlen2] at hi'
      rw [pR_take hi']
      by_cases e : i < s.length
      · rw [uV_left e]
        exact ((oS i e).setBelow (by show w.heap.size + 1 < _; omega) _).setBelow (by show w.heap.size + 1 < _; omega) _
      · have e' : i = s.length := by omega
        subst e'
        rw [uV_last]
        exact (((oU.mono hhi).setBelow (by show w.heap.size + 1 < _; omega) _)).setBelow (by show w.heap.size + 1 < _; omega) _
    · rw [hlen2] at hi' hj'
      by_cases e : i < s.length
      · by_cases e2 : j < s.length
        · rw [uV_left e, uV_left e2]
          exact hS.own.2.2.1 i j (by rw [hlen]; exact e) (by rw [hlen]; exact e2) hne
        · have e2' : j = s.length := by omega
          subst e2'
          rw [uV_left e, uV_last]
          cases q : (uV s i).ownBlock with
          | none => exact .inl q
          | some g => exact .inr (fun e3 => by have h1 := hL.2 i (by rw [hlen]; exact e) g q; have h2 := (ho.lt g (by rw [← e3]; exact q)).1; omega)
      · have e' : i = s.length := by omega
        subst e'
        have e2 : j < s.length := by omega
        rw [uV_left e2, uV_last]
        cases q : u.ownBlock with
        | none => exact .inl q
        | some g => exact .inr (fun e3 => by have h1 := hL.2 j (by rw [hlen]; exact e2) g (by rw [← e3]; exact q); have h2 := (ho.lt g q).1; omega)
    · rw [hlen2] at hi'
      by_cases e : i < s.length
      · rw [uV_left e]; exact ne_by_type (oS i e) ho2
      · have e' : i = s.length := by omega
        subst e'
        rw [uV_last]; exact ne_by_type oU ho2
  · rw [show (s ++ [u]).length = s.length + 1 by simp]
    obtain ⟨⟨z, d0, d1⟩, f0, f1⟩ := sc
    refine ⟨⟨by simpa using z, ?_, ?_⟩, ?_, ?_⟩
    · rw [World.cell?_setCell_other _ _ _ _ (by simp)]; exact World.cell?_setCell_same _ _ _ d0
    · exact World.cell?_setCell_same _ _ _ (by rw [World.cell?_setCell_other _ _ _ _ (by simp)]; exact d1)
    · simpa using f0
    · simpa using f1
  · exact (rs.other (gset w2 (w.heap.size + 1) 0 v2) (by simp)).other (gset _ (w.heap.size + 1) 1 _) (by simp)
  · show _ = _
    rw [Below.heap_setCell _ _ _ _ (by simp), Below.heap_setCell _ _ _ _ (by simp), ar]
    exact hsA.area

end Go.Proofs.YtcopcegamadkgaaDoor

namespace Go.Proofs.YtcopcegamadkgaaDoor
open Go.RowKit

theorem scn_no {a : List Int} (h : frmB a = false) (f : Nat) : scn f a = [] := by
  cases f with
  | zero => rfl
  | succ f => unfold scn; rw [h]; simp
theorem scn_yes {a : List Int} (h : frmB a = true) (f : Nat) : scn (f + 1) a = (frm_p a, 2 + frm_m a) :: scn f (a.drop (2 + frm_m a)) := by
  conv => lhs; unfold scn
  rw [h]; simp

def ScanPost (w : World) (f : Nat) (a : List Int) (e : Ending) (w' : World) : Prop := ∃ v us, e = .returned (.agg #[v, .int .i64 ((pos (scn f a) (scn f a).length : Nat) : Int)]) ∧ OwnP w' w.heap.size v ((scn f a).map (·.1)) us ∧ Below w.heap.size w w'

theorem scn_short : ∀ (f : Nat) (a : List Int), a.length ≤ f → (scn f a).length ≤ a.length
  | 0, a, _ => by simp [scn]
  | f + 1, a, h => by
    cases e : frmB a with
    | false => rw [scn_no e]; simp
    | true =>
      obtain ⟨k1, k2, k3, k4, -⟩ := (frmB_iff a).1 e
      have := scn_short f (a.drop (2 + frm_m a)) (by rw [List.length_drop]; omega)
      rw [List.length_drop] at this
      rw [scn_yes e, List.length_cons]; omega

theorem scan_none {w w' : World} {f : Nat} {a : List Int} (hno : frmB a = false) (hb : Below w.heap.size w w') : ScanPost w f a (.returned (.agg #[.slice none 0 0, .int .i64 0])) w' := by
  unfold ScanPost
  rw [scn_no hno f]
  exact ⟨_, [], rfl, ⟨World.ownsRow_nil _ _ _ _, fun i hi => by simp at hi, fun i j hi => by simp at hi, fun i hi => by simp at hi⟩, hb⟩

theorem ScanPost.alloc {w w' : World} {f : Nat} {a : List Int} {e : Ending} (h : ScanPost w f a e w') (o : Obj) : ScanPost w f a e (w'.alloc o) := by
  obtain ⟨v, us, h1, h2, h3⟩ := h
  exact ⟨v, us, h1, h2.below ((Below.refl _ _).alloc (Nat.le_refl _) _), h3.alloc h3.size _⟩

theorem ne_type_block {W : World} {lo n c : Nat} {v : Value} {us : List Value} {cs : Array Value} (hv : W.ownsRow lo 111 1 v n us) (hc : W.heap[c]? = some (.cells cs 101 (0, 0))) : v.ownBlock ≠ some c := by
  rcases hv.2 with ⟨rfl, -⟩ | ⟨g', cap', cur', rfl, -, hg', -⟩
  · simp [Value.ownBlock]
  · intro e
    simp only [Value.ownBlock, Option.some.injEq] at e
    subst e
    rw [hg'] at hc
    injection hc with hc
    injection hc with h1 h2
    cases h2

theorem uV_consS {s : List Value} {u : Value} {i : Nat} : uV (u :: s) (i + 1) = uV s i := rfl
theorem pR_consS {s : List (List Int)} {u : List Int} {i : Nat} : pR (u :: s) (i + 1) = pR s i := rfl

/-- The last stores of spec.ScanFrames. -/
theorem scan_fin {w W : World} {f m c : Nat} {a p : List Int} {R' : List (List Int × Nat)} {v U : Value} {us : List Value} {cs : Array Value} (hRR : scn f a = (p, m) :: R') (hr : W.ownsRow (w.heap.size + 1) 111 1 v (1 + R'.length) ([U] ++ us))
    (hu : Own .u8 5 W (w.heap.size + 1) U p) (h4 : ∀ i, i < R'.length → Own .u8 5 W (w.heap.size + 1) (uV us i) (pR (R'.map (·.1)) i)) (hp : ∀ i j, i < R'.length → j < R'.length → i ≠ j → Ne2 (uV us i) (uV us j))
    (hd : ∀ i, i < R'.length → Ne2 U (uV us i) ∧ Ne2 (uV us i) U) (hcU : U.ownBlock ≠ some c) (hc4 : ∀ i, i < R'.length → (uV us i).ownBlock ≠ some c) (hcs : W.heap[c]? = some (.cells cs 101 (0, 0))) (hcw : w.heap.size < c) (hb : Below w.heap.size w W) {x y : Value} :
    ScanPost w f a (.returned (.agg #[v, .int .i64 ((m + pos R' R'.length : Nat) : Int)])) ((((W.setCell ⟨c, 0, none⟩ x).setCell ⟨c, 1, none⟩ y).setCell ⟨w.heap.size, 0, none⟩ x).setCell ⟨w.heap.size, 1, none⟩ y) := by
  have hcv := ne_type_block hr hcs
  refine ⟨v, U :: us, ?_, ?_, (((hb.setCell (by show _ ≤ c; omega) _).setCell (by show _ ≤ c; omega) _).setCell (by simp) _).setCell (by simp) _⟩
  · rw [hRR, List.length_cons, pos_cons]
  · have hX : ∀ {u : Value} {xs : List Int}, Own .u8 5 W (w.heap.size + 1) u xs → u.ownBlock ≠ some c → Own .u8 5 ((((W.setCell ⟨c, 0, none⟩ x).setCell ⟨c, 1, none⟩ y).setCell ⟨w.heap.size, 0, none⟩ x).setCell ⟨w.heap.size, 1, none⟩ y) (w.heap.size + 1) u xs := fun ho hne =>
      (((ho.setAt (.inr hne)).setAt (.inr hne)).setBelow (by show w.heap.size < _; omega) _).setBelow (by show w.heap.size < _; omega) _
    refine OwnP.mono (lo := w.heap.size + 1) ?_ (by omega)
    rw [hRR]
    refine ⟨?_, fun i hi => ?_, fun i j hi hj hne => ?_, fun i hi => ?_⟩
    · have h1 : World.ownsRow ((W.setCell ⟨c, 0, none⟩ x).setCell ⟨c, 1, none⟩ y) (w.heap.size + 1) 111 1 v (1 + R'.length) ([U] ++ us) := World.ownsRow.kept (World.ownsRow.kept hr (gset W c 0 x) (.inr hcv)) (gset _ c 1 y) (.inr hcv)
      have h2 := ownsRow_setCell_below (ownsRow_setCell_below h1 (a := ⟨w.heap.size, 0, none⟩) (by show w.heap.size < _; omega) x) (a := ⟨w.heap.size, 1, none⟩) (by show w.heap.size < _; omega) y
      rw [show (((p, m) :: R').map (·.1)).length = 1 + R'.length by simp; omega]
      exact h2
    · cases i with
      | zero => exact hX hu hcU
      | succ i =>
        have hi' : i < R'.length := by simpa using hi
        rw [uV_consS, List.map_cons, pR_consS]
        exact hX (h4 i hi') (hc4 i hi')
    · cases i with
      | zero =>
        cases j with
        | zero => omega
        | succ j => rw [uV_consS]; exact (hd j (by simpa using hj)).1
      | succ i =>
        cases j with
        | zero => rw [uV_consS]; exact (hd i (by simpa using hi)).2
        | succ j => rw [uV_consS, uV_consS]; exact hp i j (by simpa using hi) (by simpa using hj) (by omega)
    · cases i with
      | zero => exact ne_by_type hu hr
      | succ i =>
        have hi' : i < R'.length := by simpa using hi
        rw [uV_consS]; exact ne_by_type (h4 i hi') hr

theorem four_cells {W : World} {b c : Nat} {x y V E : Value} (hb : Box2 W b x y) (hne : b ≠ c) : ((((W.setCell ⟨c, 0, none⟩ V).setCell ⟨c, 1, none⟩ E).setCell ⟨b, 0, none⟩ V).setCell ⟨b, 1, none⟩ E).cell? ⟨b, 0, none⟩ = some V ∧ ((((W.setCell ⟨c, 0, none⟩ V).setCell ⟨c, 1, none⟩ E).setCell ⟨b, 0, none⟩ V).setCell ⟨b, 1, none⟩ E).cell? ⟨b, 1, none⟩ = some E := by
  obtain ⟨z, d0, d1⟩ := hb
  have h0 : ((W.setCell ⟨c, 0, none⟩ V).setCell ⟨c, 1, none⟩ E).cell? ⟨b, 0, none⟩ = some x := by
    rw [World.cell?_setCell_other _ _ _ _ (by simp; try omega), World.cell?_setCell_other _ _ _ _ (by simp; try omega)]; exact d0
  have h1 : ((W.setCell ⟨c, 0, none⟩ V).setCell ⟨c, 1, none⟩ E).cell? ⟨b, 1, none⟩ = some y := by
    rw [World.cell?_setCell_other _ _ _ _ (by simp; try omega), World.cell?_setCell_other _ _ _ _ (by simp; try omega)]; exact d1
  constructor
  · rw [World.cell?_setCell_other _ _ _ _ (by simp)]; exact World.cell?_setCell_same _ _ _ h0
  · exact World.cell?_setCell_same _ _ _ (by rw [World.cell?_setCell_other _ _ _ _ (by simp)]; exact h1)
theorem cell_alloc {W : World} {b j : Nat} {v : Value} (hb : b < W.heap.size) (h : W.cell? ⟨b, j, none⟩ = some v) (o : Obj) : (W.alloc o).cell? ⟨b, j, none⟩ = some v := (((Below.refl _ W).alloc (Nat.le_refl _) o).cell (p := ⟨b, j, none⟩) hb).trans h

def SpecOK (f : Nat) : Prop := ∀ (w : World) (ao : Option Addr) (n cap : Nat) (a : List Int), Rd .u8 w (.slice ao n cap) a → a.length = n → Byt a → n ≤ 8192 → n ≤ f →
    Calls Tryd.prog 66 #[.slice ao n cap] w (ScanPost w f a)

set_option maxHeartbeats 2000000 in
set_option maxRecDepth 100000 in
theorem specScan_step (f : Nat) (IH : ∀ f', f' < f → SpecOK f') (w : World) (ao : Option Addr) (n cap : Nat) (a : List Int) (h : Rd .u8 w (.slice ao n cap) a) (hl : a.length = n) (hby : Byt a) (hn : n ≤ 8192) (hnf : n ≤ f) :
    Calls Tryd.prog 66 #[.slice ao n cap] w (ScanPost w f a) := by
  have HIH : Hid (∀ f', f' < f → SpecOK f') := IH
  clear IH
  have B0 : Hid (Below w.heap.size w (w.alloc (.cells #[.slice none 0 0, .int .i64 0] 101))) := (Below.refl _ _).alloc (Nat.le_refl _) _
  have HL : Hid (a.length = n) := hl
  clear hl
  have h0 : ¬ (8192 : Int) < (n : Int) := by omega
  have h0d : decide ((8192 : Int) < (n : Int)) = false := by simpa using h0
  by_cases h2 : n < 2
  · have h2I : (n : Int) < 2 := by omega
    have h2d : decide ((n : Int) < 2) = true := by simpa using h2I
    have HF : Hid (frmB a = false) := frmB_no (fun hk => by have := hk.1; have := HL.out; omega)
    clear h hby
    go_enter Tryd.func66, Tryd.ntmps66
    go_wp2
    refine bodyPost_ret (v := .agg #[.slice none 0 0, .int .i64 0]) (by simp [results, Tryd.results66, go_sem]) rfl (scan_none (w := w) (f := f) HF.out ?_)
    repeat (first | exact B0.out | refine Below.setCell ?_ (by simp; try omega) _)
  · have h2I : ¬ (n : Int) < 2 := by omega
    have h2d : decide ((n : Int) < 2) = false := by simpa using h2I
    obtain ⟨blk, o, rfl, hb, hcap, hcm, hc⟩ := h.cut HL.out (by omega)
    have HRDH : Hid (Rd .u8 w (.slice (some ⟨blk, o, none⟩) n cap) a) := h
    obtain ⟨x0, hx0, hxe0⟩ := byt_at hby 0
    obtain ⟨x1, hx1, hxe1⟩ := byt_at hby 1
    have c0 := hc 0 (by omega)
    have c1 := hc 1 (by omega)
    rw [hxe0, Nat.add_zero] at c0
    rw [hxe1] at c1
    have HC : Hid (∀ i, i < n → w.cell? ⟨blk, o + i, none⟩ = some (.int .u8 (a.getD i 0))) := hc
    have HBY : Hid (Byt a) := hby
    have hn0 : (0 : Int) < (n : Int) := by omega
    have hn1 : (1 : Int) < (n : Int) := by omega
    have HM : Hid (frm_m a = x0 % 128 * 128 + x1 % 128) := by show _ = _; unfold frm_m; rw [hxe0, hxe1, Int.toNat_natCast, Int.toNat_natCast]
    have HCM : Hid (cap ≤ maxLen) := hcm
    unfold maxLen at hcm
    by_cases q0 : (x0 : Int) < 128
    · have q0d : decide ((x0 : Int) < 128) = true := by simpa using q0
      have HF : Hid (frmB a = false) := frmB_no (fun hk => by have := hk.2.1; rw [hxe0] at this; omega)
      clear h hby hc hxe0 hxe1
      go_enter Tryd.func66, Tryd.ntmps66
      go_wp2
      refine bodyPost_ret (v := .agg #[.slice none 0 0, .int .i64 0]) (by simp [results, Tryd.results66, go_sem]) rfl (scan_none (w := w) (f := f) HF.out ?_)
      repeat (first | exact B0.out | refine Below.setCell ?_ (by simp; try omega) _)
    · have q0d : decide ((x0 : Int) < 128) = false := by simpa using q0
      by_cases q1 : (x1 : Int) < 128
      · have q1d : decide ((x1 : Int) < 128) = true := by simpa using q1
        have HF : Hid (frmB a = false) := frmB_no (fun hk => by have := hk.2.2.1; rw [hxe1] at this; omega)
        clear h hby hc hxe0 hxe1
        go_enter Tryd.func66, Tryd.ntmps66
        go_wp2
        refine bodyPost_ret (v := .agg #[.slice none 0 0, .int .i64 0]) (by simp [results, Tryd.results66, go_sem]) rfl (scan_none (w := w) (f := f) HF.out ?_)
        repeat (first | exact B0.out | refine Below.setCell ?_ (by simp; try omega) _)
      · have q1d : decide ((x1 : Int) < 128) = false := by simpa using q1
        have HOK : Hid (2 + frm_m a ≤ n → frm_p a ≠ [] → (frm_p a).length ≤ 2000 → frmB a = true) := fun k1 k2 k3 => (frmB_iff a).2 ⟨by rw [HL.out]; omega, by rw [hxe0]; omega, by rw [hxe1]; omega, by rw [HL.out]; exact k1, k2, k3⟩
        clear h hby hc hxe0 hxe1
        obtain ⟨y0, hy0⟩ : ∃ y0 : Nat, x0 = 128 + y0 := ⟨x0 - 128, by omega⟩
        obtain ⟨y1, hy1⟩ : ∃ y1 : Nat, x1 = 128 + y1 := ⟨x1 - 128, by omega⟩
        subst hy0 hy1
        have HM2 : Hid (frm_m a = y0 * 128 + y1) := by rw [HM.out]; show _ = _; omega
        have hy0' : y0 < 128 := by omega
        have hy1' : y1 < 128 := by omega
        have s0 : (128 : Int) + (y0 : Int) - 128 = (y0 : Int) := by omega
        have s1 : (128 : Int) + (y1 : Int) - 128 = (y1 : Int) := by omega
        clear HM
        go_enter Tryd.func66, Tryd.ntmps66
        go_wp2_with fail
        go_quiet (fail)
        by_cases hm1 : y0 * 128 + y1 < 1
        · have hm1I : (y0 : Int) * 128 + (y1 : Int) < 1 := by omega
          have hm1d : decide ((y0 : Int) * 128 + (y1 : Int) < 1) = true := by simpa using hm1I
          have HF : Hid (frmB a = false) := frmB_no (fun hk => by
            have h5 := hk.2.2.2.2.1
            apply h5
            unfold frm_p
            rw [show frm_m a = 0 by rw [HM2.out]; omega]
            simp [unp_nil])
          go_wp2
          refine bodyPost_ret (v := .agg #[.slice none 0 0, .int .i64 0]) (by simp [results, Tryd.results66, go_sem]) rfl (scan_none (w := w) (f := f) HF.out ?_)
          repeat (first | exact B0.out | exact below_drewQ B0.out _ | refine Below.setCell ?_ (by simp; try omega) _)
        · have hm1I : ¬ (y0 : Int) * 128 + (y1 : Int) < 1 := by omega
          have hm1d : decide ((y0 : Int) * 128 + (y1 : Int) < 1) = false := by simpa using hm1I
          by_cases hs : 2 + (y0 * 128 + y1) ≤ n
          · have hsI : ¬ (n : Int) < 2 + ((y0 : Int) * 128 + (y1 : Int)) := by omega
            have hsd : decide ((n : Int) < 2 + ((y0 : Int) * 128 + (y1 : Int))) = false := by simpa using hsI
            have hcp : ¬ cap = 2 := by omega
            have RS : Hid (Rd .u8 w (.slice (some ⟨blk, o + 2, none⟩) (y0 * 128 + y1) (cap - 2)) ((a.drop 2).take (frm_m a))) := by
              rw [HM2.out]
              exact rd_piece hb HC.out HL.out 2 (y0 * 128 + y1) (by omega) hcap HCM.out
            go_wp2_with fail
            refine (specUnpack_any _ _ _ (RS.out.below (below_drewQ B0.out nq)) (byt_piece HBY.out 2 (frm_m a)) (by rw [List.length_take]; have := HM2.out; omega)).mono ?_
            rintro e w2 ⟨u, rfl, o2, b2⟩
            have o2' : Own .u8 5 w2 _ u (frm_p a) := o2
            obtain ⟨ua, uc, rfl⟩ := Own.slice o2'
            have B2 : Hid (Below w.heap.size w w2) := (below_drewQ B0.out nq).trans (b2.mono (by show w.heap.size ≤ (w.alloc _).heap.size; simp))
            have O2 : Hid (Own .u8 5 w2 (w.heap.size + 1) (.slice ua (frm_p a).length uc) (frm_p a)) := Own.mono o2' (by show w.heap.size + 1 ≤ (w.alloc _).heap.size; simp)
            have hul : (frm_p a).length ≤ maxLen := by obtain ⟨_, _, e, h1, h2⟩ := O2.out.rd.len; simp only [Value.slice.injEq] at e; omega
            unfold maxLen at hul
            have X2 : Hid (BoxF w2 w.heap.size (.slice none 0 0) (.int .i64 0)) := by
              have h1 : BoxF ((w.alloc (.cells #[.slice none 0 0, .int .i64 0] 101)).drewN nq) w.heap.size (.slice none 0 0) (.int .i64 0) := BoxF.new w _ _ _
              exact h1.below b2
            have HP : Hid (frm_p a ≠ [] ↔ (frm_p a).length ≠ 0) := by show _ ↔ _; cases frm_p a <;> simp
            have HIN : Hid (2 + frm_m a ≤ n) := by rw [HM2.out]; exact hs
            have HNO : Hid ((frm_p a).length = 0 ∨ 2000 < (frm_p a).length → frmB a = false) := fun hh => frmB_no (fun hk => by have h5 := HP.out.1 hk.2.2.2.2.1; have h6 := hk.2.2.2.2.2; omega)
            have HYES : Hid ((frm_p a).length ≠ 0 → (frm_p a).length ≤ 2000 → frmB a = true) := fun h5 h6 => HOK.out HIN.out (HP.out.2 h5) h6
            clear o2 o2' b2 RS HOK
            obtain ⟨⟨z2, d0, d1⟩, f0, f1⟩ := X2.out
            generalize hp : frm_p a = p at *
            have HPE : Hid (frm_p a = p) := hp
            clear hp
            have YY : ∀ (u v : Value) (o : Obj), (((w2.setCell ⟨w.heap.size, 0, none⟩ u).setCell ⟨w.heap.size, 1, none⟩ v).alloc o).cell? ⟨w.heap.size, 0, none⟩ = some u ∧ (((w2.setCell ⟨w.heap.size, 0, none⟩ u).setCell ⟨w.heap.size, 1, none⟩ v).alloc o).cell? ⟨w.heap.size, 1, none⟩ = some v := fun u v o => by
              have k0 : ((w2.setCell ⟨w.heap.size, 0, none⟩ u).setCell ⟨w.heap.size, 1, none⟩ v).cell? ⟨w.heap.size, 0, none⟩ = some u := by rw [World.cell?_setCell_other _ _ _ _ (by simp)]; exact World.cell?_setCell_same _ _ _ d0
              have k1 : ((w2.setCell ⟨w.heap.size, 0, none⟩ u).setCell ⟨w.heap.size, 1, none⟩ v).cell? ⟨w.heap.size, 1, none⟩ = some v := World.cell?_setCell_same _ _ _ (by rw [World.cell?_setCell_other _ _ _ _ (by simp)]; exact d1)
              exact ⟨cell_alloc (by simpa using z2) k0 o, cell_alloc (by simpa using z2) k1 o⟩
            have YY0 := fun u v o => (YY u v o).1
            have YY1 := fun u v o => (YY u v o).2
            clear YY
            by_cases l0 : p.length = 0
            · have l0I : (p.length : Int) = 0 := by omega
              have l0b : ((p.length : Int) == 0) = true := by simpa using l0I
              go_wp2
              refine bodyPost_ret (v := .agg #[.slice none 0 0, .int .i64 0]) (by simp [results, Tryd.results66, go_sem, YY0, YY1]) rfl (scan_none (w := w) (f := f) (HNO.out (.inl l0)) ?_)
              repeat (first | exact B2.out | exact B2.out.alloc B2.out.size _ | refine Below.setCell ?_ (by simp; try omega) _ | refine Below.alloc ?_ (by simp; try omega) _)
            · have l0I : ¬ (p.length : Int) = 0 := by omega
              have l0b : ((p.length : Int) == 0) = false := by simpa using l0I
              by_cases l2 : 2000 < p.length
              · have l2I : (2000 : Int) < (p.length : Int) := by omega
                have l2d : decide ((2000 : Int) < (p.length : Int)) = true := by simpa using l2I
                go_wp2
                refine bodyPost_ret (v := .agg #[.slice none 0 0, .int .i64 0]) (by simp [results, Tryd.results66, go_sem, YY0, YY1]) rfl (scan_none (w := w) (f := f) (HNO.out (.inr l2)) ?_)
                repeat (first | exact B2.out | exact B2.out.alloc B2.out.size _ | refine Below.setCell ?_ (by simp; try omega) _ | refine Below.alloc ?_ (by simp; try omega) _)
              · have l2I : ¬ (2000 : Int) < (p.length : Int) := by omega
                have l2d : decide ((2000 : Int) < (p.length : Int)) = false := by simpa using l2I
                have HYE : Hid (frmB a = true) := HYES.out l0 (by omega)
                have hw3s : (((w2.alloc (.cells #[.slice ua p.length uc] 111)).alloc (.cells #[.slice ua p.length uc] 111)).alloc (.cells #[.slice (some ⟨w2.heap.size + 1, 0, none⟩) 1 1, .int .i64 (2 + ((y0 : Int) * 128 + (y1 : Int)))] 101)).heap.size = w2.heap.size + 3 := by simp
                have b3 : Below w2.heap.size w2 (((w2.alloc (.cells #[.slice ua p.length uc] 111)).alloc (.cells #[.slice ua p.length uc] 111)).alloc (.cells #[.slice (some ⟨w2.heap.size + 1, 0, none⟩) 1 1, .int .i64 (2 + ((y0 : Int) * 128 + (y1 : Int)))] 101)) := (((Below.refl _ _).alloc (Nat.le_refl _) _).alloc (by simp) _).alloc (by simp; omega) _
                have XO3 : Hid (BoxF (((w2.alloc (.cells #[.slice ua p.length uc] 111)).alloc (.cells #[.slice ua p.length uc] 111)).alloc (.cells #[.slice (some ⟨w2.heap.size + 1, 0, none⟩) 1 1, .int .i64 (2 + ((y0 : Int) * 128 + (y1 : Int)))] 101)) (w2.heap.size + 2) (.slice (some ⟨w2.heap.size + 1, 0, none⟩) 1 1) (.int .i64 (2 + ((y0 : Int) * 128 + (y1 : Int))))) := by
                  have := BoxF.new ((w2.alloc (.cells #[.slice ua p.length uc] 111)).alloc (.cells #[.slice ua p.length uc] 111)) (.slice (some ⟨w2.heap.size + 1, 0, none⟩) 1 1) (.int .i64 (2 + ((y0 : Int) * 128 + (y1 : Int)))) 101
                  rw [World.size_alloc, World.size_alloc] at this
                  exact this
                have OR3 : Hid ((((w2.alloc (.cells #[.slice ua p.length uc] 111)).alloc (.cells #[.slice ua p.length uc] 111)).alloc (.cells #[.slice (some ⟨w2.heap.size + 1, 0, none⟩) 1 1, .int .i64 (2 + ((y0 : Int) * 128 + (y1 : Int)))] 101)).ownsRow (w.heap.size + 1) 111 1 (.slice (some ⟨w2.heap.size + 1, 0, none⟩) 1 1) 1 [.slice ua p.length uc]) := by
                  refine World.ownsRow.alloc (w := (w2.alloc (.cells #[.slice ua p.length uc] 111)).alloc (.cells #[.slice ua p.length uc] 111)) ⟨rfl, .inr ⟨w2.heap.size + 1, 1, #[.slice ua p.length uc], rfl, by omega, ?_, Nat.le_refl _, by unfold maxLen; omega, rfl, rfl⟩⟩ _
                  have := heap_alloc_new (w2.alloc (.cells #[.slice ua p.length uc] 111)) (.cells #[.slice ua p.length uc] 111)
                  rw [World.size_alloc] at this
                  exact this
                have HH3 : Hid ((((w2.alloc (.cells #[.slice ua p.length uc] 111)).alloc (.cells #[.slice ua p.length uc] 111)).alloc (.cells #[.slice (some ⟨w2.heap.size + 1, 0, none⟩) 1 1, .int .i64 (2 + ((y0 : Int) * 128 + (y1 : Int)))] 101)).heap[w2.heap.size + 2]? = some (.cells #[.slice (some ⟨w2.heap.size + 1, 0, none⟩) 1 1, .int .i64 (2 + ((y0 : Int) * 128 + (y1 : Int)))] 101 (0, 0))) := by
                  have := heap_alloc_new ((w2.alloc (.cells #[.slice ua p.length uc] 111)).alloc (.cells #[.slice ua p.length uc] 111)) (.cells #[.slice (some ⟨w2.heap.size + 1, 0, none⟩) 1 1, .int .i64 (2 + ((y0 : Int) * 128 + (y1 : Int)))] 101)
                  rw [World.size_alloc, World.size_alloc] at this
                  exact this
                have b3' : Hid (Below w2.heap.size w2 (((w2.alloc (.cells #[.slice ua p.length uc] 111)).alloc (.cells #[.slice ua p.length uc] 111)).alloc (.cells #[.slice (some ⟨w2.heap.size + 1, 0, none⟩) 1 1, .int .i64 (2 + ((y0 : Int) * 128 + (y1 : Int)))] 101))) := b3
                have HSZ : Hid ((((w2.alloc (.cells #[.slice ua p.length uc] 111)).alloc (.cells #[.slice ua p.length uc] 111)).alloc (.cells #[.slice (some ⟨w2.heap.size + 1, 0, none⟩) 1 1, .int .i64 (2 + ((y0 : Int) * 128 + (y1 : Int)))] 101)).heap.size = w2.heap.size + 3) := hw3s
                have HLT2 : Hid (∀ g, Value.ownBlock (.slice ua p.length uc) = some g → g < w2.heap.size) := fun g e => (O2.out.lt g e).2
                clear hw3s b3 YY0 YY1
                have HR0 : Hid (Rd .u8 w (.slice (some ⟨blk, o, none⟩) n cap) a) := HRDH.out
                by_cases hcz : cap = 2 + (y0 * 128 + y1)
                · have RS : Hid (Rd .u8 w (.slice (some ⟨blk, o, none⟩) (n - (2 + (y0 * 128 + y1))) 0) (a.drop (2 + (y0 * 128 + y1)))) := by
                    have e1 : n - (2 + (y0 * 128 + y1)) = 0 := by omega
                    have e2 : a.drop (2 + (y0 * 128 + y1)) = [] := List.eq_nil_of_length_eq_zero (by rw [List.length_drop, HL.out]; exact e1)
                    rw [e1, e2]; exact rd_empty _ _ _ (Nat.zero_le _)
                  go_wp2_with fail
                  generalize ((w2.alloc (.cells #[.slice ua p.length uc] 111)).alloc (.cells #[.slice ua p.length uc] 111)).alloc (.cells #[.slice (some ⟨w2.heap.size + 1, 0, none⟩) 1 1, .int .i64 (2 + ((y0 : Int) * 128 + (y1 : Int)))] 101) = w3 at *
                  have B3 : Hid (Below w.heap.size w w3) := B2.out.trans (b3'.out.mono (by omega))
                  refine ((HIH.out (f - 1) (by omega)) w3 (some ⟨blk, o, none⟩) (n - (2 + (y0 * 128 + y1))) 0 (a.drop (2 + (y0 * 128 + y1))) (RS.out.below B3.out) (by rw [List.length_drop, HL.out]) (fun x hx => HBY.out x (List.mem_of_mem_drop hx)) (by omega) (by omega)).mono ?_
                  rintro e w4 ⟨v4, us4, rfl, op4, b4⟩
                  have HRR : Hid (scn f a = (p, 2 + (y0 * 128 + y1)) :: scn (f - 1) (a.drop (2 + (y0 * 128 + y1)))) := by
                    have := scn_yes HYE.out (f - 1)
                    rw [show f - 1 + 1 = f by omega, HPE.out, HM2.out] at this
                    exact this
                  have hrl : (scn (f - 1) (a.drop (2 + (y0 * 128 + y1)))).length ≤ 8192 := by
                    have h5 := scn_all (f - 1) (a.drop (2 + (y0 * 128 + y1))) (by rw [List.length_drop, HL.out]; omega)
                    have h6 := scn_short (f - 1) (a.drop (2 + (y0 * 128 + y1))) (by rw [List.length_drop, HL.out]; omega)
                    rw [List.length_drop, HL.out] at h6; omega
                  have hpl : pos (scn (f - 1) (a.drop (2 + (y0 * 128 + y1)))) (scn (f - 1) (a.drop (2 + (y0 * 128 + y1)))).length ≤ 8192 := by
                    have h5 := (scn_all (f - 1) (a.drop (2 + (y0 * 128 + y1))) (by rw [List.length_drop, HL.out]; omega)).2.2 _ (Nat.le_refl _)
                    rw [List.length_drop, HL.out] at h5; omega
                  generalize scn (f - 1) (a.drop (2 + (y0 * 128 + y1))) = R' at *
                  have OP4 : Hid (OwnP w4 w3.heap.size v4 (R'.map (·.1)) us4) := op4
                  have XO4 : Hid (BoxF w4 (w2.heap.size + 2) (.slice (some ⟨w2.heap.size + 1, 0, none⟩) 1 1) (.int .i64 (2 + ((y0 : Int) * 128 + (y1 : Int))))) := XO3.out.below b4
                  have OR4 : Hid (w4.ownsRow (w.heap.size + 1) 111 1 (.slice (some ⟨w2.heap.size + 1, 0, none⟩) 1 1) 1 [.slice ua p.length uc]) := ownsRow_below OR3.out b4
                  have OU4 : Hid (Own .u8 5 w4 (w.heap.size + 1) (.slice ua p.length uc) p) := (O2.out.below b3'.out).below b4
                  have X4 : Hid (BoxF w4 w.heap.size (.slice none 0 0) (.int .i64 0)) := (X2.out.below b3'.out).below b4
                  have B4 : Hid (Below w.heap.size w w4) := B3.out.trans (b4.mono B3.out.size)
                  have HH4 : Hid (w4.heap[w2.heap.size + 2]? = some (.cells #[.slice (some ⟨w2.heap.size + 1, 0, none⟩) 1 1, .int .i64 (2 + ((y0 : Int) * 128 + (y1 : Int)))] 101 (0, 0))) := (b4.block _ (by have := HSZ.out; omega)).trans HH3.out
                  have sz4 := b4.size
                  have sz3 := HSZ.out
                  clear op4 b4 XO3 OR3 O2 X2 RS d0 d1 f0 f1 HH3
                  obtain ⟨⟨zo, g0, g1⟩, h0', h1'⟩ := XO4.out
                  obtain ⟨⟨z4, d0, d1⟩, f0, f1⟩ := X4.out
                  obtain ⟨i0, hi0, hz0, hz1, hz2⟩ := info_parts Tryd.infoP
                  rcases OP4.out.1.2 with ⟨hv4, hz4⟩ | ⟨g4, cap4, cur4, hv4, -⟩
                  · subst hv4
                    have hR0 : R' = [] := by have : R'.length = 0 := by simpa using hz4
                                             exact List.eq_nil_of_length_eq_zero this
                    have SF : Hid (∀ x y, ScanPost w f a (.returned (.agg #[.slice (some ⟨w2.heap.size + 1, 0, none⟩) 1 1, .int .i64 ((2 + (y0 * 128 + y1) + pos R' R'.length : Nat) : Int)])) ((((w4.setCell ⟨w2.heap.size + 2, 0, none⟩ x).setCell ⟨w2.heap.size + 2, 1, none⟩ y).setCell ⟨w.heap.size, 0, none⟩ x).setCell ⟨w.heap.size, 1, none⟩ y)) := fun x y => by
                      subst hR0
                      refine scan_fin (us := []) HRR.out OR4.out OU4.out (fun i hi => by simp at hi) (fun i j hi => by simp at hi) (fun i hi => by simp at hi) (fun e => by have := HLT2.out _ e; omega) (fun i hi => by simp at hi) HH4.out (by have := B2.out.size; omega) B4.out
                    have zz : w.heap.size < w4.heap.size := z4
                    have F4 := fun V E => four_cells (V := V) (E := E) (c := w2.heap.size + 2) X4.out.1 (by have := B2.out.size; omega)
                    have F40 : ∀ V E o, (((((w4.setCell ⟨w2.heap.size + 2, 0, none⟩ V).setCell ⟨w2.heap.size + 2, 1, none⟩ E).setCell ⟨w.heap.size, 0, none⟩ V).setCell ⟨w.heap.size, 1, none⟩ E).alloc o).cell? ⟨w.heap.size, 0, none⟩ = some V := fun V E o => cell_alloc (by simpa using zz) (F4 V E).1 o
                    have F41 : ∀ V E o, (((((w4.setCell ⟨w2.heap.size + 2, 0, none⟩ V).setCell ⟨w2.heap.size + 2, 1, none⟩ E).setCell ⟨w.heap.size, 0, none⟩ V).setCell ⟨w.heap.size, 1, none⟩ E).alloc o).cell? ⟨w.heap.size, 1, none⟩ = some E := fun V E o => cell_alloc (by simpa using zz) (F4 V E).2 o
                    clear F4
                    have HPEq : Hid (((2 + (y0 * 128 + y1) + pos R' R'.length : Nat) : Int) = 2 + ((y0 : Int) * 128 + (y1 : Int)) + ((pos R' R'.length : Nat) : Int)) := by show _ = _; omega
                    clear hR0 hz4
                    generalize pos R' R'.length = pe at *
                    go_wp2
                    refine bodyPost_ret (v := .agg #[.slice (some ⟨w2.heap.size + 1, 0, none⟩) 1 1, .int .i64 (2 + ((y0 : Int) * 128 + (y1 : Int)) + (pe : Int))]) (by simp [results, Tryd.results66, go_sem, F40, F41]) rfl ?_
                    rw [← HPEq.out]
                    exact (SF.out _ _).alloc _
                  · subst hv4
                    have hml : (R'.map (·.1)).length = R'.length := by simp
                    have OP5 : Hid (OwnP (w4.alloc (.cells #[.slice (some ⟨g4, 0, none⟩) R'.length cap4, .int .i64 ((pos R' R'.length : Nat) : Int)] 101)) w3.heap.size (.slice (some ⟨g4, 0, none⟩) R'.length cap4) (R'.map (·.1)) us4) := by
                      have := OP4.out.below ((Below.refl _ _).alloc (Nat.le_refl _) (.cells #[.slice (some ⟨g4, 0, none⟩) R'.length cap4, .int .i64 ((pos R' R'.length : Nat) : Int)] 101))
                      rw [hml] at this
                      exact this
                    have OR5 : Hid ((w4.alloc (.cells #[.slice (some ⟨g4, 0, none⟩) R'.length cap4, .int .i64 ((pos R' R'.length : Nat) : Int)] 101)).ownsRow (w.heap.size + 1) 111 1 (.slice (some ⟨w2.heap.size + 1, 0, none⟩) 1 1) 1 [.slice ua p.length uc]) := World.ownsRow.alloc OR4.out _
                    have OU5 : Hid (Own .u8 5 (w4.alloc (.cells #[.slice (some ⟨g4, 0, none⟩) R'.length cap4, .int .i64 ((pos R' R'.length : Nat) : Int)] 101)) (w.heap.size + 1) (.slice ua p.length uc) p) := World.ownsRow.alloc OU4.out _
                    have hul4 : us4.length = R'.length * 1 := by have := OP4.out.len; rw [hml] at this; omega
                    have HC5 : Hid (∀ j u, us4[j]? = some u → (w4.alloc (.cells #[.slice (some ⟨g4, 0, none⟩) R'.length cap4, .int .i64 ((pos R' R'.length : Nat) : Int)] 101)).cell? ((⟨g4, 0, none⟩ : Addr).add j) = some u) := fun j u hu => World.ownsRow.cells OP5.out.1 (g := g4) rfl j u hu
                    have H1C : Hid (∀ u ∈ us4, u.oneCell' = true) := fun u hu => by
                      obtain ⟨j, hj, rfl⟩ := List.mem_iff_getElem.1 hu
                      have h5 := OP4.out.2.1 j (by rw [hml]; omega)
                      have h6 : us4[j] = uV us4 j := by unfold uV; simp [List.getD, hj]
                      rw [h6]
                      obtain ⟨_, _, e⟩ := Own.slice h5
                      rw [e]; rfl
                    have HUL : Hid (us4.length = R'.length * 1) := hul4
                    have HPEq : Hid (((2 + (y0 * 128 + y1) + pos R' R'.length : Nat) : Int) = 2 + ((y0 : Int) * 128 + (y1 : Int)) + ((pos R' R'.length : Nat) : Int)) := by show _ = _; omega
                    clear hul4
                    generalize hpe : pos R' R'.length = pe at *
                    have HPE2 : Hid (pos R' R'.length = pe) := hpe
                    clear hpe
                    go_wp2_with (at_builtin; go_must (refine wpList_append_own _ rfl _ _ 99 rfl (w.heap.size + 1) 111 i0 (.agg #[.slice none 0 0]) 1 24 Tryd.underlying99 hi0 hz0 hz1 hz2 rfl (by decide) _ 1 _ rfl OR5.out ⟨g4, 0, none⟩ R'.length cap4 us4 rfl HUL.out HC5.out H1C.out ?c3 ?c4 ?c5 ?_))
                    case c3 => unfold maxLen; omega
                    case c4 => omega
                    case c5 => have := B4.out.size; (try simp); omega
                    intro v5 w5 ho5 hg5 _
                    have hwA : Below w4.heap.size w4 (w4.alloc (.cells #[.slice (some ⟨g4, 0, none⟩) R'.length cap4, .int .i64 (pe : Int)] 101)) := (Below.refl _ _).alloc (Nat.le_refl _) _
                    have hsA : (w4.alloc (.cells #[.slice (some ⟨g4, 0, none⟩) R'.length cap4, .int .i64 (pe : Int)] 101)).heap.size = w4.heap.size + 1 := by simp
                    have s20 := B2.out.size
                    have s40 := B4.out.size
                    have OU6 : Own .u8 5 w5 (w.heap.size + 1) (.slice ua p.length uc) p := OU5.out.other hg5 (.inr (fun e => by have := HLT2.out (w2.heap.size + 1) (by rw [e]; rfl); omega))
                    have HG4 : ∀ i, i < R'.length → ∀ g, (uV us4 i).ownBlock = some g → w3.heap.size ≤ g := fun i hi g e => ((OP4.out.2.1 i (by rw [hml]; exact hi)).lt g e).1
                    have O46 : ∀ i, i < R'.length → Own .u8 5 w5 (w.heap.size + 1) (uV us4 i) (pR (R'.map (·.1)) i) := fun i hi => Own.mono ((OP5.out.2.1 i (by rw [hml]; exact hi)).other hg5 (.inr (fun e => by have := HG4 i hi (w2.heap.size + 1) (by rw [e]; rfl); omega))) (by omega)
                    have HH6 : w5.heap[w2.heap.size + 2]? = some (.cells #[.slice (some ⟨w2.heap.size + 1, 0, none⟩) 1 1, .int .i64 (2 + ((y0 : Int) * 128 + (y1 : Int)))] 101 (0, 0)) := (hg5.block _ (by rw [hsA]; omega) (by simp [Value.ownBlock])).trans ((hwA.block _ (by omega)).trans HH4.out)
                    have X6 : Hid (BoxF w5 w.heap.size (.slice none 0 0) (.int .i64 0)) := (X4.out.below hwA).other hg5 (by simp [Value.ownBlock]; omega)
                    have XO6 : Hid (BoxF w5 (w2.heap.size + 2) (.slice (some ⟨w2.heap.size + 1, 0, none⟩) 1 1) (.int .i64 (2 + ((y0 : Int) * 128 + (y1 : Int))))) := (XO4.out.below hwA).other hg5 (by simp [Value.ownBlock])
                    have XT6 : Hid (BoxF w5 w4.heap.size (.slice (some ⟨g4, 0, none⟩) R'.length cap4) (.int .i64 (pe : Int))) := (BoxF.new w4 _ _ _).other hg5 (by simp [Value.ownBlock]; omega)
                    have B6 : Below w.heap.size w w5 := (B4.out.trans (hwA.mono s40)).grown hg5 (by rw [hsA]; omega) (fun q e => by simp only [Value.ownBlock, Option.some.injEq] at e; omega)
                    obtain ⟨g5, c5, hv5⟩ : ∃ g5 c5, v5 = .slice (some ⟨g5, 0, none⟩) (1 + R'.length) c5 := by
                      rcases ho5.2 with ⟨-, h⟩ | ⟨g, gc, cur, rfl, -⟩
                      · omega
                      · exact ⟨g, gc, rfl⟩
                    subst hv5
                    have SF : Hid (∀ x y, ScanPost w f a (.returned (.agg #[.slice (some ⟨g5, 0, none⟩) (1 + R'.length) c5, .int .i64 (2 + ((y0 : Int) * 128 + (y1 : Int)) + (pe : Int))])) ((((w5.setCell ⟨w2.heap.size + 2, 0, none⟩ x).setCell ⟨w2.heap.size + 2, 1, none⟩ y).setCell ⟨w.heap.size, 0, none⟩ x).setCell ⟨w.heap.size, 1, none⟩ y)) := fun x y => by
                      have h7 := scan_fin (x := x) (y := y) HRR.out ho5 OU6 O46 (fun i j hi hj hne => OP4.out.2.2.1 i j (by rw [hml]; exact hi) (by rw [hml]; exact hj) hne) (fun i hi => ⟨by
                        cases q : Value.ownBlock (.slice ua p.length uc) with
                        | none => exact .inl q
                        | some g => exact .inr (fun e3 => by have h1 := HLT2.out g q; have h2 := HG4 i hi g (by rw [← e3]; exact q); omega), by
                        cases q : (uV us4 i).ownBlock with
                        | none => exact .inl q
                        | some g => exact .inr (fun e3 => by have h1 := HG4 i hi g q; have h2 := HLT2.out g (by rw [← e3]; exact q); omega)⟩) (fun e => by have := HLT2.out _ e; omega) (fun i hi e => by have := HG4 i hi _ e; omega) HH6 (by omega) B6
                      rw [HPE2.out, HPEq.out] at h7
                      exact h7
                    have F4 := fun V E => four_cells (V := V) (E := E) (c := w2.heap.size + 2) X6.out.1 (by omega)
                    have F40 : ∀ V E, ((((w5.setCell ⟨w2.heap.size + 2, 0, none⟩ V).setCell ⟨w2.heap.size + 2, 1, none⟩ E).setCell ⟨w.heap.size, 0, none⟩ V).setCell ⟨w.heap.size, 1, none⟩ E).cell? ⟨w.heap.size, 0, none⟩ = some V := fun V E => (F4 V E).1
                    have F41 : ∀ V E, ((((w5.setCell ⟨w2.heap.size + 2, 0, none⟩ V).setCell ⟨w2.heap.size + 2, 1, none⟩ E).setCell ⟨w.heap.size, 0, none⟩ V).setCell ⟨w.heap.size, 1, none⟩ E).cell? ⟨w.heap.size, 1, none⟩ = some E := fun V E => (F4 V E).2
                    clear F4 ho5 hg5 hwA hsA OU6 HG4 O46 HH6 B6 d0 d1 f0 f1 g0 g1 h0' h1' zo z4 OP5 OR5 OU5 HC5 H1C HUL
                    obtain ⟨⟨z6, d0, d1⟩, f0, f1⟩ := X6.out
                    obtain ⟨⟨zo, g0, g1⟩, h0', h1'⟩ := XO6.out
                    obtain ⟨⟨zt, t0, t1⟩, -⟩ := XT6.out
                    go_wp2
                    refine bodyPost_ret (v := .agg #[.slice (some ⟨g5, 0, none⟩) (1 + R'.length) c5, .int .i64 (2 + ((y0 : Int) * 128 + (y1 : Int)) + (pe : Int))]) (by simp [results, Tryd.results66, go_sem, F40, F41]) rfl ?_
                    exact SF.out _ _
                · have RS : Hid (Rd .u8 w (.slice (some ⟨blk, o + (2 + (y0 * 128 + y1)), none⟩) (n - (2 + (y0 * 128 + y1))) (cap - (2 + (y0 * 128 + y1)))) (a.drop (2 + (y0 * 128 + y1)))) := rd_cutN HR0.out HL.out blk o rfl (2 + (y0 * 128 + y1)) hs
                  go_wp2_with fail
                  generalize ((w2.alloc (.cells #[.slice ua p.length uc] 111)).alloc (.cells #[.slice ua p.length uc] 111)).alloc (.cells #[.slice (some ⟨w2.heap.size + 1, 0, none⟩) 1 1, .int .i64 (2 + ((y0 : Int) * 128 + (y1 : Int)))] 101) = w3 at *
                  have B3 : Hid (Below w.heap.size w w3) := B2.out.trans (b3'.out.mono (by omega))
                  refine ((HIH.out (f - 1) (by omega)) w3 (some ⟨blk, o + (2 + (y0 * 128 + y1)), none⟩) (n - (2 + (y0 * 128 + y1))) (cap - (2 + (y0 * 128 + y1))) (a.drop (2 + (y0 * 128 + y1))) (RS.out.below B3.out) (by rw [List.length_drop, HL.out]) (fun x hx => HBY.out x (List.mem_of_mem_drop hx)) (by omega) (by omega)).mono ?_
                  rintro e w4 ⟨v4, us4, rfl, op4, b4⟩
                  have HRR : Hid (scn f a = (p, 2 + (y0 * 128 + y1)) :: scn (f - 1) (a.drop (2 + (y0 * 128 + y1)))) := by
                    have := scn_yes HYE.out (f - 1)
                    rw [show f - 1 + 1 = f by omega, HPE.out, HM2.out] at this
                    exact this
                  have hrl : (scn (f - 1) (a.drop (2 + (y0 * 128 + y1)))).length ≤ 8192 := by
                    have h5 := scn_all (f - 1) (a.drop (2 + (y0 * 128 + y1))) (by rw [List.length_drop, HL.out]; omega)
                    have h6 := scn_short (f - 1) (a.drop (2 + (y0 * 128 + y1))) (by rw [List.length_drop, HL.out]; omega)
                    rw [List.length_drop, HL.out] at h6; omega
                  have hpl : pos (scn (f - 1) (a.drop (2 + (y0 * 128 + y1)))) (scn (f - 1) (a.drop (2 + (y0 * 128 + y1)))).length ≤ 8192 := by
                    have h5 := (scn_all (f - 1) (a.drop (2 + (y0 * 128 + y1))) (by rw [List.length_drop, HL.out]; omega)).2.2 _ (Nat.le_refl _)
                    rw [List.length_drop, HL.out] at h5; omega
                  generalize scn (f - 1) (a.drop (2 + (y0 * 128 + y1))) = R' at *
                  have OP4 : Hid (OwnP w4 w3.heap.size v4 (R'.map (·.1)) us4) := op4
                  have XO4 : Hid (BoxF w4 (w2.heap.size + 2) (.slice (some ⟨w2.heap.size + 1, 0, none⟩) 1 1) (.int .i64 (2 + ((y0 : Int) * 128 + (y1 : Int))))) := XO3.out.below b4
                  have OR4 : Hid (w4.ownsRow (w.heap.size + 1) 111 1 (.slice (some ⟨w2.heap.size + 1, 0, none⟩) 1 1) 1 [.slice ua p.length uc]) := ownsRow_below OR3.out b4
                  have OU4 : Hid (Own .u8 5 w4 (w.heap.size + 1) (.slice ua p.length uc) p) := (O2.out.below b3'.out).below b4
                  have X4 : Hid (BoxF w4 w.heap.size (.slice none 0 0) (.int .i64 0)) := (X2.out.below b3'.out).below b4
                  have B4 : Hid (Below w.heap.size w w4) := B3.out.trans (b4.mono B3.out.size)
                  have HH4 : Hid (w4.heap[w2.heap.size + 2]? = some (.cells #[.slice (some ⟨w2.heap.size + 1, 0, none⟩) 1 1, .int .i64 (2 + ((y0 : Int) * 128 + (y1 : Int)))] 101 (0, 0))) := (b4.block _ (by have := HSZ.out; omega)).trans HH3.out
                  have sz4 := b4.size
                  have sz3 := HSZ.out
                  clear op4 b4 XO3 OR3 O2 X2 RS d0 d1 f0 f1 HH3
                  obtain ⟨⟨zo, g0, g1⟩, h0', h1'⟩ := XO4.out
                  obtain ⟨⟨z4, d0, d1⟩, f0, f1⟩ := X4.out
                  obtain ⟨i0, hi0, hz0, hz1, hz2⟩ := info_parts Tryd.infoP
                  rcases OP4.out.1.2 with ⟨hv4, hz4⟩ | ⟨g4, cap4, cur4, hv4, -⟩
                  · subst hv4
                    have hR0 : R' = [] := by have : R'.length = 0 := by simpa using hz4
                                             exact List.eq_nil_of_length_eq_zero this
                    have SF : Hid (∀ x y, ScanPost w f a (.returned (.agg #[.slice (some ⟨w2.heap.size + 1, 0, none⟩) 1 1, .int .i64 ((2 + (y0 * 128 + y1) + pos R' R'.length : Nat) : Int)])) ((((w4.setCell ⟨w2.heap.size + 2, 0, none⟩ x).setCell ⟨w2.heap.size + 2, 1, none⟩ y).setCell ⟨w.heap.size, 0, none⟩ x).setCell ⟨w.heap.size, 1, none⟩ y)) := fun x y => by
                      subst hR0
                      refine scan_fin (us := []) HRR.out OR4.out OU4.out (fun i hi => by simp at hi) (fun i j hi => by simp at hi) (fun i hi => by simp at hi) (fun e => by have := HLT2.out _ e; omega) (fun i hi => by simp at hi) HH4.out (by have := B2.out.size; omega) B4.out
                    have zz : w.heap.size < w4.heap.size := z4
                    have F4 := fun V E => four_cells (V := V) (E := E) (c := w2.heap.size + 2) X4.out.1 (by have := B2.out.size; omega)
                    have F40 : ∀ V E o, (((((w4.setCell ⟨w2.heap.size + 2, 0, none⟩ V).setCell ⟨w2.heap.size + 2, 1, none⟩ E).setCell ⟨w.heap.size, 0, none⟩ V).setCell ⟨w.heap.size, 1, none⟩ E).alloc o).cell? ⟨w.heap.size, 0, none⟩ = some V := fun V E o => cell_alloc (by simpa using zz) (F4 V E).1 o
                    have F41 : ∀ V E o, (((((w4.setCell ⟨w2.heap.size + 2, 0, none⟩ V).setCell ⟨w2.heap.size + 2, 1, none⟩ E).setCell ⟨w.heap.size, 0, none⟩ V).setCell ⟨w.heap.size, 1, none⟩ E).alloc o).cell? ⟨w.heap.size, 1, none⟩ = some E := fun V E o => cell_alloc (by simpa using zz) (F4 V E).2 o
                    clear F4
                    have HPEq : Hid (((2 + (y0 * 128 + y1) + pos R' R'.length : Nat) : Int) = 2 + ((y0 : Int) * 128 + (y1 : Int)) + ((pos R' R'.length : Nat) : Int)) := by show _ = _; omega
                    clear hR0 hz4
                    generalize pos R' R'.length = pe at *
                    go_wp2
                    refine bodyPost_ret (v := .agg #[.slice (some ⟨w2.heap.size + 1, 0, none⟩) 1 1, .int .i64 (2 + ((y0 : Int) * 128 + (y1 : Int)) + (pe : Int))]) (by simp [results, Tryd.results66, go_sem, F40, F41]) rfl ?_
                    rw [← HPEq.out]
                    exact (SF.out _ _).alloc _
                  · subst hv4
                    have hml : (R'.map (·.1)).length = R'.length := by simp
                    have OP5 : Hid (OwnP (w4.alloc (.cells #[.slice (some ⟨g4, 0, none⟩) R'.length cap4, .int .i64 ((pos R' R'.length : Nat) : Int)] 101)) w3.heap.size (.slice (some ⟨g4, 0, none⟩) R'.length cap4) (R'.map (·.1)) us4) := by
                      have := OP4.out.below ((Below.refl _ _).alloc (Nat.le_refl _) (.cells #[.slice (some ⟨g4, 0, none⟩) R'.length cap4, .int .i64 ((pos R' R'.length : Nat) : Int)] 101))
                      rw [hml] at this
                      exact this
                    have OR5 : Hid ((w4.alloc (.cells #[.slice (some ⟨g4, 0, none⟩) R'.length cap4, .int .i64 ((pos R' R'.length : Nat) : Int)] 101)).ownsRow (w.heap.size + 1) 111 1 (.slice (some ⟨w2.heap.size + 1, 0, none⟩) 1 1) 1 [.slice ua p.length uc]) := World.ownsRow.alloc OR4.out _
                    have OU5 : Hid (Own .u8 5 (w4.alloc (.cells #[.slice (some ⟨g4, 0, none⟩) R'.length cap4, .int .i64 ((pos R' R'.length : Nat) : Int)] 101)) (w.heap.size + 1) (.slice ua p.length uc) p) := World.ownsRow.alloc OU4.out _
                    have hul4 : us4.length = R'.length * 1 := by have := OP4.out.len; rw [hml] at this; omega
                    have HC5 : Hid (∀ j u, us4[j]? = some u → (w4.alloc (.cells #[.slice (some ⟨g4, 0, none⟩) R'.length cap4, .int .i64 ((pos R' R'.length : Nat) : Int)] 101)).cell? ((⟨g4, 0, none⟩ : Addr).add j) = some u) := fun j u hu => World.ownsRow.cells OP5.out.1 (g := g4) rfl j u hu
                    have H1C : Hid (∀ u ∈ us4, u.oneCell' = true) := fun u hu => by
                      obtain ⟨j, hj, rfl⟩ := List.mem_iff_getElem.1 hu
                      have h5 := OP4.out.2.1 j (by rw [hml]; omega)
                      have h6 : us4[j] = uV us4 j := by unfold uV; simp [List.getD, hj]
                      rw [h6]
                      obtain ⟨_, _, e⟩ := Own.slice h5
                      rw [e]; rfl
                    have HUL : Hid (us4.length = R'.length * 1) := hul4
                    have HPEq : Hid (((2 + (y0 * 128 + y1) + pos R' R'.length : Nat) : Int) = 2 + ((y0 : Int) * 128 + (y1 : Int)) + ((pos R' R'.length : Nat) : Int)) := by show _ = _; omega
                    clear hul4
                    generalize hpe : pos R' R'.length = pe at *
                    have HPE2 : Hid (pos R' R'.length = pe) := hpe
                    clear hpe
                    go_wp2_with (at_builtin; go_must (refine wpList_append_own _ rfl _ _ 99 rfl (w.heap.size + 1) 111 i0 (.agg #[.slice none 0 0]) 1 24 Tryd.underlying99 hi0 hz0 hz1 hz2 rfl (by decide) _ 1 _ rfl OR5.out ⟨g4, 0, none⟩ R'.length cap4 us4 rfl HUL.out HC5.out H1C.out ?c3 ?c4 ?c5 ?_))
                    case c3 => unfold maxLen; omega
                    case c4 => omega
                    case c5 => have := B4.out.size; (try simp); omega
                    intro v5 w5 ho5 hg5 _
                    have hwA : Below w4.heap.size w4 (w4.alloc (.cells #[.slice (some ⟨g4, 0, none⟩) R'.length cap4, .int .i64 (pe : Int)] 101)) := (Below.refl _ _).alloc (Nat.le_refl _) _
                    have hsA : (w4.alloc (.cells #[.slice (some ⟨g4, 0, none⟩) R'.length cap4, .int .i64 (pe : Int)] 101)).heap.size = w4.heap.size + 1 := by simp
                    have s20 := B2.out.size
                    have s40 := B4.out.size
                    have OU6 : Own .u8 5 w5 (w.heap.size + 1) (.slice ua p.length uc) p := OU5.out.other hg5 (.inr (fun e => by have := HLT2.out (w2.heap.size + 1) (by rw [e]; rfl); omega))
                    have HG4 : ∀ i, i < R'.length → ∀ g, (uV us4 i).ownBlock = some g → w3.heap.size ≤ g := fun i hi g e => ((OP4.out.2.1 i (by rw [hml]; exact hi)).lt g e).1
                    have O46 : ∀ i, i < R'.length → Own .u8 5 w5 (w.heap.size + 1) (uV us4 i) (pR (R'.map (·.1)) i) := fun i hi => Own.mono ((OP5.out.2.1 i (by rw [hml]; exact hi)).other hg5 (.inr (fun e => by have := HG4 i hi (w2.heap.size + 1) (by rw [e]; rfl); omega))) (by omega)
                    have HH6 : w5.heap[w2.heap.size + 2]? = some (.cells #[.slice (some ⟨w2.heap.size + 1, 0, none⟩) 1 1, .int .i64 (2 + ((y0 : Int) * 128 + (y1 : Int)))] 101 (0, 0)) := (hg5.block _ (by rw [hsA]; omega) (by simp [Value.ownBlock])).trans ((hwA.block _ (by omega)).trans HH4.out)
                    have X6 : Hid (BoxF w5 w.heap.size (.slice none 0 0) (.int .i64 0)) := (X4.out.below hwA).other hg5 (by simp [Value.ownBlock]; omega)
                    have XO6 : Hid (BoxF w5 (w2.heap.size + 2) (.slice (some ⟨w2.heap.size + 1, 0, none⟩) 1 1) (.int .i64 (2 + ((y0 : Int) * 128 + (y1 : Int))))) := (XO4.out.below hwA).other hg5 (by simp [Value.ownBlock])
                    have XT6 : Hid (BoxF w5 w4.heap.size (.slice (some ⟨g4, 0, none⟩) R'.length cap4) (.int .i64 (pe : Int))) := (BoxF.new w4 _ _ _).other hg5 (by simp [Value.ownBlock]; omega)
                    have B6 : Below w.heap.size w w5 := (B4.out.trans (hwA.mono s40)).grown hg5 (by rw [hsA]; omega) (fun q e => by simp only [Value.ownBlock, Option.some.injEq] at e; omega)
                    obtain ⟨g5, c5, hv5⟩ : ∃ g5 c5, v5 = .slice (some ⟨g5, 0, none⟩) (1 + R'.length) c5 := by
                      rcases ho5.2 with ⟨-, h⟩ | ⟨g, gc, cur, rfl, -⟩
                      · omega
                      · exact ⟨g, gc, rfl⟩
                    subst hv5
                    have SF : Hid (∀ x y, ScanPost w f a (.returned (.agg #[.slice (some ⟨g5, 0, none⟩) (1 + R'.length) c5, .int .i64 (2 + ((y0 : Int) * 128 + (y1 : Int)) + (pe : Int))])) ((((w5.setCell ⟨w2.heap.size + 2, 0, none⟩ x).setCell ⟨w2.heap.size + 2, 1, none⟩ y).setCell ⟨w.heap.size, 0, none⟩ x).setCell ⟨w.heap.size, 1, none⟩ y)) := fun x y => by
                      have h7 := scan_fin (x := x) (y := y) HRR.out ho5 OU6 O46 (fun i j hi hj hne => OP4.out.2.2.1 i j (by rw [hml]; exact hi) (by rw [hml]; exact hj) hne) (fun i hi => ⟨by
                        cases q : Value.ownBlock (.slice ua p.length uc) with
                        | none => exact .inl q
                        | some g => exact .inr (fun e3 => by have h1 := HLT2.out g q; have h2 := HG4 i hi g (by rw [← e3]; exact q); omega), by
                        cases q : (uV us4 i).ownBlock with
                        | none => exact .inl q
                        | some g => exact .inr (fun e3 => by have h1 := HG4 i hi g q; have h2 := HLT2.out g (by rw [← e3]; exact q); omega)⟩) (fun e => by have := HLT2.out _ e; omega) (fun i hi e => by have := HG4 i hi _ e; omega) HH6 (by omega) B6
                      rw [HPE2.out, HPEq.out] at h7
                      exact h7
                    have F4 := fun V E => four_cells (V := V) (E := E) (c := w2.heap.size + 2) X6.out.1 (by omega)
                    have F40 : ∀ V E, ((((w5.setCell ⟨w2.heap.size + 2, 0, none⟩ V).setCell ⟨w2.heap.size + 2, 1, none⟩ E).setCell ⟨w.heap.size, 0, none⟩ V).setCell ⟨w.heap.size, 1, none⟩ E).cell? ⟨w.heap.size, 0, none⟩ = some V := fun V E => (F4 V E).1
                    have F41 : ∀ V E, ((((w5.setCell ⟨w2.heap.size + 2, 0, none⟩ V).setCell ⟨w2.heap.size + 2, 1, none⟩ E).setCell ⟨w.heap.size, 0, none⟩ V).setCell ⟨w.heap.size, 1, none⟩ E).cell? ⟨w.heap.size, 1, none⟩ = some E := fun V E => (F4 V E).2
                    clear F4 ho5 hg5 hwA hsA OU6 HG4 O46 HH6 B6 d0 d1 f0 f1 g0 g1 h0' h1' zo z4 OP5 OR5 OU5 HC5 H1C HUL
                    obtain ⟨⟨z6, d0, d1⟩, f0, f1⟩ := X6.out
                    obtain ⟨⟨zo, g0, g1⟩, h0', h1'⟩ := XO6.out
                    obtain ⟨⟨zt, t0, t1⟩, -⟩ := XT6.out
                    go_wp2
                    refine bodyPost_ret (v := .agg #[.slice (some ⟨g5, 0, none⟩) (1 + R'.length) c5, .int .i64 (2 + ((y0 : Int) * 128 + (y1 : Int)) + (pe : Int))]) (by simp [results, Tryd.results66, go_sem, F40, F41]) rfl ?_
                    exact SF.out _ _
          · have hsI : (n : Int) < 2 + ((y0 : Int) * 128 + (y1 : Int)) := by omega
            have hsd : decide ((n : Int) < 2 + ((y0 : Int) * 128 + (y1 : Int))) = true := by simpa using hsI
            have HF : Hid (frmB a = false) := frmB_no (fun hk => by have := hk.2.2.2.1; rw [HM2.out, HL.out] at this; omega)
            go_wp2
            refine bodyPost_ret (v := .agg #[.slice none 0 0, .int .i64 0]) (by simp [results, Tryd.results66, go_sem]) rfl (scan_none (w := w) (f := f) HF.out ?_)
            repeat (first | exact B0.out | exact below_drewQ B0.out _ | refine Below.setCell ?_ (by simp; try omega) _)
end Go.Proofs.YtcopcegamadkgaaDoor

namespace Go.Proofs.YtcopcegamadkgaaDoor
open Go.RowKit

theorem specScan_any (f : Nat) : SpecOK f := by
  induction f using Nat.strongRecOn with
  | _ f IH => exact fun w ao n cap a h hl hby hn hnf => specScan_step f IH w ao n cap a h hl hby hn hnf

end Go.Proofs.YtcopcegamadkgaaDoor

namespace Go.Proofs.YtcopcegamadkgaaDoor
open Go.RowKit

def fr (xs : List Int) : List Int :=
  if xs.length = 0 ∨ 2000 < xs.length then [] else [128 + ((pk xs).length : Int) / 128, 128 + ((pk xs).length : Int) % 128] ++ pk xs

theorem fr_no {xs : List Int} (h : xs.length = 0 ∨ 2000 < xs.length) : fr xs = [] := if_pos h
theorem fr_yes {xs : List Int} (h0 : 0 < xs.length) (h1 : xs.length ≤ 2000) : fr xs = [128 + ((pk xs).length : Int) / 128, 128 + ((pk xs).length : Int) % 128] ++ pk xs := if_neg (by omega)

set_option maxHeartbeats 400000 in
theorem specFrame_no (w : World) (ao : Option Addr) (n cap : Nat) (hn : n ≤ 1099511627776) (h : n = 0 ∨ 2000 < n) :
    Calls Tryd.prog 70 #[.slice ao n cap] w fun e w' => ∃ v', e = .returned v' ∧ Own .u8 5 w' w.heap.size v' [] ∧ Below w.heap.size w w' := by
  rcases h with rfl | h
  · go_enter Tryd.func70, Tryd.ntmps70
    go_wp2
    go_ret
    exact ⟨_, rfl, World.ownsRow_lit w #[] 0 (Nat.le_refl _) (Nat.zero_le _) rfl, (Below.refl _ _).alloc (Nat.le_refl _) _⟩
  · have h1 : ((n : Int) == 0) = false := beq_eq_false_iff_ne.2 (by omega)
    have h2 : (2000 : Int) < (n : Int) := by omega
    go_enter Tryd.func70, Tryd.ntmps70
    go_wp2
    go_ret
    exact ⟨_, rfl, World.ownsRow_lit w #[] 0 (Nat.le_refl _) (Nat.zero_le _) rfl, (Below.refl _ _).alloc (Nat.le_refl _) _⟩

theorem cells_own {k : IntKind} {e : TypeId} {w : World} {base g n cap : Nat} {xs : List Int} (h : Own k e w base (.slice (some ⟨g, 0, none⟩) n cap) xs) : ∀ j u, (xs.map (Value.int k))[j]? = some u → w.cell? ((⟨g, 0, none⟩ : Addr).add j) = some u :=
  World.ownsRow.cells h rfl


set_option maxHeartbeats 400000 in
set_option maxRecDepth 100000 in
theorem specFrame_yes (w : World) (v : Value) (xs : List Int) (h : Rd .u8 w v xs) (hby : Byt xs) (h0 : 0 < xs.length) (h1 : xs.length ≤ 2000) :
    Calls Tryd.prog 70 #[v] w fun e w' => ∃ v', e = .returned v' ∧ Own .u8 5 w' w.heap.size v' (fr xs) ∧ Below w.heap.size w w' := by
  obtain ⟨i0, hi, hz0, hz1, hz2⟩ := info_parts Tryd.infoB
  rw [fr_yes h0 h1]
  have HR : Hid (Rd .u8 w v xs) := h
  obtain ⟨ao, cap, rfl, _, _⟩ := h.len
  clear h
  have t1 : ((xs.length : Int) == 0) = false := beq_eq_false_iff_ne.2 (by omega)
  have t2 : ¬ (2000 : Int) < (xs.length : Int) := by omega
  go_enter Tryd.func70, Tryd.ntmps70
  go_wp2_with fail
  refine (specPack_any _ _ xs HR.out hby (by omega)).mono ?_
  rintro e w1 ⟨v1, rfl, o1, b1⟩
  have hpl := pk_length xs
  rcases o1.row with ⟨rfl, h3⟩ | ⟨g, cp, rfl, hbg, hmc, hcm⟩
  · have := congrArg List.length h3; rw [hpl] at this; simp at this; omega
  have hm0 : (pk xs).length ≤ 2286 := by omega
  have hm1 : 2 ≤ (pk xs).length := by omega
  have HO1 : Hid (Own .u8 5 w1 w.heap.size (.slice (some ⟨g, 0, none⟩) (pk xs).length cp) (pk xs)) := o1
  have HB1 : Hid (Below w.heap.size w w1) := b1
  have hsz := b1.size
  have hgl : g < w1.heap.size := (o1.lt g rfl).2
  generalize hm : (pk xs).length = m at *
  have HM : Hid ((pk xs).length = m) := hm
  clear hm hpl o1 b1 t1 t2 h0 h1
  have HW2 : Hid ((w1.alloc (.cells #[.int .u8 (128 + (m : Int) / 128), .int .u8 (128 + (m : Int) % 128)] 5)).ownsRow w1.heap.size 5 1 (.slice (some ⟨w1.heap.size, 0, none⟩) 2 2) 2 [.int .u8 (128 + (m : Int) / 128), .int .u8 (128 + (m : Int) % 128)]) :=
    World.ownsRow_lit w1 #[.int .u8 (128 + (m : Int) / 128), .int .u8 (128 + (m : Int) % 128)] 2 (Nat.le_refl _) (by unfold maxLen; omega) rfl
  have HB2 : Hid (Below w1.heap.size w1 (w1.alloc (.cells #[.int .u8 (128 + (m : Int) / 128), .int .u8 (128 + (m : Int) % 128)] 5))) := (Below.refl _ _).alloc (Nat.le_refl _) _
  have HO13 : Hid (Own .u8 5 (w1.alloc (.cells #[.int .u8 (128 + (m : Int) / 128), .int .u8 (128 + (m : Int) % 128)] 5)) w.heap.size (.slice (some ⟨g, 0, none⟩) m cp) (pk xs)) := HO1.out.below HB2.out
  go_wp2_with (at_builtin; go_must (refine wpList_append_own _ rfl _ _ 24 rfl w1.heap.size 5 i0 (.int .u8 0) 1 1 Tryd.underlying24 hi hz0 hz1 hz2 rfl (by decide) _ _ _ rfl HW2.out ⟨g, 0, none⟩ m cp ((pk xs).map (Value.int .u8)) rfl ?c0 (cells_own HO13.out) (ints_oneCell _ _) ?c3 ?c4 ?c5 ?_))
  case c0 => rw [List.length_map, HM.out, Nat.mul_one]
  case c3 => unfold maxLen; omega
  case c4 => omega
  case c5 => simp
  intro v4 w4 ho4 hg4 _
  have HB4 : Hid (Below w1.heap.size w1 w4) := HB2.out.grown hg4 (by simp) (by intro k hk; simp [Value.ownBlock] at hk; omega)
  clear hg4
  have HO5 : Hid (Own .u8 5 w4 w1.heap.size v4 ([128 + ((pk xs).length : Int) / 128, 128 + ((pk xs).length : Int) % 128] ++ pk xs)) := by
    rw [HM.out]
    exact own_of (q := 2 + m) (by rw [List.length_append, HM.out]; rfl) rfl (by rw [List.map_append]; exact ho4)
  clear ho4
  go_wp2
  go_ret
  exact ⟨_, rfl, HO5.out.mono hsz, HB1.out.trans (HB4.out.mono hsz)⟩


theorem specFrame_any (w : World) (v : Value) (xs : List Int) (h : Rd .u8 w v xs) (hby : Byt xs) (hn : xs.length ≤ 1099511627776) :
    Calls Tryd.prog 70 #[v] w fun e w' => ∃ v', e = .returned v' ∧ Own .u8 5 w' w.heap.size v' (fr xs) ∧ Below w.heap.size w w' := by
  by_cases hc : xs.length = 0 ∨ 2000 < xs.length
  · rw [fr_no hc]
    obtain ⟨ao, cap, rfl, _, _⟩ := h.len
    exact specFrame_no w ao _ cap hn hc
  · exact specFrame_yes w v xs h hby (by omega) (by omega)

end Go.Proofs.YtcopcegamadkgaaDoor

namespace Go.Proofs.YtcopcegamadkgaaDoor
open Go.RowKit Go.Shelf

theorem stW_memR {n a y : Nd} {st : List Nd × Bool} (h : y ∈ (stW n st a).1) : y ∈ st.1 ∨ y = n ∨ y = a := by
  unfold stW at h
  dsimp only at h
  generalize (!st.2 && !(Op.bytesLess a.path.toList n.path.toList)) = c1 at h
  generalize (a.path.toList == n.path.toList) = c2 at h
  cases c1 <;> cases c2 <;> simp at h <;> grind
theorem wi_memR {ns : List Nd} {n m : Nd} (h : m ∈ wiN ns n) : m ∈ ns ∨ m = n := by
  have key : ∀ (l : List Nd) (st : List Nd × Bool), (∀ x ∈ st.1, x ∈ ns ∨ x = n) → (∀ x ∈ l, x ∈ ns) → ∀ x ∈ (l.foldl (stW n) st).1, x ∈ ns ∨ x = n := by
    intro l
    induction l with
    | nil => intro st h1 _ x hx; exact h1 x hx
    | cons a l ih =>
      intro st h1 h2 x hx
      refine ih (stW n st a) ?_ (fun y hy => h2 y (List.mem_cons_of_mem _ hy)) x hx
      intro y hy
      rcases stW_memR hy with h3 | h3 | h3
      · exact h1 y h3
      · exact .inr h3
      · exact .inl (h3 ▸ h2 a (List.mem_cons_self ..))
  unfold wiN wiF at h
  split at h
  · exact key ns ([], false) (fun x hx => by simp at hx) (fun x hx => hx) m h
  · rcases List.mem_append.1 h with h | h
    · exact key ns ([], false) (fun x hx => by simp at hx) (fun x hx => hx) m h
    · simp at h; exact .inr h

/-- Nodes that are all valid. -/
def Good (ns : List Nd) : Prop := ∀ n ∈ ns, okNd n = true
theorem good_tree {ns : List Nd} (h : okTree ns = true) : Good ns := by
  unfold okTree okSorted at h
  simp only [Bool.and_eq_true, List.all_eq_true, List.mem_range] at h
  intro n hn
  obtain ⟨i, hi, rfl⟩ := List.mem_iff_getElem.1 hn
  have := h.2 i hi
  unfold okAt at this
  simp only [Bool.and_eq_true] at this
  rw [nAt_get hi] at this
  exact this.1
theorem good_at {ns : List Nd} (h : Good ns) (k : Nat) (hk : k < ns.length) : okNd (nAt ns k) = true := by rw [nAt_get hk]; exact h _ (List.getElem_mem hk)
theorem good_sz {ns : List Nd} (h : Good ns) (i : Nat) : (nAt ns i).path.size ≤ 1048576 ∧ (nAt ns i).data.size ≤ 1048576 := by
  by_cases hi : i < ns.length
  · have := okNd_all (good_at h i hi)
    exact ⟨by omega, by omega⟩
  · unfold nAt
    rw [List.getD_eq_getElem?_getD, List.getElem?_eq_none (by omega)]
    exact ⟨by simp [nd0], by simp [nd0]⟩
theorem good_es {z : Int} {es : List Ef} (h : okTxn z es = true) : ∀ e ∈ es, okNd e.nd = true := by
  unfold okTxn okEs at h
  simp only [Bool.and_eq_true, List.all_eq_true, List.mem_range] at h
  intro e he
  obtain ⟨i, hi, rfl⟩ := List.mem_iff_getElem.1 he
  have h1 := h.2 i hi
  unfold okEAt okEf eAt at h1
  simp only [Bool.and_eq_true] at h1
  have h2 := h1.1.1
  simpa [List.getD, hi] using h2
theorem es_sz {z : Int} {es : List Ef} (h : okTxn z es = true) (i : Nat) : (eAt es i).nd.path.size ≤ 1048576 ∧ (eAt es i).nd.data.size ≤ 1048576 := by
  by_cases hi : i < es.length
  · have := okNd_all (good_es h _ (List.getElem_mem hi))
    unfold eAt
    simp only [List.getD, List.getElem?_eq_getElem hi, Option.getD_some]
    exact ⟨by omega, by omega⟩
  · unfold eAt
    rw [List.getD_eq_getElem?_getD, List.getElem?_eq_none (by omega)]
    exact ⟨by decide, by decide⟩
theorem good_apL {es : List Ef} (he : ∀ e ∈ es, okNd e.nd = true) : ∀ {ns : List Nd}, Good ns → Good (apL ns es) := by
  unfold apL
  induction es with
  | nil => intro ns h; exact h
  | cons e es ih =>
    intro ns h
    refine ih (fun x hx => he x (List.mem_cons_of_mem _ hx)) ?_
    intro n hn
    unfold apQ at hn
    split at hn
    · exact h n (List.mem_filter.1 hn).1
    · rcases wi_memR hn with h1 | rfl
      · exact h n h1
      · exact he e (List.mem_cons_self ..)
theorem good_resA {ns : List Nd} {z : Int} {es : List Ef} (h : Good ns) (hx : okTxn z es = true) : Good (resA ns z es) := by
  unfold resA
  split
  · exact good_apL (good_es hx) h
  · intro n hn; simp at hn
theorem decX_ok {ys : List Int} {z : Int} {es : List Ef} (h : decX ys = some (z, es)) : okTxn z es = true := by
  unfold decX at h
  split at h
  · cases h
  · split at h
    · cases h
    · split at h
      · rename_i hh
        simp only [Option.some.injEq, Prod.mk.injEq] at h
        obtain ⟨rfl, rfl⟩ := h
        exact hh.2
      · cases h
theorem okTxn_z {z : Int} {es : List Ef} (h : okTxn z es = true) : 1 ≤ z ∧ z ≤ 2147483647 := by
  unfold okTxn at h
  simp only [Bool.and_eq_true, decide_eq_true_eq] at h
  exact ⟨h.1.1.1, h.1.1.2⟩

/-- The replay of records, from the k-th on: what is reached, its zxid, how many were taken. -/
def rpl (start : Int) : Nat → List (List Int) → List Nd → Int → Int → List Nd × Int × Nat
  | k, [], ns, zx, _ => (ns, zx, k)
  | k, p :: R, ns, zx, last =>
    match decX p with
    | none => (ns, zx, k)
    | some (z, es) =>
      if (if k = 0 then decide (start + 1 < z) else decide (z ≠ last + 1)) then (ns, zx, k)
      else if zx < z then (if 1000 < (resA ns z es).length then (ns, zx, k) else rpl start (k + 1) R (resA ns z es) z z)
      else rpl start (k + 1) R ns zx z
theorem rpl_none {start : Int} {k : Nat} {p : List Int} {R : List (List Int)} {ns : List Nd} {zx last : Int} (h : decX p = none) : rpl start k (p :: R) ns zx last = (ns, zx, k) := by rw [rpl, h]
theorem rpl_bad {start : Int} {k : Nat} {p : List Int} {R : List (List Int)} {ns : List Nd} {zx last z : Int} {es : List Ef} (h : decX p = some (z, es)) (hb : (if k = 0 then decide (start + 1 < z) else decide (z ≠ last + 1)) = true) : rpl start k (p :: R) ns zx last = (ns, zx, k) := by
  rw [rpl, h]; simp only; rw [if_pos hb]
theorem rpl_big {start : Int} {k : Nat} {p : List Int} {R : List (List Int)} {ns : List Nd} {zx last z : Int} {es : List Ef} (h : decX p = some (z, es)) (hb : (if k = 0 then decide (start + 1 < z) else decide (z ≠ last + 1)) = false) (hz : zx < z) (hl : 1000 < (resA ns z es).length) : rpl start k (p :: R) ns zx last = (ns, zx, k) := by
  rw [rpl, h]; simp only; rw [if_neg (by rw [hb]; simp), if_pos hz, if_pos hl]
theorem rpl_app {start : Int} {k : Nat} {p : List Int} {R : List (List Int)} {ns : List Nd} {zx last z : Int} {es : List Ef} (h : decX p = some (z, es)) (hb : (if k = 0 then decide (start + 1 < z) else decide (z ≠ last + 1)) = false) (hz : zx < z) (hl : ¬ 1000 < (resA ns z es).length) : rpl start k (p :: R) ns zx last = rpl start (k + 1) R (resA ns z es) z z := by
  rw [rpl, h]; simp only; rw [if_neg (by rw [hb]; simp), if_pos hz, if_neg hl]
theorem rpl_pass {start : Int} {k : Nat} {p : List Int} {R : List (List Int)} {ns : List Nd} {zx last z : Int} {es : List Ef} (h : decX p = some (z, es)) (hb : (if k = 0 then decide (start + 1 < z) else decide (z ≠ last + 1)) = false) (hz : ¬ zx < z) : rpl start k (p :: R) ns zx last = rpl start (k + 1) R ns zx z := by
  rw [rpl, h]; simp only; rw [if_neg (by rw [hb]; simp), if_neg hz]
/-- A record that was found is as long as its frame. -/
theorem frame_size {a : List Int} (h : frmB a = true) : (fr (frm_p a)).length = 2 + frm_m a := by
  obtain ⟨h1, h2, h3, h4, h5, h6⟩ := (frmB_iff a).1 h
  have hp : 0 < (frm_p a).length := List.length_pos_iff.2 h5
  rw [fr_yes hp h6]
  have e : pk (frm_p a) = (a.drop 2).take (frm_m a) := by
    unfold frm_p unp at h5 ⊢
    split at h5
    · rename_i hh
      rw [if_pos hh]; exact hh
    · exact absurd rfl h5
  rw [e]
  simp only [List.length_append, List.length_cons, List.length_nil, List.length_take, List.length_drop]
  omega

end Go.Proofs.YtcopcegamadkgaaDoor

namespace Go.Proofs.YtcopcegamadkgaaDoor
open Go.RowKit Go.Shelf

/-- A local struct of four cells that may be written. -/
def B4F (W : World) (b : Nat) (x0 x1 x2 x3 : Value) : Prop := b < W.heap.size ∧ (W.cell? ⟨b, 0, none⟩ = some x0 ∧ W.cell? ⟨b, 1, none⟩ = some x1 ∧ W.cell? ⟨b, 2, none⟩ = some x2 ∧ W.cell? ⟨b, 3, none⟩ = some x3) ∧ (W.frozen? ⟨b, 0, none⟩ = false ∧ W.frozen? ⟨b, 1, none⟩ = false ∧ W.frozen? ⟨b, 2, none⟩ = false ∧ W.frozen? ⟨b, 3, none⟩ = false)
theorem B4F.belowB {W W' : World} {b B : Nat} {x0 x1 x2 x3 : Value} (h : B4F W b x0 x1 x2 x3) (hb : Below B W W') (hB : b < B) : B4F W' b x0 x1 x2 x3 :=
  ⟨Nat.lt_of_lt_of_le h.1 hb.size, ⟨(hb.cell (p := ⟨b, 0, none⟩) hB).trans h.2.1.1, (hb.cell (p := ⟨b, 1, none⟩) hB).trans h.2.1.2.1, (hb.cell (p := ⟨b, 2, none⟩) hB).trans h.2.1.2.2.1, (hb.cell (p := ⟨b, 3, none⟩) hB).trans h.2.1.2.2.2⟩,
    (hb.frozen (p := ⟨b, 0, none⟩) hB).trans h.2.2.1, (hb.frozen (p := ⟨b, 1, none⟩) hB).trans h.2.2.2.1, (hb.frozen (p := ⟨b, 2, none⟩) hB).trans h.2.2.2.2.1, (hb.frozen (p := ⟨b, 3, none⟩) hB).trans h.2.2.2.2.2⟩
theorem B4F.below {W W' : World} {b : Nat} {x0 x1 x2 x3 : Value} (h : B4F W b x0 x1 x2 x3) (hb : Below W.heap.size W W') : B4F W' b x0 x1 x2 x3 := h.belowB hb h.1
theorem B4F.new (W : World) (x0 x1 x2 x3 : Value) (t : TypeId) : B4F (W.alloc (.cells #[x0, x1, x2, x3] t)) W.heap.size x0 x1 x2 x3 := ⟨by simp, ⟨by simp, by simp, by simp, by simp⟩, by simp, by simp, by simp, by simp⟩

/-- The boxes at the head of a replay. -/
def RpS (w : World) (vt : Value) (W : World) : Prop := Below w.heap.size w W ∧ w.heap.size + 2 ≤ W.heap.size ∧ W.cell? ⟨w.heap.size, 0, none⟩ = some vt ∧ B4F W (w.heap.size + 1) (.slice none 0 0) (.int .i64 0) (.int .i64 0) (.int .i64 0)
theorem RpS.belowB {w : World} {vt : Value} {W W' : World} {B : Nat} (h : RpS w vt W) (hb : Below B W W') (hB : w.heap.size + 2 ≤ B) : RpS w vt W' :=
  ⟨h.1.trans (hb.mono (by omega)), Nat.le_trans h.2.1 hb.size, (hb.cell (p := ⟨w.heap.size, 0, none⟩) (by show w.heap.size < _; omega)).trans h.2.2.1, h.2.2.2.belowB hb (by omega)⟩
theorem RpS.below {w : World} {vt : Value} {W W' : World} (h : RpS w vt W) (hb : Below W.heap.size W W') : RpS w vt W' := h.belowB hb h.2.1
theorem RpS.new (w : World) (vt : Value) (t1 t2 : TypeId) : RpS w vt ((w.alloc (.cells #[vt] t1)).alloc (.cells #[.slice none 0 0, .int .i64 0, .int .i64 0, .int .i64 0] t2)) := by
  refine ⟨((Below.refl _ _).alloc (Nat.le_refl _) _).alloc (by simp) _, by simp, ?_, ?_⟩
  · exact (((Below.refl _ _).alloc (Nat.le_refl _) _).cell (p := ⟨w.heap.size, 0, none⟩) (show w.heap.size < _ by simp)).trans (by simp)
  · have := B4F.new (w.alloc (.cells #[vt] t1)) (.slice none 0 0) (.int .i64 0) (.int .i64 0) (.int .i64 0) t2
    simpa using this

theorem B4F.set0 {W : World} {b : Nat} {x0 x1 x2 x3 : Value} (h : B4F W b x0 x1 x2 x3) (u : Value) : B4F (W.setCell ⟨b, 0, none⟩ u) b u x1 x2 x3 :=
  ⟨by simpa using h.1, ⟨World.cell?_setCell_same _ _ _ h.2.1.1, (World.cell?_setCell_other _ _ _ _ (by simp)).trans h.2.1.2.1, (World.cell?_setCell_other _ _ _ _ (by simp)).trans h.2.1.2.2.1, (World.cell?_setCell_other _ _ _ _ (by simp)).trans h.2.1.2.2.2⟩, by simpa using h.2.2.1, by simpa using h.2.2.2.1, by simpa using h.2.2.2.2.1, by simpa using h.2.2.2.2.2⟩
theorem B4F.set1 {W : World} {b : Nat} {x0 x1 x2 x3 : Value} (h : B4F W b x0 x1 x2 x3) (u : Value) : B4F (W.setCell ⟨b, 1, none⟩ u) b x0 u x2 x3 :=
  ⟨by simpa using h.1, ⟨(World.cell?_setCell_other _ _ _ _ (by simp)).trans h.2.1.1, World.cell?_setCell_same _ _ _ h.2.1.2.1, (World.cell?_setCell_other _ _ _ _ (by simp)).trans h.2.1.2.2.1, (World.cell?_setCell_other _ _ _ _ (by simp)).trans h.2.1.2.2.2⟩, by simpa using h.2.2.1, by simpa using h.2.2.2.1, by simpa using h.2.2.2.2.1, by simpa using h.2.2.2.2.2⟩
theorem B4F.set2 {W : World} {b : Nat} {x0 x1 x2 x3 : Value} (h : B4F W b x0 x1 x2 x3) (u : Value) : B4F (W.setCell ⟨b, 2, none⟩ u) b x0 x1 u x3 :=
  ⟨by simpa using h.1, ⟨(World.cell?_setCell_other _ _ _ _ (by simp)).trans h.2.1.1, (World.cell?_setCell_other _ _ _ _ (by simp)).trans h.2.1.2.1, World.cell?_setCell_same _ _ _ h.2.1.2.2.1, (World.cell?_setCell_other _ _ _ _ (by simp)).trans h.2.1.2.2.2⟩, by simpa using h.2.2.1, by simpa using h.2.2.2.1, by simpa using h.2.2.2.2.1, by simpa using h.2.2.2.2.2⟩
theorem B4F.set3 {W : World} {b : Nat} {x0 x1 x2 x3 : Value} (h : B4F W b x0 x1 x2 x3) (u : Value) : B4F (W.setCell ⟨b, 3, none⟩ u) b x0 x1 x2 u :=
  ⟨by simpa using h.1, ⟨(World.cell?_setCell_other _ _ _ _ (by simp)).trans h.2.1.1, (World.cell?_setCell_other _ _ _ _ (by simp)).trans h.2.1.2.1, (World.cell?_setCell_other _ _ _ _ (by simp)).trans h.2.1.2.2.1, World.cell?_setCell_same _ _ _ h.2.1.2.2.2⟩, by simpa using h.2.2.1, by simpa using h.2.2.2.1, by simpa using h.2.2.2.2.1, by simpa using h.2.2.2.2.2⟩

/-- What a replay answers. -/
def RpPost (w : World) (R : List (List Int × Nat)) (res : List Nd × Int × Nat) (e : Ending) (w' : World) : Prop :=
  ∃ v, e = .returned (.agg #[v, .int .i64 res.2.1, .int .i64 (res.2.2 : Int), .int .i64 ((pos R res.2.2 : Nat) : Int)]) ∧ OwnN 84 w' w.heap.size v res.1 ∧ Below w.heap.size w w'

theorem field_scan (x y : Value) (W : World) : (Instr.field 101 (.agg #[x, y]) 0).run Tryd.prog W = .ok x W := by kernel_rfl

/-- The replay under way: k records taken. -/
structure Rp (w : World) (vt : Value) (Bo : Nat) (R : List (List Int × Nat)) (start : Int) (res : List Nd × Int × Nat) (k : Nat) (v : Value) (ns : List Nd) (zx last : Int) (W : World) : Prop where
  head : RpS w vt W
  out : B4F W Bo v (.int .i64 zx) (.int .i64 (k : Int)) (.int .i64 ((pos R k : Nat) : Int))
  own : OwnN 84 W (w.heap.size + 2) v ns
  ne : v.ownBlock ≠ some Bo
  good : Good ns
  len : ns.length ≤ 1000
  zx0 : -1 ≤ zx ∧ zx ≤ 2147483647
  last0 : 0 < k → 1 ≤ last ∧ last ≤ 2147483647
  goes : rpl start k ((R.drop k).map (·.1)) ns zx last = res
theorem Rp.below {w : World} {vt : Value} {Bo : Nat} {R : List (List Int × Nat)} {start : Int} {res : List Nd × Int × Nat} {k : Nat} {v : Value} {ns : List Nd} {zx last : Int} {W W' : World} (h : Rp w vt Bo R start res k v ns zx last W) (hb : Below W.heap.size W W') : Rp w vt Bo R start res k v ns zx last W' :=
  ⟨h.head.below hb, h.out.below hb, h.own.below hb, h.ne, h.good, h.len, h.zx0, h.last0, h.goes⟩

/-- A cell of the answer's box is written. -/
theorem RpS.setO {w : World} {vt : Value} {W : World} {b j : Nat} (h : RpS w vt W) (hb : w.heap.size + 2 ≤ b) (u : Value) : RpS w vt (W.setCell ⟨b, j, none⟩ u) := h.belowB (B := b) (by refine Below.setCell (Below.refl _ _) ?_ _; exact Nat.le_refl _) hb
/-- One record more. -/
theorem Rp.next {w : World} {vt : Value} {Bo : Nat} {R : List (List Int × Nat)} {start : Int} {res : List Nd × Int × Nat} {k : Nat} {v : Value} {ns : List Nd} {zx z : Int} {X w' : World} (hb : w.heap.size + 2 ≤ Bo) (h1 : RpS w vt X) (h2 : B4F X Bo v (.int .i64 zx) (.int .i64 ((k : Int) + 1)) (.int .i64 ((pos R k : Nat) : Int))) (h3 : OwnN 84 X (w.heap.size + 2) v ns) (h4 : v.ownBlock ≠ some Bo) (h5 : Good ns) (h5l : ns.length ≤ 1000) (h6 : -1 ≤ zx ∧ zx ≤ 2147483647) (h7 : 1 ≤ z ∧ z ≤ 2147483647) (h8 : rpl start (k + 1) ((R.drop (k + 1)).map (·.1)) ns zx z = res) (hw : Below X.heap.size X w') (u : Value) (hu : u = .int .i64 ((pos R (k + 1) : Nat) : Int)) :
    Rp w vt Bo R start res (k + 1) v ns zx z (w'.setCell ⟨Bo, 3, none⟩ u) :=
  ⟨(h1.below hw).setO hb _, by subst hu; have := (h2.below hw).set3 (.int .i64 ((pos R (k + 1) : Nat) : Int)); rw [show ((k + 1 : Nat) : Int) = (k : Int) + 1 by omega]; exact this, (h3.below hw).setO h4 _, h4, h5, h5l, h6, fun _ => h7, h8⟩
theorem pR_map (R : List (List Int × Nat)) (k : Nat) (hk : k < R.length) : pR (R.map (·.1)) k = (R.getD k ([], 0)).1 := by
  unfold pR
  simp [List.getD, hk]
theorem rec_byt {n : Nat} {a : List Int} (hl : a.length = n) (k : Nat) (hk : k < (scn n a).length) : Byt (pR ((scn n a).map (·.1)) k) ∧ (pR ((scn n a).map (·.1)) k).length ≤ 2000 ∧ (fr (pR ((scn n a).map (·.1)) k)).length = ((scn n a).getD k ([], 0)).2 := by
  obtain ⟨h1, h2⟩ := (scn_all n a (by rw [hl]; exact Nat.le_refl _)).1 k hk
  rw [pR_map _ _ hk, h2]
  exact ⟨(by unfold frm_p unp; split; exact byt_up _; exact fun x hx => by simp at hx), ((frmB_iff _).1 h1).2.2.2.2.2, frame_size h1⟩
theorem rec_drop (R : List (List Int × Nat)) (k : Nat) (hk : k < R.length) : (R.drop k).map (·.1) = pR (R.map (·.1)) k :: (R.drop (k + 1)).map (·.1) := by
  rw [List.drop_eq_getElem_cons hk, List.map_cons, pR_map _ _ hk]
  simp [List.getD, hk]


end Go.Proofs.YtcopcegamadkgaaDoor

