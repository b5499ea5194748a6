import Derived.Test.YtmgolinleiahpaaDoorJ07
import Derived.Test.YtmgolinleiahpaaDoorRows
import Derived.Deep.RegionWith
import Derived.Test.YtmgolinleiahpaaDoorJ01
import Derived.Deep.RegionLaw
import Derived.Laws.Cover3
import Derived.Deep.MidRow
import Derived.Laws.CopyOwn
import Derived.BigRegion
import Derived.Deep.AppendLies
namespace Go.Proofs.YtmgolinleiahpaaDoor
open Go.RowKit

/-- A row of another block is not the row that was written. -/
theorem own_ne {k : IntKind} {e e' : TypeId} {w w' : World} {B B' : Nat} {v v' : Value} {xs xs' : List Int} (h : Own k e w B v xs) (h' : Own k e' w' B' v' xs') (hlt : w.heap.size ≤ B') : v.ownBlock = none ∨ v.ownBlock ≠ v'.ownBlock := by
  cases hv : v.ownBlock with
  | none => exact .inl rfl
  | some g =>
    refine .inr fun e => ?_
    have h1 := (h.lt g hv).2
    have h2 := (h'.lt g e.symm).1
    omega

theorem own_ne' {k : IntKind} {e e' : TypeId} {w w' : World} {B B' : Nat} {v v' : Value} {xs xs' : List Int} (h : Own k e w B v xs) (h' : Own k e' w' B' v' xs') (hlt : w.heap.size ≤ B') : v'.ownBlock = none ∨ v'.ownBlock ≠ v.ownBlock := by
  cases hv : v'.ownBlock with
  | none => exact .inl rfl
  | some g =>
    refine .inr fun e => ?_
    have h1 := (h.lt g e.symm).2
    have h2 := (h'.lt g hv).1
    omega


end Go.Proofs.YtmgolinleiahpaaDoor

namespace Go.Proofs.YtmgolinleiahpaaDoor
open Go.RowKit




/-- A local struct of one cell. -/
def Box (w : World) (b : Nat) (v : Value) : Prop := b < w.heap.size ∧ w.cell? ⟨b, 0, none⟩ = some v
theorem Box.below {w w' : World} {b : Nat} {v : Value} (h : Box w b v) (hb : Below w.heap.size w w') : Box w' b v :=
  ⟨Nat.lt_of_lt_of_le h.1 hb.size, (hb.cell (p := ⟨b, 0, none⟩) h.1).trans h.2⟩
theorem Box.other {w w' : World} {b : Nat} {v : Value} {row : Option Nat} (h : Box w b v) (hg : w.grownBy w' row) (hne : some b ≠ row) : Box w' b v :=
  ⟨Nat.lt_of_lt_of_le h.1 hg.size, hg.cell h.2 hne⟩
theorem Box.new (w : World) (v : Value) (t : TypeId) : Box (w.alloc (.cells #[v] t)) w.heap.size v := ⟨by simp, by simp⟩
theorem Box.drewN {w : World} {b : Nat} {v : Value} (h : Box w b v) (n : Nat) : Box (w.drewN n) b v := h

/-- A block made behind a row is not that row; nor one made ahead of it. -/
theorem own_box {k : IntKind} {e : TypeId} {w : World} {B b : Nat} {v : Value} {xs : List Int} (h : Own k e w B v xs) (hb : w.heap.size ≤ b) : some b ≠ v.ownBlock := by
  intro e; have := (h.lt b e.symm).2; omega
theorem box_own {k : IntKind} {e : TypeId} {w : World} {B b : Nat} {v : Value} {xs : List Int} (h : Own k e w B v xs) (hb : b < B) : some b ≠ v.ownBlock := by
  intro e; have := (h.lt b e.symm).1; omega

end Go.Proofs.YtmgolinleiahpaaDoor

namespace Go.Proofs.YtmgolinleiahpaaDoor
open Go.RowKit

def frm_m (a : List Int) : Nat := (a.getD 0 0).toNat % 128 * 128 + (a.getD 1 0).toNat % 128
def frm_p (a : List Int) : List Int := unp ((a.drop 2).take (frm_m a))
def frm_ok (a : List Int) : Prop := 2 ≤ a.length ∧ 128 ≤ a.getD 0 0 ∧ 128 ≤ a.getD 1 0 ∧ 2 + frm_m a ≤ a.length ∧ frm_p a ≠ [] ∧ (frm_p a).length ≤ 2000
/-- Is there a record at the beginning of the bytes? -/
def frmB (a : List Int) : Bool := decide (2 ≤ a.length) && decide (128 ≤ a.getD 0 0) && decide (128 ≤ a.getD 1 0) && decide (2 + frm_m a ≤ a.length) && decide (frm_p a ≠ []) && decide ((frm_p a).length ≤ 2000)
theorem frmB_iff (a : List Int) : frmB a = true ↔ frm_ok a := by
  unfold frmB frm_ok
  simp only [Bool.and_eq_true, decide_eq_true_eq, and_assoc]
theorem frmB_no {a : List Int} (h : ¬ frm_ok a) : frmB a = false := by
  cases e : frmB a with
  | false => rfl
  | true => exact absurd ((frmB_iff a).1 e) h

/-- The records one behind the other, and how many bytes each takes. -/
def scn : Nat → List Int → List (List Int × Nat)
  | 0, _ => []
  | f + 1, a => if frmB a then (frm_p a, 2 + frm_m a) :: scn f (a.drop (2 + frm_m a)) else []

def pos (R : List (List Int × Nat)) (k : Nat) : Nat := ((R.take k).map (·.2)).sum
theorem pos_zero (R : List (List Int × Nat)) : pos R 0 = 0 := by simp [pos]
theorem pos_cons (r : List Int × Nat) (R : List (List Int × Nat)) (k : Nat) : pos (r :: R) (k + 1) = r.2 + pos R k := by simp [pos]

theorem scn_all : ∀ (f : Nat) (a : List Int), a.length ≤ f →
    (∀ k, k < (scn f a).length → frmB (a.drop (pos (scn f a) k)) = true ∧ (scn f a).getD k ([], 0) = (frm_p (a.drop (pos (scn f a) k)), 2 + frm_m (a.drop (pos (scn f a) k)))) ∧
    frmB (a.drop (pos (scn f a) (scn f a).length)) = false ∧ (∀ k, k ≤ (scn f a).length → pos (scn f a) k ≤ a.length)
  | 0, a, h => by
    have : a = [] := List.eq_nil_of_length_eq_zero (by omega)
    subst this
    exact ⟨fun k hk => by simp [scn] at hk, by rfl, fun k hk => by simp [scn] at hk; subst hk; simp [pos]⟩
  | f + 1, a, h => by
    cases e : frmB a with
    | false =>
      have hs : scn (f + 1) a = [] := by unfold scn; rw [e]; simp
      rw [hs]
      exact ⟨fun k hk => by simp at hk, by simpa [pos] using e, fun k hk => by simp at hk; subst hk; simp [pos]⟩
    | true =>
      have hs : scn (f + 1) a = (frm_p a, 2 + frm_m a) :: scn f (a.drop (2 + frm_m a)) := by
        conv => lhs; unfold scn
        rw [e]; simp
      obtain ⟨k1, k2, k3, k4, -⟩ := (frmB_iff a).1 e
      obtain ⟨i1, i2, i3⟩ := scn_all f (a.drop (2 + frm_m a)) (by rw [List.length_drop]; omega)
      rw [hs]
      refine ⟨fun k hk => ?_, ?_, fun k hk => ?_⟩
      · cases k with
        | zero => rw [pos_zero, List.drop_zero]; exact ⟨e, rfl⟩
        | succ k =>
          have := i1 k (by simpa using hk)
          rw [pos_cons, ← List.drop_drop]
          exact this
      · rw [List.length_cons, pos_cons, ← List.drop_drop]; exact i2
      · cases k with
        | zero => rw [pos_zero]; exact Nat.zero_le _
        | succ k =>
          have := i3 k (by simpa using hk)
          rw [List.length_drop] at this
          rw [pos_cons]
          show 2 + frm_m a + _ ≤ _
          omega

theorem pos_succ (R : List (List Int × Nat)) (k : Nat) (h : k < R.length) : pos R (k + 1) = pos R k + (R.getD k ([], 0)).2 := by
  unfold pos
  rw [List.take_succ_eq_append_getElem h, List.map_append, List.sum_append]
  simp [List.getD, h]

theorem unp_nil : unp [] = [] := by rfl

end Go.Proofs.YtmgolinleiahpaaDoor

namespace Go.Proofs.YtmgolinleiahpaaDoor
open Go.RowKit

def zeros (n : Nat) : List Int := List.replicate n 0
theorem zeros_len (n : Nat) : (zeros n).length = n := by simp [zeros]

/-- How many bytes a new disk has. -/
def ndl (k : Int) : Nat := if 1 ≤ k ∧ k ≤ 300 then k.toNat * 64 else 0

theorem box2_later {w w1 : World} {x y : Value} {t : TypeId} (hb : Below (w.alloc (.cells #[x, y] t)).heap.size (w.alloc (.cells #[x, y] t)) w1) :
    w1.cell? ⟨w.heap.size, 0, none⟩ = some x ∧ w1.cell? ⟨w.heap.size, 1, none⟩ = some y ∧ w1.frozen? ⟨w.heap.size, 0, none⟩ = false ∧ w1.frozen? ⟨w.heap.size, 1, none⟩ = false ∧ w.heap.size < w1.heap.size := by
  obtain ⟨hc, hf⟩ := bcell hb
  have hs := hb.size
  simp at hs
  refine ⟨?_, ?_, ?_, ?_, by omega⟩
  · rw [hc _ _ (by simp)]; simp
  · rw [hc _ _ (by simp)]; simp
  · rw [hf _ _ (by simp)]; simp
  · rw [hf _ _ (by simp)]; simp

set_option maxHeartbeats 400000 in
set_option maxRecDepth 100000 in
theorem implNewDisk_any (w : World) (k : Int) :
    Calls Tryd.prog 40 #[.int .i64 k] w fun e w' => ∃ v', e = .returned (.agg #[v', .slice none 0 0]) ∧ Own .u8 5 w' w.heap.size v' (zeros (ndl k)) ∧ Below w.heap.size w w' := by
  obtain ⟨i0, hi, hz0, hz1, hz2⟩ := info_parts Tryd.infoB
  by_cases h1 : k < 1
  · have e : ndl k = 0 := if_neg (by omega)
    rw [e]
    go_enter Tryd.func40, Tryd.ntmps40
    go_wp2
    exact bodyPost_ret (v := .agg #[.slice none 0 0, .slice none 0 0]) (by simp [results, Tryd.results40, go_sem]) rfl ⟨_, rfl, World.ownsRow_nil _ _ _ _, (Below.refl _ _).alloc (Nat.le_refl _) _⟩
  · by_cases h2 : 300 < k
    · have e : ndl k = 0 := if_neg (by omega)
      rw [e]
      go_enter Tryd.func40, Tryd.ntmps40
      go_wp2
      exact bodyPost_ret (v := .agg #[.slice none 0 0, .slice none 0 0]) (by simp [results, Tryd.results40, go_sem]) rfl ⟨_, rfl, World.ownsRow_nil _ _ _ _, (Below.refl _ _).alloc (Nat.le_refl _) _⟩
    · obtain ⟨n, rfl⟩ : ∃ n : Nat, k = (n : Int) := ⟨k.toNat, by omega⟩
      have e : ndl (n : Int) = n * 64 := by unfold ndl; rw [if_pos (by omega), Int.toNat_natCast]
      rw [e]
      clear e
      go_enter Tryd.func40, Tryd.ntmps40
      go_wp2_with (at_make; go_must (refine wpList_make_full _ rfl _ _ 24 rfl (w.heap.size + 1) 5 i0 (.int .u8 0) 1 Tryd.underlying24 hi hz0 hz1 _ _ _ _ (n * 64) rfl rfl ?a1 ?a2 ?b2 ?b3 ?b4 ?_))
      case b2 => omega
      case b3 => unfold maxLen; omega
      intro w1 hown hgrow
      have B1 : Below (w.alloc (.cells #[.slice none 0 0, .slice none 0 0] 27)).heap.size (w.alloc (.cells #[.slice none 0 0, .slice none 0 0] 27)) w1 := (Below.refl _ _).grown hgrow (Nat.le_refl _) (by simp)
      obtain ⟨c0, c1, f0, f1, z1⟩ := box2_later B1
      have HB : Hid (Below w.heap.size w w1) := ((Below.refl _ _).alloc (Nat.le_refl _) _).trans (B1.mono (by simp))
      have HO : Hid (Own .u8 5 w1 (w.heap.size + 1) (.slice (some ⟨w.heap.size + 1, 0, none⟩) (n * 64) (n * 64)) (List.replicate (n * 64) 0)) := own_zeros (by simpa using hown)
      clear hown hgrow B1
      go_wp2
      refine bodyPost_ret (v := .agg #[.slice (some ⟨w.heap.size + 1, 0, none⟩) (n * 64) (n * 64), .slice none 0 0]) (by simp [results, Tryd.results40, go_sem, c0, c1]) rfl ⟨_, rfl, ?_, ?_⟩
      · exact (Own.setBelow (Own.setBelow HO.out (a := ⟨w.heap.size, 0, none⟩) (by simp) _) (a := ⟨w.heap.size, 1, none⟩) (by simp) _).mono (by omega)
      · exact (HB.out.setCell (Nat.le_refl _) _).setCell (Nat.le_refl _) _


set_option maxHeartbeats 400000 in
theorem eqWriteS_nil (w : World) (ao bo : Option Addr) (ca cb : Nat) :
    Calls Tryd.prog 48 #[.slice ao 0 ca, .slice bo 0 cb] w fun e w' => e = .returned (.bool true) ∧ w' = w := by
  go_enter Tryd.func48, Tryd.ntmps48
  go_wp2
  go_rounds 1
  go_ret
  exact ⟨rfl, rfl⟩

set_option maxHeartbeats 400000 in
theorem markWriteS_nil (w : World) (ao : Option Addr) (ca : Nat) (k : Int) :
    Calls Tryd.prog 49 #[.slice ao 0 ca, .int .i64 k] w fun e w' => e = .returned (.int .i64 k) ∧ w' = w := by
  go_enter Tryd.func49, Tryd.ntmps49
  go_wp2
  go_rounds 1
  go_ret
  exact ⟨rfl, rfl⟩

set_option maxHeartbeats 400000 in
theorem heldWriteS_nil (w : World) (ao : Option Addr) (ca : Nat) (k : Int) :
    Calls Tryd.prog 51 #[.slice ao 0 ca, .int .i64 k] w fun e w' => e = .returned (.int .i64 k) ∧ w' = w := by
  go_enter Tryd.func51, Tryd.ntmps51
  go_wp2
  go_rounds 1
  go_ret
  exact ⟨rfl, rfl⟩

set_option maxHeartbeats 400000 in
theorem eqDisk_nil (w : World) (va vb : Value) (xs ys : List Int) (ao bo : Option Addr) (ca cb : Nat) (ha : Rd .u8 w va xs) (hb : Rd .u8 w vb ys) :
    Calls Tryd.prog 9 #[.agg #[va, .slice ao 0 ca], .agg #[vb, .slice bo 0 cb]] w fun e w' => e = .returned (.bool (decide (xs = ys))) ∧ Below w.heap.size w w' := by
  have B0 : Hid (Below w.heap.size w ((w.alloc (.cells #[va, .slice ao 0 ca] 27)).alloc (.cells #[vb, .slice bo 0 cb] 27))) := ((Below.refl _ _).alloc (Nat.le_refl _) _).alloc (by simp) _
  have RA : Hid (Rd .u8 ((w.alloc (.cells #[va, .slice ao 0 ca] 27)).alloc (.cells #[vb, .slice bo 0 cb] 27)) va xs) := ha.below B0.out
  have RB : Hid (Rd .u8 ((w.alloc (.cells #[va, .slice ao 0 ca] 27)).alloc (.cells #[vb, .slice bo 0 cb] 27)) vb ys) := hb.below B0.out
  clear ha hb
  go_enter Tryd.func9, Tryd.ntmps9
  go_wp2_with fail
  refine (eqByteS_any _ _ _ xs ys RA.out RB.out).mono ?_
  rintro e w1 ⟨rfl, q1, rfl⟩
  have BE : Hid (Below w.heap.size w (((w.alloc (.cells #[va, .slice ao 0 ca] 27)).alloc (.cells #[vb, .slice bo 0 cb] 27)).drewN q1)) := B0.out.trans ((below_drewN' _ q1).mono (by simp; omega))
  by_cases h : xs = ys
  · have hd : decide (xs = ys) = true := by simp [h]
    rw [hd]
    clear h
    go_wp2_with fail
    refine (eqWriteS_nil _ _ _ _ _).mono ?_
    rintro e w2 ⟨rfl, hw⟩
    subst hw
    go_wp2
    go_ret
    exact ⟨ret_bool hd.symm, BE.out⟩
  · have hd : decide (xs = ys) = false := by simp [h]
    rw [hd]
    clear h
    go_wp2
    go_ret
    exact ⟨ret_bool hd.symm, BE.out⟩

set_option maxHeartbeats 400000 in
theorem markDisk_nil (w : World) (base : Nat) (v : Value) (xs : List Int) (ao : Option Addr) (ca : Nat) (k : Int) (hown : Own .u8 5 w base v xs) (hk0 : 0 ≤ k) (hk1 : k ≤ 1099511627776) (hn : xs.length ≤ 1099511627776) :
    Calls Tryd.prog 10 #[.agg #[v, .slice ao 0 ca], .int .i64 k] w fun e w' => e = .returned (.int .i64 (k + xs.length)) ∧ Own .u8 5 w' base v (marks k xs.length) ∧ w.grownBy w' v.ownBlock := by
  have HO : Hid (Own .u8 5 (w.alloc (.cells #[v, .slice ao 0 ca] 27)) base v xs) := World.ownsRow.alloc hown _
  have NB : Hid (some w.heap.size ≠ v.ownBlock) := own_box hown (Nat.le_refl _)
  clear hown
  go_enter Tryd.func10, Tryd.ntmps10
  go_wp2_with fail
  refine (markByteS_any _ base _ xs k HO.out hk0 hk1 hn).mono ?_
  rintro e w1 ⟨rfl, o1, g1⟩
  have O1 : Hid (Own .u8 5 w1 base v (marks k xs.length)) := o1
  have G1 : Hid (w.grownBy w1 v.ownBlock) := ⟨g1.os, g1.tape, g1.output, by have := g1.size; simp at this; omega, fun j hj hne => (g1.block j (by simp; omega) hne).trans (Below.heap_alloc _ _ _ hj)⟩
  have c1 : w1.cell? ⟨w.heap.size, 1, none⟩ = some (.slice ao 0 ca) := g1.cell (a := ⟨w.heap.size, 1, none⟩) (by simp) NB.out
  clear o1 g1
  go_wp2_with fail
  refine (markWriteS_nil _ _ _ _).mono ?_
  rintro e w2 ⟨rfl, hw⟩
  subst hw
  go_wp2
  go_ret
  exact ⟨rfl, O1.out, G1.out⟩

set_option maxHeartbeats 400000 in
theorem heldDisk_nil (w : World) (v : Value) (n : Nat) (ao : Option Addr) (ca : Nat) (k : Int) (h : Rd .u8 w v (marks k n)) (hk0 : 0 ≤ k) (hk1 : k ≤ 1099511627776) (hn : n ≤ 1099511627776) :
    Calls Tryd.prog 11 #[.agg #[v, .slice ao 0 ca], .int .i64 k] w fun e w' => e = .returned (.int .i64 (k + n)) ∧ Below w.heap.size w w' := by
  have HR : Hid (Rd .u8 (w.alloc (.cells #[v, .slice ao 0 ca] 27)) v (marks k n)) := h.below ((Below.refl _ _).alloc (Nat.le_refl _) _)
  clear h
  go_enter Tryd.func11, Tryd.ntmps11
  go_wp2_with fail
  refine (heldByteS_any _ _ n k HR.out hk0 hk1 hn).mono ?_
  rintro e w1 ⟨rfl, hw⟩
  subst hw
  have h0 : ¬ (k + (n : Int)) < 0 := by omega
  go_wp2_with fail
  refine (heldWriteS_nil _ _ _ _).mono ?_
  rintro e w2 ⟨rfl, hw⟩
  subst hw
  go_wp2
  go_ret
  exact ⟨rfl, (Below.refl _ _).alloc (Nat.le_refl _) _⟩

end Go.Proofs.YtmgolinleiahpaaDoor

namespace Go.Proofs.YtmgolinleiahpaaDoor
open Go.RowKit

/-- A local struct of two cells. -/
def Box2 (w : World) (b : Nat) (x y : Value) : Prop := b < w.heap.size ∧ w.cell? ⟨b, 0, none⟩ = some x ∧ w.cell? ⟨b, 1, none⟩ = some y
theorem Box2.below {w w' : World} {b : Nat} {x y : Value} (h : Box2 w b x y) (hb : Below w.heap.size w w') : Box2 w' b x y :=
  ⟨Nat.lt_of_lt_of_le h.1 hb.size, (hb.cell (p := ⟨b, 0, none⟩) h.1).trans h.2.1, (hb.cell (p := ⟨b, 1, none⟩) h.1).trans h.2.2⟩
theorem Box2.other {w w' : World} {b : Nat} {x y : Value} {row : Option Nat} (h : Box2 w b x y) (hg : w.grownBy w' row) (hne : some b ≠ row) : Box2 w' b x y :=
  ⟨Nat.lt_of_lt_of_le h.1 hg.size, hg.cell h.2.1 hne, hg.cell h.2.2 hne⟩
theorem Box2.new (w : World) (x y : Value) (t : TypeId) : Box2 (w.alloc (.cells #[x, y] t)) w.heap.size x y := ⟨by simp, by simp, by simp⟩


end Go.Proofs.YtmgolinleiahpaaDoor

namespace Go.Proofs.YtmgolinleiahpaaDoor
open Go.RowKit

def pB (ps : List (Int × List Int)) (i : Nat) : Int := (ps.getD i (0, [])).1
def pD (ps : List (Int × List Int)) (i : Nat) : List Int := (ps.getD i (0, [])).2

/-- A slice of records (a number and a list of bytes) that reads as ps. -/
def RdW (w : World) (v : Value) (ps : List (Int × List Int)) : Prop :=
  ∃ ao cap, v = .slice ao ps.length cap ∧ ps.length ≤ cap ∧ cap ≤ maxLen ∧
    (ps = [] ∨ ∃ b off, ao = some ⟨b, off, none⟩ ∧ b < w.heap.size ∧ ∀ i, i < ps.length →
      w.cell? ⟨b, off + i * 2, none⟩ = some (.int .i64 (pB ps i)) ∧ ∃ da c, w.cell? ⟨b, off + i * 2 + 1, none⟩ = some (.slice da (pD ps i).length c) ∧ Rd .u8 w (.slice da (pD ps i).length c) (pD ps i))

theorem RdW.len {w : World} {v : Value} {ps : List (Int × List Int)} (h : RdW w v ps) : ∃ ao cap, v = .slice ao ps.length cap ∧ ps.length ≤ cap ∧ cap ≤ maxLen := by
  obtain ⟨ao, cap, h0, h1, h2, _⟩ := h
  exact ⟨ao, cap, h0, h1, h2⟩

theorem RdW.below {w w' : World} {v : Value} {ps : List (Int × List Int)} (h : RdW w v ps) (hb : Below w.heap.size w w') : RdW w' v ps := by
  obtain ⟨ao, cap, rfl, h1, h2, h3⟩ := h
  refine ⟨ao, cap, rfl, h1, h2, ?_⟩
  rcases h3 with h3 | ⟨b, off, rfl, hlt, hc⟩
  · exact .inl h3
  · refine .inr ⟨b, off, rfl, Nat.lt_of_lt_of_le hlt hb.size, fun i hi => ?_⟩
    obtain ⟨c1, da, c, c2, r⟩ := hc i hi
    exact ⟨(hb.cell (p := ⟨b, _, none⟩) hlt).trans c1, da, c, (hb.cell (p := ⟨b, _, none⟩) hlt).trans c2, r.below hb⟩

def tot (ps : List (Int × List Int)) : Nat := (ps.map fun p => p.2.length).sum
theorem tot_take_succ (ps : List (Int × List Int)) (k : Nat) (h : k < ps.length) : tot (ps.take (k + 1)) = tot (ps.take k) + (pD ps k).length := by
  unfold tot pD
  rw [List.take_succ_eq_append_getElem h, List.map_append, List.sum_append]
  simp [List.getD, h]
theorem tot_all (ps : List (Int × List Int)) (k : Nat) (h : ps.length ≤ k) : tot (ps.take k) = tot ps := by rw [List.take_of_length_le h]







end Go.Proofs.YtmgolinleiahpaaDoor

namespace Go.Proofs.YtmgolinleiahpaaDoor
open Go.RowKit

/-! ### rows of records -/
def rowW (n : Nat) (f : Nat → Int) (g : Nat → Value) : List Value := (List.range n).flatMap fun i => [.int .i64 (f i), g i]

theorem rowW_succ (n : Nat) (f : Nat → Int) (g : Nat → Value) : rowW (n + 1) f g = rowW n f g ++ [.int .i64 (f n), g n] := by
  unfold rowW; rw [List.range_succ, List.flatMap_append]; simp
theorem rowW_length (n : Nat) (f : Nat → Int) (g : Nat → Value) : (rowW n f g).length = n * 2 := by
  induction n with
  | zero => rfl
  | succ n ih => rw [rowW_succ, List.length_append, ih]; simp; omega
theorem rowW_get (n : Nat) (f : Nat → Int) (g : Nat → Value) (j : Nat) (h : j < n * 2) : (rowW n f g)[j]? = some (if j % 2 = 0 then .int .i64 (f (j / 2)) else g (j / 2)) := by
  induction n with
  | zero => omega
  | succ n ih =>
    rw [rowW_succ]
    by_cases hj : j < n * 2
    · rw [List.getElem?_append_left (by rw [rowW_length]; exact hj), ih hj]
    · rw [List.getElem?_append_right (by rw [rowW_length]; omega), rowW_length]
      by_cases e : j = n * 2
      · subst e
        simp [show n * 2 % 2 = 0 by omega]
      · have e2 : j = n * 2 + 1 := by omega
        subst e2
        rw [if_neg (by omega), show n * 2 + 1 - n * 2 = 1 by omega, show (n * 2 + 1) / 2 = n by omega]
        rfl
theorem rowW_congr {n : Nat} {f f' : Nat → Int} {g g' : Nat → Value} (hf : ∀ i, i < n → f i = f' i) (hg : ∀ i, i < n → g i = g' i) : rowW n f g = rowW n f' g' := by
  unfold rowW
  rw [List.flatMap_def, List.flatMap_def]
  congr 1
  apply List.map_congr_left
  intro i hi
  have hi := List.mem_range.1 hi
  rw [hf i hi, hg i hi]
/-- Record k written. -/
theorem rowW_set {n : Nat} {f f' : Nat → Int} {g g' : Nat → Value} {k : Nat} (hk : k < n) (hf : ∀ i, i ≠ k → f i = f' i) (hg : ∀ i, i ≠ k → g i = g' i) :
    ((rowW n f g).set (k * 2) (.int .i64 (f' k))).set (k * 2 + 1) (g' k) = rowW n f' g' := by
  apply List.ext_getElem?
  intro j
  by_cases hj : j < n * 2
  · rw [List.getElem?_set, List.getElem?_set, rowW_get n f' g' j hj, rowW_get n f g j hj]
    simp only [List.length_set, rowW_length]
    by_cases e1 : k * 2 + 1 = j
    · rw [if_pos e1, if_pos (by omega), if_neg (by omega), show j / 2 = k by omega]
    · rw [if_neg e1]
      by_cases e2 : k * 2 = j
      · rw [if_pos e2, if_pos (by omega), if_pos (by omega), show j / 2 = k by omega]
      · rw [if_neg e2, hf _ (by omega), hg _ (by omega)]
  · rw [List.getElem?_eq_none (by simp [rowW_length]; omega), List.getElem?_eq_none (by rw [rowW_length]; omega)]

theorem rowW_zero (n : Nat) : (madeCells #[Value.int .i64 0, Value.slice none 0 0] (n * 2)).toList = rowW n (fun _ => 0) (fun _ => .slice none 0 0) := by
  apply List.ext_getElem?
  intro j
  by_cases hj : j < n * 2
  · rw [rowW_get _ _ _ _ hj]
    rcases Nat.mod_two_eq_zero_or_one j with e | e
    · simp [madeCells, hj, e]
    · simp [madeCells, hj, e]
  · simp [madeCells, hj, List.getElem?_eq_none (show (rowW n (fun _ => 0) (fun _ => Value.slice none 0 0)).length ≤ j by rw [rowW_length]; omega)]

def Ne2 (a b : Value) : Prop := a.ownBlock = none ∨ a.ownBlock ≠ b.ownBlock

theorem Own.slice {k : IntKind} {e : TypeId} {w : World} {lo : Nat} {v : Value} {xs : List Int} (h : Own k e w lo v xs) : ∃ a c, v = .slice a xs.length c := by
  obtain ⟨a, c, h0, _⟩ := h.rd.len
  exact ⟨a, c, h0⟩
theorem Own.setAt {k : IntKind} {e : TypeId} {w : World} {lo g j : Nat} {v u : Value} {xs : List Int} (h : Own k e w lo v xs) (hne : v.ownBlock = none ∨ v.ownBlock ≠ some g) : Own k e (w.setCell ⟨g, j, none⟩ u) lo v xs :=
  h.other (grownBy_set w w g j u (World.grownBy.refl _ _)) hne

/-- Bytes in a row of the call's own, whatever type the row is of. -/
def OwnB (w : World) (lo : Nat) (v : Value) (xs : List Int) : Prop := ∃ te, Own .u8 te w lo v xs
theorem Own.b {te : TypeId} {w : World} {lo : Nat} {v : Value} {xs : List Int} (h : Own .u8 te w lo v xs) : OwnB w lo v xs := ⟨te, h⟩
theorem OwnB.rd {w : World} {lo : Nat} {v : Value} {xs : List Int} (h : OwnB w lo v xs) : Rd .u8 w v xs := h.elim fun _ h => h.rd
theorem OwnB.below {w w' : World} {lo : Nat} {v : Value} {xs : List Int} (h : OwnB w lo v xs) (hb : Below w.heap.size w w') : OwnB w' lo v xs := h.elim fun _ h => ⟨_, h.below hb⟩
theorem OwnB.mono {w : World} {lo lo' : Nat} {v : Value} {xs : List Int} (h : OwnB w lo v xs) (hl : lo' ≤ lo) : OwnB w lo' v xs := h.elim fun _ h => ⟨_, h.mono hl⟩
theorem OwnB.other {w w' : World} {lo : Nat} {v : Value} {xs : List Int} {row : Option Nat} (h : OwnB w lo v xs) (hg : w.grownBy w' row) (hne : v.ownBlock = none ∨ v.ownBlock ≠ row) : OwnB w' lo v xs := h.elim fun _ h => ⟨_, h.other hg hne⟩
theorem OwnB.lt {w : World} {lo : Nat} {v : Value} {xs : List Int} (h : OwnB w lo v xs) : ∀ g, v.ownBlock = some g → lo ≤ g ∧ g < w.heap.size := h.elim fun _ h => h.lt
theorem OwnB.slice {w : World} {lo : Nat} {v : Value} {xs : List Int} (h : OwnB w lo v xs) : ∃ a c, v = .slice a xs.length c := h.elim fun _ h => h.slice
theorem OwnB.setAt {w : World} {lo g j : Nat} {v u : Value} {xs : List Int} (h : OwnB w lo v xs) (hne : v.ownBlock = none ∨ v.ownBlock ≠ some g) : OwnB (w.setCell ⟨g, j, none⟩ u) lo v xs := h.elim fun _ h => ⟨_, h.setAt hne⟩
theorem OwnB.setBelow {w : World} {lo : Nat} {v : Value} {xs : List Int} (h : OwnB w lo v xs) {a : Addr} (ha : a.block < lo) (u : Value) : OwnB (w.setCell a u) lo v xs := h.elim fun _ h => ⟨_, h.setBelow ha u⟩

/-- A slice of records that is the call's own, each list in a row of its own. -/
def OwnW (e : TypeId) (w : World) (lo : Nat) (v : Value) (ps : List (Int × List Int)) (dv : Nat → Value) : Prop :=
  w.ownsRow lo e 2 v ps.length (rowW ps.length (pB ps) dv) ∧ (∀ i, i < ps.length → OwnB w lo (dv i) (pD ps i)) ∧
  (∀ i j, i < ps.length → j < ps.length → i ≠ j → Ne2 (dv i) (dv j)) ∧ ∀ i, i < ps.length → Ne2 (dv i) v

theorem OwnW.rd {e : TypeId} {w : World} {lo : Nat} {v : Value} {ps : List (Int × List Int)} {dv : Nat → Value} (h : OwnW e w lo v ps dv) : RdW w v ps := by
  obtain ⟨ho, hd, _, _⟩ := h
  rcases ho.2 with ⟨rfl, h0⟩ | ⟨g, cap, cur, rfl, hb, hg, hn, hm, hs, ht⟩
  · have : ps = [] := List.eq_nil_of_length_eq_zero h0
    subst this
    exact ⟨none, 0, rfl, Nat.le_refl _, Nat.zero_le _, .inl rfl⟩
  · refine ⟨_, cap, rfl, hn, hm, .inr ⟨g, 0, rfl, (Array.getElem?_eq_some_iff.1 hg).1, fun i hi => ?_⟩⟩
    have c1 := World.ownsRow.cells ho (g := g) rfl (i * 2) _ (rowW_get _ _ _ _ (by omega))
    have c2 := World.ownsRow.cells ho (g := g) rfl (i * 2 + 1) _ (rowW_get _ _ _ _ (by omega))
    rw [Addr.add_lit] at c1 c2
    rw [if_pos (by omega), show i * 2 / 2 = i by omega] at c1
    rw [if_neg (by omega), show (i * 2 + 1) / 2 = i by omega] at c2
    obtain ⟨a, c, e⟩ := (hd i hi).slice
    refine ⟨c1, a, c, ?_, ?_⟩
    · rw [← e, Nat.add_assoc]; exact c2
    · rw [← e]; exact (hd i hi).rd

theorem OwnW.below {e : TypeId} {w w' : World} {lo : Nat} {v : Value} {ps : List (Int × List Int)} {dv : Nat → Value} (h : OwnW e w lo v ps dv) (hb : Below w.heap.size w w') : OwnW e w' lo v ps dv := by
  obtain ⟨ho, hd, h3, h4⟩ := h
  refine ⟨⟨ho.1, ?_⟩, fun i hi => (hd i hi).below hb, h3, h4⟩
  rcases ho.2 with hn | ⟨g, cap, cur, rfl, hbg, hgg, rest⟩
  · exact .inl hn
  · exact .inr ⟨g, cap, cur, rfl, hbg, by rw [hb.block g (Array.getElem?_eq_some_iff.1 hgg).1]; exact hgg, rest⟩

theorem OwnW.mono {e : TypeId} {w : World} {lo lo' : Nat} {v : Value} {ps : List (Int × List Int)} {dv : Nat → Value} (h : OwnW e w lo v ps dv) (hl : lo' ≤ lo) : OwnW e w lo' v ps dv := by
  obtain ⟨ho, hd, h3, h4⟩ := h
  refine ⟨⟨ho.1, ?_⟩, fun i hi => (hd i hi).mono hl, h3, h4⟩
  rcases ho.2 with hn | ⟨g, cap, cur, rfl, hbg, rest⟩
  · exact .inl hn
  · exact .inr ⟨g, cap, cur, rfl, by omega, rest⟩


end Go.Proofs.YtmgolinleiahpaaDoor

namespace Go.Proofs.YtmgolinleiahpaaDoor
open Go.RowKit

theorem Rd.cut {k : IntKind} {w : World} {ao : Option Addr} {n cap : Nat} {xs : List Int} (h : Rd k w (.slice ao n cap) xs) (hn : xs.length = n) (h0 : 0 < n) : ∃ blk o, ao = some ⟨blk, o, none⟩ ∧ blk < w.heap.size ∧ n ≤ cap ∧ cap ≤ maxLen ∧ ∀ i, i < n → w.cell? ⟨blk, o + i, none⟩ = some (.int k (xs.getD i 0)) := by
  obtain ⟨ao', cap', e, h1, h2, h3⟩ := h
  simp only [Value.slice.injEq] at e
  obtain ⟨rfl, hl, rfl⟩ := e
  rcases h3 with rfl | ⟨b, o, rfl, hb, hc⟩
  · simp at hn; omega
  · exact ⟨b, o, rfl, hb, by omega, h2, fun i hi => hc i (by omega)⟩

theorem rd_piece {k : IntKind} {w : World} {blk o n cap : Nat} {xs : List Int} (hb : blk < w.heap.size) (hc : ∀ i, i < n → w.cell? ⟨blk, o + i, none⟩ = some (.int k (xs.getD i 0))) (hn : xs.length = n) (i m : Nat) (hm : i + m ≤ n) (hcap : n ≤ cap) (hcm : cap ≤ maxLen) : Rd k w (.slice (some ⟨blk, o + i, none⟩) m (cap - i)) ((xs.drop i).take m) := by
  have hlen : ((xs.drop i).take m).length = m := by rw [List.length_take, List.length_drop]; omega
  refine ⟨_, cap - i, by rw [hlen], by omega, by omega, .inr ⟨blk, o + i, rfl, hb, fun j hj => ?_⟩⟩
  rw [hlen] at hj
  have := hc (i + j) (by omega)
  rw [Nat.add_assoc, this]
  simp [List.getD, List.getElem?_drop, hj]

theorem below_drewQ {B : Nat} {w w' : World} (h : Below B w w') (q : Nat) : Below B w (w'.drewN q) := ⟨h.os, h.tape, h.output, h.size, h.block⟩

theorem byt_piece {xs : List Int} (h : Byt xs) (i m : Nat) : Byt ((xs.drop i).take m) := fun x hx => h x (List.mem_of_mem_drop (List.mem_of_mem_take hx))

theorem box_set {w : World} {B : Nat} {v : Value} (h : Box w B v) (u : Value) : Box (w.setCell ⟨B, 0, none⟩ u) B u := ⟨by have h1 := h.1; go_simp, by have h2 := h.2; go_simp⟩
theorem box_alloc {w : World} {B : Nat} {v : Value} (h : Box w B v) (o : Obj) : Box (w.alloc o) B v := h.below ((Below.refl _ _).alloc (Nat.le_refl _) _)

set_option maxHeartbeats 2000000 in
set_option maxRecDepth 100000 in
theorem recordAt_any (w : World) (ao : Option Addr) (n cap : Nat) (a : List Int) (h : Rd .u8 w (.slice ao n cap) a) (hl : a.length = n) (hby : Byt a) (hn : n ≤ 8192) :
    Calls Tryd.prog 113 #[.slice ao n cap] w fun e w' => (∃ u s, e = .returned (.tuple #[.agg #[u], .int .i64 s]) ∧ ((frmB a = false ∧ s = 0 ∧ u = .slice none 0 0) ∨ (frmB a = true ∧ s = ((2 + frm_m a : Nat) : Int) ∧ Own .u8 5 w' w.heap.size u (frm_p a)))) ∧ Below w.heap.size w w' := by
  have B0 : Hid (Below w.heap.size w (w.alloc (.cells #[.slice none 0 0] 111))) := (Below.refl _ _).alloc (Nat.le_refl _) _
  have HL : Hid (a.length = n) := hl
  clear hl
  by_cases h2 : n < 2
  · have h2I : (n : Int) < 2 := by omega
    have h2d : decide ((n : Int) < 2) = true := by simpa using h2I
    have HF : Hid (frmB a = false) := frmB_no (fun hk => by have := hk.1; have := HL.out; omega)
    clear h hby
    go_enter Tryd.func113, Tryd.ntmps113
    go_wp2
    refine bodyPost_ret (v := .tuple #[.agg #[.slice none 0 0], .int .i64 0]) (by simp [results, Tryd.results113, go_sem]) rfl ⟨⟨_, _, rfl, .inl ⟨HF.out, rfl, rfl⟩⟩, ?_⟩
    repeat (first | exact B0.out | refine Below.setCell ?_ (by simp; try omega) _)
  · have h2I : ¬ (n : Int) < 2 := by omega
    have h2d : decide ((n : Int) < 2) = false := by simpa using h2I
    obtain ⟨blk, o, rfl, hb, hcap, hcm, hc⟩ := h.cut HL.out (by omega)
    obtain ⟨x0, hx0, hxe0⟩ := byt_at hby 0
    obtain ⟨x1, hx1, hxe1⟩ := byt_at hby 1
    have c0 := hc 0 (by omega)
    have c1 := hc 1 (by omega)
    rw [hxe0, Nat.add_zero] at c0
    rw [hxe1] at c1
    have HC : Hid (∀ i, i < n → w.cell? ⟨blk, o + i, none⟩ = some (.int .u8 (a.getD i 0))) := hc
    have HBY : Hid (Byt a) := hby
    have hn0 : (0 : Int) < (n : Int) := by omega
    have hn1 : (1 : Int) < (n : Int) := by omega
    have HM : Hid (frm_m a = x0 % 128 * 128 + x1 % 128) := by show _ = _; unfold frm_m; rw [hxe0, hxe1, Int.toNat_natCast, Int.toNat_natCast]
    have HCM : Hid (cap ≤ maxLen) := hcm
    unfold maxLen at hcm
    by_cases q0 : (x0 : Int) < 128
    · have q0d : decide ((x0 : Int) < 128) = true := by simpa using q0
      have HF : Hid (frmB a = false) := frmB_no (fun hk => by have := hk.2.1; rw [hxe0] at this; omega)
      clear h hby hc hxe0 hxe1
      go_enter Tryd.func113, Tryd.ntmps113
      go_wp2
      refine bodyPost_ret (v := .tuple #[.agg #[.slice none 0 0], .int .i64 0]) (by simp [results, Tryd.results113, go_sem]) rfl ⟨⟨_, _, rfl, .inl ⟨HF.out, rfl, rfl⟩⟩, ?_⟩
      repeat (first | exact B0.out | refine Below.setCell ?_ (by simp; try omega) _)
    · have q0d : decide ((x0 : Int) < 128) = false := by simpa using q0
      by_cases q1 : (x1 : Int) < 128
      · have q1d : decide ((x1 : Int) < 128) = true := by simpa using q1
        have HF : Hid (frmB a = false) := frmB_no (fun hk => by have := hk.2.2.1; rw [hxe1] at this; omega)
        clear h hby hc hxe0 hxe1
        go_enter Tryd.func113, Tryd.ntmps113
        go_wp2
        refine bodyPost_ret (v := .tuple #[.agg #[.slice none 0 0], .int .i64 0]) (by simp [results, Tryd.results113, go_sem]) rfl ⟨⟨_, _, rfl, .inl ⟨HF.out, rfl, rfl⟩⟩, ?_⟩
        repeat (first | exact B0.out | refine Below.setCell ?_ (by simp; try omega) _)
      · have q1d : decide ((x1 : Int) < 128) = false := by simpa using q1
        have hand0 := u8_low7 x0 hx0
        have hand1 := u8_low7 x1 hx1
        have HOK : Hid (2 + frm_m a ≤ n → frm_p a ≠ [] → (frm_p a).length ≤ 2000 → frmB a = true) := fun k1 k2 k3 => (frmB_iff a).2 ⟨by rw [HL.out]; omega, by rw [hxe0]; omega, by rw [hxe1]; omega, by rw [HL.out]; exact k1, k2, k3⟩
        clear h hby hc hxe0 hxe1
        generalize hy0 : x0 % 128 = y0 at *
        generalize hy1 : x1 % 128 = y1 at *
        have hy0' : y0 < 128 := by omega
        have hy1' : y1 < 128 := by omega
        clear hy0 hy1
        go_enter Tryd.func113, Tryd.ntmps113
        go_wp2_with fail
        go_quiet (fail)
        by_cases hs : 2 + (y0 * 128 + y1) ≤ n
        · have hsI : ¬ (n : Int) < 2 + (y0 : Int) * 128 + (y1 : Int) := by omega
          have hsd : decide ((n : Int) < 2 + (y0 : Int) * 128 + (y1 : Int)) = false := by simpa using hsI
          by_cases hcp : cap = 2
          · have hcpd : (cap = 2) = True := by simp [hcp]
            clear hcpd
            have RS : Hid (Rd .u8 w (.slice (some ⟨blk, o, none⟩) (2 + y0 * 128 + y1 - 2) 0) ((a.drop 2).take (frm_m a))) := by
              have hz : y0 * 128 + y1 = 0 := by omega
              rw [HM.out, hz, show 2 + y0 * 128 + y1 - 2 = 0 by omega]
              exact ⟨_, 0, rfl, Nat.le_refl _, Nat.zero_le _, .inl (by simp)⟩
            go_wp2_with fail
            refine (implUnpack_any _ _ _ (RS.out.below (below_drewQ B0.out nq)) (byt_piece HBY.out 2 (frm_m a)) (by rw [List.length_take]; have := HM.out; omega)).mono ?_
            rintro e w2 ⟨u, rfl, o2, b2⟩
            have o2' : Own .u8 5 w2 _ u (frm_p a) := o2
            obtain ⟨ua, uc, rfl⟩ := Own.slice o2'
            have B2 : Hid (Below w.heap.size w w2) := (below_drewQ B0.out nq).trans (b2.mono (by show w.heap.size ≤ (w.alloc _).heap.size; simp))
            have O2 : Hid (Own .u8 5 w2 w.heap.size (.slice ua (frm_p a).length uc) (frm_p a)) := Own.mono o2' (by show w.heap.size ≤ (w.alloc _).heap.size; simp)
            have hul : (frm_p a).length ≤ maxLen := by obtain ⟨_, _, e, h1, h2⟩ := O2.out.rd.len; simp only [Value.slice.injEq] at e; omega
            unfold maxLen at hul
            have X2 : Hid (Box w2 w.heap.size (.slice none 0 0)) := (Box.drewN (Box.new w (.slice none 0 0) 111) nq).below b2
            have F2 : Hid (w2.frozen? ⟨w.heap.size, 0, none⟩ = false) := (b2.frozen (p := ⟨w.heap.size, 0, none⟩) (by show w.heap.size < (w.alloc _).heap.size; simp)).trans (by simp)
            have NB : Hid (Value.ownBlock (.slice ua (frm_p a).length uc) ≠ some w.heap.size) := fun e => by have := (Own.lt o2' _ e).1; have h' : (w.alloc (.cells #[.slice none 0 0] 111)).heap.size ≤ w.heap.size := this; rw [World.size_alloc] at h'; omega
            have HP : Hid (frm_p a ≠ [] ↔ (frm_p a).length ≠ 0) := by show _ ↔ _; cases frm_p a <;> simp
            have HS : Hid (((2 + frm_m a : Nat) : Int) = 2 + (y0 : Int) * 128 + (y1 : Int)) := by rw [HM.out]; show _ = _; omega
            have HIN : Hid (2 + frm_m a ≤ n) := by rw [HM.out]; show _ ≤ _; omega
            have HNO : Hid ((frm_p a).length = 0 ∨ 2000 < (frm_p a).length → frmB a = false) := fun hh => frmB_no (fun hk => by have h5 := HP.out.1 hk.2.2.2.2.1; have h6 := hk.2.2.2.2.2; omega)
            have HYES : Hid ((frm_p a).length ≠ 0 → (frm_p a).length ≤ 2000 → frmB a = true) := fun h5 h6 => HOK.out HIN.out (HP.out.2 h5) h6
            clear o2 o2' b2 RS HOK
            obtain ⟨z2, d0⟩ := X2.out
            have f0 : w2.frozen? ⟨w.heap.size, 0, none⟩ = false := F2.out
            generalize hp : frm_p a = p at *
            have HPE : Hid (frm_p a = p) := hp
            clear hp
            have YY : ∀ (u : Value) (o : Obj), ((w2.setCell ⟨w.heap.size, 0, none⟩ u).alloc o).cell? ⟨w.heap.size, 0, none⟩ = some u := fun u o => (box_alloc (box_set X2.out u) o).2
            by_cases l0 : p.length = 0
            · have l0I : (p.length : Int) = 0 := by omega
              have l0b : ((p.length : Int) == 0) = true := by simpa using l0I
              go_wp2
              refine bodyPost_ret (v := .tuple #[.agg #[.slice none 0 0], .int .i64 0]) (by simp [results, Tryd.results113, go_sem, YY]) rfl ⟨⟨_, _, rfl, .inl ⟨HNO.out (.inl l0), rfl, rfl⟩⟩, ?_⟩
              repeat (first | exact B2.out | exact B2.out.alloc B2.out.size _ | refine Below.setCell ?_ (by simp; try omega) _ | refine Below.alloc ?_ (by simp; try omega) _)
            · have l0I : ¬ (p.length : Int) = 0 := by omega
              have l0b : ((p.length : Int) == 0) = false := by simpa using l0I
              by_cases l2 : 2000 < p.length
              · have l2I : (2000 : Int) < (p.length : Int) := by omega
                have l2d : decide ((2000 : Int) < (p.length : Int)) = true := by simpa using l2I
                go_wp2
                refine bodyPost_ret (v := .tuple #[.agg #[.slice none 0 0], .int .i64 0]) (by simp [results, Tryd.results113, go_sem, YY]) rfl ⟨⟨_, _, rfl, .inl ⟨HNO.out (.inr l2), rfl, rfl⟩⟩, ?_⟩
                repeat (first | exact B2.out | exact B2.out.alloc B2.out.size _ | refine Below.setCell ?_ (by simp; try omega) _ | refine Below.alloc ?_ (by simp; try omega) _)
              · have l2I : ¬ (2000 : Int) < (p.length : Int) := by omega
                have l2d : decide ((2000 : Int) < (p.length : Int)) = false := by simpa using l2I
                go_wp2
                refine bodyPost_ret (v := .tuple #[.agg #[.slice ua p.length uc], .int .i64 (2 + (y0 : Int) * 128 + (y1 : Int))]) (by simp [results, Tryd.results113, go_sem, YY]) rfl ⟨⟨_, _, rfl, .inr ⟨HYES.out l0 (by omega), HS.out.symm, ?_⟩⟩, ?_⟩
                · rw [HPE.out]
                  repeat (first | exact O2.out | refine Own.setAt ?_ (.inr NB.out) | refine World.ownsRow.alloc ?_ _)
                · repeat (first | exact B2.out | exact B2.out.alloc B2.out.size _ | refine Below.setCell ?_ (by simp; try omega) _ | refine Below.alloc ?_ (by simp; try omega) _)
          · have RS : Hid (Rd .u8 w (.slice (some ⟨blk, o + 2, none⟩) (2 + y0 * 128 + y1 - 2) (cap - 2)) ((a.drop 2).take (frm_m a))) := by
              rw [HM.out, show 2 + y0 * 128 + y1 - 2 = y0 * 128 + y1 by omega]
              exact rd_piece hb HC.out HL.out 2 (y0 * 128 + y1) (by omega) hcap HCM.out
            go_wp2_with fail
            refine (implUnpack_any _ _ _ (RS.out.below (below_drewQ B0.out nq)) (byt_piece HBY.out 2 (frm_m a)) (by rw [List.length_take]; have := HM.out; omega)).mono ?_
            rintro e w2 ⟨u, rfl, o2, b2⟩
            have o2' : Own .u8 5 w2 _ u (frm_p a) := o2
            obtain ⟨ua, uc, rfl⟩ := Own.slice o2'
            have B2 : Hid (Below w.heap.size w w2) := (below_drewQ B0.out nq).trans (b2.mono (by show w.heap.size ≤ (w.alloc _).heap.size; simp))
            have O2 : Hid (Own .u8 5 w2 w.heap.size (.slice ua (frm_p a).length uc) (frm_p a)) := Own.mono o2' (by show w.heap.size ≤ (w.alloc _).heap.size; simp)
            have hul : (frm_p a).length ≤ maxLen := by obtain ⟨_, _, e, h1, h2⟩ := O2.out.rd.len; simp only [Value.slice.injEq] at e; omega
            unfold maxLen at hul
            have X2 : Hid (Box w2 w.heap.size (.slice none 0 0)) := (Box.drewN (Box.new w (.slice none 0 0) 111) nq).below b2
            have F2 : Hid (w2.frozen? ⟨w.heap.size, 0, none⟩ = false) := (b2.frozen (p := ⟨w.heap.size, 0, none⟩) (by show w.heap.size < (w.alloc _).heap.size; simp)).trans (by simp)
            have NB : Hid (Value.ownBlock (.slice ua (frm_p a).length uc) ≠ some w.heap.size) := fun e => by have := (Own.lt o2' _ e).1; have h' : (w.alloc (.cells #[.slice none 0 0] 111)).heap.size ≤ w.heap.size := this; rw [World.size_alloc] at h'; omega
            have HP : Hid (frm_p a ≠ [] ↔ (frm_p a).length ≠ 0) := by show _ ↔ _; cases frm_p a <;> simp
            have HS : Hid (((2 + frm_m a : Nat) : Int) = 2 + (y0 : Int) * 128 + (y1 : Int)) := by rw [HM.out]; show _ = _; omega
            have HIN : Hid (2 + frm_m a ≤ n) := by rw [HM.out]; show _ ≤ _; omega
            have HNO : Hid ((frm_p a).length = 0 ∨ 2000 < (frm_p a).length → frmB a = false) := fun hh => frmB_no (fun hk => by have h5 := HP.out.1 hk.2.2.2.2.1; have h6 := hk.2.2.2.2.2; omega)
            have HYES : Hid ((frm_p a).length ≠ 0 → (frm_p a).length ≤ 2000 → frmB a = true) := fun h5 h6 => HOK.out HIN.out (HP.out.2 h5) h6
            clear o2 o2' b2 RS HOK
            obtain ⟨z2, d0⟩ := X2.out
            have f0 : w2.frozen? ⟨w.heap.size, 0, none⟩ = false := F2.out
            generalize hp : frm_p a = p at *
            have HPE : Hid (frm_p a = p) := hp
            clear hp
            have YY : ∀ (u : Value) (o : Obj), ((w2.setCell ⟨w.heap.size, 0, none⟩ u).alloc o).cell? ⟨w.heap.size, 0, none⟩ = some u := fun u o => (box_alloc (box_set X2.out u) o).2
            by_cases l0 : p.length = 0
            · have l0I : (p.length : Int) = 0 := by omega
              have l0b : ((p.length : Int) == 0) = true := by simpa using l0I
              go_wp2
              refine bodyPost_ret (v := .tuple #[.agg #[.slice none 0 0], .int .i64 0]) (by simp [results, Tryd.results113, go_sem, YY]) rfl ⟨⟨_, _, rfl, .inl ⟨HNO.out (.inl l0), rfl, rfl⟩⟩, ?_⟩
              repeat (first | exact B2.out | exact B2.out.alloc B2.out.size _ | refine Below.setCell ?_ (by simp; try omega) _ | refine Below.alloc ?_ (by simp; try omega) _)
            · have l0I : ¬ (p.length : Int) = 0 := by omega
              have l0b : ((p.length : Int) == 0) = false := by simpa using l0I
              by_cases l2 : 2000 < p.length
              · have l2I : (2000 : Int) < (p.length : Int) := by omega
                have l2d : decide ((2000 : Int) < (p.length : Int)) = true := by simpa using l2I
                go_wp2
                refine bodyPost_ret (v := .tuple #[.agg #[.slice none 0 0], .int .i64 0]) (by simp [results, Tryd.results113, go_sem, YY]) rfl ⟨⟨_, _, rfl, .inl ⟨HNO.out (.inr l2), rfl, rfl⟩⟩, ?_⟩
                repeat (first | exact B2.out | exact B2.out.alloc B2.out.size _ | refine Below.setCell ?_ (by simp; try omega) _ | refine Below.alloc ?_ (by simp; try omega) _)
              · have l2I : ¬ (2000 : Int) < (p.length : Int) := by omega
                have l2d : decide ((2000 : Int) < (p.length : Int)) = false := by simpa using l2I
                go_wp2
                refine bodyPost_ret (v := .tuple #[.agg #[.slice ua p.length uc], .int .i64 (2 + (y0 : Int) * 128 + (y1 : Int))]) (by simp [results, Tryd.results113, go_sem, YY]) rfl ⟨⟨_, _, rfl, .inr ⟨HYES.out l0 (by omega), HS.out.symm, ?_⟩⟩, ?_⟩
                · rw [HPE.out]
                  repeat (first | exact O2.out | refine Own.setAt ?_ (.inr NB.out) | refine World.ownsRow.alloc ?_ _)
                · repeat (first | exact B2.out | exact B2.out.alloc B2.out.size _ | refine Below.setCell ?_ (by simp; try omega) _ | refine Below.alloc ?_ (by simp; try omega) _)
        · have hsI : (n : Int) < 2 + (y0 : Int) * 128 + (y1 : Int) := by omega
          have hsd : decide ((n : Int) < 2 + (y0 : Int) * 128 + (y1 : Int)) = true := by simpa using hsI
          have HF : Hid (frmB a = false) := frmB_no (fun hk => by have := hk.2.2.2.1; rw [HM.out, HL.out] at this; omega)
          go_wp2
          refine bodyPost_ret (v := .tuple #[.agg #[.slice none 0 0], .int .i64 0]) (by simp [results, Tryd.results113, go_sem]) rfl ⟨⟨_, _, rfl, .inl ⟨HF.out, rfl, rfl⟩⟩, ?_⟩
          repeat (first | exact B0.out | refine Below.setCell ?_ (by simp; try omega) _ | exact below_drewQ B0.out _)

end Go.Proofs.YtmgolinleiahpaaDoor

namespace Go.Proofs.YtmgolinleiahpaaDoor
open Go.RowKit

theorem Tryd.infoW : (Tryd.prog.info? 131).map (fun i => (i.zero, i.size, i.bytes)) = some (some (.agg #[.int .i64 0, .slice none 0 0]), 2, 32) := by kernel_rfl

/-- Of the first k records. -/
def pBk (ps : List (Int × List Int)) (k i : Nat) : Int := if i < k then pB ps i else 0
def dvk (dv : Nat → Value) (k i : Nat) : Value := if i < k then dv i else .slice none 0 0
def dvSet (dv : Nat → Value) (k : Nat) (v : Value) (i : Nat) : Value := if i = k then v else dv i

theorem rowW_step {n k : Nat} (ps : List (Int × List Int)) (dv : Nat → Value) (v : Value) (hk : k < n) :
    ((rowW n (pBk ps k) (dvk dv k)).set (k * 2) (.int .i64 (pB ps k))).set (k * 2 + 1) v = rowW n (pBk ps (k + 1)) (dvk (dvSet dv k v) (k + 1)) := by
  have h := rowW_set (n := n) (f := pBk ps k) (f' := pBk ps (k + 1)) (g := dvk dv k) (g' := dvk (dvSet dv k v) (k + 1)) hk
    (by intro i hi; unfold pBk; by_cases h : i < k
        · rw [if_pos h, if_pos (by omega)]
        · rw [if_neg h, if_neg (by omega)])
    (by intro i hi; unfold dvk dvSet; by_cases h : i < k
        · rw [if_pos h, if_pos (by omega), if_neg hi]
        · rw [if_neg h, if_neg (by omega)])
  rw [show pBk ps (k + 1) k = pB ps k from if_pos (by omega), show dvk (dvSet dv k v) (k + 1) k = v by unfold dvk dvSet; rw [if_pos (by omega), if_pos rfl]] at h
  exact h

theorem toWriteS_step {w2 w : World} {n k B lo : Nat} (ps : List (Int × List Int)) (dv : Nat → Value) {v : Value} (hk : k < n)
    (ho : w2.ownsRow lo 131 2 (.slice (some ⟨lo, 0, none⟩) n n) n (rowW n (pBk ps k) (dvk dv k))) (hB : lo < B)
    (h1 : ∀ i, i < k → Own .u8 5 w2 (lo + 1) (dv i) (pD ps i)) (h2 : ∀ i j, i < k → j < k → i ≠ j → Ne2 (dv i) (dv j)) (h3 : ∀ i, i < k → ∀ g, (dv i).ownBlock = some g → g < B)
    (h4 : Own .u8 5 w2 B v (pD ps k)) (hb : Below lo w w2) :
    ((w2.setCell ⟨lo, k * 2, none⟩ (.int .i64 (pB ps k))).setCell ⟨lo, k * 2 + 1, none⟩ v).ownsRow lo 131 2 (.slice (some ⟨lo, 0, none⟩) n n) n (rowW n (pBk ps (k + 1)) (dvk (dvSet dv k v) (k + 1))) ∧
    ((∀ i, i < k + 1 → Own .u8 5 ((w2.setCell ⟨lo, k * 2, none⟩ (.int .i64 (pB ps k))).setCell ⟨lo, k * 2 + 1, none⟩ v) (lo + 1) (dvSet dv k v i) (pD ps i)) ∧
      (∀ i j, i < k + 1 → j < k + 1 → i ≠ j → Ne2 (dvSet dv k v i) (dvSet dv k v j))) ∧
    Below lo w ((w2.setCell ⟨lo, k * 2, none⟩ (.int .i64 (pB ps k))).setCell ⟨lo, k * 2 + 1, none⟩ v) := by
  have ne : ∀ {x : Value} {q : List Int}, Own .u8 5 w2 (lo + 1) x q → x.ownBlock = none ∨ x.ownBlock ≠ some lo := by
    intro x q h
    cases hv : x.ownBlock with
    | none => exact .inl rfl
    | some g => exact .inr (fun e => by have := (h.lt g hv).1; simp at e; omega)
  refine ⟨?_, ⟨fun i hi => ?_, fun i j hi hj hne => ?_⟩, (hb.setCell (Nat.le_refl _) _).setCell (Nat.le_refl _) _⟩
  · have s1 := (World.ownsRow.stored ho (k * 2) (.int .i64 (pB ps k))).1
    have s2 := (World.ownsRow.stored s1 (k * 2 + 1) v).1
    rw [rowW_step ps dv v hk] at s2
    exact s2
  · unfold dvSet
    by_cases e : i = k
    · subst e
      rw [if_pos rfl]
      have h5 := h4.mono (show lo + 1 ≤ B by omega)
      exact (h5.setAt (ne h5)).setAt (ne h5)
    · rw [if_neg e]
      have h5 := h1 i (by omega)
      exact (h5.setAt (ne h5)).setAt (ne h5)
  · unfold dvSet Ne2
    by_cases ei : i = k
    · rw [if_pos ei, if_neg (show ¬ j = k by omega)]
      cases hv : v.ownBlock with
      | none => exact .inl rfl
      | some g => exact .inr (fun e => by have a := (h4.lt g hv).1; have b := h3 j (by omega) g e.symm; omega)
    · rw [if_neg ei]
      by_cases ej : j = k
      · rw [if_pos ej]
        cases hv : (dv i).ownBlock with
        | none => exact .inl rfl
        | some g => exact .inr (fun e => by have a := (h4.lt g e.symm).1; have b := h3 i (by omega) g hv; omega)
      · rw [if_neg ej]
        exact h2 i j (by omega) (by omega) hne




theorem OwnW.slice {e : TypeId} {w : World} {lo : Nat} {v : Value} {ps : List (Int × List Int)} {dv : Nat → Value} (h : OwnW e w lo v ps dv) : ∃ a c, v = .slice a ps.length c := by
  obtain ⟨a, c, h0, _⟩ := h.rd.len
  exact ⟨a, c, h0⟩

theorem OwnW.setBelow {e : TypeId} {w : World} {lo : Nat} {v : Value} {ps : List (Int × List Int)} {dv : Nat → Value} (h : OwnW e w lo v ps dv) {a : Addr} (ha : a.block < lo) (u : Value) : OwnW e (w.setCell a u) lo v ps dv :=
  ⟨ownsRow_setCell_below h.1 ha u, fun i hi => (h.2.1 i hi).setBelow ha u, h.2.2⟩


end Go.Proofs.YtmgolinleiahpaaDoor

namespace Go.Proofs.YtmgolinleiahpaaDoor
open Go.RowKit

/-- Record i is one of the disk. -/
def okP (n : Nat) (ps : List (Int × List Int)) (i : Nat) : Prop := 0 ≤ pB ps i ∧ pB ps i < n ∧ (pD ps i).length = 64
def vldP (dl : Nat) (ps : List (Int × List Int)) : Prop := dl % 64 = 0 ∧ 1 ≤ dl / 64 ∧ dl / 64 ≤ 300 ∧ ps.length ≤ 2000 ∧ ∀ i, i < ps.length → okP (dl / 64) ps i
def okBk (n : Nat) (ps : List (Int × List Int)) (i : Nat) : Bool := decide (0 ≤ pB ps i) && decide (pB ps i < n) && decide ((pD ps i).length = 64)
theorem okBk_iff (n : Nat) (ps : List (Int × List Int)) (i : Nat) : okBk n ps i = true ↔ okP n ps i := by unfold okBk okP; simp [and_assoc]
def vldD (dl : Nat) (ps : List (Int × List Int)) : Bool := decide (dl % 64 = 0) && decide (1 ≤ dl / 64) && decide (dl / 64 ≤ 300) && decide (ps.length ≤ 2000) && (List.range ps.length).all (okBk (dl / 64) ps)
theorem vldD_iff (dl : Nat) (ps : List (Int × List Int)) : vldD dl ps = true ↔ vldP dl ps := by
  unfold vldD vldP
  simp only [Bool.and_eq_true, decide_eq_true_eq, List.all_eq_true, List.mem_range, okBk_iff, and_assoc]
theorem vldD_yes {dl : Nat} {ps : List (Int × List Int)} (h : vldP dl ps) : vldD dl ps = true := (vldD_iff dl ps).2 h
theorem vldD_no {dl : Nat} {ps : List (Int × List Int)} (h : ¬ vldP dl ps) : vldD dl ps = false := by
  cases e : vldD dl ps with
  | false => rfl
  | true => exact absurd ((vldD_iff dl ps).1 e) h


set_option maxHeartbeats 400000 in
theorem blockCount_any (w : World) (ao : Option Addr) (n cap : Nat) (vp : Value) (hn : n ≤ 1048576) :
    Calls Tryd.prog 101 #[.agg #[.slice ao n cap, vp]] w fun e w' => e = .returned (.int .i64 ((n / 64 : Nat) : Int)) ∧ Below w.heap.size w w' := by
  go_enter Tryd.func101, Tryd.ntmps101
  go_wp2
  go_ret
  exact ⟨ret_int (by omega), (Below.refl _ _).alloc (Nat.le_refl _) _⟩

set_option maxHeartbeats 400000 in
theorem hasBlock_any (w : World) (ao : Option Addr) (n cap : Nat) (vp : Value) (x : Int) (hn : n ≤ 1048576) :
    Calls Tryd.prog 133 #[.agg #[.slice ao n cap, vp], .int .i64 x] w fun e w' => e = .returned (.bool (decide (0 ≤ x ∧ x < (n / 64 : Nat)))) ∧ Below w.heap.size w w' := by
  have B0 : Hid (Below w.heap.size w (w.alloc (.cells #[.slice ao n cap, vp] 27))) := (Below.refl _ _).alloc (Nat.le_refl _) _
  by_cases h0 : 0 ≤ x
  · go_enter Tryd.func133, Tryd.ntmps133
    go_wp2_with fail
    refine (blockCount_any _ ao n cap vp hn).mono ?_
    rintro e w1 ⟨rfl, b1⟩
    have B1 : Hid (Below w.heap.size w w1) := B0.out.trans (b1.mono (by simp))
    clear b1
    generalize hm : n / 64 = m at *
    have HM : Hid (n / 64 = m) := hm
    clear hm
    by_cases h1 : x < (m : Int)
    · go_wp2
      go_ret
      exact ⟨ret_bool (by have := HM.out; symm; rw [decide_eq_true_eq]; omega), B1.out⟩
    · go_wp2
      go_ret
      exact ⟨ret_bool (by have := HM.out; symm; rw [decide_eq_decide]; omega), B1.out⟩
  · have hd : decide (0 ≤ x) = false := by simpa using h0
    go_enter Tryd.func133, Tryd.ntmps133
    go_wp2
    go_ret
    exact ⟨ret_bool (by symm; first | rfl | (rw [decide_eq_false_iff_not]; omega)), B0.out⟩

/-- The cells of a slice of records. -/
def CellsW (w : World) (b o n : Nat) (ps : List (Int × List Int)) : Prop :=
  ∀ i, i < n → w.cell? ⟨b, o + i * 2, none⟩ = some (.int .i64 (pB ps i)) ∧ ∃ da c, w.cell? ⟨b, o + i * 2 + 1, none⟩ = some (.slice da (pD ps i).length c)

theorem RdW.cells {w : World} {ao : Option Addr} {n cap : Nat} {ps : List (Int × List Int)} (h : RdW w (.slice ao n cap) ps) (hn : 0 < n) : ∃ b o, ao = some ⟨b, o, none⟩ ∧ b < w.heap.size ∧ CellsW w b o n ps ∧ ps.length = n := by
  obtain ⟨ao', cap', e, h1, h2, h3⟩ := h
  simp only [Value.slice.injEq] at e
  obtain ⟨rfl, rfl, rfl⟩ := e
  rcases h3 with rfl | ⟨b, o, rfl, hb, hc⟩
  · simp at hn
  · exact ⟨b, o, rfl, hb, fun i hi => ⟨(hc i hi).1, by obtain ⟨da, c, h, _⟩ := (hc i hi).2; exact ⟨da, c, h⟩⟩, rfl⟩

theorem CellsW.below {w w' : World} {b o n : Nat} {ps : List (Int × List Int)} (h : CellsW w b o n ps) (hb : b < w.heap.size) (hB : Below w.heap.size w w') : CellsW w' b o n ps :=
  fun i hi => ⟨(hB.cell (p := ⟨b, _, none⟩) hb).trans (h i hi).1, by obtain ⟨da, c, e⟩ := (h i hi).2; exact ⟨da, c, (hB.cell (p := ⟨b, _, none⟩) hb).trans e⟩⟩




set_option maxHeartbeats 1000000 in
set_option maxRecDepth 100000 in
theorem implValid_head (w : World) (va vb : Option Addr) (dl ca n cb : Nat) (hd : dl ≤ 1048576) (hn : n ≤ 1048576) (h : ¬ (dl % 64 = 0 ∧ 1 ≤ dl / 64 ∧ dl / 64 ≤ 300 ∧ n ≤ 2000)) :
    Calls Tryd.prog 100 #[.agg #[.slice va dl ca, .slice vb n cb]] w fun e w' => e = .returned (.bool false) ∧ Below w.heap.size w w' := by
  have B0 : Hid (Below w.heap.size w (w.alloc (.cells #[.slice va dl ca, .slice vb n cb] 27))) := (Below.refl _ _).alloc (Nat.le_refl _) _
  by_cases h1 : dl % 64 = 0
  · have t1 : (((dl : Int) % 64) != 0) = false := by rw [bne_eq_false_iff_eq]; omega
    have HX : Hid (¬ (dl % 64 = 0 ∧ 1 ≤ dl / 64 ∧ dl / 64 ≤ 300 ∧ n ≤ 2000)) := h
    have H1 : Hid (dl % 64 = 0) := h1
    clear h h1
    go_enter Tryd.func100, Tryd.ntmps100
    go_wp2_with fail
    refine (blockCount_any _ va dl ca _ hd).mono ?_
    rintro e w1 ⟨rfl, b1⟩
    obtain ⟨c0, c1, _, _, z1⟩ := box2_later b1
    have B1 : Hid (Below w.heap.size w w1) := B0.out.trans (b1.mono (by simp))
    have h := HX.out
    have h1 := H1.out
    clear b1
    generalize dl / 64 = m at *
    by_cases h2 : (m : Int) < 1
    · clear h h1
      go_wp2
      go_ret
      exact ⟨rfl, B1.out⟩
    · by_cases h3 : (300 : Int) < (m : Int)
      · clear h h1
        go_wp2
        go_ret
        exact ⟨rfl, B1.out⟩
      · have h4 : (2000 : Int) < (n : Int) := by omega
        clear h h1
        go_wp2
        go_ret
        exact ⟨rfl, B1.out⟩
  · have t1 : (((dl : Int) % 64) != 0) = true := by rw [bne_iff_ne]; omega
    clear h1 h
    go_enter Tryd.func100, Tryd.ntmps100
    go_wp2
    go_ret
    exact ⟨rfl, B0.out⟩

set_option maxHeartbeats 1000000 in
set_option maxRecDepth 100000 in
theorem implValid_loop (w : World) (va vb : Option Addr) (dl ca n cb : Nat) (ps : List (Int × List Int)) (hp : RdW w (.slice vb n cb) ps) (hl : ps.length = n) (hd : dl ≤ 1048576)
    (h1 : dl % 64 = 0) (h2 : 1 ≤ dl / 64) (h3 : dl / 64 ≤ 300) (h4 : n ≤ 2000) (hdl : ∀ i, (pD ps i).length ≤ 1048576) :
    Calls Tryd.prog 100 #[.agg #[.slice va dl ca, .slice vb n cb]] w fun e w' => e = .returned (.bool (vldD dl ps)) ∧ Below w.heap.size w w' := by
  have B0 : Hid (Below w.heap.size w (w.alloc (.cells #[.slice va dl ca, .slice vb n cb] 27))) := (Below.refl _ _).alloc (Nat.le_refl _) _
  have HP : Hid (RdW w (.slice vb n cb) ps) := hp
  have HL : Hid (ps.length = n) := hl
  have HDL : Hid (∀ i, (pD ps i).length ≤ 1048576) := hdl
  have H1 : Hid (dl % 64 = 0) := h1
  have H2 : Hid (1 ≤ dl / 64 ∧ dl / 64 ≤ 300) := ⟨h2, h3⟩
  have t1 : (((dl : Int) % 64) != 0) = false := by rw [bne_eq_false_iff_eq]; omega
  clear hp hl hdl h1 h2 h3
  go_enter Tryd.func100, Tryd.ntmps100
  go_wp2_with fail
  refine (blockCount_any _ va dl ca _ hd).mono ?_
  rintro e w1 ⟨rfl, b1⟩
  have X1 : Hid (Box2 w1 w.heap.size (.slice va dl ca) (.slice vb n cb)) := (Box2.new w _ _ _).below b1
  have B1 : Hid (Below w.heap.size w w1) := B0.out.trans (b1.mono (by simp))
  clear b1
  have h2 := H2.out
  generalize hm : dl / 64 = m at *
  have HM : Hid (dl / 64 = m) := hm
  have t2 : ¬ (m : Int) < 1 := by omega
  have t3 : ¬ (300 : Int) < (m : Int) := by omega
  have t4 : ¬ (2000 : Int) < (n : Int) := by omega
  clear hm h2
  obtain ⟨z1, c0, c1⟩ := X1.out
  go_wp2
  clear c0 c1 z1
  go_loopw [28] (fun i wr => ∃ k : Nat, k ≤ n ∧ i = .int .i64 k ∧ Hid (∀ i, i < k → okP m ps i) ∧ Hid (Box2 wr w.heap.size (.slice va dl ca) (.slice vb n cb)) ∧ Below w.heap.size w wr) (fun i _ => n - (intOf i).toNat)
  case atStart => exact ⟨0, Nat.zero_le _, rfl, fun i hi => by omega, X1, B1.out⟩
  case round =>
    clear X1 B1
    obtain ⟨k, hk, rfl, HOK, HX, hg⟩ := hrel
    by_cases hlt : k < n
    · obtain ⟨b, o, rfl, hb, hc, _⟩ := HP.out.cells (by omega)
      obtain ⟨e1, da, dc, e2⟩ := (hc.below hb hg) k hlt
      have hltI : (k : Int) < (n : Int) := by omega
      have hdk := HDL.out k
      obtain ⟨z1, c0, c1⟩ := HX.out
      have HG : Hid (Below w.heap.size w wr) := hg
      clear hg hc
      go_wp2_with fail
      have BA : Hid (Below w.heap.size w (wr.alloc (.cells #[.int .i64 (pB ps k), .slice da (pD ps k).length dc] 131))) := HG.out.alloc HG.out.size _
      have XA : Hid (Box2 (wr.alloc (.cells #[.int .i64 (pB ps k), .slice da (pD ps k).length dc] 131)) w.heap.size (.slice va dl ca) (.slice (some ⟨b, o, none⟩) n cb)) := HX.out.below ((Below.refl _ _).alloc (Nat.le_refl _) _)
      have XB : Hid (Box2 (wr.alloc (.cells #[.int .i64 (pB ps k), .slice da (pD ps k).length dc] 131)) wr.heap.size (.int .i64 (pB ps k)) (.slice da (pD ps k).length dc)) := Box2.new _ _ _ _
      generalize wr.alloc (.cells #[.int .i64 (pB ps k), .slice da (pD ps k).length dc] 131) = wa at *
      refine (hasBlock_any _ va dl ca _ (pB ps k) hd).mono ?_
      rintro e w2 ⟨rfl, b2⟩
      rw [HM.out]
      have X2 : Hid (Box2 w2 w.heap.size (.slice va dl ca) (.slice (some ⟨b, o, none⟩) n cb)) := XA.out.below b2
      have XC : Hid (Box2 w2 wr.heap.size (.int .i64 (pB ps k)) (.slice da (pD ps k).length dc)) := XB.out.below b2
      have B2 : Hid (Below w.heap.size w w2) := BA.out.trans (b2.mono BA.out.size)
      obtain ⟨_, d0, d1⟩ := XC.out
      clear b2 c0 c1 z1 e1 e2 HX
      by_cases hok : okP m ps k
      · have HK : Hid (okP m ps k) := hok
        obtain ⟨q1, q2, q3⟩ := hok
        have q4 : (((pD ps k).length : Int) != 64) = false := by rw [bne_eq_false_iff_eq]; omega
        rw [show decide (0 ≤ pB ps k ∧ pB ps k < (m : Int)) = true by rw [decide_eq_true_eq]; omega]
        clear q1 q2 q3
        go_wp2
        go_roundw
        case rel => exact ⟨k + 1, by omega, by go_num, (fun i hi => by by_cases e : i = k; (subst e; exact HK.out); exact HOK.out i (by omega)), X2, B2.out⟩
        case measure => simp [intOf]; omega
      · have HN : Hid (vldD dl ps = false) := vldD_no (by rintro ⟨_, _, _, _, h5⟩; rw [HM.out] at h5; exact hok (h5 k (by rw [HL.out]; exact hlt)))
        by_cases q1 : 0 ≤ pB ps k ∧ pB ps k < (m : Int)
        · rw [show decide (0 ≤ pB ps k ∧ pB ps k < (m : Int)) = true by rw [decide_eq_true_eq]; exact q1]
          have q3 : (((pD ps k).length : Int) != 64) = true := by rw [bne_iff_ne]; intro e; exact hok ⟨q1.1, q1.2, by omega⟩
          clear hok q1
          go_wp2
          go_ret
          exact ⟨ret_bool HN.out.symm, B2.out⟩
        · rw [show decide (0 ≤ pB ps k ∧ pB ps k < (m : Int)) = false by rw [decide_eq_false_iff_not]; exact q1]
          clear hok q1
          go_wp2
          go_ret
          exact ⟨ret_bool HN.out.symm, B2.out⟩
    · have HY : Hid (vldD dl ps = true) := vldD_yes ⟨H1.out, by rw [HM.out]; exact H2.out.1, by rw [HM.out]; exact H2.out.2, by rw [HL.out]; omega, fun i hi => by rw [HM.out]; exact HOK.out i (by rw [HL.out] at hi; omega)⟩
      have hltI : ¬ (k : Int) < (n : Int) := by omega
      have HG : Hid (Below w.heap.size w wr) := hg
      clear hg
      go_wp2
      go_ret
      exact ⟨ret_bool HY.out.symm, HG.out⟩

theorem implValid_any (w : World) (va vb : Option Addr) (dl ca n cb : Nat) (ps : List (Int × List Int)) (hp : RdW w (.slice vb n cb) ps) (hl : ps.length = n) (hd : dl ≤ 1048576) (hn : n ≤ 1048576) (hdl : ∀ i, (pD ps i).length ≤ 1048576) :
    Calls Tryd.prog 100 #[.agg #[.slice va dl ca, .slice vb n cb]] w fun e w' => e = .returned (.bool (vldD dl ps)) ∧ Below w.heap.size w w' := by
  by_cases h : dl % 64 = 0 ∧ 1 ≤ dl / 64 ∧ dl / 64 ≤ 300 ∧ n ≤ 2000
  · exact implValid_loop w va vb dl ca n cb ps hp hl hd h.1 h.2.1 h.2.2.1 h.2.2.2 hdl
  · rw [vldD_no (fun h5 => h ⟨h5.1, h5.2.1, h5.2.2.1, by have := h5.2.2.2.1; omega⟩)]
    exact implValid_head w va vb dl ca n cb hd hn h

end Go.Proofs.YtmgolinleiahpaaDoor

namespace Go.Proofs.YtmgolinleiahpaaDoor
open Go.RowKit

set_option maxHeartbeats 400000 in
theorem eqWrite_any (w : World) (x y : Int) (va vb : Value) (xs ys : List Int) (ha : Rd .u8 w va xs) (hb : Rd .u8 w vb ys) :
    Calls Tryd.prog 89 #[.agg #[.int .i64 x, va], .agg #[.int .i64 y, vb]] w fun e w' => e = .returned (.bool (decide (x = y ∧ xs = ys))) ∧ Below w.heap.size w w' := by
  have B0 : Hid (Below w.heap.size w ((w.alloc (.cells #[.int .i64 x, va] 131)).alloc (.cells #[.int .i64 y, vb] 131))) := ((Below.refl _ _).alloc (Nat.le_refl _) _).alloc (by simp) _
  have RA : Hid (Rd .u8 ((w.alloc (.cells #[.int .i64 x, va] 131)).alloc (.cells #[.int .i64 y, vb] 131)) va xs) := ha.below B0.out
  have RB : Hid (Rd .u8 ((w.alloc (.cells #[.int .i64 x, va] 131)).alloc (.cells #[.int .i64 y, vb] 131)) vb ys) := hb.below B0.out
  obtain ⟨a1, c1, rfl, _, _⟩ := ha.len
  obtain ⟨a2, c2, rfl, _, _⟩ := hb.len
  clear ha hb
  by_cases he : x = y
  · subst he
    have t : (x != x) = false := by simp
    go_enter Tryd.func89, Tryd.ntmps89
    go_wp2_with fail
    refine (eqByteS_any _ _ _ xs ys RA.out RB.out).mono ?_
    rintro e w1 ⟨rfl, q1, rfl⟩
    have BE : Hid (Below w.heap.size w (((w.alloc (.cells #[.int .i64 x, .slice a1 xs.length c1] 131)).alloc (.cells #[.int .i64 x, .slice a2 ys.length c2] 131)).drewN q1)) := B0.out.trans ((below_drewN' _ q1).mono (by simp; omega))
    by_cases h : xs = ys
    · have hd : decide (xs = ys) = true := by simp [h]
      have hd2 : decide (x = x ∧ xs = ys) = true := by simp [h]
      rw [hd]
      clear h
      go_wp2
      go_ret
      exact ⟨ret_bool hd2.symm, BE.out⟩
    · have hd : decide (xs = ys) = false := by simp [h]
      have hd2 : decide (x = x ∧ xs = ys) = false := by simp [h]
      rw [hd]
      clear h
      go_wp2
      go_ret
      exact ⟨ret_bool hd2.symm, BE.out⟩
  · have t : (x != y) = true := by simp [he]
    have hd2 : decide (x = y ∧ xs = ys) = false := by simp [he]
    clear he
    go_enter Tryd.func89, Tryd.ntmps89
    go_wp2
    go_ret
    exact ⟨ret_bool hd2.symm, B0.out⟩

theorem recs_ext {ps qs : List (Int × List Int)} (hl : ps.length = qs.length) (h : ∀ i, i < ps.length → pB ps i = pB qs i ∧ pD ps i = pD qs i) : ps = qs := by
  apply List.ext_getElem hl
  intro i h1 h2
  have := h i h1
  unfold pB pD at this
  simp only [List.getD, List.getElem?_eq_getElem h1, List.getElem?_eq_getElem h2, Option.getD_some] at this
  exact Prod.ext this.1 this.2

set_option maxHeartbeats 1000000 in
set_option maxRecDepth 100000 in
theorem eqWriteS_row (w : World) (b o b2 o2 n ca cb : Nat) (ps qs : List (Int × List Int)) (hp : ps.length = n) (hq : qs.length = n) (hn : n ≤ 1048576) (hb : b < w.heap.size) (hb2 : b2 < w.heap.size)
    (hc : ∀ i, i < n → w.cell? ⟨b, o + i * 2, none⟩ = some (.int .i64 (pB ps i)) ∧ ∃ da c, w.cell? ⟨b, o + i * 2 + 1, none⟩ = some (.slice da (pD ps i).length c) ∧ Rd .u8 w (.slice da (pD ps i).length c) (pD ps i))
    (hc2 : ∀ i, i < n → w.cell? ⟨b2, o2 + i * 2, none⟩ = some (.int .i64 (pB qs i)) ∧ ∃ da c, w.cell? ⟨b2, o2 + i * 2 + 1, none⟩ = some (.slice da (pD qs i).length c) ∧ Rd .u8 w (.slice da (pD qs i).length c) (pD qs i)) :
    Calls Tryd.prog 48 #[.slice (some ⟨b, o, none⟩) n ca, .slice (some ⟨b2, o2, none⟩) n cb] w fun e w' => e = .returned (.bool (decide (ps = qs))) ∧ Below w.heap.size w w' := by
  have HC : Hid (∀ i, i < n → w.cell? ⟨b, o + i * 2, none⟩ = some (.int .i64 (pB ps i)) ∧ ∃ da c, w.cell? ⟨b, o + i * 2 + 1, none⟩ = some (.slice da (pD ps i).length c) ∧ Rd .u8 w (.slice da (pD ps i).length c) (pD ps i)) := hc
  have HC2 : Hid (∀ i, i < n → w.cell? ⟨b2, o2 + i * 2, none⟩ = some (.int .i64 (pB qs i)) ∧ ∃ da c, w.cell? ⟨b2, o2 + i * 2 + 1, none⟩ = some (.slice da (pD qs i).length c) ∧ Rd .u8 w (.slice da (pD qs i).length c) (pD qs i)) := hc2
  have HP : Hid (ps.length = n) := hp
  have HQ : Hid (qs.length = n) := hq
  clear hc hc2 hp hq
  have h1 : ((n : Int) != (n : Int)) = false := by simp
  go_enter Tryd.func48, Tryd.ntmps48
  go_wp2
  go_loopw [5] (fun i wr => ∃ k : Nat, k ≤ n ∧ i = .int .i64 k ∧ Hid (∀ i, i < k → pB ps i = pB qs i ∧ pD ps i = pD qs i) ∧ Below w.heap.size w wr) (fun i _ => n - (intOf i).toNat)
  case atStart => exact ⟨0, Nat.zero_le _, rfl, fun i hi => by omega, Below.refl _ _⟩
  case round =>
    obtain ⟨k, hk, rfl, HT, hg⟩ := hrel
    by_cases hlt : k < n
    · obtain ⟨e1, da, dc, e2, r⟩ := HC.out k hlt
      obtain ⟨g1, da2, dc2, g2, r2⟩ := HC2.out k hlt
      have e1' := (hg.cell (p := ⟨b, o + k * 2, none⟩) hb).trans e1
      have e2' := (hg.cell (p := ⟨b, o + k * 2 + 1, none⟩) hb).trans e2
      have g1' := (hg.cell (p := ⟨b2, o2 + k * 2, none⟩) hb2).trans g1
      have g2' := (hg.cell (p := ⟨b2, o2 + k * 2 + 1, none⟩) hb2).trans g2
      have hltI : (k : Int) < (n : Int) := by omega
      have HE : Hid (∀ q, Calls Tryd.prog 89 #[.agg #[.int .i64 (pB ps k), .slice da (pD ps k).length dc], .agg #[.int .i64 (pB qs k), .slice da2 (pD qs k).length dc2]] (wr.drewN q) fun e w' => e = .returned (.bool (decide (pB ps k = pB qs k ∧ pD ps k = pD qs k))) ∧ Below w.heap.size w w') := by
        intro q
        refine (eqWrite_any _ _ _ _ _ (pD ps k) (pD qs k) ((r.below hg).drewN q) ((r2.below hg).drewN q)).mono ?_
        rintro e w' ⟨rfl, b'⟩
        exact ⟨rfl, (hg.trans ((below_drewN' wr q).mono hg.size)).trans (b'.mono hg.size)⟩
      clear e1 e2 g1 g2 r r2 hg
      by_cases heq : pB ps k = pB qs k ∧ pD ps k = pD qs k
      · have HQ1 : Hid (pB ps k = pB qs k ∧ pD ps k = pD qs k) := heq
        have HD : Hid (decide (pB ps k = pB qs k ∧ pD ps k = pD qs k) = true) := by show _ = _; rw [decide_eq_true_eq]; exact heq
        clear heq
        go_wp2
        go_region_with (go_at_call 89; refine (HE.out 1).mono ?_; rintro e w' ⟨rfl, b'⟩; rw [HD.out])
        all_goals
          have HB : Hid (Below w.heap.size w w') := b'
          clear b'
          go_wp2
          go_roundw
          case rel => exact ⟨k + 1, by omega, by go_num, (fun i hi => by by_cases e : i = k; (subst e; exact HQ1.out); exact HT.out i (by omega)), HB.out⟩
          case measure => simp [intOf]; omega
      · have HD : Hid (decide (pB ps k = pB qs k ∧ pD ps k = pD qs k) = false) := by show _ = _; rw [decide_eq_false_iff_not]; exact heq
        have HN : Hid (decide (ps = qs) = false) := by show _ = _; rw [decide_eq_false_iff_not]; intro h; subst h; exact heq ⟨rfl, rfl⟩
        clear heq
        go_wp2
        go_region_with (go_at_call 89; refine (HE.out 1).mono ?_; rintro e w' ⟨rfl, b'⟩; rw [HD.out])
        all_goals
          have HB : Hid (Below w.heap.size w w') := b'
          clear b'
          go_wp2
          go_ret
          exact ⟨ret_bool HN.out.symm, HB.out⟩
    · have HY : Hid (decide (ps = qs) = true) := by show _ = _; rw [decide_eq_true_eq]; exact recs_ext (by rw [HP.out, HQ.out]) (fun i hi => HT.out i (by rw [HP.out] at hi; omega))
      have HG : Hid (Below w.heap.size w wr) := hg
      clear hg
      go_wp2
      go_ret
      exact ⟨ret_bool HY.out.symm, HG.out⟩

set_option maxHeartbeats 400000 in
theorem eqWriteS_len (w : World) (ao bo : Option Addr) (n m ca cb : Nat) (h : n ≠ m) :
    Calls Tryd.prog 48 #[.slice ao n ca, .slice bo m cb] w fun e w' => e = .returned (.bool false) ∧ w' = w := by
  have h1 : ((n : Int) != (m : Int)) = true := by rw [bne_iff_ne]; omega
  go_enter Tryd.func48, Tryd.ntmps48
  go_wp2
  go_ret
  exact ⟨rfl, rfl⟩

theorem eqWriteS_any (w : World) (va vb : Value) (ps qs : List (Int × List Int)) (ha : RdW w va ps) (hb : RdW w vb qs) (hn : ps.length ≤ 1048576) :
    Calls Tryd.prog 48 #[va, vb] w fun e w' => e = .returned (.bool (decide (ps = qs))) ∧ Below w.heap.size w w' := by
  obtain ⟨ao, ca, rfl, h1, h2, h3⟩ := ha
  obtain ⟨bo, cb, rfl, k1, k2, k3⟩ := hb
  by_cases hne : ps.length = qs.length
  · rcases h3 with rfl | ⟨b, o, rfl, hb, hc⟩
    · have hy : qs = [] := List.eq_nil_of_length_eq_zero hne.symm
      subst hy
      refine (eqWriteS_nil w ao bo ca cb).mono ?_
      rintro e w' ⟨rfl, rfl⟩
      exact ⟨ret_bool (by simp), Below.refl _ _⟩
    · rcases k3 with rfl | ⟨b2, o2, rfl, hb2, hc2⟩
      · have hx : ps = [] := List.eq_nil_of_length_eq_zero hne
        subst hx
        refine (eqWriteS_nil w _ bo ca cb).mono ?_
        rintro e w' ⟨rfl, rfl⟩
        exact ⟨ret_bool (by simp), Below.refl _ _⟩
      · rw [← hne] at hc2 ⊢
        exact eqWriteS_row w b o b2 o2 ps.length ca cb ps qs rfl hne.symm hn hb hb2 hc hc2
  · refine (eqWriteS_len w ao bo _ _ ca cb hne).mono ?_
    rintro e w' ⟨rfl, rfl⟩
    exact ⟨ret_bool (by symm; rw [decide_eq_false_iff_not]; intro h; exact hne (by rw [h])), Below.refl _ _⟩

set_option maxHeartbeats 400000 in
theorem eqDisk_any (w : World) (va vb pa pb : Value) (xs ys : List Int) (ps qs : List (Int × List Int)) (ha : Rd .u8 w va xs) (hb : Rd .u8 w vb ys) (hp : RdW w pa ps) (hq : RdW w pb qs) (hn : ps.length ≤ 1048576) :
    Calls Tryd.prog 9 #[.agg #[va, pa], .agg #[vb, pb]] w fun e w' => e = .returned (.bool (decide (xs = ys ∧ ps = qs))) ∧ Below w.heap.size w w' := by
  have B0 : Hid (Below w.heap.size w ((w.alloc (.cells #[va, pa] 27)).alloc (.cells #[vb, pb] 27))) := ((Below.refl _ _).alloc (Nat.le_refl _) _).alloc (by simp) _
  have RA : Hid (Rd .u8 ((w.alloc (.cells #[va, pa] 27)).alloc (.cells #[vb, pb] 27)) va xs) := ha.below B0.out
  have RB : Hid (Rd .u8 ((w.alloc (.cells #[va, pa] 27)).alloc (.cells #[vb, pb] 27)) vb ys) := hb.below B0.out
  have PA : Hid (RdW ((w.alloc (.cells #[va, pa] 27)).alloc (.cells #[vb, pb] 27)) pa ps) := hp.below B0.out
  have PB : Hid (RdW ((w.alloc (.cells #[va, pa] 27)).alloc (.cells #[vb, pb] 27)) pb qs) := hq.below B0.out
  clear ha hb hp hq
  go_enter Tryd.func9, Tryd.ntmps9
  go_wp2_with fail
  refine (eqByteS_any _ _ _ xs ys RA.out RB.out).mono ?_
  rintro e w1 ⟨rfl, q1, rfl⟩
  by_cases h : xs = ys
  · have hd : decide (xs = ys) = true := by simp [h]
    rw [hd]
    have HE : Hid (xs = ys) := h
    clear h
    go_wp2_with fail
    refine (eqWriteS_any _ _ _ ps qs (PA.out.below (below_drewN' _ q1)) (PB.out.below (below_drewN' _ q1)) hn).mono ?_
    rintro e w2 ⟨rfl, b2⟩
    have B2 : Hid (Below w.heap.size w w2) := (B0.out.trans ((below_drewN' _ q1).mono (by simp; omega))).trans (b2.mono (by simp; omega))
    clear b2
    by_cases h2 : ps = qs
    · have hd2 : decide (ps = qs) = true := by simp [h2]
      have hd3 : decide (xs = ys ∧ ps = qs) = true := by rw [decide_eq_true_eq]; exact ⟨HE.out, h2⟩
      rw [hd2]
      clear h2
      go_wp2
      go_ret
      exact ⟨ret_bool hd3.symm, B2.out⟩
    · have hd2 : decide (ps = qs) = false := by simp [h2]
      have hd3 : decide (xs = ys ∧ ps = qs) = false := by simp [h2]
      rw [hd2]
      clear h2
      go_wp2
      go_ret
      exact ⟨ret_bool hd3.symm, B2.out⟩
  · have hd : decide (xs = ys) = false := by simp [h]
    have hd3 : decide (xs = ys ∧ ps = qs) = false := by simp [h]
    rw [hd]
    have BE : Hid (Below w.heap.size w (((w.alloc (.cells #[va, pa] 27)).alloc (.cells #[vb, pb] 27)).drewN q1)) := B0.out.trans ((below_drewN' _ q1).mono (by simp; omega))
    clear h
    go_wp2
    go_ret
    exact ⟨ret_bool hd3.symm, BE.out⟩

end Go.Proofs.YtmgolinleiahpaaDoor

namespace Go.Proofs.YtmgolinleiahpaaDoor
open Go.RowKit

set_option maxHeartbeats 400000 in
theorem markByteE_row {te : TypeId} (w : World) (base g n cap : Nat) (xs : List Int) (k : Int) (hx : xs.length = n) (hown : Own .u8 te w base (.slice (some ⟨g, 0, none⟩) n cap) xs) (hk0 : 0 ≤ k) (hk1 : k ≤ 1099511627776) (hn : n ≤ 1099511627776) :
    Calls Tryd.prog 30 #[.slice (some ⟨g, 0, none⟩) n cap, .int .i64 k] w fun e w' => e = .returned (.int .i64 (k + n)) ∧ Own .u8 te w' base (.slice (some ⟨g, 0, none⟩) n cap) (marks k n) ∧ w.grownBy w' (some g) := by
  have HX : Hid (xs.length = n) := hx
  clear hx
  go_enter Tryd.func30, Tryd.ntmps30
  go_wp2
  go_loopw [1, 5] (fun kk i wr => ∃ j : Nat, j ≤ n ∧ i = .int .i64 j ∧ kk = .int .i64 (k + j) ∧ Own .u8 te wr base (.slice (some ⟨g, 0, none⟩) n cap) (mix (marks k n) xs j) ∧ w.grownBy wr (some g)) (fun _ i _ => n - (intOf i).toNat)
  case atStart => exact ⟨0, Nat.zero_le _, rfl, by go_num, by rw [mix_zero]; exact hown, World.grownBy.refl _ _⟩
  case round =>
    obtain ⟨j, hj, rfl, rfl, ho, hg⟩ := hrel
    by_cases hlt : j < n
    · have ho' : wr.ownsRow base te 1 (.slice (some ⟨g, 0, none⟩) n cap) n ((mix (marks k n) xs j).map (Value.int .u8)) := by
        have := ho; unfold Own at this; rw [mix_length (by rw [marks_length, HX.out]), HX.out] at this; exact this
      have hf := World.ownsRow.frozenAt ho' j
      have hc : ∃ c, wr.cell? ⟨g, j, none⟩ = some c := ⟨_, (World.ownsRow.cellAt ho' j (by omega)).trans (List.getElem?_eq_getElem (by simp [mix_length (show (marks k n).length = xs.length by rw [marks_length, HX.out]), HX.out]; exact hlt))⟩
      obtain ⟨c, hc⟩ := hc
      have HO : Hid (Own .u8 te wr base (.slice (some ⟨g, 0, none⟩) n cap) (mix (marks k n) xs j)) := ho
      clear ho ho'
      have hltI : (j : Int) < (n : Int) := by omega
      go_wp2
      go_roundw
      case rel => exact ⟨j + 1, by omega, by go_num, by go_num, Own.mixed (by rw [marks_length, HX.out]) HX.out (by rw [HX.out]; exact hlt) HO.out (by rw [marks_getD _ _ _ hlt]), grownBy_set _ _ _ _ _ hg⟩
      case measure => simp [intOf]; omega
    · have hjn : j = n := by omega
      subst hjn
      go_wp2
      go_ret
      exact ⟨rfl, by rw [mix_all (by rw [marks_length, HX.out]) (by rw [HX.out]; exact Nat.le_refl _)] at ho; exact ho, hg⟩

theorem markByteE_any {te : TypeId} (w : World) (base : Nat) (v : Value) (xs : List Int) (k : Int) (hown : Own .u8 te w base v xs) (hk0 : 0 ≤ k) (hk1 : k ≤ 1099511627776) (hn : xs.length ≤ 1099511627776) :
    Calls Tryd.prog 30 #[v, .int .i64 k] w fun e w' => e = .returned (.int .i64 (k + xs.length)) ∧ Own .u8 te w' base v (marks k xs.length) ∧ w.grownBy w' v.ownBlock := by
  rcases hown.row with ⟨rfl, rfl⟩ | ⟨g, cap, rfl, _⟩
  · refine (markByteS_nil w k).mono ?_
    rintro e w' ⟨rfl, rfl⟩
    exact ⟨ret_int (by simp), World.ownsRow_nil _ _ _ _, World.grownBy.refl _ _⟩
  · exact markByteE_row w base g xs.length cap xs k rfl hown hk0 hk1 hn

theorem markByteB_any (w : World) (base : Nat) (v : Value) (xs : List Int) (k : Int) (hown : OwnB w base v xs) (hk0 : 0 ≤ k) (hk1 : k ≤ 1099511627776) (hn : xs.length ≤ 1099511627776) :
    Calls Tryd.prog 30 #[v, .int .i64 k] w fun e w' => e = .returned (.int .i64 (k + xs.length)) ∧ OwnB w' base v (marks k xs.length) ∧ w.grownBy w' v.ownBlock := by
  obtain ⟨te, h⟩ := hown
  refine (markByteE_any w base v xs k h hk0 hk1 hn).mono ?_
  rintro e w' ⟨rfl, o, g⟩
  exact ⟨rfl, ⟨te, o⟩, g⟩

end Go.Proofs.YtmgolinleiahpaaDoor

namespace Go.Proofs.YtmgolinleiahpaaDoor
open Go.RowKit

/-- Only blocks from lo to hi may have turned. -/
structure Within (lo hi : Nat) (w w' : World) : Prop where
  os : w'.os = w.os
  tape : w'.tape = w.tape
  output : w'.output = w.output
  size : w.heap.size ≤ w'.heap.size
  block : ∀ k, k < w.heap.size → (k < lo ∨ hi ≤ k) → w'.heap[k]? = w.heap[k]?

theorem Within.refl (lo hi : Nat) (w : World) : Within lo hi w w := ⟨rfl, rfl, rfl, Nat.le_refl _, fun _ _ _ => rfl⟩
theorem Within.trans {lo hi : Nat} {a b c : World} (h : Within lo hi a b) (k : Within lo hi b c) : Within lo hi a c :=
  ⟨k.os.trans h.os, k.tape.trans h.tape, k.output.trans h.output, Nat.le_trans h.size k.size, fun i hi hj => (k.block i (Nat.lt_of_lt_of_le hi h.size) hj).trans (h.block i hi hj)⟩
theorem Within.of_grown {lo hi : Nat} {a b : World} {row : Option Nat} (h : a.grownBy b row) (hr : ∀ g, row = some g → lo ≤ g ∧ g < hi) : Within lo hi a b :=
  ⟨h.os, h.tape, h.output, h.size, fun k hk hj => h.block k hk (fun e => by have := hr k e.symm; omega)⟩
theorem Within.of_below {lo hi : Nat} {a b : World} (h : Below a.heap.size a b) : Within lo hi a b := ⟨h.os, h.tape, h.output, h.size, fun k hk _ => h.block k hk⟩
theorem Within.setCell {lo hi g : Nat} (w : World) (h1 : lo ≤ g) (h2 : g < hi) (j : Nat) (u : Value) : Within lo hi w (w.setCell ⟨g, j, none⟩ u) :=
  Within.of_grown (grownBy_set w w g j u (World.grownBy.refl _ _)) (fun q e => by injection e with e; omega)
theorem Within.below {lo hi B : Nat} {a b c : World} (hb : Below B a b) (h : Within lo hi b c) (hB : B ≤ lo) (hs : B ≤ b.heap.size) : Below B a c :=
  ⟨h.os.trans hb.os, h.tape.trans hb.tape, h.output.trans hb.output, Nat.le_trans hb.size h.size, fun k hk => (h.block k (by omega) (.inl (by omega))).trans (hb.block k hk)⟩
theorem Within.own {lo hi : Nat} {a b : World} (h : Within lo hi a b) {k : IntKind} {e : TypeId} {B : Nat} {v : Value} {xs : List Int} (ho : Own k e a B v xs) (hv : ∀ g, v.ownBlock = some g → g < lo ∨ hi ≤ g) : Own k e b B v xs := by
  refine ⟨ho.1, ?_⟩
  rcases ho.2 with hn | ⟨g, cap, cur, rfl, hbg, hgg, rest⟩
  · exact .inl hn
  · exact .inr ⟨g, cap, cur, rfl, hbg, by rw [h.block g (Array.getElem?_eq_some_iff.1 hgg).1 (hv g rfl)]; exact hgg, rest⟩
theorem Within.ownW {lo hi : Nat} {a b : World} (h : Within lo hi a b) {e : TypeId} {B : Nat} {v : Value} {ps : List (Int × List Int)} {dv : Nat → Value} (ho : OwnW e a B v ps dv)
    (hv : ∀ g, v.ownBlock = some g → g < lo ∨ hi ≤ g) (hd : ∀ i, i < ps.length → ∀ g, (dv i).ownBlock = some g → g < lo ∨ hi ≤ g) : OwnW e b B v ps dv := by
  refine ⟨⟨ho.1.1, ?_⟩, fun i hi => (ho.2.1 i hi).elim fun _ h' => ⟨_, h.own h' (hd i hi)⟩, ho.2.2⟩
  rcases ho.1.2 with hn | ⟨g, cap, cur, rfl, hbg, hgg, rest⟩
  · exact .inl hn
  · exact .inr ⟨g, cap, cur, rfl, hbg, by rw [h.block g (Array.getElem?_eq_some_iff.1 hgg).1 (hv g rfl)]; exact hgg, rest⟩
theorem Within.box2 {lo hi : Nat} {a b : World} (h : Within lo hi a b) {q : Nat} {x y : Value} (hb : Box2 a q x y) (hq : q < lo ∨ hi ≤ q) : Box2 b q x y :=
  ⟨Nat.lt_of_lt_of_le hb.1 h.size, (World.cell?_of_block (w := a) (a := ⟨q, 0, none⟩) (h.block q hb.1 hq)).trans hb.2.1, (World.cell?_of_block (w := a) (a := ⟨q, 1, none⟩) (h.block q hb.1 hq)).trans hb.2.2⟩

/-- The mark of record i. -/
def ks (ps : List (Int × List Int)) (k : Int) (i : Nat) : Int := k + i + tot (ps.take i)
theorem ks_succ (ps : List (Int × List Int)) (k : Int) (i : Nat) (h : i < ps.length) : ks ps k (i + 1) = ks ps k i + 1 + (pD ps i).length := by
  unfold ks; rw [tot_take_succ ps i h]; omega
def mkP (ps : List (Int × List Int)) (k : Int) : List (Int × List Int) := (List.range ps.length).map fun i => (ks ps k i, marks (ks ps k i + 1) (pD ps i).length)
theorem mkP_len (ps : List (Int × List Int)) (k : Int) : (mkP ps k).length = ps.length := by simp [mkP]
theorem mkP_B (ps : List (Int × List Int)) (k : Int) (i : Nat) (h : i < ps.length) : pB (mkP ps k) i = ks ps k i := by unfold pB mkP; simp [List.getD, h]
theorem mkP_D (ps : List (Int × List Int)) (k : Int) (i : Nat) (h : i < ps.length) : pD (mkP ps k) i = marks (ks ps k i + 1) (pD ps i).length := by show ((mkP ps k).getD i (0, [])).2 = _; unfold mkP; simp [List.getD, h]

def mB (ps : List (Int × List Int)) (k0 : Int) (k i : Nat) : Int := if i < k then ks ps k0 i else pB ps i
def mD (ps : List (Int × List Int)) (k0 : Int) (k i : Nat) : List Int := if i < k then marks (ks ps k0 i + 1) (pD ps i).length else pD ps i

theorem tot_le (ps : List (Int × List Int)) (i : Nat) : tot (ps.take i) ≤ tot ps := by
  unfold tot
  conv => rhs; rw [← List.take_append_drop i ps, List.map_append, List.sum_append]
  omega

theorem rowW_setB {n k : Nat} {f f' : Nat → Int} {g : Nat → Value} (hk : k < n) (hf : ∀ i, i ≠ k → f i = f' i) : (rowW n f g).set (k * 2) (.int .i64 (f' k)) = rowW n f' g := by
  have h := rowW_set (n := n) (f := f) (f' := f') (g := g) (g' := g) hk hf (fun _ _ => rfl)
  rw [← h]
  apply List.ext_getElem?
  intro j
  by_cases e : k * 2 + 1 = j
  · subst e
    rw [List.getElem?_set_self (by simp [rowW_length]; omega), List.getElem?_set_ne (by omega), rowW_get _ _ _ _ (by omega), if_neg (by omega), show (k * 2 + 1) / 2 = k by omega]
  · rw [List.getElem?_set_ne (l := (rowW n f g).set (k * 2) (.int .i64 (f' k))) e]

set_option maxHeartbeats 1000000 in
set_option maxRecDepth 100000 in
theorem markWriteS_row (w : World) (lo hi g n cap : Nat) (ps : List (Int × List Int)) (dv : Nat → Value) (k0 : Int) (hp : ps.length = n) (ho : OwnW 131 w lo (.slice (some ⟨g, 0, none⟩) n cap) ps dv)
    (hg : g < hi) (hd : ∀ i, i < n → ∀ q, (dv i).ownBlock = some q → q < hi) (hk0 : 0 ≤ k0) (hk1 : k0 ≤ 4194304) (hn : n ≤ 1048576) (ht : tot ps ≤ 1048576) :
    Calls Tryd.prog 49 #[.slice (some ⟨g, 0, none⟩) n cap, .int .i64 k0] w fun e w' => e = .returned (.int .i64 (ks ps k0 n)) ∧ OwnW 131 w' lo (.slice (some ⟨g, 0, none⟩) n cap) (mkP ps k0) dv ∧ Within lo hi w w' ∧ (∀ q, q < w.heap.size → some q ≠ Value.ownBlock (.slice (some ⟨g, 0, none⟩) n cap) → (∀ i, i < n → (dv i).ownBlock ≠ some q) → w'.heap[q]? = w.heap[q]?) := by
  have hlo : lo ≤ g := (World.ownsRow.lt ho.1 g rfl).1
  have HP : Hid (ps.length = n) := hp
  have HD : Hid (∀ i, i < n → ∀ q, (dv i).ownBlock = some q → q < hi) := hd
  have HO : Hid (OwnW 131 w lo (.slice (some ⟨g, 0, none⟩) n cap) ps dv) := ho
  clear hd ho hp
  go_enter Tryd.func49, Tryd.ntmps49
  go_wp2
  go_loopw [1, 5] (fun kk i wr => ∃ k : Nat, k ≤ n ∧ i = .int .i64 k ∧ kk = .int .i64 (ks ps k0 k) ∧ wr.ownsRow lo 131 2 (.slice (some ⟨g, 0, none⟩) n cap) n (rowW n (mB ps k0 k) dv) ∧ Hid (∀ i, i < n → OwnB wr lo (dv i) (mD ps k0 k i)) ∧ Within lo hi w wr ∧ Hid (∀ q, q < w.heap.size → some q ≠ Value.ownBlock (.slice (some ⟨g, 0, none⟩) n cap) → (∀ i, i < n → (dv i).ownBlock ≠ some q) → wr.heap[q]? = w.heap[q]?)) (fun _ i _ => n - (intOf i).toNat)
  case atStart => exact ⟨0, Nat.zero_le _, rfl, (by unfold ks; simp [tot]), (by have := HO.out.1; rw [HP.out] at this; exact this), (fun i hi => HO.out.2.1 i (by rw [HP.out]; exact hi)), Within.refl _ _ _, fun _ _ _ _ => rfl⟩
  case round =>
    obtain ⟨k, hk, rfl, rfl, hr, HI, hw, HF⟩ := hrel
    by_cases hlt : k < n
    · have hltI : (k : Int) < (n : Int) := by omega
      have f0 := World.ownsRow.frozenAt hr (k * 2)
      have d0 := (World.ownsRow.cellAt hr (k * 2) (by omega)).trans (rowW_get n _ _ (k * 2) (by omega))
      have d1 := (World.ownsRow.cellAt hr (k * 2 + 1) (by omega)).trans (rowW_get n _ _ (k * 2 + 1) (by omega))
      rw [if_neg (by omega), show (k * 2 + 1) / 2 = k by omega] at d1
      obtain ⟨x0, d0⟩ : ∃ x, wr.cell? ⟨g, k * 2, none⟩ = some x := ⟨_, d0⟩
      have hb1 := tot_le ps k
      have hkk : 0 ≤ ks ps k0 k ∧ ks ps k0 k ≤ 6291457 := by unfold ks; omega
      have HKS : Hid (ks ps k0 (k + 1) = ks ps k0 k + 1 + (pD ps k).length) := ks_succ ps k0 k (by rw [HP.out]; exact hlt)
      have hlen : (pD ps k).length ≤ 1048576 := by
        have h1 := tot_take_succ ps k (by rw [HP.out]; exact hlt)
        have h2 := tot_le ps (k + 1)
        omega
      have HR : Hid (wr.ownsRow lo 131 2 (.slice (some ⟨g, 0, none⟩) n cap) n (rowW n (mB ps k0 k) dv)) := hr
      have HW : Hid (Within lo hi w wr) := hw
      have OK : Hid (OwnB wr lo (dv k) (pD ps k)) := by have := HI.out k hlt; unfold mD at this; rw [if_neg (by omega)] at this; exact this
      have NE : Hid (∀ i, i < n → (dv i).ownBlock = none ∨ (dv i).ownBlock ≠ some g) := fun i hi => by have := HO.out.2.2.2 i (by rw [HP.out]; exact hi); exact this
      obtain ⟨da, dc, hdk⟩ := OK.out.slice
      rw [hdk] at d1
      clear hr hw hb1
      generalize hkx : ks ps k0 k = kx at *
      have HKX : Hid (ks ps k0 k = kx) := hkx
      clear hkx
      go_wp2_with fail
      have OK2 : Hid (OwnB (wr.setCell ⟨g, k * 2, none⟩ (.int .i64 kx)) lo (.slice da (pD ps k).length dc) (pD ps k)) := by
        have h1 := OK.out.setAt (j := k * 2) (u := .int .i64 kx) (NE.out k hlt); rw [hdk] at h1; exact h1
      refine (markByteB_any _ lo _ (pD ps k) (kx + 1) OK2.out (by omega) (by omega) (by omega)).mono ?_
      rintro e w2 ⟨rfl, o2, g2⟩
      have HDK : Hid (dv k = .slice da (pD ps k).length dc) := hdk
      have O2 : Hid (OwnB w2 lo (.slice da (pD ps k).length dc) (marks (kx + 1) (pD ps k).length)) := o2
      have G2 : Hid ((wr.setCell ⟨g, k * 2, none⟩ (.int .i64 kx)).grownBy w2 (Value.ownBlock (.slice da (pD ps k).length dc))) := g2
      clear o2 g2 OK OK2 d0 d1 f0 hdk
      have S : Hid (w2.ownsRow lo 131 2 (.slice (some ⟨g, 0, none⟩) n cap) n (rowW n (mB ps k0 (k + 1)) dv) ∧ (∀ i, i < n → OwnB w2 lo (dv i) (mD ps k0 (k + 1) i)) ∧ Within lo hi w w2 ∧ (∀ q, q < w.heap.size → some q ≠ Value.ownBlock (.slice (some ⟨g, 0, none⟩) n cap) → (∀ i, i < n → (dv i).ownBlock ≠ some q) → w2.heap[q]? = w.heap[q]?)) := by
        have nek := NE.out k hlt
        rw [HDK.out] at nek
        have r1 := (World.ownsRow.stored HR.out (k * 2) (.int .i64 kx)).1
        rw [show Value.int .i64 kx = .int .i64 (mB ps k0 (k + 1) k) by unfold mB; rw [if_pos (by omega), HKX.out], rowW_setB hlt (by intro i hi; unfold mB; by_cases h : i < k; (rw [if_pos h, if_pos (by omega)]); (rw [if_neg h, if_neg (by omega)]))] at r1
        refine ⟨World.ownsRow.kept (by rw [show mB ps k0 (k + 1) k = kx by unfold mB; rw [if_pos (by omega), HKX.out]] at r1; exact r1) G2.out ?_, fun i hi => ?_, (HW.out.trans (Within.setCell wr hlo hg _ _)).trans (Within.of_grown G2.out (fun q hq => ⟨(O2.out.lt q hq).1, HD.out k hlt q (by rw [HDK.out]; exact hq)⟩)), fun q hq hn1 hn2 => ?_⟩
        · right
          rcases nek with h | h
          · rw [h]; simp [Value.ownBlock]
          · exact fun e => h e.symm
        · by_cases e : i = k
          · subst e
            unfold mD
            rw [if_pos (by omega), HDK.out, HKX.out]
            exact O2.out
          · have h1 : OwnB (wr.setCell ⟨g, k * 2, none⟩ (.int .i64 kx)) lo (dv i) (mD ps k0 k i) := (HI.out i hi).setAt (NE.out i hi)
            have h2 : mD ps k0 (k + 1) i = mD ps k0 k i := by unfold mD; by_cases h : i < k; (rw [if_pos h, if_pos (by omega)]); (rw [if_neg h, if_neg (by omega)])
            rw [h2]
            have ne := HO.out.2.2.1 i k (by rw [HP.out]; exact hi) (by rw [HP.out]; exact hlt) e
            unfold Ne2 at ne
            rw [HDK.out] at ne
            exact h1.other G2.out ne
        · have e1 : (wr.setCell ⟨g, k * 2, none⟩ (.int .i64 kx)).heap[q]? = wr.heap[q]? := Below.heap_setCell _ _ _ _ (fun e => hn1 (by simp [Value.ownBlock, e]))
          rw [G2.out.block q (by have := HW.out.size; simp; omega) (fun e => hn2 k hlt (by rw [HDK.out]; exact e.symm)), e1]
          exact HF.out q hq hn1 hn2
      clear HI HR HW O2 G2
      go_wp2
      go_roundw
      case rel => exact ⟨k + 1, by omega, by go_num, (by rw [HKS.out]), S.out.1, S.out.2.1, S.out.2.2.1, S.out.2.2.2⟩
      case measure => simp [intOf]; omega
    · have hkn : k = n := by omega
      subst hkn
      have FIN : Hid (OwnW 131 wr lo (.slice (some ⟨g, 0, none⟩) k cap) (mkP ps k0) dv ∧ Within lo hi w wr) := by
        refine ⟨⟨?_, fun i hi => ?_, fun i j hi hj => HO.out.2.2.1 i j (by rw [mkP_len] at hi; exact hi) (by rw [mkP_len] at hj; exact hj), fun i hi => HO.out.2.2.2 i (by rw [mkP_len] at hi; exact hi)⟩, hw⟩
        · rw [mkP_len, HP.out, rowW_congr (f' := mB ps k0 k) (g' := dv) (fun i hi => by rw [mkP_B ps k0 i (by rw [HP.out]; exact hi)]; unfold mB; rw [if_pos hi]) (fun _ _ => rfl)]
          exact hr
        · rw [mkP_len, HP.out] at hi
          have := HI.out i hi
          unfold mD at this
          rw [if_pos hi] at this
          rw [mkP_D ps k0 i (by rw [HP.out]; exact hi)]
          exact this
      clear hr hw HI
      go_wp2
      go_ret
      exact ⟨rfl, FIN.out.1, FIN.out.2, HF.out⟩

theorem markWriteS_any (w : World) (lo hi : Nat) (v : Value) (ps : List (Int × List Int)) (dv : Nat → Value) (k0 : Int) (ho : OwnW 131 w lo v ps dv)
    (hg : ∀ g, v.ownBlock = some g → g < hi) (hd : ∀ i, i < ps.length → ∀ q, (dv i).ownBlock = some q → q < hi) (hk0 : 0 ≤ k0) (hk1 : k0 ≤ 4194304) (hn : ps.length ≤ 1048576) (ht : tot ps ≤ 1048576) :
    Calls Tryd.prog 49 #[v, .int .i64 k0] w fun e w' => e = .returned (.int .i64 (ks ps k0 ps.length)) ∧ OwnW 131 w' lo v (mkP ps k0) dv ∧ Within lo hi w w' ∧ (∀ q, q < w.heap.size → some q ≠ v.ownBlock → (∀ i, i < ps.length → (dv i).ownBlock ≠ some q) → w'.heap[q]? = w.heap[q]?) := by
  rcases ho.1.2 with ⟨rfl, h0⟩ | ⟨g, cap, cur, rfl, _⟩
  · have : ps = [] := List.eq_nil_of_length_eq_zero h0
    subst this
    refine (markWriteS_nil w none 0 k0).mono ?_
    rintro e w' ⟨rfl, rfl⟩
    exact ⟨ret_int (by unfold ks; simp [tot]), ho, Within.refl _ _ _, fun _ _ _ _ => rfl⟩
  · exact markWriteS_row w lo hi g ps.length cap ps dv k0 rfl ho (hg g rfl) hd hk0 hk1 hn ht

set_option maxHeartbeats 1000000 in
set_option maxRecDepth 100000 in
theorem heldWriteS_row (w : World) (b o n cap : Nat) (ps : List (Int × List Int)) (k0 : Int) (hp : ps.length = n)
    (hc : ∀ i, i < n → w.cell? ⟨b, o + i * 2, none⟩ = some (.int .i64 (pB (mkP ps k0) i)) ∧ ∃ da c, w.cell? ⟨b, o + i * 2 + 1, none⟩ = some (.slice da (pD (mkP ps k0) i).length c) ∧ Rd .u8 w (.slice da (pD (mkP ps k0) i).length c) (pD (mkP ps k0) i))
    (hk0 : 0 ≤ k0) (hk1 : k0 ≤ 4194304) (hn : n ≤ 1048576) (ht : tot ps ≤ 1048576) :
    Calls Tryd.prog 51 #[.slice (some ⟨b, o, none⟩) n cap, .int .i64 k0] w fun e w' => e = .returned (.int .i64 (ks ps k0 n)) ∧ w' = w := by
  have HC : Hid (∀ i, i < n → w.cell? ⟨b, o + i * 2, none⟩ = some (.int .i64 (ks ps k0 i)) ∧ ∃ da c, w.cell? ⟨b, o + i * 2 + 1, none⟩ = some (.slice da (pD ps i).length c) ∧ Rd .u8 w (.slice da (pD ps i).length c) (marks (ks ps k0 i + 1) (pD ps i).length)) := by
    intro i hi
    have := hc i hi
    rw [mkP_B ps k0 i (by omega), mkP_D ps k0 i (by omega), marks_length] at this
    exact this
  have HP : Hid (ps.length = n) := hp
  clear hc hp
  go_enter Tryd.func51, Tryd.ntmps51
  go_wp2
  go_loop [1, 5] (fun kk i => ∃ k : Nat, k ≤ n ∧ i = .int .i64 k ∧ kk = .int .i64 (ks ps k0 k)) (fun _ i => n - (intOf i).toNat)
  case atStart => exact ⟨0, Nat.zero_le _, rfl, by unfold ks; simp [tot]⟩
  case round =>
    obtain ⟨k, hk, rfl, rfl⟩ := hrel
    by_cases hlt : k < n
    · have hltI : (k : Int) < (n : Int) := by omega
      obtain ⟨c1, da, dc, c2, r⟩ := HC.out k hlt
      have hb1 := tot_le ps k
      have hkk : 0 ≤ ks ps k0 k ∧ ks ps k0 k ≤ 6291457 := by unfold ks; omega
      have HKS : Hid (ks ps k0 (k + 1) = ks ps k0 k + 1 + (pD ps k).length) := ks_succ ps k0 k (by rw [HP.out]; exact hlt)
      have hlen : (pD ps k).length ≤ 1048576 := by
        have h1 := tot_take_succ ps k (by rw [HP.out]; exact hlt)
        have h2 := tot_le ps (k + 1)
        omega
      have RR : Hid (Rd .u8 w (.slice da (pD ps k).length dc) (marks (ks ps k0 k + 1) (pD ps k).length)) := r
      clear r hb1
      generalize ks ps k0 k = kx at *
      have t : (kx != kx) = false := by simp
      go_wp2_with fail
      refine (heldByteS_any _ _ (pD ps k).length (kx + 1) RR.out (by omega) (by omega) (by omega)).mono ?_
      rintro e w2 ⟨rfl, hw⟩
      subst hw
      have t2 : ¬ kx + 1 + ((pD ps k).length : Int) < 0 := by omega
      go_wp2
      go_round
      case rel => exact ⟨k + 1, by omega, by go_num, (by rw [HKS.out])⟩
      case measure => simp [intOf]; omega
    · have hkn : k = n := by omega
      subst hkn
      go_wp2
      go_ret
      exact ⟨rfl, rfl⟩

theorem heldWriteS_any (w : World) (v : Value) (ps : List (Int × List Int)) (k0 : Int) (h : RdW w v (mkP ps k0)) (hk0 : 0 ≤ k0) (hk1 : k0 ≤ 4194304) (hn : ps.length ≤ 1048576) (ht : tot ps ≤ 1048576) :
    Calls Tryd.prog 51 #[v, .int .i64 k0] w fun e w' => e = .returned (.int .i64 (ks ps k0 ps.length)) ∧ w' = w := by
  obtain ⟨ao, cap, rfl, k1, k2, k3⟩ := h
  rw [mkP_len] at *
  rcases k3 with h0 | ⟨b, o, rfl, hb, hc⟩
  · have h1 : ps.length = 0 := by have := congrArg List.length h0; rw [mkP_len] at this; simpa using this
    rw [h1]
    refine (heldWriteS_nil w ao cap k0).mono ?_
    rintro e w' ⟨rfl, rfl⟩
    exact ⟨ret_int (by unfold ks; simp [tot]), rfl⟩
  · exact heldWriteS_row w b o ps.length cap ps k0 rfl hc hk0 hk1 hn ht

/-- A disk of the call's own: its bytes in blocks from lo to mid, its records from mid to hi. -/
structure OwnD (w : World) (lo hi : Nat) (vd vp : Value) (dur : List Int) (ps : List (Int × List Int)) (dv : Nat → Value) : Prop where
  d : Own .u8 5 w lo vd dur
  p : OwnW 131 w lo vp ps dv
  dlt : ∀ g, vd.ownBlock = some g → g < hi
  plt : ∀ g, vp.ownBlock = some g → g < hi
  qlt : ∀ i, i < ps.length → ∀ g, (dv i).ownBlock = some g → g < hi
  dp : Ne2 vp vd
  dq : ∀ i, i < ps.length → Ne2 (dv i) vd

theorem OwnD.within {w w' : World} {lo hi l h : Nat} {vd vp : Value} {dur : List Int} {ps : List (Int × List Int)} {dv : Nat → Value} (ho : OwnD w lo hi vd vp dur ps dv) (hw : Within l h w w') (hd : hi ≤ l ∨ h ≤ lo) : OwnD w' lo hi vd vp dur ps dv :=
  ⟨hw.own ho.d (fun g hg => by have := (ho.d.lt g hg).1; have := ho.dlt g hg; omega),
   hw.ownW ho.p (fun g hg => by have := (World.ownsRow.lt ho.p.1 g hg).1; have := ho.plt g hg; omega) (fun i hi g hg => by have := ((ho.p.2.1 i hi).lt g hg).1; have := ho.qlt i hi g hg; omega),
   ho.dlt, ho.plt, ho.qlt, ho.dp, ho.dq⟩
theorem OwnD.below {w w' : World} {lo hi : Nat} {vd vp : Value} {dur : List Int} {ps : List (Int × List Int)} {dv : Nat → Value} (ho : OwnD w lo hi vd vp dur ps dv) (hb : Below w.heap.size w w') : OwnD w' lo hi vd vp dur ps dv :=
  ⟨ho.d.below hb, ho.p.below hb, ho.dlt, ho.plt, ho.qlt, ho.dp, ho.dq⟩

set_option maxHeartbeats 400000 in
theorem markDisk_any (w : World) (lo hi : Nat) (vd vp : Value) (dur : List Int) (ps : List (Int × List Int)) (dv : Nat → Value) (k : Int) (ho : OwnD w lo hi vd vp dur ps dv) (hhi : hi ≤ w.heap.size) (hk0 : 0 ≤ k) (hk1 : k ≤ 2097152) (hl : dur.length ≤ 1048576) (hn : ps.length ≤ 1048576) (ht : tot ps ≤ 1048576) :
    Calls Tryd.prog 10 #[.agg #[vd, vp], .int .i64 k] w fun e w' => e = .returned (.int .i64 (ks ps (k + dur.length) ps.length)) ∧ OwnD w' lo hi vd vp (marks k dur.length) (mkP ps (k + dur.length)) dv ∧ Within lo hi w w' := by
  have BA : Hid (Below w.heap.size w (w.alloc (.cells #[vd, vp] 27))) := (Below.refl _ _).alloc (Nat.le_refl _) _
  have HO : Hid (OwnD (w.alloc (.cells #[vd, vp] 27)) lo hi vd vp dur ps dv) := ho.below BA.out
  have X0 : Hid (Box2 (w.alloc (.cells #[vd, vp] 27)) w.heap.size vd vp) := Box2.new _ _ _ _
  clear ho
  go_enter Tryd.func10, Tryd.ntmps10
  go_wp2_with fail
  generalize w.alloc (.cells #[vd, vp] 27) = w0 at *
  refine (markByteS_any _ lo _ dur k HO.out.d hk0 (by omega) (by omega)).mono ?_
  rintro e w1 ⟨rfl, o1, g1⟩
  have W1 : Hid (Within lo hi w0 w1) := Within.of_grown g1 (fun q hq => ⟨(HO.out.d.lt q hq).1, HO.out.dlt q hq⟩)
  have O1 : Hid (Own .u8 5 w1 lo vd (marks k dur.length)) := o1
  have P1 : Hid (OwnW 131 w1 lo vp ps dv) := ⟨World.ownsRow.kept HO.out.p.1 g1 HO.out.dp, fun i hi => (HO.out.p.2.1 i hi).other g1 (HO.out.dq i hi), HO.out.p.2.2⟩
  have X1 : Hid (Box2 w1 w.heap.size vd vp) := W1.out.box2 X0.out (.inr hhi)
  obtain ⟨z1, c0, c1⟩ := X1.out
  clear o1 g1
  go_wp2_with fail
  refine (markWriteS_any _ lo hi _ ps dv (k + dur.length) P1.out HO.out.plt HO.out.qlt (by omega) (by omega) hn ht).mono ?_
  rintro e w2 ⟨rfl, o2, g2, f2⟩
  have FIN : Hid (OwnD w2 lo hi vd vp (marks k dur.length) (mkP ps (k + dur.length)) dv ∧ Within lo hi w w2) := by
    refine ⟨⟨?_, o2, HO.out.dlt, HO.out.plt, fun i hi => HO.out.qlt i (by rw [mkP_len] at hi; exact hi), HO.out.dp, fun i hi => HO.out.dq i (by rw [mkP_len] at hi; exact hi)⟩, ((Within.of_below BA.out).trans W1.out).trans g2⟩
    refine ⟨O1.out.1, ?_⟩
    rcases O1.out.2 with hn | ⟨g, cap, cur, hv, hbg, hgg, rest⟩
    · exact .inl hn
    · refine .inr ⟨g, cap, cur, hv, hbg, ?_, rest⟩
      have hb : vd.ownBlock = some g := by rw [hv]; rfl
      rw [f2 g (Array.getElem?_eq_some_iff.1 hgg).1 ?_ ?_]
      · exact hgg
      · rcases HO.out.dp with h | h
        · rw [h]; simp
        · rw [← hb]; exact fun e => h e.symm
      · intro i hi
        rcases HO.out.dq i hi with h | h
        · rw [h]; simp
        · rw [← hb]; exact h
  clear o2 g2 f2
  go_wp2
  go_ret
  exact ⟨rfl, FIN.out.1, FIN.out.2⟩

set_option maxHeartbeats 400000 in
theorem heldDisk_any (w : World) (vd vp : Value) (dl : Nat) (ps : List (Int × List Int)) (k : Int) (h : Rd .u8 w vd (marks k dl)) (hp : RdW w vp (mkP ps (k + dl))) (hk0 : 0 ≤ k) (hk1 : k ≤ 2097152) (hl : dl ≤ 1048576) (hn : ps.length ≤ 1048576) (ht : tot ps ≤ 1048576) :
    Calls Tryd.prog 11 #[.agg #[vd, vp], .int .i64 k] w fun e w' => e = .returned (.int .i64 (ks ps (k + dl) ps.length)) ∧ Below w.heap.size w w' := by
  have BA : Hid (Below w.heap.size w (w.alloc (.cells #[vd, vp] 27))) := (Below.refl _ _).alloc (Nat.le_refl _) _
  have HR : Hid (Rd .u8 (w.alloc (.cells #[vd, vp] 27)) vd (marks k dl)) := h.below BA.out
  have HP : Hid (RdW (w.alloc (.cells #[vd, vp] 27)) vp (mkP ps (k + dl))) := hp.below BA.out
  clear h hp
  go_enter Tryd.func11, Tryd.ntmps11
  go_wp2_with fail
  refine (heldByteS_any _ _ dl k HR.out hk0 (by omega) (by omega)).mono ?_
  rintro e w1 ⟨rfl, hw⟩
  subst hw
  have h0 : ¬ (k + (dl : Int)) < 0 := by omega
  go_wp2_with fail
  refine (heldWriteS_any _ _ ps (k + dl) HP.out (by omega) (by omega) hn ht).mono ?_
  rintro e w2 ⟨rfl, hw⟩
  subst hw
  have h1 : ¬ ks ps (k + dl) ps.length < 0 := by unfold ks; omega
  go_wp2
  go_ret
  exact ⟨rfl, BA.out⟩

end Go.Proofs.YtmgolinleiahpaaDoor

namespace Go.Proofs.YtmgolinleiahpaaDoor
open Go.RowKit

def pR (rs : List (List Int)) (i : Nat) : List Int := rs.getD i []
def uV (us : List Value) (i : Nat) : Value := us.getD i (.slice none 0 0)

/-- A slice of payloads, as it is read. -/
def RdP (w : World) (v : Value) (rs : List (List Int)) : Prop :=
  ∃ ao cap, v = .slice ao rs.length cap ∧ rs.length ≤ cap ∧ cap ≤ maxLen ∧
    (rs = [] ∨ ∃ b off, ao = some ⟨b, off, none⟩ ∧ b < w.heap.size ∧ ∀ i, i < rs.length →
      ∃ da c, w.cell? ⟨b, off + i, none⟩ = some (.slice da (pR rs i).length c) ∧ Rd .u8 w (.slice da (pR rs i).length c) (pR rs i))

theorem RdP.len {w : World} {v : Value} {rs : List (List Int)} (h : RdP w v rs) : ∃ ao cap, v = .slice ao rs.length cap ∧ rs.length ≤ cap ∧ cap ≤ maxLen := by
  obtain ⟨ao, cap, h0, h1, h2, _⟩ := h
  exact ⟨ao, cap, h0, h1, h2⟩

theorem RdP.below {w w' : World} {v : Value} {rs : List (List Int)} (h : RdP w v rs) (hb : Below w.heap.size w w') : RdP w' v rs := by
  obtain ⟨ao, cap, rfl, h1, h2, h3⟩ := h
  refine ⟨ao, cap, rfl, h1, h2, ?_⟩
  rcases h3 with h3 | ⟨b, off, rfl, hlt, hc⟩
  · exact .inl h3
  · refine .inr ⟨b, off, rfl, Nat.lt_of_lt_of_le hlt hb.size, fun i hi => ?_⟩
    obtain ⟨da, c, c2, r⟩ := hc i hi
    exact ⟨da, c, (hb.cell (p := ⟨b, off + i, none⟩) hlt).trans c2, r.below hb⟩

/-- A slice of payloads of the call's own, each payload in a row of its own. -/
def OwnP (w : World) (lo : Nat) (v : Value) (rs : List (List Int)) (us : List Value) : Prop :=
  w.ownsRow lo 111 1 v rs.length us ∧ (∀ i, i < rs.length → Own .u8 5 w lo (uV us i) (pR rs i)) ∧
  (∀ i j, i < rs.length → j < rs.length → i ≠ j → Ne2 (uV us i) (uV us j)) ∧ ∀ i, i < rs.length → Ne2 (uV us i) v

theorem OwnP.len {w : World} {lo : Nat} {v : Value} {rs : List (List Int)} {us : List Value} (h : OwnP w lo v rs us) : us.length = rs.length := by have := h.1.1; omega

theorem uV_get {us : List Value} {i : Nat} (h : i < us.length) : us[i]? = some (uV us i) := by unfold uV; simp [List.getD, h]

theorem OwnP.cell {w : World} {lo g n cap : Nat} {rs : List (List Int)} {us : List Value} (h : OwnP w lo (.slice (some ⟨g, 0, none⟩) n cap) rs us) (i : Nat) (hi : i < rs.length) : w.cell? ⟨g, i, none⟩ = some (uV us i) :=
by
  have e : n = rs.length := by
    rcases h.1.2 with ⟨h', _⟩ | ⟨g', c', cur, h', _⟩
    · simp at h'
    · simp only [Value.slice.injEq] at h'; exact h'.2.1
  have h1 := h.1
  subst e
  exact (World.ownsRow.cellAt h1 i (by omega)).trans (uV_get (by rw [h.len]; exact hi))

theorem OwnP.rd {w : World} {lo : Nat} {v : Value} {rs : List (List Int)} {us : List Value} (h : OwnP w lo v rs us) : RdP w v rs := by
  rcases h.1.2 with ⟨rfl, h0⟩ | ⟨g, cap, cur, rfl, hb, hg, hn, hm, hs, ht⟩
  · have : rs = [] := List.eq_nil_of_length_eq_zero h0
    subst this
    exact ⟨none, 0, rfl, Nat.le_refl _, Nat.zero_le _, .inl rfl⟩
  · refine ⟨_, cap, rfl, hn, hm, .inr ⟨g, 0, rfl, (Array.getElem?_eq_some_iff.1 hg).1, fun i hi => ?_⟩⟩
    have c1 := h.cell i hi
    have o1 := h.2.1 i hi
    obtain ⟨da, c, e⟩ := Own.slice o1
    rw [e] at c1 o1
    exact ⟨da, c, by rw [Nat.zero_add]; exact c1, o1.rd⟩

theorem ownsRow_below {w w' : World} {lo n z : Nat} {e : TypeId} {v : Value} {us : List Value} (ho : w.ownsRow lo e z v n us) (hb : Below w.heap.size w w') : w'.ownsRow lo e z v n us := by
  refine ⟨ho.1, ?_⟩
  rcases ho.2 with hn | ⟨g, cap, cur, rfl, hbg, hgg, rest⟩
  · exact .inl hn
  · exact .inr ⟨g, cap, cur, rfl, hbg, by rw [hb.block g (Array.getElem?_eq_some_iff.1 hgg).1]; exact hgg, rest⟩

theorem OwnP.below {w w' : World} {lo : Nat} {v : Value} {rs : List (List Int)} {us : List Value} (h : OwnP w lo v rs us) (hb : Below w.heap.size w w') : OwnP w' lo v rs us :=
  ⟨ownsRow_below h.1 hb, fun i hi => (h.2.1 i hi).below hb, h.2.2⟩

theorem OwnP.slice {w : World} {lo : Nat} {v : Value} {rs : List (List Int)} {us : List Value} (h : OwnP w lo v rs us) : ∃ a c, v = .slice a rs.length c := by
  obtain ⟨a, c, h0, _⟩ := h.rd.len
  exact ⟨a, c, h0⟩

/-- All its blocks lie below hi. -/
def LtP (hi : Nat) (v : Value) (rs : List (List Int)) (us : List Value) : Prop := (∀ g, v.ownBlock = some g → g < hi) ∧ ∀ i, i < rs.length → ∀ g, (uV us i).ownBlock = some g → g < hi
theorem OwnP.lt {w : World} {lo : Nat} {v : Value} {rs : List (List Int)} {us : List Value} (h : OwnP w lo v rs us) : LtP w.heap.size v rs us :=
  ⟨fun g e => (World.ownsRow.lt h.1 g e).2, fun i hi g e => ((h.2.1 i hi).lt g e).2⟩

theorem Within.ownP {lo hi : Nat} {a b : World} (h : Within lo hi a b) {B : Nat} {v : Value} {rs : List (List Int)} {us : List Value} (ho : OwnP a B v rs us)
    (hv : ∀ g, v.ownBlock = some g → g < lo ∨ hi ≤ g) (hd : ∀ i, i < rs.length → ∀ g, (uV us i).ownBlock = some g → g < lo ∨ hi ≤ g) : OwnP b B v rs us := by
  refine ⟨⟨ho.1.1, ?_⟩, fun i hi => h.own (ho.2.1 i hi) (hd i hi), ho.2.2⟩
  rcases ho.1.2 with hn | ⟨g, cap, cur, rfl, hbg, hgg, rest⟩
  · exact .inl hn
  · exact .inr ⟨g, cap, cur, rfl, hbg, by rw [h.block g (Array.getElem?_eq_some_iff.1 hgg).1 (hv g rfl)]; exact hgg, rest⟩

theorem Within.ownP' {lo hi : Nat} {a b : World} (h : Within lo hi a b) {B hB : Nat} {v : Value} {rs : List (List Int)} {us : List Value} (ho : OwnP a B v rs us) (hl : LtP hB v rs us) (hd : hB ≤ lo ∨ hi ≤ B) : OwnP b B v rs us :=
  h.ownP ho (fun g e => by have := (World.ownsRow.lt ho.1 g e).1; have := hl.1 g e; omega) (fun i hi g e => by have := ((ho.2.1 i hi).lt g e).1; have := hl.2 i hi g e; omega)

def totP (rs : List (List Int)) : Nat := (rs.map List.length).sum
theorem totP_succ (rs : List (List Int)) (i : Nat) (h : i < rs.length) : totP (rs.take (i + 1)) = totP (rs.take i) + (pR rs i).length := by
  unfold totP pR
  rw [List.take_succ_eq_append_getElem h, List.map_append, List.sum_append]
  simp [List.getD, h]
theorem totP_le (rs : List (List Int)) (i : Nat) : totP (rs.take i) ≤ totP rs := by
  unfold totP
  conv => rhs; rw [← List.take_append_drop i rs, List.map_append, List.sum_append]
  omega
/-- The mark at which payload i begins. -/
def kp (rs : List (List Int)) (k : Int) (i : Nat) : Int := k + totP (rs.take i)
theorem kp_succ (rs : List (List Int)) (k : Int) (i : Nat) (h : i < rs.length) : kp rs k (i + 1) = kp rs k i + (pR rs i).length := by unfold kp; rw [totP_succ rs i h]; omega
theorem kp_zero (rs : List (List Int)) (k : Int) : kp rs k 0 = k := by unfold kp; simp [totP]
def mkR (rs : List (List Int)) (k : Int) : List (List Int) := (List.range rs.length).map fun i => marks (kp rs k i) (pR rs i).length
theorem mkR_len (rs : List (List Int)) (k : Int) : (mkR rs k).length = rs.length := by simp [mkR]
theorem mkR_get (rs : List (List Int)) (k : Int) (i : Nat) (h : i < rs.length) : pR (mkR rs k) i = marks (kp rs k i) (pR rs i).length := by
  show (mkR rs k).getD i [] = _; unfold mkR; simp [List.getD, h]
def mR (rs : List (List Int)) (k0 : Int) (k i : Nat) : List Int := if i < k then marks (kp rs k0 i) (pR rs i).length else pR rs i

theorem rs_ext {ps qs : List (List Int)} (hl : ps.length = qs.length) (h : ∀ i, i < ps.length → pR ps i = pR qs i) : ps = qs := by
  apply List.ext_getElem hl
  intro i h1 h2
  have := h i h1
  unfold pR at this
  simpa only [List.getD, List.getElem?_eq_getElem h1, List.getElem?_eq_getElem h2, Option.getD_some] using this





end Go.Proofs.YtmgolinleiahpaaDoor

namespace Go.Proofs.YtmgolinleiahpaaDoor
open Go.RowKit Go.Shelf

attribute [local go_sem] Oper.semAt_some

set_option maxHeartbeats 400000 in
theorem frames_in (F : Fence) (n : Nat) (h87 : F.fn 74) (hro : F.round = none) (ao : Option Addr) (m cap : Nat) (w : World) :
    CallsIn F n Tryd.prog 74 #[.slice ao m cap] w fun e w' => e = .returned (.func (.func 112) #[] #[.pointer (some ⟨w.heap.size, 0, none⟩)]) ∧ w' = w.alloc (.cells #[.slice ao m cap] 24) := by
  refine callsIn_of_wp Tryd.func74 rfl h87 ?_ hro
  simp only [Tryd.ntmps74, List.size_toArray, List.length_cons, List.length_nil, Nat.reduceAdd, Nat.reduceSub, Array.replicate_succ, Array.replicate_zero, List.push_toArray, List.append_toArray, List.nil_append, List.cons_append]
  gi_wp2
  go_ret
  exact ⟨rfl, rfl⟩

/-- The payload among what is handed on. -/
def uOf (vs : Array Value) : Value := match (vs.getD 1 (.slice none 0 0) : Value) with
  | Value.agg us => us.getD 0 (.slice none 0 0)
  | _ => .slice none 0 0

/-- What the iterator hands on behind the payloads s. -/
def PreS (R : List (List Int × Nat)) (St : List Value → World → Prop) (s : List Value) (vs : Array Value) (W : World) : Prop :=
  ∃ u W0, vs = #[.int .i64 ((pos R (s.length + 1) : Nat) : Int), .agg #[u]] ∧ s.length < R.length ∧ St s W0 ∧ Below W0.heap.size W0 W ∧ Own .u8 5 W W0.heap.size u (R.getD s.length ([], 0)).1

theorem rd_cutN {w : World} {ao : Option Addr} {n cap : Nat} {a : List Int} (h : Rd .u8 w (.slice ao n cap) a) (hl : a.length = n) (blk o : Nat) (he : ao = some ⟨blk, o, none⟩) (p : Nat) (hp : p ≤ n) : Rd .u8 w (.slice (some ⟨blk, o + p, none⟩) (n - p) (cap - p)) (a.drop p) := by
  obtain ⟨ao', cap', e, h1, h2, h3⟩ := h
  simp only [Value.slice.injEq] at e
  obtain ⟨rfl, hn, rfl⟩ := e
  have hlen : (a.drop p).length = n - p := by rw [List.length_drop]; omega
  refine ⟨_, cap - p, by rw [hlen], by omega, by omega, ?_⟩
  rcases h3 with rfl | ⟨b, o', e2, hb, hc⟩
  · exact .inl (by simp)
  · rw [he] at e2
    simp only [Option.some.injEq, Addr.mk.injEq, and_true] at e2
    obtain ⟨rfl, rfl⟩ := e2
    refine .inr ⟨blk, o + p, rfl, hb, fun j hj => ?_⟩
    rw [hlen] at hj
    have := hc (p + j) (by omega)
    rw [Nat.add_assoc, this]
    simp [List.getD, List.getElem?_drop]

theorem rd_empty (w : World) (ao : Option Addr) (cap : Nat) (hc : cap ≤ maxLen) : Rd .u8 w (.slice ao 0 cap) [] := ⟨ao, cap, rfl, Nat.zero_le _, hc, .inl rfl⟩

set_option maxHeartbeats 2000000 in
set_option maxRecDepth 100000 in
theorem frames1_some (nn : Nat) (hn1 : 1 ≤ nn) (l Ba : Nat) (blk o n cap : Nat) (a : List Int) (hl : a.length = n) (hby : Byt a) (hn : n ≤ 8192)
    (St : List Value → World → Prop) (Bk : World → Prop)
    (hSB : ∀ s X Y, Below X.heap.size X Y → St s X → St s Y) (hBB : ∀ X Y, Below X.heap.size X Y → Bk X → Bk Y)
    (hSR : ∀ s W, St s W → W.cell? ⟨Ba, 0, none⟩ = some (.slice (some ⟨blk, o, none⟩) n cap) ∧ Rd .u8 W (.slice (some ⟨blk, o, none⟩) n cap) a)
    (hY : ∀ s vs W, St s W → Bk W → PreS (scn n a) St s vs W → YieldAt Fence.wide (nn - 1) Tryd.prog l vs W fun e W' => e = .returned (.bool true) ∧ St (s ++ [uOf vs]) W' ∧ Bk W')
    (W : World) (h0 : St [] W) (h1 : Bk W) :
    CallsIn Fence.wide nn Tryd.prog 112 #[.func (.yield l) #[] #[], .pointer (some ⟨Ba, 0, none⟩)] W fun e W' => (∃ v, e = .returned v) ∧ ∃ s, s.length = (scn n a).length ∧ St s W' ∧ Bk W' := by
  have HY : Hid (∀ s vs W, St s W → Bk W → PreS (scn n a) St s vs W → YieldAt Fence.wide (nn - 1) Tryd.prog l vs W fun e W' => e = .returned (.bool true) ∧ St (s ++ [uOf vs]) W' ∧ Bk W') := hY
  have HSB : Hid (∀ s X Y, Below X.heap.size X Y → St s X → St s Y) := hSB
  have HBB : Hid (∀ X Y, Below X.heap.size X Y → Bk X → Bk Y) := hBB
  have HSR : Hid (∀ s W, St s W → W.cell? ⟨Ba, 0, none⟩ = some (.slice (some ⟨blk, o, none⟩) n cap) ∧ Rd .u8 W (.slice (some ⟨blk, o, none⟩) n cap) a) := hSR
  have H0 : Hid (St [] W) := h0
  have H1 : Hid (Bk W) := h1
  have HL : Hid (a.length = n) := hl
  have HBY : Hid (Byt a) := hby
  have HALL : Hid _ := scn_all n a (by omega)
  clear hY hSB hBB hSR h0 h1 hl hby
  obtain ⟨c0, r0⟩ := HSR.out [] W H0.out
  have hcn : n ≤ cap ∧ cap ≤ maxLen := by
    obtain ⟨_, _, e1, hc1, hc2⟩ := r0.len
    simp only [Value.slice.injEq] at e1; have := HL.out; omega
  clear c0 r0
  obtain ⟨hcn1, hcn2⟩ := hcn
  have HCM : Hid (cap ≤ maxLen) := hcn2
  unfold maxLen at hcn2
  generalize scn n a = R at *
  refine callsIn_of_wp Tryd.func112 rfl trivial ?_ rfl
  simp only [Tryd.ntmps112, List.size_toArray, List.length_cons, List.length_nil, Nat.reduceAdd, Nat.reduceSub, Array.replicate_succ, Array.replicate_zero, List.push_toArray, List.append_toArray, List.nil_append, List.cons_append]
  gi_wp2
  gi_loopw [3] (fun i wr => ∃ s : List Value, ∃ p : Nat, s.length ≤ R.length ∧ Hid (pos R s.length = p) ∧ p ≤ n ∧ i = .int .i64 p ∧ Hid (St s wr) ∧ Hid (Bk wr)) (fun i _ => n - (intOf i).toNat)
  case atStart => exact ⟨[], 0, Nat.zero_le _, pos_zero _, Nat.zero_le _, rfl, H0.out, H1.out⟩
  case round =>
    obtain ⟨s, p, hs, HP, hp, rfl, HS, HB⟩ := hrel
    obtain ⟨cB, rA⟩ := HSR.out s wr HS.out
    have RA : Hid (Rd .u8 wr (.slice (some ⟨blk, o, none⟩) n cap) a) := rA
    clear rA
    by_cases hcp : cap = p
    · have RS : Hid (Rd .u8 wr (.slice (some ⟨blk, o, none⟩) (n - p) 0) (a.drop p)) := by
        have e1 : n - p = 0 := by omega
        have e2 : a.drop p = [] := List.eq_nil_of_length_eq_zero (by rw [List.length_drop, HL.out]; exact e1)
        rw [e1, e2]; exact rd_empty _ _ _ (Nat.zero_le _)
      gi_wp2_with fail
      refine ⟨trivial, ?_⟩
      refine (callsIn_wide.2 (recordAt_any wr (some ⟨blk, o, none⟩) (n - p) 0 (a.drop p) RS.out (by rw [List.length_drop, HL.out]) (fun x hx => HBY.out x (List.mem_of_mem_drop hx)) (by omega))).mono ?_
      rintro e w2 ⟨⟨u, sz, rfl, hc⟩, b2⟩
      have HS2 : Hid (St s w2) := HSB.out s wr w2 b2 HS.out
      have HB2 : Hid (Bk w2) := HBB.out wr w2 b2 HB.out
      by_cases hlt : s.length < R.length
      · rcases hc with ⟨hf, -, -⟩ | ⟨hf, hsz, o2⟩
        · have := (HALL.out.1 s.length hlt).1; rw [HP.out, hf] at this; cases this
        · subst hsz
          have hget := (HALL.out.1 s.length hlt).2
          have hps := pos_succ R s.length hlt
          have hle := HALL.out.2.2 (s.length + 1) hlt
          rw [HP.out] at hget hps
          rw [hget] at hps
          rw [HL.out] at hle
          rw [hps] at hle
          omega
      · rcases hc with ⟨hf, rfl, rfl⟩ | ⟨hf, -, -⟩
        · have hsl : Hid (s.length = R.length) := by show _ = _; omega
          gi_wp2
          refine bodyPost_ret (results_none rfl _ _ _) rfl ?_
          exact ⟨⟨_, rfl⟩, s, hsl.out, HSB.out s _ _ ((Below.refl _ _).alloc (Nat.le_refl _) _) HS2.out, HBB.out _ _ ((Below.refl _ _).alloc (Nat.le_refl _) _) HB2.out⟩
        · have h9 := HALL.out.2.1
          have e9 : s.length = R.length := by omega
          rw [← e9, HP.out, hf] at h9; cases h9
    · have RS : Hid (Rd .u8 wr (.slice (some ⟨blk, o + p, none⟩) (n - p) (cap - p)) (a.drop p)) := rd_cutN RA.out HL.out blk o rfl p hp
      gi_wp2_with fail
      refine ⟨trivial, ?_⟩
      refine (callsIn_wide.2 (recordAt_any wr (some ⟨blk, o + p, none⟩) (n - p) (cap - p) (a.drop p) RS.out (by rw [List.length_drop, HL.out]) (fun x hx => HBY.out x (List.mem_of_mem_drop hx)) (by omega))).mono ?_
      rintro e w2 ⟨⟨u, sz, rfl, hc⟩, b2⟩
      have HS2 : Hid (St s w2) := HSB.out s wr w2 b2 HS.out
      have HB2 : Hid (Bk w2) := HBB.out wr w2 b2 HB.out
      by_cases hlt : s.length < R.length
      · rcases hc with ⟨hf, -, -⟩ | ⟨hf, hsz, o2⟩
        · have := (HALL.out.1 s.length hlt).1; rw [HP.out, hf] at this; cases this
        · subst hsz
          have hget := (HALL.out.1 s.length hlt).2
          have hps := pos_succ R s.length hlt
          have hle := HALL.out.2.2 (s.length + 1) hlt
          rw [HP.out] at hget hps
          rw [hget] at hps
          rw [HL.out] at hle
          have hP2 : Hid (pos R (s.length + 1) = p + (2 + frm_m (a.drop p))) := hps
          have hle2 : p + (2 + frm_m (a.drop p)) ≤ n := by rw [hps] at hle; exact hle
          obtain ⟨ua, uc, rfl⟩ := Own.slice o2
          have hul : (frm_p (a.drop p)).length ≤ maxLen := by obtain ⟨_, _, e, h1, h2⟩ := o2.rd.len; simp only [Value.slice.injEq] at e; omega
          unfold maxLen at hul
          have BA : Below w2.heap.size w2 (w2.alloc (.cells #[.slice ua (frm_p (a.drop p)).length uc] 111)) := (Below.refl _ _).alloc (Nat.le_refl _) _
          have hpre : PreS R St s #[.int .i64 (((p : Nat) : Int) + ((2 + frm_m (a.drop p) : Nat) : Int)), .agg #[.slice ua (frm_p (a.drop p)).length uc]] (w2.alloc (.cells #[.slice ua (frm_p (a.drop p)).length uc] 111)) := ⟨_, wr, by rw [hP2.out, Int.natCast_add p], hlt, HS.out, b2.trans (BA.mono b2.size), by rw [hget]; exact o2.below BA⟩
          have hYx := HY.out s _ _ (HSB.out s _ _ BA HS2.out) (HBB.out _ _ BA HB2.out) hpre
          clear hpre hget hps hle hf o2 b2 cB HS HB BA HS2 HB2
          have hszI : ¬ (((2 + frm_m (a.drop p) : Nat) : Int) = 0) := by omega
          generalize (frm_p (a.drop p)).length = ul at *
          generalize 2 + frm_m (a.drop p) = sz at *
          have hszb : ((sz : Int) == 0) = false := by simpa using hszI
          obtain ⟨fn, tmps, assign, body, hy, hR⟩ := hYx
          gi_wp2
          refine hR.mono ?_
          rintro e W3 ⟨rfl, hS3, hB3⟩
          have HS3 : Hid (St (s ++ [.slice ua ul uc]) W3) := hS3
          have HB3 : Hid (Bk W3) := hB3
          clear hS3 hB3 hy hR
          gi_wp2
          go_roundw
          case rel => exact ⟨s ++ [.slice ua ul uc], p + sz, by rw [List.length_append]; exact hlt, by rw [List.length_append]; exact hP2.out, hle2, by go_num, HS3, HB3⟩
          case measure => simp [intOf]; omega
      · rcases hc with ⟨hf, rfl, rfl⟩ | ⟨hf, -, -⟩
        · have hsl : Hid (s.length = R.length) := by show _ = _; omega
          gi_wp2
          refine bodyPost_ret (results_none rfl _ _ _) rfl ?_
          exact ⟨⟨_, rfl⟩, s, hsl.out, HSB.out s _ _ ((Below.refl _ _).alloc (Nat.le_refl _) _) HS2.out, HBB.out _ _ ((Below.refl _ _).alloc (Nat.le_refl _) _) HB2.out⟩
        · have h9 := HALL.out.2.1
          have e9 : s.length = R.length := by omega
          rw [← e9, HP.out, hf] at h9; cases h9

set_option maxHeartbeats 1000000 in
set_option maxRecDepth 100000 in
theorem frames1_nil (nn : Nat) (hn1 : 1 ≤ nn) (l Ba : Nat) (St : List Value → World → Prop) (Bk : World → Prop)
    (hSB : ∀ s X Y, Below X.heap.size X Y → St s X → St s Y) (hBB : ∀ X Y, Below X.heap.size X Y → Bk X → Bk Y)
    (hSR : ∀ s W, St s W → W.cell? ⟨Ba, 0, none⟩ = some (.slice none 0 0))
    (W : World) (h0 : St [] W) (h1 : Bk W) :
    CallsIn Fence.wide nn Tryd.prog 112 #[.func (.yield l) #[] #[], .pointer (some ⟨Ba, 0, none⟩)] W fun e W' => (∃ v, e = .returned v) ∧ ∃ s, s.length = (scn 0 []).length ∧ St s W' ∧ Bk W' := by
  have HSB : Hid (∀ s X Y, Below X.heap.size X Y → St s X → St s Y) := hSB
  have HBB : Hid (∀ X Y, Below X.heap.size X Y → Bk X → Bk Y) := hBB
  have HSR : Hid (∀ s W, St s W → W.cell? ⟨Ba, 0, none⟩ = some (.slice none 0 0)) := hSR
  have H0 : Hid (St [] W) := h0
  have H1 : Hid (Bk W) := h1
  clear hSB hBB hSR h0 h1
  refine callsIn_of_wp Tryd.func112 rfl trivial ?_ rfl
  simp only [Tryd.ntmps112, List.size_toArray, List.length_cons, List.length_nil, Nat.reduceAdd, Nat.reduceSub, Array.replicate_succ, Array.replicate_zero, List.push_toArray, List.append_toArray, List.nil_append, List.cons_append]
  gi_wp2
  gi_loopw [3] (fun i wr => i = .int .i64 0 ∧ Hid (St [] wr) ∧ Hid (Bk wr)) (fun _ _ => 0)
  case atStart => exact ⟨rfl, H0.out, H1.out⟩
  case round =>
    obtain ⟨rfl, HS, HB⟩ := hrel
    have cB := HSR.out [] wr HS.out
    gi_wp2_with fail
    refine ⟨trivial, ?_⟩
    refine (callsIn_wide.2 (recordAt_any wr none 0 0 [] (rd_empty _ _ _ (Nat.zero_le _)) rfl (fun x hx => by cases hx) (by omega))).mono ?_
    rintro e w2 ⟨⟨u, sz, rfl, hc⟩, b2⟩
    have HS2 : Hid (St [] w2) := HSB.out [] wr w2 b2 HS.out
    have HB2 : Hid (Bk w2) := HBB.out wr w2 b2 HB.out
    rcases hc with ⟨hf, rfl, rfl⟩ | ⟨hf, -, -⟩
    · clear hf
      gi_wp2
      refine bodyPost_ret (results_none rfl _ _ _) rfl ?_
      exact ⟨⟨_, rfl⟩, [], rfl, HSB.out [] _ _ ((Below.refl _ _).alloc (Nat.le_refl _) _) HS2.out, HBB.out _ _ ((Below.refl _ _).alloc (Nat.le_refl _) _) HB2.out⟩
    · have := ((frmB_iff []).1 hf).1
      simp at this

end Go.Proofs.YtmgolinleiahpaaDoor

namespace Go.Proofs.YtmgolinleiahpaaDoor
open Go.RowKit










end Go.Proofs.YtmgolinleiahpaaDoor

namespace Go.Proofs.YtmgolinleiahpaaDoor
open Go.RowKit

set_option maxHeartbeats 400000 in
set_option maxRecDepth 100000 in
theorem l1Copy_row (w : World) (b o n cap : Nat) (xs : List Int) (hx : xs.length = n) (hb : b < w.heap.size) (hc : ∀ i, i < n → w.cell? ⟨b, o + i, none⟩ = some (.int .u8 (xs.getD i 0))) (hn : n ≤ 1099511627776) :
    Calls Tryd.prog 84 #[.slice (some ⟨b, o, none⟩) n cap] w fun e w' => ∃ v', e = .returned v' ∧ Own .u8 5 w' w.heap.size v' xs ∧ Below w.heap.size w w' := by
  obtain ⟨i0, hi, hz0, hz1, hz2⟩ := info_parts Tryd.infoB
  have HC : Hid (∀ i, i < n → w.cell? ⟨b, o + i, none⟩ = some (.int .u8 (xs.getD i 0))) := hc
  have HX : Hid (xs.length = n) := hx
  clear hc hx
  go_enter Tryd.func84, Tryd.ntmps84
  go_wp2
  go_loopw [3, 4] (fun v i wr => ∃ k : Nat, k ≤ n ∧ i = .int .i64 k ∧ wr.ownsRow w.heap.size 5 1 v k ((xs.take k).map (Value.int .u8)) ∧ Below w.heap.size w wr) (fun _ i _ => n - (intOf i).toNat)
  case atStart => exact ⟨0, Nat.zero_le _, rfl, World.ownsRow_lit w #[] 0 (Nat.le_refl _) (Nat.zero_le _) rfl, (Below.refl _ _).alloc (Nat.le_refl _) _⟩
  case round =>
    obtain ⟨k, hk, rfl, ho, hg⟩ := hrel
    by_cases hlt : k < n
    · have hltI : (k : Int) < (n : Int) := by omega
      have hsrc : wr.cell? ⟨b, o + k, none⟩ = some (.int .u8 (xs.getD k 0)) := (hg.cell (p := ⟨b, o + k, none⟩) hb).trans (HC.out k hlt)
      have HTK : Hid (xs.take (k + 1) = xs.take k ++ [xs.getD k 0]) := take_succ_getD xs k (by rw [HX.out]; exact hlt)
      generalize xs.getD k 0 = x at *
      go_wp2_with (at_builtin; go_must (refine wpList_append_own _ rfl _ _ 24 rfl w.heap.size 5 i0 (.int .u8 0) 1 1 Tryd.underlying24 hi hz0 hz1 hz2 rfl (by decide) _ _ _ rfl (ho.alloc _) ⟨wr.heap.size, 0, none⟩ 1 1 [.int .u8 x] rfl rfl (cell_one_new _ _ _) (by intro u hu; simp at hu; subst hu; rfl) ?c3 ?c4 ?c5 ?_))
      case c3 => unfold maxLen; omega
      case c4 => omega
      case c5 => have := hg.size; simp; omega
      intro v2 w2 ho2 hg2 _
      have HO2 : Hid (w2.ownsRow w.heap.size 5 1 v2 (k + 1) ((xs.take (k + 1)).map (Value.int .u8))) := by
        show World.ownsRow _ _ _ _ _ _ _; rw [HTK.out, List.map_append, List.map_take]; exact ho2
      have HG2 : Hid (Below w.heap.size w w2) := (hg.alloc (hg.size) _).grown hg2 (by have := hg.size; simp; omega) (fun q hq => (ho.lt q hq).1)
      clear ho2 hg2 ho hg
      go_wp2
      go_roundw
      case rel => exact ⟨k + 1, by omega, by go_num, HO2.out, HG2.out⟩
      case measure => simp [intOf]; omega
    · have hkn : k = n := by omega
      subst hkn
      go_wp2
      go_ret
      exact ⟨_, rfl, own_of (ys := xs) HX.out rfl (by rw [List.take_of_length_le (by rw [HX.out]; exact Nat.le_refl _)] at ho; exact ho), hg⟩

set_option maxHeartbeats 400000 in
theorem l1Copy_nil (w : World) (ao : Option Addr) (cap : Nat) :
    Calls Tryd.prog 84 #[.slice ao 0 cap] w fun e w' => ∃ v', e = .returned v' ∧ Own .u8 5 w' w.heap.size v' [] ∧ Below w.heap.size w w' := by
  go_enter Tryd.func84, Tryd.ntmps84
  go_wp2
  go_rounds 1
  go_ret
  exact ⟨_, rfl, World.ownsRow_lit w #[] 0 (Nat.le_refl _) (Nat.zero_le _) rfl, (Below.refl _ _).alloc (Nat.le_refl _) _⟩

theorem l1Copy_any (w : World) (v : Value) (xs : List Int) (h : Rd .u8 w v xs) (hn : xs.length ≤ 1099511627776) :
    Calls Tryd.prog 84 #[v] w fun e w' => ∃ v', e = .returned v' ∧ Own .u8 5 w' w.heap.size v' xs ∧ Below w.heap.size w w' := by
  obtain ⟨ao, cap, rfl, h1, h2, h3⟩ := h
  rcases h3 with rfl | ⟨b, o, rfl, hb, hc⟩
  · exact l1Copy_nil w ao cap
  · exact l1Copy_row w b o xs.length cap xs rfl hb hc hn

theorem cells_list {k : IntKind} {w : World} {b o : Nat} {xs : List Int} (hc : ∀ i, i < xs.length → w.cell? ⟨b, o + i, none⟩ = some (.int k (xs.getD i 0))) : ∀ j u, (xs.map (Value.int k))[j]? = some u → w.cell? ((⟨b, o, none⟩ : Addr).add j) = some u := by
  intro j u hu
  have hj : j < xs.length := by have := (List.getElem?_eq_some_iff.1 hu).1; simpa using this
  rw [Addr.add_lit, hc j hj]
  simp [List.getElem?_eq_getElem hj] at hu
  simp [List.getD, hj, hu]

set_option maxHeartbeats 400000 in
set_option maxRecDepth 100000 in
theorem clone_any (w : World) (v : Value) (xs : List Int) (h : Rd .u8 w v xs) (hn : xs.length ≤ 1099511627776) :
    Calls Tryd.prog 134 #[v] w fun e w' => ∃ v', e = .returned v' ∧ Own .u8 5 w' w.heap.size v' xs ∧ Below w.heap.size w w' := by
  obtain ⟨i0, hi, hz0, hz1, hz2⟩ := info_parts Tryd.infoB
  obtain ⟨ao, cap, rfl, h1, h2, h3⟩ := h
  have q22 : ∀ (w : World) (a : Option Addr) (n c n' c' : Nat), (binOp .eql 24 (.slice a n c) (.slice none n' c')).run Tryd.prog w = .ok (.bool a.isNone) w := fun w a n c n' c' => Lib.run_eql_slice_nil w _ _ a n c n' c' Tryd.underlying24
  have HE : Hid ((w.alloc (.cells #[] 5)).ownsRow w.heap.size 5 1 (.slice (some ⟨w.heap.size, 0, none⟩) 0 0) 0 []) := World.ownsRow_lit w #[] 0 (Nat.le_refl _) (Nat.zero_le _) rfl
  have HB : Hid (Below w.heap.size w (w.alloc (.cells #[] 5))) := (Below.refl _ _).alloc (Nat.le_refl _) _
  cases ao with
  | none =>
    have hx : xs = [] := by
      rcases h3 with h3 | ⟨b, o, e, _⟩
      · exact h3
      · cases e
    subst hx
    clear h3
    go_enter Tryd.func134, Tryd.ntmps134
    go_wp2
    go_ret
    exact ⟨_, rfl, World.ownsRow_nil _ _ _ _, Below.refl _ _⟩
  | some a =>
    have hcs : ∀ j u, (xs.map (Value.int .u8))[j]? = some u → (w.alloc (.cells #[] 5)).cell? (a.add j) = some u := by
      rcases h3 with rfl | ⟨b, o, e, hb, hc⟩
      · intro j u hu; simp at hu
      · injection e with e
        subst e
        exact cells_list (fun i hi => (HB.out.cell (p := ⟨b, o + i, none⟩) hb).trans (hc i hi))
    have HCS : Hid (∀ j u, (xs.map (Value.int .u8))[j]? = some u → (w.alloc (.cells #[] 5)).cell? (a.add j) = some u) := hcs
    clear h3 hcs
    go_enter Tryd.func134, Tryd.ntmps134
    go_wp2_with (at_builtin; go_must (refine wpList_append_own _ rfl _ _ 24 rfl w.heap.size 5 i0 (.int .u8 0) 1 1 Tryd.underlying24 hi hz0 hz1 hz2 rfl (by decide) _ _ _ rfl HE.out a xs.length cap (xs.map (Value.int .u8)) rfl ?c0 HCS.out (ints_oneCell _ _) ?c3 ?c4 ?c5 ?_))
    case c0 => simp
    case c3 => unfold maxLen; omega
    case c4 => omega
    case c5 => simp
    intro v2 w2 ho2 hg2 _
    have HO2 : Hid (Own .u8 5 w2 w.heap.size v2 xs) := by
      exact ho2
    have HG2 : Hid (Below w.heap.size w w2) := HB.out.grown hg2 (by simp) (by intro q hq; simp [Value.ownBlock] at hq; omega)
    clear ho2 hg2
    go_wp2
    go_ret
    exact ⟨_, rfl, HO2.out, HG2.out⟩

/-! ### appends inside a region that draws -/
theorem step_fits {P : Program} {ops : Array Oper} {o : Oper} {a : Act} {w : World} {K : Act → World → Prop} {Q : Exit → Act → World → Prop} {E : Prop}
    (hg : o.guard = none) (s x : Operand) (t : TypeId) (hop : o.op = Op.call { callee := Callee.builtin Builtin.append, args := #[s, x], argTypes := #[t, t] })
    (base : Nat) (e : TypeId) (i : TypeInfo) (size : Nat) (h1 : P.underlying t = some (.slice e)) (h2 : P.info? e = some i) (h4 : i.size = size)
    (g k cap : Nat) (xs : List Value) (hs : a.eval s = .slice (some ⟨g, 0, none⟩) k cap) (hown : w.ownsRow base e size (.slice (some ⟨g, 0, none⟩) k cap) k xs) (ad : Addr) (m c : Nat) (news : List Value) (hx : a.eval x = .slice (some ad) m c) (hn : news.length = m * size)
    (hc : ∀ j u, news[j]? = some u → w.cell? (ad.add j) = some u) (h1c : ∀ u ∈ news, u.oneCell' = true) (b1 : k + m ≤ cap)
    (hK : ∀ w', w'.ownsRow base e size (.slice (some ⟨g, 0, none⟩) (k + m) cap) (k + m) (xs ++ news) → w.grownBy w' (some g) → K (a.put o.dst (.slice (some ⟨g, 0, none⟩) (k + m) cap)) w') :
    if Region.wanted o (yielded ops a.tmps) = true then Oper.wp P o a w K Q else E := by
  have hw : Region.wanted o (yielded ops a.tmps) = true := by simp [Region.wanted, hg]
  rw [if_pos hw]
  obtain ⟨w', hrun, r1, r2⟩ := run_append_fits (P := P) w base t o.type e i size h1 h2 h4 g k cap xs hown ad m c news hn hc h1c b1
  unfold Oper.wp
  simp [execOp, hop, resolve, invoke, builtin, hs, hx, hrun, Result.andThen]
  exact hK w' r1 r2

theorem step_own {P : Program} {ops : Array Oper} {o : Oper} {a : Act} {w : World} {K : Act → World → Prop} {Q : Exit → Act → World → Prop} {E : Prop}
    (hg : o.guard = none) (s x : Operand) (t : TypeId) (hop : o.op = Op.call { callee := Callee.builtin Builtin.append, args := #[s, x], argTypes := #[t, t] })
    (base : Nat) (e : TypeId) (i : TypeInfo) (z : Value) (size bytes : Nat) (h1 : P.underlying t = some (.slice e)) (h2 : P.info? e = some i) (h3 : i.zero = some z) (h4 : i.size = size) (h5 : i.bytes = bytes) (h6 : z.cells.size = size) (h7 : 0 < size)
    (v : Value) (n : Nat) (xs : List Value) (hs : a.eval s = v) (hown : w.ownsRow base e size v n xs) (ad : Addr) (m c : Nat) (news : List Value) (hx : a.eval x = .slice (some ad) m c) (hn : news.length = m * size)
    (hc : ∀ j u, news[j]? = some u → w.cell? (ad.add j) = some u) (h1c : ∀ u ∈ news, u.oneCell' = true) (b1 : n + m ≤ maxLen) (b2 : (n + m) * bytes ≤ 140737488355328) (hb : base ≤ w.heap.size)
    (hK : ∀ v' w', w'.ownsRow base e size v' (n + m) (xs ++ news) → w.grownBy w' v.ownBlock → K (a.put o.dst v') w') :
    if Region.wanted o (yielded ops a.tmps) = true then Oper.wp P o a w K Q else E := by
  have hw : Region.wanted o (yielded ops a.tmps) = true := by simp [Region.wanted, hg]
  rw [if_pos hw]
  obtain ⟨v', w', hrun, r1, r2, _⟩ := run_append_own (P := P) w base t o.type e i z size bytes h1 h2 h3 h4 h5 h6 h7 v n xs hown ad m c news hn hc h1c b1 b2 hb
  unfold Oper.wp
  simp [execOp, hop, resolve, invoke, builtin, hs, hx, hrun, Result.andThen]
  exact hK v' w' r1 r2

end Go.Proofs.YtmgolinleiahpaaDoor

namespace Go.Proofs.YtmgolinleiahpaaDoor
open Go.RowKit

theorem rowW_snoc (k : Nat) (ps : List (Int × List Int)) (dv : Nat → Value) (v : Value) : rowW (k + 1) (pB ps) (dvSet dv k v) = rowW k (pB ps) dv ++ [.int .i64 (pB ps k), v] := by
  rw [rowW_succ]
  congr 1
  · exact rowW_congr (fun _ _ => rfl) (fun i hi => by unfold dvSet; rw [if_neg (by omega)])
  · unfold dvSet; rw [if_pos rfl]

/-- A local struct of two cells that may be written. -/
def BoxF (w : World) (b : Nat) (x y : Value) : Prop := Box2 w b x y ∧ w.frozen? ⟨b, 0, none⟩ = false ∧ w.frozen? ⟨b, 1, none⟩ = false
theorem BoxF.below {w w' : World} {b : Nat} {x y : Value} (h : BoxF w b x y) (hb : Below w.heap.size w w') : BoxF w' b x y :=
  ⟨h.1.below hb, (hb.frozen (p := ⟨b, 0, none⟩) h.1.1).trans h.2.1, (hb.frozen (p := ⟨b, 1, none⟩) h.1.1).trans h.2.2⟩
theorem BoxF.new (w : World) (x y : Value) (t : TypeId) : BoxF (w.alloc (.cells #[x, y] t)) w.heap.size x y := ⟨Box2.new _ _ _ _, by simp, by simp⟩
theorem BoxF.belowB {w w' : World} {b B : Nat} {x y : Value} (h : BoxF w b x y) (hb : Below B w w') (hB : b < B) : BoxF w' b x y :=
  ⟨⟨Nat.lt_of_lt_of_le h.1.1 hb.size, (hb.cell (p := ⟨b, 0, none⟩) hB).trans h.1.2.1, (hb.cell (p := ⟨b, 1, none⟩) hB).trans h.1.2.2⟩, (hb.frozen (p := ⟨b, 0, none⟩) hB).trans h.2.1, (hb.frozen (p := ⟨b, 1, none⟩) hB).trans h.2.2⟩

theorem RdW.recAt {w : World} {ao : Option Addr} {n cap k : Nat} {ps : List (Int × List Int)} (h : RdW w (.slice ao n cap) ps) (hl : ps.length = n) (hk : k < n) : ∃ b o, ao = some ⟨b, o, none⟩ ∧ b < w.heap.size ∧
    w.cell? ⟨b, o + k * 2, none⟩ = some (.int .i64 (pB ps k)) ∧ ∃ da c, w.cell? ⟨b, o + k * 2 + 1, none⟩ = some (.slice da (pD ps k).length c) ∧ Rd .u8 w (.slice da (pD ps k).length c) (pD ps k) := by
  obtain ⟨ao', cap', e, h1, h2, h3⟩ := h
  simp only [Value.slice.injEq] at e
  obtain ⟨rfl, _, rfl⟩ := e
  rcases h3 with rfl | ⟨b, o, rfl, hb, hc⟩
  · simp at hl; omega
  · obtain ⟨c1, da, c, c2, r⟩ := hc k (by omega)
    exact ⟨b, o, rfl, hb, c1, da, c, c2, r⟩

/-- What the rounds of a copy have made so far. -/
def Made (w : World) (lo g k cap : Nat) (ps : List (Int × List Int)) (dv : Nat → Value) : Prop :=
  w.ownsRow lo 131 2 (.slice (some ⟨g, 0, none⟩) k cap) k (rowW k (pB ps) dv) ∧ (∀ i, i < k → Own .u8 5 w (g + 1) (dv i) (pD ps i)) ∧ (∀ i j, i < k → j < k → i ≠ j → Ne2 (dv i) (dv j))

theorem Own.none_or {k : IntKind} {e : TypeId} {w : World} {base B : Nat} {v : Value} {xs : List Int} (h : Own k e w base v xs) (hB : B < base) : v.ownBlock = none ∨ v.ownBlock ≠ some B := by
  cases hv : v.ownBlock with
  | none => exact .inl rfl
  | some q => have := (h.lt q hv).1; exact .inr (by simp; omega)

theorem Made.below {w w' : World} {lo g k cap : Nat} {ps : List (Int × List Int)} {dv : Nat → Value} (h : Made w lo g k cap ps dv) (hb : Below w.heap.size w w') : Made w' lo g k cap ps dv :=
  ⟨World.ownsRow.kept h.1 (row := none) ⟨hb.os, hb.tape, hb.output, hb.size, fun q hq _ => hb.block q hq⟩ (.inr (by simp [Value.ownBlock])), fun i hi => (h.2.1 i hi).below hb, h.2.2⟩

theorem made_step {wr w' w4 : World} {lo g k cap : Nat} {ps : List (Int × List Int)} {dv : Nat → Value} {v : Value} {ob : Obj} (hm : Made wr lo g k cap ps dv) (hgr : g < wr.heap.size) (bw : Below wr.heap.size wr w') (o' : Own .u8 5 w' wr.heap.size v (pD ps k))
    (ho4 : w4.ownsRow lo 131 2 (.slice (some ⟨g, 0, none⟩) (k + 1) cap) (k + 1) (rowW k (pB ps) dv ++ [.int .i64 (pB ps k), v])) (hg4 : (w'.alloc ob).grownBy w4 (some g)) : Made w4 lo g (k + 1) cap ps (dvSet dv k v) := by
  have G : w'.grownBy w4 (some g) := World.grownBy.trans (World.grownBy_alloc w' ob (some g)) hg4
  refine ⟨by rw [rowW_snoc]; exact ho4, fun i hi => ?_, fun i j hi hj hne => ?_⟩
  · unfold dvSet
    by_cases e : i = k
    · subst e
      rw [if_pos rfl]
      exact (o'.mono (by omega)).other G ((o'.mono (base' := g + 1) (by omega)).none_or (by omega))
    · rw [if_neg e]
      have h1 := hm.2.1 i (by omega)
      exact (h1.below bw).other G (h1.none_or (by omega))
  · unfold dvSet Ne2
    by_cases e : i = k
    · by_cases e' : j = k
      · omega
      · rw [if_pos e, if_neg e']
        cases hv : v.ownBlock with
        | none => exact .inl rfl
        | some q =>
          right; intro hq
          have := (o'.lt q hv).1; have := ((hm.2.1 j (by omega)).lt q hq.symm).2; omega
    · by_cases e' : j = k
      · rw [if_neg e, if_pos e']
        cases hv : (dv i).ownBlock with
        | none => exact .inl rfl
        | some q =>
          right; intro hq
          have := (o'.lt q hq.symm).1; have := ((hm.2.1 i (by omega)).lt q hv).2; omega
      · rw [if_neg e, if_neg e']
        exact hm.2.2 i j (by omega) (by omega) hne

theorem OwnD.mono {w : World} {lo lo' hi hi' : Nat} {vd vp : Value} {dur : List Int} {ps : List (Int × List Int)} {dv : Nat → Value} (ho : OwnD w lo hi vd vp dur ps dv) (hl : lo' ≤ lo) (hh : hi ≤ hi') : OwnD w lo' hi' vd vp dur ps dv :=
  ⟨ho.d.mono hl, ho.p.mono hl, fun g hg => Nat.lt_of_lt_of_le (ho.dlt g hg) hh, fun g hg => Nat.lt_of_lt_of_le (ho.plt g hg) hh, fun i hi g hg => Nat.lt_of_lt_of_le (ho.qlt i hi g hg) hh, ho.dp, ho.dq⟩

theorem made_ownD {w6 w7 : World} {lo g k cap : Nat} {vd : Value} {dur : List Int} {ps : List (Int × List Int)} {dv : Nat → Value} (hm : Made w6 lo g k cap ps dv) (hl : ps.length = k) (hb : Below w6.heap.size w6 w7) (hd : Own .u8 5 w7 w6.heap.size vd dur) (hlo : lo ≤ g) :
    OwnD w7 lo w7.heap.size vd (.slice (some ⟨g, 0, none⟩) k cap) dur ps dv := by
  subst hl
  have m7 := hm.below hb
  have hg6 := (World.ownsRow.lt hm.1 g rfl).2
  refine ⟨hd.mono (by omega), ⟨m7.1, fun i hi => ((m7.2.1 i hi).mono (by omega)).b, m7.2.2, fun i hi => ?_⟩, fun g hg => (hd.lt g hg).2, fun g' hg => (World.ownsRow.lt m7.1 g' hg).2, fun i hi g hg => ((m7.2.1 i hi).lt g hg).2, ?_, fun i hi => ?_⟩
  · exact (hm.2.1 i hi).none_or (B := g) (by omega)
  · right
    intro e
    have := (hd.lt g e.symm).1
    omega
  · cases hv : (dv i).ownBlock with
    | none => exact .inl hv
    | some q =>
      right; intro e
      rw [hv] at e
      have := (hd.lt q e.symm).1; have := ((hm.2.1 i hi).lt q hv).2; omega

theorem pB_app (ps : List (Int × List Int)) (p : Int × List Int) (i : Nat) (h : i < ps.length) : pB (ps ++ [p]) i = pB ps i := by unfold pB; simp [List.getD, List.getElem?_append_left h]
theorem pD_app (ps : List (Int × List Int)) (p : Int × List Int) (i : Nat) (h : i < ps.length) : pD (ps ++ [p]) i = pD ps i := by unfold pD; simp [List.getD, List.getElem?_append_left h]
theorem pB_last (ps : List (Int × List Int)) (p : Int × List Int) : pB (ps ++ [p]) ps.length = p.1 := by unfold pB; simp [List.getD]
theorem pD_last (ps : List (Int × List Int)) (p : Int × List Int) : pD (ps ++ [p]) ps.length = p.2 := by unfold pD; simp [List.getD]

theorem ownD_nil (w : World) (lo hi : Nat) : OwnD w lo hi (.slice none 0 0) (.slice none 0 0) [] [] (fun _ => .slice none 0 0) :=
  ⟨World.ownsRow_nil _ _ _ _, ⟨World.ownsRow_nil _ _ _ _, fun i hi => by simp at hi, fun i j hi => by simp at hi, fun i hi => by simp at hi⟩, fun g hg => by simp [Value.ownBlock] at hg, fun g hg => by simp [Value.ownBlock] at hg, fun i hi => by simp at hi, .inl rfl, fun i hi => by simp at hi⟩

/-- May the write be made? -/
def wrOk (dl : Nat) (ps : List (Int × List Int)) (x : Int) (m : Nat) : Bool := vldD dl ps && decide (ps.length < 2000) && decide (0 ≤ x ∧ x < ((dl / 64 : Nat) : Int)) && decide (m = 64)
def wrDur (dur : List Int) (ps : List (Int × List Int)) (x : Int) (xs : List Int) : List Int := if wrOk dur.length ps x xs.length then dur else []
def wrPend (dur : List Int) (ps : List (Int × List Int)) (x : Int) (xs : List Int) : List (Int × List Int) := if wrOk dur.length ps x xs.length then ps ++ [(x, xs)] else []

end Go.Proofs.YtmgolinleiahpaaDoor

namespace Go.Proofs.YtmgolinleiahpaaDoor
open Go.RowKit

/-- What a read of block b gives after the first k pending writes. -/
def rdv (dur : List Int) (ps : List (Int × List Int)) (b : Nat) : Nat → List Int
  | 0 => (dur.drop (b * 64)).take 64
  | k + 1 => if pB ps k = b then pD ps k else rdv dur ps b k

/-- A slice of a slice. -/
theorem Rd.part {k : IntKind} {w : World} {blk o n cap : Nat} {xs : List Int} (h : Rd k w (.slice (some ⟨blk, o, none⟩) n cap) xs) (hn : xs.length = n) (i m : Nat) (hm : i + m ≤ n) : Rd k w (.slice (some ⟨blk, o + i, none⟩) m (cap - i)) ((xs.drop i).take m) := by
  obtain ⟨ao, cap', e, h1, h2, h3⟩ := h
  simp only [Value.slice.injEq] at e
  obtain ⟨rfl, hl, rfl⟩ := e
  have hlen : ((xs.drop i).take m).length = m := by rw [List.length_take, List.length_drop]; omega
  refine ⟨_, cap - i, by rw [hlen], by omega, by omega, ?_⟩
  rcases h3 with rfl | ⟨b', o', e, hb, hc⟩
  · left; simp
  · injection e with e
    injection e with e1 e2 _
    subst e1; subst e2
    refine .inr ⟨blk, o + i, rfl, hb, fun j hj => ?_⟩
    rw [hlen] at hj
    have := hc (i + j) (by omega)
    rw [Nat.add_assoc, this]
    simp [List.getD, List.getElem?_drop, hj]


end Go.Proofs.YtmgolinleiahpaaDoor

namespace Go.Proofs.YtmgolinleiahpaaDoor
open Go.RowKit

/-- May the block be read? -/
def rdOk (dl : Nat) (ps : List (Int × List Int)) (x : Int) : Bool := vldD dl ps && decide (0 ≤ x ∧ x < ((dl / 64 : Nat) : Int))
def rdA (dur : List Int) (ps : List (Int × List Int)) (x : Int) : List Int := if rdOk dur.length ps x then rdv dur ps x.toNat ps.length else []

theorem own_lit0 {w w1 : World} (b : Below w.heap.size w w1) : Own .u8 5 (w1.alloc (.cells #[] 5)) w.heap.size (.slice (some ⟨w1.heap.size, 0, none⟩) 0 0) [] := World.ownsRow_lit w1 #[] 0 b.size (Nat.zero_le _) rfl



end Go.Proofs.YtmgolinleiahpaaDoor

namespace Go.Proofs.YtmgolinleiahpaaDoor
open Go.RowKit

theorem there_new (w : World) (cs : Array Value) (t : TypeId) (n : Nat) (hn : cs.size = n) : (w.alloc (.cells cs t)).there w.heap.size 0 n := by
  intro j hj
  subst hn
  rw [Nat.zero_add]
  have h := cell_of_row (w.alloc (.cells cs t)) w.heap.size j cs t (0, 0) (heap_alloc_new w _)
  refine ⟨by rw [h]; simp [hj], by simp⟩

theorem below_setCells {B b : Nat} {w : World} (hB : B ≤ b) : ∀ (vs : List Value) (o : Nat) (w' : World), Below B w w' → Below B w (w'.setCells b o vs)
  | [], _, _, h => h
  | v :: vs, o, w', h => below_setCells hB vs (o + 1) (w'.setCell ⟨b, o, none⟩ v) (h.setCell hB v)


end Go.Proofs.YtmgolinleiahpaaDoor

namespace Go.Proofs.YtmgolinleiahpaaDoor
open Go.RowKit

theorem splice_get {α : Type} (L : List α) (off : Nat) (cs : List α) (h : off + cs.length ≤ L.length) (j : Nat) :
    (splice L off cs)[j]? = if j < off then L[j]? else if j < off + cs.length then cs[j - off]? else L[j]? := by
  unfold splice
  have hl : (L.take off).length = off := by rw [List.length_take]; omega
  by_cases h1 : j < off
  · rw [if_pos h1, List.getElem?_append_left (by omega), List.getElem?_take_of_lt h1]
  · rw [if_neg h1, List.getElem?_append_right (by omega), hl]
    by_cases h2 : j < off + cs.length
    · rw [if_pos h2, List.getElem?_append_left (by omega)]
    · rw [if_neg h2, List.getElem?_append_right (by omega), List.getElem?_drop]
      congr 1
      omega

theorem splice_map {α β : Type} (f : α → β) (L : List α) (off : Nat) (cs : List α) : (splice L off cs).map f = splice (L.map f) off (cs.map f) := by
  simp [splice, List.map_take, List.map_drop]

theorem splice_nil {α : Type} (L : List α) (off : Nat) : splice L off [] = L := by simp [splice]

theorem splice_snoc (L : List Int) (off : Nat) (ys : List Int) (j : Nat) (hj : j < ys.length) (h : off + ys.length ≤ L.length) :
    (splice L off (ys.take j)).set (off + j) (ys.getD j 0) = splice L off (ys.take (j + 1)) := by
  have hl1 : (ys.take j).length = j := by rw [List.length_take]; omega
  have hl2 : (ys.take (j + 1)).length = j + 1 := by rw [List.length_take]; omega
  apply List.ext_getElem?
  intro i
  rw [splice_get _ _ _ (by omega), List.getElem?_set, length_splice _ _ _ (by omega), splice_get _ _ _ (by omega), hl1, hl2]
  by_cases e : off + j = i
  · subst e
    rw [if_pos rfl, if_pos (by omega), if_neg (by omega), if_pos (by omega), show off + j - off = j by omega, List.getElem?_take_of_lt (by omega)]
    simp [List.getD, hj]
  · rw [if_neg e]
    by_cases h1 : i < off
    · rw [if_pos h1, if_pos h1]
    · rw [if_neg h1, if_neg h1]
      by_cases h2 : i < off + j
      · rw [if_pos h2, if_pos (by omega), List.getElem?_take_of_lt (by omega), List.getElem?_take_of_lt (by omega)]
      · rw [if_neg h2, if_neg (by omega)]

/-- A block that is read, torn and laid back. -/
theorem splice_torn (D W : List Int) (o c : Nat) (hW : W.length = 64) (hc : c ≤ 64) (ho : o + 64 ≤ D.length) :
    splice D o (splice ((D.drop o).take 64) 0 (W.take c)) = splice D o (W.take c) := by
  have hd : ((D.drop o).take 64).length = 64 := by rw [List.length_take, List.length_drop]; omega
  have hw : (W.take c).length = c := by rw [List.length_take]; omega
  have hs : (splice ((D.drop o).take 64) 0 (W.take c)).length = 64 := by rw [length_splice _ _ _ (by omega), hd]
  apply List.ext_getElem?
  intro i
  rw [splice_get _ _ _ (by omega), splice_get _ _ _ (by omega), splice_get _ _ _ (by omega), hs, hw]
  by_cases h1 : i < o
  · rw [if_pos h1, if_pos h1]
  · rw [if_neg h1, if_neg h1]
    by_cases h2 : i < o + 64
    · rw [if_pos h2, if_neg (by omega)]
      by_cases h3 : i < o + c
      · rw [if_pos h3, if_pos (by omega)]; rfl
      · rw [if_neg h3, if_neg (by omega), List.getElem?_take_of_lt (by omega), List.getElem?_drop]
        congr 1; omega
    · rw [if_neg h2, if_neg (by omega)]

/-- The durable bytes when the first k pending writes have come, each with so many of its first bytes. -/
def stl (dur : List Int) (ps : List (Int × List Int)) (c : Nat → Nat) : Nat → List Int
  | 0 => dur
  | k + 1 => splice (stl dur ps c k) ((pB ps k).toNat * 64) ((pD ps k).take (c k))

theorem vld_at {dl : Nat} {ps : List (Int × List Int)} (h : vldD dl ps = true) (k : Nat) (hk : k < ps.length) : ∃ b : Nat, pB ps k = b ∧ b * 64 + 64 ≤ dl ∧ b ≤ 300 ∧ (pD ps k).length = 64 := by
  obtain ⟨h1, h2, h3, h4, h5⟩ := (vldD_iff dl ps).1 h
  obtain ⟨k1, k2, k3⟩ := h5 k hk
  exact ⟨(pB ps k).toNat, by omega, by omega, by omega, k3⟩

theorem stl_len (dur : List Int) (ps : List (Int × List Int)) (c : Nat → Nat) (h : vldD dur.length ps = true) : ∀ k, k ≤ ps.length → (stl dur ps c k).length = dur.length
  | 0, _ => rfl
  | k + 1, hk => by
    have ih := stl_len dur ps c h k (by omega)
    obtain ⟨b, hb, hb2, _, hd⟩ := vld_at h k (by omega)
    rw [stl, length_splice, ih]
    rw [hb, Int.toNat_natCast, List.length_take, ih, hd]
    omega

theorem stl_congr (dur : List Int) (ps : List (Int × List Int)) (c c' : Nat → Nat) : ∀ k, (∀ i, i < k → c i = c' i) → stl dur ps c k = stl dur ps c' k
  | 0, _ => rfl
  | k + 1, h => by rw [stl, stl, stl_congr dur ps c c' k (fun i hi => h i (by omega)), h k (by omega)]

/-- How many of its bytes write i keeps. -/
def chc (cs : List Int) (i : Nat) : Nat := if i < cs.length then (if 0 ≤ cs.getD i 0 ∧ cs.getD i 0 < 64 then (cs.getD i 0).toNat else 64) else 0
theorem chc_le (cs : List Int) (i : Nat) : chc cs i ≤ 64 := by
  unfold chc; split
  · split
    · omega
    · omega
  · omega

def crOk (dl : Nat) (ps : List (Int × List Int)) (m : Nat) : Bool := vldD dl ps && decide (m ≤ 2000)
def crD (dur : List Int) (ps : List (Int × List Int)) (cs : List Int) : List Int := if crOk dur.length ps cs.length then stl dur ps (chc cs) ps.length else []
def syD (dur : List Int) (ps : List (Int × List Int)) : List Int := if vldD dur.length ps then stl dur ps (fun _ => 64) ps.length else []

theorem crD_len (dur : List Int) (ps : List (Int × List Int)) (cs : List Int) : (crD dur ps cs).length ≤ dur.length := by
  unfold crD; split
  · rename_i h
    rw [stl_len dur ps _ (by unfold crOk at h; simp only [Bool.and_eq_true] at h; exact h.1) _ (Nat.le_refl _)]; exact Nat.le_refl _
  · simp
theorem syD_len (dur : List Int) (ps : List (Int × List Int)) : (syD dur ps).length ≤ dur.length := by
  unfold syD; split
  · rename_i h
    rw [stl_len dur ps _ h _ (Nat.le_refl _)]; exact Nat.le_refl _
  · simp

end Go.Proofs.YtmgolinleiahpaaDoor

namespace Go.Proofs.YtmgolinleiahpaaDoor
open Go.RowKit

theorem Own.spliced {w : World} {base g n cap off j : Nat} {L ys : List Int} (hj : j < ys.length) (hf : off + ys.length ≤ L.length) (hn : L.length = n) {u : Int} (hu : u = ys.getD j 0)
    (h : Own .u8 5 w base (.slice (some ⟨g, 0, none⟩) n cap) (splice L off (ys.take j))) :
    Own .u8 5 (w.setCell ⟨g, off + j, none⟩ (.int .u8 u)) base (.slice (some ⟨g, 0, none⟩) n cap) (splice L off (ys.take (j + 1))) := by
  subst hu
  unfold Own at h ⊢
  have hl1 : (splice L off (ys.take j)).length = n := by rw [length_splice _ _ _ (by rw [List.length_take]; omega), hn]
  have hl2 : (splice L off (ys.take (j + 1))).length = n := by rw [length_splice _ _ _ (by rw [List.length_take]; omega), hn]
  rw [hl1] at h
  rw [hl2]
  have := (World.ownsRow.stored h (off + j) (.int .u8 (ys.getD j 0))).1
  rw [← List.map_set, splice_snoc L off ys j hj hf] at this
  exact this

theorem Own.spot {w : World} {base g n cap j : Nat} {xs : List Int} (h : Own .u8 5 w base (.slice (some ⟨g, 0, none⟩) n cap) xs) (hn : xs.length = n) (hj : j < n) : (∃ c, w.cell? ⟨g, j, none⟩ = some c) ∧ w.frozen? ⟨g, j, none⟩ = false := by
  unfold Own at h
  rw [hn] at h
  exact ⟨⟨_, (World.ownsRow.cellAt h j (by omega)).trans (List.getElem?_eq_getElem (by simpa [hn] using hj))⟩, World.ownsRow.frozenAt h j⟩

theorem Own.pos {w : World} {base n : Nat} {v : Value} {xs : List Int} (h : Own .u8 5 w base v xs) (hn : xs.length = n) (h0 : 0 < n) : ∃ g cap, v = .slice (some ⟨g, 0, none⟩) n cap ∧ base ≤ g ∧ g < w.heap.size := by
  subst hn
  rcases h.2 with ⟨-, h1⟩ | ⟨g, cap, cur, rfl, hb, hg, -⟩
  · omega
  · exact ⟨g, cap, rfl, hb, (Array.getElem?_eq_some_iff.1 hg).1⟩

theorem Rd.cellAt {k : IntKind} {w : World} {ao : Option Addr} {n cap i : Nat} {xs : List Int} (h : Rd k w (.slice ao n cap) xs) (hl : xs.length = n) (hi : i < n) : ∃ b o, ao = some ⟨b, o, none⟩ ∧ b < w.heap.size ∧ w.cell? ⟨b, o + i, none⟩ = some (.int k (xs.getD i 0)) := by
  obtain ⟨ao', cap', e, h1, h2, h3⟩ := h
  simp only [Value.slice.injEq] at e
  obtain ⟨rfl, _, rfl⟩ := e
  rcases h3 with rfl | ⟨b, o, rfl, hb, hc⟩
  · simp at hl; omega
  · exact ⟨b, o, rfl, hb, hc i (by omega)⟩

theorem grownBy_drew' {a b : World} {row : Option Nat} (h : a.grownBy b row) : a.grownBy b.drew row := ⟨h.os, h.tape, h.output, h.size, h.block⟩

theorem BoxF.other {w w' : World} {b : Nat} {x y : Value} {row : Option Nat} (h : BoxF w b x y) (hg : w.grownBy w' row) (hne : some b ≠ row) : BoxF w' b x y :=
  ⟨h.1.other hg hne, (hg.frozen_far ⟨b, 0, none⟩ h.1.1 hne).trans h.2.1, (hg.frozen_far ⟨b, 1, none⟩ h.1.1 hne).trans h.2.2⟩


end Go.Proofs.YtmgolinleiahpaaDoor

