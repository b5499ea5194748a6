import Derived.Test.YtoljmlhnbmeloaaJ01
import Derived.Deep.RegionWith
import Derived.Deep.RegionLaw
import Derived.Laws.Cover3
import Derived.Deep.MidRow
import Derived.Laws.CopyOwn
import Derived.Great.BuildSlice
import Derived.Maps.OwnSet
import Derived.Deep.AppendLies
import Derived.Deep.RegionHeld3
namespace Go.Proofs.Ytoljmlhnbmeloaa
open Go.RowKit

set_option maxHeartbeats 400000 in
theorem eqWrite_any (w : World) (x y : Int) (va vb : Value) (xs ys : List Int) (ha : Rd .u8 w va xs) (hb : Rd .u8 w vb ys) :
    Calls Try.prog 82 #[.agg #[.int .i64 x, va], .agg #[.int .i64 y, vb]] w fun e w' => e = .returned (.bool (decide (x = y ∧ xs = ys))) ∧ Below w.heap.size w w' := by
  have B0 : Hid (Below w.heap.size w ((w.alloc (.cells #[.int .i64 x, va] 42)).alloc (.cells #[.int .i64 y, vb] 42))) := ((Below.refl _ _).alloc (Nat.le_refl _) _).alloc (by simp) _
  have RA : Hid (Rd .u8 ((w.alloc (.cells #[.int .i64 x, va] 42)).alloc (.cells #[.int .i64 y, vb] 42)) va xs) := ha.below B0.out
  have RB : Hid (Rd .u8 ((w.alloc (.cells #[.int .i64 x, va] 42)).alloc (.cells #[.int .i64 y, vb] 42)) vb ys) := hb.below B0.out
  obtain ⟨a1, c1, rfl, _, _⟩ := ha.len
  obtain ⟨a2, c2, rfl, _, _⟩ := hb.len
  clear ha hb
  by_cases he : x = y
  · subst he
    have t : (x != x) = false := by simp
    go_enter Try.func82, Try.ntmps82
    go_wp2_with fail
    refine (eqByteS_any _ _ _ xs ys RA.out RB.out).mono ?_
    rintro e w1 ⟨rfl, q1, rfl⟩
    have BE : Hid (Below w.heap.size w (((w.alloc (.cells #[.int .i64 x, .slice a1 xs.length c1] 42)).alloc (.cells #[.int .i64 x, .slice a2 ys.length c2] 42)).drewN q1)) := B0.out.trans ((below_drewN' _ q1).mono (by simp; omega))
    by_cases h : xs = ys
    · have hd : decide (xs = ys) = true := by simp [h]
      have hd2 : decide (x = x ∧ xs = ys) = true := by simp [h]
      rw [hd]
      clear h
      go_wp2
      go_ret
      exact ⟨ret_bool hd2.symm, BE.out⟩
    · have hd : decide (xs = ys) = false := by simp [h]
      have hd2 : decide (x = x ∧ xs = ys) = false := by simp [h]
      rw [hd]
      clear h
      go_wp2
      go_ret
      exact ⟨ret_bool hd2.symm, BE.out⟩
  · have t : (x != y) = true := by simp [he]
    have hd2 : decide (x = y ∧ xs = ys) = false := by simp [he]
    clear he
    go_enter Try.func82, Try.ntmps82
    go_wp2
    go_ret
    exact ⟨ret_bool hd2.symm, B0.out⟩

theorem recs_ext {ps qs : List (Int × List Int)} (hl : ps.length = qs.length) (h : ∀ i, i < ps.length → pB ps i = pB qs i ∧ pD ps i = pD qs i) : ps = qs := by
  apply List.ext_getElem hl
  intro i h1 h2
  have := h i h1
  unfold pB pD at this
  simp only [List.getD, List.getElem?_eq_getElem h1, List.getElem?_eq_getElem h2, Option.getD_some] at this
  exact Prod.ext this.1 this.2

set_option maxHeartbeats 1000000 in
set_option maxRecDepth 100000 in
theorem eqWriteS_row (w : World) (b o b2 o2 n ca cb : Nat) (ps qs : List (Int × List Int)) (hp : ps.length = n) (hq : qs.length = n) (hn : n ≤ 1048576) (hb : b < w.heap.size) (hb2 : b2 < w.heap.size)
    (hc : ∀ i, i < n → w.cell? ⟨b, o + i * 2, none⟩ = some (.int .i64 (pB ps i)) ∧ ∃ da c, w.cell? ⟨b, o + i * 2 + 1, none⟩ = some (.slice da (pD ps i).length c) ∧ Rd .u8 w (.slice da (pD ps i).length c) (pD ps i))
    (hc2 : ∀ i, i < n → w.cell? ⟨b2, o2 + i * 2, none⟩ = some (.int .i64 (pB qs i)) ∧ ∃ da c, w.cell? ⟨b2, o2 + i * 2 + 1, none⟩ = some (.slice da (pD qs i).length c) ∧ Rd .u8 w (.slice da (pD qs i).length c) (pD qs i)) :
    Calls Try.prog 61 #[.slice (some ⟨b, o, none⟩) n ca, .slice (some ⟨b2, o2, none⟩) n cb] w fun e w' => e = .returned (.bool (decide (ps = qs))) ∧ Below w.heap.size w w' := by
  have HC : Hid (∀ i, i < n → w.cell? ⟨b, o + i * 2, none⟩ = some (.int .i64 (pB ps i)) ∧ ∃ da c, w.cell? ⟨b, o + i * 2 + 1, none⟩ = some (.slice da (pD ps i).length c) ∧ Rd .u8 w (.slice da (pD ps i).length c) (pD ps i)) := hc
  have HC2 : Hid (∀ i, i < n → w.cell? ⟨b2, o2 + i * 2, none⟩ = some (.int .i64 (pB qs i)) ∧ ∃ da c, w.cell? ⟨b2, o2 + i * 2 + 1, none⟩ = some (.slice da (pD qs i).length c) ∧ Rd .u8 w (.slice da (pD qs i).length c) (pD qs i)) := hc2
  have HP : Hid (ps.length = n) := hp
  have HQ : Hid (qs.length = n) := hq
  clear hc hc2 hp hq
  have h1 : ((n : Int) != (n : Int)) = false := by simp
  go_enter Try.func61, Try.ntmps61
  go_wp2
  go_loopw [5] (fun i wr => ∃ k : Nat, k ≤ n ∧ i = .int .i64 k ∧ Hid (∀ i, i < k → pB ps i = pB qs i ∧ pD ps i = pD qs i) ∧ Below w.heap.size w wr) (fun i _ => n - (intOf i).toNat)
  case atStart => exact ⟨0, Nat.zero_le _, rfl, fun i hi => by omega, Below.refl _ _⟩
  case round =>
    obtain ⟨k, hk, rfl, HT, hg⟩ := hrel
    by_cases hlt : k < n
    · obtain ⟨e1, da, dc, e2, r⟩ := HC.out k hlt
      obtain ⟨g1, da2, dc2, g2, r2⟩ := HC2.out k hlt
      have e1' := (hg.cell (p := ⟨b, o + k * 2, none⟩) hb).trans e1
      have e2' := (hg.cell (p := ⟨b, o + k * 2 + 1, none⟩) hb).trans e2
      have g1' := (hg.cell (p := ⟨b2, o2 + k * 2, none⟩) hb2).trans g1
      have g2' := (hg.cell (p := ⟨b2, o2 + k * 2 + 1, none⟩) hb2).trans g2
      have hltI : (k : Int) < (n : Int) := by omega
      have HE : Hid (∀ q, Calls Try.prog 82 #[.agg #[.int .i64 (pB ps k), .slice da (pD ps k).length dc], .agg #[.int .i64 (pB qs k), .slice da2 (pD qs k).length dc2]] (wr.drewN q) fun e w' => e = .returned (.bool (decide (pB ps k = pB qs k ∧ pD ps k = pD qs k))) ∧ Below w.heap.size w w') := by
        intro q
        refine (eqWrite_any _ _ _ _ _ (pD ps k) (pD qs k) ((r.below hg).drewN q) ((r2.below hg).drewN q)).mono ?_
        rintro e w' ⟨rfl, b'⟩
        exact ⟨rfl, (hg.trans ((below_drewN' wr q).mono hg.size)).trans (b'.mono hg.size)⟩
      clear e1 e2 g1 g2 r r2 hg
      by_cases heq : pB ps k = pB qs k ∧ pD ps k = pD qs k
      · have HQ1 : Hid (pB ps k = pB qs k ∧ pD ps k = pD qs k) := heq
        have HD : Hid (decide (pB ps k = pB qs k ∧ pD ps k = pD qs k) = true) := by show _ = _; rw [decide_eq_true_eq]; exact heq
        clear heq
        go_wp2
        go_region_with (go_at_call 82; refine (HE.out 1).mono ?_; rintro e w' ⟨rfl, b'⟩; rw [HD.out])
        all_goals
          have HB : Hid (Below w.heap.size w w') := b'
          clear b'
          go_wp2
          go_roundw
          case rel => exact ⟨k + 1, by omega, by go_num, (fun i hi => by by_cases e : i = k; (subst e; exact HQ1.out); exact HT.out i (by omega)), HB.out⟩
          case measure => simp [intOf]; omega
      · have HD : Hid (decide (pB ps k = pB qs k ∧ pD ps k = pD qs k) = false) := by show _ = _; rw [decide_eq_false_iff_not]; exact heq
        have HN : Hid (decide (ps = qs) = false) := by show _ = _; rw [decide_eq_false_iff_not]; intro h; subst h; exact heq ⟨rfl, rfl⟩
        clear heq
        go_wp2
        go_region_with (go_at_call 82; refine (HE.out 1).mono ?_; rintro e w' ⟨rfl, b'⟩; rw [HD.out])
        all_goals
          have HB : Hid (Below w.heap.size w w') := b'
          clear b'
          go_wp2
          go_ret
          exact ⟨ret_bool HN.out.symm, HB.out⟩
    · have HY : Hid (decide (ps = qs) = true) := by show _ = _; rw [decide_eq_true_eq]; exact recs_ext (by rw [HP.out, HQ.out]) (fun i hi => HT.out i (by rw [HP.out] at hi; omega))
      have HG : Hid (Below w.heap.size w wr) := hg
      clear hg
      go_wp2
      go_ret
      exact ⟨ret_bool HY.out.symm, HG.out⟩

set_option maxHeartbeats 400000 in
theorem eqWriteS_len (w : World) (ao bo : Option Addr) (n m ca cb : Nat) (h : n ≠ m) :
    Calls Try.prog 61 #[.slice ao n ca, .slice bo m cb] w fun e w' => e = .returned (.bool false) ∧ w' = w := by
  have h1 : ((n : Int) != (m : Int)) = true := by rw [bne_iff_ne]; omega
  go_enter Try.func61, Try.ntmps61
  go_wp2
  go_ret
  exact ⟨rfl, rfl⟩

theorem eqWriteS_any (w : World) (va vb : Value) (ps qs : List (Int × List Int)) (ha : RdW w va ps) (hb : RdW w vb qs) (hn : ps.length ≤ 1048576) :
    Calls Try.prog 61 #[va, vb] w fun e w' => e = .returned (.bool (decide (ps = qs))) ∧ Below w.heap.size w w' := by
  obtain ⟨ao, ca, rfl, h1, h2, h3⟩ := ha
  obtain ⟨bo, cb, rfl, k1, k2, k3⟩ := hb
  by_cases hne : ps.length = qs.length
  · rcases h3 with rfl | ⟨b, o, rfl, hb, hc⟩
    · have hy : qs = [] := List.eq_nil_of_length_eq_zero hne.symm
      subst hy
      refine (eqWriteS_nil w ao bo ca cb).mono ?_
      rintro e w' ⟨rfl, rfl⟩
      exact ⟨ret_bool (by simp), Below.refl _ _⟩
    · rcases k3 with rfl | ⟨b2, o2, rfl, hb2, hc2⟩
      · have hx : ps = [] := List.eq_nil_of_length_eq_zero hne
        subst hx
        refine (eqWriteS_nil w _ bo ca cb).mono ?_
        rintro e w' ⟨rfl, rfl⟩
        exact ⟨ret_bool (by simp), Below.refl _ _⟩
      · rw [← hne] at hc2 ⊢
        exact eqWriteS_row w b o b2 o2 ps.length ca cb ps qs rfl hne.symm hn hb hb2 hc hc2
  · refine (eqWriteS_len w ao bo _ _ ca cb hne).mono ?_
    rintro e w' ⟨rfl, rfl⟩
    exact ⟨ret_bool (by symm; rw [decide_eq_false_iff_not]; intro h; exact hne (by rw [h])), Below.refl _ _⟩

set_option maxHeartbeats 400000 in
theorem eqDisk_any (w : World) (va vb pa pb : Value) (xs ys : List Int) (ps qs : List (Int × List Int)) (ha : Rd .u8 w va xs) (hb : Rd .u8 w vb ys) (hp : RdW w pa ps) (hq : RdW w pb qs) (hn : ps.length ≤ 1048576) :
    Calls Try.prog 25 #[.agg #[va, pa], .agg #[vb, pb]] w fun e w' => e = .returned (.bool (decide (xs = ys ∧ ps = qs))) ∧ Below w.heap.size w w' := by
  have B0 : Hid (Below w.heap.size w ((w.alloc (.cells #[va, pa] 32)).alloc (.cells #[vb, pb] 32))) := ((Below.refl _ _).alloc (Nat.le_refl _) _).alloc (by simp) _
  have RA : Hid (Rd .u8 ((w.alloc (.cells #[va, pa] 32)).alloc (.cells #[vb, pb] 32)) va xs) := ha.below B0.out
  have RB : Hid (Rd .u8 ((w.alloc (.cells #[va, pa] 32)).alloc (.cells #[vb, pb] 32)) vb ys) := hb.below B0.out
  have PA : Hid (RdW ((w.alloc (.cells #[va, pa] 32)).alloc (.cells #[vb, pb] 32)) pa ps) := hp.below B0.out
  have PB : Hid (RdW ((w.alloc (.cells #[va, pa] 32)).alloc (.cells #[vb, pb] 32)) pb qs) := hq.below B0.out
  clear ha hb hp hq
  go_enter Try.func25, Try.ntmps25
  go_wp2_with fail
  refine (eqByteS_any _ _ _ xs ys RA.out RB.out).mono ?_
  rintro e w1 ⟨rfl, q1, rfl⟩
  by_cases h : xs = ys
  · have hd : decide (xs = ys) = true := by simp [h]
    rw [hd]
    have HE : Hid (xs = ys) := h
    clear h
    go_wp2_with fail
    refine (eqWriteS_any _ _ _ ps qs (PA.out.below (below_drewN' _ q1)) (PB.out.below (below_drewN' _ q1)) hn).mono ?_
    rintro e w2 ⟨rfl, b2⟩
    have B2 : Hid (Below w.heap.size w w2) := (B0.out.trans ((below_drewN' _ q1).mono (by simp; omega))).trans (b2.mono (by simp; omega))
    clear b2
    by_cases h2 : ps = qs
    · have hd2 : decide (ps = qs) = true := by simp [h2]
      have hd3 : decide (xs = ys ∧ ps = qs) = true := by rw [decide_eq_true_eq]; exact ⟨HE.out, h2⟩
      rw [hd2]
      clear h2
      go_wp2
      go_ret
      exact ⟨ret_bool hd3.symm, B2.out⟩
    · have hd2 : decide (ps = qs) = false := by simp [h2]
      have hd3 : decide (xs = ys ∧ ps = qs) = false := by simp [h2]
      rw [hd2]
      clear h2
      go_wp2
      go_ret
      exact ⟨ret_bool hd3.symm, B2.out⟩
  · have hd : decide (xs = ys) = false := by simp [h]
    have hd3 : decide (xs = ys ∧ ps = qs) = false := by simp [h]
    rw [hd]
    have BE : Hid (Below w.heap.size w (((w.alloc (.cells #[va, pa] 32)).alloc (.cells #[vb, pb] 32)).drewN q1)) := B0.out.trans ((below_drewN' _ q1).mono (by simp; omega))
    clear h
    go_wp2
    go_ret
    exact ⟨ret_bool hd3.symm, BE.out⟩

end Go.Proofs.Ytoljmlhnbmeloaa

namespace Go.Proofs.Ytoljmlhnbmeloaa
open Go.RowKit

/-- Only blocks from lo to hi may have turned. -/
structure Within (lo hi : Nat) (w w' : World) : Prop where
  os : w'.os = w.os
  tape : w'.tape = w.tape
  output : w'.output = w.output
  size : w.heap.size ≤ w'.heap.size
  block : ∀ k, k < w.heap.size → (k < lo ∨ hi ≤ k) → w'.heap[k]? = w.heap[k]?

theorem Within.refl (lo hi : Nat) (w : World) : Within lo hi w w := ⟨rfl, rfl, rfl, Nat.le_refl _, fun _ _ _ => rfl⟩
theorem Within.trans {lo hi : Nat} {a b c : World} (h : Within lo hi a b) (k : Within lo hi b c) : Within lo hi a c :=
  ⟨k.os.trans h.os, k.tape.trans h.tape, k.output.trans h.output, Nat.le_trans h.size k.size, fun i hi hj => (k.block i (Nat.lt_of_lt_of_le hi h.size) hj).trans (h.block i hi hj)⟩
theorem Within.of_grown {lo hi : Nat} {a b : World} {row : Option Nat} (h : a.grownBy b row) (hr : ∀ g, row = some g → lo ≤ g ∧ g < hi) : Within lo hi a b :=
  ⟨h.os, h.tape, h.output, h.size, fun k hk hj => h.block k hk (fun e => by have := hr k e.symm; omega)⟩
theorem Within.of_below {lo hi : Nat} {a b : World} (h : Below a.heap.size a b) : Within lo hi a b := ⟨h.os, h.tape, h.output, h.size, fun k hk _ => h.block k hk⟩
theorem Within.setCell {lo hi g : Nat} (w : World) (h1 : lo ≤ g) (h2 : g < hi) (j : Nat) (u : Value) : Within lo hi w (w.setCell ⟨g, j, none⟩ u) :=
  Within.of_grown (grownBy_set w w g j u (World.grownBy.refl _ _)) (fun q e => by injection e with e; omega)
theorem Within.below {lo hi B : Nat} {a b c : World} (hb : Below B a b) (h : Within lo hi b c) (hB : B ≤ lo) (hs : B ≤ b.heap.size) : Below B a c :=
  ⟨h.os.trans hb.os, h.tape.trans hb.tape, h.output.trans hb.output, Nat.le_trans hb.size h.size, fun k hk => (h.block k (by omega) (.inl (by omega))).trans (hb.block k hk)⟩
theorem Within.own {lo hi : Nat} {a b : World} (h : Within lo hi a b) {k : IntKind} {e : TypeId} {B : Nat} {v : Value} {xs : List Int} (ho : Own k e a B v xs) (hv : ∀ g, v.ownBlock = some g → g < lo ∨ hi ≤ g) : Own k e b B v xs := by
  refine ⟨ho.1, ?_⟩
  rcases ho.2 with hn | ⟨g, cap, cur, rfl, hbg, hgg, rest⟩
  · exact .inl hn
  · exact .inr ⟨g, cap, cur, rfl, hbg, by rw [h.block g (Array.getElem?_eq_some_iff.1 hgg).1 (hv g rfl)]; exact hgg, rest⟩
theorem Within.ownW {lo hi : Nat} {a b : World} (h : Within lo hi a b) {e : TypeId} {B : Nat} {v : Value} {ps : List (Int × List Int)} {dv : Nat → Value} (ho : OwnW e a B v ps dv)
    (hv : ∀ g, v.ownBlock = some g → g < lo ∨ hi ≤ g) (hd : ∀ i, i < ps.length → ∀ g, (dv i).ownBlock = some g → g < lo ∨ hi ≤ g) : OwnW e b B v ps dv := by
  refine ⟨⟨ho.1.1, ?_⟩, fun i hi => h.own (ho.2.1 i hi) (hd i hi), ho.2.2⟩
  rcases ho.1.2 with hn | ⟨g, cap, cur, rfl, hbg, hgg, rest⟩
  · exact .inl hn
  · exact .inr ⟨g, cap, cur, rfl, hbg, by rw [h.block g (Array.getElem?_eq_some_iff.1 hgg).1 (hv g rfl)]; exact hgg, rest⟩
theorem Within.box2 {lo hi : Nat} {a b : World} (h : Within lo hi a b) {q : Nat} {x y : Value} (hb : Box2 a q x y) (hq : q < lo ∨ hi ≤ q) : Box2 b q x y :=
  ⟨Nat.lt_of_lt_of_le hb.1 h.size, (World.cell?_of_block (w := a) (a := ⟨q, 0, none⟩) (h.block q hb.1 hq)).trans hb.2.1, (World.cell?_of_block (w := a) (a := ⟨q, 1, none⟩) (h.block q hb.1 hq)).trans hb.2.2⟩

/-- The mark of record i. -/
def ks (ps : List (Int × List Int)) (k : Int) (i : Nat) : Int := k + i + tot (ps.take i)
theorem ks_succ (ps : List (Int × List Int)) (k : Int) (i : Nat) (h : i < ps.length) : ks ps k (i + 1) = ks ps k i + 1 + (pD ps i).length := by
  unfold ks; rw [tot_take_succ ps i h]; omega
def mkP (ps : List (Int × List Int)) (k : Int) : List (Int × List Int) := (List.range ps.length).map fun i => (ks ps k i, marks (ks ps k i + 1) (pD ps i).length)
theorem mkP_len (ps : List (Int × List Int)) (k : Int) : (mkP ps k).length = ps.length := by simp [mkP]
theorem mkP_B (ps : List (Int × List Int)) (k : Int) (i : Nat) (h : i < ps.length) : pB (mkP ps k) i = ks ps k i := by unfold pB mkP; simp [List.getD, h]
theorem mkP_D (ps : List (Int × List Int)) (k : Int) (i : Nat) (h : i < ps.length) : pD (mkP ps k) i = marks (ks ps k i + 1) (pD ps i).length := by show ((mkP ps k).getD i (0, [])).2 = _; unfold mkP; simp [List.getD, h]

def mB (ps : List (Int × List Int)) (k0 : Int) (k i : Nat) : Int := if i < k then ks ps k0 i else pB ps i
def mD (ps : List (Int × List Int)) (k0 : Int) (k i : Nat) : List Int := if i < k then marks (ks ps k0 i + 1) (pD ps i).length else pD ps i

theorem tot_le (ps : List (Int × List Int)) (i : Nat) : tot (ps.take i) ≤ tot ps := by
  unfold tot
  conv => rhs; rw [← List.take_append_drop i ps, List.map_append, List.sum_append]
  omega

theorem rowW_setB {n k : Nat} {f f' : Nat → Int} {g : Nat → Value} (hk : k < n) (hf : ∀ i, i ≠ k → f i = f' i) : (rowW n f g).set (k * 2) (.int .i64 (f' k)) = rowW n f' g := by
  have h := rowW_set (n := n) (f := f) (f' := f') (g := g) (g' := g) hk hf (fun _ _ => rfl)
  rw [← h]
  apply List.ext_getElem?
  intro j
  by_cases e : k * 2 + 1 = j
  · subst e
    rw [List.getElem?_set_self (by simp [rowW_length]; omega), List.getElem?_set_ne (by omega), rowW_get _ _ _ _ (by omega), if_neg (by omega), show (k * 2 + 1) / 2 = k by omega]
  · rw [List.getElem?_set_ne (l := (rowW n f g).set (k * 2) (.int .i64 (f' k))) e]

set_option maxHeartbeats 1000000 in
set_option maxRecDepth 100000 in
theorem markWriteS_row (w : World) (lo hi g n cap : Nat) (ps : List (Int × List Int)) (dv : Nat → Value) (k0 : Int) (hp : ps.length = n) (ho : OwnW 42 w lo (.slice (some ⟨g, 0, none⟩) n cap) ps dv)
    (hg : g < hi) (hd : ∀ i, i < n → ∀ q, (dv i).ownBlock = some q → q < hi) (hk0 : 0 ≤ k0) (hk1 : k0 ≤ 4194304) (hn : n ≤ 1048576) (ht : tot ps ≤ 1048576) :
    Calls Try.prog 62 #[.slice (some ⟨g, 0, none⟩) n cap, .int .i64 k0] w fun e w' => e = .returned (.int .i64 (ks ps k0 n)) ∧ OwnW 42 w' lo (.slice (some ⟨g, 0, none⟩) n cap) (mkP ps k0) dv ∧ Within lo hi w w' ∧ (∀ q, q < w.heap.size → some q ≠ Value.ownBlock (.slice (some ⟨g, 0, none⟩) n cap) → (∀ i, i < n → (dv i).ownBlock ≠ some q) → w'.heap[q]? = w.heap[q]?) := by
  have hlo : lo ≤ g := (World.ownsRow.lt ho.1 g rfl).1
  have HP : Hid (ps.length = n) := hp
  have HD : Hid (∀ i, i < n → ∀ q, (dv i).ownBlock = some q → q < hi) := hd
  have HO : Hid (OwnW 42 w lo (.slice (some ⟨g, 0, none⟩) n cap) ps dv) := ho
  clear hd ho hp
  go_enter Try.func62, Try.ntmps62
  go_wp2
  go_loopw [1, 5] (fun kk i wr => ∃ k : Nat, k ≤ n ∧ i = .int .i64 k ∧ kk = .int .i64 (ks ps k0 k) ∧ wr.ownsRow lo 42 2 (.slice (some ⟨g, 0, none⟩) n cap) n (rowW n (mB ps k0 k) dv) ∧ Hid (∀ i, i < n → Own .u8 5 wr lo (dv i) (mD ps k0 k i)) ∧ Within lo hi w wr ∧ Hid (∀ q, q < w.heap.size → some q ≠ Value.ownBlock (.slice (some ⟨g, 0, none⟩) n cap) → (∀ i, i < n → (dv i).ownBlock ≠ some q) → wr.heap[q]? = w.heap[q]?)) (fun _ i _ => n - (intOf i).toNat)
  case atStart => exact ⟨0, Nat.zero_le _, rfl, (by unfold ks; simp [tot]), (by have := HO.out.1; rw [HP.out] at this; exact this), (fun i hi => HO.out.2.1 i (by rw [HP.out]; exact hi)), Within.refl _ _ _, fun _ _ _ _ => rfl⟩
  case round =>
    obtain ⟨k, hk, rfl, rfl, hr, HI, hw, HF⟩ := hrel
    by_cases hlt : k < n
    · have hltI : (k : Int) < (n : Int) := by omega
      have f0 := World.ownsRow.frozenAt hr (k * 2)
      have d0 := (World.ownsRow.cellAt hr (k * 2) (by omega)).trans (rowW_get n _ _ (k * 2) (by omega))
      have d1 := (World.ownsRow.cellAt hr (k * 2 + 1) (by omega)).trans (rowW_get n _ _ (k * 2 + 1) (by omega))
      rw [if_neg (by omega), show (k * 2 + 1) / 2 = k by omega] at d1
      obtain ⟨x0, d0⟩ : ∃ x, wr.cell? ⟨g, k * 2, none⟩ = some x := ⟨_, d0⟩
      have hb1 := tot_le ps k
      have hkk : 0 ≤ ks ps k0 k ∧ ks ps k0 k ≤ 6291457 := by unfold ks; omega
      have HKS : Hid (ks ps k0 (k + 1) = ks ps k0 k + 1 + (pD ps k).length) := ks_succ ps k0 k (by rw [HP.out]; exact hlt)
      have hlen : (pD ps k).length ≤ 1048576 := by
        have h1 := tot_take_succ ps k (by rw [HP.out]; exact hlt)
        have h2 := tot_le ps (k + 1)
        omega
      have HR : Hid (wr.ownsRow lo 42 2 (.slice (some ⟨g, 0, none⟩) n cap) n (rowW n (mB ps k0 k) dv)) := hr
      have HW : Hid (Within lo hi w wr) := hw
      have OK : Hid (Own .u8 5 wr lo (dv k) (pD ps k)) := by have := HI.out k hlt; unfold mD at this; rw [if_neg (by omega)] at this; exact this
      have NE : Hid (∀ i, i < n → (dv i).ownBlock = none ∨ (dv i).ownBlock ≠ some g) := fun i hi => by have := HO.out.2.2.2 i (by rw [HP.out]; exact hi); exact this
      obtain ⟨da, dc, hdk⟩ := OK.out.slice
      rw [hdk] at d1
      clear hr hw hb1
      generalize hkx : ks ps k0 k = kx at *
      have HKX : Hid (ks ps k0 k = kx) := hkx
      clear hkx
      go_wp2_with fail
      have OK2 : Hid (Own .u8 5 (wr.setCell ⟨g, k * 2, none⟩ (.int .i64 kx)) lo (.slice da (pD ps k).length dc) (pD ps k)) := by
        have h1 := OK.out.setAt (j := k * 2) (u := .int .i64 kx) (NE.out k hlt); rw [hdk] at h1; exact h1
      refine (markByteS_any _ lo _ (pD ps k) (kx + 1) OK2.out (by omega) (by omega) (by omega)).mono ?_
      rintro e w2 ⟨rfl, o2, g2⟩
      have HDK : Hid (dv k = .slice da (pD ps k).length dc) := hdk
      have O2 : Hid (Own .u8 5 w2 lo (.slice da (pD ps k).length dc) (marks (kx + 1) (pD ps k).length)) := o2
      have G2 : Hid ((wr.setCell ⟨g, k * 2, none⟩ (.int .i64 kx)).grownBy w2 (Value.ownBlock (.slice da (pD ps k).length dc))) := g2
      clear o2 g2 OK OK2 d0 d1 f0 hdk
      have S : Hid (w2.ownsRow lo 42 2 (.slice (some ⟨g, 0, none⟩) n cap) n (rowW n (mB ps k0 (k + 1)) dv) ∧ (∀ i, i < n → Own .u8 5 w2 lo (dv i) (mD ps k0 (k + 1) i)) ∧ Within lo hi w w2 ∧ (∀ q, q < w.heap.size → some q ≠ Value.ownBlock (.slice (some ⟨g, 0, none⟩) n cap) → (∀ i, i < n → (dv i).ownBlock ≠ some q) → w2.heap[q]? = w.heap[q]?)) := by
        have nek := NE.out k hlt
        rw [HDK.out] at nek
        have r1 := (World.ownsRow.stored HR.out (k * 2) (.int .i64 kx)).1
        rw [show Value.int .i64 kx = .int .i64 (mB ps k0 (k + 1) k) by unfold mB; rw [if_pos (by omega), HKX.out], rowW_setB hlt (by intro i hi; unfold mB; by_cases h : i < k; (rw [if_pos h, if_pos (by omega)]); (rw [if_neg h, if_neg (by omega)]))] at r1
        refine ⟨World.ownsRow.kept (by rw [show mB ps k0 (k + 1) k = kx by unfold mB; rw [if_pos (by omega), HKX.out]] at r1; exact r1) G2.out ?_, fun i hi => ?_, (HW.out.trans (Within.setCell wr hlo hg _ _)).trans (Within.of_grown G2.out (fun q hq => ⟨(O2.out.lt q hq).1, HD.out k hlt q (by rw [HDK.out]; exact hq)⟩)), fun q hq hn1 hn2 => ?_⟩
        · right
          rcases nek with h | h
          · rw [h]; simp [Value.ownBlock]
          · exact fun e => h e.symm
        · by_cases e : i = k
          · subst e
            unfold mD
            rw [if_pos (by omega), HDK.out, HKX.out]
            exact O2.out
          · have h1 : Own .u8 5 (wr.setCell ⟨g, k * 2, none⟩ (.int .i64 kx)) lo (dv i) (mD ps k0 k i) := (HI.out i hi).setAt (NE.out i hi)
            have h2 : mD ps k0 (k + 1) i = mD ps k0 k i := by unfold mD; by_cases h : i < k; (rw [if_pos h, if_pos (by omega)]); (rw [if_neg h, if_neg (by omega)])
            rw [h2]
            have ne := HO.out.2.2.1 i k (by rw [HP.out]; exact hi) (by rw [HP.out]; exact hlt) e
            unfold Ne2 at ne
            rw [HDK.out] at ne
            exact h1.other G2.out ne
        · have e1 : (wr.setCell ⟨g, k * 2, none⟩ (.int .i64 kx)).heap[q]? = wr.heap[q]? := Below.heap_setCell _ _ _ _ (fun e => hn1 (by simp [Value.ownBlock, e]))
          rw [G2.out.block q (by have := HW.out.size; simp; omega) (fun e => hn2 k hlt (by rw [HDK.out]; exact e.symm)), e1]
          exact HF.out q hq hn1 hn2
      clear HI HR HW O2 G2
      go_wp2
      go_roundw
      case rel => exact ⟨k + 1, by omega, by go_num, (by rw [HKS.out]), S.out.1, S.out.2.1, S.out.2.2.1, S.out.2.2.2⟩
      case measure => simp [intOf]; omega
    · have hkn : k = n := by omega
      subst hkn
      have FIN : Hid (OwnW 42 wr lo (.slice (some ⟨g, 0, none⟩) k cap) (mkP ps k0) dv ∧ Within lo hi w wr) := by
        refine ⟨⟨?_, fun i hi => ?_, fun i j hi hj => HO.out.2.2.1 i j (by rw [mkP_len] at hi; exact hi) (by rw [mkP_len] at hj; exact hj), fun i hi => HO.out.2.2.2 i (by rw [mkP_len] at hi; exact hi)⟩, hw⟩
        · rw [mkP_len, HP.out, rowW_congr (f' := mB ps k0 k) (g' := dv) (fun i hi => by rw [mkP_B ps k0 i (by rw [HP.out]; exact hi)]; unfold mB; rw [if_pos hi]) (fun _ _ => rfl)]
          exact hr
        · rw [mkP_len, HP.out] at hi
          have := HI.out i hi
          unfold mD at this
          rw [if_pos hi] at this
          rw [mkP_D ps k0 i (by rw [HP.out]; exact hi)]
          exact this
      clear hr hw HI
      go_wp2
      go_ret
      exact ⟨rfl, FIN.out.1, FIN.out.2, HF.out⟩

theorem markWriteS_any (w : World) (lo hi : Nat) (v : Value) (ps : List (Int × List Int)) (dv : Nat → Value) (k0 : Int) (ho : OwnW 42 w lo v ps dv)
    (hg : ∀ g, v.ownBlock = some g → g < hi) (hd : ∀ i, i < ps.length → ∀ q, (dv i).ownBlock = some q → q < hi) (hk0 : 0 ≤ k0) (hk1 : k0 ≤ 4194304) (hn : ps.length ≤ 1048576) (ht : tot ps ≤ 1048576) :
    Calls Try.prog 62 #[v, .int .i64 k0] w fun e w' => e = .returned (.int .i64 (ks ps k0 ps.length)) ∧ OwnW 42 w' lo v (mkP ps k0) dv ∧ Within lo hi w w' ∧ (∀ q, q < w.heap.size → some q ≠ v.ownBlock → (∀ i, i < ps.length → (dv i).ownBlock ≠ some q) → w'.heap[q]? = w.heap[q]?) := by
  rcases ho.1.2 with ⟨rfl, h0⟩ | ⟨g, cap, cur, rfl, _⟩
  · have : ps = [] := List.eq_nil_of_length_eq_zero h0
    subst this
    refine (markWriteS_nil w none 0 k0).mono ?_
    rintro e w' ⟨rfl, rfl⟩
    exact ⟨ret_int (by unfold ks; simp [tot]), ho, Within.refl _ _ _, fun _ _ _ _ => rfl⟩
  · exact markWriteS_row w lo hi g ps.length cap ps dv k0 rfl ho (hg g rfl) hd hk0 hk1 hn ht

set_option maxHeartbeats 1000000 in
set_option maxRecDepth 100000 in
theorem heldWriteS_row (w : World) (b o n cap : Nat) (ps : List (Int × List Int)) (k0 : Int) (hp : ps.length = n)
    (hc : ∀ i, i < n → w.cell? ⟨b, o + i * 2, none⟩ = some (.int .i64 (pB (mkP ps k0) i)) ∧ ∃ da c, w.cell? ⟨b, o + i * 2 + 1, none⟩ = some (.slice da (pD (mkP ps k0) i).length c) ∧ Rd .u8 w (.slice da (pD (mkP ps k0) i).length c) (pD (mkP ps k0) i))
    (hk0 : 0 ≤ k0) (hk1 : k0 ≤ 4194304) (hn : n ≤ 1048576) (ht : tot ps ≤ 1048576) :
    Calls Try.prog 63 #[.slice (some ⟨b, o, none⟩) n cap, .int .i64 k0] w fun e w' => e = .returned (.int .i64 (ks ps k0 n)) ∧ w' = w := by
  have HC : Hid (∀ i, i < n → w.cell? ⟨b, o + i * 2, none⟩ = some (.int .i64 (ks ps k0 i)) ∧ ∃ da c, w.cell? ⟨b, o + i * 2 + 1, none⟩ = some (.slice da (pD ps i).length c) ∧ Rd .u8 w (.slice da (pD ps i).length c) (marks (ks ps k0 i + 1) (pD ps i).length)) := by
    intro i hi
    have := hc i hi
    rw [mkP_B ps k0 i (by omega), mkP_D ps k0 i (by omega), marks_length] at this
    exact this
  have HP : Hid (ps.length = n) := hp
  clear hc hp
  go_enter Try.func63, Try.ntmps63
  go_wp2
  go_loop [1, 5] (fun kk i => ∃ k : Nat, k ≤ n ∧ i = .int .i64 k ∧ kk = .int .i64 (ks ps k0 k)) (fun _ i => n - (intOf i).toNat)
  case atStart => exact ⟨0, Nat.zero_le _, rfl, by unfold ks; simp [tot]⟩
  case round =>
    obtain ⟨k, hk, rfl, rfl⟩ := hrel
    by_cases hlt : k < n
    · have hltI : (k : Int) < (n : Int) := by omega
      obtain ⟨c1, da, dc, c2, r⟩ := HC.out k hlt
      have hb1 := tot_le ps k
      have hkk : 0 ≤ ks ps k0 k ∧ ks ps k0 k ≤ 6291457 := by unfold ks; omega
      have HKS : Hid (ks ps k0 (k + 1) = ks ps k0 k + 1 + (pD ps k).length) := ks_succ ps k0 k (by rw [HP.out]; exact hlt)
      have hlen : (pD ps k).length ≤ 1048576 := by
        have h1 := tot_take_succ ps k (by rw [HP.out]; exact hlt)
        have h2 := tot_le ps (k + 1)
        omega
      have RR : Hid (Rd .u8 w (.slice da (pD ps k).length dc) (marks (ks ps k0 k + 1) (pD ps k).length)) := r
      clear r hb1
      generalize ks ps k0 k = kx at *
      have t : (kx != kx) = false := by simp
      go_wp2_with fail
      refine (heldByteS_any _ _ (pD ps k).length (kx + 1) RR.out (by omega) (by omega) (by omega)).mono ?_
      rintro e w2 ⟨rfl, hw⟩
      subst hw
      have t2 : ¬ kx + 1 + ((pD ps k).length : Int) < 0 := by omega
      go_wp2
      go_round
      case rel => exact ⟨k + 1, by omega, by go_num, (by rw [HKS.out])⟩
      case measure => simp [intOf]; omega
    · have hkn : k = n := by omega
      subst hkn
      go_wp2
      go_ret
      exact ⟨rfl, rfl⟩

theorem heldWriteS_any (w : World) (v : Value) (ps : List (Int × List Int)) (k0 : Int) (h : RdW w v (mkP ps k0)) (hk0 : 0 ≤ k0) (hk1 : k0 ≤ 4194304) (hn : ps.length ≤ 1048576) (ht : tot ps ≤ 1048576) :
    Calls Try.prog 63 #[v, .int .i64 k0] w fun e w' => e = .returned (.int .i64 (ks ps k0 ps.length)) ∧ w' = w := by
  obtain ⟨ao, cap, rfl, k1, k2, k3⟩ := h
  rw [mkP_len] at *
  rcases k3 with h0 | ⟨b, o, rfl, hb, hc⟩
  · have h1 : ps.length = 0 := by have := congrArg List.length h0; rw [mkP_len] at this; simpa using this
    rw [h1]
    refine (heldWriteS_nil w ao cap k0).mono ?_
    rintro e w' ⟨rfl, rfl⟩
    exact ⟨ret_int (by unfold ks; simp [tot]), rfl⟩
  · exact heldWriteS_row w b o ps.length cap ps k0 rfl hc hk0 hk1 hn ht

/-- A disk of the call's own: its bytes in blocks from lo to mid, its records from mid to hi. -/
structure OwnD (w : World) (lo hi : Nat) (vd vp : Value) (dur : List Int) (ps : List (Int × List Int)) (dv : Nat → Value) : Prop where
  d : Own .u8 5 w lo vd dur
  p : OwnW 42 w lo vp ps dv
  dlt : ∀ g, vd.ownBlock = some g → g < hi
  plt : ∀ g, vp.ownBlock = some g → g < hi
  qlt : ∀ i, i < ps.length → ∀ g, (dv i).ownBlock = some g → g < hi
  dp : Ne2 vp vd
  dq : ∀ i, i < ps.length → Ne2 (dv i) vd

theorem OwnD.within {w w' : World} {lo hi l h : Nat} {vd vp : Value} {dur : List Int} {ps : List (Int × List Int)} {dv : Nat → Value} (ho : OwnD w lo hi vd vp dur ps dv) (hw : Within l h w w') (hd : hi ≤ l ∨ h ≤ lo) : OwnD w' lo hi vd vp dur ps dv :=
  ⟨hw.own ho.d (fun g hg => by have := (ho.d.lt g hg).1; have := ho.dlt g hg; omega),
   hw.ownW ho.p (fun g hg => by have := (World.ownsRow.lt ho.p.1 g hg).1; have := ho.plt g hg; omega) (fun i hi g hg => by have := ((ho.p.2.1 i hi).lt g hg).1; have := ho.qlt i hi g hg; omega),
   ho.dlt, ho.plt, ho.qlt, ho.dp, ho.dq⟩
theorem OwnD.below {w w' : World} {lo hi : Nat} {vd vp : Value} {dur : List Int} {ps : List (Int × List Int)} {dv : Nat → Value} (ho : OwnD w lo hi vd vp dur ps dv) (hb : Below w.heap.size w w') : OwnD w' lo hi vd vp dur ps dv :=
  ⟨ho.d.below hb, ho.p.below hb, ho.dlt, ho.plt, ho.qlt, ho.dp, ho.dq⟩

set_option maxHeartbeats 400000 in
theorem markDisk_any (w : World) (lo hi : Nat) (vd vp : Value) (dur : List Int) (ps : List (Int × List Int)) (dv : Nat → Value) (k : Int) (ho : OwnD w lo hi vd vp dur ps dv) (hhi : hi ≤ w.heap.size) (hk0 : 0 ≤ k) (hk1 : k ≤ 2097152) (hl : dur.length ≤ 1048576) (hn : ps.length ≤ 1048576) (ht : tot ps ≤ 1048576) :
    Calls Try.prog 26 #[.agg #[vd, vp], .int .i64 k] w fun e w' => e = .returned (.int .i64 (ks ps (k + dur.length) ps.length)) ∧ OwnD w' lo hi vd vp (marks k dur.length) (mkP ps (k + dur.length)) dv ∧ Within lo hi w w' := by
  have BA : Hid (Below w.heap.size w (w.alloc (.cells #[vd, vp] 32))) := (Below.refl _ _).alloc (Nat.le_refl _) _
  have HO : Hid (OwnD (w.alloc (.cells #[vd, vp] 32)) lo hi vd vp dur ps dv) := ho.below BA.out
  have X0 : Hid (Box2 (w.alloc (.cells #[vd, vp] 32)) w.heap.size vd vp) := Box2.new _ _ _ _
  clear ho
  go_enter Try.func26, Try.ntmps26
  go_wp2_with fail
  generalize w.alloc (.cells #[vd, vp] 32) = w0 at *
  refine (markByteS_any _ lo _ dur k HO.out.d hk0 (by omega) (by omega)).mono ?_
  rintro e w1 ⟨rfl, o1, g1⟩
  have W1 : Hid (Within lo hi w0 w1) := Within.of_grown g1 (fun q hq => ⟨(HO.out.d.lt q hq).1, HO.out.dlt q hq⟩)
  have O1 : Hid (Own .u8 5 w1 lo vd (marks k dur.length)) := o1
  have P1 : Hid (OwnW 42 w1 lo vp ps dv) := ⟨World.ownsRow.kept HO.out.p.1 g1 HO.out.dp, fun i hi => (HO.out.p.2.1 i hi).other g1 (HO.out.dq i hi), HO.out.p.2.2⟩
  have X1 : Hid (Box2 w1 w.heap.size vd vp) := W1.out.box2 X0.out (.inr hhi)
  obtain ⟨z1, c0, c1⟩ := X1.out
  clear o1 g1
  go_wp2_with fail
  refine (markWriteS_any _ lo hi _ ps dv (k + dur.length) P1.out HO.out.plt HO.out.qlt (by omega) (by omega) hn ht).mono ?_
  rintro e w2 ⟨rfl, o2, g2, f2⟩
  have FIN : Hid (OwnD w2 lo hi vd vp (marks k dur.length) (mkP ps (k + dur.length)) dv ∧ Within lo hi w w2) := by
    refine ⟨⟨?_, o2, HO.out.dlt, HO.out.plt, fun i hi => HO.out.qlt i (by rw [mkP_len] at hi; exact hi), HO.out.dp, fun i hi => HO.out.dq i (by rw [mkP_len] at hi; exact hi)⟩, ((Within.of_below BA.out).trans W1.out).trans g2⟩
    refine ⟨O1.out.1, ?_⟩
    rcases O1.out.2 with hn | ⟨g, cap, cur, hv, hbg, hgg, rest⟩
    · exact .inl hn
    · refine .inr ⟨g, cap, cur, hv, hbg, ?_, rest⟩
      have hb : vd.ownBlock = some g := by rw [hv]; rfl
      rw [f2 g (Array.getElem?_eq_some_iff.1 hgg).1 ?_ ?_]
      · exact hgg
      · rcases HO.out.dp with h | h
        · rw [h]; simp
        · rw [← hb]; exact fun e => h e.symm
      · intro i hi
        rcases HO.out.dq i hi with h | h
        · rw [h]; simp
        · rw [← hb]; exact h
  clear o2 g2 f2
  go_wp2
  go_ret
  exact ⟨rfl, FIN.out.1, FIN.out.2⟩

set_option maxHeartbeats 400000 in
theorem heldDisk_any (w : World) (vd vp : Value) (dl : Nat) (ps : List (Int × List Int)) (k : Int) (h : Rd .u8 w vd (marks k dl)) (hp : RdW w vp (mkP ps (k + dl))) (hk0 : 0 ≤ k) (hk1 : k ≤ 2097152) (hl : dl ≤ 1048576) (hn : ps.length ≤ 1048576) (ht : tot ps ≤ 1048576) :
    Calls Try.prog 30 #[.agg #[vd, vp], .int .i64 k] w fun e w' => e = .returned (.int .i64 (ks ps (k + dl) ps.length)) ∧ Below w.heap.size w w' := by
  have BA : Hid (Below w.heap.size w (w.alloc (.cells #[vd, vp] 32))) := (Below.refl _ _).alloc (Nat.le_refl _) _
  have HR : Hid (Rd .u8 (w.alloc (.cells #[vd, vp] 32)) vd (marks k dl)) := h.below BA.out
  have HP : Hid (RdW (w.alloc (.cells #[vd, vp] 32)) vp (mkP ps (k + dl))) := hp.below BA.out
  clear h hp
  go_enter Try.func30, Try.ntmps30
  go_wp2_with fail
  refine (heldByteS_any _ _ dl k HR.out hk0 (by omega) (by omega)).mono ?_
  rintro e w1 ⟨rfl, hw⟩
  subst hw
  have h0 : ¬ (k + (dl : Int)) < 0 := by omega
  go_wp2_with fail
  refine (heldWriteS_any _ _ ps (k + dl) HP.out (by omega) (by omega) hn ht).mono ?_
  rintro e w2 ⟨rfl, hw⟩
  subst hw
  have h1 : ¬ ks ps (k + dl) ps.length < 0 := by unfold ks; omega
  go_wp2
  go_ret
  exact ⟨rfl, BA.out⟩

end Go.Proofs.Ytoljmlhnbmeloaa

namespace Go.Proofs.Ytoljmlhnbmeloaa
open Go.RowKit

set_option maxHeartbeats 400000 in
set_option maxRecDepth 100000 in
theorem l1Copy_row (w : World) (b o n cap : Nat) (xs : List Int) (hx : xs.length = n) (hb : b < w.heap.size) (hc : ∀ i, i < n → w.cell? ⟨b, o + i, none⟩ = some (.int .u8 (xs.getD i 0))) (hn : n ≤ 1099511627776) :
    Calls Try.prog 49 #[.slice (some ⟨b, o, none⟩) n cap] w fun e w' => ∃ v', e = .returned v' ∧ Own .u8 5 w' w.heap.size v' xs ∧ Below w.heap.size w w' := by
  obtain ⟨i0, hi, hz0, hz1, hz2⟩ := info_parts Try.infoB
  have HC : Hid (∀ i, i < n → w.cell? ⟨b, o + i, none⟩ = some (.int .u8 (xs.getD i 0))) := hc
  have HX : Hid (xs.length = n) := hx
  clear hc hx
  go_enter Try.func49, Try.ntmps49
  go_wp2
  go_loopw [3, 4] (fun v i wr => ∃ k : Nat, k ≤ n ∧ i = .int .i64 k ∧ wr.ownsRow w.heap.size 5 1 v k ((xs.take k).map (Value.int .u8)) ∧ Below w.heap.size w wr) (fun _ i _ => n - (intOf i).toNat)
  case atStart => exact ⟨0, Nat.zero_le _, rfl, World.ownsRow_lit w #[] 0 (Nat.le_refl _) (Nat.zero_le _) rfl, (Below.refl _ _).alloc (Nat.le_refl _) _⟩
  case round =>
    obtain ⟨k, hk, rfl, ho, hg⟩ := hrel
    by_cases hlt : k < n
    · have hltI : (k : Int) < (n : Int) := by omega
      have hsrc : wr.cell? ⟨b, o + k, none⟩ = some (.int .u8 (xs.getD k 0)) := (hg.cell (p := ⟨b, o + k, none⟩) hb).trans (HC.out k hlt)
      have HTK : Hid (xs.take (k + 1) = xs.take k ++ [xs.getD k 0]) := take_succ_getD xs k (by rw [HX.out]; exact hlt)
      generalize xs.getD k 0 = x at *
      go_wp2_with (at_builtin; go_must (refine wpList_append_own _ rfl _ _ 29 rfl w.heap.size 5 i0 (.int .u8 0) 1 1 Try.underlying29 hi hz0 hz1 hz2 rfl (by decide) _ _ _ rfl (ho.alloc _) ⟨wr.heap.size, 0, none⟩ 1 1 [.int .u8 x] rfl rfl (cell_one_new _ _ _) (by intro u hu; simp at hu; subst hu; rfl) ?c3 ?c4 ?c5 ?_))
      case c3 => unfold maxLen; omega
      case c4 => omega
      case c5 => have := hg.size; simp; omega
      intro v2 w2 ho2 hg2 _
      have HO2 : Hid (w2.ownsRow w.heap.size 5 1 v2 (k + 1) ((xs.take (k + 1)).map (Value.int .u8))) := by
        show World.ownsRow _ _ _ _ _ _ _; rw [HTK.out, List.map_append, List.map_take]; exact ho2
      have HG2 : Hid (Below w.heap.size w w2) := (hg.alloc (hg.size) _).grown hg2 (by have := hg.size; simp; omega) (fun q hq => (ho.lt q hq).1)
      clear ho2 hg2 ho hg
      go_wp2
      go_roundw
      case rel => exact ⟨k + 1, by omega, by go_num, HO2.out, HG2.out⟩
      case measure => simp [intOf]; omega
    · have hkn : k = n := by omega
      subst hkn
      go_wp2
      go_ret
      exact ⟨_, rfl, own_of (ys := xs) HX.out rfl (by rw [List.take_of_length_le (by rw [HX.out]; exact Nat.le_refl _)] at ho; exact ho), hg⟩

set_option maxHeartbeats 400000 in
theorem l1Copy_nil (w : World) (ao : Option Addr) (cap : Nat) :
    Calls Try.prog 49 #[.slice ao 0 cap] w fun e w' => ∃ v', e = .returned v' ∧ Own .u8 5 w' w.heap.size v' [] ∧ Below w.heap.size w w' := by
  go_enter Try.func49, Try.ntmps49
  go_wp2
  go_rounds 1
  go_ret
  exact ⟨_, rfl, World.ownsRow_lit w #[] 0 (Nat.le_refl _) (Nat.zero_le _) rfl, (Below.refl _ _).alloc (Nat.le_refl _) _⟩

theorem l1Copy_any (w : World) (v : Value) (xs : List Int) (h : Rd .u8 w v xs) (hn : xs.length ≤ 1099511627776) :
    Calls Try.prog 49 #[v] w fun e w' => ∃ v', e = .returned v' ∧ Own .u8 5 w' w.heap.size v' xs ∧ Below w.heap.size w w' := by
  obtain ⟨ao, cap, rfl, h1, h2, h3⟩ := h
  rcases h3 with rfl | ⟨b, o, rfl, hb, hc⟩
  · exact l1Copy_nil w ao cap
  · exact l1Copy_row w b o xs.length cap xs rfl hb hc hn

theorem cells_list {k : IntKind} {w : World} {b o : Nat} {xs : List Int} (hc : ∀ i, i < xs.length → w.cell? ⟨b, o + i, none⟩ = some (.int k (xs.getD i 0))) : ∀ j u, (xs.map (Value.int k))[j]? = some u → w.cell? ((⟨b, o, none⟩ : Addr).add j) = some u := by
  intro j u hu
  have hj : j < xs.length := by have := (List.getElem?_eq_some_iff.1 hu).1; simpa using this
  rw [Addr.add_lit, hc j hj]
  simp [List.getElem?_eq_getElem hj] at hu
  simp [List.getD, hj, hu]

set_option maxHeartbeats 400000 in
set_option maxRecDepth 100000 in
theorem clone_any (w : World) (v : Value) (xs : List Int) (h : Rd .u8 w v xs) (hn : xs.length ≤ 1099511627776) :
    Calls Try.prog 46 #[v] w fun e w' => ∃ v', e = .returned v' ∧ Own .u8 5 w' w.heap.size v' xs ∧ Below w.heap.size w w' := by
  obtain ⟨i0, hi, hz0, hz1, hz2⟩ := info_parts Try.infoB
  obtain ⟨ao, cap, rfl, h1, h2, h3⟩ := h
  have q22 : ∀ (w : World) (a : Option Addr) (n c n' c' : Nat), (binOp .eql 29 (.slice a n c) (.slice none n' c')).run Try.prog w = .ok (.bool a.isNone) w := fun w a n c n' c' => Lib.run_eql_slice_nil w _ _ a n c n' c' Try.underlying29
  have HE : Hid ((w.alloc (.cells #[] 5)).ownsRow w.heap.size 5 1 (.slice (some ⟨w.heap.size, 0, none⟩) 0 0) 0 []) := World.ownsRow_lit w #[] 0 (Nat.le_refl _) (Nat.zero_le _) rfl
  have HB : Hid (Below w.heap.size w (w.alloc (.cells #[] 5))) := (Below.refl _ _).alloc (Nat.le_refl _) _
  cases ao with
  | none =>
    have hx : xs = [] := by
      rcases h3 with h3 | ⟨b, o, e, _⟩
      · exact h3
      · cases e
    subst hx
    clear h3
    go_enter Try.func46, Try.ntmps46
    go_wp2
    go_ret
    exact ⟨_, rfl, World.ownsRow_nil _ _ _ _, Below.refl _ _⟩
  | some a =>
    have hcs : ∀ j u, (xs.map (Value.int .u8))[j]? = some u → (w.alloc (.cells #[] 5)).cell? (a.add j) = some u := by
      rcases h3 with rfl | ⟨b, o, e, hb, hc⟩
      · intro j u hu; simp at hu
      · injection e with e
        subst e
        exact cells_list (fun i hi => (HB.out.cell (p := ⟨b, o + i, none⟩) hb).trans (hc i hi))
    have HCS : Hid (∀ j u, (xs.map (Value.int .u8))[j]? = some u → (w.alloc (.cells #[] 5)).cell? (a.add j) = some u) := hcs
    clear h3 hcs
    go_enter Try.func46, Try.ntmps46
    go_wp2_with (at_builtin; go_must (refine wpList_append_own _ rfl _ _ 29 rfl w.heap.size 5 i0 (.int .u8 0) 1 1 Try.underlying29 hi hz0 hz1 hz2 rfl (by decide) _ _ _ rfl HE.out a xs.length cap (xs.map (Value.int .u8)) rfl ?c0 HCS.out (ints_oneCell _ _) ?c3 ?c4 ?c5 ?_))
    case c0 => simp
    case c3 => unfold maxLen; omega
    case c4 => omega
    case c5 => simp
    intro v2 w2 ho2 hg2 _
    have HO2 : Hid (Own .u8 5 w2 w.heap.size v2 xs) := by
      exact ho2
    have HG2 : Hid (Below w.heap.size w w2) := HB.out.grown hg2 (by simp) (by intro q hq; simp [Value.ownBlock] at hq; omega)
    clear ho2 hg2
    go_wp2
    go_ret
    exact ⟨_, rfl, HO2.out, HG2.out⟩

/-! ### appends inside a region that draws -/
theorem step_fits {P : Program} {ops : Array Oper} {o : Oper} {a : Act} {w : World} {K : Act → World → Prop} {Q : Exit → Act → World → Prop} {E : Prop}
    (hg : o.guard = none) (s x : Operand) (t : TypeId) (hop : o.op = Op.call { callee := Callee.builtin Builtin.append, args := #[s, x], argTypes := #[t, t] })
    (base : Nat) (e : TypeId) (i : TypeInfo) (size : Nat) (h1 : P.underlying t = some (.slice e)) (h2 : P.info? e = some i) (h4 : i.size = size)
    (g k cap : Nat) (xs : List Value) (hs : a.eval s = .slice (some ⟨g, 0, none⟩) k cap) (hown : w.ownsRow base e size (.slice (some ⟨g, 0, none⟩) k cap) k xs) (ad : Addr) (m c : Nat) (news : List Value) (hx : a.eval x = .slice (some ad) m c) (hn : news.length = m * size)
    (hc : ∀ j u, news[j]? = some u → w.cell? (ad.add j) = some u) (h1c : ∀ u ∈ news, u.oneCell' = true) (b1 : k + m ≤ cap)
    (hK : ∀ w', w'.ownsRow base e size (.slice (some ⟨g, 0, none⟩) (k + m) cap) (k + m) (xs ++ news) → w.grownBy w' (some g) → K (a.put o.dst (.slice (some ⟨g, 0, none⟩) (k + m) cap)) w') :
    if Region.wanted o (yielded ops a.tmps) = true then Oper.wp P o a w K Q else E := by
  have hw : Region.wanted o (yielded ops a.tmps) = true := by simp [Region.wanted, hg]
  rw [if_pos hw]
  obtain ⟨w', hrun, r1, r2⟩ := run_append_fits (P := P) w base t o.type e i size h1 h2 h4 g k cap xs hown ad m c news hn hc h1c b1
  unfold Oper.wp
  simp [execOp, hop, resolve, invoke, builtin, hs, hx, hrun, Result.andThen]
  exact hK w' r1 r2

theorem step_own {P : Program} {ops : Array Oper} {o : Oper} {a : Act} {w : World} {K : Act → World → Prop} {Q : Exit → Act → World → Prop} {E : Prop}
    (hg : o.guard = none) (s x : Operand) (t : TypeId) (hop : o.op = Op.call { callee := Callee.builtin Builtin.append, args := #[s, x], argTypes := #[t, t] })
    (base : Nat) (e : TypeId) (i : TypeInfo) (z : Value) (size bytes : Nat) (h1 : P.underlying t = some (.slice e)) (h2 : P.info? e = some i) (h3 : i.zero = some z) (h4 : i.size = size) (h5 : i.bytes = bytes) (h6 : z.cells.size = size) (h7 : 0 < size)
    (v : Value) (n : Nat) (xs : List Value) (hs : a.eval s = v) (hown : w.ownsRow base e size v n xs) (ad : Addr) (m c : Nat) (news : List Value) (hx : a.eval x = .slice (some ad) m c) (hn : news.length = m * size)
    (hc : ∀ j u, news[j]? = some u → w.cell? (ad.add j) = some u) (h1c : ∀ u ∈ news, u.oneCell' = true) (b1 : n + m ≤ maxLen) (b2 : (n + m) * bytes ≤ 140737488355328) (hb : base ≤ w.heap.size)
    (hK : ∀ v' w', w'.ownsRow base e size v' (n + m) (xs ++ news) → w.grownBy w' v.ownBlock → K (a.put o.dst v') w') :
    if Region.wanted o (yielded ops a.tmps) = true then Oper.wp P o a w K Q else E := by
  have hw : Region.wanted o (yielded ops a.tmps) = true := by simp [Region.wanted, hg]
  rw [if_pos hw]
  obtain ⟨v', w', hrun, r1, r2, _⟩ := run_append_own (P := P) w base t o.type e i z size bytes h1 h2 h3 h4 h5 h6 h7 v n xs hown ad m c news hn hc h1c b1 b2 hb
  unfold Oper.wp
  simp [execOp, hop, resolve, invoke, builtin, hs, hx, hrun, Result.andThen]
  exact hK v' w' r1 r2

end Go.Proofs.Ytoljmlhnbmeloaa

namespace Go.Proofs.Ytoljmlhnbmeloaa
open Go.RowKit

/-- A drawn block. -/
def Sr.fill (s : Sr) : List Int × Sr :=
  ((List.replicate 64 ((1 + (s.next 255).1 : Nat) : Int)).set ((s.next 255).2.next 64).1 ((((s.next 255).2.next 64).2.next 256).1 : Int), (((s.next 255).2.next 64).2.next 256).2)
theorem Sr.fill_len (s : Sr) : s.fill.1.length = 64 := by simp [Sr.fill]

theorem rowTch {w w' : World} {lo k m n : Nat} {e : TypeId} {v : Value} {us : List Value} (h : w.ownsRow lo e m v n us) (t : Tch k w w') (hk : k < lo) : w'.ownsRow lo e m v n us := by
  refine ⟨h.1, ?_⟩
  rcases h.2 with hn | ⟨g, cap, cur, rfl, hbg, hgg, rest⟩
  · exact .inl hn
  · exact .inr ⟨g, cap, cur, rfl, hbg, (t.2 g (by omega) (Array.getElem?_eq_some_iff.1 hgg).1).trans hgg, rest⟩
theorem Own.tch {c : IntKind} {w w' : World} {lo k : Nat} {e : TypeId} {v : Value} {xs : List Int} (h : Own c e w lo v xs) (t : Tch k w w') (hk : k < lo) : Own c e w' lo v xs := rowTch h t hk
theorem replicate_snoc (n : Nat) (x : Int) : List.replicate (n + 1) x = List.replicate n x ++ [x] := List.replicate_succ'

set_option maxHeartbeats 1000000 in
set_option maxRecDepth 100000 in
theorem fill_x (W : World) (k B : Nat) (s : Sr) (h : SRX W k B s) :
    Calls Try.prog 42 #[.pointer (some ⟨k, 0, none⟩)] W fun e w' => ∃ v', e = .returned v' ∧ Own .u8 5 w' W.heap.size v' s.fill.1 ∧ SRX w' k B s.fill.2 ∧ Tch k W w' := by
  obtain ⟨i0, hi, hz0, hz1, hz2⟩ := info_parts Try.infoB
  have HS : Hid (SRX W k B s) := h
  clear h
  go_enter Try.func42, Try.ntmps42
  go_wp2_with fail
  refine (next_x _ k B 255 s HS.out (by omega)).mono ?_
  rintro e w1 ⟨rfl, s1, t1⟩
  have hn1 := s.next_lt 255 (by omega)
  have HF : Hid (s.fill = ((List.replicate 64 ((1 + (s.next 255).1 : Nat) : Int)).set ((s.next 255).2.next 64).1 ((((s.next 255).2.next 64).2.next 256).1 : Int), (((s.next 255).2.next 64).2.next 256).2)) := rfl
  generalize (s.next 255).2 = s2 at *
  generalize (s.next 255).1 = n1 at *
  have S1 : Hid (SRX w1 k B s2) := s1
  have T1 : Hid (Tch k W w1) := t1
  clear s1 t1 HS
  have z1 := T1.out.size
  have hkB := S1.out.kB
  have hBz := S1.out.lt
  go_wp2
  go_loopw [4, 5] (fun v i wr => ∃ j : Nat, j ≤ 64 ∧ i = .int .i64 j ∧ Hid (wr.ownsRow w1.heap.size 5 1 v j ((List.replicate j (1 + (n1 : Int))).map (Value.int .u8))) ∧ Hid (Below w1.heap.size w1 wr)) (fun _ i _ => 64 - (intOf i).toNat)
  case atStart => exact ⟨0, Nat.zero_le _, rfl, World.ownsRow_lit w1 #[] 0 (Nat.le_refl _) (Nat.zero_le _) rfl, (Below.refl _ _).alloc (Nat.le_refl _) _⟩
  case round =>
    obtain ⟨j, hj, rfl, HO, HG⟩ := hrel
    by_cases hlt : j < 64
    · have hltI : (j : Int) < 64 := by omega
      go_wp2_with (at_builtin; go_must (refine wpList_append_own _ rfl _ _ 29 rfl w1.heap.size 5 i0 (.int .u8 0) 1 1 Try.underlying29 hi hz0 hz1 hz2 rfl (by decide) _ _ _ rfl (HO.out.alloc _) ⟨wr.heap.size, 0, none⟩ 1 1 [.int .u8 (1 + (n1 : Int))] rfl rfl (cell_one_new _ _ _) (by intro u hu; simp at hu; subst hu; rfl) ?c3 ?c4 ?c5 ?_))
      case c3 => unfold maxLen; omega
      case c4 => omega
      case c5 => have := HG.out.size; simp; omega
      intro v2 w2 ho2 hg2 _
      have HO2 : Hid (w2.ownsRow w1.heap.size 5 1 v2 (j + 1) ((List.replicate (j + 1) (1 + (n1 : Int))).map (Value.int .u8))) := by
        show World.ownsRow _ _ _ _ _ _ _; rw [replicate_snoc, List.map_append, List.map_replicate]; exact ho2
      have HG2 : Hid (Below w1.heap.size w1 w2) := (HG.out.alloc (HG.out.size) _).grown hg2 (by have := HG.out.size; simp; omega) (fun q hq => (HO.out.lt q hq).1)
      clear ho2 hg2 HO HG
      go_wp2
      exact ⟨⟨j + 1, by omega, by go_num, HO2, HG2⟩, by simp [intOf]; omega⟩
    · have hjn : j = 64 := by omega
      subst hjn
      have S2 : Hid (SRX wr k B s2) := S1.out.keep (HG.out.mono hBz)
      have T2 : Hid (Tch k W wr) := T1.out.then (HG.out.mono z1)
      have zz := HG.out.size
      clear S1 T1 HG
      go_wp2_with fail
      refine (next_x _ k B 64 s2 S2.out (by omega)).mono ?_
      rintro e w3 ⟨rfl, s3, t3⟩
      have hn2 := s2.next_lt 64 (by omega)
      generalize (s2.next 64).2 = r3 at *
      generalize (s2.next 64).1 = n2 at *
      have S3 : Hid (SRX w3 k B r3) := s3
      have T3 : Hid (Tch k W w3) := T2.out.trans t3
      have O3 := rowTch HO.out t3 (by omega)
      have z3 := t3.size
      clear s3 t3 S2 T2 HO
      go_wp2_with fail
      refine (next_x _ k B 256 r3 S3.out (by omega)).mono ?_
      rintro e w4 ⟨rfl, s4, t4⟩
      have hn3 := r3.next_lt 256 (by omega)
      generalize (r3.next 256).2 = r4 at *
      generalize (r3.next 256).1 = n3 at *
      have S4 : Hid (SRX w4 k B r4) := s4
      have T4 : Hid (Tch k W w4) := T3.out.trans t4
      have O4 := rowTch O3 t4 (by omega)
      have z4 := t4.size
      clear s4 t4 S3 T3 O3
      obtain ⟨g, c, hv⟩ := rowXs O4 (by omega)
      subst hv
      have hgl := World.ownsRow.lt O4 g rfl
      have cg := World.ownsRow.cellAt O4 n2 (by omega)
      obtain ⟨O5, G5⟩ := World.ownsRow.stored O4 n2 (.int .u8 (n3 : Int))
      have B5 : Hid (Below w1.heap.size w4 (w4.setCell ⟨g, n2, none⟩ (.int .u8 (n3 : Int)))) := (Below.refl _ _).setCell hgl.1 _
      have HO5 : Hid (Own .u8 5 (w4.setCell ⟨g, n2, none⟩ (.int .u8 (n3 : Int))) W.heap.size (.slice (some ⟨g, 0, none⟩) 64 c) ((List.replicate 64 ((1 + n1 : Nat) : Int)).set n2 (n3 : Int))) := by
        refine Own.mono ?_ z1
        show World.ownsRow _ _ _ _ _ _ _
        rw [List.length_set, List.length_replicate, List.map_set]
        exact O5
      have FR := World.ownsRow.frozenAt O4 n2
      clear O5 G5
      go_wp2
      go_ret
      rw [HF.out]
      exact ⟨_, rfl, HO5.out, S4.out.keep (B5.out.mono (by omega)), T4.out.then (B5.out.mono (by omega))⟩

end Go.Proofs.Ytoljmlhnbmeloaa

namespace Go.Proofs.Ytoljmlhnbmeloaa
open Go.RowKit

theorem rowW_snoc (k : Nat) (ps : List (Int × List Int)) (dv : Nat → Value) (v : Value) : rowW (k + 1) (pB ps) (dvSet dv k v) = rowW k (pB ps) dv ++ [.int .i64 (pB ps k), v] := by
  rw [rowW_succ]
  congr 1
  · exact rowW_congr (fun _ _ => rfl) (fun i hi => by unfold dvSet; rw [if_neg (by omega)])
  · unfold dvSet; rw [if_pos rfl]

/-- A local struct of two cells that may be written. -/
def BoxF (w : World) (b : Nat) (x y : Value) : Prop := Box2 w b x y ∧ w.frozen? ⟨b, 0, none⟩ = false ∧ w.frozen? ⟨b, 1, none⟩ = false
theorem BoxF.below {w w' : World} {b : Nat} {x y : Value} (h : BoxF w b x y) (hb : Below w.heap.size w w') : BoxF w' b x y :=
  ⟨h.1.below hb, (hb.frozen (p := ⟨b, 0, none⟩) h.1.1).trans h.2.1, (hb.frozen (p := ⟨b, 1, none⟩) h.1.1).trans h.2.2⟩
theorem BoxF.new (w : World) (x y : Value) (t : TypeId) : BoxF (w.alloc (.cells #[x, y] t)) w.heap.size x y := ⟨Box2.new _ _ _ _, by simp, by simp⟩
theorem BoxF.belowB {w w' : World} {b B : Nat} {x y : Value} (h : BoxF w b x y) (hb : Below B w w') (hB : b < B) : BoxF w' b x y :=
  ⟨⟨Nat.lt_of_lt_of_le h.1.1 hb.size, (hb.cell (p := ⟨b, 0, none⟩) hB).trans h.1.2.1, (hb.cell (p := ⟨b, 1, none⟩) hB).trans h.1.2.2⟩, (hb.frozen (p := ⟨b, 0, none⟩) hB).trans h.2.1, (hb.frozen (p := ⟨b, 1, none⟩) hB).trans h.2.2⟩

theorem RdW.recAt {w : World} {ao : Option Addr} {n cap k : Nat} {ps : List (Int × List Int)} (h : RdW w (.slice ao n cap) ps) (hl : ps.length = n) (hk : k < n) : ∃ b o, ao = some ⟨b, o, none⟩ ∧ b < w.heap.size ∧
    w.cell? ⟨b, o + k * 2, none⟩ = some (.int .i64 (pB ps k)) ∧ ∃ da c, w.cell? ⟨b, o + k * 2 + 1, none⟩ = some (.slice da (pD ps k).length c) ∧ Rd .u8 w (.slice da (pD ps k).length c) (pD ps k) := by
  obtain ⟨ao', cap', e, h1, h2, h3⟩ := h
  simp only [Value.slice.injEq] at e
  obtain ⟨rfl, _, rfl⟩ := e
  rcases h3 with rfl | ⟨b, o, rfl, hb, hc⟩
  · simp at hl; omega
  · obtain ⟨c1, da, c, c2, r⟩ := hc k (by omega)
    exact ⟨b, o, rfl, hb, c1, da, c, c2, r⟩

/-- What the rounds of a copy have made so far. -/
def Made (w : World) (lo g k cap : Nat) (ps : List (Int × List Int)) (dv : Nat → Value) : Prop :=
  w.ownsRow lo 42 2 (.slice (some ⟨g, 0, none⟩) k cap) k (rowW k (pB ps) dv) ∧ (∀ i, i < k → Own .u8 5 w (g + 1) (dv i) (pD ps i)) ∧ (∀ i j, i < k → j < k → i ≠ j → Ne2 (dv i) (dv j))

theorem Own.none_or {k : IntKind} {e : TypeId} {w : World} {base B : Nat} {v : Value} {xs : List Int} (h : Own k e w base v xs) (hB : B < base) : v.ownBlock = none ∨ v.ownBlock ≠ some B := by
  cases hv : v.ownBlock with
  | none => exact .inl rfl
  | some q => have := (h.lt q hv).1; exact .inr (by simp; omega)

theorem Made.below {w w' : World} {lo g k cap : Nat} {ps : List (Int × List Int)} {dv : Nat → Value} (h : Made w lo g k cap ps dv) (hb : Below w.heap.size w w') : Made w' lo g k cap ps dv :=
  ⟨World.ownsRow.kept h.1 (row := none) ⟨hb.os, hb.tape, hb.output, hb.size, fun q hq _ => hb.block q hq⟩ (.inr (by simp [Value.ownBlock])), fun i hi => (h.2.1 i hi).below hb, h.2.2⟩

theorem made_step {wr w' w4 : World} {lo g k cap : Nat} {ps : List (Int × List Int)} {dv : Nat → Value} {v : Value} {ob : Obj} (hm : Made wr lo g k cap ps dv) (hgr : g < wr.heap.size) (bw : Below wr.heap.size wr w') (o' : Own .u8 5 w' wr.heap.size v (pD ps k))
    (ho4 : w4.ownsRow lo 42 2 (.slice (some ⟨g, 0, none⟩) (k + 1) cap) (k + 1) (rowW k (pB ps) dv ++ [.int .i64 (pB ps k), v])) (hg4 : (w'.alloc ob).grownBy w4 (some g)) : Made w4 lo g (k + 1) cap ps (dvSet dv k v) := by
  have G : w'.grownBy w4 (some g) := World.grownBy.trans (World.grownBy_alloc w' ob (some g)) hg4
  refine ⟨by rw [rowW_snoc]; exact ho4, fun i hi => ?_, fun i j hi hj hne => ?_⟩
  · unfold dvSet
    by_cases e : i = k
    · subst e
      rw [if_pos rfl]
      exact (o'.mono (by omega)).other G ((o'.mono (base' := g + 1) (by omega)).none_or (by omega))
    · rw [if_neg e]
      have h1 := hm.2.1 i (by omega)
      exact (h1.below bw).other G (h1.none_or (by omega))
  · unfold dvSet Ne2
    by_cases e : i = k
    · by_cases e' : j = k
      · omega
      · rw [if_pos e, if_neg e']
        cases hv : v.ownBlock with
        | none => exact .inl rfl
        | some q =>
          right; intro hq
          have := (o'.lt q hv).1; have := ((hm.2.1 j (by omega)).lt q hq.symm).2; omega
    · by_cases e' : j = k
      · rw [if_neg e, if_pos e']
        cases hv : (dv i).ownBlock with
        | none => exact .inl rfl
        | some q =>
          right; intro hq
          have := (o'.lt q hq.symm).1; have := ((hm.2.1 i (by omega)).lt q hv).2; omega
      · rw [if_neg e, if_neg e']
        exact hm.2.2 i j (by omega) (by omega) hne

theorem OwnD.mono {w : World} {lo lo' hi hi' : Nat} {vd vp : Value} {dur : List Int} {ps : List (Int × List Int)} {dv : Nat → Value} (ho : OwnD w lo hi vd vp dur ps dv) (hl : lo' ≤ lo) (hh : hi ≤ hi') : OwnD w lo' hi' vd vp dur ps dv :=
  ⟨ho.d.mono hl, ho.p.mono hl, fun g hg => Nat.lt_of_lt_of_le (ho.dlt g hg) hh, fun g hg => Nat.lt_of_lt_of_le (ho.plt g hg) hh, fun i hi g hg => Nat.lt_of_lt_of_le (ho.qlt i hi g hg) hh, ho.dp, ho.dq⟩

theorem made_ownD {w6 w7 : World} {lo g k cap : Nat} {vd : Value} {dur : List Int} {ps : List (Int × List Int)} {dv : Nat → Value} (hm : Made w6 lo g k cap ps dv) (hl : ps.length = k) (hb : Below w6.heap.size w6 w7) (hd : Own .u8 5 w7 w6.heap.size vd dur) (hlo : lo ≤ g) :
    OwnD w7 lo w7.heap.size vd (.slice (some ⟨g, 0, none⟩) k cap) dur ps dv := by
  subst hl
  have m7 := hm.below hb
  have hg6 := (World.ownsRow.lt hm.1 g rfl).2
  refine ⟨hd.mono (by omega), ⟨m7.1, fun i hi => (m7.2.1 i hi).mono (by omega), m7.2.2, fun i hi => ?_⟩, fun g hg => (hd.lt g hg).2, fun g' hg => (World.ownsRow.lt m7.1 g' hg).2, fun i hi g hg => ((m7.2.1 i hi).lt g hg).2, ?_, fun i hi => ?_⟩
  · exact (hm.2.1 i hi).none_or (B := g) (by omega)
  · right
    intro e
    have := (hd.lt g e.symm).1
    omega
  · cases hv : (dv i).ownBlock with
    | none => exact .inl hv
    | some q =>
      right; intro e
      rw [hv] at e
      have := (hd.lt q e.symm).1; have := ((hm.2.1 i hi).lt q hv).2; omega

theorem pB_app (ps : List (Int × List Int)) (p : Int × List Int) (i : Nat) (h : i < ps.length) : pB (ps ++ [p]) i = pB ps i := by unfold pB; simp [List.getD, List.getElem?_append_left h]
theorem pD_app (ps : List (Int × List Int)) (p : Int × List Int) (i : Nat) (h : i < ps.length) : pD (ps ++ [p]) i = pD ps i := by unfold pD; simp [List.getD, List.getElem?_append_left h]
theorem pB_last (ps : List (Int × List Int)) (p : Int × List Int) : pB (ps ++ [p]) ps.length = p.1 := by unfold pB; simp [List.getD]
theorem pD_last (ps : List (Int × List Int)) (p : Int × List Int) : pD (ps ++ [p]) ps.length = p.2 := by unfold pD; simp [List.getD]

theorem ownD_nil (w : World) (lo hi : Nat) : OwnD w lo hi (.slice none 0 0) (.slice none 0 0) [] [] (fun _ => .slice none 0 0) :=
  ⟨World.ownsRow_nil _ _ _ _, ⟨World.ownsRow_nil _ _ _ _, fun i hi => by simp at hi, fun i j hi => by simp at hi, fun i hi => by simp at hi⟩, fun g hg => by simp [Value.ownBlock] at hg, fun g hg => by simp [Value.ownBlock] at hg, fun i hi => by simp at hi, .inl rfl, fun i hi => by simp at hi⟩

/-- May the write be made? -/
def wrOk (dl : Nat) (ps : List (Int × List Int)) (x : Int) (m : Nat) : Bool := vldD dl ps && decide (ps.length < 2000) && decide (0 ≤ x ∧ x < ((dl / 64 : Nat) : Int)) && decide (m = 64)
def wrDur (dur : List Int) (ps : List (Int × List Int)) (x : Int) (xs : List Int) : List Int := if wrOk dur.length ps x xs.length then dur else []
def wrPend (dur : List Int) (ps : List (Int × List Int)) (x : Int) (xs : List Int) : List (Int × List Int) := if wrOk dur.length ps x xs.length then ps ++ [(x, xs)] else []

end Go.Proofs.Ytoljmlhnbmeloaa

namespace Go.Proofs.Ytoljmlhnbmeloaa
open Go.RowKit

set_option maxHeartbeats 1000000 in
set_option maxRecDepth 100000 in
theorem copyDisk_row (w : World) (va vb : Option Addr) (dl ca n cb : Nat) (dur : List Int) (ps : List (Int × List Int)) (hd : Rd .u8 w (.slice va dl ca) dur) (hdl : dur.length = dl) (hp : RdW w (.slice vb n cb) ps) (hl : ps.length = n)
    (hn : n ≤ 1048576) (hd1 : dl ≤ 1048576) (hpd : ∀ i, (pD ps i).length ≤ 1048576) :
    Calls Try.prog 45 #[.agg #[.slice va dl ca, .slice vb n cb]] w fun e w' => ∃ a c g dv, e = .returned (.agg #[.slice a dl c, .slice (some ⟨g, 0, none⟩) n (n + 1)]) ∧ OwnD w' w.heap.size w'.heap.size (.slice a dl c) (.slice (some ⟨g, 0, none⟩) n (n + 1)) dur ps dv ∧ Below w.heap.size w w' := by
  obtain ⟨i0, hi, hz0, hz1, hz2⟩ := info_parts Try.infoW
  have HD : Hid (Rd .u8 w (.slice va dl ca) dur) := hd
  have HP : Hid (RdW w (.slice vb n cb) ps) := hp
  have HL : Hid (ps.length = n) := hl
  have HDL : Hid (dur.length = dl) := hdl
  have HPD : Hid (∀ i, (pD ps i).length ≤ 1048576) := hpd
  have BA : Hid (∀ o1 o2, Below w.heap.size w ((w.alloc o1).alloc o2)) := fun o1 o2 => ((Below.refl _ _).alloc (Nat.le_refl _) _).alloc (by simp) _
  clear hd hp hl hdl hpd
  go_enter Try.func45, Try.ntmps45
  go_wp2_with (at_make; go_must (refine wpList_make_own _ rfl _ _ 30 rfl (w.heap.size + 2) 42 i0 (.agg #[.int .i64 0, .slice none 0 0]) 2 Try.underlying30 hi hz0 hz1 _ _ _ (n + 1) rfl rfl ?b1 ?b2 ?b3 ?b4 ?_))
  case b1 => omega
  case b2 => rw [hz2]; omega
  case b3 => unfold maxLen; omega
  case b4 => simp
  intro w3 hown hgrow
  have XA2 : Hid (BoxF ((w.alloc (.cells #[.slice va dl ca, .slice vb n cb] 32)).alloc (.cells #[.slice none 0 0, .slice none 0 0] 32)) w.heap.size (.slice va dl ca) (.slice vb n cb)) := (BoxF.new w _ _ _).below ((Below.refl _ _).alloc (Nat.le_refl _) _)
  have XR2 : Hid (BoxF ((w.alloc (.cells #[.slice va dl ca, .slice vb n cb] 32)).alloc (.cells #[.slice none 0 0, .slice none 0 0] 32)) (w.heap.size + 1) (.slice none 0 0) (.slice none 0 0)) := by
    have := BoxF.new (w.alloc (.cells #[.slice va dl ca, .slice vb n cb] 32)) (.slice none 0 0) (.slice none 0 0) 32
    show BoxF _ _ _ _
    simpa using this
  have HB2 : Hid (Below w.heap.size w ((w.alloc (.cells #[.slice va dl ca, .slice vb n cb] 32)).alloc (.cells #[.slice none 0 0, .slice none 0 0] 32))) := BA.out _ _
  clear BA
  have hs2 : ((w.alloc (.cells #[.slice va dl ca, .slice vb n cb] 32)).alloc (.cells #[.slice none 0 0, .slice none 0 0] 32)).heap.size = w.heap.size + 2 := by simp
  generalize (w.alloc (.cells #[.slice va dl ca, .slice vb n cb] 32)).alloc (.cells #[.slice none 0 0, .slice none 0 0] 32) = w2 at *
  rw [show w.heap.size + 1 + 1 = w2.heap.size by omega] at hown
  have HS2 : Hid (w2.heap.size = w.heap.size + 2) := hs2
  clear hs2
  have s2 := HB2.out.size
  obtain ⟨⟨z1, c0, c1⟩, -⟩ := XA2.out
  have zr := XR2.out.1.1
  have B3 : Hid (Below w2.heap.size w2 w3) := (Below.refl _ _).grown hgrow (Nat.le_refl _) (by simp)
  have M3 : Hid (Made w3 w2.heap.size w2.heap.size 0 (n + 1) ps (fun _ => .slice none 0 0)) := ⟨hown, fun i hi => by omega, fun i j hi => by omega⟩
  have c03 := (B3.out.cell (p := ⟨w.heap.size, 0, none⟩) z1).trans c0
  have c13 := (B3.out.cell (p := ⟨w.heap.size, 1, none⟩) z1).trans c1
  clear hown hgrow c0 c1
  go_wp2
  clear c03 c13
  go_loopw [3, 14] (fun v i wr => ∃ (k : Nat) (dv : Nat → Value), k ≤ n ∧ i = .int .i64 k ∧ v = .slice (some ⟨w2.heap.size, 0, none⟩) k (n + 1) ∧ Hid (Made wr w2.heap.size w2.heap.size k (n + 1) ps dv) ∧ Below w2.heap.size w2 wr) (fun _ i _ => n - (intOf i).toNat)
  case atStart => exact ⟨0, _, Nat.zero_le _, rfl, by rw [HS2.out], M3, B3.out⟩
  case round =>
    clear M3 B3
    obtain ⟨k, dv, hk, rfl, rfl, HM, hg⟩ := hrel
    by_cases hlt : k < n
    · obtain ⟨b, o, rfl, hb, e1, da, dc, e2, r⟩ := HP.out.recAt HL.out hlt
      have BW : Hid (Below w.heap.size w wr) := HB2.out.trans (hg.mono s2)
      have e1' := (BW.out.cell (p := ⟨b, o + k * 2, none⟩) hb).trans e1
      have e2' := (BW.out.cell (p := ⟨b, o + k * 2 + 1, none⟩) hb).trans e2
      have RK : Hid (Rd .u8 wr (.slice da (pD ps k).length dc) (pD ps k)) := r.below BW.out
      have HG : Hid (Below w2.heap.size w2 wr) := hg
      have sg := hg.size
      have hltI : (k : Int) < (n : Int) := by omega
      clear e1 e2 r hg
      have hpk := HPD.out k
      go_wp2_with fail
      have BAl : Below wr.heap.size wr (wr.alloc (.cells #[.int .i64 (pB ps k), .slice da (pD ps k).length dc] 42)) := (Below.refl _ _).alloc (Nat.le_refl _) _
      have HCL : Hid (Calls Try.prog 46 #[.slice da (pD ps k).length dc] (wr.alloc (.cells #[.int .i64 (pB ps k), .slice da (pD ps k).length dc] 42)).drew fun e w' => ∃ a c, e = .returned (.slice a (pD ps k).length c) ∧ Hid (Own .u8 5 w' (wr.heap.size + 1) (.slice a (pD ps k).length c) (pD ps k)) ∧
          w'.cell? ⟨wr.heap.size, 0, none⟩ = some (.int .i64 (pB ps k)) ∧ w'.cell? ⟨wr.heap.size, 1, none⟩ = some (.slice da (pD ps k).length dc) ∧ Hid (Below wr.heap.size wr w')) := by
        refine (clone_any _ _ (pD ps k) ((RK.out.below BAl).drewN 1) (by omega)).mono ?_
        rintro e w' ⟨v', rfl, o', b'⟩
        obtain ⟨a, c, rfl⟩ := o'.slice
        have b2 : Below (wr.alloc (.cells #[.int .i64 (pB ps k), .slice da (pD ps k).length dc] 42)).heap.size (wr.alloc (.cells #[.int .i64 (pB ps k), .slice da (pD ps k).length dc] 42)) w' := (below_drewN' _ 1).trans b'
        have X := (Box2.new wr (.int .i64 (pB ps k)) (.slice da (pD ps k).length dc) 42).below b2
        exact ⟨a, c, rfl, by have := o'; simp at this; exact this, X.2.1, X.2.2, BAl.trans (b2.mono (by simp))⟩
      have HOW : Hid (∀ W', Below wr.heap.size wr W' → W'.ownsRow w2.heap.size 42 2 (.slice (some ⟨w2.heap.size, 0, none⟩) k (n + 1)) k (rowW k (pB ps) dv)) := fun W' hW' =>
        World.ownsRow.kept HM.out.1 (row := none) ⟨hW'.os, hW'.tape, hW'.output, hW'.size, fun q hq _ => hW'.block q hq⟩ (.inr (by simp [Value.ownBlock]))
      clear BAl e1' e2'
      go_region_law (first | (refine step_fits rfl _ _ 30 rfl w2.heap.size 42 i0 2 Try.underlying30 hi hz1 w2.heap.size k (n + 1) _ rfl ((HOW.out _ bw.out).alloc _) ⟨w'.heap.size, 0, none⟩ 1 1 [.int .i64 (pB ps k), .slice a (pD ps k).length c] rfl rfl (cell_two_new _ _ _ _) (by intro u hu; simp at hu; rcases hu with rfl | rfl <;> rfl) (by omega) ?_; intro w4 ho4 hg4) | (go_simp; go_at_call 46; refine HCL.out.mono ?_; rintro e w' ⟨a, c, rfl, o', k0, k1, bw⟩))
      all_goals
        have HM4 : Hid (Made w4 w2.heap.size w2.heap.size (k + 1) (n + 1) ps (dvSet dv k (.slice a (pD ps k).length c))) := by
          refine made_step HM.out (World.ownsRow.lt HM.out.1 _ rfl).2 bw.out ?_ ?_ hg4
          · exact o'.out.mono (by omega)
          · exact ho4
        have HG4 : Hid (Below w2.heap.size w2 w4) := ((HG.out.trans (bw.out.mono sg)).alloc (by have := bw.out.size; omega) _).grown hg4 (by have := bw.out.size; simp; omega) (by intro q hq; simp at hq; omega)
        clear ho4 hg4 o' k0 k1 bw HCL HOW HM HG
        go_wp2
        go_roundw
        case rel => exact ⟨k + 1, _, by omega, by go_num, rfl, HM4, HG4.out⟩
        case measure => simp [intOf]; omega
    · have hkn : k = n := by omega
      subst hkn
      have BW : Hid (Below w.heap.size w wr) := HB2.out.trans (hg.mono s2)
      have HG : Hid (Below w2.heap.size w2 wr) := hg
      have sg := hg.size
      have XAr : Hid (BoxF wr w.heap.size (.slice va dl ca) (.slice vb k cb)) := XA2.out.belowB HG.out z1
      have XRr : Hid (BoxF wr (w.heap.size + 1) (.slice none 0 0) (.slice none 0 0)) := XR2.out.belowB HG.out zr
      clear hg
      obtain ⟨⟨z6, c0, c1⟩, -⟩ := XAr.out
      go_wp2_with fail
      refine (clone_any _ _ dur (HD.out.below BW.out) (by have := HDL.out; omega)).mono ?_
      rintro e w7 ⟨v7, rfl, o7, b7⟩
      obtain ⟨a7, c7, rfl⟩ := o7.slice
      rw [HDL.out]
      have B7 : Hid (Below w.heap.size w w7) := BW.out.trans (b7.mono BW.out.size)
      have D7 : Hid (OwnD w7 w2.heap.size w7.heap.size (.slice a7 dl c7) (.slice (some ⟨w2.heap.size, 0, none⟩) k (k + 1)) dur ps dv) := by
        have := made_ownD HM.out HL.out b7 o7 (Nat.le_refl _)
        rw [HDL.out] at this
        exact this
      have XR7 : Hid (BoxF w7 (w.heap.size + 1) (.slice none 0 0) (.slice none 0 0)) := XRr.out.below b7
      clear o7 b7 HM XRr XAr c0 c1 z6
      obtain ⟨⟨z7, d0, d1⟩, f0, f1⟩ := XR7.out
      go_wp2
      refine bodyPost_ret (v := .agg #[.slice a7 dl c7, .slice (some ⟨w2.heap.size, 0, none⟩) k (k + 1)]) (by simp [results, Try.results45, go_sem, d0, d1]) rfl ⟨_, _, _, dv, rfl, ?_, ?_⟩
      · refine OwnD.mono (lo := w2.heap.size) (hi := w7.heap.size) ?_ s2 (by simp)
        repeat (first | exact D7.out | refine OwnD.within (l := w.heap.size + 1) (h := w.heap.size + 2) ?_ (Within.setCell _ (Nat.le_refl _) (by omega) _ _) (.inr (by have := HS2.out; omega)))
      · repeat (first | exact B7.out | refine Below.setCell ?_ (by simp; try omega) _)

end Go.Proofs.Ytoljmlhnbmeloaa

namespace Go.Proofs.Ytoljmlhnbmeloaa
open Go.RowKit

/-- A cell of another block is written. -/
theorem OwnD.setAt {w : World} {lo hi : Nat} {vd vp : Value} {dur : List Int} {ps : List (Int × List Int)} {dv : Nat → Value} (h : OwnD w lo hi vd vp dur ps dv) (b j : Nat) (u : Value) (h1 : vd.ownBlock ≠ some b) (h2 : vp.ownBlock ≠ some b) (h3 : ∀ i, i < ps.length → (dv i).ownBlock ≠ some b) :
    OwnD (w.setCell ⟨b, j, none⟩ u) lo hi vd vp dur ps dv := by
  have G : w.grownBy (w.setCell ⟨b, j, none⟩ u) (some b) := grownBy_set _ _ _ _ _ (World.grownBy.refl _ _)
  exact ⟨h.d.other G (.inr h1), ⟨World.ownsRow.kept h.p.1 G (.inr h2), fun i hi => (h.p.2.1 i hi).other G (.inr (h3 i hi)), h.p.2.2.1, h.p.2.2.2⟩, h.dlt, h.plt, h.qlt, h.dp, h.dq⟩

/-- One record more, behind a disk of the call's own. -/
theorem OwnD.snoc {w0 w5 w6 : World} {lo lo5 g n cap : Nat} {vd v : Value} {dur : List Int} {ps : List (Int × List Int)} {dv : Nat → Value} {x : Int} {xs : List Int} {ob : Obj} (hD : OwnD w0 lo w0.heap.size vd (.slice (some ⟨g, 0, none⟩) n cap) dur ps dv) (hl : ps.length = n)
    (b5 : Below w0.heap.size w0 w5) (o5 : Own .u8 5 w5 lo5 v xs) (hlo5 : w0.heap.size ≤ lo5) (hlo : lo ≤ lo5)
    (ho6 : w6.ownsRow lo 42 2 (.slice (some ⟨g, 0, none⟩) (n + 1) cap) (n + 1) (rowW n (pB ps) dv ++ [.int .i64 x, v])) (hg6 : (w5.alloc ob).grownBy w6 (some g)) :
    OwnD w6 lo w6.heap.size vd (.slice (some ⟨g, 0, none⟩) (n + 1) cap) dur (ps ++ [(x, xs)]) (dvSet dv n v) := by
  subst hl
  have G : w5.grownBy w6 (some g) := World.grownBy.trans (World.grownBy_alloc w5 ob (some g)) hg6
  have hgl : g < w0.heap.size := hD.plt g rfl
  have hs5 := b5.size
  have hs6 := G.size
  have hn2 : ∀ u : Value, (∀ q, u.ownBlock = some q → lo5 ≤ q) → u.ownBlock = none ∨ u.ownBlock ≠ some g := fun u hu => by
    cases hv : u.ownBlock with
    | none => exact .inl rfl
    | some q => have := hu q hv; exact .inr (by simp; omega)
  have hdq : ∀ i, i < ps.length → Own .u8 5 w6 lo (dv i) (pD ps i) := fun i hi => by
    refine ((hD.p.2.1 i hi).below b5).other G ?_
    rcases hD.p.2.2.2 i hi with h | h
    · exact .inl h
    · exact .inr h
  have hlen : (ps ++ [(x, xs)]).length = ps.length + 1 := by simp
  have rB : ∀ i, i < ps.length → pB (ps ++ [(x, xs)]) i = pB ps i := fun i hi => pB_app _ _ _ hi
  have rD : ∀ i, i < ps.length → pD (ps ++ [(x, xs)]) i = pD ps i := fun i hi => pD_app _ _ _ hi
  have hvn : ∀ i, i < ps.length → Ne2 (dv i) v := fun i hi => by
    unfold Ne2
    cases hv : (dv i).ownBlock with
    | none => exact .inl rfl
    | some q =>
      right; intro e
      have h1 := hD.qlt i hi q hv; have h2 := (o5.lt q (by rw [e])).1; omega
  have hvn' : ∀ i, i < ps.length → Ne2 v (dv i) := fun i hi => by
    unfold Ne2
    cases hv : v.ownBlock with
    | none => exact .inl rfl
    | some q =>
      right; intro e
      have h1 := hD.qlt i hi q e.symm; have h2 := (o5.lt q hv).1; omega
  refine ⟨?_, ⟨?_, ?_, ?_, ?_⟩, ?_, ?_, ?_, ?_, ?_⟩
  · refine (hD.d.below b5).other G ?_
    rcases hD.dp with h | h
    · simp [Value.ownBlock] at h
    · exact .inr (fun e => h (by rw [e]; rfl))
  · rw [hlen]
    have : rowW (ps.length + 1) (pB (ps ++ [(x, xs)])) (dvSet dv ps.length v) = rowW ps.length (pB ps) dv ++ [.int .i64 x, v] := by
      rw [rowW_snoc, pB_last]
      congr 1
      exact rowW_congr (fun i hi => rB i hi) (fun _ _ => rfl)
    rw [this]; exact ho6
  · intro i hi
    rw [hlen] at hi
    unfold dvSet
    by_cases e : i = ps.length
    · subst e
      rw [if_pos rfl, pD_last]
      exact (o5.mono hlo).other G (hn2 v (fun q hq => (o5.lt q hq).1))
    · rw [if_neg e, rD i (by omega)]
      exact hdq i (by omega)
  · intro i j hi hj hne
    rw [hlen] at hi hj
    unfold dvSet
    by_cases e : i = ps.length
    · rw [if_pos e]
      by_cases e' : j = ps.length
      · omega
      · rw [if_neg e']; exact hvn' j (by omega)
    · rw [if_neg e]
      by_cases e' : j = ps.length
      · rw [if_pos e']; exact hvn i (by omega)
      · rw [if_neg e']; exact hD.p.2.2.1 i j (by omega) (by omega) hne
  · intro i hi
    rw [hlen] at hi
    unfold dvSet
    by_cases e : i = ps.length
    · rw [if_pos e]; exact hn2 v (fun q hq => (o5.lt q hq).1)
    · rw [if_neg e]; exact hD.p.2.2.2 i (by omega)
  · intro q hq; have := hD.dlt q hq; omega
  · intro q hq; simp [Value.ownBlock] at hq; omega
  · intro i hi q hq
    rw [hlen] at hi
    unfold dvSet at hq
    by_cases e : i = ps.length
    · rw [if_pos e] at hq; have := (o5.lt q hq).2; omega
    · rw [if_neg e] at hq; have := hD.qlt i (by omega) q hq; omega
  · exact hD.dp
  · intro i hi
    rw [hlen] at hi
    unfold dvSet
    by_cases e : i = ps.length
    · rw [if_pos e]
      unfold Ne2
      cases hv : v.ownBlock with
      | none => exact .inl rfl
      | some q =>
        right; intro e
        have h1 := hD.dlt q e.symm; have h2 := (o5.lt q hv).1; omega
    · rw [if_neg e]; exact hD.dq i (by omega)

set_option maxHeartbeats 1000000 in
set_option maxRecDepth 100000 in
theorem implWrite_loop (w : World) (va vb vx : Option Addr) (dl ca n cb cx : Nat) (dur xs : List Int) (ps : List (Int × List Int)) (x : Int) (hd : Rd .u8 w (.slice va dl ca) dur) (hdl : dur.length = dl) (hp : RdW w (.slice vb n cb) ps) (hl : ps.length = n)
    (hx : Rd .u8 w (.slice vx 64 cx) xs) (hxl : xs.length = 64) (hv : vldD dl ps = true) (hn : n < 2000) (hx0 : 0 ≤ x) (hx1 : x < (dl / 64 : Nat)) (hd1 : dl ≤ 1048576) (hpd : ∀ i, (pD ps i).length ≤ 1048576) :
    Calls Try.prog 15 #[.agg #[.slice va dl ca, .slice vb n cb], .int .i64 x, .slice vx 64 cx] w fun e w' => ∃ v1 v2 dv, e = .returned (.agg #[v1, v2]) ∧ OwnD w' w.heap.size w'.heap.size v1 v2 dur (ps ++ [(x, xs)]) dv ∧ Below w.heap.size w w' := by
  obtain ⟨i0, hi, hz0, hz1, hz2⟩ := info_parts Try.infoW
  have HD : Hid (Rd .u8 w (.slice va dl ca) dur) := hd
  have HP : Hid (RdW w (.slice vb n cb) ps) := hp
  have HX : Hid (Rd .u8 w (.slice vx 64 cx) xs) := hx
  have HL : Hid (ps.length = n) := hl
  have HXL : Hid (xs.length = 64) := hxl
  have HDL : Hid (dur.length = dl) := hdl
  have HPD : Hid (∀ i, (pD ps i).length ≤ 1048576) := hpd
  have BA : Hid (∀ o1 o2, Below w.heap.size w ((w.alloc o1).alloc o2)) := fun o1 o2 => ((Below.refl _ _).alloc (Nat.le_refl _) _).alloc (by simp) _
  clear hd hp hx hl hxl hdl hpd
  go_enter Try.func15, Try.ntmps15
  go_wp2_with fail
  have XA0 : Hid (BoxF ((w.alloc (.cells #[.slice va dl ca, .slice vb n cb] 32)).alloc (.cells #[.slice none 0 0, .slice none 0 0] 32)) w.heap.size (.slice va dl ca) (.slice vb n cb)) := (BoxF.new w _ _ _).below ((Below.refl _ _).alloc (Nat.le_refl _) _)
  have XR0 : Hid (BoxF ((w.alloc (.cells #[.slice va dl ca, .slice vb n cb] 32)).alloc (.cells #[.slice none 0 0, .slice none 0 0] 32)) (w.heap.size + 1) (.slice none 0 0) (.slice none 0 0)) := by
    have := BoxF.new (w.alloc (.cells #[.slice va dl ca, .slice vb n cb] 32)) (.slice none 0 0) (.slice none 0 0) 32
    show BoxF _ _ _ _
    simpa using this
  have B0 := BA.out (.cells #[.slice va dl ca, .slice vb n cb] 32) (.cells #[.slice none 0 0, .slice none 0 0] 32)
  have HB0 : Hid (Below w.heap.size w ((w.alloc (.cells #[.slice va dl ca, .slice vb n cb] 32)).alloc (.cells #[.slice none 0 0, .slice none 0 0] 32))) := B0
  clear B0 BA
  generalize (w.alloc (.cells #[.slice va dl ca, .slice vb n cb] 32)).alloc (.cells #[.slice none 0 0, .slice none 0 0] 32) = w0 at *
  refine (implValid_any _ va vb dl ca n cb ps (HP.out.below HB0.out) HL.out hd1 (by omega) HPD.out).mono ?_
  rintro e w1 ⟨rfl, b1⟩
  rw [hv]
  have HB1 : Hid (Below w.heap.size w w1) := HB0.out.trans (b1.mono HB0.out.size)
  have XA1 : Hid (BoxF w1 w.heap.size (.slice va dl ca) (.slice vb n cb)) := XA0.out.below b1
  have XR1 : Hid (BoxF w1 (w.heap.size + 1) (.slice none 0 0) (.slice none 0 0)) := XR0.out.below b1
  clear b1 XA0 XR0 HB0 hv
  obtain ⟨⟨z1, c0, c1⟩, -⟩ := XA1.out
  have t1 : ¬ (2000 : Int) ≤ (n : Int) := by omega
  have t1d : decide ((2000 : Int) ≤ (n : Int)) = false := by simpa using t1
  go_wp2_with fail
  refine (hasBlock_any _ va dl ca _ x hd1).mono ?_
  rintro e w2 ⟨rfl, b2⟩
  rw [show decide (0 ≤ x ∧ x < ((dl / 64 : Nat) : Int)) = true by rw [decide_eq_true_eq]; exact ⟨hx0, hx1⟩]
  have HB2 : Hid (Below w.heap.size w w2) := HB1.out.trans (b2.mono HB1.out.size)
  have XA2 : Hid (BoxF w2 w.heap.size (.slice va dl ca) (.slice vb n cb)) := XA1.out.below b2
  have XR2 : Hid (BoxF w2 (w.heap.size + 1) (.slice none 0 0) (.slice none 0 0)) := XR1.out.below b2
  have s2 := HB2.out.size
  clear b2 XA1 XR1 HB1 z1 c0 c1 hx0 hx1
  obtain ⟨⟨z1, c0, c1⟩, -⟩ := XA2.out
  have zr := XR2.out.1.1
  go_wp2_with fail
  refine (copyDisk_row _ va vb dl ca n cb dur ps (HD.out.below HB2.out) HDL.out (HP.out.below HB2.out) HL.out (by omega) hd1 HPD.out).mono ?_
  rintro e w3 ⟨a4, c4, g, dv, rfl, o3, b3⟩
  have D3 : Hid (OwnD w3 w2.heap.size w3.heap.size (.slice a4 dl c4) (.slice (some ⟨g, 0, none⟩) n (n + 1)) dur ps dv) := o3
  have HB3 : Hid (Below w.heap.size w w3) := HB2.out.trans (b3.mono s2)
  have XR3 : Hid (BoxF w3 (w.heap.size + 1) (.slice none 0 0) (.slice none 0 0)) := XR2.out.below b3
  have s3 := b3.size
  clear o3 b3 XA2 c0 c1 XR2
  go_wp2_with fail
  have BA4 : Hid (Below w3.heap.size w3 (w3.alloc (.cells #[(.slice a4 dl c4), (.slice (some ⟨g, 0, none⟩) n (n + 1))] 32))) := (Below.refl _ _).alloc (Nat.le_refl _) _
  have XB4 : Hid (BoxF (w3.alloc (.cells #[(.slice a4 dl c4), (.slice (some ⟨g, 0, none⟩) n (n + 1))] 32)) w3.heap.size (.slice a4 dl c4) (.slice (some ⟨g, 0, none⟩) n (n + 1))) := BoxF.new _ _ _ _
  have s4 : (w3.alloc (.cells #[(.slice a4 dl c4), (.slice (some ⟨g, 0, none⟩) n (n + 1))] 32)).heap.size = w3.heap.size + 1 := by simp
  generalize w3.alloc (.cells #[(.slice a4 dl c4), (.slice (some ⟨g, 0, none⟩) n (n + 1))] 32) = w4 at *
  have HS4 : Hid (w4.heap.size = w3.heap.size + 1) := s4
  clear s4
  have HB4 : Hid (Below w.heap.size w w4) := HB3.out.trans (BA4.out.mono (by omega))
  have XR4 : Hid (BoxF w4 (w.heap.size + 1) (.slice none 0 0) (.slice none 0 0)) := XR3.out.below BA4.out
  have D4 : Hid (OwnD w4 w2.heap.size w3.heap.size (.slice a4 dl c4) (.slice (some ⟨g, 0, none⟩) n (n + 1)) dur ps dv) := D3.out.below BA4.out
  have hg3 : g < w3.heap.size := D3.out.plt g rfl
  have HCL : Hid (Calls Try.prog 46 #[.slice vx 64 cx] w4.drew fun e w' => ∃ a c, e = .returned (.slice a 64 c) ∧ Hid (Own .u8 5 w' w4.heap.size (.slice a 64 c) xs) ∧
      w'.cell? ⟨w3.heap.size, 0, none⟩ = some (.slice a4 dl c4) ∧ w'.cell? ⟨w3.heap.size, 1, none⟩ = some (.slice (some ⟨g, 0, none⟩) n (n + 1)) ∧ (∀ ob, (w'.alloc ob).cell? ⟨w3.heap.size, 1, none⟩ = some (.slice (some ⟨g, 0, none⟩) n (n + 1))) ∧ Hid (Below w4.heap.size w4 w')) := by
    refine (clone_any _ _ xs ((HX.out.below HB4.out).drewN 1) (by have := HXL.out; omega)).mono ?_
    rintro e w' ⟨v', rfl, o', b'⟩
    obtain ⟨a, c, rfl⟩ := o'.slice
    rw [HXL.out] at o' ⊢
    have b2 : Below w4.heap.size w4 w' := (below_drewN' _ 1).trans b'
    have X := XB4.out.below b2
    exact ⟨a, c, rfl, o', X.1.2.1, X.1.2.2, fun ob => (X.below ((Below.refl _ _).alloc (Nat.le_refl _) ob)).1.2.2, b2⟩
  have HOW : Hid (∀ W', Below w4.heap.size w4 W' → W'.ownsRow w2.heap.size 42 2 (.slice (some ⟨g, 0, none⟩) n (n + 1)) n (rowW n (pB ps) dv)) := fun W' hW' => by
    have := D4.out.p.1
    rw [HL.out] at this
    exact World.ownsRow.kept this (row := none) ⟨hW'.os, hW'.tape, hW'.output, hW'.size, fun q hq _ => hW'.block q hq⟩ (.inr (by simp [Value.ownBlock]))
  have HK6 : Hid (∀ W5 W6 ob, Below w4.heap.size w4 W5 → (W5.alloc ob).grownBy W6 (some g) → BoxF W6 w3.heap.size (.slice a4 dl c4) (.slice (some ⟨g, 0, none⟩) n (n + 1)) ∧ BoxF W6 (w.heap.size + 1) (.slice none 0 0) (.slice none 0 0)) := by
    intro W5 W6 ob h1 h2
    have hh := HS4.out
    have G : W5.grownBy W6 (some g) := World.grownBy.trans (World.grownBy_alloc W5 ob (some g)) h2
    have hgt : w2.heap.size ≤ g := (World.ownsRow.lt D4.out.p.1 g rfl).1
    have K : ∀ b x y, BoxF w4 b x y → b ≠ g → BoxF W6 b x y := fun b x y hb hne => by
      have hb5 := hb.below h1
      have hbl := G.block b hb5.1.1 (fun e => hne (by simpa using e))
      exact ⟨⟨Nat.lt_of_lt_of_le hb5.1.1 G.size, (World.cell?_of_block (a := ⟨b, 0, none⟩) hbl).trans hb5.1.2.1, (World.cell?_of_block (a := ⟨b, 1, none⟩) hbl).trans hb5.1.2.2⟩, (World.frozen?_of_block (a := ⟨b, 0, none⟩) hbl).trans hb5.2.1, (World.frozen?_of_block (a := ⟨b, 1, none⟩) hbl).trans hb5.2.2⟩
    exact ⟨K _ _ _ XB4.out (by omega), K _ _ _ XR4.out (by omega)⟩
  obtain ⟨⟨-, m0, m1⟩, m2, m3⟩ := XB4.out
  clear XR3 HB3
  go_region_law (first | (refine step_fits rfl _ _ 30 rfl w2.heap.size 42 i0 2 Try.underlying30 hi hz1 g n (n + 1) _ rfl ((HOW.out _ bw.out).alloc _) ⟨w'.heap.size, 0, none⟩ 1 1 [.int .i64 x, .slice a 64 c] rfl rfl (cell_two_new _ _ _ _) (by intro u hu; simp at hu; rcases hu with rfl | rfl <;> rfl) (Nat.le_refl _) ?_; intro w6 ho6 hg6; obtain ⟨⟨⟨y0, y1, y2⟩, y3, y4⟩, Y5⟩ := HK6.out _ _ _ bw.out hg6) | (go_simp; go_at_call 46; refine HCL.out.mono ?_; rintro e w' ⟨a, c, rfl, o', k0, k1, k2, bw⟩))
  all_goals
    have D6 : Hid (OwnD w6 w2.heap.size w6.heap.size (.slice a4 dl c4) (.slice (some ⟨g, 0, none⟩) (n + 1) (n + 1)) dur (ps ++ [(x, xs)]) (dvSet dv n (.slice a 64 c))) := OwnD.snoc D3.out HL.out (BA4.out.trans (bw.out.mono BA4.out.size)) o'.out BA4.out.size (by have := HS4.out; omega) ho6 hg6
    have N6 : Hid (Value.ownBlock (.slice a4 dl c4) ≠ some w3.heap.size ∧ Value.ownBlock (.slice (some ⟨g, 0, none⟩) (n + 1) (n + 1)) ≠ some w3.heap.size ∧ ∀ i, i < (ps ++ [(x, xs)]).length → Value.ownBlock (dvSet dv n (.slice a 64 c) i) ≠ some w3.heap.size) := by
      refine ⟨fun e => Nat.lt_irrefl _ (D3.out.dlt _ e), fun e => ?_, fun i hi e => ?_⟩
      · simp [Value.ownBlock] at e; omega
      · unfold dvSet at e
        by_cases e' : i = n
        · rw [if_pos e'] at e
          have h1 := (o'.out.lt _ e).1; have h2 := HS4.out; omega
        · rw [if_neg e'] at e
          rw [List.length_append, HL.out] at hi
          exact Nat.lt_irrefl _ (D3.out.qlt i (by rw [HL.out]; simp at hi; omega) _ e)
    have B6 : Hid (Below w.heap.size w w6) := ((HB4.out.trans (bw.out.mono HB4.out.size)).alloc (by have := HB4.out.size; have := bw.out.size; omega) _).grown hg6 (by have := HB4.out.size; have := bw.out.size; simp; omega) (by intro q hq; simp at hq; have := (World.ownsRow.lt D3.out.p.1 g rfl).1; omega)
    clear ho6 hg6 o' k0 k1 k2 bw HCL HOW HK6 m0 m1 m2 m3 D4 XR4 HB4 BA4 D3 HS4 XB4
    obtain ⟨⟨y9, d0, d1⟩, f0, f1⟩ := Y5
    have hne : w3.heap.size ≠ w.heap.size + 1 := by omega
    have hne2 : w.heap.size + 1 ≠ w3.heap.size := by omega
    go_wp2
    refine bodyPost_ret (v := .agg #[(.slice a4 dl c4), (.slice (some ⟨g, 0, none⟩) (n + 1) (n + 1))]) (by simp [results, Try.results15, go_sem, d0, d1]) rfl ⟨_, _, dvSet dv n (.slice a 64 c), rfl, ?_, ?_⟩
    · refine OwnD.mono (lo := w2.heap.size) (hi := w6.heap.size) ?_ s2 (by simp)
      repeat (first | exact D6.out | refine OwnD.within (l := w.heap.size + 1) (h := w.heap.size + 2) ?_ (Within.setCell _ (Nat.le_refl _) (by omega) _ _) (.inr (by omega)) | refine OwnD.setAt ?_ w3.heap.size _ _ N6.out.1 N6.out.2.1 N6.out.2.2)
    · repeat (first | exact B6.out | refine Below.setCell ?_ (by simp; try omega) _)

end Go.Proofs.Ytoljmlhnbmeloaa

namespace Go.Proofs.Ytoljmlhnbmeloaa
open Go.RowKit

set_option maxHeartbeats 1000000 in
set_option maxRecDepth 100000 in
theorem implWrite_no (w : World) (va vb vx : Option Addr) (dl ca n cb m cx : Nat) (ps : List (Int × List Int)) (x : Int) (hp : RdW w (.slice vb n cb) ps) (hl : ps.length = n)
    (hno : wrOk dl ps x m = false) (hn : n ≤ 1048576) (hd1 : dl ≤ 1048576) (hpd : ∀ i, (pD ps i).length ≤ 1048576) :
    Calls Try.prog 15 #[.agg #[.slice va dl ca, .slice vb n cb], .int .i64 x, .slice vx m cx] w fun e w' => e = .returned (.agg #[.slice none 0 0, .slice none 0 0]) ∧ Below w.heap.size w w' := by
  have HP : Hid (RdW w (.slice vb n cb) ps) := hp
  have HL : Hid (ps.length = n) := hl
  have HPD : Hid (∀ i, (pD ps i).length ≤ 1048576) := hpd
  have BA : Hid (∀ o1 o2, Below w.heap.size w ((w.alloc o1).alloc o2)) := fun o1 o2 => ((Below.refl _ _).alloc (Nat.le_refl _) _).alloc (by simp) _
  have HNO : Hid (wrOk dl ps x m = false) := hno
  clear hp hl hpd hno
  go_enter Try.func15, Try.ntmps15
  go_wp2_with fail
  have XA0 : Hid (BoxF ((w.alloc (.cells #[.slice va dl ca, .slice vb n cb] 32)).alloc (.cells #[.slice none 0 0, .slice none 0 0] 32)) w.heap.size (.slice va dl ca) (.slice vb n cb)) := (BoxF.new w _ _ _).below ((Below.refl _ _).alloc (Nat.le_refl _) _)
  have XR0 : Hid (BoxF ((w.alloc (.cells #[.slice va dl ca, .slice vb n cb] 32)).alloc (.cells #[.slice none 0 0, .slice none 0 0] 32)) (w.heap.size + 1) (.slice none 0 0) (.slice none 0 0)) := by
    have := BoxF.new (w.alloc (.cells #[.slice va dl ca, .slice vb n cb] 32)) (.slice none 0 0) (.slice none 0 0) 32
    show BoxF _ _ _ _
    simpa using this
  have B0 := BA.out (.cells #[.slice va dl ca, .slice vb n cb] 32) (.cells #[.slice none 0 0, .slice none 0 0] 32)
  have HB0 : Hid (Below w.heap.size w ((w.alloc (.cells #[.slice va dl ca, .slice vb n cb] 32)).alloc (.cells #[.slice none 0 0, .slice none 0 0] 32))) := B0
  clear B0 BA
  generalize (w.alloc (.cells #[.slice va dl ca, .slice vb n cb] 32)).alloc (.cells #[.slice none 0 0, .slice none 0 0] 32) = w0 at *
  refine (implValid_any _ va vb dl ca n cb ps (HP.out.below HB0.out) HL.out hd1 hn HPD.out).mono ?_
  rintro e w1 ⟨rfl, b1⟩
  have HB1 : Hid (Below w.heap.size w w1) := HB0.out.trans (b1.mono HB0.out.size)
  have XA1 : Hid (BoxF w1 w.heap.size (.slice va dl ca) (.slice vb n cb)) := XA0.out.below b1
  have XR1 : Hid (BoxF w1 (w.heap.size + 1) (.slice none 0 0) (.slice none 0 0)) := XR0.out.below b1
  clear b1 XA0 XR0 HB0
  obtain ⟨⟨z1, c0, c1⟩, -⟩ := XA1.out
  obtain ⟨⟨zr, d0, d1⟩, f0, f1⟩ := XR1.out
  by_cases hv : vldD dl ps = true
  · rw [hv]
    by_cases t1 : (2000 : Int) ≤ (n : Int)
    · have t1d : decide ((2000 : Int) ≤ (n : Int)) = true := by simpa using t1
      clear hv
      go_wp2
      refine bodyPost_ret (v := .agg #[.slice none 0 0, .slice none 0 0]) (by simp [results, Try.results15, go_sem, d0, d1]) rfl ⟨rfl, ?_⟩
      repeat (first | exact HB1.out | refine Below.setCell ?_ (by simp; try omega) _)
    · have t1d : decide ((2000 : Int) ≤ (n : Int)) = false := by simpa using t1
      have HV : Hid (vldD dl ps = true) := hv
      have HT : Hid (n < 2000) := by show _ < _; omega
      clear hv
      go_wp2_with fail
      refine (hasBlock_any _ va dl ca _ x hd1).mono ?_
      rintro e w2 ⟨rfl, b2⟩
      have HB2 : Hid (Below w.heap.size w w2) := HB1.out.trans (b2.mono HB1.out.size)
      have XR2 : Hid (BoxF w2 (w.heap.size + 1) (.slice none 0 0) (.slice none 0 0)) := XR1.out.below b2
      clear b2 XA1 XR1 HB1 z1 c0 c1 zr d0 d1 f0 f1
      obtain ⟨⟨zr, d0, d1⟩, f0, f1⟩ := XR2.out
      by_cases hx : 0 ≤ x ∧ x < ((dl / 64 : Nat) : Int)
      · rw [show decide (0 ≤ x ∧ x < ((dl / 64 : Nat) : Int)) = true by rw [decide_eq_true_eq]; exact hx]
        have hm64 : ¬ m = 64 := by
          intro e
          have h : wrOk dl ps x m = true := by
            unfold wrOk
            simp only [Bool.and_eq_true, decide_eq_true_eq]
            exact ⟨⟨⟨HV.out, by have := HL.out; have := HT.out; omega⟩, hx⟩, e⟩
          rw [HNO.out] at h
          cases h
        have hmI : ¬ (m : Int) = 64 := by omega
        clear hx
        go_wp2
        refine bodyPost_ret (v := .agg #[.slice none 0 0, .slice none 0 0]) (by simp [results, Try.results15, go_sem, d0, d1]) rfl ⟨rfl, ?_⟩
        repeat (first | exact HB2.out | refine Below.setCell ?_ (by simp; try omega) _)
      · rw [show decide (0 ≤ x ∧ x < ((dl / 64 : Nat) : Int)) = false by rw [decide_eq_false_iff_not]; exact hx]
        clear hx
        go_wp2
        refine bodyPost_ret (v := .agg #[.slice none 0 0, .slice none 0 0]) (by simp [results, Try.results15, go_sem, d0, d1]) rfl ⟨rfl, ?_⟩
        repeat (first | exact HB2.out | refine Below.setCell ?_ (by simp; try omega) _)
  · have hv' : vldD dl ps = false := by simpa using hv
    rw [hv']
    clear hv hv'
    go_wp2
    refine bodyPost_ret (v := .agg #[.slice none 0 0, .slice none 0 0]) (by simp [results, Try.results15, go_sem, d0, d1]) rfl ⟨rfl, ?_⟩
    repeat (first | exact HB1.out | refine Below.setCell ?_ (by simp; try omega) _)

theorem implWrite_any (w : World) (v1 v2 v3 : Value) (dur xs : List Int) (ps : List (Int × List Int)) (x : Int) (hd : Rd .u8 w v1 dur) (hp : RdW w v2 ps) (hx : Rd .u8 w v3 xs) (hdl : dur.length ≤ 1048576) (hn : ps.length ≤ 1048576) (hpd : ∀ i, (pD ps i).length ≤ 1048576) :
    Calls Try.prog 15 #[.agg #[v1, v2], .int .i64 x, v3] w fun e w' => ∃ u1 u2 dv, e = .returned (.agg #[u1, u2]) ∧ OwnD w' w.heap.size w'.heap.size u1 u2 (wrDur dur ps x xs) (wrPend dur ps x xs) dv ∧ Below w.heap.size w w' := by
  obtain ⟨va, ca, rfl, -⟩ := hd.len
  obtain ⟨vx, cx, rfl, -⟩ := hx.len
  obtain ⟨vb, cb, rfl, -⟩ := id hp
  unfold wrDur wrPend
  cases h : wrOk dur.length ps x xs.length with
  | true =>
    simp only [if_true]
    unfold wrOk at h
    simp only [Bool.and_eq_true, decide_eq_true_eq] at h
    obtain ⟨⟨⟨h1, h2⟩, h3, h4⟩, h5⟩ := h
    rw [h5] at hx ⊢
    exact implWrite_loop w va vb vx dur.length ca ps.length cb cx dur xs ps x hd rfl hp rfl hx h5 h1 h2 h3 h4 hdl hpd
  | false =>
    simp only [Bool.false_eq_true, if_false]
    refine (implWrite_no w va vb vx dur.length ca ps.length cb xs.length cx ps x hp rfl h hn hdl hpd).mono ?_
    rintro e w' ⟨rfl, b⟩
    exact ⟨_, _, _, rfl, ownD_nil _ _ _, b⟩

end Go.Proofs.Ytoljmlhnbmeloaa

namespace Go.Proofs.Ytoljmlhnbmeloaa
open Go.RowKit

/-- What a read of block b gives after the first k pending writes. -/
def rdv (dur : List Int) (ps : List (Int × List Int)) (b : Nat) : Nat → List Int
  | 0 => (dur.drop (b * 64)).take 64
  | k + 1 => if pB ps k = b then pD ps k else rdv dur ps b k

/-- A slice of a slice. -/
theorem Rd.part {k : IntKind} {w : World} {blk o n cap : Nat} {xs : List Int} (h : Rd k w (.slice (some ⟨blk, o, none⟩) n cap) xs) (hn : xs.length = n) (i m : Nat) (hm : i + m ≤ n) : Rd k w (.slice (some ⟨blk, o + i, none⟩) m (cap - i)) ((xs.drop i).take m) := by
  obtain ⟨ao, cap', e, h1, h2, h3⟩ := h
  simp only [Value.slice.injEq] at e
  obtain ⟨rfl, hl, rfl⟩ := e
  have hlen : ((xs.drop i).take m).length = m := by rw [List.length_take, List.length_drop]; omega
  refine ⟨_, cap - i, by rw [hlen], by omega, by omega, ?_⟩
  rcases h3 with rfl | ⟨b', o', e, hb, hc⟩
  · left; simp
  · injection e with e
    injection e with e1 e2 _
    subst e1; subst e2
    refine .inr ⟨blk, o + i, rfl, hb, fun j hj => ?_⟩
    rw [hlen] at hj
    have := hc (i + j) (by omega)
    rw [Nat.add_assoc, this]
    simp [List.getD, List.getElem?_drop, hj]

set_option maxHeartbeats 1000000 in
set_option maxRecDepth 100000 in
theorem specRead_yes (w : World) (va vb : Option Addr) (dl ca n cb : Nat) (dur : List Int) (ps : List (Int × List Int)) (b : Nat) (hd : Rd .u8 w (.slice va dl ca) dur) (hdl : dur.length = dl) (hp : RdW w (.slice vb n cb) ps) (hl : ps.length = n)
    (hv : vldD dl ps = true) (hb : b < dl / 64) (hd1 : dl ≤ 1048576) (hn : n ≤ 2000) (hpd : ∀ i, (pD ps i).length ≤ 1048576) :
    Calls Try.prog 21 #[.agg #[.slice va dl ca, .slice vb n cb], .int .i64 b] w fun e w' => ∃ v', e = .returned v' ∧ Own .u8 5 w' w.heap.size v' (rdv dur ps b n) ∧ Below w.heap.size w w' := by
  have HD : Hid (Rd .u8 w (.slice va dl ca) dur) := hd
  have HP : Hid (RdW w (.slice vb n cb) ps) := hp
  have HL : Hid (ps.length = n) := hl
  have HDL : Hid (dur.length = dl) := hdl
  have HPD : Hid (∀ i, (pD ps i).length ≤ 1048576) := hpd
  have HV : Hid (vldD dl ps = true) := hv
  have B0 : Hid (Below w.heap.size w (w.alloc (.cells #[.slice va dl ca, .slice vb n cb] 32))) := (Below.refl _ _).alloc (Nat.le_refl _) _
  have X0 : Hid (Box2 (w.alloc (.cells #[.slice va dl ca, .slice vb n cb] 32)) w.heap.size (.slice va dl ca) (.slice vb n cb)) := Box2.new _ _ _ _
  clear hd hp hl hdl hpd hv
  go_enter Try.func21, Try.ntmps21
  go_wp2_with fail
  generalize w.alloc (.cells #[.slice va dl ca, .slice vb n cb] 32) = w0 at *
  refine (specValid_any _ va vb dl ca n cb ps (HP.out.below B0.out) HL.out hd1 (by omega) HPD.out).mono ?_
  rintro e w1 ⟨rfl, b1⟩
  rw [HV.out]
  have B1 : Hid (Below w.heap.size w w1) := B0.out.trans (b1.mono B0.out.size)
  have X1 : Hid (Box2 w1 w.heap.size (.slice va dl ca) (.slice vb n cb)) := X0.out.below b1
  clear b1 X0 B0
  have t2 : ¬ (b : Int) < 0 := by omega
  have t2d : decide ((b : Int) < 0) = false := by simp
  obtain ⟨z1, c0, c1⟩ := X1.out
  go_wp2_with fail
  refine (l1Blocks_any _ va dl ca _ hd1).mono ?_
  rintro e w2 ⟨rfl, b2⟩
  have B2 : Hid (Below w.heap.size w w2) := B1.out.trans (b2.mono B1.out.size)
  have X2 : Hid (Box2 w2 w.heap.size (.slice va dl ca) (.slice vb n cb)) := X1.out.below b2
  have t3 : ¬ ((dl / 64 : Nat) : Int) ≤ (b : Int) := by omega
  have t3d : decide (((dl / 64 : Nat) : Int) ≤ (b : Int)) = false := by simpa using t3
  have HBB : Hid ((b + 1) * 64 ≤ dl) := by show _ ≤ _; have := ((vldD_iff dl ps).1 HV.out).1; omega
  clear b2 X1 B1 z1 c0 c1
  have hbb := HBB.out
  obtain ⟨blk, o, rfl⟩ : ∃ blk o, va = some ⟨blk, o, none⟩ := by
    obtain ⟨ao, c', e, _, _, h3⟩ := HD.out
    simp only [Value.slice.injEq] at e
    rcases h3 with rfl | ⟨b', o', rfl, _⟩
    · have := HDL.out; simp at this; omega
    · exact ⟨b', o', e.1⟩
  have hca : dl ≤ ca ∧ ca ≤ maxLen := by
    obtain ⟨ao, c', e, h1, h2⟩ := HD.out.len
    simp only [Value.slice.injEq] at e
    obtain ⟨_, e2, rfl⟩ := e
    omega
  obtain ⟨hca1, hca2⟩ := hca
  unfold maxLen at hca2
  obtain ⟨z1, c0, c1⟩ := X2.out
  generalize ((dl / 64 : Nat) : Int) = q at *
  go_wp2_with fail
  rw [show (b + 1) * 64 - b * 64 = 64 by omega]
  refine (l1Copy_any _ _ ((dur.drop (b * 64)).take 64) ((HD.out.part HDL.out (b * 64) 64 (by omega)).below B2.out) (by rw [List.length_take]; omega)).mono ?_
  rintro e w3 ⟨v3, rfl, o3, b3⟩
  have B3 : Hid (Below w.heap.size w w3) := B2.out.trans (b3.mono B2.out.size)
  have X3 : Hid (Box2 w3 w.heap.size (.slice (some ⟨blk, o, none⟩) dl ca) (.slice vb n cb)) := X2.out.below b3
  have O3 : Hid (Own .u8 5 w3 w.heap.size v3 (rdv dur ps b 0)) := o3.mono B2.out.size
  have s3 := B3.out.size
  clear o3 b3 X2 B2 z1 c0 c1 t2 t2d t3 t3d hca1 hca2 hbb hb
  obtain ⟨z1, c0, c1⟩ := X3.out
  go_wp2
  clear c0 c1
  go_loopw [5, 6] (fun v i wr => ∃ k : Nat, k ≤ n ∧ i = .int .i64 k ∧ Hid (Own .u8 5 wr w.heap.size v (rdv dur ps b k)) ∧ Hid (Below w3.heap.size w3 wr)) (fun _ i _ => n - (intOf i).toNat)
  case atStart => exact ⟨0, Nat.zero_le _, rfl, O3, Below.refl _ _⟩
  case round =>
    clear O3
    obtain ⟨k, hk, rfl, HO, HG⟩ := hrel
    have BW : Hid (Below w.heap.size w wr) := B3.out.trans (HG.out.mono s3)
    have sg := HG.out.size
    obtain ⟨z2, c0, c1⟩ := X3.out.below HG.out
    by_cases hlt : k < n
    · obtain ⟨pb, po, rfl, hpb, e1, da, dc, e2, r⟩ := HP.out.recAt HL.out hlt
      have e1' := (BW.out.cell (p := ⟨pb, po + k * 2, none⟩) hpb).trans e1
      have e2' := (BW.out.cell (p := ⟨pb, po + k * 2 + 1, none⟩) hpb).trans e2
      have RK : Hid (Rd .u8 wr (.slice da (pD ps k).length dc) (pD ps k)) := r.below BW.out
      have hltI : (k : Int) < (n : Int) := by omega
      have hpk := HPD.out k
      clear e1 e2 r
      by_cases heq : pB ps k = (b : Int)
      · have heqb : (pB ps k == (b : Int)) = true := beq_iff_eq.2 heq
        have HE : Hid (rdv dur ps b (k + 1) = pD ps k) := by show rdv _ _ _ _ = _; unfold rdv; rw [if_pos heq]
        go_wp2_with fail
        refine (l1Copy_any _ _ (pD ps k) RK.out (by omega)).mono ?_
        rintro e w4 ⟨v4, rfl, o4, b4⟩
        have O4 : Hid (Own .u8 5 w4 w.heap.size v4 (rdv dur ps b (k + 1))) := by show Own _ _ _ _ _ _; rw [HE.out]; exact o4.mono (by omega)
        have G4 : Hid (Below w3.heap.size w3 w4) := HG.out.trans (b4.mono sg)
        clear o4 b4 HO HG
        go_wp2
        go_roundw
        case rel => exact ⟨k + 1, by omega, by go_num, O4, G4⟩
        case measure => simp [intOf]; omega
      · have heqb : (pB ps k == (b : Int)) = false := beq_false_of_ne heq
        have HE : Hid (rdv dur ps b (k + 1) = rdv dur ps b k) := by show rdv _ _ _ _ = _; rw [rdv, if_neg heq]
        have O4 : Hid (Own .u8 5 wr w.heap.size u5 (rdv dur ps b (k + 1))) := by show Own _ _ _ _ _ _; rw [HE.out]; exact HO.out
        go_wp2
        go_roundw
        case rel => exact ⟨k + 1, by omega, by go_num, O4, HG⟩
        case measure => simp [intOf]; omega
    · have hkn : k = n := by omega
      subst hkn
      go_wp2
      go_ret
      exact ⟨_, rfl, HO.out, BW.out⟩

end Go.Proofs.Ytoljmlhnbmeloaa

namespace Go.Proofs.Ytoljmlhnbmeloaa
open Go.RowKit

/-- May the block be read? -/
def rdOk (dl : Nat) (ps : List (Int × List Int)) (x : Int) : Bool := vldD dl ps && decide (0 ≤ x ∧ x < ((dl / 64 : Nat) : Int))
def rdA (dur : List Int) (ps : List (Int × List Int)) (x : Int) : List Int := if rdOk dur.length ps x then rdv dur ps x.toNat ps.length else []

theorem own_lit0 {w w1 : World} (b : Below w.heap.size w w1) : Own .u8 5 (w1.alloc (.cells #[] 5)) w.heap.size (.slice (some ⟨w1.heap.size, 0, none⟩) 0 0) [] := World.ownsRow_lit w1 #[] 0 b.size (Nat.zero_le _) rfl

set_option maxHeartbeats 1000000 in
set_option maxRecDepth 100000 in
theorem specRead_no (w : World) (va vb : Option Addr) (dl ca n cb : Nat) (ps : List (Int × List Int)) (x : Int) (hp : RdW w (.slice vb n cb) ps) (hl : ps.length = n)
    (hno : rdOk dl ps x = false) (hn : n ≤ 1048576) (hd1 : dl ≤ 1048576) (hpd : ∀ i, (pD ps i).length ≤ 1048576) :
    Calls Try.prog 21 #[.agg #[.slice va dl ca, .slice vb n cb], .int .i64 x] w fun e w' => ∃ v', e = .returned v' ∧ Own .u8 5 w' w.heap.size v' [] ∧ Below w.heap.size w w' := by
  have HP : Hid (RdW w (.slice vb n cb) ps) := hp
  have HL : Hid (ps.length = n) := hl
  have HPD : Hid (∀ i, (pD ps i).length ≤ 1048576) := hpd
  have HNO : Hid (rdOk dl ps x = false) := hno
  have B0 : Hid (Below w.heap.size w (w.alloc (.cells #[.slice va dl ca, .slice vb n cb] 32))) := (Below.refl _ _).alloc (Nat.le_refl _) _
  have X0 : Hid (Box2 (w.alloc (.cells #[.slice va dl ca, .slice vb n cb] 32)) w.heap.size (.slice va dl ca) (.slice vb n cb)) := Box2.new _ _ _ _
  clear hp hl hpd hno
  go_enter Try.func21, Try.ntmps21
  go_wp2_with fail
  generalize w.alloc (.cells #[.slice va dl ca, .slice vb n cb] 32) = w0 at *
  refine (specValid_any _ va vb dl ca n cb ps (HP.out.below B0.out) HL.out hd1 hn HPD.out).mono ?_
  rintro e w1 ⟨rfl, b1⟩
  have B1 : Hid (Below w.heap.size w w1) := B0.out.trans (b1.mono B0.out.size)
  have X1 : Hid (Box2 w1 w.heap.size (.slice va dl ca) (.slice vb n cb)) := X0.out.below b1
  clear b1 X0 B0
  obtain ⟨z1, c0, c1⟩ := X1.out
  by_cases hv : vldD dl ps = true
  · rw [hv]
    have HV : Hid (vldD dl ps = true) := hv
    clear hv
    by_cases t2 : x < 0
    · have t2d : decide (x < 0) = true := by simpa using t2
      go_wp2
      go_ret
      exact ⟨_, rfl, own_lit0 B1.out, B1.out.alloc B1.out.size _⟩
    · have t2d : decide (x < 0) = false := by simpa using t2
      go_wp2_with fail
      refine (l1Blocks_any _ va dl ca _ hd1).mono ?_
      rintro e w2 ⟨rfl, b2⟩
      have B2 : Hid (Below w.heap.size w w2) := B1.out.trans (b2.mono B1.out.size)
      clear b2 X1 B1 z1 c0 c1
      have t3 : ((dl / 64 : Nat) : Int) ≤ x := by
        by_cases h : ((dl / 64 : Nat) : Int) ≤ x
        · exact h
        · have h' : rdOk dl ps x = true := by
            unfold rdOk
            simp only [Bool.and_eq_true, decide_eq_true_eq]
            exact ⟨HV.out, by omega, by omega⟩
          rw [HNO.out] at h'
          cases h'
      have t3d : decide (((dl / 64 : Nat) : Int) ≤ x) = true := by simpa using t3
      generalize ((dl / 64 : Nat) : Int) = q at *
      go_wp2
      go_ret
      exact ⟨_, rfl, own_lit0 B2.out, B2.out.alloc B2.out.size _⟩
  · have hv' : vldD dl ps = false := by simpa using hv
    rw [hv']
    clear hv hv'
    go_wp2
    go_ret
    exact ⟨_, rfl, own_lit0 B1.out, B1.out.alloc B1.out.size _⟩

theorem specRead_any (w : World) (v1 v2 : Value) (dur : List Int) (ps : List (Int × List Int)) (x : Int) (hd : Rd .u8 w v1 dur) (hp : RdW w v2 ps) (hdl : dur.length ≤ 1048576) (hn : ps.length ≤ 1048576) (hpd : ∀ i, (pD ps i).length ≤ 1048576) :
    Calls Try.prog 21 #[.agg #[v1, v2], .int .i64 x] w fun e w' => ∃ v', e = .returned v' ∧ Own .u8 5 w' w.heap.size v' (rdA dur ps x) ∧ Below w.heap.size w w' := by
  obtain ⟨va, ca, rfl, -⟩ := hd.len
  obtain ⟨vb, cb, rfl, -⟩ := id hp
  unfold rdA
  cases h : rdOk dur.length ps x with
  | true =>
    simp only [if_true]
    have h' := h
    unfold rdOk at h'
    simp only [Bool.and_eq_true, decide_eq_true_eq] at h'
    obtain ⟨h1, h2, h3⟩ := h'
    obtain ⟨b, rfl⟩ : ∃ b : Nat, x = b := ⟨x.toNat, by omega⟩
    rw [Int.toNat_natCast]
    exact specRead_yes w va vb dur.length ca ps.length cb dur ps b hd rfl hp rfl h1 (by omega) hdl (by have := ((vldD_iff _ _).1 h1).2.2.2.1; omega) hpd
  | false =>
    simp only [Bool.false_eq_true, if_false]
    exact specRead_no w va vb dur.length ca ps.length cb ps x hp rfl h hn hdl hpd

end Go.Proofs.Ytoljmlhnbmeloaa

namespace Go.Proofs.Ytoljmlhnbmeloaa
open Go.RowKit

theorem there_new (w : World) (cs : Array Value) (t : TypeId) (n : Nat) (hn : cs.size = n) : (w.alloc (.cells cs t)).there w.heap.size 0 n := by
  intro j hj
  subst hn
  rw [Nat.zero_add]
  have h := cell_of_row (w.alloc (.cells cs t)) w.heap.size j cs t (0, 0) (heap_alloc_new w _)
  refine ⟨by rw [h]; simp [hj], by simp⟩

theorem below_setCells {B b : Nat} {w : World} (hB : B ≤ b) : ∀ (vs : List Value) (o : Nat) (w' : World), Below B w w' → Below B w (w'.setCells b o vs)
  | [], _, _, h => h
  | v :: vs, o, w', h => below_setCells hB vs (o + 1) (w'.setCell ⟨b, o, none⟩ v) (h.setCell hB v)

set_option maxHeartbeats 400000 in
set_option maxRecDepth 100000 in
theorem blockAt_any (w : World) (blk o dl ca b : Nat) (dur : List Int) (hd : Rd .u8 w (.slice (some ⟨blk, o, none⟩) dl ca) dur) (hdl : dur.length = dl) (hb : (b + 1) * 64 ≤ dl) (_hd1 : dl ≤ 1048576) :
    Calls Try.prog 52 #[.slice (some ⟨blk, o, none⟩) dl ca, .int .i64 b] w fun e w' => e = .returned (.agg (((dur.drop (b * 64)).take 64).map (Value.int .u8)).toArray) ∧ Below w.heap.size w w' := by
  have HD : Hid (Rd .u8 w (.slice (some ⟨blk, o, none⟩) dl ca) dur) := hd
  have hca : dl ≤ ca ∧ ca ≤ maxLen := by
    obtain ⟨ao, c', e, h1, h2⟩ := HD.out.len
    simp only [Value.slice.injEq] at e
    obtain ⟨_, e2, rfl⟩ := e
    omega
  obtain ⟨hca1, hca2⟩ := hca
  unfold maxLen at hca2
  have hge : 64 ≤ dl - b * 64 := by omega
  have hlt : ¬ dl - b * 64 < 64 := by omega
  have hat : ∀ W, (Instr.arrayAt 75 (.slice (some ⟨blk, o + b * 64, none⟩) (dl - b * 64) (ca - b * 64))).run Try.prog W = .ok (.pointer (some ⟨blk, o + b * 64, none⟩)) W := fun W => run_arrayAt W 75 _ 64 _ _ _ Try.underlying75 hge
  have hsz : (Try.prog.info? 75).map (·.size) = some (((dur.drop (b * 64)).take 64).map (Value.int .u8)).length := by
    rw [List.length_map, List.length_take, List.length_drop, show min 64 (dur.length - b * 64) = 64 by omega]
    kernel_rfl
  have hrg : w.rangeAt blk (o + b * 64) (((dur.drop (b * 64)).take 64).map (Value.int .u8)) := by
    obtain ⟨ao, cap', e, h1, h2, h3⟩ := hd
    simp only [Value.slice.injEq] at e
    obtain ⟨rfl, hl, rfl⟩ := e
    rcases h3 with rfl | ⟨b', o', e, hb', hc⟩
    · simp at hdl; omega
    · injection e with e
      injection e with e1 e2 _
      subst e1; subst e2
      intro j u hu
      have hj : j < 64 := by have := (List.getElem?_eq_some_iff.1 hu).1; simp at this; omega
      have := hc (b * 64 + j) (by omega)
      rw [Nat.add_assoc, this]
      simp [List.getElem?_drop, hj] at hu
      obtain ⟨y, hy, rfl⟩ := hu
      simp [List.getD, hy]
  have HSZ : Hid ((Try.prog.info? 75).map (·.size) = some (((dur.drop (b * 64)).take 64).map (Value.int .u8)).length) := hsz
  have HRG : Hid (w.rangeAt blk (o + b * 64) (((dur.drop (b * 64)).take 64).map (Value.int .u8))) := hrg
  clear hsz hrg
  clear hd
  go_enter Try.func52, Try.ntmps52
  go_wp2_with (first | (refine wpList_load_mid rfl 75 _ rfl blk (o + b * 64) rfl (((dur.drop (b * 64)).take 64).map (Value.int .u8)) _ (World.rangeAt_alloc HRG.out _) Try.underlying75 rfl HSZ.out ?_) | (refine wpList_store_mid rfl 75 _ _ rfl w.heap.size 0 (((dur.drop (b * 64)).take 64).map (Value.int .u8)).toArray rfl rfl ?s1 ?s2 ?s3 ?_))
  case s1 => exact there_new _ _ _ _ (by have h : (((dur.drop (b * 64)).take 64).map (Value.int .u8)).toArray.size = 64 := by { rw [List.size_toArray, List.length_map, List.length_take, List.length_drop]; omega }
                                         rw [h]; rfl)
  case s2 => rw [List.size_toArray]; exact HSZ.out
  case s3 => exact all_oneCell_toArray (ints_oneCell _ _)
  have hlen : (((dur.drop (b * 64)).take 64).map (Value.int .u8)).length = 64 := by rw [List.length_map, List.length_take, List.length_drop]; omega
  refine bodyPost_ret (v := .agg (((dur.drop (b * 64)).take 64).map (Value.int .u8)).toArray) ?_ rfl ⟨rfl, ?_⟩
  · have LV : ∀ cs : Array Value, cs.size = 64 → (loadVar 75 ⟨w.heap.size, 0, none⟩).run Try.prog ((w.alloc (.cells cs 75)).setCells w.heap.size 0 (((dur.drop (b * 64)).take 64).map (Value.int .u8))) = .ok (.agg (((dur.drop (b * 64)).take 64).map (Value.int .u8)).toArray) ((w.alloc (.cells cs 75)).setCells w.heap.size 0 (((dur.drop (b * 64)).take 64).map (Value.int .u8))) := fun cs hcs =>
      run_loadVar_mid (P := Try.prog) _ w.heap.size 0 75 _ _ (World.rangeAt_setCells_same _ _ _ _ (there_new _ _ _ _ (by rw [hlen, hcs]))) Try.underlying75 rfl HSZ.out
    simp [results, Try.results52, Act.put, asAddr, -List.map_take, -List.map_drop]
    exact LV _ rfl
  · exact below_setCells (Nat.le_refl _) _ _ _ ((Below.refl _ _).alloc (Nat.le_refl _) _)

end Go.Proofs.Ytoljmlhnbmeloaa

namespace Go.Proofs.Ytoljmlhnbmeloaa
open Go.RowKit

theorem splice_get {α : Type} (L : List α) (off : Nat) (cs : List α) (h : off + cs.length ≤ L.length) (j : Nat) :
    (splice L off cs)[j]? = if j < off then L[j]? else if j < off + cs.length then cs[j - off]? else L[j]? := by
  unfold splice
  have hl : (L.take off).length = off := by rw [List.length_take]; omega
  by_cases h1 : j < off
  · rw [if_pos h1, List.getElem?_append_left (by omega), List.getElem?_take_of_lt h1]
  · rw [if_neg h1, List.getElem?_append_right (by omega), hl]
    by_cases h2 : j < off + cs.length
    · rw [if_pos h2, List.getElem?_append_left (by omega)]
    · rw [if_neg h2, List.getElem?_append_right (by omega), List.getElem?_drop]
      congr 1
      omega

theorem splice_map {α β : Type} (f : α → β) (L : List α) (off : Nat) (cs : List α) : (splice L off cs).map f = splice (L.map f) off (cs.map f) := by
  simp [splice, List.map_take, List.map_drop]

theorem splice_nil {α : Type} (L : List α) (off : Nat) : splice L off [] = L := by simp [splice]

theorem splice_snoc (L : List Int) (off : Nat) (ys : List Int) (j : Nat) (hj : j < ys.length) (h : off + ys.length ≤ L.length) :
    (splice L off (ys.take j)).set (off + j) (ys.getD j 0) = splice L off (ys.take (j + 1)) := by
  have hl1 : (ys.take j).length = j := by rw [List.length_take]; omega
  have hl2 : (ys.take (j + 1)).length = j + 1 := by rw [List.length_take]; omega
  apply List.ext_getElem?
  intro i
  rw [splice_get _ _ _ (by omega), List.getElem?_set, length_splice _ _ _ (by omega), splice_get _ _ _ (by omega), hl1, hl2]
  by_cases e : off + j = i
  · subst e
    rw [if_pos rfl, if_pos (by omega), if_neg (by omega), if_pos (by omega), show off + j - off = j by omega, List.getElem?_take_of_lt (by omega)]
    simp [List.getD, hj]
  · rw [if_neg e]
    by_cases h1 : i < off
    · rw [if_pos h1, if_pos h1]
    · rw [if_neg h1, if_neg h1]
      by_cases h2 : i < off + j
      · rw [if_pos h2, if_pos (by omega), List.getElem?_take_of_lt (by omega), List.getElem?_take_of_lt (by omega)]
      · rw [if_neg h2, if_neg (by omega)]

/-- A block that is read, torn and laid back. -/
theorem splice_torn (D W : List Int) (o c : Nat) (hW : W.length = 64) (hc : c ≤ 64) (ho : o + 64 ≤ D.length) :
    splice D o (splice ((D.drop o).take 64) 0 (W.take c)) = splice D o (W.take c) := by
  have hd : ((D.drop o).take 64).length = 64 := by rw [List.length_take, List.length_drop]; omega
  have hw : (W.take c).length = c := by rw [List.length_take]; omega
  have hs : (splice ((D.drop o).take 64) 0 (W.take c)).length = 64 := by rw [length_splice _ _ _ (by omega), hd]
  apply List.ext_getElem?
  intro i
  rw [splice_get _ _ _ (by omega), splice_get _ _ _ (by omega), splice_get _ _ _ (by omega), hs, hw]
  by_cases h1 : i < o
  · rw [if_pos h1, if_pos h1]
  · rw [if_neg h1, if_neg h1]
    by_cases h2 : i < o + 64
    · rw [if_pos h2, if_neg (by omega)]
      by_cases h3 : i < o + c
      · rw [if_pos h3, if_pos (by omega)]; rfl
      · rw [if_neg h3, if_neg (by omega), List.getElem?_take_of_lt (by omega), List.getElem?_drop]
        congr 1; omega
    · rw [if_neg h2, if_neg (by omega)]

/-- The durable bytes when the first k pending writes have come, each with so many of its first bytes. -/
def stl (dur : List Int) (ps : List (Int × List Int)) (c : Nat → Nat) : Nat → List Int
  | 0 => dur
  | k + 1 => splice (stl dur ps c k) ((pB ps k).toNat * 64) ((pD ps k).take (c k))

theorem vld_at {dl : Nat} {ps : List (Int × List Int)} (h : vldD dl ps = true) (k : Nat) (hk : k < ps.length) : ∃ b : Nat, pB ps k = b ∧ b * 64 + 64 ≤ dl ∧ b ≤ 300 ∧ (pD ps k).length = 64 := by
  obtain ⟨h1, h2, h3, h4, h5⟩ := (vldD_iff dl ps).1 h
  obtain ⟨k1, k2, k3⟩ := h5 k hk
  exact ⟨(pB ps k).toNat, by omega, by omega, by omega, k3⟩

theorem stl_len (dur : List Int) (ps : List (Int × List Int)) (c : Nat → Nat) (h : vldD dur.length ps = true) : ∀ k, k ≤ ps.length → (stl dur ps c k).length = dur.length
  | 0, _ => rfl
  | k + 1, hk => by
    have ih := stl_len dur ps c h k (by omega)
    obtain ⟨b, hb, hb2, _, hd⟩ := vld_at h k (by omega)
    rw [stl, length_splice, ih]
    rw [hb, Int.toNat_natCast, List.length_take, ih, hd]
    omega

theorem stl_congr (dur : List Int) (ps : List (Int × List Int)) (c c' : Nat → Nat) : ∀ k, (∀ i, i < k → c i = c' i) → stl dur ps c k = stl dur ps c' k
  | 0, _ => rfl
  | k + 1, h => by rw [stl, stl, stl_congr dur ps c c' k (fun i hi => h i (by omega)), h k (by omega)]

/-- How many of its bytes write i keeps. -/
def chc (cs : List Int) (i : Nat) : Nat := if i < cs.length then (if 0 ≤ cs.getD i 0 ∧ cs.getD i 0 < 64 then (cs.getD i 0).toNat else 64) else 0
theorem chc_le (cs : List Int) (i : Nat) : chc cs i ≤ 64 := by
  unfold chc; split
  · split
    · omega
    · omega
  · omega

def crOk (dl : Nat) (ps : List (Int × List Int)) (m : Nat) : Bool := vldD dl ps && decide (m ≤ 2000)
def crD (dur : List Int) (ps : List (Int × List Int)) (cs : List Int) : List Int := if crOk dur.length ps cs.length then stl dur ps (chc cs) ps.length else []
def syD (dur : List Int) (ps : List (Int × List Int)) : List Int := if vldD dur.length ps then stl dur ps (fun _ => 64) ps.length else []

theorem crD_len (dur : List Int) (ps : List (Int × List Int)) (cs : List Int) : (crD dur ps cs).length ≤ dur.length := by
  unfold crD; split
  · rename_i h
    rw [stl_len dur ps _ (by unfold crOk at h; simp only [Bool.and_eq_true] at h; exact h.1) _ (Nat.le_refl _)]; exact Nat.le_refl _
  · simp
theorem syD_len (dur : List Int) (ps : List (Int × List Int)) : (syD dur ps).length ≤ dur.length := by
  unfold syD; split
  · rename_i h
    rw [stl_len dur ps _ h _ (Nat.le_refl _)]; exact Nat.le_refl _
  · simp

end Go.Proofs.Ytoljmlhnbmeloaa

namespace Go.Proofs.Ytoljmlhnbmeloaa
open Go.RowKit

/-- The cells of a table's rows. -/
def rowT (rs : List (Int × List Int)) : List Value := rs.flatMap fun r => .int .i64 r.1 :: r.2.map (Value.int .u8)
theorem rowT_nil : rowT [] = [] := rfl
theorem rowT_app (a b : List (Int × List Int)) : rowT (a ++ b) = rowT a ++ rowT b := by simp [rowT]
theorem rowT_one (x : Int) (V : List Int) : rowT [(x, V)] = .int .i64 x :: V.map (Value.int .u8) := by simp [rowT]

theorem rowT_len : ∀ (rs : List (Int × List Int)), (∀ i, i < rs.length → (pD rs i).length = 64) → (rowT rs).length = rs.length * 65
  | [], _ => rfl
  | r :: rs, h => by
    have h0 : r.2.length = 64 := h 0 (by simp)
    have ih := rowT_len rs (fun i hi => h (i + 1) (by simp; omega))
    have e : rowT (r :: rs) = rowT [(r.1, r.2)] ++ rowT rs := by simp [rowT]
    rw [e, List.length_append, ih, rowT_one]
    simp [h0]; omega

theorem pB_take (rs : List (Int × List Int)) (i k : Nat) (h : i < k) : pB (rs.take k) i = pB rs i := by unfold pB; simp [List.getD, List.getElem?_take_of_lt h]
theorem pD_take (rs : List (Int × List Int)) (i k : Nat) (h : i < k) : pD (rs.take k) i = pD rs i := by unfold pD; simp [List.getD, List.getElem?_take_of_lt h]

theorem rs_split (rs : List (Int × List Int)) (i : Nat) (hi : i < rs.length) : rs = rs.take i ++ ((pB rs i, pD rs i) :: rs.drop (i + 1)) := by
  have e : (pB rs i, pD rs i) = rs[i] := by unfold pB pD; simp [List.getD, hi]
  rw [e]
  conv => lhs; rw [← List.take_append_drop i rs]
  rw [List.drop_eq_getElem_cons hi]

theorem rowT_split (rs : List (Int × List Int)) (i : Nat) (hi : i < rs.length) : rowT rs = rowT (rs.take i) ++ (.int .i64 (pB rs i) :: ((pD rs i).map (Value.int .u8) ++ rowT (rs.drop (i + 1)))) := by
  conv => lhs; rw [rs_split rs i hi]
  rw [rowT_app]
  congr 1

theorem rowT_pre (rs : List (Int × List Int)) (i : Nat) (hi : i ≤ rs.length) (h : ∀ i, i < rs.length → (pD rs i).length = 64) : (rowT (rs.take i)).length = i * 65 := by
  rw [rowT_len _ (fun j hj => by rw [List.length_take] at hj; rw [pD_take _ _ _ (by omega)]; exact h j (by omega)), List.length_take, Nat.min_eq_left hi]

/-- The key of a row, and its value. -/
theorem rowT_key (rs : List (Int × List Int)) (i : Nat) (hi : i < rs.length) (h : ∀ i, i < rs.length → (pD rs i).length = 64) : (rowT rs)[i * 65]? = some (.int .i64 (pB rs i)) := by
  rw [rowT_split rs i hi, List.getElem?_append_right (by rw [rowT_pre rs i (by omega) h]; exact Nat.le_refl _), rowT_pre rs i (by omega) h]
  simp

theorem rowT_val (rs : List (Int × List Int)) (i : Nat) (hi : i < rs.length) (h : ∀ i, i < rs.length → (pD rs i).length = 64) (j : Nat) (u : Value) (hu : ((pD rs i).map (Value.int .u8))[j]? = some u) : (rowT rs)[i * 65 + 1 + j]? = some u := by
  have hj : j < (pD rs i).length := by have := (List.getElem?_eq_some_iff.1 hu).1; simpa using this
  rw [rowT_split rs i hi, List.getElem?_append_right (by rw [rowT_pre rs i (by omega) h]; omega), rowT_pre rs i (by omega) h, show i * 65 + 1 + j - i * 65 = j + 1 by omega, List.getElem?_cons_succ, List.getElem?_append_left (by simpa using hj)]
  exact hu

theorem set_split (rs : List (Int × List Int)) (i : Nat) (hi : i < rs.length) (r : Int × List Int) : rs.set i r = rs.take i ++ (r :: rs.drop (i + 1)) := by
  rw [List.set_eq_take_append_cons_drop, if_pos hi]

theorem rowT_set (rs : List (Int × List Int)) (i : Nat) (hi : i < rs.length) (h : ∀ i, i < rs.length → (pD rs i).length = 64) (V : List Int) (hV : V.length = 64) :
    rowT (rs.set i (pB rs i, V)) = splice (rowT rs) (i * 65 + 1) (V.map (Value.int .u8)) := by
  have hp := rowT_pre rs i (by omega) h
  have hd := h i hi
  rw [set_split rs i hi, rowT_app]
  have e1 : rowT ((pB rs i, V) :: rs.drop (i + 1)) = .int .i64 (pB rs i) :: (V.map (Value.int .u8) ++ rowT (rs.drop (i + 1))) := by simp [rowT]
  rw [e1, rowT_split rs i hi]
  generalize rowT (rs.take i) = A at *
  generalize rowT (rs.drop (i + 1)) = B at *
  have hO : ((pD rs i).map (Value.int .u8)).length = 64 := by simpa using hd
  have hV' : (V.map (Value.int .u8)).length = 64 := by simpa using hV
  generalize (pD rs i).map (Value.int .u8) = O at *
  generalize V.map (Value.int .u8) = V' at *
  generalize Value.int .i64 (pB rs i) = x at *
  unfold splice
  have t1 : (A ++ x :: (O ++ B)).take (i * 65 + 1) = A ++ [x] := by
    rw [List.take_append, List.take_of_length_le (by omega), show i * 65 + 1 - A.length = 1 by omega]; rfl
  have t2 : (A ++ x :: (O ++ B)).drop (i * 65 + 1 + V'.length) = B := by
    rw [List.drop_append, List.drop_eq_nil_of_le (by omega), show i * 65 + 1 + V'.length - A.length = 64 + 1 by omega, List.drop_succ_cons, List.drop_append, List.drop_eq_nil_of_le (by omega), show 64 - O.length = 0 by omega]
    simp
  rw [t1, t2]
  simp

theorem pB_set (rs : List (Int × List Int)) (i j : Nat) (hi : i < rs.length) (V : List Int) : pB (rs.set i (pB rs i, V)) j = pB rs j := by
  unfold pB
  simp only [List.getD, List.getElem?_set]
  by_cases e : i = j
  · subst e; simp [hi]
  · simp [e]
theorem pD_set (rs : List (Int × List Int)) (i j : Nat) (hi : i < rs.length) (V : List Int) : pD (rs.set i (pB rs i, V)) j = if j = i then V else pD rs j := by
  unfold pD
  simp only [List.getD, List.getElem?_set]
  by_cases e : i = j
  · subst e; simp [hi]
  · rw [if_neg e, if_neg (fun h => e h.symm)]

/-- One put. -/
def Put (rs : List (Int × List Int)) (x : Int) (V : List Int) (rs' : List (Int × List Int)) : Prop :=
  (∃ i, i < rs.length ∧ pB rs i = x ∧ rs' = rs.set i (pB rs i, V)) ∨ ((∀ i, i < rs.length → pB rs i ≠ x) ∧ rs' = rs ++ [(x, V)])

/-- The table after the first k pending writes. -/
def TabOf (dur : List Int) (ps : List (Int × List Int)) (k : Nat) (rs : List (Int × List Int)) : Prop :=
  (∀ b : Nat, (∀ i, i < rs.length → pB rs i = b → rdv dur ps b k = pD rs i) ∧ ((∀ i, i < rs.length → pB rs i ≠ b) → rdv dur ps b k = rdv dur ps b 0)) ∧
  (∀ i, i < rs.length → ∃ b : Nat, pB rs i = b ∧ b * 64 + 64 ≤ dur.length ∧ b ≤ 300)

theorem tabOf_nil (dur : List Int) (ps : List (Int × List Int)) : TabOf dur ps 0 [] := ⟨fun b => ⟨fun i hi => by simp at hi, fun _ => rfl⟩, fun i hi => by simp at hi⟩

theorem rdv_at (dur : List Int) (ps : List (Int × List Int)) (b k : Nat) (h : pB ps k = b) : rdv dur ps b (k + 1) = pD ps k := by unfold rdv; rw [if_pos h]
theorem rdv_off (dur : List Int) (ps : List (Int × List Int)) (b k : Nat) (h : ¬ pB ps k = b) : rdv dur ps b (k + 1) = rdv dur ps b k := by rw [rdv, if_neg h]

theorem tabOf_put (dur : List Int) (ps rs rs' : List (Int × List Int)) (k : Nat) (ht : TabOf dur ps k rs) (hk : ∃ b : Nat, pB ps k = b ∧ b * 64 + 64 ≤ dur.length ∧ b ≤ 300)
    (hap : ∀ i j, i < rs.length → j < rs.length → pB rs i = pB rs j → i = j) (h : Put rs (pB ps k) (pD ps k) rs') : TabOf dur ps (k + 1) rs' := by
  obtain ⟨h1, h2⟩ := ht
  rcases h with ⟨i, hi, hx, rfl⟩ | ⟨hno, rfl⟩
  · have hl : (rs.set i (pB rs i, pD ps k)).length = rs.length := List.length_set ..
    refine ⟨fun b => ⟨fun j hj hb => ?_, fun hb => ?_⟩, fun j hj => ?_⟩
    · rw [hl] at hj
      rw [pB_set rs i j hi] at hb
      rw [pD_set rs i j hi]
      by_cases e : j = i
      · subst e; rw [if_pos rfl]; exact rdv_at dur ps b k (by rw [← hx]; exact hb)
      · rw [if_neg e, rdv_off dur ps b k (fun e' => e (hap j i hj hi (by rw [hb, hx, e'])))]
        exact (h1 b).1 j hj hb
    · have hb' : ∀ j, j < rs.length → pB rs j ≠ b := fun j hj => by have := hb j (by rw [hl]; exact hj); rw [pB_set rs i j hi] at this; exact this
      rw [rdv_off dur ps b k (fun e => hb' i hi (by rw [hx, e]))]
      exact (h1 b).2 hb'
    · rw [hl] at hj
      rw [pB_set rs i j hi]
      exact h2 j hj
  · have hl : (rs ++ [(pB ps k, pD ps k)]).length = rs.length + 1 := by simp
    refine ⟨fun b => ⟨fun j hj hb => ?_, fun hb => ?_⟩, fun j hj => ?_⟩
    · rw [hl] at hj
      by_cases e : j = rs.length
      · subst e
        rw [pB_last] at hb
        rw [pD_last]; exact rdv_at dur ps b k hb
      · rw [pB_app _ _ _ (by omega)] at hb
        rw [pD_app _ _ _ (by omega), rdv_off dur ps b k (fun e' => hno j (by omega) (by rw [hb, e']))]
        exact (h1 b).1 j (by omega) hb
    · have hn := hb rs.length (by rw [hl]; omega)
      rw [pB_last] at hn
      rw [rdv_off dur ps b k hn]
      exact (h1 b).2 (fun j hj => by have := hb j (by rw [hl]; omega); rw [pB_app _ _ _ hj] at this; exact this)
    · rw [hl] at hj
      by_cases e : j = rs.length
      · subst e; rw [pB_last]; exact hk
      · rw [pB_app _ _ _ (by omega)]; exact h2 j (by omega)

/-- What a table's map says. -/
def MF (D : DataW Unit) (rs : List (Int × List Int)) : Prop :=
  (∀ x : Int, Maps.has D (.int .i64 x) = true ↔ ∃ i, i < rs.length ∧ pB rs i = x) ∧ ∀ i, i < rs.length → ∀ z, D.atKey (.int .i64 (pB rs i)) z = .lit (.int .i64 i)

theorem MF.set {D : DataW Unit} {rs : List (Int × List Int)} (h : MF D rs) (i : Nat) (hi : i < rs.length) (V : List Int) : MF D (rs.set i (pB rs i, V)) := by
  have hl : (rs.set i (pB rs i, V)).length = rs.length := List.length_set ..
  refine ⟨fun x => ?_, fun j hj z => ?_⟩
  · rw [h.1 x, hl]
    constructor
    · rintro ⟨j, hj, e⟩; exact ⟨j, hj, by rw [pB_set rs i j hi]; exact e⟩
    · rintro ⟨j, hj, e⟩; rw [pB_set rs i j hi] at e; exact ⟨j, hj, e⟩
  · rw [hl] at hj; rw [pB_set rs i j hi]; exact h.2 j hj z

theorem MF.snoc {D : DataW Unit} {rs : List (Int × List Int)} (h : MF D rs) (hD : Maps.IsMap D) (x : Int) (V : List Int) (hno : ∀ i, i < rs.length → pB rs i ≠ x) : MF (D.put (.int .i64 x) (.lit (.int .i64 (rs.length : Int)))) (rs ++ [(x, V)]) := by
  have hl : (rs ++ [(x, V)]).length = rs.length + 1 := by simp
  refine ⟨fun y => ?_, fun j hj z => ?_⟩
  · by_cases e : y = x
    · subst e
      rw [Maps.has_put_same (k := .int .i64 y) hD trivial]
      exact ⟨fun _ => ⟨rs.length, by rw [hl]; omega, pB_last _ _⟩, fun _ => rfl⟩
    · rw [Maps.has_put_other (by intro h; injection h; contradiction), h.1 y, hl]
      constructor
      · rintro ⟨j, hj, e'⟩; exact ⟨j, by omega, by rw [pB_app _ _ _ hj]; exact e'⟩
      · rintro ⟨j, hj, e'⟩
        by_cases ej : j = rs.length
        · subst ej; rw [pB_last] at e'; exact absurd e'.symm e
        · rw [pB_app _ _ _ (by omega)] at e'; exact ⟨j, by omega, e'⟩
  · rw [hl] at hj
    by_cases ej : j = rs.length
    · subst ej; rw [pB_last]; exact Maps.atKey_put_same (k := .int .i64 x) hD trivial _ _
    · rw [pB_app _ _ _ (by omega), Maps.atKey_put_other (by intro h'; injection h' with _ h'; exact hno j (by omega) h')]
      exact h.2 j (by omega) z

end Go.Proofs.Ytoljmlhnbmeloaa

namespace Go.Proofs.Ytoljmlhnbmeloaa
open Go.RowKit

set_option maxHeartbeats 400000 in
theorem keptBytes_any (w : World) (v : Value) (cs : List Int) (i : Nat) (h : Rd .i64 w v cs) (_hi : i ≤ 1048576) :
    Calls Try.prog 55 #[v, .int .i64 i] w fun e w' => e = .returned (.int .i64 (chc cs i)) ∧ w' = w := by
  obtain ⟨ao, cap, rfl, h1, h2, h3⟩ := h
  unfold maxLen at h2
  by_cases hlt : i < cs.length
  · rcases h3 with rfl | ⟨b, o, rfl, hb, hc⟩
    · simp at hlt
    · have c1 := hc i hlt
      have hge : ¬ (cs.length : Int) ≤ (i : Int) := by omega
      have hltI : (i : Int) < (cs.length : Int) := by omega
      have HE : Hid (chc cs i = if 0 ≤ cs.getD i 0 ∧ cs.getD i 0 < 64 then (cs.getD i 0).toNat else 64) := by show _ = _; unfold chc; rw [if_pos hlt]
      clear hc
      generalize hx : cs.getD i 0 = x at *
      clear hx
      by_cases hin : 0 ≤ x ∧ x < 64
      · have HV : Hid (((chc cs i : Nat) : Int) = x) := by have := HE.out; rw [if_pos hin] at this; show _ = _; omega
        obtain ⟨i1, i2⟩ := hin
        have d1 : decide (0 ≤ x) = true := by simpa using i1
        have d2 : decide (x < 64) = true := by simpa using i2
        go_enter Try.func55, Try.ntmps55
        go_wp2
        go_ret
        exact ⟨by rw [HV.out]; try rfl, rfl⟩
      · have HV : Hid (((chc cs i : Nat) : Int) = 64) := by have := HE.out; rw [if_neg hin] at this; show _ = _; omega
        by_cases i1 : 0 ≤ x
        · have i2 : ¬ x < 64 := fun h => hin ⟨i1, h⟩
          have d1 : decide (0 ≤ x) = true := by simpa using i1
          have d2 : decide (x < 64) = false := by simpa using i2
          clear hin
          go_enter Try.func55, Try.ntmps55
          go_wp2
          go_ret
          exact ⟨by rw [HV.out]; try rfl, rfl⟩
        · have d1 : decide (0 ≤ x) = false := by simpa using i1
          clear hin
          go_enter Try.func55, Try.ntmps55
          go_wp2
          go_ret
          exact ⟨by rw [HV.out]; try rfl, rfl⟩
  · have HV : Hid (((chc cs i : Nat) : Int) = 0) := by show _ = _; unfold chc; rw [if_neg hlt]; rfl
    have hge : (cs.length : Int) ≤ (i : Int) := by omega
    clear h3
    go_enter Try.func55, Try.ntmps55
    go_wp2
    go_ret
    exact ⟨by rw [HV.out]; try rfl, rfl⟩

theorem step_copy_grown {P : Program} {ops : Array Oper} {o : Oper} {a : Act} {w : World} {K : Act → World → Prop} {Q : Exit → Act → World → Prop} {E : Prop} (hgd : o.guard = none) (d s : Operand) (dT sT : TypeId)
    (ho : o.op = .call { callee := .builtin .copy, args := #[d, s], argTypes := #[dT, sT] }) (elem : TypeId) (hu : P.underlying dT = some (.slice elem)) (hsz : (P.info? elem).map (·.size) = some 1)
    (dp sp : Option Addr) (dLen dCap sLen sCap : Nat) (hd : a.eval d = .slice dp dLen dCap) (hs : a.eval s = .slice sp sLen sCap)
    (g off : Nat) (cur : List Value) (t : TypeId) (hg : w.heap[g]? = some (.cells cur.toArray t (0, 0))) (cs : List Value) (hn : cs.length = Nat.min sLen dLen)
    (hpos : 0 < cs.length → dp = some ⟨g, off, none⟩ ∧ ∃ ad, sp = some ad ∧ ∀ j v, cs[j]? = some v → w.cell? (ad.add j) = some v)
    (hfit : off + cs.length ≤ cur.length) (h1 : ∀ v ∈ cs, v.oneCell' = true)
    (h : ∀ w', Hid (w'.heap[g]? = some (.cells (splice cur off cs).toArray t (0, 0))) → Hid (w.grownBy w' (some g)) → K (a.put o.dst (goInt cs.length)) w') :
    if Region.wanted o (yielded ops a.tmps) = true then Oper.wp P o a w K Q else E := by
  have hw : Region.wanted o (yielded ops a.tmps) = true := by simp [Region.wanted, hgd]
  rw [if_pos hw]
  by_cases h0 : cs.length = 0
  · obtain rfl : cs = [] := List.eq_nil_of_length_eq_zero h0
    have hrun := run_copy_none (P := P) w dT sT o.type elem dp sp dLen dCap sLen sCap hu hsz (by simpa using hn.symm)
    unfold Oper.wp
    simp [execOp, ho, resolve, invoke, builtin, hd, hs, hrun, Result.andThen]
    exact h w (show _ = _ by simpa [splice] using hg) (World.grownBy.refl _ _)
  · obtain ⟨rfl, ad, rfl, hsrc⟩ := hpos (by omega)
    have hrun := run_copy_row (P := P) w dT sT o.type elem g off dLen dCap ad sLen sCap cur.toArray t cs hu hsz hg hn hsrc (by simpa using hfit) h1
    unfold Oper.wp
    simp [execOp, ho, resolve, invoke, builtin, hd, hs, hrun, Result.andThen]
    exact h _ (show _ = _ by simpa [splice] using setRow_heap w g _ _ t _ hg) (show World.grownBy _ _ _ from ⟨rfl, rfl, rfl, by simp [World.setRow], fun k _ hne => setRow_other w g k _ (fun e => hne (by rw [e]))⟩)

theorem there_third (w : World) (o1 o2 : Obj) (cs : Array Value) (t : TypeId) (n : Nat) (h : cs.size = n) : (((w.alloc o1).alloc o2).alloc (.cells cs t)).there (w.heap.size + 1 + 1) 0 n := by
  have := there_new ((w.alloc o1).alloc o2) cs t n h
  rwa [World.size_alloc, World.size_alloc] at this

theorem sizeA (n : Nat) (h : n = 64) : (Try.prog.info? 75).map (·.size) = some n := by subst h; kernel_rfl
theorem sizeB : (Try.prog.info? 5).map (·.size) = some 1 := by kernel_rfl

set_option maxHeartbeats 400000 in
set_option maxRecDepth 100000 in
theorem tornBlock_any (w : World) (bs ws : List Int) (c : Nat) (hb : bs.length = 64) (hw : ws.length = 64) (hc : c ≤ 64) :
    Calls Try.prog 54 #[.agg (bs.map (Value.int .u8)).toArray, .agg (ws.map (Value.int .u8)).toArray, .int .i64 c] w fun e w' => e = .returned (.agg ((splice bs 0 (ws.take c)).map (Value.int .u8)).toArray) ∧ Below w.heap.size w w' := by
  rw [splice_map]
  obtain ⟨X, hX⟩ : ∃ X, X = bs.map (Value.int .u8) := ⟨_, rfl⟩
  obtain ⟨Y, hY⟩ : ∃ Y, Y = ws.map (Value.int .u8) := ⟨_, rfl⟩
  obtain ⟨Z, hZ⟩ : ∃ Z, Z = (ws.take c).map (Value.int .u8) := ⟨_, rfl⟩
  rw [← hX, ← hY, ← hZ]
  obtain ⟨V, hV⟩ : ∃ V, V = splice X 0 Z := ⟨_, rfl⟩
  rw [← hV]
  have HV : Hid (V = splice X 0 Z) := hV
  have HX : Hid (X.length = 64) := by subst hX; show _ = _; simpa using hb
  have HY : Hid (Y.length = 64) := by subst hY; show _ = _; simpa using hw
  have HZ : Hid (Z.length = c) := by subst hZ; show _ = _; simp; omega
  have HZY : Hid (∀ (j : Nat) (v : Value), Z[j]? = some v → Y[j]? = some v) := by
    subst hZ; subst hY
    intro j v h
    simp [List.getElem?_take] at h ⊢
    obtain ⟨-, a, h2⟩ := h
    exact ⟨a, h2⟩
  have HZ1 : Hid (∀ v ∈ Z, v.oneCell' = true) := by subst hZ; exact ints_oneCell _ _
  have HX1 : Hid (∀ v ∈ X, v.oneCell' = true) := by subst hX; exact ints_oneCell _ _
  clear hX hY hZ hb hw hV
  go_enter Try.func54, Try.ntmps54
  go_wp2_with fail
  generalize hW : World.alloc _ _ = W0
  have GX : Hid (W0.heap[w.heap.size]? = some (.cells X.toArray 75 (0, 0))) := by
    subst hW; show _ = _
    rw [Below.heap_alloc _ _ _ (by simp; omega), Below.heap_alloc _ _ _ (by simp), heap_alloc_new]
  have GY : Hid (W0.heap[w.heap.size + 1]? = some (.cells Y.toArray 75 (0, 0))) := by
    subst hW; show _ = _
    rw [Below.heap_alloc _ _ _ (by simp)]
    have := heap_alloc_new (w.alloc (.cells X.toArray 75)) (.cells Y.toArray 75)
    simpa using this
  have TR : Hid (W0.there (w.heap.size + 1 + 1) 0 64) := by
    subst hW
    exact there_third _ _ _ _ _ _ rfl
  have BW : Hid (Below w.heap.size w W0) := by
    subst hW
    exact (((Below.refl _ _).alloc (Nat.le_refl _) _).alloc (by simp) _).alloc (by simp; omega) _
  have CY : Hid (∀ (j : Nat) (v : Value), Z[j]? = some v → W0.cell? ((⟨w.heap.size + 1, 0, none⟩ : Addr).add j) = some v) := by
    intro j v h
    rw [Addr.add_lit, Nat.zero_add, cell_of_row W0 _ j _ _ _ GY.out]
    simpa using HZY.out j v h
  have hsz : W0.heap.size = w.heap.size + 3 := by subst hW; simp
  clear hW
  have hcI : (c : Int) ≤ 64 := by omega
  go_region_law (refine step_copy_grown rfl (.tmp 8) (.tmp 10) 29 29 rfl 5 Try.underlying29 sizeB _ _ _ _ _ _ rfl rfl w.heap.size 0 X 75 GX.out Z (by rw [HZ.out]; exact (Nat.min_self c).symm) (fun _ => ⟨rfl, ⟨w.heap.size + 1, 0, none⟩, rfl, CY.out⟩) (by rw [HZ.out, HX.out]; omega) HZ1.out ?_; intro w4 hg4 hb4)
  have hlen : V.length = 64 := by rw [HV.out, length_splice _ _ _ (by rw [HZ.out, HX.out]; omega), HX.out]
  have HLEN : Hid (V.length = 64) := hlen
  have RG4 : Hid (w4.rangeAt w.heap.size 0 V) := by
    intro j v h
    rw [Nat.zero_add, cell_of_row w4 _ j _ _ _ hg4.out]
    rw [← HV.out]; simpa using h
  have TR4 : Hid (w4.there (w.heap.size + 1 + 1) 0 64) := by
    intro j hj
    obtain ⟨k1, k2⟩ := TR.out j hj
    refine ⟨?_, ?_⟩
    · rw [hb4.out.cell_far ⟨w.heap.size + 1 + 1, 0 + j, none⟩ (by show w.heap.size + 1 + 1 < W0.heap.size; omega) (by simp; omega)]; exact k1
    · rw [hb4.out.frozen_far ⟨w.heap.size + 1 + 1, 0 + j, none⟩ (by show w.heap.size + 1 + 1 < W0.heap.size; omega) (by simp; omega)]; exact k2
  have B4 : Hid (Below w.heap.size w w4) := BW.out.grown (show W0.grownBy w4 (some w.heap.size) from ⟨hb4.out.os, hb4.out.tape, hb4.out.output, hb4.out.size, hb4.out.block⟩) (by omega) (by intro q hq; simp at hq; omega)
  have H1 : Hid (∀ v ∈ V, v.oneCell' = true) := by
    intro v hv
    rw [HV.out] at hv
    unfold splice at hv
    simp only [List.mem_append] at hv
    rcases hv with hv | hv | hv
    · exact HX1.out v (List.mem_of_mem_take hv)
    · exact HZ1.out v hv
    · exact HX1.out v (List.mem_of_mem_drop hv)
  clear hg4 hb4 hlen
  go_wp2_with (first | (refine wpList_load_mid rfl 75 _ rfl w.heap.size 0 rfl V _ RG4.out Try.underlying75 rfl (sizeA _ HLEN.out) ?_) | (refine wpList_store_mid rfl 75 _ _ rfl (w.heap.size + 1 + 1) 0 V.toArray rfl rfl ?s1 ?s2 ?s3 ?_))
  case s1 =>
    have e : V.toArray.size = 64 := by rw [List.size_toArray]; exact HLEN.out
    rw [e]; exact TR4.out
  case s2 => rw [List.size_toArray]; exact sizeA _ HLEN.out
  case s3 => exact all_oneCell_toArray H1.out
  refine bodyPost_ret (v := .agg V.toArray) ?_ rfl ⟨rfl, ?_⟩
  · have LV : (loadVar 75 ⟨w.heap.size + 1 + 1, 0, none⟩).run Try.prog (w4.setCells (w.heap.size + 1 + 1) 0 V) = .ok (.agg V.toArray) (w4.setCells (w.heap.size + 1 + 1) 0 V) :=
      run_loadVar_mid (P := Try.prog) _ (w.heap.size + 1 + 1) 0 75 _ _ (World.rangeAt_setCells_same _ _ _ _ (by rw [HLEN.out]; exact TR4.out)) Try.underlying75 rfl (sizeA _ HLEN.out)
    simp [results, Try.results54, Act.put, asAddr]
    exact LV
  · exact below_setCells (by omega) _ _ _ B4.out

set_option maxHeartbeats 400000 in
set_option maxRecDepth 100000 in
theorem setBlock_any (w : World) (base g dl cap b : Nat) (D C : List Int) (ho : Own .u8 5 w base (.slice (some ⟨g, 0, none⟩) dl cap) D) (hD : D.length = dl) (hC : C.length = 64) (hb : b * 64 + 64 ≤ dl) (hd1 : dl ≤ 1048576) :
    Calls Try.prog 53 #[.slice (some ⟨g, 0, none⟩) dl cap, .int .i64 b, .agg (C.map (Value.int .u8)).toArray] w fun e w' => e = .returned (.tuple #[]) ∧ Own .u8 5 w' base (.slice (some ⟨g, 0, none⟩) dl cap) (splice D (b * 64) C) ∧ w.grownBy w' (some g) := by
  obtain ⟨X, hX⟩ : ∃ X, X = C.map (Value.int .u8) := ⟨_, rfl⟩
  rw [← hX]
  have HX : Hid (X.length = 64) := by subst hX; show _ = _; simpa using hC
  have HX1 : Hid (∀ v ∈ X, v.oneCell' = true) := by subst hX; exact ints_oneCell _ _
  have HO : Hid (Own .u8 5 w base (.slice (some ⟨g, 0, none⟩) dl cap) D) := ho
  obtain ⟨cur, hgb, hcur, hcap, hcm, htake⟩ : ∃ cur : Array Value, w.heap[g]? = some (.cells cur 5 (0, 0)) ∧ cur.size = cap ∧ dl ≤ cap ∧ cap ≤ maxLen ∧ cur.toList.take dl = D.map (Value.int .u8) := by
    rcases ho.2 with ⟨h, -⟩ | ⟨g', cap', cur, e, -, h2, h3, h4, h5, h6⟩
    · simp at h
    · simp only [Value.slice.injEq, Option.some.injEq, Addr.mk.injEq] at e
      obtain ⟨⟨rfl, -⟩, -, rfl⟩ := e
      rw [hD] at h3 h6
      rw [Nat.mul_one] at h5 h6
      exact ⟨cur, h2, h5, h3, h4, h6⟩
  have hgz : g < w.heap.size := (Array.getElem?_eq_some_iff.1 hgb).1
  have HGB : Hid (w.heap[g]? = some (.cells cur 5 (0, 0))) := hgb
  have HCUR : Hid (cur.size = cap) := hcur
  have HBASE : Hid (base ≤ g) := (World.ownsRow.lt ho g rfl).1
  have HFIN : Hid ((splice cur.toList (b * 64) X).take dl = (splice D (b * 64) C).map (Value.int .u8) ∧ (splice D (b * 64) C).length = dl ∧ (splice cur.toList (b * 64) X).length = cap) := by
    have hcl : cur.toList.length = cap := by simpa using hcur
    have hxl : X.length = 64 := HX.out
    refine ⟨?_, by rw [length_splice _ _ _ (by omega), hD], by rw [length_splice _ _ _ (by omega), hcl]⟩
    rw [splice_map, ← htake, ← hX]
    apply List.ext_getElem?
    intro j
    rw [splice_get _ _ _ (by rw [List.length_take]; omega), List.getElem?_take]
    by_cases hj : j < dl
    · rw [if_pos hj, splice_get _ _ _ (by omega), List.getElem?_take_of_lt hj]
    · rw [if_neg hj, if_neg (by omega), if_neg (by omega), List.getElem?_take, if_neg hj]
  unfold maxLen at hcm
  clear hX hC ho hgb htake hcur
  go_enter Try.func53, Try.ntmps53
  go_wp2_with fail
  have GA : Hid ((w.alloc (.cells X.toArray 75)).heap[g]? = some (.cells cur.toList.toArray 5 (0, 0))) := by
    show _ = _
    rw [Below.heap_alloc _ _ _ hgz, Array.toArray_toList]; exact HGB.out
  have CX : Hid (∀ (j : Nat) (v : Value), X[j]? = some v → (w.alloc (.cells X.toArray 75)).cell? ((⟨w.heap.size, 0, none⟩ : Addr).add j) = some v) := by
    intro j v h
    rw [Addr.add_lit, Nat.zero_add, cell_of_row _ _ j _ _ _ (heap_alloc_new w _)]
    simpa using h
  have hbI : ((b * 64 : Nat) : Int) ≤ (dl : Int) := by omega
  have hbI2 : (b : Int) * 64 ≤ (dl : Int) := by omega
  have hwr : IntKind.i64.wrap ((b : Int) * 64) = ((b * 64 : Nat) : Int) := by rw [IntKind.wrap_i64]; omega
  have hnc : ¬ cap = b * 64 := by omega
  have hb0 : (0 : Int) ≤ (b : Int) * 64 := by omega
  have htn : ((b : Int) * 64).toNat = b * 64 := by omega
  have hgr : w.grownBy (w.alloc (.cells X.toArray 75)) (some g) := World.grownBy_alloc _ _ _
  have HGR : Hid (w.grownBy (w.alloc (.cells X.toArray 75)) (some g)) := hgr
  clear hgr
  generalize w.alloc (.cells X.toArray 75) = W0 at *
  go_region_law (refine step_copy_grown rfl (.tmp 9) (.tmp 10) 29 29 rfl 5 Try.underlying29 sizeB _ _ _ _ _ _ rfl rfl g (b * 64) cur.toList 5 GA.out X (by rw [HX.out]; exact (Nat.min_eq_left (show 64 ≤ dl - b * 64 by omega)).symm) (fun _ => ⟨rfl, ⟨w.heap.size, 0, none⟩, rfl, CX.out⟩) (by rw [HX.out, Array.length_toList, HCUR.out]; omega) HX1.out ?_; intro w4 hg4 hb4)
  go_wp2
  go_end0
  refine ⟨rfl, ?_, ?_⟩
  · refine ⟨by rw [HFIN.out.2.1]; simpa using HFIN.out.2.1, .inr ⟨g, cap, (splice cur.toList (b * 64) X).toArray, ?_, HBASE.out, hg4.out, by rw [HFIN.out.2.1]; exact hcap, hcm, ?_, ?_⟩⟩
    · rw [HFIN.out.2.1]
    · simpa using HFIN.out.2.2
    · rw [HFIN.out.2.1, Nat.mul_one]; exact HFIN.out.1
  · exact HGR.out.trans (show W0.grownBy w4 (some g) from ⟨hb4.out.os, hb4.out.tape, hb4.out.output, hb4.out.size, hb4.out.block⟩)

end Go.Proofs.Ytoljmlhnbmeloaa

namespace Go.Proofs.Ytoljmlhnbmeloaa
open Go.RowKit

/-- A table of the call's own: its struct lies in block tb, its map in block mb. -/
structure Tab (w : World) (lo tb mb : Nat) (v : Value) (rs : List (Int × List Int)) : Prop where
  box : BoxF w tb v (.map (some mb))
  rows : w.ownsRow lo 111 65 v rs.length (rowT rs)
  map : ∃ D : DataW Unit, w.ownsMap Try.prog 2 (plainElem Try.prog 3) mb rs.length D ∧ MF D rs
  full : ∀ i, i < rs.length → (pD rs i).length = 64
  apart : ∀ i j, i < rs.length → j < rs.length → pB rs i = pB rs j → i = j
  lot : lo ≤ tb
  lom : lo ≤ mb
  ne : tb ≠ mb
  vt : v.ownBlock ≠ some tb
  vm : v.ownBlock ≠ some mb

theorem Tab.below {w w' : World} {lo tb mb : Nat} {v : Value} {rs : List (Int × List Int)} (h : Tab w lo tb mb v rs) (hb : Below w.heap.size w w') : Tab w' lo tb mb v rs := by
  have G : w.grownBy w' none := ⟨hb.os, hb.tape, hb.output, hb.size, fun q hq _ => hb.block q hq⟩
  obtain ⟨D, hD, hM⟩ := h.map
  refine ⟨h.box.below hb, World.ownsRow.kept h.rows G ?_, ⟨D, hD.kept G (by simp), hM⟩, h.full, h.apart, h.lot, h.lom, h.ne, h.vt, h.vm⟩
  cases v.ownBlock with
  | none => exact .inl rfl
  | some q => exact .inr (by simp)

theorem lawK : Maps.Keyed Try.prog 2 := Maps.int_keyed Try.underlying2
theorem zeroInt (w : World) : (zeroValue 3).run Try.prog w = .ok (.int .i64 0) w := by kernel_rfl
theorem infoT : (Try.prog.info? 111).map (fun i => (i.size, i.bytes)) = some (65, 72) := by kernel_rfl

set_option maxHeartbeats 400000 in
theorem newTable_any (w : World) : Calls Try.prog 77 #[] w fun e w' => e = .returned (.pointer (some ⟨w.heap.size + 1, 0, none⟩)) ∧ Tab w' w.heap.size (w.heap.size + 1) w.heap.size (.slice none 0 0) [] ∧ Below w.heap.size w w' := by
  have hmm := @run_makeMap Try.prog
  go_enter Try.func77, Try.ntmps77
  go_wp2
  go_ret
  have B1 : Below w.heap.size w (w.alloc (.map #[] 0)) := (Below.refl _ _).alloc (Nat.le_refl _) _
  have hbx := BoxF.new (w.alloc (.map #[] 0)) (.slice none 0 0) (.map (some w.heap.size)) 109
  rw [World.size_alloc] at hbx
  refine ⟨rfl, ⟨hbx, World.ownsRow_nil _ _ _ _, ⟨.map [], (World.ownsMap_made w Try.prog _ _).alloc _, ⟨fun x => ⟨fun h => by simp [Maps.has] at h, fun ⟨i, hi, _⟩ => by simp at hi⟩, fun i hi => by simp at hi⟩⟩, fun i hi => by simp at hi, fun i j hi => by simp at hi, by omega, Nat.le_refl _, by omega, by simp [Value.ownBlock], by simp [Value.ownBlock]⟩, B1.alloc B1.size _⟩

theorem range_new (w : World) (cs : Array Value) (t : TypeId) : (w.alloc (.cells cs t)).rangeAt w.heap.size 0 cs.toList := by
  intro j v hv
  rw [Nat.zero_add, cell_of_row _ _ j cs t (0, 0) (heap_alloc_new w _)]
  simpa using hv

theorem range_second (w : World) (o : Obj) (cs : Array Value) (t : TypeId) : ((w.alloc o).alloc (.cells cs t)).rangeAt (w.heap.size + 1) 0 cs.toList := by
  have := range_new (w.alloc o) cs t
  rwa [World.size_alloc] at this

theorem Tab.form {w : World} {lo tb mb : Nat} {v : Value} {rs : List (Int × List Int)} (h : Tab w lo tb mb v rs) (h0 : 0 < rs.length) : ∃ g cap, v = .slice (some ⟨g, 0, none⟩) rs.length cap ∧ lo ≤ g ∧ g < w.heap.size ∧ rs.length ≤ cap ∧ cap ≤ maxLen := by
  rcases h.rows.2 with ⟨-, h1⟩ | ⟨g, cap, cur, rfl, hb, hg, h2, h3, -⟩
  · omega
  · exact ⟨g, cap, rfl, hb, (Array.getElem?_eq_some_iff.1 hg).1, h2, h3⟩

theorem Tab.range {w : World} {lo tb mb g cap i : Nat} {rs : List (Int × List Int)} (h : Tab w lo tb mb (.slice (some ⟨g, 0, none⟩) rs.length cap) rs) (hi : i < rs.length) : w.rangeAt g (i * 65 + 1) ((pD rs i).map (Value.int .u8)) := by
  intro j u hu
  have hj : j < 64 := by have := (List.getElem?_eq_some_iff.1 hu).1; simpa [h.full i hi] using this
  rw [World.ownsRow.cellAt h.rows (i * 65 + 1 + j) (by omega)]
  exact rowT_val rs i hi h.full j u hu

set_option maxHeartbeats 1000000 in
set_option maxRecDepth 100000 in
theorem get_yes (w : World) (lo tb mb : Nat) (v : Value) (rs : List (Int × List Int)) (x : Int) (i : Nat) (ht : Tab w lo tb mb v rs) (hi : i < rs.length) (hx : pB rs i = x) (hwx : (Lit.int .i64 x).wf = true) :
    Calls Try.prog 51 #[.pointer (some ⟨tb, 0, none⟩), .int .i64 x] w fun e w' => e = .returned (.tuple #[.agg ((pD rs i).map (Value.int .u8)).toArray, .bool true]) ∧ Below w.heap.size w w' := by
  obtain ⟨g, cap, rfl, hg1, hg2, hc1, hc2⟩ := ht.form (by omega)
  obtain ⟨D, hD, hM⟩ := ht.map
  obtain ⟨⟨zt, c0, c1⟩, -⟩ := ht.box
  have HT : Hid (Tab w lo tb mb (.slice (some ⟨g, 0, none⟩) rs.length cap) rs) := ht
  have HD : Hid (w.ownsMap Try.prog 2 (plainElem Try.prog 3) mb rs.length D) := hD
  have hhas : Maps.has D (.int .i64 x) = true := (hM.1 x).2 ⟨i, hi, hx⟩
  have HAT : Hid (∀ z, D.atKey (.int .i64 x) z = .lit (.int .i64 i)) := by intro z; rw [← hx]; exact hM.2 i hi z
  have hkey := Maps.keyOf_int_mk (P := Try.prog) Try.underlying2 hwx
  obtain ⟨V, hV⟩ : ∃ V, V = (pD rs i).map (Value.int .u8) := ⟨_, rfl⟩
  have RG : Hid (w.rangeAt g (i * 65 + 1) V) := by rw [hV]; exact ht.range hi
  have HVL : Hid (V.length = 64) := by rw [hV]; show _ = _; rw [List.length_map]; exact ht.full i hi
  have HV1 : Hid (∀ v ∈ V, v.oneCell' = true) := by rw [hV]; exact ints_oneCell _ _
  rw [← hV]
  have hiI : (i : Int) < (rs.length : Int) := by omega
  unfold maxLen at hc2
  generalize hn : rs.length = n at *
  clear ht hD hM hx hV hn
  go_enter Try.func51, Try.ntmps51
  go_wp2_with (at_lookup; refine wpList_lookup_own_ok_int _ rfl _ _ 107 rfl 2 3 .i64 lawK Try.underlying107 Try.underlying3 (zeroInt _) mb n D rfl (HD.out.alloc _) _ _ rfl hkey ?_)
  intro c hat hwc
  obtain rfl : c = (i : Int) := by have := HAT.out (.lit (.int .i64 0)); rw [hat] at this; simpa using this
  go_wp2_with (first | (refine wpList_load_mid rfl 75 _ rfl g (i * 65 + 1) rfl V _ (World.rangeAt_alloc RG.out _) Try.underlying75 rfl (sizeA _ HVL.out) ?_) | (refine wpList_store_mid rfl 75 _ _ rfl w.heap.size 0 V.toArray rfl rfl ?s1 ?s2 ?s3 ?_))
  case s1 =>
    have e : V.toArray.size = 64 := by rw [List.size_toArray]; exact HVL.out
    rw [e]
    exact there_new _ _ _ _ rfl
  case s2 => rw [List.size_toArray]; exact sizeA _ HVL.out
  case s3 => exact all_oneCell_toArray HV1.out
  refine bodyPost_ret (v := .tuple #[.agg V.toArray, .bool true]) ?_ rfl ⟨rfl, ?_⟩
  · have LV : ∀ cs : Array Value, cs.size = 64 → (loadVar 75 ⟨w.heap.size, 0, none⟩).run Try.prog ((w.alloc (.cells cs 75)).setCells w.heap.size 0 V) = .ok (.agg V.toArray) ((w.alloc (.cells cs 75)).setCells w.heap.size 0 V) := fun cs hcs =>
      run_loadVar_mid (P := Try.prog) _ w.heap.size 0 75 _ _ (World.rangeAt_setCells_same _ _ _ _ (there_new _ _ _ _ (by rw [HVL.out, hcs]))) Try.underlying75 rfl (sizeA _ HVL.out)
    simp [results, Try.results51, asAddr, LV]
  · exact below_setCells (Nat.le_refl _) _ _ _ ((Below.refl _ _).alloc (Nat.le_refl _) _)

set_option maxHeartbeats 1000000 in
set_option maxRecDepth 100000 in
theorem get_no (w : World) (lo tb mb : Nat) (v : Value) (rs : List (Int × List Int)) (x : Int) (ht : Tab w lo tb mb v rs) (hno : ∀ i, i < rs.length → pB rs i ≠ x) (hwx : (Lit.int .i64 x).wf = true) :
    Calls Try.prog 51 #[.pointer (some ⟨tb, 0, none⟩), .int .i64 x] w fun e w' => e = .returned (.tuple #[.agg (List.replicate 64 (Value.int .u8 0)).toArray, .bool false]) ∧ Below w.heap.size w w' := by
  obtain ⟨D, hD, hM⟩ := ht.map
  obtain ⟨⟨zt, c0, c1⟩, -⟩ := ht.box
  have HD : Hid (w.ownsMap Try.prog 2 (plainElem Try.prog 3) mb rs.length D) := hD
  have hhas : Maps.has D (.int .i64 x) = false := by
    cases h : Maps.has D (.int .i64 x) with
    | false => rfl
    | true => obtain ⟨i, hi, e⟩ := (hM.1 x).1 h; exact absurd e (hno i hi)
  have hkey := Maps.keyOf_int_mk (P := Try.prog) Try.underlying2 hwx
  obtain ⟨V, hV⟩ : ∃ V, V = List.replicate 64 (Value.int .u8 0) := ⟨_, rfl⟩
  have HVL : Hid (V.length = 64) := by rw [hV]; show _ = _; simp
  have HV1 : Hid (∀ v ∈ V, v.oneCell' = true) := by rw [hV]; intro u hu; rw [List.mem_replicate] at hu; rw [hu.2]; rfl
  have HVE : Hid (V = List.replicate 64 (Value.int .u8 0)) := hV
  rw [← hV]
  clear ht hD hM hno hV
  go_enter Try.func51, Try.ntmps51
  go_wp2_with (at_lookup; refine wpList_lookup_own_ok_int _ rfl _ _ 107 rfl 2 3 .i64 lawK Try.underlying107 Try.underlying3 (zeroInt _) mb rs.length D rfl (HD.out.alloc _) _ _ rfl hkey ?_)
  intro c hat hwc
  go_wp2_with (first | (refine wpList_load_mid rfl 75 _ rfl (w.heap.size + 1) 0 rfl V _ ?r1 Try.underlying75 rfl (sizeA _ HVL.out) ?_) | (refine wpList_store_mid rfl 75 _ _ rfl w.heap.size 0 V.toArray rfl rfl ?s1 ?s2 ?s3 ?_))
  case r1 => rw [HVE.out]; exact range_second _ _ _ _
  case s1 =>
    have e : V.toArray.size = 64 := by rw [List.size_toArray]; exact HVL.out
    rw [e]
    exact World.there_alloc (there_new _ _ _ _ rfl) _
  case s2 => rw [List.size_toArray]; exact sizeA _ HVL.out
  case s3 => exact all_oneCell_toArray HV1.out
  refine bodyPost_ret (v := .tuple #[.agg V.toArray, .bool false]) ?_ rfl ⟨rfl, ?_⟩
  · have LV : ∀ (cs : Array Value) (o : Obj), cs.size = 64 → (loadVar 75 ⟨w.heap.size, 0, none⟩).run Try.prog (((w.alloc (.cells cs 75)).alloc o).setCells w.heap.size 0 V) = .ok (.agg V.toArray) (((w.alloc (.cells cs 75)).alloc o).setCells w.heap.size 0 V) := fun cs o hcs =>
      run_loadVar_mid (P := Try.prog) _ w.heap.size 0 75 _ _ (World.rangeAt_setCells_same _ _ _ _ (World.there_alloc (there_new _ _ _ _ (by rw [HVL.out, hcs])) _)) Try.underlying75 rfl (sizeA _ HVL.out)
    simp [results, Try.results51, asAddr, LV]
  · exact below_setCells (Nat.le_refl _) _ _ _ (((Below.refl _ _).alloc (Nat.le_refl _) _).alloc (by simp) _)

end Go.Proofs.Ytoljmlhnbmeloaa

