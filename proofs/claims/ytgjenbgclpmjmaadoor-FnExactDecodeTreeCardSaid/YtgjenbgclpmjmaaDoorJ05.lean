import Derived.Test.YtgjenbgclpmjmaaDoorJ04
import Derived.Test.YtgjenbgclpmjmaaDoorJ02
import Derived.Deep.DeepHandedRow
import Derived.ShutString
import Derived.ChangeOld
import Derived.ChangeMaps5
import Derived.Test.YtgjenbgclpmjmaaDoorCards
import Derived.Test.YtgjenbgclpmjmaaDoorTie
import Derived.Lib.LaidIn
namespace Go.Proofs.YtgjenbgclpmjmaaDoor
open Go.RowKit Go.Shelf

/-- The answer as it is compared. -/
def resT (ys : List Int) : Bool × List Nd := match decT ys with | none => (false, []) | some ns => (true, ns)
theorem decT_len {ys : List Int} {ns : List Nd} (h : decT ys = some ns) : ns.length ≤ 1000 := by
  unfold decT at h
  split at h
  · cases h
  · split at h
    · rename_i hok
      simp only [Option.some.injEq] at h
      subst h
      exact okTree_len hok
    · cases h
theorem resT_len (ys : List Int) : (resT ys).2.length ≤ 1000 := by
  unfold resT
  cases h : decT ys with
  | none => simp
  | some ns => exact decT_len h
theorem DtPost.res {w w' : World} {ys : List Int} {e : Ending} (h : DtPost w ys e w') : ∃ a c, e = .returned (.agg #[.bool (resT ys).1, .slice a (resT ys).2.length c]) ∧ OwnN 81 w' w.heap.size (.slice a (resT ys).2.length c) (resT ys).2 ∧ Below w.heap.size w w' := by
  obtain ⟨hb, h⟩ := h
  unfold resT
  rcases h with ⟨h1, rfl⟩ | ⟨ns, v, h1, rfl, h2⟩
  · rw [h1]; exact ⟨none, 0, rfl, World.ownsRow_nil _ _ _ _, hb⟩
  · rw [h1]
    obtain ⟨a, c, rfl⟩ := h2.slice
    exact ⟨a, c, rfl, h2, hb⟩
/-- A local answer. -/
def BxR (W : World) (B : Nat) (t : Bool) (v : Value) : Prop := W.heap[B]? = some (.cells #[.bool t, v] 56 (0, 0))
theorem BxR.lt {w : World} {B : Nat} {t : Bool} {v : Value} (h : BxR w B t v) : B < w.heap.size := (Array.getElem?_eq_some_iff.1 h).1
theorem BxR.new (w : World) (t : Bool) (v : Value) : BxR (w.alloc (.cells #[.bool t, v] 56)) w.heap.size t v := heap_alloc_new w _
theorem BxR.later {w w' : World} {B : Nat} {t : Bool} {v : Value} (h : BxR w B t v) (hb : Below w.heap.size w w') : BxR w' B t v := (hb.block _ h.lt).trans h
theorem BxR.cells {w : World} {B : Nat} {t : Bool} {v : Value} (h : BxR w B t v) : w.cell? ⟨B, 0, none⟩ = some (.bool t) ∧ w.cell? ⟨B, 1, none⟩ = some v := ⟨(cell_of h _).trans rfl, (cell_of h _).trans rfl⟩
set_option maxHeartbeats 400000 in
theorem eqTR_same (w : World) (t : Bool) (va vb : Value) (ns : List Nd) (ha : RdN w va ns) (hb : RdN w vb ns) (hn : ns.length ≤ 1048576) :
    Calls Tryd.prog 34 #[.agg #[.bool t, va], .agg #[.bool t, vb]] w fun e w' => e = .returned (.bool true) ∧ Below w.heap.size w w' := by
  have B0 : Hid (Below w.heap.size w ((w.alloc (.cells #[.bool t, va] 56)).alloc (.cells #[.bool t, vb] 56))) := ((Below.refl _ _).alloc (Nat.le_refl _) _).alloc (by simp) _
  have RA : Hid (RdN ((w.alloc (.cells #[.bool t, va] 56)).alloc (.cells #[.bool t, vb] 56)) va ns) := ha.below B0.out
  have RB : Hid (RdN ((w.alloc (.cells #[.bool t, va] 56)).alloc (.cells #[.bool t, vb] 56)) vb ns) := hb.below B0.out
  have htt : (t != t) = false := by simp
  clear ha hb
  go_enter Tryd.func34, Tryd.ntmps34
  go_wp2_with fail
  refine (eqTree_same _ _ _ ns RA.out RB.out hn).mono ?_
  rintro e w1 ⟨rfl, b1⟩
  have B1 : Hid (Below w.heap.size w w1) := B0.out.trans (b1.mono (by simp; omega))
  clear b1
  go_wp2
  go_ret
  exact ⟨rfl, B1.out⟩

set_option maxHeartbeats 400000 in
theorem markTreeL_any (w : World) (lo k : Nat) (v : Value) (ns : List Nd) (h : OwnN 81 w lo v ns) (hl : lo ≤ w.heap.size) (hk : k ≤ 1048576) (hn : ns.length ≤ 1048576) :
    Calls Tryd.prog 40 #[.agg #[v], .int .i64 k] w fun e w' => e = .returned (.int .i64 ((k + 7 * ns.length : Nat) : Int)) ∧ OwnN 81 w' lo v (mkNs k ns.length) ∧ Below lo w w' ∧ KT 81 w w' := by
  have H : Hid (OwnN 81 w lo v ns) := h
  clear h
  go_enter Tryd.func40, Tryd.ntmps40
  go_wp2_with fail
  refine (markNodeL_any _ lo k v ns (H.out.below ((Below.refl _ _).alloc (Nat.le_refl _) _)) hk hn).mono ?_
  rintro e w1 ⟨rfl, o1, b1, k1⟩
  have O1 : Hid (OwnN 81 w1 lo v (mkNs k ns.length)) := o1
  have B1 : Hid (Below lo w w1) := ((Below.refl _ _).alloc hl _).trans b1
  have K1 : Hid (KT 81 w w1) := ((KT.refl _ _).alloc _).trans k1
  clear b1 k1 o1
  go_wp2
  go_ret
  exact ⟨rfl, O1.out, B1.out, K1.out⟩

set_option maxHeartbeats 400000 in
theorem markTR_any (w : World) (lo k : Nat) (t : Bool) (v : Value) (ns : List Nd) (h : OwnN 81 w lo v ns) (hl : lo ≤ w.heap.size) (hk : k ≤ 1048576) (hn : ns.length ≤ 1048576) :
    Calls Tryd.prog 35 #[.agg #[.bool t, v], .int .i64 k] w fun e w' => e = .returned (.int .i64 ((k + 7 * ns.length : Nat) : Int)) ∧ OwnN 81 w' lo v (mkNs k ns.length) ∧ Below lo w w' ∧ KT 81 w w' := by
  have H : Hid (OwnN 81 w lo v ns) := h
  clear h
  go_enter Tryd.func35, Tryd.ntmps35
  go_wp2_with fail
  refine (markTreeL_any _ lo k v ns (H.out.below ((Below.refl _ _).alloc (Nat.le_refl _) _)) (by simp; omega) hk hn).mono ?_
  rintro e w1 ⟨rfl, o1, b1, k1⟩
  have O1 : Hid (OwnN 81 w1 lo v (mkNs k ns.length)) := o1
  have B1 : Hid (Below lo w w1) := ((Below.refl _ _).alloc hl _).trans b1
  have K1 : Hid (KT 81 w w1) := ((KT.refl _ _).alloc _).trans k1
  clear b1 k1 o1
  go_wp2
  go_ret
  exact ⟨rfl, O1.out, B1.out, K1.out⟩

set_option maxHeartbeats 400000 in
theorem heldTR_any (w : World) (k n : Nat) (t : Bool) (v : Value) (h : RdN w v (mkNs k n)) (hk : k ≤ 1048576) (hn : n ≤ 1048576) :
    Calls Tryd.prog 36 #[.agg #[.bool t, v], .int .i64 k] w fun e w' => e = .returned (.int .i64 ((k + 7 * n : Nat) : Int)) ∧ Below w.heap.size w w' := by
  have B0 : Hid (Below w.heap.size w (w.alloc (.cells #[.bool t, v] 56))) := (Below.refl _ _).alloc (Nat.le_refl _) _
  have H : Hid (RdN (w.alloc (.cells #[.bool t, v] 56)) v (mkNs k n)) := h.below B0.out
  clear h
  go_enter Tryd.func36, Tryd.ntmps36
  go_wp2_with fail
  refine (heldTree_any _ k n _ H.out hk hn).mono ?_
  rintro e w1 ⟨rfl, b1⟩
  have B1 : Hid (Below w.heap.size w w1) := B0.out.trans (b1.mono (by simp))
  have hI : ¬ ((k + 7 * n : Nat) : Int) < 0 := by omega
  clear b1
  go_wp2
  go_ret
  exact ⟨rfl, B1.out⟩

set_option maxHeartbeats 2000000 in
set_option maxRecDepth 100000 in
theorem lawDecTree_walk (w : World) (v : Value) (xs : List Int) (h : Rd .u8 w v xs) (hby : Byt xs) :
    Calls Tryd.prog 7 #[v] w fun e w' => e = .returned (.bool true) ∧ Below w.heap.size w w' := by
  obtain ⟨ao, cap, hv, hl1, hl2⟩ := h.len
  have HR : Hid (Rd .u8 w v xs) := h
  have HBY : Hid (Byt xs) := hby
  subst hv
  clear h hby
  unfold maxLen at hl2
  by_cases hbig : 1048576 < xs.length
  · have hbI : (1048576 : Int) < (xs.length : Int) := by omega
    go_enter Tryd.func7, Tryd.ntmps7
    go_wp2
    go_ret
    exact ⟨rfl, Below.refl _ _⟩
  have hbI : ¬ (1048576 : Int) < (xs.length : Int) := by omega
  have hrl := resT_len xs
  obtain ⟨t, ns, hts⟩ : ∃ t ns, resT xs = (t, ns) := ⟨_, _, rfl⟩
  rw [hts] at hrl
  simp only at hrl
  have HTS : Hid (resT xs = (t, ns)) := hts
  clear hts
  go_enter Tryd.func7, Tryd.ntmps7
  go_wp2_with fail
  refine (toByteS_any _ _ xs HR.out (by omega)).mono ?_
  rintro e w1 ⟨v1, rfl, o1, b1⟩
  go_wp2_with fail
  refine (specDecT_any _ _ xs o1.rd HBY.out (by omega)).mono ?_
  intro e w2 hpost
  obtain ⟨a2, c2, rfl, o2, b2⟩ := hpost.res
  rw [HTS.out] at o2
  rw [HTS.out]
  simp only at o2
  simp only
  clear hpost
  have s1 := b1.size
  have s2 := b2.size
  have O2 : Hid (OwnN 81 w2 w1.heap.size (.slice a2 ns.length c2) ns) := o2
  have B2 : Hid (Below w.heap.size w w2) := b1.trans (b2.mono s1)
  clear o1 b1 b2 o2
  have ba : Below w2.heap.size w2 (w2.alloc (.cells #[.bool t, .slice a2 ns.length c2] 56)) := (Below.refl _ _).alloc (Nat.le_refl _) _
  have X3 : Hid (BxR (w2.alloc (.cells #[.bool t, .slice a2 ns.length c2] 56)) w2.heap.size t (.slice a2 ns.length c2)) := BxR.new w2 t _
  have O3 : Hid (OwnN 81 (w2.alloc (.cells #[.bool t, .slice a2 ns.length c2] 56)) w1.heap.size (.slice a2 ns.length c2) ns) := O2.out.below ba
  have B3 : Hid (Below w.heap.size w (w2.alloc (.cells #[.bool t, .slice a2 ns.length c2] 56))) := B2.out.trans (ba.mono B2.out.size)
  have L2 : Hid (∀ g, (Value.slice a2 ns.length c2).ownBlock = some g → g < w2.heap.size) := fun g hg => (World.ownsRow.lt O2.out g hg).2
  have s23 := ba.size
  go_wp2_with fail
  clear ba O2
  generalize w2.alloc (.cells #[.bool t, .slice a2 ns.length c2] 56) = wa at *
  have sa := B3.out.size
  refine (toByteS_any _ _ xs (HR.out.below B3.out) (by omega)).mono ?_
  rintro e w4 ⟨v4, rfl, o4, b4⟩
  have s4 := b4.size
  have O4 : Hid (Own .u8 5 w4 wa.heap.size v4 xs) := o4
  have X4 : Hid (BxR w4 w2.heap.size t (.slice a2 ns.length c2)) := X3.out.later b4
  have O34 : Hid (OwnN 81 w4 w1.heap.size (.slice a2 ns.length c2) ns) := O3.out.below b4
  have B4 : Hid (Below w.heap.size w w4) := B3.out.trans (b4.mono sa)
  clear o4 b4 X3 O3 B3
  go_wp2_with fail
  refine (implDecT_any _ _ xs O4.out.rd HBY.out (by omega)).mono ?_
  intro e w5 hpost
  obtain ⟨a5, c5, rfl, o5, b5⟩ := hpost.res
  rw [HTS.out] at o5
  rw [HTS.out]
  simp only at o5
  simp only
  clear hpost
  have s5 := b5.size
  have O5 : Hid (OwnN 81 w5 w4.heap.size (.slice a5 ns.length c5) ns) := o5
  have O45 : Hid (Own .u8 5 w5 wa.heap.size v4 xs) := O4.out.below b5
  have X5 : Hid (BxR w5 w2.heap.size t (.slice a2 ns.length c2)) := X4.out.later b5
  have O35 : Hid (OwnN 81 w5 w1.heap.size (.slice a2 ns.length c2) ns) := O34.out.below b5
  have B5 : Hid (Below w.heap.size w w5) := B4.out.trans (b5.mono B4.out.size)
  clear o5 b5 O4 X4 O34 B4
  have ba : Below w5.heap.size w5 (w5.alloc (.cells #[.bool t, .slice a5 ns.length c5] 56)) := (Below.refl _ _).alloc (Nat.le_refl _) _
  have Y6 : Hid (BxR (w5.alloc (.cells #[.bool t, .slice a5 ns.length c5] 56)) w5.heap.size t (.slice a5 ns.length c5)) := BxR.new w5 t _
  have X6 : Hid (BxR (w5.alloc (.cells #[.bool t, .slice a5 ns.length c5] 56)) w2.heap.size t (.slice a2 ns.length c2)) := X5.out.later ba
  have O6 : Hid (OwnN 81 (w5.alloc (.cells #[.bool t, .slice a5 ns.length c5] 56)) w4.heap.size (.slice a5 ns.length c5) ns) := O5.out.below ba
  have O46 : Hid (Own .u8 5 (w5.alloc (.cells #[.bool t, .slice a5 ns.length c5] 56)) wa.heap.size v4 xs) := O45.out.below ba
  have O36 : Hid (OwnN 81 (w5.alloc (.cells #[.bool t, .slice a5 ns.length c5] 56)) w1.heap.size (.slice a2 ns.length c2) ns) := O35.out.below ba
  have B6 : Hid (Below w.heap.size w (w5.alloc (.cells #[.bool t, .slice a5 ns.length c5] 56))) := B5.out.trans (ba.mono B5.out.size)
  have s56 := ba.size
  obtain ⟨x0, x1⟩ := X5.out.cells
  have xl := X5.out.lt
  go_wp2_with fail
  clear ba x0 x1 xl O5 O45 X5 O35 B5
  generalize w5.alloc (.cells #[.bool t, .slice a5 ns.length c5] 56) = w6 at *
  refine (eqTR_same _ t _ _ ns O6.out.rd O36.out.rd (by omega)).mono ?_
  rintro e w7 ⟨rfl, b7⟩
  have s7 := b7.size
  have O7 : Hid (OwnN 81 w7 w4.heap.size (.slice a5 ns.length c5) ns) := O6.out.below b7
  have O47 : Hid (Own .u8 5 w7 wa.heap.size v4 xs) := O46.out.below b7
  have O37 : Hid (OwnN 81 w7 w1.heap.size (.slice a2 ns.length c2) ns) := O36.out.below b7
  have X7 : Hid (BxR w7 w2.heap.size t (.slice a2 ns.length c2)) := X6.out.later b7
  have Y7 : Hid (BxR w7 w5.heap.size t (.slice a5 ns.length c5)) := Y6.out.later b7
  have B7 : Hid (Below w.heap.size w w7) := B6.out.trans (b7.mono B6.out.size)
  clear b7 O6 O46 O36 X6 Y6 B6
  go_wp2_with fail
  refine (toByteS_any _ _ xs (HR.out.below B7.out) (by omega)).mono ?_
  rintro e w8 ⟨v8, rfl, o8, b8⟩
  have s8 := b8.size
  have O8 : Hid (OwnN 81 w8 w4.heap.size (.slice a5 ns.length c5) ns) := O7.out.below b8
  have O48 : Hid (Own .u8 5 w8 wa.heap.size v4 xs) := O47.out.below b8
  have O38 : Hid (OwnN 81 w8 w1.heap.size (.slice a2 ns.length c2) ns) := O37.out.below b8
  have X8 : Hid (BxR w8 w2.heap.size t (.slice a2 ns.length c2)) := X7.out.later b8
  have Y8 : Hid (BxR w8 w5.heap.size t (.slice a5 ns.length c5)) := Y7.out.later b8
  have B8 : Hid (Below w.heap.size w w8) := B7.out.trans (b8.mono B7.out.size)
  have N8 : Hid (Rd .u8 w8 v8 xs) := o8.rd
  clear b8 o8 O7 O47 O37 X7 Y7 B7
  go_wp2_with fail
  refine (eqByteS_any _ _ _ xs xs O48.out.rd N8.out).mono ?_
  rintro e w9 ⟨rfl, q9, rfl⟩
  rw [show decide (xs = xs) = true by simp]
  go_wp2_with fail
  refine (markByteS_any _ _ _ xs 1 (O48.out.drewN q9) (by omega) (by omega) (by omega)).mono ?_
  rintro e w10 ⟨rfl, o10, g10⟩
  have k10 : KT 5 w8 w10 := ((KT.refl _ _).below (below_drewN' w8 q9)).grown (O48.out.drewN q9) g10
  have s10 := k10.1
  have O10 : Hid (OwnN 81 w10 w4.heap.size (.slice a5 ns.length c5) ns) := O8.out.keepT k10 (by decide)
  have O310 : Hid (OwnN 81 w10 w1.heap.size (.slice a2 ns.length c2) ns) := O38.out.keepT k10 (by decide)
  have X10 : Hid (BxR w10 w2.heap.size t (.slice a2 ns.length c2)) := k10.box X8.out (by decide)
  have Y10 : Hid (BxR w10 w5.heap.size t (.slice a5 ns.length c5)) := k10.box Y8.out (by decide)
  have B10 : Hid (Below w.heap.size w w10) := (B8.out.trans ((below_drewN' w8 q9).mono B8.out.size)).grown g10 B8.out.size (fun k hk => by have := (O48.out.lt k hk).1; omega)
  clear o10 g10 k10 O8 O48 O38 X8 Y8 B8 N8
  have hk10 : ¬ (1 + (xs.length : Int)) < 0 := by omega
  obtain ⟨x0, x1⟩ := X10.out.cells
  obtain ⟨y0, y1⟩ := Y10.out.cells
  go_wp2_with fail
  refine (eqTR_same _ t _ _ ns O10.out.rd O310.out.rd (by omega)).mono ?_
  rintro e w11 ⟨rfl, b11⟩
  clear x0 x1 y0 y1
  have s11 := b11.size
  have O11 : Hid (OwnN 81 w11 w4.heap.size (.slice a5 ns.length c5) ns) := O10.out.below b11
  have O311 : Hid (OwnN 81 w11 w1.heap.size (.slice a2 ns.length c2) ns) := O310.out.below b11
  have X11 : Hid (BxR w11 w2.heap.size t (.slice a2 ns.length c2)) := X10.out.later b11
  have Y11 : Hid (BxR w11 w5.heap.size t (.slice a5 ns.length c5)) := Y10.out.later b11
  have B11 : Hid (Below w.heap.size w w11) := B10.out.trans (b11.mono B10.out.size)
  clear b11 O10 O310 X10 Y10 B10
  obtain ⟨y0, y1⟩ := Y11.out.cells
  go_wp2_with fail
  refine (markTR_any _ w4.heap.size 1 t _ ns O11.out (by omega) (by omega) (by omega)).mono ?_
  rintro e w12 ⟨rfl, o12, b12, k12⟩
  clear y0 y1
  have s12 := b12.size
  have O12 : Hid (OwnN 81 w12 w4.heap.size (.slice a5 ns.length c5) (mkNs 1 ns.length)) := o12
  have O312 : Hid (OwnN 81 w12 w1.heap.size (.slice a2 ns.length c2) ns) := O311.out.belowM b12 (fun g hg => by have := L2.out g hg; omega)
  have X12 : Hid (BxR w12 w2.heap.size t (.slice a2 ns.length c2)) := k12.box X11.out (by decide)
  have Y12 : Hid (BxR w12 w5.heap.size t (.slice a5 ns.length c5)) := k12.box Y11.out (by decide)
  have B12 : Hid (Below w.heap.size w w12) := B11.out.trans (b12.mono (by omega))
  clear b12 o12 k12 O11 O311 X11 Y11 B11
  obtain ⟨y0, y1⟩ := Y12.out.cells
  go_wp2_with fail
  refine (heldTR_any _ 1 ns.length t _ O12.out.rd (by omega) (by omega)).mono ?_
  rintro e w13 ⟨rfl, b13⟩
  clear y0 y1
  have O313 : Hid (OwnN 81 w13 w1.heap.size (.slice a2 ns.length c2) ns) := O312.out.below b13
  have X13 : Hid (BxR w13 w2.heap.size t (.slice a2 ns.length c2)) := X12.out.later b13
  have B13 : Hid (Below w.heap.size w w13) := B12.out.trans (b13.mono B12.out.size)
  clear b13 O12 O312 X12 Y12 B12
  have hk13 : ¬ ((1 + 7 * ns.length : Nat) : Int) < 0 := by omega
  go_wp2_with fail
  refine (toByteS_any _ _ xs (HR.out.below B13.out) (by omega)).mono ?_
  rintro e w14 ⟨v14, rfl, o14, b14⟩
  have O314 : Hid (OwnN 81 w14 w1.heap.size (.slice a2 ns.length c2) ns) := O313.out.below b14
  have X14 : Hid (BxR w14 w2.heap.size t (.slice a2 ns.length c2)) := X13.out.later b14
  have B14 : Hid (Below w.heap.size w w14) := B13.out.trans (b14.mono B13.out.size)
  have N14 : Hid (Rd .u8 w14 v14 xs) := o14.rd
  clear b14 o14 O313 X13 B13
  go_wp2_with fail
  refine (implDecT_any _ _ xs N14.out HBY.out (by omega)).mono ?_
  intro e w15 hpost
  obtain ⟨a15, c15, rfl, o15, b15⟩ := hpost.res
  rw [HTS.out] at o15
  rw [HTS.out]
  simp only at o15
  simp only
  clear hpost
  have ba : Below w15.heap.size w15 (w15.alloc (.cells #[.bool t, .slice a15 ns.length c15] 56)) := (Below.refl _ _).alloc (Nat.le_refl _) _
  have O16 : Hid (RdN (w15.alloc (.cells #[.bool t, .slice a15 ns.length c15] 56)) (.slice a15 ns.length c15) ns) := o15.rd.below ba
  have O316 : Hid (RdN (w15.alloc (.cells #[.bool t, .slice a15 ns.length c15] 56)) (.slice a2 ns.length c2) ns) := (O314.out.below b15).rd.below ba
  have X15 : Hid (BxR w15 w2.heap.size t (.slice a2 ns.length c2)) := X14.out.later b15
  have B15 : Hid (Below w.heap.size w w15) := B14.out.trans (b15.mono B14.out.size)
  have B16 : Hid (Below w.heap.size w (w15.alloc (.cells #[.bool t, .slice a15 ns.length c15] 56))) := B15.out.trans (ba.mono B15.out.size)
  clear b15 o15 O314 X14 B14 ba
  obtain ⟨x0, x1⟩ := X15.out.cells
  have xl := X15.out.lt
  go_wp2_with fail
  refine (eqTR_same _ t _ _ ns O16.out O316.out (by omega)).mono ?_
  rintro e w17 ⟨rfl, b17⟩
  have B17 : Hid (Below w.heap.size w w17) := B16.out.trans (b17.mono B16.out.size)
  clear b17 x0 x1 xl
  go_wp2
  go_ret
  exact ⟨rfl, B17.out⟩

end Go.Proofs.YtgjenbgclpmjmaaDoor

namespace Go.Proofs.YtgjenbgclpmjmaaDoor
open Go.ChangeShapes Go.WideShapes Go.ChangeAt Go.RowKit

theorem addr_add_none (b o i : Nat) : (⟨b, o, none⟩ : Addr).add i = ⟨b, o + i, none⟩ := Addr.add_lit ..

theorem rd_of {k : IntKind} {w : World} {x : Addr} {len cap : Nat} {zs : List Int} (hl : len ≤ cap) (hm : cap ≤ maxLen) (hz : zs.length = cap)
    (hcell : ∀ i, i < zs.length → w.cell? (x.add i) = some (.int k (zs.getD i 0))) : Rd k w (.slice (some x) len cap) (zs.take len) := by
  have hlen : (zs.take len).length = len := by simp; omega
  refine ⟨some x, cap, by rw [hlen], by rw [hlen]; exact hl, hm, ?_⟩
  by_cases h0 : len = 0
  · subst h0; exact .inl rfl
  · right
    obtain ⟨b, off, spot⟩ := x
    have hc := hcell 0 (by omega)
    have hspot : spot = none := by simpa [Addr.add] using World.cell?_spot hc
    subst hspot
    refine ⟨b, off, rfl, ?_, fun i hi => ?_⟩
    · have := World.block_lt_of_cell? w _ hc
      simpa [Addr.add] using this
    · rw [hlen] at hi
      have := hcell i (by omega)
      rw [addr_add_none] at this
      rw [this]
      simp [List.getD, List.getElem?_take_of_lt hi]

theorem byt_of {zs : List Int} {len : Nat} (h : ∀ n ∈ zs, (Lit.int .u8 n).wf = true) : Byt (zs.take len) := by
  intro x hx
  have := h x (List.mem_of_mem_take hx)
  have b := bounds_u8 this
  omega

/-- A []byte that came in. -/
theorem open_bytes {H : Type} {enc : TypeId × Value → H} {W : World} {a0 : Option Addr} {len0 cap0 : Nat} {d0 : DataW H} {p0 : List MemPlace} {base : Nat} {b : Bool}
    (h0 : DataW.Trod enc Tryd.prog W base (fun _ => true) b 45 (.slice a0 len0 cap0) d0 p0) : ∃ xs, Rd .u8 W (.slice a0 len0 cap0) xs ∧ Byt xs := by
  obtain ⟨fuel, hf⟩ := h0
  rcases open_ints Tryd.underlying45 Tryd.underlying5 (by kernel_rfl) hf with ⟨hcs, _⟩ | ⟨x, l, c, zs, hcs, _, hl, hm, hz, _, hcell, hwz⟩
  · simp [Value.cells] at hcs
    obtain ⟨rfl, rfl, rfl⟩ := hcs
    exact ⟨[], ⟨none, 0, rfl, Nat.le_refl _, Nat.zero_le _, .inl rfl⟩, fun x hx => by cases hx⟩
  · simp [Value.cells] at hcs
    obtain ⟨rfl, rfl, rfl⟩ := hcs
    exact ⟨zs.take len0, rd_of hl hm (by simpa using hz) hcell, byt_of hwz⟩

end Go.Proofs.YtgjenbgclpmjmaaDoor

namespace Go.Proofs.YtgjenbgclpmjmaaDoor
open Go.ChangeShapes Go.WideShapes Go.ChangeAt Go.RowKit

theorem knob : ownKnob Tryd.prog.godebug = none := by kernel_rfl
theorem laidOut : laidOutB Tryd.prog = true := by kernel_rfl

def gFirst (P : Program) : Nat := (P.globalNamed "unicode/utf8.first").getD 0
def gAccept (P : Program) : Nat := (P.globalNamed "unicode/utf8.acceptRanges").getD 0

/-- The witness: the two tables as they are laid. -/
def laidWorld (P : Program) (os : Os) : World :=
  let w0 := World.holding P os ⟨#[], #[], []⟩
  let put (h : Array Obj) (g : Nat) (cs : Array Value) : Array Obj := h.modify g fun
    | .cells _ t frozen => .cells cs t frozen
    | o => o
  let h1 := put w0.heap (gFirst P) (Go.Pinned.utf8FirstZ.map fun (z : Nat) => Value.int .u8 (z : Int)).toArray
  let h2 := put h1 (gAccept P) ((([128, 191, 160, 191, 128, 159, 144, 191, 128, 143] : List Int) ++ List.replicate 22 0).map fun (z : Int) => Value.int .u8 z).toArray
  { w0 with heap := h2 }
theorem laid_met (os : Os) (args : Array Value) : laidMet Tryd.prog [("unicode/utf8.acceptRanges", Rows.laid_unicode_utf8_acceptRanges), ("unicode/utf8.first", Rows.laid_unicode_utf8_first)] ((laidWorld Tryd.prog os).forCall (fun _ _ => 0) ⟨#[], args, []⟩).memory :=
  (LaidIn.of_run (l := [("unicode/utf8.acceptRanges", Rows.laid_unicode_utf8_acceptRanges), ("unicode/utf8.first", Rows.laid_unicode_utf8_first)]) [gAccept Tryd.prog, gFirst Tryd.prog] 8 (by kernel_rfl) (by kernel_rfl) (by kernel_rfl) (by kernel_rfl)).met

end Go.Proofs.YtgjenbgclpmjmaaDoor

