import Derived.Test.YtfmjalbiimhdhaaDoorXDSpec
import Derived.Test.YtfmjalbiimhdhaaDoorXDMark
import Derived.Test.YtfmjalbiimhdhaaDoorLEncTxn
namespace Go.Proofs.YtfmjalbiimhdhaaDoor
open Go.RowKit Go.Shelf

/-- The answer as it is compared. -/
def resX (ys : List Int) : Bool × Int × List Ef := match decX ys with | none => (false, 0, []) | some (z, es) => (true, z, es)
theorem decX_len {ys : List Int} {z : Int} {es : List Ef} (h : decX ys = some (z, es)) : es.length ≤ 1000 := by
  unfold decX at h
  split at h
  · cases h
  · split at h
    · cases h
    · split at h
      · rename_i hok
        simp only [Option.some.injEq, Prod.mk.injEq] at h
        obtain ⟨-, rfl⟩ := h
        exact (okTxn_all hok.2).2.2.1
      · cases h
theorem resX_len (ys : List Int) : (resX ys).2.2.length ≤ 1000 := by
  unfold resX
  cases h : decX ys with
  | none => simp
  | some q => obtain ⟨z, es⟩ := q; exact decX_len h
theorem DxPost.res {w w' : World} {ys : List Int} {e : Ending} (h : DxPost w ys e w') : ∃ a c, e = .returned (.agg #[.bool (resX ys).1, .int .i64 (resX ys).2.1, .slice a (resX ys).2.2.length c]) ∧ OwnE 79 w' w.heap.size (.slice a (resX ys).2.2.length c) (resX ys).2.2 ∧ Below w.heap.size w w' := by
  obtain ⟨hb, h⟩ := h
  unfold resX
  rcases h with ⟨h1, rfl⟩ | ⟨z, ns, v, h1, rfl, h2⟩
  · rw [h1]; exact ⟨none, 0, rfl, World.ownsRow_nil _ _ _ _, hb⟩
  · rw [h1]
    obtain ⟨a, c, rfl⟩ := h2.slice
    exact ⟨a, c, rfl, h2, hb⟩
/-- A local answer. -/
def BxQ (W : World) (B : Nat) (t : Bool) (z : Int) (v : Value) : Prop := W.heap[B]? = some (.cells #[.bool t, .int .i64 z, v] 46 (0, 0))
theorem BxQ.lt {w : World} {B : Nat} {t : Bool} {z : Int} {v : Value} (h : BxQ w B t z v) : B < w.heap.size := (Array.getElem?_eq_some_iff.1 h).1
theorem BxQ.new (w : World) (t : Bool) (z : Int) (v : Value) : BxQ (w.alloc (.cells #[.bool t, .int .i64 z, v] 46)) w.heap.size t z v := heap_alloc_new w _
theorem BxQ.later {w w' : World} {B : Nat} {t : Bool} {z : Int} {v : Value} (h : BxQ w B t z v) (hb : Below w.heap.size w w') : BxQ w' B t z v := (hb.block _ h.lt).trans h
theorem BxQ.cells {w : World} {B : Nat} {t : Bool} {z : Int} {v : Value} (h : BxQ w B t z v) : w.cell? ⟨B, 0, none⟩ = some (.bool t) ∧ w.cell? ⟨B, 1, none⟩ = some (.int .i64 z) ∧ w.cell? ⟨B, 2, none⟩ = some v := ⟨(cell_of h _).trans rfl, (cell_of h _).trans rfl, (cell_of h _).trans rfl⟩
theorem OwnE.keepQ {w w' : World} {lo : Nat} {v : Value} {ns : List Ef} {t : TypeId} (h : OwnE 79 w lo v ns) (hk : KT t w w') (ht : 79 ≠ t) : OwnE 79 w' lo v ns := by
  refine ⟨h.1, ?_⟩
  rcases h.2 with hn | ⟨g, cap, cur, rfl, hbg, hgg, rest⟩
  · exact .inl hn
  · exact .inr ⟨g, cap, cur, rfl, hbg, hk.box hgg ht, rest⟩
theorem OwnE.belowQ {w w' : World} {lo m : Nat} {v : Value} {ns : List Ef} (h : OwnE 79 w lo v ns) (hb : Below m w w') (hlt : ∀ g, v.ownBlock = some g → g < m) : OwnE 79 w' lo v ns := by
  refine ⟨h.1, ?_⟩
  rcases h.2 with hn | ⟨g, cap, cur, rfl, hbg, hgg, rest⟩
  · exact .inl hn
  · exact .inr ⟨g, cap, cur, rfl, hbg, (hb.block g (hlt g rfl)).trans hgg, rest⟩

set_option maxHeartbeats 400000 in
theorem eqXR_same (w : World) (t : Bool) (z : Int) (va vb : Value) (ns : List Ef) (ha : RdE w va ns) (hb : RdE w vb ns) (hn : ns.length ≤ 1048576) :
    Calls Tryd.prog 24 #[.agg #[.bool t, .int .i64 z, va], .agg #[.bool t, .int .i64 z, vb]] w fun e w' => e = .returned (.bool true) ∧ Below w.heap.size w w' := by
  have B0 : Hid (Below w.heap.size w ((w.alloc (.cells #[.bool t, .int .i64 z, va] 46)).alloc (.cells #[.bool t, .int .i64 z, vb] 46))) := ((Below.refl _ _).alloc (Nat.le_refl _) _).alloc (by simp) _
  have RA : Hid (RdE ((w.alloc (.cells #[.bool t, .int .i64 z, va] 46)).alloc (.cells #[.bool t, .int .i64 z, vb] 46)) va ns) := ha.below B0.out
  have RB : Hid (RdE ((w.alloc (.cells #[.bool t, .int .i64 z, va] 46)).alloc (.cells #[.bool t, .int .i64 z, vb] 46)) vb ns) := hb.below B0.out
  have htt : (t != t) = false := by simp
  clear ha hb
  go_enter Tryd.func24, Tryd.ntmps24
  go_wp2_with fail
  refine (eqTxn_same _ _ _ _ ns RA.out RB.out hn).mono ?_
  rintro e w1 ⟨rfl, b1⟩
  have B1 : Hid (Below w.heap.size w w1) := B0.out.trans (b1.mono (by simp; omega))
  clear b1
  go_wp2
  go_ret
  exact ⟨rfl, B1.out⟩

set_option maxHeartbeats 400000 in
theorem markTxnL_any (w : World) (lo k : Nat) (z : Int) (v : Value) (ns : List Ef) (h : OwnE 79 w lo v ns) (hl : lo ≤ w.heap.size) (hk : k ≤ 1048576) (hn : ns.length ≤ 1048576) :
    Calls Tryd.prog 45 #[.agg #[.int .i64 z, v], .int .i64 k] w fun e w' => e = .returned (.int .i64 ((k + 8 * ns.length : Nat) : Int)) ∧ OwnE 79 w' lo v (mkEs k ns.length) ∧ Below lo w w' ∧ KT 79 w w' := by
  have H : Hid (OwnE 79 w lo v ns) := h
  clear h
  go_enter Tryd.func45, Tryd.ntmps45
  go_wp2_with fail
  refine (markEffectL_any _ lo k v ns (H.out.below ((Below.refl _ _).alloc (Nat.le_refl _) _)) hk hn).mono ?_
  rintro e w1 ⟨rfl, o1, b1, k1⟩
  have O1 : Hid (OwnE 79 w1 lo v (mkEs k ns.length)) := o1
  have B1 : Hid (Below lo w w1) := ((Below.refl _ _).alloc hl _).trans b1
  have K1 : Hid (KT 79 w w1) := ((KT.refl _ _).alloc _).trans k1
  clear b1 k1 o1
  go_wp2
  go_ret
  exact ⟨rfl, O1.out, B1.out, K1.out⟩

set_option maxHeartbeats 400000 in
theorem markXR_any (w : World) (lo k : Nat) (t : Bool) (z : Int) (v : Value) (ns : List Ef) (h : OwnE 79 w lo v ns) (hl : lo ≤ w.heap.size) (hk : k ≤ 1048576) (hn : ns.length ≤ 1048576) :
    Calls Tryd.prog 27 #[.agg #[.bool t, .int .i64 z, v], .int .i64 k] w fun e w' => e = .returned (.int .i64 ((k + 8 * ns.length : Nat) : Int)) ∧ OwnE 79 w' lo v (mkEs k ns.length) ∧ Below lo w w' ∧ KT 79 w w' := by
  have H : Hid (OwnE 79 w lo v ns) := h
  clear h
  go_enter Tryd.func27, Tryd.ntmps27
  go_wp2_with fail
  refine (markTxnL_any _ lo k z v ns (H.out.below ((Below.refl _ _).alloc (Nat.le_refl _) _)) (by simp; omega) hk hn).mono ?_
  rintro e w1 ⟨rfl, o1, b1, k1⟩
  have O1 : Hid (OwnE 79 w1 lo v (mkEs k ns.length)) := o1
  have B1 : Hid (Below lo w w1) := ((Below.refl _ _).alloc hl _).trans b1
  have K1 : Hid (KT 79 w w1) := ((KT.refl _ _).alloc _).trans k1
  clear b1 k1 o1
  go_wp2
  go_ret
  exact ⟨rfl, O1.out, B1.out, K1.out⟩

set_option maxHeartbeats 400000 in
theorem heldTxn_any (w : World) (k n : Nat) (z : Int) (v : Value) (h : RdE w v (mkEs k n)) (hk : k ≤ 1048576) (hn : n ≤ 1048576) :
    Calls Tryd.prog 69 #[.agg #[.int .i64 z, v], .int .i64 k] w fun e w' => e = .returned (.int .i64 ((k + 8 * n : Nat) : Int)) ∧ Below w.heap.size w w' := by
  have B0 : Hid (Below w.heap.size w (w.alloc (.cells #[.int .i64 z, v] 40))) := (Below.refl _ _).alloc (Nat.le_refl _) _
  have H : Hid (RdE (w.alloc (.cells #[.int .i64 z, v] 40)) v (mkEs k n)) := h.below B0.out
  clear h
  go_enter Tryd.func69, Tryd.ntmps69
  go_wp2_with fail
  refine (heldEffectS_any _ _ k n H.out hk hn).mono ?_
  rintro e w1 ⟨rfl, b1⟩
  have B1 : Hid (Below w.heap.size w w1) := B0.out.trans (b1.mono (by simp))
  have hI : ¬ ((k + 8 * n : Nat) : Int) < 0 := by omega
  clear b1
  go_wp2
  go_ret
  exact ⟨rfl, B1.out⟩

set_option maxHeartbeats 400000 in
theorem heldXR_any (w : World) (k n : Nat) (t : Bool) (z : Int) (v : Value) (h : RdE w v (mkEs k n)) (hk : k ≤ 1048576) (hn : n ≤ 1048576) :
    Calls Tryd.prog 28 #[.agg #[.bool t, .int .i64 z, v], .int .i64 k] w fun e w' => e = .returned (.int .i64 ((k + 8 * n : Nat) : Int)) ∧ Below w.heap.size w w' := by
  have B0 : Hid (Below w.heap.size w (w.alloc (.cells #[.bool t, .int .i64 z, v] 46))) := (Below.refl _ _).alloc (Nat.le_refl _) _
  have H : Hid (RdE (w.alloc (.cells #[.bool t, .int .i64 z, v] 46)) v (mkEs k n)) := h.below B0.out
  clear h
  go_enter Tryd.func28, Tryd.ntmps28
  go_wp2_with fail
  refine (heldTxn_any _ k n _ _ H.out hk hn).mono ?_
  rintro e w1 ⟨rfl, b1⟩
  have B1 : Hid (Below w.heap.size w w1) := B0.out.trans (b1.mono (by simp))
  have hI : ¬ ((k + 8 * n : Nat) : Int) < 0 := by omega
  clear b1
  go_wp2
  go_ret
  exact ⟨rfl, B1.out⟩

set_option maxHeartbeats 2000000 in
set_option maxRecDepth 100000 in
theorem lawDecTxn_walk (w : World) (v : Value) (xs : List Int) (h : Rd .u8 w v xs) (hby : Byt xs) :
    Calls Tryd.prog 5 #[v] w fun e w' => e = .returned (.bool true) ∧ Below w.heap.size w w' := by
  obtain ⟨ao, cap, hv, hl1, hl2⟩ := h.len
  have HR : Hid (Rd .u8 w v xs) := h
  have HBY : Hid (Byt xs) := hby
  subst hv
  clear h hby
  unfold maxLen at hl2
  by_cases hbig : 1048576 < xs.length
  · have hbI : (1048576 : Int) < (xs.length : Int) := by omega
    go_enter Tryd.func5, Tryd.ntmps5
    go_wp2
    go_ret
    exact ⟨rfl, Below.refl _ _⟩
  have hbI : ¬ (1048576 : Int) < (xs.length : Int) := by omega
  have hrl := resX_len xs
  obtain ⟨t, z, ns, hts⟩ : ∃ t z ns, resX xs = (t, z, ns) := ⟨_, _, _, rfl⟩
  rw [hts] at hrl
  simp only at hrl
  have HTS : Hid (resX xs = (t, z, ns)) := hts
  clear hts
  go_enter Tryd.func5, Tryd.ntmps5
  go_wp2_with fail
  refine (toByteS_any _ _ xs HR.out (by omega)).mono ?_
  rintro e w1 ⟨v1, rfl, o1, b1⟩
  go_wp2_with fail
  refine (specDecX_any _ _ xs o1.rd HBY.out (by omega)).mono ?_
  intro e w2 hpost
  obtain ⟨a2, c2, rfl, o2, b2⟩ := hpost.res
  rw [HTS.out] at o2
  rw [HTS.out]
  simp only at o2
  simp only
  clear hpost
  have s1 := b1.size
  have s2 := b2.size
  have O2 : Hid (OwnE 79 w2 w1.heap.size (.slice a2 ns.length c2) ns) := o2
  have B2 : Hid (Below w.heap.size w w2) := b1.trans (b2.mono s1)
  clear o1 b1 b2 o2
  have ba : Below w2.heap.size w2 (w2.alloc (.cells #[.bool t, .int .i64 z, .slice a2 ns.length c2] 46)) := (Below.refl _ _).alloc (Nat.le_refl _) _
  have X3 : Hid (BxQ (w2.alloc (.cells #[.bool t, .int .i64 z, .slice a2 ns.length c2] 46)) w2.heap.size t z (.slice a2 ns.length c2)) := BxQ.new w2 t z _
  have O3 : Hid (OwnE 79 (w2.alloc (.cells #[.bool t, .int .i64 z, .slice a2 ns.length c2] 46)) w1.heap.size (.slice a2 ns.length c2) ns) := O2.out.below ba
  have B3 : Hid (Below w.heap.size w (w2.alloc (.cells #[.bool t, .int .i64 z, .slice a2 ns.length c2] 46))) := B2.out.trans (ba.mono B2.out.size)
  have L2 : Hid (∀ g, (Value.slice a2 ns.length c2).ownBlock = some g → g < w2.heap.size) := fun g hg => (World.ownsRow.lt O2.out g hg).2
  have s23 := ba.size
  go_wp2_with fail
  clear ba O2
  generalize w2.alloc (.cells #[.bool t, .int .i64 z, .slice a2 ns.length c2] 46) = wa at *
  have sa := B3.out.size
  refine (toByteS_any _ _ xs (HR.out.below B3.out) (by omega)).mono ?_
  rintro e w4 ⟨v4, rfl, o4, b4⟩
  have s4 := b4.size
  have O4 : Hid (Own .u8 5 w4 wa.heap.size v4 xs) := o4
  have X4 : Hid (BxQ w4 w2.heap.size t z (.slice a2 ns.length c2)) := X3.out.later b4
  have O34 : Hid (OwnE 79 w4 w1.heap.size (.slice a2 ns.length c2) ns) := O3.out.below b4
  have B4 : Hid (Below w.heap.size w w4) := B3.out.trans (b4.mono sa)
  clear o4 b4 X3 O3 B3
  go_wp2_with fail
  refine (implDecX_any _ _ xs O4.out.rd HBY.out (by omega)).mono ?_
  intro e w5 hpost
  obtain ⟨a5, c5, rfl, o5, b5⟩ := hpost.res
  rw [HTS.out] at o5
  rw [HTS.out]
  simp only at o5
  simp only
  clear hpost
  have s5 := b5.size
  have O5 : Hid (OwnE 79 w5 w4.heap.size (.slice a5 ns.length c5) ns) := o5
  have O45 : Hid (Own .u8 5 w5 wa.heap.size v4 xs) := O4.out.below b5
  have X5 : Hid (BxQ w5 w2.heap.size t z (.slice a2 ns.length c2)) := X4.out.later b5
  have O35 : Hid (OwnE 79 w5 w1.heap.size (.slice a2 ns.length c2) ns) := O34.out.below b5
  have B5 : Hid (Below w.heap.size w w5) := B4.out.trans (b5.mono B4.out.size)
  clear o5 b5 O4 X4 O34 B4
  have ba : Below w5.heap.size w5 (w5.alloc (.cells #[.bool t, .int .i64 z, .slice a5 ns.length c5] 46)) := (Below.refl _ _).alloc (Nat.le_refl _) _
  have Y6 : Hid (BxQ (w5.alloc (.cells #[.bool t, .int .i64 z, .slice a5 ns.length c5] 46)) w5.heap.size t z (.slice a5 ns.length c5)) := BxQ.new w5 t z _
  have X6 : Hid (BxQ (w5.alloc (.cells #[.bool t, .int .i64 z, .slice a5 ns.length c5] 46)) w2.heap.size t z (.slice a2 ns.length c2)) := X5.out.later ba
  have O6 : Hid (OwnE 79 (w5.alloc (.cells #[.bool t, .int .i64 z, .slice a5 ns.length c5] 46)) w4.heap.size (.slice a5 ns.length c5) ns) := O5.out.below ba
  have O46 : Hid (Own .u8 5 (w5.alloc (.cells #[.bool t, .int .i64 z, .slice a5 ns.length c5] 46)) wa.heap.size v4 xs) := O45.out.below ba
  have O36 : Hid (OwnE 79 (w5.alloc (.cells #[.bool t, .int .i64 z, .slice a5 ns.length c5] 46)) w1.heap.size (.slice a2 ns.length c2) ns) := O35.out.below ba
  have B6 : Hid (Below w.heap.size w (w5.alloc (.cells #[.bool t, .int .i64 z, .slice a5 ns.length c5] 46))) := B5.out.trans (ba.mono B5.out.size)
  have s56 := ba.size
  obtain ⟨x0, x1, x2⟩ := X5.out.cells
  have xl := X5.out.lt
  go_wp2_with fail
  clear ba x0 x1 x2 xl O5 O45 X5 O35 B5
  generalize w5.alloc (.cells #[.bool t, .int .i64 z, .slice a5 ns.length c5] 46) = w6 at *
  refine (eqXR_same _ t z _ _ ns O6.out.rd O36.out.rd (by omega)).mono ?_
  rintro e w7 ⟨rfl, b7⟩
  have s7 := b7.size
  have O7 : Hid (OwnE 79 w7 w4.heap.size (.slice a5 ns.length c5) ns) := O6.out.below b7
  have O47 : Hid (Own .u8 5 w7 wa.heap.size v4 xs) := O46.out.below b7
  have O37 : Hid (OwnE 79 w7 w1.heap.size (.slice a2 ns.length c2) ns) := O36.out.below b7
  have X7 : Hid (BxQ w7 w2.heap.size t z (.slice a2 ns.length c2)) := X6.out.later b7
  have Y7 : Hid (BxQ w7 w5.heap.size t z (.slice a5 ns.length c5)) := Y6.out.later b7
  have B7 : Hid (Below w.heap.size w w7) := B6.out.trans (b7.mono B6.out.size)
  clear b7 O6 O46 O36 X6 Y6 B6
  go_wp2_with fail
  refine (toByteS_any _ _ xs (HR.out.below B7.out) (by omega)).mono ?_
  rintro e w8 ⟨v8, rfl, o8, b8⟩
  have s8 := b8.size
  have O8 : Hid (OwnE 79 w8 w4.heap.size (.slice a5 ns.length c5) ns) := O7.out.below b8
  have O48 : Hid (Own .u8 5 w8 wa.heap.size v4 xs) := O47.out.below b8
  have O38 : Hid (OwnE 79 w8 w1.heap.size (.slice a2 ns.length c2) ns) := O37.out.below b8
  have X8 : Hid (BxQ w8 w2.heap.size t z (.slice a2 ns.length c2)) := X7.out.later b8
  have Y8 : Hid (BxQ w8 w5.heap.size t z (.slice a5 ns.length c5)) := Y7.out.later b8
  have B8 : Hid (Below w.heap.size w w8) := B7.out.trans (b8.mono B7.out.size)
  have N8 : Hid (Rd .u8 w8 v8 xs) := o8.rd
  clear b8 o8 O7 O47 O37 X7 Y7 B7
  go_wp2_with fail
  refine (eqByteS_any _ _ _ xs xs O48.out.rd N8.out).mono ?_
  rintro e w9 ⟨rfl, q9, rfl⟩
  rw [show decide (xs = xs) = true by simp]
  go_wp2_with fail
  refine (markByteS_any _ _ _ xs 1 (O48.out.drewN q9) (by omega) (by omega) (by omega)).mono ?_
  rintro e w10 ⟨rfl, o10, g10⟩
  have k10 : KT 5 w8 w10 := ((KT.refl _ _).below (below_drewN' w8 q9)).grown (O48.out.drewN q9) g10
  have s10 := k10.1
  have O10 : Hid (OwnE 79 w10 w4.heap.size (.slice a5 ns.length c5) ns) := O8.out.keepQ k10 (by decide)
  have O310 : Hid (OwnE 79 w10 w1.heap.size (.slice a2 ns.length c2) ns) := O38.out.keepQ k10 (by decide)
  have X10 : Hid (BxQ w10 w2.heap.size t z (.slice a2 ns.length c2)) := k10.box X8.out (by decide)
  have Y10 : Hid (BxQ w10 w5.heap.size t z (.slice a5 ns.length c5)) := k10.box Y8.out (by decide)
  have B10 : Hid (Below w.heap.size w w10) := (B8.out.trans ((below_drewN' w8 q9).mono B8.out.size)).grown g10 B8.out.size (fun k hk => by have := (O48.out.lt k hk).1; omega)
  clear o10 g10 k10 O8 O48 O38 X8 Y8 B8 N8
  have hk10 : ¬ (1 + (xs.length : Int)) < 0 := by omega
  obtain ⟨x0, x1, x2⟩ := X10.out.cells
  obtain ⟨y0, y1, y2⟩ := Y10.out.cells
  go_wp2_with fail
  refine (eqXR_same _ t z _ _ ns O10.out.rd O310.out.rd (by omega)).mono ?_
  rintro e w11 ⟨rfl, b11⟩
  clear x0 x1 x2 y0 y1 y2
  have s11 := b11.size
  have O11 : Hid (OwnE 79 w11 w4.heap.size (.slice a5 ns.length c5) ns) := O10.out.below b11
  have O311 : Hid (OwnE 79 w11 w1.heap.size (.slice a2 ns.length c2) ns) := O310.out.below b11
  have X11 : Hid (BxQ w11 w2.heap.size t z (.slice a2 ns.length c2)) := X10.out.later b11
  have Y11 : Hid (BxQ w11 w5.heap.size t z (.slice a5 ns.length c5)) := Y10.out.later b11
  have B11 : Hid (Below w.heap.size w w11) := B10.out.trans (b11.mono B10.out.size)
  clear b11 O10 O310 X10 Y10 B10
  obtain ⟨y0, y1, y2⟩ := Y11.out.cells
  go_wp2_with fail
  refine (markXR_any _ w4.heap.size 1 t _ _ ns O11.out (by omega) (by omega) (by omega)).mono ?_
  rintro e w12 ⟨rfl, o12, b12, k12⟩
  clear y0 y1 y2
  have s12 := b12.size
  have O12 : Hid (OwnE 79 w12 w4.heap.size (.slice a5 ns.length c5) (mkEs 1 ns.length)) := o12
  have O312 : Hid (OwnE 79 w12 w1.heap.size (.slice a2 ns.length c2) ns) := O311.out.belowQ b12 (fun g hg => by have := L2.out g hg; omega)
  have X12 : Hid (BxQ w12 w2.heap.size t z (.slice a2 ns.length c2)) := k12.box X11.out (by decide)
  have Y12 : Hid (BxQ w12 w5.heap.size t z (.slice a5 ns.length c5)) := k12.box Y11.out (by decide)
  have B12 : Hid (Below w.heap.size w w12) := B11.out.trans (b12.mono (by omega))
  clear b12 o12 k12 O11 O311 X11 Y11 B11
  obtain ⟨y0, y1, y2⟩ := Y12.out.cells
  go_wp2_with fail
  refine (heldXR_any _ 1 ns.length t _ _ O12.out.rd (by omega) (by omega)).mono ?_
  rintro e w13 ⟨rfl, b13⟩
  clear y0 y1 y2
  have O313 : Hid (OwnE 79 w13 w1.heap.size (.slice a2 ns.length c2) ns) := O312.out.below b13
  have X13 : Hid (BxQ w13 w2.heap.size t z (.slice a2 ns.length c2)) := X12.out.later b13
  have B13 : Hid (Below w.heap.size w w13) := B12.out.trans (b13.mono B12.out.size)
  clear b13 O12 O312 X12 Y12 B12
  have hk13 : ¬ ((1 + 8 * ns.length : Nat) : Int) < 0 := by omega
  go_wp2_with fail
  refine (toByteS_any _ _ xs (HR.out.below B13.out) (by omega)).mono ?_
  rintro e w14 ⟨v14, rfl, o14, b14⟩
  have O314 : Hid (OwnE 79 w14 w1.heap.size (.slice a2 ns.length c2) ns) := O313.out.below b14
  have X14 : Hid (BxQ w14 w2.heap.size t z (.slice a2 ns.length c2)) := X13.out.later b14
  have B14 : Hid (Below w.heap.size w w14) := B13.out.trans (b14.mono B13.out.size)
  have N14 : Hid (Rd .u8 w14 v14 xs) := o14.rd
  clear b14 o14 O313 X13 B13
  go_wp2_with fail
  refine (implDecX_any _ _ xs N14.out HBY.out (by omega)).mono ?_
  intro e w15 hpost
  obtain ⟨a15, c15, rfl, o15, b15⟩ := hpost.res
  rw [HTS.out] at o15
  rw [HTS.out]
  simp only at o15
  simp only
  clear hpost
  have ba : Below w15.heap.size w15 (w15.alloc (.cells #[.bool t, .int .i64 z, .slice a15 ns.length c15] 46)) := (Below.refl _ _).alloc (Nat.le_refl _) _
  have O16 : Hid (RdE (w15.alloc (.cells #[.bool t, .int .i64 z, .slice a15 ns.length c15] 46)) (.slice a15 ns.length c15) ns) := o15.rd.below ba
  have O316 : Hid (RdE (w15.alloc (.cells #[.bool t, .int .i64 z, .slice a15 ns.length c15] 46)) (.slice a2 ns.length c2) ns) := (O314.out.below b15).rd.below ba
  have X15 : Hid (BxQ w15 w2.heap.size t z (.slice a2 ns.length c2)) := X14.out.later b15
  have B15 : Hid (Below w.heap.size w w15) := B14.out.trans (b15.mono B14.out.size)
  have B16 : Hid (Below w.heap.size w (w15.alloc (.cells #[.bool t, .int .i64 z, .slice a15 ns.length c15] 46))) := B15.out.trans (ba.mono B15.out.size)
  clear b15 o15 O314 X14 B14 ba
  obtain ⟨x0, x1, x2⟩ := X15.out.cells
  have xl := X15.out.lt
  go_wp2_with fail
  refine (eqXR_same _ t z _ _ ns O16.out O316.out (by omega)).mono ?_
  rintro e w17 ⟨rfl, b17⟩
  have B17 : Hid (Below w.heap.size w w17) := B16.out.trans (b17.mono B16.out.size)
  clear b17 x0 x1 x2 xl
  go_wp2
  go_ret
  exact ⟨rfl, B17.out⟩

end Go.Proofs.YtfmjalbiimhdhaaDoor
