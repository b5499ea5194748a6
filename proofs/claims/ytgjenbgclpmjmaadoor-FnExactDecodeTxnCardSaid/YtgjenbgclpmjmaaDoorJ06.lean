import Derived.Test.YtgjenbgclpmjmaaDoorJ03
import Derived.Test.YtgjenbgclpmjmaaDoorJ05
import Derived.Test.YtgjenbgclpmjmaaDoorJ04
import Derived.Test.YtgjenbgclpmjmaaDoorJ02
import Derived.Test.YtgjenbgclpmjmaaDoorJ01
namespace Go.Proofs.YtgjenbgclpmjmaaDoor
open Go.RowKit Go.Shelf

/-- What came in: a tree of the laws' own type. -/
def InT (w : World) (v : Value) (ns : List Nd) : Prop := RdN w v ns ∧ ∀ i, (nAt ns i).path.size ≤ maxLen ∧ (nAt ns i).data.size ≤ maxLen

set_option maxHeartbeats 2000000 in
set_option maxRecDepth 100000 in
theorem lawTree_walk (w : World) (v : Value) (ns : List Nd) (h : InT w v ns) :
    Calls Tryd.prog 4 #[.agg #[v]] w fun e w' => e = .returned (.bool true) ∧ Below w.heap.size w w' := by
  obtain ⟨hr, hsz⟩ := h
  obtain ⟨ao, ca, rfl, _, _⟩ := hr.len
  have B0 : Hid (Below w.heap.size w (w.alloc (.cells #[.slice ao ns.length ca] 25))) := (Below.refl _ _).alloc (Nat.le_refl _) _
  have X0 : Hid (Boxed (w.alloc (.cells #[.slice ao ns.length ca] 25)) w.heap.size 25 (.slice ao ns.length ca)) := Boxed.new _ _ _
  have HR : Hid (RdN w (.slice ao ns.length ca) ns) := hr
  have HZ : Hid (∀ i, (nAt ns i).path.size ≤ maxLen ∧ (nAt ns i).data.size ≤ maxLen) := hsz
  clear hr hsz
  go_enter Tryd.func4, Tryd.ntmps4
  go_wp2_with fail
  generalize w.alloc (.cells #[.slice ao ns.length ca] 25) = w0 at *
  refine (szTree_any _ _ ns (HR.out.below B0.out) HZ.out 1048576 (by omega) (by omega)).mono ?_
  rintro e w1 ⟨r, rfl, hsz, b1⟩
  have B1 : Hid (Below w.heap.size w w1) := B0.out.trans (b1.mono B0.out.size)
  have X1 : Hid (Boxed w1 w.heap.size 25 (.slice ao ns.length ca)) := boxed_below b1 X0.out
  clear b1 X0 B0
  by_cases hneg : r < 0
  · clear hsz
    go_wp2
    go_ret
    exact ⟨rfl, B1.out⟩
  · have hsz' : r + ns.length + totN ns = 1048576 := by omega
    have hn : ns.length ≤ 1048576 := by omega
    have hd : Hid (∀ i, (nAt ns i).path.size ≤ 1048576 ∧ (nAt ns i).data.size ≤ 1048576) := fun i => by have := totN_ge ns i; omega
    clear hsz hsz'
    have c0 := X1.out.cell
    go_wp2_with fail
    refine (toTree_any _ _ ns (HR.out.below B1.out) hn).mono ?_
    rintro e w2 ⟨a2, k2, rfl, o2, b2⟩
    have Q2 : Hid (RdN w2 (.slice a2 ns.length k2) ns) := o2.rd
    have B2 : Hid (Below w.heap.size w w2) := B1.out.trans (b2.mono B1.out.size)
    have X2 : Hid (Boxed w2 w.heap.size 25 (.slice ao ns.length ca)) := boxed_below b2 X1.out
    clear o2 b2 c0 X1
    go_wp2_with fail
    refine (specTree_any _ _ ns Q2.out hn hd.out).mono ?_
    rintro e w3 ⟨rfl, b3⟩
    have B3 : Hid (Below w.heap.size w w3) := B2.out.trans (b3.mono B2.out.size)
    have X3 : Hid (Boxed w3 w.heap.size 25 (.slice ao ns.length ca)) := boxed_below b3 X2.out
    clear b3 Q2 X2
    have c0 := X3.out.cell
    go_wp2_with fail
    refine (toTree_any _ _ ns (HR.out.below B3.out) hn).mono ?_
    rintro e w4 ⟨a4, k4, rfl, o4, b4⟩
    have Q4 : Hid (RdN w4 (.slice a4 ns.length k4) ns) := o4.rd
    have B4 : Hid (Below w.heap.size w w4) := B3.out.trans (b4.mono B3.out.size)
    have X4 : Hid (Boxed w4 w.heap.size 25 (.slice ao ns.length ca)) := boxed_below b4 X3.out
    clear o4 b4 c0 X3
    go_wp2_with fail
    have BA : Hid (Below w4.heap.size w4 (w4.alloc (.cells #[.slice a4 ns.length k4] 30))) := (Below.refl _ _).alloc (Nat.le_refl _) _
    have Y5 : Hid (Boxed (w4.alloc (.cells #[.slice a4 ns.length k4] 30)) w4.heap.size 30 (.slice a4 ns.length k4)) := Boxed.new _ _ _
    generalize w4.alloc (.cells #[.slice a4 ns.length k4] 30) = w5 at *
    have B5 : Hid (Below w.heap.size w w5) := B4.out.trans (BA.out.mono B4.out.size)
    have X5 : Hid (Boxed w5 w.heap.size 25 (.slice ao ns.length ca)) := boxed_below BA.out X4.out
    have Q5 : Hid (RdN w5 (.slice a4 ns.length k4) ns) := Q4.out.below BA.out
    clear X4 Q4 BA
    refine (implTree_any _ _ ns Q5.out hd.out).mono ?_
    rintro e w6 ⟨rfl, b6⟩
    have B6 : Hid (Below w.heap.size w w6) := B5.out.trans (b6.mono B5.out.size)
    have X6 : Hid (Boxed w6 w.heap.size 25 (.slice ao ns.length ca)) := boxed_below b6 X5.out
    have Y6 : Hid (Boxed w6 w4.heap.size 30 (.slice a4 ns.length k4)) := boxed_below b6 Y5.out
    have Q6 : Hid (RdN w6 (.slice a4 ns.length k4) ns) := Q5.out.below b6
    clear b6 X5 Y5 Q5 B5
    generalize okTree ns = vv at *
    have hvv : (vv != vv) = false := by simp
    have c0 := X6.out.cell
    have d0 := Y6.out.cell
    have HT : Hid (∀ q, Calls Tryd.prog 16 #[.agg #[.slice ao ns.length ca]] (w6.drewN q) fun e w' => ∃ a c, e = .returned (.agg #[.slice a ns.length c]) ∧ Hid (RdN w' (.slice a ns.length c) ns) ∧ Hid (RdN w' (.slice a4 ns.length k4) ns) ∧ w'.cell? ⟨w4.heap.size, 0, none⟩ = some (.slice a4 ns.length k4) ∧ Hid (Below w.heap.size w w')) := by
      intro q
      refine (toTree_any _ _ ns ((HR.out.below B6.out).below (below_drewN' w6 q)) hn).mono ?_
      rintro e w' ⟨a, c, rfl, o', b'⟩
      have b6' : Below w6.heap.size w6 w' := (below_drewN' w6 q).trans b'
      exact ⟨a, c, rfl, o'.rd, Q6.out.below b6', (boxed_below b6' Y6.out).cell, B6.out.trans (b6'.mono B6.out.size)⟩
    go_wp2
    go_region_with (first | (go_at_call 16; refine (HT.out 1).mono ?_; rintro e w' ⟨a, c, rfl, r1, r2, k0, bw⟩) | (go_at_call 18; refine (eqTree_same _ _ _ ns r2.out r1.out hn).mono ?_; rintro e w'' ⟨rfl, b''⟩))
    all_goals
      have HB : Hid (Below w.heap.size w w'') := bw.out.trans (b''.mono bw.out.size)
      clear b'' k0
      go_wp2
      go_ret
      exact ⟨rfl, HB.out⟩

end Go.Proofs.YtgjenbgclpmjmaaDoor

namespace Go.Proofs.YtgjenbgclpmjmaaDoor
open Go.RowKit Go.Shelf

/-- A local transaction. -/
def BoxX (w : World) (B : Nat) (z : Int) (v : Value) : Prop := B < w.heap.size ∧ w.cell? ⟨B, 0, none⟩ = some (.int .i64 z) ∧ w.cell? ⟨B, 1, none⟩ = some v
theorem BoxX.below {w w' : World} {b : Nat} {x : Int} {y : Value} (h : BoxX w b x y) (hb : Below w.heap.size w w') : BoxX w' b x y :=
  ⟨Nat.lt_of_lt_of_le h.1 hb.size, (hb.cell (p := ⟨b, 0, none⟩) h.1).trans h.2.1, (hb.cell (p := ⟨b, 1, none⟩) h.1).trans h.2.2⟩
theorem BoxX.new (w : World) (x : Int) (y : Value) (t : TypeId) : BoxX (w.alloc (.cells #[.int .i64 x, y] t)) w.heap.size x y := ⟨by simp, by simp, by simp⟩

/-- What came in: a transaction of the laws' own type. -/
def InX (w : World) (v : Value) (ns : List Ef) : Prop := RdE w v ns ∧ ∀ i, (eAt ns i).nd.path.size ≤ maxLen ∧ (eAt ns i).nd.data.size ≤ maxLen

set_option maxHeartbeats 2000000 in
set_option maxRecDepth 100000 in
theorem lawTxn_walk (w : World) (z : Int) (v : Value) (ns : List Ef) (h : InX w v ns) :
    Calls Tryd.prog 5 #[.agg #[.int .i64 z, v]] w fun e w' => e = .returned (.bool true) ∧ Below w.heap.size w w' := by
  obtain ⟨hr, hsz⟩ := h
  obtain ⟨ao, ca, rfl, _, _⟩ := hr.len
  have B0 : Hid (Below w.heap.size w (w.alloc (.cells #[.int .i64 z, .slice ao ns.length ca] 36))) := (Below.refl _ _).alloc (Nat.le_refl _) _
  have X0 : Hid (BoxX (w.alloc (.cells #[.int .i64 z, .slice ao ns.length ca] 36)) w.heap.size z (.slice ao ns.length ca)) := BoxX.new _ _ _ _
  have HR : Hid (RdE w (.slice ao ns.length ca) ns) := hr
  have HZ : Hid (∀ i, (eAt ns i).nd.path.size ≤ maxLen ∧ (eAt ns i).nd.data.size ≤ maxLen) := hsz
  clear hr hsz
  go_enter Tryd.func5, Tryd.ntmps5
  go_wp2_with fail
  generalize w.alloc (.cells #[.int .i64 z, .slice ao ns.length ca] 36) = w0 at *
  refine (szTxn_any _ _ _ ns (HR.out.below B0.out) HZ.out 1048576 (by omega) (by omega)).mono ?_
  rintro e w1 ⟨r, rfl, hsz, b1⟩
  have B1 : Hid (Below w.heap.size w w1) := B0.out.trans (b1.mono B0.out.size)
  have X1 : Hid (BoxX w1 w.heap.size z (.slice ao ns.length ca)) := X0.out.below b1
  clear b1 X0 B0
  by_cases hneg : r < 0
  · clear hsz
    go_wp2
    go_ret
    exact ⟨rfl, B1.out⟩
  · have hsz' : r + ns.length + totE ns = 1048576 := by omega
    have hn : ns.length ≤ 1048576 := by omega
    have hd : Hid (∀ i, (eAt ns i).nd.path.size ≤ 1048576 ∧ (eAt ns i).nd.data.size ≤ 1048576) := fun i => by have := totE_ge ns i; omega
    clear hsz hsz'
    obtain ⟨-, c0, c1⟩ := X1.out
    go_wp2_with fail
    refine (toTxn_any _ _ _ ns (HR.out.below B1.out) hn).mono ?_
    rintro e w2 ⟨a2, k2, rfl, o2, b2⟩
    have Q2 : Hid (RdE w2 (.slice a2 ns.length k2) ns) := o2.rd
    have B2 : Hid (Below w.heap.size w w2) := B1.out.trans (b2.mono B1.out.size)
    have X2 : Hid (BoxX w2 w.heap.size z (.slice ao ns.length ca)) := X1.out.below b2
    clear o2 b2 c0 c1 X1
    go_wp2_with fail
    refine (specTxn_any _ _ _ ns Q2.out hd.out).mono ?_
    rintro e w3 ⟨rfl, b3⟩
    have B3 : Hid (Below w.heap.size w w3) := B2.out.trans (b3.mono B2.out.size)
    have X3 : Hid (BoxX w3 w.heap.size z (.slice ao ns.length ca)) := X2.out.below b3
    clear b3 Q2 X2
    obtain ⟨-, c0, c1⟩ := X3.out
    go_wp2_with fail
    refine (toTxn_any _ _ _ ns (HR.out.below B3.out) hn).mono ?_
    rintro e w4 ⟨a4, k4, rfl, o4, b4⟩
    have Q4 : Hid (RdE w4 (.slice a4 ns.length k4) ns) := o4.rd
    have B4 : Hid (Below w.heap.size w w4) := B3.out.trans (b4.mono B3.out.size)
    have X4 : Hid (BoxX w4 w.heap.size z (.slice ao ns.length ca)) := X3.out.below b4
    clear o4 b4 c0 c1 X3
    go_wp2_with fail
    have BA : Hid (Below w4.heap.size w4 (w4.alloc (.cells #[.int .i64 z, .slice a4 ns.length k4] 41))) := (Below.refl _ _).alloc (Nat.le_refl _) _
    have Y5 : Hid (BoxX (w4.alloc (.cells #[.int .i64 z, .slice a4 ns.length k4] 41)) w4.heap.size z (.slice a4 ns.length k4)) := BoxX.new _ _ _ _
    generalize w4.alloc (.cells #[.int .i64 z, .slice a4 ns.length k4] 41) = w5 at *
    have B5 : Hid (Below w.heap.size w w5) := B4.out.trans (BA.out.mono B4.out.size)
    have X5 : Hid (BoxX w5 w.heap.size z (.slice ao ns.length ca)) := X4.out.below BA.out
    have Q5 : Hid (RdE w5 (.slice a4 ns.length k4) ns) := Q4.out.below BA.out
    clear X4 Q4 BA
    refine (implTxn_any _ _ _ ns Q5.out hd.out).mono ?_
    rintro e w6 ⟨rfl, b6⟩
    have B6 : Hid (Below w.heap.size w w6) := B5.out.trans (b6.mono B5.out.size)
    have X6 : Hid (BoxX w6 w.heap.size z (.slice ao ns.length ca)) := X5.out.below b6
    have Y6 : Hid (BoxX w6 w4.heap.size z (.slice a4 ns.length k4)) := Y5.out.below b6
    have Q6 : Hid (RdE w6 (.slice a4 ns.length k4) ns) := Q5.out.below b6
    clear b6 X5 Y5 Q5 B5
    generalize okTxn z ns = vv at *
    have hvv : (vv != vv) = false := by simp
    obtain ⟨-, c0, c1⟩ := X6.out
    obtain ⟨-, d0, d1⟩ := Y6.out
    have HT : Hid (∀ q, Calls Tryd.prog 21 #[.agg #[.int .i64 z, .slice ao ns.length ca]] (w6.drewN q) fun e w' => ∃ a c, e = .returned (.agg #[.int .i64 z, .slice a ns.length c]) ∧ Hid (RdE w' (.slice a ns.length c) ns) ∧ Hid (RdE w' (.slice a4 ns.length k4) ns) ∧ (w'.cell? ⟨w4.heap.size, 0, none⟩ = some (.int .i64 z) ∧ w'.cell? ⟨w4.heap.size, 1, none⟩ = some (.slice a4 ns.length k4)) ∧ Hid (Below w.heap.size w w')) := by
      intro q
      refine (toTxn_any _ _ _ ns ((HR.out.below B6.out).below (below_drewN' w6 q)) hn).mono ?_
      rintro e w' ⟨a, c, rfl, o', b'⟩
      have b6' : Below w6.heap.size w6 w' := (below_drewN' w6 q).trans b'
      exact ⟨a, c, rfl, o'.rd, Q6.out.below b6', (Y6.out.below b6').2, B6.out.trans (b6'.mono B6.out.size)⟩
    go_wp2
    go_region_with (first | (go_at_call 21; refine (HT.out 1).mono ?_; rintro e w' ⟨a, c, rfl, r1, r2, ⟨k0, k1⟩, bw⟩) | (go_at_call 23; refine (eqTxn_same _ _ _ _ ns r2.out r1.out hn).mono ?_; rintro e w'' ⟨rfl, b''⟩))
    all_goals
      have HB : Hid (Below w.heap.size w w'') := bw.out.trans (b''.mono bw.out.size)
      clear b'' k0 k1
      go_wp2
      go_ret
      exact ⟨rfl, HB.out⟩

end Go.Proofs.YtgjenbgclpmjmaaDoor

namespace Go.Proofs.YtgjenbgclpmjmaaDoor
open Go.RowKit

def zeroX : Value := .agg #[.bool false, .int .i64 0, .slice none 0 0]
/-- What an answer of DecodeTxn is. -/
def DxPost (w : World) (ys : List Int) (e : Ending) (w' : World) : Prop :=
  Below w.heap.size w w' ∧ ((decX ys = none ∧ e = .returned zeroX) ∨ ∃ z es v, decX ys = some (z, es) ∧ e = .returned (.agg #[.bool true, .int .i64 z, v]) ∧ OwnE 86 w' w.heap.size v es)
/-- The answer's own variable, still zero. -/
def Zx (W : World) (k : Nat) : Prop := k < W.heap.size ∧ W.cell? ⟨k, 0, none⟩ = some (.bool false) ∧ W.cell? ⟨k, 1, none⟩ = some (.int .i64 0) ∧ W.cell? ⟨k, 2, none⟩ = some (.slice none 0 0) ∧ ∀ j, W.frozen? ⟨k, j, none⟩ = false
theorem Zx.turn {W W' : World} {k : Nat} {row : Option Nat} (h : Zx W k) (hg : W.grownBy W' row) (hne : some k ≠ row) : Zx W' k := by
  have hb := hg.block k h.1 hne
  exact ⟨Nat.lt_of_lt_of_le h.1 hg.size, (World.cell?_of_block (a := ⟨k, 0, none⟩) hb).trans h.2.1, (World.cell?_of_block (a := ⟨k, 1, none⟩) hb).trans h.2.2.1, (World.cell?_of_block (a := ⟨k, 2, none⟩) hb).trans h.2.2.2.1, fun j => (World.frozen?_of_block (a := ⟨k, j, none⟩) hb).trans (h.2.2.2.2 j)⟩
theorem Zx.set {W : World} {k B : Nat} (h : Zx W k) (hne : k ≠ B) (i : Nat) (u : Value) : Zx (W.setCell ⟨B, i, none⟩ u) k :=
  ⟨by simpa using h.1, (World.cell?_setCell_other _ _ _ _ (by intro e; injection e with e; omega)).trans h.2.1, (World.cell?_setCell_other _ _ _ _ (by intro e; injection e with e; omega)).trans h.2.2.1, (World.cell?_setCell_other _ _ _ _ (by intro e; injection e with e; omega)).trans h.2.2.2.1, fun j => by rw [World.frozen?_setCell]; exact h.2.2.2.2 j⟩
/-- A local transaction that may be written. -/
def B2 (W : World) (k : Nat) (z : Int) (v : Value) : Prop := k < W.heap.size ∧ W.cell? ⟨k, 0, none⟩ = some (.int .i64 z) ∧ W.cell? ⟨k, 1, none⟩ = some v ∧ ∀ j, W.frozen? ⟨k, j, none⟩ = false
theorem B2.turn {W W' : World} {k : Nat} {z : Int} {v : Value} {row : Option Nat} (h : B2 W k z v) (hg : W.grownBy W' row) (hne : some k ≠ row) : B2 W' k z v := by
  have hb := hg.block k h.1 hne
  exact ⟨Nat.lt_of_lt_of_le h.1 hg.size, (World.cell?_of_block (a := ⟨k, 0, none⟩) hb).trans h.2.1, (World.cell?_of_block (a := ⟨k, 1, none⟩) hb).trans h.2.2.1, fun j => (World.frozen?_of_block (a := ⟨k, j, none⟩) hb).trans (h.2.2.2 j)⟩
theorem OwnE.turn {W W' : World} {lo : Nat} {v : Value} {ns : List Ef} {k : Nat} (h : OwnE 86 W lo v ns) (hg : W.grownBy W' (some k)) (hk : k < lo) : OwnE 86 W' lo v ns := by
  refine World.ownsRow.kept h hg ?_
  cases e : v.ownBlock with
  | none => exact .inl rfl
  | some g =>
    refine .inr fun e2 => ?_
    have := (World.ownsRow.lt h g e).1
    simp only [Option.some.injEq] at e2
    omega
theorem erow_one (ns : List Ef) (n : Ef) : erow (ns ++ [n]) = erow ns ++ efL n := by rw [erow_append]; simp [erow]
theorem efL_cells (w : World) (n : Ef) (t : TypeId) : ∀ j u, (efL n)[j]? = some u → (w.alloc (.cells #[.bool n.del, .string n.nd.path, .string n.nd.data, .int .i64 n.nd.ver, .int .i64 n.nd.cver, .int .i64 n.nd.cz, .int .i64 n.nd.mz, .int .i64 n.nd.pz] t)).cell? ((⟨w.heap.size, 0, none⟩ : Addr).add j) = some u := by
  intro j u hj
  rw [Addr.add_lit, Nat.zero_add, cell_of (heap_alloc_new w _) j, ← hj]
  simp [efL]
theorem efL_one (n : Ef) : ∀ u ∈ efL n, u.oneCell' = true := by
  intro u hu
  simp only [efL, List.mem_cons, List.mem_nil_iff, or_false] at hu
  rcases hu with rfl | rfl | rfl | rfl | rfl | rfl | rfl | rfl <;> rfl
/-- The way of DecodeTxn. -/
def TX (w : World) (ys : List Int) (TB : Nat) (W : World) (v : Value) (es fs : List Ef) (r : List Int) (c : Nat) : Prop :=
  ParE (cntX ys) (ys.drop 6) fs r c ∧ Byt r ∧ SzE fs ∧ RS w W (w.heap.size + 1) r ∧ Zx W w.heap.size ∧ B2 W TB (zX ys) v ∧ OwnE 86 W (TB + 1) v es
theorem TX.later {w W W' : World} {ys : List Int} {TB : Nat} {v : Value} {es fs : List Ef} {r : List Int} {c : Nat} (h : TX w ys TB W v es fs r c) (hb : Below W.heap.size W W') : TX w ys TB W' v es fs r c := by
  obtain ⟨t1, t2, t3, t4, t5, t6, t7⟩ := h
  exact ⟨t1, t2, t3, t4.new hb, t5.turn (grown_of hb none) (by simp), t6.turn (grown_of hb none) (by simp), t7.below hb⟩
theorem TX.below {w W : World} {ys : List Int} {TB : Nat} {v : Value} {es fs : List Ef} {r : List Int} {c : Nat} (h : TX w ys TB W v es fs r c) : Below w.heap.size w W := h.2.2.2.1.2.2.2.1
theorem TX.read {w W W1 : World} {ys : List Int} {TB : Nat} {v : Value} {es : List Ef} {r r' : List Int} {c : Nat} {n : Ef} (hT : w.heap.size + 2 ≤ TB) (h : TX w ys TB W v es es r (c + 1)) (hg : W.grownBy W1 (some (w.heap.size + 1))) (hp : rdE r = some (n, r')) (hr : RS w W1 (w.heap.size + 1) r') : TX w ys TB W1 v es (es ++ [n]) r' c := by
  obtain ⟨t1, t2, t3, t4, t5, t6, t7⟩ := h
  have hb := rdE_byt hp t2
  exact ⟨t1.step t2 hp, hb.1, t3.snoc hb.2.2.1 hb.2.2.2, hr, t5.turn hg (by simp), t6.turn hg (by simp; omega), t7.turn hg (by omega)⟩
theorem TX.push {w W W3 : World} {ys : List Int} {TB : Nat} {v v3 : Value} {es : List Ef} {r : List Int} {c : Nat} {n : Ef} (hT : w.heap.size + 2 ≤ TB) (h : TX w ys TB W v es (es ++ [n]) r c) (hg : W.grownBy W3 v.ownBlock) (ho : W3.ownsRow (TB + 1) 86 8 v3 (es.length + 1) (erow es ++ efL n)) :
    TX w ys TB (W3.setCell ⟨TB, 1, none⟩ v3) v3 (es ++ [n]) (es ++ [n]) r c := by
  obtain ⟨t1, t2, t3, t4, t5, t6, t7⟩ := h
  have hne : ∀ k, k < TB + 1 → some k ≠ v.ownBlock := fun k hk e => by have := (World.ownsRow.lt t7 k e.symm).1; omega
  have hlo : ∀ g, v.ownBlock = some g → w.heap.size ≤ g := fun g e => by have := (World.ownsRow.lt t7 g e).1; omega
  have b6 := t6.turn hg (hne _ (by omega))
  refine ⟨t1, t2, t3, (t4.turn hg (hne _ (by omega)) hlo).setOther (by omega) (by omega) _ _, (t5.turn hg (hne _ (by omega))).set (by omega) _ _, ⟨by simpa using b6.1, (World.cell?_setCell_other _ _ _ _ (by intro e; injection e with _ e; omega)).trans b6.2.1, World.cell?_setCell_same _ _ _ b6.2.2.1, fun j => by rw [World.frozen?_setCell]; exact b6.2.2.2 j⟩, ?_⟩
  have : OwnE 86 W3 (TB + 1) v3 (es ++ [n]) := by unfold OwnE; rw [erow_one, List.length_append]; exact ho
  exact OwnE.setBelow this (by show TB < TB + 1; omega) _
theorem decX_short {ys : List Int} (h : ys.length < 6) : decX ys = none := by unfold decX; rw [if_pos h]
theorem decX_bad {ys : List Int} (h : pEs (cntX ys) (ys.drop 6) = none) : decX ys = none := by unfold decX; split; rfl; rw [h]

set_option maxHeartbeats 4000000 in
set_option maxRecDepth 100000 in
theorem implDecX_any (w : World) (v : Value) (ys : List Int) (h : Rd .u8 w v ys) (hby : Byt ys) (hl : ys.length ≤ 1048576) :
    Calls Tryd.prog 26 #[v] w fun e w' => DxPost w ys e w' := by
  obtain ⟨i0, hi, hz0, hz1, hz2⟩ := info_parts Tryd.infoE
  obtain ⟨ao, cap, rfl, -, -⟩ := h.len
  have HBY : Hid (Byt ys) := hby
  have R0 : Hid (RS w ((w.alloc (.cells #[.bool false, .int .i64 0, .slice none 0 0] 47)).alloc (.cells #[.slice ao ys.length cap] 99)) (w.heap.size + 1) ys) := ⟨by omega, by simp, (by go_simp), ((Below.refl _ _).alloc (Nat.le_refl _) _).alloc (by simp) _, _, (by go_simp), h⟩
  have Z0 : Hid (Zx ((w.alloc (.cells #[.bool false, .int .i64 0, .slice none 0 0] 47)).alloc (.cells #[.slice ao ys.length cap] 99)) w.heap.size) := ⟨by simp; omega, (by go_simp), (by go_simp), (by go_simp), fun j => (by go_simp)⟩
  have s0 : ((w.alloc (.cells #[.bool false, .int .i64 0, .slice none 0 0] 47)).alloc (.cells #[.slice ao ys.length cap] 99)).heap.size = w.heap.size + 2 := by simp
  clear h hby
  have HBAD : Hid (decX ys = none → ∀ W W', Zx W w.heap.size → Below w.heap.size w W → Below W.heap.size W W' → W'.cell? ⟨w.heap.size, 0, none⟩ = some (.bool false) ∧ W'.cell? ⟨w.heap.size, 1, none⟩ = some (.int .i64 0) ∧ W'.cell? ⟨w.heap.size, 2, none⟩ = some (.slice none 0 0) ∧ DxPost w ys (.returned (.agg #[.bool false, .int .i64 0, .slice none 0 0])) W') := by
    intro hd W W' hz hB hb
    have z := hz.turn (grown_of hb none) (by simp)
    exact ⟨z.2.1, z.2.2.1, z.2.2.2.1, hB.trans (hb.mono hB.size), .inl ⟨hd, rfl⟩⟩
  have hm := hmf
  go_enter_defers Tryd.func26, Tryd.ntmps26
  go_wp2_with fail
  generalize ((w.alloc (.cells #[.bool false, .int .i64 0, .slice none 0 0] 47)).alloc (.cells #[.slice ao ys.length cap] 99)) = W0 at *
  by_cases hl4 : 4 ≤ ys.length
  rotate_left
  · refine (number_none w _ (w.heap.size + 1) 4 ys R0.out (by omega)).mono ?_
    rintro e W ⟨rfl, rfl⟩
    refine leaves_cons (f := 71) (args := #[]) (by simp) (by simp [go_sem]) ?_
    refine (catchX_bad [] _).mono ?_
    rintro e u' w2 ⟨rfl, rfl, b2⟩
    obtain ⟨z0, z1, z2, hF⟩ := HBAD.out (decX_short (by omega)) _ _ Z0.out R0.out.2.2.2.1 b2
    simp [Leaves, settle, results, Tryd.results26, go_sem, z0, z1, z2]
    exact hF
  refine (number_any w _ (w.heap.size + 1) 4 ys R0.out (by omega) (by omega) (by omega) HBY.out).mono ?_
  rintro e W ⟨rfl, r1, v1, q1, rfl⟩
  rw [wrap4 HBY.out]
  have g1 : W0.grownBy ((W0.setCell ⟨w.heap.size + 1, 0, none⟩ v1).drewN q1) (some (w.heap.size + 1)) := (grownBy_set _ _ _ _ _ (World.grownBy.refl _ _)).trans (grown_of (below_drewN' _ q1) _)
  have Z1 : Hid (Zx ((W0.setCell ⟨w.heap.size + 1, 0, none⟩ v1).drewN q1) w.heap.size) := Z0.out.turn g1 (by simp)
  have R1 : Hid (RS w ((W0.setCell ⟨w.heap.size + 1, 0, none⟩ v1).drewN q1) (w.heap.size + 1) (ys.drop 4)) := r1
  have s1 : w.heap.size + 2 ≤ ((W0.setCell ⟨w.heap.size + 1, 0, none⟩ v1).drewN q1).heap.size := by have := g1.size; omega
  clear r1 g1 R0 Z0 s0
  generalize (W0.setCell ⟨w.heap.size + 1, 0, none⟩ v1).drewN q1 = V0 at *
  have HZX : Hid (((numB (ys.take 4) : Nat) : Int) = (zX ys : Int)) := rfl
  rw [HZX.out]
  have R2 : Hid (RS w (V0.alloc (.cells #[.int .i64 (zX ys : Int), .slice none 0 0] 41)) (w.heap.size + 1) (ys.drop 4)) := R1.out.new ((Below.refl _ _).alloc (Nat.le_refl _) _)
  have Z2 : Hid (Zx (V0.alloc (.cells #[.int .i64 (zX ys : Int), .slice none 0 0] 41)) w.heap.size) := Z1.out.turn (grown_alloc _ _ none) (by simp)
  have X2 : Hid (B2 (V0.alloc (.cells #[.int .i64 (zX ys : Int), .slice none 0 0] 41)) V0.heap.size (zX ys) (.slice none 0 0)) := ⟨by simp, (by go_simp), (by go_simp), fun j => (by go_simp)⟩
  go_wp2_with fail
  clear R1 Z1
  generalize V0.alloc (.cells #[.int .i64 (zX ys : Int), .slice none 0 0] 41) = W1 at *
  generalize V0.heap.size = TB at *
  by_cases hl6 : 6 ≤ ys.length
  rotate_left
  · refine (number_none w _ (w.heap.size + 1) 2 (ys.drop 4) R2.out (by rw [List.length_drop]; omega)).mono ?_
    rintro e W ⟨rfl, rfl⟩
    refine leaves_cons (f := 71) (args := #[]) (by simp) (by simp [go_sem]) ?_
    refine (catchX_bad [] _).mono ?_
    rintro e u' w2 ⟨rfl, rfl, b2⟩
    obtain ⟨z0, z1, z2, hF⟩ := HBAD.out (decX_short (by omega)) _ _ Z2.out R2.out.2.2.2.1 b2
    simp [Leaves, settle, results, Tryd.results26, go_sem, z0, z1, z2]
    exact hF
  refine (number_any w _ (w.heap.size + 1) 2 (ys.drop 4) R2.out (by rw [List.length_drop]; omega) (by omega) (by omega) (byt_drop HBY.out 4)).mono ?_
  rintro e W ⟨rfl, r3, v3, q3, rfl⟩
  rw [(wrap2 (byt_drop HBY.out 4)).1]
  have hC := (wrap2 (byt_drop HBY.out 4)).2
  rw [show numB ((ys.drop 4).take 2) = cntX ys from rfl] at *
  rw [List.drop_drop] at r3
  have g3 : W1.grownBy ((W1.setCell ⟨w.heap.size + 1, 0, none⟩ v3).drewN q3) (some (w.heap.size + 1)) := (grownBy_set _ _ _ _ _ (World.grownBy.refl _ _)).trans (grown_of (below_drewN' _ q3) _)
  have D0 : Hid (TX w ys TB ((W1.setCell ⟨w.heap.size + 1, 0, none⟩ v3).drewN q3) (.slice none 0 0) [] [] (ys.drop 6) (cntX ys - 0)) := ⟨ParE.start _ _, byt_drop HBY.out 6, (fun n hn => by cases hn), r3, Z2.out.turn g3 (by simp), X2.out.turn g3 (by simp; omega), World.ownsRow_nil _ _ _ _⟩
  clear g3 r3 R2 Z2 X2
  generalize (W1.setCell ⟨w.heap.size + 1, 0, none⟩ v3).drewN q3 = V1 at *
  generalize hCC : cntX ys = C at *
  have HCC : Hid (cntX ys = C) := hCC
  clear hCC
  go_wp2
  go_loopw [14] (fun vi wr => ∃ (i : Nat) (v : Value) (es : List Ef) (r : List Int), i ≤ C ∧ vi = .int .i64 i ∧ Hid (TX w ys TB wr v es es r (C - i))) (fun i _ => C - (intOf i).toNat)
  case atStart => exact ⟨0, _, _, _, Nat.zero_le _, rfl, D0⟩
  case round =>
    clear D0
    obtain ⟨i, v, es, r, hi5, rfl, D⟩ := hrel
    obtain ⟨va, vc, hva⟩ := D.out.2.2.2.2.2.2.slice
    subst hva
    have hns : es.length ≤ 1048576 := by have := D.out.1.2; rw [List.length_drop] at this; omega
    by_cases hlt : i < C
    · have hltI : (i : Int) < (C : Int) := by omega
      obtain ⟨c, hc⟩ : ∃ c, C - i = c + 1 := ⟨C - i - 1, by omega⟩
      rw [hc] at D
      have HC2 : Hid (C - (i + 1) = c) := by show _ = _; omega
      clear hc
      go_wp2_with fail
      refine (effectImage_any w wr (w.heap.size + 1) r D.out.2.2.2.1 D.out.2.1).mono ?_
      rintro e W2 ⟨g2, hp⟩
      rcases hp with ⟨hp, rfl⟩ | ⟨n, r', hp, rfl, hr1⟩
      · refine leaves_cons (f := 71) (args := #[]) (by simp) (by simp [go_sem]) ?_
        refine (catchX_bad [] _).mono ?_
        rintro e u' w3 ⟨rfl, rfl, b3⟩
        have hB : Below w.heap.size w W2 := D.out.below.grown g2 D.out.below.size (fun q hq => by simp only [Option.some.injEq] at hq; omega)
        obtain ⟨z0, z1, z2, hF⟩ := HBAD.out (decX_bad (by rw [HCC.out]; exact (HCC.out ▸ D.out.1).bad hp)) _ _ (D.out.2.2.2.2.1.turn g2 (by simp)) hB b3
        simp [Leaves, settle, results, Tryd.results26, go_sem, z0, z1, z2]
        exact hF
      have T1 : Hid (TX w ys TB W2 (.slice va es.length vc) es (es ++ [n]) r' c) := D.out.read s1 g2 hp hr1
      clear g2 hp hr1 D
      have T2 : Hid (TX w ys TB (W2.alloc (.cells #[.string n.nd.path, .string n.nd.data, .int .i64 n.nd.ver, .int .i64 n.nd.cver, .int .i64 n.nd.cz, .int .i64 n.nd.mz, .int .i64 n.nd.pz, .int .u8 (mkB n)] 104)) (.slice va es.length vc) es (es ++ [n]) r' c) := T1.out.later ((Below.refl _ _).alloc (Nat.le_refl _) _)
      have E2 : Hid (EB (W2.alloc (.cells #[.string n.nd.path, .string n.nd.data, .int .i64 n.nd.ver, .int .i64 n.nd.cver, .int .i64 n.nd.cz, .int .i64 n.nd.mz, .int .i64 n.nd.pz, .int .u8 (mkB n)] 104)) W2.heap.size n.nd (mkB n)) := EB.new W2 n.nd (mkB n) _
      have c0 := T1.out.2.2.2.2.2.1.2.2.1
      have cl := T1.out.2.2.2.2.2.1.1
      unfold efIV
      go_wp2
      clear c0 cl T1
      generalize W2.alloc (.cells #[.string n.nd.path, .string n.nd.data, .int .i64 n.nd.ver, .int .i64 n.nd.cver, .int .i64 n.nd.cz, .int .i64 n.nd.mz, .int .i64 n.nd.pz, .int .u8 (mkB n)] 104) = W3 at *
      generalize W2.heap.size = BE at *
      have c0 := T2.out.2.2.2.2.2.1.2.2.1
      refine wp_region_noPanic ?_
      refine wp_region_held_drew (S := fun _ => True) (by kernel_rfl) (trivial) (fun hHeld => ?_)
      refine wpAnyH_take (i := 0) (oi := { dst := some 18, op := _, type := _, pos := _, after := _, guard := _ }) (v := (.pointer (some ⟨TB, 1, none⟩))) rfl (by kernel_rfl) (by kernel_rfl) (by kernel_rfl) (fun _ _ _ h => h) (Or.inl ⟨by rfl, ?hy1⟩) (by assumption) ?rest1
      case hy1 =>
        intro w9 hS9
        go_simp
        try with_reducible rfl
      try simp only [Act.put, List.setIfInBounds_toArray, List.set_cons_zero, List.set_cons_succ]
      refine wpAnyH_ready (rs := [1, 2]) (by kernel_rfl) (by simp) ?_
      refine AllReadyH.cons (o := { dst := some 19, op := _, type := _, pos := _, after := _, guard := _ }) rfl (fun K hK => ?_) (AllReadyH.cons (o := { dst := some 20, op := _, type := _, pos := _, after := _, guard := _ }) rfl (fun K hK => ?_) AllReadyH.nil)
      · go_simp
        refine hK.out _ _ trivial (fun hx9 => ?_)
        clear hK K hx9
        try simp only [Act.put, List.setIfInBounds_toArray, List.set_cons_zero, List.set_cons_succ]
        refine wpAnyH_ready (rs := [2]) (by kernel_rfl) (by simp) ?_
        refine AllReadyH.cons (o := { dst := some 20, op := _, type := _, pos := _, after := _, guard := _ }) rfl (fun K hK => ?_) AllReadyH.nil
        go_simp
        refine (effect_any W3.drew BE n (E2.out.turn (grown_of (below_drewN' W3 1) none) (by simp))).mono ?_
        rintro e W4 ⟨rfl, b4⟩
        have T4 : Hid (TX w ys TB W4 (.slice va es.length vc) es (es ++ [n]) r' c) := (T2.out.later (below_drewN' W3 1)).later b4
        have c1 := T4.out.2.2.2.2.2.1.2.2.1
        clear b4
        refine hK.out _ _ trivial (fun hx9 => ?_)
        clear hK K hx9
        try simp only [Act.put, List.setIfInBounds_toArray, List.set_cons_zero, List.set_cons_succ]
        refine wpAnyH_ready (rs := [3]) (by kernel_rfl) (by simp) ?_
        refine AllReadyH.cons (o := { dst := some 21, op := _, type := _, pos := _, after := _, guard := _ }) rfl (fun K hK => ?_) AllReadyH.nil
        unfold efV
        go_simp
        have T5 : Hid (TX w ys TB (W4.alloc (.cells #[.bool n.del, .string n.nd.path, .string n.nd.data, .int .i64 n.nd.ver, .int .i64 n.nd.cver, .int .i64 n.nd.cz, .int .i64 n.nd.mz, .int .i64 n.nd.pz] 86)) (.slice va es.length vc) es (es ++ [n]) r' c) := T4.out.later ((Below.refl _ _).alloc (Nat.le_refl _) _)
        have NC : Hid (∀ j u, (efL n)[j]? = some u → (W4.alloc (.cells #[.bool n.del, .string n.nd.path, .string n.nd.data, .int .i64 n.nd.ver, .int .i64 n.nd.cver, .int .i64 n.nd.cz, .int .i64 n.nd.mz, .int .i64 n.nd.pz] 86)).cell? ((⟨W4.heap.size, 0, none⟩ : Addr).add j) = some u) := efL_cells _ _ _
        refine hK.out _ _ trivial (fun hx9 => ?_)
        clear hK K hx9 c1
        generalize W4.alloc (.cells #[.bool n.del, .string n.nd.path, .string n.nd.data, .int .i64 n.nd.ver, .int .i64 n.nd.cver, .int .i64 n.nd.cz, .int .i64 n.nd.mz, .int .i64 n.nd.pz] 86) = W5 at *
        generalize W4.heap.size = G4 at *
        have c1 := T5.out.2.2.2.2.2.1.2.2.1
        try simp only [Act.put, List.setIfInBounds_toArray, List.set_cons_zero, List.set_cons_succ]
        refine wpAnyH_ready (rs := [4]) (by kernel_rfl) (by simp) ?_
        refine AllReadyH.cons (o := { dst := some 22, op := _, type := _, pos := _, after := _, guard := _ }) rfl (fun K hK => ?_) AllReadyH.nil
        refine step_append rfl (.tmp 19) (.tmp 21) 39 rfl (TB + 1) 86 i0 (.agg #[.bool false, .string ByteArray.empty, .string ByteArray.empty, .int .i64 0, .int .i64 0, .int .i64 0, .int .i64 0, .int .i64 0]) 8 80 Tryd.underlying39 hi hz0 hz1 hz2 rfl (by decide) (.slice va es.length vc) es.length _ rfl T5.out.2.2.2.2.2.2 ⟨G4, 0, none⟩ 1 1 (efL n) rfl rfl NC.out (efL_one n) (by unfold maxLen; omega) (by omega) (by have := T5.out.2.2.2.2.2.1.1; omega) ?_
        intro v6 W6 ho6 hg6
        have D6 : Hid (TX w ys TB (W6.setCell ⟨TB, 1, none⟩ v6) v6 (es ++ [n]) (es ++ [n]) r' c) := T5.out.push s1 hg6 ho6
        obtain ⟨a6, q6, hv6⟩ := D6.out.2.2.2.2.2.2.slice
        rw [show (es ++ [n]).length = es.length + 1 by simp] at hv6
        subst hv6
        obtain ⟨-, -, c6, ff⟩ := T5.out.2.2.2.2.2.1.turn hg6 (fun e => by have := (World.ownsRow.lt T5.out.2.2.2.2.2.2 _ e.symm).1; omega)
        have f6 := ff 1
        clear ho6 hg6 ff
        refine hK.out _ _ trivial (fun hx9 => ?_)
        clear hK K hx9
        try simp only [Act.put, List.setIfInBounds_toArray, List.set_cons_zero, List.set_cons_succ]
        refine wpAnyH_take (i := 5) (oi := { dst := some 23, op := _, type := _, pos := _, after := _, guard := _ }) (v := (.pointer (some ⟨TB, 1, none⟩))) rfl (by kernel_rfl) (by kernel_rfl) (by kernel_rfl) (fun _ _ _ h => h) (Or.inl ⟨by rfl, ?hy2⟩) (by assumption) ?rest2
        case hy2 =>
          intro w9 hS9
          go_simp
          try with_reducible rfl
        try simp only [Act.put, List.setIfInBounds_toArray, List.set_cons_zero, List.set_cons_succ]
        refine wpAnyH_ready (rs := [6]) (by kernel_rfl) (by simp) ?_
        refine AllReadyH.cons (o := { dst := none, op := _, type := _, pos := _, after := _, guard := _ }) rfl (fun K hK => ?_) AllReadyH.nil
        go_simp
        refine hK.out _ _ trivial (fun hx9 => ?_)
        clear hK K hx9
        try simp only [Act.put, List.setIfInBounds_toArray, List.set_cons_zero, List.set_cons_succ]
        refine wpAnyH_done (by kernel_rfl) (NoPanic.normal ?_) _
        clear c0 c1 c6 f6 hHeld
        go_wp2
        exact ⟨⟨i + 1, _, _, _, by omega, by go_num, (by rw [HC2.out]; exact D6)⟩, by simp [intOf]; omega⟩
      · go_simp
        refine (effect_any W3.drew BE n (E2.out.turn (grown_of (below_drewN' W3 1) none) (by simp))).mono ?_
        rintro e W4 ⟨rfl, b4⟩
        have T4 : Hid (TX w ys TB W4 (.slice va es.length vc) es (es ++ [n]) r' c) := (T2.out.later (below_drewN' W3 1)).later b4
        have c1 := T4.out.2.2.2.2.2.1.2.2.1
        clear b4
        refine hK.out _ _ trivial (fun hx9 => ?_)
        clear hK K hx9
        try simp only [Act.put, List.setIfInBounds_toArray, List.set_cons_zero, List.set_cons_succ]
        refine wpAnyH_ready (rs := [1, 3]) (by kernel_rfl) (by simp) ?_
        refine AllReadyH.cons (o := { dst := some 19, op := _, type := _, pos := _, after := _, guard := _ }) rfl (fun K hK => ?_) (AllReadyH.cons (o := { dst := some 21, op := _, type := _, pos := _, after := _, guard := _ }) rfl (fun K hK => ?_) AllReadyH.nil)
        · go_simp
          refine hK.out _ _ trivial (fun hx9 => ?_)
          clear hK K hx9
          try simp only [Act.put, List.setIfInBounds_toArray, List.set_cons_zero, List.set_cons_succ]
          refine wpAnyH_ready (rs := [3]) (by kernel_rfl) (by simp) ?_
          refine AllReadyH.cons (o := { dst := some 21, op := _, type := _, pos := _, after := _, guard := _ }) rfl (fun K hK => ?_) AllReadyH.nil
          unfold efV
          go_simp
          have T5 : Hid (TX w ys TB (W4.alloc (.cells #[.bool n.del, .string n.nd.path, .string n.nd.data, .int .i64 n.nd.ver, .int .i64 n.nd.cver, .int .i64 n.nd.cz, .int .i64 n.nd.mz, .int .i64 n.nd.pz] 86)) (.slice va es.length vc) es (es ++ [n]) r' c) := T4.out.later ((Below.refl _ _).alloc (Nat.le_refl _) _)
          have NC : Hid (∀ j u, (efL n)[j]? = some u → (W4.alloc (.cells #[.bool n.del, .string n.nd.path, .string n.nd.data, .int .i64 n.nd.ver, .int .i64 n.nd.cver, .int .i64 n.nd.cz, .int .i64 n.nd.mz, .int .i64 n.nd.pz] 86)).cell? ((⟨W4.heap.size, 0, none⟩ : Addr).add j) = some u) := efL_cells _ _ _
          refine hK.out _ _ trivial (fun hx9 => ?_)
          clear hK K hx9 c1
          generalize W4.alloc (.cells #[.bool n.del, .string n.nd.path, .string n.nd.data, .int .i64 n.nd.ver, .int .i64 n.nd.cver, .int .i64 n.nd.cz, .int .i64 n.nd.mz, .int .i64 n.nd.pz] 86) = W5 at *
          generalize W4.heap.size = G4 at *
          have c1 := T5.out.2.2.2.2.2.1.2.2.1
          try simp only [Act.put, List.setIfInBounds_toArray, List.set_cons_zero, List.set_cons_succ]
          refine wpAnyH_ready (rs := [4]) (by kernel_rfl) (by simp) ?_
          refine AllReadyH.cons (o := { dst := some 22, op := _, type := _, pos := _, after := _, guard := _ }) rfl (fun K hK => ?_) AllReadyH.nil
          refine step_append rfl (.tmp 19) (.tmp 21) 39 rfl (TB + 1) 86 i0 (.agg #[.bool false, .string ByteArray.empty, .string ByteArray.empty, .int .i64 0, .int .i64 0, .int .i64 0, .int .i64 0, .int .i64 0]) 8 80 Tryd.underlying39 hi hz0 hz1 hz2 rfl (by decide) (.slice va es.length vc) es.length _ rfl T5.out.2.2.2.2.2.2 ⟨G4, 0, none⟩ 1 1 (efL n) rfl rfl NC.out (efL_one n) (by unfold maxLen; omega) (by omega) (by have := T5.out.2.2.2.2.2.1.1; omega) ?_
          intro v6 W6 ho6 hg6
          have D6 : Hid (TX w ys TB (W6.setCell ⟨TB, 1, none⟩ v6) v6 (es ++ [n]) (es ++ [n]) r' c) := T5.out.push s1 hg6 ho6
          obtain ⟨a6, q6, hv6⟩ := D6.out.2.2.2.2.2.2.slice
          rw [show (es ++ [n]).length = es.length + 1 by simp] at hv6
          subst hv6
          obtain ⟨-, -, c6, ff⟩ := T5.out.2.2.2.2.2.1.turn hg6 (fun e => by have := (World.ownsRow.lt T5.out.2.2.2.2.2.2 _ e.symm).1; omega)
          have f6 := ff 1
          clear ho6 hg6 ff
          refine hK.out _ _ trivial (fun hx9 => ?_)
          clear hK K hx9
          try simp only [Act.put, List.setIfInBounds_toArray, List.set_cons_zero, List.set_cons_succ]
          refine wpAnyH_take (i := 5) (oi := { dst := some 23, op := _, type := _, pos := _, after := _, guard := _ }) (v := (.pointer (some ⟨TB, 1, none⟩))) rfl (by kernel_rfl) (by kernel_rfl) (by kernel_rfl) (fun _ _ _ h => h) (Or.inl ⟨by rfl, ?hy3⟩) (by assumption) ?rest3
          case hy3 =>
            intro w9 hS9
            go_simp
            try with_reducible rfl
          try simp only [Act.put, List.setIfInBounds_toArray, List.set_cons_zero, List.set_cons_succ]
          refine wpAnyH_ready (rs := [6]) (by kernel_rfl) (by simp) ?_
          refine AllReadyH.cons (o := { dst := none, op := _, type := _, pos := _, after := _, guard := _ }) rfl (fun K hK => ?_) AllReadyH.nil
          go_simp
          refine hK.out _ _ trivial (fun hx9 => ?_)
          clear hK K hx9
          try simp only [Act.put, List.setIfInBounds_toArray, List.set_cons_zero, List.set_cons_succ]
          refine wpAnyH_done (by kernel_rfl) (NoPanic.normal ?_) _
          clear c0 c1 c6 f6 hHeld
          go_wp2
          exact ⟨⟨i + 1, _, _, _, by omega, by go_num, (by rw [HC2.out]; exact D6)⟩, by simp [intOf]; omega⟩
        · unfold efV
          go_simp
          have T5 : Hid (TX w ys TB (W4.alloc (.cells #[.bool n.del, .string n.nd.path, .string n.nd.data, .int .i64 n.nd.ver, .int .i64 n.nd.cver, .int .i64 n.nd.cz, .int .i64 n.nd.mz, .int .i64 n.nd.pz] 86)) (.slice va es.length vc) es (es ++ [n]) r' c) := T4.out.later ((Below.refl _ _).alloc (Nat.le_refl _) _)
          have NC : Hid (∀ j u, (efL n)[j]? = some u → (W4.alloc (.cells #[.bool n.del, .string n.nd.path, .string n.nd.data, .int .i64 n.nd.ver, .int .i64 n.nd.cver, .int .i64 n.nd.cz, .int .i64 n.nd.mz, .int .i64 n.nd.pz] 86)).cell? ((⟨W4.heap.size, 0, none⟩ : Addr).add j) = some u) := efL_cells _ _ _
          refine hK.out _ _ trivial (fun hx9 => ?_)
          clear hK K hx9 c1
          generalize W4.alloc (.cells #[.bool n.del, .string n.nd.path, .string n.nd.data, .int .i64 n.nd.ver, .int .i64 n.nd.cver, .int .i64 n.nd.cz, .int .i64 n.nd.mz, .int .i64 n.nd.pz] 86) = W5 at *
          generalize W4.heap.size = G4 at *
          have c1 := T5.out.2.2.2.2.2.1.2.2.1
          try simp only [Act.put, List.setIfInBounds_toArray, List.set_cons_zero, List.set_cons_succ]
          refine wpAnyH_ready (rs := [1]) (by kernel_rfl) (by simp) ?_
          refine AllReadyH.cons (o := { dst := some 19, op := _, type := _, pos := _, after := _, guard := _ }) rfl (fun K hK => ?_) AllReadyH.nil
          go_simp
          refine hK.out _ _ trivial (fun hx9 => ?_)
          clear hK K hx9
          try simp only [Act.put, List.setIfInBounds_toArray, List.set_cons_zero, List.set_cons_succ]
          refine wpAnyH_ready (rs := [4]) (by kernel_rfl) (by simp) ?_
          refine AllReadyH.cons (o := { dst := some 22, op := _, type := _, pos := _, after := _, guard := _ }) rfl (fun K hK => ?_) AllReadyH.nil
          refine step_append rfl (.tmp 19) (.tmp 21) 39 rfl (TB + 1) 86 i0 (.agg #[.bool false, .string ByteArray.empty, .string ByteArray.empty, .int .i64 0, .int .i64 0, .int .i64 0, .int .i64 0, .int .i64 0]) 8 80 Tryd.underlying39 hi hz0 hz1 hz2 rfl (by decide) (.slice va es.length vc) es.length _ rfl T5.out.2.2.2.2.2.2 ⟨G4, 0, none⟩ 1 1 (efL n) rfl rfl NC.out (efL_one n) (by unfold maxLen; omega) (by omega) (by have := T5.out.2.2.2.2.2.1.1; omega) ?_
          intro v6 W6 ho6 hg6
          have D6 : Hid (TX w ys TB (W6.setCell ⟨TB, 1, none⟩ v6) v6 (es ++ [n]) (es ++ [n]) r' c) := T5.out.push s1 hg6 ho6
          obtain ⟨a6, q6, hv6⟩ := D6.out.2.2.2.2.2.2.slice
          rw [show (es ++ [n]).length = es.length + 1 by simp] at hv6
          subst hv6
          obtain ⟨-, -, c6, ff⟩ := T5.out.2.2.2.2.2.1.turn hg6 (fun e => by have := (World.ownsRow.lt T5.out.2.2.2.2.2.2 _ e.symm).1; omega)
          have f6 := ff 1
          clear ho6 hg6 ff
          refine hK.out _ _ trivial (fun hx9 => ?_)
          clear hK K hx9
          try simp only [Act.put, List.setIfInBounds_toArray, List.set_cons_zero, List.set_cons_succ]
          refine wpAnyH_take (i := 5) (oi := { dst := some 23, op := _, type := _, pos := _, after := _, guard := _ }) (v := (.pointer (some ⟨TB, 1, none⟩))) rfl (by kernel_rfl) (by kernel_rfl) (by kernel_rfl) (fun _ _ _ h => h) (Or.inl ⟨by rfl, ?hy4⟩) (by assumption) ?rest4
          case hy4 =>
            intro w9 hS9
            go_simp
            try with_reducible rfl
          try simp only [Act.put, List.setIfInBounds_toArray, List.set_cons_zero, List.set_cons_succ]
          refine wpAnyH_ready (rs := [6]) (by kernel_rfl) (by simp) ?_
          refine AllReadyH.cons (o := { dst := none, op := _, type := _, pos := _, after := _, guard := _ }) rfl (fun K hK => ?_) AllReadyH.nil
          go_simp
          refine hK.out _ _ trivial (fun hx9 => ?_)
          clear hK K hx9
          try simp only [Act.put, List.setIfInBounds_toArray, List.set_cons_zero, List.set_cons_succ]
          refine wpAnyH_done (by kernel_rfl) (NoPanic.normal ?_) _
          clear c0 c1 c6 f6 hHeld
          go_wp2
          exact ⟨⟨i + 1, _, _, _, by omega, by go_num, (by rw [HC2.out]; exact D6)⟩, by simp [intOf]; omega⟩
    · have hic : i = C := by omega
      subst hic
      rw [Nat.sub_self] at D
      have HPD : Hid (pEs i (ys.drop 6) = some (es, r)) := (HCC.out ▸ D.out.1).done
      go_wp2_with fail
      refine (done_any w wr (w.heap.size + 1) r D.out.2.2.2.1).mono ?_
      rintro e w1 ⟨rfl, rfl⟩
      obtain ⟨-, -, t3, -, ⟨tz, z0, z1, z2, zf⟩, ⟨-, b0, b1, -⟩, t7⟩ := D.out
      have f0 := zf 0
      have f1 := zf 1
      have f2 := zf 2
      have HSZ : Hid (SzE es) := t3
      have HON : Hid (OwnE 86 w1 (TB + 1) (.slice va es.length vc) es) := t7
      clear t3 t7 zf
      by_cases hr : r = []
      rotate_left
      · have HDX : Hid (decX ys = none) := by
          show _ = _
          unfold decX
          rw [if_neg (by omega), HCC.out, HPD.out]
          simp only
          rw [if_neg (fun h => hr h.1)]
        have HF : Hid (∀ W, W = ((w1.setCell ⟨w.heap.size, 0, none⟩ (.bool false)).setCell ⟨w.heap.size, 1, none⟩ (.int .i64 0)).setCell ⟨w.heap.size, 2, none⟩ (.slice none 0 0) → DxPost w ys (.returned (.agg #[.bool false, .int .i64 0, .slice none 0 0])) W) := by
          rintro W rfl
          exact ⟨((D.out.below.setCell (p := ⟨w.heap.size, 0, none⟩) (Nat.le_refl _) _).setCell (p := ⟨w.heap.size, 1, none⟩) (Nat.le_refl _) _).setCell (p := ⟨w.heap.size, 2, none⟩) (Nat.le_refl _) _, .inl ⟨HDX.out, rfl⟩⟩
        rw [decide_eq_false hr]
        clear b0 b1 hr
        go_wp2
        refine leaves_cons (f := 71) (args := #[]) (by simp) (by simp [go_sem]) ?_
        refine (catchX_idle _).mono ?_
        rintro e u' w3 ⟨rfl, rfl, rfl⟩
        simp [Leaves, settle, results, Tryd.results26, go_sem, z0, z1, z2]
        exact HF.out _ rfl
      · subst hr
        rw [show decide (([] : List Int) = []) = true from rfl]
        clear z0 z1 z2 f0 f1 f2
        go_wp2_with fail
        refine (implTxn_any _ _ _ es HON.out.rd HSZ.out.at).mono ?_
        rintro e w2 ⟨rfl, b2⟩
        have D2 : Hid (TX w ys TB w2 (.slice va es.length vc) es es [] 0) := D.out.later b2
        obtain ⟨-, -, -, -, ⟨-, z0, z1, z2, zf⟩, ⟨-, d0, d1, -⟩, t7⟩ := D2.out
        have f0 := zf 0
        have f1 := zf 1
        have f2 := zf 2
        have HON2 : Hid (OwnE 86 w2 (TB + 1) (.slice va es.length vc) es) := t7
        clear zf b2 t7 HON b0 b1
        by_cases hok : okTxn (zX ys : Int) es = true
        · have HDX : Hid (decX ys = some ((zX ys : Int), es)) := by
            show _ = _
            unfold decX
            rw [if_neg (by omega), HCC.out, HPD.out]
            simp only
            rw [if_pos ⟨trivial, hok⟩]
          have HF : Hid (∀ W, W = ((w2.setCell ⟨w.heap.size, 0, none⟩ (.bool true)).setCell ⟨w.heap.size, 1, none⟩ (.int .i64 (zX ys : Int))).setCell ⟨w.heap.size, 2, none⟩ (.slice va es.length vc) → DxPost w ys (.returned (.agg #[.bool true, .int .i64 (zX ys : Int), .slice va es.length vc])) W) := by
            rintro W rfl
            refine ⟨((D2.out.below.setCell (p := ⟨w.heap.size, 0, none⟩) (Nat.le_refl _) _).setCell (p := ⟨w.heap.size, 1, none⟩) (Nat.le_refl _) _).setCell (p := ⟨w.heap.size, 2, none⟩) (Nat.le_refl _) _, .inr ⟨_, es, _, HDX.out, rfl, ?_⟩⟩
            exact OwnE.mono (OwnE.setBelow (OwnE.setBelow (OwnE.setBelow HON2.out (by show w.heap.size < TB + 1; omega) _) (by show w.heap.size < TB + 1; omega) _) (by show w.heap.size < TB + 1; omega) _) (by omega)
          rw [hok]
          clear hok
          go_wp2
          refine leaves_cons (f := 71) (args := #[]) (by simp) (by simp [go_sem]) ?_
          refine (catchX_idle _).mono ?_
          rintro e u' w3 ⟨rfl, rfl, rfl⟩
          simp [Leaves, settle, results, Tryd.results26, go_sem, z0, z1, z2]
          exact HF.out _ rfl
        · have hok' : okTxn (zX ys : Int) es = false := by simpa using hok
          have HDX : Hid (decX ys = none) := by
            show _ = _
            unfold decX
            rw [if_neg (by omega), HCC.out, HPD.out]
            simp only
            rw [if_neg (fun h => hok h.2)]
          have HF : Hid (∀ W, W = ((w2.setCell ⟨w.heap.size, 0, none⟩ (.bool false)).setCell ⟨w.heap.size, 1, none⟩ (.int .i64 0)).setCell ⟨w.heap.size, 2, none⟩ (.slice none 0 0) → DxPost w ys (.returned (.agg #[.bool false, .int .i64 0, .slice none 0 0])) W) := by
            rintro W rfl
            exact ⟨((D2.out.below.setCell (p := ⟨w.heap.size, 0, none⟩) (Nat.le_refl _) _).setCell (p := ⟨w.heap.size, 1, none⟩) (Nat.le_refl _) _).setCell (p := ⟨w.heap.size, 2, none⟩) (Nat.le_refl _) _, .inl ⟨HDX.out, rfl⟩⟩
          rw [hok']
          clear hok hok'
          go_wp2
          refine leaves_cons (f := 71) (args := #[]) (by simp) (by simp [go_sem]) ?_
          refine (catchX_idle _).mono ?_
          rintro e u' w3 ⟨rfl, rfl, rfl⟩
          simp [Leaves, settle, results, Tryd.results26, go_sem, z0, z1, z2]
          exact HF.out _ rfl

end Go.Proofs.YtgjenbgclpmjmaaDoor

namespace Go.Proofs.YtgjenbgclpmjmaaDoor
open Go.RowKit

theorem numB_mono (xs : List Int) (i : Nat) (h : i ≤ xs.length) : numB (xs.take i) ≤ numB xs := by
  have key : ∀ d i, i + d = xs.length → numB (xs.take i) ≤ numB xs := by
    intro d
    induction d with
    | zero => intro i hi; rw [List.take_of_length_le (by omega)]; exact Nat.le_refl _
    | succ d ih =>
      intro i hi
      have := ih (i + 1) (by omega)
      rw [take_succ_getD xs i (by omega), numB_snoc] at this
      omega
  exact key (xs.length - i) i (by omega)

set_option maxHeartbeats 400000 in
set_option maxRecDepth 100000 in
theorem specNum_any (w : World) (b o n c : Nat) (xs : List Int) (hx : xs.length = n) (hby : Byt xs) (hc : ∀ i, i < n → w.cell? ⟨b, o + i, none⟩ = some (.int .u8 (xs.getD i 0))) (hN : numB xs < 9223372036854775808) (hn : n ≤ 8) :
    Calls Tryd.prog 68 #[.slice (some ⟨b, o, none⟩) n c] w fun e w' => e = .returned (.int .i64 ((numB xs : Nat) : Int)) ∧ ∃ q, w' = w.drewN q := by
  have HC : Hid (∀ i, i < n → w.cell? ⟨b, o + i, none⟩ = some (.int .u8 (xs.getD i 0))) := hc
  have HBY : Hid (Byt xs) := hby
  have HX : Hid (xs.length = n) := hx
  have HN : Hid (numB xs < 9223372036854775808) := hN
  clear hc hby hx hN
  go_enter Tryd.func68, Tryd.ntmps68
  go_wp2
  go_loopw [3, 4] (fun vn vi wr => ∃ (i V : Nat), i ≤ n ∧ vi = .int .i64 i ∧ vn = .int .i64 V ∧ Hid (V = numB (xs.take i)) ∧ ∃ q, wr = w.drewN q) (fun _ i _ => n - (intOf i).toNat)
  case atStart => exact ⟨0, 0, Nat.zero_le _, rfl, rfl, (by show 0 = _; rw [List.take_zero, numB_nil]), 0, rfl⟩
  case round =>
    obtain ⟨i, V, hi, rfl, rfl, HV, q, rfl⟩ := hrel
    by_cases hlt : i < n
    · have hI : (i : Int) < (n : Int) := by omega
      obtain ⟨x, hx, hxe⟩ := byt_at HBY.out i
      have c1 : w.cell? ⟨b, o + i, none⟩ = some (.int .u8 (x : Int)) := by rw [HC.out i hlt, hxe]
      have HT : Hid (V * 256 + x = numB (xs.take (i + 1))) := by show _ = _; rw [take_succ_getD xs i (by rw [HX.out]; exact hlt), numB_snoc, hxe, HV.out, Int.toNat_natCast]
      have hle : V * 256 + x < 9223372036854775808 := by
        have h1 := numB_mono xs (i + 1) (by rw [HX.out]; omega)
        have h2 := HN.out
        rw [HT.out]; omega
      clear hxe
      go_wp2
      exact ⟨⟨i + 1, V * 256 + x, by omega, by go_num, by go_num, HT, q, rfl⟩, by simp [intOf]; omega⟩
    · have him : i = n := by omega
      subst him
      have HVE : Hid (((V : Nat) : Int) = ((numB xs : Nat) : Int)) := by show _ = _; rw [HV.out, List.take_of_length_le (by rw [HX.out]; exact Nat.le_refl _)]
      go_wp2
      go_ret
      exact ⟨ret_int HVE.out, _, rfl⟩

theorem num_small {xs : List Int} (h : Byt xs) (hl : xs.length ≤ 4) : numB xs < 9223372036854775808 := by
  have hb := (bigR_numB xs.length xs rfl h).2
  have h1 : 256 ^ xs.length ≤ 256 ^ 4 := Nat.pow_le_pow_right (by omega) hl
  have h2 : numB xs < 4294967296 := Nat.lt_of_lt_of_le hb h1
  omega

theorem sub_cells {w : World} {b o : Nat} {ys : List Int} {N : Nat} (hc : ∀ i, i < N → w.cell? ⟨b, o + i, none⟩ = some (.int .u8 (ys.getD i 0))) (p n : Nat) (h : p + n ≤ N) : ∀ i, i < n → w.cell? ⟨b, o + p + i, none⟩ = some (.int .u8 (((ys.drop p).take n).getD i 0)) := by
  intro i hi
  rw [Nat.add_assoc, hc (p + i) (by omega)]
  simp [List.getD, List.getElem?_take_of_lt hi]


/-- What spec.l4ReadText answers. -/
def RtPost (ys : List Int) (p : Nat) (e : Ending) : Prop :=
  (rdT (ys.drop p) = none ∧ e = .returned (.tuple #[.string ⟨#[]⟩, .int .i64 (-1)])) ∨ ∃ s q, rdT (ys.drop p) = some (s, ys.drop q) ∧ p < q ∧ q ≤ ys.length ∧ e = .returned (.tuple #[.string s, .int .i64 (q : Int)])

set_option maxHeartbeats 400000 in
set_option maxRecDepth 100000 in
theorem rT_neg (w : World) (v : Value) : Calls Tryd.prog 70 #[v, .int .i64 (-1)] w fun e w' => e = .returned (.tuple #[.string ⟨#[]⟩, .int .i64 (-1)]) ∧ w' = w := by
  go_enter Tryd.func70, Tryd.ntmps70
  go_wp2
  refine bodyPost_ret (v := .tuple #[.string ⟨#[]⟩, .int .i64 (-1)]) (by simp [results, Tryd.results70, go_sem]) rfl ⟨rfl, rfl⟩

set_option maxHeartbeats 400000 in
set_option maxRecDepth 100000 in
theorem rT_end (w : World) (ao : Option Addr) (N cap p : Nat) (h : N ≤ p) : Calls Tryd.prog 70 #[.slice ao N cap, .int .i64 p] w fun e w' => e = .returned (.tuple #[.string ⟨#[]⟩, .int .i64 (-1)]) ∧ w' = w := by
  have h1 : (N : Int) ≤ (p : Int) := by omega
  go_enter Tryd.func70, Tryd.ntmps70
  go_wp2
  refine bodyPost_ret (v := .tuple #[.string ⟨#[]⟩, .int .i64 (-1)]) (by simp [results, Tryd.results70, go_sem]) rfl ⟨rfl, rfl⟩

set_option maxHeartbeats 400000 in
set_option maxRecDepth 100000 in
theorem rT_short (w : World) (b o N cap p y : Nat) (hN : N ≤ 1048576) (h : p < N) (hy : y < 256) (hc : w.cell? ⟨b, o + p, none⟩ = some (.int .u8 (y : Int))) (h2 : N < p + 1 + y) : Calls Tryd.prog 70 #[.slice (some ⟨b, o, none⟩) N cap, .int .i64 p] w fun e w' => e = .returned (.tuple #[.string ⟨#[]⟩, .int .i64 (-1)]) ∧ w' = w := by
  have h1 : (p : Int) < (N : Int) := by omega
  have h3 : (N : Int) < (p : Int) + 1 + (y : Int) := by omega
  have hyI : (y : Int) < 256 := by omega
  go_enter Tryd.func70, Tryd.ntmps70
  go_wp2
  refine bodyPost_ret (v := .tuple #[.string ⟨#[]⟩, .int .i64 (-1)]) (by simp [results, Tryd.results70, go_sem]) rfl ⟨rfl, rfl⟩

set_option maxHeartbeats 400000 in
set_option maxRecDepth 100000 in
theorem rT_ok (w : World) (b o N cap p y : Nat) (ys : List Int) (hl : ys.length = N) (hN : N ≤ 1048576) (h : p < N) (hy : y < 256) (hcc : N ≤ cap) (hcm : cap ≤ maxLen) (hR : Rd .u8 w (.slice (some ⟨b, o, none⟩) N cap) ys) (hc : w.cell? ⟨b, o + p, none⟩ = some (.int .u8 (y : Int))) (h2 : p + 1 + y ≤ N) :
    Calls Tryd.prog 70 #[.slice (some ⟨b, o, none⟩) N cap, .int .i64 p] w fun e w' => e = .returned (.tuple #[.string (strOfNums ((ys.drop (p + 1)).take y)), .int .i64 ((p + 1 + y : Nat) : Int)]) ∧ w' = w := by
  have h1 : (p : Int) < (N : Int) := by omega
  have h3 : ¬ (N : Int) < (p : Int) + 1 + (y : Int) := by omega
  have hyI : (y : Int) < 256 := by omega
  have HR : Hid (Rd .u8 w (.slice (some ⟨b, o, none⟩) N cap) ys) := hR
  have HL : Hid (ys.length = N) := hl
  clear hR hl
  by_cases hcp : cap = p + 1
  · have hy0 : y = 0 := by omega
    subst hy0
    subst hcp
    have hcv : (convert 45 9 (.slice (some ⟨b, o, none⟩) 0 0)).run Tryd.prog w = .ok (.string (strOfNums [])) w := conv_any (xs := []) ⟨_, 0, rfl, Nat.zero_le _, Nat.zero_le _, .inl rfl⟩
    go_enter Tryd.func70, Tryd.ntmps70
    go_wp2
    refine bodyPost_ret (v := .tuple #[.string (strOfNums []), .int .i64 ((p : Int) + 1)]) (by simp [results, Tryd.results70, go_sem]) rfl ⟨rfl, rfl⟩
  · have hcp' : p + 1 < cap := by omega
    have hcv : (convert 45 9 (.slice (some ⟨b, o + (p + 1), none⟩) y (cap - (p + 1)))).run Tryd.prog w = .ok (.string (strOfNums ((ys.drop (p + 1)).take y))) w := by
      refine conv_any ?_
      have := (Rd.split HR.out (p + 1) (by omega) (by omega)).2 (o + (p + 1)) (.inl rfl)
      by_cases hy0 : y = 0
      · subst hy0
        exact ⟨some ⟨b, o + (p + 1), none⟩, cap - (p + 1), by simp, Nat.zero_le _, by omega, .inl (by simp)⟩
      · exact (Rd.split this y (by omega) (by omega)).1
    go_enter Tryd.func70, Tryd.ntmps70
    go_wp2
    refine bodyPost_ret (v := .tuple #[.string (strOfNums ((ys.drop (p + 1)).take y)), .int .i64 ((p : Int) + 1 + (y : Int))]) (by simp [results, Tryd.results70, go_sem]) rfl ⟨rfl, rfl⟩

theorem rT_any (w : World) (v : Value) (ys : List Int) (p : Nat) (h : Rd .u8 w v ys) (hby : Byt ys) (hl : ys.length ≤ 1048576) :
    Calls Tryd.prog 70 #[v, .int .i64 p] w fun e w' => RtPost ys p e ∧ w' = w := by
  have h' := h
  obtain ⟨ao, cap, rfl, h1, h2, h3⟩ := h
  by_cases hp : p < ys.length
  rotate_left
  · refine (rT_end w ao ys.length cap p (by omega)).mono ?_
    rintro e w' ⟨rfl, rfl⟩
    exact ⟨.inl ⟨by rw [List.drop_eq_nil_of_le (by omega)]; rfl, rfl⟩, rfl⟩
  rcases h3 with rfl | ⟨b, o, rfl, hb, hc⟩
  · simp at hp
  obtain ⟨y, hy, hye⟩ := byt_at hby p
  have hcp := hc p hp
  rw [hye] at hcp
  have hd : ys.drop p = (y : Int) :: ys.drop (p + 1) := by
    rw [List.drop_eq_getElem_cons hp]
    simp only [List.getD, List.getElem?_eq_getElem hp, Option.getD_some] at hye
    rw [hye]
  by_cases h2' : p + 1 + y ≤ ys.length
  · refine (rT_ok w b o ys.length cap p y ys rfl hl hp hy h1 h2 h' hcp h2').mono ?_
    rintro e w' ⟨rfl, rfl⟩
    refine ⟨.inr ⟨_, p + 1 + y, ?_, by omega, h2', rfl⟩, rfl⟩
    rw [hd]
    simp only [rdT, Int.toNat_natCast]
    rw [if_pos (by rw [List.length_drop]; omega), List.drop_drop]
  · refine (rT_short w b o ys.length cap p y hl hp hy hcp (by omega)).mono ?_
    rintro e w' ⟨rfl, rfl⟩
    refine ⟨.inl ⟨?_, rfl⟩, rfl⟩
    rw [hd]
    simp only [rdT, Int.toNat_natCast]
    rw [if_neg (by rw [List.length_drop]; omega)]

end Go.Proofs.YtgjenbgclpmjmaaDoor

namespace Go.Proofs.YtgjenbgclpmjmaaDoor
open Go.RowKit

theorem Tryd.infoIR : (Tryd.prog.info? 2).map (fun i => (i.zero, i.size, i.bytes)) = some (some (.int .i64 0), 1, 8) := by kernel_rfl
theorem below7 {w W : World} (h : Below w.heap.size w W) (v0 v1 v2 v3 v4 v5 v6 : Value) : Below w.heap.size w (((((((W.setCell ⟨w.heap.size, 0, none⟩ v0).setCell ⟨w.heap.size, 1, none⟩ v1).setCell ⟨w.heap.size, 2, none⟩ v2).setCell ⟨w.heap.size, 3, none⟩ v3).setCell ⟨w.heap.size, 4, none⟩ v4).setCell ⟨w.heap.size, 5, none⟩ v5).setCell ⟨w.heap.size, 6, none⟩ v6) := (((((((h.setCell (p := ⟨w.heap.size, 0, none⟩) (Nat.le_refl _) v0).setCell (p := ⟨w.heap.size, 1, none⟩) (Nat.le_refl _) v1).setCell (p := ⟨w.heap.size, 2, none⟩) (Nat.le_refl _) v2).setCell (p := ⟨w.heap.size, 3, none⟩) (Nat.le_refl _) v3).setCell (p := ⟨w.heap.size, 4, none⟩) (Nat.le_refl _) v4).setCell (p := ⟨w.heap.size, 5, none⟩) (Nat.le_refl _) v5).setCell (p := ⟨w.heap.size, 6, none⟩) (Nat.le_refl _) v6)
theorem keep7 {W : World} {B g : Nat} (hne : B ≠ g) (v0 v1 v2 v3 v4 v5 v6 : Value) (j : Nat) : World.cell? (World.drew (((((((W.setCell ⟨B, 0, none⟩ v0).setCell ⟨B, 1, none⟩ v1).setCell ⟨B, 2, none⟩ v2).setCell ⟨B, 3, none⟩ v3).setCell ⟨B, 4, none⟩ v4).setCell ⟨B, 5, none⟩ v5).setCell ⟨B, 6, none⟩ v6)) ⟨g, j, none⟩ = W.cell? ⟨g, j, none⟩ := by
  have e : ∀ (V : World) (a : Addr), V.drew.cell? a = V.cell? a := fun _ _ => rfl
  rw [e]
  iterate 7 rw [World.cell?_setCell_other _ _ _ _ (by intro e; injection e with e; omega)]
theorem own_fullI {e : TypeId} {w : World} {base : Nat} {v : Value} {xs : List Int} (h : Own .i64 e w base v xs) (hn : 0 < xs.length) : ∃ g c, v = .slice (some ⟨g, 0, none⟩) xs.length c := by
  rcases h.2 with ⟨-, h0⟩ | ⟨g, cap, cur, rfl, -⟩
  · omega
  · exact ⟨g, cap, rfl⟩
def numsL (R : List Int) (k : Nat) : List Int := (List.range k).map (num4 R)
theorem numsL_len (R : List Int) (k : Nat) : (numsL R k).length = k := by simp [numsL]
theorem numsL_succ (R : List Int) (k : Nat) : numsL R k ++ [num4 R k] = numsL R (k + 1) := by simp [numsL, List.range_succ]
/-- What spec.l4ReadNode answers. -/
def RnPost (w : World) (ys : List Int) (p : Nat) (e : Ending) (w' : World) : Prop :=
  Below w.heap.size w w' ∧ ((rdNd (ys.drop p) = none ∧ e = .returned (.tuple #[ndV nd0, .int .i64 (-1)])) ∨ ∃ n q, rdNd (ys.drop p) = some (n, ys.drop q) ∧ p < q ∧ q ≤ ys.length ∧ e = .returned (.tuple #[ndV n, .int .i64 (q : Int)]))
theorem NB.belowM {W W' : World} {B m : Nat} {n : Nd} (h : NB W B n) (hb : Below m W W') (hl : B < m) : NB W' B n := by
  refine ⟨⟨Nat.lt_of_lt_of_le h.1.lt hb.size, (hb.cell (p := ⟨B, _, none⟩) hl).trans h.1.c0, (hb.cell (p := ⟨B, _, none⟩) hl).trans h.1.c1, (hb.cell (p := ⟨B, _, none⟩) hl).trans h.1.c2, (hb.cell (p := ⟨B, _, none⟩) hl).trans h.1.c3, (hb.cell (p := ⟨B, _, none⟩) hl).trans h.1.c4, (hb.cell (p := ⟨B, _, none⟩) hl).trans h.1.c5, (hb.cell (p := ⟨B, _, none⟩) hl).trans h.1.c6⟩, fun j => ?_⟩
  rw [hb.frozen (p := ⟨B, j, none⟩) hl]; exact h.2 j

set_option maxHeartbeats 4000000 in
set_option maxRecDepth 100000 in
theorem rN_any (w : World) (v : Value) (ys : List Int) (p : Nat) (h : Rd .u8 w v ys) (hby : Byt ys) (hl : ys.length ≤ 1048576) :
    Calls Tryd.prog 69 #[v, .int .i64 p] w fun e w' => RnPost w ys p e w' := by
  obtain ⟨i0, hi, hz0, hz1, hz2⟩ := info_parts Tryd.infoIR
  obtain ⟨ao, cap, rfl, hcc, hcm⟩ := h.len
  have HR : Hid (Rd .u8 w (.slice ao ys.length cap) ys) := h
  have HBY : Hid (Byt ys) := hby
  have B0 : Hid (Below w.heap.size w (w.alloc (.cells #[.string ⟨#[]⟩, .string ⟨#[]⟩, .int .i64 0, .int .i64 0, .int .i64 0, .int .i64 0, .int .i64 0] 81))) := (Below.refl _ _).alloc (Nat.le_refl _) _
  have N0 : Hid (NB (w.alloc (.cells #[.string ⟨#[]⟩, .string ⟨#[]⟩, .int .i64 0, .int .i64 0, .int .i64 0, .int .i64 0, .int .i64 0] 81)) w.heap.size nd0) := NB.new w nd0 _
  clear h hby
  go_enter Tryd.func69, Tryd.ntmps69
  go_wp2_with fail
  generalize w.alloc (.cells #[.string ⟨#[]⟩, .string ⟨#[]⟩, .int .i64 0, .int .i64 0, .int .i64 0, .int .i64 0, .int .i64 0] 81) = w0 at *
  refine (rT_any w0 _ ys p (HR.out.below B0.out) HBY.out hl).mono ?_
  rintro e w1 ⟨hp, hw1⟩
  obtain rfl : w0 = w1 := hw1.symm
  rcases hp with ⟨hp, rfl⟩ | ⟨s, q, hp, hlt, hle, rfl⟩
  · have HNO : Hid (rdNd (ys.drop p) = none) := by show _ = _; unfold rdNd; rw [hp]
    clear hp
    go_wp2_with fail
    refine (rT_neg w0 _).mono ?_
    rintro e w1 ⟨rfl, hw1⟩
    obtain rfl : w0 = w1 := hw1.symm
    obtain ⟨⟨-, x0, x1, x2, x3, x4, x5, x6⟩, xf⟩ := N0.out
    go_wp2
    refine bodyPost_ret (v := .tuple #[ndV nd0, .int .i64 (-1)]) (by simp [results, Tryd.results69, go_sem, ndV, nd0, x0, x1, x2, x3, x4, x5, x6]; rfl) rfl ⟨?_, .inl ⟨HNO.out, rfl⟩⟩
    exact below7 B0.out _ _ _ _ _ _ _
  have HP1 : Hid (rdT (ys.drop p) = some (s, ys.drop q)) := hp
  clear hp
  go_wp2_with fail
  refine (rT_any w0 _ ys q (HR.out.below B0.out) HBY.out hl).mono ?_
  rintro e w1 ⟨hp, hw1⟩
  obtain rfl : w0 = w1 := hw1.symm
  rcases hp with ⟨hp, rfl⟩ | ⟨d, t, hp, hlt2, hle2, rfl⟩
  · have HNO : Hid (rdNd (ys.drop p) = none) := by show _ = _; unfold rdNd; rw [HP1.out]; simp only; rw [hp]
    clear hp
    obtain ⟨⟨-, x0, x1, x2, x3, x4, x5, x6⟩, xf⟩ := N0.out
    go_wp2
    refine bodyPost_ret (v := .tuple #[ndV nd0, .int .i64 (-1)]) (by simp [results, Tryd.results69, go_sem, ndV, nd0, x0, x1, x2, x3, x4, x5, x6]; rfl) rfl ⟨?_, .inl ⟨HNO.out, rfl⟩⟩
    exact below7 B0.out _ _ _ _ _ _ _
  have HP2 : Hid (rdT (ys.drop q) = some (d, ys.drop t)) := hp
  clear hp
  by_cases h20 : t + 20 ≤ ys.length
  rotate_left
  · have HNO : Hid (rdNd (ys.drop p) = none) := by show _ = _; unfold rdNd; rw [HP1.out]; simp only; rw [HP2.out]; simp only; rw [if_neg (by rw [List.length_drop]; omega)]
    have hI : (ys.length : Int) < (t : Int) + 20 := by omega
    obtain ⟨⟨-, x0, x1, x2, x3, x4, x5, x6⟩, xf⟩ := N0.out
    go_wp2
    refine bodyPost_ret (v := .tuple #[ndV nd0, .int .i64 (-1)]) (by simp [results, Tryd.results69, go_sem, ndV, nd0, x0, x1, x2, x3, x4, x5, x6]; rfl) rfl ⟨?_, .inl ⟨HNO.out, rfl⟩⟩
    exact below7 B0.out _ _ _ _ _ _ _
  have hI : ¬ (ys.length : Int) < (t : Int) + 20 := by omega
  obtain ⟨b, o, hao, hb, hc⟩ : ∃ b o, ao = some ⟨b, o, none⟩ ∧ b < w.heap.size ∧ ∀ i, i < ys.length → w.cell? ⟨b, o + i, none⟩ = some (.int .u8 (ys.getD i 0)) := by
    obtain ⟨ao', cap', e', -, -, h3⟩ := HR.out
    simp only [Value.slice.injEq] at e'
    obtain ⟨rfl, -, -⟩ := e'
    rcases h3 with h3 | ⟨b, o, rfl, hb, hc⟩
    · rw [h3] at h20; simp at h20
    · exact ⟨b, o, rfl, hb, hc⟩
  subst hao
  have HC : Hid (∀ i, i < ys.length → w.cell? ⟨b, o + i, none⟩ = some (.int .u8 (ys.getD i 0))) := hc
  clear hc
  obtain ⟨R, hR⟩ : ∃ R, R = ys.drop t := ⟨_, rfl⟩
  have HRR : Hid (R = ys.drop t) := hR
  clear hR
  have s0 : w.heap.size + 1 ≤ w0.heap.size := N0.out.1.lt
  have O0 : Hid (Own .i64 2 (w0.alloc (.cells #[] 2)) (w.heap.size + 1) (.slice (some ⟨w0.heap.size, 0, none⟩) 0 0) (numsL R 0)) := Own.mono (World.ownsRow_lit w0 #[] 0 (Nat.le_refl _) (Nat.zero_le _) rfl) s0
  have D0 : Hid (Below (w.heap.size + 1) w0 (w0.alloc (.cells #[] 2))) := (Below.refl _ _).alloc s0 _
  go_wp2
  go_loopw [10, 11] (fun vo vk wr => ∃ k : Nat, k ≤ 5 ∧ vk = .int .i64 k ∧ Hid (Own .i64 2 wr (w.heap.size + 1) vo (numsL R k)) ∧ Hid (Below (w.heap.size + 1) w0 wr)) (fun _ i _ => 5 - (intOf i).toNat)
  case atStart => exact ⟨0, by omega, rfl, O0, D0⟩
  case round =>
    obtain ⟨k, hk, rfl, HW, HD⟩ := hrel
    have sD : w.heap.size + 1 ≤ wr.heap.size := Nat.le_trans s0 HD.out.size
    by_cases hlt5 : k < 5
    · have hltI : (k : Int) < 5 := by omega
      have hq1 : t + 4 * k + 4 ≤ ys.length := by omega
      have hq2 : t + 4 * k < cap := by omega
      go_wp2_with fail
      have HN : Hid (num4 R k = ((numB ((ys.drop (t + 4 * k)).take 4) : Nat) : Int)) := by show _ = _; unfold num4; rw [HRR.out, List.drop_drop]
      refine (specNum_any _ b (o + (t + 4 * k)) 4 _ ((ys.drop (t + 4 * k)).take 4) ?n1 ?n2 ?n3 ?n4 (by omega)).mono ?_
      case n1 => rw [List.length_take, List.length_drop]; omega
      case n2 => exact fun x hx => HBY.out x (List.mem_of_mem_drop (List.mem_of_mem_take hx))
      case n3 =>
        intro i hi
        have := sub_cells HC.out (t + 4 * k) 4 hq1 i hi
        rw [HD.out.cell (p := ⟨b, o + (t + 4 * k) + i, none⟩) (by show b < _; omega), B0.out.cell (p := ⟨b, o + (t + 4 * k) + i, none⟩) hb]
        exact this
      case n4 => exact num_small (fun x hx => HBY.out x (List.mem_of_mem_drop (List.mem_of_mem_take hx))) (by rw [List.length_take]; omega)
      rintro e w2 ⟨rfl, q2, hw2⟩
      subst hw2
      rw [← HN.out]
      have OW : Hid ((wr.drewN q2).ownsRow (w.heap.size + 1) 2 1 u10 k ((numsL R k).map (Value.int .i64))) := by have := HW.out.drewN q2; unfold Own at this; rw [numsL_len] at this; exact this
      have D2 : Hid (Below (w.heap.size + 1) w0 (wr.drewN q2)) := HD.out.trans ((below_drewN' wr q2).mono sD)
      have s2 : w.heap.size + 1 ≤ (wr.drewN q2).heap.size := sD
      clear HN HW HD
      generalize wr.drewN q2 = w2 at *
      have HSU : Hid (numsL R k ++ [num4 R k] = numsL R (k + 1)) := numsL_succ R k
      generalize num4 R k = zk at *
      go_wp2_with (at_builtin; go_must (refine wpList_append_own _ rfl _ _ 133 rfl (w.heap.size + 1) 2 i0 (.int .i64 0) 1 8 Tryd.underlying133 hi hz0 hz1 hz2 rfl (by decide) _ _ _ rfl (OW.out.alloc _) ⟨w2.heap.size, 0, none⟩ 1 1 [.int .i64 zk] rfl rfl (cell_one_new _ _ _) (by intro u hu; simp at hu; subst hu; rfl) ?_ ?_ ?_ ?_))
      · unfold maxLen; omega
      · omega
      · simp; omega
      intro v3 w3 ho3 hg3 _
      have O3 : Hid (Own .i64 2 w3 (w.heap.size + 1) v3 (numsL R (k + 1))) := by
        refine own_of (q := k + 1) (ys := numsL R k ++ [zk]) (by rw [List.length_append, numsL_len]; rfl) HSU.out.symm ?_
        rw [List.map_append]; exact ho3
      have D3 : Hid (Below (w.heap.size + 1) w0 w3) := (D2.out.alloc s2 _).grown hg3 (by simp; omega) (fun q hq => (World.ownsRow.lt OW.out q hq).1)
      clear ho3 hg3 OW D2 HSU
      go_wp2
      exact ⟨⟨k + 1, by omega, by go_num, O3, D3⟩, by simp [intOf]; omega⟩
    · have hk5 : k = 5 := by omega
      subst hk5
      obtain ⟨g, c, hv⟩ := own_fullI HW.out (by rw [numsL_len]; omega)
      rw [numsL_len] at hv
      subst hv
      have CL : ∀ j, j < 5 → wr.cell? ⟨g, j, none⟩ = some (.int .i64 (num4 R j)) := by
        intro j hj
        have := World.ownsRow.cells HW.out (g := g) rfl j (.int .i64 (num4 R j)) (by simp [numsL, hj])
        rw [Addr.add_lit, Nat.zero_add] at this; exact this
      have hgl := (HW.out.lt g rfl).1
      have k0 := CL 0 (by omega)
      have k1 := CL 1 (by omega)
      have k2 := CL 2 (by omega)
      have k3 := CL 3 (by omega)
      have k4 := CL 4 (by omega)
      obtain ⟨⟨-, x0, x1, x2, x3, x4, x5, x6⟩, xf⟩ := N0.out.belowM HD.out (Nat.lt_succ_self _)
      have HYES : Hid (rdNd (ys.drop p) = some (⟨s, d, num4 R 0, num4 R 1, num4 R 2, num4 R 3, num4 R 4⟩, ys.drop (t + 20))) := by
        show _ = _
        unfold rdNd; rw [HP1.out]; simp only; rw [HP2.out]; simp only; rw [if_pos (by rw [List.length_drop]; omega), List.drop_drop, HRR.out]
      have HB : Hid (Below w.heap.size w wr) := B0.out.trans (HD.out.mono (Nat.le_succ _))
      have hwr : Hid (IntKind.i64.wrap ((t : Int) + 20) = (t : Int) + 20) := by show _ = _; rw [IntKind.wrap_i64]; omega
      clear CL
      generalize num4 R 0 = z0 at *
      generalize num4 R 1 = z1 at *
      generalize num4 R 2 = z2 at *
      generalize num4 R 3 = z3 at *
      generalize num4 R 4 = z4 at *
      go_wp2
      refine wp_region_held_drew (S := fun W => W.cell? ⟨g, 0, none⟩ = some (.int .i64 z0) ∧ W.cell? ⟨g, 1, none⟩ = some (.int .i64 z1) ∧ W.cell? ⟨g, 2, none⟩ = some (.int .i64 z2) ∧ W.cell? ⟨g, 3, none⟩ = some (.int .i64 z3) ∧ W.cell? ⟨g, 4, none⟩ = some (.int .i64 z4)) (by kernel_rfl) (⟨k0, k1, k2, k3, k4⟩) (fun hHeld => ?_)
      refine wpAnyH_take (i := 0) (oi := { dst := some 54, op := _, type := _, pos := _, after := _, guard := _ }) (v := (.string s)) rfl (by kernel_rfl) (by kernel_rfl) (by kernel_rfl) (fun _ _ _ h => h) (Or.inl ⟨by rfl, ?hy1⟩) (by assumption) ?rest1
      case hy1 =>
        intro w9 hS9
        obtain ⟨y0, y1, y2, y3, y4⟩ := hS9
        go_simp
        try with_reducible rfl
      try simp only [Act.put, List.setIfInBounds_toArray, List.set_cons_zero, List.set_cons_succ]
      refine wpAnyH_take (i := 1) (oi := { dst := some 55, op := _, type := _, pos := _, after := _, guard := _ }) (v := (.string d)) rfl (by kernel_rfl) (by kernel_rfl) (by kernel_rfl) (fun _ _ _ h => h) (Or.inl ⟨by rfl, ?hy2⟩) (by assumption) ?rest2
      case hy2 =>
        intro w9 hS9
        obtain ⟨y0, y1, y2, y3, y4⟩ := hS9
        go_simp
        try with_reducible rfl
      try simp only [Act.put, List.setIfInBounds_toArray, List.set_cons_zero, List.set_cons_succ]
      refine wpAnyH_take (i := 2) (oi := { dst := some 56, op := _, type := _, pos := _, after := _, guard := _ }) (v := (.slice (some ⟨g, 0, none⟩) 5 c)) rfl (by kernel_rfl) (by kernel_rfl) (by kernel_rfl) (fun _ _ _ h => h) (Or.inl ⟨by rfl, ?hy3⟩) (by assumption) ?rest3
      case hy3 =>
        intro w9 hS9
        obtain ⟨y0, y1, y2, y3, y4⟩ := hS9
        go_simp
        try with_reducible rfl
      try simp only [Act.put, List.setIfInBounds_toArray, List.set_cons_zero, List.set_cons_succ]
      refine wpAnyH_take (i := 3) (oi := { dst := some 57, op := _, type := _, pos := _, after := _, guard := _ }) (v := (.pointer (some ⟨g, 0, none⟩))) rfl (by kernel_rfl) (by kernel_rfl) (by kernel_rfl) (fun _ _ _ h => h) (Or.inl ⟨by rfl, ?hy4⟩) (by assumption) ?rest4
      case hy4 =>
        intro w9 hS9
        obtain ⟨y0, y1, y2, y3, y4⟩ := hS9
        go_simp
        try with_reducible rfl
      try simp only [Act.put, List.setIfInBounds_toArray, List.set_cons_zero, List.set_cons_succ]
      refine wpAnyH_take (i := 4) (oi := { dst := some 58, op := _, type := _, pos := _, after := _, guard := _ }) (v := (.int .i64 z0)) rfl (by kernel_rfl) (by kernel_rfl) (by kernel_rfl) (fun _ _ _ h => h) (Or.inl ⟨by rfl, ?hy5⟩) (by assumption) ?rest5
      case hy5 =>
        intro w9 hS9
        obtain ⟨y0, y1, y2, y3, y4⟩ := hS9
        go_simp
        try with_reducible rfl
      try simp only [Act.put, List.setIfInBounds_toArray, List.set_cons_zero, List.set_cons_succ]
      refine wpAnyH_take (i := 5) (oi := { dst := some 59, op := _, type := _, pos := _, after := _, guard := _ }) (v := (.slice (some ⟨g, 0, none⟩) 5 c)) rfl (by kernel_rfl) (by kernel_rfl) (by kernel_rfl) (fun _ _ _ h => h) (Or.inl ⟨by rfl, ?hy6⟩) (by assumption) ?rest6
      case hy6 =>
        intro w9 hS9
        obtain ⟨y0, y1, y2, y3, y4⟩ := hS9
        go_simp
        try with_reducible rfl
      try simp only [Act.put, List.setIfInBounds_toArray, List.set_cons_zero, List.set_cons_succ]
      refine wpAnyH_take (i := 6) (oi := { dst := some 60, op := _, type := _, pos := _, after := _, guard := _ }) (v := (.pointer (some ⟨g, 1, none⟩))) rfl (by kernel_rfl) (by kernel_rfl) (by kernel_rfl) (fun _ _ _ h => h) (Or.inl ⟨by rfl, ?hy7⟩) (by assumption) ?rest7
      case hy7 =>
        intro w9 hS9
        obtain ⟨y0, y1, y2, y3, y4⟩ := hS9
        go_simp
        try with_reducible rfl
      try simp only [Act.put, List.setIfInBounds_toArray, List.set_cons_zero, List.set_cons_succ]
      refine wpAnyH_take (i := 7) (oi := { dst := some 61, op := _, type := _, pos := _, after := _, guard := _ }) (v := (.int .i64 z1)) rfl (by kernel_rfl) (by kernel_rfl) (by kernel_rfl) (fun _ _ _ h => h) (Or.inl ⟨by rfl, ?hy8⟩) (by assumption) ?rest8
      case hy8 =>
        intro w9 hS9
        obtain ⟨y0, y1, y2, y3, y4⟩ := hS9
        go_simp
        try with_reducible rfl
      try simp only [Act.put, List.setIfInBounds_toArray, List.set_cons_zero, List.set_cons_succ]
      refine wpAnyH_take (i := 8) (oi := { dst := some 62, op := _, type := _, pos := _, after := _, guard := _ }) (v := (.slice (some ⟨g, 0, none⟩) 5 c)) rfl (by kernel_rfl) (by kernel_rfl) (by kernel_rfl) (fun _ _ _ h => h) (Or.inl ⟨by rfl, ?hy9⟩) (by assumption) ?rest9
      case hy9 =>
        intro w9 hS9
        obtain ⟨y0, y1, y2, y3, y4⟩ := hS9
        go_simp
        try with_reducible rfl
      try simp only [Act.put, List.setIfInBounds_toArray, List.set_cons_zero, List.set_cons_succ]
      refine wpAnyH_take (i := 9) (oi := { dst := some 63, op := _, type := _, pos := _, after := _, guard := _ }) (v := (.pointer (some ⟨g, 2, none⟩))) rfl (by kernel_rfl) (by kernel_rfl) (by kernel_rfl) (fun _ _ _ h => h) (Or.inl ⟨by rfl, ?hy10⟩) (by assumption) ?rest10
      case hy10 =>
        intro w9 hS9
        obtain ⟨y0, y1, y2, y3, y4⟩ := hS9
        go_simp
        try with_reducible rfl
      try simp only [Act.put, List.setIfInBounds_toArray, List.set_cons_zero, List.set_cons_succ]
      refine wpAnyH_take (i := 10) (oi := { dst := some 64, op := _, type := _, pos := _, after := _, guard := _ }) (v := (.int .i64 z2)) rfl (by kernel_rfl) (by kernel_rfl) (by kernel_rfl) (fun _ _ _ h => h) (Or.inl ⟨by rfl, ?hy11⟩) (by assumption) ?rest11
      case hy11 =>
        intro w9 hS9
        obtain ⟨y0, y1, y2, y3, y4⟩ := hS9
        go_simp
        try with_reducible rfl
      try simp only [Act.put, List.setIfInBounds_toArray, List.set_cons_zero, List.set_cons_succ]
      refine wpAnyH_take (i := 11) (oi := { dst := some 65, op := _, type := _, pos := _, after := _, guard := _ }) (v := (.slice (some ⟨g, 0, none⟩) 5 c)) rfl (by kernel_rfl) (by kernel_rfl) (by kernel_rfl) (fun _ _ _ h => h) (Or.inl ⟨by rfl, ?hy12⟩) (by assumption) ?rest12
      case hy12 =>
        intro w9 hS9
        obtain ⟨y0, y1, y2, y3, y4⟩ := hS9
        go_simp
        try with_reducible rfl
      try simp only [Act.put, List.setIfInBounds_toArray, List.set_cons_zero, List.set_cons_succ]
      refine wpAnyH_take (i := 12) (oi := { dst := some 66, op := _, type := _, pos := _, after := _, guard := _ }) (v := (.pointer (some ⟨g, 3, none⟩))) rfl (by kernel_rfl) (by kernel_rfl) (by kernel_rfl) (fun _ _ _ h => h) (Or.inl ⟨by rfl, ?hy13⟩) (by assumption) ?rest13
      case hy13 =>
        intro w9 hS9
        obtain ⟨y0, y1, y2, y3, y4⟩ := hS9
        go_simp
        try with_reducible rfl
      try simp only [Act.put, List.setIfInBounds_toArray, List.set_cons_zero, List.set_cons_succ]
      refine wpAnyH_take (i := 13) (oi := { dst := some 67, op := _, type := _, pos := _, after := _, guard := _ }) (v := (.int .i64 z3)) rfl (by kernel_rfl) (by kernel_rfl) (by kernel_rfl) (fun _ _ _ h => h) (Or.inl ⟨by rfl, ?hy14⟩) (by assumption) ?rest14
      case hy14 =>
        intro w9 hS9
        obtain ⟨y0, y1, y2, y3, y4⟩ := hS9
        go_simp
        try with_reducible rfl
      try simp only [Act.put, List.setIfInBounds_toArray, List.set_cons_zero, List.set_cons_succ]
      refine wpAnyH_take (i := 14) (oi := { dst := some 68, op := _, type := _, pos := _, after := _, guard := _ }) (v := (.slice (some ⟨g, 0, none⟩) 5 c)) rfl (by kernel_rfl) (by kernel_rfl) (by kernel_rfl) (fun _ _ _ h => h) (Or.inl ⟨by rfl, ?hy15⟩) (by assumption) ?rest15
      case hy15 =>
        intro w9 hS9
        obtain ⟨y0, y1, y2, y3, y4⟩ := hS9
        go_simp
        try with_reducible rfl
      try simp only [Act.put, List.setIfInBounds_toArray, List.set_cons_zero, List.set_cons_succ]
      refine wpAnyH_take (i := 15) (oi := { dst := some 69, op := _, type := _, pos := _, after := _, guard := _ }) (v := (.pointer (some ⟨g, 4, none⟩))) rfl (by kernel_rfl) (by kernel_rfl) (by kernel_rfl) (fun _ _ _ h => h) (Or.inl ⟨by rfl, ?hy16⟩) (by assumption) ?rest16
      case hy16 =>
        intro w9 hS9
        obtain ⟨y0, y1, y2, y3, y4⟩ := hS9
        go_simp
        try with_reducible rfl
      try simp only [Act.put, List.setIfInBounds_toArray, List.set_cons_zero, List.set_cons_succ]
      refine wpAnyH_take (i := 16) (oi := { dst := some 70, op := _, type := _, pos := _, after := _, guard := _ }) (v := (.int .i64 z4)) rfl (by kernel_rfl) (by kernel_rfl) (by kernel_rfl) (fun _ _ _ h => h) (Or.inl ⟨by rfl, ?hy17⟩) (by assumption) ?rest17
      case hy17 =>
        intro w9 hS9
        obtain ⟨y0, y1, y2, y3, y4⟩ := hS9
        go_simp
        try with_reducible rfl
      try simp only [Act.put, List.setIfInBounds_toArray, List.set_cons_zero, List.set_cons_succ]
      refine wpAnyH_take (i := 17) (oi := { dst := some 71, op := _, type := _, pos := _, after := _, guard := _ }) (v := (.agg #[.string s, .string d, .int .i64 z0, .int .i64 z1, .int .i64 z2, .int .i64 z3, .int .i64 z4])) rfl (by kernel_rfl) (by kernel_rfl) (by kernel_rfl) (fun _ _ _ h => h) (Or.inl ⟨by rfl, ?hy18⟩) (by assumption) ?rest18
      case hy18 =>
        intro w9 hS9
        obtain ⟨y0, y1, y2, y3, y4⟩ := hS9
        go_simp
        try with_reducible rfl
      try simp only [Act.put, List.setIfInBounds_toArray, List.set_cons_zero, List.set_cons_succ]
      refine wpAnyH_take (i := 18) (oi := { dst := some 72, op := _, type := _, pos := _, after := _, guard := _ }) (v := (.int .i64 (t : Int))) rfl (by kernel_rfl) (by kernel_rfl) (by kernel_rfl) (fun _ _ _ h => h) (Or.inl ⟨by rfl, ?hy19⟩) (by assumption) ?rest19
      case hy19 =>
        intro w9 hS9
        obtain ⟨y0, y1, y2, y3, y4⟩ := hS9
        go_simp
        try with_reducible rfl
      try simp only [Act.put, List.setIfInBounds_toArray, List.set_cons_zero, List.set_cons_succ]
      refine wpAnyH_take (i := 19) (oi := { dst := some 73, op := _, type := _, pos := _, after := _, guard := _ }) (v := (.int .i64 ((t : Int) + 20))) rfl (by kernel_rfl) (by kernel_rfl) (by kernel_rfl) (fun _ _ _ h => h) (Or.inl ⟨by rfl, ?hy20⟩) (by assumption) ?rest20
      case hy20 =>
        intro w9 hS9
        go_simp
        exact hwr.out
      try simp only [Act.put, List.setIfInBounds_toArray, List.set_cons_zero, List.set_cons_succ]
      refine wpAnyH_ready (rs := [20]) (by kernel_rfl) (by simp) ?_
      refine AllReadyH.cons (o := { dst := none, op := _, type := _, pos := _, after := _, guard := _ }) rfl (fun K hK => ?_) AllReadyH.nil
      go_simp
      refine hK.out _ _ ?sk (fun hx9 => ?_)
      case sk =>
        have hne : w.heap.size ≠ g := by omega
        exact ⟨(keep7 hne _ _ _ _ _ _ _ 0).trans k0, (keep7 hne _ _ _ _ _ _ _ 1).trans k1, (keep7 hne _ _ _ _ _ _ _ 2).trans k2, (keep7 hne _ _ _ _ _ _ _ 3).trans k3, (keep7 hne _ _ _ _ _ _ _ 4).trans k4⟩
      clear hK K hHeld
      have hHeld := hx9
      try simp only [Act.put, List.setIfInBounds_toArray, List.set_cons_zero, List.set_cons_succ]
      refine wpAnyH_take (i := 21) (oi := { dst := some 5, op := _, type := _, pos := _, after := _, guard := _ }) (v := (.int .i64 ((t : Int) + 20))) rfl (by kernel_rfl) (by kernel_rfl) (by kernel_rfl) (fun _ _ _ h => h) (Or.inl ⟨by rfl, ?hy21⟩) (by assumption) ?rest21
      case hy21 =>
        intro w9 hS9
        go_simp
        try with_reducible rfl
      try simp only [Act.put, List.setIfInBounds_toArray, List.set_cons_zero, List.set_cons_succ]
      refine wpAnyH_done (by kernel_rfl) ?_ _
      clear hHeld hx9
      go_wp2
      refine bodyPost_ret (v := .tuple #[ndV ⟨s, d, z0, z1, z2, z3, z4⟩, .int .i64 ((t + 20 : Nat) : Int)]) (by simp [results, Tryd.results69, go_sem, ndV, x0, x1, x2, x3, x4, x5, x6]) rfl ⟨?_, .inr ⟨_, t + 20, HYES.out, by omega, h20, rfl⟩⟩
      exact (below7 HB.out _ _ _ _ _ _ _).trans ((below_drewN' _ 1).mono (below7 HB.out _ _ _ _ _ _ _).size)

end Go.Proofs.YtgjenbgclpmjmaaDoor

namespace Go.Proofs.YtgjenbgclpmjmaaDoor
open Go.RowKit

/-- The way of spec.DecodeTxn. -/
def SX (w : World) (ys : List Int) (W : World) (v : Value) (es : List Ef) (p c : Nat) : Prop :=
  ParE (cntX ys) (ys.drop 6) es (ys.drop p) c ∧ SzE es ∧ Below w.heap.size w W ∧ Zx W w.heap.size ∧ B2 W (w.heap.size + 1) (zX ys) v ∧ OwnE 86 W (w.heap.size + 2) v es
theorem SX.later {w W W' : World} {ys : List Int} {v : Value} {es : List Ef} {p c : Nat} (h : SX w ys W v es p c) (hb : Below W.heap.size W W') : SX w ys W' v es p c := by
  obtain ⟨t1, t2, t3, t4, t5, t6⟩ := h
  exact ⟨t1, t2, t3.trans (hb.mono t3.size), t4.turn (grown_of hb none) (by simp), t5.turn (grown_of hb none) (by simp), t6.below hb⟩
theorem SX.push {w W W3 : World} {ys : List Int} {v v3 : Value} {es : List Ef} {p q c : Nat} {n : Ef} (h : SX w ys W v es p (c + 1)) (hb : Byt ys) (hr : rdE (ys.drop p) = some (n, ys.drop q)) (hg : W.grownBy W3 v.ownBlock) (ho : W3.ownsRow (w.heap.size + 2) 86 8 v3 (es.length + 1) (erow es ++ efL n)) :
    SX w ys (W3.setCell ⟨w.heap.size + 1, 1, none⟩ v3) v3 (es ++ [n]) q c := by
  obtain ⟨t1, t2, t3, t4, t5, t6⟩ := h
  have hne : ∀ k, k < w.heap.size + 2 → some k ≠ v.ownBlock := fun k hk e => by have := (World.ownsRow.lt t6 k e.symm).1; omega
  have hlo : ∀ g, v.ownBlock = some g → w.heap.size ≤ g := fun g e => by have := (World.ownsRow.lt t6 g e).1; omega
  have b6 := t5.turn hg (hne _ (by omega))
  have hby := byt_drop hb p
  have hsz := rdE_byt hr hby
  refine ⟨t1.step hby hr, t2.snoc hsz.2.2.1 hsz.2.2.2, (t3.grown hg t3.size hlo).setCell (p := ⟨w.heap.size + 1, 1, none⟩) (Nat.le_succ _) _, (t4.turn hg (hne _ (by omega))).set (by omega) _ _, ⟨by simpa using b6.1, (World.cell?_setCell_other _ _ _ _ (by intro e; injection e with _ e; omega)).trans b6.2.1, World.cell?_setCell_same _ _ _ b6.2.2.1, fun j => by rw [World.frozen?_setCell]; exact b6.2.2.2 j⟩, ?_⟩
  have : OwnE 86 W3 (w.heap.size + 2) v3 (es ++ [n]) := by unfold OwnE; rw [erow_one, List.length_append]; exact ho
  exact OwnE.setBelow this (by show w.heap.size + 1 < w.heap.size + 2; omega) _
/-- A local effect that may be written. -/
structure EW (W : World) (B : Nat) (e : Ef) : Prop where
  lt : B < W.heap.size
  c0 : W.cell? ⟨B, 0, none⟩ = some (.bool e.del)
  c1 : W.cell? ⟨B, 1, none⟩ = some (.string e.nd.path)
  c2 : W.cell? ⟨B, 2, none⟩ = some (.string e.nd.data)
  c3 : W.cell? ⟨B, 3, none⟩ = some (.int .i64 e.nd.ver)
  c4 : W.cell? ⟨B, 4, none⟩ = some (.int .i64 e.nd.cver)
  c5 : W.cell? ⟨B, 5, none⟩ = some (.int .i64 e.nd.cz)
  c6 : W.cell? ⟨B, 6, none⟩ = some (.int .i64 e.nd.mz)
  c7 : W.cell? ⟨B, 7, none⟩ = some (.int .i64 e.nd.pz)
  fz : ∀ j, W.frozen? ⟨B, j, none⟩ = false
theorem EW.new (w : World) (e : Ef) (t : TypeId) : EW (w.alloc (.cells #[.bool e.del, .string e.nd.path, .string e.nd.data, .int .i64 e.nd.ver, .int .i64 e.nd.cver, .int .i64 e.nd.cz, .int .i64 e.nd.mz, .int .i64 e.nd.pz] t)) w.heap.size e :=
  ⟨by simp, by simp, by simp, by simp, by simp, by simp, by simp, by simp, by simp, fun j => (by go_simp)⟩
theorem EW.later {W W' : World} {B : Nat} {e : Ef} (h : EW W B e) (hb : Below W.heap.size W W') : EW W' B e :=
  ⟨Nat.lt_of_lt_of_le h.lt hb.size, (hb.cell (p := ⟨B, _, none⟩) h.lt).trans h.c0, (hb.cell (p := ⟨B, _, none⟩) h.lt).trans h.c1, (hb.cell (p := ⟨B, _, none⟩) h.lt).trans h.c2, (hb.cell (p := ⟨B, _, none⟩) h.lt).trans h.c3, (hb.cell (p := ⟨B, _, none⟩) h.lt).trans h.c4, (hb.cell (p := ⟨B, _, none⟩) h.lt).trans h.c5, (hb.cell (p := ⟨B, _, none⟩) h.lt).trans h.c6, (hb.cell (p := ⟨B, _, none⟩) h.lt).trans h.c7, fun j => (hb.frozen (p := ⟨B, j, none⟩) h.lt).trans (h.fz j)⟩

theorem setB_same {W : World} {B i : Nat} {u x : Value} (h : W.cell? ⟨B, i, none⟩ = some x) : (W.setCell ⟨B, i, none⟩ u).cell? ⟨B, i, none⟩ = some u := World.cell?_setCell_same _ _ _ h
theorem setB_other {W : World} {B i j : Nat} {u x : Value} (h : W.cell? ⟨B, j, none⟩ = some x) (hij : i ≠ j) : (W.setCell ⟨B, i, none⟩ u).cell? ⟨B, j, none⟩ = some x := (World.cell?_setCell_other _ _ _ _ (by intro e; injection e with _ e; omega)).trans h
theorem EW.putN {W : World} {B : Nat} {e : Ef} (h : EW W B e) (n : Nd) : EW (((((((W.setCell ⟨B, 1, none⟩ (.string n.path)).setCell ⟨B, 2, none⟩ (.string n.data)).setCell ⟨B, 3, none⟩ (.int .i64 n.ver)).setCell ⟨B, 4, none⟩ (.int .i64 n.cver)).setCell ⟨B, 5, none⟩ (.int .i64 n.cz)).setCell ⟨B, 6, none⟩ (.int .i64 n.mz)).setCell ⟨B, 7, none⟩ (.int .i64 n.pz)) B ⟨e.del, n⟩ := by
  refine ⟨by simpa using h.lt, ?_, ?_, ?_, ?_, ?_, ?_, ?_, ?_, fun j => by simp only [World.frozen?_setCell]; exact h.fz j⟩
  · exact (setB_other (setB_other (setB_other (setB_other (setB_other (setB_other (setB_other h.c0 (by omega)) (by omega)) (by omega)) (by omega)) (by omega)) (by omega)) (by omega))
  · exact (setB_other (setB_other (setB_other (setB_other (setB_other (setB_other (setB_same h.c1) (by omega)) (by omega)) (by omega)) (by omega)) (by omega)) (by omega))
  · exact (setB_other (setB_other (setB_other (setB_other (setB_other (setB_same (setB_other h.c2 (by omega))) (by omega)) (by omega)) (by omega)) (by omega)) (by omega))
  · exact (setB_other (setB_other (setB_other (setB_other (setB_same (setB_other (setB_other h.c3 (by omega)) (by omega))) (by omega)) (by omega)) (by omega)) (by omega))
  · exact (setB_other (setB_other (setB_other (setB_same (setB_other (setB_other (setB_other h.c4 (by omega)) (by omega)) (by omega))) (by omega)) (by omega)) (by omega))
  · exact (setB_other (setB_other (setB_same (setB_other (setB_other (setB_other (setB_other h.c5 (by omega)) (by omega)) (by omega)) (by omega))) (by omega)) (by omega))
  · exact (setB_other (setB_same (setB_other (setB_other (setB_other (setB_other (setB_other h.c6 (by omega)) (by omega)) (by omega)) (by omega)) (by omega))) (by omega))
  · exact (setB_same (setB_other (setB_other (setB_other (setB_other (setB_other (setB_other h.c7 (by omega)) (by omega)) (by omega)) (by omega)) (by omega)) (by omega)))
theorem EW.putD {W : World} {B : Nat} {e : Ef} (h : EW W B e) (s : ByteArray) : EW ((((((((W.setCell ⟨B, 0, none⟩ (.bool true)).setCell ⟨B, 1, none⟩ (.string s)).setCell ⟨B, 2, none⟩ (.string ⟨#[]⟩)).setCell ⟨B, 3, none⟩ (.int .i64 0)).setCell ⟨B, 4, none⟩ (.int .i64 0)).setCell ⟨B, 5, none⟩ (.int .i64 0)).setCell ⟨B, 6, none⟩ (.int .i64 0)).setCell ⟨B, 7, none⟩ (.int .i64 0)) B ⟨true, ndP s⟩ := by
  refine ⟨by simpa using h.lt, ?_, ?_, ?_, ?_, ?_, ?_, ?_, ?_, fun j => by simp only [World.frozen?_setCell]; exact h.fz j⟩
  · exact (setB_other (setB_other (setB_other (setB_other (setB_other (setB_other (setB_other (setB_same h.c0) (by omega)) (by omega)) (by omega)) (by omega)) (by omega)) (by omega)) (by omega))
  · exact (setB_other (setB_other (setB_other (setB_other (setB_other (setB_other (setB_same (setB_other h.c1 (by omega))) (by omega)) (by omega)) (by omega)) (by omega)) (by omega)) (by omega))
  · exact (setB_other (setB_other (setB_other (setB_other (setB_other (setB_same (setB_other (setB_other h.c2 (by omega)) (by omega))) (by omega)) (by omega)) (by omega)) (by omega)) (by omega))
  · exact (setB_other (setB_other (setB_other (setB_other (setB_same (setB_other (setB_other (setB_other h.c3 (by omega)) (by omega)) (by omega))) (by omega)) (by omega)) (by omega)) (by omega))
  · exact (setB_other (setB_other (setB_other (setB_same (setB_other (setB_other (setB_other (setB_other h.c4 (by omega)) (by omega)) (by omega)) (by omega))) (by omega)) (by omega)) (by omega))
  · exact (setB_other (setB_other (setB_same (setB_other (setB_other (setB_other (setB_other (setB_other h.c5 (by omega)) (by omega)) (by omega)) (by omega)) (by omega))) (by omega)) (by omega))
  · exact (setB_other (setB_same (setB_other (setB_other (setB_other (setB_other (setB_other (setB_other h.c6 (by omega)) (by omega)) (by omega)) (by omega)) (by omega)) (by omega))) (by omega))
  · exact (setB_same (setB_other (setB_other (setB_other (setB_other (setB_other (setB_other (setB_other h.c7 (by omega)) (by omega)) (by omega)) (by omega)) (by omega)) (by omega)) (by omega)))

theorem zx3 {W : World} {k : Nat} (h : Zx W k) (ob : Obj) : ((((W.setCell ⟨k, 0, none⟩ (.bool false)).setCell ⟨k, 1, none⟩ (.int .i64 0)).setCell ⟨k, 2, none⟩ (.slice none 0 0)).alloc ob).cell? ⟨k, 0, none⟩ = some (.bool false) ∧ ((((W.setCell ⟨k, 0, none⟩ (.bool false)).setCell ⟨k, 1, none⟩ (.int .i64 0)).setCell ⟨k, 2, none⟩ (.slice none 0 0)).alloc ob).cell? ⟨k, 1, none⟩ = some (.int .i64 0) ∧ ((((W.setCell ⟨k, 0, none⟩ (.bool false)).setCell ⟨k, 1, none⟩ (.int .i64 0)).setCell ⟨k, 2, none⟩ (.slice none 0 0)).alloc ob).cell? ⟨k, 2, none⟩ = some (.slice none 0 0) := by
  have E : ∀ j : Nat, ((((W.setCell ⟨k, 0, none⟩ (.bool false)).setCell ⟨k, 1, none⟩ (.int .i64 0)).setCell ⟨k, 2, none⟩ (.slice none 0 0)).alloc ob).cell? ⟨k, j, none⟩ = (((W.setCell ⟨k, 0, none⟩ (.bool false)).setCell ⟨k, 1, none⟩ (.int .i64 0)).setCell ⟨k, 2, none⟩ (.slice none 0 0)).cell? ⟨k, j, none⟩ := fun j => ((Below.refl _ _).alloc (Nat.le_refl _) ob).cell (p := ⟨k, j, none⟩) (by simpa using h.1)
  refine ⟨(E 0).trans ?_, (E 1).trans ?_, (E 2).trans ?_⟩
  · exact setB_other (setB_other (setB_same h.2.1) (by omega)) (by omega)
  · exact setB_other (setB_same (setB_other h.2.2.1 (by omega))) (by omega)
  · exact setB_same (setB_other (setB_other h.2.2.2.1 (by omega)) (by omega))

set_option maxHeartbeats 4000000 in
set_option maxRecDepth 100000 in
theorem specDecX_any (w : World) (v : Value) (ys : List Int) (h : Rd .u8 w v ys) (hby : Byt ys) (hl : ys.length ≤ 1048576) :
    Calls Tryd.prog 24 #[v] w fun e w' => DxPost w ys e w' := by
  obtain ⟨i0, hi, hz0, hz1, hz2⟩ := info_parts Tryd.infoE
  obtain ⟨ao, cap, rfl, hcc, hcm⟩ := h.len
  have HR : Hid (Rd .u8 w (.slice ao ys.length cap) ys) := h
  have HBY : Hid (Byt ys) := hby
  have B0 : Hid (Below w.heap.size w (w.alloc (.cells #[.bool false, .int .i64 0, .slice none 0 0] 47))) := (Below.refl _ _).alloc (Nat.le_refl _) _
  have Z0 : Hid (Zx (w.alloc (.cells #[.bool false, .int .i64 0, .slice none 0 0] 47)) w.heap.size) := ⟨by simp, (by go_simp), (by go_simp), (by go_simp), fun j => (by go_simp)⟩
  clear h hby
  go_enter Tryd.func24, Tryd.ntmps24
  by_cases h6 : ys.length < 6
  · have h6I : (ys.length : Int) < 6 := by omega
    have HF : Hid (DxPost w ys (.returned (.agg #[.bool false, .int .i64 0, .slice none 0 0])) (w.alloc (.cells #[.bool false, .int .i64 0, .slice none 0 0] 47))) := ⟨B0.out, .inl ⟨decX_short h6, rfl⟩⟩
    go_wp2
    refine bodyPost_ret (v := .agg #[.bool false, .int .i64 0, .slice none 0 0]) (by simp [results, Tryd.results24, go_sem]) rfl HF.out
  have h6I : ¬ (ys.length : Int) < 6 := by omega
  obtain ⟨b, o, hao, hb, hc⟩ : ∃ b o, ao = some ⟨b, o, none⟩ ∧ b < w.heap.size ∧ ∀ i, i < ys.length → w.cell? ⟨b, o + i, none⟩ = some (.int .u8 (ys.getD i 0)) := by
    obtain ⟨ao', cap', e', -, -, h3⟩ := HR.out
    simp only [Value.slice.injEq] at e'
    obtain ⟨rfl, -, -⟩ := e'
    rcases h3 with h3 | ⟨b, o, rfl, hb, hc⟩
    · rw [h3] at h6; simp at h6
    · exact ⟨b, o, rfl, hb, hc⟩
  subst hao
  have HC : Hid (∀ i, i < ys.length → w.cell? ⟨b, o + i, none⟩ = some (.int .u8 (ys.getD i 0))) := hc
  clear hc
  have hc4 : 4 ≤ cap := by omega
  go_wp2_with fail
  have hs0 : (w.alloc (.cells #[.bool false, .int .i64 0, .slice none 0 0] 47)).heap.size = w.heap.size + 1 := by simp
  generalize w.alloc (.cells #[.bool false, .int .i64 0, .slice none 0 0] 47) = W0 at *
  have HN1 : Hid (∀ i, i < 4 → W0.cell? ⟨b, o + i, none⟩ = some (.int .u8 ((ys.take 4).getD i 0))) := by
    intro i hi
    rw [B0.out.cell (p := ⟨b, o + i, none⟩) hb, HC.out i (by omega)]
    simp [List.getD, List.getElem?_take_of_lt hi]
  refine (specNum_any W0 b o 4 _ (ys.take 4) ?n1 ?n2 HN1.out ?n4 (by omega)).mono ?_
  case n1 => rw [List.length_take]; omega
  case n2 => exact fun x hx => HBY.out x (List.mem_of_mem_take hx)
  case n4 => exact num_small (fun x hx => HBY.out x (List.mem_of_mem_take hx)) (by rw [List.length_take]; omega)
  rintro e w1 ⟨rfl, q1, hw1⟩
  have D1 : Hid (Below W0.heap.size W0 w1) := by rw [hw1]; exact below_drewN' W0 q1
  have hs1 : w1.heap.size = W0.heap.size := by rw [hw1]; rfl
  clear hw1 HN1
  rw [show numB (ys.take 4) = zX ys from rfl]
  have Z1 : Hid (Zx w1 w.heap.size) := Z0.out.turn (grown_of D1.out none) (by simp)
  have B1' : Hid (Below w.heap.size w w1) := B0.out.trans (D1.out.mono B0.out.size)
  clear D1 Z0
  go_wp2_with fail
  have ba : Below w1.heap.size w1 (w1.alloc (.cells #[.int .i64 (zX ys : Int), .slice none 0 0] 41)) := (Below.refl _ _).alloc (Nat.le_refl _) _
  have X2 : Hid (B2 (w1.alloc (.cells #[.int .i64 (zX ys : Int), .slice none 0 0] 41)) (w.heap.size + 1) (zX ys) (.slice none 0 0)) := by
    rw [← hs0, ← hs1]
    exact ⟨by simp, (by go_simp), (by go_simp), fun j => (by go_simp)⟩
  have Z2 : Hid (Zx (w1.alloc (.cells #[.int .i64 (zX ys : Int), .slice none 0 0] 41)) w.heap.size) := Z1.out.turn (grown_of ba none) (by simp)
  have B2' : Hid (Below w.heap.size w (w1.alloc (.cells #[.int .i64 (zX ys : Int), .slice none 0 0] 41))) := B1'.out.trans (ba.mono B1'.out.size)
  clear ba Z1 B1' hs0 hs1
  generalize w1.alloc (.cells #[.int .i64 (zX ys : Int), .slice none 0 0] 41) = w2 at *
  have HN2 : Hid (∀ i, i < 2 → w2.cell? ⟨b, o + 4 + i, none⟩ = some (.int .u8 (((ys.drop 4).take 2).getD i 0))) := by
    intro i hi
    rw [B2'.out.cell (p := ⟨b, o + 4 + i, none⟩) hb, Nat.add_assoc, HC.out (4 + i) (by omega)]
    simp [List.getD, List.getElem?_take_of_lt hi]
  refine (specNum_any w2 b (o + 4) 2 _ ((ys.drop 4).take 2) ?m1 ?m2 HN2.out ?m4 (by omega)).mono ?_
  case m1 => rw [List.length_take, List.length_drop]; omega
  case m2 => exact fun x hx => HBY.out x (List.mem_of_mem_drop (List.mem_of_mem_take hx))
  case m4 => exact num_small (fun x hx => HBY.out x (List.mem_of_mem_drop (List.mem_of_mem_take hx))) (by rw [List.length_take]; omega)
  rintro e w3 ⟨rfl, q3, hw3⟩
  have D3 : Below w2.heap.size w2 w3 := by rw [hw3]; exact below_drewN' w2 q3
  have S3 : Hid (SX w ys w3 (.slice none 0 0) [] 6 (cntX ys - 0)) := ⟨ParE.start _ _, (fun n hn => by cases hn), B2'.out.trans (D3.mono B2'.out.size), Z2.out.turn (grown_of D3 none) (by simp), X2.out.turn (grown_of D3 none) (by simp), World.ownsRow_nil _ _ _ _⟩
  have hC := (wrap2 (byt_drop HBY.out 4)).2
  rw [show numB ((ys.drop 4).take 2) = cntX ys from rfl] at *
  clear hw3 D3 HN2 X2 Z2 B2'
  generalize hCC : cntX ys = C at *
  have HCC : Hid (cntX ys = C) := hCC
  clear hCC
  go_wp2
  go_loopw [5, 6] (fun va vi wr => ∃ (i p : Nat) (v : Value) (es : List Ef), i ≤ C ∧ p ≤ ys.length ∧ va = .int .i64 p ∧ vi = .int .i64 i ∧ Hid (SX w ys wr v es p (C - i))) (fun _ i _ => C - (intOf i).toNat)
  case atStart => exact ⟨0, 6, _, _, Nat.zero_le _, by omega, rfl, rfl, S3⟩
  case round =>
    clear S3
    obtain ⟨i, p, v, es, hiC, hp, rfl, rfl, D⟩ := hrel
    obtain ⟨va, vc, hva⟩ := D.out.2.2.2.2.2.slice
    subst hva
    have hns : es.length ≤ 1048576 := by have := D.out.1.2; simp only [List.length_drop] at this; omega
    by_cases hlt : i < C
    · have hltI : (i : Int) < (C : Int) := by omega
      obtain ⟨c, hc⟩ : ∃ c, C - i = c + 1 := ⟨C - i - 1, by omega⟩
      rw [hc] at D
      have HC2 : Hid (C - (i + 1) = c) := by show _ = _; omega
      clear hc
      have HNO : Hid (rdE (ys.drop p) = none → decX ys = none) := fun hr => decX_bad (by rw [HCC.out]; exact (HCC.out ▸ D.out.1).bad hr)
      by_cases hpN : p < ys.length
      rotate_left
      · have hpI : (ys.length : Int) ≤ (p : Int) := by omega
        have HDX : Hid (decX ys = none) := HNO.out (by rw [List.drop_eq_nil_of_le (by omega)]; rfl)
        obtain ⟨-, z0, z1, z2, zf⟩ := D.out.2.2.2.1
        have f0 := zf 0
        have f1 := zf 1
        have f2 := zf 2
        have HF : Hid (DxPost w ys (.returned (.agg #[.bool false, .int .i64 0, .slice none 0 0])) (((wr.setCell ⟨w.heap.size, 0, none⟩ (.bool false)).setCell ⟨w.heap.size, 1, none⟩ (.int .i64 0)).setCell ⟨w.heap.size, 2, none⟩ (.slice none 0 0))) := ⟨((D.out.2.2.1.setCell (p := ⟨w.heap.size, 0, none⟩) (Nat.le_refl _) _).setCell (p := ⟨w.heap.size, 1, none⟩) (Nat.le_refl _) _).setCell (p := ⟨w.heap.size, 2, none⟩) (Nat.le_refl _) _, .inl ⟨HDX.out, rfl⟩⟩
        clear zf
        go_wp2
        refine bodyPost_ret (v := .agg #[.bool false, .int .i64 0, .slice none 0 0]) (by simp [results, Tryd.results24, go_sem, z0, z1, z2]) rfl HF.out
      have hpI : (p : Int) < (ys.length : Int) := by omega
      obtain ⟨y, hy, hye⟩ := byt_at HBY.out p
      have HD : Hid (ys.drop p = (y : Int) :: ys.drop (p + 1)) := by
        show _ = _
        rw [List.drop_eq_getElem_cons hpN]
        simp only [List.getD, List.getElem?_eq_getElem hpN, Option.getD_some] at hye
        rw [hye]
      have HCP : Hid (∀ W, Below w.heap.size w W → W.cell? ⟨b, o + p, none⟩ = some (.int .u8 (y : Int))) := fun W hW => by rw [hW.cell (p := ⟨b, o + p, none⟩) hb, HC.out p hpN, hye]
      clear hye
      have D2 : Hid (SX w ys (wr.alloc (.cells #[.bool false, .string ⟨#[]⟩, .string ⟨#[]⟩, .int .i64 0, .int .i64 0, .int .i64 0, .int .i64 0, .int .i64 0] 86)) (.slice va es.length vc) es p (c + 1)) := D.out.later ((Below.refl _ _).alloc (Nat.le_refl _) _)
      have E2 : Hid (EW (wr.alloc (.cells #[.bool false, .string ⟨#[]⟩, .string ⟨#[]⟩, .int .i64 0, .int .i64 0, .int .i64 0, .int .i64 0, .int .i64 0] 86)) wr.heap.size ef0) := EW.new wr ef0 _
      have cp := HCP.out _ D2.out.2.2.1
      have BA : Hid (Below wr.heap.size wr (wr.alloc (.cells #[.bool false, .string ⟨#[]⟩, .string ⟨#[]⟩, .int .i64 0, .int .i64 0, .int .i64 0, .int .i64 0, .int .i64 0] 86))) := (Below.refl _ _).alloc (Nat.le_refl _) _
      by_cases h1 : y = 1
      · subst h1
        go_wp2_with fail
        rename_i K3 a3 hx K2 a2 K1 a1 K0 a0
        have HK2 : Hid _ := a2
        clear a2 cp
        generalize wr.alloc (.cells #[.bool false, .string ⟨#[]⟩, .string ⟨#[]⟩, .int .i64 0, .int .i64 0, .int .i64 0, .int .i64 0, .int .i64 0] 86) = wA at *
        have hm := rN_any wA _ ys (p + 1) (HR.out.below D2.out.2.2.1) HBY.out hl
        rw [show ((p + 1 : Nat) : Int) = (p : Int) + 1 by omega] at hm
        refine hm.mono ?_
        clear hm
        rintro e w1 ⟨b1, hpp⟩
        have E3 : Hid (EW w1 wr.heap.size ef0) := E2.out.later b1
        have BW : Hid (Below wr.heap.size wr w1) := BA.out.trans (b1.mono BA.out.size)
        have sw := BW.out.size
        clear b1 E2 D2 BA
        have key : ∀ n : Nd, Hid (EW ((((((((w1.setCell ⟨wr.heap.size, 1, none⟩ (.string n.path)).setCell ⟨wr.heap.size, 2, none⟩ (.string n.data)).setCell ⟨wr.heap.size, 3, none⟩ (.int .i64 n.ver)).setCell ⟨wr.heap.size, 4, none⟩ (.int .i64 n.cver)).setCell ⟨wr.heap.size, 5, none⟩ (.int .i64 n.cz)).setCell ⟨wr.heap.size, 6, none⟩ (.int .i64 n.mz)).setCell ⟨wr.heap.size, 7, none⟩ (.int .i64 n.pz)).alloc (.cells #[.string n.path, .string n.data, .int .i64 n.ver, .int .i64 n.cver, .int .i64 n.cz, .int .i64 n.mz, .int .i64 n.pz] 81)) wr.heap.size ⟨false, n⟩) ∧ Hid (SX w ys ((((((((w1.setCell ⟨wr.heap.size, 1, none⟩ (.string n.path)).setCell ⟨wr.heap.size, 2, none⟩ (.string n.data)).setCell ⟨wr.heap.size, 3, none⟩ (.int .i64 n.ver)).setCell ⟨wr.heap.size, 4, none⟩ (.int .i64 n.cver)).setCell ⟨wr.heap.size, 5, none⟩ (.int .i64 n.cz)).setCell ⟨wr.heap.size, 6, none⟩ (.int .i64 n.mz)).setCell ⟨wr.heap.size, 7, none⟩ (.int .i64 n.pz)).alloc (.cells #[.string n.path, .string n.data, .int .i64 n.ver, .int .i64 n.cver, .int .i64 n.cz, .int .i64 n.mz, .int .i64 n.pz] 81)) (.slice va es.length vc) es p (c + 1)) := by
          intro n
          refine ⟨(E3.out.putN n).later ((Below.refl _ _).alloc (Nat.le_refl _) _), D.out.later (Below.alloc ?_ (by simp; omega) _)⟩
          exact (((((((BW.out.setCell (p := ⟨wr.heap.size, 1, none⟩) (Nat.le_refl _) _).setCell (p := ⟨wr.heap.size, 2, none⟩) (Nat.le_refl _) _).setCell (p := ⟨wr.heap.size, 3, none⟩) (Nat.le_refl _) _).setCell (p := ⟨wr.heap.size, 4, none⟩) (Nat.le_refl _) _).setCell (p := ⟨wr.heap.size, 5, none⟩) (Nat.le_refl _) _).setCell (p := ⟨wr.heap.size, 6, none⟩) (Nat.le_refl _) _).setCell (p := ⟨wr.heap.size, 7, none⟩) (Nat.le_refl _) _)
        have HKEY : Hid (∀ n : Nd, Hid (EW ((((((((w1.setCell ⟨wr.heap.size, 1, none⟩ (.string n.path)).setCell ⟨wr.heap.size, 2, none⟩ (.string n.data)).setCell ⟨wr.heap.size, 3, none⟩ (.int .i64 n.ver)).setCell ⟨wr.heap.size, 4, none⟩ (.int .i64 n.cver)).setCell ⟨wr.heap.size, 5, none⟩ (.int .i64 n.cz)).setCell ⟨wr.heap.size, 6, none⟩ (.int .i64 n.mz)).setCell ⟨wr.heap.size, 7, none⟩ (.int .i64 n.pz)).alloc (.cells #[.string n.path, .string n.data, .int .i64 n.ver, .int .i64 n.cver, .int .i64 n.cz, .int .i64 n.mz, .int .i64 n.pz] 81)) wr.heap.size ⟨false, n⟩) ∧ Hid (SX w ys ((((((((w1.setCell ⟨wr.heap.size, 1, none⟩ (.string n.path)).setCell ⟨wr.heap.size, 2, none⟩ (.string n.data)).setCell ⟨wr.heap.size, 3, none⟩ (.int .i64 n.ver)).setCell ⟨wr.heap.size, 4, none⟩ (.int .i64 n.cver)).setCell ⟨wr.heap.size, 5, none⟩ (.int .i64 n.cz)).setCell ⟨wr.heap.size, 6, none⟩ (.int .i64 n.mz)).setCell ⟨wr.heap.size, 7, none⟩ (.int .i64 n.pz)).alloc (.cells #[.string n.path, .string n.data, .int .i64 n.ver, .int .i64 n.cver, .int .i64 n.cz, .int .i64 n.mz, .int .i64 n.pz] 81)) (.slice va es.length vc) es p (c + 1))) := key
        clear key
        obtain ⟨el, e0, e1, e2, e3, e4, e5, e6, e7, ef⟩ := E3.out
        rcases hpp with ⟨hr, rfl⟩ | ⟨n, q, hr, hpq, hq, rfl⟩
        · have HDX : Hid (decX ys = none) := HNO.out (by rw [HD.out]; simp [rdE, hr])
          obtain ⟨E5, D5⟩ := HKEY.out nd0
          clear hr HKEY
          unfold ndV
          go_wp2
          refine HK2.out _ _ ?_
          clear el e0 e1 e2 e3 e4 e5 e6 e7 ef HK2 BW sw E3
          generalize (((((((w1.setCell ⟨wr.heap.size, 1, none⟩ (.string nd0.path)).setCell ⟨wr.heap.size, 2, none⟩ (.string nd0.data)).setCell ⟨wr.heap.size, 3, none⟩ (.int .i64 nd0.ver)).setCell ⟨wr.heap.size, 4, none⟩ (.int .i64 nd0.cver)).setCell ⟨wr.heap.size, 5, none⟩ (.int .i64 nd0.cz)).setCell ⟨wr.heap.size, 6, none⟩ (.int .i64 nd0.mz)).setCell ⟨wr.heap.size, 7, none⟩ (.int .i64 nd0.pz)).alloc (.cells #[.string nd0.path, .string nd0.data, .int .i64 nd0.ver, .int .i64 nd0.cver, .int .i64 nd0.cz, .int .i64 nd0.mz, .int .i64 nd0.pz] 81) = w5 at *
          have cp := HCP.out w5 D5.out.2.2.1
          obtain ⟨-, z0, z1, z2, zf⟩ := D5.out.2.2.2.1
          have f0 := zf 0
          have f1 := zf 1
          have f2 := zf 2
          have HF : Hid (DxPost w ys (.returned (.agg #[.bool false, .int .i64 0, .slice none 0 0])) (((w5.setCell ⟨w.heap.size, 0, none⟩ (.bool false)).setCell ⟨w.heap.size, 1, none⟩ (.int .i64 0)).setCell ⟨w.heap.size, 2, none⟩ (.slice none 0 0))) := ⟨((D5.out.2.2.1.setCell (p := ⟨w.heap.size, 0, none⟩) (Nat.le_refl _) _).setCell (p := ⟨w.heap.size, 1, none⟩) (Nat.le_refl _) _).setCell (p := ⟨w.heap.size, 2, none⟩) (Nat.le_refl _) _, .inl ⟨HDX.out, rfl⟩⟩
          clear zf
          go_wp2
          refine bodyPost_ret (v := .agg #[.bool false, .int .i64 0, .slice none 0 0]) (by simp [results, Tryd.results24, go_sem, z0, z1, z2]) rfl HF.out
        · have HRD : Hid (rdE (ys.drop p) = some (⟨false, n⟩, ys.drop q)) := by show _ = _; rw [HD.out]; simp [rdE, hr]
          obtain ⟨E5, D5⟩ := HKEY.out n
          clear hr HKEY
          unfold ndV
          go_wp2
          refine HK2.out _ _ ?_
          clear el e0 e1 e2 e3 e4 e5 e6 e7 ef HK2 BW sw E3
          generalize (((((((w1.setCell ⟨wr.heap.size, 1, none⟩ (.string n.path)).setCell ⟨wr.heap.size, 2, none⟩ (.string n.data)).setCell ⟨wr.heap.size, 3, none⟩ (.int .i64 n.ver)).setCell ⟨wr.heap.size, 4, none⟩ (.int .i64 n.cver)).setCell ⟨wr.heap.size, 5, none⟩ (.int .i64 n.cz)).setCell ⟨wr.heap.size, 6, none⟩ (.int .i64 n.mz)).setCell ⟨wr.heap.size, 7, none⟩ (.int .i64 n.pz)).alloc (.cells #[.string n.path, .string n.data, .int .i64 n.ver, .int .i64 n.cver, .int .i64 n.cz, .int .i64 n.mz, .int .i64 n.pz] 81) = w5 at *
          have cp := HCP.out w5 D5.out.2.2.1
          obtain ⟨n8, hn8⟩ : ∃ n8 : Ef, n8 = ⟨false, n⟩ := ⟨_, rfl⟩
          rw [← hn8] at E5 HRD
          clear hn8
          have D6 : Hid (SX w ys (w5.alloc (.cells #[.bool n8.del, .string n8.nd.path, .string n8.nd.data, .int .i64 n8.nd.ver, .int .i64 n8.nd.cver, .int .i64 n8.nd.cz, .int .i64 n8.nd.mz, .int .i64 n8.nd.pz] 86)) (.slice va es.length vc) es p (c + 1)) := D5.out.later ((Below.refl _ _).alloc (Nat.le_refl _) _)
          have N6 : Hid (∀ j u, (efL n8)[j]? = some u → (w5.alloc (.cells #[.bool n8.del, .string n8.nd.path, .string n8.nd.data, .int .i64 n8.nd.ver, .int .i64 n8.nd.cver, .int .i64 n8.nd.cz, .int .i64 n8.nd.mz, .int .i64 n8.nd.pz] 86)).cell? ((⟨w5.heap.size, 0, none⟩ : Addr).add j) = some u) := efL_cells _ _ _
          obtain ⟨el, e0, e1, e2, e3, e4, e5, e6, e7, -⟩ := E5.out
          obtain ⟨-, b0, b1, bf⟩ := D5.out.2.2.2.2.1
          have hqI : ¬ (q : Int) < 0 := by omega
          have s6 := D6.out.2.2.1.size
          have s52 := D5.out.2.2.2.2.1.1
          go_wp2_with (at_builtin; go_must (refine wpList_append_own _ rfl _ _ 39 rfl (w.heap.size + 2) 86 i0 (.agg #[.bool false, .string ByteArray.empty, .string ByteArray.empty, .int .i64 0, .int .i64 0, .int .i64 0, .int .i64 0, .int .i64 0]) 8 80 Tryd.underlying39 hi hz0 hz1 hz2 rfl (by decide) _ _ _ rfl D6.out.2.2.2.2.2 ⟨w5.heap.size, 0, none⟩ 1 1 (efL n8) rfl rfl N6.out (efL_one n8) ?_ ?_ ?_ ?_))
          · unfold maxLen; omega
          · omega
          · first | omega | (simp; omega)
          intro v7 w7 ho7 hg7 _
          have D7 : Hid (SX w ys (w7.setCell ⟨w.heap.size + 1, 1, none⟩ v7) v7 (es ++ [n8]) q c) := D6.out.push HBY.out HRD.out hg7 ho7
          obtain ⟨a7, q7, hv7⟩ := D7.out.2.2.2.2.2.slice
          rw [show (es ++ [n8]).length = es.length + 1 by simp] at hv7
          subst hv7
          obtain ⟨-, -, c7, ff⟩ := D6.out.2.2.2.2.1.turn hg7 (fun e => by have := (World.ownsRow.lt D6.out.2.2.2.2.2 _ e.symm).1; omega)
          have f7 := ff 1
          clear ho7 hg7 ff e0 e1 e2 e3 e4 e5 e6 e7 b0 b1 bf D5 D6 E5 N6 HRD el
          go_wp2
          exact ⟨⟨i + 1, q, _, _, by omega, hq, rfl, by go_num, (by rw [HC2.out]; exact D7)⟩, by simp [intOf]; omega⟩
      · have h1b : ((y : Int) == 1) = false := beq_eq_false_iff_ne.2 (by omega)
        by_cases h2 : y = 2
        · subst h2
          go_wp2_with fail
          rename_i K3 a3 hx K2 a2 K1 a1 K0 a0
          have HK2 : Hid _ := a2
          clear a2 cp
          generalize wr.alloc (.cells #[.bool false, .string ⟨#[]⟩, .string ⟨#[]⟩, .int .i64 0, .int .i64 0, .int .i64 0, .int .i64 0, .int .i64 0] 86) = wA at *
          have hm := rT_any wA _ ys (p + 1) (HR.out.below D2.out.2.2.1) HBY.out hl
          rw [show ((p + 1 : Nat) : Int) = (p : Int) + 1 by omega] at hm
          refine hm.mono ?_
          clear hm
          rintro e w1 ⟨hpp, hw1⟩
          obtain rfl : wA = w1 := hw1.symm
          obtain ⟨el, e0, e1, e2, e3, e4, e5, e6, e7, ef⟩ := E2.out
          rcases hpp with ⟨hr, rfl⟩ | ⟨s, q, hr, hpq, hq, rfl⟩
          · have HDX : Hid (decX ys = none) := HNO.out (by rw [HD.out]; simp [rdE, hr])
            have D5 : Hid (SX w ys ((((((((wA.setCell ⟨wr.heap.size, 0, none⟩ (.bool true)).setCell ⟨wr.heap.size, 1, none⟩ (.string ⟨#[]⟩)).setCell ⟨wr.heap.size, 2, none⟩ (.string ⟨#[]⟩)).setCell ⟨wr.heap.size, 3, none⟩ (.int .i64 0)).setCell ⟨wr.heap.size, 4, none⟩ (.int .i64 0)).setCell ⟨wr.heap.size, 5, none⟩ (.int .i64 0)).setCell ⟨wr.heap.size, 6, none⟩ (.int .i64 0)).setCell ⟨wr.heap.size, 7, none⟩ (.int .i64 0)) (.slice va es.length vc) es p (c + 1)) := D.out.later ((((((((BA.out.setCell (p := ⟨wr.heap.size, 0, none⟩) (Nat.le_refl _) _).setCell (p := ⟨wr.heap.size, 1, none⟩) (Nat.le_refl _) _).setCell (p := ⟨wr.heap.size, 2, none⟩) (Nat.le_refl _) _).setCell (p := ⟨wr.heap.size, 3, none⟩) (Nat.le_refl _) _).setCell (p := ⟨wr.heap.size, 4, none⟩) (Nat.le_refl _) _).setCell (p := ⟨wr.heap.size, 5, none⟩) (Nat.le_refl _) _).setCell (p := ⟨wr.heap.size, 6, none⟩) (Nat.le_refl _) _).setCell (p := ⟨wr.heap.size, 7, none⟩) (Nat.le_refl _) _)
            clear hr
            go_wp2
            refine HK2.out _ _ ?_
            clear el e0 e1 e2 e3 e4 e5 e6 e7 ef HK2 E2 BA D2
            generalize ((((((((wA.setCell ⟨wr.heap.size, 0, none⟩ (.bool true)).setCell ⟨wr.heap.size, 1, none⟩ (.string ⟨#[]⟩)).setCell ⟨wr.heap.size, 2, none⟩ (.string ⟨#[]⟩)).setCell ⟨wr.heap.size, 3, none⟩ (.int .i64 0)).setCell ⟨wr.heap.size, 4, none⟩ (.int .i64 0)).setCell ⟨wr.heap.size, 5, none⟩ (.int .i64 0)).setCell ⟨wr.heap.size, 6, none⟩ (.int .i64 0)).setCell ⟨wr.heap.size, 7, none⟩ (.int .i64 0)) = w5 at *
            obtain ⟨-, z0, z1, z2, zf⟩ := D5.out.2.2.2.1
            have f0 := zf 0
            have f1 := zf 1
            have f2 := zf 2
            have HF : Hid (DxPost w ys (.returned (.agg #[.bool false, .int .i64 0, .slice none 0 0])) (((w5.setCell ⟨w.heap.size, 0, none⟩ (.bool false)).setCell ⟨w.heap.size, 1, none⟩ (.int .i64 0)).setCell ⟨w.heap.size, 2, none⟩ (.slice none 0 0))) := ⟨((D5.out.2.2.1.setCell (p := ⟨w.heap.size, 0, none⟩) (Nat.le_refl _) _).setCell (p := ⟨w.heap.size, 1, none⟩) (Nat.le_refl _) _).setCell (p := ⟨w.heap.size, 2, none⟩) (Nat.le_refl _) _, .inl ⟨HDX.out, rfl⟩⟩
            clear zf
            go_wp2
            refine bodyPost_ret (v := .agg #[.bool false, .int .i64 0, .slice none 0 0]) (by simp [results, Tryd.results24, go_sem, z0, z1, z2]) rfl HF.out

          · have HRD : Hid (rdE (ys.drop p) = some (⟨true, ndP s⟩, ys.drop q)) := by show _ = _; rw [HD.out]; simp [rdE, hr]
            have D5 : Hid (SX w ys ((((((((wA.setCell ⟨wr.heap.size, 0, none⟩ (.bool true)).setCell ⟨wr.heap.size, 1, none⟩ (.string s)).setCell ⟨wr.heap.size, 2, none⟩ (.string ⟨#[]⟩)).setCell ⟨wr.heap.size, 3, none⟩ (.int .i64 0)).setCell ⟨wr.heap.size, 4, none⟩ (.int .i64 0)).setCell ⟨wr.heap.size, 5, none⟩ (.int .i64 0)).setCell ⟨wr.heap.size, 6, none⟩ (.int .i64 0)).setCell ⟨wr.heap.size, 7, none⟩ (.int .i64 0)) (.slice va es.length vc) es p (c + 1)) := D.out.later ((((((((BA.out.setCell (p := ⟨wr.heap.size, 0, none⟩) (Nat.le_refl _) _).setCell (p := ⟨wr.heap.size, 1, none⟩) (Nat.le_refl _) _).setCell (p := ⟨wr.heap.size, 2, none⟩) (Nat.le_refl _) _).setCell (p := ⟨wr.heap.size, 3, none⟩) (Nat.le_refl _) _).setCell (p := ⟨wr.heap.size, 4, none⟩) (Nat.le_refl _) _).setCell (p := ⟨wr.heap.size, 5, none⟩) (Nat.le_refl _) _).setCell (p := ⟨wr.heap.size, 6, none⟩) (Nat.le_refl _) _).setCell (p := ⟨wr.heap.size, 7, none⟩) (Nat.le_refl _) _)
            have E5 : Hid (EW ((((((((wA.setCell ⟨wr.heap.size, 0, none⟩ (.bool true)).setCell ⟨wr.heap.size, 1, none⟩ (.string s)).setCell ⟨wr.heap.size, 2, none⟩ (.string ⟨#[]⟩)).setCell ⟨wr.heap.size, 3, none⟩ (.int .i64 0)).setCell ⟨wr.heap.size, 4, none⟩ (.int .i64 0)).setCell ⟨wr.heap.size, 5, none⟩ (.int .i64 0)).setCell ⟨wr.heap.size, 6, none⟩ (.int .i64 0)).setCell ⟨wr.heap.size, 7, none⟩ (.int .i64 0)) wr.heap.size ⟨true, ndP s⟩) := E2.out.putD s
            clear hr
            go_wp2
            refine HK2.out _ _ ?_
            clear el e0 e1 e2 e3 e4 e5 e6 e7 ef HK2 E2 BA D2
            generalize ((((((((wA.setCell ⟨wr.heap.size, 0, none⟩ (.bool true)).setCell ⟨wr.heap.size, 1, none⟩ (.string s)).setCell ⟨wr.heap.size, 2, none⟩ (.string ⟨#[]⟩)).setCell ⟨wr.heap.size, 3, none⟩ (.int .i64 0)).setCell ⟨wr.heap.size, 4, none⟩ (.int .i64 0)).setCell ⟨wr.heap.size, 5, none⟩ (.int .i64 0)).setCell ⟨wr.heap.size, 6, none⟩ (.int .i64 0)).setCell ⟨wr.heap.size, 7, none⟩ (.int .i64 0)) = w5 at *
            obtain ⟨n8, hn8⟩ : ∃ n8 : Ef, n8 = ⟨true, ndP s⟩ := ⟨_, rfl⟩
            rw [← hn8] at E5 HRD
            clear hn8
            have D6 : Hid (SX w ys (w5.alloc (.cells #[.bool n8.del, .string n8.nd.path, .string n8.nd.data, .int .i64 n8.nd.ver, .int .i64 n8.nd.cver, .int .i64 n8.nd.cz, .int .i64 n8.nd.mz, .int .i64 n8.nd.pz] 86)) (.slice va es.length vc) es p (c + 1)) := D5.out.later ((Below.refl _ _).alloc (Nat.le_refl _) _)
            have N6 : Hid (∀ j u, (efL n8)[j]? = some u → (w5.alloc (.cells #[.bool n8.del, .string n8.nd.path, .string n8.nd.data, .int .i64 n8.nd.ver, .int .i64 n8.nd.cver, .int .i64 n8.nd.cz, .int .i64 n8.nd.mz, .int .i64 n8.nd.pz] 86)).cell? ((⟨w5.heap.size, 0, none⟩ : Addr).add j) = some u) := efL_cells _ _ _
            obtain ⟨el, e0, e1, e2, e3, e4, e5, e6, e7, -⟩ := E5.out
            obtain ⟨-, b0, b1, bf⟩ := D5.out.2.2.2.2.1
            have hqI : ¬ (q : Int) < 0 := by omega
            have s6 := D6.out.2.2.1.size
            have s52 := D5.out.2.2.2.2.1.1
            go_wp2_with (at_builtin; go_must (refine wpList_append_own _ rfl _ _ 39 rfl (w.heap.size + 2) 86 i0 (.agg #[.bool false, .string ByteArray.empty, .string ByteArray.empty, .int .i64 0, .int .i64 0, .int .i64 0, .int .i64 0, .int .i64 0]) 8 80 Tryd.underlying39 hi hz0 hz1 hz2 rfl (by decide) _ _ _ rfl D6.out.2.2.2.2.2 ⟨w5.heap.size, 0, none⟩ 1 1 (efL n8) rfl rfl N6.out (efL_one n8) ?_ ?_ ?_ ?_))
            · unfold maxLen; omega
            · omega
            · first | omega | (simp; omega)
            intro v7 w7 ho7 hg7 _
            have D7 : Hid (SX w ys (w7.setCell ⟨w.heap.size + 1, 1, none⟩ v7) v7 (es ++ [n8]) q c) := D6.out.push HBY.out HRD.out hg7 ho7
            obtain ⟨a7, q7, hv7⟩ := D7.out.2.2.2.2.2.slice
            rw [show (es ++ [n8]).length = es.length + 1 by simp] at hv7
            subst hv7
            obtain ⟨-, -, c7, ff⟩ := D6.out.2.2.2.2.1.turn hg7 (fun e => by have := (World.ownsRow.lt D6.out.2.2.2.2.2 _ e.symm).1; omega)
            have f7 := ff 1
            clear ho7 hg7 ff e0 e1 e2 e3 e4 e5 e6 e7 b0 b1 bf D5 D6 E5 N6 HRD el
            go_wp2
            exact ⟨⟨i + 1, q, _, _, by omega, hq, rfl, by go_num, (by rw [HC2.out]; exact D7)⟩, by simp [intOf]; omega⟩
        · have h2b : ((y : Int) == 2) = false := beq_eq_false_iff_ne.2 (by omega)
          have HDX : Hid (decX ys = none) := HNO.out (by rw [HD.out]; simp only [rdE]; rw [if_neg (by omega), if_neg (by omega)])
          obtain ⟨zl, z0, z1, z2, zf⟩ := D.out.2.2.2.1
          have f0 := zf 0
          have f1 := zf 1
          have f2 := zf 2
          have HE : Hid (∀ ob : Obj, _) := fun ob => zx3 D.out.2.2.2.1 ob
          clear zf
          go_wp2
          exact bodyPost_ret (v := .agg #[.bool false, .int .i64 0, .slice none 0 0]) (by simp [results, Tryd.results24, go_sem, (HE.out _).1, (HE.out _).2.1, (HE.out _).2.2]) rfl ⟨(((D.out.2.2.1.setCell (p := ⟨w.heap.size, 0, none⟩) (Nat.le_refl _) _).setCell (p := ⟨w.heap.size, 1, none⟩) (Nat.le_refl _) _).setCell (p := ⟨w.heap.size, 2, none⟩) (Nat.le_refl _) _).alloc (by have := D.out.2.2.1.size; simpa using this) _, .inl ⟨HDX.out, rfl⟩⟩
    · have hic : i = C := by omega
      subst hic
      rw [Nat.sub_self] at D
      have HPD : Hid (pEs i (ys.drop 6) = some (es, ys.drop p)) := (HCC.out ▸ D.out.1).done
      have hrE : ys.drop p = [] ↔ p = ys.length := by
        constructor
        · intro e
          have := congrArg List.length e
          rw [List.length_drop] at this
          simp at this
          omega
        · intro e; exact List.drop_eq_nil_of_le (by omega)
      by_cases hr : p = ys.length
      rotate_left
      · have HDX : Hid (decX ys = none) := by
          show _ = _
          unfold decX
          rw [if_neg (by omega), HCC.out, HPD.out]
          simp only
          rw [if_neg (fun h => hr (hrE.1 h.1))]
        obtain ⟨-, z0, z1, z2, zf⟩ := D.out.2.2.2.1
        have f0 := zf 0
        have f1 := zf 1
        have f2 := zf 2
        have HF : Hid (DxPost w ys (.returned (.agg #[.bool false, .int .i64 0, .slice none 0 0])) (((wr.setCell ⟨w.heap.size, 0, none⟩ (.bool false)).setCell ⟨w.heap.size, 1, none⟩ (.int .i64 0)).setCell ⟨w.heap.size, 2, none⟩ (.slice none 0 0))) := ⟨((D.out.2.2.1.setCell (p := ⟨w.heap.size, 0, none⟩) (Nat.le_refl _) _).setCell (p := ⟨w.heap.size, 1, none⟩) (Nat.le_refl _) _).setCell (p := ⟨w.heap.size, 2, none⟩) (Nat.le_refl _) _, .inl ⟨HDX.out, rfl⟩⟩
        have hpb : ((p : Int) != (ys.length : Int)) = true := by rw [bne_iff_ne]; omega
        clear zf hrE
        go_wp2
        refine bodyPost_ret (v := .agg #[.bool false, .int .i64 0, .slice none 0 0]) (by simp [results, Tryd.results24, go_sem, z0, z1, z2]) rfl HF.out
      · have HRE : Hid (ys.drop p = []) := hrE.2 hr
        have hpb : ((p : Int) != (ys.length : Int)) = false := by rw [hr]; simp
        have HSZ : Hid (SzE es) := D.out.2.1
        have HON : Hid (OwnE 86 wr (w.heap.size + 2) (.slice va es.length vc) es) := D.out.2.2.2.2.2
        obtain ⟨-, b0, b1, -⟩ := D.out.2.2.2.2.1
        clear hrE hr
        go_wp2_with fail
        refine (specTxn_any _ _ _ es HON.out.rd HSZ.out.at).mono ?_
        rintro e w2 ⟨rfl, b2⟩
        have D2 : Hid (SX w ys w2 (.slice va es.length vc) es p 0) := D.out.later b2
        obtain ⟨-, -, -, ⟨-, z0, z1, z2, zf⟩, ⟨-, d0, d1, -⟩, t7⟩ := D2.out
        have f0 := zf 0
        have f1 := zf 1
        have f2 := zf 2
        have HON2 : Hid (OwnE 86 w2 (w.heap.size + 2) (.slice va es.length vc) es) := t7
        clear zf b2 t7 HON b0 b1
        by_cases hok : okTxn (zX ys : Int) es = true
        · have HDX : Hid (decX ys = some ((zX ys : Int), es)) := by
            show _ = _
            unfold decX
            rw [if_neg (by omega), HCC.out, HPD.out]
            simp only
            rw [if_pos ⟨HRE.out, hok⟩]
          rw [hok]
          clear hok
          go_wp2
          refine bodyPost_ret (v := .agg #[.bool true, .int .i64 (zX ys : Int), .slice va es.length vc]) (by simp [results, Tryd.results24, go_sem, z0, z1, z2]) rfl ⟨((D2.out.2.2.1.setCell (p := ⟨w.heap.size, 0, none⟩) (Nat.le_refl _) _).setCell (p := ⟨w.heap.size, 1, none⟩) (Nat.le_refl _) _).setCell (p := ⟨w.heap.size, 2, none⟩) (Nat.le_refl _) _, .inr ⟨_, es, _, HDX.out, rfl, ?_⟩⟩
          exact OwnE.mono (OwnE.setBelow (OwnE.setBelow (OwnE.setBelow HON2.out (by show w.heap.size < w.heap.size + 2; omega) _) (by show w.heap.size < w.heap.size + 2; omega) _) (by show w.heap.size < w.heap.size + 2; omega) _) (by omega)
        · have hok' : okTxn (zX ys : Int) es = false := by simpa using hok
          have HDX : Hid (decX ys = none) := by
            show _ = _
            unfold decX
            rw [if_neg (by omega), HCC.out, HPD.out]
            simp only
            rw [if_neg (fun h => hok h.2)]
          rw [hok']
          clear hok hok'
          go_wp2
          refine bodyPost_ret (v := .agg #[.bool false, .int .i64 0, .slice none 0 0]) (by simp [results, Tryd.results24, go_sem, z0, z1, z2]) rfl ⟨((D2.out.2.2.1.setCell (p := ⟨w.heap.size, 0, none⟩) (Nat.le_refl _) _).setCell (p := ⟨w.heap.size, 1, none⟩) (Nat.le_refl _) _).setCell (p := ⟨w.heap.size, 2, none⟩) (Nat.le_refl _) _, .inl ⟨HDX.out, rfl⟩⟩

end Go.Proofs.YtgjenbgclpmjmaaDoor

namespace Go.Proofs.YtgjenbgclpmjmaaDoor
open Go.RowKit

def digsF : Nat → Nat → List UInt8 → List UInt8
  | 0, _, acc => acc
  | f + 1, k, acc => if k = 0 then acc else digsF f (k / 10) (UInt8.ofNat (48 + k % 10) :: acc)
theorem digsF_more : ∀ (f g k : Nat) (acc : List UInt8), k ≤ f → k ≤ g → digsF f k acc = digsF g k acc
  | 0, g, k, acc, h1, h2 => by
    obtain rfl : k = 0 := by omega
    cases g <;> simp [digsF]
  | f + 1, 0, k, acc, h1, h2 => by
    obtain rfl : k = 0 := by omega
    simp [digsF]
  | f + 1, g + 1, k, acc, h1, h2 => by
    unfold digsF
    by_cases h : k = 0
    · rw [if_pos h, if_pos h]
    · rw [if_neg h, if_neg h]
      exact digsF_more f g (k / 10) _ (by omega) (by omega)
def digs (k : Nat) (acc : List UInt8) : List UInt8 := digsF k k acc
theorem digs_zero (acc : List UInt8) : digs 0 acc = acc := rfl
theorem digs_pos {k : Nat} (h : 0 < k) (acc : List UInt8) : digs k acc = digs (k / 10) (UInt8.ofNat (48 + k % 10) :: acc) := by
  unfold digs
  obtain ⟨j, rfl⟩ : ∃ j, k = j + 1 := ⟨k - 1, by omega⟩
  conv => lhs; unfold digsF
  rw [if_neg (by omega)]
  exact digsF_more _ _ _ _ (by omega) (Nat.le_refl _)
def mtx (k : Nat) : ByteArray := if k = 0 then ⟨#[109, 48]⟩ else ⟨(109 :: digs k []).toArray⟩

theorem ba_app (a b : List UInt8) : (⟨a.toArray⟩ ++ ⟨b.toArray⟩ : ByteArray) = ⟨(a ++ b).toArray⟩ := by
  apply ByteArray.ext
  simp [ByteArray.data_append]

set_option maxHeartbeats 1000000 in
set_option maxRecDepth 100000 in
theorem markText_any (w : World) (k : Nat) (h : k ≤ 1099511627776) :
    Calls Tryd.prog 85 #[.int .i64 k] w fun e w' => e = .returned (.string (mtx k)) ∧ Below w.heap.size w w' := by
  go_enter Tryd.func85, Tryd.ntmps85
  by_cases h0 : k = 0
  · subst h0
    go_wp2
    go_ret
    exact ⟨rfl, Below.refl _ _⟩
  · have hI : ¬ (k : Int) ≤ 0 := by omega
    go_wp2
    go_loopw [0, 3] (fun vk vo wr => ∃ (j d : Nat) (acc : List UInt8), vk = .int .i64 j ∧ vo = .string ⟨acc.toArray⟩ ∧ j < 10 ^ d ∧ acc.length + d ≤ 13 ∧ j ≤ 1099511627776 ∧ Hid (digs j acc = digs k []) ∧ Hid (Below w.heap.size w wr)) (fun i _ _ => (intOf i).toNat)
    case atStart => exact ⟨k, 13, [], rfl, rfl, by omega, by simp, h, rfl, Below.refl _ _⟩
    case round =>
      obtain ⟨j, d, acc, rfl, rfl, hjd, had, hj, HD, HB⟩ := hrel
      by_cases hp : 0 < j
      · have hpI : (0 : Int) < (j : Int) := by omega
        obtain ⟨u, hu⟩ : ∃ u, u = UInt8.ofNat (48 + j % 10) := ⟨_, rfl⟩
        have HD2 : Hid (digs (j / 10) (u :: acc) = digs k []) := by show _ = _; rw [hu, ← digs_pos hp]; exact HD.out
        have hcv : (convert 45 9 (.slice (some ⟨wr.heap.size, 0, none⟩) 1 1)).run Tryd.prog (wr.alloc (.cells #[.int .u8 (48 + (j : Int) % 10)] 5)) = .ok (.string ⟨[u].toArray⟩) (wr.alloc (.cells #[.int .u8 (48 + (j : Int) % 10)] 5)) := by
          have O1 : Own .u8 5 (wr.alloc (.cells #[.int .u8 (48 + (j : Int) % 10)] 5)) wr.heap.size (.slice (some ⟨wr.heap.size, 0, none⟩) 1 1) [48 + (j : Int) % 10] := World.ownsRow_lit wr #[.int .u8 (48 + (j : Int) % 10)] 1 (Nat.le_refl _) (by unfold maxLen; omega) rfl
          have := conv_any O1.rd
          rw [this]
          have e : (48 + (j : Int) % 10).toNat = 48 + j % 10 := by omega
          rw [hu]
          simp only [strOfNums, List.map_cons, List.map_nil, e]
        clear hu
        obtain ⟨d', rfl⟩ : ∃ d', d = d' + 1 := by
          cases d with
          | zero => simp at hjd; omega
          | succ d' => exact ⟨d', rfl⟩
        rw [Nat.pow_succ] at hjd
        have HJ : Hid (j / 10 < 10 ^ d') := by show _ < _; omega
        clear hjd
        go_wp2
        refine ⟨⟨j / 10, d', u :: acc, by rw [show ((j / 10 : Nat) : Int) = (j : Int) / 10 by omega], congrArg Value.string (ba_app [u] acc), HJ.out, by simp; omega, by omega, HD2, HB.out.alloc HB.out.size _⟩, ?_⟩
        simp [intOf]
        omega
      · have hj0 : j = 0 := by omega
        subst hj0
        clear hI
        go_wp2
        go_ret
        refine ⟨?_, HB.out⟩
        have e := HD.out
        rw [digs_zero] at e
        rw [e, mtx, if_neg h0]
        exact congrArg (fun x => Ending.returned (.string x)) (ba_app [109] (digs k []))

end Go.Proofs.YtgjenbgclpmjmaaDoor

namespace Go.Proofs.YtgjenbgclpmjmaaDoor
open Go.RowKit Go.Shelf

theorem rowcell {w : World} {lo g n cap z : Nat} {e : TypeId} {us : List Value} (h : w.ownsRow lo e z (.slice (some ⟨g, 0, none⟩) n cap) n us) (i : Nat) (hi : i < n * z) : ∃ u, w.cell? ⟨g, i, none⟩ = some u ∧ w.frozen? ⟨g, i, none⟩ = false := by
  have hl : i < us.length := by rw [h.1]; exact hi
  have h1 := World.ownsRow.cells h (g := g) rfl i us[i] (List.getElem?_eq_getElem hl)
  rw [Addr.add_lit, Nat.zero_add] at h1
  exact ⟨_, h1, World.ownsRow.frozenAt h i⟩
theorem row_keep {w w' : World} {lo n z : Nat} {e : TypeId} {v : Value} {us : List Value} (ho : w.ownsRow lo e z v n us) (hb : Below w.heap.size w w') : w'.ownsRow lo e z v n us := by
  refine ⟨ho.1, ?_⟩
  rcases ho.2 with hn | ⟨g, cap, cur, rfl, hbg, hgg, rest⟩
  · exact .inl hn
  · exact .inr ⟨g, cap, cur, rfl, hbg, by rw [hb.block g (Array.getElem?_eq_some_iff.1 hgg).1]; exact hgg, rest⟩
/-- A row that is written on the way. -/
def RowW (w : World) (lo g n cap z : Nat) (e : TypeId) (w' : World) : Prop := (∃ us, w'.ownsRow lo e z (.slice (some ⟨g, 0, none⟩) n cap) n us) ∧ Below lo w w' ∧ KT e w w'
theorem RowW.set {w w' : World} {lo g n cap z : Nat} {e : TypeId} (h : RowW w lo g n cap z e w') (i : Nat) (u : Value) : RowW w lo g n cap z e (w'.setCell ⟨g, i, none⟩ u) := by
  obtain ⟨⟨us, h1⟩, h2, h3⟩ := h
  have hs := World.ownsRow.stored h1 i u
  have hg := (World.ownsRow.lt h1 g rfl).1
  exact ⟨⟨_, hs.1⟩, h2.setCell hg _, h3.grown h1 hs.2⟩
theorem RowW.below {w w' w2 : World} {lo g n cap z : Nat} {e : TypeId} (h : RowW w lo g n cap z e w') (hb : Below w'.heap.size w' w2) : RowW w lo g n cap z e w2 := by
  obtain ⟨⟨us, h1⟩, h2, h3⟩ := h
  refine ⟨⟨_, row_keep h1 hb⟩, h2.trans (hb.mono ?_), h3.below hb⟩
  have := World.ownsRow.lt h1 g rfl
  omega
theorem RowW.cell {w w' : World} {lo g n cap z : Nat} {e : TypeId} (h : RowW w lo g n cap z e w') (i : Nat) (hi : i < n * z) : ∃ u, w'.cell? ⟨g, i, none⟩ = some u ∧ w'.frozen? ⟨g, i, none⟩ = false := by
  obtain ⟨⟨us, h1⟩, -, -⟩ := h
  exact rowcell h1 i hi

set_option maxHeartbeats 2000000 in
set_option maxRecDepth 100000 in
theorem markNodeS_row (w : World) (lo g n cap k : Nat) (us : List Value) (ho : w.ownsRow lo 81 7 (.slice (some ⟨g, 0, none⟩) n cap) n us) (hk : k ≤ 1048576) (hn : n ≤ 1048576) :
    Calls Tryd.prog 84 #[.slice (some ⟨g, 0, none⟩) n cap, .int .i64 k] w fun e w' => e = .returned (.int .i64 ((k + 7 * n : Nat) : Int)) ∧ RowW w lo g n cap 7 81 w' := by
  have R0 : Hid (RowW w lo g n cap 7 81 w) := ⟨⟨us, ho⟩, Below.refl _ _, KT.refl _ _⟩
  clear ho
  go_enter Tryd.func84, Tryd.ntmps84
  go_wp2
  go_loopw [1, 5] (fun vk vi wr => ∃ j K : Nat, j ≤ n ∧ K = k + 7 * j ∧ vi = .int .i64 j ∧ vk = .int .i64 K ∧ Hid (RowW w lo g n cap 7 81 wr)) (fun _ i _ => n - (intOf i).toNat)
  case atStart => exact ⟨0, k, Nat.zero_le _, by omega, rfl, rfl, R0⟩
  case round =>
    obtain ⟨j, K, hj, hK, rfl, rfl, HR⟩ := hrel
    have HKE : Hid (K = k + 7 * j) := hK
    by_cases hlt : j < n
    · have hltI : (j : Int) < (n : Int) := by omega
      have hK2 : K ≤ 10000000 := by omega
      clear hK
      go_wp2_with fail
      refine (markText_any _ K (by omega)).mono ?_
      rintro e w1 ⟨rfl, b1⟩
      have R1 : Hid (RowW w lo g n cap 7 81 w1) := HR.out.below b1
      clear b1 HR
      obtain ⟨x0, d0, f0⟩ := R1.out.cell (j * 7) (by omega)
      have R2 : Hid (RowW w lo g n cap 7 81 (w1.setCell ⟨g, j * 7, none⟩ (.string (mtx K)))) := R1.out.set _ _
      go_wp2_with fail
      generalize w1.setCell ⟨g, j * 7, none⟩ (.string (mtx K)) = w2 at *
      clear d0 f0 R1
      have hm := markText_any w2 (K + 1) (by omega)
      rw [show ((K + 1 : Nat) : Int) = (K : Int) + 1 by omega] at hm
      refine hm.mono ?_
      clear hm
      rintro e w3 ⟨rfl, b3⟩
      have R3 : Hid (RowW w lo g n cap 7 81 w3) := R2.out.below b3
      clear b3 R2
      obtain ⟨x1, d1, f1⟩ := R3.out.cell (j * 7 + 1) (by omega)
      obtain ⟨x2, d2, f2⟩ := R3.out.cell (j * 7 + 2) (by omega)
      obtain ⟨x3, d3, f3⟩ := R3.out.cell (j * 7 + 3) (by omega)
      obtain ⟨x4, d4, f4⟩ := R3.out.cell (j * 7 + 4) (by omega)
      obtain ⟨x5, d5, f5⟩ := R3.out.cell (j * 7 + 5) (by omega)
      obtain ⟨x6, d6, f6⟩ := R3.out.cell (j * 7 + 6) (by omega)
      go_wp2
      refine ⟨⟨j + 1, K + 7, by omega, by have := HKE.out; omega, by go_num, by go_num, ?_⟩, by simp [intOf]; omega⟩
      exact ((((((R3.out.set _ _).set _ _).set _ _).set _ _).set _ _).set _ _)
    · have hjn : j = n := by omega
      subst hjn
      subst hK
      go_wp2
      go_ret
      exact ⟨rfl, HR.out⟩

set_option maxHeartbeats 400000 in
theorem markNodeS_nil (w : World) (ao : Option Addr) (cap k : Nat) : Calls Tryd.prog 84 #[.slice ao 0 cap, .int .i64 k] w fun e w' => e = .returned (.int .i64 k) ∧ w' = w := by
  go_enter Tryd.func84, Tryd.ntmps84
  go_wp2
  go_rounds 1
  go_ret
  exact ⟨rfl, rfl⟩

theorem markNodeS_any (w : World) (lo k : Nat) (v : Value) (ns : List Nd) (h : OwnN 81 w lo v ns) (hk : k ≤ 1048576) (hn : ns.length ≤ 1048576) :
    Calls Tryd.prog 84 #[v, .int .i64 k] w fun e w' => e = .returned (.int .i64 ((k + 7 * ns.length : Nat) : Int)) ∧ Below lo w w' ∧ KT 81 w w' := by
  have h0 := h
  rcases h.2 with ⟨rfl, h1⟩ | ⟨g, cap, cur, rfl, rest⟩
  · refine (markNodeS_nil w none 0 k).mono ?_
    rintro e w' ⟨rfl, rfl⟩
    rw [h1]
    exact ⟨rfl, Below.refl _ _, KT.refl _ _⟩
  · refine (markNodeS_row w lo g ns.length cap k _ h0 hk hn).mono ?_
    rintro e w' ⟨rfl, -, h2, h3⟩
    exact ⟨rfl, h2, h3⟩

set_option maxHeartbeats 400000 in
theorem markTree_any (w : World) (lo k : Nat) (v : Value) (ns : List Nd) (h : OwnN 81 w lo v ns) (hl : lo ≤ w.heap.size) (hk : k ≤ 1048576) (hn : ns.length ≤ 1048576) :
    Calls Tryd.prog 40 #[.agg #[v], .int .i64 k] w fun e w' => e = .returned (.int .i64 ((k + 7 * ns.length : Nat) : Int)) ∧ Below lo w w' ∧ KT 81 w w' := by
  have H : Hid (OwnN 81 w lo v ns) := h
  clear h
  go_enter Tryd.func40, Tryd.ntmps40
  go_wp2_with fail
  refine (markNodeS_any _ lo k v ns (H.out.below ((Below.refl _ _).alloc (Nat.le_refl _) _)) hk hn).mono ?_
  rintro e w1 ⟨rfl, b1, k1⟩
  have B1 : Hid (Below lo w w1) := ((Below.refl _ _).alloc hl _).trans b1
  have K1 : Hid (KT 81 w w1) := ((KT.refl _ _).alloc _).trans k1
  clear b1 k1
  go_wp2
  go_ret
  exact ⟨rfl, B1.out, K1.out⟩

end Go.Proofs.YtgjenbgclpmjmaaDoor

namespace Go.Proofs.YtgjenbgclpmjmaaDoor
open Go.RowKit Go.Shelf

set_option maxHeartbeats 2000000 in
set_option maxRecDepth 100000 in
theorem markEffectS_row (w : World) (lo g n cap k : Nat) (us : List Value) (ho : w.ownsRow lo 86 8 (.slice (some ⟨g, 0, none⟩) n cap) n us) (hk : k ≤ 100000000) (hn : n ≤ 1048576) :
    Calls Tryd.prog 94 #[.slice (some ⟨g, 0, none⟩) n cap, .int .i64 k] w fun e w' => e = .returned (.int .i64 ((k + 8 * n : Nat) : Int)) ∧ RowW w lo g n cap 8 86 w' := by
  have R0 : Hid (RowW w lo g n cap 8 86 w) := ⟨⟨us, ho⟩, Below.refl _ _, KT.refl _ _⟩
  clear ho
  go_enter Tryd.func94, Tryd.ntmps94
  go_wp2
  go_loopw [1, 5] (fun vk vi wr => ∃ j K : Nat, j ≤ n ∧ K = k + 8 * j ∧ vi = .int .i64 j ∧ vk = .int .i64 K ∧ Hid (RowW w lo g n cap 8 86 wr)) (fun _ i _ => n - (intOf i).toNat)
  case atStart => exact ⟨0, k, Nat.zero_le _, by omega, rfl, rfl, R0⟩
  case round =>
    obtain ⟨j, K, hj, hK, rfl, rfl, HR⟩ := hrel
    have HKE : Hid (K = k + 8 * j) := hK
    by_cases hlt : j < n
    · have hltI : (j : Int) < (n : Int) := by omega
      have hK2 : K ≤ 1000000000 := by omega
      clear hK
      have hm1 : Hid (∀ W, Calls Tryd.prog 85 #[.int .i64 ((K : Int) + 1)] W fun e w' => e = .returned (.string (mtx (K + 1))) ∧ Below W.heap.size W w') := by
        intro W
        have hm := markText_any W (K + 1) (by omega)
        rw [show ((K + 1 : Nat) : Int) = (K : Int) + 1 by omega] at hm
        exact hm
      have hm2 : Hid (∀ W, Calls Tryd.prog 85 #[.int .i64 ((K : Int) + 1 + 1)] W fun e w' => e = .returned (.string (mtx (K + 2))) ∧ Below W.heap.size W w') := by
        intro W
        have hm := markText_any W (K + 2) (by omega)
        rw [show ((K + 2 : Nat) : Int) = (K : Int) + 1 + 1 by omega] at hm
        exact hm
      obtain ⟨x0, d0, f0⟩ := HR.out.cell (j * 8) (by omega)
      go_wp2_with fail
      refine (hm1.out _).mono ?_
      rintro e w1 ⟨rfl, b1⟩
      have R1 : Hid (RowW w lo g n cap 8 86 w1) := (HR.out.set _ _).below b1
      clear b1 HR d0 f0 hm1
      obtain ⟨x1, d1, f1⟩ := R1.out.cell (j * 8 + 1) (by omega)
      go_wp2_with fail
      refine (hm2.out _).mono ?_
      rintro e w3 ⟨rfl, b3⟩
      have R3 : Hid (RowW w lo g n cap 8 86 w3) := (R1.out.set _ _).below b3
      clear b3 R1 d1 f1 hm2
      obtain ⟨x2, d2, f2⟩ := R3.out.cell (j * 8 + 2) (by omega)
      obtain ⟨x3, d3, f3⟩ := R3.out.cell (j * 8 + 3) (by omega)
      obtain ⟨x4, d4, f4⟩ := R3.out.cell (j * 8 + 4) (by omega)
      obtain ⟨x5, d5, f5⟩ := R3.out.cell (j * 8 + 5) (by omega)
      obtain ⟨x6, d6, f6⟩ := R3.out.cell (j * 8 + 6) (by omega)
      obtain ⟨x7, d7, f7⟩ := R3.out.cell (j * 8 + 7) (by omega)
      go_wp2
      refine ⟨⟨j + 1, K + 8, by omega, by have := HKE.out; omega, by go_num, by go_num, ?_⟩, by simp [intOf]; omega⟩
      exact ((((((R3.out.set _ _).set _ _).set _ _).set _ _).set _ _).set _ _)
    · have hjn : j = n := by omega
      subst hjn
      subst hK
      go_wp2
      go_ret
      exact ⟨rfl, HR.out⟩

set_option maxHeartbeats 400000 in
theorem markEffectS_nil (w : World) (ao : Option Addr) (cap k : Nat) : Calls Tryd.prog 94 #[.slice ao 0 cap, .int .i64 k] w fun e w' => e = .returned (.int .i64 k) ∧ w' = w := by
  go_enter Tryd.func94, Tryd.ntmps94
  go_wp2
  go_rounds 1
  go_ret
  exact ⟨rfl, rfl⟩

theorem markEffectS_any (w : World) (lo k : Nat) (v : Value) (ns : List Ef) (h : OwnE 86 w lo v ns) (hk : k ≤ 100000000) (hn : ns.length ≤ 1048576) :
    Calls Tryd.prog 94 #[v, .int .i64 k] w fun e w' => e = .returned (.int .i64 ((k + 8 * ns.length : Nat) : Int)) ∧ Below lo w w' ∧ KT 86 w w' := by
  have h0 := h
  rcases h.2 with ⟨rfl, h1⟩ | ⟨g, cap, cur, rfl, rest⟩
  · refine (markEffectS_nil w none 0 k).mono ?_
    rintro e w' ⟨rfl, rfl⟩
    rw [h1]
    exact ⟨rfl, Below.refl _ _, KT.refl _ _⟩
  · refine (markEffectS_row w lo g ns.length cap k _ h0 hk hn).mono ?_
    rintro e w' ⟨rfl, -, h2, h3⟩
    exact ⟨rfl, h2, h3⟩

set_option maxHeartbeats 400000 in
theorem markTxn_any (w : World) (lo k : Nat) (z : Int) (v : Value) (ns : List Ef) (h : OwnE 86 w lo v ns) (hl : lo ≤ w.heap.size) (hk : k ≤ 100000000) (hn : ns.length ≤ 1048576) :
    Calls Tryd.prog 48 #[.agg #[.int .i64 z, v], .int .i64 k] w fun e w' => e = .returned (.int .i64 ((k + 8 * ns.length : Nat) : Int)) ∧ Below lo w w' ∧ KT 86 w w' := by
  have H : Hid (OwnE 86 w lo v ns) := h
  clear h
  go_enter Tryd.func48, Tryd.ntmps48
  go_wp2_with fail
  refine (markEffectS_any _ lo k v ns (H.out.below ((Below.refl _ _).alloc (Nat.le_refl _) _)) hk hn).mono ?_
  rintro e w1 ⟨rfl, b1, k1⟩
  have B1 : Hid (Below lo w w1) := ((Below.refl _ _).alloc hl _).trans b1
  have K1 : Hid (KT 86 w w1) := ((KT.refl _ _).alloc _).trans k1
  clear b1 k1
  go_wp2
  go_ret
  exact ⟨rfl, B1.out, K1.out⟩

end Go.Proofs.YtgjenbgclpmjmaaDoor

