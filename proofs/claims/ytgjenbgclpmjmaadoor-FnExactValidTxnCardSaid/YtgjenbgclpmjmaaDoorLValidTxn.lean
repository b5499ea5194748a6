import Derived.Test.YtgjenbgclpmjmaaDoorXTxnS
import Derived.Test.YtgjenbgclpmjmaaDoorLValidTree
namespace Go.Proofs.YtgjenbgclpmjmaaDoor
open Go.RowKit Go.Shelf

/-- A local transaction. -/
def BoxX (w : World) (B : Nat) (z : Int) (v : Value) : Prop := B < w.heap.size ∧ w.cell? ⟨B, 0, none⟩ = some (.int .i64 z) ∧ w.cell? ⟨B, 1, none⟩ = some v
theorem BoxX.below {w w' : World} {b : Nat} {x : Int} {y : Value} (h : BoxX w b x y) (hb : Below w.heap.size w w') : BoxX w' b x y :=
  ⟨Nat.lt_of_lt_of_le h.1 hb.size, (hb.cell (p := ⟨b, 0, none⟩) h.1).trans h.2.1, (hb.cell (p := ⟨b, 1, none⟩) h.1).trans h.2.2⟩
theorem BoxX.new (w : World) (x : Int) (y : Value) (t : TypeId) : BoxX (w.alloc (.cells #[.int .i64 x, y] t)) w.heap.size x y := ⟨by simp, by simp, by simp⟩

/-- What came in: a transaction of the laws' own type. -/
def InX (w : World) (v : Value) (ns : List Ef) : Prop := RdE w v ns ∧ ∀ i, (eAt ns i).nd.path.size ≤ maxLen ∧ (eAt ns i).nd.data.size ≤ maxLen

set_option maxHeartbeats 2000000 in
set_option maxRecDepth 100000 in
theorem lawTxn_walk (w : World) (z : Int) (v : Value) (ns : List Ef) (h : InX w v ns) :
    Calls Tryd.prog 5 #[.agg #[.int .i64 z, v]] w fun e w' => e = .returned (.bool true) ∧ Below w.heap.size w w' := by
  obtain ⟨hr, hsz⟩ := h
  obtain ⟨ao, ca, rfl, _, _⟩ := hr.len
  have B0 : Hid (Below w.heap.size w (w.alloc (.cells #[.int .i64 z, .slice ao ns.length ca] 36))) := (Below.refl _ _).alloc (Nat.le_refl _) _
  have X0 : Hid (BoxX (w.alloc (.cells #[.int .i64 z, .slice ao ns.length ca] 36)) w.heap.size z (.slice ao ns.length ca)) := BoxX.new _ _ _ _
  have HR : Hid (RdE w (.slice ao ns.length ca) ns) := hr
  have HZ : Hid (∀ i, (eAt ns i).nd.path.size ≤ maxLen ∧ (eAt ns i).nd.data.size ≤ maxLen) := hsz
  clear hr hsz
  go_enter Tryd.func5, Tryd.ntmps5
  go_wp2_with fail
  generalize w.alloc (.cells #[.int .i64 z, .slice ao ns.length ca] 36) = w0 at *
  refine (szTxn_any _ _ _ ns (HR.out.below B0.out) HZ.out 1048576 (by omega) (by omega)).mono ?_
  rintro e w1 ⟨r, rfl, hsz, b1⟩
  have B1 : Hid (Below w.heap.size w w1) := B0.out.trans (b1.mono B0.out.size)
  have X1 : Hid (BoxX w1 w.heap.size z (.slice ao ns.length ca)) := X0.out.below b1
  clear b1 X0 B0
  by_cases hneg : r < 0
  · clear hsz
    go_wp2
    go_ret
    exact ⟨rfl, B1.out⟩
  · have hsz' : r + ns.length + totE ns = 1048576 := by omega
    have hn : ns.length ≤ 1048576 := by omega
    have hd : Hid (∀ i, (eAt ns i).nd.path.size ≤ 1048576 ∧ (eAt ns i).nd.data.size ≤ 1048576) := fun i => by have := totE_ge ns i; omega
    clear hsz hsz'
    obtain ⟨-, c0, c1⟩ := X1.out
    go_wp2_with fail
    refine (toTxn_any _ _ _ ns (HR.out.below B1.out) hn).mono ?_
    rintro e w2 ⟨a2, k2, rfl, o2, b2⟩
    have Q2 : Hid (RdE w2 (.slice a2 ns.length k2) ns) := o2.rd
    have B2 : Hid (Below w.heap.size w w2) := B1.out.trans (b2.mono B1.out.size)
    have X2 : Hid (BoxX w2 w.heap.size z (.slice ao ns.length ca)) := X1.out.below b2
    clear o2 b2 c0 c1 X1
    go_wp2_with fail
    refine (specTxn_any _ _ _ ns Q2.out hd.out).mono ?_
    rintro e w3 ⟨rfl, b3⟩
    have B3 : Hid (Below w.heap.size w w3) := B2.out.trans (b3.mono B2.out.size)
    have X3 : Hid (BoxX w3 w.heap.size z (.slice ao ns.length ca)) := X2.out.below b3
    clear b3 Q2 X2
    obtain ⟨-, c0, c1⟩ := X3.out
    go_wp2_with fail
    refine (toTxn_any _ _ _ ns (HR.out.below B3.out) hn).mono ?_
    rintro e w4 ⟨a4, k4, rfl, o4, b4⟩
    have Q4 : Hid (RdE w4 (.slice a4 ns.length k4) ns) := o4.rd
    have B4 : Hid (Below w.heap.size w w4) := B3.out.trans (b4.mono B3.out.size)
    have X4 : Hid (BoxX w4 w.heap.size z (.slice ao ns.length ca)) := X3.out.below b4
    clear o4 b4 c0 c1 X3
    go_wp2_with fail
    have BA : Hid (Below w4.heap.size w4 (w4.alloc (.cells #[.int .i64 z, .slice a4 ns.length k4] 41))) := (Below.refl _ _).alloc (Nat.le_refl _) _
    have Y5 : Hid (BoxX (w4.alloc (.cells #[.int .i64 z, .slice a4 ns.length k4] 41)) w4.heap.size z (.slice a4 ns.length k4)) := BoxX.new _ _ _ _
    generalize w4.alloc (.cells #[.int .i64 z, .slice a4 ns.length k4] 41) = w5 at *
    have B5 : Hid (Below w.heap.size w w5) := B4.out.trans (BA.out.mono B4.out.size)
    have X5 : Hid (BoxX w5 w.heap.size z (.slice ao ns.length ca)) := X4.out.below BA.out
    have Q5 : Hid (RdE w5 (.slice a4 ns.length k4) ns) := Q4.out.below BA.out
    clear X4 Q4 BA
    refine (implTxn_any _ _ _ ns Q5.out hd.out).mono ?_
    rintro e w6 ⟨rfl, b6⟩
    have B6 : Hid (Below w.heap.size w w6) := B5.out.trans (b6.mono B5.out.size)
    have X6 : Hid (BoxX w6 w.heap.size z (.slice ao ns.length ca)) := X5.out.below b6
    have Y6 : Hid (BoxX w6 w4.heap.size z (.slice a4 ns.length k4)) := Y5.out.below b6
    have Q6 : Hid (RdE w6 (.slice a4 ns.length k4) ns) := Q5.out.below b6
    clear b6 X5 Y5 Q5 B5
    generalize okTxn z ns = vv at *
    have hvv : (vv != vv) = false := by simp
    obtain ⟨-, c0, c1⟩ := X6.out
    obtain ⟨-, d0, d1⟩ := Y6.out
    have HT : Hid (∀ q, Calls Tryd.prog 21 #[.agg #[.int .i64 z, .slice ao ns.length ca]] (w6.drewN q) fun e w' => ∃ a c, e = .returned (.agg #[.int .i64 z, .slice a ns.length c]) ∧ Hid (RdE w' (.slice a ns.length c) ns) ∧ Hid (RdE w' (.slice a4 ns.length k4) ns) ∧ (w'.cell? ⟨w4.heap.size, 0, none⟩ = some (.int .i64 z) ∧ w'.cell? ⟨w4.heap.size, 1, none⟩ = some (.slice a4 ns.length k4)) ∧ Hid (Below w.heap.size w w')) := by
      intro q
      refine (toTxn_any _ _ _ ns ((HR.out.below B6.out).below (below_drewN' w6 q)) hn).mono ?_
      rintro e w' ⟨a, c, rfl, o', b'⟩
      have b6' : Below w6.heap.size w6 w' := (below_drewN' w6 q).trans b'
      exact ⟨a, c, rfl, o'.rd, Q6.out.below b6', (Y6.out.below b6').2, B6.out.trans (b6'.mono B6.out.size)⟩
    go_wp2
    go_region_with (first | (go_at_call 21; refine (HT.out 1).mono ?_; rintro e w' ⟨a, c, rfl, r1, r2, ⟨k0, k1⟩, bw⟩) | (go_at_call 23; refine (eqTxn_same _ _ _ _ ns r2.out r1.out hn).mono ?_; rintro e w'' ⟨rfl, b''⟩))
    all_goals
      have HB : Hid (Below w.heap.size w w'') := bw.out.trans (b''.mono bw.out.size)
      clear b'' k0 k1
      go_wp2
      go_ret
      exact ⟨rfl, HB.out⟩

end Go.Proofs.YtgjenbgclpmjmaaDoor
