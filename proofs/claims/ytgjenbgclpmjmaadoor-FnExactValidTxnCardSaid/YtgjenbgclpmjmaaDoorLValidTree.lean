import Derived.Test.YtgjenbgclpmjmaaDoorTTree
namespace Go.Proofs.YtgjenbgclpmjmaaDoor
open Go.RowKit Go.Shelf

/-- What came in: a tree of the laws' own type. -/
def InT (w : World) (v : Value) (ns : List Nd) : Prop := RdN w v ns ∧ ∀ i, (nAt ns i).path.size ≤ maxLen ∧ (nAt ns i).data.size ≤ maxLen

set_option maxHeartbeats 2000000 in
set_option maxRecDepth 100000 in
theorem lawTree_walk (w : World) (v : Value) (ns : List Nd) (h : InT w v ns) :
    Calls Tryd.prog 4 #[.agg #[v]] w fun e w' => e = .returned (.bool true) ∧ Below w.heap.size w w' := by
  obtain ⟨hr, hsz⟩ := h
  obtain ⟨ao, ca, rfl, _, _⟩ := hr.len
  have B0 : Hid (Below w.heap.size w (w.alloc (.cells #[.slice ao ns.length ca] 25))) := (Below.refl _ _).alloc (Nat.le_refl _) _
  have X0 : Hid (Boxed (w.alloc (.cells #[.slice ao ns.length ca] 25)) w.heap.size 25 (.slice ao ns.length ca)) := Boxed.new _ _ _
  have HR : Hid (RdN w (.slice ao ns.length ca) ns) := hr
  have HZ : Hid (∀ i, (nAt ns i).path.size ≤ maxLen ∧ (nAt ns i).data.size ≤ maxLen) := hsz
  clear hr hsz
  go_enter Tryd.func4, Tryd.ntmps4
  go_wp2_with fail
  generalize w.alloc (.cells #[.slice ao ns.length ca] 25) = w0 at *
  refine (szTree_any _ _ ns (HR.out.below B0.out) HZ.out 1048576 (by omega) (by omega)).mono ?_
  rintro e w1 ⟨r, rfl, hsz, b1⟩
  have B1 : Hid (Below w.heap.size w w1) := B0.out.trans (b1.mono B0.out.size)
  have X1 : Hid (Boxed w1 w.heap.size 25 (.slice ao ns.length ca)) := boxed_below b1 X0.out
  clear b1 X0 B0
  by_cases hneg : r < 0
  · clear hsz
    go_wp2
    go_ret
    exact ⟨rfl, B1.out⟩
  · have hsz' : r + ns.length + totN ns = 1048576 := by omega
    have hn : ns.length ≤ 1048576 := by omega
    have hd : Hid (∀ i, (nAt ns i).path.size ≤ 1048576 ∧ (nAt ns i).data.size ≤ 1048576) := fun i => by have := totN_ge ns i; omega
    clear hsz hsz'
    have c0 := X1.out.cell
    go_wp2_with fail
    refine (toTree_any _ _ ns (HR.out.below B1.out) hn).mono ?_
    rintro e w2 ⟨a2, k2, rfl, o2, b2⟩
    have Q2 : Hid (RdN w2 (.slice a2 ns.length k2) ns) := o2.rd
    have B2 : Hid (Below w.heap.size w w2) := B1.out.trans (b2.mono B1.out.size)
    have X2 : Hid (Boxed w2 w.heap.size 25 (.slice ao ns.length ca)) := boxed_below b2 X1.out
    clear o2 b2 c0 X1
    go_wp2_with fail
    refine (specTree_any _ _ ns Q2.out hn hd.out).mono ?_
    rintro e w3 ⟨rfl, b3⟩
    have B3 : Hid (Below w.heap.size w w3) := B2.out.trans (b3.mono B2.out.size)
    have X3 : Hid (Boxed w3 w.heap.size 25 (.slice ao ns.length ca)) := boxed_below b3 X2.out
    clear b3 Q2 X2
    have c0 := X3.out.cell
    go_wp2_with fail
    refine (toTree_any _ _ ns (HR.out.below B3.out) hn).mono ?_
    rintro e w4 ⟨a4, k4, rfl, o4, b4⟩
    have Q4 : Hid (RdN w4 (.slice a4 ns.length k4) ns) := o4.rd
    have B4 : Hid (Below w.heap.size w w4) := B3.out.trans (b4.mono B3.out.size)
    have X4 : Hid (Boxed w4 w.heap.size 25 (.slice ao ns.length ca)) := boxed_below b4 X3.out
    clear o4 b4 c0 X3
    go_wp2_with fail
    have BA : Hid (Below w4.heap.size w4 (w4.alloc (.cells #[.slice a4 ns.length k4] 30))) := (Below.refl _ _).alloc (Nat.le_refl _) _
    have Y5 : Hid (Boxed (w4.alloc (.cells #[.slice a4 ns.length k4] 30)) w4.heap.size 30 (.slice a4 ns.length k4)) := Boxed.new _ _ _
    generalize w4.alloc (.cells #[.slice a4 ns.length k4] 30) = w5 at *
    have B5 : Hid (Below w.heap.size w w5) := B4.out.trans (BA.out.mono B4.out.size)
    have X5 : Hid (Boxed w5 w.heap.size 25 (.slice ao ns.length ca)) := boxed_below BA.out X4.out
    have Q5 : Hid (RdN w5 (.slice a4 ns.length k4) ns) := Q4.out.below BA.out
    clear X4 Q4 BA
    refine (implTree_any _ _ ns Q5.out hd.out).mono ?_
    rintro e w6 ⟨rfl, b6⟩
    have B6 : Hid (Below w.heap.size w w6) := B5.out.trans (b6.mono B5.out.size)
    have X6 : Hid (Boxed w6 w.heap.size 25 (.slice ao ns.length ca)) := boxed_below b6 X5.out
    have Y6 : Hid (Boxed w6 w4.heap.size 30 (.slice a4 ns.length k4)) := boxed_below b6 Y5.out
    have Q6 : Hid (RdN w6 (.slice a4 ns.length k4) ns) := Q5.out.below b6
    clear b6 X5 Y5 Q5 B5
    generalize okTree ns = vv at *
    have hvv : (vv != vv) = false := by simp
    have c0 := X6.out.cell
    have d0 := Y6.out.cell
    have HT : Hid (∀ q, Calls Tryd.prog 16 #[.agg #[.slice ao ns.length ca]] (w6.drewN q) fun e w' => ∃ a c, e = .returned (.agg #[.slice a ns.length c]) ∧ Hid (RdN w' (.slice a ns.length c) ns) ∧ Hid (RdN w' (.slice a4 ns.length k4) ns) ∧ w'.cell? ⟨w4.heap.size, 0, none⟩ = some (.slice a4 ns.length k4) ∧ Hid (Below w.heap.size w w')) := by
      intro q
      refine (toTree_any _ _ ns ((HR.out.below B6.out).below (below_drewN' w6 q)) hn).mono ?_
      rintro e w' ⟨a, c, rfl, o', b'⟩
      have b6' : Below w6.heap.size w6 w' := (below_drewN' w6 q).trans b'
      exact ⟨a, c, rfl, o'.rd, Q6.out.below b6', (boxed_below b6' Y6.out).cell, B6.out.trans (b6'.mono B6.out.size)⟩
    go_wp2
    go_region_with (first | (go_at_call 16; refine (HT.out 1).mono ?_; rintro e w' ⟨a, c, rfl, r1, r2, k0, bw⟩) | (go_at_call 18; refine (eqTree_same _ _ _ ns r2.out r1.out hn).mono ?_; rintro e w'' ⟨rfl, b''⟩))
    all_goals
      have HB : Hid (Below w.heap.size w w'') := bw.out.trans (b''.mono bw.out.size)
      clear b'' k0
      go_wp2
      go_ret
      exact ⟨rfl, HB.out⟩

end Go.Proofs.YtgjenbgclpmjmaaDoor
