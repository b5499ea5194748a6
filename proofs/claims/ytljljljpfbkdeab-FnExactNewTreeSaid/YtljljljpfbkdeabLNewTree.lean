import Derived.Test.YtljljljpfbkdeabNTree
import Derived.Test.YtljljljpfbkdeabRows
namespace Go.Proofs.Ytljljljpfbkdeab
open Go.RowKit

/-- A local struct of one cell. -/
def Box1 (w : World) (b : Nat) (x : Value) : Prop := b < w.heap.size ∧ w.cell? ⟨b, 0, none⟩ = some x
theorem Box1.below {w w' : World} {b : Nat} {x : Value} (h : Box1 w b x) (hb : Below w.heap.size w w') : Box1 w' b x := ⟨Nat.lt_of_lt_of_le h.1 hb.size, (hb.cell (p := ⟨b, 0, none⟩) h.1).trans h.2⟩
theorem Box1.other {w w' : World} {b : Nat} {x : Value} {row : Option Nat} (h : Box1 w b x) (hg : w.grownBy w' row) (hne : some b ≠ row) : Box1 w' b x := ⟨Nat.lt_of_lt_of_le h.1 hg.size, (World.cell?_of_block (w := w) (a := ⟨b, 0, none⟩) (hg.block b h.1 hne)).trans h.2⟩
theorem Box1.new (w : World) (x : Value) (t : TypeId) : Box1 (w.alloc (.cells #[x] t)) w.heap.size x := ⟨by simp, by simp⟩
theorem Node7.other {w w' : World} {B : Nat} {p d : ByteArray} {a b c e f : Int} {row : Option Nat} (h : Node7 w B p d a b c e f) (hg : w.grownBy w' row) (hne : some B ≠ row) : Node7 w' B p d a b c e f := (hg.block B h.lt hne).trans h

set_option maxHeartbeats 2000000 in
set_option maxRecDepth 100000 in
theorem lawNewTree_walk (w : World) : Calls Try.prog 3 #[] w fun e w' => e = .returned (.bool true) ∧ Below w.heap.size w w' := by
  go_enter Try.func3, Try.ntmps3
  go_wp2_with fail
  refine (specNewTree_any w).mono ?_
  rintro e w1 ⟨rfl, n1, b1⟩
  have N1 : Hid (Node7 w1 (w.heap.size + 1) slash empty 0 0 0 0 0) := n1
  have B1 : Hid (Below w.heap.size w w1) := b1
  have z1 := n1.lt
  clear n1 b1
  go_wp2_with fail
  have BA2 : Hid (Below w1.heap.size w1 (w1.alloc (.cells #[.slice (some ⟨w.heap.size + 1, 0, none⟩) 1 1] 24))) := (Below.refl _ _).alloc (Nat.le_refl _) _
  have XS2 : Hid (Box1 (w1.alloc (.cells #[.slice (some ⟨w.heap.size + 1, 0, none⟩) 1 1] 24)) w1.heap.size (.slice (some ⟨w.heap.size + 1, 0, none⟩) 1 1)) := Box1.new _ _ _
  generalize w1.alloc (.cells #[.slice (some ⟨w.heap.size + 1, 0, none⟩) 1 1] 24) = w2 at *
  have s2 := BA2.out.size
  have z2 := XS2.out.1
  have N2 : Hid (Node7 w2 (w.heap.size + 1) slash empty 0 0 0 0 0) := N1.out.below BA2.out
  have B2 : Hid (Below w.heap.size w w2) := B1.out.trans (BA2.out.mono (by omega))
  clear BA2 N1 B1
  refine (implNewTree_any w2).mono ?_
  rintro e w3 ⟨rfl, n3, b3⟩
  have N3 : Hid (Node7 w3 (w.heap.size + 1) slash empty 0 0 0 0 0) := N2.out.below b3
  have M3 : Hid (Node7 w3 (w2.heap.size + 1) slash empty 0 0 0 0 0) := n3
  have XS3 : Hid (Box1 w3 w1.heap.size (.slice (some ⟨w.heap.size + 1, 0, none⟩) 1 1)) := XS2.out.below b3
  have B3 : Hid (Below w.heap.size w w3) := B2.out.trans (b3.mono (by omega))
  have s3 := b3.size
  have z3 := n3.lt
  clear n3 b3 N2 XS2 B2
  obtain ⟨zs, c0⟩ := XS3.out
  go_wp2_with fail
  have BA4 : Hid (Below w3.heap.size w3 (w3.alloc (.cells #[.slice (some ⟨w2.heap.size + 1, 0, none⟩) 1 1] 24))) := (Below.refl _ _).alloc (Nat.le_refl _) _
  have XG4 : Hid (Box1 (w3.alloc (.cells #[.slice (some ⟨w2.heap.size + 1, 0, none⟩) 1 1] 24)) w3.heap.size (.slice (some ⟨w2.heap.size + 1, 0, none⟩) 1 1)) := Box1.new _ _ _
  clear c0
  generalize w3.alloc (.cells #[.slice (some ⟨w2.heap.size + 1, 0, none⟩) 1 1] 24) = w4 at *
  have s4 := BA4.out.size
  have z4 := XG4.out.1
  have N4 : Hid (Node7 w4 (w.heap.size + 1) slash empty 0 0 0 0 0) := N3.out.below BA4.out
  have M4 : Hid (Node7 w4 (w2.heap.size + 1) slash empty 0 0 0 0 0) := M3.out.below BA4.out
  have XS4 : Hid (Box1 w4 w1.heap.size (.slice (some ⟨w.heap.size + 1, 0, none⟩) 1 1)) := XS3.out.below BA4.out
  have B4 : Hid (Below w.heap.size w w4) := B3.out.trans (BA4.out.mono (by omega))
  clear BA4 N3 M3 XS3 B3
  refine (eqTree_same w4 _ _ M4.out N4.out).mono ?_
  rintro e w5 ⟨rfl, b5⟩
  have s5 := b5.size
  have N5 : Hid (Node7 w5 (w.heap.size + 1) slash empty 0 0 0 0 0) := N4.out.below b5
  have M5 : Hid (Node7 w5 (w2.heap.size + 1) slash empty 0 0 0 0 0) := M4.out.below b5
  have XS5 : Hid (Box1 w5 w1.heap.size (.slice (some ⟨w.heap.size + 1, 0, none⟩) 1 1)) := XS4.out.below b5
  have XG5 : Hid (Box1 w5 w3.heap.size (.slice (some ⟨w2.heap.size + 1, 0, none⟩) 1 1)) := XG4.out.below b5
  have B5 : Hid (Below w.heap.size w w5) := B4.out.trans (b5.mono (by omega))
  clear b5 N4 M4 XS4 XG4 B4
  obtain ⟨zg, c0⟩ := XG5.out
  go_wp2_with fail
  refine (markTree_one w5 _ M5.out).mono ?_
  rintro e w6 ⟨rfl, n6, g6⟩
  have s6 := g6.size
  have N6 : Hid (Node7 w6 (w.heap.size + 1) slash empty 0 0 0 0 0) := N5.out.other g6 (by simp; omega)
  have M6 : Hid (Node7 w6 (w2.heap.size + 1) m1 m2 3 4 5 6 7) := n6
  have XS6 : Hid (Box1 w6 w1.heap.size (.slice (some ⟨w.heap.size + 1, 0, none⟩) 1 1)) := XS5.out.other g6 (by simp; omega)
  have XG6 : Hid (Box1 w6 w3.heap.size (.slice (some ⟨w2.heap.size + 1, 0, none⟩) 1 1)) := XG5.out.other g6 (by simp; omega)
  have B6 : Hid (Below w.heap.size w w6) := B5.out.grown g6 B5.out.size (by intro q hq; simp at hq; omega)
  clear n6 g6 N5 M5 XS5 XG5 B5 c0
  obtain ⟨zg6, c0⟩ := XG6.out
  go_wp2_with fail
  refine (heldTree_one w6 _ M6.out).mono ?_
  rintro e w7 ⟨rfl, b7⟩
  have s7 := b7.size
  have N7 : Hid (Node7 w7 (w.heap.size + 1) slash empty 0 0 0 0 0) := N6.out.below b7
  have XS7 : Hid (Box1 w7 w1.heap.size (.slice (some ⟨w.heap.size + 1, 0, none⟩) 1 1)) := XS6.out.below b7
  have B7 : Hid (Below w.heap.size w w7) := B6.out.trans (b7.mono B6.out.size)
  clear b7 N6 XS6 XG6 B6 M6 c0
  go_wp2_with fail
  refine (implNewTree_any w7).mono ?_
  rintro e w8 ⟨rfl, n8, b8⟩
  have N8 : Hid (Node7 w8 (w.heap.size + 1) slash empty 0 0 0 0 0) := N7.out.below b8
  have M8 : Hid (Node7 w8 (w7.heap.size + 1) slash empty 0 0 0 0 0) := n8
  have XS8 : Hid (Box1 w8 w1.heap.size (.slice (some ⟨w.heap.size + 1, 0, none⟩) 1 1)) := XS7.out.below b8
  have B8 : Hid (Below w.heap.size w w8) := B7.out.trans (b8.mono B7.out.size)
  clear n8 b8 N7 XS7 B7
  obtain ⟨zs8, c0⟩ := XS8.out
  go_wp2_with fail
  have BA9 : Hid (Below w8.heap.size w8 (w8.alloc (.cells #[.slice (some ⟨w7.heap.size + 1, 0, none⟩) 1 1] 24))) := (Below.refl _ _).alloc (Nat.le_refl _) _
  refine (eqTree_same _ _ _ (M8.out.below BA9.out) (N8.out.below BA9.out)).mono ?_
  rintro e w9 ⟨rfl, b9⟩
  have B9 : Hid (Below w.heap.size w w9) := (B8.out.trans (BA9.out.mono B8.out.size)).trans (b9.mono (by have := BA9.out.size; have := B8.out.size; omega))
  clear b9 BA9 c0
  go_wp2
  go_ret
  exact ⟨rfl, B9.out⟩

end Go.Proofs.Ytljljljpfbkdeab
