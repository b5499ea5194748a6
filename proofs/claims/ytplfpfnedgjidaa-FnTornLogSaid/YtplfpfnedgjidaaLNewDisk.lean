import Derived.Test.YtplfpfnedgjidaaNDisk
namespace Go.Proofs.Ytplfpfnedgjidaa
open Go.RowKit

/-- A local struct of two cells. -/
def Box2 (w : World) (b : Nat) (x y : Value) : Prop := b < w.heap.size ∧ w.cell? ⟨b, 0, none⟩ = some x ∧ w.cell? ⟨b, 1, none⟩ = some y
theorem Box2.below {w w' : World} {b : Nat} {x y : Value} (h : Box2 w b x y) (hb : Below w.heap.size w w') : Box2 w' b x y :=
  ⟨Nat.lt_of_lt_of_le h.1 hb.size, (hb.cell (p := ⟨b, 0, none⟩) h.1).trans h.2.1, (hb.cell (p := ⟨b, 1, none⟩) h.1).trans h.2.2⟩
theorem Box2.other {w w' : World} {b : Nat} {x y : Value} {row : Option Nat} (h : Box2 w b x y) (hg : w.grownBy w' row) (hne : some b ≠ row) : Box2 w' b x y :=
  ⟨Nat.lt_of_lt_of_le h.1 hg.size, hg.cell h.2.1 hne, hg.cell h.2.2 hne⟩
theorem Box2.new (w : World) (x y : Value) (t : TypeId) : Box2 (w.alloc (.cells #[x, y] t)) w.heap.size x y := ⟨by simp, by simp, by simp⟩

set_option maxHeartbeats 1000000 in
set_option maxRecDepth 100000 in
theorem lawNewDisk_walk (w : World) (k : Int) (_hk : (Lit.int .i64 k).wf = true) :
    Calls Try.prog 6 #[.int .i64 k] w fun e w' => e = .returned (.bool true) ∧ Below w.heap.size w w' := by
  have HPL : Hid ((zeros (ndl k)).length ≤ 1099511627776) := by
    show _ ≤ _; rw [zeros_len]; unfold ndl; split <;> omega
  go_enter Try.func6, Try.ntmps6
  go_wp2_with fail
  refine (specNewDisk_any _ k).mono ?_
  rintro e w1 ⟨v1, rfl, o1, b1⟩
  obtain ⟨a1, c1, rfl, _, _⟩ := o1.rd.len
  have B1 : Hid (Below w.heap.size w w1) := b1
  have O1 : Hid (Own .u8 5 w1 w.heap.size (.slice a1 (zeros (ndl k)).length c1) (zeros (ndl k))) := o1
  have s1 := b1.size
  clear o1 b1
  go_wp2_with fail
  have BA : Hid (Below w1.heap.size w1 (w1.alloc (.cells #[(.slice a1 (zeros (ndl k)).length c1), (.slice none 0 0)] 38))) := (Below.refl _ _).alloc (Nat.le_refl _) _
  have X1 : Hid (Box2 (w1.alloc (.cells #[(.slice a1 (zeros (ndl k)).length c1), (.slice none 0 0)] 38)) w1.heap.size (.slice a1 (zeros (ndl k)).length c1) (.slice none 0 0)) := Box2.new _ _ _ _
  have sA : w1.heap.size < (w1.alloc (.cells #[(.slice a1 (zeros (ndl k)).length c1), (.slice none 0 0)] 38)).heap.size := by simp
  generalize w1.alloc (.cells #[(.slice a1 (zeros (ndl k)).length c1), (.slice none 0 0)] 38) = wa at *
  refine (implNewDisk_any _ k).mono ?_
  rintro e w2 ⟨v2, rfl, o2, b2⟩
  obtain ⟨a2, c2, rfl, _, _⟩ := o2.rd.len
  have B2 : Hid (Below wa.heap.size wa w2) := b2
  have O2 : Hid (Own .u8 5 w2 wa.heap.size (.slice a2 (zeros (ndl k)).length c2) (zeros (ndl k))) := o2
  have s2 := b2.size
  clear o2 b2
  have X12 : Hid (Box2 w2 w1.heap.size (.slice a1 (zeros (ndl k)).length c1) (.slice none 0 0)) := X1.out.below B2.out
  obtain ⟨z1, d1, d2⟩ := X12.out
  go_wp2_with fail
  have BB : Hid (Below w2.heap.size w2 (w2.alloc (.cells #[(.slice a2 (zeros (ndl k)).length c2), (.slice none 0 0)] 38))) := (Below.refl _ _).alloc (Nat.le_refl _) _
  have X2 : Hid (Box2 (w2.alloc (.cells #[(.slice a2 (zeros (ndl k)).length c2), (.slice none 0 0)] 38)) w2.heap.size (.slice a2 (zeros (ndl k)).length c2) (.slice none 0 0)) := Box2.new _ _ _ _
  have sB : w2.heap.size < (w2.alloc (.cells #[(.slice a2 (zeros (ndl k)).length c2), (.slice none 0 0)] 38)).heap.size := by simp
  generalize w2.alloc (.cells #[(.slice a2 (zeros (ndl k)).length c2), (.slice none 0 0)] 38) = wb at *
  have O2b : Hid (Own .u8 5 wb wa.heap.size (.slice a2 (zeros (ndl k)).length c2) (zeros (ndl k))) := O2.out.below BB.out
  have O1b : Hid (Own .u8 5 wb w.heap.size (.slice a1 (zeros (ndl k)).length c1) (zeros (ndl k))) := ((O1.out.below BA.out).below B2.out).below BB.out
  have BWb : Hid (Below w.heap.size w wb) := ((B1.out.trans (BA.out.mono (by omega))).trans (B2.out.mono (by omega))).trans (BB.out.mono (by omega))
  have X1b : Hid (Box2 wb w1.heap.size (.slice a1 (zeros (ndl k)).length c1) (.slice none 0 0)) := X12.out.below BB.out
  refine (eqDisk_nil _ _ _ (zeros (ndl k)) (zeros (ndl k)) _ _ _ _ O2b.out.rd O1b.out.rd).mono ?_
  rintro e w3 ⟨rfl, b3⟩
  rw [show decide (zeros (ndl k) = zeros (ndl k)) = true by simp]
  have s3 := b3.size
  have O23 : Hid (Own .u8 5 w3 wa.heap.size (.slice a2 (zeros (ndl k)).length c2) (zeros (ndl k))) := O2b.out.below b3
  have O13 : Hid (Own .u8 5 w3 w.heap.size (.slice a1 (zeros (ndl k)).length c1) (zeros (ndl k))) := O1b.out.below b3
  have X13 : Hid (Box2 w3 w1.heap.size (.slice a1 (zeros (ndl k)).length c1) (.slice none 0 0)) := X1b.out.below b3
  have X23 : Hid (Box2 w3 w2.heap.size (.slice a2 (zeros (ndl k)).length c2) (.slice none 0 0)) := X2.out.below b3
  have BW3 : Hid (Below w.heap.size w w3) := BWb.out.trans (b3.mono (by omega))
  have N12 : Hid (Value.ownBlock (.slice a1 (zeros (ndl k)).length c1) = none ∨ Value.ownBlock (.slice a1 (zeros (ndl k)).length c1) ≠ Value.ownBlock (.slice a2 (zeros (ndl k)).length c2)) := own_ne O1.out O2.out (by omega)
  have M12 : Hid (some w1.heap.size ≠ Value.ownBlock (.slice a2 (zeros (ndl k)).length c2)) := box_own O2.out (by omega)
  have M22 : Hid (some w2.heap.size ≠ Value.ownBlock (.slice a2 (zeros (ndl k)).length c2)) := own_box O2.out (Nat.le_refl _)
  clear b3 O1 O2 O2b O1b BWb X1b X2 X1 X12 B1 BA B2 BB z1 d1 d2
  obtain ⟨z2, d1, d2⟩ := X23.out
  go_wp2_with fail
  refine (markDisk_nil _ _ _ (zeros (ndl k)) _ _ 1 O23.out (by omega) (by omega) HPL.out).mono ?_
  rintro e w4 ⟨rfl, o4, g4⟩
  have s4 := g4.size
  have O24 : Hid (Own .u8 5 w4 wa.heap.size (.slice a2 (zeros (ndl k)).length c2) (marks 1 (zeros (ndl k)).length)) := o4
  have O14 : Hid (Own .u8 5 w4 w.heap.size (.slice a1 (zeros (ndl k)).length c1) (zeros (ndl k))) := O13.out.other g4 N12.out
  have X14 : Hid (Box2 w4 w1.heap.size (.slice a1 (zeros (ndl k)).length c1) (.slice none 0 0)) := X13.out.other g4 M12.out
  have X24 : Hid (Box2 w4 w2.heap.size (.slice a2 (zeros (ndl k)).length c2) (.slice none 0 0)) := X23.out.other g4 M22.out
  have BW4 : Hid (Below w.heap.size w w4) := BW3.out.grown g4 (by omega) (fun j hj => by have := (O23.out.lt j hj).1; omega)
  clear o4 g4 O23 O13 X13 X23 BW3 z2 d1 d2
  obtain ⟨z2, d1, d2⟩ := X24.out
  have hpl := HPL.out
  go_wp2_with fail
  refine (heldDisk_nil _ _ (zeros (ndl k)).length _ _ 1 O24.out.rd (by omega) (by omega) hpl).mono ?_
  rintro e w5 ⟨rfl, b5⟩
  have s5 := b5.size
  have hq0 : ¬ (1 + ((zeros (ndl k)).length : Int)) < 0 := by omega
  have BW5 : Hid (Below w.heap.size w w5) := BW4.out.trans (b5.mono (by omega))
  have X15 : Hid (Box2 w5 w1.heap.size (.slice a1 (zeros (ndl k)).length c1) (.slice none 0 0)) := X14.out.below b5
  have O15 : Hid (Own .u8 5 w5 w.heap.size (.slice a1 (zeros (ndl k)).length c1) (zeros (ndl k))) := O14.out.below b5
  clear b5 O24 O14 X14 X24 BW4 z2 d1 d2
  go_wp2_with fail
  refine (implNewDisk_any _ k).mono ?_
  rintro e w6 ⟨v6, rfl, o6, b6⟩
  obtain ⟨a6, c6, rfl, _, _⟩ := o6.rd.len
  have s6 := b6.size
  have O6 : Hid (Own .u8 5 w6 w5.heap.size (.slice a6 (zeros (ndl k)).length c6) (zeros (ndl k))) := o6
  have O16 : Hid (Own .u8 5 w6 w.heap.size (.slice a1 (zeros (ndl k)).length c1) (zeros (ndl k))) := O15.out.below b6
  have X16 : Hid (Box2 w6 w1.heap.size (.slice a1 (zeros (ndl k)).length c1) (.slice none 0 0)) := X15.out.below b6
  have BW6 : Hid (Below w.heap.size w w6) := BW5.out.trans (b6.mono (by omega))
  clear o6 b6 O15 X15 BW5
  obtain ⟨z1, d1, d2⟩ := X16.out
  go_wp2_with fail
  have BC : Hid (Below w6.heap.size w6 (w6.alloc (.cells #[(.slice a6 (zeros (ndl k)).length c6), (.slice none 0 0)] 38))) := (Below.refl _ _).alloc (Nat.le_refl _) _
  refine (eqDisk_nil _ _ _ (zeros (ndl k)) (zeros (ndl k)) _ _ _ _ (O6.out.below BC.out).rd (O16.out.below BC.out).rd).mono ?_
  rintro e w7 ⟨rfl, b7⟩
  rw [show decide (zeros (ndl k) = zeros (ndl k)) = true by simp]
  have BW7 : Hid (Below w.heap.size w w7) := (BW6.out.trans (BC.out.mono (by omega))).trans (b7.mono (by simp; omega))
  clear b7
  go_wp2
  go_ret
  exact ⟨rfl, BW7.out⟩

end Go.Proofs.Ytplfpfnedgjidaa
