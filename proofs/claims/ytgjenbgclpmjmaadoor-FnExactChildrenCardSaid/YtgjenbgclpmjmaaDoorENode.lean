import Derived.Test.YtgjenbgclpmjmaaDoorEMath
import Derived.Test.YtgjenbgclpmjmaaDoorEStat
namespace Go.Proofs.YtgjenbgclpmjmaaDoor
open Go.RowKit

/-- The cells of a box of another type are kept. -/
theorem KT.box {e t : TypeId} {w w' : World} {b : Nat} {A : Array Value} {f : Nat × Nat} (h : KT e w w') (hb : w.heap[b]? = some (.cells A t f)) (ht : t ≠ e) : w'.heap[b]? = some (.cells A t f) := by
  have hlt := (Array.getElem?_eq_some_iff.1 hb).1
  rw [h.2 b hlt (by rw [hb]; rintro ⟨cur, h⟩; injection h with h; injection h with _ h2; exact ht h2), hb]
/-- A node at the head of a box of its own. -/
def BxN (w : World) (b : Nat) (n : Nd) : Prop := (∃ A t f, w.heap[b]? = some (.cells A t f) ∧ t ≠ 5) ∧ CellsN w b 0 n
theorem BxN.keep {w w' : World} {b : Nat} {n : Nd} (h : BxN w b n) (hk : KT 5 w w') : BxN w' b n := by
  obtain ⟨⟨A, t, f, h1, h2⟩, h3⟩ := h
  have h4 := hk.box h1 h2
  have e : ∀ q, w'.cell? ⟨b, q, none⟩ = w.cell? ⟨b, q, none⟩ := fun q => World.cell?_of_block (a := ⟨b, q, none⟩) (by show w'.heap[b]? = w.heap[b]?; rw [h4, h1])
  exact ⟨⟨A, t, f, h4, h2⟩, (e _).trans h3.c0, (e _).trans h3.c1, (e _).trans h3.c2, (e _).trans h3.c3, (e _).trans h3.c4, (e _).trans h3.c5, (e _).trans h3.c6⟩
theorem BxN.below {w w' : World} {b : Nat} {n : Nd} (h : BxN w b n) (hk : Below w.heap.size w w') : BxN w' b n := h.keep ((KT.refl _ _).below hk)
theorem BxN.cells {w : World} {b : Nat} {n : Nd} (h : BxN w b n) : CellsN w b 0 n := h.2
theorem cell_of {w : World} {b : Nat} {A : Array Value} {t : TypeId} {f : Nat × Nat} (h : w.heap[b]? = some (.cells A t f)) (q : Nat) : w.cell? ⟨b, q, none⟩ = A[q]? := by simp [World.cell?, h]
theorem KT.cell {e t : TypeId} {w w' : World} {b : Nat} {A : Array Value} {f : Nat × Nat} (h : KT e w w') (hb : w.heap[b]? = some (.cells A t f)) (ht : t ≠ e) (q : Nat) : w'.cell? ⟨b, q, none⟩ = w.cell? ⟨b, q, none⟩ :=
  World.cell?_of_block (a := ⟨b, q, none⟩) (by show w'.heap[b]? = w.heap[b]?; rw [h.box hb ht, hb])

/-- The images of the first k of five numbers. -/
def stK (a b c d e k : Nat) : List Int := ([a, b, c, d, e].take k).flatMap fun z => bigR z 4
theorem stK_len (a b c d e k : Nat) : (stK a b c d e k).length ≤ 20 := by
  unfold stK
  match k with
  | 0 => simp
  | 1 => simp [bigR_len]
  | 2 => simp [bigR_len]
  | 3 => simp [bigR_len]
  | 4 => simp [bigR_len]
  | k + 5 => simp [bigR_len]
theorem stK_0 (a b c d e : Nat) : stK a b c d e 0 ++ bigR a 4 = stK a b c d e 1 := by simp [stK]
theorem stK_1 (a b c d e : Nat) : stK a b c d e 1 ++ bigR b 4 = stK a b c d e 2 := by simp [stK]
theorem stK_2 (a b c d e : Nat) : stK a b c d e 2 ++ bigR c 4 = stK a b c d e 3 := by simp [stK]
theorem stK_3 (a b c d e : Nat) : stK a b c d e 3 ++ bigR d 4 = stK a b c d e 4 := by simp [stK]
theorem stK_4 (a b c d e : Nat) : stK a b c d e 4 ++ bigR e 4 = stK a b c d e 5 := by simp [stK]

theorem ix_0 (W : World) (b : Nat) : (Instr.index 143 (.agg #[.pointer (some ⟨b, 2, none⟩), .pointer (some ⟨b, 3, none⟩), .pointer (some ⟨b, 4, none⟩), .pointer (some ⟨b, 5, none⟩), .pointer (some ⟨b, 6, none⟩)]) (.int .i64 0)).run Tryd.prog W = .ok (.pointer (some ⟨b, 2, none⟩)) W := by kernel_rfl
theorem ix_1 (W : World) (b : Nat) : (Instr.index 143 (.agg #[.pointer (some ⟨b, 2, none⟩), .pointer (some ⟨b, 3, none⟩), .pointer (some ⟨b, 4, none⟩), .pointer (some ⟨b, 5, none⟩), .pointer (some ⟨b, 6, none⟩)]) (.int .i64 1)).run Tryd.prog W = .ok (.pointer (some ⟨b, 3, none⟩)) W := by kernel_rfl
theorem ix_2 (W : World) (b : Nat) : (Instr.index 143 (.agg #[.pointer (some ⟨b, 2, none⟩), .pointer (some ⟨b, 3, none⟩), .pointer (some ⟨b, 4, none⟩), .pointer (some ⟨b, 5, none⟩), .pointer (some ⟨b, 6, none⟩)]) (.int .i64 2)).run Tryd.prog W = .ok (.pointer (some ⟨b, 4, none⟩)) W := by kernel_rfl
theorem ix_3 (W : World) (b : Nat) : (Instr.index 143 (.agg #[.pointer (some ⟨b, 2, none⟩), .pointer (some ⟨b, 3, none⟩), .pointer (some ⟨b, 4, none⟩), .pointer (some ⟨b, 5, none⟩), .pointer (some ⟨b, 6, none⟩)]) (.int .i64 3)).run Tryd.prog W = .ok (.pointer (some ⟨b, 5, none⟩)) W := by kernel_rfl
theorem ix_4 (W : World) (b : Nat) : (Instr.index 143 (.agg #[.pointer (some ⟨b, 2, none⟩), .pointer (some ⟨b, 3, none⟩), .pointer (some ⟨b, 4, none⟩), .pointer (some ⟨b, 5, none⟩), .pointer (some ⟨b, 6, none⟩)]) (.int .i64 4)).run Tryd.prog W = .ok (.pointer (some ⟨b, 6, none⟩)) W := by kernel_rfl

set_option maxHeartbeats 1000000 in
set_option maxRecDepth 100000 in
theorem encNode_any (w : World) (base : Nat) (v : Value) (xs : List Int) (b : Nat) (n : Nd) (h : Own .u8 5 w base v xs) (hb : base ≤ w.heap.size) (hl : xs.length ≤ 1000000) (hx : BxN w b n) (hn : okNd n = true) :
    Calls Tryd.prog 87 #[.pointer (some ⟨b, 0, none⟩), v] w fun e w' => ∃ v', e = .returned v' ∧ Own .u8 5 w' base v' (xs ++ nodeB n) ∧ Below base w w' ∧ KT 5 w w' := by
  obtain ⟨p1, p2, p3, p4, p5, p6, p7⟩ := okNd_all hn
  have HO : Hid (Own .u8 5 w base v xs) := h
  have HX : Hid (BxN w b n) := hx
  clear h hx hn
  obtain ⟨c0, c1, c2, c3, c4, c5, c6⟩ := HX.out.cells
  go_enter Tryd.func87, Tryd.ntmps87
  go_wp2_with fail
  refine (implText_any w base v xs n.path HO.out hb (by omega) (by omega)).mono ?_
  rintro e w1 ⟨v1, rfl, o1, b1, k1⟩
  have O1 : Hid (Own .u8 5 w1 base v1 (xs ++ txB n.path)) := o1
  have B1 : Hid (Below base w w1) := b1
  have X1 : Hid (BxN w1 b n) := HX.out.keep k1
  have K1 : Hid (KT 5 w w1) := k1
  have s1 := b1.size
  clear o1 b1 k1 c0 c1 c2 c3 c4 c5 c6
  obtain ⟨c0, c1, c2, c3, c4, c5, c6⟩ := X1.out.cells
  go_wp2_with fail
  refine (implText_any w1 base v1 _ n.data O1.out (by omega) (by rw [List.length_append, txB_len]; omega) (by omega)).mono ?_
  rintro e w2 ⟨v2, rfl, o2, b2, k2⟩
  have O2 : Hid (Own .u8 5 w2 base v2 (xs ++ txB n.path ++ txB n.data)) := o2
  have B2 : Hid (Below base w w2) := B1.out.trans b2
  have X2 : Hid (BxN w2 b n) := X1.out.keep k2
  have K2 : Hid (KT 5 w w2) := K1.out.trans k2
  have s2 := B2.out.size
  clear o2 b2 k2 c0 c1 c2 c3 c4 c5 c6 O1 X1 K1
  go_wp2_with fail
  refine (stats_any w2 b 0).mono ?_
  rintro e w3 ⟨rfl, b3⟩
  have O3 : Hid (Own .u8 5 w3 base v2 (xs ++ txB n.path ++ txB n.data)) := O2.out.below b3
  have B3 : Hid (Below base w w3) := B2.out.trans (b3.mono (by omega))
  have X3 : Hid (BxN w3 b n) := X2.out.below b3
  have K3 : Hid (KT 5 w w3) := K2.out.below b3
  clear b3 O2 X2 K2
  obtain ⟨z0, hz0⟩ : ∃ z : Nat, n.ver = (z : Int) := ⟨n.ver.toNat, by omega⟩
  obtain ⟨z1, hz1⟩ : ∃ z : Nat, n.cver = (z : Int) := ⟨n.cver.toNat, by omega⟩
  obtain ⟨z2, hz2⟩ : ∃ z : Nat, n.cz = (z : Int) := ⟨n.cz.toNat, by omega⟩
  obtain ⟨z3, hz3⟩ : ∃ z : Nat, n.mz = (z : Int) := ⟨n.mz.toNat, by omega⟩
  obtain ⟨z4, hz4⟩ : ∃ z : Nat, n.pz = (z : Int) := ⟨n.pz.toNat, by omega⟩
  have HZ : Hid (nodeB n = txB n.path ++ txB n.data ++ stK z0 z1 z2 z3 z4 5) := by
    show _ = _
    unfold nodeB stB stK
    simp [hz0, hz1, hz2, hz3, hz4]
  have HZ0 : Hid (n.ver = (z0 : Int)) := hz0
  have HZ1 : Hid (n.cver = (z1 : Int)) := hz1
  have HZ2 : Hid (n.cz = (z2 : Int)) := hz2
  have HZ3 : Hid (n.mz = (z3 : Int)) := hz3
  have HZ4 : Hid (n.pz = (z4 : Int)) := hz4
  have HL : Hid (∀ k, (xs ++ txB n.path ++ txB n.data ++ stK z0 z1 z2 z3 z4 k).length ≤ 1048576) := by
    intro k
    have := stK_len z0 z1 z2 z3 z4 k
    simp only [List.length_append, txB_len]
    omega
  clear hz0 hz1 hz2 hz3 hz4 p3 p4 p5 p6 p7
  obtain ⟨ys, hys⟩ : ∃ ys, ys = xs ++ txB n.path ++ txB n.data := ⟨_, rfl⟩
  have HYS : Hid (xs ++ nodeB n = ys ++ stK z0 z1 z2 z3 z4 5) := by show _ = _; rw [HZ.out, hys]; simp only [List.append_assoc]
  rw [← hys] at O3 HL
  clear hys HZ
  unfold stP
  go_wp2
  go_loopw [1, 23] (fun vi vk wr => ∃ k : Nat, k ≤ 5 ∧ vk = .int .i64 k ∧ Hid (Own .u8 5 wr base vi (ys ++ stK z0 z1 z2 z3 z4 k)) ∧ Hid (Below base w wr) ∧ Hid (KT 5 w wr) ∧ Hid (BxN wr b n)) (fun _ i _ => 5 - (intOf i).toNat)
  case atStart => exact ⟨0, by omega, rfl, by show Own _ _ _ _ _ _; unfold stK; simp; exact O3.out, B3, K3, X3⟩
  case round =>
    obtain ⟨k, hk, rfl, HW, HB, HK, HXr⟩ := hrel
    have sB := HB.out.size
    obtain ⟨-, -, c2, c3, c4, c5, c6⟩ := HXr.out.cells
    rw [HZ0.out] at c2
    rw [HZ1.out] at c3
    rw [HZ2.out] at c4
    rw [HZ3.out] at c5
    rw [HZ4.out] at c6
    rcases (show k = 0 ∨ k = 1 ∨ k = 2 ∨ k = 3 ∨ k = 4 ∨ k = 5 by omega) with rfl | rfl | rfl | rfl | rfl | rfl
    · have hix := fun W => ix_0 W b
      go_wp2_with fail
      clear hix
      refine (implNumber_any wr base _ _ z0 4 HW.out (by omega) (HL.out _) (by omega)).mono ?_
      rintro e w4 ⟨v4, rfl, o4, b4, k4⟩
      have O4 : Hid (Own .u8 5 w4 base v4 (ys ++ stK z0 z1 z2 z3 z4 1)) := by rw [List.append_assoc, stK_0] at o4; exact o4
      have B4 : Hid (Below base w w4) := HB.out.trans b4
      have K4 : Hid (KT 5 w w4) := HK.out.trans k4
      have X4 : Hid (BxN w4 b n) := HXr.out.keep k4
      clear o4 b4 k4 HW HB HK HXr c2 c3 c4 c5 c6
      go_wp2
      exact ⟨⟨1, by omega, rfl, O4, B4, K4, X4⟩, by simp [intOf]⟩
    · have hix := fun W => ix_1 W b
      go_wp2_with fail
      clear hix
      refine (implNumber_any wr base _ _ z1 4 HW.out (by omega) (HL.out _) (by omega)).mono ?_
      rintro e w4 ⟨v4, rfl, o4, b4, k4⟩
      have O4 : Hid (Own .u8 5 w4 base v4 (ys ++ stK z0 z1 z2 z3 z4 2)) := by rw [List.append_assoc, stK_1] at o4; exact o4
      have B4 : Hid (Below base w w4) := HB.out.trans b4
      have K4 : Hid (KT 5 w w4) := HK.out.trans k4
      have X4 : Hid (BxN w4 b n) := HXr.out.keep k4
      clear o4 b4 k4 HW HB HK HXr c2 c3 c4 c5 c6
      go_wp2
      exact ⟨⟨2, by omega, rfl, O4, B4, K4, X4⟩, by simp [intOf]⟩
    · have hix := fun W => ix_2 W b
      go_wp2_with fail
      clear hix
      refine (implNumber_any wr base _ _ z2 4 HW.out (by omega) (HL.out _) (by omega)).mono ?_
      rintro e w4 ⟨v4, rfl, o4, b4, k4⟩
      have O4 : Hid (Own .u8 5 w4 base v4 (ys ++ stK z0 z1 z2 z3 z4 3)) := by rw [List.append_assoc, stK_2] at o4; exact o4
      have B4 : Hid (Below base w w4) := HB.out.trans b4
      have K4 : Hid (KT 5 w w4) := HK.out.trans k4
      have X4 : Hid (BxN w4 b n) := HXr.out.keep k4
      clear o4 b4 k4 HW HB HK HXr c2 c3 c4 c5 c6
      go_wp2
      exact ⟨⟨3, by omega, rfl, O4, B4, K4, X4⟩, by simp [intOf]⟩
    · have hix := fun W => ix_3 W b
      go_wp2_with fail
      clear hix
      refine (implNumber_any wr base _ _ z3 4 HW.out (by omega) (HL.out _) (by omega)).mono ?_
      rintro e w4 ⟨v4, rfl, o4, b4, k4⟩
      have O4 : Hid (Own .u8 5 w4 base v4 (ys ++ stK z0 z1 z2 z3 z4 4)) := by rw [List.append_assoc, stK_3] at o4; exact o4
      have B4 : Hid (Below base w w4) := HB.out.trans b4
      have K4 : Hid (KT 5 w w4) := HK.out.trans k4
      have X4 : Hid (BxN w4 b n) := HXr.out.keep k4
      clear o4 b4 k4 HW HB HK HXr c2 c3 c4 c5 c6
      go_wp2
      exact ⟨⟨4, by omega, rfl, O4, B4, K4, X4⟩, by simp [intOf]⟩
    · have hix := fun W => ix_4 W b
      go_wp2_with fail
      clear hix
      refine (implNumber_any wr base _ _ z4 4 HW.out (by omega) (HL.out _) (by omega)).mono ?_
      rintro e w4 ⟨v4, rfl, o4, b4, k4⟩
      have O4 : Hid (Own .u8 5 w4 base v4 (ys ++ stK z0 z1 z2 z3 z4 5)) := by rw [List.append_assoc, stK_4] at o4; exact o4
      have B4 : Hid (Below base w w4) := HB.out.trans b4
      have K4 : Hid (KT 5 w w4) := HK.out.trans k4
      have X4 : Hid (BxN w4 b n) := HXr.out.keep k4
      clear o4 b4 k4 HW HB HK HXr c2 c3 c4 c5 c6
      go_wp2
      exact ⟨⟨5, by omega, rfl, O4, B4, K4, X4⟩, by simp [intOf]⟩
    · clear c2 c3 c4 c5 c6
      go_wp2
      go_ret
      exact ⟨_, rfl, (by rw [HYS.out]; exact HW.out), HB.out, HK.out⟩

end Go.Proofs.YtgjenbgclpmjmaaDoor
