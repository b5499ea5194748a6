import Derived.Test.YtgjenbgclpmjmaaDoorJ02
import Derived.Test.YtgjenbgclpmjmaaDoorJ01
namespace Go.Proofs.YtgjenbgclpmjmaaDoor
open Go.RowKit

/-- The cells of a box of another type are kept. -/
theorem KT.box {e t : TypeId} {w w' : World} {b : Nat} {A : Array Value} {f : Nat × Nat} (h : KT e w w') (hb : w.heap[b]? = some (.cells A t f)) (ht : t ≠ e) : w'.heap[b]? = some (.cells A t f) := by
  have hlt := (Array.getElem?_eq_some_iff.1 hb).1
  rw [h.2 b hlt (by rw [hb]; rintro ⟨cur, h⟩; injection h with h; injection h with _ h2; exact ht h2), hb]
/-- A node at the head of a box of its own. -/
def BxN (w : World) (b : Nat) (n : Nd) : Prop := (∃ A t f, w.heap[b]? = some (.cells A t f) ∧ t ≠ 5) ∧ CellsN w b 0 n
theorem BxN.keep {w w' : World} {b : Nat} {n : Nd} (h : BxN w b n) (hk : KT 5 w w') : BxN w' b n := by
  obtain ⟨⟨A, t, f, h1, h2⟩, h3⟩ := h
  have h4 := hk.box h1 h2
  have e : ∀ q, w'.cell? ⟨b, q, none⟩ = w.cell? ⟨b, q, none⟩ := fun q => World.cell?_of_block (a := ⟨b, q, none⟩) (by show w'.heap[b]? = w.heap[b]?; rw [h4, h1])
  exact ⟨⟨A, t, f, h4, h2⟩, (e _).trans h3.c0, (e _).trans h3.c1, (e _).trans h3.c2, (e _).trans h3.c3, (e _).trans h3.c4, (e _).trans h3.c5, (e _).trans h3.c6⟩
theorem BxN.below {w w' : World} {b : Nat} {n : Nd} (h : BxN w b n) (hk : Below w.heap.size w w') : BxN w' b n := h.keep ((KT.refl _ _).below hk)
theorem BxN.cells {w : World} {b : Nat} {n : Nd} (h : BxN w b n) : CellsN w b 0 n := h.2
theorem cell_of {w : World} {b : Nat} {A : Array Value} {t : TypeId} {f : Nat × Nat} (h : w.heap[b]? = some (.cells A t f)) (q : Nat) : w.cell? ⟨b, q, none⟩ = A[q]? := by simp [World.cell?, h]
theorem KT.cell {e t : TypeId} {w w' : World} {b : Nat} {A : Array Value} {f : Nat × Nat} (h : KT e w w') (hb : w.heap[b]? = some (.cells A t f)) (ht : t ≠ e) (q : Nat) : w'.cell? ⟨b, q, none⟩ = w.cell? ⟨b, q, none⟩ :=
  World.cell?_of_block (a := ⟨b, q, none⟩) (by show w'.heap[b]? = w.heap[b]?; rw [h.box hb ht, hb])

/-- The images of the first k of five numbers. -/
def stK (a b c d e k : Nat) : List Int := ([a, b, c, d, e].take k).flatMap fun z => bigR z 4
theorem stK_len (a b c d e k : Nat) : (stK a b c d e k).length ≤ 20 := by
  unfold stK
  match k with
  | 0 => simp
  | 1 => simp [bigR_len]
  | 2 => simp [bigR_len]
  | 3 => simp [bigR_len]
  | 4 => simp [bigR_len]
  | k + 5 => simp [bigR_len]
theorem stK_0 (a b c d e : Nat) : stK a b c d e 0 ++ bigR a 4 = stK a b c d e 1 := by simp [stK]
theorem stK_1 (a b c d e : Nat) : stK a b c d e 1 ++ bigR b 4 = stK a b c d e 2 := by simp [stK]
theorem stK_2 (a b c d e : Nat) : stK a b c d e 2 ++ bigR c 4 = stK a b c d e 3 := by simp [stK]
theorem stK_3 (a b c d e : Nat) : stK a b c d e 3 ++ bigR d 4 = stK a b c d e 4 := by simp [stK]
theorem stK_4 (a b c d e : Nat) : stK a b c d e 4 ++ bigR e 4 = stK a b c d e 5 := by simp [stK]

theorem ix_0 (W : World) (b : Nat) : (Instr.index 143 (.agg #[.pointer (some ⟨b, 2, none⟩), .pointer (some ⟨b, 3, none⟩), .pointer (some ⟨b, 4, none⟩), .pointer (some ⟨b, 5, none⟩), .pointer (some ⟨b, 6, none⟩)]) (.int .i64 0)).run Tryd.prog W = .ok (.pointer (some ⟨b, 2, none⟩)) W := by kernel_rfl
theorem ix_1 (W : World) (b : Nat) : (Instr.index 143 (.agg #[.pointer (some ⟨b, 2, none⟩), .pointer (some ⟨b, 3, none⟩), .pointer (some ⟨b, 4, none⟩), .pointer (some ⟨b, 5, none⟩), .pointer (some ⟨b, 6, none⟩)]) (.int .i64 1)).run Tryd.prog W = .ok (.pointer (some ⟨b, 3, none⟩)) W := by kernel_rfl
theorem ix_2 (W : World) (b : Nat) : (Instr.index 143 (.agg #[.pointer (some ⟨b, 2, none⟩), .pointer (some ⟨b, 3, none⟩), .pointer (some ⟨b, 4, none⟩), .pointer (some ⟨b, 5, none⟩), .pointer (some ⟨b, 6, none⟩)]) (.int .i64 2)).run Tryd.prog W = .ok (.pointer (some ⟨b, 4, none⟩)) W := by kernel_rfl
theorem ix_3 (W : World) (b : Nat) : (Instr.index 143 (.agg #[.pointer (some ⟨b, 2, none⟩), .pointer (some ⟨b, 3, none⟩), .pointer (some ⟨b, 4, none⟩), .pointer (some ⟨b, 5, none⟩), .pointer (some ⟨b, 6, none⟩)]) (.int .i64 3)).run Tryd.prog W = .ok (.pointer (some ⟨b, 5, none⟩)) W := by kernel_rfl
theorem ix_4 (W : World) (b : Nat) : (Instr.index 143 (.agg #[.pointer (some ⟨b, 2, none⟩), .pointer (some ⟨b, 3, none⟩), .pointer (some ⟨b, 4, none⟩), .pointer (some ⟨b, 5, none⟩), .pointer (some ⟨b, 6, none⟩)]) (.int .i64 4)).run Tryd.prog W = .ok (.pointer (some ⟨b, 6, none⟩)) W := by kernel_rfl

set_option maxHeartbeats 1000000 in
set_option maxRecDepth 100000 in
theorem encNode_any (w : World) (base : Nat) (v : Value) (xs : List Int) (b : Nat) (n : Nd) (h : Own .u8 5 w base v xs) (hb : base ≤ w.heap.size) (hl : xs.length ≤ 1000000) (hx : BxN w b n) (hn : okNd n = true) :
    Calls Tryd.prog 87 #[.pointer (some ⟨b, 0, none⟩), v] w fun e w' => ∃ v', e = .returned v' ∧ Own .u8 5 w' base v' (xs ++ nodeB n) ∧ Below base w w' ∧ KT 5 w w' := by
  obtain ⟨p1, p2, p3, p4, p5, p6, p7⟩ := okNd_all hn
  have HO : Hid (Own .u8 5 w base v xs) := h
  have HX : Hid (BxN w b n) := hx
  clear h hx hn
  obtain ⟨c0, c1, c2, c3, c4, c5, c6⟩ := HX.out.cells
  go_enter Tryd.func87, Tryd.ntmps87
  go_wp2_with fail
  refine (implText_any w base v xs n.path HO.out hb (by omega) (by omega)).mono ?_
  rintro e w1 ⟨v1, rfl, o1, b1, k1⟩
  have O1 : Hid (Own .u8 5 w1 base v1 (xs ++ txB n.path)) := o1
  have B1 : Hid (Below base w w1) := b1
  have X1 : Hid (BxN w1 b n) := HX.out.keep k1
  have K1 : Hid (KT 5 w w1) := k1
  have s1 := b1.size
  clear o1 b1 k1 c0 c1 c2 c3 c4 c5 c6
  obtain ⟨c0, c1, c2, c3, c4, c5, c6⟩ := X1.out.cells
  go_wp2_with fail
  refine (implText_any w1 base v1 _ n.data O1.out (by omega) (by rw [List.length_append, txB_len]; omega) (by omega)).mono ?_
  rintro e w2 ⟨v2, rfl, o2, b2, k2⟩
  have O2 : Hid (Own .u8 5 w2 base v2 (xs ++ txB n.path ++ txB n.data)) := o2
  have B2 : Hid (Below base w w2) := B1.out.trans b2
  have X2 : Hid (BxN w2 b n) := X1.out.keep k2
  have K2 : Hid (KT 5 w w2) := K1.out.trans k2
  have s2 := B2.out.size
  clear o2 b2 k2 c0 c1 c2 c3 c4 c5 c6 O1 X1 K1
  go_wp2_with fail
  refine (stats_any w2 b 0).mono ?_
  rintro e w3 ⟨rfl, b3⟩
  have O3 : Hid (Own .u8 5 w3 base v2 (xs ++ txB n.path ++ txB n.data)) := O2.out.below b3
  have B3 : Hid (Below base w w3) := B2.out.trans (b3.mono (by omega))
  have X3 : Hid (BxN w3 b n) := X2.out.below b3
  have K3 : Hid (KT 5 w w3) := K2.out.below b3
  clear b3 O2 X2 K2
  obtain ⟨z0, hz0⟩ : ∃ z : Nat, n.ver = (z : Int) := ⟨n.ver.toNat, by omega⟩
  obtain ⟨z1, hz1⟩ : ∃ z : Nat, n.cver = (z : Int) := ⟨n.cver.toNat, by omega⟩
  obtain ⟨z2, hz2⟩ : ∃ z : Nat, n.cz = (z : Int) := ⟨n.cz.toNat, by omega⟩
  obtain ⟨z3, hz3⟩ : ∃ z : Nat, n.mz = (z : Int) := ⟨n.mz.toNat, by omega⟩
  obtain ⟨z4, hz4⟩ : ∃ z : Nat, n.pz = (z : Int) := ⟨n.pz.toNat, by omega⟩
  have HZ : Hid (nodeB n = txB n.path ++ txB n.data ++ stK z0 z1 z2 z3 z4 5) := by
    show _ = _
    unfold nodeB stB stK
    simp [hz0, hz1, hz2, hz3, hz4]
  have HZ0 : Hid (n.ver = (z0 : Int)) := hz0
  have HZ1 : Hid (n.cver = (z1 : Int)) := hz1
  have HZ2 : Hid (n.cz = (z2 : Int)) := hz2
  have HZ3 : Hid (n.mz = (z3 : Int)) := hz3
  have HZ4 : Hid (n.pz = (z4 : Int)) := hz4
  have HL : Hid (∀ k, (xs ++ txB n.path ++ txB n.data ++ stK z0 z1 z2 z3 z4 k).length ≤ 1048576) := by
    intro k
    have := stK_len z0 z1 z2 z3 z4 k
    simp only [List.length_append, txB_len]
    omega
  clear hz0 hz1 hz2 hz3 hz4 p3 p4 p5 p6 p7
  obtain ⟨ys, hys⟩ : ∃ ys, ys = xs ++ txB n.path ++ txB n.data := ⟨_, rfl⟩
  have HYS : Hid (xs ++ nodeB n = ys ++ stK z0 z1 z2 z3 z4 5) := by show _ = _; rw [HZ.out, hys]; simp only [List.append_assoc]
  rw [← hys] at O3 HL
  clear hys HZ
  unfold stP
  go_wp2
  go_loopw [1, 23] (fun vi vk wr => ∃ k : Nat, k ≤ 5 ∧ vk = .int .i64 k ∧ Hid (Own .u8 5 wr base vi (ys ++ stK z0 z1 z2 z3 z4 k)) ∧ Hid (Below base w wr) ∧ Hid (KT 5 w wr) ∧ Hid (BxN wr b n)) (fun _ i _ => 5 - (intOf i).toNat)
  case atStart => exact ⟨0, by omega, rfl, by show Own _ _ _ _ _ _; unfold stK; simp; exact O3.out, B3, K3, X3⟩
  case round =>
    obtain ⟨k, hk, rfl, HW, HB, HK, HXr⟩ := hrel
    have sB := HB.out.size
    obtain ⟨-, -, c2, c3, c4, c5, c6⟩ := HXr.out.cells
    rw [HZ0.out] at c2
    rw [HZ1.out] at c3
    rw [HZ2.out] at c4
    rw [HZ3.out] at c5
    rw [HZ4.out] at c6
    rcases (show k = 0 ∨ k = 1 ∨ k = 2 ∨ k = 3 ∨ k = 4 ∨ k = 5 by omega) with rfl | rfl | rfl | rfl | rfl | rfl
    · have hix := fun W => ix_0 W b
      go_wp2_with fail
      clear hix
      refine (implNumber_any wr base _ _ z0 4 HW.out (by omega) (HL.out _) (by omega)).mono ?_
      rintro e w4 ⟨v4, rfl, o4, b4, k4⟩
      have O4 : Hid (Own .u8 5 w4 base v4 (ys ++ stK z0 z1 z2 z3 z4 1)) := by rw [List.append_assoc, stK_0] at o4; exact o4
      have B4 : Hid (Below base w w4) := HB.out.trans b4
      have K4 : Hid (KT 5 w w4) := HK.out.trans k4
      have X4 : Hid (BxN w4 b n) := HXr.out.keep k4
      clear o4 b4 k4 HW HB HK HXr c2 c3 c4 c5 c6
      go_wp2
      exact ⟨⟨1, by omega, rfl, O4, B4, K4, X4⟩, by simp [intOf]⟩
    · have hix := fun W => ix_1 W b
      go_wp2_with fail
      clear hix
      refine (implNumber_any wr base _ _ z1 4 HW.out (by omega) (HL.out _) (by omega)).mono ?_
      rintro e w4 ⟨v4, rfl, o4, b4, k4⟩
      have O4 : Hid (Own .u8 5 w4 base v4 (ys ++ stK z0 z1 z2 z3 z4 2)) := by rw [List.append_assoc, stK_1] at o4; exact o4
      have B4 : Hid (Below base w w4) := HB.out.trans b4
      have K4 : Hid (KT 5 w w4) := HK.out.trans k4
      have X4 : Hid (BxN w4 b n) := HXr.out.keep k4
      clear o4 b4 k4 HW HB HK HXr c2 c3 c4 c5 c6
      go_wp2
      exact ⟨⟨2, by omega, rfl, O4, B4, K4, X4⟩, by simp [intOf]⟩
    · have hix := fun W => ix_2 W b
      go_wp2_with fail
      clear hix
      refine (implNumber_any wr base _ _ z2 4 HW.out (by omega) (HL.out _) (by omega)).mono ?_
      rintro e w4 ⟨v4, rfl, o4, b4, k4⟩
      have O4 : Hid (Own .u8 5 w4 base v4 (ys ++ stK z0 z1 z2 z3 z4 3)) := by rw [List.append_assoc, stK_2] at o4; exact o4
      have B4 : Hid (Below base w w4) := HB.out.trans b4
      have K4 : Hid (KT 5 w w4) := HK.out.trans k4
      have X4 : Hid (BxN w4 b n) := HXr.out.keep k4
      clear o4 b4 k4 HW HB HK HXr c2 c3 c4 c5 c6
      go_wp2
      exact ⟨⟨3, by omega, rfl, O4, B4, K4, X4⟩, by simp [intOf]⟩
    · have hix := fun W => ix_3 W b
      go_wp2_with fail
      clear hix
      refine (implNumber_any wr base _ _ z3 4 HW.out (by omega) (HL.out _) (by omega)).mono ?_
      rintro e w4 ⟨v4, rfl, o4, b4, k4⟩
      have O4 : Hid (Own .u8 5 w4 base v4 (ys ++ stK z0 z1 z2 z3 z4 4)) := by rw [List.append_assoc, stK_3] at o4; exact o4
      have B4 : Hid (Below base w w4) := HB.out.trans b4
      have K4 : Hid (KT 5 w w4) := HK.out.trans k4
      have X4 : Hid (BxN w4 b n) := HXr.out.keep k4
      clear o4 b4 k4 HW HB HK HXr c2 c3 c4 c5 c6
      go_wp2
      exact ⟨⟨4, by omega, rfl, O4, B4, K4, X4⟩, by simp [intOf]⟩
    · have hix := fun W => ix_4 W b
      go_wp2_with fail
      clear hix
      refine (implNumber_any wr base _ _ z4 4 HW.out (by omega) (HL.out _) (by omega)).mono ?_
      rintro e w4 ⟨v4, rfl, o4, b4, k4⟩
      have O4 : Hid (Own .u8 5 w4 base v4 (ys ++ stK z0 z1 z2 z3 z4 5)) := by rw [List.append_assoc, stK_4] at o4; exact o4
      have B4 : Hid (Below base w w4) := HB.out.trans b4
      have K4 : Hid (KT 5 w w4) := HK.out.trans k4
      have X4 : Hid (BxN w4 b n) := HXr.out.keep k4
      clear o4 b4 k4 HW HB HK HXr c2 c3 c4 c5 c6
      go_wp2
      exact ⟨⟨5, by omega, rfl, O4, B4, K4, X4⟩, by simp [intOf]⟩
    · clear c2 c3 c4 c5 c6
      go_wp2
      go_ret
      exact ⟨_, rfl, (by rw [HYS.out]; exact HW.out), HB.out, HK.out⟩

end Go.Proofs.YtgjenbgclpmjmaaDoor

namespace Go.Proofs.YtgjenbgclpmjmaaDoor
open Go.RowKit

set_option maxHeartbeats 400000 in
theorem sorted_nil (w : World) (ao : Option Addr) (cap : Nat) :
    Calls Tryd.prog 58 #[.slice ao 0 cap] w fun e w' => e = .returned (.bool true) ∧ w' = w := by
  go_enter Tryd.func58, Tryd.ntmps58
  go_wp2
  go_rounds 1
  go_ret
  exact ⟨rfl, rfl⟩

theorem sorted_any (w : World) (v : Value) (ns : List Nd) (h : RdN w v ns) (hn : ns.length ≤ 1048576) (hsz : ∀ i, (nAt ns i).path.size ≤ 1048576 ∧ (nAt ns i).data.size ≤ 1048576) :
    Calls Tryd.prog 58 #[v] w fun e w' => e = .returned (.bool (okSorted ns)) ∧ Below w.heap.size w w' := by
  obtain ⟨ao, cap, rfl, k1, k2, k3⟩ := h
  rcases k3 with rfl | ⟨b, o, rfl, hb, hc⟩
  · refine (sorted_nil w ao cap).mono ?_
    rintro e w' ⟨rfl, rfl⟩
    exact ⟨rfl, Below.refl _ _⟩
  · exact sorted_row w b o ns.length cap ns rfl hn hb hsz hc

set_option maxHeartbeats 1000000 in
set_option maxRecDepth 100000 in
theorem specTree_any (w : World) (v : Value) (ns : List Nd) (h : RdN w v ns) (hn : ns.length ≤ 1048576) (hsz : ∀ i, (nAt ns i).path.size ≤ 1048576 ∧ (nAt ns i).data.size ≤ 1048576) :
    Calls Tryd.prog 15 #[.agg #[v]] w fun e w' => e = .returned (.bool (okTree ns)) ∧ Below w.heap.size w w' := by
  obtain ⟨ao, cap, rfl, k1, k2⟩ := h.len
  have B0 : Hid (Below w.heap.size w (w.alloc (.cells #[.slice ao ns.length cap] 30))) := (Below.refl _ _).alloc (Nat.le_refl _) _
  have HR : Hid (RdN (w.alloc (.cells #[.slice ao ns.length cap] 30)) (.slice ao ns.length cap) ns) := h.below B0.out
  clear h
  by_cases h1 : ns.length ≤ 1000
  · have h1I : (ns.length : Int) ≤ 1000 := by omega
    have HE : Hid (okTree ns = okSorted ns) := by show _ = _; unfold okTree; rw [decide_eq_true h1]; rfl
    go_enter Tryd.func15, Tryd.ntmps15
    go_wp2_with fail
    refine (sorted_any _ _ ns HR.out hn hsz).mono ?_
    rintro e w1 ⟨rfl, b1⟩
    have B1 : Hid (Below w.heap.size w w1) := B0.out.trans (b1.mono (by simp))
    clear b1
    go_wp2
    go_ret
    exact ⟨ret_b HE.out.symm, B1.out⟩
  · have h1I : ¬ (ns.length : Int) ≤ 1000 := by omega
    have HE : Hid (okTree ns = false) := by show _ = _; unfold okTree; rw [decide_eq_false h1]; rfl
    go_enter Tryd.func15, Tryd.ntmps15
    go_wp2
    go_ret
    exact ⟨ret_b HE.out.symm, B0.out⟩

theorem BoxN.all {w : World} {B : Nat} {n : Nd} (h : BoxN w B n) : w.cell? ⟨B, 0, none⟩ = some (.string n.path) ∧ w.cell? ⟨B, 1, none⟩ = some (.string n.data) ∧ w.cell? ⟨B, 2, none⟩ = some (.int .i64 n.ver) ∧ w.cell? ⟨B, 3, none⟩ = some (.int .i64 n.cver) ∧ w.cell? ⟨B, 4, none⟩ = some (.int .i64 n.cz) ∧ w.cell? ⟨B, 5, none⟩ = some (.int .i64 n.mz) ∧ w.cell? ⟨B, 6, none⟩ = some (.int .i64 n.pz) := ⟨h.c0, h.c1, h.c2, h.c3, h.c4, h.c5, h.c6⟩

set_option maxHeartbeats 4000000 in
set_option maxRecDepth 100000 in
theorem implTree_row (w : World) (b o n cap : Nat) (ns : List Nd) (hp : ns.length = n) (hn : n ≤ 1000) (hb : b < w.heap.size) (hsz : ∀ i, (nAt ns i).path.size ≤ 1048576 ∧ (nAt ns i).data.size ≤ 1048576)
    (hc : ∀ i, i < n → CellsN w b (o + i * 7) (nAt ns i)) :
    Calls Tryd.prog 17 #[.agg #[.slice (some ⟨b, o, none⟩) n cap]] w fun e w' => e = .returned (.bool (okSorted ns)) ∧ Below w.heap.size w w' := by
  have HC : Hid (∀ i, i < n → CellsN w b (o + i * 7) (nAt ns i)) := hc
  have HP : Hid (ns.length = n) := hp
  have HZ : Hid (∀ i, (nAt ns i).path.size ≤ 1048576 ∧ (nAt ns i).data.size ≤ 1048576) := hsz
  have h1I : ¬ (1000 : Int) < (n : Int) := by omega
  clear hc hp hsz
  have B0 : Hid (Below w.heap.size w (w.alloc (.cells #[.slice (some ⟨b, o, none⟩) n cap] 30))) := (Below.refl _ _).alloc (Nat.le_refl _) _
  have c00 : Hid ((w.alloc (.cells #[.slice (some ⟨b, o, none⟩) n cap] 30)).cell? ⟨w.heap.size, 0, none⟩ = some (.slice (some ⟨b, o, none⟩) n cap)) := by show _ = _; simp
  have z0 : w.heap.size < (w.alloc (.cells #[.slice (some ⟨b, o, none⟩) n cap] 30)).heap.size := by simp
  go_enter Tryd.func17, Tryd.ntmps17
  go_wp2
  generalize w.alloc (.cells #[.slice (some ⟨b, o, none⟩) n cap] 30) = w0 at *
  go_loopw [12] (fun i wr => ∃ k : Nat, k ≤ n ∧ i = .int .i64 k ∧ Hid (∀ t, t < k → okAt ns t = true) ∧ Hid (Below w0.heap.size w0 wr)) (fun i _ => n - (intOf i).toNat)
  case atStart => exact ⟨0, Nat.zero_le _, rfl, (fun t ht => by omega), Below.refl _ _⟩
  case round =>
    obtain ⟨k, hk, rfl, HA, HG⟩ := hrel
    have HG0 : Hid (Below w.heap.size w wr) := B0.out.trans (HG.out.mono (by omega))
    by_cases hlt : k < n
    · have hltI : (k : Int) < (n : Int) := by omega
      have g0 : (0 : Int) ≤ (k : Int) := by omega
      have HLT : Hid (k < ns.length) := by rw [HP.out]; exact hlt
      obtain ⟨c0, c1, c2, c3, c4, c5, c6⟩ := (HC.out k hlt).below HG0.out hb
      have XN : Hid (BoxN (wr.alloc (.cells #[.string (nAt ns k).path, .string (nAt ns k).data, .int .i64 (nAt ns k).ver, .int .i64 (nAt ns k).cver, .int .i64 (nAt ns k).cz, .int .i64 (nAt ns k).mz, .int .i64 (nAt ns k).pz] 81)) wr.heap.size (nAt ns k)) := BoxN.new _ _ _
      have BN : Hid (Below wr.heap.size wr (wr.alloc (.cells #[.string (nAt ns k).path, .string (nAt ns k).data, .int .i64 (nAt ns k).ver, .int .i64 (nAt ns k).cver, .int .i64 (nAt ns k).cz, .int .i64 (nAt ns k).mz, .int .i64 (nAt ns k).pz] 81))) := (Below.refl _ _).alloc (Nat.le_refl _) _
      go_wp2
      clear c0 c1 c2 c3 c4 c5 c6
      generalize wr.alloc (.cells #[.string (nAt ns k).path, .string (nAt ns k).data, .int .i64 (nAt ns k).ver, .int .i64 (nAt ns k).cver, .int .i64 (nAt ns k).cz, .int .i64 (nAt ns k).mz, .int .i64 (nAt ns k).pz] 81) = wn at *
      have zr := HG.out.size
      obtain ⟨B, hB⟩ : ∃ B, B = wr.heap.size := ⟨_, rfl⟩
      rw [← hB] at XN
      rw [← hB]
      have HBn : Hid (∀ W, Below wn.heap.size wn W → Below w.heap.size w W) := fun W hW => (HG0.out.trans (BN.out.mono HG0.out.size)).trans (hW.mono (Nat.le_trans HG0.out.size BN.out.size))
      have HBz : Hid (∀ W, Below wn.heap.size wn W → Hid (Below w0.heap.size w0 W)) := fun W hW => (HG.out.trans (BN.out.mono HG.out.size)).trans (hW.mono (Nat.le_trans HG.out.size BN.out.size))
      have CT : Hid (∀ W, Below wn.heap.size wn W → W.cell? ⟨w.heap.size, 0, none⟩ = some (.slice (some ⟨b, o, none⟩) n cap)) := fun W hW => ((HBz.out W hW).out.cell (p := ⟨w.heap.size, 0, none⟩) z0).trans c00.out
      have HE : Hid (∀ q, Calls Tryd.prog 60 #[.agg #[.string (nAt ns k).path, .string (nAt ns k).data, .int .i64 (nAt ns k).ver, .int .i64 (nAt ns k).cver, .int .i64 (nAt ns k).cz, .int .i64 (nAt ns k).mz, .int .i64 (nAt ns k).pz]] (wn.drewN q) fun e w' => e = .returned (.bool (okNd (nAt ns k))) ∧ Hid (Below wn.heap.size wn w')) := by
        intro q
        refine (implNode_any _ (nAt ns k) (HZ.out k).2).mono ?_
        rintro e w' ⟨rfl, b'⟩
        exact ⟨rfl, (below_drewN' wn q).trans b'⟩
      have HD : Hid (Below wn.heap.size wn wn.drew) := below_drewN' wn 1
      have HHB : Hid (B = wr.heap.size) := hB
      clear hB BN
      cases hok : okNd (nAt ns k) with
      | false =>
        have HOK : Hid (okNd (nAt ns k) = false) := hok
        have HN : Hid (okSorted ns = false) := sorted_no HLT.out (by unfold okAt; rw [hok]; rfl)
        clear hok
        refine wp_region_held_drew (S := fun W => Hid (Below wn.heap.size wn W) ∧ (W.cell? ⟨B, 0, none⟩ = some (.string (nAt ns k).path) ∧ W.cell? ⟨B, 1, none⟩ = some (.string (nAt ns k).data) ∧ W.cell? ⟨B, 2, none⟩ = some (.int .i64 (nAt ns k).ver) ∧ W.cell? ⟨B, 3, none⟩ = some (.int .i64 (nAt ns k).cver) ∧ W.cell? ⟨B, 4, none⟩ = some (.int .i64 (nAt ns k).cz) ∧ W.cell? ⟨B, 5, none⟩ = some (.int .i64 (nAt ns k).mz) ∧ W.cell? ⟨B, 6, none⟩ = some (.int .i64 (nAt ns k).pz))) (by kernel_rfl) (⟨HD, (XN.out.below HD.out).all⟩) (fun hHeld => ?_)
        refine wpAnyH_take (i := 0) (oi := { dst := some 17, op := _, type := _, pos := _, after := _, guard := _ }) (v := ?v1) rfl (by kernel_rfl) (by kernel_rfl) (by kernel_rfl) (fun _ _ _ h => h) (Or.inl ⟨by rfl, ?hy1⟩) (by assumption) ?rest1
        case hy1 =>
          intro w9 hS9
          obtain ⟨-, hS9⟩ := hS9
          go_simp
          try with_reducible rfl
        try simp only [Act.put, List.setIfInBounds_toArray, List.set_cons_zero, List.set_cons_succ]
        refine wpAnyH_ready (rs := [1]) (by kernel_rfl) (by simp) ?_
        refine AllReadyH.cons (o := { dst := some 18, op := _, type := _, pos := _, after := _, guard := _ }) rfl (fun K hK => ?_) AllReadyH.nil
        go_simp
        refine (HE.out 1).mono ?_
        rintro e w' ⟨rfl, HB⟩
        rw [HOK.out]
        refine hK.out _ _ ((show (fun W => Hid (Below wn.heap.size wn W) ∧ (W.cell? ⟨B, 0, none⟩ = some (.string (nAt ns k).path) ∧ W.cell? ⟨B, 1, none⟩ = some (.string (nAt ns k).data) ∧ W.cell? ⟨B, 2, none⟩ = some (.int .i64 (nAt ns k).ver) ∧ W.cell? ⟨B, 3, none⟩ = some (.int .i64 (nAt ns k).cver) ∧ W.cell? ⟨B, 4, none⟩ = some (.int .i64 (nAt ns k).cz) ∧ W.cell? ⟨B, 5, none⟩ = some (.int .i64 (nAt ns k).mz) ∧ W.cell? ⟨B, 6, none⟩ = some (.int .i64 (nAt ns k).pz))) w' from ⟨HB, (XN.out.below HB.out).all⟩)) (fun _ => ?_)
        clear hK K hHeld
        have hHeld := (show (fun W => Hid (Below wn.heap.size wn W) ∧ (W.cell? ⟨B, 0, none⟩ = some (.string (nAt ns k).path) ∧ W.cell? ⟨B, 1, none⟩ = some (.string (nAt ns k).data) ∧ W.cell? ⟨B, 2, none⟩ = some (.int .i64 (nAt ns k).ver) ∧ W.cell? ⟨B, 3, none⟩ = some (.int .i64 (nAt ns k).cver) ∧ W.cell? ⟨B, 4, none⟩ = some (.int .i64 (nAt ns k).cz) ∧ W.cell? ⟨B, 5, none⟩ = some (.int .i64 (nAt ns k).mz) ∧ W.cell? ⟨B, 6, none⟩ = some (.int .i64 (nAt ns k).pz))) w' from ⟨HB, (XN.out.below HB.out).all⟩)
        try simp only [Act.put, List.setIfInBounds_toArray, List.set_cons_zero, List.set_cons_succ]
        refine wpAnyH_take (i := 2) (oi := { dst := some 19, op := _, type := _, pos := _, after := _, guard := _ }) (v := ?v2) rfl (by kernel_rfl) (by kernel_rfl) (by kernel_rfl) (fun _ _ _ h => h) (Or.inl ⟨by rfl, ?hy2⟩) (by assumption) ?rest2
        case hy2 =>
          intro w9 hS9
          obtain ⟨-, hS9⟩ := hS9
          go_simp
          try with_reducible rfl
        try simp only [Act.put, List.setIfInBounds_toArray, List.set_cons_zero, List.set_cons_succ]
        refine wpAnyH_take (i := 3) (oi := { dst := some 20, op := _, type := _, pos := _, after := _, guard := _ }) (v := ?v3) rfl (by kernel_rfl) (by kernel_rfl) (by kernel_rfl) (fun _ _ _ h => h) (Or.inl ⟨by rfl, ?hy3⟩) (by assumption) ?rest3
        case hy3 =>
          intro w9 hS9
          obtain ⟨-, hS9⟩ := hS9
          go_simp
          try with_reducible rfl
        try simp only [Act.put, List.setIfInBounds_toArray, List.set_cons_zero, List.set_cons_succ]
        refine wpAnyH_take (i := 4) (oi := { dst := some 21, op := _, type := _, pos := _, after := _, guard := _ }) (v := undef) rfl (by kernel_rfl) (by kernel_rfl) (by kernel_rfl) (fun _ _ _ h => h) (Or.inr ⟨by rfl, rfl⟩) (by assumption) ?_
        try simp only [Act.put, List.setIfInBounds_toArray, List.set_cons_zero, List.set_cons_succ]
        refine wpAnyH_take (i := 5) (oi := { dst := some 22, op := _, type := _, pos := _, after := _, guard := _ }) (v := undef) rfl (by kernel_rfl) (by kernel_rfl) (by kernel_rfl) (fun _ _ _ h => h) (Or.inr ⟨by rfl, rfl⟩) (by assumption) ?_
        try simp only [Act.put, List.setIfInBounds_toArray, List.set_cons_zero, List.set_cons_succ]
        refine wpAnyH_take (i := 6) (oi := { dst := some 23, op := _, type := _, pos := _, after := _, guard := _ }) (v := undef) rfl (by kernel_rfl) (by kernel_rfl) (by kernel_rfl) (fun _ _ _ h => h) (Or.inr ⟨by rfl, rfl⟩) (by assumption) ?_
        try simp only [Act.put, List.setIfInBounds_toArray, List.set_cons_zero, List.set_cons_succ]
        refine wpAnyH_take (i := 7) (oi := { dst := some 24, op := _, type := _, pos := _, after := _, guard := _ }) (v := undef) rfl (by kernel_rfl) (by kernel_rfl) (by kernel_rfl) (fun _ _ _ h => h) (Or.inr ⟨by rfl, rfl⟩) (by assumption) ?_
        try simp only [Act.put, List.setIfInBounds_toArray, List.set_cons_zero, List.set_cons_succ]
        refine wpAnyH_take (i := 8) (oi := { dst := some 25, op := _, type := _, pos := _, after := _, guard := _ }) (v := undef) rfl (by kernel_rfl) (by kernel_rfl) (by kernel_rfl) (fun _ _ _ h => h) (Or.inr ⟨by rfl, rfl⟩) (by assumption) ?_
        try simp only [Act.put, List.setIfInBounds_toArray, List.set_cons_zero, List.set_cons_succ]
        refine wpAnyH_take (i := 9) (oi := { dst := some 26, op := _, type := _, pos := _, after := _, guard := _ }) (v := undef) rfl (by kernel_rfl) (by kernel_rfl) (by kernel_rfl) (fun _ _ _ h => h) (Or.inr ⟨by rfl, rfl⟩) (by assumption) ?_
        try simp only [Act.put, List.setIfInBounds_toArray, List.set_cons_zero, List.set_cons_succ]
        refine wpAnyH_take (i := 10) (oi := { dst := some 27, op := _, type := _, pos := _, after := _, guard := _ }) (v := undef) rfl (by kernel_rfl) (by kernel_rfl) (by kernel_rfl) (fun _ _ _ h => h) (Or.inr ⟨by rfl, rfl⟩) (by assumption) ?_
        try simp only [Act.put, List.setIfInBounds_toArray, List.set_cons_zero, List.set_cons_succ]
        refine wpAnyH_take (i := 11) (oi := { dst := some 28, op := _, type := _, pos := _, after := _, guard := _ }) (v := undef) rfl (by kernel_rfl) (by kernel_rfl) (by kernel_rfl) (fun _ _ _ h => h) (Or.inr ⟨by rfl, rfl⟩) (by assumption) ?_
        try simp only [Act.put, List.setIfInBounds_toArray, List.set_cons_zero, List.set_cons_succ]
        refine wpAnyH_take (i := 12) (oi := { dst := some 29, op := _, type := _, pos := _, after := _, guard := _ }) (v := undef) rfl (by kernel_rfl) (by kernel_rfl) (by kernel_rfl) (fun _ _ _ h => h) (Or.inr ⟨by rfl, rfl⟩) (by assumption) ?_
        try simp only [Act.put, List.setIfInBounds_toArray, List.set_cons_zero, List.set_cons_succ]
        refine wpAnyH_take (i := 13) (oi := { dst := some 30, op := _, type := _, pos := _, after := _, guard := _ }) (v := undef) rfl (by kernel_rfl) (by kernel_rfl) (by kernel_rfl) (fun _ _ _ h => h) (Or.inr ⟨by rfl, rfl⟩) (by assumption) ?_
        try simp only [Act.put, List.setIfInBounds_toArray, List.set_cons_zero, List.set_cons_succ]
        refine wpAnyH_take (i := 14) (oi := { dst := some 31, op := _, type := _, pos := _, after := _, guard := _ }) (v := undef) rfl (by kernel_rfl) (by kernel_rfl) (by kernel_rfl) (fun _ _ _ h => h) (Or.inr ⟨by rfl, rfl⟩) (by assumption) ?_
        try simp only [Act.put, List.setIfInBounds_toArray, List.set_cons_zero, List.set_cons_succ]
        refine wpAnyH_take (i := 15) (oi := { dst := some 32, op := _, type := _, pos := _, after := _, guard := _ }) (v := undef) rfl (by kernel_rfl) (by kernel_rfl) (by kernel_rfl) (fun _ _ _ h => h) (Or.inr ⟨by rfl, rfl⟩) (by assumption) ?_
        try simp only [Act.put, List.setIfInBounds_toArray, List.set_cons_zero, List.set_cons_succ]
        refine wpAnyH_take (i := 16) (oi := { dst := some 33, op := _, type := _, pos := _, after := _, guard := _ }) (v := undef) rfl (by kernel_rfl) (by kernel_rfl) (by kernel_rfl) (fun _ _ _ h => h) (Or.inr ⟨by rfl, rfl⟩) (by assumption) ?_
        try simp only [Act.put, List.setIfInBounds_toArray, List.set_cons_zero, List.set_cons_succ]
        refine wpAnyH_take (i := 17) (oi := { dst := some 34, op := _, type := _, pos := _, after := _, guard := _ }) (v := undef) rfl (by kernel_rfl) (by kernel_rfl) (by kernel_rfl) (fun _ _ _ h => h) (Or.inr ⟨by rfl, rfl⟩) (by assumption) ?_
        try simp only [Act.put, List.setIfInBounds_toArray, List.set_cons_zero, List.set_cons_succ]
        refine wpAnyH_take (i := 18) (oi := { dst := some 35, op := _, type := _, pos := _, after := _, guard := _ }) (v := ?v4) rfl (by kernel_rfl) (by kernel_rfl) (by kernel_rfl) (fun _ _ _ h => h) (Or.inl ⟨by rfl, ?hy4⟩) (by assumption) ?rest4
        case hy4 =>
          intro w9 hS9
          obtain ⟨-, hS9⟩ := hS9
          go_simp
          try with_reducible rfl
        try simp only [Act.put, List.setIfInBounds_toArray, List.set_cons_zero, List.set_cons_succ]
        refine wpAnyH_done (by kernel_rfl) ?_ _
        clear hHeld
        go_wp2
        go_ret
        exact ⟨ret_b HN.out.symm, HBn.out _ HB.out⟩
      | true =>
        have HOK : Hid (okNd (nAt ns k) = true) := hok
        clear hok
        cases k with
        | zero =>
          have HT : Hid (okAt ns 0 = true) := by show _ = _; rw [okAt_zero]; exact HOK.out
          have g2 : (0 : Int) < (n : Int) := by omega
          refine wp_region_held_drew (S := fun W => Hid (Below wn.heap.size wn W) ∧ (W.cell? ⟨B, 0, none⟩ = some (.string (nAt ns 0).path) ∧ W.cell? ⟨B, 1, none⟩ = some (.string (nAt ns 0).data) ∧ W.cell? ⟨B, 2, none⟩ = some (.int .i64 (nAt ns 0).ver) ∧ W.cell? ⟨B, 3, none⟩ = some (.int .i64 (nAt ns 0).cver) ∧ W.cell? ⟨B, 4, none⟩ = some (.int .i64 (nAt ns 0).cz) ∧ W.cell? ⟨B, 5, none⟩ = some (.int .i64 (nAt ns 0).mz) ∧ W.cell? ⟨B, 6, none⟩ = some (.int .i64 (nAt ns 0).pz))) (by kernel_rfl) (⟨HD, (XN.out.below HD.out).all⟩) (fun hHeld => ?_)
          refine wpAnyH_take (i := 0) (oi := { dst := some 17, op := _, type := _, pos := _, after := _, guard := _ }) (v := ?v5) rfl (by kernel_rfl) (by kernel_rfl) (by kernel_rfl) (fun _ _ _ h => h) (Or.inl ⟨by rfl, ?hy5⟩) (by assumption) ?rest5
          case hy5 =>
            intro w9 hS9
            obtain ⟨-, hS9⟩ := hS9
            go_simp
            try with_reducible rfl
          try simp only [Act.put, List.setIfInBounds_toArray, List.set_cons_zero, List.set_cons_succ]
          refine wpAnyH_ready (rs := [1]) (by kernel_rfl) (by simp) ?_
          refine AllReadyH.cons (o := { dst := some 18, op := _, type := _, pos := _, after := _, guard := _ }) rfl (fun K hK => ?_) AllReadyH.nil
          go_simp
          refine (HE.out 1).mono ?_
          rintro e w' ⟨rfl, HB⟩
          rw [HOK.out]
          refine hK.out _ _ ((show (fun W => Hid (Below wn.heap.size wn W) ∧ (W.cell? ⟨B, 0, none⟩ = some (.string (nAt ns 0).path) ∧ W.cell? ⟨B, 1, none⟩ = some (.string (nAt ns 0).data) ∧ W.cell? ⟨B, 2, none⟩ = some (.int .i64 (nAt ns 0).ver) ∧ W.cell? ⟨B, 3, none⟩ = some (.int .i64 (nAt ns 0).cver) ∧ W.cell? ⟨B, 4, none⟩ = some (.int .i64 (nAt ns 0).cz) ∧ W.cell? ⟨B, 5, none⟩ = some (.int .i64 (nAt ns 0).mz) ∧ W.cell? ⟨B, 6, none⟩ = some (.int .i64 (nAt ns 0).pz))) w' from ⟨HB, (XN.out.below HB.out).all⟩)) (fun _ => ?_)
          clear hK K hHeld
          have hHeld := (show (fun W => Hid (Below wn.heap.size wn W) ∧ (W.cell? ⟨B, 0, none⟩ = some (.string (nAt ns 0).path) ∧ W.cell? ⟨B, 1, none⟩ = some (.string (nAt ns 0).data) ∧ W.cell? ⟨B, 2, none⟩ = some (.int .i64 (nAt ns 0).ver) ∧ W.cell? ⟨B, 3, none⟩ = some (.int .i64 (nAt ns 0).cver) ∧ W.cell? ⟨B, 4, none⟩ = some (.int .i64 (nAt ns 0).cz) ∧ W.cell? ⟨B, 5, none⟩ = some (.int .i64 (nAt ns 0).mz) ∧ W.cell? ⟨B, 6, none⟩ = some (.int .i64 (nAt ns 0).pz))) w' from ⟨HB, (XN.out.below HB.out).all⟩)
          try simp only [Act.put, List.setIfInBounds_toArray, List.set_cons_zero, List.set_cons_succ]
          refine wpAnyH_take (i := 2) (oi := { dst := some 19, op := _, type := _, pos := _, after := _, guard := _ }) (v := ?v6) rfl (by kernel_rfl) (by kernel_rfl) (by kernel_rfl) (fun _ _ _ h => h) (Or.inl ⟨by rfl, ?hy6⟩) (by assumption) ?rest6
          case hy6 =>
            intro w9 hS9
            obtain ⟨-, hS9⟩ := hS9
            go_simp
            try with_reducible rfl
          try simp only [Act.put, List.setIfInBounds_toArray, List.set_cons_zero, List.set_cons_succ]
          refine wpAnyH_take (i := 3) (oi := { dst := some 20, op := _, type := _, pos := _, after := _, guard := _ }) (v := ?v7) rfl (by kernel_rfl) (by kernel_rfl) (by kernel_rfl) (fun _ _ _ h => h) (Or.inl ⟨by rfl, ?hy7⟩) (by assumption) ?rest7
          case hy7 =>
            intro w9 hS9
            obtain ⟨-, hS9⟩ := hS9
            go_simp
            try with_reducible rfl
          try simp only [Act.put, List.setIfInBounds_toArray, List.set_cons_zero, List.set_cons_succ]
          refine wpAnyH_take (i := 4) (oi := { dst := some 21, op := _, type := _, pos := _, after := _, guard := _ }) (v := ?v8) rfl (by kernel_rfl) (by kernel_rfl) (by kernel_rfl) (fun _ _ _ h => h) (Or.inl ⟨by rfl, ?hy8⟩) (by assumption) ?rest8
          case hy8 =>
            intro w9 hS9
            obtain ⟨-, hS9⟩ := hS9
            go_simp
            try with_reducible rfl
          try simp only [Act.put, List.setIfInBounds_toArray, List.set_cons_zero, List.set_cons_succ]
          refine wpAnyH_take (i := 5) (oi := { dst := some 22, op := _, type := _, pos := _, after := _, guard := _ }) (v := ?v9) rfl (by kernel_rfl) (by kernel_rfl) (by kernel_rfl) (fun _ _ _ h => h) (Or.inl ⟨by rfl, ?hy9⟩) (by assumption) ?rest9
          case hy9 =>
            intro w9 hS9
            obtain ⟨-, hS9⟩ := hS9
            go_simp
            try with_reducible rfl
          try simp only [Act.put, List.setIfInBounds_toArray, List.set_cons_zero, List.set_cons_succ]
          refine wpAnyH_take (i := 6) (oi := { dst := some 23, op := _, type := _, pos := _, after := _, guard := _ }) (v := ?v10) rfl (by kernel_rfl) (by kernel_rfl) (by kernel_rfl) (fun _ _ _ h => h) (Or.inl ⟨by rfl, ?hy10⟩) (by assumption) ?rest10
          case hy10 =>
            intro w9 hS9
            obtain ⟨-, hS9⟩ := hS9
            go_simp
            try with_reducible rfl
          try simp only [Act.put, List.setIfInBounds_toArray, List.set_cons_zero, List.set_cons_succ]
          refine wpAnyH_take (i := 7) (oi := { dst := some 24, op := _, type := _, pos := _, after := _, guard := _ }) (v := undef) rfl (by kernel_rfl) (by kernel_rfl) (by kernel_rfl) (fun _ _ _ h => h) (Or.inr ⟨by rfl, rfl⟩) (by assumption) ?_
          try simp only [Act.put, List.setIfInBounds_toArray, List.set_cons_zero, List.set_cons_succ]
          refine wpAnyH_take (i := 8) (oi := { dst := some 25, op := _, type := _, pos := _, after := _, guard := _ }) (v := undef) rfl (by kernel_rfl) (by kernel_rfl) (by kernel_rfl) (fun _ _ _ h => h) (Or.inr ⟨by rfl, rfl⟩) (by assumption) ?_
          try simp only [Act.put, List.setIfInBounds_toArray, List.set_cons_zero, List.set_cons_succ]
          refine wpAnyH_take (i := 9) (oi := { dst := some 26, op := _, type := _, pos := _, after := _, guard := _ }) (v := undef) rfl (by kernel_rfl) (by kernel_rfl) (by kernel_rfl) (fun _ _ _ h => h) (Or.inr ⟨by rfl, rfl⟩) (by assumption) ?_
          try simp only [Act.put, List.setIfInBounds_toArray, List.set_cons_zero, List.set_cons_succ]
          refine wpAnyH_take (i := 10) (oi := { dst := some 27, op := _, type := _, pos := _, after := _, guard := _ }) (v := undef) rfl (by kernel_rfl) (by kernel_rfl) (by kernel_rfl) (fun _ _ _ h => h) (Or.inr ⟨by rfl, rfl⟩) (by assumption) ?_
          try simp only [Act.put, List.setIfInBounds_toArray, List.set_cons_zero, List.set_cons_succ]
          refine wpAnyH_take (i := 11) (oi := { dst := some 28, op := _, type := _, pos := _, after := _, guard := _ }) (v := undef) rfl (by kernel_rfl) (by kernel_rfl) (by kernel_rfl) (fun _ _ _ h => h) (Or.inr ⟨by rfl, rfl⟩) (by assumption) ?_
          try simp only [Act.put, List.setIfInBounds_toArray, List.set_cons_zero, List.set_cons_succ]
          refine wpAnyH_take (i := 12) (oi := { dst := some 29, op := _, type := _, pos := _, after := _, guard := _ }) (v := undef) rfl (by kernel_rfl) (by kernel_rfl) (by kernel_rfl) (fun _ _ _ h => h) (Or.inr ⟨by rfl, rfl⟩) (by assumption) ?_
          try simp only [Act.put, List.setIfInBounds_toArray, List.set_cons_zero, List.set_cons_succ]
          refine wpAnyH_take (i := 13) (oi := { dst := some 30, op := _, type := _, pos := _, after := _, guard := _ }) (v := undef) rfl (by kernel_rfl) (by kernel_rfl) (by kernel_rfl) (fun _ _ _ h => h) (Or.inr ⟨by rfl, rfl⟩) (by assumption) ?_
          try simp only [Act.put, List.setIfInBounds_toArray, List.set_cons_zero, List.set_cons_succ]
          refine wpAnyH_take (i := 14) (oi := { dst := some 31, op := _, type := _, pos := _, after := _, guard := _ }) (v := undef) rfl (by kernel_rfl) (by kernel_rfl) (by kernel_rfl) (fun _ _ _ h => h) (Or.inr ⟨by rfl, rfl⟩) (by assumption) ?_
          try simp only [Act.put, List.setIfInBounds_toArray, List.set_cons_zero, List.set_cons_succ]
          refine wpAnyH_take (i := 15) (oi := { dst := some 32, op := _, type := _, pos := _, after := _, guard := _ }) (v := undef) rfl (by kernel_rfl) (by kernel_rfl) (by kernel_rfl) (fun _ _ _ h => h) (Or.inr ⟨by rfl, rfl⟩) (by assumption) ?_
          try simp only [Act.put, List.setIfInBounds_toArray, List.set_cons_zero, List.set_cons_succ]
          refine wpAnyH_take (i := 16) (oi := { dst := some 33, op := _, type := _, pos := _, after := _, guard := _ }) (v := undef) rfl (by kernel_rfl) (by kernel_rfl) (by kernel_rfl) (fun _ _ _ h => h) (Or.inr ⟨by rfl, rfl⟩) (by assumption) ?_
          try simp only [Act.put, List.setIfInBounds_toArray, List.set_cons_zero, List.set_cons_succ]
          refine wpAnyH_take (i := 17) (oi := { dst := some 34, op := _, type := _, pos := _, after := _, guard := _ }) (v := ?v11) rfl (by kernel_rfl) (by kernel_rfl) (by kernel_rfl) (fun _ _ _ h => h) (Or.inl ⟨by rfl, ?hy11⟩) (by assumption) ?rest11
          case hy11 =>
            intro w9 hS9
            obtain ⟨-, hS9⟩ := hS9
            go_simp
            try with_reducible rfl
          try simp only [Act.put, List.setIfInBounds_toArray, List.set_cons_zero, List.set_cons_succ]
          refine wpAnyH_take (i := 18) (oi := { dst := some 35, op := _, type := _, pos := _, after := _, guard := _ }) (v := ?v12) rfl (by kernel_rfl) (by kernel_rfl) (by kernel_rfl) (fun _ _ _ h => h) (Or.inl ⟨by rfl, ?hy12⟩) (by assumption) ?rest12
          case hy12 =>
            intro w9 hS9
            obtain ⟨-, hS9⟩ := hS9
            go_simp
            try with_reducible rfl
          try simp only [Act.put, List.setIfInBounds_toArray, List.set_cons_zero, List.set_cons_succ]
          refine wpAnyH_done (by kernel_rfl) ?_ _
          clear hHeld
          go_wp2
          go_roundw
          case rel => exact ⟨0 + 1, by omega, by go_num, (fun t ht => by by_cases e : t = 0; (subst e; exact HT.out); exact HA.out t (by omega)), HBz.out _ HB.out⟩
          case measure => simp [intOf]; omega
        | succ j =>
          have g1 : (0 : Int) ≤ (j : Int) + 1 := by omega
          have g2 : (j : Int) + 1 < (n : Int) := by omega
          have g3 : (0 : Int) ≤ (j : Int) := by omega
          have g4 : (j : Int) < (n : Int) := by omega
          have g5 : (0 : Int) < (j : Int) + 1 := by omega
          have g6 : IntKind.i64.wrap (j : Int) = (j : Int) := by rw [IntKind.wrap_i64]; omega
          cases hcmp : ltP (nAt ns j).path (nAt ns (j + 1)).path with
          | true =>
            have HT : Hid (okAt ns (j + 1) = true) := by show _ = _; rw [okAt_succ, HOK.out, hcmp]; rfl
            have l1 : Op.bytesLess (nAt ns j).path.toList (nAt ns (j + 1)).path.toList = true := hcmp
            clear hcmp
            refine wp_region_held_drew (S := fun W => Hid (Below wn.heap.size wn W) ∧ (W.cell? ⟨B, 0, none⟩ = some (.string (nAt ns (j + 1)).path) ∧ W.cell? ⟨B, 1, none⟩ = some (.string (nAt ns (j + 1)).data) ∧ W.cell? ⟨B, 2, none⟩ = some (.int .i64 (nAt ns (j + 1)).ver) ∧ W.cell? ⟨B, 3, none⟩ = some (.int .i64 (nAt ns (j + 1)).cver) ∧ W.cell? ⟨B, 4, none⟩ = some (.int .i64 (nAt ns (j + 1)).cz) ∧ W.cell? ⟨B, 5, none⟩ = some (.int .i64 (nAt ns (j + 1)).mz) ∧ W.cell? ⟨B, 6, none⟩ = some (.int .i64 (nAt ns (j + 1)).pz)) ∧ W.cell? ⟨w.heap.size, 0, none⟩ = some (.slice (some ⟨b, o, none⟩) n cap) ∧ W.cell? ⟨b, o + j * 7, none⟩ = some (.string (nAt ns j).path)) (by kernel_rfl) (⟨HD, (XN.out.below HD.out).all, (CT.out _ HD.out), ((HC.out j (by omega)).below (HBn.out _ HD.out) hb).c0⟩) (fun hHeld => ?_)
            refine wpAnyH_take (i := 0) (oi := { dst := some 17, op := _, type := _, pos := _, after := _, guard := _ }) (v := ?v13) rfl (by kernel_rfl) (by kernel_rfl) (by kernel_rfl) (fun _ _ _ h => h) (Or.inl ⟨by rfl, ?hy13⟩) (by assumption) ?rest13
            case hy13 =>
              intro w9 hS9
              obtain ⟨-, hS9⟩ := hS9
              go_simp
              try with_reducible rfl
            try simp only [Act.put, List.setIfInBounds_toArray, List.set_cons_zero, List.set_cons_succ]
            refine wpAnyH_ready (rs := [1]) (by kernel_rfl) (by simp) ?_
            refine AllReadyH.cons (o := { dst := some 18, op := _, type := _, pos := _, after := _, guard := _ }) rfl (fun K hK => ?_) AllReadyH.nil
            go_simp
            refine (HE.out 1).mono ?_
            rintro e w' ⟨rfl, HB⟩
            rw [HOK.out]
            refine hK.out _ _ ((show (fun W => Hid (Below wn.heap.size wn W) ∧ (W.cell? ⟨B, 0, none⟩ = some (.string (nAt ns (j + 1)).path) ∧ W.cell? ⟨B, 1, none⟩ = some (.string (nAt ns (j + 1)).data) ∧ W.cell? ⟨B, 2, none⟩ = some (.int .i64 (nAt ns (j + 1)).ver) ∧ W.cell? ⟨B, 3, none⟩ = some (.int .i64 (nAt ns (j + 1)).cver) ∧ W.cell? ⟨B, 4, none⟩ = some (.int .i64 (nAt ns (j + 1)).cz) ∧ W.cell? ⟨B, 5, none⟩ = some (.int .i64 (nAt ns (j + 1)).mz) ∧ W.cell? ⟨B, 6, none⟩ = some (.int .i64 (nAt ns (j + 1)).pz)) ∧ W.cell? ⟨w.heap.size, 0, none⟩ = some (.slice (some ⟨b, o, none⟩) n cap) ∧ W.cell? ⟨b, o + j * 7, none⟩ = some (.string (nAt ns j).path)) w' from ⟨HB, (XN.out.below HB.out).all, (CT.out _ HB.out), ((HC.out j (by omega)).below (HBn.out _ HB.out) hb).c0⟩)) (fun _ => ?_)
            clear hK K hHeld
            have hHeld := (show (fun W => Hid (Below wn.heap.size wn W) ∧ (W.cell? ⟨B, 0, none⟩ = some (.string (nAt ns (j + 1)).path) ∧ W.cell? ⟨B, 1, none⟩ = some (.string (nAt ns (j + 1)).data) ∧ W.cell? ⟨B, 2, none⟩ = some (.int .i64 (nAt ns (j + 1)).ver) ∧ W.cell? ⟨B, 3, none⟩ = some (.int .i64 (nAt ns (j + 1)).cver) ∧ W.cell? ⟨B, 4, none⟩ = some (.int .i64 (nAt ns (j + 1)).cz) ∧ W.cell? ⟨B, 5, none⟩ = some (.int .i64 (nAt ns (j + 1)).mz) ∧ W.cell? ⟨B, 6, none⟩ = some (.int .i64 (nAt ns (j + 1)).pz)) ∧ W.cell? ⟨w.heap.size, 0, none⟩ = some (.slice (some ⟨b, o, none⟩) n cap) ∧ W.cell? ⟨b, o + j * 7, none⟩ = some (.string (nAt ns j).path)) w' from ⟨HB, (XN.out.below HB.out).all, (CT.out _ HB.out), ((HC.out j (by omega)).below (HBn.out _ HB.out) hb).c0⟩)
            try simp only [Act.put, List.setIfInBounds_toArray, List.set_cons_zero, List.set_cons_succ]
            refine wpAnyH_take (i := 2) (oi := { dst := some 19, op := _, type := _, pos := _, after := _, guard := _ }) (v := ?v14) rfl (by kernel_rfl) (by kernel_rfl) (by kernel_rfl) (fun _ _ _ h => h) (Or.inl ⟨by rfl, ?hy14⟩) (by assumption) ?rest14
            case hy14 =>
              intro w9 hS9
              obtain ⟨-, hS9⟩ := hS9
              go_simp
              try with_reducible rfl
            try simp only [Act.put, List.setIfInBounds_toArray, List.set_cons_zero, List.set_cons_succ]
            refine wpAnyH_take (i := 3) (oi := { dst := some 20, op := _, type := _, pos := _, after := _, guard := _ }) (v := ?v15) rfl (by kernel_rfl) (by kernel_rfl) (by kernel_rfl) (fun _ _ _ h => h) (Or.inl ⟨by rfl, ?hy15⟩) (by assumption) ?rest15
            case hy15 =>
              intro w9 hS9
              obtain ⟨-, hS9⟩ := hS9
              go_simp
              try with_reducible rfl
            try simp only [Act.put, List.setIfInBounds_toArray, List.set_cons_zero, List.set_cons_succ]
            refine wpAnyH_take (i := 4) (oi := { dst := some 21, op := _, type := _, pos := _, after := _, guard := _ }) (v := ?v16) rfl (by kernel_rfl) (by kernel_rfl) (by kernel_rfl) (fun _ _ _ h => h) (Or.inl ⟨by rfl, ?hy16⟩) (by assumption) ?rest16
            case hy16 =>
              intro w9 hS9
              obtain ⟨-, hS9⟩ := hS9
              go_simp
              try with_reducible rfl
            try simp only [Act.put, List.setIfInBounds_toArray, List.set_cons_zero, List.set_cons_succ]
            refine wpAnyH_take (i := 5) (oi := { dst := some 22, op := _, type := _, pos := _, after := _, guard := _ }) (v := ?v17) rfl (by kernel_rfl) (by kernel_rfl) (by kernel_rfl) (fun _ _ _ h => h) (Or.inl ⟨by rfl, ?hy17⟩) (by assumption) ?rest17
            case hy17 =>
              intro w9 hS9
              obtain ⟨-, hS9⟩ := hS9
              go_simp
              try with_reducible rfl
            try simp only [Act.put, List.setIfInBounds_toArray, List.set_cons_zero, List.set_cons_succ]
            refine wpAnyH_take (i := 6) (oi := { dst := some 23, op := _, type := _, pos := _, after := _, guard := _ }) (v := ?v18) rfl (by kernel_rfl) (by kernel_rfl) (by kernel_rfl) (fun _ _ _ h => h) (Or.inl ⟨by rfl, ?hy18⟩) (by assumption) ?rest18
            case hy18 =>
              intro w9 hS9
              obtain ⟨-, hS9⟩ := hS9
              go_simp
              try with_reducible rfl
            try simp only [Act.put, List.setIfInBounds_toArray, List.set_cons_zero, List.set_cons_succ]
            refine wpAnyH_take (i := 7) (oi := { dst := some 24, op := _, type := _, pos := _, after := _, guard := _ }) (v := ?v19) rfl (by kernel_rfl) (by kernel_rfl) (by kernel_rfl) (fun _ _ _ h => h) (Or.inl ⟨by rfl, ?hy19⟩) (by assumption) ?rest19
            case hy19 =>
              intro w9 hS9
              obtain ⟨-, hS9⟩ := hS9
              go_simp
              try with_reducible rfl
            try simp only [Act.put, List.setIfInBounds_toArray, List.set_cons_zero, List.set_cons_succ]
            refine wpAnyH_take (i := 8) (oi := { dst := some 25, op := _, type := _, pos := _, after := _, guard := _ }) (v := ?v20) rfl (by kernel_rfl) (by kernel_rfl) (by kernel_rfl) (fun _ _ _ h => h) (Or.inl ⟨by rfl, ?hy20⟩) (by assumption) ?rest20
            case hy20 =>
              intro w9 hS9
              obtain ⟨-, hS9⟩ := hS9
              go_simp
              try with_reducible rfl
            try simp only [Act.put, List.setIfInBounds_toArray, List.set_cons_zero, List.set_cons_succ]
            refine wpAnyH_take (i := 9) (oi := { dst := some 26, op := _, type := _, pos := _, after := _, guard := _ }) (v := ?v21) rfl (by kernel_rfl) (by kernel_rfl) (by kernel_rfl) (fun _ _ _ h => h) (Or.inl ⟨by rfl, ?hy21⟩) (by assumption) ?rest21
            case hy21 =>
              intro w9 hS9
              obtain ⟨-, hS9⟩ := hS9
              go_simp
              try with_reducible rfl
            try simp only [Act.put, List.setIfInBounds_toArray, List.set_cons_zero, List.set_cons_succ]
            refine wpAnyH_take (i := 10) (oi := { dst := some 27, op := _, type := _, pos := _, after := _, guard := _ }) (v := ?v22) rfl (by kernel_rfl) (by kernel_rfl) (by kernel_rfl) (fun _ _ _ h => h) (Or.inl ⟨by rfl, ?hy22⟩) (by assumption) ?rest22
            case hy22 =>
              intro w9 hS9
              obtain ⟨-, hS9⟩ := hS9
              go_simp
              try with_reducible rfl
            try simp only [Act.put, List.setIfInBounds_toArray, List.set_cons_zero, List.set_cons_succ]
            refine wpAnyH_take (i := 11) (oi := { dst := some 28, op := _, type := _, pos := _, after := _, guard := _ }) (v := ?v23) rfl (by kernel_rfl) (by kernel_rfl) (by kernel_rfl) (fun _ _ _ h => h) (Or.inl ⟨by rfl, ?hy23⟩) (by assumption) ?rest23
            case hy23 =>
              intro w9 hS9
              obtain ⟨-, hS9⟩ := hS9
              go_simp
              try with_reducible rfl
            try simp only [Act.put, List.setIfInBounds_toArray, List.set_cons_zero, List.set_cons_succ]
            refine wpAnyH_take (i := 12) (oi := { dst := some 29, op := _, type := _, pos := _, after := _, guard := _ }) (v := ?v24) rfl (by kernel_rfl) (by kernel_rfl) (by kernel_rfl) (fun _ _ _ h => h) (Or.inl ⟨by rfl, ?hy24⟩) (by assumption) ?rest24
            case hy24 =>
              intro w9 hS9
              obtain ⟨-, hS9⟩ := hS9
              go_simp
              try with_reducible rfl
            try simp only [Act.put, List.setIfInBounds_toArray, List.set_cons_zero, List.set_cons_succ]
            refine wpAnyH_take (i := 13) (oi := { dst := some 30, op := _, type := _, pos := _, after := _, guard := _ }) (v := ?v25) rfl (by kernel_rfl) (by kernel_rfl) (by kernel_rfl) (fun _ _ _ h => h) (Or.inl ⟨by rfl, ?hy25⟩) (by assumption) ?rest25
            case hy25 =>
              intro w9 hS9
              obtain ⟨-, hS9⟩ := hS9
              go_simp
              try with_reducible rfl
            try simp only [Act.put, List.setIfInBounds_toArray, List.set_cons_zero, List.set_cons_succ]
            refine wpAnyH_take (i := 14) (oi := { dst := some 31, op := _, type := _, pos := _, after := _, guard := _ }) (v := ?v26) rfl (by kernel_rfl) (by kernel_rfl) (by kernel_rfl) (fun _ _ _ h => h) (Or.inl ⟨by rfl, ?hy26⟩) (by assumption) ?rest26
            case hy26 =>
              intro w9 hS9
              obtain ⟨-, hS9⟩ := hS9
              go_simp
              try with_reducible rfl
            try simp only [Act.put, List.setIfInBounds_toArray, List.set_cons_zero, List.set_cons_succ]
            refine wpAnyH_take (i := 15) (oi := { dst := some 32, op := _, type := _, pos := _, after := _, guard := _ }) (v := ?v27) rfl (by kernel_rfl) (by kernel_rfl) (by kernel_rfl) (fun _ _ _ h => h) (Or.inl ⟨by rfl, ?hy27⟩) (by assumption) ?rest27
            case hy27 =>
              intro w9 hS9
              obtain ⟨-, hS9⟩ := hS9
              go_simp
              try with_reducible rfl
            try simp only [Act.put, List.setIfInBounds_toArray, List.set_cons_zero, List.set_cons_succ]
            refine wpAnyH_take (i := 16) (oi := { dst := some 33, op := _, type := _, pos := _, after := _, guard := _ }) (v := ?v28) rfl (by kernel_rfl) (by kernel_rfl) (by kernel_rfl) (fun _ _ _ h => h) (Or.inl ⟨by rfl, ?hy28⟩) (by assumption) ?rest28
            case hy28 =>
              intro w9 hS9
              obtain ⟨-, hS9⟩ := hS9
              go_simp
              try with_reducible rfl
            try simp only [Act.put, List.setIfInBounds_toArray, List.set_cons_zero, List.set_cons_succ]
            refine wpAnyH_take (i := 17) (oi := { dst := some 34, op := _, type := _, pos := _, after := _, guard := _ }) (v := ?v29) rfl (by kernel_rfl) (by kernel_rfl) (by kernel_rfl) (fun _ _ _ h => h) (Or.inl ⟨by rfl, ?hy29⟩) (by assumption) ?rest29
            case hy29 =>
              intro w9 hS9
              obtain ⟨-, hS9⟩ := hS9
              go_simp
              try with_reducible rfl
            try simp only [Act.put, List.setIfInBounds_toArray, List.set_cons_zero, List.set_cons_succ]
            refine wpAnyH_take (i := 18) (oi := { dst := some 35, op := _, type := _, pos := _, after := _, guard := _ }) (v := ?v30) rfl (by kernel_rfl) (by kernel_rfl) (by kernel_rfl) (fun _ _ _ h => h) (Or.inl ⟨by rfl, ?hy30⟩) (by assumption) ?rest30
            case hy30 =>
              intro w9 hS9
              obtain ⟨-, hS9⟩ := hS9
              go_simp
              try with_reducible rfl
            try simp only [Act.put, List.setIfInBounds_toArray, List.set_cons_zero, List.set_cons_succ]
            refine wpAnyH_done (by kernel_rfl) ?_ _
            clear hHeld
            go_wp2
            go_roundw
            case rel => exact ⟨(j + 1) + 1, by omega, by go_num, (fun t ht => by by_cases e : t = (j + 1); (subst e; exact HT.out); exact HA.out t (by omega)), HBz.out _ HB.out⟩
            case measure => simp [intOf]; omega
          | false =>
            have HN : Hid (okSorted ns = false) := sorted_no HLT.out (by rw [okAt_succ, hcmp, Bool.and_false])
            have l1 : Op.bytesLess (nAt ns j).path.toList (nAt ns (j + 1)).path.toList = false := hcmp
            clear hcmp
            refine wp_region_held_drew (S := fun W => Hid (Below wn.heap.size wn W) ∧ (W.cell? ⟨B, 0, none⟩ = some (.string (nAt ns (j + 1)).path) ∧ W.cell? ⟨B, 1, none⟩ = some (.string (nAt ns (j + 1)).data) ∧ W.cell? ⟨B, 2, none⟩ = some (.int .i64 (nAt ns (j + 1)).ver) ∧ W.cell? ⟨B, 3, none⟩ = some (.int .i64 (nAt ns (j + 1)).cver) ∧ W.cell? ⟨B, 4, none⟩ = some (.int .i64 (nAt ns (j + 1)).cz) ∧ W.cell? ⟨B, 5, none⟩ = some (.int .i64 (nAt ns (j + 1)).mz) ∧ W.cell? ⟨B, 6, none⟩ = some (.int .i64 (nAt ns (j + 1)).pz)) ∧ W.cell? ⟨w.heap.size, 0, none⟩ = some (.slice (some ⟨b, o, none⟩) n cap) ∧ W.cell? ⟨b, o + j * 7, none⟩ = some (.string (nAt ns j).path)) (by kernel_rfl) (⟨HD, (XN.out.below HD.out).all, (CT.out _ HD.out), ((HC.out j (by omega)).below (HBn.out _ HD.out) hb).c0⟩) (fun hHeld => ?_)
            refine wpAnyH_take (i := 0) (oi := { dst := some 17, op := _, type := _, pos := _, after := _, guard := _ }) (v := ?v31) rfl (by kernel_rfl) (by kernel_rfl) (by kernel_rfl) (fun _ _ _ h => h) (Or.inl ⟨by rfl, ?hy31⟩) (by assumption) ?rest31
            case hy31 =>
              intro w9 hS9
              obtain ⟨-, hS9⟩ := hS9
              go_simp
              try with_reducible rfl
            try simp only [Act.put, List.setIfInBounds_toArray, List.set_cons_zero, List.set_cons_succ]
            refine wpAnyH_ready (rs := [1]) (by kernel_rfl) (by simp) ?_
            refine AllReadyH.cons (o := { dst := some 18, op := _, type := _, pos := _, after := _, guard := _ }) rfl (fun K hK => ?_) AllReadyH.nil
            go_simp
            refine (HE.out 1).mono ?_
            rintro e w' ⟨rfl, HB⟩
            rw [HOK.out]
            refine hK.out _ _ ((show (fun W => Hid (Below wn.heap.size wn W) ∧ (W.cell? ⟨B, 0, none⟩ = some (.string (nAt ns (j + 1)).path) ∧ W.cell? ⟨B, 1, none⟩ = some (.string (nAt ns (j + 1)).data) ∧ W.cell? ⟨B, 2, none⟩ = some (.int .i64 (nAt ns (j + 1)).ver) ∧ W.cell? ⟨B, 3, none⟩ = some (.int .i64 (nAt ns (j + 1)).cver) ∧ W.cell? ⟨B, 4, none⟩ = some (.int .i64 (nAt ns (j + 1)).cz) ∧ W.cell? ⟨B, 5, none⟩ = some (.int .i64 (nAt ns (j + 1)).mz) ∧ W.cell? ⟨B, 6, none⟩ = some (.int .i64 (nAt ns (j + 1)).pz)) ∧ W.cell? ⟨w.heap.size, 0, none⟩ = some (.slice (some ⟨b, o, none⟩) n cap) ∧ W.cell? ⟨b, o + j * 7, none⟩ = some (.string (nAt ns j).path)) w' from ⟨HB, (XN.out.below HB.out).all, (CT.out _ HB.out), ((HC.out j (by omega)).below (HBn.out _ HB.out) hb).c0⟩)) (fun _ => ?_)
            clear hK K hHeld
            have hHeld := (show (fun W => Hid (Below wn.heap.size wn W) ∧ (W.cell? ⟨B, 0, none⟩ = some (.string (nAt ns (j + 1)).path) ∧ W.cell? ⟨B, 1, none⟩ = some (.string (nAt ns (j + 1)).data) ∧ W.cell? ⟨B, 2, none⟩ = some (.int .i64 (nAt ns (j + 1)).ver) ∧ W.cell? ⟨B, 3, none⟩ = some (.int .i64 (nAt ns (j + 1)).cver) ∧ W.cell? ⟨B, 4, none⟩ = some (.int .i64 (nAt ns (j + 1)).cz) ∧ W.cell? ⟨B, 5, none⟩ = some (.int .i64 (nAt ns (j + 1)).mz) ∧ W.cell? ⟨B, 6, none⟩ = some (.int .i64 (nAt ns (j + 1)).pz)) ∧ W.cell? ⟨w.heap.size, 0, none⟩ = some (.slice (some ⟨b, o, none⟩) n cap) ∧ W.cell? ⟨b, o + j * 7, none⟩ = some (.string (nAt ns j).path)) w' from ⟨HB, (XN.out.below HB.out).all, (CT.out _ HB.out), ((HC.out j (by omega)).below (HBn.out _ HB.out) hb).c0⟩)
            try simp only [Act.put, List.setIfInBounds_toArray, List.set_cons_zero, List.set_cons_succ]
            refine wpAnyH_take (i := 2) (oi := { dst := some 19, op := _, type := _, pos := _, after := _, guard := _ }) (v := ?v32) rfl (by kernel_rfl) (by kernel_rfl) (by kernel_rfl) (fun _ _ _ h => h) (Or.inl ⟨by rfl, ?hy32⟩) (by assumption) ?rest32
            case hy32 =>
              intro w9 hS9
              obtain ⟨-, hS9⟩ := hS9
              go_simp
              try with_reducible rfl
            try simp only [Act.put, List.setIfInBounds_toArray, List.set_cons_zero, List.set_cons_succ]
            refine wpAnyH_take (i := 3) (oi := { dst := some 20, op := _, type := _, pos := _, after := _, guard := _ }) (v := ?v33) rfl (by kernel_rfl) (by kernel_rfl) (by kernel_rfl) (fun _ _ _ h => h) (Or.inl ⟨by rfl, ?hy33⟩) (by assumption) ?rest33
            case hy33 =>
              intro w9 hS9
              obtain ⟨-, hS9⟩ := hS9
              go_simp
              try with_reducible rfl
            try simp only [Act.put, List.setIfInBounds_toArray, List.set_cons_zero, List.set_cons_succ]
            refine wpAnyH_take (i := 4) (oi := { dst := some 21, op := _, type := _, pos := _, after := _, guard := _ }) (v := ?v34) rfl (by kernel_rfl) (by kernel_rfl) (by kernel_rfl) (fun _ _ _ h => h) (Or.inl ⟨by rfl, ?hy34⟩) (by assumption) ?rest34
            case hy34 =>
              intro w9 hS9
              obtain ⟨-, hS9⟩ := hS9
              go_simp
              try with_reducible rfl
            try simp only [Act.put, List.setIfInBounds_toArray, List.set_cons_zero, List.set_cons_succ]
            refine wpAnyH_take (i := 5) (oi := { dst := some 22, op := _, type := _, pos := _, after := _, guard := _ }) (v := ?v35) rfl (by kernel_rfl) (by kernel_rfl) (by kernel_rfl) (fun _ _ _ h => h) (Or.inl ⟨by rfl, ?hy35⟩) (by assumption) ?rest35
            case hy35 =>
              intro w9 hS9
              obtain ⟨-, hS9⟩ := hS9
              go_simp
              try with_reducible rfl
            try simp only [Act.put, List.setIfInBounds_toArray, List.set_cons_zero, List.set_cons_succ]
            refine wpAnyH_take (i := 6) (oi := { dst := some 23, op := _, type := _, pos := _, after := _, guard := _ }) (v := ?v36) rfl (by kernel_rfl) (by kernel_rfl) (by kernel_rfl) (fun _ _ _ h => h) (Or.inl ⟨by rfl, ?hy36⟩) (by assumption) ?rest36
            case hy36 =>
              intro w9 hS9
              obtain ⟨-, hS9⟩ := hS9
              go_simp
              try with_reducible rfl
            try simp only [Act.put, List.setIfInBounds_toArray, List.set_cons_zero, List.set_cons_succ]
            refine wpAnyH_take (i := 7) (oi := { dst := some 24, op := _, type := _, pos := _, after := _, guard := _ }) (v := ?v37) rfl (by kernel_rfl) (by kernel_rfl) (by kernel_rfl) (fun _ _ _ h => h) (Or.inl ⟨by rfl, ?hy37⟩) (by assumption) ?rest37
            case hy37 =>
              intro w9 hS9
              obtain ⟨-, hS9⟩ := hS9
              go_simp
              try with_reducible rfl
            try simp only [Act.put, List.setIfInBounds_toArray, List.set_cons_zero, List.set_cons_succ]
            refine wpAnyH_take (i := 8) (oi := { dst := some 25, op := _, type := _, pos := _, after := _, guard := _ }) (v := ?v38) rfl (by kernel_rfl) (by kernel_rfl) (by kernel_rfl) (fun _ _ _ h => h) (Or.inl ⟨by rfl, ?hy38⟩) (by assumption) ?rest38
            case hy38 =>
              intro w9 hS9
              obtain ⟨-, hS9⟩ := hS9
              go_simp
              try with_reducible rfl
            try simp only [Act.put, List.setIfInBounds_toArray, List.set_cons_zero, List.set_cons_succ]
            refine wpAnyH_take (i := 9) (oi := { dst := some 26, op := _, type := _, pos := _, after := _, guard := _ }) (v := ?v39) rfl (by kernel_rfl) (by kernel_rfl) (by kernel_rfl) (fun _ _ _ h => h) (Or.inl ⟨by rfl, ?hy39⟩) (by assumption) ?rest39
            case hy39 =>
              intro w9 hS9
              obtain ⟨-, hS9⟩ := hS9
              go_simp
              try with_reducible rfl
            try simp only [Act.put, List.setIfInBounds_toArray, List.set_cons_zero, List.set_cons_succ]
            refine wpAnyH_take (i := 10) (oi := { dst := some 27, op := _, type := _, pos := _, after := _, guard := _ }) (v := ?v40) rfl (by kernel_rfl) (by kernel_rfl) (by kernel_rfl) (fun _ _ _ h => h) (Or.inl ⟨by rfl, ?hy40⟩) (by assumption) ?rest40
            case hy40 =>
              intro w9 hS9
              obtain ⟨-, hS9⟩ := hS9
              go_simp
              try with_reducible rfl
            try simp only [Act.put, List.setIfInBounds_toArray, List.set_cons_zero, List.set_cons_succ]
            refine wpAnyH_take (i := 11) (oi := { dst := some 28, op := _, type := _, pos := _, after := _, guard := _ }) (v := ?v41) rfl (by kernel_rfl) (by kernel_rfl) (by kernel_rfl) (fun _ _ _ h => h) (Or.inl ⟨by rfl, ?hy41⟩) (by assumption) ?rest41
            case hy41 =>
              intro w9 hS9
              obtain ⟨-, hS9⟩ := hS9
              go_simp
              try with_reducible rfl
            try simp only [Act.put, List.setIfInBounds_toArray, List.set_cons_zero, List.set_cons_succ]
            refine wpAnyH_take (i := 12) (oi := { dst := some 29, op := _, type := _, pos := _, after := _, guard := _ }) (v := ?v42) rfl (by kernel_rfl) (by kernel_rfl) (by kernel_rfl) (fun _ _ _ h => h) (Or.inl ⟨by rfl, ?hy42⟩) (by assumption) ?rest42
            case hy42 =>
              intro w9 hS9
              obtain ⟨-, hS9⟩ := hS9
              go_simp
              try with_reducible rfl
            try simp only [Act.put, List.setIfInBounds_toArray, List.set_cons_zero, List.set_cons_succ]
            refine wpAnyH_take (i := 13) (oi := { dst := some 30, op := _, type := _, pos := _, after := _, guard := _ }) (v := ?v43) rfl (by kernel_rfl) (by kernel_rfl) (by kernel_rfl) (fun _ _ _ h => h) (Or.inl ⟨by rfl, ?hy43⟩) (by assumption) ?rest43
            case hy43 =>
              intro w9 hS9
              obtain ⟨-, hS9⟩ := hS9
              go_simp
              try with_reducible rfl
            try simp only [Act.put, List.setIfInBounds_toArray, List.set_cons_zero, List.set_cons_succ]
            refine wpAnyH_take (i := 14) (oi := { dst := some 31, op := _, type := _, pos := _, after := _, guard := _ }) (v := ?v44) rfl (by kernel_rfl) (by kernel_rfl) (by kernel_rfl) (fun _ _ _ h => h) (Or.inl ⟨by rfl, ?hy44⟩) (by assumption) ?rest44
            case hy44 =>
              intro w9 hS9
              obtain ⟨-, hS9⟩ := hS9
              go_simp
              try with_reducible rfl
            try simp only [Act.put, List.setIfInBounds_toArray, List.set_cons_zero, List.set_cons_succ]
            refine wpAnyH_take (i := 15) (oi := { dst := some 32, op := _, type := _, pos := _, after := _, guard := _ }) (v := ?v45) rfl (by kernel_rfl) (by kernel_rfl) (by kernel_rfl) (fun _ _ _ h => h) (Or.inl ⟨by rfl, ?hy45⟩) (by assumption) ?rest45
            case hy45 =>
              intro w9 hS9
              obtain ⟨-, hS9⟩ := hS9
              go_simp
              try with_reducible rfl
            try simp only [Act.put, List.setIfInBounds_toArray, List.set_cons_zero, List.set_cons_succ]
            refine wpAnyH_take (i := 16) (oi := { dst := some 33, op := _, type := _, pos := _, after := _, guard := _ }) (v := ?v46) rfl (by kernel_rfl) (by kernel_rfl) (by kernel_rfl) (fun _ _ _ h => h) (Or.inl ⟨by rfl, ?hy46⟩) (by assumption) ?rest46
            case hy46 =>
              intro w9 hS9
              obtain ⟨-, hS9⟩ := hS9
              go_simp
              try with_reducible rfl
            try simp only [Act.put, List.setIfInBounds_toArray, List.set_cons_zero, List.set_cons_succ]
            refine wpAnyH_take (i := 17) (oi := { dst := some 34, op := _, type := _, pos := _, after := _, guard := _ }) (v := ?v47) rfl (by kernel_rfl) (by kernel_rfl) (by kernel_rfl) (fun _ _ _ h => h) (Or.inl ⟨by rfl, ?hy47⟩) (by assumption) ?rest47
            case hy47 =>
              intro w9 hS9
              obtain ⟨-, hS9⟩ := hS9
              go_simp
              try with_reducible rfl
            try simp only [Act.put, List.setIfInBounds_toArray, List.set_cons_zero, List.set_cons_succ]
            refine wpAnyH_take (i := 18) (oi := { dst := some 35, op := _, type := _, pos := _, after := _, guard := _ }) (v := ?v48) rfl (by kernel_rfl) (by kernel_rfl) (by kernel_rfl) (fun _ _ _ h => h) (Or.inl ⟨by rfl, ?hy48⟩) (by assumption) ?rest48
            case hy48 =>
              intro w9 hS9
              obtain ⟨-, hS9⟩ := hS9
              go_simp
              try with_reducible rfl
            try simp only [Act.put, List.setIfInBounds_toArray, List.set_cons_zero, List.set_cons_succ]
            refine wpAnyH_done (by kernel_rfl) ?_ _
            clear hHeld
            go_wp2
            go_ret
            exact ⟨ret_b HN.out.symm, HBn.out _ HB.out⟩
    · have HY : Hid (okSorted ns = true) := sorted_yes (fun t ht => HA.out t (by rw [HP.out] at ht; omega))
      go_wp2
      go_ret
      exact ⟨ret_b HY.out.symm, HG0.out⟩

set_option maxHeartbeats 400000 in
theorem implTree_nil (w : World) (ao : Option Addr) (cap : Nat) :
    Calls Tryd.prog 17 #[.agg #[.slice ao 0 cap]] w fun e w' => e = .returned (.bool true) ∧ Below w.heap.size w w' := by
  go_enter Tryd.func17, Tryd.ntmps17
  go_wp2
  go_rounds 1
  go_ret
  exact ⟨rfl, (Below.refl _ _).alloc (Nat.le_refl _) _⟩

set_option maxHeartbeats 400000 in
theorem implTree_long (w : World) (ao : Option Addr) (n cap : Nat) (h : 1000 < n) :
    Calls Tryd.prog 17 #[.agg #[.slice ao n cap]] w fun e w' => e = .returned (.bool false) ∧ Below w.heap.size w w' := by
  have h1I : (1000 : Int) < (n : Int) := by omega
  go_enter Tryd.func17, Tryd.ntmps17
  go_wp2
  go_ret
  exact ⟨rfl, (Below.refl _ _).alloc (Nat.le_refl _) _⟩

theorem implTree_any (w : World) (v : Value) (ns : List Nd) (h : RdN w v ns) (hsz : ∀ i, (nAt ns i).path.size ≤ 1048576 ∧ (nAt ns i).data.size ≤ 1048576) :
    Calls Tryd.prog 17 #[.agg #[v]] w fun e w' => e = .returned (.bool (okTree ns)) ∧ Below w.heap.size w w' := by
  obtain ⟨ao, cap, rfl, k1, k2, k3⟩ := h
  by_cases hl : 1000 < ns.length
  · have : okTree ns = false := by unfold okTree; rw [decide_eq_false (by omega)]; rfl
    rw [this]
    exact implTree_long w ao ns.length cap hl
  · have : okTree ns = okSorted ns := by unfold okTree; rw [decide_eq_true (by omega)]; rfl
    rw [this]
    rcases k3 with rfl | ⟨b, o, rfl, hb, hc⟩
    · exact implTree_nil w ao cap
    · exact implTree_row w b o ns.length cap ns rfl (by omega) hb hsz hc

end Go.Proofs.YtgjenbgclpmjmaaDoor

namespace Go.Proofs.YtgjenbgclpmjmaaDoor
open Go.RowKit Go.Shelf

theorem BxN.new (w : World) (o : Obj) (n : Nd) : BxN ((w.alloc o).alloc (.cells #[.string n.path, .string n.data, .int .i64 n.ver, .int .i64 n.cver, .int .i64 n.cz, .int .i64 n.mz, .int .i64 n.pz] 102)) (w.heap.size + 1) n := by
  have := heap_alloc_new (w.alloc o) (.cells #[.string n.path, .string n.data, .int .i64 n.ver, .int .i64 n.cver, .int .i64 n.cz, .int .i64 n.mz, .int .i64 n.pz] 102)
  rw [show (w.alloc o).heap.size = w.heap.size + 1 by simp] at this
  exact ⟨⟨_, _, _, this, by decide⟩, (cell_of this _).trans rfl, (cell_of this _).trans rfl, (cell_of this _).trans rfl, (cell_of this _).trans rfl, (cell_of this _).trans rfl, (cell_of this _).trans rfl, (cell_of this _).trans rfl⟩

set_option maxHeartbeats 1000000 in
set_option maxRecDepth 100000 in
theorem encTree_row (w : World) (b o n cap : Nat) (ns : List Nd) (hp : ns.length = n) (hb : b < w.heap.size) (hc : ∀ i, i < n → CellsN w b (o + i * 7) (nAt ns i)) (hR : RdN w (.slice (some ⟨b, o, none⟩) n cap) ns)
    (hsz : ∀ i, (nAt ns i).path.size ≤ 1048576 ∧ (nAt ns i).data.size ≤ 1048576) :
    Calls Tryd.prog 44 #[.agg #[.slice (some ⟨b, o, none⟩) n cap]] w fun e w' => ∃ v', e = .returned v' ∧ Own .u8 5 w' w.heap.size v' (treeB ns) ∧ Below w.heap.size w w' := by
  have HC : Hid (∀ i, i < n → CellsN w b (o + i * 7) (nAt ns i)) := hc
  have HP : Hid (ns.length = n) := hp
  have HR : Hid (RdN w (.slice (some ⟨b, o, none⟩) n cap) ns) := hR
  have HZ : Hid (∀ i, (nAt ns i).path.size ≤ 1048576 ∧ (nAt ns i).data.size ≤ 1048576) := hsz
  have B0 : Hid (Below w.heap.size w (w.alloc (.cells #[.slice (some ⟨b, o, none⟩) n cap] 30))) := (Below.refl _ _).alloc (Nat.le_refl _) _
  have X0 : Hid (Boxed (w.alloc (.cells #[.slice (some ⟨b, o, none⟩) n cap] 30)) w.heap.size 30 (.slice (some ⟨b, o, none⟩) n cap)) := Boxed.new _ _ _
  clear hc hp hR hsz
  go_enter Tryd.func44, Tryd.ntmps44
  go_wp2_with fail
  generalize w.alloc (.cells #[.slice (some ⟨b, o, none⟩) n cap] 30) = w0 at *
  refine (implTree_any _ _ ns (HR.out.below B0.out) HZ.out).mono ?_
  rintro e w1 ⟨rfl, b1⟩
  have B1 : Hid (Below w.heap.size w w1) := B0.out.trans (b1.mono B0.out.size)
  have X1 : Hid (Boxed w1 w.heap.size 30 (.slice (some ⟨b, o, none⟩) n cap)) := boxed_below b1 X0.out
  clear b1 X0 B0
  by_cases hok : okTree ns = true
  rotate_left
  · have hok' : okTree ns = false := by simpa using hok
    have HT : Hid (treeB ns = []) := by show _ = _; unfold treeB; rw [if_neg hok]
    rw [hok']
    clear hok hok'
    go_wp2
    go_ret
    exact ⟨_, rfl, (by rw [HT.out]; exact World.ownsRow_nil _ _ _ _), B1.out⟩
  have hn : n ≤ 1000 := by have := okTree_len hok; rw [HP.out] at this; exact this
  have HT : Hid (treeB ns = nodesB ns) := by show _ = _; unfold treeB; rw [if_pos hok]
  have HOK : Hid (∀ k, k < n → okNd (nAt ns k) = true) := fun k hk => okTree_nd hok k (by rw [HP.out]; exact hk)
  have HLN : Hid (∀ k, k ≤ n → (nodesB (ns.take k)).length ≤ k * 188) := fun k hk => nodesB_len (okTree_nd hok) k (by rw [HP.out]; exact hk)
  rw [hok]
  clear hok
  have c0 := X1.out.cell
  go_wp2
  go_loopw [3, 13] (fun vi vk wr => ∃ k : Nat, k ≤ n ∧ vk = .int .i64 k ∧ Hid (Own .u8 5 wr w.heap.size vi (nodesB (ns.take k))) ∧ Hid (Below w.heap.size w wr)) (fun _ i _ => n - (intOf i).toNat)
  case atStart => exact ⟨0, Nat.zero_le _, rfl, World.ownsRow_nil _ _ _ _, B1⟩
  case round =>
    clear c0
    obtain ⟨k, hk, rfl, HW, HB⟩ := hrel
    have sB := HB.out.size
    by_cases hlt : k < n
    · have hltI : (k : Int) < (n : Int) := by omega
      obtain ⟨c0, c1, c2, c3, c4, c5, c6⟩ := (HC.out k hlt).below HB.out hb
      go_wp2_with fail
      clear c0 c1 c2 c3 c4 c5 c6
      refine (encNode_any _ w.heap.size u3 (nodesB (ns.take k)) (wr.heap.size + 1) (nAt ns k) ?e1 ?e2 ?e3 ?e4 (HOK.out k hlt)).mono ?_
      case e1 => exact (HW.out.below ((Below.refl _ _).alloc (Nat.le_refl _) _)).below ((Below.refl _ _).alloc (Nat.le_refl _) _)
      case e2 => simp; omega
      case e3 => have := HLN.out k hk; omega
      case e4 => exact BxN.new _ _ _
      rintro e w4 ⟨v4, rfl, o4, b4, -⟩
      have O4 : Hid (Own .u8 5 w4 w.heap.size v4 (nodesB (ns.take (k + 1)))) := by
        rw [nodesB_succ ns k (by rw [HP.out]; exact hlt)] at o4; exact o4
      have B4 : Hid (Below w.heap.size w w4) := ((HB.out.alloc sB _).alloc (by simp; omega) _).trans b4
      clear o4 b4 HW HB
      go_wp2
      exact ⟨⟨k + 1, by omega, by go_num, O4, B4⟩, by simp [intOf]; omega⟩
    · have hkn : k = n := by omega
      subst hkn
      go_wp2
      go_ret
      refine ⟨_, rfl, ?_, HB.out⟩
      rw [HT.out, ← nodesB_all ns k (by rw [HP.out]; exact Nat.le_refl _)]
      exact HW.out

set_option maxHeartbeats 1000000 in
set_option maxRecDepth 100000 in
theorem encTree_nil (w : World) (ao : Option Addr) (cap : Nat) (hc : cap ≤ maxLen) :
    Calls Tryd.prog 44 #[.agg #[.slice ao 0 cap]] w fun e w' => ∃ v', e = .returned v' ∧ Own .u8 5 w' w.heap.size v' [] ∧ Below w.heap.size w w' := by
  have HR : Hid (RdN w (.slice ao 0 cap) []) := ⟨ao, cap, rfl, Nat.zero_le _, hc, .inl rfl⟩
  have B0 : Hid (Below w.heap.size w (w.alloc (.cells #[.slice ao 0 cap] 30))) := (Below.refl _ _).alloc (Nat.le_refl _) _
  have X0 : Hid (Boxed (w.alloc (.cells #[.slice ao 0 cap] 30)) w.heap.size 30 (.slice ao 0 cap)) := Boxed.new _ _ _
  go_enter Tryd.func44, Tryd.ntmps44
  go_wp2_with fail
  generalize w.alloc (.cells #[.slice ao 0 cap] 30) = w0 at *
  refine (implTree_any _ _ [] (HR.out.below B0.out) (fun i => by simp [nAt, nd0])).mono ?_
  rintro e w1 ⟨rfl, b1⟩
  have B1 : Hid (Below w.heap.size w w1) := B0.out.trans (b1.mono B0.out.size)
  have X1 : Hid (Boxed w1 w.heap.size 30 (.slice ao 0 cap)) := boxed_below b1 X0.out
  clear b1 X0 B0
  rw [show okTree [] = true from rfl]
  have c0 := X1.out.cell
  go_wp2
  go_rounds 1
  go_ret
  exact ⟨_, rfl, World.ownsRow_nil _ _ _ _, B1.out⟩

theorem encTree_any (w : World) (v : Value) (ns : List Nd) (h : RdN w v ns) (hsz : ∀ i, (nAt ns i).path.size ≤ 1048576 ∧ (nAt ns i).data.size ≤ 1048576) :
    Calls Tryd.prog 44 #[.agg #[v]] w fun e w' => ∃ v', e = .returned v' ∧ Own .u8 5 w' w.heap.size v' (treeB ns) ∧ Below w.heap.size w w' := by
  have h0 := h
  obtain ⟨ao, cap, rfl, h1, h2, h3⟩ := h
  rcases h3 with rfl | ⟨b, o, rfl, hb, hc⟩
  · exact encTree_nil w ao cap h2
  · exact encTree_row w b o ns.length cap ns rfl hb hc h0 hsz

end Go.Proofs.YtgjenbgclpmjmaaDoor

namespace Go.Proofs.YtgjenbgclpmjmaaDoor
open Go.RowKit

/-- An effect. -/
structure Ef where
  del : Bool
  nd : Nd
def efL (e : Ef) : List Value := [.bool e.del, .string e.nd.path, .string e.nd.data, .int .i64 e.nd.ver, .int .i64 e.nd.cver, .int .i64 e.nd.cz, .int .i64 e.nd.mz, .int .i64 e.nd.pz]
def ef0 : Ef := ⟨false, nd0⟩
def eAt (ns : List Ef) (i : Nat) : Ef := ns.getD i ef0
theorem eAt_get {ns : List Ef} {i : Nat} (h : i < ns.length) : eAt ns i = ns[i] := by unfold eAt; simp [List.getD, h]

/-- The cells of an effect. -/
structure CellsE (w : World) (b p : Nat) (n : Ef) : Prop where
  c0 : w.cell? ⟨b, p, none⟩ = some (.bool n.del)
  c1 : w.cell? ⟨b, p + 1, none⟩ = some (.string n.nd.path)
  c2 : w.cell? ⟨b, p + 2, none⟩ = some (.string n.nd.data)
  c3 : w.cell? ⟨b, p + 3, none⟩ = some (.int .i64 n.nd.ver)
  c4 : w.cell? ⟨b, p + 4, none⟩ = some (.int .i64 n.nd.cver)
  c5 : w.cell? ⟨b, p + 5, none⟩ = some (.int .i64 n.nd.cz)
  c6 : w.cell? ⟨b, p + 6, none⟩ = some (.int .i64 n.nd.mz)
  c7 : w.cell? ⟨b, p + 7, none⟩ = some (.int .i64 n.nd.pz)
theorem CellsE.below {w w' : World} {m b p : Nat} {n : Ef} (h : CellsE w b p n) (hb : Below m w w') (hl : b < m) : CellsE w' b p n :=
  ⟨(hb.cell (p := ⟨b, _, none⟩) hl).trans h.c0, (hb.cell (p := ⟨b, _, none⟩) hl).trans h.c1, (hb.cell (p := ⟨b, _, none⟩) hl).trans h.c2, (hb.cell (p := ⟨b, _, none⟩) hl).trans h.c3, (hb.cell (p := ⟨b, _, none⟩) hl).trans h.c4, (hb.cell (p := ⟨b, _, none⟩) hl).trans h.c5, (hb.cell (p := ⟨b, _, none⟩) hl).trans h.c6, (hb.cell (p := ⟨b, _, none⟩) hl).trans h.c7⟩
theorem CellsE.nd {w : World} {b p : Nat} {n : Ef} (h : CellsE w b p n) : CellsN w b (p + 1) n.nd := ⟨h.c1, h.c2, h.c3, h.c4, h.c5, h.c6, h.c7⟩

/-- A slice of nodes that reads as ns. -/
def RdE (w : World) (v : Value) (ns : List Ef) : Prop :=
  ∃ ao cap, v = .slice ao ns.length cap ∧ ns.length ≤ cap ∧ cap ≤ maxLen ∧
    (ns = [] ∨ ∃ b off, ao = some ⟨b, off, none⟩ ∧ b < w.heap.size ∧ ∀ i, i < ns.length → CellsE w b (off + i * 8) (eAt ns i))
theorem RdE.len {w : World} {v : Value} {ns : List Ef} (h : RdE w v ns) : ∃ ao cap, v = .slice ao ns.length cap ∧ ns.length ≤ cap ∧ cap ≤ maxLen := by
  obtain ⟨ao, cap, h0, h1, h2, _⟩ := h
  exact ⟨ao, cap, h0, h1, h2⟩
theorem RdE.below {w w' : World} {v : Value} {ns : List Ef} (h : RdE w v ns) (hb : Below w.heap.size w w') : RdE w' v ns := by
  obtain ⟨ao, cap, rfl, h1, h2, h3⟩ := h
  refine ⟨ao, cap, rfl, h1, h2, ?_⟩
  rcases h3 with h3 | ⟨b, off, rfl, hlt, hc⟩
  · exact .inl h3
  · exact .inr ⟨b, off, rfl, Nat.lt_of_lt_of_le hlt hb.size, fun i hi => (hc i hi).below hb hlt⟩

/-! ### rows of nodes -/
def erow (ns : List Ef) : List Value := ns.flatMap efL
theorem erow_cons (n : Ef) (ns : List Ef) : erow (n :: ns) = efL n ++ erow ns := by simp [erow]
theorem erow_append (ns ms : List Ef) : erow (ns ++ ms) = erow ns ++ erow ms := by simp [erow]
theorem erow_length : ∀ ns : List Ef, (erow ns).length = ns.length * 8
  | [] => rfl
  | n :: ns => by rw [erow_cons, List.length_append, erow_length ns, List.length_cons]; show 8 + _ = _; omega
theorem erow_get : ∀ (ns : List Ef) (i j : Nat), i < ns.length → j < 8 → (erow ns)[i * 8 + j]? = (efL (eAt ns i))[j]?
  | [], i, j, h, _ => by simp at h
  | n :: ns, 0, j, _, hj => by
    rw [erow_cons, Nat.zero_mul, Nat.zero_add, List.getElem?_append_left (by show j < 8; exact hj)]; rfl
  | n :: ns, i + 1, j, h, hj => by
    rw [erow_cons, List.getElem?_append_right (by show 8 ≤ _; omega), show (i + 1) * 8 + j - (efL n).length = i * 8 + j by show (i + 1) * 8 + j - 8 = _; omega, erow_get ns i j (by simpa using h) hj]
    rfl
def set8 (L : List Value) (p : Nat) (n : Ef) : List Value :=
  (((((((L.set p (.bool n.del)).set (p + 1) (.string n.nd.path)).set (p + 2) (.string n.nd.data)).set (p + 3) (.int .i64 n.nd.ver)).set (p + 4) (.int .i64 n.nd.cver)).set (p + 5) (.int .i64 n.nd.cz)).set (p + 6) (.int .i64 n.nd.mz)).set (p + 7) (.int .i64 n.nd.pz)
theorem set8_app (a L : List Value) (p : Nat) (n : Ef) (h : a.length = 8) : set8 (a ++ L) (8 + p) n = a ++ set8 L p n := by
  unfold set8
  have e : ∀ (M : List Value) (q : Nat) (v : Value), (a ++ M).set (8 + q) v = a ++ M.set q v := fun M q v => by
    rw [List.set_append_right _ _ (by omega)]; congr 2; omega
  rw [e, show 8 + p + 1 = 8 + (p + 1) by omega, e, show 8 + p + 2 = 8 + (p + 2) by omega, e, show 8 + p + 3 = 8 + (p + 3) by omega, e, show 8 + p + 4 = 8 + (p + 4) by omega, e, show 8 + p + 5 = 8 + (p + 5) by omega, e, show 8 + p + 6 = 8 + (p + 6) by omega, e, show 8 + p + 7 = 8 + (p + 7) by omega, e]
theorem erow_set : ∀ (ns : List Ef) (k : Nat) (n : Ef), k < ns.length → set8 (erow ns) (k * 8) n = erow (ns.set k n)
  | [], k, n, h => by simp at h
  | m :: ns, 0, n, _ => by
    rw [erow_cons, List.set_cons_zero, erow_cons]
    rfl
  | m :: ns, k + 1, n, h => by
    rw [erow_cons, List.set_cons_succ, erow_cons, show (k + 1) * 8 = 8 + k * 8 by omega, set8_app _ _ _ _ rfl, erow_set ns k n (by simpa using h)]
theorem erow_zero (n : Nat) : (madeCells #[Value.bool false, Value.string ByteArray.empty, Value.string ByteArray.empty, Value.int .i64 0, Value.int .i64 0, Value.int .i64 0, Value.int .i64 0, Value.int .i64 0] (n * 8)).toList = erow (List.replicate n ef0) := by
  apply List.ext_getElem?
  intro j
  by_cases hj : j < n * 8
  · have h1 := erow_get (List.replicate n ef0) (j / 8) (j % 8) (by rw [List.length_replicate]; omega) (Nat.mod_lt _ (by decide))
    rw [show j / 8 * 8 + j % 8 = j by omega] at h1
    rw [h1, eAt_get (by rw [List.length_replicate]; omega), List.getElem_replicate]
    have h8 : j % 8 < 8 := Nat.mod_lt _ (by decide)
    rw [made_get _ _ _ hj]
    show some (#[Value.bool false, Value.string ByteArray.empty, Value.string ByteArray.empty, Value.int .i64 0, Value.int .i64 0, Value.int .i64 0, Value.int .i64 0, Value.int .i64 0][j % 8]!) = _
    clear h1
    generalize j % 8 = r at *
    match r, h8 with
    | 0, _ => rfl
    | 1, _ => rfl
    | 2, _ => rfl
    | 3, _ => rfl
    | 4, _ => rfl
    | 5, _ => rfl
    | 6, _ => rfl
    | 7, _ => rfl
  · rw [List.getElem?_eq_none (by simp [madeCells]; omega), List.getElem?_eq_none (by rw [erow_length, List.length_replicate]; omega)]

/-- The first k written. -/
def mixE (ns : List Ef) (k : Nat) : List Ef := ns.take k ++ List.replicate (ns.length - k) ef0
theorem mixE_len (ns : List Ef) (k : Nat) (h : k ≤ ns.length) : (mixE ns k).length = ns.length := by unfold mixE; rw [List.length_append, List.length_take, List.length_replicate]; omega
theorem mixE_all (ns : List Ef) : mixE ns ns.length = ns := by unfold mixE; simp
theorem mixE_zero (ns : List Ef) : mixE ns 0 = List.replicate ns.length ef0 := by unfold mixE; simp
theorem mixE_set (ns : List Ef) (k : Nat) (h : k < ns.length) : (mixE ns k).set k (eAt ns k) = mixE ns (k + 1) := by
  unfold mixE
  rw [List.set_append_right _ _ (by rw [List.length_take]; omega), List.length_take, show k - min k ns.length = 0 by omega, show ns.length - k = (ns.length - (k + 1)) + 1 by omega, List.replicate_succ, List.set_cons_zero, List.take_succ_eq_append_getElem h, eAt_get h, List.append_assoc]
  rfl

/-- A slice of nodes of the call's own. -/
def OwnE (e : TypeId) (w : World) (lo : Nat) (v : Value) (ns : List Ef) : Prop := w.ownsRow lo e 8 v ns.length (erow ns)
theorem OwnE.rd {e : TypeId} {w : World} {lo : Nat} {v : Value} {ns : List Ef} (h : OwnE e w lo v ns) : RdE w v ns := by
  rcases h.2 with ⟨rfl, h0⟩ | ⟨g, cap, cur, rfl, hb, hg, hn, hm, hs, ht⟩
  · have : ns = [] := List.eq_nil_of_length_eq_zero h0
    subst this
    exact ⟨none, 0, rfl, Nat.le_refl _, Nat.zero_le _, .inl rfl⟩
  · refine ⟨_, cap, rfl, hn, hm, .inr ⟨g, 0, rfl, (Array.getElem?_eq_some_iff.1 hg).1, fun i hi => ?_⟩⟩
    have c : ∀ j, j < 8 → w.cell? ⟨g, 0 + (i * 8 + j), none⟩ = (efL (eAt ns i))[j]? := fun j hj => by
      have hh := erow_get ns i j hi hj
      have h9 : (efL (eAt ns i))[j]? = some ((efL (eAt ns i)).getD j undef) := by
        match j, hj with
        | 0, _ => rfl
        | 1, _ => rfl
        | 2, _ => rfl
        | 3, _ => rfl
        | 4, _ => rfl
        | 5, _ => rfl
        | 6, _ => rfl
        | 7, _ => rfl
      rw [h9] at hh
      have := World.ownsRow.cells h (g := g) rfl (i * 8 + j) _ hh
      rw [Addr.add_lit] at this
      rw [this, h9]
    exact ⟨c 0 (by omega), c 1 (by omega), c 2 (by omega), c 3 (by omega), c 4 (by omega), c 5 (by omega), c 6 (by omega), c 7 (by omega)⟩
theorem OwnE.below {e : TypeId} {w w' : World} {lo : Nat} {v : Value} {ns : List Ef} (h : OwnE e w lo v ns) (hb : Below w.heap.size w w') : OwnE e w' lo v ns := by
  refine ⟨h.1, ?_⟩
  rcases h.2 with hn | ⟨g, cap, cur, rfl, hbg, hgg, rest⟩
  · exact .inl hn
  · exact .inr ⟨g, cap, cur, rfl, hbg, by rw [hb.block g (Array.getElem?_eq_some_iff.1 hgg).1]; exact hgg, rest⟩
theorem OwnE.mono {e : TypeId} {w : World} {lo lo' : Nat} {v : Value} {ns : List Ef} (h : OwnE e w lo v ns) (hl : lo' ≤ lo) : OwnE e w lo' v ns := by
  refine ⟨h.1, ?_⟩
  rcases h.2 with hn | ⟨g, cap, cur, rfl, hbg, rest⟩
  · exact .inl hn
  · exact .inr ⟨g, cap, cur, rfl, Nat.le_trans hl hbg, rest⟩
theorem OwnE.slice {e : TypeId} {w : World} {lo : Nat} {v : Value} {ns : List Ef} (h : OwnE e w lo v ns) : ∃ a c, v = .slice a ns.length c := by
  obtain ⟨a, c, h0, _⟩ := h.rd.len
  exact ⟨a, c, h0⟩


/-- All the bytes of the texts. -/
def totE (ns : List Ef) : Nat := (ns.map fun n => n.nd.path.size + n.nd.data.size).sum
theorem totE_take_succ (ns : List Ef) (k : Nat) (h : k < ns.length) : totE (ns.take (k + 1)) = totE (ns.take k) + ((eAt ns k).nd.path.size + (eAt ns k).nd.data.size) := by
  unfold totE
  rw [List.take_succ_eq_append_getElem h, List.map_append, List.sum_append, eAt_get h]
  simp
theorem totE_all (ns : List Ef) (k : Nat) (h : ns.length ≤ k) : totE (ns.take k) = totE ns := by rw [List.take_of_length_le h]
theorem totE_ge (ns : List Ef) (i : Nat) : (eAt ns i).nd.path.size + (eAt ns i).nd.data.size ≤ totE ns := by
  by_cases h : i < ns.length
  · have h1 := totE_take_succ ns i h
    have h2 : totE (ns.take (i + 1)) ≤ totE ns := by
      unfold totE
      conv => rhs; rw [← List.take_append_drop (i + 1) ns, List.map_append, List.sum_append]
      omega
    omega
  · unfold eAt; rw [List.getD, List.getElem?_eq_none (by omega)]; exact Nat.zero_le _

end Go.Proofs.YtgjenbgclpmjmaaDoor

namespace Go.Proofs.YtgjenbgclpmjmaaDoor
open Go.RowKit

set_option maxHeartbeats 1000000 in
set_option maxRecDepth 100000 in
theorem szEffect_any (w : World) (n : Ef) (left : Int) (hp : n.nd.path.size ≤ maxLen) (hd : n.nd.data.size ≤ maxLen) (h0 : 0 ≤ left) (h1 : left ≤ 1048576) :
    Calls Tryd.prog 105 #[.agg #[.bool n.del, .string n.nd.path, .string n.nd.data, .int .i64 n.nd.ver, .int .i64 n.nd.cver, .int .i64 n.nd.cz, .int .i64 n.nd.mz, .int .i64 n.nd.pz], .int .i64 left] w fun e w' => e = .returned (.int .i64 (szr left (n.nd.path.size + n.nd.data.size))) ∧ Below w.heap.size w w' := by
  have B0 : Hid (Below w.heap.size w (w.alloc (.cells #[.bool n.del, .string n.nd.path, .string n.nd.data, .int .i64 n.nd.ver, .int .i64 n.nd.cver, .int .i64 n.nd.cz, .int .i64 n.nd.mz, .int .i64 n.nd.pz] 130))) := (Below.refl _ _).alloc (Nat.le_refl _) _
  go_enter Tryd.func105, Tryd.ntmps105
  go_wp2_with fail
  refine (szNode_any _ n.nd left hp hd h0 h1).mono ?_
  rintro e w1 ⟨rfl, b1⟩
  have B1 : Hid (Below w.heap.size w w1) := B0.out.trans (b1.mono (by simp))
  clear b1
  unfold maxLen at hp hd
  by_cases h : left < ((n.nd.path.size + n.nd.data.size : Nat) : Int)
  · have HS : Hid (szr left (n.nd.path.size + n.nd.data.size) = -1) := szr_neg h
    rw [szr_neg h]
    clear h
    go_wp2
    go_ret
    exact ⟨ret_i HS.out.symm, B1.out⟩
  · have HS := szr_pos h
    rw [szr_pos h]
    obtain ⟨L2, hL2⟩ : ∃ L2 : Int, L2 = left - ((n.nd.path.size + n.nd.data.size : Nat) : Int) := ⟨_, rfl⟩
    rw [← hL2] at HS
    rw [← hL2]
    have HS2 : Hid (szr left (n.nd.path.size + n.nd.data.size) = L2) := HS
    have h3 : ¬ L2 < 0 := by omega
    clear hL2 h HS
    go_wp2
    go_ret
    exact ⟨ret_i HS2.out.symm, B1.out⟩

set_option maxHeartbeats 1000000 in
set_option maxRecDepth 100000 in
theorem szEffectS_row (w : World) (b o n cap : Nat) (ns : List Ef) (hp : ns.length = n) (hn : n ≤ maxLen) (hb : b < w.heap.size) (hsz : ∀ i, (eAt ns i).nd.path.size ≤ maxLen ∧ (eAt ns i).nd.data.size ≤ maxLen)
    (hc : ∀ i, i < n → CellsE w b (o + i * 8) (eAt ns i)) (left : Int) (h0 : 0 ≤ left) (h1 : left ≤ 1048576) :
    Calls Tryd.prog 62 #[.slice (some ⟨b, o, none⟩) n cap, .int .i64 left] w fun e w' => ∃ r : Int, e = .returned (.int .i64 r) ∧ (r < 0 ∨ r + n + totE ns = left) ∧ Below w.heap.size w w' := by
  have HC : Hid (∀ i, i < n → CellsE w b (o + i * 8) (eAt ns i)) := hc
  have HP : Hid (ns.length = n) := hp
  have HZ : Hid (∀ i, (eAt ns i).nd.path.size ≤ maxLen ∧ (eAt ns i).nd.data.size ≤ maxLen) := hsz
  clear hc hp hsz
  unfold maxLen at hn
  by_cases hl : left < n
  · have h2 : left - (n : Int) < 0 := by omega
    go_enter Tryd.func62, Tryd.ntmps62
    go_wp2
    go_ret
    exact ⟨-1, rfl, .inl (by omega), Below.refl _ _⟩
  · have h2 : ¬ left - (n : Int) < 0 := by omega
    go_enter Tryd.func62, Tryd.ntmps62
    go_wp2
    go_loopw [1, 5] (fun l i wr => ∃ (k : Nat) (L : Int), k ≤ n ∧ i = .int .i64 k ∧ 0 ≤ L ∧ L ≤ 1048576 ∧ l = .int .i64 L ∧ Hid (L + n + totE (ns.take k) = left) ∧ Hid (Below w.heap.size w wr)) (fun _ i _ => n - (intOf i).toNat)
    case atStart => exact ⟨0, left - n, Nat.zero_le _, rfl, by omega, by omega, rfl, (by show _ = _; simp [totE]), Below.refl _ _⟩
    case round =>
      obtain ⟨k, L, hk, rfl, hL0, hL1, rfl, HE, HG⟩ := hrel
      by_cases hlt : k < n
      · have hltI : (k : Int) < (n : Int) := by omega
        obtain ⟨c0, c1, c2, c3, c4, c5, c6, c7⟩ := (HC.out k hlt).below HG.out hb
        have HTS : Hid (totE (ns.take (k + 1)) = totE (ns.take k) + ((eAt ns k).nd.path.size + (eAt ns k).nd.data.size)) := totE_take_succ ns k (by rw [HP.out]; exact hlt)
        have sg := HG.out.size
        go_wp2_with fail
        refine (szEffect_any _ (eAt ns k) L (HZ.out k).1 (HZ.out k).2 hL0 hL1).mono ?_
        rintro e w1 ⟨rfl, b1⟩
        have HG1 : Hid (Below w.heap.size w w1) := HG.out.trans (b1.mono sg)
        clear b1 c0 c1 c2 c3 c4 c5 c6 c7
        obtain ⟨hz1, hz2⟩ := HZ.out k
        unfold maxLen at hz1 hz2
        by_cases hneg : L < (((eAt ns k).nd.path.size + (eAt ns k).nd.data.size : Nat) : Int)
        · rw [szr_neg hneg]
          clear hneg
          go_wp2
          go_ret
          exact ⟨-1, rfl, .inl (by omega), HG1.out⟩
        · rw [szr_pos hneg]
          obtain ⟨L2, hL2⟩ : ∃ L2 : Int, L2 = L - (((eAt ns k).nd.path.size + (eAt ns k).nd.data.size : Nat) : Int) := ⟨_, rfl⟩
          have HL2 : Hid (L2 = L - (((eAt ns k).nd.path.size + (eAt ns k).nd.data.size : Nat) : Int)) := hL2
          rw [← hL2]
          have h3 : ¬ L2 < 0 := by omega
          have h4 : L2 ≤ 1048576 := by omega
          clear hL2 hneg
          go_wp2
          go_roundw
          case rel => exact ⟨k + 1, L2, by omega, by go_num, by omega, by omega, rfl, (by show _ = _; rw [HTS.out]; have := HE.out; have := HL2.out; omega), HG1⟩
          case measure => simp [intOf]; omega
      · go_wp2
        go_ret
        exact ⟨L, rfl, .inr (by have := HE.out; rw [totE_all ns k (by rw [HP.out]; omega)] at this; exact this), HG.out⟩

set_option maxHeartbeats 400000 in
theorem szEffectS_nil (w : World) (ao : Option Addr) (cap : Nat) (left : Int) (h0 : 0 ≤ left) (h1 : left ≤ 1048576) :
    Calls Tryd.prog 62 #[.slice ao 0 cap, .int .i64 left] w fun e w' => e = .returned (.int .i64 left) ∧ w' = w := by
  have h2 : ¬ left < 0 := by omega
  go_enter Tryd.func62, Tryd.ntmps62
  go_wp2
  go_rounds 1
  go_ret
  exact ⟨by simp, rfl⟩

theorem szEffectS_any (w : World) (v : Value) (ns : List Ef) (h : RdE w v ns) (hsz : ∀ i, (eAt ns i).nd.path.size ≤ maxLen ∧ (eAt ns i).nd.data.size ≤ maxLen) (left : Int) (h0 : 0 ≤ left) (h1 : left ≤ 1048576) :
    Calls Tryd.prog 62 #[v, .int .i64 left] w fun e w' => ∃ r : Int, e = .returned (.int .i64 r) ∧ (r < 0 ∨ r + ns.length + totE ns = left) ∧ Below w.heap.size w w' := by
  obtain ⟨ao, cap, rfl, k1, k2, k3⟩ := h
  rcases k3 with rfl | ⟨b, o, rfl, hb, hc⟩
  · refine (szEffectS_nil w ao cap left h0 h1).mono ?_
    rintro e w' ⟨rfl, rfl⟩
    exact ⟨left, rfl, .inr (by simp [totE]), Below.refl _ _⟩
  · exact szEffectS_row w b o ns.length cap ns rfl (by omega) hb hsz hc left h0 h1

set_option maxHeartbeats 400000 in
theorem szTxn_any (w : World) (z : Int) (v : Value) (ns : List Ef) (h : RdE w v ns) (hsz : ∀ i, (eAt ns i).nd.path.size ≤ maxLen ∧ (eAt ns i).nd.data.size ≤ maxLen) (left : Int) (h0 : 0 ≤ left) (h1 : left ≤ 1048576) :
    Calls Tryd.prog 19 #[.agg #[.int .i64 z, v], .int .i64 left] w fun e w' => ∃ r : Int, e = .returned (.int .i64 r) ∧ (r < 0 ∨ r + ns.length + totE ns = left) ∧ Below w.heap.size w w' := by
  have B0 : Hid (Below w.heap.size w (w.alloc (.cells #[.int .i64 z, v] 36))) := (Below.refl _ _).alloc (Nat.le_refl _) _
  obtain ⟨ao, cap, rfl, k1, k2⟩ := h.len
  have HR : Hid (RdE (w.alloc (.cells #[.int .i64 z, .slice ao ns.length cap] 36)) (.slice ao ns.length cap) ns) := h.below B0.out
  clear h
  go_enter Tryd.func19, Tryd.ntmps19
  go_wp2_with fail
  refine (szEffectS_any _ _ ns HR.out hsz left h0 h1).mono ?_
  rintro e w1 ⟨r, rfl, hr, b1⟩
  have B1 : Hid (Below w.heap.size w w1) := B0.out.trans (b1.mono (by simp))
  have hr2 : r ≤ 1048576 := by omega
  have HRR : Hid (r < 0 ∨ r + ns.length + totE ns = left) := hr
  clear b1 hr
  by_cases hneg : r < 0
  · go_wp2
    go_ret
    exact ⟨-1, rfl, .inl (by omega), B1.out⟩
  · go_wp2
    go_ret
    exact ⟨r, rfl, HRR.out, B1.out⟩

end Go.Proofs.YtgjenbgclpmjmaaDoor

namespace Go.Proofs.YtgjenbgclpmjmaaDoor
open Go.RowKit

theorem Tryd.infoE : (Tryd.prog.info? 86).map (fun i => (i.zero, i.size, i.bytes)) = some (some (.agg #[.bool false, .string ByteArray.empty, .string ByteArray.empty, .int .i64 0, .int .i64 0, .int .i64 0, .int .i64 0, .int .i64 0]), 8, 80) := by kernel_rfl

set_option maxHeartbeats 2000000 in
set_option maxRecDepth 100000 in
theorem toEffect_any (w : World) (n : Ef) :
    Calls Tryd.prog 107 #[.agg #[.bool n.del, .string n.nd.path, .string n.nd.data, .int .i64 n.nd.ver, .int .i64 n.nd.cver, .int .i64 n.nd.cz, .int .i64 n.nd.mz, .int .i64 n.nd.pz]] w fun e w' => e = .returned (.agg #[.bool n.del, .string n.nd.path, .string n.nd.data, .int .i64 n.nd.ver, .int .i64 n.nd.cver, .int .i64 n.nd.cz, .int .i64 n.nd.mz, .int .i64 n.nd.pz]) ∧ Below w.heap.size w w' := by
  have HB : Hid (∀ o1 o2 o3 o4 o5 o6, Below w.heap.size w ((((((w.alloc o1).alloc o2).alloc o3).alloc o4).alloc o5).alloc o6)) := fun o1 o2 o3 o4 o5 o6 => ((((((Below.refl _ _).alloc (Nat.le_refl _) _).alloc (by simp) _).alloc (by simp; omega) _).alloc (by simp; omega) _).alloc (by simp; omega) _).alloc (by simp; omega) _
  go_enter Tryd.func107, Tryd.ntmps107
  go_wp2
  refine bodyPost_ret (v := .agg #[.bool n.del, .string n.nd.path, .string n.nd.data, .int .i64 n.nd.ver, .int .i64 n.nd.cver, .int .i64 n.nd.cz, .int .i64 n.nd.mz, .int .i64 n.nd.pz]) (by simp [results, Tryd.results107, go_sem]) rfl ⟨rfl, HB.out _ _ _ _ _ _⟩

theorem estored {w : World} {lo g n cap : Nat} {e : TypeId} {ms : List Ef} (ho : w.ownsRow lo e 8 (.slice (some ⟨g, 0, none⟩) n cap) n (erow ms)) (k : Nat) (hk : k < ms.length) (m : Ef) :
    ((((((((w.setCell ⟨g, k * 8, none⟩ (.bool m.del)).setCell ⟨g, k * 8 + 1, none⟩ (.string m.nd.path)).setCell ⟨g, k * 8 + 2, none⟩ (.string m.nd.data)).setCell ⟨g, k * 8 + 3, none⟩ (.int .i64 m.nd.ver)).setCell ⟨g, k * 8 + 4, none⟩ (.int .i64 m.nd.cver)).setCell ⟨g, k * 8 + 5, none⟩ (.int .i64 m.nd.cz)).setCell ⟨g, k * 8 + 6, none⟩ (.int .i64 m.nd.mz)).setCell ⟨g, k * 8 + 7, none⟩ (.int .i64 m.nd.pz)).ownsRow lo e 8 (.slice (some ⟨g, 0, none⟩) n cap) n (erow (ms.set k m)) := by
  have s0 := (World.ownsRow.stored ho (k * 8) (.bool m.del)).1
  have s1 := (World.ownsRow.stored s0 (k * 8 + 1) (.string m.nd.path)).1
  have s2 := (World.ownsRow.stored s1 (k * 8 + 2) (.string m.nd.data)).1
  have s3 := (World.ownsRow.stored s2 (k * 8 + 3) (.int .i64 m.nd.ver)).1
  have s4 := (World.ownsRow.stored s3 (k * 8 + 4) (.int .i64 m.nd.cver)).1
  have s5 := (World.ownsRow.stored s4 (k * 8 + 5) (.int .i64 m.nd.cz)).1
  have s6 := (World.ownsRow.stored s5 (k * 8 + 6) (.int .i64 m.nd.mz)).1
  have s7 := (World.ownsRow.stored s6 (k * 8 + 7) (.int .i64 m.nd.pz)).1
  rw [← erow_set ms k m hk]
  exact s7

set_option maxHeartbeats 2000000 in
set_option maxRecDepth 100000 in
theorem toEffectS_row (w : World) (b o n cap : Nat) (ns : List Ef) (hp : ns.length = n) (hb : b < w.heap.size) (hc : ∀ i, i < n → CellsE w b (o + i * 8) (eAt ns i)) (hn : n ≤ 1048576) :
    Calls Tryd.prog 64 #[.slice (some ⟨b, o, none⟩) n cap] w fun e w' => ∃ v', e = .returned v' ∧ OwnE 86 w' w.heap.size v' ns ∧ Below w.heap.size w w' := by
  obtain ⟨i0, hi, hz0, hz1, hz2⟩ := info_parts Tryd.infoE
  have HC : Hid (∀ i, i < n → CellsE w b (o + i * 8) (eAt ns i)) := hc
  have HP : Hid (ns.length = n) := hp
  clear hc hp
  go_enter Tryd.func64, Tryd.ntmps64
  go_wp2_with (at_make; go_must (refine wpList_make_full _ rfl _ _ 39 rfl w.heap.size 86 i0 (.agg #[.bool false, .string ByteArray.empty, .string ByteArray.empty, .int .i64 0, .int .i64 0, .int .i64 0, .int .i64 0, .int .i64 0]) 8 Tryd.underlying39 hi hz0 hz1 _ _ _ _ n rfl rfl rfl rfl ?b2 ?b3 ?b4 ?_))
  case b2 => rw [hz2]; omega
  case b3 => unfold maxLen; omega
  case b4 => exact Nat.le_refl _
  intro w1 hown hgrow
  have HO : Hid (w1.ownsRow w.heap.size 86 8 (.slice (some ⟨w.heap.size, 0, none⟩) n n) n (erow (mixE ns 0))) := by
    show World.ownsRow _ _ _ _ _ _ _
    rw [mixE_zero, HP.out, ← erow_zero]
    exact hown
  have HG : Hid (Below w.heap.size w w1) := (Below.refl _ _).grown hgrow (Nat.le_refl _) (by simp)
  clear hown hgrow hi hz0 hz1 hz2
  go_wp2
  go_loopw [4] (fun i wr => ∃ k : Nat, k ≤ n ∧ i = .int .i64 k ∧ Hid (wr.ownsRow w.heap.size 86 8 (.slice (some ⟨w.heap.size, 0, none⟩) n n) n (erow (mixE ns k))) ∧ Hid (Below w.heap.size w wr)) (fun i _ => n - (intOf i).toNat)
  case atStart => exact ⟨0, Nat.zero_le _, rfl, HO, HG⟩
  case round =>
    obtain ⟨k, hk, rfl, HOr, HGr⟩ := hrel
    by_cases hlt : k < n
    · have hltI : (k : Int) < (n : Int) := by omega
      obtain ⟨c0, c1, c2, c3, c4, c5, c6, c7⟩ := (HC.out k hlt).below HGr.out hb
      go_wp2_with fail
      refine (toEffect_any _ (eAt ns k)).mono ?_
      rintro e w2 ⟨rfl, b2⟩
      have HO2 : w2.ownsRow w.heap.size 86 8 (.slice (some ⟨w.heap.size, 0, none⟩) n n) n (erow (mixE ns k)) :=
        World.ownsRow.kept HOr.out (row := none) ⟨b2.os, b2.tape, b2.output, b2.size, fun k hk _ => b2.block k hk⟩ (.inr (by simp [Value.ownBlock]))
      have hml : (mixE ns k).length = n := by rw [mixE_len ns k (by rw [HP.out]; exact hk), HP.out]
      have hrd := (show OwnE 86 w2 w.heap.size (.slice (some ⟨w.heap.size, 0, none⟩) n n) (mixE ns k) by unfold OwnE; rw [hml]; exact HO2).rd
      have hD : CellsE w2 w.heap.size (k * 8) (eAt (mixE ns k) k) := by
        obtain ⟨ao', cap', e', -, -, h3⟩ := hrd
        rcases h3 with h3 | ⟨b', off', rfl, -, hc'⟩
        · rw [h3] at hml; simp at hml; omega
        · simp only [Value.slice.injEq, Option.some.injEq, Addr.mk.injEq] at e'
          obtain ⟨⟨rfl, rfl, -⟩, -, -⟩ := e'
          have := hc' k (by rw [hml]; exact hlt)
          rwa [Nat.zero_add] at this
      obtain ⟨d0, d1, d2, d3, d4, d5, d6, d7⟩ := hD
      have f0 := World.ownsRow.frozenAt HO2 (k * 8)
      have f1 := World.ownsRow.frozenAt HO2 (k * 8 + 1)
      have f2 := World.ownsRow.frozenAt HO2 (k * 8 + 2)
      have f3 := World.ownsRow.frozenAt HO2 (k * 8 + 3)
      have f4 := World.ownsRow.frozenAt HO2 (k * 8 + 4)
      have f5 := World.ownsRow.frozenAt HO2 (k * 8 + 5)
      have f6 := World.ownsRow.frozenAt HO2 (k * 8 + 6)
      have f7 := World.ownsRow.frozenAt HO2 (k * 8 + 7)
      have HG2 : Hid (Below w.heap.size w w2) := HGr.out.trans (b2.mono HGr.out.size)
      have zw2 : w.heap.size < w2.heap.size := (World.ownsRow.lt HO2 w.heap.size rfl).2
      have S : Hid _ := estored HO2 k (by rw [hml]; exact hlt) (eAt ns k)
      have HMS : Hid ((mixE ns k).set k (eAt ns k) = mixE ns (k + 1)) := mixE_set ns k (by rw [HP.out]; exact hlt)
      clear b2 HO2 c0 c1 c2 c3 c4 c5 c6 c7 HOr hml hrd
      go_wp2
      go_roundw
      case rel => exact ⟨k + 1, by omega, by go_num, (by show World.ownsRow _ _ _ _ _ _ _; rw [← HMS.out]; exact S.out), (((((((HG2.out.setCell (Nat.le_refl _) _).setCell (Nat.le_refl _) _).setCell (Nat.le_refl _) _).setCell (Nat.le_refl _) _).setCell (Nat.le_refl _) _).setCell (Nat.le_refl _) _).setCell (Nat.le_refl _) _).setCell (Nat.le_refl _) _⟩
      case measure => simp [intOf]; omega
    · have hkn : k = n := by omega
      subst hkn
      go_wp2
      go_ret
      refine ⟨_, rfl, ?_, HGr.out⟩
      unfold OwnE
      have := HOr.out
      rw [← HP.out, mixE_all] at this
      rw [← HP.out]; exact this

set_option maxHeartbeats 400000 in
theorem toEffectS_nil (w : World) (ao : Option Addr) (cap : Nat) :
    Calls Tryd.prog 64 #[.slice ao 0 cap] w fun e w' => ∃ v', e = .returned v' ∧ OwnE 86 w' w.heap.size v' [] ∧ Below w.heap.size w w' := by
  obtain ⟨i0, hi, hz0, hz1, hz2⟩ := info_parts Tryd.infoE
  go_enter Tryd.func64, Tryd.ntmps64
  go_wp2_with (at_make; go_must (refine wpList_make_full _ rfl _ _ 39 rfl w.heap.size 86 i0 (.agg #[.bool false, .string ByteArray.empty, .string ByteArray.empty, .int .i64 0, .int .i64 0, .int .i64 0, .int .i64 0, .int .i64 0]) 8 Tryd.underlying39 hi hz0 hz1 _ _ _ _ 0 rfl rfl rfl rfl ?b2 ?b3 ?b4 ?_))
  case b2 => rw [hz2]; omega
  case b3 => unfold maxLen; omega
  case b4 => exact Nat.le_refl _
  intro w1 hown hgrow
  have HO : Hid (w1.ownsRow w.heap.size 86 8 (.slice (some ⟨w.heap.size, 0, none⟩) 0 0) 0 []) := by
    have e := erow_zero 0
    rw [Nat.zero_mul] at e
    rw [e] at hown
    exact hown
  have HG : Hid (Below w.heap.size w w1) := (Below.refl _ _).grown hgrow (Nat.le_refl _) (by simp)
  clear hown hgrow
  go_wp2
  go_rounds 1
  go_ret
  exact ⟨_, rfl, HO.out, HG.out⟩

theorem toEffectS_any (w : World) (v : Value) (ns : List Ef) (h : RdE w v ns) (hn : ns.length ≤ 1048576) :
    Calls Tryd.prog 64 #[v] w fun e w' => ∃ v', e = .returned v' ∧ OwnE 86 w' w.heap.size v' ns ∧ Below w.heap.size w w' := by
  obtain ⟨ao, cap, rfl, k1, k2, k3⟩ := h
  rcases k3 with rfl | ⟨b, o, rfl, hb, hc⟩
  · exact toEffectS_nil w ao cap
  · exact toEffectS_row w b o ns.length cap ns rfl hb hc hn

theorem OwnE.setBelow {e : TypeId} {w : World} {lo : Nat} {v : Value} {ns : List Ef} (h : OwnE e w lo v ns) {a : Addr} (ha : a.block < lo) (u : Value) : OwnE e (w.setCell a u) lo v ns := ownsRow_setCell_below h ha u

set_option maxHeartbeats 1000000 in
set_option maxRecDepth 100000 in
theorem toTxn_any (w : World) (z : Int) (v : Value) (ns : List Ef) (h : RdE w v ns) (hn : ns.length ≤ 1048576) :
    Calls Tryd.prog 21 #[.agg #[.int .i64 z, v]] w fun e w' => ∃ a c, e = .returned (.agg #[.int .i64 z, .slice a ns.length c]) ∧ OwnE 86 w' w.heap.size (.slice a ns.length c) ns ∧ Below w.heap.size w w' := by
  obtain ⟨ao, cap, rfl, k1, k2⟩ := h.len
  have HB : Hid (∀ o1 o2 o3, Below w.heap.size w (((w.alloc o1).alloc o2).alloc o3)) := fun o1 o2 o3 => (((Below.refl _ _).alloc (Nat.le_refl _) _).alloc (by simp) _).alloc (by simp; omega) _
  have HR : Hid (RdE w (.slice ao ns.length cap) ns) := h
  clear h
  go_enter Tryd.func21, Tryd.ntmps21
  go_wp2_with fail
  refine (toEffectS_any _ _ ns (HR.out.below (HB.out _ _ _)) hn).mono ?_
  rintro e w1 ⟨v1, rfl, o1, b1⟩
  obtain ⟨a1, c1, rfl⟩ := o1.slice
  have cR0 : w1.cell? ⟨w.heap.size + 1, 0, none⟩ = some (.int .i64 0) := (b1.cell (p := ⟨w.heap.size + 1, 0, none⟩) (by simp)).trans (by go_simp)
  have fR0 : w1.frozen? ⟨w.heap.size + 1, 0, none⟩ = false := (b1.frozen (p := ⟨w.heap.size + 1, 0, none⟩) (by simp)).trans (by go_simp)
  have cR : w1.cell? ⟨w.heap.size + 1, 1, none⟩ = some (.slice none 0 0) := (b1.cell (p := ⟨w.heap.size + 1, 1, none⟩) (by simp)).trans (by go_simp)
  have fR : w1.frozen? ⟨w.heap.size + 1, 1, none⟩ = false := (b1.frozen (p := ⟨w.heap.size + 1, 1, none⟩) (by simp)).trans (by go_simp)
  have cO0 : w1.cell? ⟨w.heap.size + 2, 0, none⟩ = some (.int .i64 z) := (b1.cell (p := ⟨w.heap.size + 2, 0, none⟩) (by simp)).trans (by go_simp)
  have cO : w1.cell? ⟨w.heap.size + 2, 1, none⟩ = some (.slice none 0 0) := (b1.cell (p := ⟨w.heap.size + 2, 1, none⟩) (by simp)).trans (by go_simp)
  have fO : w1.frozen? ⟨w.heap.size + 2, 1, none⟩ = false := (b1.frozen (p := ⟨w.heap.size + 2, 1, none⟩) (by simp)).trans (by go_simp)
  have O1 : Hid (OwnE 86 w1 (w.heap.size + 3) (.slice a1 ns.length c1) ns) := by have := o1; simp at this; exact this
  have z1 : w.heap.size + 3 ≤ w1.heap.size := by have := b1.size; simp at this; omega
  have B1 : Hid (Below w.heap.size w w1) := (HB.out _ _ _).trans (b1.mono (by simp; omega))
  clear o1 b1
  go_wp2
  refine bodyPost_ret (v := .agg #[.int .i64 z, .slice a1 ns.length c1]) (by simp [results, Tryd.results21, go_sem, cR0, cR]) rfl ⟨a1, c1, rfl, ?_, ?_⟩
  · refine OwnE.mono ?_ (show w.heap.size ≤ w.heap.size + 3 by omega)
    repeat (first | exact O1.out | refine OwnE.setBelow ?_ (by simp; try omega) _)
  · repeat (first | exact B1.out | refine Below.setCell ?_ (by simp; try omega) _)

end Go.Proofs.YtgjenbgclpmjmaaDoor

namespace Go.Proofs.YtgjenbgclpmjmaaDoor
open Go.RowKit

set_option maxHeartbeats 1000000 in
set_option maxRecDepth 100000 in
theorem eqEffect_same (w : World) (n : Ef) :
    Calls Tryd.prog 108 #[.agg #[.bool n.del, .string n.nd.path, .string n.nd.data, .int .i64 n.nd.ver, .int .i64 n.nd.cver, .int .i64 n.nd.cz, .int .i64 n.nd.mz, .int .i64 n.nd.pz], .agg #[.bool n.del, .string n.nd.path, .string n.nd.data, .int .i64 n.nd.ver, .int .i64 n.nd.cver, .int .i64 n.nd.cz, .int .i64 n.nd.mz, .int .i64 n.nd.pz]] w fun e w' => e = .returned (.bool true) ∧ Below w.heap.size w w' := by
  have B0 : Hid (Below w.heap.size w ((w.alloc (.cells #[.bool n.del, .string n.nd.path, .string n.nd.data, .int .i64 n.nd.ver, .int .i64 n.nd.cver, .int .i64 n.nd.cz, .int .i64 n.nd.mz, .int .i64 n.nd.pz] 86)).alloc (.cells #[.bool n.del, .string n.nd.path, .string n.nd.data, .int .i64 n.nd.ver, .int .i64 n.nd.cver, .int .i64 n.nd.cz, .int .i64 n.nd.mz, .int .i64 n.nd.pz] 86))) := ((Below.refl _ _).alloc (Nat.le_refl _) _).alloc (by simp) _
  have hdd : (n.del != n.del) = false := by simp
  go_enter Tryd.func108, Tryd.ntmps108
  go_wp2_with fail
  refine (eqNode_same _ n.nd).mono ?_
  rintro e w1 ⟨rfl, b1⟩
  have B1 : Hid (Below w.heap.size w w1) := B0.out.trans (b1.mono (by simp; omega))
  clear b1
  go_wp2
  go_ret
  exact ⟨rfl, B1.out⟩

set_option maxHeartbeats 1000000 in
set_option maxRecDepth 100000 in
theorem eqEffectS_row (w : World) (b o b2 o2 n ca cb : Nat) (ns : List Ef) (hn : n ≤ 1048576) (hb : b < w.heap.size) (hb2 : b2 < w.heap.size)
    (hc : ∀ i, i < n → CellsE w b (o + i * 8) (eAt ns i)) (hc2 : ∀ i, i < n → CellsE w b2 (o2 + i * 8) (eAt ns i)) :
    Calls Tryd.prog 67 #[.slice (some ⟨b, o, none⟩) n ca, .slice (some ⟨b2, o2, none⟩) n cb] w fun e w' => e = .returned (.bool true) ∧ Below w.heap.size w w' := by
  have HC : Hid (∀ i, i < n → CellsE w b (o + i * 8) (eAt ns i)) := hc
  have HC2 : Hid (∀ i, i < n → CellsE w b2 (o2 + i * 8) (eAt ns i)) := hc2
  clear hc hc2
  have h1 : ((n : Int) != (n : Int)) = false := by simp
  go_enter Tryd.func67, Tryd.ntmps67
  go_wp2
  go_loopw [5] (fun i wr => ∃ k : Nat, k ≤ n ∧ i = .int .i64 k ∧ Hid (Below w.heap.size w wr)) (fun i _ => n - (intOf i).toNat)
  case atStart => exact ⟨0, Nat.zero_le _, rfl, Below.refl _ _⟩
  case round =>
    obtain ⟨k, hk, rfl, HG⟩ := hrel
    by_cases hlt : k < n
    · obtain ⟨c0, c1, c2, c3, c4, c5, c6, c7⟩ := (HC.out k hlt).below HG.out hb
      obtain ⟨d0, d1, d2, d3, d4, d5, d6, d7⟩ := (HC2.out k hlt).below HG.out hb2
      have hltI : (k : Int) < (n : Int) := by omega
      have HE : Hid (∀ q, Calls Tryd.prog 108 #[.agg #[.bool (eAt ns k).del, .string (eAt ns k).nd.path, .string (eAt ns k).nd.data, .int .i64 (eAt ns k).nd.ver, .int .i64 (eAt ns k).nd.cver, .int .i64 (eAt ns k).nd.cz, .int .i64 (eAt ns k).nd.mz, .int .i64 (eAt ns k).nd.pz], .agg #[.bool (eAt ns k).del, .string (eAt ns k).nd.path, .string (eAt ns k).nd.data, .int .i64 (eAt ns k).nd.ver, .int .i64 (eAt ns k).nd.cver, .int .i64 (eAt ns k).nd.cz, .int .i64 (eAt ns k).nd.mz, .int .i64 (eAt ns k).nd.pz]] (wr.drewN q) fun e w' => e = .returned (.bool true) ∧ Below w.heap.size w w') := by
        intro q
        refine (eqEffect_same _ (eAt ns k)).mono ?_
        rintro e w' ⟨rfl, b'⟩
        exact ⟨rfl, (HG.out.trans ((below_drewN' wr q).mono HG.out.size)).trans (b'.mono HG.out.size)⟩
      go_wp2
      go_region_with (go_at_call 108; refine (HE.out 1).mono ?_; rintro e w' ⟨rfl, b'⟩)
      all_goals
        have HB : Hid (Below w.heap.size w w') := b'
        clear b'
        go_wp2
        go_roundw
        case rel => exact ⟨k + 1, by omega, by go_num, HB⟩
        case measure => simp [intOf]; omega
    · go_wp2
      go_ret
      exact ⟨rfl, HG.out⟩

set_option maxHeartbeats 400000 in
theorem eqEffectS_nil (w : World) (ao bo : Option Addr) (ca cb : Nat) :
    Calls Tryd.prog 67 #[.slice ao 0 ca, .slice bo 0 cb] w fun e w' => e = .returned (.bool true) ∧ w' = w := by
  go_enter Tryd.func67, Tryd.ntmps67
  go_wp2
  go_rounds 1
  go_ret
  exact ⟨rfl, rfl⟩

theorem eqEffectS_same (w : World) (va vb : Value) (ns : List Ef) (ha : RdE w va ns) (hb : RdE w vb ns) (hn : ns.length ≤ 1048576) :
    Calls Tryd.prog 67 #[va, vb] w fun e w' => e = .returned (.bool true) ∧ Below w.heap.size w w' := by
  obtain ⟨ao, ca, rfl, h1, h2, h3⟩ := ha
  obtain ⟨bo, cb, rfl, k1, k2, k3⟩ := hb
  rcases h3 with rfl | ⟨b, o, rfl, hb, hc⟩
  · refine (eqEffectS_nil w ao bo ca cb).mono ?_
    rintro e w' ⟨rfl, rfl⟩
    exact ⟨rfl, Below.refl _ _⟩
  · rcases k3 with rfl | ⟨b2, o2, rfl, hb2, hc2⟩
    · refine (eqEffectS_nil w _ bo ca cb).mono ?_
      rintro e w' ⟨rfl, rfl⟩
      exact ⟨rfl, Below.refl _ _⟩
    · exact eqEffectS_row w b o b2 o2 ns.length ca cb ns hn hb hb2 hc hc2

set_option maxHeartbeats 1000000 in
theorem eqTxn_same (w : World) (z : Int) (va vb : Value) (ns : List Ef) (ha : RdE w va ns) (hb : RdE w vb ns) (hn : ns.length ≤ 1048576) :
    Calls Tryd.prog 23 #[.agg #[.int .i64 z, va], .agg #[.int .i64 z, vb]] w fun e w' => e = .returned (.bool true) ∧ Below w.heap.size w w' := by
  have B0 : Hid (Below w.heap.size w ((w.alloc (.cells #[.int .i64 z, va] 41)).alloc (.cells #[.int .i64 z, vb] 41))) := ((Below.refl _ _).alloc (Nat.le_refl _) _).alloc (by simp) _
  have RA : Hid (RdE ((w.alloc (.cells #[.int .i64 z, va] 41)).alloc (.cells #[.int .i64 z, vb] 41)) va ns) := ha.below B0.out
  have RB : Hid (RdE ((w.alloc (.cells #[.int .i64 z, va] 41)).alloc (.cells #[.int .i64 z, vb] 41)) vb ns) := hb.below B0.out
  clear ha hb
  have hzz : (z != z) = false := by simp
  go_enter Tryd.func23, Tryd.ntmps23
  go_wp2_with fail
  refine (eqEffectS_same _ _ _ ns RA.out RB.out hn).mono ?_
  rintro e w1 ⟨rfl, b1⟩
  have B1 : Hid (Below w.heap.size w w1) := B0.out.trans (b1.mono (by simp; omega))
  clear b1
  go_wp2
  go_ret
  exact ⟨rfl, B1.out⟩

end Go.Proofs.YtgjenbgclpmjmaaDoor

namespace Go.Proofs.YtgjenbgclpmjmaaDoor
open Go.RowKit

/-- Nothing but a path. -/
def blank (n : Nd) : Bool := (n.data.toList == []) && (n.ver == 0) && (n.cver == 0) && (n.cz == 0) && (n.mz == 0) && (n.pz == 0)
def okEf (e : Ef) : Bool := okNd e.nd && (!e.del || blank e.nd)
theorem okEf_false {e : Ef} (h : e.del = false) : okEf e = okNd e.nd := by unfold okEf; rw [h]; simp
theorem okEf_true {e : Ef} (h : e.del = true) : okEf e = (okNd e.nd && blank e.nd) := by unfold okEf; rw [h]; simp

set_option maxHeartbeats 4000000 in
set_option maxRecDepth 100000 in
theorem validEffect_any (w : World) (n : Ef) (hd : n.nd.data.size ≤ 1048576) :
    Calls Tryd.prog 66 #[.agg #[.bool n.del, .string n.nd.path, .string n.nd.data, .int .i64 n.nd.ver, .int .i64 n.nd.cver, .int .i64 n.nd.cz, .int .i64 n.nd.mz, .int .i64 n.nd.pz]] w fun e w' => e = .returned (.bool (okEf n)) ∧ Below w.heap.size w w' := by
  have B0 : Hid (∀ o, Below w.heap.size w (w.alloc o)) := fun o => (Below.refl _ _).alloc (Nat.le_refl _) _
  cases hdel : n.del with
  | false =>
    have HE : Hid (okEf n = okNd n.nd) := okEf_false hdel
    go_enter Tryd.func66, Tryd.ntmps66
    go_wp2_with fail
    refine (implNode_any _ n.nd hd).mono ?_
    rintro e w1 ⟨rfl, b1⟩
    have B1 : Hid (Below w.heap.size w w1) := (B0.out _).trans (b1.mono (by simp))
    clear b1
    go_wp2
    go_ret
    exact ⟨ret_b HE.out.symm, B1.out⟩
  | true =>
    have HE : Hid (okEf n = (okNd n.nd && blank n.nd)) := okEf_true hdel
    clear hdel
    have hpp : (n.nd.path.toList == n.nd.path.toList) = true := by simp
    cases h_dat : (n.nd.data.toList == []) with
    | false =>
      have HN : Hid (okEf n = false) := by show _ = _; rw [HE.out]; unfold blank; rw [h_dat]; simp
      go_enter Tryd.func66, Tryd.ntmps66
      go_wp2_with fail
      go_ret
      exact ⟨ret_b HN.out.symm, B0.out _⟩
    | true =>
      cases h_ver : (n.nd.ver == 0) with
      | false =>
        have HN : Hid (okEf n = false) := by show _ = _; rw [HE.out]; unfold blank; rw [h_ver]; simp
        go_enter Tryd.func66, Tryd.ntmps66
        go_wp2_with fail
        go_ret
        exact ⟨ret_b HN.out.symm, B0.out _⟩
      | true =>
        cases h_cver : (n.nd.cver == 0) with
        | false =>
          have HN : Hid (okEf n = false) := by show _ = _; rw [HE.out]; unfold blank; rw [h_cver]; simp
          go_enter Tryd.func66, Tryd.ntmps66
          go_wp2_with fail
          go_ret
          exact ⟨ret_b HN.out.symm, B0.out _⟩
        | true =>
          cases h_cz : (n.nd.cz == 0) with
          | false =>
            have HN : Hid (okEf n = false) := by show _ = _; rw [HE.out]; unfold blank; rw [h_cz]; simp
            go_enter Tryd.func66, Tryd.ntmps66
            go_wp2_with fail
            go_ret
            exact ⟨ret_b HN.out.symm, B0.out _⟩
          | true =>
            cases h_mz : (n.nd.mz == 0) with
            | false =>
              have HN : Hid (okEf n = false) := by show _ = _; rw [HE.out]; unfold blank; rw [h_mz]; simp
              go_enter Tryd.func66, Tryd.ntmps66
              go_wp2_with fail
              go_ret
              exact ⟨ret_b HN.out.symm, B0.out _⟩
            | true =>
              cases h_pz : (n.nd.pz == 0) with
              | false =>
                have HN : Hid (okEf n = false) := by show _ = _; rw [HE.out]; unfold blank; rw [h_pz]; simp
                go_enter Tryd.func66, Tryd.ntmps66
                go_wp2_with fail
                go_ret
                exact ⟨ret_b HN.out.symm, B0.out _⟩
              | true =>
                have HY : Hid (okEf n = okNd n.nd) := by show _ = _; rw [HE.out]; unfold blank; rw [h_dat, h_ver, h_cver, h_cz, h_mz, h_pz]; simp
                go_enter Tryd.func66, Tryd.ntmps66
                go_wp2_with fail
                refine (implNode_any _ n.nd hd).mono ?_
                rintro e w1 ⟨rfl, b1⟩
                have B1 : Hid (Below w.heap.size w w1) := (B0.out _).trans (b1.mono (by simp))
                clear b1
                go_wp2
                go_ret
                exact ⟨ret_b HY.out.symm, B1.out⟩

end Go.Proofs.YtgjenbgclpmjmaaDoor

