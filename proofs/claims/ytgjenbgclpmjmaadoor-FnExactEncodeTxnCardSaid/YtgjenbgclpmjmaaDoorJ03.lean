import Derived.Test.YtgjenbgclpmjmaaDoorJ02
import Derived.Test.YtgjenbgclpmjmaaDoorJ01
namespace Go.Proofs.YtgjenbgclpmjmaaDoor
open Go.RowKit

/-- The cells of a box of another type are kept. -/
theorem KT.box {e t : TypeId} {w w' : World} {b : Nat} {A : Array Value} {f : Nat × Nat} (h : KT e w w') (hb : w.heap[b]? = some (.cells A t f)) (ht : t ≠ e) : w'.heap[b]? = some (.cells A t f) := by
  have hlt := (Array.getElem?_eq_some_iff.1 hb).1
  rw [h.2 b hlt (by rw [hb]; rintro ⟨cur, h⟩; injection h with h; injection h with _ h2; exact ht h2), hb]
/-- A node at the head of a box of its own. -/
def BxN (w : World) (b : Nat) (n : Nd) : Prop := (∃ A t f, w.heap[b]? = some (.cells A t f) ∧ t ≠ 5) ∧ CellsN w b 0 n
theorem BxN.keep {w w' : World} {b : Nat} {n : Nd} (h : BxN w b n) (hk : KT 5 w w') : BxN w' b n := by
  obtain ⟨⟨A, t, f, h1, h2⟩, h3⟩ := h
  have h4 := hk.box h1 h2
  have e : ∀ q, w'.cell? ⟨b, q, none⟩ = w.cell? ⟨b, q, none⟩ := fun q => World.cell?_of_block (a := ⟨b, q, none⟩) (by show w'.heap[b]? = w.heap[b]?; rw [h4, h1])
  exact ⟨⟨A, t, f, h4, h2⟩, (e _).trans h3.c0, (e _).trans h3.c1, (e _).trans h3.c2, (e _).trans h3.c3, (e _).trans h3.c4, (e _).trans h3.c5, (e _).trans h3.c6⟩
theorem BxN.below {w w' : World} {b : Nat} {n : Nd} (h : BxN w b n) (hk : Below w.heap.size w w') : BxN w' b n := h.keep ((KT.refl _ _).below hk)
theorem BxN.cells {w : World} {b : Nat} {n : Nd} (h : BxN w b n) : CellsN w b 0 n := h.2
theorem cell_of {w : World} {b : Nat} {A : Array Value} {t : TypeId} {f : Nat × Nat} (h : w.heap[b]? = some (.cells A t f)) (q : Nat) : w.cell? ⟨b, q, none⟩ = A[q]? := by simp [World.cell?, h]
theorem KT.cell {e t : TypeId} {w w' : World} {b : Nat} {A : Array Value} {f : Nat × Nat} (h : KT e w w') (hb : w.heap[b]? = some (.cells A t f)) (ht : t ≠ e) (q : Nat) : w'.cell? ⟨b, q, none⟩ = w.cell? ⟨b, q, none⟩ :=
  World.cell?_of_block (a := ⟨b, q, none⟩) (by show w'.heap[b]? = w.heap[b]?; rw [h.box hb ht, hb])

/-- The images of the first k of five numbers. -/
def stK (a b c d e k : Nat) : List Int := ([a, b, c, d, e].take k).flatMap fun z => bigR z 4
theorem stK_len (a b c d e k : Nat) : (stK a b c d e k).length ≤ 20 := by
  unfold stK
  match k with
  | 0 => simp
  | 1 => simp [bigR_len]
  | 2 => simp [bigR_len]
  | 3 => simp [bigR_len]
  | 4 => simp [bigR_len]
  | k + 5 => simp [bigR_len]
theorem stK_0 (a b c d e : Nat) : stK a b c d e 0 ++ bigR a 4 = stK a b c d e 1 := by simp [stK]
theorem stK_1 (a b c d e : Nat) : stK a b c d e 1 ++ bigR b 4 = stK a b c d e 2 := by simp [stK]
theorem stK_2 (a b c d e : Nat) : stK a b c d e 2 ++ bigR c 4 = stK a b c d e 3 := by simp [stK]
theorem stK_3 (a b c d e : Nat) : stK a b c d e 3 ++ bigR d 4 = stK a b c d e 4 := by simp [stK]
theorem stK_4 (a b c d e : Nat) : stK a b c d e 4 ++ bigR e 4 = stK a b c d e 5 := by simp [stK]

theorem ix_0 (W : World) (b : Nat) : (Instr.index 143 (.agg #[.pointer (some ⟨b, 2, none⟩), .pointer (some ⟨b, 3, none⟩), .pointer (some ⟨b, 4, none⟩), .pointer (some ⟨b, 5, none⟩), .pointer (some ⟨b, 6, none⟩)]) (.int .i64 0)).run Tryd.prog W = .ok (.pointer (some ⟨b, 2, none⟩)) W := by kernel_rfl
theorem ix_1 (W : World) (b : Nat) : (Instr.index 143 (.agg #[.pointer (some ⟨b, 2, none⟩), .pointer (some ⟨b, 3, none⟩), .pointer (some ⟨b, 4, none⟩), .pointer (some ⟨b, 5, none⟩), .pointer (some ⟨b, 6, none⟩)]) (.int .i64 1)).run Tryd.prog W = .ok (.pointer (some ⟨b, 3, none⟩)) W := by kernel_rfl
theorem ix_2 (W : World) (b : Nat) : (Instr.index 143 (.agg #[.pointer (some ⟨b, 2, none⟩), .pointer (some ⟨b, 3, none⟩), .pointer (some ⟨b, 4, none⟩), .pointer (some ⟨b, 5, none⟩), .pointer (some ⟨b, 6, none⟩)]) (.int .i64 2)).run Tryd.prog W = .ok (.pointer (some ⟨b, 4, none⟩)) W := by kernel_rfl
theorem ix_3 (W : World) (b : Nat) : (Instr.index 143 (.agg #[.pointer (some ⟨b, 2, none⟩), .pointer (some ⟨b, 3, none⟩), .pointer (some ⟨b, 4, none⟩), .pointer (some ⟨b, 5, none⟩), .pointer (some ⟨b, 6, none⟩)]) (.int .i64 3)).run Tryd.prog W = .ok (.pointer (some ⟨b, 5, none⟩)) W := by kernel_rfl
theorem ix_4 (W : World) (b : Nat) : (Instr.index 143 (.agg #[.pointer (some ⟨b, 2, none⟩), .pointer (some ⟨b, 3, none⟩), .pointer (some ⟨b, 4, none⟩), .pointer (some ⟨b, 5, none⟩), .pointer (some ⟨b, 6, none⟩)]) (.int .i64 4)).run Tryd.prog W = .ok (.pointer (some ⟨b, 6, none⟩)) W := by kernel_rfl

set_option maxHeartbeats 1000000 in
set_option maxRecDepth 100000 in
theorem encNode_any (w : World) (base : Nat) (v : Value) (xs : List Int) (b : Nat) (n : Nd) (h : Own .u8 5 w base v xs) (hb : base ≤ w.heap.size) (hl : xs.length ≤ 1000000) (hx : BxN w b n) (hn : okNd n = true) :
    Calls Tryd.prog 87 #[.pointer (some ⟨b, 0, none⟩), v] w fun e w' => ∃ v', e = .returned v' ∧ Own .u8 5 w' base v' (xs ++ nodeB n) ∧ Below base w w' ∧ KT 5 w w' := by
  obtain ⟨p1, p2, p3, p4, p5, p6, p7⟩ := okNd_all hn
  have HO : Hid (Own .u8 5 w base v xs) := h
  have HX : Hid (BxN w b n) := hx
  clear h hx hn
  obtain ⟨c0, c1, c2, c3, c4, c5, c6⟩ := HX.out.cells
  go_enter Tryd.func87, Tryd.ntmps87
  go_wp2_with fail
  refine (implText_any w base v xs n.path HO.out hb (by omega) (by omega)).mono ?_
  rintro e w1 ⟨v1, rfl, o1, b1, k1⟩
  have O1 : Hid (Own .u8 5 w1 base v1 (xs ++ txB n.path)) := o1
  have B1 : Hid (Below base w w1) := b1
  have X1 : Hid (BxN w1 b n) := HX.out.keep k1
  have K1 : Hid (KT 5 w w1) := k1
  have s1 := b1.size
  clear o1 b1 k1 c0 c1 c2 c3 c4 c5 c6
  obtain ⟨c0, c1, c2, c3, c4, c5, c6⟩ := X1.out.cells
  go_wp2_with fail
  refine (implText_any w1 base v1 _ n.data O1.out (by omega) (by rw [List.length_append, txB_len]; omega) (by omega)).mono ?_
  rintro e w2 ⟨v2, rfl, o2, b2, k2⟩
  have O2 : Hid (Own .u8 5 w2 base v2 (xs ++ txB n.path ++ txB n.data)) := o2
  have B2 : Hid (Below base w w2) := B1.out.trans b2
  have X2 : Hid (BxN w2 b n) := X1.out.keep k2
  have K2 : Hid (KT 5 w w2) := K1.out.trans k2
  have s2 := B2.out.size
  clear o2 b2 k2 c0 c1 c2 c3 c4 c5 c6 O1 X1 K1
  go_wp2_with fail
  refine (stats_any w2 b 0).mono ?_
  rintro e w3 ⟨rfl, b3⟩
  have O3 : Hid (Own .u8 5 w3 base v2 (xs ++ txB n.path ++ txB n.data)) := O2.out.below b3
  have B3 : Hid (Below base w w3) := B2.out.trans (b3.mono (by omega))
  have X3 : Hid (BxN w3 b n) := X2.out.below b3
  have K3 : Hid (KT 5 w w3) := K2.out.below b3
  clear b3 O2 X2 K2
  obtain ⟨z0, hz0⟩ : ∃ z : Nat, n.ver = (z : Int) := ⟨n.ver.toNat, by omega⟩
  obtain ⟨z1, hz1⟩ : ∃ z : Nat, n.cver = (z : Int) := ⟨n.cver.toNat, by omega⟩
  obtain ⟨z2, hz2⟩ : ∃ z : Nat, n.cz = (z : Int) := ⟨n.cz.toNat, by omega⟩
  obtain ⟨z3, hz3⟩ : ∃ z : Nat, n.mz = (z : Int) := ⟨n.mz.toNat, by omega⟩
  obtain ⟨z4, hz4⟩ : ∃ z : Nat, n.pz = (z : Int) := ⟨n.pz.toNat, by omega⟩
  have HZ : Hid (nodeB n = txB n.path ++ txB n.data ++ stK z0 z1 z2 z3 z4 5) := by
    show _ = _
    unfold nodeB stB stK
    simp [hz0, hz1, hz2, hz3, hz4]
  have HZ0 : Hid (n.ver = (z0 : Int)) := hz0
  have HZ1 : Hid (n.cver = (z1 : Int)) := hz1
  have HZ2 : Hid (n.cz = (z2 : Int)) := hz2
  have HZ3 : Hid (n.mz = (z3 : Int)) := hz3
  have HZ4 : Hid (n.pz = (z4 : Int)) := hz4
  have HL : Hid (∀ k, (xs ++ txB n.path ++ txB n.data ++ stK z0 z1 z2 z3 z4 k).length ≤ 1048576) := by
    intro k
    have := stK_len z0 z1 z2 z3 z4 k
    simp only [List.length_append, txB_len]
    omega
  clear hz0 hz1 hz2 hz3 hz4 p3 p4 p5 p6 p7
  obtain ⟨ys, hys⟩ : ∃ ys, ys = xs ++ txB n.path ++ txB n.data := ⟨_, rfl⟩
  have HYS : Hid (xs ++ nodeB n = ys ++ stK z0 z1 z2 z3 z4 5) := by show _ = _; rw [HZ.out, hys]; simp only [List.append_assoc]
  rw [← hys] at O3 HL
  clear hys HZ
  unfold stP
  go_wp2
  go_loopw [1, 23] (fun vi vk wr => ∃ k : Nat, k ≤ 5 ∧ vk = .int .i64 k ∧ Hid (Own .u8 5 wr base vi (ys ++ stK z0 z1 z2 z3 z4 k)) ∧ Hid (Below base w wr) ∧ Hid (KT 5 w wr) ∧ Hid (BxN wr b n)) (fun _ i _ => 5 - (intOf i).toNat)
  case atStart => exact ⟨0, by omega, rfl, by show Own _ _ _ _ _ _; unfold stK; simp; exact O3.out, B3, K3, X3⟩
  case round =>
    obtain ⟨k, hk, rfl, HW, HB, HK, HXr⟩ := hrel
    have sB := HB.out.size
    obtain ⟨-, -, c2, c3, c4, c5, c6⟩ := HXr.out.cells
    rw [HZ0.out] at c2
    rw [HZ1.out] at c3
    rw [HZ2.out] at c4
    rw [HZ3.out] at c5
    rw [HZ4.out] at c6
    rcases (show k = 0 ∨ k = 1 ∨ k = 2 ∨ k = 3 ∨ k = 4 ∨ k = 5 by omega) with rfl | rfl | rfl | rfl | rfl | rfl
    · have hix := fun W => ix_0 W b
      go_wp2_with fail
      clear hix
      refine (implNumber_any wr base _ _ z0 4 HW.out (by omega) (HL.out _) (by omega)).mono ?_
      rintro e w4 ⟨v4, rfl, o4, b4, k4⟩
      have O4 : Hid (Own .u8 5 w4 base v4 (ys ++ stK z0 z1 z2 z3 z4 1)) := by rw [List.append_assoc, stK_0] at o4; exact o4
      have B4 : Hid (Below base w w4) := HB.out.trans b4
      have K4 : Hid (KT 5 w w4) := HK.out.trans k4
      have X4 : Hid (BxN w4 b n) := HXr.out.keep k4
      clear o4 b4 k4 HW HB HK HXr c2 c3 c4 c5 c6
      go_wp2
      exact ⟨⟨1, by omega, rfl, O4, B4, K4, X4⟩, by simp [intOf]⟩
    · have hix := fun W => ix_1 W b
      go_wp2_with fail
      clear hix
      refine (implNumber_any wr base _ _ z1 4 HW.out (by omega) (HL.out _) (by omega)).mono ?_
      rintro e w4 ⟨v4, rfl, o4, b4, k4⟩
      have O4 : Hid (Own .u8 5 w4 base v4 (ys ++ stK z0 z1 z2 z3 z4 2)) := by rw [List.append_assoc, stK_1] at o4; exact o4
      have B4 : Hid (Below base w w4) := HB.out.trans b4
      have K4 : Hid (KT 5 w w4) := HK.out.trans k4
      have X4 : Hid (BxN w4 b n) := HXr.out.keep k4
      clear o4 b4 k4 HW HB HK HXr c2 c3 c4 c5 c6
      go_wp2
      exact ⟨⟨2, by omega, rfl, O4, B4, K4, X4⟩, by simp [intOf]⟩
    · have hix := fun W => ix_2 W b
      go_wp2_with fail
      clear hix
      refine (implNumber_any wr base _ _ z2 4 HW.out (by omega) (HL.out _) (by omega)).mono ?_
      rintro e w4 ⟨v4, rfl, o4, b4, k4⟩
      have O4 : Hid (Own .u8 5 w4 base v4 (ys ++ stK z0 z1 z2 z3 z4 3)) := by rw [List.append_assoc, stK_2] at o4; exact o4
      have B4 : Hid (Below base w w4) := HB.out.trans b4
      have K4 : Hid (KT 5 w w4) := HK.out.trans k4
      have X4 : Hid (BxN w4 b n) := HXr.out.keep k4
      clear o4 b4 k4 HW HB HK HXr c2 c3 c4 c5 c6
      go_wp2
      exact ⟨⟨3, by omega, rfl, O4, B4, K4, X4⟩, by simp [intOf]⟩
    · have hix := fun W => ix_3 W b
      go_wp2_with fail
      clear hix
      refine (implNumber_any wr base _ _ z3 4 HW.out (by omega) (HL.out _) (by omega)).mono ?_
      rintro e w4 ⟨v4, rfl, o4, b4, k4⟩
      have O4 : Hid (Own .u8 5 w4 base v4 (ys ++ stK z0 z1 z2 z3 z4 4)) := by rw [List.append_assoc, stK_3] at o4; exact o4
      have B4 : Hid (Below base w w4) := HB.out.trans b4
      have K4 : Hid (KT 5 w w4) := HK.out.trans k4
      have X4 : Hid (BxN w4 b n) := HXr.out.keep k4
      clear o4 b4 k4 HW HB HK HXr c2 c3 c4 c5 c6
      go_wp2
      exact ⟨⟨4, by omega, rfl, O4, B4, K4, X4⟩, by simp [intOf]⟩
    · have hix := fun W => ix_4 W b
      go_wp2_with fail
      clear hix
      refine (implNumber_any wr base _ _ z4 4 HW.out (by omega) (HL.out _) (by omega)).mono ?_
      rintro e w4 ⟨v4, rfl, o4, b4, k4⟩
      have O4 : Hid (Own .u8 5 w4 base v4 (ys ++ stK z0 z1 z2 z3 z4 5)) := by rw [List.append_assoc, stK_4] at o4; exact o4
      have B4 : Hid (Below base w w4) := HB.out.trans b4
      have K4 : Hid (KT 5 w w4) := HK.out.trans k4
      have X4 : Hid (BxN w4 b n) := HXr.out.keep k4
      clear o4 b4 k4 HW HB HK HXr c2 c3 c4 c5 c6
      go_wp2
      exact ⟨⟨5, by omega, rfl, O4, B4, K4, X4⟩, by simp [intOf]⟩
    · clear c2 c3 c4 c5 c6
      go_wp2
      go_ret
      exact ⟨_, rfl, (by rw [HYS.out]; exact HW.out), HB.out, HK.out⟩

end Go.Proofs.YtgjenbgclpmjmaaDoor

namespace Go.Proofs.YtgjenbgclpmjmaaDoor
open Go.RowKit

set_option maxHeartbeats 400000 in
theorem sorted_nil (w : World) (ao : Option Addr) (cap : Nat) :
    Calls Tryd.prog 58 #[.slice ao 0 cap] w fun e w' => e = .returned (.bool true) ∧ w' = w := by
  go_enter Tryd.func58, Tryd.ntmps58
  go_wp2
  go_rounds 1
  go_ret
  exact ⟨rfl, rfl⟩

theorem sorted_any (w : World) (v : Value) (ns : List Nd) (h : RdN w v ns) (hn : ns.length ≤ 1048576) (hsz : ∀ i, (nAt ns i).path.size ≤ 1048576 ∧ (nAt ns i).data.size ≤ 1048576) :
    Calls Tryd.prog 58 #[v] w fun e w' => e = .returned (.bool (okSorted ns)) ∧ Below w.heap.size w w' := by
  obtain ⟨ao, cap, rfl, k1, k2, k3⟩ := h
  rcases k3 with rfl | ⟨b, o, rfl, hb, hc⟩
  · refine (sorted_nil w ao cap).mono ?_
    rintro e w' ⟨rfl, rfl⟩
    exact ⟨rfl, Below.refl _ _⟩
  · exact sorted_row w b o ns.length cap ns rfl hn hb hsz hc

set_option maxHeartbeats 1000000 in
set_option maxRecDepth 100000 in
theorem specTree_any (w : World) (v : Value) (ns : List Nd) (h : RdN w v ns) (hn : ns.length ≤ 1048576) (hsz : ∀ i, (nAt ns i).path.size ≤ 1048576 ∧ (nAt ns i).data.size ≤ 1048576) :
    Calls Tryd.prog 15 #[.agg #[v]] w fun e w' => e = .returned (.bool (okTree ns)) ∧ Below w.heap.size w w' := by
  obtain ⟨ao, cap, rfl, k1, k2⟩ := h.len
  have B0 : Hid (Below w.heap.size w (w.alloc (.cells #[.slice ao ns.length cap] 30))) := (Below.refl _ _).alloc (Nat.le_refl _) _
  have HR : Hid (RdN (w.alloc (.cells #[.slice ao ns.length cap] 30)) (.slice ao ns.length cap) ns) := h.below B0.out
  clear h
  by_cases h1 : ns.length ≤ 1000
  · have h1I : (ns.length : Int) ≤ 1000 := by omega
    have HE : Hid (okTree ns = okSorted ns) := by show _ = _; unfold okTree; rw [decide_eq_true h1]; rfl
    go_enter Tryd.func15, Tryd.ntmps15
    go_wp2_with fail
    refine (sorted_any _ _ ns HR.out hn hsz).mono ?_
    rintro e w1 ⟨rfl, b1⟩
    have B1 : Hid (Below w.heap.size w w1) := B0.out.trans (b1.mono (by simp))
    clear b1
    go_wp2
    go_ret
    exact ⟨ret_b HE.out.symm, B1.out⟩
  · have h1I : ¬ (ns.length : Int) ≤ 1000 := by omega
    have HE : Hid (okTree ns = false) := by show _ = _; unfold okTree; rw [decide_eq_false h1]; rfl
    go_enter Tryd.func15, Tryd.ntmps15
    go_wp2
    go_ret
    exact ⟨ret_b HE.out.symm, B0.out⟩

theorem BoxN.all {w : World} {B : Nat} {n : Nd} (h : BoxN w B n) : w.cell? ⟨B, 0, none⟩ = some (.string n.path) ∧ w.cell? ⟨B, 1, none⟩ = some (.string n.data) ∧ w.cell? ⟨B, 2, none⟩ = some (.int .i64 n.ver) ∧ w.cell? ⟨B, 3, none⟩ = some (.int .i64 n.cver) ∧ w.cell? ⟨B, 4, none⟩ = some (.int .i64 n.cz) ∧ w.cell? ⟨B, 5, none⟩ = some (.int .i64 n.mz) ∧ w.cell? ⟨B, 6, none⟩ = some (.int .i64 n.pz) := ⟨h.c0, h.c1, h.c2, h.c3, h.c4, h.c5, h.c6⟩

set_option maxHeartbeats 4000000 in
set_option maxRecDepth 100000 in
theorem implTree_row (w : World) (b o n cap : Nat) (ns : List Nd) (hp : ns.length = n) (hn : n ≤ 1000) (hb : b < w.heap.size) (hsz : ∀ i, (nAt ns i).path.size ≤ 1048576 ∧ (nAt ns i).data.size ≤ 1048576)
    (hc : ∀ i, i < n → CellsN w b (o + i * 7) (nAt ns i)) :
    Calls Tryd.prog 17 #[.agg #[.slice (some ⟨b, o, none⟩) n cap]] w fun e w' => e = .returned (.bool (okSorted ns)) ∧ Below w.heap.size w w' := by
  have HC : Hid (∀ i, i < n → CellsN w b (o + i * 7) (nAt ns i)) := hc
  have HP : Hid (ns.length = n) := hp
  have HZ : Hid (∀ i, (nAt ns i).path.size ≤ 1048576 ∧ (nAt ns i).data.size ≤ 1048576) := hsz
  have h1I : ¬ (1000 : Int) < (n : Int) := by omega
  clear hc hp hsz
  have B0 : Hid (Below w.heap.size w (w.alloc (.cells #[.slice (some ⟨b, o, none⟩) n cap] 30))) := (Below.refl _ _).alloc (Nat.le_refl _) _
  have c00 : Hid ((w.alloc (.cells #[.slice (some ⟨b, o, none⟩) n cap] 30)).cell? ⟨w.heap.size, 0, none⟩ = some (.slice (some ⟨b, o, none⟩) n cap)) := by show _ = _; simp
  have z0 : w.heap.size < (w.alloc (.cells #[.slice (some ⟨b, o, none⟩) n cap] 30)).heap.size := by simp
  go_enter Tryd.func17, Tryd.ntmps17
  go_wp2
  generalize w.alloc (.cells #[.slice (some ⟨b, o, none⟩) n cap] 30) = w0 at *
  go_loopw [12] (fun i wr => ∃ k : Nat, k ≤ n ∧ i = .int .i64 k ∧ Hid (∀ t, t < k → okAt ns t = true) ∧ Hid (Below w0.heap.size w0 wr)) (fun i _ => n - (intOf i).toNat)
  case atStart => exact ⟨0, Nat.zero_le _, rfl, (fun t ht => by omega), Below.refl _ _⟩
  case round =>
    obtain ⟨k, hk, rfl, HA, HG⟩ := hrel
    have HG0 : Hid (Below w.heap.size w wr) := B0.out.trans (HG.out.mono (by omega))
    by_cases hlt : k < n
    · have hltI : (k : Int) < (n : Int) := by omega
      have g0 : (0 : Int) ≤ (k : Int) := by omega
      have HLT : Hid (k < ns.length) := by rw [HP.out]; exact hlt
      obtain ⟨c0, c1, c2, c3, c4, c5, c6⟩ := (HC.out k hlt).below HG0.out hb
      have XN : Hid (BoxN (wr.alloc (.cells #[.string (nAt ns k).path, .string (nAt ns k).data, .int .i64 (nAt ns k).ver, .int .i64 (nAt ns k).cver, .int .i64 (nAt ns k).cz, .int .i64 (nAt ns k).mz, .int .i64 (nAt ns k).pz] 81)) wr.heap.size (nAt ns k)) := BoxN.new _ _ _
      have BN : Hid (Below wr.heap.size wr (wr.alloc (.cells #[.string (nAt ns k).path, .string (nAt ns k).data, .int .i64 (nAt ns k).ver, .int .i64 (nAt ns k).cver, .int .i64 (nAt ns k).cz, .int .i64 (nAt ns k).mz, .int .i64 (nAt ns k).pz] 81))) := (Below.refl _ _).alloc (Nat.le_refl _) _
      go_wp2
      clear c0 c1 c2 c3 c4 c5 c6
      generalize wr.alloc (.cells #[.string (nAt ns k).path, .string (nAt ns k).data, .int .i64 (nAt ns k).ver, .int .i64 (nAt ns k).cver, .int .i64 (nAt ns k).cz, .int .i64 (nAt ns k).mz, .int .i64 (nAt ns k).pz] 81) = wn at *
      have zr := HG.out.size
      obtain ⟨B, hB⟩ : ∃ B, B = wr.heap.size := ⟨_, rfl⟩
      rw [← hB] at XN
      rw [← hB]
      have HBn : Hid (∀ W, Below wn.heap.size wn W → Below w.heap.size w W) := fun W hW => (HG0.out.trans (BN.out.mono HG0.out.size)).trans (hW.mono (Nat.le_trans HG0.out.size BN.out.size))
      have HBz : Hid (∀ W, Below wn.heap.size wn W → Hid (Below w0.heap.size w0 W)) := fun W hW => (HG.out.trans (BN.out.mono HG.out.size)).trans (hW.mono (Nat.le_trans HG.out.size BN.out.size))
      have CT : Hid (∀ W, Below wn.heap.size wn W → W.cell? ⟨w.heap.size, 0, none⟩ = some (.slice (some ⟨b, o, none⟩) n cap)) := fun W hW => ((HBz.out W hW).out.cell (p := ⟨w.heap.size, 0, none⟩) z0).trans c00.out
      have HE : Hid (∀ q, Calls Tryd.prog 60 #[.agg #[.string (nAt ns k).path, .string (nAt ns k).data, .int .i64 (nAt ns k).ver, .int .i64 (nAt ns k).cver, .int .i64 (nAt ns k).cz, .int .i64 (nAt ns k).mz, .int .i64 (nAt ns k).pz]] (wn.drewN q) fun e w' => e = .returned (.bool (okNd (nAt ns k))) ∧ Hid (Below wn.heap.size wn w')) := by
        intro q
        refine (implNode_any _ (nAt ns k) (HZ.out k).2).mono ?_
        rintro e w' ⟨rfl, b'⟩
        exact ⟨rfl, (below_drewN' wn q).trans b'⟩
      have HD : Hid (Below wn.heap.size wn wn.drew) := below_drewN' wn 1
      have HHB : Hid (B = wr.heap.size) := hB
      clear hB BN
      cases hok : okNd (nAt ns k) with
      | false =>
        have HOK : Hid (okNd (nAt ns k) = false) := hok
        have HN : Hid (okSorted ns = false) := sorted_no HLT.out (by unfold okAt; rw [hok]; rfl)
        clear hok
        refine wp_region_held_drew (S := fun W => Hid (Below wn.heap.size wn W) ∧ (W.cell? ⟨B, 0, none⟩ = some (.string (nAt ns k).path) ∧ W.cell? ⟨B, 1, none⟩ = some (.string (nAt ns k).data) ∧ W.cell? ⟨B, 2, none⟩ = some (.int .i64 (nAt ns k).ver) ∧ W.cell? ⟨B, 3, none⟩ = some (.int .i64 (nAt ns k).cver) ∧ W.cell? ⟨B, 4, none⟩ = some (.int .i64 (nAt ns k).cz) ∧ W.cell? ⟨B, 5, none⟩ = some (.int .i64 (nAt ns k).mz) ∧ W.cell? ⟨B, 6, none⟩ = some (.int .i64 (nAt ns k).pz))) (by kernel_rfl) (⟨HD, (XN.out.below HD.out).all⟩) (fun hHeld => ?_)
        refine wpAnyH_take (i := 0) (oi := { dst := some 17, op := _, type := _, pos := _, after := _, guard := _ }) (v := ?v1) rfl (by kernel_rfl) (by kernel_rfl) (by kernel_rfl) (fun _ _ _ h => h) (Or.inl ⟨by rfl, ?hy1⟩) (by assumption) ?rest1
        case hy1 =>
          intro w9 hS9
          obtain ⟨-, hS9⟩ := hS9
          go_simp
          try with_reducible rfl
        try simp only [Act.put, List.setIfInBounds_toArray, List.set_cons_zero, List.set_cons_succ]
        refine wpAnyH_ready (rs := [1]) (by kernel_rfl) (by simp) ?_
        refine AllReadyH.cons (o := { dst := some 18, op := _, type := _, pos := _, after := _, guard := _ }) rfl (fun K hK => ?_) AllReadyH.nil
        go_simp
        refine (HE.out 1).mono ?_
        rintro e w' ⟨rfl, HB⟩
        rw [HOK.out]
        refine hK.out _ _ ((show (fun W => Hid (Below wn.heap.size wn W) ∧ (W.cell? ⟨B, 0, none⟩ = some (.string (nAt ns k).path) ∧ W.cell? ⟨B, 1, none⟩ = some (.string (nAt ns k).data) ∧ W.cell? ⟨B, 2, none⟩ = some (.int .i64 (nAt ns k).ver) ∧ W.cell? ⟨B, 3, none⟩ = some (.int .i64 (nAt ns k).cver) ∧ W.cell? ⟨B, 4, none⟩ = some (.int .i64 (nAt ns k).cz) ∧ W.cell? ⟨B, 5, none⟩ = some (.int .i64 (nAt ns k).mz) ∧ W.cell? ⟨B, 6, none⟩ = some (.int .i64 (nAt ns k).pz))) w' from ⟨HB, (XN.out.below HB.out).all⟩)) (fun _ => ?_)
        clear hK K hHeld
        have hHeld := (show (fun W => Hid (Below wn.heap.size wn W) ∧ (W.cell? ⟨B, 0, none⟩ = some (.string (nAt ns k).path) ∧ W.cell? ⟨B, 1, none⟩ = some (.string (nAt ns k).data) ∧ W.cell? ⟨B, 2, none⟩ = some (.int .i64 (nAt ns k).ver) ∧ W.cell? ⟨B, 3, none⟩ = some (.int .i64 (nAt ns k).cver) ∧ W.cell? ⟨B, 4, none⟩ = some (.int .i64 (nAt ns k).cz) ∧ W.cell? ⟨B, 5, none⟩ = some (.int .i64 (nAt ns k).mz) ∧ W.cell? ⟨B, 6, none⟩ = some (.int .i64 (nAt ns k).pz))) w' from ⟨HB, (XN.out.below HB.out).all⟩)
        try simp only [Act.put, List.setIfInBounds_toArray, List.set_cons_zero, List.set_cons_succ]
        refine wpAnyH_take (i := 2) (oi := { dst := some 19, op := _, type := _, pos := _, after := _, guard := _ }) (v := ?v2) rfl (by kernel_rfl) (by kernel_rfl) (by kernel_rfl) (fun _ _ _ h => h) (Or.inl ⟨by rfl, ?hy2⟩) (by assumption) ?rest2
        case hy2 =>
          intro w9 hS9
          obtain ⟨-, hS9⟩ := hS9
          go_simp
          try with_reducible rfl
        try simp only [Act.put, List.setIfInBounds_toArray, List.set_cons_zero, List.set_cons_succ]
        refine wpAnyH_take (i := 3) (oi := { dst := some 20, op := _, type := _, pos := _, after := _, guard := _ }) (v := ?v3) rfl (by kernel_rfl) (by kernel_rfl) (by kernel_rfl) (fun _ _ _ h => h) (Or.inl ⟨by rfl, ?hy3⟩) (by assumption) ?rest3
        case hy3 =>
          intro w9 hS9
          obtain ⟨-, hS9⟩ := hS9
          go_simp
          try with_reducible rfl
        try simp only [Act.put, List.setIfInBounds_toArray, List.set_cons_zero, List.set_cons_succ]
        refine wpAnyH_take (i := 4) (oi := { dst := some 21, op := _, type := _, pos := _, after := _, guard := _ }) (v := undef) rfl (by kernel_rfl) (by kernel_rfl) (by kernel_rfl) (fun _ _ _ h => h) (Or.inr ⟨by rfl, rfl⟩) (by assumption) ?_
        try simp only [Act.put, List.setIfInBounds_toArray, List.set_cons_zero, List.set_cons_succ]
        refine wpAnyH_take (i := 5) (oi := { dst := some 22, op := _, type := _, pos := _, after := _, guard := _ }) (v := undef) rfl (by kernel_rfl) (by kernel_rfl) (by kernel_rfl) (fun _ _ _ h => h) (Or.inr ⟨by rfl, rfl⟩) (by assumption) ?_
        try simp only [Act.put, List.setIfInBounds_toArray, List.set_cons_zero, List.set_cons_succ]
        refine wpAnyH_take (i := 6) (oi := { dst := some 23, op := _, type := _, pos := _, after := _, guard := _ }) (v := undef) rfl (by kernel_rfl) (by kernel_rfl) (by kernel_rfl) (fun _ _ _ h => h) (Or.inr ⟨by rfl, rfl⟩) (by assumption) ?_
        try simp only [Act.put, List.setIfInBounds_toArray, List.set_cons_zero, List.set_cons_succ]
        refine wpAnyH_take (i := 7) (oi := { dst := some 24, op := _, type := _, pos := _, after := _, guard := _ }) (v := undef) rfl (by kernel_rfl) (by kernel_rfl) (by kernel_rfl) (fun _ _ _ h => h) (Or.inr ⟨by rfl, rfl⟩) (by assumption) ?_
        try simp only [Act.put, List.setIfInBounds_toArray, List.set_cons_zero, List.set_cons_succ]
        refine wpAnyH_take (i := 8) (oi := { dst := some 25, op := _, type := _, pos := _, after := _, guard := _ }) (v := undef) rfl (by kernel_rfl) (by kernel_rfl) (by kernel_rfl) (fun _ _ _ h => h) (Or.inr ⟨by rfl, rfl⟩) (by assumption) ?_
        try simp only [Act.put, List.setIfInBounds_toArray, List.set_cons_zero, List.set_cons_succ]
        refine wpAnyH_take (i := 9) (oi := { dst := some 26, op := _, type := _, pos := _, after := _, guard := _ }) (v := undef) rfl (by kernel_rfl) (by kernel_rfl) (by kernel_rfl) (fun _ _ _ h => h) (Or.inr ⟨by rfl, rfl⟩) (by assumption) ?_
        try simp only [Act.put, List.setIfInBounds_toArray, List.set_cons_zero, List.set_cons_succ]
        refine wpAnyH_take (i := 10) (oi := { dst := some 27, op := _, type := _, pos := _, after := _, guard := _ }) (v := undef) rfl (by kernel_rfl) (by kernel_rfl) (by kernel_rfl) (fun _ _ _ h => h) (Or.inr ⟨by rfl, rfl⟩) (by assumption) ?_
        try simp only [Act.put, List.setIfInBounds_toArray, List.set_cons_zero, List.set_cons_succ]
        refine wpAnyH_take (i := 11) (oi := { dst := some 28, op := _, type := _, pos := _, after := _, guard := _ }) (v := undef) rfl (by kernel_rfl) (by kernel_rfl) (by kernel_rfl) (fun _ _ _ h => h) (Or.inr ⟨by rfl, rfl⟩) (by assumption) ?_
        try simp only [Act.put, List.setIfInBounds_toArray, List.set_cons_zero, List.set_cons_succ]
        refine wpAnyH_take (i := 12) (oi := { dst := some 29, op := _, type := _, pos := _, after := _, guard := _ }) (v := undef) rfl (by kernel_rfl) (by kernel_rfl) (by kernel_rfl) (fun _ _ _ h => h) (Or.inr ⟨by rfl, rfl⟩) (by assumption) ?_
        try simp only [Act.put, List.setIfInBounds_toArray, List.set_cons_zero, List.set_cons_succ]
        refine wpAnyH_take (i := 13) (oi := { dst := some 30, op := _, type := _, pos := _, after := _, guard := _ }) (v := undef) rfl (by kernel_rfl) (by kernel_rfl) (by kernel_rfl) (fun _ _ _ h => h) (Or.inr ⟨by rfl, rfl⟩) (by assumption) ?_
        try simp only [Act.put, List.setIfInBounds_toArray, List.set_cons_zero, List.set_cons_succ]
        refine wpAnyH_take (i := 14) (oi := { dst := some 31, op := _, type := _, pos := _, after := _, guard := _ }) (v := undef) rfl (by kernel_rfl) (by kernel_rfl) (by kernel_rfl) (fun _ _ _ h => h) (Or.inr ⟨by rfl, rfl⟩) (by assumption) ?_
        try simp only [Act.put, List.setIfInBounds_toArray, List.set_cons_zero, List.set_cons_succ]
        refine wpAnyH_take (i := 15) (oi := { dst := some 32, op := _, type := _, pos := _, after := _, guard := _ }) (v := undef) rfl (by kernel_rfl) (by kernel_rfl) (by kernel_rfl) (fun _ _ _ h => h) (Or.inr ⟨by rfl, rfl⟩) (by assumption) ?_
        try simp only [Act.put, List.setIfInBounds_toArray, List.set_cons_zero, List.set_cons_succ]
        refine wpAnyH_take (i := 16) (oi := { dst := some 33, op := _, type := _, pos := _, after := _, guard := _ }) (v := undef) rfl (by kernel_rfl) (by kernel_rfl) (by kernel_rfl) (fun _ _ _ h => h) (Or.inr ⟨by rfl, rfl⟩) (by assumption) ?_
        try simp only [Act.put, List.setIfInBounds_toArray, List.set_cons_zero, List.set_cons_succ]
        refine wpAnyH_take (i := 17) (oi := { dst := some 34, op := _, type := _, pos := _, after := _, guard := _ }) (v := undef) rfl (by kernel_rfl) (by kernel_rfl) (by kernel_rfl) (fun _ _ _ h => h) (Or.inr ⟨by rfl, rfl⟩) (by assumption) ?_
        try simp only [Act.put, List.setIfInBounds_toArray, List.set_cons_zero, List.set_cons_succ]
        refine wpAnyH_take (i := 18) (oi := { dst := some 35, op := _, type := _, pos := _, after := _, guard := _ }) (v := ?v4) rfl (by kernel_rfl) (by kernel_rfl) (by kernel_rfl) (fun _ _ _ h => h) (Or.inl ⟨by rfl, ?hy4⟩) (by assumption) ?rest4
        case hy4 =>
          intro w9 hS9
          obtain ⟨-, hS9⟩ := hS9
          go_simp
          try with_reducible rfl
        try simp only [Act.put, List.setIfInBounds_toArray, List.set_cons_zero, List.set_cons_succ]
        refine wpAnyH_done (by kernel_rfl) ?_ _
        clear hHeld
        go_wp2
        go_ret
        exact ⟨ret_b HN.out.symm, HBn.out _ HB.out⟩
      | true =>
        have HOK : Hid (okNd (nAt ns k) = true) := hok
        clear hok
        cases k with
        | zero =>
          have HT : Hid (okAt ns 0 = true) := by show _ = _; rw [okAt_zero]; exact HOK.out
          have g2 : (0 : Int) < (n : Int) := by omega
          refine wp_region_held_drew (S := fun W => Hid (Below wn.heap.size wn W) ∧ (W.cell? ⟨B, 0, none⟩ = some (.string (nAt ns 0).path) ∧ W.cell? ⟨B, 1, none⟩ = some (.string (nAt ns 0).data) ∧ W.cell? ⟨B, 2, none⟩ = some (.int .i64 (nAt ns 0).ver) ∧ W.cell? ⟨B, 3, none⟩ = some (.int .i64 (nAt ns 0).cver) ∧ W.cell? ⟨B, 4, none⟩ = some (.int .i64 (nAt ns 0).cz) ∧ W.cell? ⟨B, 5, none⟩ = some (.int .i64 (nAt ns 0).mz) ∧ W.cell? ⟨B, 6, none⟩ = some (.int .i64 (nAt ns 0).pz))) (by kernel_rfl) (⟨HD, (XN.out.below HD.out).all⟩) (fun hHeld => ?_)
          refine wpAnyH_take (i := 0) (oi := { dst := some 17, op := _, type := _, pos := _, after := _, guard := _ }) (v := ?v5) rfl (by kernel_rfl) (by kernel_rfl) (by kernel_rfl) (fun _ _ _ h => h) (Or.inl ⟨by rfl, ?hy5⟩) (by assumption) ?rest5
          case hy5 =>
            intro w9 hS9
            obtain ⟨-, hS9⟩ := hS9
            go_simp
            try with_reducible rfl
          try simp only [Act.put, List.setIfInBounds_toArray, List.set_cons_zero, List.set_cons_succ]
          refine wpAnyH_ready (rs := [1]) (by kernel_rfl) (by simp) ?_
          refine AllReadyH.cons (o := { dst := some 18, op := _, type := _, pos := _, after := _, guard := _ }) rfl (fun K hK => ?_) AllReadyH.nil
          go_simp
          refine (HE.out 1).mono ?_
          rintro e w' ⟨rfl, HB⟩
          rw [HOK.out]
          refine hK.out _ _ ((show (fun W => Hid (Below wn.heap.size wn W) ∧ (W.cell? ⟨B, 0, none⟩ = some (.string (nAt ns 0).path) ∧ W.cell? ⟨B, 1, none⟩ = some (.string (nAt ns 0).data) ∧ W.cell? ⟨B, 2, none⟩ = some (.int .i64 (nAt ns 0).ver) ∧ W.cell? ⟨B, 3, none⟩ = some (.int .i64 (nAt ns 0).cver) ∧ W.cell? ⟨B, 4, none⟩ = some (.int .i64 (nAt ns 0).cz) ∧ W.cell? ⟨B, 5, none⟩ = some (.int .i64 (nAt ns 0).mz) ∧ W.cell? ⟨B, 6, none⟩ = some (.int .i64 (nAt ns 0).pz))) w' from ⟨HB, (XN.out.below HB.out).all⟩)) (fun _ => ?_)
          clear hK K hHeld
          have hHeld := (show (fun W => Hid (Below wn.heap.size wn W) ∧ (W.cell? ⟨B, 0, none⟩ = some (.string (nAt ns 0).path) ∧ W.cell? ⟨B, 1, none⟩ = some (.string (nAt ns 0).data) ∧ W.cell? ⟨B, 2, none⟩ = some (.int .i64 (nAt ns 0).ver) ∧ W.cell? ⟨B, 3, none⟩ = some (.int .i64 (nAt ns 0).cver) ∧ W.cell? ⟨B, 4, none⟩ = some (.int .i64 (nAt ns 0).cz) ∧ W.cell? ⟨B, 5, none⟩ = some (.int .i64 (nAt ns 0).mz) ∧ W.cell? ⟨B, 6, none⟩ = some (.int .i64 (nAt ns 0).pz))) w' from ⟨HB, (XN.out.below HB.out).all⟩)
          try simp only [Act.put, List.setIfInBounds_toArray, List.set_cons_zero, List.set_cons_succ]
          refine wpAnyH_take (i := 2) (oi := { dst := some 19, op := _, type := _, pos := _, after := _, guard := _ }) (v := ?v6) rfl (by kernel_rfl) (by kernel_rfl) (by kernel_rfl) (fun _ _ _ h => h) (Or.inl ⟨by rfl, ?hy6⟩) (by assumption) ?rest6
          case hy6 =>
            intro w9 hS9
            obtain ⟨-, hS9⟩ := hS9
            go_simp
            try with_reducible rfl
          try simp only [Act.put, List.setIfInBounds_toArray, List.set_cons_zero, List.set_cons_succ]
          refine wpAnyH_take (i := 3) (oi := { dst := some 20, op := _, type := _, pos := _, after := _, guard := _ }) (v := ?v7) rfl (by kernel_rfl) (by kernel_rfl) (by kernel_rfl) (fun _ _ _ h => h) (Or.inl ⟨by rfl, ?hy7⟩) (by assumption) ?rest7
          case hy7 =>
            intro w9 hS9
            obtain ⟨-, hS9⟩ := hS9
            go_simp
            try with_reducible rfl
          try simp only [Act.put, List.setIfInBounds_toArray, List.set_cons_zero, List.set_cons_succ]
          refine wpAnyH_take (i := 4) (oi := { dst := some 21, op := _, type := _, pos := _, after := _, guard := _ }) (v := ?v8) rfl (by kernel_rfl) (by kernel_rfl) (by kernel_rfl) (fun _ _ _ h => h) (Or.inl ⟨by rfl, ?hy8⟩) (by assumption) ?rest8
          case hy8 =>
            intro w9 hS9
            obtain ⟨-, hS9⟩ := hS9
            go_simp
            try with_reducible rfl
          try simp only [Act.put, List.setIfInBounds_toArray, List.set_cons_zero, List.set_cons_succ]
          refine wpAnyH_take (i := 5) (oi := { dst := some 22, op := _, type := _, pos := _, after := _, guard := _ }) (v := ?v9) rfl (by kernel_rfl) (by kernel_rfl) (by kernel_rfl) (fun _ _ _ h => h) (Or.inl ⟨by rfl, ?hy9⟩) (by assumption) ?rest9
          case hy9 =>
            intro w9 hS9
            obtain ⟨-, hS9⟩ := hS9
            go_simp
            try with_reducible rfl
          try simp only [Act.put, List.setIfInBounds_toArray, List.set_cons_zero, List.set_cons_succ]
          refine wpAnyH_take (i := 6) (oi := { dst := some 23, op := _, type := _, pos := _, after := _, guard := _ }) (v := ?v10) rfl (by kernel_rfl) (by kernel_rfl) (by kernel_rfl) (fun _ _ _ h => h) (Or.inl ⟨by rfl, ?hy10⟩) (by assumption) ?rest10
          case hy10 =>
            intro w9 hS9
            obtain ⟨-, hS9⟩ := hS9
            go_simp
            try with_reducible rfl
          try simp only [Act.put, List.setIfInBounds_toArray, List.set_cons_zero, List.set_cons_succ]
          refine wpAnyH_take (i := 7) (oi := { dst := some 24, op := _, type := _, pos := _, after := _, guard := _ }) (v := undef) rfl (by kernel_rfl) (by kernel_rfl) (by kernel_rfl) (fun _ _ _ h => h) (Or.inr ⟨by rfl, rfl⟩) (by assumption) ?_
          try simp only [Act.put, List.setIfInBounds_toArray, List.set_cons_zero, List.set_cons_succ]
          refine wpAnyH_take (i := 8) (oi := { dst := some 25, op := _, type := _, pos := _, after := _, guard := _ }) (v := undef) rfl (by kernel_rfl) (by kernel_rfl) (by kernel_rfl) (fun _ _ _ h => h) (Or.inr ⟨by rfl, rfl⟩) (by assumption) ?_
          try simp only [Act.put, List.setIfInBounds_toArray, List.set_cons_zero, List.set_cons_succ]
          refine wpAnyH_take (i := 9) (oi := { dst := some 26, op := _, type := _, pos := _, after := _, guard := _ }) (v := undef) rfl (by kernel_rfl) (by kernel_rfl) (by kernel_rfl) (fun _ _ _ h => h) (Or.inr ⟨by rfl, rfl⟩) (by assumption) ?_
          try simp only [Act.put, List.setIfInBounds_toArray, List.set_cons_zero, List.set_cons_succ]
          refine wpAnyH_take (i := 10) (oi := { dst := some 27, op := _, type := _, pos := _, after := _, guard := _ }) (v := undef) rfl (by kernel_rfl) (by kernel_rfl) (by kernel_rfl) (fun _ _ _ h => h) (Or.inr ⟨by rfl, rfl⟩) (by assumption) ?_
          try simp only [Act.put, List.setIfInBounds_toArray, List.set_cons_zero, List.set_cons_succ]
          refine wpAnyH_take (i := 11) (oi := { dst := some 28, op := _, type := _, pos := _, after := _, guard := _ }) (v := undef) rfl (by kernel_rfl) (by kernel_rfl) (by kernel_rfl) (fun _ _ _ h => h) (Or.inr ⟨by rfl, rfl⟩) (by assumption) ?_
          try simp only [Act.put, List.setIfInBounds_toArray, List.set_cons_zero, List.set_cons_succ]
          refine wpAnyH_take (i := 12) (oi := { dst := some 29, op := _, type := _, pos := _, after := _, guard := _ }) (v := undef) rfl (by kernel_rfl) (by kernel_rfl) (by kernel_rfl) (fun _ _ _ h => h) (Or.inr ⟨by rfl, rfl⟩) (by assumption) ?_
          try simp only [Act.put, List.setIfInBounds_toArray, List.set_cons_zero, List.set_cons_succ]
          refine wpAnyH_take (i := 13) (oi := { dst := some 30, op := _, type := _, pos := _, after := _, guard := _ }) (v := undef) rfl (by kernel_rfl) (by kernel_rfl) (by kernel_rfl) (fun _ _ _ h => h) (Or.inr ⟨by rfl, rfl⟩) (by assumption) ?_
          try simp only [Act.put, List.setIfInBounds_toArray, List.set_cons_zero, List.set_cons_succ]
          refine wpAnyH_take (i := 14) (oi := { dst := some 31, op := _, type := _, pos := _, after := _, guard := _ }) (v := undef) rfl (by kernel_rfl) (by kernel_rfl) (by kernel_rfl) (fun _ _ _ h => h) (Or.inr ⟨by rfl, rfl⟩) (by assumption) ?_
          try simp only [Act.put, List.setIfInBounds_toArray, List.set_cons_zero, List.set_cons_succ]
          refine wpAnyH_take (i := 15) (oi := { dst := some 32, op := _, type := _, pos := _, after := _, guard := _ }) (v := undef) rfl (by kernel_rfl) (by kernel_rfl) (by kernel_rfl) (fun _ _ _ h => h) (Or.inr ⟨by rfl, rfl⟩) (by assumption) ?_
          try simp only [Act.put, List.setIfInBounds_toArray, List.set_cons_zero, List.set_cons_succ]
          refine wpAnyH_take (i := 16) (oi := { dst := some 33, op := _, type := _, pos := _, after := _, guard := _ }) (v := undef) rfl (by kernel_rfl) (by kernel_rfl) (by kernel_rfl) (fun _ _ _ h => h) (Or.inr ⟨by rfl, rfl⟩) (by assumption) ?_
          try simp only [Act.put, List.setIfInBounds_toArray, List.set_cons_zero, List.set_cons_succ]
          refine wpAnyH_take (i := 17) (oi := { dst := some 34, op := _, type := _, pos := _, after := _, guard := _ }) (v := ?v11) rfl (by kernel_rfl) (by kernel_rfl) (by kernel_rfl) (fun _ _ _ h => h) (Or.inl ⟨by rfl, ?hy11⟩) (by assumption) ?rest11
          case hy11 =>
            intro w9 hS9
            obtain ⟨-, hS9⟩ := hS9
            go_simp
            try with_reducible rfl
          try simp only [Act.put, List.setIfInBounds_toArray, List.set_cons_zero, List.set_cons_succ]
          refine wpAnyH_take (i := 18) (oi := { dst := some 35, op := _, type := _, pos := _, after := _, guard := _ }) (v := ?v12) rfl (by kernel_rfl) (by kernel_rfl) (by kernel_rfl) (fun _ _ _ h => h) (Or.inl ⟨by rfl, ?hy12⟩) (by assumption) ?rest12
          case hy12 =>
            intro w9 hS9
            obtain ⟨-, hS9⟩ := hS9
            go_simp
            try with_reducible rfl
          try simp only [Act.put, List.setIfInBounds_toArray, List.set_cons_zero, List.set_cons_succ]
          refine wpAnyH_done (by kernel_rfl) ?_ _
          clear hHeld
          go_wp2
          go_roundw
          case rel => exact ⟨0 + 1, by omega, by go_num, (fun t ht => by by_cases e : t = 0; (subst e; exact HT.out); exact HA.out t (by omega)), HBz.out _ HB.out⟩
          case measure => simp [intOf]; omega
        | succ j =>
          have g1 : (0 : Int) ≤ (j : Int) + 1 := by omega
          have g2 : (j : Int) + 1 < (n : Int) := by omega
          have g3 : (0 : Int) ≤ (j : Int) := by omega
          have g4 : (j : Int) < (n : Int) := by omega
          have g5 : (0 : Int) < (j : Int) + 1 := by omega
          have g6 : IntKind.i64.wrap (j : Int) = (j : Int) := by rw [IntKind.wrap_i64]; omega
          cases hcmp : ltP (nAt ns j).path (nAt ns (j + 1)).path with
          | true =>
            have HT : Hid (okAt ns (j + 1) = true) := by show _ = _; rw [okAt_succ, HOK.out, hcmp]; rfl
            have l1 : Op.bytesLess (nAt ns j).path.toList (nAt ns (j + 1)).path.toList = true := hcmp
            clear hcmp
            refine wp_region_held_drew (S := fun W => Hid (Below wn.heap.size wn W) ∧ (W.cell? ⟨B, 0, none⟩ = some (.string (nAt ns (j + 1)).path) ∧ W.cell? ⟨B, 1, none⟩ = some (.string (nAt ns (j + 1)).data) ∧ W.cell? ⟨B, 2, none⟩ = some (.int .i64 (nAt ns (j + 1)).ver) ∧ W.cell? ⟨B, 3, none⟩ = some (.int .i64 (nAt ns (j + 1)).cver) ∧ W.cell? ⟨B, 4, none⟩ = some (.int .i64 (nAt ns (j + 1)).cz) ∧ W.cell? ⟨B, 5, none⟩ = some (.int .i64 (nAt ns (j + 1)).mz) ∧ W.cell? ⟨B, 6, none⟩ = some (.int .i64 (nAt ns (j + 1)).pz)) ∧ W.cell? ⟨w.heap.size, 0, none⟩ = some (.slice (some ⟨b, o, none⟩) n cap) ∧ W.cell? ⟨b, o + j * 7, none⟩ = some (.string (nAt ns j).path)) (by kernel_rfl) (⟨HD, (XN.out.below HD.out).all, (CT.out _ HD.out), ((HC.out j (by omega)).below (HBn.out _ HD.out) hb).c0⟩) (fun hHeld => ?_)
            refine wpAnyH_take (i := 0) (oi := { dst := some 17, op := _, type := _, pos := _, after := _, guard := _ }) (v := ?v13) rfl (by kernel_rfl) (by kernel_rfl) (by kernel_rfl) (fun _ _ _ h => h) (Or.inl ⟨by rfl, ?hy13⟩) (by assumption) ?rest13
            case hy13 =>
              intro w9 hS9
              obtain ⟨-, hS9⟩ := hS9
              go_simp
              try with_reducible rfl
            try simp only [Act.put, List.setIfInBounds_toArray, List.set_cons_zero, List.set_cons_succ]
            refine wpAnyH_ready (rs := [1]) (by kernel_rfl) (by simp) ?_
            refine AllReadyH.cons (o := { dst := some 18, op := _, type := _, pos := _, after := _, guard := _ }) rfl (fun K hK => ?_) AllReadyH.nil
            go_simp
            refine (HE.out 1).mono ?_
            rintro e w' ⟨rfl, HB⟩
            rw [HOK.out]
            refine hK.out _ _ ((show (fun W => Hid (Below wn.heap.size wn W) ∧ (W.cell? ⟨B, 0, none⟩ = some (.string (nAt ns (j + 1)).path) ∧ W.cell? ⟨B, 1, none⟩ = some (.string (nAt ns (j + 1)).data) ∧ W.cell? ⟨B, 2, none⟩ = some (.int .i64 (nAt ns (j + 1)).ver) ∧ W.cell? ⟨B, 3, none⟩ = some (.int .i64 (nAt ns (j + 1)).cver) ∧ W.cell? ⟨B, 4, none⟩ = some (.int .i64 (nAt ns (j + 1)).cz) ∧ W.cell? ⟨B, 5, none⟩ = some (.int .i64 (nAt ns (j + 1)).mz) ∧ W.cell? ⟨B, 6, none⟩ = some (.int .i64 (nAt ns (j + 1)).pz)) ∧ W.cell? ⟨w.heap.size, 0, none⟩ = some (.slice (some ⟨b, o, none⟩) n cap) ∧ W.cell? ⟨b, o + j * 7, none⟩ = some (.string (nAt ns j).path)) w' from ⟨HB, (XN.out.below HB.out).all, (CT.out _ HB.out), ((HC.out j (by omega)).below (HBn.out _ HB.out) hb).c0⟩)) (fun _ => ?_)
            clear hK K hHeld
            have hHeld := (show (fun W => Hid (Below wn.heap.size wn W) ∧ (W.cell? ⟨B, 0, none⟩ = some (.string (nAt ns (j + 1)).path) ∧ W.cell? ⟨B, 1, none⟩ = some (.string (nAt ns (j + 1)).data) ∧ W.cell? ⟨B, 2, none⟩ = some (.int .i64 (nAt ns (j + 1)).ver) ∧ W.cell? ⟨B, 3, none⟩ = some (.int .i64 (nAt ns (j + 1)).cver) ∧ W.cell? ⟨B, 4, none⟩ = some (.int .i64 (nAt ns (j + 1)).cz) ∧ W.cell? ⟨B, 5, none⟩ = some (.int .i64 (nAt ns (j + 1)).mz) ∧ W.cell? ⟨B, 6, none⟩ = some (.int .i64 (nAt ns (j + 1)).pz)) ∧ W.cell? ⟨w.heap.size, 0, none⟩ = some (.slice (some ⟨b, o, none⟩) n cap) ∧ W.cell? ⟨b, o + j * 7, none⟩ = some (.string (nAt ns j).path)) w' from ⟨HB, (XN.out.below HB.out).all, (CT.out _ HB.out), ((HC.out j (by omega)).below (HBn.out _ HB.out) hb).c0⟩)
            try simp only [Act.put, List.setIfInBounds_toArray, List.set_cons_zero, List.set_cons_succ]
            refine wpAnyH_take (i := 2) (oi := { dst := some 19, op := _, type := _, pos := _, after := _, guard := _ }) (v := ?v14) rfl (by kernel_rfl) (by kernel_rfl) (by kernel_rfl) (fun _ _ _ h => h) (Or.inl ⟨by rfl, ?hy14⟩) (by assumption) ?rest14
            case hy14 =>
              intro w9 hS9
              obtain ⟨-, hS9⟩ := hS9
              go_simp
              try with_reducible rfl
            try simp only [Act.put, List.setIfInBounds_toArray, List.set_cons_zero, List.set_cons_succ]
            refine wpAnyH_take (i := 3) (oi := { dst := some 20, op := _, type := _, pos := _, after := _, guard := _ }) (v := ?v15) rfl (by kernel_rfl) (by kernel_rfl) (by kernel_rfl) (fun _ _ _ h => h) (Or.inl ⟨by rfl, ?hy15⟩) (by assumption) ?rest15
            case hy15 =>
              intro w9 hS9
              obtain ⟨-, hS9⟩ := hS9
              go_simp
              try with_reducible rfl
            try simp only [Act.put, List.setIfInBounds_toArray, List.set_cons_zero, List.set_cons_succ]
            refine wpAnyH_take (i := 4) (oi := { dst := some 21, op := _, type := _, pos := _, after := _, guard := _ }) (v := ?v16) rfl (by kernel_rfl) (by kernel_rfl) (by kernel_rfl) (fun _ _ _ h => h) (Or.inl ⟨by rfl, ?hy16⟩) (by assumption) ?rest16
            case hy16 =>
              intro w9 hS9
              obtain ⟨-, hS9⟩ := hS9
              go_simp
              try with_reducible rfl
            try simp only [Act.put, List.setIfInBounds_toArray, List.set_cons_zero, List.set_cons_succ]
            refine wpAnyH_take (i := 5) (oi := { dst := some 22, op := _, type := _, pos := _, after := _, guard := _ }) (v := ?v17) rfl (by kernel_rfl) (by kernel_rfl) (by kernel_rfl) (fun _ _ _ h => h) (Or.inl ⟨by rfl, ?hy17⟩) (by assumption) ?rest17
            case hy17 =>
              intro w9 hS9
              obtain ⟨-, hS9⟩ := hS9
              go_simp
              try with_reducible rfl
            try simp only [Act.put, List.setIfInBounds_toArray, List.set_cons_zero, List.set_cons_succ]
            refine wpAnyH_take (i := 6) (oi := { dst := some 23, op := _, type := _, pos := _, after := _, guard := _ }) (v := ?v18) rfl (by kernel_rfl) (by kernel_rfl) (by kernel_rfl) (fun _ _ _ h => h) (Or.inl ⟨by rfl, ?hy18⟩) (by assumption) ?rest18
            case hy18 =>
              intro w9 hS9
              obtain ⟨-, hS9⟩ := hS9
              go_simp
              try with_reducible rfl
            try simp only [Act.put, List.setIfInBounds_toArray, List.set_cons_zero, List.set_cons_succ]
            refine wpAnyH_take (i := 7) (oi := { dst := some 24, op := _, type := _, pos := _, after := _, guard := _ }) (v := ?v19) rfl (by kernel_rfl) (by kernel_rfl) (by kernel_rfl) (fun _ _ _ h => h) (Or.inl ⟨by rfl, ?hy19⟩) (by assumption) ?rest19
            case hy19 =>
              intro w9 hS9
              obtain ⟨-, hS9⟩ := hS9
              go_simp
              try with_reducible rfl
            try simp only [Act.put, List.setIfInBounds_toArray, List.set_cons_zero, List.set_cons_succ]
            refine wpAnyH_take (i := 8) (oi := { dst := some 25, op := _, type := _, pos := _, after := _, guard := _ }) (v := ?v20) rfl (by kernel_rfl) (by kernel_rfl) (by kernel_rfl) (fun _ _ _ h => h) (Or.inl ⟨by rfl, ?hy20⟩) (by assumption) ?rest20
            case hy20 =>
              intro w9 hS9
              obtain ⟨-, hS9⟩ := hS9
              go_simp
              try with_reducible rfl
            try simp only [Act.put, List.setIfInBounds_toArray, List.set_cons_zero, List.set_cons_succ]
            refine wpAnyH_take (i := 9) (oi := { dst := some 26, op := _, type := _, pos := _, after := _, guard := _ }) (v := ?v21) rfl (by kernel_rfl) (by kernel_rfl) (by kernel_rfl) (fun _ _ _ h => h) (Or.inl ⟨by rfl, ?hy21⟩) (by assumption) ?rest21
            case hy21 =>
              intro w9 hS9
              obtain ⟨-, hS9⟩ := hS9
              go_simp
              try with_reducible rfl
            try simp only [Act.put, List.setIfInBounds_toArray, List.set_cons_zero, List.set_cons_succ]
            refine wpAnyH_take (i := 10) (oi := { dst := some 27, op := _, type := _, pos := _, after := _, guard := _ }) (v := ?v22) rfl (by kernel_rfl) (by kernel_rfl) (by kernel_rfl) (fun _ _ _ h => h) (Or.inl ⟨by rfl, ?hy22⟩) (by assumption) ?rest22
            case hy22 =>
              intro w9 hS9
              obtain ⟨-, hS9⟩ := hS9
              go_simp
              try with_reducible rfl
            try simp only [Act.put, List.setIfInBounds_toArray, List.set_cons_zero, List.set_cons_succ]
            refine wpAnyH_take (i := 11) (oi := { dst := some 28, op := _, type := _, pos := _, after := _, guard := _ }) (v := ?v23) rfl (by kernel_rfl) (by kernel_rfl) (by kernel_rfl) (fun _ _ _ h => h) (Or.inl ⟨by rfl, ?hy23⟩) (by assumption) ?rest23
            case hy23 =>
              intro w9 hS9
              obtain ⟨-, hS9⟩ := hS9
              go_simp
              try with_reducible rfl
            try simp only [Act.put, List.setIfInBounds_toArray, List.set_cons_zero, List.set_cons_succ]
            refine wpAnyH_take (i := 12) (oi := { dst := some 29, op := _, type := _, pos := _, after := _, guard := _ }) (v := ?v24) rfl (by kernel_rfl) (by kernel_rfl) (by kernel_rfl) (fun _ _ _ h => h) (Or.inl ⟨by rfl, ?hy24⟩) (by assumption) ?rest24
            case hy24 =>
              intro w9 hS9
              obtain ⟨-, hS9⟩ := hS9
              go_simp
              try with_reducible rfl
            try simp only [Act.put, List.setIfInBounds_toArray, List.set_cons_zero, List.set_cons_succ]
            refine wpAnyH_take (i := 13) (oi := { dst := some 30, op := _, type := _, pos := _, after := _, guard := _ }) (v := ?v25) rfl (by kernel_rfl) (by kernel_rfl) (by kernel_rfl) (fun _ _ _ h => h) (Or.inl ⟨by rfl, ?hy25⟩) (by assumption) ?rest25
            case hy25 =>
              intro w9 hS9
              obtain ⟨-, hS9⟩ := hS9
              go_simp
              try with_reducible rfl
            try simp only [Act.put, List.setIfInBounds_toArray, List.set_cons_zero, List.set_cons_succ]
            refine wpAnyH_take (i := 14) (oi := { dst := some 31, op := _, type := _, pos := _, after := _, guard := _ }) (v := ?v26) rfl (by kernel_rfl) (by kernel_rfl) (by kernel_rfl) (fun _ _ _ h => h) (Or.inl ⟨by rfl, ?hy26⟩) (by assumption) ?rest26
            case hy26 =>
              intro w9 hS9
              obtain ⟨-, hS9⟩ := hS9
              go_simp
              try with_reducible rfl
            try simp only [Act.put, List.setIfInBounds_toArray, List.set_cons_zero, List.set_cons_succ]
            refine wpAnyH_take (i := 15) (oi := { dst := some 32, op := _, type := _, pos := _, after := _, guard := _ }) (v := ?v27) rfl (by kernel_rfl) (by kernel_rfl) (by kernel_rfl) (fun _ _ _ h => h) (Or.inl ⟨by rfl, ?hy27⟩) (by assumption) ?rest27
            case hy27 =>
              intro w9 hS9
              obtain ⟨-, hS9⟩ := hS9
              go_simp
              try with_reducible rfl
            try simp only [Act.put, List.setIfInBounds_toArray, List.set_cons_zero, List.set_cons_succ]
            refine wpAnyH_take (i := 16) (oi := { dst := some 33, op := _, type := _, pos := _, after := _, guard := _ }) (v := ?v28) rfl (by kernel_rfl) (by kernel_rfl) (by kernel_rfl) (fun _ _ _ h => h) (Or.inl ⟨by rfl, ?hy28⟩) (by assumption) ?rest28
            case hy28 =>
              intro w9 hS9
              obtain ⟨-, hS9⟩ := hS9
              go_simp
              try with_reducible rfl
            try simp only [Act.put, List.setIfInBounds_toArray, List.set_cons_zero, List.set_cons_succ]
            refine wpAnyH_take (i := 17) (oi := { dst := some 34, op := _, type := _, pos := _, after := _, guard := _ }) (v := ?v29) rfl (by kernel_rfl) (by kernel_rfl) (by kernel_rfl) (fun _ _ _ h => h) (Or.inl ⟨by rfl, ?hy29⟩) (by assumption) ?rest29
            case hy29 =>
              intro w9 hS9
              obtain ⟨-, hS9⟩ := hS9
              go_simp
              try with_reducible rfl
            try simp only [Act.put, List.setIfInBounds_toArray, List.set_cons_zero, List.set_cons_succ]
            refine wpAnyH_take (i := 18) (oi := { dst := some 35, op := _, type := _, pos := _, after := _, guard := _ }) (v := ?v30) rfl (by kernel_rfl) (by kernel_rfl) (by kernel_rfl) (fun _ _ _ h => h) (Or.inl ⟨by rfl, ?hy30⟩) (by assumption) ?rest30
            case hy30 =>
              intro w9 hS9
              obtain ⟨-, hS9⟩ := hS9
              go_simp
              try with_reducible rfl
            try simp only [Act.put, List.setIfInBounds_toArray, List.set_cons_zero, List.set_cons_succ]
            refine wpAnyH_done (by kernel_rfl) ?_ _
            clear hHeld
            go_wp2
            go_roundw
            case rel => exact ⟨(j + 1) + 1, by omega, by go_num, (fun t ht => by by_cases e : t = (j + 1); (subst e; exact HT.out); exact HA.out t (by omega)), HBz.out _ HB.out⟩
            case measure => simp [intOf]; omega
          | false =>
            have HN : Hid (okSorted ns = false) := sorted_no HLT.out (by rw [okAt_succ, hcmp, Bool.and_false])
            have l1 : Op.bytesLess (nAt ns j).path.toList (nAt ns (j + 1)).path.toList = false := hcmp
            clear hcmp
            refine wp_region_held_drew (S := fun W => Hid (Below wn.heap.size wn W) ∧ (W.cell? ⟨B, 0, none⟩ = some (.string (nAt ns (j + 1)).path) ∧ W.cell? ⟨B, 1, none⟩ = some (.string (nAt ns (j + 1)).data) ∧ W.cell? ⟨B, 2, none⟩ = some (.int .i64 (nAt ns (j + 1)).ver) ∧ W.cell? ⟨B, 3, none⟩ = some (.int .i64 (nAt ns (j + 1)).cver) ∧ W.cell? ⟨B, 4, none⟩ = some (.int .i64 (nAt ns (j + 1)).cz) ∧ W.cell? ⟨B, 5, none⟩ = some (.int .i64 (nAt ns (j + 1)).mz) ∧ W.cell? ⟨B, 6, none⟩ = some (.int .i64 (nAt ns (j + 1)).pz)) ∧ W.cell? ⟨w.heap.size, 0, none⟩ = some (.slice (some ⟨b, o, none⟩) n cap) ∧ W.cell? ⟨b, o + j * 7, none⟩ = some (.string (nAt ns j).path)) (by kernel_rfl) (⟨HD, (XN.out.below HD.out).all, (CT.out _ HD.out), ((HC.out j (by omega)).below (HBn.out _ HD.out) hb).c0⟩) (fun hHeld => ?_)
            refine wpAnyH_take (i := 0) (oi := { dst := some 17, op := _, type := _, pos := _, after := _, guard := _ }) (v := ?v31) rfl (by kernel_rfl) (by kernel_rfl) (by kernel_rfl) (fun _ _ _ h => h) (Or.inl ⟨by rfl, ?hy31⟩) (by assumption) ?rest31
            case hy31 =>
              intro w9 hS9
              obtain ⟨-, hS9⟩ := hS9
              go_simp
              try with_reducible rfl
            try simp only [Act.put, List.setIfInBounds_toArray, List.set_cons_zero, List.set_cons_succ]
            refine wpAnyH_ready (rs := [1]) (by kernel_rfl) (by simp) ?_
            refine AllReadyH.cons (o := { dst := some 18, op := _, type := _, pos := _, after := _, guard := _ }) rfl (fun K hK => ?_) AllReadyH.nil
            go_simp
            refine (HE.out 1).mono ?_
            rintro e w' ⟨rfl, HB⟩
            rw [HOK.out]
            refine hK.out _ _ ((show (fun W => Hid (Below wn.heap.size wn W) ∧ (W.cell? ⟨B, 0, none⟩ = some (.string (nAt ns (j + 1)).path) ∧ W.cell? ⟨B, 1, none⟩ = some (.string (nAt ns (j + 1)).data) ∧ W.cell? ⟨B, 2, none⟩ = some (.int .i64 (nAt ns (j + 1)).ver) ∧ W.cell? ⟨B, 3, none⟩ = some (.int .i64 (nAt ns (j + 1)).cver) ∧ W.cell? ⟨B, 4, none⟩ = some (.int .i64 (nAt ns (j + 1)).cz) ∧ W.cell? ⟨B, 5, none⟩ = some (.int .i64 (nAt ns (j + 1)).mz) ∧ W.cell? ⟨B, 6, none⟩ = some (.int .i64 (nAt ns (j + 1)).pz)) ∧ W.cell? ⟨w.heap.size, 0, none⟩ = some (.slice (some ⟨b, o, none⟩) n cap) ∧ W.cell? ⟨b, o + j * 7, none⟩ = some (.string (nAt ns j).path)) w' from ⟨HB, (XN.out.below HB.out).all, (CT.out _ HB.out), ((HC.out j (by omega)).below (HBn.out _ HB.out) hb).c0⟩)) (fun _ => ?_)
            clear hK K hHeld
            have hHeld := (show (fun W => Hid (Below wn.heap.size wn W) ∧ (W.cell? ⟨B, 0, none⟩ = some (.string (nAt ns (j + 1)).path) ∧ W.cell? ⟨B, 1, none⟩ = some (.string (nAt ns (j + 1)).data) ∧ W.cell? ⟨B, 2, none⟩ = some (.int .i64 (nAt ns (j + 1)).ver) ∧ W.cell? ⟨B, 3, none⟩ = some (.int .i64 (nAt ns (j + 1)).cver) ∧ W.cell? ⟨B, 4, none⟩ = some (.int .i64 (nAt ns (j + 1)).cz) ∧ W.cell? ⟨B, 5, none⟩ = some (.int .i64 (nAt ns (j + 1)).mz) ∧ W.cell? ⟨B, 6, none⟩ = some (.int .i64 (nAt ns (j + 1)).pz)) ∧ W.cell? ⟨w.heap.size, 0, none⟩ = some (.slice (some ⟨b, o, none⟩) n cap) ∧ W.cell? ⟨b, o + j * 7, none⟩ = some (.string (nAt ns j).path)) w' from ⟨HB, (XN.out.below HB.out).all, (CT.out _ HB.out), ((HC.out j (by omega)).below (HBn.out _ HB.out) hb).c0⟩)
            try simp only [Act.put, List.setIfInBounds_toArray, List.set_cons_zero, List.set_cons_succ]
            refine wpAnyH_take (i := 2) (oi := { dst := some 19, op := _, type := _, pos := _, after := _, guard := _ }) (v := ?v32) rfl (by kernel_rfl) (by kernel_rfl) (by kernel_rfl) (fun _ _ _ h => h) (Or.inl ⟨by rfl, ?hy32⟩) (by assumption) ?rest32
            case hy32 =>
              intro w9 hS9
              obtain ⟨-, hS9⟩ := hS9
              go_simp
              try with_reducible rfl
            try simp only [Act.put, List.setIfInBounds_toArray, List.set_cons_zero, List.set_cons_succ]
            refine wpAnyH_take (i := 3) (oi := { dst := some 20, op := _, type := _, pos := _, after := _, guard := _ }) (v := ?v33) rfl (by kernel_rfl) (by kernel_rfl) (by kernel_rfl) (fun _ _ _ h => h) (Or.inl ⟨by rfl, ?hy33⟩) (by assumption) ?rest33
            case hy33 =>
              intro w9 hS9
              obtain ⟨-, hS9⟩ := hS9
              go_simp
              try with_reducible rfl
            try simp only [Act.put, List.setIfInBounds_toArray, List.set_cons_zero, List.set_cons_succ]
            refine wpAnyH_take (i := 4) (oi := { dst := some 21, op := _, type := _, pos := _, after := _, guard := _ }) (v := ?v34) rfl (by kernel_rfl) (by kernel_rfl) (by kernel_rfl) (fun _ _ _ h => h) (Or.inl ⟨by rfl, ?hy34⟩) (by assumption) ?rest34
            case hy34 =>
              intro w9 hS9
              obtain ⟨-, hS9⟩ := hS9
              go_simp
              try with_reducible rfl
            try simp only [Act.put, List.setIfInBounds_toArray, List.set_cons_zero, List.set_cons_succ]
            refine wpAnyH_take (i := 5) (oi := { dst := some 22, op := _, type := _, pos := _, after := _, guard := _ }) (v := ?v35) rfl (by kernel_rfl) (by kernel_rfl) (by kernel_rfl) (fun _ _ _ h => h) (Or.inl ⟨by rfl, ?hy35⟩) (by assumption) ?rest35
            case hy35 =>
              intro w9 hS9
              obtain ⟨-, hS9⟩ := hS9
              go_simp
              try with_reducible rfl
            try simp only [Act.put, List.setIfInBounds_toArray, List.set_cons_zero, List.set_cons_succ]
            refine wpAnyH_take (i := 6) (oi := { dst := some 23, op := _, type := _, pos := _, after := _, guard := _ }) (v := ?v36) rfl (by kernel_rfl) (by kernel_rfl) (by kernel_rfl) (fun _ _ _ h => h) (Or.inl ⟨by rfl, ?hy36⟩) (by assumption) ?rest36
            case hy36 =>
              intro w9 hS9
              obtain ⟨-, hS9⟩ := hS9
              go_simp
              try with_reducible rfl
            try simp only [Act.put, List.setIfInBounds_toArray, List.set_cons_zero, List.set_cons_succ]
            refine wpAnyH_take (i := 7) (oi := { dst := some 24, op := _, type := _, pos := _, after := _, guard := _ }) (v := ?v37) rfl (by kernel_rfl) (by kernel_rfl) (by kernel_rfl) (fun _ _ _ h => h) (Or.inl ⟨by rfl, ?hy37⟩) (by assumption) ?rest37
            case hy37 =>
              intro w9 hS9
              obtain ⟨-, hS9⟩ := hS9
              go_simp
              try with_reducible rfl
            try simp only [Act.put, List.setIfInBounds_toArray, List.set_cons_zero, List.set_cons_succ]
            refine wpAnyH_take (i := 8) (oi := { dst := some 25, op := _, type := _, pos := _, after := _, guard := _ }) (v := ?v38) rfl (by kernel_rfl) (by kernel_rfl) (by kernel_rfl) (fun _ _ _ h => h) (Or.inl ⟨by rfl, ?hy38⟩) (by assumption) ?rest38
            case hy38 =>
              intro w9 hS9
              obtain ⟨-, hS9⟩ := hS9
              go_simp
              try with_reducible rfl
            try simp only [Act.put, List.setIfInBounds_toArray, List.set_cons_zero, List.set_cons_succ]
            refine wpAnyH_take (i := 9) (oi := { dst := some 26, op := _, type := _, pos := _, after := _, guard := _ }) (v := ?v39) rfl (by kernel_rfl) (by kernel_rfl) (by kernel_rfl) (fun _ _ _ h => h) (Or.inl ⟨by rfl, ?hy39⟩) (by assumption) ?rest39
            case hy39 =>
              intro w9 hS9
              obtain ⟨-, hS9⟩ := hS9
              go_simp
              try with_reducible rfl
            try simp only [Act.put, List.setIfInBounds_toArray, List.set_cons_zero, List.set_cons_succ]
            refine wpAnyH_take (i := 10) (oi := { dst := some 27, op := _, type := _, pos := _, after := _, guard := _ }) (v := ?v40) rfl (by kernel_rfl) (by kernel_rfl) (by kernel_rfl) (fun _ _ _ h => h) (Or.inl ⟨by rfl, ?hy40⟩) (by assumption) ?rest40
            case hy40 =>
              intro w9 hS9
              obtain ⟨-, hS9⟩ := hS9
              go_simp
              try with_reducible rfl
            try simp only [Act.put, List.setIfInBounds_toArray, List.set_cons_zero, List.set_cons_succ]
            refine wpAnyH_take (i := 11) (oi := { dst := some 28, op := _, type := _, pos := _, after := _, guard := _ }) (v := ?v41) rfl (by kernel_rfl) (by kernel_rfl) (by kernel_rfl) (fun _ _ _ h => h) (Or.inl ⟨by rfl, ?hy41⟩) (by assumption) ?rest41
            case hy41 =>
              intro w9 hS9
              obtain ⟨-, hS9⟩ := hS9
              go_simp
              try with_reducible rfl
            try simp only [Act.put, List.setIfInBounds_toArray, List.set_cons_zero, List.set_cons_succ]
            refine wpAnyH_take (i := 12) (oi := { dst := some 29, op := _, type := _, pos := _, after := _, guard := _ }) (v := ?v42) rfl (by kernel_rfl) (by kernel_rfl) (by kernel_rfl) (fun _ _ _ h => h) (Or.inl ⟨by rfl, ?hy42⟩) (by assumption) ?rest42
            case hy42 =>
              intro w9 hS9
              obtain ⟨-, hS9⟩ := hS9
              go_simp
              try with_reducible rfl
            try simp only [Act.put, List.setIfInBounds_toArray, List.set_cons_zero, List.set_cons_succ]
            refine wpAnyH_take (i := 13) (oi := { dst := some 30, op := _, type := _, pos := _, after := _, guard := _ }) (v := ?v43) rfl (by kernel_rfl) (by kernel_rfl) (by kernel_rfl) (fun _ _ _ h => h) (Or.inl ⟨by rfl, ?hy43⟩) (by assumption) ?rest43
            case hy43 =>
              intro w9 hS9
              obtain ⟨-, hS9⟩ := hS9
              go_simp
              try with_reducible rfl
            try simp only [Act.put, List.setIfInBounds_toArray, List.set_cons_zero, List.set_cons_succ]
            refine wpAnyH_take (i := 14) (oi := { dst := some 31, op := _, type := _, pos := _, after := _, guard := _ }) (v := ?v44) rfl (by kernel_rfl) (by kernel_rfl) (by kernel_rfl) (fun _ _ _ h => h) (Or.inl ⟨by rfl, ?hy44⟩) (by assumption) ?rest44
            case hy44 =>
              intro w9 hS9
              obtain ⟨-, hS9⟩ := hS9
              go_simp
              try with_reducible rfl
            try simp only [Act.put, List.setIfInBounds_toArray, List.set_cons_zero, List.set_cons_succ]
            refine wpAnyH_take (i := 15) (oi := { dst := some 32, op := _, type := _, pos := _, after := _, guard := _ }) (v := ?v45) rfl (by kernel_rfl) (by kernel_rfl) (by kernel_rfl) (fun _ _ _ h => h) (Or.inl ⟨by rfl, ?hy45⟩) (by assumption) ?rest45
            case hy45 =>
              intro w9 hS9
              obtain ⟨-, hS9⟩ := hS9
              go_simp
              try with_reducible rfl
            try simp only [Act.put, List.setIfInBounds_toArray, List.set_cons_zero, List.set_cons_succ]
            refine wpAnyH_take (i := 16) (oi := { dst := some 33, op := _, type := _, pos := _, after := _, guard := _ }) (v := ?v46) rfl (by kernel_rfl) (by kernel_rfl) (by kernel_rfl) (fun _ _ _ h => h) (Or.inl ⟨by rfl, ?hy46⟩) (by assumption) ?rest46
            case hy46 =>
              intro w9 hS9
              obtain ⟨-, hS9⟩ := hS9
              go_simp
              try with_reducible rfl
            try simp only [Act.put, List.setIfInBounds_toArray, List.set_cons_zero, List.set_cons_succ]
            refine wpAnyH_take (i := 17) (oi := { dst := some 34, op := _, type := _, pos := _, after := _, guard := _ }) (v := ?v47) rfl (by kernel_rfl) (by kernel_rfl) (by kernel_rfl) (fun _ _ _ h => h) (Or.inl ⟨by rfl, ?hy47⟩) (by assumption) ?rest47
            case hy47 =>
              intro w9 hS9
              obtain ⟨-, hS9⟩ := hS9
              go_simp
              try with_reducible rfl
            try simp only [Act.put, List.setIfInBounds_toArray, List.set_cons_zero, List.set_cons_succ]
            refine wpAnyH_take (i := 18) (oi := { dst := some 35, op := _, type := _, pos := _, after := _, guard := _ }) (v := ?v48) rfl (by kernel_rfl) (by kernel_rfl) (by kernel_rfl) (fun _ _ _ h => h) (Or.inl ⟨by rfl, ?hy48⟩) (by assumption) ?rest48
            case hy48 =>
              intro w9 hS9
              obtain ⟨-, hS9⟩ := hS9
              go_simp
              try with_reducible rfl
            try simp only [Act.put, List.setIfInBounds_toArray, List.set_cons_zero, List.set_cons_succ]
            refine wpAnyH_done (by kernel_rfl) ?_ _
            clear hHeld
            go_wp2
            go_ret
            exact ⟨ret_b HN.out.symm, HBn.out _ HB.out⟩
    · have HY : Hid (okSorted ns = true) := sorted_yes (fun t ht => HA.out t (by rw [HP.out] at ht; omega))
      go_wp2
      go_ret
      exact ⟨ret_b HY.out.symm, HG0.out⟩

set_option maxHeartbeats 400000 in
theorem implTree_nil (w : World) (ao : Option Addr) (cap : Nat) :
    Calls Tryd.prog 17 #[.agg #[.slice ao 0 cap]] w fun e w' => e = .returned (.bool true) ∧ Below w.heap.size w w' := by
  go_enter Tryd.func17, Tryd.ntmps17
  go_wp2
  go_rounds 1
  go_ret
  exact ⟨rfl, (Below.refl _ _).alloc (Nat.le_refl _) _⟩

set_option maxHeartbeats 400000 in
theorem implTree_long (w : World) (ao : Option Addr) (n cap : Nat) (h : 1000 < n) :
    Calls Tryd.prog 17 #[.agg #[.slice ao n cap]] w fun e w' => e = .returned (.bool false) ∧ Below w.heap.size w w' := by
  have h1I : (1000 : Int) < (n : Int) := by omega
  go_enter Tryd.func17, Tryd.ntmps17
  go_wp2
  go_ret
  exact ⟨rfl, (Below.refl _ _).alloc (Nat.le_refl _) _⟩

theorem implTree_any (w : World) (v : Value) (ns : List Nd) (h : RdN w v ns) (hsz : ∀ i, (nAt ns i).path.size ≤ 1048576 ∧ (nAt ns i).data.size ≤ 1048576) :
    Calls Tryd.prog 17 #[.agg #[v]] w fun e w' => e = .returned (.bool (okTree ns)) ∧ Below w.heap.size w w' := by
  obtain ⟨ao, cap, rfl, k1, k2, k3⟩ := h
  by_cases hl : 1000 < ns.length
  · have : okTree ns = false := by unfold okTree; rw [decide_eq_false (by omega)]; rfl
    rw [this]
    exact implTree_long w ao ns.length cap hl
  · have : okTree ns = okSorted ns := by unfold okTree; rw [decide_eq_true (by omega)]; rfl
    rw [this]
    rcases k3 with rfl | ⟨b, o, rfl, hb, hc⟩
    · exact implTree_nil w ao cap
    · exact implTree_row w b o ns.length cap ns rfl (by omega) hb hsz hc

end Go.Proofs.YtgjenbgclpmjmaaDoor

namespace Go.Proofs.YtgjenbgclpmjmaaDoor
open Go.RowKit Go.Shelf

theorem BxN.new (w : World) (o : Obj) (n : Nd) : BxN ((w.alloc o).alloc (.cells #[.string n.path, .string n.data, .int .i64 n.ver, .int .i64 n.cver, .int .i64 n.cz, .int .i64 n.mz, .int .i64 n.pz] 102)) (w.heap.size + 1) n := by
  have := heap_alloc_new (w.alloc o) (.cells #[.string n.path, .string n.data, .int .i64 n.ver, .int .i64 n.cver, .int .i64 n.cz, .int .i64 n.mz, .int .i64 n.pz] 102)
  rw [show (w.alloc o).heap.size = w.heap.size + 1 by simp] at this
  exact ⟨⟨_, _, _, this, by decide⟩, (cell_of this _).trans rfl, (cell_of this _).trans rfl, (cell_of this _).trans rfl, (cell_of this _).trans rfl, (cell_of this _).trans rfl, (cell_of this _).trans rfl, (cell_of this _).trans rfl⟩

set_option maxHeartbeats 1000000 in
set_option maxRecDepth 100000 in
theorem encTree_row (w : World) (b o n cap : Nat) (ns : List Nd) (hp : ns.length = n) (hb : b < w.heap.size) (hc : ∀ i, i < n → CellsN w b (o + i * 7) (nAt ns i)) (hR : RdN w (.slice (some ⟨b, o, none⟩) n cap) ns)
    (hsz : ∀ i, (nAt ns i).path.size ≤ 1048576 ∧ (nAt ns i).data.size ≤ 1048576) :
    Calls Tryd.prog 44 #[.agg #[.slice (some ⟨b, o, none⟩) n cap]] w fun e w' => ∃ v', e = .returned v' ∧ Own .u8 5 w' w.heap.size v' (treeB ns) ∧ Below w.heap.size w w' := by
  have HC : Hid (∀ i, i < n → CellsN w b (o + i * 7) (nAt ns i)) := hc
  have HP : Hid (ns.length = n) := hp
  have HR : Hid (RdN w (.slice (some ⟨b, o, none⟩) n cap) ns) := hR
  have HZ : Hid (∀ i, (nAt ns i).path.size ≤ 1048576 ∧ (nAt ns i).data.size ≤ 1048576) := hsz
  have B0 : Hid (Below w.heap.size w (w.alloc (.cells #[.slice (some ⟨b, o, none⟩) n cap] 30))) := (Below.refl _ _).alloc (Nat.le_refl _) _
  have X0 : Hid (Boxed (w.alloc (.cells #[.slice (some ⟨b, o, none⟩) n cap] 30)) w.heap.size 30 (.slice (some ⟨b, o, none⟩) n cap)) := Boxed.new _ _ _
  clear hc hp hR hsz
  go_enter Tryd.func44, Tryd.ntmps44
  go_wp2_with fail
  generalize w.alloc (.cells #[.slice (some ⟨b, o, none⟩) n cap] 30) = w0 at *
  refine (implTree_any _ _ ns (HR.out.below B0.out) HZ.out).mono ?_
  rintro e w1 ⟨rfl, b1⟩
  have B1 : Hid (Below w.heap.size w w1) := B0.out.trans (b1.mono B0.out.size)
  have X1 : Hid (Boxed w1 w.heap.size 30 (.slice (some ⟨b, o, none⟩) n cap)) := boxed_below b1 X0.out
  clear b1 X0 B0
  by_cases hok : okTree ns = true
  rotate_left
  · have hok' : okTree ns = false := by simpa using hok
    have HT : Hid (treeB ns = []) := by show _ = _; unfold treeB; rw [if_neg hok]
    rw [hok']
    clear hok hok'
    go_wp2
    go_ret
    exact ⟨_, rfl, (by rw [HT.out]; exact World.ownsRow_nil _ _ _ _), B1.out⟩
  have hn : n ≤ 1000 := by have := okTree_len hok; rw [HP.out] at this; exact this
  have HT : Hid (treeB ns = nodesB ns) := by show _ = _; unfold treeB; rw [if_pos hok]
  have HOK : Hid (∀ k, k < n → okNd (nAt ns k) = true) := fun k hk => okTree_nd hok k (by rw [HP.out]; exact hk)
  have HLN : Hid (∀ k, k ≤ n → (nodesB (ns.take k)).length ≤ k * 188) := fun k hk => nodesB_len (okTree_nd hok) k (by rw [HP.out]; exact hk)
  rw [hok]
  clear hok
  have c0 := X1.out.cell
  go_wp2
  go_loopw [3, 13] (fun vi vk wr => ∃ k : Nat, k ≤ n ∧ vk = .int .i64 k ∧ Hid (Own .u8 5 wr w.heap.size vi (nodesB (ns.take k))) ∧ Hid (Below w.heap.size w wr)) (fun _ i _ => n - (intOf i).toNat)
  case atStart => exact ⟨0, Nat.zero_le _, rfl, World.ownsRow_nil _ _ _ _, B1⟩
  case round =>
    clear c0
    obtain ⟨k, hk, rfl, HW, HB⟩ := hrel
    have sB := HB.out.size
    by_cases hlt : k < n
    · have hltI : (k : Int) < (n : Int) := by omega
      obtain ⟨c0, c1, c2, c3, c4, c5, c6⟩ := (HC.out k hlt).below HB.out hb
      go_wp2_with fail
      clear c0 c1 c2 c3 c4 c5 c6
      refine (encNode_any _ w.heap.size u3 (nodesB (ns.take k)) (wr.heap.size + 1) (nAt ns k) ?e1 ?e2 ?e3 ?e4 (HOK.out k hlt)).mono ?_
      case e1 => exact (HW.out.below ((Below.refl _ _).alloc (Nat.le_refl _) _)).below ((Below.refl _ _).alloc (Nat.le_refl _) _)
      case e2 => simp; omega
      case e3 => have := HLN.out k hk; omega
      case e4 => exact BxN.new _ _ _
      rintro e w4 ⟨v4, rfl, o4, b4, -⟩
      have O4 : Hid (Own .u8 5 w4 w.heap.size v4 (nodesB (ns.take (k + 1)))) := by
        rw [nodesB_succ ns k (by rw [HP.out]; exact hlt)] at o4; exact o4
      have B4 : Hid (Below w.heap.size w w4) := ((HB.out.alloc sB _).alloc (by simp; omega) _).trans b4
      clear o4 b4 HW HB
      go_wp2
      exact ⟨⟨k + 1, by omega, by go_num, O4, B4⟩, by simp [intOf]; omega⟩
    · have hkn : k = n := by omega
      subst hkn
      go_wp2
      go_ret
      refine ⟨_, rfl, ?_, HB.out⟩
      rw [HT.out, ← nodesB_all ns k (by rw [HP.out]; exact Nat.le_refl _)]
      exact HW.out

set_option maxHeartbeats 1000000 in
set_option maxRecDepth 100000 in
theorem encTree_nil (w : World) (ao : Option Addr) (cap : Nat) (hc : cap ≤ maxLen) :
    Calls Tryd.prog 44 #[.agg #[.slice ao 0 cap]] w fun e w' => ∃ v', e = .returned v' ∧ Own .u8 5 w' w.heap.size v' [] ∧ Below w.heap.size w w' := by
  have HR : Hid (RdN w (.slice ao 0 cap) []) := ⟨ao, cap, rfl, Nat.zero_le _, hc, .inl rfl⟩
  have B0 : Hid (Below w.heap.size w (w.alloc (.cells #[.slice ao 0 cap] 30))) := (Below.refl _ _).alloc (Nat.le_refl _) _
  have X0 : Hid (Boxed (w.alloc (.cells #[.slice ao 0 cap] 30)) w.heap.size 30 (.slice ao 0 cap)) := Boxed.new _ _ _
  go_enter Tryd.func44, Tryd.ntmps44
  go_wp2_with fail
  generalize w.alloc (.cells #[.slice ao 0 cap] 30) = w0 at *
  refine (implTree_any _ _ [] (HR.out.below B0.out) (fun i => by simp [nAt, nd0])).mono ?_
  rintro e w1 ⟨rfl, b1⟩
  have B1 : Hid (Below w.heap.size w w1) := B0.out.trans (b1.mono B0.out.size)
  have X1 : Hid (Boxed w1 w.heap.size 30 (.slice ao 0 cap)) := boxed_below b1 X0.out
  clear b1 X0 B0
  rw [show okTree [] = true from rfl]
  have c0 := X1.out.cell
  go_wp2
  go_rounds 1
  go_ret
  exact ⟨_, rfl, World.ownsRow_nil _ _ _ _, B1.out⟩

theorem encTree_any (w : World) (v : Value) (ns : List Nd) (h : RdN w v ns) (hsz : ∀ i, (nAt ns i).path.size ≤ 1048576 ∧ (nAt ns i).data.size ≤ 1048576) :
    Calls Tryd.prog 44 #[.agg #[v]] w fun e w' => ∃ v', e = .returned v' ∧ Own .u8 5 w' w.heap.size v' (treeB ns) ∧ Below w.heap.size w w' := by
  have h0 := h
  obtain ⟨ao, cap, rfl, h1, h2, h3⟩ := h
  rcases h3 with rfl | ⟨b, o, rfl, hb, hc⟩
  · exact encTree_nil w ao cap h2
  · exact encTree_row w b o ns.length cap ns rfl hb hc h0 hsz

end Go.Proofs.YtgjenbgclpmjmaaDoor

namespace Go.Proofs.YtgjenbgclpmjmaaDoor
open Go.RowKit Go.Shelf

theorem own_full {e : TypeId} {w : World} {base : Nat} {v : Value} {xs : List Int} (h : Own .u8 e w base v xs) (hn : 0 < xs.length) : ∃ g c, v = .slice (some ⟨g, 0, none⟩) xs.length c := by
  rcases h.2 with ⟨-, h0⟩ | ⟨g, cap, cur, rfl, -⟩
  · omega
  · exact ⟨g, cap, rfl⟩
theorem u8_oneCell (xs : List Int) : ∀ u ∈ xs.map (Value.int .u8), u.oneCell' = true := by
  intro u hu
  obtain ⟨x, -, rfl⟩ := List.mem_map.1 hu
  rfl
theorem BoxN.belowM {w w' : World} {B m : Nat} {n : Nd} (h : BoxN w B n) (hb : Below m w w') (hl : B < m) : BoxN w' B n :=
  ⟨Nat.lt_of_lt_of_le h.lt hb.size, (hb.cell (p := ⟨B, _, none⟩) hl).trans h.c0, (hb.cell (p := ⟨B, _, none⟩) hl).trans h.c1, (hb.cell (p := ⟨B, _, none⟩) hl).trans h.c2, (hb.cell (p := ⟨B, _, none⟩) hl).trans h.c3,
   (hb.cell (p := ⟨B, _, none⟩) hl).trans h.c4, (hb.cell (p := ⟨B, _, none⟩) hl).trans h.c5, (hb.cell (p := ⟨B, _, none⟩) hl).trans h.c6⟩

set_option maxHeartbeats 2000000 in
set_option maxRecDepth 100000 in
theorem sNode_any (w : World) (n : Nd) (hn : okNd n = true) :
    Calls Tryd.prog 90 #[.agg #[.string n.path, .string n.data, .int .i64 n.ver, .int .i64 n.cver, .int .i64 n.cz, .int .i64 n.mz, .int .i64 n.pz]] w fun e w' => ∃ v', e = .returned v' ∧ Own .u8 5 w' w.heap.size v' (nodeB n) ∧ Below w.heap.size w w' := by
  obtain ⟨i0, hi, hz0, hz1, hz2⟩ := info_parts Tryd.infoB
  obtain ⟨p1, p2, p3, p4, p5, p6, p7⟩ := okNd_all hn
  clear hn
  obtain ⟨z0, hz0'⟩ : ∃ z : Nat, n.ver = (z : Int) := ⟨n.ver.toNat, by omega⟩
  have HZ0 : Hid (n.ver = (z0 : Int)) := hz0'
  have hb0 : z0 ≤ 2147483647 := by omega
  obtain ⟨z1, hz1'⟩ : ∃ z : Nat, n.cver = (z : Int) := ⟨n.cver.toNat, by omega⟩
  have HZ1 : Hid (n.cver = (z1 : Int)) := hz1'
  have hb1 : z1 ≤ 2147483647 := by omega
  obtain ⟨z2, hz2'⟩ : ∃ z : Nat, n.cz = (z : Int) := ⟨n.cz.toNat, by omega⟩
  have HZ2 : Hid (n.cz = (z2 : Int)) := hz2'
  have hb2 : z2 ≤ 2147483647 := by omega
  obtain ⟨z3, hz3'⟩ : ∃ z : Nat, n.mz = (z : Int) := ⟨n.mz.toNat, by omega⟩
  have HZ3 : Hid (n.mz = (z3 : Int)) := hz3'
  have hb3 : z3 ≤ 2147483647 := by omega
  obtain ⟨z4, hz4'⟩ : ∃ z : Nat, n.pz = (z : Int) := ⟨n.pz.toNat, by omega⟩
  have HZ4 : Hid (n.pz = (z4 : Int)) := hz4'
  have hb4 : z4 ≤ 2147483647 := by omega
  have HZ : Hid (nodeB n = txB n.path ++ txB n.data ++ bigR z0 4 ++ bigR z1 4 ++ bigR z2 4 ++ bigR z3 4 ++ bigR z4 4) := by
    show _ = _
    unfold nodeB stB
    simp [hz0', hz1', hz2', hz3', hz4']
  clear hz0' hz1' hz2' hz3' hz4' p3 p4 p5 p6 p7
  have X0 : Hid (BoxN (w.alloc (.cells #[.string n.path, .string n.data, .int .i64 n.ver, .int .i64 n.cver, .int .i64 n.cz, .int .i64 n.mz, .int .i64 n.pz] 81)) w.heap.size n) := BoxN.new _ _ _
  have B0 : Hid (Below w.heap.size w (w.alloc (.cells #[.string n.path, .string n.data, .int .i64 n.ver, .int .i64 n.cver, .int .i64 n.cz, .int .i64 n.mz, .int .i64 n.pz] 81))) := (Below.refl _ _).alloc (Nat.le_refl _) _
  go_enter Tryd.func90, Tryd.ntmps90
  go_wp2
  generalize w.alloc (.cells #[.string n.path, .string n.data, .int .i64 n.ver, .int .i64 n.cver, .int .i64 n.cz, .int .i64 n.mz, .int .i64 n.pz] 81) = w0 at *
  have s0 : w.heap.size + 1 ≤ w0.heap.size := X0.out.lt
  refine wp_region_held_drew (S := fun W => BoxN W w.heap.size n) (by kernel_rfl) (X0.out.below (below_drewN' w0 1)) (fun hHeld => ?_)
  refine wpAnyH_take (i := 0) (oi := { dst := some 4, op := _, type := _, pos := _, after := _, guard := _ }) (v := (.pointer (some ⟨w.heap.size, 0, none⟩))) rfl (by kernel_rfl) (by kernel_rfl) (by kernel_rfl) (fun _ _ _ h => h) (Or.inl ⟨by rfl, ?hy1⟩) (by assumption) ?rest1
  case hy1 =>
    intro w9 hS9
    obtain ⟨-, y0, y1, y2, y3, y4, y5, y6⟩ := hS9
    go_simp
    try with_reducible rfl
  try simp only [Act.put, List.setIfInBounds_toArray, List.set_cons_zero, List.set_cons_succ]
  refine wpAnyH_take (i := 1) (oi := { dst := some 5, op := _, type := _, pos := _, after := _, guard := _ }) (v := (.string n.path)) rfl (by kernel_rfl) (by kernel_rfl) (by kernel_rfl) (fun _ _ _ h => h) (Or.inl ⟨by rfl, ?hy2⟩) (by assumption) ?rest2
  case hy2 =>
    intro w9 hS9
    obtain ⟨-, y0, y1, y2, y3, y4, y5, y6⟩ := hS9
    go_simp
    try with_reducible rfl
  try simp only [Act.put, List.setIfInBounds_toArray, List.set_cons_zero, List.set_cons_succ]
  refine wpAnyH_take (i := 3) (oi := { dst := some 7, op := _, type := _, pos := _, after := _, guard := _ }) (v := (.pointer (some ⟨w.heap.size, 1, none⟩))) rfl (by kernel_rfl) (by kernel_rfl) (by kernel_rfl) (fun _ _ _ h => h) (Or.inl ⟨by rfl, ?hy3⟩) (by assumption) ?rest3
  case hy3 =>
    intro w9 hS9
    obtain ⟨-, y0, y1, y2, y3, y4, y5, y6⟩ := hS9
    go_simp
    try with_reducible rfl
  try simp only [Act.put, List.setIfInBounds_toArray, List.set_cons_zero, List.set_cons_succ]
  refine wpAnyH_take (i := 4) (oi := { dst := some 8, op := _, type := _, pos := _, after := _, guard := _ }) (v := (.string n.data)) rfl (by kernel_rfl) (by kernel_rfl) (by kernel_rfl) (fun _ _ _ h => h) (Or.inl ⟨by rfl, ?hy4⟩) (by assumption) ?rest4
  case hy4 =>
    intro w9 hS9
    obtain ⟨-, y0, y1, y2, y3, y4, y5, y6⟩ := hS9
    go_simp
    try with_reducible rfl
  try simp only [Act.put, List.setIfInBounds_toArray, List.set_cons_zero, List.set_cons_succ]
  refine wpAnyH_ready (rs := [2]) (by kernel_rfl) (by simp) ?_
  refine AllReadyH.cons (o := { dst := some 6, op := _, type := _, pos := _, after := _, guard := _ }) rfl (fun K hK => ?_) AllReadyH.nil
  go_simp
  refine (specText_any _ n.path (by omega)).mono ?_
  rintro e w1 ⟨v1, rfl, o1, b1⟩
  have X1 : Hid (BoxN w1 w.heap.size n) := (X0.out.below (below_drewN' w0 1)).below b1
  have B1 : Hid (Below w.heap.size w w1) := (B0.out.trans ((below_drewN' w0 1).mono B0.out.size)).trans (b1.mono (by show w.heap.size ≤ w0.heap.size; omega))
  have O1 : Hid (Own .u8 5 w1 (w.heap.size + 1) v1 (txB n.path)) := o1.mono s0
  clear o1 b1
  refine hK.out _ _ (X1.out) (fun hx9 => ?_)
  clear hK K hHeld hx9
  have hHeld := X1.out
  try simp only [Act.put, List.setIfInBounds_toArray, List.set_cons_zero, List.set_cons_succ]
  refine wpAnyH_ready (rs := [5]) (by kernel_rfl) (by simp) ?_
  refine AllReadyH.cons (o := { dst := some 9, op := _, type := _, pos := _, after := _, guard := _ }) rfl (fun K hK => ?_) AllReadyH.nil
  go_simp
  refine (specText_any _ n.data (by omega)).mono ?_
  rintro e w2 ⟨v2, rfl, o2, b2⟩
  have s1 : w.heap.size + 1 ≤ w1.heap.size := X1.out.lt
  have X2 : Hid (BoxN w2 w.heap.size n) := X1.out.below b2
  have B2 : Hid (Below w.heap.size w w2) := B1.out.trans (b2.mono (by omega))
  obtain ⟨g2, c2, hv2⟩ := own_full o2 (by rw [txB_len]; omega)
  rw [txB_len] at hv2
  subst hv2
  have O2 : Hid (w2.ownsRow (w.heap.size + 1) 5 1 v1 (1 + n.path.size) ((txB n.path).map (Value.int .u8))) := by have := O1.out.below b2; unfold Own at this; rw [txB_len] at this; exact this
  have N2 : Hid (∀ j u, ((txB n.data).map (Value.int .u8))[j]? = some u → w2.cell? ((⟨g2, 0, none⟩ : Addr).add j) = some u) := World.ownsRow.cells o2 rfl
  have s2 : w.heap.size + 1 ≤ w2.heap.size := X2.out.lt
  clear o2 b2 O1 X1 B1
  refine hK.out _ _ (X2.out) (fun hx9 => ?_)
  clear hK K hHeld hx9
  have hHeld := X2.out
  try simp only [Act.put, List.setIfInBounds_toArray, List.set_cons_zero, List.set_cons_succ]
  refine wpAnyH_ready (rs := [6]) (by kernel_rfl) (by simp) ?_
  refine AllReadyH.cons (o := { dst := some 10, op := _, type := _, pos := _, after := _, guard := _ }) rfl (fun K hK => ?_) AllReadyH.nil
  refine step_append rfl (.tmp 6) (.tmp 9) 45 rfl (w.heap.size + 1) 5 i0 (.int .u8 0) 1 1 Tryd.underlying45 hi hz0 hz1 hz2 rfl (by decide) v1 (1 + n.path.size) _ rfl O2.out ⟨g2, 0, none⟩ (1 + n.data.size) c2 ((txB n.data).map (Value.int .u8)) rfl (by rw [List.length_map, txB_len, Nat.mul_one]) N2.out (u8_oneCell _) (by unfold maxLen; omega) (by omega) s2 ?_
  intro v3 w3 ho3 hg3
  have b3 : Below (w.heap.size + 1) w2 w3 := (Below.refl _ _).grown hg3 s2 (fun q hq => (World.ownsRow.lt O2.out q hq).1)
  have X3 : Hid (BoxN w3 w.heap.size n) := X2.out.belowM b3 (by omega)
  have B3 : Hid (Below w.heap.size w w3) := B2.out.trans (b3.mono (by omega))
  have O3 : Hid (w3.ownsRow (w.heap.size + 1) 5 1 v3 (1 + n.path.size + (1 + n.data.size)) ((txB n.path ++ txB n.data).map (Value.int .u8))) := by show World.ownsRow _ _ _ _ _ _ _; rw [List.map_append]; exact ho3
  clear ho3 hg3 b3 O2 N2 X2 B2
  refine hK.out _ _ (X3.out) (fun hx9 => ?_)
  clear hK K hHeld hx9
  have hHeld := X3.out
  try simp only [Act.put, List.setIfInBounds_toArray, List.set_cons_zero, List.set_cons_succ]
  refine wpAnyH_take (i := 7) (oi := { dst := some 3, op := _, type := _, pos := _, after := _, guard := _ }) (v := v3) rfl (by kernel_rfl) (by kernel_rfl) (by kernel_rfl) (fun _ _ _ h => h) (Or.inl ⟨by rfl, ?hy5⟩) (by assumption) ?rest5
  case hy5 =>
    intro w9 hS9
    go_simp
  try simp only [Act.put, List.setIfInBounds_toArray, List.set_cons_zero, List.set_cons_succ]
  refine wpAnyH_done (by kernel_rfl) ?_ _
  clear hHeld
  obtain ⟨M, hM⟩ : ∃ M, M = 1 + n.path.size + (1 + n.data.size) := ⟨_, rfl⟩
  obtain ⟨L3, hL3⟩ : ∃ L, L = txB n.path ++ txB n.data := ⟨_, rfl⟩
  have hM2 : M ≤ 200 := by omega
  have HL3 : Hid (L3.length = M) := by show _ = _; rw [hL3, hM, List.length_append, txB_len, txB_len]
  rw [← hM, ← hL3] at O3
  rw [← hL3] at HZ
  clear hM hL3
  have s3 : w.heap.size + 1 ≤ w3.heap.size := X3.out.lt
  obtain ⟨-, y0, y1, y2, y3, y4, y5, y6⟩ := X3.out
  rw [HZ0.out] at y2
  go_wp2_with fail
  refine (specBig_any 4 _ z0 (by omega) (by omega)).mono ?_
  rintro e w4 ⟨v4, rfl, o4, b4⟩
  obtain ⟨g4, c4, hv4⟩ := own_full o4 (by rw [bigR_len]; omega)
  rw [bigR_len] at hv4
  subst hv4
  have X4 : Hid (BoxN w4 w.heap.size n) := X3.out.below b4
  have B4 : Hid (Below w.heap.size w w4) := B3.out.trans (b4.mono (by omega))
  have s4 : w.heap.size + 1 ≤ w4.heap.size := X4.out.lt
  have O4 : Hid (w4.ownsRow (w.heap.size + 1) 5 1 v3 M (L3.map (Value.int .u8))) := by
    refine World.ownsRow.kept O3.out (row := none) ⟨b4.os, b4.tape, b4.output, b4.size, fun k hk _ => b4.block k hk⟩ ?_
    cases hq : v3.ownBlock with
    | none => exact .inl rfl
    | some g => exact .inr (by simp)
  have N4 : Hid (∀ j u, ((bigR z0 4).map (Value.int .u8))[j]? = some u → w4.cell? ((⟨g4, 0, none⟩ : Addr).add j) = some u) := World.ownsRow.cells o4 rfl
  clear y0 y1 y2 y3 y4 y5 y6 o4 b4 X3 B3 O3
  go_wp2_with (at_builtin; go_must (refine wpList_append_own _ rfl _ _ 45 rfl (w.heap.size + 1) 5 i0 (.int .u8 0) 1 1 Tryd.underlying45 hi hz0 hz1 hz2 rfl (by decide) _ _ _ rfl O4.out ⟨g4, 0, none⟩ 4 c4 ((bigR z0 4).map (Value.int .u8)) rfl ?_ N4.out (u8_oneCell _) ?_ ?_ ?_ ?_))
  · rw [List.length_map, bigR_len]
  · unfold maxLen; omega
  · omega
  · exact s4
  intro v5 w5 ho5 hg5 _
  have b5 : Below (w.heap.size + 1) w4 w5 := (Below.refl _ _).grown hg5 s4 (fun q hq => (World.ownsRow.lt O4.out q hq).1)
  have X5 : Hid (BoxN w5 w.heap.size n) := X4.out.belowM b5 (by omega)
  have B5 : Hid (Below w.heap.size w w5) := B4.out.trans (b5.mono (by omega))
  have s5 : w.heap.size + 1 ≤ w5.heap.size := X5.out.lt
  obtain ⟨L5, hL5⟩ : ∃ L, L = L3 ++ bigR z0 4 := ⟨_, rfl⟩
  have O5 : Hid (w5.ownsRow (w.heap.size + 1) 5 1 v5 (M + 4) (L5.map (Value.int .u8))) := by
    show World.ownsRow _ _ _ _ _ _ _
    rw [hL5, List.map_append]; exact ho5
  have HL5 : Hid (L5.length = M + 4) := by show _ = _; rw [hL5, List.length_append, HL3.out, bigR_len]
  rw [← hL5] at HZ
  clear ho5 hg5 b5 X4 B4 O4 N4 hL5
  obtain ⟨-, y0, y1, y2, y3, y4, y5, y6⟩ := X5.out
  rw [HZ1.out] at y3
  go_wp2_with fail
  refine (specBig_any 4 _ z1 (by omega) (by omega)).mono ?_
  rintro e w6 ⟨v6, rfl, o6, b6⟩
  obtain ⟨g6, c6, hv6⟩ := own_full o6 (by rw [bigR_len]; omega)
  rw [bigR_len] at hv6
  subst hv6
  have X6 : Hid (BoxN w6 w.heap.size n) := X5.out.below b6
  have B6 : Hid (Below w.heap.size w w6) := B5.out.trans (b6.mono (by omega))
  have s6 : w.heap.size + 1 ≤ w6.heap.size := X6.out.lt
  have O6 : Hid (w6.ownsRow (w.heap.size + 1) 5 1 v5 (M + 4) (L5.map (Value.int .u8))) := by
    refine World.ownsRow.kept O5.out (row := none) ⟨b6.os, b6.tape, b6.output, b6.size, fun k hk _ => b6.block k hk⟩ ?_
    cases hq : v5.ownBlock with
    | none => exact .inl rfl
    | some g => exact .inr (by simp)
  have N6 : Hid (∀ j u, ((bigR z1 4).map (Value.int .u8))[j]? = some u → w6.cell? ((⟨g6, 0, none⟩ : Addr).add j) = some u) := World.ownsRow.cells o6 rfl
  clear y0 y1 y2 y3 y4 y5 y6 o6 b6 X5 B5 O5
  go_wp2_with (at_builtin; go_must (refine wpList_append_own _ rfl _ _ 45 rfl (w.heap.size + 1) 5 i0 (.int .u8 0) 1 1 Tryd.underlying45 hi hz0 hz1 hz2 rfl (by decide) _ _ _ rfl O6.out ⟨g6, 0, none⟩ 4 c6 ((bigR z1 4).map (Value.int .u8)) rfl ?_ N6.out (u8_oneCell _) ?_ ?_ ?_ ?_))
  · rw [List.length_map, bigR_len]
  · unfold maxLen; omega
  · omega
  · exact s6
  intro v7 w7 ho7 hg7 _
  have b7 : Below (w.heap.size + 1) w6 w7 := (Below.refl _ _).grown hg7 s6 (fun q hq => (World.ownsRow.lt O6.out q hq).1)
  have X7 : Hid (BoxN w7 w.heap.size n) := X6.out.belowM b7 (by omega)
  have B7 : Hid (Below w.heap.size w w7) := B6.out.trans (b7.mono (by omega))
  have s7 : w.heap.size + 1 ≤ w7.heap.size := X7.out.lt
  obtain ⟨L7, hL7⟩ : ∃ L, L = L5 ++ bigR z1 4 := ⟨_, rfl⟩
  have O7 : Hid (w7.ownsRow (w.heap.size + 1) 5 1 v7 (M + 8) (L7.map (Value.int .u8))) := by
    show World.ownsRow _ _ _ _ _ _ _
    rw [hL7, List.map_append]; exact ho7
  have HL7 : Hid (L7.length = M + 8) := by show _ = _; rw [hL7, List.length_append, HL5.out, bigR_len]
  rw [← hL7] at HZ
  clear ho7 hg7 b7 X6 B6 O6 N6 hL7
  obtain ⟨-, y0, y1, y2, y3, y4, y5, y6⟩ := X7.out
  rw [HZ2.out] at y4
  go_wp2_with fail
  refine (specBig_any 4 _ z2 (by omega) (by omega)).mono ?_
  rintro e w8 ⟨v8, rfl, o8, b8⟩
  obtain ⟨g8, c8, hv8⟩ := own_full o8 (by rw [bigR_len]; omega)
  rw [bigR_len] at hv8
  subst hv8
  have X8 : Hid (BoxN w8 w.heap.size n) := X7.out.below b8
  have B8 : Hid (Below w.heap.size w w8) := B7.out.trans (b8.mono (by omega))
  have s8 : w.heap.size + 1 ≤ w8.heap.size := X8.out.lt
  have O8 : Hid (w8.ownsRow (w.heap.size + 1) 5 1 v7 (M + 8) (L7.map (Value.int .u8))) := by
    refine World.ownsRow.kept O7.out (row := none) ⟨b8.os, b8.tape, b8.output, b8.size, fun k hk _ => b8.block k hk⟩ ?_
    cases hq : v7.ownBlock with
    | none => exact .inl rfl
    | some g => exact .inr (by simp)
  have N8 : Hid (∀ j u, ((bigR z2 4).map (Value.int .u8))[j]? = some u → w8.cell? ((⟨g8, 0, none⟩ : Addr).add j) = some u) := World.ownsRow.cells o8 rfl
  clear y0 y1 y2 y3 y4 y5 y6 o8 b8 X7 B7 O7
  go_wp2_with (at_builtin; go_must (refine wpList_append_own _ rfl _ _ 45 rfl (w.heap.size + 1) 5 i0 (.int .u8 0) 1 1 Tryd.underlying45 hi hz0 hz1 hz2 rfl (by decide) _ _ _ rfl O8.out ⟨g8, 0, none⟩ 4 c8 ((bigR z2 4).map (Value.int .u8)) rfl ?_ N8.out (u8_oneCell _) ?_ ?_ ?_ ?_))
  · rw [List.length_map, bigR_len]
  · unfold maxLen; omega
  · omega
  · exact s8
  intro v9 w9 ho9 hg9 _
  have b9 : Below (w.heap.size + 1) w8 w9 := (Below.refl _ _).grown hg9 s8 (fun q hq => (World.ownsRow.lt O8.out q hq).1)
  have X9 : Hid (BoxN w9 w.heap.size n) := X8.out.belowM b9 (by omega)
  have B9 : Hid (Below w.heap.size w w9) := B8.out.trans (b9.mono (by omega))
  have s9 : w.heap.size + 1 ≤ w9.heap.size := X9.out.lt
  obtain ⟨L9, hL9⟩ : ∃ L, L = L7 ++ bigR z2 4 := ⟨_, rfl⟩
  have O9 : Hid (w9.ownsRow (w.heap.size + 1) 5 1 v9 (M + 12) (L9.map (Value.int .u8))) := by
    show World.ownsRow _ _ _ _ _ _ _
    rw [hL9, List.map_append]; exact ho9
  have HL9 : Hid (L9.length = M + 12) := by show _ = _; rw [hL9, List.length_append, HL7.out, bigR_len]
  rw [← hL9] at HZ
  clear ho9 hg9 b9 X8 B8 O8 N8 hL9
  obtain ⟨-, y0, y1, y2, y3, y4, y5, y6⟩ := X9.out
  rw [HZ3.out] at y5
  go_wp2_with fail
  refine (specBig_any 4 _ z3 (by omega) (by omega)).mono ?_
  rintro e w10 ⟨v10, rfl, o10, b10⟩
  obtain ⟨g10, c10, hv10⟩ := own_full o10 (by rw [bigR_len]; omega)
  rw [bigR_len] at hv10
  subst hv10
  have X10 : Hid (BoxN w10 w.heap.size n) := X9.out.below b10
  have B10 : Hid (Below w.heap.size w w10) := B9.out.trans (b10.mono (by omega))
  have s10 : w.heap.size + 1 ≤ w10.heap.size := X10.out.lt
  have O10 : Hid (w10.ownsRow (w.heap.size + 1) 5 1 v9 (M + 12) (L9.map (Value.int .u8))) := by
    refine World.ownsRow.kept O9.out (row := none) ⟨b10.os, b10.tape, b10.output, b10.size, fun k hk _ => b10.block k hk⟩ ?_
    cases hq : v9.ownBlock with
    | none => exact .inl rfl
    | some g => exact .inr (by simp)
  have N10 : Hid (∀ j u, ((bigR z3 4).map (Value.int .u8))[j]? = some u → w10.cell? ((⟨g10, 0, none⟩ : Addr).add j) = some u) := World.ownsRow.cells o10 rfl
  clear y0 y1 y2 y3 y4 y5 y6 o10 b10 X9 B9 O9
  go_wp2_with (at_builtin; go_must (refine wpList_append_own _ rfl _ _ 45 rfl (w.heap.size + 1) 5 i0 (.int .u8 0) 1 1 Tryd.underlying45 hi hz0 hz1 hz2 rfl (by decide) _ _ _ rfl O10.out ⟨g10, 0, none⟩ 4 c10 ((bigR z3 4).map (Value.int .u8)) rfl ?_ N10.out (u8_oneCell _) ?_ ?_ ?_ ?_))
  · rw [List.length_map, bigR_len]
  · unfold maxLen; omega
  · omega
  · exact s10
  intro v11 w11 ho11 hg11 _
  have b11 : Below (w.heap.size + 1) w10 w11 := (Below.refl _ _).grown hg11 s10 (fun q hq => (World.ownsRow.lt O10.out q hq).1)
  have X11 : Hid (BoxN w11 w.heap.size n) := X10.out.belowM b11 (by omega)
  have B11 : Hid (Below w.heap.size w w11) := B10.out.trans (b11.mono (by omega))
  have s11 : w.heap.size + 1 ≤ w11.heap.size := X11.out.lt
  obtain ⟨L11, hL11⟩ : ∃ L, L = L9 ++ bigR z3 4 := ⟨_, rfl⟩
  have O11 : Hid (w11.ownsRow (w.heap.size + 1) 5 1 v11 (M + 16) (L11.map (Value.int .u8))) := by
    show World.ownsRow _ _ _ _ _ _ _
    rw [hL11, List.map_append]; exact ho11
  have HL11 : Hid (L11.length = M + 16) := by show _ = _; rw [hL11, List.length_append, HL9.out, bigR_len]
  rw [← hL11] at HZ
  clear ho11 hg11 b11 X10 B10 O10 N10 hL11
  obtain ⟨-, y0, y1, y2, y3, y4, y5, y6⟩ := X11.out
  rw [HZ4.out] at y6
  go_wp2_with fail
  refine (specBig_any 4 _ z4 (by omega) (by omega)).mono ?_
  rintro e w12 ⟨v12, rfl, o12, b12⟩
  obtain ⟨g12, c12, hv12⟩ := own_full o12 (by rw [bigR_len]; omega)
  rw [bigR_len] at hv12
  subst hv12
  have X12 : Hid (BoxN w12 w.heap.size n) := X11.out.below b12
  have B12 : Hid (Below w.heap.size w w12) := B11.out.trans (b12.mono (by omega))
  have s12 : w.heap.size + 1 ≤ w12.heap.size := X12.out.lt
  have O12 : Hid (w12.ownsRow (w.heap.size + 1) 5 1 v11 (M + 16) (L11.map (Value.int .u8))) := by
    refine World.ownsRow.kept O11.out (row := none) ⟨b12.os, b12.tape, b12.output, b12.size, fun k hk _ => b12.block k hk⟩ ?_
    cases hq : v11.ownBlock with
    | none => exact .inl rfl
    | some g => exact .inr (by simp)
  have N12 : Hid (∀ j u, ((bigR z4 4).map (Value.int .u8))[j]? = some u → w12.cell? ((⟨g12, 0, none⟩ : Addr).add j) = some u) := World.ownsRow.cells o12 rfl
  clear y0 y1 y2 y3 y4 y5 y6 o12 b12 X11 B11 O11
  go_wp2_with (at_builtin; go_must (refine wpList_append_own _ rfl _ _ 45 rfl (w.heap.size + 1) 5 i0 (.int .u8 0) 1 1 Tryd.underlying45 hi hz0 hz1 hz2 rfl (by decide) _ _ _ rfl O12.out ⟨g12, 0, none⟩ 4 c12 ((bigR z4 4).map (Value.int .u8)) rfl ?_ N12.out (u8_oneCell _) ?_ ?_ ?_ ?_))
  · rw [List.length_map, bigR_len]
  · unfold maxLen; omega
  · omega
  · exact s12
  intro v13 w13 ho13 hg13 _
  have b13 : Below (w.heap.size + 1) w12 w13 := (Below.refl _ _).grown hg13 s12 (fun q hq => (World.ownsRow.lt O12.out q hq).1)
  have X13 : Hid (BoxN w13 w.heap.size n) := X12.out.belowM b13 (by omega)
  have B13 : Hid (Below w.heap.size w w13) := B12.out.trans (b13.mono (by omega))
  have s13 : w.heap.size + 1 ≤ w13.heap.size := X13.out.lt
  obtain ⟨L13, hL13⟩ : ∃ L, L = L11 ++ bigR z4 4 := ⟨_, rfl⟩
  have O13 : Hid (w13.ownsRow (w.heap.size + 1) 5 1 v13 (M + 20) (L13.map (Value.int .u8))) := by
    show World.ownsRow _ _ _ _ _ _ _
    rw [hL13, List.map_append]; exact ho13
  have HL13 : Hid (L13.length = M + 20) := by show _ = _; rw [hL13, List.length_append, HL11.out, bigR_len]
  rw [← hL13] at HZ
  clear ho13 hg13 b13 X12 B12 O12 N12 hL13
  go_wp2
  go_ret
  exact ⟨_, rfl, (own_of HL13.out HZ.out O13.out).mono (Nat.le_succ _), B13.out⟩

end Go.Proofs.YtgjenbgclpmjmaaDoor

namespace Go.Proofs.YtgjenbgclpmjmaaDoor
open Go.RowKit Go.Shelf

theorem ownsRow_keep {w w' : World} {lo n z : Nat} {e : TypeId} {v : Value} {us : List Value} (ho : w.ownsRow lo e z v n us) (hb : Below w.heap.size w w') : w'.ownsRow lo e z v n us := by
  refine ⟨ho.1, ?_⟩
  rcases ho.2 with hn | ⟨g, cap, cur, rfl, hbg, hgg, rest⟩
  · exact .inl hn
  · exact .inr ⟨g, cap, cur, rfl, hbg, by rw [hb.block g (Array.getElem?_eq_some_iff.1 hgg).1]; exact hgg, rest⟩

set_option maxHeartbeats 1000000 in
set_option maxRecDepth 100000 in
theorem sNodes_row (w : World) (b o n cap : Nat) (ns : List Nd) (hp : ns.length = n) (hn : n ≤ 1000) (hb : b < w.heap.size) (hc : ∀ i, i < n → CellsN w b (o + i * 7) (nAt ns i)) (hok : ∀ i, i < n → okNd (nAt ns i) = true) :
    Calls Tryd.prog 86 #[.slice (some ⟨b, o, none⟩) n cap] w fun e w' => ∃ v', e = .returned v' ∧ Own .u8 5 w' w.heap.size v' (nodesB ns) ∧ Below w.heap.size w w' := by
  obtain ⟨i0, hi, hz0, hz1, hz2⟩ := info_parts Tryd.infoB
  have HC : Hid (∀ i, i < n → CellsN w b (o + i * 7) (nAt ns i)) := hc
  have HP : Hid (ns.length = n) := hp
  have HOK : Hid (∀ k, k < n → okNd (nAt ns k) = true) := hok
  have HLN : Hid (∀ k, k ≤ n → (nodesB (ns.take k)).length ≤ k * 188) := fun k hk => nodesB_len (fun k hk => hok k (by rw [← hp]; exact hk)) k (by rw [hp]; exact hk)
  have O0 : Hid (Own .u8 5 (w.alloc (.cells #[] 5)) w.heap.size (.slice (some ⟨w.heap.size, 0, none⟩) 0 0) (nodesB (ns.take 0))) := World.ownsRow_lit w #[] 0 (Nat.le_refl _) (Nat.zero_le _) rfl
  have B0 : Hid (Below w.heap.size w (w.alloc (.cells #[] 5))) := (Below.refl _ _).alloc (Nat.le_refl _) _
  clear hc hp hok
  go_enter Tryd.func86, Tryd.ntmps86
  go_wp2
  go_loopw [3, 4] (fun vo vk wr => ∃ k : Nat, k ≤ n ∧ vk = .int .i64 k ∧ Hid (Own .u8 5 wr w.heap.size vo (nodesB (ns.take k))) ∧ Hid (Below w.heap.size w wr)) (fun _ i _ => n - (intOf i).toNat)
  case atStart => exact ⟨0, Nat.zero_le _, rfl, O0, B0⟩
  case round =>
    obtain ⟨k, hk, rfl, HW, HB⟩ := hrel
    have sB := HB.out.size
    by_cases hlt : k < n
    · have hltI : (k : Int) < (n : Int) := by omega
      obtain ⟨c0, c1, c2, c3, c4, c5, c6⟩ := (HC.out k hlt).below HB.out hb
      go_wp2_with fail
      clear c0 c1 c2 c3 c4 c5 c6
      refine (sNode_any _ (nAt ns k) (HOK.out k hlt)).mono ?_
      rintro e w1 ⟨v1, rfl, o1, b1⟩
      have hl1 : (nodeB (nAt ns k)).length ≤ 188 ∧ 0 < (nodeB (nAt ns k)).length := by
        have := okNd_all (HOK.out k hlt)
        rw [nodeB_len]; omega
      have hl0 := HLN.out k hk
      obtain ⟨g1, q1, hv1⟩ := own_full o1 hl1.2
      obtain ⟨L, hL⟩ : ∃ L, L = nodesB (ns.take k) := ⟨_, rfl⟩
      obtain ⟨N, hN⟩ : ∃ N, N = nodeB (nAt ns k) := ⟨_, rfl⟩
      have HS : Hid (L ++ N = nodesB (ns.take (k + 1))) := by show _ = _; rw [hL, hN]; exact nodesB_succ ns k (by rw [HP.out]; exact hlt)
      rw [← hN] at hv1 o1 hl1
      rw [← hL] at HW hl0
      generalize hm : N.length = m at *
      have HM : Hid (N.length = m) := hm
      subst hv1
      have O1 : Hid (w1.ownsRow w.heap.size 5 1 u3 L.length (L.map (Value.int .u8))) := HW.out.below b1
      have N1 : Hid (∀ j u, (N.map (Value.int .u8))[j]? = some u → w1.cell? ((⟨g1, 0, none⟩ : Addr).add j) = some u) := World.ownsRow.cells o1 rfl
      have B1 : Hid (Below w.heap.size w w1) := HB.out.trans (b1.mono sB)
      have s1 := B1.out.size
      clear o1 b1 HW HB hL hN hm
      go_wp2_with (at_builtin; go_must (refine wpList_append_own _ rfl _ _ 45 rfl w.heap.size 5 i0 (.int .u8 0) 1 1 Tryd.underlying45 hi hz0 hz1 hz2 rfl (by decide) _ _ _ rfl O1.out ⟨g1, 0, none⟩ m q1 (N.map (Value.int .u8)) rfl ?_ N1.out (u8_oneCell _) ?_ ?_ ?_ ?_))
      · rw [List.length_map, HM.out, Nat.mul_one]
      · unfold maxLen; omega
      · omega
      · exact s1
      intro v2 w2 ho2 hg2 _
      have O2 : Hid (Own .u8 5 w2 w.heap.size v2 (nodesB (ns.take (k + 1)))) := by
        refine own_of (q := L.length + m) (ys := L ++ N) (by rw [List.length_append, HM.out]) HS.out.symm ?_
        rw [List.map_append]; exact ho2
      have B2 : Hid (Below w.heap.size w w2) := B1.out.grown hg2 s1 (fun q hq => (World.ownsRow.lt O1.out q hq).1)
      clear ho2 hg2 O1 N1 B1 HS HM hl0 hl1
      go_wp2
      exact ⟨⟨k + 1, by omega, by go_num, O2, B2⟩, by simp [intOf]; omega⟩
    · have hkn : k = n := by omega
      subst hkn
      go_wp2
      go_ret
      refine ⟨_, rfl, ?_, HB.out⟩
      rw [← nodesB_all ns k (by rw [HP.out]; exact Nat.le_refl _)]
      exact HW.out

set_option maxHeartbeats 1000000 in
set_option maxRecDepth 100000 in
theorem sNodes_nil (w : World) (ao : Option Addr) (cap : Nat) :
    Calls Tryd.prog 86 #[.slice ao 0 cap] w fun e w' => ∃ v', e = .returned v' ∧ Own .u8 5 w' w.heap.size v' [] ∧ Below w.heap.size w w' := by
  have O0 : Hid (Own .u8 5 (w.alloc (.cells #[] 5)) w.heap.size (.slice (some ⟨w.heap.size, 0, none⟩) 0 0) []) := World.ownsRow_lit w #[] 0 (Nat.le_refl _) (Nat.zero_le _) rfl
  have B0 : Hid (Below w.heap.size w (w.alloc (.cells #[] 5))) := (Below.refl _ _).alloc (Nat.le_refl _) _
  go_enter Tryd.func86, Tryd.ntmps86
  go_wp2
  go_rounds 1
  go_ret
  exact ⟨_, rfl, O0.out, B0.out⟩

theorem sNodes_any (w : World) (v : Value) (ns : List Nd) (h : RdN w v ns) (hn : ns.length ≤ 1000) (hok : ∀ i, i < ns.length → okNd (nAt ns i) = true) :
    Calls Tryd.prog 86 #[v] w fun e w' => ∃ v', e = .returned v' ∧ Own .u8 5 w' w.heap.size v' (nodesB ns) ∧ Below w.heap.size w w' := by
  obtain ⟨ao, cap, rfl, h1, h2, h3⟩ := h
  rcases h3 with rfl | ⟨b, o, rfl, hb, hc⟩
  · exact sNodes_nil w ao cap
  · exact sNodes_row w b o ns.length cap ns rfl hn hb hc hok

set_option maxHeartbeats 1000000 in
set_option maxRecDepth 100000 in
theorem sTree_any (w : World) (v : Value) (ns : List Nd) (h : RdN w v ns) (hn : ns.length ≤ 1048576) (hsz : ∀ i, (nAt ns i).path.size ≤ 1048576 ∧ (nAt ns i).data.size ≤ 1048576) :
    Calls Tryd.prog 43 #[.agg #[v]] w fun e w' => ∃ v', e = .returned v' ∧ Own .u8 5 w' w.heap.size v' (treeB ns) ∧ Below w.heap.size w w' := by
  obtain ⟨ao, ca, rfl, _, _⟩ := h.len
  have HR : Hid (RdN w (.slice ao ns.length ca) ns) := h
  have HZ : Hid (∀ i, (nAt ns i).path.size ≤ 1048576 ∧ (nAt ns i).data.size ≤ 1048576) := hsz
  have B0 : Hid (Below w.heap.size w (w.alloc (.cells #[.slice ao ns.length ca] 30))) := (Below.refl _ _).alloc (Nat.le_refl _) _
  have X0 : Hid (Boxed (w.alloc (.cells #[.slice ao ns.length ca] 30)) w.heap.size 30 (.slice ao ns.length ca)) := Boxed.new _ _ _
  clear h hsz
  go_enter Tryd.func43, Tryd.ntmps43
  go_wp2_with fail
  generalize w.alloc (.cells #[.slice ao ns.length ca] 30) = w0 at *
  refine (specTree_any _ _ ns (HR.out.below B0.out) hn HZ.out).mono ?_
  rintro e w1 ⟨rfl, b1⟩
  have B1 : Hid (Below w.heap.size w w1) := B0.out.trans (b1.mono B0.out.size)
  have X1 : Hid (Boxed w1 w.heap.size 30 (.slice ao ns.length ca)) := boxed_below b1 X0.out
  clear b1 X0 B0
  have s1 := B1.out.size
  by_cases hok : okTree ns = true
  rotate_left
  · have hok' : okTree ns = false := by simpa using hok
    have HT : Hid (treeB ns = []) := by show _ = _; unfold treeB; rw [if_neg hok]
    have O2 : Hid (Own .u8 5 (w1.alloc (.cells #[] 5)) w.heap.size (.slice (some ⟨w1.heap.size, 0, none⟩) 0 0) []) := Own.mono (World.ownsRow_lit w1 #[] 0 (Nat.le_refl _) (Nat.zero_le _) rfl) s1
    rw [hok']
    clear hok hok'
    go_wp2
    go_ret
    exact ⟨_, rfl, (by rw [HT.out]; exact O2.out), B1.out.alloc s1 _⟩
  have HT : Hid (treeB ns = nodesB ns) := by show _ = _; unfold treeB; rw [if_pos hok]
  have HOK : Hid (∀ k, k < ns.length → okNd (nAt ns k) = true) := fun k hk => okTree_nd hok k hk
  have hn2 := okTree_len hok
  rw [hok]
  clear hok
  have c0 := X1.out.cell
  go_wp2_with fail
  refine (sNodes_any _ _ ns (HR.out.below B1.out) hn2 HOK.out).mono ?_
  rintro e w2 ⟨v2, rfl, o2, b2⟩
  have O2 : Hid (Own .u8 5 w2 w.heap.size v2 (treeB ns)) := by rw [HT.out]; exact o2.mono s1
  have B2 : Hid (Below w.heap.size w w2) := B1.out.trans (b2.mono s1)
  clear o2 b2 c0
  go_wp2
  go_ret
  exact ⟨_, rfl, O2.out, B2.out⟩

end Go.Proofs.YtgjenbgclpmjmaaDoor

namespace Go.Proofs.YtgjenbgclpmjmaaDoor
open Go.RowKit

def digsF : Nat → Nat → List UInt8 → List UInt8
  | 0, _, acc => acc
  | f + 1, k, acc => if k = 0 then acc else digsF f (k / 10) (UInt8.ofNat (48 + k % 10) :: acc)
theorem digsF_more : ∀ (f g k : Nat) (acc : List UInt8), k ≤ f → k ≤ g → digsF f k acc = digsF g k acc
  | 0, g, k, acc, h1, h2 => by
    obtain rfl : k = 0 := by omega
    cases g <;> simp [digsF]
  | f + 1, 0, k, acc, h1, h2 => by
    obtain rfl : k = 0 := by omega
    simp [digsF]
  | f + 1, g + 1, k, acc, h1, h2 => by
    unfold digsF
    by_cases h : k = 0
    · rw [if_pos h, if_pos h]
    · rw [if_neg h, if_neg h]
      exact digsF_more f g (k / 10) _ (by omega) (by omega)
def digs (k : Nat) (acc : List UInt8) : List UInt8 := digsF k k acc
theorem digs_zero (acc : List UInt8) : digs 0 acc = acc := rfl
theorem digs_pos {k : Nat} (h : 0 < k) (acc : List UInt8) : digs k acc = digs (k / 10) (UInt8.ofNat (48 + k % 10) :: acc) := by
  unfold digs
  obtain ⟨j, rfl⟩ : ∃ j, k = j + 1 := ⟨k - 1, by omega⟩
  conv => lhs; unfold digsF
  rw [if_neg (by omega)]
  exact digsF_more _ _ _ _ (by omega) (Nat.le_refl _)
def mtx (k : Nat) : ByteArray := if k = 0 then ⟨#[109, 48]⟩ else ⟨(109 :: digs k []).toArray⟩

theorem ba_app (a b : List UInt8) : (⟨a.toArray⟩ ++ ⟨b.toArray⟩ : ByteArray) = ⟨(a ++ b).toArray⟩ := by
  apply ByteArray.ext
  simp [ByteArray.data_append]

set_option maxHeartbeats 1000000 in
set_option maxRecDepth 100000 in
theorem markText_any (w : World) (k : Nat) (h : k ≤ 1099511627776) :
    Calls Tryd.prog 85 #[.int .i64 k] w fun e w' => e = .returned (.string (mtx k)) ∧ Below w.heap.size w w' := by
  go_enter Tryd.func85, Tryd.ntmps85
  by_cases h0 : k = 0
  · subst h0
    go_wp2
    go_ret
    exact ⟨rfl, Below.refl _ _⟩
  · have hI : ¬ (k : Int) ≤ 0 := by omega
    go_wp2
    go_loopw [0, 3] (fun vk vo wr => ∃ (j d : Nat) (acc : List UInt8), vk = .int .i64 j ∧ vo = .string ⟨acc.toArray⟩ ∧ j < 10 ^ d ∧ acc.length + d ≤ 13 ∧ j ≤ 1099511627776 ∧ Hid (digs j acc = digs k []) ∧ Hid (Below w.heap.size w wr)) (fun i _ _ => (intOf i).toNat)
    case atStart => exact ⟨k, 13, [], rfl, rfl, by omega, by simp, h, rfl, Below.refl _ _⟩
    case round =>
      obtain ⟨j, d, acc, rfl, rfl, hjd, had, hj, HD, HB⟩ := hrel
      by_cases hp : 0 < j
      · have hpI : (0 : Int) < (j : Int) := by omega
        obtain ⟨u, hu⟩ : ∃ u, u = UInt8.ofNat (48 + j % 10) := ⟨_, rfl⟩
        have HD2 : Hid (digs (j / 10) (u :: acc) = digs k []) := by show _ = _; rw [hu, ← digs_pos hp]; exact HD.out
        have hcv : (convert 45 9 (.slice (some ⟨wr.heap.size, 0, none⟩) 1 1)).run Tryd.prog (wr.alloc (.cells #[.int .u8 (48 + (j : Int) % 10)] 5)) = .ok (.string ⟨[u].toArray⟩) (wr.alloc (.cells #[.int .u8 (48 + (j : Int) % 10)] 5)) := by
          have O1 : Own .u8 5 (wr.alloc (.cells #[.int .u8 (48 + (j : Int) % 10)] 5)) wr.heap.size (.slice (some ⟨wr.heap.size, 0, none⟩) 1 1) [48 + (j : Int) % 10] := World.ownsRow_lit wr #[.int .u8 (48 + (j : Int) % 10)] 1 (Nat.le_refl _) (by unfold maxLen; omega) rfl
          have := conv_any O1.rd
          rw [this]
          have e : (48 + (j : Int) % 10).toNat = 48 + j % 10 := by omega
          rw [hu]
          simp only [strOfNums, List.map_cons, List.map_nil, e]
        clear hu
        obtain ⟨d', rfl⟩ : ∃ d', d = d' + 1 := by
          cases d with
          | zero => simp at hjd; omega
          | succ d' => exact ⟨d', rfl⟩
        rw [Nat.pow_succ] at hjd
        have HJ : Hid (j / 10 < 10 ^ d') := by show _ < _; omega
        clear hjd
        go_wp2
        refine ⟨⟨j / 10, d', u :: acc, by rw [show ((j / 10 : Nat) : Int) = (j : Int) / 10 by omega], congrArg Value.string (ba_app [u] acc), HJ.out, by simp; omega, by omega, HD2, HB.out.alloc HB.out.size _⟩, ?_⟩
        simp [intOf]
        omega
      · have hj0 : j = 0 := by omega
        subst hj0
        clear hI
        go_wp2
        go_ret
        refine ⟨?_, HB.out⟩
        have e := HD.out
        rw [digs_zero] at e
        rw [e, mtx, if_neg h0]
        exact congrArg (fun x => Ending.returned (.string x)) (ba_app [109] (digs k []))

end Go.Proofs.YtgjenbgclpmjmaaDoor

namespace Go.Proofs.YtgjenbgclpmjmaaDoor
open Go.RowKit Go.Shelf

theorem rowcell {w : World} {lo g n cap z : Nat} {e : TypeId} {us : List Value} (h : w.ownsRow lo e z (.slice (some ⟨g, 0, none⟩) n cap) n us) (i : Nat) (hi : i < n * z) : ∃ u, w.cell? ⟨g, i, none⟩ = some u ∧ w.frozen? ⟨g, i, none⟩ = false := by
  have hl : i < us.length := by rw [h.1]; exact hi
  have h1 := World.ownsRow.cells h (g := g) rfl i us[i] (List.getElem?_eq_getElem hl)
  rw [Addr.add_lit, Nat.zero_add] at h1
  exact ⟨_, h1, World.ownsRow.frozenAt h i⟩
theorem row_keep {w w' : World} {lo n z : Nat} {e : TypeId} {v : Value} {us : List Value} (ho : w.ownsRow lo e z v n us) (hb : Below w.heap.size w w') : w'.ownsRow lo e z v n us := by
  refine ⟨ho.1, ?_⟩
  rcases ho.2 with hn | ⟨g, cap, cur, rfl, hbg, hgg, rest⟩
  · exact .inl hn
  · exact .inr ⟨g, cap, cur, rfl, hbg, by rw [hb.block g (Array.getElem?_eq_some_iff.1 hgg).1]; exact hgg, rest⟩
/-- A row that is written on the way. -/
def RowW (w : World) (lo g n cap z : Nat) (e : TypeId) (w' : World) : Prop := (∃ us, w'.ownsRow lo e z (.slice (some ⟨g, 0, none⟩) n cap) n us) ∧ Below lo w w' ∧ KT e w w'
theorem RowW.set {w w' : World} {lo g n cap z : Nat} {e : TypeId} (h : RowW w lo g n cap z e w') (i : Nat) (u : Value) : RowW w lo g n cap z e (w'.setCell ⟨g, i, none⟩ u) := by
  obtain ⟨⟨us, h1⟩, h2, h3⟩ := h
  have hs := World.ownsRow.stored h1 i u
  have hg := (World.ownsRow.lt h1 g rfl).1
  exact ⟨⟨_, hs.1⟩, h2.setCell hg _, h3.grown h1 hs.2⟩
theorem RowW.below {w w' w2 : World} {lo g n cap z : Nat} {e : TypeId} (h : RowW w lo g n cap z e w') (hb : Below w'.heap.size w' w2) : RowW w lo g n cap z e w2 := by
  obtain ⟨⟨us, h1⟩, h2, h3⟩ := h
  refine ⟨⟨_, row_keep h1 hb⟩, h2.trans (hb.mono ?_), h3.below hb⟩
  have := World.ownsRow.lt h1 g rfl
  omega
theorem RowW.cell {w w' : World} {lo g n cap z : Nat} {e : TypeId} (h : RowW w lo g n cap z e w') (i : Nat) (hi : i < n * z) : ∃ u, w'.cell? ⟨g, i, none⟩ = some u ∧ w'.frozen? ⟨g, i, none⟩ = false := by
  obtain ⟨⟨us, h1⟩, -, -⟩ := h
  exact rowcell h1 i hi

set_option maxHeartbeats 2000000 in
set_option maxRecDepth 100000 in
theorem markNodeS_row (w : World) (lo g n cap k : Nat) (us : List Value) (ho : w.ownsRow lo 81 7 (.slice (some ⟨g, 0, none⟩) n cap) n us) (hk : k ≤ 1048576) (hn : n ≤ 1048576) :
    Calls Tryd.prog 84 #[.slice (some ⟨g, 0, none⟩) n cap, .int .i64 k] w fun e w' => e = .returned (.int .i64 ((k + 7 * n : Nat) : Int)) ∧ RowW w lo g n cap 7 81 w' := by
  have R0 : Hid (RowW w lo g n cap 7 81 w) := ⟨⟨us, ho⟩, Below.refl _ _, KT.refl _ _⟩
  clear ho
  go_enter Tryd.func84, Tryd.ntmps84
  go_wp2
  go_loopw [1, 5] (fun vk vi wr => ∃ j K : Nat, j ≤ n ∧ K = k + 7 * j ∧ vi = .int .i64 j ∧ vk = .int .i64 K ∧ Hid (RowW w lo g n cap 7 81 wr)) (fun _ i _ => n - (intOf i).toNat)
  case atStart => exact ⟨0, k, Nat.zero_le _, by omega, rfl, rfl, R0⟩
  case round =>
    obtain ⟨j, K, hj, hK, rfl, rfl, HR⟩ := hrel
    have HKE : Hid (K = k + 7 * j) := hK
    by_cases hlt : j < n
    · have hltI : (j : Int) < (n : Int) := by omega
      have hK2 : K ≤ 10000000 := by omega
      clear hK
      go_wp2_with fail
      refine (markText_any _ K (by omega)).mono ?_
      rintro e w1 ⟨rfl, b1⟩
      have R1 : Hid (RowW w lo g n cap 7 81 w1) := HR.out.below b1
      clear b1 HR
      obtain ⟨x0, d0, f0⟩ := R1.out.cell (j * 7) (by omega)
      have R2 : Hid (RowW w lo g n cap 7 81 (w1.setCell ⟨g, j * 7, none⟩ (.string (mtx K)))) := R1.out.set _ _
      go_wp2_with fail
      generalize w1.setCell ⟨g, j * 7, none⟩ (.string (mtx K)) = w2 at *
      clear d0 f0 R1
      have hm := markText_any w2 (K + 1) (by omega)
      rw [show ((K + 1 : Nat) : Int) = (K : Int) + 1 by omega] at hm
      refine hm.mono ?_
      clear hm
      rintro e w3 ⟨rfl, b3⟩
      have R3 : Hid (RowW w lo g n cap 7 81 w3) := R2.out.below b3
      clear b3 R2
      obtain ⟨x1, d1, f1⟩ := R3.out.cell (j * 7 + 1) (by omega)
      obtain ⟨x2, d2, f2⟩ := R3.out.cell (j * 7 + 2) (by omega)
      obtain ⟨x3, d3, f3⟩ := R3.out.cell (j * 7 + 3) (by omega)
      obtain ⟨x4, d4, f4⟩ := R3.out.cell (j * 7 + 4) (by omega)
      obtain ⟨x5, d5, f5⟩ := R3.out.cell (j * 7 + 5) (by omega)
      obtain ⟨x6, d6, f6⟩ := R3.out.cell (j * 7 + 6) (by omega)
      go_wp2
      refine ⟨⟨j + 1, K + 7, by omega, by have := HKE.out; omega, by go_num, by go_num, ?_⟩, by simp [intOf]; omega⟩
      exact ((((((R3.out.set _ _).set _ _).set _ _).set _ _).set _ _).set _ _)
    · have hjn : j = n := by omega
      subst hjn
      subst hK
      go_wp2
      go_ret
      exact ⟨rfl, HR.out⟩

set_option maxHeartbeats 400000 in
theorem markNodeS_nil (w : World) (ao : Option Addr) (cap k : Nat) : Calls Tryd.prog 84 #[.slice ao 0 cap, .int .i64 k] w fun e w' => e = .returned (.int .i64 k) ∧ w' = w := by
  go_enter Tryd.func84, Tryd.ntmps84
  go_wp2
  go_rounds 1
  go_ret
  exact ⟨rfl, rfl⟩

theorem markNodeS_any (w : World) (lo k : Nat) (v : Value) (ns : List Nd) (h : OwnN 81 w lo v ns) (hk : k ≤ 1048576) (hn : ns.length ≤ 1048576) :
    Calls Tryd.prog 84 #[v, .int .i64 k] w fun e w' => e = .returned (.int .i64 ((k + 7 * ns.length : Nat) : Int)) ∧ Below lo w w' ∧ KT 81 w w' := by
  have h0 := h
  rcases h.2 with ⟨rfl, h1⟩ | ⟨g, cap, cur, rfl, rest⟩
  · refine (markNodeS_nil w none 0 k).mono ?_
    rintro e w' ⟨rfl, rfl⟩
    rw [h1]
    exact ⟨rfl, Below.refl _ _, KT.refl _ _⟩
  · refine (markNodeS_row w lo g ns.length cap k _ h0 hk hn).mono ?_
    rintro e w' ⟨rfl, -, h2, h3⟩
    exact ⟨rfl, h2, h3⟩

set_option maxHeartbeats 400000 in
theorem markTree_any (w : World) (lo k : Nat) (v : Value) (ns : List Nd) (h : OwnN 81 w lo v ns) (hl : lo ≤ w.heap.size) (hk : k ≤ 1048576) (hn : ns.length ≤ 1048576) :
    Calls Tryd.prog 40 #[.agg #[v], .int .i64 k] w fun e w' => e = .returned (.int .i64 ((k + 7 * ns.length : Nat) : Int)) ∧ Below lo w w' ∧ KT 81 w w' := by
  have H : Hid (OwnN 81 w lo v ns) := h
  clear h
  go_enter Tryd.func40, Tryd.ntmps40
  go_wp2_with fail
  refine (markNodeS_any _ lo k v ns (H.out.below ((Below.refl _ _).alloc (Nat.le_refl _) _)) hk hn).mono ?_
  rintro e w1 ⟨rfl, b1, k1⟩
  have B1 : Hid (Below lo w w1) := ((Below.refl _ _).alloc hl _).trans b1
  have K1 : Hid (KT 81 w w1) := ((KT.refl _ _).alloc _).trans k1
  clear b1 k1
  go_wp2
  go_ret
  exact ⟨rfl, B1.out, K1.out⟩

end Go.Proofs.YtgjenbgclpmjmaaDoor

namespace Go.Proofs.YtgjenbgclpmjmaaDoor
open Go.RowKit Go.Shelf

/-- What came in: a tree of the laws' own type. -/
def InT (w : World) (v : Value) (ns : List Nd) : Prop := RdN w v ns ∧ ∀ i, (nAt ns i).path.size ≤ maxLen ∧ (nAt ns i).data.size ≤ maxLen

set_option maxHeartbeats 2000000 in
set_option maxRecDepth 100000 in
theorem lawTree_walk (w : World) (v : Value) (ns : List Nd) (h : InT w v ns) :
    Calls Tryd.prog 4 #[.agg #[v]] w fun e w' => e = .returned (.bool true) ∧ Below w.heap.size w w' := by
  obtain ⟨hr, hsz⟩ := h
  obtain ⟨ao, ca, rfl, _, _⟩ := hr.len
  have B0 : Hid (Below w.heap.size w (w.alloc (.cells #[.slice ao ns.length ca] 25))) := (Below.refl _ _).alloc (Nat.le_refl _) _
  have X0 : Hid (Boxed (w.alloc (.cells #[.slice ao ns.length ca] 25)) w.heap.size 25 (.slice ao ns.length ca)) := Boxed.new _ _ _
  have HR : Hid (RdN w (.slice ao ns.length ca) ns) := hr
  have HZ : Hid (∀ i, (nAt ns i).path.size ≤ maxLen ∧ (nAt ns i).data.size ≤ maxLen) := hsz
  clear hr hsz
  go_enter Tryd.func4, Tryd.ntmps4
  go_wp2_with fail
  generalize w.alloc (.cells #[.slice ao ns.length ca] 25) = w0 at *
  refine (szTree_any _ _ ns (HR.out.below B0.out) HZ.out 1048576 (by omega) (by omega)).mono ?_
  rintro e w1 ⟨r, rfl, hsz, b1⟩
  have B1 : Hid (Below w.heap.size w w1) := B0.out.trans (b1.mono B0.out.size)
  have X1 : Hid (Boxed w1 w.heap.size 25 (.slice ao ns.length ca)) := boxed_below b1 X0.out
  clear b1 X0 B0
  by_cases hneg : r < 0
  · clear hsz
    go_wp2
    go_ret
    exact ⟨rfl, B1.out⟩
  · have hsz' : r + ns.length + totN ns = 1048576 := by omega
    have hn : ns.length ≤ 1048576 := by omega
    have hd : Hid (∀ i, (nAt ns i).path.size ≤ 1048576 ∧ (nAt ns i).data.size ≤ 1048576) := fun i => by have := totN_ge ns i; omega
    clear hsz hsz'
    have c0 := X1.out.cell
    go_wp2_with fail
    refine (toTree_any _ _ ns (HR.out.below B1.out) hn).mono ?_
    rintro e w2 ⟨a2, k2, rfl, o2, b2⟩
    have Q2 : Hid (RdN w2 (.slice a2 ns.length k2) ns) := o2.rd
    have B2 : Hid (Below w.heap.size w w2) := B1.out.trans (b2.mono B1.out.size)
    have X2 : Hid (Boxed w2 w.heap.size 25 (.slice ao ns.length ca)) := boxed_below b2 X1.out
    clear o2 b2 c0 X1
    go_wp2_with fail
    refine (specTree_any _ _ ns Q2.out hn hd.out).mono ?_
    rintro e w3 ⟨rfl, b3⟩
    have B3 : Hid (Below w.heap.size w w3) := B2.out.trans (b3.mono B2.out.size)
    have X3 : Hid (Boxed w3 w.heap.size 25 (.slice ao ns.length ca)) := boxed_below b3 X2.out
    clear b3 Q2 X2
    have c0 := X3.out.cell
    go_wp2_with fail
    refine (toTree_any _ _ ns (HR.out.below B3.out) hn).mono ?_
    rintro e w4 ⟨a4, k4, rfl, o4, b4⟩
    have Q4 : Hid (RdN w4 (.slice a4 ns.length k4) ns) := o4.rd
    have B4 : Hid (Below w.heap.size w w4) := B3.out.trans (b4.mono B3.out.size)
    have X4 : Hid (Boxed w4 w.heap.size 25 (.slice ao ns.length ca)) := boxed_below b4 X3.out
    clear o4 b4 c0 X3
    go_wp2_with fail
    have BA : Hid (Below w4.heap.size w4 (w4.alloc (.cells #[.slice a4 ns.length k4] 30))) := (Below.refl _ _).alloc (Nat.le_refl _) _
    have Y5 : Hid (Boxed (w4.alloc (.cells #[.slice a4 ns.length k4] 30)) w4.heap.size 30 (.slice a4 ns.length k4)) := Boxed.new _ _ _
    generalize w4.alloc (.cells #[.slice a4 ns.length k4] 30) = w5 at *
    have B5 : Hid (Below w.heap.size w w5) := B4.out.trans (BA.out.mono B4.out.size)
    have X5 : Hid (Boxed w5 w.heap.size 25 (.slice ao ns.length ca)) := boxed_below BA.out X4.out
    have Q5 : Hid (RdN w5 (.slice a4 ns.length k4) ns) := Q4.out.below BA.out
    clear X4 Q4 BA
    refine (implTree_any _ _ ns Q5.out hd.out).mono ?_
    rintro e w6 ⟨rfl, b6⟩
    have B6 : Hid (Below w.heap.size w w6) := B5.out.trans (b6.mono B5.out.size)
    have X6 : Hid (Boxed w6 w.heap.size 25 (.slice ao ns.length ca)) := boxed_below b6 X5.out
    have Y6 : Hid (Boxed w6 w4.heap.size 30 (.slice a4 ns.length k4)) := boxed_below b6 Y5.out
    have Q6 : Hid (RdN w6 (.slice a4 ns.length k4) ns) := Q5.out.below b6
    clear b6 X5 Y5 Q5 B5
    generalize okTree ns = vv at *
    have hvv : (vv != vv) = false := by simp
    have c0 := X6.out.cell
    have d0 := Y6.out.cell
    have HT : Hid (∀ q, Calls Tryd.prog 16 #[.agg #[.slice ao ns.length ca]] (w6.drewN q) fun e w' => ∃ a c, e = .returned (.agg #[.slice a ns.length c]) ∧ Hid (RdN w' (.slice a ns.length c) ns) ∧ Hid (RdN w' (.slice a4 ns.length k4) ns) ∧ w'.cell? ⟨w4.heap.size, 0, none⟩ = some (.slice a4 ns.length k4) ∧ Hid (Below w.heap.size w w')) := by
      intro q
      refine (toTree_any _ _ ns ((HR.out.below B6.out).below (below_drewN' w6 q)) hn).mono ?_
      rintro e w' ⟨a, c, rfl, o', b'⟩
      have b6' : Below w6.heap.size w6 w' := (below_drewN' w6 q).trans b'
      exact ⟨a, c, rfl, o'.rd, Q6.out.below b6', (boxed_below b6' Y6.out).cell, B6.out.trans (b6'.mono B6.out.size)⟩
    go_wp2
    go_region_with (first | (go_at_call 16; refine (HT.out 1).mono ?_; rintro e w' ⟨a, c, rfl, r1, r2, k0, bw⟩) | (go_at_call 18; refine (eqTree_same _ _ _ ns r2.out r1.out hn).mono ?_; rintro e w'' ⟨rfl, b''⟩))
    all_goals
      have HB : Hid (Below w.heap.size w w'') := bw.out.trans (b''.mono bw.out.size)
      clear b'' k0
      go_wp2
      go_ret
      exact ⟨rfl, HB.out⟩

end Go.Proofs.YtgjenbgclpmjmaaDoor

namespace Go.Proofs.YtgjenbgclpmjmaaDoor
open Go.RowKit Go.Shelf

theorem own_apart {k : IntKind} {e e' : TypeId} {w w' : World} {B B' : Nat} {v v' : Value} {xs xs' : List Int} (h : Own k e w B v xs) (h' : Own k e' w' B' v' xs') (hlt : w.heap.size ≤ B') : v.ownBlock = none ∨ v.ownBlock ≠ v'.ownBlock := by
  cases hv : v.ownBlock with
  | none => exact .inl rfl
  | some g =>
    refine .inr fun e => ?_
    have h1 := (h.lt g hv).2
    have h2 := (h'.lt g e.symm).1
    omega
theorem Own.keepT {w w' : World} {lo : Nat} {v : Value} {xs : List Int} {t : TypeId} (h : Own .u8 5 w lo v xs) (hk : KT t w w') (ht : 5 ≠ t) : Own .u8 5 w' lo v xs := by
  refine ⟨h.1, ?_⟩
  rcases h.2 with hn | ⟨g, cap, cur, rfl, hbg, hgg, rest⟩
  · exact .inl hn
  · exact .inr ⟨g, cap, cur, rfl, hbg, hk.box hgg ht, rest⟩

set_option maxHeartbeats 2000000 in
set_option maxRecDepth 100000 in
theorem lawEncTree_walk (w : World) (v : Value) (ns : List Nd) (h : InT w v ns) :
    Calls Tryd.prog 9 #[.agg #[v]] w fun e w' => e = .returned (.bool true) ∧ Below w.heap.size w w' := by
  obtain ⟨hr, hsz⟩ := h
  obtain ⟨ao, ca, rfl, _, _⟩ := hr.len
  have B0 : Hid (Below w.heap.size w (w.alloc (.cells #[.slice ao ns.length ca] 25))) := (Below.refl _ _).alloc (Nat.le_refl _) _
  have X0 : Hid (Boxed (w.alloc (.cells #[.slice ao ns.length ca] 25)) w.heap.size 25 (.slice ao ns.length ca)) := Boxed.new _ _ _
  have HR : Hid (RdN w (.slice ao ns.length ca) ns) := hr
  have HZ : Hid (∀ i, (nAt ns i).path.size ≤ maxLen ∧ (nAt ns i).data.size ≤ maxLen) := hsz
  clear hr hsz
  go_enter Tryd.func9, Tryd.ntmps9
  go_wp2_with fail
  generalize w.alloc (.cells #[.slice ao ns.length ca] 25) = w0 at *
  refine (szTree_any _ _ ns (HR.out.below B0.out) HZ.out 1048576 (by omega) (by omega)).mono ?_
  rintro e w1 ⟨r, rfl, hsz, b1⟩
  have B1 : Hid (Below w.heap.size w w1) := B0.out.trans (b1.mono B0.out.size)
  have X1 : Hid (Boxed w1 w.heap.size 25 (.slice ao ns.length ca)) := boxed_below b1 X0.out
  clear b1 X0 B0
  by_cases hneg : r < 0
  · clear hsz
    go_wp2
    go_ret
    exact ⟨rfl, B1.out⟩
  have hsz' : r + ns.length + totN ns = 1048576 := by omega
  have hn : ns.length ≤ 1048576 := by omega
  have hd : Hid (∀ i, (nAt ns i).path.size ≤ 1048576 ∧ (nAt ns i).data.size ≤ 1048576) := fun i => by have := totN_ge ns i; omega
  clear hsz hsz'
  have hls := treeB_len ns
  obtain ⟨L, hL⟩ : ∃ L, L = treeB ns := ⟨_, rfl⟩
  rw [← hL] at hls
  have HL : Hid (treeB ns = L) := hL.symm
  clear hL
  have c0 := X1.out.cell
  go_wp2_with fail
  refine (toTree_any _ _ ns (HR.out.below B1.out) hn).mono ?_
  rintro e w2 ⟨a2, k2, rfl, o2, b2⟩
  have Q2 : Hid (RdN w2 (.slice a2 ns.length k2) ns) := o2.rd
  have B2 : Hid (Below w.heap.size w w2) := B1.out.trans (b2.mono B1.out.size)
  have X2 : Hid (Boxed w2 w.heap.size 25 (.slice ao ns.length ca)) := boxed_below b2 X1.out
  clear o2 b2 c0 X1
  go_wp2_with fail
  refine (sTree_any _ _ ns Q2.out hn hd.out).mono ?_
  rw [HL.out]
  rintro e w3 ⟨v3, rfl, o3, b3⟩
  have s2 := B2.out.size
  have O3 : Hid (Own .u8 5 w3 w2.heap.size v3 L) := o3
  have B3 : Hid (Below w.heap.size w w3) := B2.out.trans (b3.mono s2)
  have X3 : Hid (Boxed w3 w.heap.size 25 (.slice ao ns.length ca)) := boxed_below b3 X2.out
  clear b3 o3 Q2 X2
  have c0 := X3.out.cell
  go_wp2_with fail
  refine (toTree_any _ _ ns (HR.out.below B3.out) hn).mono ?_
  rintro e w4 ⟨a4, k4, rfl, o4, b4⟩
  have s3 := B3.out.size
  have Q4 : Hid (OwnN 81 w4 w3.heap.size (.slice a4 ns.length k4) ns) := o4
  have B4 : Hid (Below w.heap.size w w4) := B3.out.trans (b4.mono s3)
  have X4 : Hid (Boxed w4 w.heap.size 25 (.slice ao ns.length ca)) := boxed_below b4 X3.out
  have O34 : Hid (Own .u8 5 w4 w2.heap.size v3 L) := O3.out.below b4
  have s34 := b4.size
  clear o4 b4 c0 X3 O3
  go_wp2_with fail
  have BA : Hid (Below w4.heap.size w4 (w4.alloc (.cells #[.slice a4 ns.length k4] 30))) := (Below.refl _ _).alloc (Nat.le_refl _) _
  have Y5 : Hid (Boxed (w4.alloc (.cells #[.slice a4 ns.length k4] 30)) w4.heap.size 30 (.slice a4 ns.length k4)) := Boxed.new _ _ _
  generalize w4.alloc (.cells #[.slice a4 ns.length k4] 30) = w5 at *
  have Y5lt := Y5.out.lt
  have s4 := B4.out.size
  have s45 := BA.out.size
  have B5 : Hid (Below w.heap.size w w5) := B4.out.trans (BA.out.mono s4)
  have X5 : Hid (Boxed w5 w.heap.size 25 (.slice ao ns.length ca)) := boxed_below BA.out X4.out
  have Q5 : Hid (OwnN 81 w5 w3.heap.size (.slice a4 ns.length k4) ns) := Q4.out.below BA.out
  have O35 : Hid (Own .u8 5 w5 w2.heap.size v3 L) := O34.out.below BA.out
  clear X4 Q4 BA O34
  refine (encTree_any _ _ ns Q5.out.rd hd.out).mono ?_
  rw [HL.out]
  rintro e w6 ⟨v6, rfl, o6, b6⟩
  have s5 := B5.out.size
  have O6 : Hid (Own .u8 5 w6 w5.heap.size v6 L) := o6
  have B6 : Hid (Below w.heap.size w w6) := B5.out.trans (b6.mono s5)
  have X6 : Hid (Boxed w6 w.heap.size 25 (.slice ao ns.length ca)) := boxed_below b6 X5.out
  have Y6 : Hid (Boxed w6 w4.heap.size 30 (.slice a4 ns.length k4)) := boxed_below b6 Y5.out
  have Q6 : Hid (OwnN 81 w6 w3.heap.size (.slice a4 ns.length k4) ns) := Q5.out.below b6
  have O36 : Hid (Own .u8 5 w6 w2.heap.size v3 L) := O35.out.below b6
  have N36 : Hid (v3.ownBlock = none ∨ v3.ownBlock ≠ v6.ownBlock) := own_apart O35.out O6.out (Nat.le_refl _)
  have s56 := b6.size
  clear o6 b6 X5 Y5 Q5 B5 O35
  go_wp2_with fail
  refine (eqByteS_any _ _ _ L L O6.out.rd O36.out.rd).mono ?_
  rintro e w7 ⟨rfl, q7, rfl⟩
  rw [show decide (L = L) = true by simp]
  have D7 : Hid (Below w6.heap.size w6 (w6.drewN q7)) := below_drewN' w6 q7
  generalize w6.drewN q7 = w7 at *
  have O7 : Hid (Own .u8 5 w7 w5.heap.size v6 L) := O6.out.below D7.out
  have O37 : Hid (Own .u8 5 w7 w2.heap.size v3 L) := O36.out.below D7.out
  have B7 : Hid (Below w.heap.size w w7) := B6.out.trans (D7.out.mono B6.out.size)
  have X7 : Hid (Boxed w7 w.heap.size 25 (.slice ao ns.length ca)) := boxed_below D7.out X6.out
  have Y7 : Hid (Boxed w7 w4.heap.size 30 (.slice a4 ns.length k4)) := boxed_below D7.out Y6.out
  have Q7 : Hid (OwnN 81 w7 w3.heap.size (.slice a4 ns.length k4) ns) := Q6.out.below D7.out
  have s67 := D7.out.size
  clear D7 O6 O36 B6 X6 Y6 Q6
  have c0 := X7.out.cell
  have d0 := Y7.out.cell
  have HT : Hid (∀ q, Calls Tryd.prog 16 #[.agg #[.slice ao ns.length ca]] (w7.drewN q) fun e w' => ∃ a c, e = .returned (.agg #[.slice a ns.length c]) ∧ Hid (RdN w' (.slice a ns.length c) ns) ∧ Hid (RdN w' (.slice a4 ns.length k4) ns) ∧ w'.cell? ⟨w4.heap.size, 0, none⟩ = some (.slice a4 ns.length k4) ∧ Hid (Below w7.heap.size w7 w')) := by
    intro q
    refine (toTree_any _ _ ns ((HR.out.below B7.out).below (below_drewN' w7 q)) hn).mono ?_
    rintro e w' ⟨a, c, rfl, o', b'⟩
    have b7' : Below w7.heap.size w7 w' := (below_drewN' w7 q).trans b'
    exact ⟨a, c, rfl, o'.rd, Q7.out.rd.below b7', (boxed_below b7' Y7.out).cell, b7'⟩
  go_wp2
  go_region_with (first | (go_at_call 16; refine (HT.out 1).mono ?_; rintro e w' ⟨a, c, rfl, r1, r2, k0, bw⟩) | (go_at_call 18; refine (eqTree_same _ _ _ ns r2.out r1.out hn).mono ?_; rintro e w'' ⟨rfl, b''⟩))
  all_goals
    have b8 : Below w7.heap.size w7 w'' := bw.out.trans (b''.mono bw.out.size)
    have O8 : Hid (Own .u8 5 w'' w5.heap.size v6 L) := O7.out.below b8
    have O38 : Hid (Own .u8 5 w'' w2.heap.size v3 L) := O37.out.below b8
    have B8 : Hid (Below w.heap.size w w'') := B7.out.trans (b8.mono B7.out.size)
    have X8 : Hid (Boxed w'' w.heap.size 25 (.slice ao ns.length ca)) := boxed_below b8 X7.out
    have Y8 : Hid (Boxed w'' w4.heap.size 30 (.slice a4 ns.length k4)) := boxed_below b8 Y7.out
    have Q8 : Hid (OwnN 81 w'' w3.heap.size (.slice a4 ns.length k4) ns) := Q7.out.below b8
    have s78 := b8.size
    clear b8 b'' bw k0 r1 r2 O7 O37 B7 X7 Y7 Q7 HT c0 d0
    have d0 := Y8.out.cell
    go_wp2_with fail
    refine (markTree_any _ w3.heap.size 1 _ ns Q8.out (by omega) (by omega) hn).mono ?_
    rintro e w9 ⟨rfl, b9, k9⟩
    have O9 : Hid (Own .u8 5 w9 w5.heap.size v6 L) := O8.out.keepT k9 (by decide)
    have O39 : Hid (Own .u8 5 w9 w2.heap.size v3 L) := O38.out.keepT k9 (by decide)
    have B9 : Hid (Below w.heap.size w w9) := B8.out.trans (b9.mono s3)
    have X9 : Hid (Boxed w9 w.heap.size 25 (.slice ao ns.length ca)) := k9.box X8.out (by decide)
    have s9 := b9.size
    clear b9 k9 O8 O38 B8 X8 Y8 Q8 d0
    have hk9 : ¬ ((1 + 7 * ns.length : Nat) : Int) < 0 := by omega
    go_wp2_with fail
    refine (eqByteS_any _ _ _ L L O9.out.rd O39.out.rd).mono ?_
    rintro e w10 ⟨rfl, q10, rfl⟩
    rw [show decide (L = L) = true by simp]
    go_wp2_with fail
    refine (markByteS_any _ _ _ L 1 (O9.out.drewN q10) (by omega) (by omega) (by omega)).mono ?_
    rintro e w11 ⟨rfl, o11, g11⟩
    have b11 : Below w5.heap.size w9 w11 := ((below_drewN' w9 q10).mono (by omega)).grown g11 (by show _ ≤ w9.heap.size; omega) (fun k hk => (O9.out.lt k hk).1)
    have X11 : Hid (Boxed w11 w.heap.size 25 (.slice ao ns.length ca)) := by
      have hlt : w.heap.size < w5.heap.size := by have := Y5lt; omega
      exact (b11.block _ hlt).trans X9.out
    have B11 : Hid (Below w.heap.size w w11) := B9.out.trans (b11.mono s5)
    have O311 : Hid (Own .u8 5 w11 w2.heap.size v3 L) := (O39.out.drewN q10).other g11 N36.out
    have O11 : Hid (Own .u8 5 w11 w5.heap.size v6 (marks 1 L.length)) := o11
    have s11 := b11.size
    clear o11 g11 b11 O9 O39 X9 B9
    generalize hm : L.length = m at *
    have HM : Hid (L.length = m) := hm
    clear hm
    go_wp2_with fail
    refine (heldByteS_any _ _ m 1 O11.out.rd (by omega) (by omega) (by omega)).mono ?_
    rintro e w12 ⟨rfl, rfl⟩
    have hq0 : ¬ (1 + (m : Int)) < 0 := by omega
    have c0 := X11.out.cell
    go_wp2_with fail
    refine (toTree_any _ _ ns (HR.out.below B11.out) hn).mono ?_
    rintro e w13 ⟨a13, k13, rfl, o13, b13⟩
    have Q13 : Hid (RdN w13 (.slice a13 ns.length k13) ns) := o13.rd
    have B13 : Hid (Below w.heap.size w w13) := B11.out.trans (b13.mono B11.out.size)
    have O313 : Hid (Own .u8 5 w13 w2.heap.size v3 L) := O311.out.below b13
    clear o13 b13 O311 O11 X11 B11 c0
    go_wp2_with fail
    refine (encTree_any _ _ ns Q13.out hd.out).mono ?_
    rw [HL.out]
    rintro e w14 ⟨v14, rfl, o14, b14⟩
    have O14 : Hid (Own .u8 5 w14 w13.heap.size v14 L) := o14
    have O314 : Hid (Own .u8 5 w14 w2.heap.size v3 L) := O313.out.below b14
    have B14 : Hid (Below w.heap.size w w14) := B13.out.trans (b14.mono B13.out.size)
    clear o14 b14 O313 Q13 B13
    go_wp2_with fail
    refine (eqByteS_any _ _ _ L L O14.out.rd O314.out.rd).mono ?_
    rintro e w15 ⟨rfl, q15, rfl⟩
    rw [show decide (L = L) = true by simp]
    have B15 : Hid (Below w.heap.size w (w14.drewN q15)) := B14.out.trans ((below_drewN' w14 q15).mono B14.out.size)
    go_wp2
    go_ret
    exact ⟨rfl, B15.out⟩

end Go.Proofs.YtgjenbgclpmjmaaDoor

namespace Go.Proofs.YtgjenbgclpmjmaaDoor
open Go.RowKit

/-- An effect. -/
structure Ef where
  del : Bool
  nd : Nd
def efL (e : Ef) : List Value := [.bool e.del, .string e.nd.path, .string e.nd.data, .int .i64 e.nd.ver, .int .i64 e.nd.cver, .int .i64 e.nd.cz, .int .i64 e.nd.mz, .int .i64 e.nd.pz]
def ef0 : Ef := ⟨false, nd0⟩
def eAt (ns : List Ef) (i : Nat) : Ef := ns.getD i ef0
theorem eAt_get {ns : List Ef} {i : Nat} (h : i < ns.length) : eAt ns i = ns[i] := by unfold eAt; simp [List.getD, h]

/-- The cells of an effect. -/
structure CellsE (w : World) (b p : Nat) (n : Ef) : Prop where
  c0 : w.cell? ⟨b, p, none⟩ = some (.bool n.del)
  c1 : w.cell? ⟨b, p + 1, none⟩ = some (.string n.nd.path)
  c2 : w.cell? ⟨b, p + 2, none⟩ = some (.string n.nd.data)
  c3 : w.cell? ⟨b, p + 3, none⟩ = some (.int .i64 n.nd.ver)
  c4 : w.cell? ⟨b, p + 4, none⟩ = some (.int .i64 n.nd.cver)
  c5 : w.cell? ⟨b, p + 5, none⟩ = some (.int .i64 n.nd.cz)
  c6 : w.cell? ⟨b, p + 6, none⟩ = some (.int .i64 n.nd.mz)
  c7 : w.cell? ⟨b, p + 7, none⟩ = some (.int .i64 n.nd.pz)
theorem CellsE.below {w w' : World} {m b p : Nat} {n : Ef} (h : CellsE w b p n) (hb : Below m w w') (hl : b < m) : CellsE w' b p n :=
  ⟨(hb.cell (p := ⟨b, _, none⟩) hl).trans h.c0, (hb.cell (p := ⟨b, _, none⟩) hl).trans h.c1, (hb.cell (p := ⟨b, _, none⟩) hl).trans h.c2, (hb.cell (p := ⟨b, _, none⟩) hl).trans h.c3, (hb.cell (p := ⟨b, _, none⟩) hl).trans h.c4, (hb.cell (p := ⟨b, _, none⟩) hl).trans h.c5, (hb.cell (p := ⟨b, _, none⟩) hl).trans h.c6, (hb.cell (p := ⟨b, _, none⟩) hl).trans h.c7⟩
theorem CellsE.nd {w : World} {b p : Nat} {n : Ef} (h : CellsE w b p n) : CellsN w b (p + 1) n.nd := ⟨h.c1, h.c2, h.c3, h.c4, h.c5, h.c6, h.c7⟩

/-- A slice of nodes that reads as ns. -/
def RdE (w : World) (v : Value) (ns : List Ef) : Prop :=
  ∃ ao cap, v = .slice ao ns.length cap ∧ ns.length ≤ cap ∧ cap ≤ maxLen ∧
    (ns = [] ∨ ∃ b off, ao = some ⟨b, off, none⟩ ∧ b < w.heap.size ∧ ∀ i, i < ns.length → CellsE w b (off + i * 8) (eAt ns i))
theorem RdE.len {w : World} {v : Value} {ns : List Ef} (h : RdE w v ns) : ∃ ao cap, v = .slice ao ns.length cap ∧ ns.length ≤ cap ∧ cap ≤ maxLen := by
  obtain ⟨ao, cap, h0, h1, h2, _⟩ := h
  exact ⟨ao, cap, h0, h1, h2⟩
theorem RdE.below {w w' : World} {v : Value} {ns : List Ef} (h : RdE w v ns) (hb : Below w.heap.size w w') : RdE w' v ns := by
  obtain ⟨ao, cap, rfl, h1, h2, h3⟩ := h
  refine ⟨ao, cap, rfl, h1, h2, ?_⟩
  rcases h3 with h3 | ⟨b, off, rfl, hlt, hc⟩
  · exact .inl h3
  · exact .inr ⟨b, off, rfl, Nat.lt_of_lt_of_le hlt hb.size, fun i hi => (hc i hi).below hb hlt⟩

/-! ### rows of nodes -/
def erow (ns : List Ef) : List Value := ns.flatMap efL
theorem erow_cons (n : Ef) (ns : List Ef) : erow (n :: ns) = efL n ++ erow ns := by simp [erow]
theorem erow_append (ns ms : List Ef) : erow (ns ++ ms) = erow ns ++ erow ms := by simp [erow]
theorem erow_length : ∀ ns : List Ef, (erow ns).length = ns.length * 8
  | [] => rfl
  | n :: ns => by rw [erow_cons, List.length_append, erow_length ns, List.length_cons]; show 8 + _ = _; omega
theorem erow_get : ∀ (ns : List Ef) (i j : Nat), i < ns.length → j < 8 → (erow ns)[i * 8 + j]? = (efL (eAt ns i))[j]?
  | [], i, j, h, _ => by simp at h
  | n :: ns, 0, j, _, hj => by
    rw [erow_cons, Nat.zero_mul, Nat.zero_add, List.getElem?_append_left (by show j < 8; exact hj)]; rfl
  | n :: ns, i + 1, j, h, hj => by
    rw [erow_cons, List.getElem?_append_right (by show 8 ≤ _; omega), show (i + 1) * 8 + j - (efL n).length = i * 8 + j by show (i + 1) * 8 + j - 8 = _; omega, erow_get ns i j (by simpa using h) hj]
    rfl
def set8 (L : List Value) (p : Nat) (n : Ef) : List Value :=
  (((((((L.set p (.bool n.del)).set (p + 1) (.string n.nd.path)).set (p + 2) (.string n.nd.data)).set (p + 3) (.int .i64 n.nd.ver)).set (p + 4) (.int .i64 n.nd.cver)).set (p + 5) (.int .i64 n.nd.cz)).set (p + 6) (.int .i64 n.nd.mz)).set (p + 7) (.int .i64 n.nd.pz)
theorem set8_app (a L : List Value) (p : Nat) (n : Ef) (h : a.length = 8) : set8 (a ++ L) (8 + p) n = a ++ set8 L p n := by
  unfold set8
  have e : ∀ (M : List Value) (q : Nat) (v : Value), (a ++ M).set (8 + q) v = a ++ M.set q v := fun M q v => by
    rw [List.set_append_right _ _ (by omega)]; congr 2; omega
  rw [e, show 8 + p + 1 = 8 + (p + 1) by omega, e, show 8 + p + 2 = 8 + (p + 2) by omega, e, show 8 + p + 3 = 8 + (p + 3) by omega, e, show 8 + p + 4 = 8 + (p + 4) by omega, e, show 8 + p + 5 = 8 + (p + 5) by omega, e, show 8 + p + 6 = 8 + (p + 6) by omega, e, show 8 + p + 7 = 8 + (p + 7) by omega, e]
theorem erow_set : ∀ (ns : List Ef) (k : Nat) (n : Ef), k < ns.length → set8 (erow ns) (k * 8) n = erow (ns.set k n)
  | [], k, n, h => by simp at h
  | m :: ns, 0, n, _ => by
    rw [erow_cons, List.set_cons_zero, erow_cons]
    rfl
  | m :: ns, k + 1, n, h => by
    rw [erow_cons, List.set_cons_succ, erow_cons, show (k + 1) * 8 = 8 + k * 8 by omega, set8_app _ _ _ _ rfl, erow_set ns k n (by simpa using h)]
theorem erow_zero (n : Nat) : (madeCells #[Value.bool false, Value.string ByteArray.empty, Value.string ByteArray.empty, Value.int .i64 0, Value.int .i64 0, Value.int .i64 0, Value.int .i64 0, Value.int .i64 0] (n * 8)).toList = erow (List.replicate n ef0) := by
  apply List.ext_getElem?
  intro j
  by_cases hj : j < n * 8
  · have h1 := erow_get (List.replicate n ef0) (j / 8) (j % 8) (by rw [List.length_replicate]; omega) (Nat.mod_lt _ (by decide))
    rw [show j / 8 * 8 + j % 8 = j by omega] at h1
    rw [h1, eAt_get (by rw [List.length_replicate]; omega), List.getElem_replicate]
    have h8 : j % 8 < 8 := Nat.mod_lt _ (by decide)
    rw [made_get _ _ _ hj]
    show some (#[Value.bool false, Value.string ByteArray.empty, Value.string ByteArray.empty, Value.int .i64 0, Value.int .i64 0, Value.int .i64 0, Value.int .i64 0, Value.int .i64 0][j % 8]!) = _
    clear h1
    generalize j % 8 = r at *
    match r, h8 with
    | 0, _ => rfl
    | 1, _ => rfl
    | 2, _ => rfl
    | 3, _ => rfl
    | 4, _ => rfl
    | 5, _ => rfl
    | 6, _ => rfl
    | 7, _ => rfl
  · rw [List.getElem?_eq_none (by simp [madeCells]; omega), List.getElem?_eq_none (by rw [erow_length, List.length_replicate]; omega)]

/-- The first k written. -/
def mixE (ns : List Ef) (k : Nat) : List Ef := ns.take k ++ List.replicate (ns.length - k) ef0
theorem mixE_len (ns : List Ef) (k : Nat) (h : k ≤ ns.length) : (mixE ns k).length = ns.length := by unfold mixE; rw [List.length_append, List.length_take, List.length_replicate]; omega
theorem mixE_all (ns : List Ef) : mixE ns ns.length = ns := by unfold mixE; simp
theorem mixE_zero (ns : List Ef) : mixE ns 0 = List.replicate ns.length ef0 := by unfold mixE; simp
theorem mixE_set (ns : List Ef) (k : Nat) (h : k < ns.length) : (mixE ns k).set k (eAt ns k) = mixE ns (k + 1) := by
  unfold mixE
  rw [List.set_append_right _ _ (by rw [List.length_take]; omega), List.length_take, show k - min k ns.length = 0 by omega, show ns.length - k = (ns.length - (k + 1)) + 1 by omega, List.replicate_succ, List.set_cons_zero, List.take_succ_eq_append_getElem h, eAt_get h, List.append_assoc]
  rfl

/-- A slice of nodes of the call's own. -/
def OwnE (e : TypeId) (w : World) (lo : Nat) (v : Value) (ns : List Ef) : Prop := w.ownsRow lo e 8 v ns.length (erow ns)
theorem OwnE.rd {e : TypeId} {w : World} {lo : Nat} {v : Value} {ns : List Ef} (h : OwnE e w lo v ns) : RdE w v ns := by
  rcases h.2 with ⟨rfl, h0⟩ | ⟨g, cap, cur, rfl, hb, hg, hn, hm, hs, ht⟩
  · have : ns = [] := List.eq_nil_of_length_eq_zero h0
    subst this
    exact ⟨none, 0, rfl, Nat.le_refl _, Nat.zero_le _, .inl rfl⟩
  · refine ⟨_, cap, rfl, hn, hm, .inr ⟨g, 0, rfl, (Array.getElem?_eq_some_iff.1 hg).1, fun i hi => ?_⟩⟩
    have c : ∀ j, j < 8 → w.cell? ⟨g, 0 + (i * 8 + j), none⟩ = (efL (eAt ns i))[j]? := fun j hj => by
      have hh := erow_get ns i j hi hj
      have h9 : (efL (eAt ns i))[j]? = some ((efL (eAt ns i)).getD j undef) := by
        match j, hj with
        | 0, _ => rfl
        | 1, _ => rfl
        | 2, _ => rfl
        | 3, _ => rfl
        | 4, _ => rfl
        | 5, _ => rfl
        | 6, _ => rfl
        | 7, _ => rfl
      rw [h9] at hh
      have := World.ownsRow.cells h (g := g) rfl (i * 8 + j) _ hh
      rw [Addr.add_lit] at this
      rw [this, h9]
    exact ⟨c 0 (by omega), c 1 (by omega), c 2 (by omega), c 3 (by omega), c 4 (by omega), c 5 (by omega), c 6 (by omega), c 7 (by omega)⟩
theorem OwnE.below {e : TypeId} {w w' : World} {lo : Nat} {v : Value} {ns : List Ef} (h : OwnE e w lo v ns) (hb : Below w.heap.size w w') : OwnE e w' lo v ns := by
  refine ⟨h.1, ?_⟩
  rcases h.2 with hn | ⟨g, cap, cur, rfl, hbg, hgg, rest⟩
  · exact .inl hn
  · exact .inr ⟨g, cap, cur, rfl, hbg, by rw [hb.block g (Array.getElem?_eq_some_iff.1 hgg).1]; exact hgg, rest⟩
theorem OwnE.mono {e : TypeId} {w : World} {lo lo' : Nat} {v : Value} {ns : List Ef} (h : OwnE e w lo v ns) (hl : lo' ≤ lo) : OwnE e w lo' v ns := by
  refine ⟨h.1, ?_⟩
  rcases h.2 with hn | ⟨g, cap, cur, rfl, hbg, rest⟩
  · exact .inl hn
  · exact .inr ⟨g, cap, cur, rfl, Nat.le_trans hl hbg, rest⟩
theorem OwnE.slice {e : TypeId} {w : World} {lo : Nat} {v : Value} {ns : List Ef} (h : OwnE e w lo v ns) : ∃ a c, v = .slice a ns.length c := by
  obtain ⟨a, c, h0, _⟩ := h.rd.len
  exact ⟨a, c, h0⟩


/-- All the bytes of the texts. -/
def totE (ns : List Ef) : Nat := (ns.map fun n => n.nd.path.size + n.nd.data.size).sum
theorem totE_take_succ (ns : List Ef) (k : Nat) (h : k < ns.length) : totE (ns.take (k + 1)) = totE (ns.take k) + ((eAt ns k).nd.path.size + (eAt ns k).nd.data.size) := by
  unfold totE
  rw [List.take_succ_eq_append_getElem h, List.map_append, List.sum_append, eAt_get h]
  simp
theorem totE_all (ns : List Ef) (k : Nat) (h : ns.length ≤ k) : totE (ns.take k) = totE ns := by rw [List.take_of_length_le h]
theorem totE_ge (ns : List Ef) (i : Nat) : (eAt ns i).nd.path.size + (eAt ns i).nd.data.size ≤ totE ns := by
  by_cases h : i < ns.length
  · have h1 := totE_take_succ ns i h
    have h2 : totE (ns.take (i + 1)) ≤ totE ns := by
      unfold totE
      conv => rhs; rw [← List.take_append_drop (i + 1) ns, List.map_append, List.sum_append]
      omega
    omega
  · unfold eAt; rw [List.getD, List.getElem?_eq_none (by omega)]; exact Nat.zero_le _

end Go.Proofs.YtgjenbgclpmjmaaDoor

namespace Go.Proofs.YtgjenbgclpmjmaaDoor
open Go.RowKit

set_option maxHeartbeats 1000000 in
set_option maxRecDepth 100000 in
theorem szEffect_any (w : World) (n : Ef) (left : Int) (hp : n.nd.path.size ≤ maxLen) (hd : n.nd.data.size ≤ maxLen) (h0 : 0 ≤ left) (h1 : left ≤ 1048576) :
    Calls Tryd.prog 105 #[.agg #[.bool n.del, .string n.nd.path, .string n.nd.data, .int .i64 n.nd.ver, .int .i64 n.nd.cver, .int .i64 n.nd.cz, .int .i64 n.nd.mz, .int .i64 n.nd.pz], .int .i64 left] w fun e w' => e = .returned (.int .i64 (szr left (n.nd.path.size + n.nd.data.size))) ∧ Below w.heap.size w w' := by
  have B0 : Hid (Below w.heap.size w (w.alloc (.cells #[.bool n.del, .string n.nd.path, .string n.nd.data, .int .i64 n.nd.ver, .int .i64 n.nd.cver, .int .i64 n.nd.cz, .int .i64 n.nd.mz, .int .i64 n.nd.pz] 130))) := (Below.refl _ _).alloc (Nat.le_refl _) _
  go_enter Tryd.func105, Tryd.ntmps105
  go_wp2_with fail
  refine (szNode_any _ n.nd left hp hd h0 h1).mono ?_
  rintro e w1 ⟨rfl, b1⟩
  have B1 : Hid (Below w.heap.size w w1) := B0.out.trans (b1.mono (by simp))
  clear b1
  unfold maxLen at hp hd
  by_cases h : left < ((n.nd.path.size + n.nd.data.size : Nat) : Int)
  · have HS : Hid (szr left (n.nd.path.size + n.nd.data.size) = -1) := szr_neg h
    rw [szr_neg h]
    clear h
    go_wp2
    go_ret
    exact ⟨ret_i HS.out.symm, B1.out⟩
  · have HS := szr_pos h
    rw [szr_pos h]
    obtain ⟨L2, hL2⟩ : ∃ L2 : Int, L2 = left - ((n.nd.path.size + n.nd.data.size : Nat) : Int) := ⟨_, rfl⟩
    rw [← hL2] at HS
    rw [← hL2]
    have HS2 : Hid (szr left (n.nd.path.size + n.nd.data.size) = L2) := HS
    have h3 : ¬ L2 < 0 := by omega
    clear hL2 h HS
    go_wp2
    go_ret
    exact ⟨ret_i HS2.out.symm, B1.out⟩

set_option maxHeartbeats 1000000 in
set_option maxRecDepth 100000 in
theorem szEffectS_row (w : World) (b o n cap : Nat) (ns : List Ef) (hp : ns.length = n) (hn : n ≤ maxLen) (hb : b < w.heap.size) (hsz : ∀ i, (eAt ns i).nd.path.size ≤ maxLen ∧ (eAt ns i).nd.data.size ≤ maxLen)
    (hc : ∀ i, i < n → CellsE w b (o + i * 8) (eAt ns i)) (left : Int) (h0 : 0 ≤ left) (h1 : left ≤ 1048576) :
    Calls Tryd.prog 62 #[.slice (some ⟨b, o, none⟩) n cap, .int .i64 left] w fun e w' => ∃ r : Int, e = .returned (.int .i64 r) ∧ (r < 0 ∨ r + n + totE ns = left) ∧ Below w.heap.size w w' := by
  have HC : Hid (∀ i, i < n → CellsE w b (o + i * 8) (eAt ns i)) := hc
  have HP : Hid (ns.length = n) := hp
  have HZ : Hid (∀ i, (eAt ns i).nd.path.size ≤ maxLen ∧ (eAt ns i).nd.data.size ≤ maxLen) := hsz
  clear hc hp hsz
  unfold maxLen at hn
  by_cases hl : left < n
  · have h2 : left - (n : Int) < 0 := by omega
    go_enter Tryd.func62, Tryd.ntmps62
    go_wp2
    go_ret
    exact ⟨-1, rfl, .inl (by omega), Below.refl _ _⟩
  · have h2 : ¬ left - (n : Int) < 0 := by omega
    go_enter Tryd.func62, Tryd.ntmps62
    go_wp2
    go_loopw [1, 5] (fun l i wr => ∃ (k : Nat) (L : Int), k ≤ n ∧ i = .int .i64 k ∧ 0 ≤ L ∧ L ≤ 1048576 ∧ l = .int .i64 L ∧ Hid (L + n + totE (ns.take k) = left) ∧ Hid (Below w.heap.size w wr)) (fun _ i _ => n - (intOf i).toNat)
    case atStart => exact ⟨0, left - n, Nat.zero_le _, rfl, by omega, by omega, rfl, (by show _ = _; simp [totE]), Below.refl _ _⟩
    case round =>
      obtain ⟨k, L, hk, rfl, hL0, hL1, rfl, HE, HG⟩ := hrel
      by_cases hlt : k < n
      · have hltI : (k : Int) < (n : Int) := by omega
        obtain ⟨c0, c1, c2, c3, c4, c5, c6, c7⟩ := (HC.out k hlt).below HG.out hb
        have HTS : Hid (totE (ns.take (k + 1)) = totE (ns.take k) + ((eAt ns k).nd.path.size + (eAt ns k).nd.data.size)) := totE_take_succ ns k (by rw [HP.out]; exact hlt)
        have sg := HG.out.size
        go_wp2_with fail
        refine (szEffect_any _ (eAt ns k) L (HZ.out k).1 (HZ.out k).2 hL0 hL1).mono ?_
        rintro e w1 ⟨rfl, b1⟩
        have HG1 : Hid (Below w.heap.size w w1) := HG.out.trans (b1.mono sg)
        clear b1 c0 c1 c2 c3 c4 c5 c6 c7
        obtain ⟨hz1, hz2⟩ := HZ.out k
        unfold maxLen at hz1 hz2
        by_cases hneg : L < (((eAt ns k).nd.path.size + (eAt ns k).nd.data.size : Nat) : Int)
        · rw [szr_neg hneg]
          clear hneg
          go_wp2
          go_ret
          exact ⟨-1, rfl, .inl (by omega), HG1.out⟩
        · rw [szr_pos hneg]
          obtain ⟨L2, hL2⟩ : ∃ L2 : Int, L2 = L - (((eAt ns k).nd.path.size + (eAt ns k).nd.data.size : Nat) : Int) := ⟨_, rfl⟩
          have HL2 : Hid (L2 = L - (((eAt ns k).nd.path.size + (eAt ns k).nd.data.size : Nat) : Int)) := hL2
          rw [← hL2]
          have h3 : ¬ L2 < 0 := by omega
          have h4 : L2 ≤ 1048576 := by omega
          clear hL2 hneg
          go_wp2
          go_roundw
          case rel => exact ⟨k + 1, L2, by omega, by go_num, by omega, by omega, rfl, (by show _ = _; rw [HTS.out]; have := HE.out; have := HL2.out; omega), HG1⟩
          case measure => simp [intOf]; omega
      · go_wp2
        go_ret
        exact ⟨L, rfl, .inr (by have := HE.out; rw [totE_all ns k (by rw [HP.out]; omega)] at this; exact this), HG.out⟩

set_option maxHeartbeats 400000 in
theorem szEffectS_nil (w : World) (ao : Option Addr) (cap : Nat) (left : Int) (h0 : 0 ≤ left) (h1 : left ≤ 1048576) :
    Calls Tryd.prog 62 #[.slice ao 0 cap, .int .i64 left] w fun e w' => e = .returned (.int .i64 left) ∧ w' = w := by
  have h2 : ¬ left < 0 := by omega
  go_enter Tryd.func62, Tryd.ntmps62
  go_wp2
  go_rounds 1
  go_ret
  exact ⟨by simp, rfl⟩

theorem szEffectS_any (w : World) (v : Value) (ns : List Ef) (h : RdE w v ns) (hsz : ∀ i, (eAt ns i).nd.path.size ≤ maxLen ∧ (eAt ns i).nd.data.size ≤ maxLen) (left : Int) (h0 : 0 ≤ left) (h1 : left ≤ 1048576) :
    Calls Tryd.prog 62 #[v, .int .i64 left] w fun e w' => ∃ r : Int, e = .returned (.int .i64 r) ∧ (r < 0 ∨ r + ns.length + totE ns = left) ∧ Below w.heap.size w w' := by
  obtain ⟨ao, cap, rfl, k1, k2, k3⟩ := h
  rcases k3 with rfl | ⟨b, o, rfl, hb, hc⟩
  · refine (szEffectS_nil w ao cap left h0 h1).mono ?_
    rintro e w' ⟨rfl, rfl⟩
    exact ⟨left, rfl, .inr (by simp [totE]), Below.refl _ _⟩
  · exact szEffectS_row w b o ns.length cap ns rfl (by omega) hb hsz hc left h0 h1

set_option maxHeartbeats 400000 in
theorem szTxn_any (w : World) (z : Int) (v : Value) (ns : List Ef) (h : RdE w v ns) (hsz : ∀ i, (eAt ns i).nd.path.size ≤ maxLen ∧ (eAt ns i).nd.data.size ≤ maxLen) (left : Int) (h0 : 0 ≤ left) (h1 : left ≤ 1048576) :
    Calls Tryd.prog 19 #[.agg #[.int .i64 z, v], .int .i64 left] w fun e w' => ∃ r : Int, e = .returned (.int .i64 r) ∧ (r < 0 ∨ r + ns.length + totE ns = left) ∧ Below w.heap.size w w' := by
  have B0 : Hid (Below w.heap.size w (w.alloc (.cells #[.int .i64 z, v] 36))) := (Below.refl _ _).alloc (Nat.le_refl _) _
  obtain ⟨ao, cap, rfl, k1, k2⟩ := h.len
  have HR : Hid (RdE (w.alloc (.cells #[.int .i64 z, .slice ao ns.length cap] 36)) (.slice ao ns.length cap) ns) := h.below B0.out
  clear h
  go_enter Tryd.func19, Tryd.ntmps19
  go_wp2_with fail
  refine (szEffectS_any _ _ ns HR.out hsz left h0 h1).mono ?_
  rintro e w1 ⟨r, rfl, hr, b1⟩
  have B1 : Hid (Below w.heap.size w w1) := B0.out.trans (b1.mono (by simp))
  have hr2 : r ≤ 1048576 := by omega
  have HRR : Hid (r < 0 ∨ r + ns.length + totE ns = left) := hr
  clear b1 hr
  by_cases hneg : r < 0
  · go_wp2
    go_ret
    exact ⟨-1, rfl, .inl (by omega), B1.out⟩
  · go_wp2
    go_ret
    exact ⟨r, rfl, HRR.out, B1.out⟩

end Go.Proofs.YtgjenbgclpmjmaaDoor

