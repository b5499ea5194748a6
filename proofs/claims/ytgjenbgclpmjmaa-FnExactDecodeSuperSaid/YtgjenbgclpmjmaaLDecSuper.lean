import Derived.Test.YtgjenbgclpmjmaaSpecDec2
import Derived.Test.YtgjenbgclpmjmaaRows
namespace Go.Proofs.Ytgjenbgclpmjmaa
open Go.RowKit

theorem decV_agg (ys : List Int) : ∃ t g b s l c, decV ys = .agg #[.bool t, .int .i64 g, .int .i64 b, .int .i64 s, .int .i64 l, .int .i64 c] := by
  unfold decV
  split
  · exact ⟨_, _, _, _, _, _, rfl⟩
  · exact ⟨_, _, _, _, _, _, rfl⟩

set_option maxHeartbeats 400000 in
set_option maxRecDepth 100000 in
theorem eqSR_any (w : World) (t : Bool) (g b s l c : Int) :
    Calls Try.prog 16 #[.agg #[.bool t, .int .i64 g, .int .i64 b, .int .i64 s, .int .i64 l, .int .i64 c], .agg #[.bool t, .int .i64 g, .int .i64 b, .int .i64 s, .int .i64 l, .int .i64 c]] w fun e w' => e = .returned (.bool true) ∧ Below w.heap.size w w' := by
  go_enter Try.func16, Try.ntmps16
  go_wp2
  go_ret
  refine ⟨rfl, ?_⟩
  repeat (first | exact Below.refl _ _ | refine Below.alloc ?_ (by simp; try omega) _)

/-- A local answer: six cells. -/
def Bx6 (w : World) (k : Nat) (t : Bool) (g b s l c : Int) : Prop :=
  k < w.heap.size ∧ w.cell? ⟨k, 0, none⟩ = some (.bool t) ∧ w.cell? ⟨k, 1, none⟩ = some (.int .i64 g) ∧ w.cell? ⟨k, 2, none⟩ = some (.int .i64 b) ∧ w.cell? ⟨k, 3, none⟩ = some (.int .i64 s) ∧ w.cell? ⟨k, 4, none⟩ = some (.int .i64 l) ∧ w.cell? ⟨k, 5, none⟩ = some (.int .i64 c)
theorem Bx6.new (w : World) (t : Bool) (g b s l c : Int) (T : TypeId) : Bx6 (w.alloc (.cells #[.bool t, .int .i64 g, .int .i64 b, .int .i64 s, .int .i64 l, .int .i64 c] T)) w.heap.size t g b s l c :=
  ⟨by simp, (by go_simp), (by go_simp), (by go_simp), (by go_simp), (by go_simp), (by go_simp)⟩
theorem Bx6.below {w w' : World} {k B : Nat} {t : Bool} {g b s l c : Int} (h : Bx6 w k t g b s l c) (hb : Below B w w') (hk : k < B) : Bx6 w' k t g b s l c := by
  obtain ⟨h0, h1, h2, h3, h4, h5, h6⟩ := h
  exact ⟨Nat.lt_of_lt_of_le h0 hb.size, (hb.cell (p := ⟨k, 0, none⟩) hk).trans h1, (hb.cell (p := ⟨k, 1, none⟩) hk).trans h2, (hb.cell (p := ⟨k, 2, none⟩) hk).trans h3, (hb.cell (p := ⟨k, 3, none⟩) hk).trans h4, (hb.cell (p := ⟨k, 4, none⟩) hk).trans h5, (hb.cell (p := ⟨k, 5, none⟩) hk).trans h6⟩

set_option maxHeartbeats 1000000 in
set_option maxRecDepth 100000 in
theorem lawDec_walk (w : World) (v : Value) (xs : List Int) (h : Rd .u8 w v xs) (hby : Byt xs) :
    Calls Try.prog 5 #[v] w fun e w' => e = .returned (.bool true) ∧ Below w.heap.size w w' := by
  obtain ⟨ao, cap, hv, hl1, hl2⟩ := h.len
  have HR : Hid (Rd .u8 w v xs) := h
  have HBY : Hid (Byt xs) := hby
  subst hv
  clear h hby
  unfold maxLen at hl2
  by_cases hbig : 1048576 < xs.length
  · have hbI : (1048576 : Int) < (xs.length : Int) := by omega
    go_enter Try.func5, Try.ntmps5
    go_wp2
    go_ret
    exact ⟨rfl, Below.refl _ _⟩
  · have hbI : ¬ (1048576 : Int) < (xs.length : Int) := by omega
    obtain ⟨t, g, b, s, l, c, hdv⟩ := decV_agg xs
    have HDV : Hid (decV xs = .agg #[.bool t, .int .i64 g, .int .i64 b, .int .i64 s, .int .i64 l, .int .i64 c]) := hdv
    clear hdv
    go_enter Try.func5, Try.ntmps5
    go_wp2_with fail
    refine (toByteS_any _ _ xs HR.out (by omega)).mono ?_
    rintro e w1 ⟨v1, rfl, o1, b1⟩
    go_wp2_with fail
    refine (specDec_any _ _ xs o1.rd HBY.out).mono ?_
    rw [HDV.out]
    rintro e w2 ⟨rfl, b2⟩
    have B2 : Hid (Below w.heap.size w w2) := b1.trans (b2.mono b1.size)
    clear o1 b1 b2
    go_wp2_with fail
    have X3 : Hid (Bx6 (w2.alloc (.cells #[.bool t, .int .i64 g, .int .i64 b, .int .i64 s, .int .i64 l, .int .i64 c] 39)) w2.heap.size t g b s l c) := Bx6.new w2 t g b s l c _
    have B3 : Hid (Below w.heap.size w (w2.alloc (.cells #[.bool t, .int .i64 g, .int .i64 b, .int .i64 s, .int .i64 l, .int .i64 c] 39))) := B2.out.alloc B2.out.size _
    have s23 : w2.heap.size < (w2.alloc (.cells #[.bool t, .int .i64 g, .int .i64 b, .int .i64 s, .int .i64 l, .int .i64 c] 39)).heap.size := by simp
    have s2 := B2.out.size
    clear B2
    generalize w2.alloc (.cells #[.bool t, .int .i64 g, .int .i64 b, .int .i64 s, .int .i64 l, .int .i64 c] 39) = wa at *
    generalize w2.heap.size = ka at *
    refine (toByteS_any _ _ xs (HR.out.below B3.out) (by omega)).mono ?_
    rintro e w3 ⟨v3, rfl, o3, b3⟩
    have O3 : Hid (Own .u8 5 w3 wa.heap.size v3 xs) := o3
    have X4 : Hid (Bx6 w3 ka t g b s l c) := X3.out.below b3 s23
    have B4 : Hid (Below w.heap.size w w3) := B3.out.trans (b3.mono B3.out.size)
    have s3 := b3.size
    clear o3 b3 X3 B3
    go_wp2_with fail
    refine (implDec_any _ _ xs O3.out.rd HBY.out).mono ?_
    rw [HDV.out]
    rintro e w4 ⟨rfl, b4⟩
    have O4 : Hid (Own .u8 5 w4 wa.heap.size v3 xs) := O3.out.below b4
    have X5 : Hid (Bx6 w4 ka t g b s l c) := X4.out.below b4 (by omega)
    have B5 : Hid (Below w.heap.size w w4) := B4.out.trans (b4.mono B4.out.size)
    have s4 := b4.size
    clear b4 O3 X4 B4
    have bb : Below w4.heap.size w4 (w4.alloc (.cells #[.bool t, .int .i64 g, .int .i64 b, .int .i64 s, .int .i64 l, .int .i64 c] 39)) := (Below.refl _ _).alloc (Nat.le_refl _) _
    have X6 : Hid (Bx6 (w4.alloc (.cells #[.bool t, .int .i64 g, .int .i64 b, .int .i64 s, .int .i64 l, .int .i64 c] 39)) ka t g b s l c) := X5.out.below bb (by omega)
    have Y6 : Hid (Bx6 (w4.alloc (.cells #[.bool t, .int .i64 g, .int .i64 b, .int .i64 s, .int .i64 l, .int .i64 c] 39)) w4.heap.size t g b s l c) := Bx6.new w4 t g b s l c _
    have O6 : Hid (Own .u8 5 (w4.alloc (.cells #[.bool t, .int .i64 g, .int .i64 b, .int .i64 s, .int .i64 l, .int .i64 c] 39)) wa.heap.size v3 xs) := O4.out.below bb
    have B6 : Hid (Below w.heap.size w (w4.alloc (.cells #[.bool t, .int .i64 g, .int .i64 b, .int .i64 s, .int .i64 l, .int .i64 c] 39))) := B5.out.trans (bb.mono B5.out.size)
    obtain ⟨sk, x0, x1, x2, x3, x4, x5⟩ := X5.out
    go_wp2_with fail
    refine (eqSR_any _ t g b s l c).mono ?_
    rintro e w7 ⟨rfl, b7⟩
    have O7 : Hid (Own .u8 5 w7 wa.heap.size v3 xs) := O6.out.below b7
    have B7 : Hid (Below w.heap.size w w7) := B6.out.trans (b7.mono B6.out.size)
    clear b7 bb O4 O6 X5 X6 Y6 B5 B6 sk x0 x1 x2 x3 x4 x5
    go_wp2_with fail
    refine (toByteS_any _ _ xs (HR.out.below B7.out) (by omega)).mono ?_
    rintro e w8 ⟨v8, rfl, o8, b8⟩
    have O8 : Hid (Own .u8 5 w8 w7.heap.size v8 xs) := o8
    have O78 : Hid (Own .u8 5 w8 wa.heap.size v3 xs) := O7.out.below b8
    have B8 : Hid (Below w.heap.size w w8) := B7.out.trans (b8.mono B7.out.size)
    clear o8 b8
    go_wp2_with fail
    refine (eqByteS_any _ _ _ xs xs O78.out.rd O8.out.rd).mono ?_
    rintro e w9 ⟨rfl, q9, rfl⟩
    rw [show decide (xs = xs) = true by simp]
    have B9 : Hid (Below w.heap.size w (w8.drewN q9)) := B8.out.trans ((below_drewN' w8 q9).mono B8.out.size)
    go_wp2
    go_ret
    exact ⟨rfl, B9.out⟩

end Go.Proofs.Ytgjenbgclpmjmaa
