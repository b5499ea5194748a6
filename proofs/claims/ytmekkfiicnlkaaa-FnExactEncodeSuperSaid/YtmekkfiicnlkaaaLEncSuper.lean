import Derived.Test.YtmekkfiicnlkaaaSpecSuper
import Derived.Test.YtmekkfiicnlkaaaRows
namespace Go.Proofs.Ytmekkfiicnlkaaa
open Go.RowKit

set_option maxHeartbeats 400000 in
theorem toSuper_any (w : World) (g b s l c : Int) :
    Calls Try.prog 7 #[.agg #[.int .i64 g, .int .i64 b, .int .i64 s, .int .i64 l, .int .i64 c]] w fun e w' => e = .returned (.agg #[.int .i64 g, .int .i64 b, .int .i64 s, .int .i64 l, .int .i64 c]) ∧ Below w.heap.size w w' := by
  go_enter Try.func7, Try.ntmps7
  go_wp2
  refine bodyPost_ret (v := .agg #[.int .i64 g, .int .i64 b, .int .i64 s, .int .i64 l, .int .i64 c]) (by simp [results, Try.results7, go_sem]) rfl ⟨rfl, ?_⟩
  repeat (first | exact Below.refl _ _ | refine Below.setCell ?_ (by simp; try omega) _ | refine Below.alloc ?_ (by simp; try omega) _)

theorem own_apart {k : IntKind} {e e' : TypeId} {w w' : World} {B B' : Nat} {v v' : Value} {xs xs' : List Int} (h : Own k e w B v xs) (h' : Own k e' w' B' v' xs') (hlt : w.heap.size ≤ B') : v.ownBlock = none ∨ v.ownBlock ≠ v'.ownBlock := by
  cases hv : v.ownBlock with
  | none => exact .inl rfl
  | some g =>
    refine .inr fun e => ?_
    have h1 := (h.lt g hv).2
    have h2 := (h'.lt g e.symm).1
    omega

theorem sup_len (g b s l c : Int) : (sup g b s l c).length ≤ 64 := by
  unfold sup
  split
  · rw [supB_len]; exact Nat.le_refl _
  · simp

set_option maxHeartbeats 1000000 in
set_option maxRecDepth 100000 in
theorem lawEnc_walk (w : World) (g b s l c : Int) (hg : g < 9223372036854775808) :
    Calls Try.prog 3 #[.agg #[.int .i64 g, .int .i64 b, .int .i64 s, .int .i64 l, .int .i64 c]] w fun e w' => e = .returned (.bool true) ∧ Below w.heap.size w w' := by
  have HG : Hid (g < 9223372036854775808) := hg
  have hls := sup_len g b s l c
  obtain ⟨L, hL⟩ : ∃ L, L = sup g b s l c := ⟨_, rfl⟩
  rw [← hL] at hls
  have HL : Hid (sup g b s l c = L) := hL.symm
  clear hg hL
  go_enter Try.func3, Try.ntmps3
  go_wp2_with fail
  refine (toSuper_any _ g b s l c).mono ?_
  rintro e w1 ⟨rfl, b1⟩
  have X1 : Hid (Bx5 w1 w.heap.size g b s l c) := (Bx5.new w g b s l c _).below b1 (by simp)
  have B1 : Hid (Below w.heap.size w w1) := ((Below.refl _ _).alloc (Nat.le_refl _) _).trans (b1.mono (by simp))
  have s1 : w.heap.size + 1 ≤ w1.heap.size := X1.out.1
  clear b1
  go_wp2_with fail
  refine (specSuper_any _ g b s l c HG.out).mono ?_
  rw [HL.out]
  rintro e w2 ⟨v2, rfl, o2, b2⟩
  have X2 : Hid (Bx5 w2 w.heap.size g b s l c) := X1.out.below b2 (by omega)
  have B2 : Hid (Below w.heap.size w w2) := B1.out.trans (b2.mono (by omega))
  have s2 : w.heap.size + 1 ≤ w2.heap.size := X2.out.1
  have O2 : Hid (Own .u8 5 w2 w1.heap.size v2 L) := o2
  clear o2 b2
  obtain ⟨-, x0, x1, x2, x3, x4⟩ := X2.out
  go_wp2_with fail
  refine (toSuper_any _ g b s l c).mono ?_
  rintro e w3 ⟨rfl, b3⟩
  have X3 : Hid (Bx5 w3 w.heap.size g b s l c) := X2.out.below b3 (by omega)
  have B3 : Hid (Below w.heap.size w w3) := B2.out.trans (b3.mono (by omega))
  have s3 : w.heap.size + 1 ≤ w3.heap.size := X3.out.1
  have O23 : Hid (Own .u8 5 w3 w1.heap.size v2 L) := O2.out.below b3
  clear b3 O2 x0 x1 x2 x3 x4
  go_wp2_with fail
  refine (implSuper_any _ g b s l c).mono ?_
  rw [HL.out]
  rintro e w4 ⟨v4, rfl, o4, b4⟩
  have X4 : Hid (Bx5 w4 w.heap.size g b s l c) := X3.out.below b4 (by omega)
  have B4 : Hid (Below w.heap.size w w4) := B3.out.trans (b4.mono (by omega))
  have s4 : w.heap.size + 1 ≤ w4.heap.size := X4.out.1
  have O4 : Hid (Own .u8 5 w4 w3.heap.size v4 L) := o4
  have O24 : Hid (Own .u8 5 w4 w1.heap.size v2 L) := O23.out.below b4
  have N24 : Hid (v2.ownBlock = none ∨ v2.ownBlock ≠ v4.ownBlock) := own_apart O23.out O4.out (Nat.le_refl _)
  clear o4 b4 O23
  go_wp2_with fail
  refine (eqByteS_any _ _ _ L L O4.out.rd O24.out.rd).mono ?_
  rintro e w5 ⟨rfl, q5, rfl⟩
  rw [show decide (L = L) = true by simp]
  go_wp2_with fail
  refine (markByteS_any _ _ _ L 1 (O4.out.drewN q5) (by omega) (by omega) (by omega)).mono ?_
  rintro e w6 ⟨rfl, o6, g6⟩
  have b6 : Below (w.heap.size + 1) w4 w6 := ((below_drewN' w4 q5).mono s4).grown g6 s4 (fun k hk => by have := (O4.out.lt k hk).1; omega)
  have X6 : Hid (Bx5 w6 w.heap.size g b s l c) := X4.out.below b6 (by omega)
  have B6 : Hid (Below w.heap.size w w6) := B4.out.trans (b6.mono (by omega))
  have s6 : w.heap.size + 1 ≤ w6.heap.size := X6.out.1
  have O26 : Hid (Own .u8 5 w6 w1.heap.size v2 L) := (O24.out.drewN q5).other g6 N24.out
  have O6 : Hid (Own .u8 5 w6 w3.heap.size v4 (marks 1 L.length)) := o6
  clear o6 g6 b6 O4 O24
  generalize hm : L.length = m at *
  have HM : Hid (L.length = m) := hm
  clear hm
  go_wp2_with fail
  refine (heldByteS_any _ _ m 1 O6.out.rd (by omega) (by omega) (by omega)).mono ?_
  rintro e w7 ⟨rfl, rfl⟩
  have hq0 : ¬ (1 + (m : Int)) < 0 := by omega
  obtain ⟨-, x0, x1, x2, x3, x4⟩ := X6.out
  go_wp2_with fail
  refine (toSuper_any _ g b s l c).mono ?_
  rintro e w8 ⟨rfl, b8⟩
  have X8 : Hid (Bx5 w8 w.heap.size g b s l c) := X6.out.below b8 (by omega)
  have B8 : Hid (Below w.heap.size w w8) := B6.out.trans (b8.mono (by omega))
  have s8 : w.heap.size + 1 ≤ w8.heap.size := X8.out.1
  have O28 : Hid (Own .u8 5 w8 w1.heap.size v2 L) := O26.out.below b8
  clear b8 O26 x0 x1 x2 x3 x4 O6
  go_wp2_with fail
  refine (implSuper_any _ g b s l c).mono ?_
  rw [HL.out]
  rintro e w9 ⟨v9, rfl, o9, b9⟩
  have O9 : Hid (Own .u8 5 w9 w8.heap.size v9 L) := o9
  have O29 : Hid (Own .u8 5 w9 w1.heap.size v2 L) := O28.out.below b9
  have B9 : Hid (Below w.heap.size w w9) := B8.out.trans (b9.mono (by omega))
  clear o9 b9
  go_wp2_with fail
  refine (eqByteS_any _ _ _ L L O9.out.rd O29.out.rd).mono ?_
  rintro e w10 ⟨rfl, q10, rfl⟩
  rw [show decide (L = L) = true by simp]
  have B10 : Hid (Below w.heap.size w (w9.drewN q10)) := B9.out.trans ((below_drewN' w9 q10).mono B9.out.size)
  go_wp2
  go_ret
  exact ⟨rfl, B10.out⟩

end Go.Proofs.Ytmekkfiicnlkaaa
