import Derived.Test.YtplfpfnedgjidaaSPack
import Derived.Test.YtplfpfnedgjidaaRows
namespace Go.Proofs.Ytplfpfnedgjidaa
open Go.RowKit

/-- A row of another block is not the row that was written. -/
theorem own_ne {k : IntKind} {e e' : TypeId} {w w' : World} {B B' : Nat} {v v' : Value} {xs xs' : List Int} (h : Own k e w B v xs) (h' : Own k e' w' B' v' xs') (hlt : w.heap.size ≤ B') : v.ownBlock = none ∨ v.ownBlock ≠ v'.ownBlock := by
  cases hv : v.ownBlock with
  | none => exact .inl rfl
  | some g =>
    refine .inr fun e => ?_
    have h1 := (h.lt g hv).2
    have h2 := (h'.lt g e.symm).1
    omega

theorem own_ne' {k : IntKind} {e e' : TypeId} {w w' : World} {B B' : Nat} {v v' : Value} {xs xs' : List Int} (h : Own k e w B v xs) (h' : Own k e' w' B' v' xs') (hlt : w.heap.size ≤ B') : v'.ownBlock = none ∨ v'.ownBlock ≠ v.ownBlock := by
  cases hv : v'.ownBlock with
  | none => exact .inl rfl
  | some g =>
    refine .inr fun e => ?_
    have h1 := (h.lt g e.symm).2
    have h2 := (h'.lt g hv).1
    omega

set_option maxHeartbeats 1000000 in
set_option maxRecDepth 100000 in
theorem lawPack_walk (w : World) (v : Value) (xs : List Int) (h : Rd .u8 w v xs) (hby : Byt xs) :
    Calls Try.prog 4 #[v] w fun e w' => e = .returned (.bool true) ∧ Below w.heap.size w w' := by
  obtain ⟨ao, cap, hv, hl1, hl2⟩ := h.len
  have HR : Hid (Rd .u8 w v xs) := h
  subst hv
  clear h
  unfold maxLen at hl2
  by_cases hbig : 1048576 < xs.length
  · have hbI : (1048576 : Int) < (xs.length : Int) := by omega
    go_enter Try.func4, Try.ntmps4
    go_wp2
    go_ret
    exact ⟨rfl, Below.refl _ _⟩
  · have hbI : ¬ (1048576 : Int) < (xs.length : Int) := by omega
    have hpl : (pk xs).length ≤ 1099511627776 := by rw [pk_length]; omega
    have HPL : Hid ((pk xs).length ≤ 1099511627776) := hpl
    clear hpl
    go_enter Try.func4, Try.ntmps4
    go_wp2_with fail
    refine (toByteS_any _ _ xs HR.out (by omega)).mono ?_
    rintro e w1 ⟨v1, rfl, o1, b1⟩
    go_wp2_with fail
    refine (specPack_any _ _ xs o1.rd hby (by omega)).mono ?_
    rintro e w2 ⟨v2, rfl, o2, b2⟩
    have B2 : Hid (Below w.heap.size w w2) := b1.trans (b2.mono b1.size)
    have O2 : Hid (Own .u8 5 w2 w.heap.size v2 (pk xs)) := o2.mono b1.size
    clear o1 b1 o2 b2
    go_wp2_with fail
    refine (toByteS_any _ _ xs (HR.out.below B2.out) (by omega)).mono ?_
    rintro e w3 ⟨v3, rfl, o3, b3⟩
    have O3 : Hid (Own .u8 5 w3 w2.heap.size v3 xs) := o3
    have B3 : Hid (Below w2.heap.size w2 w3) := b3
    clear o3 b3
    go_wp2_with fail
    refine (implPack_any _ _ xs O3.out.rd hby (by omega)).mono ?_
    rintro e w4 ⟨v4, rfl, o4, b4⟩
    have O4 : Hid (Own .u8 5 w4 w3.heap.size v4 (pk xs)) := o4
    have B4 : Hid (Below w3.heap.size w3 w4) := b4
    clear o4 b4
    have O24 : Hid (Own .u8 5 w4 w.heap.size v2 (pk xs)) := (O2.out.below B3.out).below B4.out
    go_wp2_with fail
    refine (eqByteS_any _ _ _ (pk xs) (pk xs) O4.out.rd O24.out.rd).mono ?_
    rintro e w5 ⟨rfl, q5, rfl⟩
    rw [show decide (pk xs = pk xs) = true by simp]
    have s2 := B2.out.size
    have s3 := B3.out.size
    have s4 := B4.out.size
    have BW4 : Hid (Below w.heap.size w w4) := (B2.out.trans (B3.out.mono s2)).trans (B4.out.mono (Nat.le_trans s2 s3))
    go_wp2_with fail
    refine (toByteS_any _ _ xs ((HR.out.below BW4.out).drewN q5) (by omega)).mono ?_
    rintro e w6 ⟨v6, rfl, o6, b6⟩
    have O6 : Hid (Own .u8 5 w6 w4.heap.size v6 xs) := o6
    have B6 : Hid (Below w4.heap.size w4 w6) := (below_drewN' w4 q5).trans b6
    clear o6 b6
    go_wp2_with fail
    refine (eqByteS_any _ _ _ xs xs ((O3.out.below B4.out).below B6.out).rd O6.out.rd).mono ?_
    rintro e w7 ⟨rfl, q7, rfl⟩
    rw [show decide (xs = xs) = true by simp]
    have s6 := B6.out.size
    have O37 : Hid (Own .u8 5 (w6.drewN q7) w2.heap.size v3 xs) := ((O3.out.below B4.out).below B6.out).drewN q7
    have O47 : Hid (Own .u8 5 (w6.drewN q7) w3.heap.size v4 (pk xs)) := (O4.out.below B6.out).drewN q7
    have O27 : Hid (Own .u8 5 (w6.drewN q7) w.heap.size v2 (pk xs)) := (O24.out.below B6.out).drewN q7
    have BW7 : Hid (Below w.heap.size w (w6.drewN q7)) := (BW4.out.trans (B6.out.mono (by omega))).trans ((below_drewN' w6 q7).mono (by omega))
    have N34 : Hid (v4.ownBlock = none ∨ v4.ownBlock ≠ v3.ownBlock) := own_ne' O3.out O4.out (Nat.le_refl _)
    have N23 : Hid (v2.ownBlock = none ∨ v2.ownBlock ≠ v3.ownBlock) := own_ne O2.out O3.out (Nat.le_refl _)
    have N24 : Hid (v2.ownBlock = none ∨ v2.ownBlock ≠ v4.ownBlock) := own_ne O2.out O4.out s3
    clear O2 O3 O4 O24 O6 B2 B3 B4 B6 BW4
    generalize hw7 : w6.drewN q7 = w7 at *
    have s7 : w6.heap.size = w7.heap.size := by rw [← hw7]; rfl
    clear hw7
    go_wp2_with fail
    refine (markByteS_any _ _ _ xs 1 O37.out (by omega) (by omega) (by omega)).mono ?_
    rintro e w8 ⟨rfl, o8, g8⟩
    have O48 : Hid (Own .u8 5 w8 w3.heap.size v4 (pk xs)) := O47.out.other g8 N34.out
    have O28 : Hid (Own .u8 5 w8 w.heap.size v2 (pk xs)) := O27.out.other g8 N23.out
    have BW8 : Hid (Below w.heap.size w w8) := BW7.out.grown g8 (by omega) (fun k hk => Nat.le_trans s2 (O37.out.lt k hk).1)
    have s8 := g8.size
    clear o8 g8 O47 O27 O37 BW7
    have hk0 : ¬ (1 + (xs.length : Int)) < 0 := by omega
    have hk0d : decide ((1 + (xs.length : Int)) < 0) = false := by simp; omega
    go_wp2_with fail
    refine (eqByteS_any _ _ _ (pk xs) (pk xs) O48.out.rd O28.out.rd).mono ?_
    rintro e w9 ⟨rfl, q9, rfl⟩
    rw [show decide (pk xs = pk xs) = true by simp]
    clear hk0 hk0d
    go_wp2_with fail
    refine (markByteS_any _ _ _ (pk xs) 1 (O48.out.drewN q9) (by omega) (by omega) HPL.out).mono ?_
    rintro e w10 ⟨rfl, o10, g10⟩
    have O210 : Hid (Own .u8 5 w10 w.heap.size v2 (pk xs)) := (O28.out.drewN q9).other g10 N24.out
    have O410 : Hid (Own .u8 5 w10 w3.heap.size v4 (marks 1 (pk xs).length)) := o10
    have BW10 : Hid (Below w.heap.size w w10) := (BW8.out.trans ((below_drewN' w8 q9).mono BW8.out.size)).grown g10 BW8.out.size (fun k hk => Nat.le_trans (Nat.le_trans s2 s3) (O48.out.lt k hk).1)
    clear o10 g10 O48 O28 BW8
    have hpl := HPL.out
    generalize hm : (pk xs).length = m at *
    have HM : Hid ((pk xs).length = m) := hm
    clear hm
    go_wp2_with fail
    refine (heldByteS_any _ _ m 1 O410.out.rd (by omega) (by omega) hpl).mono ?_
    rintro e w11 ⟨rfl, rfl⟩
    have hq0 : ¬ (1 + (m : Int)) < 0 := by omega
    go_wp2_with fail
    refine (toByteS_any _ _ xs (HR.out.below BW10.out) (by omega)).mono ?_
    rintro e w12 ⟨v12, rfl, o12, b12⟩
    go_wp2_with fail
    refine (implPack_any _ _ xs o12.rd hby (by omega)).mono ?_
    rintro e w13 ⟨v13, rfl, o13, b13⟩
    go_wp2_with fail
    refine (eqByteS_any _ _ _ (pk xs) (pk xs) o13.rd ((O210.out.below b12).below b13).rd).mono ?_
    rintro e w14 ⟨rfl, q14, rfl⟩
    rw [show decide (pk xs = pk xs) = true by simp]
    have BW13 : Hid (Below w.heap.size w w13) := (BW10.out.trans (b12.mono BW10.out.size)).trans (b13.mono (Nat.le_trans BW10.out.size b12.size))
    clear o12 b12 o13 b13
    go_wp2
    go_ret
    exact ⟨rfl, BW13.out.trans ((below_drewN' w13 q14).mono BW13.out.size)⟩

end Go.Proofs.Ytplfpfnedgjidaa
