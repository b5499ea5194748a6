import Derived.Test.YtplfpfnedgjidaaPay
namespace Go.Proofs.Ytplfpfnedgjidaa
open Go.RowKit

theorem unp_length (xs : List Int) : (unp xs).length ≤ xs.length := by
  unfold unp; split
  · rw [up_length]; omega
  · simp

set_option maxHeartbeats 1000000 in
set_option maxRecDepth 100000 in
theorem lawUnpack_walk (w : World) (v : Value) (xs : List Int) (h : Rd .u8 w v xs) (hby : Byt xs) :
    Calls Try.prog 7 #[v] w fun e w' => e = .returned (.bool true) ∧ Below w.heap.size w w' := by
  obtain ⟨ao, cap, hv, hl1, hl2⟩ := h.len
  have HR : Hid (Rd .u8 w v xs) := h
  subst hv
  clear h
  unfold maxLen at hl2
  by_cases hbig : 1048576 < xs.length
  · have hbI : (1048576 : Int) < (xs.length : Int) := by omega
    go_enter Try.func7, Try.ntmps7
    go_wp2
    go_ret
    exact ⟨rfl, Below.refl _ _⟩
  · have hbI : ¬ (1048576 : Int) < (xs.length : Int) := by omega
    have HPL : Hid ((unp xs).length ≤ 1099511627776) := by have := unp_length xs; show _ ≤ _; omega
    go_enter Try.func7, Try.ntmps7
    go_wp2_with fail
    refine (toByteS_any _ _ xs HR.out (by omega)).mono ?_
    rintro e w1 ⟨v1, rfl, o1, b1⟩
    go_wp2_with fail
    refine (specUnpack_any _ _ xs o1.rd hby (by omega)).mono ?_
    rintro e w2 ⟨v2, rfl, o2, b2⟩
    obtain ⟨a2, c2, rfl, _, _⟩ := o2.rd.len
    have B2 : Hid (Below w.heap.size w w2) := b1.trans (b2.mono b1.size)
    have O2 : Hid (Own .u8 5 w2 w.heap.size (.slice a2 (unp xs).length c2) (unp xs)) := o2.mono b1.size
    clear o1 b1 o2 b2
    go_wp2_with fail
    have BA : Hid (Below w2.heap.size w2 (w2.alloc (.cells #[(.slice a2 (unp xs).length c2)] 32))) := (Below.refl _ _).alloc (Nat.le_refl _) _
    have BX3 : Hid (Box (w2.alloc (.cells #[(.slice a2 (unp xs).length c2)] 32)) w2.heap.size (.slice a2 (unp xs).length c2)) := Box.new _ _ _
    have sA : w2.heap.size < (w2.alloc (.cells #[(.slice a2 (unp xs).length c2)] 32)).heap.size := by simp
    generalize w2.alloc (.cells #[(.slice a2 (unp xs).length c2)] 32) = wa at *
    have B2a : Hid (Below w.heap.size w wa) := B2.out.trans (BA.out.mono B2.out.size)
    have s2 := B2.out.size
    refine (toByteS_any _ _ xs (HR.out.below B2a.out) (by omega)).mono ?_
    rintro e w3 ⟨v3, rfl, o3, b3⟩
    have O3 : Hid (Own .u8 5 w3 wa.heap.size v3 xs) := o3
    have B3 : Hid (Below wa.heap.size wa w3) := b3
    have s3 := b3.size
    clear o3 b3
    go_wp2_with fail
    refine (implUnpack_any _ _ xs O3.out.rd hby (by omega)).mono ?_
    rintro e w4 ⟨v4, rfl, o4, b4⟩
    obtain ⟨a4, c4, rfl, _, _⟩ := o4.rd.len
    have O4 : Hid (Own .u8 5 w4 w3.heap.size (.slice a4 (unp xs).length c4) (unp xs)) := o4
    have B4 : Hid (Below w3.heap.size w3 w4) := b4
    have s4 := b4.size
    clear o4 b4
    have X3 : Hid (Box w4 w2.heap.size (.slice a2 (unp xs).length c2)) := (BX3.out.below B3.out).below B4.out
    have c3 := X3.out.2
    have z3 := X3.out.1
    go_wp2_with fail
    have BB : Hid (Below w4.heap.size w4 (w4.alloc (.cells #[(.slice a4 (unp xs).length c4)] 32))) := (Below.refl _ _).alloc (Nat.le_refl _) _
    have X5 : Hid (Box (w4.alloc (.cells #[(.slice a4 (unp xs).length c4)] 32)) w4.heap.size (.slice a4 (unp xs).length c4)) := Box.new _ _ _
    have sB : w4.heap.size < (w4.alloc (.cells #[(.slice a4 (unp xs).length c4)] 32)).heap.size := by simp
    generalize w4.alloc (.cells #[(.slice a4 (unp xs).length c4)] 32) = wb at *
    have O4b : Hid (Own .u8 5 wb w3.heap.size (.slice a4 (unp xs).length c4) (unp xs)) := O4.out.below BB.out
    have O2b : Hid (Own .u8 5 wb w.heap.size (.slice a2 (unp xs).length c2) (unp xs)) := (((O2.out.below BA.out).below B3.out).below B4.out).below BB.out
    have BWb : Hid (Below w.heap.size w wb) := ((B2a.out.trans (B3.out.mono (by omega))).trans (B4.out.mono (by omega))).trans (BB.out.mono (by omega))
    refine (eqPayload_any _ _ _ (unp xs) (unp xs) O4b.out.rd O2b.out.rd).mono ?_
    rintro e w5 ⟨rfl, b5⟩
    rw [show decide (unp xs = unp xs) = true by simp]
    have B5 : Hid (Below wb.heap.size wb w5) := b5
    have s5 := b5.size
    clear b5
    have BW5 : Hid (Below w.heap.size w w5) := BWb.out.trans (B5.out.mono (by omega))
    go_wp2_with fail
    refine (toByteS_any _ _ xs (HR.out.below BW5.out) (by omega)).mono ?_
    rintro e w6 ⟨v6, rfl, o6, b6⟩
    have O6 : Hid (Own .u8 5 w6 w5.heap.size v6 xs) := o6
    have B6 : Hid (Below w5.heap.size w5 w6) := b6
    have s6 := b6.size
    clear o6 b6
    have O36 : Hid (Own .u8 5 w6 wa.heap.size v3 xs) := (((O3.out.below B4.out).below BB.out).below B5.out).below B6.out
    go_wp2_with fail
    refine (eqByteS_any _ _ _ xs xs O36.out.rd O6.out.rd).mono ?_
    rintro e w7 ⟨rfl, q7, rfl⟩
    rw [show decide (xs = xs) = true by simp]
    have O37 : Hid (Own .u8 5 (w6.drewN q7) wa.heap.size v3 xs) := O36.out.drewN q7
    have O47 : Hid (Own .u8 5 (w6.drewN q7) w3.heap.size (.slice a4 (unp xs).length c4) (unp xs)) := ((O4b.out.below B5.out).below B6.out).drewN q7
    have O27 : Hid (Own .u8 5 (w6.drewN q7) w.heap.size (.slice a2 (unp xs).length c2) (unp xs)) := ((O2b.out.below B5.out).below B6.out).drewN q7
    have X37 : Hid (Box (w6.drewN q7) w2.heap.size (.slice a2 (unp xs).length c2)) := (((X3.out.below BB.out).below B5.out).below B6.out).drewN q7
    have X57 : Hid (Box (w6.drewN q7) w4.heap.size (.slice a4 (unp xs).length c4)) := ((X5.out.below B5.out).below B6.out).drewN q7
    have BW7 : Hid (Below w.heap.size w (w6.drewN q7)) := (BW5.out.trans (B6.out.mono (by omega))).trans ((below_drewN' w6 q7).mono (by omega))
    have N43 : Hid (Value.ownBlock (.slice a4 (unp xs).length c4) = none ∨ Value.ownBlock (.slice a4 (unp xs).length c4) ≠ v3.ownBlock) := own_ne' O3.out O4.out (Nat.le_refl _)
    have N23 : Hid (Value.ownBlock (.slice a2 (unp xs).length c2) = none ∨ Value.ownBlock (.slice a2 (unp xs).length c2) ≠ v3.ownBlock) := own_ne O2.out O3.out (by omega)
    have N24 : Hid (Value.ownBlock (.slice a2 (unp xs).length c2) = none ∨ Value.ownBlock (.slice a2 (unp xs).length c2) ≠ Value.ownBlock (.slice a4 (unp xs).length c4)) := own_ne O2.out O4.out (by omega)
    have M33 : Hid (some w2.heap.size ≠ v3.ownBlock) := box_own O3.out (by omega)
    have M53 : Hid (some w4.heap.size ≠ v3.ownBlock) := own_box O3.out (by omega)
    have M34 : Hid (some w2.heap.size ≠ Value.ownBlock (.slice a4 (unp xs).length c4)) := box_own O4.out (by omega)
    have M54 : Hid (some w4.heap.size ≠ Value.ownBlock (.slice a4 (unp xs).length c4)) := own_box O4.out (Nat.le_refl _)
    clear O2 O3 O4 O4b O2b O36 O6 B2 BA B2a B3 B4 BB B5 B6 BWb BW5 X3 X5 BX3 c3 z3
    generalize hw7 : w6.drewN q7 = w7 at *
    have s7 : w6.heap.size ≤ w7.heap.size := by rw [← hw7]; exact Nat.le_refl _
    clear hw7
    go_wp2_with fail
    refine (markByteS_any _ _ _ xs 1 O37.out (by omega) (by omega) (by omega)).mono ?_
    rintro e w8 ⟨rfl, o8, g8⟩
    have O48 : Hid (Own .u8 5 w8 w3.heap.size (.slice a4 (unp xs).length c4) (unp xs)) := O47.out.other g8 N43.out
    have O28 : Hid (Own .u8 5 w8 w.heap.size (.slice a2 (unp xs).length c2) (unp xs)) := O27.out.other g8 N23.out
    have X38 : Hid (Box w8 w2.heap.size (.slice a2 (unp xs).length c2)) := X37.out.other g8 M33.out
    have X58 : Hid (Box w8 w4.heap.size (.slice a4 (unp xs).length c4)) := X57.out.other g8 M53.out
    have BW8 : Hid (Below w.heap.size w w8) := BW7.out.grown g8 (by omega) (fun k hk => by have := (O37.out.lt k hk).1; omega)
    have s8 := g8.size
    clear o8 g8 O47 O27 O37 BW7 X37 X57
    have hk0 : ¬ (1 + (xs.length : Int)) < 0 := by omega
    have hk0d : decide ((1 + (xs.length : Int)) < 0) = false := by simp; omega
    have c3 := X38.out.2
    have c5 := X58.out.2
    go_wp2_with fail
    refine (eqPayload_any _ _ _ (unp xs) (unp xs) O48.out.rd O28.out.rd).mono ?_
    rintro e w9 ⟨rfl, b9⟩
    rw [show decide (unp xs = unp xs) = true by simp]
    have B9 : Hid (Below w8.heap.size w8 w9) := b9
    have s9 := b9.size
    clear b9 hk0 hk0d c3 c5
    have O49 : Hid (Own .u8 5 w9 w3.heap.size (.slice a4 (unp xs).length c4) (unp xs)) := O48.out.below B9.out
    have O29 : Hid (Own .u8 5 w9 w.heap.size (.slice a2 (unp xs).length c2) (unp xs)) := O28.out.below B9.out
    have X39 : Hid (Box w9 w2.heap.size (.slice a2 (unp xs).length c2)) := X38.out.below B9.out
    have X59 : Hid (Box w9 w4.heap.size (.slice a4 (unp xs).length c4)) := X58.out.below B9.out
    have BW9 : Hid (Below w.heap.size w w9) := BW8.out.trans (B9.out.mono (by omega))
    clear O48 O28 X38 X58 BW8 B9
    have c5 := X59.out.2
    go_wp2_with fail
    refine (markPayload_any _ _ _ (unp xs) 1 O49.out (by omega) (by omega) HPL.out).mono ?_
    rintro e w10 ⟨rfl, o10, g10⟩
    have O210 : Hid (Own .u8 5 w10 w.heap.size (.slice a2 (unp xs).length c2) (unp xs)) := O29.out.other g10 N24.out
    have O410 : Hid (Own .u8 5 w10 w3.heap.size (.slice a4 (unp xs).length c4) (marks 1 (unp xs).length)) := o10
    have X310 : Hid (Box w10 w2.heap.size (.slice a2 (unp xs).length c2)) := X39.out.other g10 M34.out
    have X510 : Hid (Box w10 w4.heap.size (.slice a4 (unp xs).length c4)) := X59.out.other g10 M54.out
    have BW10 : Hid (Below w.heap.size w w10) := BW9.out.grown g10 (by omega) (fun k hk => by have := (O49.out.lt k hk).1; omega)
    have s10 := g10.size
    clear o10 g10 O49 O29 BW9 X39 X59 c5
    have c5 := X510.out.2
    have hpl := HPL.out
    go_wp2_with fail
    refine (heldPayload_any _ _ (unp xs).length 1 O410.out.rd (by omega) (by omega) hpl).mono ?_
    rintro e w11 ⟨rfl, b11⟩
    have B11 : Hid (Below w10.heap.size w10 w11) := b11
    have s11 := b11.size
    have hq0 : ¬ (1 + ((unp xs).length : Int)) < 0 := by omega
    have BW11 : Hid (Below w.heap.size w w11) := BW10.out.trans (b11.mono (by omega))
    have X311 : Hid (Box w11 w2.heap.size (.slice a2 (unp xs).length c2)) := X310.out.below b11
    have O211 : Hid (Own .u8 5 w11 w.heap.size (.slice a2 (unp xs).length c2) (unp xs)) := O210.out.below b11
    clear b11 B11 O210 O410 X310 X510 c5 BW10
    go_wp2_with fail
    refine (toByteS_any _ _ xs (HR.out.below BW11.out) (by omega)).mono ?_
    rintro e w12 ⟨v12, rfl, o12, b12⟩
    go_wp2_with fail
    refine (implUnpack_any _ _ xs o12.rd hby (by omega)).mono ?_
    rintro e w13 ⟨v13, rfl, o13, b13⟩
    obtain ⟨a13, c13, rfl, _, _⟩ := o13.rd.len
    have O13 : Hid (Own .u8 5 w13 w12.heap.size (.slice a13 (unp xs).length c13) (unp xs)) := o13
    have O213 : Hid (Own .u8 5 w13 w.heap.size (.slice a2 (unp xs).length c2) (unp xs)) := (O211.out.below b12).below b13
    have X313 : Hid (Box w13 w2.heap.size (.slice a2 (unp xs).length c2)) := (X311.out.below b12).below b13
    have s12 := b12.size
    have s13 := b13.size
    have BW13 : Hid (Below w.heap.size w w13) := (BW11.out.trans (b12.mono (by omega))).trans (b13.mono (by omega))
    clear o12 b12 o13 b13 O211 X311 BW11
    have c3 := X313.out.2
    have z3 := X313.out.1
    go_wp2_with fail
    have BC : Hid (Below w13.heap.size w13 (w13.alloc (.cells #[.slice a13 (unp xs).length c13] 32))) := (Below.refl _ _).alloc (Nat.le_refl _) _
    refine (eqPayload_any _ _ _ (unp xs) (unp xs) (O13.out.below BC.out).rd (O213.out.below BC.out).rd).mono ?_
    rintro e w14 ⟨rfl, b14⟩
    rw [show decide (unp xs = unp xs) = true by simp]
    have BW14 : Hid (Below w.heap.size w w14) := (BW13.out.trans (BC.out.mono (by omega))).trans (b14.mono (by simp; omega))
    clear b14
    go_wp2
    go_ret
    exact ⟨rfl, BW14.out⟩

end Go.Proofs.Ytplfpfnedgjidaa
