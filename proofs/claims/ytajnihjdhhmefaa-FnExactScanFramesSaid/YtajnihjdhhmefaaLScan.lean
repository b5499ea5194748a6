import Derived.Test.YtajnihjdhhmefaaScanAny
namespace Go.Proofs.Ytajnihjdhhmefaa
open Go.RowKit

set_option maxHeartbeats 1000000 in
set_option maxRecDepth 100000 in
theorem lawScan_walk (w : World) (v : Value) (xs : List Int) (h : Rd .u8 w v xs) (hby : Byt xs) :
    Calls Try.prog 5 #[v] w fun e w' => e = .returned (.bool true) ∧ Below w.heap.size w w' := by
  obtain ⟨ao, cap, hv, hl1, hl2⟩ := h.len
  have HR : Hid (Rd .u8 w v xs) := h
  have HBY : Hid (Byt xs) := hby
  subst hv
  clear h hby
  unfold maxLen at hl2
  by_cases hbig : 1048576 < xs.length
  · have hbI : (1048576 : Int) < (xs.length : Int) := by omega
    go_enter Try.func5, Try.ntmps5
    go_wp2
    go_ret
    exact ⟨rfl, Below.refl _ _⟩
  · have hbI : ¬ (1048576 : Int) < (xs.length : Int) := by omega
    have HTOT : Hid (totP (scR xs) ≤ 8192 ∧ (scR xs).length ≤ 8192) := ⟨scR_tot xs, scR_len xs⟩
    go_enter Try.func5, Try.ntmps5
    go_wp2_with fail
    refine (toByteS_any _ _ xs HR.out (by omega)).mono ?_
    rintro e w1 ⟨v1, rfl, o1, b1⟩
    go_wp2_with fail
    refine (specScan_all _ _ _ xs o1 HBY.out (by omega)).mono ?_
    rintro e w2 ⟨a2, c2, us2, rfl, o2, b2⟩
    have B2 : Hid (Below w.heap.size w w2) := b1.trans (b2.mono b1.size)
    have O2 : Hid (OwnP w2 w1.heap.size (.slice a2 (scR xs).length c2) (scR xs) us2) := o2
    have L2 : Hid (LtP w2.heap.size (.slice a2 (scR xs).length c2) (scR xs) us2) := o2.lt
    have s1 := b1.size
    have s12 := b2.size
    clear o1 b1 o2 b2
    generalize hrs : scR xs = rs at *
    have HRS : Hid (scR xs = rs) := hrs
    clear hrs
    generalize hE : scE xs = E at *
    have HE : Hid (scE xs = E) := hE
    clear hE
    have hrl : rs.length ≤ 8192 := HTOT.out.2
    go_wp2_with fail
    have BA : Hid (Below w2.heap.size w2 (w2.alloc (.cells #[.slice a2 rs.length c2, .int .i64 E] 29))) := (Below.refl _ _).alloc (Nat.le_refl _) _
    have BX3 : Hid (Box2 (w2.alloc (.cells #[.slice a2 rs.length c2, .int .i64 E] 29)) w2.heap.size (.slice a2 rs.length c2) (.int .i64 E)) := Box2.new _ _ _ _
    have sA : (w2.alloc (.cells #[.slice a2 rs.length c2, .int .i64 E] 29)).heap.size = w2.heap.size + 1 := by simp
    generalize w2.alloc (.cells #[.slice a2 rs.length c2, .int .i64 E] 29) = wa at *
    have s2 := B2.out.size
    have B2a : Hid (Below w.heap.size w wa) := B2.out.trans (BA.out.mono s2)
    refine (toByteS_any _ _ xs (HR.out.below B2a.out) (by omega)).mono ?_
    rintro e w3 ⟨v3, rfl, o3, b3⟩
    have O3 : Hid (Own .u8 5 w3 wa.heap.size v3 xs) := o3
    have L3 : Hid (∀ g, v3.ownBlock = some g → wa.heap.size ≤ g ∧ g < w3.heap.size) := fun g e => o3.lt g e
    have B3 : Hid (Below wa.heap.size wa w3) := b3
    have s3 := b3.size
    clear o3 b3
    go_wp2_with fail
    refine (implScan_any _ _ _ xs O3.out HBY.out (by omega)).mono ?_
    rw [HRS.out, HE.out]
    rintro e w4 ⟨a4, c4, us4, rfl, o4, b4⟩
    have O4 : Hid (OwnP w4 w3.heap.size (.slice a4 rs.length c4) rs us4) := o4
    have L4 : Hid (LtP w4.heap.size (.slice a4 rs.length c4) rs us4) := o4.lt
    have B4 : Hid (Below w3.heap.size w3 w4) := b4
    have s4 := b4.size
    clear o4 b4
    have X3 : Hid (Box2 w4 w2.heap.size (.slice a2 rs.length c2) (.int .i64 E)) := (BX3.out.below B3.out).below B4.out
    obtain ⟨z3, c30, c31⟩ := X3.out
    go_wp2_with fail
    have BB : Hid (Below w4.heap.size w4 (w4.alloc (.cells #[.slice a4 rs.length c4, .int .i64 E] 29))) := (Below.refl _ _).alloc (Nat.le_refl _) _
    have X5 : Hid (Box2 (w4.alloc (.cells #[.slice a4 rs.length c4, .int .i64 E] 29)) w4.heap.size (.slice a4 rs.length c4) (.int .i64 E)) := Box2.new _ _ _ _
    have sB : (w4.alloc (.cells #[.slice a4 rs.length c4, .int .i64 E] 29)).heap.size = w4.heap.size + 1 := by simp
    generalize w4.alloc (.cells #[.slice a4 rs.length c4, .int .i64 E] 29) = wb at *
    have O4b : Hid (OwnP wb w3.heap.size (.slice a4 rs.length c4) rs us4) := O4.out.below BB.out
    have O2b : Hid (OwnP wb w1.heap.size (.slice a2 rs.length c2) rs us2) := (((O2.out.below BA.out).below B3.out).below B4.out).below BB.out
    have BWb : Hid (Below w.heap.size w wb) := ((B2a.out.trans (B3.out.mono (by omega))).trans (B4.out.mono (by omega))).trans (BB.out.mono (by omega))
    refine (eqScan_any _ _ _ _ _ rs rs O4b.out.rd O2b.out.rd (by omega)).mono ?_
    rintro e w5 ⟨rfl, b5⟩
    rw [show decide (rs = rs ∧ E = E) = true by simp]
    have B5 : Hid (Below wb.heap.size wb w5) := b5
    have s5 := b5.size
    clear b5 z3 c30 c31
    have BW5 : Hid (Below w.heap.size w w5) := BWb.out.trans (B5.out.mono (by omega))
    go_wp2_with fail
    refine (toByteS_any _ _ xs (HR.out.below BW5.out) (by omega)).mono ?_
    rintro e w6 ⟨v6, rfl, o6, b6⟩
    have O6 : Hid (Own .u8 5 w6 w5.heap.size v6 xs) := o6
    have B6 : Hid (Below w5.heap.size w5 w6) := b6
    have s6 := b6.size
    clear o6 b6
    have O36 : Hid (Own .u8 5 w6 wa.heap.size v3 xs) := (((O3.out.below B4.out).below BB.out).below B5.out).below B6.out
    go_wp2_with fail
    refine (eqByteS_any _ _ _ xs xs O36.out.rd O6.out.rd).mono ?_
    rintro e w7 ⟨rfl, q7, rfl⟩
    rw [show decide (xs = xs) = true by simp]
    have O37 : Hid (Own .u8 5 (w6.drewN q7) wa.heap.size v3 xs) := O36.out.drewN q7
    have b67 := below_drewN' w6 q7
    have O47 : Hid (OwnP (w6.drewN q7) w3.heap.size (.slice a4 rs.length c4) rs us4) := ((O4b.out.below B5.out).below B6.out).below b67
    have O27 : Hid (OwnP (w6.drewN q7) w1.heap.size (.slice a2 rs.length c2) rs us2) := ((O2b.out.below B5.out).below B6.out).below b67
    have X37 : Hid (Box2 (w6.drewN q7) w2.heap.size (.slice a2 rs.length c2) (.int .i64 E)) := (((X3.out.below BB.out).below B5.out).below B6.out).below b67
    have X57 : Hid (Box2 (w6.drewN q7) w4.heap.size (.slice a4 rs.length c4) (.int .i64 E)) := ((X5.out.below B5.out).below B6.out).below b67
    have BW7 : Hid (Below w.heap.size w (w6.drewN q7)) := (BW5.out.trans (B6.out.mono (by omega))).trans (b67.mono (by omega))
    clear O2 O3 O4 O4b O2b O36 O6 B2 BA B2a B3 B4 BB B5 B6 BWb BW5 X3 X5 BX3 b67
    generalize hw7 : w6.drewN q7 = w7 at *
    have s7 : w6.heap.size ≤ w7.heap.size := by rw [← hw7]; exact Nat.le_refl _
    clear hw7
    go_wp2_with fail
    refine (markByteS_any _ _ _ xs 1 O37.out (by omega) (by omega) (by omega)).mono ?_
    rintro e w8 ⟨rfl, o8, g8⟩
    have W8 : Hid (Within wa.heap.size w3.heap.size w7 w8) := Within.of_grown g8 (fun q hq => L3.out q hq)
    have O48 : Hid (OwnP w8 w3.heap.size (.slice a4 rs.length c4) rs us4) := W8.out.ownP' O47.out L4.out (.inr (Nat.le_refl _))
    have O28 : Hid (OwnP w8 w1.heap.size (.slice a2 rs.length c2) rs us2) := W8.out.ownP' O27.out L2.out (.inl (by omega))
    have X38 : Hid (Box2 w8 w2.heap.size (.slice a2 rs.length c2) (.int .i64 E)) := W8.out.box2 X37.out (.inl (by omega))
    have X58 : Hid (Box2 w8 w4.heap.size (.slice a4 rs.length c4) (.int .i64 E)) := W8.out.box2 X57.out (.inr (by omega))
    have BW8 : Hid (Below w.heap.size w w8) := Within.below BW7.out W8.out (by omega) (by omega)
    have s8 := g8.size
    clear o8 g8 O47 O27 O37 BW7 X37 X57 W8
    have hk0 : ¬ (1 + (xs.length : Int)) < 0 := by omega
    have hk0d : decide ((1 + (xs.length : Int)) < 0) = false := by simp; omega
    obtain ⟨z3, c30, c31⟩ := X38.out
    obtain ⟨z5, c50, c51⟩ := X58.out
    go_wp2_with fail
    refine (eqScan_any _ _ _ _ _ rs rs O48.out.rd O28.out.rd (by omega)).mono ?_
    rintro e w9 ⟨rfl, b9⟩
    rw [show decide (rs = rs ∧ E = E) = true by simp]
    have O49 : Hid (OwnP w9 w3.heap.size (.slice a4 rs.length c4) rs us4) := O48.out.below b9
    have O29 : Hid (OwnP w9 w1.heap.size (.slice a2 rs.length c2) rs us2) := O28.out.below b9
    have X39 : Hid (Box2 w9 w2.heap.size (.slice a2 rs.length c2) (.int .i64 E)) := X38.out.below b9
    have X59 : Hid (Box2 w9 w4.heap.size (.slice a4 rs.length c4) (.int .i64 E)) := X58.out.below b9
    have BW9 : Hid (Below w.heap.size w w9) := BW8.out.trans (b9.mono (by omega))
    have s9 := b9.size
    clear b9 hk0 hk0d z3 c30 c31 z5 c50 c51 O48 O28 X38 X58 BW8
    obtain ⟨z5, c50, c51⟩ := X59.out
    go_wp2_with fail
    refine (markScan_any _ w3.heap.size w4.heap.size _ _ rs us4 1 O49.out L4.out (by omega) (by omega) (by omega) (by have := HTOT.out.1; omega)).mono ?_
    rintro e w10 ⟨rfl, o10, g10⟩
    have O210 : Hid (OwnP w10 w1.heap.size (.slice a2 rs.length c2) rs us2) := g10.ownP' O29.out L2.out (.inl (by omega))
    have O410 : Hid (OwnP w10 w3.heap.size (.slice a4 rs.length c4) (mkR rs 1) us4) := o10
    have X310 : Hid (Box2 w10 w2.heap.size (.slice a2 rs.length c2) (.int .i64 E)) := g10.box2 X39.out (.inl (by omega))
    have X510 : Hid (Box2 w10 w4.heap.size (.slice a4 rs.length c4) (.int .i64 E)) := g10.box2 X59.out (.inr (Nat.le_refl _))
    have BW10 : Hid (Below w.heap.size w w10) := Within.below BW9.out g10 (by omega) (by omega)
    have s10 := g10.size
    clear o10 g10 O49 O29 BW9 X39 X59 z5 c50 c51
    obtain ⟨z5, c50, c51⟩ := X510.out
    have hkb : 1 ≤ kp rs 1 rs.length ∧ kp rs 1 rs.length ≤ 8193 := by
      unfold kp
      rw [List.take_of_length_le (Nat.le_refl _)]
      have := HTOT.out.1
      omega
    go_wp2_with fail
    refine (heldScan_any _ _ _ rs 1 O410.out.rd (by omega) (by omega) (by omega) (by have := HTOT.out.1; omega)).mono ?_
    rintro e w11 ⟨rfl, b11⟩
    have s11 := b11.size
    have hq0 : ¬ kp rs 1 rs.length < 0 := by omega
    have hq0d : decide (kp rs 1 rs.length < 0) = false := by simpa using hq0
    have hqq : (kp rs 1 rs.length != kp rs 1 rs.length) = false := by simp
    have BW11 : Hid (Below w.heap.size w w11) := BW10.out.trans (b11.mono (by omega))
    have X311 : Hid (Box2 w11 w2.heap.size (.slice a2 rs.length c2) (.int .i64 E)) := X310.out.below b11
    have O211 : Hid (OwnP w11 w1.heap.size (.slice a2 rs.length c2) rs us2) := O210.out.below b11
    clear b11 O210 O410 X310 X510 z5 c50 c51 BW10
    generalize kp rs 1 rs.length = kq at *
    go_wp2_with fail
    refine (toByteS_any _ _ xs (HR.out.below BW11.out) (by omega)).mono ?_
    rintro e w12 ⟨v12, rfl, o12, b12⟩
    have X312 : Hid (Box2 w12 w2.heap.size (.slice a2 rs.length c2) (.int .i64 E)) := X311.out.below b12
    have O212 : Hid (OwnP w12 w1.heap.size (.slice a2 rs.length c2) rs us2) := O211.out.below b12
    have BW12 : Hid (Below w.heap.size w w12) := BW11.out.trans (b12.mono (by omega))
    have O12 : Hid (Own .u8 5 w12 w11.heap.size v12 xs) := o12
    have s12b := b12.size
    clear o12 b12 X311 O211 BW11
    go_wp2_with fail
    refine (implScan_any _ _ _ xs O12.out HBY.out (by omega)).mono ?_
    rw [HRS.out, HE.out]
    rintro e w13 ⟨a13, c13, us13, rfl, o13, b13⟩
    have O13 : Hid (OwnP w13 w12.heap.size (.slice a13 rs.length c13) rs us13) := o13
    have O213 : Hid (OwnP w13 w1.heap.size (.slice a2 rs.length c2) rs us2) := O212.out.below b13
    have X313 : Hid (Box2 w13 w2.heap.size (.slice a2 rs.length c2) (.int .i64 E)) := X312.out.below b13
    have s13 := b13.size
    have BW13 : Hid (Below w.heap.size w w13) := BW12.out.trans (b13.mono (by omega))
    clear o13 b13 O212 X312 BW12 O12
    obtain ⟨z3, c30, c31⟩ := X313.out
    go_wp2_with fail
    have BC : Hid (Below w13.heap.size w13 (w13.alloc (.cells #[.slice a13 rs.length c13, .int .i64 E] 29))) := (Below.refl _ _).alloc (Nat.le_refl _) _
    refine (eqScan_any _ _ _ _ _ rs rs (O13.out.below BC.out).rd (O213.out.below BC.out).rd (by omega)).mono ?_
    rintro e w14 ⟨rfl, b14⟩
    rw [show decide (rs = rs ∧ E = E) = true by simp]
    have BW14 : Hid (Below w.heap.size w w14) := (BW13.out.trans (BC.out.mono (by omega))).trans (b14.mono (by simp; omega))
    clear b14
    go_wp2
    go_ret
    exact ⟨rfl, BW14.out⟩

end Go.Proofs.Ytajnihjdhhmefaa
