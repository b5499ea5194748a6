import Derived.Test.YtmgolinleiahpaaImplWrite2
import Derived.Test.YtmgolinleiahpaaLWrite0
import Derived.Test.YtmgolinleiahpaaSpecWrite3
namespace Go.Proofs.Ytmgolinleiahpaa
open Go.RowKit

set_option maxHeartbeats 3000000 in
set_option maxRecDepth 100000 in
theorem lawWrite_walk (w : World) (vd vp : Value) (dur : List Int) (ps : List (Int × List Int)) (x : Int) (v : Value) (xs : List Int) (h : InD w vd vp dur ps) (hb : Rd .u8 w v xs) :
    Calls Try.prog 6 #[.agg #[vd, vp], .int .i64 x, v] w fun e w' => e = .returned (.bool true) ∧ Below w.heap.size w w' := by
  obtain ⟨hr, hp, _, _⟩ := h
  obtain ⟨ao, ca, rfl, _, _⟩ := hr.len
  obtain ⟨bo, cb, rfl, _, _⟩ := hp.len
  obtain ⟨xo, cx, rfl, hl1, hl2⟩ := hb.len
  unfold maxLen at hl2
  have B0 : Hid (Below w.heap.size w (w.alloc (.cells #[.slice ao dur.length ca, .slice bo ps.length cb] 46))) := (Below.refl _ _).alloc (Nat.le_refl _) _
  have X0 : Hid (Box2 (w.alloc (.cells #[.slice ao dur.length ca, .slice bo ps.length cb] 46)) w.heap.size (.slice ao dur.length ca) (.slice bo ps.length cb)) := Box2.new _ _ _ _
  have HR : Hid (Rd .u8 w (.slice ao dur.length ca) dur) := hr
  have HP : Hid (RdW w (.slice bo ps.length cb) ps) := hp
  have HX : Hid (Rd .u8 w (.slice xo xs.length cx) xs) := hb
  clear hr hp hb
  by_cases hbig : 1048576 < xs.length
  · have hbI : (1048576 : Int) < (xs.length : Int) := by omega
    go_enter Try.func6, Try.ntmps6
    go_wp2
    go_ret
    exact ⟨rfl, B0.out⟩
  · have hbI : ¬ (1048576 : Int) < (xs.length : Int) := by omega
    go_enter Try.func6, Try.ntmps6
    go_wp2_with fail
    generalize w.alloc (.cells #[.slice ao dur.length ca, .slice bo ps.length cb] 46) = w0 at *
    refine (szDisk_any _ _ _ dur ps (HR.out.below B0.out) (HP.out.below B0.out)).mono ?_
    rintro e w1 ⟨r, rfl, hsz, b1⟩
    have B1 : Hid (Below w.heap.size w w1) := B0.out.trans (b1.mono B0.out.size)
    have X1 : Hid (Box2 w1 w.heap.size (.slice ao dur.length ca) (.slice bo ps.length cb)) := X0.out.below b1
    clear b1 X0 B0
    by_cases hneg : r < 0
    · clear hsz
      go_wp2
      go_ret
      exact ⟨rfl, B1.out⟩
    · have hsz' : r + dur.length + ps.length + tot ps = 1048576 := by omega
      have hl : dur.length ≤ 1048576 := by omega
      have hn : ps.length ≤ 1048576 := by omega
      have ht : Hid (tot ps ≤ 1048576) := by show _ ≤ _; omega
      have hd : Hid (∀ i, (pD ps i).length ≤ 1048576) := fun i => by have := tot_ge ps i; omega
      clear hsz hsz'
      obtain ⟨z1, c0, c1⟩ := X1.out
      go_wp2_with fail
      obtain ⟨hD, hQ, hT⟩ := wr_bounds dur ps x xs hl
      have HS : Hid (∀ (W : World) (v1 v2 v3 : Value), Rd .u8 W v1 dur → RdW W v2 ps → Rd .u8 W v3 xs → Calls Try.prog 16 #[.agg #[v1, v2], .int .i64 x, v3] W fun e w' => ∃ a1 c1 a2 c2 dv, e = .returned (.agg #[.slice a1 (wrDur dur ps x xs).length c1, .slice a2 (wrPend dur ps x xs).length c2]) ∧ OwnD w' W.heap.size w'.heap.size (.slice a1 (wrDur dur ps x xs).length c1) (.slice a2 (wrPend dur ps x xs).length c2) (wrDur dur ps x xs) (wrPend dur ps x xs) dv ∧ Below W.heap.size W w') := by
        intro W v1 v2 v3 h1 h2 h3
        refine (specWrite_any W v1 v2 v3 dur xs ps x h1 h2 h3 hl hn hd.out).mono ?_
        rintro e w' ⟨u1, u2, dv, rfl, o, b⟩
        obtain ⟨a1, c1, rfl⟩ := o.d.slice
        obtain ⟨a2, c2, rfl⟩ := o.p.slice
        exact ⟨a1, c1, a2, c2, dv, rfl, o, b⟩
      have HI : Hid (∀ (W : World) (v1 v2 v3 : Value), Rd .u8 W v1 dur → RdW W v2 ps → Rd .u8 W v3 xs → Calls Try.prog 15 #[.agg #[v1, v2], .int .i64 x, v3] W fun e w' => ∃ a1 c1 a2 c2 dv, e = .returned (.agg #[.slice a1 (wrDur dur ps x xs).length c1, .slice a2 (wrPend dur ps x xs).length c2]) ∧ OwnD w' W.heap.size w'.heap.size (.slice a1 (wrDur dur ps x xs).length c1) (.slice a2 (wrPend dur ps x xs).length c2) (wrDur dur ps x xs) (wrPend dur ps x xs) dv ∧ Below W.heap.size W w') := by
        intro W v1 v2 v3 h1 h2 h3
        refine (implWrite_any W v1 v2 v3 dur xs ps x h1 h2 h3 hl hn hd.out).mono ?_
        rintro e w' ⟨u1, u2, dv, rfl, o, b⟩
        obtain ⟨a1, c1, rfl⟩ := o.d.slice
        obtain ⟨a2, c2, rfl⟩ := o.p.slice
        exact ⟨a1, c1, a2, c2, dv, rfl, o, b⟩
      generalize wrDur dur ps x xs = D at *
      generalize wrPend dur ps x xs = Q at *
      have hT' : Hid (tot Q ≤ 1048576) := hT
      clear hT
      refine (toDisk_ownD _ _ _ dur ps (HR.out.below B1.out) (HP.out.below B1.out) hl hn hd.out).mono ?_
      rintro e w2 ⟨ta, tc, tb, te, td, rfl, o2, b2⟩
      have B2 : Hid (Below w.heap.size w w2) := B1.out.trans (b2.mono B1.out.size)
      have XA2 : Hid (Box2 w2 w.heap.size (.slice ao dur.length ca) (.slice bo ps.length cb)) := X1.out.below b2
      have T2 : Hid (OwnD w2 w1.heap.size w2.heap.size (.slice ta dur.length tc) (.slice tb ps.length te) dur ps td) := o2
      clear o2 b2 X1 z1 c0 c1
      go_wp2_with fail
      refine (toByteS_any _ _ xs (HX.out.below B2.out) (by omega)).mono ?_
      rintro e w3 ⟨t3, rfl, o3, b3⟩
      have B3 : Hid (Below w.heap.size w w3) := B2.out.trans (b3.mono B2.out.size)
      have XA3 : Hid (Box2 w3 w.heap.size (.slice ao dur.length ca) (.slice bo ps.length cb)) := XA2.out.below b3
      have T3 : Hid (OwnD w3 w1.heap.size w2.heap.size (.slice ta dur.length tc) (.slice tb ps.length te) dur ps td) := T2.out.below b3
      have R3 : Hid (Rd .u8 w3 t3 xs) := o3.rd
      clear o3 b3 XA2 T2
      go_wp2_with fail
      refine (HS.out _ _ _ _ T3.out.d.rd T3.out.p.rd R3.out).mono ?_
      rintro e w4 ⟨sa, sc, sb, se, sd, rfl, o4, b4⟩
      have B4 : Hid (Below w.heap.size w w4) := B3.out.trans (b4.mono B3.out.size)
      have XA4 : Hid (Box2 w4 w.heap.size (.slice ao dur.length ca) (.slice bo ps.length cb)) := XA3.out.below b4
      have S4 : Hid (OwnD w4 w3.heap.size w4.heap.size (.slice sa D.length sc) (.slice sb Q.length se) D Q sd) := o4
      have s3 := B3.out.size
      have s4 := b4.size
      clear o4 b4 XA3 T3 R3
      obtain ⟨z1, c0, c1⟩ := XA4.out
      go_wp2_with fail
      have BAw5 : Hid (Below w4.heap.size w4 (w4.alloc (.cells #[(.slice sa D.length sc), (.slice sb Q.length se)] 32))) := (Below.refl _ _).alloc (Nat.le_refl _) _
      have Yw5 : Hid (Box2 (w4.alloc (.cells #[(.slice sa D.length sc), (.slice sb Q.length se)] 32)) w4.heap.size (.slice sa D.length sc) (.slice sb Q.length se)) := Box2.new _ _ _ _
      have zw5 : w4.heap.size < (w4.alloc (.cells #[(.slice sa D.length sc), (.slice sb Q.length se)] 32)).heap.size := by simp
      generalize w4.alloc (.cells #[(.slice sa D.length sc), (.slice sb Q.length se)] 32) = w5 at *
      have B5 : Hid (Below w.heap.size w w5) := B4.out.trans (BAw5.out.mono (by omega))
      have S5 : Hid (OwnD w5 w3.heap.size w4.heap.size (.slice sa D.length sc) (.slice sb Q.length se) D Q sd) := S4.out.below BAw5.out
      have XA5 : Hid (Box2 w5 w.heap.size (.slice ao dur.length ca) (.slice bo ps.length cb)) := XA4.out.below BAw5.out
      have XS5 : Hid (Box2 w5 w4.heap.size (.slice sa D.length sc) (.slice sb Q.length se)) := Yw5.out
      clear Yw5 BAw5 S4 XA4 z1 c0 c1 B4
      refine (toDisk_ownD _ _ _ dur ps (HR.out.below B5.out) (HP.out.below B5.out) hl hn hd.out).mono ?_
      rintro e w6 ⟨xa, xc, xb, xe, xd, rfl, o6, b6⟩
      have s6 := b6.size
      have B6 : Hid (Below w.heap.size w w6) := B5.out.trans (b6.mono (by omega))
      have S6 : Hid (OwnD w6 w3.heap.size w4.heap.size (.slice sa D.length sc) (.slice sb Q.length se) D Q sd) := S5.out.below b6
      have XA6 : Hid (Box2 w6 w.heap.size (.slice ao dur.length ca) (.slice bo ps.length cb)) := XA5.out.below b6
      have XS6 : Hid (Box2 w6 w4.heap.size (.slice sa D.length sc) (.slice sb Q.length se)) := XS5.out.below b6
      have X6 : Hid (OwnD w6 w5.heap.size w6.heap.size (.slice xa dur.length xc) (.slice xb ps.length xe) dur ps xd) := o6
      clear o6 b6 S5 XA5 XS5 B5
      obtain ⟨z1, c0, c1⟩ := XA6.out
      go_wp2_with fail
      have BAw7 : Hid (Below w6.heap.size w6 (w6.alloc (.cells #[(.slice xa dur.length xc), (.slice xb ps.length xe)] 32))) := (Below.refl _ _).alloc (Nat.le_refl _) _
      have Yw7 : Hid (Box2 (w6.alloc (.cells #[(.slice xa dur.length xc), (.slice xb ps.length xe)] 32)) w6.heap.size (.slice xa dur.length xc) (.slice xb ps.length xe)) := Box2.new _ _ _ _
      have zw7 : w6.heap.size < (w6.alloc (.cells #[(.slice xa dur.length xc), (.slice xb ps.length xe)] 32)).heap.size := by simp
      generalize w6.alloc (.cells #[(.slice xa dur.length xc), (.slice xb ps.length xe)] 32) = w7 at *
      have B7 : Hid (Below w.heap.size w w7) := B6.out.trans (BAw7.out.mono (by omega))
      have S7 : Hid (OwnD w7 w3.heap.size w4.heap.size (.slice sa D.length sc) (.slice sb Q.length se) D Q sd) := S6.out.below BAw7.out
      have XA7 : Hid (Box2 w7 w.heap.size (.slice ao dur.length ca) (.slice bo ps.length cb)) := XA6.out.below BAw7.out
      have XS7 : Hid (Box2 w7 w4.heap.size (.slice sa D.length sc) (.slice sb Q.length se)) := XS6.out.below BAw7.out
      have X7 : Hid (OwnD w7 w5.heap.size w6.heap.size (.slice xa dur.length xc) (.slice xb ps.length xe) dur ps xd) := X6.out.below BAw7.out
      have XX7 : Hid (Box2 w7 w6.heap.size (.slice xa dur.length xc) (.slice xb ps.length xe)) := Yw7.out
      clear Yw7 BAw7 S6 XA6 XS6 X6 B6 z1 c0 c1
      refine (toByteS_any _ _ xs (HX.out.below B7.out) (by omega)).mono ?_
      rintro e w8 ⟨x2, rfl, o8, b8⟩
      have s8 := b8.size
      have B8 : Hid (Below w.heap.size w w8) := B7.out.trans (b8.mono (by omega))
      have S8 : Hid (OwnD w8 w3.heap.size w4.heap.size (.slice sa D.length sc) (.slice sb Q.length se) D Q sd) := S7.out.below b8
      have XA8 : Hid (Box2 w8 w.heap.size (.slice ao dur.length ca) (.slice bo ps.length cb)) := XA7.out.below b8
      have XS8 : Hid (Box2 w8 w4.heap.size (.slice sa D.length sc) (.slice sb Q.length se)) := XS7.out.below b8
      have X8 : Hid (OwnD w8 w5.heap.size w6.heap.size (.slice xa dur.length xc) (.slice xb ps.length xe) dur ps xd) := X7.out.below b8
      have XX8 : Hid (Box2 w8 w6.heap.size (.slice xa dur.length xc) (.slice xb ps.length xe)) := XX7.out.below b8
      have T8 : Hid (Own .u8 5 w8 w7.heap.size x2 xs) := o8
      have HL8 : Hid (∀ g, x2.ownBlock = some g → g < w8.heap.size) := fun g hg => (T8.out.lt g hg).2
      clear o8 b8 S7 XA7 XS7 X7 XX7 B7
      obtain ⟨z1, c0, c1⟩ := XX8.out
      go_wp2_with fail
      refine (HI.out _ _ _ _ X8.out.d.rd X8.out.p.rd T8.out.rd).mono ?_
      rintro e w9 ⟨ga, gc, gb, ge, gd, rfl, o9, b9⟩
      have s9 := b9.size
      have B9 : Hid (Below w.heap.size w w9) := B8.out.trans (b9.mono (by omega))
      have S9 : Hid (OwnD w9 w3.heap.size w4.heap.size (.slice sa D.length sc) (.slice sb Q.length se) D Q sd) := S8.out.below b9
      have XA9 : Hid (Box2 w9 w.heap.size (.slice ao dur.length ca) (.slice bo ps.length cb)) := XA8.out.below b9
      have XS9 : Hid (Box2 w9 w4.heap.size (.slice sa D.length sc) (.slice sb Q.length se)) := XS8.out.below b9
      have X9 : Hid (OwnD w9 w5.heap.size w6.heap.size (.slice xa dur.length xc) (.slice xb ps.length xe) dur ps xd) := X8.out.below b9
      have XX9 : Hid (Box2 w9 w6.heap.size (.slice xa dur.length xc) (.slice xb ps.length xe)) := XX8.out.below b9
      have T9 : Hid (Own .u8 5 w9 w7.heap.size x2 xs) := T8.out.below b9
      have G9 : Hid (OwnD w9 w8.heap.size w9.heap.size (.slice ga D.length gc) (.slice gb Q.length ge) D Q gd) := o9
      clear o9 b9 S8 XA8 XS8 X8 XX8 T8 B8 z1 c0 c1
      obtain ⟨z1, c0, c1⟩ := XX9.out
      obtain ⟨z2, d0, d1⟩ := XS9.out
      go_wp2_with fail
      have BAw10 : Hid (Below w9.heap.size w9 (w9.alloc (.cells #[(.slice ga D.length gc), (.slice gb Q.length ge)] 32))) := (Below.refl _ _).alloc (Nat.le_refl _) _
      have Yw10 : Hid (Box2 (w9.alloc (.cells #[(.slice ga D.length gc), (.slice gb Q.length ge)] 32)) w9.heap.size (.slice ga D.length gc) (.slice gb Q.length ge)) := Box2.new _ _ _ _
      have zw10 : w9.heap.size < (w9.alloc (.cells #[(.slice ga D.length gc), (.slice gb Q.length ge)] 32)).heap.size := by simp
      generalize w9.alloc (.cells #[(.slice ga D.length gc), (.slice gb Q.length ge)] 32) = w10 at *
      have B10 : Hid (Below w.heap.size w w10) := B9.out.trans (BAw10.out.mono (by omega))
      have S10 : Hid (OwnD w10 w3.heap.size w4.heap.size (.slice sa D.length sc) (.slice sb Q.length se) D Q sd) := S9.out.below BAw10.out
      have XA10 : Hid (Box2 w10 w.heap.size (.slice ao dur.length ca) (.slice bo ps.length cb)) := XA9.out.below BAw10.out
      have XS10 : Hid (Box2 w10 w4.heap.size (.slice sa D.length sc) (.slice sb Q.length se)) := XS9.out.below BAw10.out
      have X10 : Hid (OwnD w10 w5.heap.size w6.heap.size (.slice xa dur.length xc) (.slice xb ps.length xe) dur ps xd) := X9.out.below BAw10.out
      have XX10 : Hid (Box2 w10 w6.heap.size (.slice xa dur.length xc) (.slice xb ps.length xe)) := XX9.out.below BAw10.out
      have T10 : Hid (Own .u8 5 w10 w7.heap.size x2 xs) := T9.out.below BAw10.out
      have G10 : Hid (OwnD w10 w8.heap.size w9.heap.size (.slice ga D.length gc) (.slice gb Q.length ge) D Q gd) := G9.out.below BAw10.out
      have XG10 : Hid (Box2 w10 w9.heap.size (.slice ga D.length gc) (.slice gb Q.length ge)) := Yw10.out
      clear Yw10 BAw10 z1 c0 c1 z2 d0 d1
      clear S9 XA9 XS9 X9 XX9 T9 G9 B9
      refine (eqDisk_any _ _ _ _ _ D D Q Q G10.out.d.rd S10.out.d.rd G10.out.p.rd S10.out.p.rd hQ).mono ?_
      rintro e w11 ⟨rfl, b11⟩
      rw [show decide (D = D ∧ Q = Q) = true by simp]
      have s11 := b11.size
      have B11 : Hid (Below w.heap.size w w11) := B10.out.trans (b11.mono (by omega))
      have S11 : Hid (OwnD w11 w3.heap.size w4.heap.size (.slice sa D.length sc) (.slice sb Q.length se) D Q sd) := S10.out.below b11
      have XA11 : Hid (Box2 w11 w.heap.size (.slice ao dur.length ca) (.slice bo ps.length cb)) := XA10.out.below b11
      have XS11 : Hid (Box2 w11 w4.heap.size (.slice sa D.length sc) (.slice sb Q.length se)) := XS10.out.below b11
      have X11 : Hid (OwnD w11 w5.heap.size w6.heap.size (.slice xa dur.length xc) (.slice xb ps.length xe) dur ps xd) := X10.out.below b11
      have XX11 : Hid (Box2 w11 w6.heap.size (.slice xa dur.length xc) (.slice xb ps.length xe)) := XX10.out.below b11
      have T11 : Hid (Own .u8 5 w11 w7.heap.size x2 xs) := T10.out.below b11
      have G11 : Hid (OwnD w11 w8.heap.size w9.heap.size (.slice ga D.length gc) (.slice gb Q.length ge) D Q gd) := G10.out.below b11
      have XG11 : Hid (Box2 w11 w9.heap.size (.slice ga D.length gc) (.slice gb Q.length ge)) := XG10.out.below b11
      clear b11
      clear S10 XA10 XS10 X10 XX10 T10 G10 XG10 B10
      have HTD : Hid (∀ q, Calls Try.prog 23 #[.agg #[.slice ao dur.length ca, .slice bo ps.length cb]] (w11.drewN q) fun e w' => ∃ va ka vb kb, e = .returned (.agg #[.slice va dur.length ka, .slice vb ps.length kb]) ∧ Hid (Rd .u8 w' (.slice va dur.length ka) dur) ∧ Hid (RdW w' (.slice vb ps.length kb) ps) ∧
          Hid (Rd .u8 w' (.slice xa dur.length xc) dur) ∧ Hid (RdW w' (.slice xb ps.length xe) ps) ∧ w'.cell? ⟨w6.heap.size, 0, none⟩ = some (.slice xa dur.length xc) ∧ w'.cell? ⟨w6.heap.size, 1, none⟩ = some (.slice xb ps.length xe) ∧ Hid (Below w11.heap.size w11 w')) := by
        intro q
        refine (toDisk_any _ _ _ dur ps ((HR.out.below B11.out).drewN q) ((HP.out.below B11.out).below (below_drewN' w11 q)) hl hn hd.out).mono ?_
        rintro e w' ⟨va, ka, vb, kb, dv, mid, rfl, o', _, q', _, b'⟩
        have b6' : Below w11.heap.size w11 w' := (below_drewN' w11 q).trans b'
        have Y' := XX11.out.below b6'
        exact ⟨va, ka, vb, kb, rfl, o'.rd, q'.rd, X11.out.d.rd.below b6', X11.out.p.rd.below b6', Y'.2.1, Y'.2.2, b6'⟩
      obtain ⟨z1, c0, c1⟩ := XA11.out
      obtain ⟨z2, d0, d1⟩ := XX11.out
      go_wp2
      go_region_with (first | (go_at_call 23; refine (HTD.out 1).mono ?_; rintro e w' ⟨va, ka, vb, kb, rfl, r1, r2, r3, r4, k0, k1, bw⟩) | (go_at_call 25; refine (eqDisk_any _ _ _ _ _ dur dur ps ps r3.out r1.out r4.out r2.out hn).mono ?_; rintro e w12 ⟨rfl, b12⟩; rw [show decide (dur = dur ∧ ps = ps) = true by simp]))
      all_goals
        have bb : Below w11.heap.size w11 w12 := bw.out.trans (b12.mono bw.out.size)
        have s12 := bb.size
        have B12 : Hid (Below w.heap.size w w12) := B11.out.trans (bb.mono (by omega))
        have S12 : Hid (OwnD w12 w3.heap.size w4.heap.size (.slice sa D.length sc) (.slice sb Q.length se) D Q sd) := S11.out.below bb
        have XA12 : Hid (Box2 w12 w.heap.size (.slice ao dur.length ca) (.slice bo ps.length cb)) := XA11.out.below bb
        have XS12 : Hid (Box2 w12 w4.heap.size (.slice sa D.length sc) (.slice sb Q.length se)) := XS11.out.below bb
        have X12 : Hid (OwnD w12 w5.heap.size w6.heap.size (.slice xa dur.length xc) (.slice xb ps.length xe) dur ps xd) := X11.out.below bb
        have XX12 : Hid (Box2 w12 w6.heap.size (.slice xa dur.length xc) (.slice xb ps.length xe)) := XX11.out.below bb
        have T12 : Hid (Own .u8 5 w12 w7.heap.size x2 xs) := T11.out.below bb
        have G12 : Hid (OwnD w12 w8.heap.size w9.heap.size (.slice ga D.length gc) (.slice gb Q.length ge) D Q gd) := G11.out.below bb
        have XG12 : Hid (Box2 w12 w9.heap.size (.slice ga D.length gc) (.slice gb Q.length ge)) := XG11.out.below bb
        clear bb b12 bw r1 r2 r3 r4 k0 k1 HTD z1 c0 c1 z2 d0 d1
        clear S11 XA11 XS11 X11 XX11 T11 G11 XG11 B11
        go_wp2_with fail
        refine (toByteS_any _ _ xs (HX.out.below B12.out) (by omega)).mono ?_
        rintro e w13 ⟨t13, rfl, o13, b13⟩
        have s13 := b13.size
        have B13 : Hid (Below w.heap.size w w13) := B12.out.trans (b13.mono (by omega))
        have S13 : Hid (OwnD w13 w3.heap.size w4.heap.size (.slice sa D.length sc) (.slice sb Q.length se) D Q sd) := S12.out.below b13
        have XA13 : Hid (Box2 w13 w.heap.size (.slice ao dur.length ca) (.slice bo ps.length cb)) := XA12.out.below b13
        have XS13 : Hid (Box2 w13 w4.heap.size (.slice sa D.length sc) (.slice sb Q.length se)) := XS12.out.below b13
        have X13 : Hid (OwnD w13 w5.heap.size w6.heap.size (.slice xa dur.length xc) (.slice xb ps.length xe) dur ps xd) := X12.out.below b13
        have XX13 : Hid (Box2 w13 w6.heap.size (.slice xa dur.length xc) (.slice xb ps.length xe)) := XX12.out.below b13
        have T13 : Hid (Own .u8 5 w13 w7.heap.size x2 xs) := T12.out.below b13
        have G13 : Hid (OwnD w13 w8.heap.size w9.heap.size (.slice ga D.length gc) (.slice gb Q.length ge) D Q gd) := G12.out.below b13
        have XG13 : Hid (Box2 w13 w9.heap.size (.slice ga D.length gc) (.slice gb Q.length ge)) := XG12.out.below b13
        have U13 : Hid (Rd .u8 w13 t13 xs) := o13.rd
        clear o13 b13
        clear S12 XA12 XS12 X12 XX12 T12 G12 XG12 B12
        go_wp2_with fail
        refine (eqByteS_any _ _ _ xs xs T13.out.rd U13.out).mono ?_
        rintro e w14 ⟨rfl, q14, hw14⟩
        rw [show decide (xs = xs) = true by simp]
        have b14 : Below w13.heap.size w13 w14 := by rw [hw14]; exact below_drewN' w13 q14
        have s14 := b14.size
        have B14 : Hid (Below w.heap.size w w14) := B13.out.trans (b14.mono (by omega))
        have S14 : Hid (OwnD w14 w3.heap.size w4.heap.size (.slice sa D.length sc) (.slice sb Q.length se) D Q sd) := S13.out.below b14
        have XA14 : Hid (Box2 w14 w.heap.size (.slice ao dur.length ca) (.slice bo ps.length cb)) := XA13.out.below b14
        have XS14 : Hid (Box2 w14 w4.heap.size (.slice sa D.length sc) (.slice sb Q.length se)) := XS13.out.below b14
        have X14 : Hid (OwnD w14 w5.heap.size w6.heap.size (.slice xa dur.length xc) (.slice xb ps.length xe) dur ps xd) := X13.out.below b14
        have XX14 : Hid (Box2 w14 w6.heap.size (.slice xa dur.length xc) (.slice xb ps.length xe)) := XX13.out.below b14
        have T14 : Hid (Own .u8 5 w14 w7.heap.size x2 xs) := T13.out.below b14
        have G14 : Hid (OwnD w14 w8.heap.size w9.heap.size (.slice ga D.length gc) (.slice gb Q.length ge) D Q gd) := G13.out.below b14
        have XG14 : Hid (Box2 w14 w9.heap.size (.slice ga D.length gc) (.slice gb Q.length ge)) := XG13.out.below b14
        clear hw14 b14 U13
        clear S13 XA13 XS13 X13 XX13 T13 G13 XG13 B13
        obtain ⟨z1, c0, c1⟩ := XX14.out
        go_wp2_with fail
        refine (markDisk_any _ _ _ _ _ dur ps xd 1 X14.out (by omega) (by omega) (by omega) hl hn ht.out).mono ?_
        rintro e w15 ⟨rfl, o15, n15⟩
        have s15 := n15.size
        have B15 : Hid (Below w.heap.size w w15) := Within.below B14.out n15 (by omega) (by omega)
        have S15 : Hid (OwnD w15 w3.heap.size w4.heap.size (.slice sa D.length sc) (.slice sb Q.length se) D Q sd) := S14.out.within n15 (.inl (by omega))
        have G15 : Hid (OwnD w15 w8.heap.size w9.heap.size (.slice ga D.length gc) (.slice gb Q.length ge) D Q gd) := G14.out.within n15 (.inr (by omega))
        have XA15 : Hid (Box2 w15 w.heap.size (.slice ao dur.length ca) (.slice bo ps.length cb)) := n15.box2 XA14.out (.inl (by omega))
        have XS15 : Hid (Box2 w15 w4.heap.size (.slice sa D.length sc) (.slice sb Q.length se)) := n15.box2 XS14.out (.inl (by omega))
        have XG15 : Hid (Box2 w15 w9.heap.size (.slice ga D.length gc) (.slice gb Q.length ge)) := n15.box2 XG14.out (.inr (by omega))
        have T15 : Hid (Own .u8 5 w15 w7.heap.size x2 xs) := n15.own T14.out (fun g hg => by have := (T14.out.lt g hg).1; omega)
        have hK0 : (0 : Int) ≤ ks ps (1 + (dur.length : Int)) ps.length ∧ ks ps (1 + (dur.length : Int)) ps.length ≤ 4194304 := by
          have := tot_le ps ps.length; have := ht.out; unfold ks; omega
        generalize ks ps (1 + (dur.length : Int)) ps.length = K1 at *
        obtain ⟨hK1, hK2⟩ := hK0
        clear o15 n15 z1 c0 c1
        clear S14 XA14 XS14 X14 XX14 T14 G14 XG14 B14
        go_wp2_with fail
        refine (markByteS_any _ _ _ xs K1 T15.out (by omega) (by omega) (by omega)).mono ?_
        rintro e w16 ⟨rfl, o16, g16⟩
        have n16 : Within w7.heap.size w8.heap.size w15 w16 := Within.of_grown g16 (fun g hg => ⟨(T15.out.lt g hg).1, HL8.out g hg⟩)
        have s16 := n16.size
        have B16 : Hid (Below w.heap.size w w16) := Within.below B15.out n16 (by omega) (by omega)
        have S16 : Hid (OwnD w16 w3.heap.size w4.heap.size (.slice sa D.length sc) (.slice sb Q.length se) D Q sd) := S15.out.within n16 (.inl (by omega))
        have G16 : Hid (OwnD w16 w8.heap.size w9.heap.size (.slice ga D.length gc) (.slice gb Q.length ge) D Q gd) := G15.out.within n16 (.inr (by omega))
        have XA16 : Hid (Box2 w16 w.heap.size (.slice ao dur.length ca) (.slice bo ps.length cb)) := n16.box2 XA15.out (.inl (by omega))
        have XS16 : Hid (Box2 w16 w4.heap.size (.slice sa D.length sc) (.slice sb Q.length se)) := n16.box2 XS15.out (.inl (by omega))
        have XG16 : Hid (Box2 w16 w9.heap.size (.slice ga D.length gc) (.slice gb Q.length ge)) := n16.box2 XG15.out (.inr (by omega))
        clear o16 g16 n16
        clear S15 XA15 XS15 T15 G15 XG15 B15
        have hk0 : ¬ (K1 + (xs.length : Int)) < 0 := by omega
        have hk0d : decide ((K1 + (xs.length : Int)) < 0) = false := by simp; omega
        obtain ⟨z1, c0, c1⟩ := XG16.out
        obtain ⟨z2, d0, d1⟩ := XS16.out
        go_wp2_with fail
        refine (eqDisk_any _ _ _ _ _ D D Q Q G16.out.d.rd S16.out.d.rd G16.out.p.rd S16.out.p.rd hQ).mono ?_
        rintro e w17 ⟨rfl, b17⟩
        rw [show decide (D = D ∧ Q = Q) = true by simp]
        have s17 := b17.size
        have B17 : Hid (Below w.heap.size w w17) := B16.out.trans (b17.mono (by omega))
        have S17 : Hid (OwnD w17 w3.heap.size w4.heap.size (.slice sa D.length sc) (.slice sb Q.length se) D Q sd) := S16.out.below b17
        have XA17 : Hid (Box2 w17 w.heap.size (.slice ao dur.length ca) (.slice bo ps.length cb)) := XA16.out.below b17
        have XS17 : Hid (Box2 w17 w4.heap.size (.slice sa D.length sc) (.slice sb Q.length se)) := XS16.out.below b17
        have G17 : Hid (OwnD w17 w8.heap.size w9.heap.size (.slice ga D.length gc) (.slice gb Q.length ge) D Q gd) := G16.out.below b17
        have XG17 : Hid (Box2 w17 w9.heap.size (.slice ga D.length gc) (.slice gb Q.length ge)) := XG16.out.below b17
        clear b17 hk0 hk0d hK1 hK2 z1 c0 c1 z2 d0 d1
        clear S16 XA16 XS16 G16 XG16 B16
        obtain ⟨z1, c0, c1⟩ := XG17.out
        go_wp2_with fail
        refine (markDisk_any _ _ _ _ _ D Q gd 1 G17.out (by omega) (by omega) (by omega) hD hQ hT'.out).mono ?_
        rintro e w18 ⟨rfl, o18, n18⟩
        have s18 := n18.size
        have B18 : Hid (Below w.heap.size w w18) := Within.below B17.out n18 (by omega) (by omega)
        have S18 : Hid (OwnD w18 w3.heap.size w4.heap.size (.slice sa D.length sc) (.slice sb Q.length se) D Q sd) := S17.out.within n18 (.inl (by omega))
        have XA18 : Hid (Box2 w18 w.heap.size (.slice ao dur.length ca) (.slice bo ps.length cb)) := n18.box2 XA17.out (.inl (by omega))
        have XS18 : Hid (Box2 w18 w4.heap.size (.slice sa D.length sc) (.slice sb Q.length se)) := n18.box2 XS17.out (.inl (by omega))
        have XG18 : Hid (Box2 w18 w9.heap.size (.slice ga D.length gc) (.slice gb Q.length ge)) := n18.box2 XG17.out (.inr (by omega))
        have M18 : Hid (Rd .u8 w18 (.slice ga D.length gc) (marks 1 D.length) ∧ RdW w18 (.slice gb Q.length ge) (mkP Q (1 + (D.length : Int)))) := ⟨o18.d.rd, o18.p.rd⟩
        clear o18 n18 z1 c0 c1
        clear S17 XA17 XS17 G17 XG17 B17
        obtain ⟨z1, c0, c1⟩ := XG18.out
        have HHD : Hid (Calls Try.prog 30 #[.agg #[.slice ga D.length gc, .slice gb Q.length ge], .int .i64 1] w18 fun e w' => e = .returned (.int .i64 (ks Q (1 + (D.length : Int)) Q.length)) ∧ Below w18.heap.size w18 w') := heldDisk_any w18 _ _ D.length Q 1 M18.out.1 M18.out.2 (by omega) (by omega) hD hQ hT'.out
        have hM0 : ¬ ks Q (1 + (D.length : Int)) Q.length < 0 := by unfold ks; omega
        generalize ks Q (1 + (D.length : Int)) Q.length = M1 at *
        go_wp2_with fail
        refine HHD.out.mono ?_
        rintro e w19 ⟨rfl, b19⟩
        have s19 := b19.size
        have B19 : Hid (Below w.heap.size w w19) := B18.out.trans (b19.mono (by omega))
        have S19 : Hid (OwnD w19 w3.heap.size w4.heap.size (.slice sa D.length sc) (.slice sb Q.length se) D Q sd) := S18.out.below b19
        have XA19 : Hid (Box2 w19 w.heap.size (.slice ao dur.length ca) (.slice bo ps.length cb)) := XA18.out.below b19
        have XS19 : Hid (Box2 w19 w4.heap.size (.slice sa D.length sc) (.slice sb Q.length se)) := XS18.out.below b19
        clear b19 z1 c0 c1 HHD M18
        clear S18 XA18 XS18 XG18 B18
        obtain ⟨z1, c0, c1⟩ := XA19.out
        go_wp2_with fail
        refine (toDisk_ownD _ _ _ dur ps (HR.out.below B19.out) (HP.out.below B19.out) hl hn hd.out).mono ?_
        rintro e w20 ⟨ya, yc, yb, ye, yd, rfl, o20, b20⟩
        have s20 := b20.size
        have B20 : Hid (Below w.heap.size w w20) := B19.out.trans (b20.mono (by omega))
        have S20 : Hid (OwnD w20 w3.heap.size w4.heap.size (.slice sa D.length sc) (.slice sb Q.length se) D Q sd) := S19.out.below b20
        have XS20 : Hid (Box2 w20 w4.heap.size (.slice sa D.length sc) (.slice sb Q.length se)) := XS19.out.below b20
        have Y20 : Hid (OwnD w20 w19.heap.size w20.heap.size (.slice ya dur.length yc) (.slice yb ps.length ye) dur ps yd) := o20
        clear o20 b20 z1 c0 c1
        clear S19 XA19 XS19 B19
        go_wp2_with fail
        refine (toByteS_any _ _ xs (HX.out.below B20.out) (by omega)).mono ?_
        rintro e w21 ⟨t21, rfl, o21, b21⟩
        have s21 := b21.size
        have B21 : Hid (Below w.heap.size w w21) := B20.out.trans (b21.mono (by omega))
        have S21 : Hid (OwnD w21 w3.heap.size w4.heap.size (.slice sa D.length sc) (.slice sb Q.length se) D Q sd) := S20.out.below b21
        have XS21 : Hid (Box2 w21 w4.heap.size (.slice sa D.length sc) (.slice sb Q.length se)) := XS20.out.below b21
        have Y21 : Hid (OwnD w21 w19.heap.size w20.heap.size (.slice ya dur.length yc) (.slice yb ps.length ye) dur ps yd) := Y20.out.below b21
        have R21 : Hid (Rd .u8 w21 t21 xs) := o21.rd
        clear o21 b21 Y20
        clear S20 XS20 B20
        go_wp2_with fail
        refine (HI.out _ _ _ _ Y21.out.d.rd Y21.out.p.rd R21.out).mono ?_
        rintro e w22 ⟨ha, hc, hb, he, hd', rfl, o22, b22⟩
        have s22 := b22.size
        have B22 : Hid (Below w.heap.size w w22) := B21.out.trans (b22.mono (by omega))
        have S22 : Hid (OwnD w22 w3.heap.size w4.heap.size (.slice sa D.length sc) (.slice sb Q.length se) D Q sd) := S21.out.below b22
        have XS22 : Hid (Box2 w22 w4.heap.size (.slice sa D.length sc) (.slice sb Q.length se)) := XS21.out.below b22
        have H22 : Hid (OwnD w22 w21.heap.size w22.heap.size (.slice ha D.length hc) (.slice hb Q.length he) D Q hd') := o22
        clear o22 b22 Y21 R21
        clear S21 XS21 B21
        obtain ⟨z1, c0, c1⟩ := XS22.out
        go_wp2_with fail
        have BC : Hid (Below w22.heap.size w22 (w22.alloc (.cells #[.slice ha D.length hc, .slice hb Q.length he] 32))) := (Below.refl _ _).alloc (Nat.le_refl _) _
        refine (eqDisk_any _ _ _ _ _ D D Q Q (H22.out.below BC.out).d.rd (S22.out.below BC.out).d.rd (H22.out.below BC.out).p.rd (S22.out.below BC.out).p.rd hQ).mono ?_
        rintro e w23 ⟨rfl, b23⟩
        rw [show decide (D = D ∧ Q = Q) = true by simp]
        have B23 : Hid (Below w.heap.size w w23) := (B22.out.trans (BC.out.mono (by omega))).trans (b23.mono (by simp; omega))
        clear b23
        go_wp2
        go_ret
        exact ⟨rfl, B23.out⟩

end Go.Proofs.Ytmgolinleiahpaa
