import Derived.Test.YtljljljpfbkdeaaImplRead
import Derived.Test.YtljljljpfbkdeaaLWrite0
namespace Go.Proofs.Ytljljljpfbkdeaa
open Go.RowKit

theorem rdv_length {dur : List Int} {ps : List (Int × List Int)} {b : Nat} (hpd : ∀ i, (pD ps i).length ≤ 1048576) : ∀ k, (rdv dur ps b k).length ≤ 1048576
  | 0 => by rw [rdv, List.length_take]; omega
  | k + 1 => by
    rw [rdv]
    split
    · exact hpd k
    · exact rdv_length hpd k
theorem rdA_length {dur : List Int} {ps : List (Int × List Int)} {x : Int} (hpd : ∀ i, (pD ps i).length ≤ 1048576) : (rdA dur ps x).length ≤ 1048576 := by
  unfold rdA
  split
  · exact rdv_length hpd _
  · simp

set_option maxHeartbeats 3000000 in
set_option maxRecDepth 100000 in
theorem lawRead_walk (w : World) (vd vp : Value) (dur : List Int) (ps : List (Int × List Int)) (h : InD w vd vp dur ps) (x : Int) (_hx : (Lit.int .i64 x).wf = true) :
    Calls Try.prog 11 #[.agg #[vd, vp], .int .i64 x] w fun e w' => e = .returned (.bool true) ∧ Below w.heap.size w w' := by
  obtain ⟨hr, hp, _, _⟩ := h
  obtain ⟨ao, ca, rfl, _, _⟩ := hr.len
  obtain ⟨bo, cb, rfl, _, _⟩ := hp.len
  have B0 : Hid (Below w.heap.size w (w.alloc (.cells #[.slice ao dur.length ca, .slice bo ps.length cb] 48))) := (Below.refl _ _).alloc (Nat.le_refl _) _
  have X0 : Hid (Box2 (w.alloc (.cells #[.slice ao dur.length ca, .slice bo ps.length cb] 48)) w.heap.size (.slice ao dur.length ca) (.slice bo ps.length cb)) := Box2.new _ _ _ _
  have HR : Hid (Rd .u8 w (.slice ao dur.length ca) dur) := hr
  have HP : Hid (RdW w (.slice bo ps.length cb) ps) := hp
  clear hr hp
  go_enter Try.func11, Try.ntmps11
  go_wp2_with fail
  generalize w.alloc (.cells #[.slice ao dur.length ca, .slice bo ps.length cb] 48) = w0 at *
  refine (szDisk_any _ _ _ dur ps (HR.out.below B0.out) (HP.out.below B0.out)).mono ?_
  rintro e w1 ⟨r, rfl, hsz, b1⟩
  have B1 : Hid (Below w.heap.size w w1) := B0.out.trans (b1.mono B0.out.size)
  have X1 : Hid (Box2 w1 w.heap.size (.slice ao dur.length ca) (.slice bo ps.length cb)) := X0.out.below b1
  clear b1 X0 B0
  by_cases hneg : r < 0
  · clear hsz
    go_wp2
    go_ret
    exact ⟨rfl, B1.out⟩
  · have hsz' : r + dur.length + ps.length + tot ps = 1048576 := by omega
    have hl : dur.length ≤ 1048576 := by omega
    have hn : ps.length ≤ 1048576 := by omega
    have ht : Hid (tot ps ≤ 1048576) := by show _ ≤ _; omega
    have hd : Hid (∀ i, (pD ps i).length ≤ 1048576) := fun i => by have := tot_ge ps i; omega
    clear hsz hsz'
    obtain ⟨z1, c0, c1⟩ := X1.out
    go_wp2_with fail
    have hRl : (rdA dur ps x).length ≤ 1048576 := rdA_length hd.out
    have HS : Hid (∀ (W : World) (v1 v2 : Value), Rd .u8 W v1 dur → RdW W v2 ps → Calls Try.prog 50 #[.agg #[v1, v2], .int .i64 x] W fun e w' => ∃ v', e = .returned v' ∧ Own .u8 5 w' W.heap.size v' (rdA dur ps x) ∧ Below W.heap.size W w') := fun W v1 v2 h1 h2 => specRead_any W v1 v2 dur ps x h1 h2 hl hn hd.out
    have HI : Hid (∀ (W : World) (v1 v2 : Value), Rd .u8 W v1 dur → RdW W v2 ps → Calls Try.prog 46 #[.agg #[v1, v2], .int .i64 x] W fun e w' => ∃ v', e = .returned v' ∧ Own .u8 91 w' W.heap.size v' (rdA dur ps x) ∧ Below W.heap.size W w') := fun W v1 v2 h1 h2 => implRead_any W v1 v2 dur ps x h1 h2 hl hn hd.out
    generalize rdA dur ps x = R at *
    refine (toDisk_ownD _ _ _ dur ps (HR.out.below B1.out) (HP.out.below B1.out) hl hn hd.out).mono ?_
    rintro e w2 ⟨ta, tc, tb, te, td, rfl, o2, b2⟩
    have B2 : Hid (Below w.heap.size w w2) := B1.out.trans (b2.mono B1.out.size)
    have XA2 : Hid (Box2 w2 w.heap.size (.slice ao dur.length ca) (.slice bo ps.length cb)) := X1.out.below b2
    have T2 : Hid (OwnD w2 w1.heap.size w2.heap.size (.slice ta dur.length tc) (.slice tb ps.length te) dur ps td) := o2
    have s2 := B2.out.size
    clear o2 b2 X1 z1 c0 c1
    go_wp2_with fail
    refine (HS.out _ _ _ T2.out.d.rd T2.out.p.rd).mono ?_
    rintro e w3 ⟨sv, rfl, o3, b3⟩
    have s3 := b3.size
    have B3 : Hid (Below w.heap.size w w3) := B2.out.trans (b3.mono s2)
    have XA3 : Hid (Box2 w3 w.heap.size (.slice ao dur.length ca) (.slice bo ps.length cb)) := XA2.out.below b3
    have S3 : Hid (Own .u8 5 w3 w2.heap.size sv R) := o3
    have LS : Hid (∀ g, sv.ownBlock = some g → g < w3.heap.size) := fun g hg => (S3.out.lt g hg).2
    have zA3 : w.heap.size < w3.heap.size := XA3.out.1
    clear o3 b3 XA2 T2 B2
    obtain ⟨z1, c0, c1⟩ := XA3.out
    go_wp2_with fail
    refine (toDisk_ownD _ _ _ dur ps (HR.out.below B3.out) (HP.out.below B3.out) hl hn hd.out).mono ?_
    rintro e w4 ⟨xa, xc, xb, xe, xd, rfl, o4, b4⟩
    have s4 := b4.size
    have B4 : Hid (Below w.heap.size w w4) := B3.out.trans (b4.mono (by omega))
    have XA4 : Hid (Box2 w4 w.heap.size (.slice ao dur.length ca) (.slice bo ps.length cb)) := XA3.out.below b4
    have S4 : Hid (Own .u8 5 w4 w2.heap.size sv R) := S3.out.below b4
    have X4 : Hid (OwnD w4 w3.heap.size w4.heap.size (.slice xa dur.length xc) (.slice xb ps.length xe) dur ps xd) := o4
    clear o4 b4 XA3 S3 B3 z1 c0 c1
    obtain ⟨z1, c0, c1⟩ := XA4.out
    go_wp2_with fail
    have BA5 : Hid (Below w4.heap.size w4 (w4.alloc (.cells #[(.slice xa dur.length xc), (.slice xb ps.length xe)] 38))) := (Below.refl _ _).alloc (Nat.le_refl _) _
    have XX5 : Hid (Box2 (w4.alloc (.cells #[(.slice xa dur.length xc), (.slice xb ps.length xe)] 38)) w4.heap.size (.slice xa dur.length xc) (.slice xb ps.length xe)) := Box2.new _ _ _ _
    have z5 : w4.heap.size < (w4.alloc (.cells #[(.slice xa dur.length xc), (.slice xb ps.length xe)] 38)).heap.size := by simp
    generalize w4.alloc (.cells #[(.slice xa dur.length xc), (.slice xb ps.length xe)] 38) = w5 at *
    have B5 : Hid (Below w.heap.size w w5) := B4.out.trans (BA5.out.mono (by omega))
    have XA5 : Hid (Box2 w5 w.heap.size (.slice ao dur.length ca) (.slice bo ps.length cb)) := XA4.out.below BA5.out
    have S5 : Hid (Own .u8 5 w5 w2.heap.size sv R) := S4.out.below BA5.out
    have X5 : Hid (OwnD w5 w3.heap.size w4.heap.size (.slice xa dur.length xc) (.slice xb ps.length xe) dur ps xd) := X4.out.below BA5.out
    clear BA5 XA4 S4 X4 B4 z1 c0 c1
    refine (HI.out _ _ _ X5.out.d.rd X5.out.p.rd).mono ?_
    rintro e w6 ⟨gv, rfl, o6, b6⟩
    have s6 := b6.size
    have B6 : Hid (Below w.heap.size w w6) := B5.out.trans (b6.mono (by omega))
    have XA6 : Hid (Box2 w6 w.heap.size (.slice ao dur.length ca) (.slice bo ps.length cb)) := XA5.out.below b6
    have S6 : Hid (Own .u8 5 w6 w2.heap.size sv R) := S5.out.below b6
    have X6 : Hid (OwnD w6 w3.heap.size w4.heap.size (.slice xa dur.length xc) (.slice xb ps.length xe) dur ps xd) := X5.out.below b6
    have XX6 : Hid (Box2 w6 w4.heap.size (.slice xa dur.length xc) (.slice xb ps.length xe)) := XX5.out.below b6
    have G6 : Hid (Own .u8 91 w6 w5.heap.size gv R) := o6
    have LG : Hid (∀ g, gv.ownBlock = some g → g < w6.heap.size) := fun g hg => (G6.out.lt g hg).2
    clear o6 b6 XA5 S5 X5 XX5 B5
    go_wp2_with fail
    refine (eqByteS_any _ _ _ R R G6.out.rd S6.out.rd).mono ?_
    rintro e w7 ⟨rfl, q7, hw7⟩
    rw [show decide (R = R) = true by simp]
    have b7 : Below w6.heap.size w6 w7 := by rw [hw7]; exact below_drewN' w6 q7
    have s7 := b7.size
    have B7 : Hid (Below w.heap.size w w7) := B6.out.trans (b7.mono (by omega))
    have XA7 : Hid (Box2 w7 w.heap.size (.slice ao dur.length ca) (.slice bo ps.length cb)) := XA6.out.below b7
    have S7 : Hid (Own .u8 5 w7 w2.heap.size sv R) := S6.out.below b7
    have X7 : Hid (OwnD w7 w3.heap.size w4.heap.size (.slice xa dur.length xc) (.slice xb ps.length xe) dur ps xd) := X6.out.below b7
    have XX7 : Hid (Box2 w7 w4.heap.size (.slice xa dur.length xc) (.slice xb ps.length xe)) := XX6.out.below b7
    have G7 : Hid (Own .u8 91 w7 w5.heap.size gv R) := G6.out.below b7
    clear hw7 b7
    clear XA6 S6 X6 XX6 G6 B6
    have HTD : Hid (∀ q, Calls Try.prog 37 #[.agg #[.slice ao dur.length ca, .slice bo ps.length cb]] (w7.drewN q) fun e w' => ∃ va ka vb kb, e = .returned (.agg #[.slice va dur.length ka, .slice vb ps.length kb]) ∧ Hid (Rd .u8 w' (.slice va dur.length ka) dur) ∧ Hid (RdW w' (.slice vb ps.length kb) ps) ∧
        Hid (Rd .u8 w' (.slice xa dur.length xc) dur) ∧ Hid (RdW w' (.slice xb ps.length xe) ps) ∧ w'.cell? ⟨w4.heap.size, 0, none⟩ = some (.slice xa dur.length xc) ∧ w'.cell? ⟨w4.heap.size, 1, none⟩ = some (.slice xb ps.length xe) ∧ Hid (Below w7.heap.size w7 w')) := by
      intro q
      refine (toDisk_any _ _ _ dur ps ((HR.out.below B7.out).drewN q) ((HP.out.below B7.out).below (below_drewN' w7 q)) hl hn hd.out).mono ?_
      rintro e w' ⟨va, ka, vb, kb, dv, mid, rfl, o', _, q', _, b'⟩
      have b6' : Below w7.heap.size w7 w' := (below_drewN' w7 q).trans b'
      have Y' := XX7.out.below b6'
      exact ⟨va, ka, vb, kb, rfl, o'.rd, q'.rd, X7.out.d.rd.below b6', X7.out.p.rd.below b6', Y'.2.1, Y'.2.2, b6'⟩
    obtain ⟨z1, c0, c1⟩ := XA7.out
    obtain ⟨z2, d0, d1⟩ := XX7.out
    go_wp2
    go_region_with (first | (go_at_call 37; refine (HTD.out 1).mono ?_; rintro e w' ⟨va, ka, vb, kb, rfl, r1, r2, r3, r4, k0, k1, bw⟩) | (go_at_call 27; refine (eqDisk_any _ _ _ _ _ dur dur ps ps r3.out r1.out r4.out r2.out hn).mono ?_; rintro e w8 ⟨rfl, b8⟩; rw [show decide (dur = dur ∧ ps = ps) = true by simp]))
    all_goals
      have bb : Below w7.heap.size w7 w8 := bw.out.trans (b8.mono bw.out.size)
      have s8 := bb.size
      have B8 : Hid (Below w.heap.size w w8) := B7.out.trans (bb.mono (by omega))
      have XA8 : Hid (Box2 w8 w.heap.size (.slice ao dur.length ca) (.slice bo ps.length cb)) := XA7.out.below bb
      have S8 : Hid (Own .u8 5 w8 w2.heap.size sv R) := S7.out.below bb
      have X8 : Hid (OwnD w8 w3.heap.size w4.heap.size (.slice xa dur.length xc) (.slice xb ps.length xe) dur ps xd) := X7.out.below bb
      have XX8 : Hid (Box2 w8 w4.heap.size (.slice xa dur.length xc) (.slice xb ps.length xe)) := XX7.out.below bb
      have G8 : Hid (Own .u8 91 w8 w5.heap.size gv R) := G7.out.below bb
      clear bb b8 bw r1 r2 r3 r4 k0 k1 HTD z1 c0 c1 z2 d0 d1
      clear XA7 S7 X7 XX7 G7 B7
      obtain ⟨z1, c0, c1⟩ := XX8.out
      go_wp2_with fail
      refine (markDisk_any _ _ _ _ _ dur ps xd 1 X8.out (by omega) (by omega) (by omega) hl hn ht.out).mono ?_
      rintro e w9 ⟨rfl, o9, n9⟩
      have s9 := n9.size
      have B9 : Hid (Below w.heap.size w w9) := Within.below B8.out n9 (by omega) (by omega)
      have S9 : Hid (Own .u8 5 w9 w2.heap.size sv R) := n9.own S8.out (fun g hg => by have := LS.out g hg; omega)
      have G9 : Hid (Own .u8 91 w9 w5.heap.size gv R) := n9.own G8.out (fun g hg => by have := (G8.out.lt g hg).1; omega)
      have XA9 : Hid (Box2 w9 w.heap.size (.slice ao dur.length ca) (.slice bo ps.length cb)) := n9.box2 XA8.out (.inl (by omega))
      have hK0 : (0 : Int) ≤ ks ps (1 + (dur.length : Int)) ps.length ∧ ks ps (1 + (dur.length : Int)) ps.length ≤ 4194304 := by
        have := tot_le ps ps.length; have := ht.out; unfold ks; omega
      generalize ks ps (1 + (dur.length : Int)) ps.length = K1 at *
      obtain ⟨hK1, hK2⟩ := hK0
      clear o9 n9 z1 c0 c1
      clear XA8 S8 X8 XX8 G8 B8
      have hk0 : ¬ K1 < 0 := by omega
      have hk0d : decide (K1 < 0) = false := by simp; omega
      go_wp2_with fail
      refine (eqByteS_any _ _ _ R R G9.out.rd S9.out.rd).mono ?_
      rintro e w10 ⟨rfl, q10, hw10⟩
      rw [show decide (R = R) = true by simp]
      have b10 : Below w9.heap.size w9 w10 := by rw [hw10]; exact below_drewN' w9 q10
      have s10 := b10.size
      have B10 : Hid (Below w.heap.size w w10) := B9.out.trans (b10.mono (by omega))
      have XA10 : Hid (Box2 w10 w.heap.size (.slice ao dur.length ca) (.slice bo ps.length cb)) := XA9.out.below b10
      have S10 : Hid (Own .u8 5 w10 w2.heap.size sv R) := S9.out.below b10
      have G10 : Hid (Own .u8 91 w10 w5.heap.size gv R) := G9.out.below b10
      clear hw10 b10 hk0 hk0d hK1 hK2
      clear XA9 S9 G9 B9
      go_wp2_with fail
      refine (markByteE_any _ _ _ R 1 G10.out (by omega) (by omega) (by omega)).mono ?_
      rintro e w11 ⟨rfl, o11, g11⟩
      have n11 : Within w5.heap.size w6.heap.size w10 w11 := Within.of_grown g11 (fun g hg => ⟨(G10.out.lt g hg).1, LG.out g hg⟩)
      have s11 := n11.size
      have B11 : Hid (Below w.heap.size w w11) := Within.below B10.out n11 (by omega) (by omega)
      have S11 : Hid (Own .u8 5 w11 w2.heap.size sv R) := n11.own S10.out (fun g hg => by have := LS.out g hg; omega)
      have XA11 : Hid (Box2 w11 w.heap.size (.slice ao dur.length ca) (.slice bo ps.length cb)) := n11.box2 XA10.out (.inl (by omega))
      have M11 : Hid (Rd .u8 w11 gv (marks 1 R.length)) := o11.rd
      clear o11 g11 n11
      clear XA10 S10 G10 B10
      have hq0 : ¬ (1 + (R.length : Int)) < 0 := by omega
      go_wp2_with fail
      refine (heldByteS_any _ _ R.length 1 M11.out (by omega) (by omega) (by omega)).mono ?_
      rintro e w12 ⟨rfl, hw12⟩
      have b12 : Below w11.heap.size w11 w12 := by rw [hw12]; exact Below.refl _ _
      have s12 := b12.size
      have B12 : Hid (Below w.heap.size w w12) := B11.out.trans (b12.mono (by omega))
      have XA12 : Hid (Box2 w12 w.heap.size (.slice ao dur.length ca) (.slice bo ps.length cb)) := XA11.out.below b12
      have S12 : Hid (Own .u8 5 w12 w2.heap.size sv R) := S11.out.below b12
      clear hw12 b12 M11
      clear XA11 S11 B11
      obtain ⟨z1, c0, c1⟩ := XA12.out
      go_wp2_with fail
      refine (toDisk_ownD _ _ _ dur ps (HR.out.below B12.out) (HP.out.below B12.out) hl hn hd.out).mono ?_
      rintro e w13 ⟨ya, yc, yb, ye, yd, rfl, o13, b13⟩
      have s13 := b13.size
      have B13 : Hid (Below w.heap.size w w13) := B12.out.trans (b13.mono (by omega))
      have S13 : Hid (Own .u8 5 w13 w2.heap.size sv R) := S12.out.below b13
      have Y13 : Hid (OwnD w13 w12.heap.size w13.heap.size (.slice ya dur.length yc) (.slice yb ps.length ye) dur ps yd) := o13
      clear o13 b13 z1 c0 c1 S12 XA12 B12
      go_wp2_with fail
      refine (HI.out _ _ _ Y13.out.d.rd Y13.out.p.rd).mono ?_
      rintro e w14 ⟨hv, rfl, o14, b14⟩
      have s14 := b14.size
      have B14 : Hid (Below w.heap.size w w14) := B13.out.trans (b14.mono (by omega))
      have S14 : Hid (Own .u8 5 w14 w2.heap.size sv R) := S13.out.below b14
      have H14 : Hid (Rd .u8 w14 hv R) := o14.rd
      clear o14 b14 S13 B13 Y13
      go_wp2_with fail
      refine (eqByteS_any _ _ _ R R H14.out S14.out.rd).mono ?_
      rintro e w15 ⟨rfl, q15, hw15⟩
      rw [show decide (R = R) = true by simp]
      have B15 : Hid (Below w.heap.size w w15) := by
        rw [hw15]; exact B14.out.trans ((below_drewN' w14 q15).mono (by omega))
      clear hw15
      go_wp2
      go_ret
      exact ⟨rfl, B15.out⟩

end Go.Proofs.Ytljljljpfbkdeaa
