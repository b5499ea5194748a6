import Derived.Test.YtljljljpfbkdeaaEqDisk
namespace Go.Proofs.Ytljljljpfbkdeaa
open Go.RowKit

/-- What came in: a disk of the laws' own type. -/
def InD (w : World) (vd vp : Value) (dur : List Int) (ps : List (Int × List Int)) : Prop := Rd .u8 w vd dur ∧ RdW w vp ps ∧ Byt dur ∧ ∀ i, i < ps.length → Byt (pD ps i) ∧ -9223372036854775808 ≤ pB ps i ∧ pB ps i ≤ 9223372036854775807

theorem tot_ge (ps : List (Int × List Int)) (i : Nat) : (pD ps i).length ≤ tot ps := by
  by_cases h : i < ps.length
  · have h1 := tot_take_succ ps i h
    have h2 : tot (ps.take (i + 1)) ≤ tot ps := by
      unfold tot
      conv => rhs; rw [← List.take_append_drop (i + 1) ps, List.map_append, List.sum_append]
      omega
    omega
  · unfold pD; rw [List.getD, List.getElem?_eq_none (by omega)]; simp

set_option maxHeartbeats 1600000 in
set_option maxRecDepth 100000 in
theorem lawValid_walk (w : World) (vd vp : Value) (dur : List Int) (ps : List (Int × List Int)) (h : InD w vd vp dur ps) :
    Calls Try.prog 8 #[.agg #[vd, vp]] w fun e w' => e = .returned (.bool true) ∧ Below w.heap.size w w' := by
  obtain ⟨hr, hp, _, _⟩ := h
  obtain ⟨ao, ca, rfl, _, _⟩ := hr.len
  obtain ⟨bo, cb, rfl, _, _⟩ := hp.len
  have B0 : Hid (Below w.heap.size w (w.alloc (.cells #[.slice ao dur.length ca, .slice bo ps.length cb] 48))) := (Below.refl _ _).alloc (Nat.le_refl _) _
  have X0 : Hid (Box2 (w.alloc (.cells #[.slice ao dur.length ca, .slice bo ps.length cb] 48)) w.heap.size (.slice ao dur.length ca) (.slice bo ps.length cb)) := Box2.new _ _ _ _
  have HR : Hid (Rd .u8 w (.slice ao dur.length ca) dur) := hr
  have HP : Hid (RdW w (.slice bo ps.length cb) ps) := hp
  clear hr hp
  go_enter Try.func8, Try.ntmps8
  go_wp2_with fail
  generalize w.alloc (.cells #[.slice ao dur.length ca, .slice bo ps.length cb] 48) = w0 at *
  refine (szDisk_any _ _ _ dur ps (HR.out.below B0.out) (HP.out.below B0.out)).mono ?_
  rintro e w1 ⟨r, rfl, hsz, b1⟩
  have B1 : Hid (Below w.heap.size w w1) := B0.out.trans (b1.mono B0.out.size)
  have X1 : Hid (Box2 w1 w.heap.size (.slice ao dur.length ca) (.slice bo ps.length cb)) := X0.out.below b1
  clear b1 X0 B0
  by_cases hneg : r < 0
  · clear hsz
    go_wp2
    go_ret
    exact ⟨rfl, B1.out⟩
  · have hsz' : r + dur.length + ps.length + tot ps = 1048576 := by omega
    have hl : dur.length ≤ 1048576 := by omega
    have hn : ps.length ≤ 1048576 := by omega
    have hd : Hid (∀ i, (pD ps i).length ≤ 1048576) := fun i => by have := tot_ge ps i; omega
    clear hsz hsz'
    obtain ⟨z1, c0, c1⟩ := X1.out
    go_wp2_with fail
    refine (toDisk_any _ _ _ dur ps (HR.out.below B1.out) (HP.out.below B1.out) hl hn hd.out).mono ?_
    rintro e w2 ⟨va, ka, vb, kb, dv, mid, rfl, o2, _, q2, _, b2⟩
    have Q2 : Hid (RdW w2 (.slice vb ps.length kb) ps) := q2.rd
    have B2 : Hid (Below w.heap.size w w2) := B1.out.trans (b2.mono B1.out.size)
    have X2 : Hid (Box2 w2 w.heap.size (.slice ao dur.length ca) (.slice bo ps.length cb)) := X1.out.below b2
    clear o2 q2 b2 z1 c0 c1
    go_wp2_with fail
    refine (specValid_any _ va vb dur.length ka ps.length kb ps Q2.out rfl hl hn hd.out).mono ?_
    rintro e w3 ⟨rfl, b3⟩
    have B3 : Hid (Below w.heap.size w w3) := B2.out.trans (b3.mono B2.out.size)
    have X3 : Hid (Box2 w3 w.heap.size (.slice ao dur.length ca) (.slice bo ps.length cb)) := X2.out.below b3
    clear b3 Q2
    obtain ⟨z1, c0, c1⟩ := X3.out
    go_wp2_with fail
    refine (toDisk_any _ _ _ dur ps (HR.out.below B3.out) (HP.out.below B3.out) hl hn hd.out).mono ?_
    rintro e w4 ⟨va4, ka4, vb4, kb4, dv4, mid4, rfl, o4, _, q4, _, b4⟩
    have O4 : Hid (Rd .u8 w4 (.slice va4 dur.length ka4) dur) := o4.rd
    have Q4 : Hid (RdW w4 (.slice vb4 ps.length kb4) ps) := q4.rd
    have B4 : Hid (Below w.heap.size w w4) := B3.out.trans (b4.mono B3.out.size)
    have X4 : Hid (Box2 w4 w.heap.size (.slice ao dur.length ca) (.slice bo ps.length cb)) := X3.out.below b4
    clear o4 q4 b4 z1 c0 c1
    obtain ⟨z1, c0, c1⟩ := X4.out
    go_wp2_with fail
    have BA : Hid (Below w4.heap.size w4 (w4.alloc (.cells #[.slice va4 dur.length ka4, .slice vb4 ps.length kb4] 38))) := (Below.refl _ _).alloc (Nat.le_refl _) _
    have Y5 : Hid (Box2 (w4.alloc (.cells #[.slice va4 dur.length ka4, .slice vb4 ps.length kb4] 38)) w4.heap.size (.slice va4 dur.length ka4) (.slice vb4 ps.length kb4)) := Box2.new _ _ _ _
    generalize w4.alloc (.cells #[.slice va4 dur.length ka4, .slice vb4 ps.length kb4] 38) = w5 at *
    have s4 := B4.out.size
    have B5 : Hid (Below w.heap.size w w5) := B4.out.trans (BA.out.mono s4)
    have X5 : Hid (Box2 w5 w.heap.size (.slice ao dur.length ca) (.slice bo ps.length cb)) := X4.out.below BA.out
    have O5 : Hid (Rd .u8 w5 (.slice va4 dur.length ka4) dur) := O4.out.below BA.out
    have Q5 : Hid (RdW w5 (.slice vb4 ps.length kb4) ps) := Q4.out.below BA.out
    clear z1 c0 c1 X4 O4 Q4
    refine (implValid_any _ va4 vb4 dur.length ka4 ps.length kb4 ps Q5.out rfl hl hn hd.out).mono ?_
    rintro e w6 ⟨rfl, b6⟩
    have s5 := B5.out.size
    have B6 : Hid (Below w.heap.size w w6) := B5.out.trans (b6.mono s5)
    have X6 : Hid (Box2 w6 w.heap.size (.slice ao dur.length ca) (.slice bo ps.length cb)) := X5.out.below b6
    have Y6 : Hid (Box2 w6 w4.heap.size (.slice va4 dur.length ka4) (.slice vb4 ps.length kb4)) := Y5.out.below b6
    have O6 : Hid (Rd .u8 w6 (.slice va4 dur.length ka4) dur) := O5.out.below b6
    have Q6 : Hid (RdW w6 (.slice vb4 ps.length kb4) ps) := Q5.out.below b6
    have s6 := B6.out.size
    clear b6 X5 Y5 O5 Q5 B5 BA
    generalize vldD dur.length ps = vv at *
    have hvv : (vv != vv) = false := by simp
    obtain ⟨z1, c0, c1⟩ := X6.out
    obtain ⟨z2, d0, d1⟩ := Y6.out
    have HT : Hid (∀ q, Calls Try.prog 37 #[.agg #[.slice ao dur.length ca, .slice bo ps.length cb]] (w6.drewN q) fun e w' => ∃ va ka vb kb, e = .returned (.agg #[.slice va dur.length ka, .slice vb ps.length kb]) ∧ Hid (Rd .u8 w' (.slice va dur.length ka) dur) ∧ Hid (RdW w' (.slice vb ps.length kb) ps) ∧
        Hid (Rd .u8 w' (.slice va4 dur.length ka4) dur) ∧ Hid (RdW w' (.slice vb4 ps.length kb4) ps) ∧ w'.cell? ⟨w4.heap.size, 0, none⟩ = some (.slice va4 dur.length ka4) ∧ w'.cell? ⟨w4.heap.size, 1, none⟩ = some (.slice vb4 ps.length kb4) ∧ Hid (Below w.heap.size w w')) := by
      intro q
      refine (toDisk_any _ _ _ dur ps ((HR.out.below B6.out).drewN q) ((HP.out.below B6.out).below (below_drewN' w6 q)) hl hn hd.out).mono ?_
      rintro e w' ⟨va, ka, vb, kb, dv, mid, rfl, o', _, q', _, b'⟩
      have b6' : Below w6.heap.size w6 w' := (below_drewN' w6 q).trans b'
      have Y' := Y6.out.below b6'
      exact ⟨va, ka, vb, kb, rfl, o'.rd, q'.rd, O6.out.below b6', Q6.out.below b6', Y'.2.1, Y'.2.2, B6.out.trans (b6'.mono s6)⟩
    go_wp2
    go_region_with (first | (go_at_call 37; refine (HT.out 1).mono ?_; rintro e w' ⟨va, ka, vb, kb, rfl, r1, r2, r3, r4, k0, k1, bw⟩) | (go_at_call 27; refine (eqDisk_any _ _ _ _ _ dur dur ps ps r3.out r1.out r4.out r2.out hn).mono ?_; rintro e w'' ⟨rfl, b''⟩; rw [show decide (dur = dur ∧ ps = ps) = true by simp]))
    all_goals
      have HB : Hid (Below w.heap.size w w'') := bw.out.trans (b''.mono bw.out.size)
      clear b'' k0 k1
      go_wp2
      go_ret
      exact ⟨rfl, HB.out⟩

end Go.Proofs.Ytljljljpfbkdeaa
