import Derived.Test.YtmgolinleiahpaaSpecWrite2
namespace Go.Proofs.Ytmgolinleiahpaa
open Go.RowKit

set_option maxHeartbeats 1000000 in
set_option maxRecDepth 100000 in
theorem specWrite_no (w : World) (va vb vx : Option Addr) (dl ca n cb m cx : Nat) (ps : List (Int × List Int)) (x : Int) (hp : RdW w (.slice vb n cb) ps) (hl : ps.length = n)
    (hno : wrOk dl ps x m = false) (hn : n ≤ 1048576) (hd1 : dl ≤ 1048576) (hpd : ∀ i, (pD ps i).length ≤ 1048576) :
    Calls Try.prog 16 #[.agg #[.slice va dl ca, .slice vb n cb], .int .i64 x, .slice vx m cx] w fun e w' => e = .returned (.agg #[.slice none 0 0, .slice none 0 0]) ∧ Below w.heap.size w w' := by
  have HP : Hid (RdW w (.slice vb n cb) ps) := hp
  have HL : Hid (ps.length = n) := hl
  have HPD : Hid (∀ i, (pD ps i).length ≤ 1048576) := hpd
  have BA : Hid (∀ o1 o2, Below w.heap.size w ((w.alloc o1).alloc o2)) := fun o1 o2 => ((Below.refl _ _).alloc (Nat.le_refl _) _).alloc (by simp) _
  have HNO : Hid (wrOk dl ps x m = false) := hno
  clear hp hl hpd hno
  go_enter Try.func16, Try.ntmps16
  go_wp2_with fail
  have XA0 : Hid (BoxF ((w.alloc (.cells #[.slice va dl ca, .slice vb n cb] 32)).alloc (.cells #[.slice none 0 0, .slice none 0 0] 32)) w.heap.size (.slice va dl ca) (.slice vb n cb)) := (BoxF.new w _ _ _).below ((Below.refl _ _).alloc (Nat.le_refl _) _)
  have XR0 : Hid (BoxF ((w.alloc (.cells #[.slice va dl ca, .slice vb n cb] 32)).alloc (.cells #[.slice none 0 0, .slice none 0 0] 32)) (w.heap.size + 1) (.slice none 0 0) (.slice none 0 0)) := by
    have := BoxF.new (w.alloc (.cells #[.slice va dl ca, .slice vb n cb] 32)) (.slice none 0 0) (.slice none 0 0) 32
    show BoxF _ _ _ _
    simpa using this
  have B0 := BA.out (.cells #[.slice va dl ca, .slice vb n cb] 32) (.cells #[.slice none 0 0, .slice none 0 0] 32)
  have HB0 : Hid (Below w.heap.size w ((w.alloc (.cells #[.slice va dl ca, .slice vb n cb] 32)).alloc (.cells #[.slice none 0 0, .slice none 0 0] 32))) := B0
  clear B0 BA
  generalize (w.alloc (.cells #[.slice va dl ca, .slice vb n cb] 32)).alloc (.cells #[.slice none 0 0, .slice none 0 0] 32) = w0 at *
  refine (specValid_any _ va vb dl ca n cb ps (HP.out.below HB0.out) HL.out hd1 hn HPD.out).mono ?_
  rintro e w1 ⟨rfl, b1⟩
  have HB1 : Hid (Below w.heap.size w w1) := HB0.out.trans (b1.mono HB0.out.size)
  have XA1 : Hid (BoxF w1 w.heap.size (.slice va dl ca) (.slice vb n cb)) := XA0.out.below b1
  have XR1 : Hid (BoxF w1 (w.heap.size + 1) (.slice none 0 0) (.slice none 0 0)) := XR0.out.below b1
  clear b1 XA0 XR0 HB0
  obtain ⟨⟨z1, c0, c1⟩, -⟩ := XA1.out
  obtain ⟨⟨zr, d0, d1⟩, f0, f1⟩ := XR1.out
  by_cases hv : vldD dl ps = true
  · rw [hv]
    have HV : Hid (vldD dl ps = true) := hv
    have h2000 : n ≤ 2000 := by have := ((vldD_iff dl ps).1 hv).2.2.2.1; have := HL.out; omega
    clear hv
    by_cases t1 : (n : Int) = 2000
    · have t1b : ((n : Int) == 2000) = true := beq_iff_eq.2 t1
      clear h2000
      go_wp2
      refine bodyPost_ret (v := .agg #[.slice none 0 0, .slice none 0 0]) (by simp [results, Try.results16, go_sem, d0, d1]) rfl ⟨rfl, ?_⟩
      repeat (first | exact HB1.out | refine Below.setCell ?_ (by simp; try omega) _)
    · have t1b : ((n : Int) == 2000) = false := beq_false_of_ne t1
      have HT : Hid (n < 2000) := by show _ < _; omega
      clear h2000
      by_cases t2 : x < 0
      · have t2d : decide (x < 0) = true := by simpa using t2
        go_wp2
        refine bodyPost_ret (v := .agg #[.slice none 0 0, .slice none 0 0]) (by simp [results, Try.results16, go_sem, d0, d1]) rfl ⟨rfl, ?_⟩
        repeat (first | exact HB1.out | refine Below.setCell ?_ (by simp; try omega) _)
      · have t2d : decide (x < 0) = false := by simpa using t2
        go_wp2_with fail
        refine (l1Blocks_any _ va dl ca _ hd1).mono ?_
        rintro e w2 ⟨rfl, b2⟩
        have HB2 : Hid (Below w.heap.size w w2) := HB1.out.trans (b2.mono HB1.out.size)
        have XR2 : Hid (BoxF w2 (w.heap.size + 1) (.slice none 0 0) (.slice none 0 0)) := XR1.out.below b2
        clear b2 XA1 XR1 HB1 z1 c0 c1 zr d0 d1 f0 f1
        obtain ⟨⟨zr, d0, d1⟩, f0, f1⟩ := XR2.out
        by_cases t3 : ((dl / 64 : Nat) : Int) ≤ x
        · have t3d : decide (((dl / 64 : Nat) : Int) ≤ x) = true := by simpa using t3
          generalize ((dl / 64 : Nat) : Int) = q at *
          go_wp2
          refine bodyPost_ret (v := .agg #[.slice none 0 0, .slice none 0 0]) (by simp [results, Try.results16, go_sem, d0, d1]) rfl ⟨rfl, ?_⟩
          repeat (first | exact HB2.out | refine Below.setCell ?_ (by simp; try omega) _)
        · have hm64 : ¬ m = 64 := by
            intro e
            have h : wrOk dl ps x m = true := by
              unfold wrOk
              simp only [Bool.and_eq_true, decide_eq_true_eq]
              exact ⟨⟨⟨HV.out, by have := HL.out; have := HT.out; omega⟩, by omega, by omega⟩, e⟩
            rw [HNO.out] at h
            cases h
          have hmI : ¬ (m : Int) = 64 := by omega
          have hmb : ((m : Int) == 64) = false := beq_false_of_ne hmI
          have t3d : decide (((dl / 64 : Nat) : Int) ≤ x) = false := by simpa using t3
          generalize ((dl / 64 : Nat) : Int) = q at *
          go_wp2
          refine bodyPost_ret (v := .agg #[.slice none 0 0, .slice none 0 0]) (by simp [results, Try.results16, go_sem, d0, d1]) rfl ⟨rfl, ?_⟩
          repeat (first | exact HB2.out | refine Below.setCell ?_ (by simp; try omega) _)
  · have hv' : vldD dl ps = false := by simpa using hv
    rw [hv']
    clear hv hv'
    go_wp2
    refine bodyPost_ret (v := .agg #[.slice none 0 0, .slice none 0 0]) (by simp [results, Try.results16, go_sem, d0, d1]) rfl ⟨rfl, ?_⟩
    repeat (first | exact HB1.out | refine Below.setCell ?_ (by simp; try omega) _)

theorem specWrite_any (w : World) (v1 v2 v3 : Value) (dur xs : List Int) (ps : List (Int × List Int)) (x : Int) (hd : Rd .u8 w v1 dur) (hp : RdW w v2 ps) (hx : Rd .u8 w v3 xs) (hdl : dur.length ≤ 1048576) (hn : ps.length ≤ 1048576) (hpd : ∀ i, (pD ps i).length ≤ 1048576) :
    Calls Try.prog 16 #[.agg #[v1, v2], .int .i64 x, v3] w fun e w' => ∃ u1 u2 dv, e = .returned (.agg #[u1, u2]) ∧ OwnD w' w.heap.size w'.heap.size u1 u2 (wrDur dur ps x xs) (wrPend dur ps x xs) dv ∧ Below w.heap.size w w' := by
  obtain ⟨va, ca, rfl, -⟩ := hd.len
  obtain ⟨vx, cx, rfl, -⟩ := hx.len
  obtain ⟨vb, cb, rfl, -⟩ := id hp
  unfold wrDur wrPend
  cases h : wrOk dur.length ps x xs.length with
  | true =>
    simp only [if_true]
    unfold wrOk at h
    simp only [Bool.and_eq_true, decide_eq_true_eq] at h
    obtain ⟨⟨⟨h1, h2⟩, h3, h4⟩, h5⟩ := h
    rw [h5] at hx ⊢
    exact specWrite_yes w va vb vx dur.length ca ps.length cb cx dur xs ps x hd rfl hp rfl hx h5 h1 h2 h3 h4 hdl hpd
  | false =>
    simp only [Bool.false_eq_true, if_false]
    refine (specWrite_no w va vb vx dur.length ca ps.length cb xs.length cx ps x hp rfl h hn hdl hpd).mono ?_
    rintro e w' ⟨rfl, b⟩
    exact ⟨_, _, _, rfl, ownD_nil _ _ _, b⟩

end Go.Proofs.Ytmgolinleiahpaa
