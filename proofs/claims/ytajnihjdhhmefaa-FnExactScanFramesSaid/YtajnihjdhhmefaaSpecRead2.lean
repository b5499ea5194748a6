import Derived.Test.YtajnihjdhhmefaaSpecRead
namespace Go.Proofs.Ytajnihjdhhmefaa
open Go.RowKit

/-- May the block be read? -/
def rdOk (dl : Nat) (ps : List (Int × List Int)) (x : Int) : Bool := vldD dl ps && decide (0 ≤ x ∧ x < ((dl / 64 : Nat) : Int))
def rdA (dur : List Int) (ps : List (Int × List Int)) (x : Int) : List Int := if rdOk dur.length ps x then rdv dur ps x.toNat ps.length else []

theorem own_lit0 {w w1 : World} (b : Below w.heap.size w w1) : Own .u8 5 (w1.alloc (.cells #[] 5)) w.heap.size (.slice (some ⟨w1.heap.size, 0, none⟩) 0 0) [] := World.ownsRow_lit w1 #[] 0 b.size (Nat.zero_le _) rfl

set_option maxHeartbeats 1000000 in
set_option maxRecDepth 100000 in
theorem specRead_no (w : World) (va vb : Option Addr) (dl ca n cb : Nat) (ps : List (Int × List Int)) (x : Int) (hp : RdW w (.slice vb n cb) ps) (hl : ps.length = n)
    (hno : rdOk dl ps x = false) (hn : n ≤ 1048576) (hd1 : dl ≤ 1048576) (hpd : ∀ i, (pD ps i).length ≤ 1048576) :
    Calls Try.prog 23 #[.agg #[.slice va dl ca, .slice vb n cb], .int .i64 x] w fun e w' => ∃ v', e = .returned v' ∧ Own .u8 5 w' w.heap.size v' [] ∧ Below w.heap.size w w' := by
  have HP : Hid (RdW w (.slice vb n cb) ps) := hp
  have HL : Hid (ps.length = n) := hl
  have HPD : Hid (∀ i, (pD ps i).length ≤ 1048576) := hpd
  have HNO : Hid (rdOk dl ps x = false) := hno
  have B0 : Hid (Below w.heap.size w (w.alloc (.cells #[.slice va dl ca, .slice vb n cb] 45))) := (Below.refl _ _).alloc (Nat.le_refl _) _
  have X0 : Hid (Box2 (w.alloc (.cells #[.slice va dl ca, .slice vb n cb] 45)) w.heap.size (.slice va dl ca) (.slice vb n cb)) := Box2.new _ _ _ _
  clear hp hl hpd hno
  go_enter Try.func23, Try.ntmps23
  go_wp2_with fail
  generalize w.alloc (.cells #[.slice va dl ca, .slice vb n cb] 45) = w0 at *
  refine (specValid_any _ va vb dl ca n cb ps (HP.out.below B0.out) HL.out hd1 hn HPD.out).mono ?_
  rintro e w1 ⟨rfl, b1⟩
  have B1 : Hid (Below w.heap.size w w1) := B0.out.trans (b1.mono B0.out.size)
  have X1 : Hid (Box2 w1 w.heap.size (.slice va dl ca) (.slice vb n cb)) := X0.out.below b1
  clear b1 X0 B0
  obtain ⟨z1, c0, c1⟩ := X1.out
  by_cases hv : vldD dl ps = true
  · rw [hv]
    have HV : Hid (vldD dl ps = true) := hv
    clear hv
    by_cases t2 : x < 0
    · have t2d : decide (x < 0) = true := by simpa using t2
      go_wp2
      go_ret
      exact ⟨_, rfl, own_lit0 B1.out, B1.out.alloc B1.out.size _⟩
    · have t2d : decide (x < 0) = false := by simpa using t2
      go_wp2_with fail
      refine (l1Blocks_any _ va dl ca _ hd1).mono ?_
      rintro e w2 ⟨rfl, b2⟩
      have B2 : Hid (Below w.heap.size w w2) := B1.out.trans (b2.mono B1.out.size)
      clear b2 X1 B1 z1 c0 c1
      have t3 : ((dl / 64 : Nat) : Int) ≤ x := by
        by_cases h : ((dl / 64 : Nat) : Int) ≤ x
        · exact h
        · have h' : rdOk dl ps x = true := by
            unfold rdOk
            simp only [Bool.and_eq_true, decide_eq_true_eq]
            exact ⟨HV.out, by omega, by omega⟩
          rw [HNO.out] at h'
          cases h'
      have t3d : decide (((dl / 64 : Nat) : Int) ≤ x) = true := by simpa using t3
      generalize ((dl / 64 : Nat) : Int) = q at *
      go_wp2
      go_ret
      exact ⟨_, rfl, own_lit0 B2.out, B2.out.alloc B2.out.size _⟩
  · have hv' : vldD dl ps = false := by simpa using hv
    rw [hv']
    clear hv hv'
    go_wp2
    go_ret
    exact ⟨_, rfl, own_lit0 B1.out, B1.out.alloc B1.out.size _⟩

theorem specRead_any (w : World) (v1 v2 : Value) (dur : List Int) (ps : List (Int × List Int)) (x : Int) (hd : Rd .u8 w v1 dur) (hp : RdW w v2 ps) (hdl : dur.length ≤ 1048576) (hn : ps.length ≤ 1048576) (hpd : ∀ i, (pD ps i).length ≤ 1048576) :
    Calls Try.prog 23 #[.agg #[v1, v2], .int .i64 x] w fun e w' => ∃ v', e = .returned v' ∧ Own .u8 5 w' w.heap.size v' (rdA dur ps x) ∧ Below w.heap.size w w' := by
  obtain ⟨va, ca, rfl, -⟩ := hd.len
  obtain ⟨vb, cb, rfl, -⟩ := id hp
  unfold rdA
  cases h : rdOk dur.length ps x with
  | true =>
    simp only [if_true]
    have h' := h
    unfold rdOk at h'
    simp only [Bool.and_eq_true, decide_eq_true_eq] at h'
    obtain ⟨h1, h2, h3⟩ := h'
    obtain ⟨b, rfl⟩ : ∃ b : Nat, x = b := ⟨x.toNat, by omega⟩
    rw [Int.toNat_natCast]
    exact specRead_yes w va vb dur.length ca ps.length cb dur ps b hd rfl hp rfl h1 (by omega) hdl (by have := ((vldD_iff _ _).1 h1).2.2.2.1; omega) hpd
  | false =>
    simp only [Bool.false_eq_true, if_false]
    exact specRead_no w va vb dur.length ca ps.length cb ps x hp rfl h hn hdl hpd

end Go.Proofs.Ytajnihjdhhmefaa
