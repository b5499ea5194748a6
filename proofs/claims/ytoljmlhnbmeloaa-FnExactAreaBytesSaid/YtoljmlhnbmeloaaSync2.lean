import Derived.Test.YtoljmlhnbmeloaaImplSync
import Derived.Test.YtoljmlhnbmeloaaSpecSync
namespace Go.Proofs.Ytoljmlhnbmeloaa
open Go.RowKit

set_option maxHeartbeats 1000000 in
set_option maxRecDepth 100000 in
theorem implSync_no (w : World) (va vb : Option Addr) (dl ca n cb : Nat) (ps : List (Int × List Int)) (hp : RdW w (.slice vb n cb) ps) (hl : ps.length = n)
    (hno : vldD dl ps = false) (hn : n ≤ 1048576) (hd1 : dl ≤ 1048576) (hpd : ∀ i, (pD ps i).length ≤ 1048576) :
    Calls Try.prog 19 #[.agg #[.slice va dl ca, .slice vb n cb]] w fun e w' => e = .returned (.agg #[.slice none 0 0, .slice none 0 0]) ∧ Below w.heap.size w w' := by
  have HP : Hid (RdW w (.slice vb n cb) ps) := hp
  have HL : Hid (ps.length = n) := hl
  have HPD : Hid (∀ i, (pD ps i).length ≤ 1048576) := hpd
  have BA : Hid (∀ o1 o2, Below w.heap.size w ((w.alloc o1).alloc o2)) := fun o1 o2 => ((Below.refl _ _).alloc (Nat.le_refl _) _).alloc (by simp) _
  clear hp hl hpd
  go_enter Try.func19, Try.ntmps19
  go_wp2_with fail
  have XR0 : Hid (BoxF ((w.alloc (.cells #[.slice va dl ca, .slice vb n cb] 32)).alloc (.cells #[.slice none 0 0, .slice none 0 0] 32)) (w.heap.size + 1) (.slice none 0 0) (.slice none 0 0)) := by
    have := BoxF.new (w.alloc (.cells #[.slice va dl ca, .slice vb n cb] 32)) (.slice none 0 0) (.slice none 0 0) 32
    show BoxF _ _ _ _
    simpa using this
  have B0 := BA.out (.cells #[.slice va dl ca, .slice vb n cb] 32) (.cells #[.slice none 0 0, .slice none 0 0] 32)
  have HB0 : Hid (Below w.heap.size w ((w.alloc (.cells #[.slice va dl ca, .slice vb n cb] 32)).alloc (.cells #[.slice none 0 0, .slice none 0 0] 32))) := B0
  clear B0 BA
  generalize (w.alloc (.cells #[.slice va dl ca, .slice vb n cb] 32)).alloc (.cells #[.slice none 0 0, .slice none 0 0] 32) = w0 at *
  refine (implValid_any _ va vb dl ca n cb ps (HP.out.below HB0.out) HL.out hd1 hn HPD.out).mono ?_
  rintro e w1 ⟨rfl, b1⟩
  have HB1 : Hid (Below w.heap.size w w1) := HB0.out.trans (b1.mono HB0.out.size)
  have XR1 : Hid (BoxF w1 (w.heap.size + 1) (.slice none 0 0) (.slice none 0 0)) := XR0.out.below b1
  clear b1 XR0 HB0
  obtain ⟨⟨zr, d0, d1⟩, f0, f1⟩ := XR1.out
  rw [hno]
  clear hno
  go_wp2
  refine bodyPost_ret (v := .agg #[.slice none 0 0, .slice none 0 0]) (by simp [results, Try.results19, go_sem, d0, d1]) rfl ⟨rfl, ?_⟩
  repeat (first | exact HB1.out | refine Below.setCell ?_ (by simp; try omega) _)

theorem implSync_any (w : World) (v1 v2 : Value) (dur : List Int) (ps : List (Int × List Int)) (hd : Rd .u8 w v1 dur) (hp : RdW w v2 ps) (hdl : dur.length ≤ 1048576) (hn : ps.length ≤ 1048576) (hpd : ∀ i, (pD ps i).length ≤ 1048576) :
    Calls Try.prog 19 #[.agg #[v1, v2]] w fun e w' => ∃ u, e = .returned (.agg #[u, .slice none 0 0]) ∧ Own .u8 5 w' w.heap.size u (syD dur ps) ∧ Below w.heap.size w w' := by
  obtain ⟨va, ca, rfl, -⟩ := hd.len
  obtain ⟨vb, cb, rfl, -⟩ := id hp
  unfold syD
  cases h : vldD dur.length ps with
  | true =>
    simp only [if_true]
    exact implSync_yes w va vb dur.length ca ps.length cb dur ps hd rfl hp rfl h hdl hpd
  | false =>
    simp only [Bool.false_eq_true, if_false]
    refine (implSync_no w va vb dur.length ca ps.length cb ps hp rfl h hn hdl hpd).mono ?_
    rintro e w' ⟨rfl, b⟩
    exact ⟨_, rfl, World.ownsRow_nil _ _ _ _, b⟩

set_option maxHeartbeats 1000000 in
set_option maxRecDepth 100000 in
theorem specSync_no (w : World) (va vb : Option Addr) (dl ca n cb : Nat) (ps : List (Int × List Int)) (hp : RdW w (.slice vb n cb) ps) (hl : ps.length = n)
    (hno : vldD dl ps = false) (hn : n ≤ 1048576) (hd1 : dl ≤ 1048576) (hpd : ∀ i, (pD ps i).length ≤ 1048576) :
    Calls Try.prog 31 #[.agg #[.slice va dl ca, .slice vb n cb]] w fun e w' => e = .returned (.agg #[.slice none 0 0, .slice none 0 0]) ∧ Below w.heap.size w w' := by
  have HP : Hid (RdW w (.slice vb n cb) ps) := hp
  have HL : Hid (ps.length = n) := hl
  have HPD : Hid (∀ i, (pD ps i).length ≤ 1048576) := hpd
  have BA : Hid (∀ o1 o2, Below w.heap.size w ((w.alloc o1).alloc o2)) := fun o1 o2 => ((Below.refl _ _).alloc (Nat.le_refl _) _).alloc (by simp) _
  clear hp hl hpd
  go_enter Try.func31, Try.ntmps31
  go_wp2_with fail
  have XR0 : Hid (BoxF ((w.alloc (.cells #[.slice va dl ca, .slice vb n cb] 32)).alloc (.cells #[.slice none 0 0, .slice none 0 0] 32)) (w.heap.size + 1) (.slice none 0 0) (.slice none 0 0)) := by
    have := BoxF.new (w.alloc (.cells #[.slice va dl ca, .slice vb n cb] 32)) (.slice none 0 0) (.slice none 0 0) 32
    show BoxF _ _ _ _
    simpa using this
  have B0 := BA.out (.cells #[.slice va dl ca, .slice vb n cb] 32) (.cells #[.slice none 0 0, .slice none 0 0] 32)
  have HB0 : Hid (Below w.heap.size w ((w.alloc (.cells #[.slice va dl ca, .slice vb n cb] 32)).alloc (.cells #[.slice none 0 0, .slice none 0 0] 32))) := B0
  clear B0 BA
  generalize (w.alloc (.cells #[.slice va dl ca, .slice vb n cb] 32)).alloc (.cells #[.slice none 0 0, .slice none 0 0] 32) = w0 at *
  refine (specValid_any _ va vb dl ca n cb ps (HP.out.below HB0.out) HL.out hd1 hn HPD.out).mono ?_
  rintro e w1 ⟨rfl, b1⟩
  have HB1 : Hid (Below w.heap.size w w1) := HB0.out.trans (b1.mono HB0.out.size)
  have XR1 : Hid (BoxF w1 (w.heap.size + 1) (.slice none 0 0) (.slice none 0 0)) := XR0.out.below b1
  clear b1 XR0 HB0
  obtain ⟨⟨zr, d0, d1⟩, f0, f1⟩ := XR1.out
  rw [hno]
  clear hno
  go_wp2
  refine bodyPost_ret (v := .agg #[.slice none 0 0, .slice none 0 0]) (by simp [results, Try.results31, go_sem, d0, d1]) rfl ⟨rfl, ?_⟩
  repeat (first | exact HB1.out | refine Below.setCell ?_ (by simp; try omega) _)

theorem specSync_any (w : World) (v1 v2 : Value) (dur : List Int) (ps : List (Int × List Int)) (hd : Rd .u8 w v1 dur) (hp : RdW w v2 ps) (hdl : dur.length ≤ 1048576) (hn : ps.length ≤ 1048576) (hpd : ∀ i, (pD ps i).length ≤ 1048576) :
    Calls Try.prog 31 #[.agg #[v1, v2]] w fun e w' => ∃ u, e = .returned (.agg #[u, .slice none 0 0]) ∧ Own .u8 5 w' w.heap.size u (syD dur ps) ∧ Below w.heap.size w w' := by
  obtain ⟨va, ca, rfl, -⟩ := hd.len
  obtain ⟨vb, cb, rfl, -⟩ := id hp
  unfold syD
  cases h : vldD dur.length ps with
  | true =>
    simp only [if_true]
    exact specSync_yes w va vb dur.length ca ps.length cb dur ps hd rfl hp rfl h hdl hpd
  | false =>
    simp only [Bool.false_eq_true, if_false]
    refine (specSync_no w va vb dur.length ca ps.length cb ps hp rfl h hn hdl hpd).mono ?_
    rintro e w' ⟨rfl, b⟩
    exact ⟨_, rfl, World.ownsRow_nil _ _ _ _, b⟩

end Go.Proofs.Ytoljmlhnbmeloaa
