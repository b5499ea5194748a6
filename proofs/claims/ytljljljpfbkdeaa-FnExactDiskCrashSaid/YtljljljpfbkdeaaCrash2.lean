import Derived.Test.YtljljljpfbkdeaaImplCrash
import Derived.Test.YtljljljpfbkdeaaSpecCrash
namespace Go.Proofs.Ytljljljpfbkdeaa
open Go.RowKit

set_option maxHeartbeats 1000000 in
set_option maxRecDepth 100000 in
theorem implCrash_no (w : World) (va vb vc : Option Addr) (dl ca n cb m cc : Nat) (ps : List (Int × List Int)) (hp : RdW w (.slice vb n cb) ps) (hl : ps.length = n)
    (hno : crOk dl ps m = false) (hn : n ≤ 1048576) (hd1 : dl ≤ 1048576) (hpd : ∀ i, (pD ps i).length ≤ 1048576) :
    Calls Try.prog 47 #[.agg #[.slice va dl ca, .slice vb n cb], .slice vc m cc] w fun e w' => e = .returned (.agg #[.slice none 0 0, .slice none 0 0]) ∧ Below w.heap.size w w' := by
  have HP : Hid (RdW w (.slice vb n cb) ps) := hp
  have HL : Hid (ps.length = n) := hl
  have HPD : Hid (∀ i, (pD ps i).length ≤ 1048576) := hpd
  have BA : Hid (∀ o1 o2, Below w.heap.size w ((w.alloc o1).alloc o2)) := fun o1 o2 => ((Below.refl _ _).alloc (Nat.le_refl _) _).alloc (by simp) _
  have HNO : Hid (crOk dl ps m = false) := hno
  clear hp hl hpd hno
  go_enter Try.func47, Try.ntmps47
  go_wp2_with fail
  have XR0 : Hid (BoxF ((w.alloc (.cells #[.slice va dl ca, .slice vb n cb] 38)).alloc (.cells #[.slice none 0 0, .slice none 0 0] 38)) (w.heap.size + 1) (.slice none 0 0) (.slice none 0 0)) := by
    have := BoxF.new (w.alloc (.cells #[.slice va dl ca, .slice vb n cb] 38)) (.slice none 0 0) (.slice none 0 0) 38
    show BoxF _ _ _ _
    simpa using this
  have B0 := BA.out (.cells #[.slice va dl ca, .slice vb n cb] 38) (.cells #[.slice none 0 0, .slice none 0 0] 38)
  have HB0 : Hid (Below w.heap.size w ((w.alloc (.cells #[.slice va dl ca, .slice vb n cb] 38)).alloc (.cells #[.slice none 0 0, .slice none 0 0] 38))) := B0
  clear B0 BA
  generalize (w.alloc (.cells #[.slice va dl ca, .slice vb n cb] 38)).alloc (.cells #[.slice none 0 0, .slice none 0 0] 38) = w0 at *
  refine (implValid_any _ va vb dl ca n cb ps (HP.out.below HB0.out) HL.out hd1 hn HPD.out).mono ?_
  rintro e w1 ⟨rfl, b1⟩
  have HB1 : Hid (Below w.heap.size w w1) := HB0.out.trans (b1.mono HB0.out.size)
  have XR1 : Hid (BoxF w1 (w.heap.size + 1) (.slice none 0 0) (.slice none 0 0)) := XR0.out.below b1
  clear b1 XR0 HB0
  obtain ⟨⟨zr, d0, d1⟩, f0, f1⟩ := XR1.out
  by_cases hv : vldD dl ps = true
  · rw [hv]
    have t1 : (2000 : Int) < (m : Int) := by
      by_cases h : m ≤ 2000
      · have h' : crOk dl ps m = true := by
          unfold crOk
          simp only [Bool.and_eq_true, decide_eq_true_eq]
          exact ⟨hv, h⟩
        rw [HNO.out] at h'
        cases h'
      · omega
    have t1d : decide ((2000 : Int) < (m : Int)) = true := by simpa using t1
    clear hv
    go_wp2
    refine bodyPost_ret (v := .agg #[.slice none 0 0, .slice none 0 0]) (by simp [results, Try.results47, go_sem, d0, d1]) rfl ⟨rfl, ?_⟩
    repeat (first | exact HB1.out | refine Below.setCell ?_ (by simp; try omega) _)
  · have hv' : vldD dl ps = false := by simpa using hv
    rw [hv']
    clear hv hv'
    go_wp2
    refine bodyPost_ret (v := .agg #[.slice none 0 0, .slice none 0 0]) (by simp [results, Try.results47, go_sem, d0, d1]) rfl ⟨rfl, ?_⟩
    repeat (first | exact HB1.out | refine Below.setCell ?_ (by simp; try omega) _)

theorem implCrash_any (w : World) (v1 v2 v3 : Value) (dur : List Int) (ps : List (Int × List Int)) (cs : List Int) (hd : Rd .u8 w v1 dur) (hp : RdW w v2 ps) (hc : Rd .i64 w v3 cs) (hdl : dur.length ≤ 1048576) (hn : ps.length ≤ 1048576) (hpd : ∀ i, (pD ps i).length ≤ 1048576) :
    Calls Try.prog 47 #[.agg #[v1, v2], v3] w fun e w' => ∃ u, e = .returned (.agg #[u, .slice none 0 0]) ∧ Own .u8 5 w' w.heap.size u (crD dur ps cs) ∧ Below w.heap.size w w' := by
  obtain ⟨va, ca, rfl, -⟩ := hd.len
  obtain ⟨vc, cc, rfl, -⟩ := hc.len
  obtain ⟨vb, cb, rfl, -⟩ := id hp
  unfold crD
  cases h : crOk dur.length ps cs.length with
  | true =>
    simp only [if_true]
    unfold crOk at h
    simp only [Bool.and_eq_true, decide_eq_true_eq] at h
    exact implCrash_loop w va vb vc dur.length ca ps.length cb cs.length cc dur ps cs hd rfl hp rfl hc rfl h.1 h.2 hdl hpd
  | false =>
    simp only [Bool.false_eq_true, if_false]
    refine (implCrash_no w va vb vc dur.length ca ps.length cb cs.length cc ps hp rfl h hn hdl hpd).mono ?_
    rintro e w' ⟨rfl, b⟩
    exact ⟨_, rfl, World.ownsRow_nil _ _ _ _, b⟩

set_option maxHeartbeats 1000000 in
set_option maxRecDepth 100000 in
theorem specCrash_no (w : World) (va vb vc : Option Addr) (dl ca n cb m cc : Nat) (ps : List (Int × List Int)) (hp : RdW w (.slice vb n cb) ps) (hl : ps.length = n)
    (hno : crOk dl ps m = false) (hn : n ≤ 1048576) (hd1 : dl ≤ 1048576) (hpd : ∀ i, (pD ps i).length ≤ 1048576) :
    Calls Try.prog 52 #[.agg #[.slice va dl ca, .slice vb n cb], .slice vc m cc] w fun e w' => e = .returned (.agg #[.slice none 0 0, .slice none 0 0]) ∧ Below w.heap.size w w' := by
  have HP : Hid (RdW w (.slice vb n cb) ps) := hp
  have HL : Hid (ps.length = n) := hl
  have HPD : Hid (∀ i, (pD ps i).length ≤ 1048576) := hpd
  have BA : Hid (∀ o1 o2, Below w.heap.size w ((w.alloc o1).alloc o2)) := fun o1 o2 => ((Below.refl _ _).alloc (Nat.le_refl _) _).alloc (by simp) _
  have HNO : Hid (crOk dl ps m = false) := hno
  clear hp hl hpd hno
  go_enter Try.func52, Try.ntmps52
  go_wp2_with fail
  have XR0 : Hid (BoxF ((w.alloc (.cells #[.slice va dl ca, .slice vb n cb] 38)).alloc (.cells #[.slice none 0 0, .slice none 0 0] 38)) (w.heap.size + 1) (.slice none 0 0) (.slice none 0 0)) := by
    have := BoxF.new (w.alloc (.cells #[.slice va dl ca, .slice vb n cb] 38)) (.slice none 0 0) (.slice none 0 0) 38
    show BoxF _ _ _ _
    simpa using this
  have B0 := BA.out (.cells #[.slice va dl ca, .slice vb n cb] 38) (.cells #[.slice none 0 0, .slice none 0 0] 38)
  have HB0 : Hid (Below w.heap.size w ((w.alloc (.cells #[.slice va dl ca, .slice vb n cb] 38)).alloc (.cells #[.slice none 0 0, .slice none 0 0] 38))) := B0
  clear B0 BA
  generalize (w.alloc (.cells #[.slice va dl ca, .slice vb n cb] 38)).alloc (.cells #[.slice none 0 0, .slice none 0 0] 38) = w0 at *
  refine (specValid_any _ va vb dl ca n cb ps (HP.out.below HB0.out) HL.out hd1 hn HPD.out).mono ?_
  rintro e w1 ⟨rfl, b1⟩
  have HB1 : Hid (Below w.heap.size w w1) := HB0.out.trans (b1.mono HB0.out.size)
  have XR1 : Hid (BoxF w1 (w.heap.size + 1) (.slice none 0 0) (.slice none 0 0)) := XR0.out.below b1
  clear b1 XR0 HB0
  obtain ⟨⟨zr, d0, d1⟩, f0, f1⟩ := XR1.out
  by_cases hv : vldD dl ps = true
  · rw [hv]
    have t1 : (2000 : Int) < (m : Int) := by
      by_cases h : m ≤ 2000
      · have h' : crOk dl ps m = true := by
          unfold crOk
          simp only [Bool.and_eq_true, decide_eq_true_eq]
          exact ⟨hv, h⟩
        rw [HNO.out] at h'
        cases h'
      · omega
    have t1d : decide ((2000 : Int) < (m : Int)) = true := by simpa using t1
    clear hv
    go_wp2
    refine bodyPost_ret (v := .agg #[.slice none 0 0, .slice none 0 0]) (by simp [results, Try.results52, go_sem, d0, d1]) rfl ⟨rfl, ?_⟩
    repeat (first | exact HB1.out | refine Below.setCell ?_ (by simp; try omega) _)
  · have hv' : vldD dl ps = false := by simpa using hv
    rw [hv']
    clear hv hv'
    go_wp2
    refine bodyPost_ret (v := .agg #[.slice none 0 0, .slice none 0 0]) (by simp [results, Try.results52, go_sem, d0, d1]) rfl ⟨rfl, ?_⟩
    repeat (first | exact HB1.out | refine Below.setCell ?_ (by simp; try omega) _)

theorem specCrash_any (w : World) (v1 v2 v3 : Value) (dur : List Int) (ps : List (Int × List Int)) (cs : List Int) (hd : Rd .u8 w v1 dur) (hp : RdW w v2 ps) (hc : Rd .i64 w v3 cs) (hdl : dur.length ≤ 1048576) (hn : ps.length ≤ 1048576) (hpd : ∀ i, (pD ps i).length ≤ 1048576) :
    Calls Try.prog 52 #[.agg #[v1, v2], v3] w fun e w' => ∃ u, e = .returned (.agg #[u, .slice none 0 0]) ∧ Own .u8 5 w' w.heap.size u (crD dur ps cs) ∧ Below w.heap.size w w' := by
  obtain ⟨va, ca, rfl, -⟩ := hd.len
  obtain ⟨vc, cc, rfl, -⟩ := hc.len
  obtain ⟨vb, cb, rfl, -⟩ := id hp
  unfold crD
  cases h : crOk dur.length ps cs.length with
  | true =>
    simp only [if_true]
    unfold crOk at h
    simp only [Bool.and_eq_true, decide_eq_true_eq] at h
    exact specCrash_yes w va vb vc dur.length ca ps.length cb cs.length cc dur ps cs hd rfl hp rfl hc rfl h.1 h.2 hdl hpd
  | false =>
    simp only [Bool.false_eq_true, if_false]
    refine (specCrash_no w va vb vc dur.length ca ps.length cb cs.length cc ps hp rfl h hn hdl hpd).mono ?_
    rintro e w' ⟨rfl, b⟩
    exact ⟨_, rfl, World.ownsRow_nil _ _ _ _, b⟩

end Go.Proofs.Ytljljljpfbkdeaa
