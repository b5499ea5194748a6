import Derived.Test.YtoljmlhnbmeloaaDoorJ05
import Derived.Deep.RegionHeld3
import Derived.Test.YtoljmlhnbmeloaaDoorJ04
import Derived.Test.YtoljmlhnbmeloaaDoorJ02
import Derived.Test.YtoljmlhnbmeloaaDoorChecked
import Derived.Test.YtoljmlhnbmeloaaDoorJ01
import Derived.Deep.QuietTactic
import Derived.BigQuiet
import Derived.Deep.RegionWith
import Derived.Test.YtoljmlhnbmeloaaDoorJ03
namespace Go.Proofs.YtoljmlhnbmeloaaDoor
open Go.RowKit

/-- Is the configuration one? -/
def cfgOk (S L : Int) : Bool := decide (1 ≤ S ∧ S ≤ 64) && decide (1 ≤ L ∧ L ≤ 64)
/-- Is the disk laid out for it? -/
def fitD (S L : Int) (dl : Nat) (ps : List (Int × List Int)) : Bool := cfgOk S L && (vldD dl ps && decide (((dl / 64 : Nat) : Int) = 2 + 2 * (S + L)))
/-- The first block of an area, and its blocks. -/
def arF (S L bank : Int) (log : Bool) : Int := 2 + bank * (S + L) + if log then S else 0
def arL (S L : Int) (log : Bool) : Int := if log then L else S
def arOk (S L : Int) (dl : Nat) (ps : List (Int × List Int)) (bank : Int) : Bool := fitD S L dl ps && decide (0 ≤ bank ∧ bank ≤ 1)
def arN (D : List Int) (f l : Nat) : List Int := (D.drop (f * 64)).take (l * 64)
def arA (dur : List Int) (ps : List (Int × List Int)) (S L bank : Int) (log : Bool) : List Int :=
  if arOk S L dur.length ps bank then arN (syD dur ps) (arF S L bank log).toNat (arL S L log).toNat else []

theorem cfgOk_iff (S L : Int) : cfgOk S L = true ↔ (1 ≤ S ∧ S ≤ 64) ∧ 1 ≤ L ∧ L ≤ 64 := by unfold cfgOk; simp only [Bool.and_eq_true, decide_eq_true_eq]
theorem fitD_iff (S L : Int) (dl : Nat) (ps : List (Int × List Int)) : fitD S L dl ps = true ↔ cfgOk S L = true ∧ vldD dl ps = true ∧ ((dl / 64 : Nat) : Int) = 2 + 2 * (S + L) := by
  unfold fitD; simp only [Bool.and_eq_true, decide_eq_true_eq]

theorem arN_succ (D : List Int) (f i : Nat) : arN D f (i + 1) = arN D f i ++ blk D (f + i) := by
  unfold arN blk
  rw [show (i + 1) * 64 = i * 64 + 64 by omega, show (f + i) * 64 = f * 64 + i * 64 by omega, List.take_add, List.drop_drop]
theorem arN_zero (D : List Int) (f : Nat) : arN D f 0 = [] := by unfold arN; simp
theorem syD_length {dur : List Int} {ps : List (Int × List Int)} (h : vldD dur.length ps = true) : (syD dur ps).length = dur.length := by
  unfold syD; rw [if_pos h]; exact stl_len _ _ _ h _ (Nat.le_refl _)
theorem arN_length (D : List Int) (f l : Nat) (h : (f + l) * 64 ≤ D.length) : (arN D f l).length = l * 64 := by
  unfold arN; rw [List.length_take, List.length_drop]; omega
theorem syD_blk {dur : List Int} {ps : List (Int × List Int)} {b : Nat} (hv : vldD dur.length ps = true) (hb : b < dur.length / 64) : rdA dur ps (b : Int) = blk (syD dur ps) b := by
  unfold rdA rdOk syD
  have hb' : ((b : Int)) < ((dur.length / 64 : Nat) : Int) := by omega
  rw [if_pos (by simp only [hv, Bool.true_and, decide_eq_true_eq]; exact ⟨by omega, hb'⟩), if_pos hv, Int.toNat_natCast]
  exact (stl_blk dur ps hv b _ (Nat.le_refl _)).symm

end Go.Proofs.YtoljmlhnbmeloaaDoor

namespace Go.Proofs.YtoljmlhnbmeloaaDoor
open Go.RowKit

set_option maxHeartbeats 400000 in
theorem l5Good_any (w : World) (S L : Int) :
    Calls Tryd.prog 33 #[.agg #[.int .i64 S, .int .i64 L]] w fun e w' => e = .returned (.bool (cfgOk S L)) ∧ Below w.heap.size w w' := by
  have B0 : Hid (Below w.heap.size w (w.alloc (.cells #[.int .i64 S, .int .i64 L] 29))) := (Below.refl _ _).alloc (Nat.le_refl _) _
  by_cases h1 : 1 ≤ S
  · by_cases h2 : S ≤ 64
    · by_cases h3 : 1 ≤ L
      · by_cases h4 : L ≤ 64
        · have H : Hid (cfgOk S L = true) := (cfgOk_iff S L).2 ⟨⟨h1, h2⟩, h3, h4⟩
          go_enter Tryd.func33, Tryd.ntmps33
          go_wp2
          go_ret
          exact ⟨ret_bool H.out.symm, B0.out⟩
        · have H : Hid (cfgOk S L = false) := by show _ = _; rw [← Bool.not_eq_true, cfgOk_iff]; omega
          have d4 : decide (L ≤ 64) = false := by simpa using h4
          go_enter Tryd.func33, Tryd.ntmps33
          go_wp2
          go_ret
          exact ⟨ret_bool H.out.symm, B0.out⟩
      · have H : Hid (cfgOk S L = false) := by show _ = _; rw [← Bool.not_eq_true, cfgOk_iff]; omega
        have d3 : decide (1 ≤ L) = false := by simpa using h3
        go_enter Tryd.func33, Tryd.ntmps33
        go_wp2
        go_ret
        exact ⟨ret_bool H.out.symm, B0.out⟩
    · have H : Hid (cfgOk S L = false) := by show _ = _; rw [← Bool.not_eq_true, cfgOk_iff]; omega
      have d2 : decide (S ≤ 64) = false := by simpa using h2
      go_enter Tryd.func33, Tryd.ntmps33
      go_wp2
      go_ret
      exact ⟨ret_bool H.out.symm, B0.out⟩
  · have H : Hid (cfgOk S L = false) := by show _ = _; rw [← Bool.not_eq_true, cfgOk_iff]; omega
    have d1 : decide (1 ≤ S) = false := by simpa using h1
    go_enter Tryd.func33, Tryd.ntmps33
    go_wp2
    go_ret
    exact ⟨ret_bool H.out.symm, B0.out⟩

set_option maxHeartbeats 400000 in
theorem validArea_any (w : World) (S : Int) :
    Calls Tryd.prog 85 #[.int .i64 S] w fun e w' => e = .returned (.bool (decide (1 ≤ S ∧ S ≤ 64))) ∧ w' = w := by
  by_cases h1 : 1 ≤ S
  · by_cases h2 : S ≤ 64
    · go_enter Tryd.func85, Tryd.ntmps85
      go_wp2
      go_ret
      exact ⟨ret_bool (by first | rfl | (symm; rw [decide_eq_true_eq]; exact ⟨h1, h2⟩)), rfl⟩
    · have d2 : decide (S ≤ 64) = false := by simpa using h2
      go_enter Tryd.func85, Tryd.ntmps85
      go_wp2
      go_ret
      exact ⟨ret_bool (by first | rfl | (symm; rw [decide_eq_false_iff_not]; omega)), rfl⟩
  · have d1 : decide (1 ≤ S) = false := by simpa using h1
    go_enter Tryd.func85, Tryd.ntmps85
    go_wp2
    go_ret
    exact ⟨ret_bool (by first | rfl | (symm; rw [decide_eq_false_iff_not]; omega)), rfl⟩

set_option linter.unusedSimpArgs false in
set_option maxHeartbeats 1000000 in
theorem validConfig_any (w : World) (S L : Int) :
    Calls Tryd.prog 39 #[.agg #[.int .i64 S, .int .i64 L]] w fun e w' => e = .returned (.bool (cfgOk S L)) ∧ Below w.heap.size w w' := by
  have B0 : Hid (Below w.heap.size w (w.alloc (.cells #[.int .i64 S, .int .i64 L] 29))) := (Below.refl _ _).alloc (Nat.le_refl _) _
  obtain ⟨t, ht⟩ : ∃ t, t = decide (1 ≤ S ∧ S ≤ 64) := ⟨_, rfl⟩
  obtain ⟨u, hu⟩ : ∃ u, u = decide (1 ≤ L ∧ L ≤ 64) := ⟨_, rfl⟩
  have H : Hid (cfgOk S L = (t && u)) := by show _ = _; rw [ht, hu]; rfl
  have V1 : Hid (∀ W, Calls Tryd.prog 85 #[.int .i64 S] W fun e w' => e = .returned (.bool t) ∧ w' = W) := fun W => by rw [ht]; exact validArea_any W S
  have V2 : Hid (∀ W, Calls Tryd.prog 85 #[.int .i64 L] W fun e w' => e = .returned (.bool u) ∧ w' = W) := fun W => by rw [hu]; exact validArea_any W L
  clear ht hu
  go_enter Tryd.func39, Tryd.ntmps39
  go_wp2_with fail
  cases t with
  | true =>
    refine (V1.out _).mono ?_
    rintro e w1 ⟨rfl, rfl⟩
    go_wp2_with fail
    refine (V2.out _).mono ?_
    rintro e w1 ⟨rfl, rfl⟩
    go_wp2
    go_ret
    exact ⟨ret_bool (by rw [H.out]; simp), B0.out⟩
  | false =>
    refine (V1.out _).mono ?_
    rintro e w1 ⟨rfl, rfl⟩
    go_wp2
    go_ret
    exact ⟨ret_bool (by rw [H.out]; simp), B0.out⟩

set_option maxHeartbeats 400000 in
theorem bankBlocks_any (w : World) (S L : Int) (hS : 1 ≤ S) (hS2 : S ≤ 64) (hL : 1 ≤ L) (hL2 : L ≤ 64) :
    Calls Tryd.prog 86 #[.agg #[.int .i64 S, .int .i64 L]] w fun e w' => e = .returned (.int .i64 (S + L)) ∧ Below w.heap.size w w' := by
  have B0 : Hid (Below w.heap.size w (w.alloc (.cells #[.int .i64 S, .int .i64 L] 29))) := (Below.refl _ _).alloc (Nat.le_refl _) _
  go_enter Tryd.func86, Tryd.ntmps86
  go_wp2
  go_ret
  exact ⟨rfl, B0.out⟩

set_option maxHeartbeats 400000 in
theorem diskBlocks_any (w : World) (S L : Int) (hS : 1 ≤ S) (hS2 : S ≤ 64) (hL : 1 ≤ L) (hL2 : L ≤ 64) :
    Calls Tryd.prog 41 #[.agg #[.int .i64 S, .int .i64 L]] w fun e w' => e = .returned (.int .i64 (2 + 2 * (S + L))) ∧ Below w.heap.size w w' := by
  have B0 : Hid (Below w.heap.size w (w.alloc (.cells #[.int .i64 S, .int .i64 L] 29))) := (Below.refl _ _).alloc (Nat.le_refl _) _
  go_enter Tryd.func41, Tryd.ntmps41
  go_wp2_with fail
  refine (bankBlocks_any _ S L hS hS2 hL hL2).mono ?_
  rintro e w1 ⟨rfl, b1⟩
  have B1 : Hid (Below w.heap.size w w1) := B0.out.trans (b1.mono B0.out.size)
  clear b1 B0
  go_wp2
  go_ret
  exact ⟨rfl, B1.out⟩

/-- What the two arguments' boxes hold. -/
def FitS (w : World) (ao bo : Option Addr) (dl ca n cb : Nat) (S L : Int) (W : World) : Prop :=
  Hid (Below w.heap.size w W ∧ Box2 W w.heap.size (.slice ao dl ca) (.slice bo n cb) ∧ Box2 W (w.heap.size + 1) (.int .i64 S) (.int .i64 L)) ∧
    W.cell? ⟨w.heap.size, 0, none⟩ = some (.slice ao dl ca) ∧ W.cell? ⟨w.heap.size, 1, none⟩ = some (.slice bo n cb) ∧ W.cell? ⟨w.heap.size + 1, 0, none⟩ = some (.int .i64 S) ∧ W.cell? ⟨w.heap.size + 1, 1, none⟩ = some (.int .i64 L)
theorem FitS.mk {w : World} {ao bo : Option Addr} {dl ca n cb : Nat} {S L : Int} {W : World} (h1 : Below w.heap.size w W) (h2 : Box2 W w.heap.size (.slice ao dl ca) (.slice bo n cb)) (h3 : Box2 W (w.heap.size + 1) (.int .i64 S) (.int .i64 L)) : FitS w ao bo dl ca n cb S L W :=
  ⟨⟨h1, h2, h3⟩, h2.2.1, h2.2.2, h3.2.1, h3.2.2⟩
theorem FitS.below {w : World} {ao bo : Option Addr} {dl ca n cb : Nat} {S L : Int} {W W' : World} (h : FitS w ao bo dl ca n cb S L W) (hb : Below W.heap.size W W') : FitS w ao bo dl ca n cb S L W' :=
  FitS.mk (h.1.out.1.trans (hb.mono h.1.out.1.size)) (h.1.out.2.1.below hb) (h.1.out.2.2.below hb)


set_option linter.unusedSimpArgs false in
set_option maxHeartbeats 1000000 in
theorem isLaidOut_any (w : World) (ao bo : Option Addr) (dl ca n cb : Nat) (ps : List (Int × List Int)) (S L : Int) (hp : RdW w (.slice bo n cb) ps) (hl : ps.length = n) (hd1 : dl ≤ 1048576) (hn : n ≤ 1048576) (hpd : ∀ i, (pD ps i).length ≤ 1048576) :
    Calls Tryd.prog 61 #[.agg #[.slice ao dl ca, .slice bo n cb], .agg #[.int .i64 S, .int .i64 L]] w fun e w' => e = .returned (.bool (fitD S L dl ps)) ∧ Below w.heap.size w w' := by
  have HP : Hid (RdW w (.slice bo n cb) ps) := hp
  have HL : Hid (ps.length = n) := hl
  have HPD : Hid (∀ i, (pD ps i).length ≤ 1048576) := hpd
  have B0 : Hid (Below w.heap.size w ((w.alloc (.cells #[.slice ao dl ca, .slice bo n cb] 27)).alloc (.cells #[.int .i64 S, .int .i64 L] 29))) := ((Below.refl _ _).alloc (Nat.le_refl _) _).alloc (by simp) _
  have XD : Hid (Box2 ((w.alloc (.cells #[.slice ao dl ca, .slice bo n cb] 27)).alloc (.cells #[.int .i64 S, .int .i64 L] 29)) w.heap.size (.slice ao dl ca) (.slice bo n cb)) := (Box2.new w _ _ _).below ((Below.refl _ _).alloc (Nat.le_refl _) _)
  have XC : Hid (Box2 ((w.alloc (.cells #[.slice ao dl ca, .slice bo n cb] 27)).alloc (.cells #[.int .i64 S, .int .i64 L] 29)) (w.heap.size + 1) (.int .i64 S) (.int .i64 L)) := by
    have := Box2.new (w.alloc (.cells #[.slice ao dl ca, .slice bo n cb] 27)) (.int .i64 S) (.int .i64 L) 29
    show Box2 _ _ _ _
    simpa using this
  obtain ⟨t, ht⟩ : ∃ t, t = cfgOk S L := ⟨_, rfl⟩
  obtain ⟨u, hu⟩ : ∃ u, u = vldD dl ps := ⟨_, rfl⟩
  have H : Hid (fitD S L dl ps = (t && (u && decide (((dl / 64 : Nat) : Int) = 2 + 2 * (S + L))))) := by show _ = _; rw [ht, hu]; rfl
  have HB : Hid (t = true → (1 ≤ S ∧ S ≤ 64) ∧ 1 ≤ L ∧ L ≤ 64) := fun e => (cfgOk_iff S L).1 (ht ▸ e)
  have Q : Hid (∀ W W', FitS w ao bo dl ca n cb S L W → Below W.heap.size W W' → FitS w ao bo dl ca n cb S L W') := fun W W' h1 h4 => h1.below h4
  have V1 : Hid (∀ W, Calls Tryd.prog 39 #[.agg #[.int .i64 S, .int .i64 L]] W fun e w' => e = .returned (.bool t) ∧ Below W.heap.size W w') := fun W => by rw [ht]; exact validConfig_any W S L
  have V2 : Hid (∀ W, FitS w ao bo dl ca n cb S L W → Calls Tryd.prog 100 #[.agg #[.slice ao dl ca, .slice bo n cb]] W fun e w' => e = .returned (.bool u) ∧ Below W.heap.size W w') := fun W hW => by rw [hu]; exact implValid_any W ao bo dl ca n cb ps (HP.out.below hW.1.out.1) HL.out hd1 hn HPD.out
  clear ht hu hp hl hpd
  go_enter Tryd.func61, Tryd.ntmps61
  go_wp2_with fail
  have S0 : Hid (FitS w ao bo dl ca n cb S L ((w.alloc (.cells #[.slice ao dl ca, .slice bo n cb] 27)).alloc (.cells #[.int .i64 S, .int .i64 L] 29))) := FitS.mk B0.out XD.out XC.out
  clear B0 XD XC
  generalize (w.alloc (.cells #[.slice ao dl ca, .slice bo n cb] 27)).alloc (.cells #[.int .i64 S, .int .i64 L] 29) = w0 at *
  cases t with
  | false =>
    refine wp_region_held_drew (S := FitS w ao bo dl ca n cb S L) (by kernel_rfl) (S0.out.below (below_drewN' w0 1)) (fun hHeld => ?_)
    refine wpAnyH_take (i := 0) (oi := { dst := some 5, op := _, type := _, pos := _, after := _, guard := _ }) (v := ?v30) rfl (by kernel_rfl) (by kernel_rfl) (by kernel_rfl) (fun _ _ _ h => h) (Or.inl ⟨by rfl, ?hy30⟩) (by assumption) ?rest30
    case hy30 =>
      intro w9 hS9
      obtain ⟨-, k0, k1, k2, k3⟩ := hS9
      go_simp
      try with_reducible rfl
    try simp only [Act.put, List.setIfInBounds_toArray, List.set_cons_zero, List.set_cons_succ]
    refine wpAnyH_ready (rs := [1]) (by kernel_rfl) (by simp) ?_
    refine AllReadyH.cons (o := { dst := some 6, op := _, type := _, pos := _, after := _, guard := _ }) rfl (fun K hK => ?_) AllReadyH.nil
    go_simp
    refine (V1.out _).mono ?_
    rintro e w1 ⟨rfl, b1⟩
    have hN1 := Q.out _ _ hHeld b1
    clear b1
    refine hK.out _ _ (hN1) (fun hx9 => ?_)
    clear hK K hHeld hx9
    have hHeld := hN1
    try simp only [Act.put, List.setIfInBounds_toArray, List.set_cons_zero, List.set_cons_succ]
    refine wpAnyH_take (i := 2) (oi := { dst := some 7, op := _, type := _, pos := _, after := _, guard := _ }) (v := ?v31) rfl (by kernel_rfl) (by kernel_rfl) (by kernel_rfl) (fun _ _ _ h => h) (Or.inl ⟨by rfl, ?hy31⟩) (by assumption) ?rest31
    case hy31 =>
      intro w9 hS9
      obtain ⟨-, k0, k1, k2, k3⟩ := hS9
      go_simp
      try with_reducible rfl
    try simp only [Act.put, List.setIfInBounds_toArray, List.set_cons_zero, List.set_cons_succ]
    refine wpAnyH_take (i := 3) (oi := { dst := some 8, op := _, type := _, pos := _, after := _, guard := _ }) (v := undef) rfl (by kernel_rfl) (by kernel_rfl) (by kernel_rfl) (fun _ _ _ h => h) (Or.inr ⟨by rfl, rfl⟩) (by assumption) ?_
    try simp only [Act.put, List.setIfInBounds_toArray, List.set_cons_zero, List.set_cons_succ]
    refine wpAnyH_take (i := 4) (oi := { dst := some 9, op := _, type := _, pos := _, after := _, guard := _ }) (v := undef) rfl (by kernel_rfl) (by kernel_rfl) (by kernel_rfl) (fun _ _ _ h => h) (Or.inr ⟨by rfl, rfl⟩) (by assumption) ?_
    try simp only [Act.put, List.setIfInBounds_toArray, List.set_cons_zero, List.set_cons_succ]
    refine wpAnyH_take (i := 5) (oi := { dst := some 10, op := _, type := _, pos := _, after := _, guard := _ }) (v := ?v32) rfl (by kernel_rfl) (by kernel_rfl) (by kernel_rfl) (fun _ _ _ h => h) (Or.inl ⟨by rfl, ?hy32⟩) (by assumption) ?rest32
    case hy32 =>
      intro w9 hS9
      obtain ⟨-, k0, k1, k2, k3⟩ := hS9
      go_simp
      try with_reducible rfl
    try simp only [Act.put, List.setIfInBounds_toArray, List.set_cons_zero, List.set_cons_succ]
    refine wpAnyH_take (i := 6) (oi := { dst := some 11, op := _, type := _, pos := _, after := _, guard := _ }) (v := ?v33) rfl (by kernel_rfl) (by kernel_rfl) (by kernel_rfl) (fun _ _ _ h => h) (Or.inl ⟨by rfl, ?hy33⟩) (by assumption) ?rest33
    case hy33 =>
      intro w9 hS9
      obtain ⟨-, k0, k1, k2, k3⟩ := hS9
      go_simp
      try with_reducible rfl
    try simp only [Act.put, List.setIfInBounds_toArray, List.set_cons_zero, List.set_cons_succ]
    refine wpAnyH_take (i := 7) (oi := { dst := some 12, op := _, type := _, pos := _, after := _, guard := _ }) (v := undef) rfl (by kernel_rfl) (by kernel_rfl) (by kernel_rfl) (fun _ _ _ h => h) (Or.inr ⟨by rfl, rfl⟩) (by assumption) ?_
    try simp only [Act.put, List.setIfInBounds_toArray, List.set_cons_zero, List.set_cons_succ]
    refine wpAnyH_take (i := 8) (oi := { dst := some 13, op := _, type := _, pos := _, after := _, guard := _ }) (v := undef) rfl (by kernel_rfl) (by kernel_rfl) (by kernel_rfl) (fun _ _ _ h => h) (Or.inr ⟨by rfl, rfl⟩) (by assumption) ?_
    try simp only [Act.put, List.setIfInBounds_toArray, List.set_cons_zero, List.set_cons_succ]
    refine wpAnyH_take (i := 9) (oi := { dst := some 14, op := _, type := _, pos := _, after := _, guard := _ }) (v := undef) rfl (by kernel_rfl) (by kernel_rfl) (by kernel_rfl) (fun _ _ _ h => h) (Or.inr ⟨by rfl, rfl⟩) (by assumption) ?_
    try simp only [Act.put, List.setIfInBounds_toArray, List.set_cons_zero, List.set_cons_succ]
    refine wpAnyH_take (i := 10) (oi := { dst := some 15, op := _, type := _, pos := _, after := _, guard := _ }) (v := undef) rfl (by kernel_rfl) (by kernel_rfl) (by kernel_rfl) (fun _ _ _ h => h) (Or.inr ⟨by rfl, rfl⟩) (by assumption) ?_
    try simp only [Act.put, List.setIfInBounds_toArray, List.set_cons_zero, List.set_cons_succ]
    refine wpAnyH_take (i := 11) (oi := { dst := some 16, op := _, type := _, pos := _, after := _, guard := _ }) (v := undef) rfl (by kernel_rfl) (by kernel_rfl) (by kernel_rfl) (fun _ _ _ h => h) (Or.inr ⟨by rfl, rfl⟩) (by assumption) ?_
    try simp only [Act.put, List.setIfInBounds_toArray, List.set_cons_zero, List.set_cons_succ]
    refine wpAnyH_take (i := 12) (oi := { dst := some 17, op := _, type := _, pos := _, after := _, guard := _ }) (v := ?v34) rfl (by kernel_rfl) (by kernel_rfl) (by kernel_rfl) (fun _ _ _ h => h) (Or.inl ⟨by rfl, ?hy34⟩) (by assumption) ?rest34
    case hy34 =>
      intro w9 hS9
      obtain ⟨-, k0, k1, k2, k3⟩ := hS9
      go_simp
      try with_reducible rfl
    try simp only [Act.put, List.setIfInBounds_toArray, List.set_cons_zero, List.set_cons_succ]
    refine wpAnyH_take (i := 13) (oi := { dst := some 4, op := _, type := _, pos := _, after := _, guard := _ }) (v := ?v35) rfl (by kernel_rfl) (by kernel_rfl) (by kernel_rfl) (fun _ _ _ h => h) (Or.inl ⟨by rfl, ?hy35⟩) (by assumption) ?rest35
    case hy35 =>
      intro w9 hS9
      obtain ⟨-, k0, k1, k2, k3⟩ := hS9
      go_simp
      try with_reducible rfl
    try simp only [Act.put, List.setIfInBounds_toArray, List.set_cons_zero, List.set_cons_succ]
    refine wpAnyH_done (by kernel_rfl) ?_ _
    have BE := hHeld.1
    clear hHeld
    go_wp2
    go_ret
    exact ⟨ret_bool (by rw [H.out]; simp <;> rfl), BE.out.1⟩
  | true =>
    obtain ⟨⟨hS1, hS2⟩, hL1, hL2⟩ := HB.out rfl
    cases u with
    | false =>
      refine wp_region_held_drew (S := FitS w ao bo dl ca n cb S L) (by kernel_rfl) (S0.out.below (below_drewN' w0 1)) (fun hHeld => ?_)
      refine wpAnyH_take (i := 0) (oi := { dst := some 5, op := _, type := _, pos := _, after := _, guard := _ }) (v := ?v36) rfl (by kernel_rfl) (by kernel_rfl) (by kernel_rfl) (fun _ _ _ h => h) (Or.inl ⟨by rfl, ?hy36⟩) (by assumption) ?rest36
      case hy36 =>
        intro w9 hS9
        obtain ⟨-, k0, k1, k2, k3⟩ := hS9
        go_simp
        try with_reducible rfl
      try simp only [Act.put, List.setIfInBounds_toArray, List.set_cons_zero, List.set_cons_succ]
      refine wpAnyH_ready (rs := [1]) (by kernel_rfl) (by simp) ?_
      refine AllReadyH.cons (o := { dst := some 6, op := _, type := _, pos := _, after := _, guard := _ }) rfl (fun K hK => ?_) AllReadyH.nil
      go_simp
      refine (V1.out _).mono ?_
      rintro e w1 ⟨rfl, b1⟩
      have hN1 := Q.out _ _ hHeld b1
      clear b1
      refine hK.out _ _ (hN1) (fun hx9 => ?_)
      clear hK K hHeld hx9
      have hHeld := hN1
      try simp only [Act.put, List.setIfInBounds_toArray, List.set_cons_zero, List.set_cons_succ]
      refine wpAnyH_take (i := 2) (oi := { dst := some 7, op := _, type := _, pos := _, after := _, guard := _ }) (v := ?v37) rfl (by kernel_rfl) (by kernel_rfl) (by kernel_rfl) (fun _ _ _ h => h) (Or.inl ⟨by rfl, ?hy37⟩) (by assumption) ?rest37
      case hy37 =>
        intro w9 hS9
        obtain ⟨-, k0, k1, k2, k3⟩ := hS9
        go_simp
        try with_reducible rfl
      try simp only [Act.put, List.setIfInBounds_toArray, List.set_cons_zero, List.set_cons_succ]
      refine wpAnyH_take (i := 3) (oi := { dst := some 8, op := _, type := _, pos := _, after := _, guard := _ }) (v := ?v38) rfl (by kernel_rfl) (by kernel_rfl) (by kernel_rfl) (fun _ _ _ h => h) (Or.inl ⟨by rfl, ?hy38⟩) (by assumption) ?rest38
      case hy38 =>
        intro w9 hS9
        obtain ⟨-, k0, k1, k2, k3⟩ := hS9
        go_simp
        try with_reducible rfl
      try simp only [Act.put, List.setIfInBounds_toArray, List.set_cons_zero, List.set_cons_succ]
      refine wpAnyH_ready (rs := [4]) (by kernel_rfl) (by simp) ?_
      refine AllReadyH.cons (o := { dst := some 9, op := _, type := _, pos := _, after := _, guard := _ }) rfl (fun K hK => ?_) AllReadyH.nil
      go_simp
      refine (V2.out _ hHeld).mono ?_
      rintro e w2 ⟨rfl, b2⟩
      have hN2 := Q.out _ _ hHeld b2
      clear b2
      refine hK.out _ _ (hN2) (fun hx9 => ?_)
      clear hK K hHeld hx9
      have hHeld := hN2
      try simp only [Act.put, List.setIfInBounds_toArray, List.set_cons_zero, List.set_cons_succ]
      refine wpAnyH_take (i := 5) (oi := { dst := some 10, op := _, type := _, pos := _, after := _, guard := _ }) (v := ?v39) rfl (by kernel_rfl) (by kernel_rfl) (by kernel_rfl) (fun _ _ _ h => h) (Or.inl ⟨by rfl, ?hy39⟩) (by assumption) ?rest39
      case hy39 =>
        intro w9 hS9
        obtain ⟨-, k0, k1, k2, k3⟩ := hS9
        go_simp
        try with_reducible rfl
      try simp only [Act.put, List.setIfInBounds_toArray, List.set_cons_zero, List.set_cons_succ]
      refine wpAnyH_take (i := 6) (oi := { dst := some 11, op := _, type := _, pos := _, after := _, guard := _ }) (v := ?v40) rfl (by kernel_rfl) (by kernel_rfl) (by kernel_rfl) (fun _ _ _ h => h) (Or.inl ⟨by rfl, ?hy40⟩) (by assumption) ?rest40
      case hy40 =>
        intro w9 hS9
        obtain ⟨-, k0, k1, k2, k3⟩ := hS9
        go_simp
        try with_reducible rfl
      try simp only [Act.put, List.setIfInBounds_toArray, List.set_cons_zero, List.set_cons_succ]
      refine wpAnyH_take (i := 7) (oi := { dst := some 12, op := _, type := _, pos := _, after := _, guard := _ }) (v := undef) rfl (by kernel_rfl) (by kernel_rfl) (by kernel_rfl) (fun _ _ _ h => h) (Or.inr ⟨by rfl, rfl⟩) (by assumption) ?_
      try simp only [Act.put, List.setIfInBounds_toArray, List.set_cons_zero, List.set_cons_succ]
      refine wpAnyH_take (i := 8) (oi := { dst := some 13, op := _, type := _, pos := _, after := _, guard := _ }) (v := undef) rfl (by kernel_rfl) (by kernel_rfl) (by kernel_rfl) (fun _ _ _ h => h) (Or.inr ⟨by rfl, rfl⟩) (by assumption) ?_
      try simp only [Act.put, List.setIfInBounds_toArray, List.set_cons_zero, List.set_cons_succ]
      refine wpAnyH_take (i := 9) (oi := { dst := some 14, op := _, type := _, pos := _, after := _, guard := _ }) (v := undef) rfl (by kernel_rfl) (by kernel_rfl) (by kernel_rfl) (fun _ _ _ h => h) (Or.inr ⟨by rfl, rfl⟩) (by assumption) ?_
      try simp only [Act.put, List.setIfInBounds_toArray, List.set_cons_zero, List.set_cons_succ]
      refine wpAnyH_take (i := 10) (oi := { dst := some 15, op := _, type := _, pos := _, after := _, guard := _ }) (v := undef) rfl (by kernel_rfl) (by kernel_rfl) (by kernel_rfl) (fun _ _ _ h => h) (Or.inr ⟨by rfl, rfl⟩) (by assumption) ?_
      try simp only [Act.put, List.setIfInBounds_toArray, List.set_cons_zero, List.set_cons_succ]
      refine wpAnyH_take (i := 11) (oi := { dst := some 16, op := _, type := _, pos := _, after := _, guard := _ }) (v := undef) rfl (by kernel_rfl) (by kernel_rfl) (by kernel_rfl) (fun _ _ _ h => h) (Or.inr ⟨by rfl, rfl⟩) (by assumption) ?_
      try simp only [Act.put, List.setIfInBounds_toArray, List.set_cons_zero, List.set_cons_succ]
      refine wpAnyH_take (i := 12) (oi := { dst := some 17, op := _, type := _, pos := _, after := _, guard := _ }) (v := ?v41) rfl (by kernel_rfl) (by kernel_rfl) (by kernel_rfl) (fun _ _ _ h => h) (Or.inl ⟨by rfl, ?hy41⟩) (by assumption) ?rest41
      case hy41 =>
        intro w9 hS9
        obtain ⟨-, k0, k1, k2, k3⟩ := hS9
        go_simp
        try with_reducible rfl
      try simp only [Act.put, List.setIfInBounds_toArray, List.set_cons_zero, List.set_cons_succ]
      refine wpAnyH_take (i := 13) (oi := { dst := some 4, op := _, type := _, pos := _, after := _, guard := _ }) (v := ?v42) rfl (by kernel_rfl) (by kernel_rfl) (by kernel_rfl) (fun _ _ _ h => h) (Or.inl ⟨by rfl, ?hy42⟩) (by assumption) ?rest42
      case hy42 =>
        intro w9 hS9
        obtain ⟨-, k0, k1, k2, k3⟩ := hS9
        go_simp
        try with_reducible rfl
      try simp only [Act.put, List.setIfInBounds_toArray, List.set_cons_zero, List.set_cons_succ]
      refine wpAnyH_done (by kernel_rfl) ?_ _
      have BE := hHeld.1
      clear hHeld
      go_wp2
      go_ret
      exact ⟨ret_bool (by rw [H.out]; simp <;> rfl), BE.out.1⟩
    | true =>
      refine wp_region_held_drew (S := FitS w ao bo dl ca n cb S L) (by kernel_rfl) (S0.out.below (below_drewN' w0 1)) (fun hHeld => ?_)
      refine wpAnyH_take (i := 0) (oi := { dst := some 5, op := _, type := _, pos := _, after := _, guard := _ }) (v := ?v43) rfl (by kernel_rfl) (by kernel_rfl) (by kernel_rfl) (fun _ _ _ h => h) (Or.inl ⟨by rfl, ?hy43⟩) (by assumption) ?rest43
      case hy43 =>
        intro w9 hS9
        obtain ⟨-, k0, k1, k2, k3⟩ := hS9
        go_simp
        try with_reducible rfl
      try simp only [Act.put, List.setIfInBounds_toArray, List.set_cons_zero, List.set_cons_succ]
      refine wpAnyH_ready (rs := [1]) (by kernel_rfl) (by simp) ?_
      refine AllReadyH.cons (o := { dst := some 6, op := _, type := _, pos := _, after := _, guard := _ }) rfl (fun K hK => ?_) AllReadyH.nil
      go_simp
      refine (V1.out _).mono ?_
      rintro e w1 ⟨rfl, b1⟩
      have hN1 := Q.out _ _ hHeld b1
      clear b1
      refine hK.out _ _ (hN1) (fun hx9 => ?_)
      clear hK K hHeld hx9
      have hHeld := hN1
      try simp only [Act.put, List.setIfInBounds_toArray, List.set_cons_zero, List.set_cons_succ]
      refine wpAnyH_take (i := 2) (oi := { dst := some 7, op := _, type := _, pos := _, after := _, guard := _ }) (v := ?v44) rfl (by kernel_rfl) (by kernel_rfl) (by kernel_rfl) (fun _ _ _ h => h) (Or.inl ⟨by rfl, ?hy44⟩) (by assumption) ?rest44
      case hy44 =>
        intro w9 hS9
        obtain ⟨-, k0, k1, k2, k3⟩ := hS9
        go_simp
        try with_reducible rfl
      try simp only [Act.put, List.setIfInBounds_toArray, List.set_cons_zero, List.set_cons_succ]
      refine wpAnyH_take (i := 3) (oi := { dst := some 8, op := _, type := _, pos := _, after := _, guard := _ }) (v := ?v45) rfl (by kernel_rfl) (by kernel_rfl) (by kernel_rfl) (fun _ _ _ h => h) (Or.inl ⟨by rfl, ?hy45⟩) (by assumption) ?rest45
      case hy45 =>
        intro w9 hS9
        obtain ⟨-, k0, k1, k2, k3⟩ := hS9
        go_simp
        try with_reducible rfl
      try simp only [Act.put, List.setIfInBounds_toArray, List.set_cons_zero, List.set_cons_succ]
      refine wpAnyH_ready (rs := [4]) (by kernel_rfl) (by simp) ?_
      refine AllReadyH.cons (o := { dst := some 9, op := _, type := _, pos := _, after := _, guard := _ }) rfl (fun K hK => ?_) AllReadyH.nil
      go_simp
      refine (V2.out _ hHeld).mono ?_
      rintro e w2 ⟨rfl, b2⟩
      have hN2 := Q.out _ _ hHeld b2
      clear b2
      refine hK.out _ _ (hN2) (fun hx9 => ?_)
      clear hK K hHeld hx9
      have hHeld := hN2
      try simp only [Act.put, List.setIfInBounds_toArray, List.set_cons_zero, List.set_cons_succ]
      refine wpAnyH_take (i := 5) (oi := { dst := some 10, op := _, type := _, pos := _, after := _, guard := _ }) (v := ?v46) rfl (by kernel_rfl) (by kernel_rfl) (by kernel_rfl) (fun _ _ _ h => h) (Or.inl ⟨by rfl, ?hy46⟩) (by assumption) ?rest46
      case hy46 =>
        intro w9 hS9
        obtain ⟨-, k0, k1, k2, k3⟩ := hS9
        go_simp
        try with_reducible rfl
      try simp only [Act.put, List.setIfInBounds_toArray, List.set_cons_zero, List.set_cons_succ]
      refine wpAnyH_take (i := 6) (oi := { dst := some 11, op := _, type := _, pos := _, after := _, guard := _ }) (v := ?v47) rfl (by kernel_rfl) (by kernel_rfl) (by kernel_rfl) (fun _ _ _ h => h) (Or.inl ⟨by rfl, ?hy47⟩) (by assumption) ?rest47
      case hy47 =>
        intro w9 hS9
        obtain ⟨-, k0, k1, k2, k3⟩ := hS9
        go_simp
        try with_reducible rfl
      try simp only [Act.put, List.setIfInBounds_toArray, List.set_cons_zero, List.set_cons_succ]
      refine wpAnyH_take (i := 7) (oi := { dst := some 12, op := _, type := _, pos := _, after := _, guard := _ }) (v := ?v48) rfl (by kernel_rfl) (by kernel_rfl) (by kernel_rfl) (fun _ _ _ h => h) (Or.inl ⟨by rfl, ?hy48⟩) (by assumption) ?rest48
      case hy48 =>
        intro w9 hS9
        obtain ⟨-, k0, k1, k2, k3⟩ := hS9
        go_simp
        try with_reducible rfl
      try simp only [Act.put, List.setIfInBounds_toArray, List.set_cons_zero, List.set_cons_succ]
      refine wpAnyH_take (i := 9) (oi := { dst := some 14, op := _, type := _, pos := _, after := _, guard := _ }) (v := ?v49) rfl (by kernel_rfl) (by kernel_rfl) (by kernel_rfl) (fun _ _ _ h => h) (Or.inl ⟨by rfl, ?hy49⟩) (by assumption) ?rest49
      case hy49 =>
        intro w9 hS9
        obtain ⟨-, k0, k1, k2, k3⟩ := hS9
        go_simp
        try with_reducible rfl
      try simp only [Act.put, List.setIfInBounds_toArray, List.set_cons_zero, List.set_cons_succ]
      refine wpAnyH_ready (rs := [8]) (by kernel_rfl) (by simp) ?_
      refine AllReadyH.cons (o := { dst := some 13, op := _, type := _, pos := _, after := _, guard := _ }) rfl (fun K hK => ?_) AllReadyH.nil
      go_simp
      refine (blockCount_any _ ao dl ca _ hd1).mono ?_
      rintro e w3 ⟨rfl, b3⟩
      have hN3 := Q.out _ _ hHeld b3
      clear b3
      refine hK.out _ _ (hN3) (fun hx9 => ?_)
      clear hK K hHeld hx9
      have hHeld := hN3
      try simp only [Act.put, List.setIfInBounds_toArray, List.set_cons_zero, List.set_cons_succ]
      refine wpAnyH_ready (rs := [10]) (by kernel_rfl) (by simp) ?_
      refine AllReadyH.cons (o := { dst := some 15, op := _, type := _, pos := _, after := _, guard := _ }) rfl (fun K hK => ?_) AllReadyH.nil
      go_simp
      refine (diskBlocks_any _ S L hS1 hS2 hL1 hL2).mono ?_
      rintro e w4 ⟨rfl, b4⟩
      have hN4 := Q.out _ _ hHeld b4
      clear b4
      refine hK.out _ _ (hN4) (fun hx9 => ?_)
      clear hK K hHeld hx9
      have hHeld := hN4
      try simp only [Act.put, List.setIfInBounds_toArray, List.set_cons_zero, List.set_cons_succ]
      refine wpAnyH_take (i := 11) (oi := { dst := some 16, op := _, type := _, pos := _, after := _, guard := _ }) (v := ?v50) rfl (by kernel_rfl) (by kernel_rfl) (by kernel_rfl) (fun _ _ _ h => h) (Or.inl ⟨by rfl, ?hy50⟩) (by assumption) ?rest50
      case hy50 =>
        intro w9 hS9
        obtain ⟨-, k0, k1, k2, k3⟩ := hS9
        go_simp
        try with_reducible rfl
      try simp only [Act.put, List.setIfInBounds_toArray, List.set_cons_zero, List.set_cons_succ]
      refine wpAnyH_take (i := 12) (oi := { dst := some 17, op := _, type := _, pos := _, after := _, guard := _ }) (v := ?v51) rfl (by kernel_rfl) (by kernel_rfl) (by kernel_rfl) (fun _ _ _ h => h) (Or.inl ⟨by rfl, ?hy51⟩) (by assumption) ?rest51
      case hy51 =>
        intro w9 hS9
        obtain ⟨-, k0, k1, k2, k3⟩ := hS9
        go_simp
        try with_reducible rfl
      try simp only [Act.put, List.setIfInBounds_toArray, List.set_cons_zero, List.set_cons_succ]
      refine wpAnyH_take (i := 13) (oi := { dst := some 4, op := _, type := _, pos := _, after := _, guard := _ }) (v := ?v52) rfl (by kernel_rfl) (by kernel_rfl) (by kernel_rfl) (fun _ _ _ h => h) (Or.inl ⟨by rfl, ?hy52⟩) (by assumption) ?rest52
      case hy52 =>
        intro w9 hS9
        obtain ⟨-, k0, k1, k2, k3⟩ := hS9
        go_simp
        try with_reducible rfl
      try simp only [Act.put, List.setIfInBounds_toArray, List.set_cons_zero, List.set_cons_succ]
      refine wpAnyH_done (by kernel_rfl) ?_ _
      have BE := hHeld.1
      clear hHeld
      go_wp2
      go_ret
      exact ⟨ret_bool (by rw [H.out]; simp <;> rfl), BE.out.1⟩

end Go.Proofs.YtoljmlhnbmeloaaDoor

namespace Go.Proofs.YtoljmlhnbmeloaaDoor
open Go.RowKit



theorem arOk_iff (S L : Int) (dl : Nat) (ps : List (Int × List Int)) (bank : Int) : arOk S L dl ps bank = true ↔ fitD S L dl ps = true ∧ 0 ≤ bank ∧ bank ≤ 1 := by
  unfold arOk; simp only [Bool.and_eq_true, decide_eq_true_eq]

/-- Where an area lies. -/
theorem ar_in {S L bank : Int} {log : Bool} {dl : Nat} {ps : List (Int × List Int)} (h : arOk S L dl ps bank = true) :
    ∃ f l : Nat, arF S L bank log = f ∧ arL S L log = l ∧ 2 ≤ f ∧ 1 ≤ l ∧ l ≤ 64 ∧ f + l ≤ dl / 64 ∧ (f + l) * 64 ≤ dl ∧ dl / 64 ≤ 258 := by
  obtain ⟨h1, h2, h3⟩ := (arOk_iff ..).1 h
  obtain ⟨hc, hv, hn⟩ := (fitD_iff ..).1 h1
  obtain ⟨⟨hS1, hS2⟩, hL1, hL2⟩ := (cfgOk_iff S L).1 hc
  have hm := ((vldD_iff _ _).1 hv).1
  have hb : bank = 0 ∨ bank = 1 := by omega
  refine ⟨(arF S L bank log).toNat, (arL S L log).toNat, ?_⟩
  unfold arF arL
  rcases hb with rfl | rfl <;> cases log <;> simp <;> omega

theorem own_fullA {e : TypeId} {w : World} {base : Nat} {v : Value} {xs : List Int} (h : Own .u8 e w base v xs) (hn : 0 < xs.length) : ∃ g c, v = .slice (some ⟨g, 0, none⟩) xs.length c := by
  rcases h.2 with ⟨-, h0⟩ | ⟨g, cap, cur, rfl, -⟩
  · omega
  · exact ⟨g, cap, rfl⟩
theorem FitS.belowB {w : World} {ao bo : Option Addr} {dl ca n cb : Nat} {S L : Int} {W W' : World} (h : FitS w ao bo dl ca n cb S L W) (hb : Below (w.heap.size + 2) W W') : FitS w ao bo dl ca n cb S L W' :=
  FitS.mk (h.1.out.1.trans (hb.mono (by omega))) ⟨Nat.lt_of_lt_of_le h.1.out.2.1.1 hb.size, (hb.cell (p := ⟨w.heap.size, 0, none⟩) (by show w.heap.size < _; omega)).trans h.1.out.2.1.2.1, (hb.cell (p := ⟨w.heap.size, 1, none⟩) (by show w.heap.size < _; omega)).trans h.1.out.2.1.2.2⟩
    ⟨Nat.lt_of_lt_of_le h.1.out.2.2.1 hb.size, (hb.cell (p := ⟨w.heap.size + 1, 0, none⟩) (by show w.heap.size + 1 < _; omega)).trans h.1.out.2.2.2.1, (hb.cell (p := ⟨w.heap.size + 1, 1, none⟩) (by show w.heap.size + 1 < _; omega)).trans h.1.out.2.2.2.2⟩
theorem FitS.lt {w : World} {ao bo : Option Addr} {dl ca n cb : Nat} {S L : Int} {W : World} (h : FitS w ao bo dl ca n cb S L W) : w.heap.size + 2 ≤ W.heap.size := h.1.out.2.2.1
/-- The two boxes at the head of a call. -/
theorem FitS.new (w : World) (ao bo : Option Addr) (dl ca n cb : Nat) (S L : Int) (t1 t2 : TypeId) : FitS w ao bo dl ca n cb S L ((w.alloc (.cells #[.slice ao dl ca, .slice bo n cb] t1)).alloc (.cells #[.int .i64 S, .int .i64 L] t2)) := by
  refine FitS.mk (((Below.refl _ _).alloc (Nat.le_refl _) _).alloc (by simp) _) ((Box2.new w _ _ _).below ((Below.refl _ _).alloc (Nat.le_refl _) _)) ?_
  have := Box2.new (w.alloc (.cells #[.slice ao dl ca, .slice bo n cb] t1)) (.int .i64 S) (.int .i64 L) t2
  simpa using this




end Go.Proofs.YtoljmlhnbmeloaaDoor

namespace Go.Proofs.YtoljmlhnbmeloaaDoor
open Go.RowKit

/-- A stretch of a row of the call's own. -/
def OwnO (w : World) (base : Nat) (v : Value) (xs : List Int) : Prop :=
  (v = .slice none 0 0 ∧ xs = []) ∨ ∃ g o cap N C ys, v = .slice (some ⟨g, o, none⟩) xs.length cap ∧ Own .u8 5 w base (.slice (some ⟨g, 0, none⟩) N C) ys ∧ ys.length = N ∧ o + xs.length ≤ N ∧ (∀ i, i < xs.length → ys.getD (o + i) 0 = xs.getD i 0) ∧ xs.length ≤ cap ∧ cap ≤ maxLen

theorem OwnO.rd {w : World} {base : Nat} {v : Value} {xs : List Int} (h : OwnO w base v xs) : Rd .u8 w v xs := by
  rcases h with ⟨rfl, rfl⟩ | ⟨g, o, cap, N, C, ys, rfl, ho, hy, hN, hg, h1, h2⟩
  · exact ⟨none, 0, rfl, Nat.le_refl _, Nat.zero_le _, .inl rfl⟩
  · have hr := ho.rd
    obtain ⟨ao, c, e, r1, r2, r3⟩ := hr
    refine ⟨_, cap, rfl, h1, h2, ?_⟩
    by_cases hz : xs = []
    · exact .inl hz
    · right
      have hpos : 0 < xs.length := List.length_pos_iff.2 hz
      simp only [Value.slice.injEq] at e
      obtain ⟨rfl, -, rfl⟩ := e
      rcases r3 with r3 | ⟨b, o', e2, hb, hc⟩
      · subst r3; simp at hy; omega
      · simp only [Option.some.injEq, Addr.mk.injEq] at e2
        obtain ⟨rfl, rfl, -⟩ := e2
        refine ⟨g, o, rfl, hb, fun i hi => ?_⟩
        have := hc (o + i) (by omega)
        rw [Nat.zero_add, hg i hi] at this
        exact this

theorem OwnO.lt {w : World} {base : Nat} {v : Value} {xs : List Int} (h : OwnO w base v xs) : ∀ k, v.ownBlock = some k → base ≤ k ∧ k < w.heap.size := by
  intro k hk
  rcases h with ⟨rfl, rfl⟩ | ⟨g, o, cap, N, C, ys, rfl, ho, _⟩
  · simp [Value.ownBlock] at hk
  · exact ho.lt k hk

theorem OwnO.mono {w : World} {base base' : Nat} {v : Value} {xs : List Int} (h : OwnO w base v xs) (hb : base' ≤ base) : OwnO w base' v xs := by
  rcases h with h | ⟨g, o, cap, N, C, ys, e, ho, r⟩
  · exact .inl h
  · exact .inr ⟨g, o, cap, N, C, ys, e, ho.mono hb, r⟩

theorem OwnO.below {w w' : World} {base : Nat} {v : Value} {xs : List Int} (h : OwnO w base v xs) (hb : Below w.heap.size w w') : OwnO w' base v xs := by
  rcases h with h | ⟨g, o, cap, N, C, ys, e, ho, r⟩
  · exact .inl h
  · exact .inr ⟨g, o, cap, N, C, ys, e, ho.below hb, r⟩

set_option maxHeartbeats 400000 in
theorem markByteS_off (w : World) (base g o n cap N C : Nat) (ys : List Int) (k : Int) (hy : ys.length = N) (hN : o + n ≤ N) (hown : Own .u8 5 w base (.slice (some ⟨g, 0, none⟩) N C) ys) (hcap : n ≤ cap) (hcap2 : cap ≤ maxLen) (hk0 : 0 ≤ k) (hk1 : k ≤ 1099511627776) (hn : n ≤ 1099511627776) :
    Calls Tryd.prog 30 #[.slice (some ⟨g, o, none⟩) n cap, .int .i64 k] w fun e w' => e = .returned (.int .i64 (k + n)) ∧ OwnO w' base (.slice (some ⟨g, o, none⟩) n cap) (marks k n) ∧ w.grownBy w' (some g) := by
  have HY : Hid (ys.length = N) := hy
  have HC : Hid (n ≤ cap ∧ cap ≤ maxLen) := ⟨hcap, hcap2⟩
  clear hy hcap hcap2
  go_enter Tryd.func30, Tryd.ntmps30
  go_wp2
  go_loopw [1, 5] (fun kk i wr => ∃ j : Nat, j ≤ n ∧ i = .int .i64 j ∧ kk = .int .i64 (k + j) ∧ (∃ zs, Hid (Own .u8 5 wr base (.slice (some ⟨g, 0, none⟩) N C) zs ∧ zs.length = N ∧ ∀ i, i < j → zs.getD (o + i) 0 = (k + i) % 256)) ∧ w.grownBy wr (some g)) (fun _ i _ => n - (intOf i).toNat)
  case atStart => exact ⟨0, Nat.zero_le _, rfl, by go_num, ⟨ys, hown, HY.out, fun i hi => by omega⟩, World.grownBy.refl _ _⟩
  case round =>
    obtain ⟨j, hj, rfl, rfl, ⟨zs, HO⟩, hg⟩ := hrel
    by_cases hlt : j < n
    · have ho' : wr.ownsRow base 5 1 (.slice (some ⟨g, 0, none⟩) N C) N (zs.map (Value.int .u8)) := by
        have := HO.out.1; unfold Own at this; rw [HO.out.2.1] at this; exact this
      have hf := World.ownsRow.frozenAt ho' (o + j)
      have hc : ∃ c, wr.cell? ⟨g, o + j, none⟩ = some c := ⟨_, (World.ownsRow.cellAt ho' (o + j) (by omega)).trans (List.getElem?_eq_getElem (by simp [HO.out.2.1]; omega))⟩
      obtain ⟨c, hc⟩ := hc
      have HS : Hid (Own .u8 5 (wr.setCell ⟨g, o + j, none⟩ (.int .u8 ((k + j) % 256))) base (.slice (some ⟨g, 0, none⟩) N C) (zs.set (o + j) ((k + j) % 256)) ∧ (zs.set (o + j) ((k + j) % 256)).length = N ∧ ∀ i, i < j + 1 → (zs.set (o + j) ((k + j) % 256)).getD (o + i) 0 = (k + i) % 256) := by
        refine ⟨?_, by rw [List.length_set]; exact HO.out.2.1, fun i hi => ?_⟩
        · unfold Own
          rw [List.length_set, HO.out.2.1]
          have := (World.ownsRow.stored ho' (o + j) (.int .u8 ((k + j) % 256))).1
          rw [← List.map_set] at this
          exact this
        · rw [List.getD_eq_getElem?_getD, List.getElem?_set]
          by_cases e : i = j
          · subst e; rw [if_pos rfl, if_pos (by rw [HO.out.2.1]; omega)]; rfl
          · rw [if_neg (by omega), ← List.getD_eq_getElem?_getD]; exact HO.out.2.2 i (by omega)
      clear ho' HO
      have hltI : (j : Int) < (n : Int) := by omega
      go_wp2
      go_roundw
      case rel => exact ⟨j + 1, by omega, by go_num, by go_num, ⟨_, HS⟩, grownBy_set _ _ _ _ _ hg⟩
      case measure => simp [intOf]; omega
    · have hjn : j = n := by omega
      subst hjn
      go_wp2
      go_ret
      refine ⟨rfl, .inr ⟨g, o, cap, N, C, zs, by rw [marks_length], HO.out.1, HO.out.2.1, by rw [marks_length]; exact hN, fun i hi => ?_, by rw [marks_length]; exact HC.out.1, HC.out.2⟩, hg⟩
      rw [marks_length] at hi
      rw [marks_getD _ _ _ hi]
      exact HO.out.2.2 i hi

theorem markByteS_offA (w : World) (base : Nat) (v : Value) (xs : List Int) (k : Int) (hown : OwnO w base v xs) (hk0 : 0 ≤ k) (hk1 : k ≤ 1099511627776) (hn : xs.length ≤ 1099511627776) :
    Calls Tryd.prog 30 #[v, .int .i64 k] w fun e w' => e = .returned (.int .i64 (k + xs.length)) ∧ OwnO w' base v (marks k xs.length) ∧ w.grownBy w' v.ownBlock := by
  rcases hown with ⟨rfl, rfl⟩ | ⟨g, o, cap, N, C, ys, rfl, ho, hy, hN, hg, h1, h2⟩
  · refine (markByteS_nil w k).mono ?_
    rintro e w' ⟨rfl, rfl⟩
    exact ⟨ret_int (by simp), .inl ⟨rfl, rfl⟩, World.grownBy.refl _ _⟩
  · exact markByteS_off w base g o xs.length cap N C ys k hy hN ho h1 h2 hk0 hk1 hn

end Go.Proofs.YtoljmlhnbmeloaaDoor

namespace Go.Proofs.YtoljmlhnbmeloaaDoor
open Go.RowKit

/-- The boxes of the configuration and of the answer. -/
def RunS (w : World) (S L : Int) (W : World) : Prop :=
  Hid (Below w.heap.size w W ∧ Box2 W w.heap.size (.int .i64 S) (.int .i64 L) ∧ ∃ x y, BoxF W (w.heap.size + 1) x y) ∧ W.cell? ⟨w.heap.size, 0, none⟩ = some (.int .i64 S) ∧ W.cell? ⟨w.heap.size, 1, none⟩ = some (.int .i64 L)
theorem RunS.below {w : World} {S L : Int} {W W' : World} (h : RunS w S L W) (hb : Below W.heap.size W W') : RunS w S L W' := by
  obtain ⟨x, y, hx⟩ := h.1.out.2.2
  exact ⟨⟨h.1.out.1.trans (hb.mono h.1.out.1.size), h.1.out.2.1.below hb, x, y, hx.below hb⟩, (h.1.out.2.1.below hb).2.1, (h.1.out.2.1.below hb).2.2⟩
theorem RunS.new (w : World) (S L : Int) (t1 t2 : TypeId) : RunS w S L ((w.alloc (.cells #[.int .i64 S, .int .i64 L] t1)).alloc (.cells #[.int .i64 0, .int .i64 0] t2)) := by
  have h1 := (Box2.new w (.int .i64 S) (.int .i64 L) t1).below ((Below.refl _ _).alloc (Nat.le_refl _) (.cells #[.int .i64 0, .int .i64 0] t2))
  have h2 := BoxF.new (w.alloc (.cells #[.int .i64 S, .int .i64 L] t1)) (.int .i64 0) (.int .i64 0) t2
  exact ⟨⟨((Below.refl _ _).alloc (Nat.le_refl _) _).alloc (by simp) _, h1, _, _, by simpa using h2⟩, h1.2.1, h1.2.2⟩
theorem BoxF.stored {W : World} {b : Nat} {x y : Value} (h : BoxF W b x y) (u v : Value) : BoxF ((W.setCell ⟨b, 0, none⟩ u).setCell ⟨b, 1, none⟩ v) b u v := by
  obtain ⟨⟨z, c0, c1⟩, f0, f1⟩ := h
  exact ⟨⟨by simpa using z, by go_simp, by go_simp⟩, by simpa using f0, by simpa using f1⟩
theorem RunS.stored {w : World} {S L : Int} {W : World} (h : RunS w S L W) (u v : Value) : Box2 ((W.setCell ⟨w.heap.size + 1, 0, none⟩ u).setCell ⟨w.heap.size + 1, 1, none⟩ v) (w.heap.size + 1) u v := by
  obtain ⟨x, y, hx⟩ := h.1.out.2.2
  exact (hx.stored u v).1
theorem RunS.store {w : World} {S L : Int} {W : World} (h : RunS w S L W) (u v : Value) : RunS w S L ((W.setCell ⟨w.heap.size + 1, 0, none⟩ u).setCell ⟨w.heap.size + 1, 1, none⟩ v) := by
  obtain ⟨x, y, hx⟩ := h.1.out.2.2
  have hb : Below (w.heap.size + 1) W ((W.setCell ⟨w.heap.size + 1, 0, none⟩ u).setCell ⟨w.heap.size + 1, 1, none⟩ v) := by
    refine Below.setCell (Below.setCell (Below.refl _ _) ?_ _) ?_ _ <;> exact Nat.le_refl _
  have b1 := h.1.out.2.1
  have b2 : Box2 ((W.setCell ⟨w.heap.size + 1, 0, none⟩ u).setCell ⟨w.heap.size + 1, 1, none⟩ v) w.heap.size (.int .i64 S) (.int .i64 L) := ⟨Nat.lt_of_lt_of_le b1.1 hb.size, (hb.cell (p := ⟨w.heap.size, 0, none⟩) (by show w.heap.size < _; omega)).trans b1.2.1, (hb.cell (p := ⟨w.heap.size, 1, none⟩) (by show w.heap.size < _; omega)).trans b1.2.2⟩
  exact ⟨⟨h.1.out.1.trans (hb.mono (by omega)), b2, u, v, hx.stored u v⟩, b2.2.1, b2.2.2⟩

set_option linter.unusedSimpArgs false in
set_option maxRecDepth 100000 in
set_option maxHeartbeats 1000000 in
theorem snapArea_any (w : World) (S L bank : Int) (hc : cfgOk S L = true) (hb : 0 ≤ bank ∧ bank ≤ 1) :
    Calls Tryd.prog 43 #[.agg #[.int .i64 S, .int .i64 L], .int .i64 bank] w fun e w' => e = .returned (.agg #[.int .i64 (arF S L bank false), .int .i64 (arL S L false)]) ∧ Below w.heap.size w w' := by
  obtain ⟨⟨hS1, hS2⟩, hL1, hL2⟩ := (cfgOk_iff S L).1 hc
  clear hc
  have hb' : bank = 0 ∨ bank = 1 := by omega
  have HA : Hid (arF S L bank false = 2 + bank * (S + L) ∧ arL S L false = S) := by unfold arF arL; exact ⟨by simp, rfl⟩
  have hm : 0 ≤ bank * (S + L) ∧ bank * (S + L) ≤ 128 := by rcases hb' with rfl | rfl <;> omega
  rw [HA.out.1, HA.out.2]
  go_enter Tryd.func43, Tryd.ntmps43
  go_wp2_with fail
  have F0 : Hid (RunS w S L ((w.alloc (.cells #[.int .i64 S, .int .i64 L] 29)).alloc (.cells #[.int .i64 0, .int .i64 0] 72))) := RunS.new _ _ _ _ _
  generalize (w.alloc (.cells #[.int .i64 S, .int .i64 L] 29)).alloc (.cells #[.int .i64 0, .int .i64 0] 72) = w0 at *
  refine wp_region_held_drew (S := RunS w S L) (by kernel_rfl) (F0.out.below (below_drewN' w0 1)) (fun hHeld => ?_)
  refine wpAnyH_take (i := 0) (oi := { dst := some 5, op := _, type := _, pos := _, after := _, guard := _ }) (v := ?v9) rfl (by kernel_rfl) (by kernel_rfl) (by kernel_rfl) (fun _ _ _ h => h) (Or.inl ⟨by rfl, ?hy9⟩) (by assumption) ?rest9
  case hy9 =>
    intro w9 hS9
    obtain ⟨-, k0, k1⟩ := hS9
    go_simp
    try with_reducible rfl
  try simp only [Act.put, List.setIfInBounds_toArray, List.set_cons_zero, List.set_cons_succ]
  refine wpAnyH_take (i := 1) (oi := { dst := some 6, op := _, type := _, pos := _, after := _, guard := _ }) (v := ?v10) rfl (by kernel_rfl) (by kernel_rfl) (by kernel_rfl) (fun _ _ _ h => h) (Or.inl ⟨by rfl, ?hy10⟩) (by assumption) ?rest10
  case hy10 =>
    intro w9 hS9
    obtain ⟨-, k0, k1⟩ := hS9
    go_simp
    try with_reducible rfl
  try simp only [Act.put, List.setIfInBounds_toArray, List.set_cons_zero, List.set_cons_succ]
  refine wpAnyH_take (i := 5) (oi := { dst := some 10, op := _, type := _, pos := _, after := _, guard := _ }) (v := ?v11) rfl (by kernel_rfl) (by kernel_rfl) (by kernel_rfl) (fun _ _ _ h => h) (Or.inl ⟨by rfl, ?hy11⟩) (by assumption) ?rest11
  case hy11 =>
    intro w9 hS9
    obtain ⟨-, k0, k1⟩ := hS9
    go_simp
    try with_reducible rfl
  try simp only [Act.put, List.setIfInBounds_toArray, List.set_cons_zero, List.set_cons_succ]
  refine wpAnyH_take (i := 6) (oi := { dst := some 11, op := _, type := _, pos := _, after := _, guard := _ }) (v := ?v12) rfl (by kernel_rfl) (by kernel_rfl) (by kernel_rfl) (fun _ _ _ h => h) (Or.inl ⟨by rfl, ?hy12⟩) (by assumption) ?rest12
  case hy12 =>
    intro w9 hS9
    obtain ⟨-, k0, k1⟩ := hS9
    go_simp
    try with_reducible rfl
  try simp only [Act.put, List.setIfInBounds_toArray, List.set_cons_zero, List.set_cons_succ]
  refine wpAnyH_ready (rs := [2]) (by kernel_rfl) (by simp) ?_
  refine AllReadyH.cons (o := { dst := some 7, op := _, type := _, pos := _, after := _, guard := _ }) rfl (fun K hK => ?_) AllReadyH.nil
  go_simp
  refine (bankBlocks_any _ S L hS1 hS2 hL1 hL2).mono ?_
  rintro e w2 ⟨rfl, b2⟩
  have F2 : Hid (RunS w S L w2) := hHeld.below b2
  clear b2
  refine hK.out _ _ (F2.out) (fun hx9 => ?_)
  clear hK K hHeld hx9
  have hHeld := F2.out
  try simp only [Act.put, List.setIfInBounds_toArray, List.set_cons_zero, List.set_cons_succ]
  refine wpAnyH_take (i := 3) (oi := { dst := some 8, op := _, type := _, pos := _, after := _, guard := _ }) (v := (.int .i64 (bank * (S + L)))) rfl (by kernel_rfl) (by kernel_rfl) (by kernel_rfl) (fun _ _ _ h => h) (Or.inl ⟨by rfl, ?hy13⟩) (by assumption) ?rest13
  case hy13 =>
    intro w9 hS9
    go_simp
    try (rw [IntKind.wrap_i64]; omega)
  try simp only [Act.put, List.setIfInBounds_toArray, List.set_cons_zero, List.set_cons_succ]
  refine wpAnyH_take (i := 4) (oi := { dst := some 9, op := _, type := _, pos := _, after := _, guard := _ }) (v := (.int .i64 (2 + bank * (S + L)))) rfl (by kernel_rfl) (by kernel_rfl) (by kernel_rfl) (fun _ _ _ h => h) (Or.inl ⟨by rfl, ?hy14⟩) (by assumption) ?rest14
  case hy14 =>
    intro w9 hS9
    go_simp
    try (rw [IntKind.wrap_i64]; omega)
  try simp only [Act.put, List.setIfInBounds_toArray, List.set_cons_zero, List.set_cons_succ]
  refine wpAnyH_take (i := 7) (oi := { dst := some 12, op := _, type := _, pos := _, after := _, guard := _ }) (v := ?v15) rfl (by kernel_rfl) (by kernel_rfl) (by kernel_rfl) (fun _ _ _ h => h) (Or.inl ⟨by rfl, ?hy15⟩) (by assumption) ?rest15
  case hy15 =>
    intro w9 hS9
    obtain ⟨-, k0, k1⟩ := hS9
    go_simp
    try with_reducible rfl
  try simp only [Act.put, List.setIfInBounds_toArray, List.set_cons_zero, List.set_cons_succ]
  refine wpAnyH_ready (rs := [8]) (by kernel_rfl) (by simp) ?_
  refine AllReadyH.cons (o := { dst := none, op := _, type := _, pos := _, after := _, guard := _ }) rfl (fun K hK => ?_) AllReadyH.nil
  obtain ⟨x9, y9, bx9⟩ := F2.out.1.out.2.2
  obtain ⟨⟨z9, d0, d1⟩, f0, f1⟩ := bx9
  go_simp
  have F3 : Hid (RunS w S L ((w2.setCell ⟨w.heap.size + 1, 0, none⟩ (.int .i64 (2 + bank * (S + L)))).setCell ⟨w.heap.size + 1, 1, none⟩ (.int .i64 S))) := F2.out.store _ _
  have X3 : Hid (Box2 ((w2.setCell ⟨w.heap.size + 1, 0, none⟩ (.int .i64 (2 + bank * (S + L)))).setCell ⟨w.heap.size + 1, 1, none⟩ (.int .i64 S)) (w.heap.size + 1) (.int .i64 (2 + bank * (S + L))) (.int .i64 S)) := F2.out.stored _ _
  clear d0 d1 f0 f1 z9 F2
  generalize ((w2.setCell ⟨w.heap.size + 1, 0, none⟩ (.int .i64 (2 + bank * (S + L)))).setCell ⟨w.heap.size + 1, 1, none⟩ (.int .i64 S)) = w3 at *
  refine hK.out _ _ (F3.out) (fun hx9 => ?_)
  clear hK K hHeld hx9
  have hHeld := F3.out
  try simp only [Act.put, List.setIfInBounds_toArray, List.set_cons_zero, List.set_cons_succ]
  refine wpAnyH_done (by kernel_rfl) ?_ _
  clear hHeld
  obtain ⟨-, d0, d1⟩ := X3.out
  go_wp2
  refine bodyPost_ret (v := .agg #[.int .i64 (2 + bank * (S + L)), .int .i64 S]) (by simp [results, Tryd.results43, go_sem, d0, d1]) rfl ⟨rfl, F3.out.1.out.1⟩

theorem field_diskA (x y : Value) (W : World) : (Instr.field 27 (.agg #[x, y]) 0).run Tryd.prog W = .ok x W := by kernel_rfl
theorem field_run (x y : Value) (W : World) : (Instr.field 72 (.agg #[x, y]) 0).run Tryd.prog W = .ok x W := by kernel_rfl

set_option linter.unusedSimpArgs false in
set_option maxRecDepth 100000 in
set_option maxHeartbeats 1000000 in
theorem logArea_any (w : World) (S L bank : Int) (hc : cfgOk S L = true) (hb : 0 ≤ bank ∧ bank ≤ 1) :
    Calls Tryd.prog 62 #[.agg #[.int .i64 S, .int .i64 L], .int .i64 bank] w fun e w' => e = .returned (.agg #[.int .i64 (arF S L bank true), .int .i64 (arL S L true)]) ∧ Below w.heap.size w w' := by
  obtain ⟨⟨hS1, hS2⟩, hL1, hL2⟩ := (cfgOk_iff S L).1 hc
  have HC : Hid (cfgOk S L = true ∧ 0 ≤ bank ∧ bank ≤ 1) := ⟨hc, hb⟩
  clear hc
  have hb' : bank = 0 ∨ bank = 1 := by omega
  have HA : Hid (arF S L bank true = arF S L bank false + S ∧ arL S L true = L) := by unfold arF arL; exact ⟨by simp, rfl⟩
  have hm : 2 ≤ arF S L bank false ∧ arF S L bank false ≤ 130 := by unfold arF; rcases hb' with rfl | rfl <;> simp <;> omega
  rw [HA.out.1, HA.out.2]
  have HSN : Hid (∀ W, Calls Tryd.prog 43 #[.agg #[.int .i64 S, .int .i64 L], .int .i64 bank] W fun e w' => e = .returned (.agg #[.int .i64 (arF S L bank false), .int .i64 (arL S L false)]) ∧ Below W.heap.size W w') := fun W => snapArea_any W S L bank HC.out.1 HC.out.2
  generalize arF S L bank false = q at *
  generalize arL S L false = q2 at *
  clear hb hb'
  go_enter Tryd.func62, Tryd.ntmps62
  go_wp2_with fail
  have F0 : Hid (RunS w S L ((w.alloc (.cells #[.int .i64 S, .int .i64 L] 29)).alloc (.cells #[.int .i64 0, .int .i64 0] 72))) := RunS.new _ _ _ _ _
  generalize (w.alloc (.cells #[.int .i64 S, .int .i64 L] 29)).alloc (.cells #[.int .i64 0, .int .i64 0] 72) = w0 at *
  refine wp_region_held_drew (S := RunS w S L) (by kernel_rfl) (F0.out.below (below_drewN' w0 1)) (fun hHeld => ?_)
  refine wpAnyH_take (i := 0) (oi := { dst := some 5, op := _, type := _, pos := _, after := _, guard := _ }) (v := ?v16) rfl (by kernel_rfl) (by kernel_rfl) (by kernel_rfl) (fun _ _ _ h => h) (Or.inl ⟨by rfl, ?hy16⟩) (by assumption) ?rest16
  case hy16 =>
    intro w9 hS9
    obtain ⟨-, k0, k1⟩ := hS9
    go_simp
    try with_reducible rfl
  try simp only [Act.put, List.setIfInBounds_toArray, List.set_cons_zero, List.set_cons_succ]
  refine wpAnyH_take (i := 1) (oi := { dst := some 6, op := _, type := _, pos := _, after := _, guard := _ }) (v := ?v17) rfl (by kernel_rfl) (by kernel_rfl) (by kernel_rfl) (fun _ _ _ h => h) (Or.inl ⟨by rfl, ?hy17⟩) (by assumption) ?rest17
  case hy17 =>
    intro w9 hS9
    obtain ⟨-, k0, k1⟩ := hS9
    go_simp
    try with_reducible rfl
  try simp only [Act.put, List.setIfInBounds_toArray, List.set_cons_zero, List.set_cons_succ]
  refine wpAnyH_take (i := 4) (oi := { dst := some 9, op := _, type := _, pos := _, after := _, guard := _ }) (v := ?v18) rfl (by kernel_rfl) (by kernel_rfl) (by kernel_rfl) (fun _ _ _ h => h) (Or.inl ⟨by rfl, ?hy18⟩) (by assumption) ?rest18
  case hy18 =>
    intro w9 hS9
    obtain ⟨-, k0, k1⟩ := hS9
    go_simp
    try with_reducible rfl
  try simp only [Act.put, List.setIfInBounds_toArray, List.set_cons_zero, List.set_cons_succ]
  refine wpAnyH_take (i := 5) (oi := { dst := some 10, op := _, type := _, pos := _, after := _, guard := _ }) (v := ?v19) rfl (by kernel_rfl) (by kernel_rfl) (by kernel_rfl) (fun _ _ _ h => h) (Or.inl ⟨by rfl, ?hy19⟩) (by assumption) ?rest19
  case hy19 =>
    intro w9 hS9
    obtain ⟨-, k0, k1⟩ := hS9
    go_simp
    try with_reducible rfl
  try simp only [Act.put, List.setIfInBounds_toArray, List.set_cons_zero, List.set_cons_succ]
  refine wpAnyH_take (i := 7) (oi := { dst := some 12, op := _, type := _, pos := _, after := _, guard := _ }) (v := ?v20) rfl (by kernel_rfl) (by kernel_rfl) (by kernel_rfl) (fun _ _ _ h => h) (Or.inl ⟨by rfl, ?hy20⟩) (by assumption) ?rest20
  case hy20 =>
    intro w9 hS9
    obtain ⟨-, k0, k1⟩ := hS9
    go_simp
    try with_reducible rfl
  try simp only [Act.put, List.setIfInBounds_toArray, List.set_cons_zero, List.set_cons_succ]
  refine wpAnyH_take (i := 8) (oi := { dst := some 13, op := _, type := _, pos := _, after := _, guard := _ }) (v := ?v21) rfl (by kernel_rfl) (by kernel_rfl) (by kernel_rfl) (fun _ _ _ h => h) (Or.inl ⟨by rfl, ?hy21⟩) (by assumption) ?rest21
  case hy21 =>
    intro w9 hS9
    obtain ⟨-, k0, k1⟩ := hS9
    go_simp
    try with_reducible rfl
  try simp only [Act.put, List.setIfInBounds_toArray, List.set_cons_zero, List.set_cons_succ]
  refine wpAnyH_ready (rs := [2]) (by kernel_rfl) (by simp) ?_
  refine AllReadyH.cons (o := { dst := some 7, op := _, type := _, pos := _, after := _, guard := _ }) rfl (fun K hK => ?_) AllReadyH.nil
  go_simp
  refine (HSN.out _).mono ?_
  rintro e w2 ⟨rfl, b2⟩
  have F2 : Hid (RunS w S L w2) := hHeld.below b2
  clear b2
  refine hK.out _ _ (F2.out) (fun hx9 => ?_)
  clear hK K hHeld hx9
  have hHeld := F2.out
  try simp only [Act.put, List.setIfInBounds_toArray, List.set_cons_zero, List.set_cons_succ]
  refine wpAnyH_take (i := 3) (oi := { dst := some 8, op := _, type := _, pos := _, after := _, guard := _ }) (v := (.int .i64 q)) rfl (by kernel_rfl) (by kernel_rfl) (by kernel_rfl) (fun _ _ _ h => h) (Or.inl ⟨by rfl, ?hy22⟩) (by assumption) ?rest22
  case hy22 =>
    intro w9 hS9
    have hf9 := field_run (.int .i64 q) (.int .i64 q2) w9
    go_simp
  try simp only [Act.put, List.setIfInBounds_toArray, List.set_cons_zero, List.set_cons_succ]
  refine wpAnyH_take (i := 6) (oi := { dst := some 11, op := _, type := _, pos := _, after := _, guard := _ }) (v := (.int .i64 (q + S))) rfl (by kernel_rfl) (by kernel_rfl) (by kernel_rfl) (fun _ _ _ h => h) (Or.inl ⟨by rfl, ?hy23⟩) (by assumption) ?rest23
  case hy23 =>
    intro w9 hS9
    go_simp
    try (rw [IntKind.wrap_i64]; omega)
  try simp only [Act.put, List.setIfInBounds_toArray, List.set_cons_zero, List.set_cons_succ]
  refine wpAnyH_take (i := 9) (oi := { dst := some 14, op := _, type := _, pos := _, after := _, guard := _ }) (v := ?v24) rfl (by kernel_rfl) (by kernel_rfl) (by kernel_rfl) (fun _ _ _ h => h) (Or.inl ⟨by rfl, ?hy24⟩) (by assumption) ?rest24
  case hy24 =>
    intro w9 hS9
    obtain ⟨-, k0, k1⟩ := hS9
    go_simp
    try with_reducible rfl
  try simp only [Act.put, List.setIfInBounds_toArray, List.set_cons_zero, List.set_cons_succ]
  refine wpAnyH_ready (rs := [10]) (by kernel_rfl) (by simp) ?_
  refine AllReadyH.cons (o := { dst := none, op := _, type := _, pos := _, after := _, guard := _ }) rfl (fun K hK => ?_) AllReadyH.nil
  obtain ⟨x9, y9, bx9⟩ := F2.out.1.out.2.2
  obtain ⟨⟨z9, d0, d1⟩, f0, f1⟩ := bx9
  go_simp
  have F3 : Hid (RunS w S L ((w2.setCell ⟨w.heap.size + 1, 0, none⟩ (.int .i64 (q + S))).setCell ⟨w.heap.size + 1, 1, none⟩ (.int .i64 L))) := F2.out.store _ _
  have X3 : Hid (Box2 ((w2.setCell ⟨w.heap.size + 1, 0, none⟩ (.int .i64 (q + S))).setCell ⟨w.heap.size + 1, 1, none⟩ (.int .i64 L)) (w.heap.size + 1) (.int .i64 (q + S)) (.int .i64 L)) := F2.out.stored _ _
  clear d0 d1 f0 f1 z9 F2
  generalize ((w2.setCell ⟨w.heap.size + 1, 0, none⟩ (.int .i64 (q + S))).setCell ⟨w.heap.size + 1, 1, none⟩ (.int .i64 L)) = w3 at *
  refine hK.out _ _ (F3.out) (fun hx9 => ?_)
  clear hK K hHeld hx9
  have hHeld := F3.out
  try simp only [Act.put, List.setIfInBounds_toArray, List.set_cons_zero, List.set_cons_succ]
  refine wpAnyH_done (by kernel_rfl) ?_ _
  clear hHeld
  obtain ⟨-, d0, d1⟩ := X3.out
  go_wp2
  refine bodyPost_ret (v := .agg #[.int .i64 (q + S), .int .i64 L]) (by simp [results, Tryd.results62, go_sem, d0, d1]) rfl ⟨rfl, F3.out.1.out.1⟩

set_option maxHeartbeats 1000000 in
theorem areaOf_any (w : World) (g N C f l : Nat) (hfl : (f + l) * 64 ≤ N) (hl1 : 1 ≤ l) (hN : N ≤ C) (hN3 : N ≤ 1048576) :
    Calls Tryd.prog 44 #[.agg #[.int .i64 (f : Int), .int .i64 (l : Int)], .slice (some ⟨g, 0, none⟩) N C] w fun e w' => e = .returned (.slice (some ⟨g, f * 64, none⟩) (l * 64) (C - f * 64)) ∧ Below w.heap.size w w' := by
  have B0 : Hid (Below w.heap.size w (w.alloc (.cells #[.int .i64 (f : Int), .int .i64 (l : Int)] 72))) := (Below.refl _ _).alloc (Nat.le_refl _) _
  have hne : ¬ C = f * 64 := by omega
  have HE : Hid ((f + l) * 64 - f * 64 = l * 64) := by show _ = _; omega
  go_enter Tryd.func44, Tryd.ntmps44
  go_wp2
  go_ret
  rw [HE.out]
  exact ⟨rfl, B0.out⟩

set_option maxRecDepth 100000 in
set_option maxHeartbeats 1000000 in
theorem readAll_any (w : World) (v1 v2 : Value) (dur : List Int) (ps : List (Int × List Int)) (hd : Rd .u8 w v1 dur) (hp : RdW w v2 ps) (hdl : dur.length ≤ 1048576) (hn : ps.length ≤ 1048576) (hpd : ∀ i, (pD ps i).length ≤ 1048576) :
    Calls Tryd.prog 63 #[.agg #[v1, v2]] w fun e w' => ∃ u, e = .returned u ∧ Own .u8 5 w' w.heap.size u (syD dur ps) ∧ Below w.heap.size w w' := by
  obtain ⟨va, ca, rfl, -⟩ := hd.len
  obtain ⟨vb, cb, rfl, -⟩ := id hp
  have HD : Hid (Rd .u8 w (.slice va dur.length ca) dur) := hd
  have HP : Hid (RdW w (.slice vb ps.length cb) ps) := hp
  have HPD : Hid (∀ i, (pD ps i).length ≤ 1048576) := hpd
  have B0 : Hid (Below w.heap.size w (w.alloc (.cells #[.slice va dur.length ca, .slice vb ps.length cb] 27))) := (Below.refl _ _).alloc (Nat.le_refl _) _
  clear hd hp hpd
  go_enter Tryd.func63, Tryd.ntmps63
  go_wp2_with fail
  generalize w.alloc (.cells #[.slice va dur.length ca, .slice vb ps.length cb] 27) = w0 at *
  refine (implSync_any _ _ _ dur ps (HD.out.below B0.out) (HP.out.below B0.out) hdl hn HPD.out).mono ?_
  rintro e w1 ⟨u, rfl, o1, b1⟩
  have O1 : Hid (Own .u8 5 w1 w.heap.size u (syD dur ps)) := o1.mono B0.out.size
  have B1 : Hid (Below w.heap.size w w1) := B0.out.trans (b1.mono B0.out.size)
  clear o1 b1 B0
  have hf9 := field_diskA u (.slice none 0 0) w1
  go_wp2
  go_ret
  exact ⟨_, rfl, O1.out, B1.out⟩

theorem arN_getD (D : List Int) (f l i : Nat) (hi : i < l * 64) : D.getD (f * 64 + i) 0 = (arN D f l).getD i 0 := by
  unfold arN
  rw [List.getD_eq_getElem?_getD, List.getD_eq_getElem?_getD, List.getElem?_take_of_lt hi, List.getElem?_drop]

set_option linter.unusedSimpArgs false in
set_option maxHeartbeats 2000000 in
set_option maxRecDepth 100000 in
theorem implArea_yes (w : World) (ao bo : Option Addr) (dl ca n cb : Nat) (dur : List Int) (ps : List (Int × List Int)) (S L bank : Int) (log : Bool) (hd : Rd .u8 w (.slice ao dl ca) dur) (hdl : dur.length = dl) (hp : RdW w (.slice bo n cb) ps) (hl : ps.length = n) (hd1 : dl ≤ 1048576) (hn : n ≤ 1048576) (hpd : ∀ i, (pD ps i).length ≤ 1048576)
    (hok : arOk S L dl ps bank = true) :
    Calls Tryd.prog 19 #[.agg #[.slice ao dl ca, .slice bo n cb], .agg #[.int .i64 S, .int .i64 L], .int .i64 bank, .bool log] w fun e w' => ∃ v', e = .returned v' ∧ OwnO w' w.heap.size v' (arN (syD dur ps) (arF S L bank log).toNat (arL S L log).toNat) ∧ Below w.heap.size w w' := by
  have HD : Hid (Rd .u8 w (.slice ao dl ca) dur) := hd
  have HDL : Hid (dur.length = dl) := hdl
  have HP : Hid (RdW w (.slice bo n cb) ps) := hp
  have HL : Hid (ps.length = n) := hl
  have HPD : Hid (∀ i, (pD ps i).length ≤ 1048576) := hpd
  obtain ⟨f, l, hf, hl', hf2, hl1, hl2, hfl, hfl2, hdm⟩ := ar_in (log := log) hok
  have h1 := ((arOk_iff ..).1 hok).1
  have hb0 := ((arOk_iff ..).1 hok).2.1
  have hb1 := ((arOk_iff ..).1 hok).2.2
  have HF : Hid (fitD S L dl ps = true) := h1
  have HC : Hid (cfgOk S L = true) := ((fitD_iff ..).1 h1).1
  have HV : Hid (vldD dl ps = true) := ((fitD_iff ..).1 h1).2.1
  rw [hf, hl', Int.toNat_natCast, Int.toNat_natCast]
  have HSL : Hid ((syD dur ps).length = dl) := by show _ = _; rw [syD_length (by rw [HDL.out]; exact HV.out), HDL.out]
  have HLN : Hid ((arN (syD dur ps) f l).length = l * 64) := arN_length _ _ _ (by rw [HSL.out]; exact hfl2)
  have HRA : Hid (∀ (W : World), FitS w ao bo dl ca n cb S L W → Calls Tryd.prog 63 #[.agg #[.slice ao dl ca, .slice bo n cb]] W fun e w' => ∃ g c, e = .returned (.slice (some ⟨g, 0, none⟩) dl c) ∧ Hid (Own .u8 5 w' w.heap.size (.slice (some ⟨g, 0, none⟩) dl c) (syD dur ps)) ∧ (dl ≤ c ∧ c ≤ maxLen) ∧ Below W.heap.size W w') := by
    intro W hF
    refine (readAll_any W _ _ dur ps (HD.out.below hF.1.out.1) (HP.out.below hF.1.out.1) (by rw [HDL.out]; exact hd1) (by rw [HL.out]; exact hn) HPD.out).mono ?_
    rintro e w' ⟨u, rfl, o, b⟩
    have hlt := hF.lt
    rcases o.row with ⟨rfl, h0⟩ | ⟨g, c, rfl, hg, h1, h2⟩
    · have := HSL.out; rw [h0] at this; simp at this; omega
    · rw [HSL.out] at o h1 ⊢
      exact ⟨g, c, rfl, o.mono (by omega), ⟨h1, h2⟩, b⟩
  have HOO : Hid (∀ (W : World) (g c : Nat), Own .u8 5 W w.heap.size (.slice (some ⟨g, 0, none⟩) dl c) (syD dur ps) → dl ≤ c → c ≤ maxLen → OwnO W w.heap.size (.slice (some ⟨g, f * 64, none⟩) (l * 64) (c - f * 64)) (arN (syD dur ps) f l)) := by
    intro W g c h h1 h2
    refine .inr ⟨g, f * 64, c - f * 64, dl, c, syD dur ps, by rw [HLN.out], h, HSL.out, by rw [HLN.out]; omega, fun i hi => ?_, by rw [HLN.out]; omega, by omega⟩
    rw [HLN.out] at hi
    exact arN_getD _ _ _ _ hi
  have HAR : Hid (∀ W, (log = true → Calls Tryd.prog 62 #[.agg #[.int .i64 S, .int .i64 L], .int .i64 bank] W fun e w' => e = .returned (.agg #[.int .i64 (f : Int), .int .i64 (l : Int)]) ∧ Below W.heap.size W w') ∧
      (log = false → Calls Tryd.prog 43 #[.agg #[.int .i64 S, .int .i64 L], .int .i64 bank] W fun e w' => e = .returned (.agg #[.int .i64 (f : Int), .int .i64 (l : Int)]) ∧ Below W.heap.size W w')) := by
    intro W
    rw [← hf, ← hl']
    exact ⟨fun e => by subst e; exact logArea_any W S L bank HC.out ⟨hb0, hb1⟩, fun e => by subst e; exact snapArea_any W S L bank HC.out ⟨hb0, hb1⟩⟩
  clear hd hdl hp hl hpd hok h1 hf hl'
  go_enter Tryd.func19, Tryd.ntmps19
  go_wp2_with fail
  have F1 : Hid (FitS w ao bo dl ca n cb S L ((w.alloc (.cells #[.slice ao dl ca, .slice bo n cb] 27)).alloc (.cells #[.int .i64 S, .int .i64 L] 29))) := FitS.new _ _ _ _ _ _ _ _ _ _ _
  generalize (w.alloc (.cells #[.slice ao dl ca, .slice bo n cb] 27)).alloc (.cells #[.int .i64 S, .int .i64 L] 29) = w1 at *
  refine (isLaidOut_any _ ao bo dl ca n cb ps S L (HP.out.below F1.out.1.out.1) HL.out hd1 hn HPD.out).mono ?_
  rintro e w2 ⟨rfl, b2⟩
  rw [HF.out]
  have F2 : Hid (FitS w ao bo dl ca n cb S L w2) := F1.out.below b2
  clear F1 b2
  have t0 : ¬ bank < 0 := by omega
  have t0d : decide (bank < 0) = false := by simpa using t0
  have t1 : ¬ 2 ≤ bank := by omega
  have t1d : decide (2 ≤ bank) = false := by simpa using t1
  have HL1 : Hid (∀ W, FitS w ao bo dl ca n cb S L W → True) := fun _ _ => trivial
  cases log with
  | true =>
    replace HAR : Hid (∀ W, Calls Tryd.prog 62 #[.agg #[.int .i64 S, .int .i64 L], .int .i64 bank] W fun e w' => e = .returned (.agg #[.int .i64 (f : Int), .int .i64 (l : Int)]) ∧ Below W.heap.size W w') := fun W => (HAR.out W).1 rfl
    · go_wp2_with fail
      refine wp_region_held_drew (S := FitS w ao bo dl ca n cb S L) (by kernel_rfl) (F2.out.below (below_drewN' w2 1)) (fun hHeld => ?_)
      refine wpAnyH_take (i := 0) (oi := { dst := some 22, op := _, type := _, pos := _, after := _, guard := _ }) (v := ?v25) rfl (by kernel_rfl) (by kernel_rfl) (by kernel_rfl) (fun _ _ _ h => h) (Or.inl ⟨by rfl, ?hy25⟩) (by assumption) ?rest25
      case hy25 =>
        intro w9 hS9
        obtain ⟨-, k0, k1, k2, k3⟩ := hS9
        go_simp
        try with_reducible rfl
      try simp only [Act.put, List.setIfInBounds_toArray, List.set_cons_zero, List.set_cons_succ]
      refine wpAnyH_take (i := 1) (oi := { dst := some 23, op := _, type := _, pos := _, after := _, guard := _ }) (v := ?v26) rfl (by kernel_rfl) (by kernel_rfl) (by kernel_rfl) (fun _ _ _ h => h) (Or.inl ⟨by rfl, ?hy26⟩) (by assumption) ?rest26
      case hy26 =>
        intro w9 hS9
        obtain ⟨-, k0, k1, k2, k3⟩ := hS9
        go_simp
        try with_reducible rfl
      try simp only [Act.put, List.setIfInBounds_toArray, List.set_cons_zero, List.set_cons_succ]
      refine wpAnyH_take (i := 3) (oi := { dst := some 25, op := _, type := _, pos := _, after := _, guard := _ }) (v := ?v27) rfl (by kernel_rfl) (by kernel_rfl) (by kernel_rfl) (fun _ _ _ h => h) (Or.inl ⟨by rfl, ?hy27⟩) (by assumption) ?rest27
      case hy27 =>
        intro w9 hS9
        obtain ⟨-, k0, k1, k2, k3⟩ := hS9
        go_simp
        try with_reducible rfl
      try simp only [Act.put, List.setIfInBounds_toArray, List.set_cons_zero, List.set_cons_succ]
      refine wpAnyH_ready (rs := [2]) (by kernel_rfl) (by simp) ?_
      refine AllReadyH.cons (o := { dst := some 24, op := _, type := _, pos := _, after := _, guard := _ }) rfl (fun K hK => ?_) AllReadyH.nil
      go_simp
      refine (HAR.out _).mono ?_
      rintro e w3 ⟨rfl, b3⟩
      have F3 : Hid (FitS w ao bo dl ca n cb S L w3) := hHeld.below b3
      clear b3
      refine hK.out _ _ (F3.out) (fun hx9 => ?_)
      clear hK K hHeld hx9
      have hHeld := F3.out
      try simp only [Act.put, List.setIfInBounds_toArray, List.set_cons_zero, List.set_cons_succ]
      refine wpAnyH_ready (rs := [4]) (by kernel_rfl) (by simp) ?_
      refine AllReadyH.cons (o := { dst := some 26, op := _, type := _, pos := _, after := _, guard := _ }) rfl (fun K hK => ?_) AllReadyH.nil
      go_simp
      refine (HRA.out _ F3.out).mono ?_
      rintro e w4 ⟨g4, c4, rfl, O4, hc4, b4⟩
      have F4 : Hid (FitS w ao bo dl ca n cb S L w4) := F3.out.below b4
      clear b4 F3
      refine hK.out _ _ (F4.out) (fun hx9 => ?_)
      clear hK K hHeld hx9
      have hHeld := F4.out
      try simp only [Act.put, List.setIfInBounds_toArray, List.set_cons_zero, List.set_cons_succ]
      refine wpAnyH_ready (rs := [5]) (by kernel_rfl) (by simp) ?_
      refine AllReadyH.cons (o := { dst := some 27, op := _, type := _, pos := _, after := _, guard := _ }) rfl (fun K hK => ?_) AllReadyH.nil
      go_simp
      refine (areaOf_any _ g4 dl c4 f l hfl2 hl1 hc4.1 hd1).mono ?_
      rintro e w5 ⟨rfl, b5⟩
      have F5 : Hid (FitS w ao bo dl ca n cb S L w5) := F4.out.below b5
      have O5 : Hid (Own .u8 5 w5 w.heap.size (.slice (some ⟨g4, 0, none⟩) dl c4) (syD dur ps)) := O4.out.below b5
      clear b5 F4 O4
      refine hK.out _ _ (F5.out) (fun hx9 => ?_)
      clear hK K hHeld hx9
      have hHeld := F5.out
      try simp only [Act.put, List.setIfInBounds_toArray, List.set_cons_zero, List.set_cons_succ]
      refine wpAnyH_take (i := 6) (oi := { dst := some 8, op := _, type := _, pos := _, after := _, guard := _ }) (v := ?v28) rfl (by kernel_rfl) (by kernel_rfl) (by kernel_rfl) (fun _ _ _ h => h) (Or.inl ⟨by rfl, ?hy28⟩) (by assumption) ?rest28
      case hy28 =>
        intro w9 hS9
        obtain ⟨-, k0, k1, k2, k3⟩ := hS9
        go_simp
        try with_reducible rfl
      try simp only [Act.put, List.setIfInBounds_toArray, List.set_cons_zero, List.set_cons_succ]
      refine wpAnyH_done (by kernel_rfl) ?_ _
      clear hHeld
      go_wp2
      go_ret
      exact ⟨_, rfl, HOO.out _ _ _ O5.out hc4.1 hc4.2, F5.out.1.out.1⟩
  | false =>
    replace HAR : Hid (∀ W, Calls Tryd.prog 43 #[.agg #[.int .i64 S, .int .i64 L], .int .i64 bank] W fun e w' => e = .returned (.agg #[.int .i64 (f : Int), .int .i64 (l : Int)]) ∧ Below W.heap.size W w') := fun W => (HAR.out W).2 rfl
    · go_wp2_with fail
      refine wp_region_held_drew (S := FitS w ao bo dl ca n cb S L) (by kernel_rfl) (F2.out.below (below_drewN' w2 1)) (fun hHeld => ?_)
      refine wpAnyH_take (i := 0) (oi := { dst := some 28, op := _, type := _, pos := _, after := _, guard := _ }) (v := ?v29) rfl (by kernel_rfl) (by kernel_rfl) (by kernel_rfl) (fun _ _ _ h => h) (Or.inl ⟨by rfl, ?hy29⟩) (by assumption) ?rest29
      case hy29 =>
        intro w9 hS9
        obtain ⟨-, k0, k1, k2, k3⟩ := hS9
        go_simp
        try with_reducible rfl
      try simp only [Act.put, List.setIfInBounds_toArray, List.set_cons_zero, List.set_cons_succ]
      refine wpAnyH_take (i := 1) (oi := { dst := some 29, op := _, type := _, pos := _, after := _, guard := _ }) (v := ?v30) rfl (by kernel_rfl) (by kernel_rfl) (by kernel_rfl) (fun _ _ _ h => h) (Or.inl ⟨by rfl, ?hy30⟩) (by assumption) ?rest30
      case hy30 =>
        intro w9 hS9
        obtain ⟨-, k0, k1, k2, k3⟩ := hS9
        go_simp
        try with_reducible rfl
      try simp only [Act.put, List.setIfInBounds_toArray, List.set_cons_zero, List.set_cons_succ]
      refine wpAnyH_take (i := 3) (oi := { dst := some 31, op := _, type := _, pos := _, after := _, guard := _ }) (v := ?v31) rfl (by kernel_rfl) (by kernel_rfl) (by kernel_rfl) (fun _ _ _ h => h) (Or.inl ⟨by rfl, ?hy31⟩) (by assumption) ?rest31
      case hy31 =>
        intro w9 hS9
        obtain ⟨-, k0, k1, k2, k3⟩ := hS9
        go_simp
        try with_reducible rfl
      try simp only [Act.put, List.setIfInBounds_toArray, List.set_cons_zero, List.set_cons_succ]
      refine wpAnyH_ready (rs := [2]) (by kernel_rfl) (by simp) ?_
      refine AllReadyH.cons (o := { dst := some 30, op := _, type := _, pos := _, after := _, guard := _ }) rfl (fun K hK => ?_) AllReadyH.nil
      go_simp
      refine (HAR.out _).mono ?_
      rintro e w3 ⟨rfl, b3⟩
      have F3 : Hid (FitS w ao bo dl ca n cb S L w3) := hHeld.below b3
      clear b3
      refine hK.out _ _ (F3.out) (fun hx9 => ?_)
      clear hK K hHeld hx9
      have hHeld := F3.out
      try simp only [Act.put, List.setIfInBounds_toArray, List.set_cons_zero, List.set_cons_succ]
      refine wpAnyH_ready (rs := [4]) (by kernel_rfl) (by simp) ?_
      refine AllReadyH.cons (o := { dst := some 32, op := _, type := _, pos := _, after := _, guard := _ }) rfl (fun K hK => ?_) AllReadyH.nil
      go_simp
      refine (HRA.out _ F3.out).mono ?_
      rintro e w4 ⟨g4, c4, rfl, O4, hc4, b4⟩
      have F4 : Hid (FitS w ao bo dl ca n cb S L w4) := F3.out.below b4
      clear b4 F3
      refine hK.out _ _ (F4.out) (fun hx9 => ?_)
      clear hK K hHeld hx9
      have hHeld := F4.out
      try simp only [Act.put, List.setIfInBounds_toArray, List.set_cons_zero, List.set_cons_succ]
      refine wpAnyH_ready (rs := [5]) (by kernel_rfl) (by simp) ?_
      refine AllReadyH.cons (o := { dst := some 33, op := _, type := _, pos := _, after := _, guard := _ }) rfl (fun K hK => ?_) AllReadyH.nil
      go_simp
      refine (areaOf_any _ g4 dl c4 f l hfl2 hl1 hc4.1 hd1).mono ?_
      rintro e w5 ⟨rfl, b5⟩
      have F5 : Hid (FitS w ao bo dl ca n cb S L w5) := F4.out.below b5
      have O5 : Hid (Own .u8 5 w5 w.heap.size (.slice (some ⟨g4, 0, none⟩) dl c4) (syD dur ps)) := O4.out.below b5
      clear b5 F4 O4
      refine hK.out _ _ (F5.out) (fun hx9 => ?_)
      clear hK K hHeld hx9
      have hHeld := F5.out
      try simp only [Act.put, List.setIfInBounds_toArray, List.set_cons_zero, List.set_cons_succ]
      refine wpAnyH_take (i := 6) (oi := { dst := some 8, op := _, type := _, pos := _, after := _, guard := _ }) (v := ?v32) rfl (by kernel_rfl) (by kernel_rfl) (by kernel_rfl) (fun _ _ _ h => h) (Or.inl ⟨by rfl, ?hy32⟩) (by assumption) ?rest32
      case hy32 =>
        intro w9 hS9
        obtain ⟨-, k0, k1, k2, k3⟩ := hS9
        go_simp
        try with_reducible rfl
      try simp only [Act.put, List.setIfInBounds_toArray, List.set_cons_zero, List.set_cons_succ]
      refine wpAnyH_done (by kernel_rfl) ?_ _
      clear hHeld
      go_wp2
      go_ret
      exact ⟨_, rfl, HOO.out _ _ _ O5.out hc4.1 hc4.2, F5.out.1.out.1⟩

set_option maxHeartbeats 2000000 in
set_option maxRecDepth 100000 in
theorem implArea_no (w : World) (ao bo : Option Addr) (dl ca n cb : Nat) (dur : List Int) (ps : List (Int × List Int)) (S L bank : Int) (log : Bool) (hd : Rd .u8 w (.slice ao dl ca) dur) (hdl : dur.length = dl) (hp : RdW w (.slice bo n cb) ps) (hl : ps.length = n) (hd1 : dl ≤ 1048576) (hn : n ≤ 1048576) (hpd : ∀ i, (pD ps i).length ≤ 1048576)
    (hok : arOk S L dl ps bank = false) :
    Calls Tryd.prog 19 #[.agg #[.slice ao dl ca, .slice bo n cb], .agg #[.int .i64 S, .int .i64 L], .int .i64 bank, .bool log] w fun e w' => e = .returned (.slice none 0 0) ∧ Below w.heap.size w w' := by
  have HD : Hid (Rd .u8 w (.slice ao dl ca) dur) := hd
  have HDL : Hid (dur.length = dl) := hdl
  have HP : Hid (RdW w (.slice bo n cb) ps) := hp
  have HL : Hid (ps.length = n) := hl
  have HPD : Hid (∀ i, (pD ps i).length ≤ 1048576) := hpd
  have HOK : Hid (arOk S L dl ps bank = false) := hok
  clear hd hdl hp hl hpd hok
  go_enter Tryd.func19, Tryd.ntmps19
  go_wp2_with fail
  have F1 : Hid (FitS w ao bo dl ca n cb S L ((w.alloc (.cells #[.slice ao dl ca, .slice bo n cb] 27)).alloc (.cells #[.int .i64 S, .int .i64 L] 29))) := FitS.new _ _ _ _ _ _ _ _ _ _ _
  generalize (w.alloc (.cells #[.slice ao dl ca, .slice bo n cb] 27)).alloc (.cells #[.int .i64 S, .int .i64 L] 29) = w1 at *
  refine (isLaidOut_any _ ao bo dl ca n cb ps S L (HP.out.below F1.out.1.out.1) HL.out hd1 hn HPD.out).mono ?_
  rintro e w2 ⟨rfl, b2⟩
  have F2 : Hid (FitS w ao bo dl ca n cb S L w2) := F1.out.below b2
  clear F1 b2
  cases hF : fitD S L dl ps with
  | false =>
    clear hF
    go_wp2
    go_ret
    exact ⟨rfl, F2.out.1.out.1⟩
  | true =>
    have hnb : ¬ (0 ≤ bank ∧ bank ≤ 1) := fun h => by
      have h2 := (arOk_iff S L dl ps bank).2 ⟨hF, h⟩
      rw [HOK.out] at h2; cases h2
    clear hF
    by_cases t0 : bank < 0
    · have t0d : decide (bank < 0) = true := by simpa using t0
      clear hnb
      go_wp2
      go_ret
      exact ⟨rfl, F2.out.1.out.1⟩
    · have t0d : decide (bank < 0) = false := by simpa using t0
      have t1 : 2 ≤ bank := by omega
      have t1d : decide (2 ≤ bank) = true := by simpa using t1
      clear hnb
      go_wp2
      go_ret
      exact ⟨rfl, F2.out.1.out.1⟩

theorem implArea_any (w : World) (v1 v2 : Value) (dur : List Int) (ps : List (Int × List Int)) (S L bank : Int) (log : Bool) (hd : Rd .u8 w v1 dur) (hp : RdW w v2 ps) (hdl : dur.length ≤ 1048576) (hn : ps.length ≤ 1048576) (hpd : ∀ i, (pD ps i).length ≤ 1048576) :
    Calls Tryd.prog 19 #[.agg #[v1, v2], .agg #[.int .i64 S, .int .i64 L], .int .i64 bank, .bool log] w fun e w' => ∃ v', e = .returned v' ∧ OwnO w' w.heap.size v' (arA dur ps S L bank log) ∧ Below w.heap.size w w' := by
  obtain ⟨va, ca, rfl, -⟩ := hd.len
  obtain ⟨vb, cb, rfl, -⟩ := id hp
  unfold arA
  cases h : arOk S L dur.length ps bank with
  | true =>
    simp only [if_true]
    exact implArea_yes w va vb dur.length ca ps.length cb dur ps S L bank log hd rfl hp rfl hdl hn hpd h
  | false =>
    simp only [Bool.false_eq_true, if_false]
    refine (implArea_no w va vb dur.length ca ps.length cb dur ps S L bank log hd rfl hp rfl hdl hn hpd h).mono ?_
    rintro e w' ⟨rfl, b⟩
    exact ⟨_, rfl, .inl ⟨rfl, rfl⟩, b⟩

end Go.Proofs.YtoljmlhnbmeloaaDoor

namespace Go.Proofs.YtoljmlhnbmeloaaDoor
open Go.RowKit

/-- One node of the call's own in block B. -/
def Node7 (w : World) (B : Nat) (p d : ByteArray) (a b c e f : Int) : Prop :=
  w.heap[B]? = some (.cells #[.string p, .string d, .int .i64 a, .int .i64 b, .int .i64 c, .int .i64 e, .int .i64 f] 84 (0, 0))

theorem Node7.lt {w : World} {B : Nat} {p d : ByteArray} {a b c e f : Int} (h : Node7 w B p d a b c e f) : B < w.heap.size := (Array.getElem?_eq_some_iff.1 h).1
theorem Node7.below {w w' : World} {B : Nat} {p d : ByteArray} {a b c e f : Int} (h : Node7 w B p d a b c e f) (hb : Below w.heap.size w w') : Node7 w' B p d a b c e f := (hb.block B h.lt).trans h

def slashT : ByteArray := ⟨#[47]⟩
def empty : ByteArray := ⟨#[]⟩

set_option maxHeartbeats 400000 in
theorem implNewTree_any (w : World) : Calls Tryd.prog 20 #[] w fun e w' => e = .returned (.agg #[.slice (some ⟨w.heap.size + 1, 0, none⟩) 1 1]) ∧ Node7 w' (w.heap.size + 1) slashT empty 0 0 0 0 0 ∧ Below w.heap.size w w' := by
  go_enter Tryd.func20, Tryd.ntmps20
  go_wp2
  refine bodyPost_ret (v := .agg #[.slice (some ⟨w.heap.size + 1, 0, none⟩) 1 1]) (by simp [results, Tryd.results20, go_sem]) rfl ⟨rfl, ?_, ((Below.refl _ _).alloc (Nat.le_refl _) _).alloc (by simp) _⟩
  have := heap_alloc_new (w.alloc (.cells #[.slice (some ⟨w.heap.size + 1, 0, none⟩) 1 1] 36)) (.cells #[.string slashT, .string empty, .int .i64 0, .int .i64 0, .int .i64 0, .int .i64 0, .int .i64 0] 84)
  rw [World.size_alloc] at this
  exact this

set_option maxHeartbeats 400000 in
theorem specNewTree_any (w : World) : Calls Tryd.prog 35 #[] w fun e w' => e = .returned (.agg #[.slice (some ⟨w.heap.size + 1, 0, none⟩) 1 1]) ∧ Node7 w' (w.heap.size + 1) slashT empty 0 0 0 0 0 ∧ Below w.heap.size w w' := by
  go_enter Tryd.func35, Tryd.ntmps35
  go_wp2
  refine bodyPost_ret (v := .agg #[.slice (some ⟨w.heap.size + 1, 0, none⟩) 1 1]) (by simp [results, Tryd.results35, go_sem]) rfl ⟨rfl, ?_, ((Below.refl _ _).alloc (Nat.le_refl _) _).alloc (by simp) _⟩
  have := heap_alloc_new (w.alloc (.cells #[.slice (some ⟨w.heap.size + 1, 0, none⟩) 1 1] 36)) (.cells #[.string slashT, .string empty, .int .i64 0, .int .i64 0, .int .i64 0, .int .i64 0, .int .i64 0] 84)
  rw [World.size_alloc] at this
  exact this

set_option maxHeartbeats 400000 in
theorem markText_1 (w : World) : Calls Tryd.prog 120 #[.int .i64 1] w fun e w' => e = .returned (.string ⟨#[109, 49]⟩) ∧ Below w.heap.size w w' := by
  have hcv : (convert 24 9 (.slice (some ⟨w.heap.size, 0, none⟩) 1 1)).run Tryd.prog (w.alloc (.cells #[.int .u8 49] 5)) = .ok (.string ⟨#[49]⟩) (w.alloc (.cells #[.int .u8 49] 5)) :=
    run_convert_bytes_back _ 24 9 5 _ 1 [49] Tryd.underlying24 Tryd.underlying5 Tryd.underlying9 (by
      intro j hj
      obtain rfl : j = 0 := by simpa using hj
      rw [Addr.add_lit]; simp)
  go_enter Tryd.func120, Tryd.ntmps120
  go_wp2
  go_rounds 2
  go_ret
  exact ⟨by rfl, (Below.refl _ _).alloc (Nat.le_refl _) _⟩

set_option maxHeartbeats 400000 in
theorem markText_2 (w : World) : Calls Tryd.prog 120 #[.int .i64 2] w fun e w' => e = .returned (.string ⟨#[109, 50]⟩) ∧ Below w.heap.size w w' := by
  have hcv : (convert 24 9 (.slice (some ⟨w.heap.size, 0, none⟩) 1 1)).run Tryd.prog (w.alloc (.cells #[.int .u8 50] 5)) = .ok (.string ⟨#[50]⟩) (w.alloc (.cells #[.int .u8 50] 5)) :=
    run_convert_bytes_back _ 24 9 5 _ 1 [50] Tryd.underlying24 Tryd.underlying5 Tryd.underlying9 (by
      intro j hj
      obtain rfl : j = 0 := by simpa using hj
      rw [Addr.add_lit]; simp)
  go_enter Tryd.func120, Tryd.ntmps120
  go_wp2
  go_rounds 2
  go_ret
  exact ⟨by rfl, (Below.refl _ _).alloc (Nat.le_refl _) _⟩

theorem Node7.c0 {w : World} {B : Nat} {p d : ByteArray} {a b c e f : Int} (h : Node7 w B p d a b c e f) : w.cell? ⟨B, 0, none⟩ = some (.string p) := by
  rw [cell_of_row w B 0 _ _ _ h]; rfl
theorem Node7.f0 {w : World} {B : Nat} {p d : ByteArray} {a b c e f : Int} (h : Node7 w B p d a b c e f) : w.frozen? ⟨B, 0, none⟩ = false := by
  simp [World.frozen?, show w.heap[B]? = _ from h]
theorem Node7.c1 {w : World} {B : Nat} {p d : ByteArray} {a b c e f : Int} (h : Node7 w B p d a b c e f) : w.cell? ⟨B, 1, none⟩ = some (.string d) := by
  rw [cell_of_row w B 1 _ _ _ h]; rfl
theorem Node7.f1 {w : World} {B : Nat} {p d : ByteArray} {a b c e f : Int} (h : Node7 w B p d a b c e f) : w.frozen? ⟨B, 1, none⟩ = false := by
  simp [World.frozen?, show w.heap[B]? = _ from h]
theorem Node7.c2 {w : World} {B : Nat} {p d : ByteArray} {a b c e f : Int} (h : Node7 w B p d a b c e f) : w.cell? ⟨B, 2, none⟩ = some (.int .i64 a) := by
  rw [cell_of_row w B 2 _ _ _ h]; rfl
theorem Node7.f2 {w : World} {B : Nat} {p d : ByteArray} {a b c e f : Int} (h : Node7 w B p d a b c e f) : w.frozen? ⟨B, 2, none⟩ = false := by
  simp [World.frozen?, show w.heap[B]? = _ from h]
theorem Node7.c3 {w : World} {B : Nat} {p d : ByteArray} {a b c e f : Int} (h : Node7 w B p d a b c e f) : w.cell? ⟨B, 3, none⟩ = some (.int .i64 b) := by
  rw [cell_of_row w B 3 _ _ _ h]; rfl
theorem Node7.f3 {w : World} {B : Nat} {p d : ByteArray} {a b c e f : Int} (h : Node7 w B p d a b c e f) : w.frozen? ⟨B, 3, none⟩ = false := by
  simp [World.frozen?, show w.heap[B]? = _ from h]
theorem Node7.c4 {w : World} {B : Nat} {p d : ByteArray} {a b c e f : Int} (h : Node7 w B p d a b c e f) : w.cell? ⟨B, 4, none⟩ = some (.int .i64 c) := by
  rw [cell_of_row w B 4 _ _ _ h]; rfl
theorem Node7.f4 {w : World} {B : Nat} {p d : ByteArray} {a b c e f : Int} (h : Node7 w B p d a b c e f) : w.frozen? ⟨B, 4, none⟩ = false := by
  simp [World.frozen?, show w.heap[B]? = _ from h]
theorem Node7.c5 {w : World} {B : Nat} {p d : ByteArray} {a b c e f : Int} (h : Node7 w B p d a b c e f) : w.cell? ⟨B, 5, none⟩ = some (.int .i64 e) := by
  rw [cell_of_row w B 5 _ _ _ h]; rfl
theorem Node7.f5 {w : World} {B : Nat} {p d : ByteArray} {a b c e f : Int} (h : Node7 w B p d a b c e f) : w.frozen? ⟨B, 5, none⟩ = false := by
  simp [World.frozen?, show w.heap[B]? = _ from h]
theorem Node7.c6 {w : World} {B : Nat} {p d : ByteArray} {a b c e f : Int} (h : Node7 w B p d a b c e f) : w.cell? ⟨B, 6, none⟩ = some (.int .i64 f) := by
  rw [cell_of_row w B 6 _ _ _ h]; rfl
theorem Node7.f6 {w : World} {B : Nat} {p d : ByteArray} {a b c e f : Int} (h : Node7 w B p d a b c e f) : w.frozen? ⟨B, 6, none⟩ = false := by
  simp [World.frozen?, show w.heap[B]? = _ from h]

set_option maxHeartbeats 1000000 in
theorem eqNode_sameT (w : World) : Calls Tryd.prog 119 #[.agg #[.string slashT, .string empty, .int .i64 0, .int .i64 0, .int .i64 0, .int .i64 0, .int .i64 0], .agg #[.string slashT, .string empty, .int .i64 0, .int .i64 0, .int .i64 0, .int .i64 0, .int .i64 0]] w fun e w' => e = .returned (.bool true) ∧ Below w.heap.size w w' := by
  have HB : Hid (Below w.heap.size w ((w.alloc (.cells #[.string slashT, .string empty, .int .i64 0, .int .i64 0, .int .i64 0, .int .i64 0, .int .i64 0] 84)).alloc (.cells #[.string slashT, .string empty, .int .i64 0, .int .i64 0, .int .i64 0, .int .i64 0, .int .i64 0] 84))) := ((Below.refl _ _).alloc (Nat.le_refl _) _).alloc (by simp) _
  unfold slashT empty at *
  go_enter Tryd.func119, Tryd.ntmps119
  go_wp2
  go_ret
  exact ⟨rfl, HB.out⟩

set_option maxHeartbeats 1000000 in
set_option maxRecDepth 100000 in
theorem eqNodeS_sameT (w : World) (B1 B2 : Nat) (h1 : Node7 w B1 slashT empty 0 0 0 0 0) (h2 : Node7 w B2 slashT empty 0 0 0 0 0) :
    Calls Tryd.prog 78 #[.slice (some ⟨B1, 0, none⟩) 1 1, .slice (some ⟨B2, 0, none⟩) 1 1] w fun e w' => e = .returned (.bool true) ∧ Below w.heap.size w w' := by
  have H1 : Hid (Node7 w B1 slashT empty 0 0 0 0 0) := h1
  have H2 : Hid (Node7 w B2 slashT empty 0 0 0 0 0) := h2
  clear h1 h2
  have h1c0 := H1.out.c0
  have h1c1 := H1.out.c1
  have h1c2 := H1.out.c2
  have h1c3 := H1.out.c3
  have h1c4 := H1.out.c4
  have h1c5 := H1.out.c5
  have h1c6 := H1.out.c6
  have h2c0 := H2.out.c0
  have h2c1 := H2.out.c1
  have h2c2 := H2.out.c2
  have h2c3 := H2.out.c3
  have h2c4 := H2.out.c4
  have h2c5 := H2.out.c5
  have h2c6 := H2.out.c6
  go_enter Tryd.func78, Tryd.ntmps78
  go_wp2
  go_rounds 2
  have HEQ : Hid (∀ q, Calls Tryd.prog 119 #[.agg #[.string slashT, .string empty, .int .i64 0, .int .i64 0, .int .i64 0, .int .i64 0, .int .i64 0], .agg #[.string slashT, .string empty, .int .i64 0, .int .i64 0, .int .i64 0, .int .i64 0, .int .i64 0]] (w.drewN q) fun e w' => e = .returned (.bool true) ∧ Hid (Below w.heap.size w w')) := by
    intro q
    refine (eqNode_sameT (w.drewN q)).mono ?_
    rintro e w' ⟨rfl, b⟩
    exact ⟨rfl, (below_drewN' w q).trans b⟩
  go_region_with (go_at_call 119; refine (HEQ.out 1).mono ?_; rintro e w' ⟨rfl, hbw⟩)
  all_goals
    go_wp2
    rw [rounds_succ]
    go_wp2
    go_ret
    exact ⟨rfl, hbw.out⟩


set_option maxHeartbeats 1000000 in
theorem eqTree_sameT (w : World) (B1 B2 : Nat) (h1 : Node7 w B1 slashT empty 0 0 0 0 0) (h2 : Node7 w B2 slashT empty 0 0 0 0 0) :
    Calls Tryd.prog 27 #[.agg #[.slice (some ⟨B1, 0, none⟩) 1 1], .agg #[.slice (some ⟨B2, 0, none⟩) 1 1]] w fun e w' => e = .returned (.bool true) ∧ Below w.heap.size w w' := by
  have HB : Hid (Below w.heap.size w ((w.alloc (.cells #[.slice (some ⟨B1, 0, none⟩) 1 1] 36)).alloc (.cells #[.slice (some ⟨B2, 0, none⟩) 1 1] 36))) := ((Below.refl _ _).alloc (Nat.le_refl _) _).alloc (by simp) _
  have H1 : Hid (Node7 w B1 slashT empty 0 0 0 0 0) := h1
  have H2 : Hid (Node7 w B2 slashT empty 0 0 0 0 0) := h2
  clear h1 h2
  go_enter Tryd.func27, Tryd.ntmps27
  go_wp2_with fail
  refine (eqNodeS_sameT _ B1 B2 (H1.out.below HB.out) (H2.out.below HB.out)).mono ?_
  rintro e w' ⟨rfl, b⟩
  have HB2 : Hid (Below w.heap.size w w') := HB.out.trans (b.mono HB.out.size)
  clear b
  go_wp2
  go_ret
  exact ⟨rfl, HB2.out⟩

def m1 : ByteArray := ⟨#[109, 49]⟩
def m2 : ByteArray := ⟨#[109, 50]⟩

theorem gset (w : World) (B j : Nat) (u : Value) : w.grownBy (w.setCell ⟨B, j, none⟩ u) (some B) := ⟨rfl, rfl, rfl, by simp, fun k _ hne => Below.heap_setCell _ _ _ _ (fun e => hne (by rw [e]))⟩

theorem Node7.set {w : World} {B : Nat} {cs : Array Value} {t : TypeId} (h : w.heap[B]? = some (.cells cs t (0, 0))) (j : Nat) (u : Value) : (w.setCell ⟨B, j, none⟩ u).heap[B]? = some (.cells (cs.setIfInBounds j u) t (0, 0)) := by
  rw [setCell_eq_setRow w B j cs t (0, 0) u h]
  exact setRow_heap w B cs _ t _ h

set_option maxHeartbeats 2000000 in
set_option maxRecDepth 100000 in
theorem markNodeS_one (w : World) (B : Nat) (h : Node7 w B slashT empty 0 0 0 0 0) :
    Calls Tryd.prog 79 #[.slice (some ⟨B, 0, none⟩) 1 1, .int .i64 1] w fun e w' => e = .returned (.int .i64 8) ∧ Node7 w' B m1 m2 3 4 5 6 7 ∧ w.grownBy w' (some B) := by
  have H : Hid (Node7 w B slashT empty 0 0 0 0 0) := h
  clear h
  go_enter Tryd.func79, Tryd.ntmps79
  go_wp2_with fail
  refine wp_loop_rounds 2 ?_
  rw [rounds_succ]
  go_wp2_with fail
  refine (markText_1 w).mono ?_
  rintro e w1 ⟨rfl, b1⟩
  have N1 : Hid (Node7 w1 B slashT empty 0 0 0 0 0) := H.out.below b1
  have G1 : Hid (w.grownBy w1 (some B)) := ⟨b1.os, b1.tape, b1.output, b1.size, fun q hq _ => b1.block q hq⟩
  have x0 := N1.out.c0
  have y0 := N1.out.f0
  clear b1 H
  go_wp2_with fail
  have N2 : Hid ((w1.setCell ⟨B, 0, none⟩ (.string ⟨#[109, 49]⟩)).heap[B]? = some (.cells #[.string m1, .string empty, .int .i64 0, .int .i64 0, .int .i64 0, .int .i64 0, .int .i64 0] 84 (0, 0))) := Node7.set N1.out 0 _
  have G2 : Hid (w.grownBy (w1.setCell ⟨B, 0, none⟩ (.string ⟨#[109, 49]⟩)) (some B)) := G1.out.trans (gset _ B 0 _)
  clear x0 y0 N1 G1
  generalize w1.setCell ⟨B, 0, none⟩ (.string ⟨#[109, 49]⟩) = w2 at *
  refine (markText_2 w2).mono ?_
  rintro e w3 ⟨rfl, b3⟩
  have N3 : Hid (Node7 w3 B m1 empty 0 0 0 0 0) := Node7.below (w := w2) N2.out b3
  have G3 : Hid (w.grownBy w3 (some B)) := G2.out.trans ⟨b3.os, b3.tape, b3.output, b3.size, fun q hq _ => b3.block q hq⟩
  clear b3 N2 G2
  have x1 := N3.out.c1
  have y1 := N3.out.f1
  have x2 := N3.out.c2
  have y2 := N3.out.f2
  have x3 := N3.out.c3
  have y3 := N3.out.f3
  have x4 := N3.out.c4
  have y4 := N3.out.f4
  have x5 := N3.out.c5
  have y5 := N3.out.f5
  have x6 := N3.out.c6
  have y6 := N3.out.f6
  go_wp2
  rw [rounds_succ]
  go_wp2
  go_ret
  refine ⟨rfl, ?_, ?_⟩
  · exact Node7.set (Node7.set (Node7.set (Node7.set (Node7.set (Node7.set N3.out 1 _) 2 _) 3 _) 4 _) 5 _) 6 _
  · exact (((((G3.out.trans (gset _ B 1 _)).trans (gset _ B 2 _)).trans (gset _ B 3 _)).trans (gset _ B 4 _)).trans (gset _ B 5 _)).trans (gset _ B 6 _)

set_option maxHeartbeats 1000000 in
theorem markTree_one (w : World) (B : Nat) (h : Node7 w B slashT empty 0 0 0 0 0) :
    Calls Tryd.prog 29 #[.agg #[.slice (some ⟨B, 0, none⟩) 1 1], .int .i64 1] w fun e w' => e = .returned (.int .i64 8) ∧ Node7 w' B m1 m2 3 4 5 6 7 ∧ w.grownBy w' (some B) := by
  have HB : Hid (Below w.heap.size w (w.alloc (.cells #[.slice (some ⟨B, 0, none⟩) 1 1] 36))) := (Below.refl _ _).alloc (Nat.le_refl _) _
  have H : Hid (Node7 w B slashT empty 0 0 0 0 0) := h
  have G0 : Hid (w.grownBy (w.alloc (.cells #[.slice (some ⟨B, 0, none⟩) 1 1] 36)) (some B)) := World.grownBy_alloc _ _ _
  clear h
  go_enter Tryd.func29, Tryd.ntmps29
  go_wp2_with fail
  refine (markNodeS_one _ B (H.out.below HB.out)).mono ?_
  rintro e w' ⟨rfl, n1, g1⟩
  have N1 : Hid (Node7 w' B m1 m2 3 4 5 6 7) := n1
  have G1 : Hid (w.grownBy w' (some B)) := G0.out.trans g1
  clear n1 g1
  go_wp2
  go_ret
  exact ⟨rfl, N1.out, G1.out⟩

set_option maxHeartbeats 2000000 in
set_option maxRecDepth 100000 in
theorem heldNodeS_one (w : World) (B : Nat) (h : Node7 w B m1 m2 3 4 5 6 7) :
    Calls Tryd.prog 121 #[.slice (some ⟨B, 0, none⟩) 1 1, .int .i64 1] w fun e w' => e = .returned (.int .i64 8) ∧ Below w.heap.size w w' := by
  have H : Hid (Node7 w B m1 m2 3 4 5 6 7) := h
  have x0 := h.c0
  have x1 := h.c1
  clear h
  unfold m1 at x0
  unfold m2 at x1
  have HM1 : Hid (Calls Tryd.prog 120 #[.int .i64 1] w.drew fun e w' => e = .returned (.string ⟨#[109, 49]⟩) ∧ w'.cell? ⟨B, 0, none⟩ = some (.string ⟨#[109, 49]⟩) ∧ Hid (Below w.heap.size w w')) := by
    refine (markText_1 w.drew).mono ?_
    rintro e w' ⟨rfl, b⟩
    have b2 : Below w.heap.size w w' := (below_drewN' w 1).trans b
    exact ⟨rfl, (b2.cell (p := ⟨B, 0, none⟩) H.out.lt).trans x0, b2⟩
  go_enter Tryd.func121, Tryd.ntmps121
  go_wp2_with fail
  refine wp_loop_rounds 2 ?_
  rw [rounds_succ]
  go_wp2_with fail
  go_region_with (go_at_call 120; refine HM1.out.mono ?_; rintro e w' ⟨rfl, k0, hbw⟩)
  all_goals
    have N1 : Hid (Node7 w' B m1 m2 3 4 5 6 7) := H.out.below hbw.out
    have z1 := N1.out.c1
    unfold m2 at z1
    clear k0
    have HM2 : Hid (Calls Tryd.prog 120 #[.int .i64 2] w'.drew fun e w2 => e = .returned (.string ⟨#[109, 50]⟩) ∧ w2.cell? ⟨B, 1, none⟩ = some (.string ⟨#[109, 50]⟩) ∧ Hid (Below w'.heap.size w' w2)) := by
      refine (markText_2 w'.drew).mono ?_
      rintro e w2 ⟨rfl, b⟩
      have b2 : Below w'.heap.size w' w2 := (below_drewN' w' 1).trans b
      exact ⟨rfl, (b2.cell (p := ⟨B, 1, none⟩) N1.out.lt).trans z1, b2⟩
    go_wp2_with fail
    go_region_with (go_at_call 120; refine HM2.out.mono ?_; rintro e w2 ⟨rfl, k1, hbw2⟩)
    all_goals
      have N2 : Hid (Node7 w2 B m1 m2 3 4 5 6 7) := N1.out.below hbw2.out
      have BW : Hid (Below w.heap.size w w2) := hbw.out.trans (hbw2.out.mono hbw.out.size)
      have x2 := N2.out.c2
      have x3 := N2.out.c3
      have x4 := N2.out.c4
      have x5 := N2.out.c5
      have x6 := N2.out.c6
      clear k1 hbw2 HM2 HM1
      go_wp2
      rw [rounds_succ]
      go_wp2
      go_ret
      exact ⟨rfl, BW.out⟩


set_option maxHeartbeats 1000000 in
theorem heldTree_one (w : World) (B : Nat) (h : Node7 w B m1 m2 3 4 5 6 7) :
    Calls Tryd.prog 80 #[.agg #[.slice (some ⟨B, 0, none⟩) 1 1], .int .i64 1] w fun e w' => e = .returned (.int .i64 8) ∧ Below w.heap.size w w' := by
  have HB : Hid (Below w.heap.size w (w.alloc (.cells #[.slice (some ⟨B, 0, none⟩) 1 1] 36))) := (Below.refl _ _).alloc (Nat.le_refl _) _
  have H : Hid (Node7 w B m1 m2 3 4 5 6 7) := h
  clear h
  go_enter Tryd.func80, Tryd.ntmps80
  go_wp2_with fail
  refine (heldNodeS_one _ B (H.out.below HB.out)).mono ?_
  rintro e w' ⟨rfl, b⟩
  have B1 : Hid (Below w.heap.size w w') := HB.out.trans (b.mono HB.out.size)
  clear b
  go_wp2
  go_ret
  exact ⟨rfl, B1.out⟩

end Go.Proofs.YtoljmlhnbmeloaaDoor

namespace Go.Proofs.YtoljmlhnbmeloaaDoor

def cP : Nat := 2197175160
/-- One step of the register. -/
def cT (r : Nat) : Nat := (r / 2) ^^^ (if r % 2 = 1 then cP else 0)

theorem xor_div2 (a b : Nat) : (a ^^^ b) / 2 = a / 2 ^^^ b / 2 := by
  have := Nat.xor_div_two (a := a) (b := b)
  exact this

theorem xor_mod2 (a b : Nat) : (a ^^^ b) % 2 = (a + b) % 2 := by
  have := Nat.xor_mod_two_eq_one (a := a) (b := b)
  omega

theorem cT_lin (a b : Nat) : cT (a ^^^ b) = cT a ^^^ cT b := by
  unfold cT
  rw [xor_div2, xor_mod2]
  rcases Nat.mod_two_eq_zero_or_one a with ha | ha <;> rcases Nat.mod_two_eq_zero_or_one b with hb | hb
  · rw [if_neg (by omega), if_neg (by omega), if_neg (by omega)]; simp
  · rw [if_pos (by omega), if_neg (by omega), if_pos (by omega)]; simp [Nat.xor_assoc]
  · rw [if_pos (by omega), if_pos (by omega), if_neg (by omega), Nat.xor_zero, Nat.xor_assoc, Nat.xor_comm (b / 2), ← Nat.xor_assoc]
  · rw [if_neg (by omega), if_pos (by omega), if_pos (by omega)]
    rw [Nat.xor_zero, Nat.xor_comm (b / 2) cP, ← Nat.xor_assoc, Nat.xor_assoc (a / 2) cP cP, Nat.xor_self, Nat.xor_zero]

def cT4 (r : Nat) : Nat := cT (cT (cT (cT r)))
theorem cT4_lin (a b : Nat) : cT4 (a ^^^ b) = cT4 a ^^^ cT4 b := by unfold cT4; simp only [cT_lin]

theorem cT_even (q : Nat) : cT (2 * q) = q := by unfold cT; rw [if_neg (by omega)]; simp

theorem cT4_16 (q : Nat) : cT4 (16 * q) = q := by
  unfold cT4
  rw [show 16 * q = 2 * (2 * (2 * (2 * q))) by omega, cT_even, cT_even, cT_even, cT_even]

theorem split16 (r : Nat) : r = 16 * (r / 16) ^^^ r % 16 := by
  apply Nat.eq_of_testBit_eq
  intro k
  rw [Nat.testBit_xor, show 16 * (r / 16) = r / 2 ^ 4 * 2 ^ 4 by simp only [Nat.reducePow]; omega, Nat.testBit_mul_two_pow, show r % 16 = r % 2 ^ 4 by rfl, Nat.testBit_mod_two_pow]
  by_cases h : 4 ≤ k
  · have h2 : ¬ k < 4 := by omega
    simp only [h, h2, decide_true, decide_false, Bool.true_and, Bool.false_and, Bool.xor_false, Nat.testBit_div_two_pow]
    congr 1; omega
  · have h2 : k < 4 := by omega
    simp [h, h2]

def tabL : List Nat := [0, 274646895, 549293790, 820201905, 1098587580, 1361435347, 1640403810, 1905808397, 2197175160, 2460548119, 2722870694, 2987750089, 3280807620, 3553878443, 3811616794, 4084100981]

theorem tab_eq : ∀ i, i < 16 → tabL.getD i 0 = cT4 i := by decide +kernel

/-- A nibble by the table. -/
theorem nibble (r : Nat) : cT4 r = r / 16 ^^^ tabL.getD (r % 16) 0 := by
  rw [tab_eq _ (Nat.mod_lt _ (by omega))]
  conv => lhs; rw [split16 r]
  rw [cT4_lin, cT4_16]

/-- A byte. -/
def cB (r x : Nat) : Nat := cT4 (cT4 (r ^^^ x))

/-- The register behind j bits of a byte. -/
def cS (r x : Nat) : Nat → Nat
  | 0 => r
  | j + 1 => (cS r x j / 2) ^^^ (if (cS r x j + x / 2 ^ j) % 2 = 1 then cP else 0)

def cTn : Nat → Nat → Nat
  | 0, r => r
  | j + 1, r => cT (cTn j r)

theorem cS_T (r x j : Nat) : cTn j (r ^^^ x) = cS r x j ^^^ x / 2 ^ j := by
  induction j with
  | zero => simp [cTn, cS]
  | succ j ih =>
    rw [cTn, ih]
    unfold cT
    rw [xor_div2, xor_mod2, Nat.div_div_eq_div_mul, ← Nat.pow_succ, cS]
    rw [Nat.xor_assoc, Nat.xor_comm (x / 2 ^ (j + 1)), ← Nat.xor_assoc]

theorem cS_8 (r x : Nat) (hx : x < 256) : cS r x 8 = cB r x := by
  have h := cS_T r x 8
  rw [show x / 2 ^ 8 = 0 from Nat.div_eq_of_lt hx, Nat.xor_zero] at h
  rw [← h]; rfl

def crcL (r : Nat) (xs : List Int) : Nat := xs.foldl (fun a x => cB a x.toNat) r
theorem crcL_snoc (r : Nat) (xs : List Int) (x : Int) : crcL r (xs ++ [x]) = cB (crcL r xs) x.toNat := by simp [crcL, List.foldl_append]

theorem cT_lt (r : Nat) (h : r < 4294967296) : cT r < 4294967296 := by
  unfold cT
  have h1 : r / 2 < 2 ^ 32 := by simp only [Nat.reducePow]; omega
  have h2 : (if r % 2 = 1 then cP else 0) < 2 ^ 32 := by split <;> decide
  have := Nat.xor_lt_two_pow h1 h2
  simpa using this
theorem cT4_lt (r : Nat) (h : r < 4294967296) : cT4 r < 4294967296 := cT_lt _ (cT_lt _ (cT_lt _ (cT_lt _ h)))
theorem xor_lt32 {a b : Nat} (ha : a < 4294967296) (hb : b < 4294967296) : a ^^^ b < 4294967296 := by
  have := Nat.xor_lt_two_pow (n := 32) (by simpa using ha) (by simpa using hb)
  simpa using this
theorem cB_lt (r x : Nat) (h : r < 4294967296) (hx : x < 256) : cB r x < 4294967296 := cT4_lt _ (cT4_lt _ (xor_lt32 h (by omega)))
theorem cS_lt (r x : Nat) (h : r < 4294967296) : ∀ j, cS r x j < 4294967296 := by
  intro j
  induction j with
  | zero => exact h
  | succ j ih => exact xor_lt32 (by omega) (by split <;> decide)

/-- The step loses nothing. -/
theorem cT_inj {a b : Nat} (ha : a < 4294967296) (hb : b < 4294967296) (h : cT a = cT b) : a = b := by
  have top : ∀ r, r < 4294967296 → ((cT r).testBit 31 = decide (r % 2 = 1)) := by
    intro r hr
    unfold cT
    rw [Nat.testBit_xor]
    have h1 : (r / 2).testBit 31 = false := Nat.testBit_lt_two_pow (by simp only [Nat.reducePow]; omega)
    rw [h1, Bool.false_xor]
    by_cases e : r % 2 = 1
    · rw [if_pos e]; simp only [e, decide_true]; decide
    · rw [if_neg e]; simp [e]
  have ht := (top a ha).symm.trans ((congrArg (fun z => Nat.testBit z 31) h).trans (top b hb))
  have hm : a % 2 = b % 2 := by
    by_cases e : a % 2 = 1
    · simp only [e, decide_true] at ht
      have := of_decide_eq_true ht.symm
      omega
    · simp only [e, decide_false] at ht
      have := of_decide_eq_false ht.symm
      omega
  unfold cT at h
  rw [hm] at h
  have h2 := congrArg (fun z => z ^^^ (if b % 2 = 1 then cP else 0)) h
  simp only [Nat.xor_assoc, Nat.xor_self, Nat.xor_zero] at h2
  omega

theorem cT4_inj {a b : Nat} (ha : a < 4294967296) (hb : b < 4294967296) (h : cT4 a = cT4 b) : a = b :=
  cT_inj ha hb (cT_inj (cT_lt _ ha) (cT_lt _ hb) (cT_inj (cT_lt _ (cT_lt _ ha)) (cT_lt _ (cT_lt _ hb)) (cT_inj (cT_lt _ (cT_lt _ (cT_lt _ ha))) (cT_lt _ (cT_lt _ (cT_lt _ hb))) h)))

theorem xor_cancel {a b x : Nat} (h : a ^^^ x = b ^^^ x) : a = b := by
  have h2 := congrArg (fun z => z ^^^ x) h
  simpa only [Nat.xor_assoc, Nat.xor_self, Nat.xor_zero] using h2

theorem cB_inj_reg {a b x : Nat} (ha : a < 4294967296) (hb : b < 4294967296) (hx : x < 256) (h : cB a x = cB b x) : a = b := by
  have h1 := cT4_inj (cT4_lt _ (xor_lt32 ha (by omega))) (cT4_lt _ (xor_lt32 hb (by omega))) h
  exact xor_cancel (cT4_inj (xor_lt32 ha (by omega)) (xor_lt32 hb (by omega)) h1)

theorem cB_inj_byte {r x y : Nat} (hr : r < 4294967296) (hx : x < 256) (hy : y < 256) (h : cB r x = cB r y) : x = y := by
  have h1 := cT4_inj (cT4_lt _ (xor_lt32 hr (by omega))) (cT4_lt _ (xor_lt32 hr (by omega))) h
  have h2 := cT4_inj (xor_lt32 hr (by omega)) (xor_lt32 hr (by omega)) h1
  rw [Nat.xor_comm r x, Nat.xor_comm r y] at h2
  exact xor_cancel h2

theorem crcL_lt (r : Nat) (hr : r < 4294967296) (xs : List Int) (h : ∀ x ∈ xs, 0 ≤ x ∧ x < 256) : crcL r xs < 4294967296 := by
  induction xs generalizing r with
  | nil => exact hr
  | cons x xs ih =>
    have hx := h x (by simp)
    exact ih (cB r x.toNat) (cB_lt _ _ hr (by omega)) (fun y hy => h y (by simp [hy]))

theorem crcL_inj (xs : List Int) (h : ∀ x ∈ xs, 0 ≤ x ∧ x < 256) : ∀ a b, a < 4294967296 → b < 4294967296 → crcL a xs = crcL b xs → a = b := by
  induction xs with
  | nil => intro a b _ _ e; exact e
  | cons x xs ih =>
    intro a b ha hb e
    have hx := h x (by simp)
    have := ih (fun y hy => h y (by simp [hy])) (cB a x.toNat) (cB b x.toNat) (cB_lt _ _ ha (by omega)) (cB_lt _ _ hb (by omega)) e
    exact cB_inj_reg ha hb (by omega) this

/-- One byte changed: another sum. -/
theorem crcL_change (xs : List Int) (h : ∀ x ∈ xs, 0 ≤ x ∧ x < 256) (i : Nat) (hi : i < xs.length) (y : Int) (hy : 0 ≤ y ∧ y < 256) (hne : y ≠ xs[i]) (r : Nat) (hr : r < 4294967296) :
    crcL r (xs.set i y) ≠ crcL r xs := by
  intro e
  have hs : xs = xs.take i ++ xs[i] :: xs.drop (i + 1) := by rw [← List.drop_eq_getElem_cons hi, List.take_append_drop]
  have hs2 : xs.set i y = xs.take i ++ y :: xs.drop (i + 1) := List.set_eq_take_append_cons_drop .. |>.trans (by rw [if_pos hi])
  have key : ∀ (p : List Int) (z : Int) (q : List Int), crcL r (p ++ z :: q) = crcL (cB (crcL r p) z.toNat) q := by
    intro p z q; simp [crcL, List.foldl_append]
  rw [hs2, key] at e
  conv at e => rhs; rw [hs, key]
  have hp : crcL r (xs.take i) < 4294967296 := crcL_lt r hr _ (fun x hx => h x (List.mem_of_mem_take hx))
  have hxi := h xs[i] (List.getElem_mem hi)
  have e2 := crcL_inj _ (fun x hx => h x (List.mem_of_mem_drop hx)) _ _ (cB_lt _ _ hp (by omega)) (cB_lt _ _ hp (by omega)) e
  have e3 := cB_inj_byte hp (by omega) (by omega) e2
  omega

end Go.Proofs.YtoljmlhnbmeloaaDoor

namespace Go.Proofs.YtoljmlhnbmeloaaDoor
open Go.RowKit

theorem take_snoc' (xs : List Int) (k : Nat) (h : k < xs.length) : xs.take (k + 1) = xs.take k ++ [xs.getD k 0] := by
  rw [List.take_succ_eq_append_getElem h]; simp [List.getD, h]

def M32 : Nat := 4294967296

theorem u32_xor_def (a b : Nat) (ha : a < M32) (hb : b < M32) : ∃ z : Nat, z < M32 ∧ bits .xor .u32 (a : Int) (b : Int) = (z : Int) ∧ z = a ^^^ b :=
  ⟨a ^^^ b, xor_lt32 ha hb, u32_xor_nat a b ha hb, rfl⟩
theorem u32_low4 (a : Nat) (ha : a < M32) : ∃ i : Nat, i < 16 ∧ bits .and .u32 (a : Int) 15 = (i : Int) ∧ i = a % 16 :=
  ⟨a % 16, Nat.mod_lt _ (by omega), by rw [show (15 : Int) = ((15 : Nat) : Int) from rfl, u32_and_nat a 15 ha (by unfold M32 at *; omega), nat_mask4], rfl⟩
theorem u32_xor_div (a b : Nat) (ha : a < M32) (hb : b < M32) : ∃ z : Nat, z < M32 ∧ bits .xor .u32 ((a : Int) / 16) (b : Int) = (z : Int) ∧ z = a / 16 ^^^ b := by
  refine ⟨a / 16 ^^^ b, xor_lt32 (by unfold M32 at *; omega) hb, ?_, rfl⟩
  have e : (a : Int) / 16 = ((a / 16 : Nat) : Int) := by omega
  rw [e, u32_xor_nat (a / 16) b (by unfold M32 at *; omega) hb]

theorem nat_not32 (R : Nat) (h : R < M32) : 4294967295 ^^^ R = 4294967295 - R := by
  have e := congrArg BitVec.toNat (BitVec.allOnes_xor (x := BitVec.ofNat 32 R))
  rw [BitVec.toNat_xor, BitVec.toNat_not, BitVec.toNat_allOnes, BitVec.toNat_ofNat, Nat.mod_eq_of_lt (show R < 2 ^ 32 from h)] at e
  simpa using e

theorem not32 (R : Nat) (h : R < M32) : wrap64 (bits .xor .u32 IntKind.u32.max (R : Int)) = ((4294967295 - R : Nat) : Int) := by
  rw [show IntKind.u32.max = ((4294967295 : Nat) : Int) from by decide, u32_xor_nat 4294967295 R (by decide) h, nat_not32 R h]
  have hz : 4294967295 - R ≤ 4294967295 := Nat.sub_le _ _
  generalize 4294967295 - R = z at *
  exact IntWalk.wrap64_in _ ⟨by omega, by omega⟩

theorem i64_xor_nat (a b : Nat) (ha : a < M32) (hb : b < M32) : bits .xor .i64 (a : Int) (b : Int) = ((a ^^^ b : Nat) : Int) := by
  have key : (BitVec.ofInt 64 (a : Int) ^^^ BitVec.ofInt 64 (b : Int)).toNat = a ^^^ b := by
    unfold M32 at ha hb
    rw [BitVec.toNat_xor, BitVec.toNat_ofInt, BitVec.toNat_ofInt]
    congr 1 <;> omega
  have hz := xor_lt32 ha hb
  show IntKind.i64.wrap ((BitVec.ofInt 64 (a : Int) ^^^ BitVec.ofInt 64 (b : Int)).toNat : Nat) = _
  rw [key, IntKind.wrap_i64]
  generalize a ^^^ b = z at *
  omega

theorem byte_shr (x t : Nat) (hx : x < 256) : ∃ D : Nat, D ≤ 255 ∧ wrap64 ((x : Int) / 2 ^ t) = (D : Int) ∧ D = x / 2 ^ t := by
  have h := Nat.div_le_self x (2 ^ t)
  have e : (x : Int) / 2 ^ t = ((x / 2 ^ t : Nat) : Int) := by simp
  refine ⟨x / 2 ^ t, by omega, ?_, rfl⟩
  rw [e]
  generalize x / 2 ^ t = y at *
  exact IntWalk.wrap64_in _ ⟨by omega, by omega⟩

theorem i64_xor_half (S : Nat) (h : S ≤ 4294967295) : ∃ Z : Nat, Z ≤ 4294967295 ∧ bits .xor .i64 ((S : Int) / 2) 2197175160 = (Z : Int) ∧ Z = S / 2 ^^^ 2197175160 := by
  have hz := xor_lt32 (a := S / 2) (b := 2197175160) (by omega) (by decide)
  refine ⟨S / 2 ^^^ 2197175160, by omega, ?_, rfl⟩
  have e : (S : Int) / 2 = ((S / 2 : Nat) : Int) := by omega
  rw [e, show (2197175160 : Int) = ((2197175160 : Nat) : Int) from rfl, i64_xor_nat (S / 2) 2197175160 (by unfold M32; omega) (by decide)]

/-- The table's cells. -/
def TabC (w : World) : Prop := ∀ i, i < 16 → w.cell? ⟨0, i, none⟩ = some (.int .u32 ((tabL.getD i 0 : Nat) : Int))
theorem TabC.below {w w' : World} (h : TabC w) (h0 : 0 < w.heap.size) (hb : Below w.heap.size w w') : TabC w' := fun i hi => (hb.cell (p := ⟨0, i, none⟩) h0).trans (h i hi)

theorem tabL_lt (i : Nat) : tabL.getD i 0 < M32 := by
  by_cases h : i < 16
  · exact (show ∀ i, i < 16 → tabL.getD i 0 < M32 by decide +kernel) i h
  · rw [show tabL.getD i 0 = 0 by rw [List.getD, List.getElem?_eq_none (show tabL.length ≤ i by simp [tabL]; omega)]; rfl]; decide

set_option maxHeartbeats 400000 in
set_option maxRecDepth 100000 in
theorem implCrc_row (w : World) (b o n cap : Nat) (xs : List Int) (hx : xs.length = n) (hc : ∀ i, i < n → w.cell? ⟨b, o + i, none⟩ = some (.int .u8 (xs.getD i 0))) (hby : Byt xs) (hn : n ≤ 1099511627776) (ht : TabC w) :
    Calls Tryd.prog 42 #[.slice (some ⟨b, o, none⟩) n cap] w fun e w' => e = .returned (.int .i64 ((4294967295 - crcL 4294967295 xs : Nat) : Int)) ∧ w' = w := by
  have HC : Hid (∀ i, i < n → w.cell? ⟨b, o + i, none⟩ = some (.int .u8 (xs.getD i 0))) := hc
  have HX : Hid (xs.length = n) := hx
  have HT : Hid (TabC w) := ht
  clear hc hx ht
  go_enter Tryd.func42, Tryd.ntmps42
  go_wp2
  go_loop [3, 8] (fun r i => ∃ k R : Nat, k ≤ n ∧ i = .int .i64 k ∧ Hid (R < M32) ∧ r = .int .u32 R ∧ Hid (R = crcL 4294967295 (xs.take k))) (fun _ i => n - (intOf i).toNat)
  case atStart => exact ⟨0, 4294967295, Nat.zero_le _, rfl, (by show _ < M32; decide), rfl, rfl⟩
  case round =>
    obtain ⟨k, R, hk, rfl, HR, rfl, HE⟩ := hrel
    by_cases hlt : k < n
    · obtain ⟨x, hx, hxe⟩ := byt_at hby k
      have hsrc : w.cell? ⟨b, o + k, none⟩ = some (.int .u8 (x : Int)) := by rw [← hxe]; exact HC.out k hlt
      have hltI : (k : Int) < (n : Int) := by omega
      obtain ⟨Y, hY, e1, y1⟩ := u32_xor_def R x HR.out (by unfold M32; omega)
      obtain ⟨I, hI, e2, y2⟩ := u32_low4 Y hY
      have c1 := HT.out I hI
      obtain ⟨T1, hT1⟩ : ∃ t, t = tabL.getD I 0 := ⟨_, rfl⟩
      rw [← hT1] at c1
      obtain ⟨Z, hZ, e3, y3⟩ := u32_xor_div Y T1 hY (by rw [hT1]; exact tabL_lt _)
      obtain ⟨J, hJ, e4, y4⟩ := u32_low4 Z hZ
      have c2 := HT.out J hJ
      obtain ⟨T2, hT2⟩ : ∃ t, t = tabL.getD J 0 := ⟨_, rfl⟩
      rw [← hT2] at c2
      obtain ⟨V, hV, e5, y5⟩ := u32_xor_div Z T2 hZ (by rw [hT2]; exact tabL_lt _)
      have HV : Hid (V = crcL 4294967295 (xs.take (k + 1))) := by
        show _ = _
        rw [take_snoc' xs k (by rw [HX.out]; exact hlt), crcL_snoc, ← HE.out, hxe, Int.toNat_natCast]
        have z1 : Z = cT4 Y := by rw [nibble, y3, hT1, y2]
        have v1 : V = cT4 Z := by rw [nibble, y5, hT2, y4]
        rw [v1, z1, y1]
        rfl
      have HVL : Hid (V < M32) := hV
      clear hV y1 y2 y3 y4 y5 hT1 hT2 hY hZ hxe HE HR
      go_wp2
      go_round
      case rel => exact ⟨k + 1, V, by omega, by go_num, HVL, rfl, HV⟩
      case measure => simp [intOf]; omega
    · go_wp2
      go_ret
      exact ⟨ret_int (by rw [not32 R HR.out, HE.out, List.take_of_length_le (by rw [HX.out]; omega)]), rfl⟩

set_option maxHeartbeats 400000 in
theorem implCrc_nil (w : World) (ao : Option Addr) (cap : Nat) :
    Calls Tryd.prog 42 #[.slice ao 0 cap] w fun e w' => e = .returned (.int .i64 0) ∧ w' = w := by
  go_enter Tryd.func42, Tryd.ntmps42
  go_wp2
  go_rounds 1
  go_ret
  exact ⟨ret_int (not32 4294967295 (by decide)), rfl⟩

theorem implCrc_any (w : World) (v : Value) (xs : List Int) (h : Rd .u8 w v xs) (hby : Byt xs) (hn : xs.length ≤ 1099511627776) (ht : TabC w) :
    Calls Tryd.prog 42 #[v] w fun e w' => e = .returned (.int .i64 ((4294967295 - crcL 4294967295 xs : Nat) : Int)) ∧ w' = w := by
  obtain ⟨ao, cap, rfl, h1, h2, h3⟩ := h
  rcases h3 with rfl | ⟨b, o, rfl, hb, hc⟩
  · exact implCrc_nil w ao cap
  · exact implCrc_row w b o xs.length cap xs rfl hc hby hn ht

set_option maxHeartbeats 400000 in
theorem specCrc_nil (w : World) (ao : Option Addr) (cap : Nat) :
    Calls Tryd.prog 37 #[.slice ao 0 cap] w fun e w' => e = .returned (.int .i64 0) ∧ w' = w := by
  go_enter Tryd.func37, Tryd.ntmps37
  go_wp2
  go_rounds 1
  go_ret
  exact ⟨rfl, rfl⟩

set_option maxHeartbeats 400000 in
set_option maxRecDepth 100000 in
theorem specCrc_row (w : World) (b o n cap : Nat) (xs : List Int) (hx : xs.length = n) (hc : ∀ i, i < n → w.cell? ⟨b, o + i, none⟩ = some (.int .u8 (xs.getD i 0))) (hby : Byt xs) (hn : n ≤ 1099511627776) :
    Calls Tryd.prog 37 #[.slice (some ⟨b, o, none⟩) n cap] w fun e w' => e = .returned (.int .i64 ((4294967295 - crcL 4294967295 xs : Nat) : Int)) ∧ w' = w := by
  have HC : Hid (∀ i, i < n → w.cell? ⟨b, o + i, none⟩ = some (.int .u8 (xs.getD i 0))) := hc
  have HX : Hid (xs.length = n) := hx
  clear hc hx
  go_enter Tryd.func37, Tryd.ntmps37
  go_wp2
  go_loop [3, 4] (fun r i => ∃ k R : Nat, k ≤ n ∧ i = .int .i64 k ∧ Hid (R < M32) ∧ r = .int .i64 R ∧ Hid (R = crcL 4294967295 (xs.take k))) (fun _ i => n - (intOf i).toNat)
  case atStart => exact ⟨0, 4294967295, Nat.zero_le _, rfl, (by show _ < M32; decide), rfl, rfl⟩
  case round =>
    obtain ⟨k, R, hk, rfl, HR, rfl, HE⟩ := hrel
    by_cases hlt : k < n
    · obtain ⟨x, hx, hxe⟩ := byt_at hby k
      have hsrc : w.cell? ⟨b, o + k, none⟩ = some (.int .u8 (x : Int)) := by rw [← hxe]; exact HC.out k hlt
      have hltI : (k : Int) < (n : Int) := by omega
      have HXE : Hid (xs.getD k 0 = (x : Int)) := hxe
      clear hxe
      go_wp2
      go_loop [3, 5] (fun r j => ∃ t S : Nat, t ≤ 8 ∧ j = .int .i64 t ∧ S ≤ 4294967295 ∧ r = .int .i64 S ∧ Hid (S = cS R x t)) (fun _ j => 8 - (intOf j).toNat)
      case atStart => exact ⟨0, R, by omega, rfl, by have := HR.out; unfold M32 at this; omega, rfl, rfl⟩
      case round =>
        obtain ⟨t, S, ht, rfl, hS, rfl, HS⟩ := hrel
        by_cases ht8 : t < 8
        · obtain ⟨D, hD, hDe, hDx⟩ := byte_shr x t hx
          have ht8I : (t : Int) < 8 := by omega
          obtain ⟨Z, hZ, hZe, hZx⟩ := i64_xor_half S hS
          by_cases hbit : (S + D) % 2 = 1
          · have hb : (((S : Int) + (D : Int)) % 2 == 1) = true := by rw [beq_iff_eq]; omega
            have HZ : Hid (Z = cS R x (t + 1)) := by
              show _ = _
              rw [cS, ← HS.out, ← hDx, if_pos hbit, hZx]; rfl
            clear hDx hZx hbit
            go_wp2
            go_round
            case rel => exact ⟨t + 1, Z, by omega, by go_num, hZ, rfl, HZ⟩
            case measure => simp [intOf]; omega
          · have hb : (((S : Int) + (D : Int)) % 2 == 1) = false := by rw [beq_eq_false_iff_ne]; omega
            have HZ : Hid (S / 2 = cS R x (t + 1)) := by
              show _ = _
              rw [cS, ← HS.out, ← hDx, if_neg hbit, Nat.xor_zero]
            clear hDx hZx hbit hZe
            go_wp2
            go_round
            case rel => exact ⟨t + 1, S / 2, by omega, by go_num, by omega, by go_num, HZ⟩
            case measure => simp [intOf]; omega
        · have ht9 : t = 8 := by omega
          subst ht9
          go_wp2
          go_round
          case rel => exact ⟨k + 1, S, by omega, by go_num, (by show S < M32; unfold M32; omega), rfl, (by show _ = _; rw [HS.out, cS_8 R x hx, take_snoc' xs k (by rw [HX.out]; exact hlt), crcL_snoc, ← HE.out, HXE.out, Int.toNat_natCast])⟩
          case measure => simp [intOf]; omega
    · have hR : R ≤ 4294967295 := by have := HR.out; unfold M32 at this; omega
      go_wp2
      go_ret
      exact ⟨ret_int (by rw [HE.out, List.take_of_length_le (by rw [HX.out]; omega)] at *; omega), rfl⟩

theorem specCrc_any (w : World) (v : Value) (xs : List Int) (h : Rd .u8 w v xs) (hby : Byt xs) (hn : xs.length ≤ 1099511627776) :
    Calls Tryd.prog 37 #[v] w fun e w' => e = .returned (.int .i64 ((4294967295 - crcL 4294967295 xs : Nat) : Int)) ∧ w' = w := by
  obtain ⟨ao, cap, rfl, h1, h2, h3⟩ := h
  rcases h3 with rfl | ⟨b, o, rfl, hb, hc⟩
  · exact specCrc_nil w ao cap
  · exact specCrc_row w b o xs.length cap xs rfl hc hby hn

end Go.Proofs.YtoljmlhnbmeloaaDoor

namespace Go.Proofs.YtoljmlhnbmeloaaDoor
open Go.RowKit

def lenV : Value → Nat
  | .slice _ n _ => n
  | _ => 0

/-- The root alone. -/
def rootN : Nd := ⟨slashT, empty, 0, 0, 0, 0, 0⟩
theorem rdN_root {w : World} {B : Nat} (h : Node7 w B slashT empty 0 0 0 0 0) : RdN w (.slice (some ⟨B, 0, none⟩) 1 1) [rootN] := by
  refine ⟨_, 1, rfl, Nat.le_refl _, by unfold maxLen; omega, .inr ⟨B, 0, rfl, h.lt, fun i hi => ?_⟩⟩
  obtain rfl : i = 0 := by simp at hi; omega
  have hc := fun j => cell_of h j
  refine ⟨?_, ?_, ?_, ?_, ?_, ?_, ?_⟩ <;> simp [hc, nAt, rootN]
theorem root_sz (i : Nat) : (nAt [rootN] i).path.size ≤ 1048576 ∧ (nAt [rootN] i).data.size ≤ 1048576 := by
  cases i with
  | zero => exact ⟨by decide, by decide⟩
  | succ i => exact ⟨by simp [nAt, nd0], by simp [nAt, nd0]⟩
theorem root_ok : okTree [rootN] = true := by decide +kernel
/-- Its image. -/
def I0 : List Int := treeB [rootN]
theorem I0_len : I0.length = 23 := by
  unfold I0 treeB nodesB
  rw [if_pos root_ok]
  simp [nodeB_len, rootN, slashT, empty]
  rfl
theorem I0_byt : Byt I0 := by
  have : I0.all (fun x => decide (0 ≤ x ∧ x < 256)) = true := by decide +kernel
  intro x hx
  have := List.all_eq_true.1 this x hx
  simpa using this
def C0 : Nat := 4294967295 - crcL 4294967295 I0
theorem C0_le : C0 ≤ 4294967295 := Nat.sub_le _ _
/-- The first superblock. -/
def Sp0 : List Int := sup 1 0 0 23 (C0 : Int)
theorem Sp0_ok : supOk 1 0 0 23 (C0 : Int) = true := by
  have := C0_le
  unfold supOk
  simp
  omega
theorem Sp0_len : Sp0.length = 64 := by unfold Sp0 sup; rw [if_pos Sp0_ok]; exact supB_len _ _ _ _ _
/-- A new disk's bytes. -/
def fmN (n : Nat) : List Int := zeros 64 ++ Sp0 ++ I0 ++ zeros (n * 64 - 151)
def fmK (S L : Int) : Nat := (2 + 2 * (S + L)).toNat
def fmA (S L : Int) : List Int := if cfgOk S L then fmN (fmK S L) else []
theorem fmN_len (n : Nat) (h : 3 ≤ n) : (fmN n).length = n * 64 := by
  unfold fmN; simp only [List.length_append, zeros_len, Sp0_len, I0_len]; omega
theorem fmK_in {S L : Int} (h : cfgOk S L = true) : 2 + 2 * (S + L) = ((fmK S L : Nat) : Int) ∧ 6 ≤ fmK S L ∧ fmK S L ≤ 258 := by
  obtain ⟨⟨h1, h2⟩, h3, h4⟩ := (cfgOk_iff S L).1 h
  unfold fmK; omega
theorem fmA_len {S L : Int} : (fmA S L).length ≤ 1048576 := by
  unfold fmA
  split
  · rename_i h
    rw [fmN_len _ (by have := fmK_in h; omega)]
    have := fmK_in h; omega
  · simp
/-- The two pieces laid over zeros. -/
theorem fmN_made (n : Nat) (h : 3 ≤ n) : splice (splice (zeros (n * 64)) 128 I0) 64 Sp0 = fmN n := by
  apply List.ext_getElem?
  intro j
  have hz : (zeros (n * 64)).length = n * 64 := zeros_len _
  rw [splice_get _ _ _ (by rw [length_splice _ _ _ (by rw [hz, I0_len]; omega), hz, Sp0_len]; omega), Sp0_len, splice_get _ _ _ (by rw [hz, I0_len]; omega), I0_len]
  unfold fmN
  by_cases h1 : j < 64
  · rw [if_pos h1, if_pos (show j < 128 by omega), List.append_assoc, List.append_assoc, List.getElem?_append_left (by rw [zeros_len]; exact h1)]
    unfold zeros
    rw [List.getElem?_replicate, List.getElem?_replicate, if_pos (show j < n * 64 by omega), if_pos h1]
  · by_cases h2 : j < 128
    · rw [if_neg h1, if_pos (show j < 64 + 64 by omega), List.append_assoc, List.append_assoc, List.getElem?_append_right (by rw [zeros_len]; omega), zeros_len, List.getElem?_append_left (by rw [Sp0_len]; omega)]
    · by_cases h3 : j < 151
      · have e : j - 128 = j - 64 - 64 := by omega
        rw [if_neg h1, if_neg (show ¬ j < 64 + 64 by omega), if_neg h2, if_pos (show j < 128 + 23 by omega), List.append_assoc, List.append_assoc, List.getElem?_append_right (by rw [zeros_len]; omega), zeros_len, List.getElem?_append_right (by rw [Sp0_len]; omega), Sp0_len, List.getElem?_append_left (by rw [I0_len]; omega), e]
      · rw [if_neg h1, if_neg (show ¬ j < 64 + 64 by omega), if_neg h2, if_neg (show ¬ j < 128 + 23 by omega), List.append_assoc, List.append_assoc, List.getElem?_append_right (by rw [zeros_len]; omega), zeros_len, List.getElem?_append_right (by rw [Sp0_len]; omega), Sp0_len, List.getElem?_append_right (by rw [I0_len]; omega), I0_len]
        unfold zeros
        rw [List.getElem?_replicate, List.getElem?_replicate]
        by_cases h4 : j < n * 64
        · rw [if_pos h4, if_pos (show j - 64 - 64 - 23 < n * 64 - 151 by omega)]
        · rw [if_neg h4, if_neg (show ¬ j - 64 - 64 - 23 < n * 64 - 151 by omega)]

end Go.Proofs.YtoljmlhnbmeloaaDoor

namespace Go.Proofs.YtoljmlhnbmeloaaDoor
open Go.RowKit

set_option maxHeartbeats 1000000 in
set_option maxRecDepth 100000 in
theorem l5Pad_any (w : World) (v : Value) (xs : List Int) (N : Nat) (h : Rd .u8 w v xs) (hx : xs.length ≤ N) (hN : N ≤ 1048576) :
    Calls Tryd.prog 38 #[v, .int .i64 (N : Int)] w fun e w' => ∃ v', e = .returned v' ∧ Own .u8 5 w' w.heap.size v' (xs ++ zeros (N - xs.length)) ∧ Below w.heap.size w w' := by
  obtain ⟨i0, hi, hz0, hz1, hz2⟩ := info_parts Tryd.infoB
  obtain ⟨va, ca, rfl, -⟩ := h.len
  have HR : Hid (Rd .u8 w (.slice va xs.length ca) xs) := h
  clear h
  generalize hm : xs.length = m at *
  have HM : Hid (xs.length = m) := hm
  clear hm
  go_enter Tryd.func38, Tryd.ntmps38
  go_wp2_with fail
  refine (l1Copy_any _ _ xs HR.out (by rw [HM.out]; omega)).mono ?_
  rintro e w1 ⟨v1, rfl, o1, b1⟩
  have O1 : Hid (Own .u8 5 w1 w.heap.size v1 (xs ++ zeros 0)) := by show Own _ _ _ _ _ _; unfold zeros; simpa using o1
  have B1 : Hid (Below w.heap.size w w1) := b1
  clear o1 b1
  go_wp2
  go_loopw [5] (fun u wr => ∃ k a c, m + k ≤ N ∧ u = .slice a (m + k) c ∧ Hid (Own .u8 5 wr w.heap.size (.slice a (m + k) c) (xs ++ zeros k)) ∧ Hid (Below w.heap.size w wr)) (fun u _ => N - lenV u)
  case atStart =>
    have ho := O1.out
    obtain ⟨a, c, hv⟩ := Own.slice ho
    rw [List.length_append, zeros_len, HM.out] at hv
    subst hv
    exact ⟨0, a, c, by omega, rfl, ho, B1.out⟩
  case round =>
    clear O1 B1
    obtain ⟨k, a, c, hk, rfl, HO, HB⟩ := hrel
    by_cases hlt : m + k < N
    · have hltI : ((m + k : Nat) : Int) < (N : Int) := by omega
      have hltI2 : (m : Int) + (k : Int) < (N : Int) := by omega
      have HW : Hid ((wr.alloc (.cells #[.int .u8 0] 5)).ownsRow w.heap.size 5 1 (.slice a (m + k) c) (m + k) ((xs ++ zeros k).map (Value.int .u8))) := by
        have := HO.out
        unfold Own at this
        rw [List.length_append, zeros_len, HM.out] at this
        exact World.ownsRow.alloc this _
      have sB := HB.out.size
      go_wp2_with (at_builtin; go_must (refine wpList_append_own _ rfl _ _ 24 rfl w.heap.size 5 i0 (.int .u8 0) 1 1 Tryd.underlying24 hi hz0 hz1 hz2 rfl (by decide) _ _ _ rfl HW.out ⟨wr.heap.size, 0, none⟩ 1 1 [.int .u8 0] rfl rfl (cell_one_new _ _ _) (by intro u hu; simp at hu; subst hu; rfl) ?c3 ?c4 ?c5 ?_))
      case c3 => unfold maxLen; omega
      case c4 => omega
      case c5 => simp; omega
      intro v2 w2 ho2 hg2 _
      obtain ⟨a2, c2, rfl⟩ : ∃ a2 c2, v2 = .slice a2 (m + k + 1) c2 := by
        rcases ho2.2 with ⟨-, h⟩ | ⟨g, gc, cur, rfl, -⟩
        · omega
        · exact ⟨_, gc, rfl⟩
      have O2 : Hid (Own .u8 5 w2 w.heap.size (.slice a2 (m + (k + 1)) c2) (xs ++ zeros (k + 1))) := by
        refine own_of (q := m + k + 1) (ys := (xs ++ zeros k) ++ [0]) (by rw [List.length_append, List.length_append, zeros_len, HM.out]; rfl) ?_ ?_
        · unfold zeros; rw [List.append_assoc, List.replicate_succ']
        · rw [List.map_append, List.map_append, List.append_assoc]; exact ho2
      have B2 : Hid (Below w.heap.size w w2) := (HB.out.alloc sB _).grown hg2 (by simp; omega) (fun q hq => (World.ownsRow.lt HW.out q hq).1)
      clear ho2 hg2 HW HO HB
      go_wp2
      exact ⟨⟨k + 1, a2, c2, by omega, rfl, O2, B2⟩, by simp [lenV]; omega⟩
    · have hkn : m + k = N := by omega
      have hltI : ¬ ((m + k : Nat) : Int) < (N : Int) := by omega
      have HK : Hid (N - m = k) := by show _ = _; omega
      clear hkn
      have hltI2 : ¬ (m : Int) + (k : Int) < (N : Int) := by omega
      go_wp2
      go_ret
      rw [HK.out]
      exact ⟨_, rfl, HO.out, HB.out⟩

/-- The boxes at the head of a format. -/
def FmS (w : World) (S L : Int) (W : World) : Prop := Below w.heap.size w W ∧ Box2 W w.heap.size (.int .i64 S) (.int .i64 L) ∧ BoxF W (w.heap.size + 1) (.slice none 0 0) (.slice none 0 0)
theorem FmS.below {w : World} {S L : Int} {W W' : World} (h : FmS w S L W) (hb : Below W.heap.size W W') : FmS w S L W' := ⟨h.1.trans (hb.mono h.1.size), h.2.1.below hb, h.2.2.below hb⟩
theorem FmS.lt {w : World} {S L : Int} {W : World} (h : FmS w S L W) : w.heap.size + 2 ≤ W.heap.size := h.2.2.1.1
theorem FmS.belowB {w : World} {S L : Int} {W W' : World} {B : Nat} (h : FmS w S L W) (hb : Below B W W') (hB : w.heap.size + 2 ≤ B) : FmS w S L W' :=
  ⟨h.1.trans (hb.mono (by omega)), ⟨Nat.lt_of_lt_of_le h.2.1.1 hb.size, (hb.cell (p := ⟨w.heap.size, 0, none⟩) (by show w.heap.size < _; omega)).trans h.2.1.2.1, (hb.cell (p := ⟨w.heap.size, 1, none⟩) (by show w.heap.size < _; omega)).trans h.2.1.2.2⟩, h.2.2.belowB hb (by omega)⟩
theorem FmS.new (w : World) (S L : Int) : FmS w S L ((w.alloc (.cells #[.int .i64 S, .int .i64 L] 29)).alloc (.cells #[.slice none 0 0, .slice none 0 0] 27)) := by
  refine ⟨((Below.refl _ _).alloc (Nat.le_refl _) _).alloc (by simp) _, (Box2.new w _ _ _).below ((Below.refl _ _).alloc (Nat.le_refl _) _), ?_⟩
  have := BoxF.new (w.alloc (.cells #[.int .i64 S, .int .i64 L] 29)) (.slice none 0 0) (.slice none 0 0) 27
  simpa using this

set_option maxHeartbeats 1000000 in
set_option maxRecDepth 100000 in
theorem specFormat_no (w : World) (S L : Int) (hc : cfgOk S L = false) :
    Calls Tryd.prog 6 #[.agg #[.int .i64 S, .int .i64 L]] w fun e w' => e = .returned (.agg #[.slice none 0 0, .slice none 0 0]) ∧ Below w.heap.size w w' := by
  have HC : Hid (cfgOk S L = false) := hc
  clear hc
  go_enter Tryd.func6, Tryd.ntmps6
  go_wp2_with fail
  have F0 : Hid (FmS w S L ((w.alloc (.cells #[.int .i64 S, .int .i64 L] 29)).alloc (.cells #[.slice none 0 0, .slice none 0 0] 27))) := FmS.new _ _ _
  generalize (w.alloc (.cells #[.int .i64 S, .int .i64 L] 29)).alloc (.cells #[.slice none 0 0, .slice none 0 0] 27) = w0 at *
  refine (l5Good_any _ S L).mono ?_
  rintro e w1 ⟨rfl, b1⟩
  rw [HC.out]
  have F1 : Hid (FmS w S L w1) := F0.out.below b1
  obtain ⟨⟨zr, d0, d1⟩, f0, f1⟩ := F1.out.2.2
  clear b1
  go_wp2
  refine bodyPost_ret (v := .agg #[.slice none 0 0, .slice none 0 0]) (by simp [results, Tryd.results6, go_sem, d0, d1]) rfl ⟨rfl, ?_⟩
  repeat (first | exact F1.out.1 | refine Below.setCell ?_ (by simp) _)

set_option maxHeartbeats 4000000 in
set_option maxRecDepth 100000 in
theorem specFormat_yes (w : World) (S L : Int) (hc : cfgOk S L = true) :
    Calls Tryd.prog 6 #[.agg #[.int .i64 S, .int .i64 L]] w fun e w' => ∃ v', e = .returned (.agg #[v', .slice none 0 0]) ∧ Own .u8 5 w' (w.heap.size + 2) v' (fmN (fmK S L)) ∧ Below w.heap.size w w' := by
  obtain ⟨i0, hi, hz0, hz1, hz2⟩ := info_parts Tryd.infoB
  have HC : Hid (cfgOk S L = true) := hc
  obtain ⟨hk1, hk2, hk3⟩ := fmK_in hc
  obtain ⟨⟨hS1, hS2⟩, hL1, hL2⟩ := (cfgOk_iff S L).1 hc
  have HK : Hid (64 * (2 + 2 * (S + L)) = ((fmK S L * 64 : Nat) : Int)) := by show _ = _; omega
  clear hc hk1
  go_enter Tryd.func6, Tryd.ntmps6
  go_wp2_with fail
  have F0 : Hid (FmS w S L ((w.alloc (.cells #[.int .i64 S, .int .i64 L] 29)).alloc (.cells #[.slice none 0 0, .slice none 0 0] 27))) := FmS.new _ _ _
  generalize (w.alloc (.cells #[.int .i64 S, .int .i64 L] 29)).alloc (.cells #[.slice none 0 0, .slice none 0 0] 27) = w0 at *
  refine (l5Good_any _ S L).mono ?_
  rintro e w1 ⟨rfl, b1⟩
  rw [HC.out]
  have F1 : Hid (FmS w S L w1) := F0.out.below b1
  clear b1 F0
  go_wp2_with fail
  refine (specNewTree_any _).mono ?_
  rintro e w2 ⟨rfl, hN2, b2⟩
  have N2 : Hid (RdN w2 (.slice (some ⟨w1.heap.size + 1, 0, none⟩) 1 1) [rootN]) := rdN_root hN2
  have F2 : Hid (FmS w S L w2) := F1.out.below b2
  clear b2 F1 hN2
  go_wp2_with fail
  refine (sTree_any _ _ [rootN] N2.out (by simp) root_sz).mono ?_
  rintro e w3 ⟨v3, rfl, o3, b3⟩
  have o3' : Own .u8 5 w3 w2.heap.size v3 I0 := o3
  obtain ⟨g3, c3, hv3⟩ := own_full o3' (by rw [I0_len]; omega)
  rw [I0_len] at hv3
  subst hv3
  have I3 : Hid (Own .u8 5 w3 w2.heap.size (.slice (some ⟨g3, 0, none⟩) 23 c3) I0) := o3'
  have F3 : Hid (FmS w S L w3) := F2.out.below b3
  clear o3 o3' b3 F2 N2
  go_wp2_with fail
  refine (specCrc_any _ _ I0 I3.out.rd I0_byt (by rw [I0_len]; omega)).mono ?_
  rintro e w4 ⟨rfl, hw4⟩
  rw [hw4]
  clear hw4
  have HC0 : Hid (∀ W, Calls Tryd.prog 36 #[.agg #[.int .i64 1, .int .i64 0, .int .i64 0, .int .i64 23, .int .i64 ((4294967295 - crcL 4294967295 I0 : Nat) : Int)]] W fun e w' => ∃ g c, e = .returned (.slice (some ⟨g, 0, none⟩) 64 c) ∧ Own .u8 5 w' W.heap.size (.slice (some ⟨g, 0, none⟩) 64 c) Sp0 ∧ Below W.heap.size W w') := by
    intro W
    refine (specSuper_any W 1 0 0 23 _ (by omega)).mono ?_
    rintro e w' ⟨v, rfl, o, b⟩
    have o' : Own .u8 5 w' W.heap.size v Sp0 := o
    obtain ⟨g, c, hv⟩ := own_full o' (by rw [Sp0_len]; omega)
    rw [Sp0_len] at hv
    subst hv
    exact ⟨g, c, rfl, o', b⟩
  generalize ((4294967295 - crcL 4294967295 I0 : Nat) : Int) = C9 at *
  go_wp2_with fail
  refine (HC0.out _).mono ?_
  rintro e w5 ⟨g5, c5, rfl, o5, b5⟩
  have F5 : Hid (FmS w S L w5) := F3.out.below b5
  have S5 : Hid (Own .u8 5 w5 w3.heap.size (.slice (some ⟨g5, 0, none⟩) 64 c5) Sp0) := o5
  have I5 : Hid (Own .u8 5 w5 w2.heap.size (.slice (some ⟨g3, 0, none⟩) 23 c3) I0) := I3.out.below b5
  clear o5 b5 F3 I3 HC0
  go_wp2_with fail
  have BA : Hid (Below w5.heap.size w5 (w5.alloc (.cells #[] 5))) := (Below.refl _ _).alloc (Nat.le_refl _) _
  have R6 : Hid (Rd .u8 (w5.alloc (.cells #[] 5)) (.slice (some ⟨w5.heap.size, 0, none⟩) 0 0) []) := ⟨_, 0, rfl, Nat.le_refl _, Nat.zero_le _, .inl rfl⟩
  refine (l5Pad_any _ _ [] 64 R6.out (by simp) (by omega)).mono ?_
  rintro e w6 ⟨v6, rfl, o6, b6⟩
  have b6' : Below w5.heap.size w5 w6 := BA.out.trans (b6.mono (by simp))
  obtain ⟨a6, c6, hv6⟩ := Own.slice o6
  rw [show ([] ++ zeros (64 - ([] : List Int).length) : List Int) = zeros 64 by simp] at o6 hv6
  rw [zeros_len] at hv6
  subst hv6
  have O6 : Hid (w6.ownsRow w5.heap.size 5 1 (.slice a6 64 c6) 64 ((zeros 64).map (Value.int .u8))) := by have := o6.mono (show w5.heap.size ≤ (w5.alloc (.cells #[] 5)).heap.size by simp); unfold Own at this; rw [zeros_len] at this; exact this
  have F6 : Hid (FmS w S L w6) := F5.out.below b6'
  have N6 : Hid (∀ j u, (Sp0.map (Value.int .u8))[j]? = some u → w6.cell? ((⟨g5, 0, none⟩ : Addr).add j) = some u) := World.ownsRow.cells (S5.out.below b6') rfl
  have I6 : Hid (Own .u8 5 w6 w2.heap.size (.slice (some ⟨g3, 0, none⟩) 23 c3) I0) := I5.out.below b6'
  have L6 : Hid (g3 < w5.heap.size) := (I5.out.lt g3 rfl).2
  have s6 := b6'.size
  have s5 := F5.out.lt
  clear o6 b6 b6' R6 BA F5 I5 S5
  go_wp2_with (at_builtin; go_must (refine wpList_append_own _ rfl _ _ 24 rfl w5.heap.size 5 i0 (.int .u8 0) 1 1 Tryd.underlying24 hi hz0 hz1 hz2 rfl (by decide) _ _ _ rfl O6.out ⟨g5, 0, none⟩ 64 c5 (Sp0.map (Value.int .u8)) rfl ?_ N6.out (u8_oneCell _) ?_ ?_ ?_ ?_))
  · rw [List.length_map, Sp0_len]
  · unfold maxLen; omega
  · omega
  · exact s6
  intro v7 w7 ho7 hg7 _
  have b7 : Below w5.heap.size w6 w7 := (Below.refl _ _).grown hg7 s6 (fun q hq => (World.ownsRow.lt O6.out q hq).1)
  have O7 : Hid (w7.ownsRow w5.heap.size 5 1 v7 128 ((zeros 64 ++ Sp0).map (Value.int .u8))) := by show World.ownsRow _ _ _ _ _ _ _; rw [List.map_append]; exact ho7
  have F7 : Hid (FmS w S L w7) := F6.out.belowB b7 s5
  have I7 : Hid (Own .u8 5 w7 w2.heap.size (.slice (some ⟨g3, 0, none⟩) 23 c3) I0) := I6.out.other hg7 (.inr (fun e => by have h1 : w5.heap.size ≤ g3 := (World.ownsRow.lt O6.out g3 e.symm).1; have h2 := L6.out; omega))
  have N7 : Hid (∀ j u, (I0.map (Value.int .u8))[j]? = some u → w7.cell? ((⟨g3, 0, none⟩ : Addr).add j) = some u) := World.ownsRow.cells I7.out rfl
  have s7 : w5.heap.size ≤ w7.heap.size := Nat.le_trans s6 b7.size
  clear ho7 hg7 b7 O6 N6 F6 I6
  go_wp2_with (at_builtin; go_must (refine wpList_append_own _ rfl _ _ 24 rfl w5.heap.size 5 i0 (.int .u8 0) 1 1 Tryd.underlying24 hi hz0 hz1 hz2 rfl (by decide) _ _ _ rfl O7.out ⟨g3, 0, none⟩ 23 c3 (I0.map (Value.int .u8)) rfl ?_ N7.out (u8_oneCell _) ?_ ?_ ?_ ?_))
  · rw [List.length_map, I0_len]
  · unfold maxLen; omega
  · omega
  · exact s7
  intro v8 w8 ho8 hg8 _
  have b8 : Below w5.heap.size w7 w8 := (Below.refl _ _).grown hg8 s7 (fun q hq => (World.ownsRow.lt O7.out q hq).1)
  have R8 : Hid (Rd .u8 w8 v8 (zeros 64 ++ Sp0 ++ I0)) := by
    have h8 : Own .u8 5 w8 w5.heap.size v8 (zeros 64 ++ Sp0 ++ I0) := own_of (q := 151) (ys := zeros 64 ++ Sp0 ++ I0) (by simp [zeros_len, Sp0_len, I0_len]) rfl (by rw [List.map_append]; exact ho8)
    exact h8.rd
  have F8 : Hid (FmS w S L w8) := F7.out.belowB b8 s5
  clear ho8 hg8 b8 O7 N7 F7 I7 L6
  obtain ⟨-, x0, x1⟩ := F8.out.2.1
  have H9 : Hid (∀ W, Rd .u8 W v8 (zeros 64 ++ Sp0 ++ I0) → Calls Tryd.prog 38 #[v8, .int .i64 (64 * (2 + 2 * (S + L)))] W fun e w' => ∃ v', e = .returned v' ∧ Own .u8 5 w' W.heap.size v' (fmN (fmK S L)) ∧ Below W.heap.size W w') := by
    intro W hW
    rw [HK.out]
    have hl : (zeros 64 ++ Sp0 ++ I0).length = 151 := by simp [zeros_len, Sp0_len, I0_len]
    have := l5Pad_any W v8 (zeros 64 ++ Sp0 ++ I0) (fmK S L * 64) hW (by rw [hl]; omega) (by omega)
    rw [hl] at this
    exact this
  go_wp2_with fail
  refine (H9.out _ R8.out).mono ?_
  rintro e w9 ⟨v9, rfl, o9, b9⟩
  obtain ⟨a9, c9, rfl⟩ := Own.slice o9
  have O9 : Hid (Own .u8 5 w9 (w.heap.size + 2) (.slice a9 (fmN (fmK S L)).length c9) (fmN (fmK S L))) := o9.mono F8.out.lt
  have F9 : Hid (FmS w S L w9) := F8.out.below b9
  clear o9 b9 H9 R8 F8 x0 x1
  obtain ⟨⟨zr, d0, d1⟩, f0, f1⟩ := F9.out.2.2
  go_wp2
  refine bodyPost_ret (v := .agg #[.slice a9 (fmN (fmK S L)).length c9, .slice none 0 0]) (by simp [results, Tryd.results6, go_sem, d0, d1]) rfl ⟨_, rfl, ?_, ?_⟩
  · repeat (first | exact O9.out | refine Own.setBelow ?_ (show w.heap.size + 1 < w.heap.size + 2 by omega) _)
  · repeat (first | exact F9.out.1 | refine Below.setCell ?_ (by simp) _)

end Go.Proofs.YtoljmlhnbmeloaaDoor

