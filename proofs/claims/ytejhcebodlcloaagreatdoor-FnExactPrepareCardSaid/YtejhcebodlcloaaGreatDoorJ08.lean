import Derived.Test.YtejhcebodlcloaaGreatDoorJ07
import Derived.Deep.RegionHeld3
namespace Go.Proofs.YtejhcebodlcloaaGreatDoor
open Go.RowKit Go.Shelf

/-- Decimal digits with zeros ahead up to so many. -/
def six : Nat → Nat → Nat → List UInt8
  | 0, _, _ => []
  | f + 1, v, d => if v = 0 ∧ d = 0 then [] else six f (v / 10) (d - 1) ++ [UInt8.ofNat (48 + v % 10)]
theorem six_len : ∀ f v d, (six f v d).length ≤ f
  | 0, _, _ => Nat.le_refl _
  | f + 1, v, d => by
    unfold six
    split
    · simp
    · have := six_len f (v / 10) (d - 1)
      simp; omega

set_option maxHeartbeats 1000000 in
set_option maxRecDepth 100000 in
theorem l3Six_end (w : World) (dg : Int) (hd : dg ≤ 0) : Calls Tryz.prog 46 #[.int .i64 0, .int .i64 dg] w fun e w' => e = .returned (.string ⟨#[]⟩) ∧ Below w.heap.size w w' := by
  go_enter Tryz.func46, Tryz.ntmps46
  go_wp2
  go_ret
  exact ⟨rfl, Below.refl _ _⟩
theorem strOf_one (n : Nat) : strOfNums [(n : Int)] = ⟨[UInt8.ofNat n].toArray⟩ := by
  unfold strOfNums
  simp

set_option linter.unusedSimpArgs false in
set_option maxHeartbeats 2000000 in
set_option maxRecDepth 100000 in
theorem l3Six_any : ∀ (f : Nat) (w : World) (v : Nat) (dg : Int), f ≤ 20 → v < 10 ^ f → v ≤ 1000000000000 → dg.toNat ≤ f → dg ≤ 100 → (f : Int) - 100 ≤ dg →
    Calls Tryz.prog 46 #[.int .i64 (v : Int), .int .i64 dg] w fun e w' => e = .returned (.string ⟨(six (f + 1) v dg.toNat).toArray⟩) ∧ Below w.heap.size w w' := by
  intro f
  induction f with
  | zero =>
    intro w v dg hf hv hv2 hd hdg hdm
    have hv0 : v = 0 := by simpa using hv
    subst hv0
    refine (l3Six_end w dg (by omega)).mono ?_
    rintro e w' ⟨rfl, b⟩
    rw [show dg.toNat = 0 by omega]
    exact ⟨rfl, b⟩
  | succ f ih =>
    intro w v dg hf hv hv2 hd hdg hdm
    by_cases hz : v = 0 ∧ dg ≤ 0
    · obtain ⟨rfl, hz2⟩ := hz
      refine (l3Six_end w dg hz2).mono ?_
      rintro e w' ⟨rfl, b⟩
      rw [show dg.toNat = 0 by omega]
      exact ⟨rfl, b⟩
    have HS : Hid (six (f + 2) v dg.toNat = six (f + 1) (v / 10) (dg - 1).toNat ++ [UInt8.ofNat (48 + v % 10)]) := by
      show _ = _
      rw [six, if_neg (by omega), show (dg - 1).toNat = dg.toNat - 1 by omega]
    have HI : Hid (∀ W : World, Calls Tryz.prog 46 #[.int .i64 ((v : Int) / 10), .int .i64 (dg - 1)] W fun e w' => e = .returned (.string ⟨(six (f + 1) (v / 10) (dg - 1).toNat).toArray⟩) ∧ Below W.heap.size W w') := by
      intro W
      have := ih W (v / 10) (dg - 1) (by omega) (by rw [Nat.pow_succ] at hv; omega) (by omega) (by omega) (by omega) (by omega)
      rw [show ((v / 10 : Nat) : Int) = (v : Int) / 10 by omega] at this
      exact this
    clear ih hv
    have hcase : (¬ (v : Int) = 0) ∨ ((v : Int) = 0 ∧ ¬ dg ≤ 0) := by omega
    have hL := six_len (f + 1) (v / 10) (dg - 1).toNat
    generalize six (f + 1) (v / 10) (dg - 1).toNat = L at *
    have hm : v % 10 < 10 := Nat.mod_lt _ (by omega)
    have HONE : Hid (strOfNums [((48 + v % 10 : Nat) : Int)] = ⟨[UInt8.ofNat (48 + v % 10)].toArray⟩) := strOf_one _
    have HB8 : Hid (∀ W : World, Rd .u8 (W.alloc (.cells #[.int .u8 (48 + (v : Int) % 10)] 5)) (.slice (some ⟨W.heap.size, 0, none⟩) 1 1) [((48 + v % 10 : Nat) : Int)]) := by
      intro W
      refine ⟨_, _, rfl, Nat.le_refl _, by unfold maxLen; omega, .inr ⟨W.heap.size, 0, rfl, by simp, fun i hi => ?_⟩⟩
      have : i = 0 := by simp at hi; omega
      subst this
      simp
    rcases hcase with hc | ⟨hc, hc2⟩
    · have hcb : ((v : Int) == 0) = false := by simp; omega
      clear hc hz
      go_enter Tryz.func46, Tryz.ntmps46
      go_wp2_with fail
      refine wp_region_held_drew (S := fun _ => True) (by kernel_rfl) trivial (fun hHeld => ?_)
      have bC : Below w.heap.size w w.drew := below_drewN' w 1
      generalize w.drew = P0 at *
      refine wpAnyH_take (i := 0) (oi := { dst := some 11, op := _, type := _, pos := _, after := _, guard := _ }) (v := (.int .i64 (v : Int))) rfl (by kernel_rfl) (by kernel_rfl) (by kernel_rfl) (fun _ _ _ h => h) (Or.inl ⟨by rfl, ?hy6⟩) (by assumption) ?rest6
      case hy6 =>
        intro w9 hS9
        go_simp
      try simp only [Act.put, List.setIfInBounds_toArray, List.set_cons_zero, List.set_cons_succ]
      refine wpAnyH_take (i := 1) (oi := { dst := some 12, op := _, type := _, pos := _, after := _, guard := _ }) (v := (.int .i64 ((v : Int) / 10))) rfl (by kernel_rfl) (by kernel_rfl) (by kernel_rfl) (fun _ _ _ h => h) (Or.inl ⟨by rfl, ?hy7⟩) (by assumption) ?rest7
      case hy7 =>
        intro w9 hS9
        go_simp
        rw [IntKind.wrap_i64]
        omega
      try simp only [Act.put, List.setIfInBounds_toArray, List.set_cons_zero, List.set_cons_succ]
      refine wpAnyH_take (i := 2) (oi := { dst := some 13, op := _, type := _, pos := _, after := _, guard := _ }) (v := (.int .i64 dg)) rfl (by kernel_rfl) (by kernel_rfl) (by kernel_rfl) (fun _ _ _ h => h) (Or.inl ⟨by rfl, ?hy8⟩) (by assumption) ?rest8
      case hy8 =>
        intro w9 hS9
        go_simp
      try simp only [Act.put, List.setIfInBounds_toArray, List.set_cons_zero, List.set_cons_succ]
      refine wpAnyH_take (i := 3) (oi := { dst := some 14, op := _, type := _, pos := _, after := _, guard := _ }) (v := (.int .i64 (dg - 1))) rfl (by kernel_rfl) (by kernel_rfl) (by kernel_rfl) (fun _ _ _ h => h) (Or.inl ⟨by rfl, ?hy9⟩) (by assumption) ?rest9
      case hy9 =>
        intro w9 hS9
        go_simp
        try (rw [IntKind.wrap_i64]; omega)
      try simp only [Act.put, List.setIfInBounds_toArray, List.set_cons_zero, List.set_cons_succ]
      refine wpAnyH_take (i := 5) (oi := { dst := some 16, op := _, type := _, pos := _, after := _, guard := _ }) (v := (.int .i64 (v : Int))) rfl (by kernel_rfl) (by kernel_rfl) (by kernel_rfl) (fun _ _ _ h => h) (Or.inl ⟨by rfl, ?hy10⟩) (by assumption) ?rest10
      case hy10 =>
        intro w9 hS9
        go_simp
      try simp only [Act.put, List.setIfInBounds_toArray, List.set_cons_zero, List.set_cons_succ]
      refine wpAnyH_take (i := 6) (oi := { dst := some 17, op := _, type := _, pos := _, after := _, guard := _ }) (v := (.int .i64 ((v : Int) % 10))) rfl (by kernel_rfl) (by kernel_rfl) (by kernel_rfl) (fun _ _ _ h => h) (Or.inl ⟨by rfl, ?hy11⟩) (by assumption) ?rest11
      case hy11 =>
        intro w9 hS9
        go_simp
        exact Int.tmod_eq_emod_of_nonneg (by omega)
      try simp only [Act.put, List.setIfInBounds_toArray, List.set_cons_zero, List.set_cons_succ]
      refine wpAnyH_take (i := 7) (oi := { dst := some 18, op := _, type := _, pos := _, after := _, guard := _ }) (v := (.int .i64 (48 + (v : Int) % 10))) rfl (by kernel_rfl) (by kernel_rfl) (by kernel_rfl) (fun _ _ _ h => h) (Or.inl ⟨by rfl, ?hy12⟩) (by assumption) ?rest12
      case hy12 =>
        intro w9 hS9
        go_simp
        try (rw [IntKind.wrap_i64]; omega)
      try simp only [Act.put, List.setIfInBounds_toArray, List.set_cons_zero, List.set_cons_succ]
      refine wpAnyH_take (i := 8) (oi := { dst := some 19, op := _, type := _, pos := _, after := _, guard := _ }) (v := (.int .u8 (48 + (v : Int) % 10))) rfl (by kernel_rfl) (by kernel_rfl) (by kernel_rfl) (fun _ _ _ h => h) (Or.inl ⟨by rfl, ?hy13⟩) (by assumption) ?rest13
      case hy13 =>
        intro w9 hS9
        go_simp
        rw [IntKind.wrap_u8]
        omega
      try simp only [Act.put, List.setIfInBounds_toArray, List.set_cons_zero, List.set_cons_succ]
      refine wpAnyH_ready (rs := [4, 9]) (by kernel_rfl) (by simp) ?_
      refine (AllReadyH.cons (o := { dst := some 15, op := _, type := _, pos := _, after := _, guard := _ }) rfl (fun K hK => ?_) (AllReadyH.cons (o := { dst := some 20, op := _, type := _, pos := _, after := _, guard := _ }) rfl (fun K hK => ?_) AllReadyH.nil))
      · go_simp
        refine (HI.out P0).mono ?_
        rintro e P1 ⟨rfl, bA⟩
        replace bC := bC.trans (bA.mono bC.size)
        clear bA
        refine hK.out _ _ trivial (fun hx9 => ?_)
        clear hK K hx9
        try simp only [Act.put, List.setIfInBounds_toArray, List.set_cons_zero, List.set_cons_succ]
        refine wpAnyH_ready (rs := [9]) (by kernel_rfl) (by simp) ?_
        refine (AllReadyH.cons (o := { dst := some 20, op := _, type := _, pos := _, after := _, guard := _ }) rfl (fun K hK => ?_) AllReadyH.nil)
        go_simp
        have rB := HB8.out P1
        replace bC := bC.alloc bC.size (.cells #[.int .u8 (48 + (v : Int) % 10)] 5)
        generalize hB : P1.heap.size = BB at rB ⊢
        generalize P1.alloc (.cells #[.int .u8 (48 + (v : Int) % 10)] 5) = P2 at *
        clear hB
        refine hK.out _ _ trivial (fun hx9 => ?_)
        clear hK K hx9
        try simp only [Act.put, List.setIfInBounds_toArray, List.set_cons_zero, List.set_cons_succ]
        refine wpAnyH_ready (rs := [10]) (by kernel_rfl) (by simp) ?_
        refine (AllReadyH.cons (o := { dst := some 21, op := _, type := _, pos := _, after := _, guard := _ }) rfl (fun K hK => ?_) AllReadyH.nil)
        have hc9 := conv_any rB
        rw [HONE.out] at hc9
        go_simp
        clear hc9 rB
        refine hK.out _ _ trivial (fun hx9 => ?_)
        clear hK K hx9
        try simp only [Act.put, List.setIfInBounds_toArray, List.set_cons_zero, List.set_cons_succ]
        refine wpAnyH_take (i := 11) (oi := { dst := some 22, op := _, type := _, pos := _, after := _, guard := _ }) (v := (.string (⟨L.toArray⟩ ++ ⟨[UInt8.ofNat (48 + v % 10)].toArray⟩))) rfl (by kernel_rfl) (by kernel_rfl) (by kernel_rfl) (fun _ _ _ h => h) (Or.inl ⟨by rfl, ?hy14⟩) (by assumption) ?rest14
        case hy14 =>
          intro w9 hS9
          go_simp
          omega
        try simp only [Act.put, List.setIfInBounds_toArray, List.set_cons_zero, List.set_cons_succ]
        skip
        refine wpAnyH_take (i := 12) (oi := { dst := some 4, op := _, type := _, pos := _, after := _, guard := _ }) (v := (.string (⟨L.toArray⟩ ++ ⟨[UInt8.ofNat (48 + v % 10)].toArray⟩))) rfl (by kernel_rfl) (by kernel_rfl) (by kernel_rfl) (fun _ _ _ h => h) (Or.inl ⟨by rfl, ?hy15⟩) (by assumption) ?rest15
        case hy15 =>
          intro w9 hS9
          go_simp
        try simp only [Act.put, List.setIfInBounds_toArray, List.set_cons_zero, List.set_cons_succ]
        refine wpAnyH_done (by kernel_rfl) ?_ _
        clear hHeld
        have HBC : Hid (Below w.heap.size w P2) := bC
        clear bC
        go_wp2
        go_ret
        refine ⟨?_, HBC.out⟩
        rw [HS.out, ← ba_ap]
        rfl
      · go_simp
        have rB := HB8.out P0
        replace bC := bC.alloc bC.size (.cells #[.int .u8 (48 + (v : Int) % 10)] 5)
        generalize hB : P0.heap.size = BB at rB ⊢
        generalize P0.alloc (.cells #[.int .u8 (48 + (v : Int) % 10)] 5) = P4 at *
        clear hB
        refine hK.out _ _ trivial (fun hx9 => ?_)
        clear hK K hx9
        try simp only [Act.put, List.setIfInBounds_toArray, List.set_cons_zero, List.set_cons_succ]
        refine wpAnyH_ready (rs := [4, 10]) (by kernel_rfl) (by simp) ?_
        refine (AllReadyH.cons (o := { dst := some 15, op := _, type := _, pos := _, after := _, guard := _ }) rfl (fun K hK => ?_) (AllReadyH.cons (o := { dst := some 21, op := _, type := _, pos := _, after := _, guard := _ }) rfl (fun K hK => ?_) AllReadyH.nil))
        · go_simp
          refine (HI.out P4).mono ?_
          rintro e P5 ⟨rfl, bA⟩
          replace bC := bC.trans (bA.mono bC.size)
          replace rB := rB.below bA
          clear bA
          refine hK.out _ _ trivial (fun hx9 => ?_)
          clear hK K hx9
          try simp only [Act.put, List.setIfInBounds_toArray, List.set_cons_zero, List.set_cons_succ]
          refine wpAnyH_ready (rs := [10]) (by kernel_rfl) (by simp) ?_
          refine (AllReadyH.cons (o := { dst := some 21, op := _, type := _, pos := _, after := _, guard := _ }) rfl (fun K hK => ?_) AllReadyH.nil)
          have hc9 := conv_any rB
          rw [HONE.out] at hc9
          go_simp
          clear hc9 rB
          refine hK.out _ _ trivial (fun hx9 => ?_)
          clear hK K hx9
          try simp only [Act.put, List.setIfInBounds_toArray, List.set_cons_zero, List.set_cons_succ]
          refine wpAnyH_take (i := 11) (oi := { dst := some 22, op := _, type := _, pos := _, after := _, guard := _ }) (v := (.string (⟨L.toArray⟩ ++ ⟨[UInt8.ofNat (48 + v % 10)].toArray⟩))) rfl (by kernel_rfl) (by kernel_rfl) (by kernel_rfl) (fun _ _ _ h => h) (Or.inl ⟨by rfl, ?hy16⟩) (by assumption) ?rest16
          case hy16 =>
            intro w9 hS9
            go_simp
            omega
          try simp only [Act.put, List.setIfInBounds_toArray, List.set_cons_zero, List.set_cons_succ]
          skip
          refine wpAnyH_take (i := 12) (oi := { dst := some 4, op := _, type := _, pos := _, after := _, guard := _ }) (v := (.string (⟨L.toArray⟩ ++ ⟨[UInt8.ofNat (48 + v % 10)].toArray⟩))) rfl (by kernel_rfl) (by kernel_rfl) (by kernel_rfl) (fun _ _ _ h => h) (Or.inl ⟨by rfl, ?hy17⟩) (by assumption) ?rest17
          case hy17 =>
            intro w9 hS9
            go_simp
          try simp only [Act.put, List.setIfInBounds_toArray, List.set_cons_zero, List.set_cons_succ]
          refine wpAnyH_done (by kernel_rfl) ?_ _
          clear hHeld
          have HBC : Hid (Below w.heap.size w P5) := bC
          clear bC
          go_wp2
          go_ret
          refine ⟨?_, HBC.out⟩
          rw [HS.out, ← ba_ap]
          rfl
        · have hc9 := conv_any rB
          rw [HONE.out] at hc9
          go_simp
          clear hc9 rB
          refine hK.out _ _ trivial (fun hx9 => ?_)
          clear hK K hx9
          try simp only [Act.put, List.setIfInBounds_toArray, List.set_cons_zero, List.set_cons_succ]
          refine wpAnyH_ready (rs := [4]) (by kernel_rfl) (by simp) ?_
          refine (AllReadyH.cons (o := { dst := some 15, op := _, type := _, pos := _, after := _, guard := _ }) rfl (fun K hK => ?_) AllReadyH.nil)
          go_simp
          refine (HI.out P4).mono ?_
          rintro e P8 ⟨rfl, bA⟩
          replace bC := bC.trans (bA.mono bC.size)
          clear bA
          refine hK.out _ _ trivial (fun hx9 => ?_)
          clear hK K hx9
          try simp only [Act.put, List.setIfInBounds_toArray, List.set_cons_zero, List.set_cons_succ]
          refine wpAnyH_take (i := 11) (oi := { dst := some 22, op := _, type := _, pos := _, after := _, guard := _ }) (v := (.string (⟨L.toArray⟩ ++ ⟨[UInt8.ofNat (48 + v % 10)].toArray⟩))) rfl (by kernel_rfl) (by kernel_rfl) (by kernel_rfl) (fun _ _ _ h => h) (Or.inl ⟨by rfl, ?hy18⟩) (by assumption) ?rest18
          case hy18 =>
            intro w9 hS9
            go_simp
            omega
          try simp only [Act.put, List.setIfInBounds_toArray, List.set_cons_zero, List.set_cons_succ]
          skip
          refine wpAnyH_take (i := 12) (oi := { dst := some 4, op := _, type := _, pos := _, after := _, guard := _ }) (v := (.string (⟨L.toArray⟩ ++ ⟨[UInt8.ofNat (48 + v % 10)].toArray⟩))) rfl (by kernel_rfl) (by kernel_rfl) (by kernel_rfl) (fun _ _ _ h => h) (Or.inl ⟨by rfl, ?hy19⟩) (by assumption) ?rest19
          case hy19 =>
            intro w9 hS9
            go_simp
          try simp only [Act.put, List.setIfInBounds_toArray, List.set_cons_zero, List.set_cons_succ]
          refine wpAnyH_done (by kernel_rfl) ?_ _
          clear hHeld
          have HBC : Hid (Below w.heap.size w P8) := bC
          clear bC
          go_wp2
          go_ret
          refine ⟨?_, HBC.out⟩
          rw [HS.out, ← ba_ap]
          rfl
    · have hcb : ((v : Int) == 0) = true := by simp; omega
      have hcd : ¬ dg ≤ 0 := hc2
      clear hc hz hc2
      go_enter Tryz.func46, Tryz.ntmps46
      go_wp2_with fail
      refine wp_region_held_drew (S := fun _ => True) (by kernel_rfl) trivial (fun hHeld => ?_)
      have bC : Below w.heap.size w w.drew := below_drewN' w 1
      generalize w.drew = P0 at *
      refine wpAnyH_take (i := 0) (oi := { dst := some 11, op := _, type := _, pos := _, after := _, guard := _ }) (v := (.int .i64 (v : Int))) rfl (by kernel_rfl) (by kernel_rfl) (by kernel_rfl) (fun _ _ _ h => h) (Or.inl ⟨by rfl, ?hy20⟩) (by assumption) ?rest20
      case hy20 =>
        intro w9 hS9
        go_simp
      try simp only [Act.put, List.setIfInBounds_toArray, List.set_cons_zero, List.set_cons_succ]
      refine wpAnyH_take (i := 1) (oi := { dst := some 12, op := _, type := _, pos := _, after := _, guard := _ }) (v := (.int .i64 ((v : Int) / 10))) rfl (by kernel_rfl) (by kernel_rfl) (by kernel_rfl) (fun _ _ _ h => h) (Or.inl ⟨by rfl, ?hy21⟩) (by assumption) ?rest21
      case hy21 =>
        intro w9 hS9
        go_simp
        rw [IntKind.wrap_i64]
        omega
      try simp only [Act.put, List.setIfInBounds_toArray, List.set_cons_zero, List.set_cons_succ]
      refine wpAnyH_take (i := 2) (oi := { dst := some 13, op := _, type := _, pos := _, after := _, guard := _ }) (v := (.int .i64 dg)) rfl (by kernel_rfl) (by kernel_rfl) (by kernel_rfl) (fun _ _ _ h => h) (Or.inl ⟨by rfl, ?hy22⟩) (by assumption) ?rest22
      case hy22 =>
        intro w9 hS9
        go_simp
      try simp only [Act.put, List.setIfInBounds_toArray, List.set_cons_zero, List.set_cons_succ]
      refine wpAnyH_take (i := 3) (oi := { dst := some 14, op := _, type := _, pos := _, after := _, guard := _ }) (v := (.int .i64 (dg - 1))) rfl (by kernel_rfl) (by kernel_rfl) (by kernel_rfl) (fun _ _ _ h => h) (Or.inl ⟨by rfl, ?hy23⟩) (by assumption) ?rest23
      case hy23 =>
        intro w9 hS9
        go_simp
        try (rw [IntKind.wrap_i64]; omega)
      try simp only [Act.put, List.setIfInBounds_toArray, List.set_cons_zero, List.set_cons_succ]
      refine wpAnyH_take (i := 5) (oi := { dst := some 16, op := _, type := _, pos := _, after := _, guard := _ }) (v := (.int .i64 (v : Int))) rfl (by kernel_rfl) (by kernel_rfl) (by kernel_rfl) (fun _ _ _ h => h) (Or.inl ⟨by rfl, ?hy24⟩) (by assumption) ?rest24
      case hy24 =>
        intro w9 hS9
        go_simp
      try simp only [Act.put, List.setIfInBounds_toArray, List.set_cons_zero, List.set_cons_succ]
      refine wpAnyH_take (i := 6) (oi := { dst := some 17, op := _, type := _, pos := _, after := _, guard := _ }) (v := (.int .i64 ((v : Int) % 10))) rfl (by kernel_rfl) (by kernel_rfl) (by kernel_rfl) (fun _ _ _ h => h) (Or.inl ⟨by rfl, ?hy25⟩) (by assumption) ?rest25
      case hy25 =>
        intro w9 hS9
        go_simp
        exact Int.tmod_eq_emod_of_nonneg (by omega)
      try simp only [Act.put, List.setIfInBounds_toArray, List.set_cons_zero, List.set_cons_succ]
      refine wpAnyH_take (i := 7) (oi := { dst := some 18, op := _, type := _, pos := _, after := _, guard := _ }) (v := (.int .i64 (48 + (v : Int) % 10))) rfl (by kernel_rfl) (by kernel_rfl) (by kernel_rfl) (fun _ _ _ h => h) (Or.inl ⟨by rfl, ?hy26⟩) (by assumption) ?rest26
      case hy26 =>
        intro w9 hS9
        go_simp
        try (rw [IntKind.wrap_i64]; omega)
      try simp only [Act.put, List.setIfInBounds_toArray, List.set_cons_zero, List.set_cons_succ]
      refine wpAnyH_take (i := 8) (oi := { dst := some 19, op := _, type := _, pos := _, after := _, guard := _ }) (v := (.int .u8 (48 + (v : Int) % 10))) rfl (by kernel_rfl) (by kernel_rfl) (by kernel_rfl) (fun _ _ _ h => h) (Or.inl ⟨by rfl, ?hy27⟩) (by assumption) ?rest27
      case hy27 =>
        intro w9 hS9
        go_simp
        rw [IntKind.wrap_u8]
        omega
      try simp only [Act.put, List.setIfInBounds_toArray, List.set_cons_zero, List.set_cons_succ]
      refine wpAnyH_ready (rs := [4, 9]) (by kernel_rfl) (by simp) ?_
      refine (AllReadyH.cons (o := { dst := some 15, op := _, type := _, pos := _, after := _, guard := _ }) rfl (fun K hK => ?_) (AllReadyH.cons (o := { dst := some 20, op := _, type := _, pos := _, after := _, guard := _ }) rfl (fun K hK => ?_) AllReadyH.nil))
      · go_simp
        refine (HI.out P0).mono ?_
        rintro e P1 ⟨rfl, bA⟩
        replace bC := bC.trans (bA.mono bC.size)
        clear bA
        refine hK.out _ _ trivial (fun hx9 => ?_)
        clear hK K hx9
        try simp only [Act.put, List.setIfInBounds_toArray, List.set_cons_zero, List.set_cons_succ]
        refine wpAnyH_ready (rs := [9]) (by kernel_rfl) (by simp) ?_
        refine (AllReadyH.cons (o := { dst := some 20, op := _, type := _, pos := _, after := _, guard := _ }) rfl (fun K hK => ?_) AllReadyH.nil)
        go_simp
        have rB := HB8.out P1
        replace bC := bC.alloc bC.size (.cells #[.int .u8 (48 + (v : Int) % 10)] 5)
        generalize hB : P1.heap.size = BB at rB ⊢
        generalize P1.alloc (.cells #[.int .u8 (48 + (v : Int) % 10)] 5) = P2 at *
        clear hB
        refine hK.out _ _ trivial (fun hx9 => ?_)
        clear hK K hx9
        try simp only [Act.put, List.setIfInBounds_toArray, List.set_cons_zero, List.set_cons_succ]
        refine wpAnyH_ready (rs := [10]) (by kernel_rfl) (by simp) ?_
        refine (AllReadyH.cons (o := { dst := some 21, op := _, type := _, pos := _, after := _, guard := _ }) rfl (fun K hK => ?_) AllReadyH.nil)
        have hc9 := conv_any rB
        rw [HONE.out] at hc9
        go_simp
        clear hc9 rB
        refine hK.out _ _ trivial (fun hx9 => ?_)
        clear hK K hx9
        try simp only [Act.put, List.setIfInBounds_toArray, List.set_cons_zero, List.set_cons_succ]
        refine wpAnyH_take (i := 11) (oi := { dst := some 22, op := _, type := _, pos := _, after := _, guard := _ }) (v := (.string (⟨L.toArray⟩ ++ ⟨[UInt8.ofNat (48 + v % 10)].toArray⟩))) rfl (by kernel_rfl) (by kernel_rfl) (by kernel_rfl) (fun _ _ _ h => h) (Or.inl ⟨by rfl, ?hy28⟩) (by assumption) ?rest28
        case hy28 =>
          intro w9 hS9
          go_simp
          omega
        try simp only [Act.put, List.setIfInBounds_toArray, List.set_cons_zero, List.set_cons_succ]
        skip
        refine wpAnyH_take (i := 12) (oi := { dst := some 4, op := _, type := _, pos := _, after := _, guard := _ }) (v := (.string (⟨L.toArray⟩ ++ ⟨[UInt8.ofNat (48 + v % 10)].toArray⟩))) rfl (by kernel_rfl) (by kernel_rfl) (by kernel_rfl) (fun _ _ _ h => h) (Or.inl ⟨by rfl, ?hy29⟩) (by assumption) ?rest29
        case hy29 =>
          intro w9 hS9
          go_simp
        try simp only [Act.put, List.setIfInBounds_toArray, List.set_cons_zero, List.set_cons_succ]
        refine wpAnyH_done (by kernel_rfl) ?_ _
        clear hHeld
        have HBC : Hid (Below w.heap.size w P2) := bC
        clear bC
        go_wp2
        go_ret
        refine ⟨?_, HBC.out⟩
        rw [HS.out, ← ba_ap]
        rfl
      · go_simp
        have rB := HB8.out P0
        replace bC := bC.alloc bC.size (.cells #[.int .u8 (48 + (v : Int) % 10)] 5)
        generalize hB : P0.heap.size = BB at rB ⊢
        generalize P0.alloc (.cells #[.int .u8 (48 + (v : Int) % 10)] 5) = P4 at *
        clear hB
        refine hK.out _ _ trivial (fun hx9 => ?_)
        clear hK K hx9
        try simp only [Act.put, List.setIfInBounds_toArray, List.set_cons_zero, List.set_cons_succ]
        refine wpAnyH_ready (rs := [4, 10]) (by kernel_rfl) (by simp) ?_
        refine (AllReadyH.cons (o := { dst := some 15, op := _, type := _, pos := _, after := _, guard := _ }) rfl (fun K hK => ?_) (AllReadyH.cons (o := { dst := some 21, op := _, type := _, pos := _, after := _, guard := _ }) rfl (fun K hK => ?_) AllReadyH.nil))
        · go_simp
          refine (HI.out P4).mono ?_
          rintro e P5 ⟨rfl, bA⟩
          replace bC := bC.trans (bA.mono bC.size)
          replace rB := rB.below bA
          clear bA
          refine hK.out _ _ trivial (fun hx9 => ?_)
          clear hK K hx9
          try simp only [Act.put, List.setIfInBounds_toArray, List.set_cons_zero, List.set_cons_succ]
          refine wpAnyH_ready (rs := [10]) (by kernel_rfl) (by simp) ?_
          refine (AllReadyH.cons (o := { dst := some 21, op := _, type := _, pos := _, after := _, guard := _ }) rfl (fun K hK => ?_) AllReadyH.nil)
          have hc9 := conv_any rB
          rw [HONE.out] at hc9
          go_simp
          clear hc9 rB
          refine hK.out _ _ trivial (fun hx9 => ?_)
          clear hK K hx9
          try simp only [Act.put, List.setIfInBounds_toArray, List.set_cons_zero, List.set_cons_succ]
          refine wpAnyH_take (i := 11) (oi := { dst := some 22, op := _, type := _, pos := _, after := _, guard := _ }) (v := (.string (⟨L.toArray⟩ ++ ⟨[UInt8.ofNat (48 + v % 10)].toArray⟩))) rfl (by kernel_rfl) (by kernel_rfl) (by kernel_rfl) (fun _ _ _ h => h) (Or.inl ⟨by rfl, ?hy30⟩) (by assumption) ?rest30
          case hy30 =>
            intro w9 hS9
            go_simp
            omega
          try simp only [Act.put, List.setIfInBounds_toArray, List.set_cons_zero, List.set_cons_succ]
          skip
          refine wpAnyH_take (i := 12) (oi := { dst := some 4, op := _, type := _, pos := _, after := _, guard := _ }) (v := (.string (⟨L.toArray⟩ ++ ⟨[UInt8.ofNat (48 + v % 10)].toArray⟩))) rfl (by kernel_rfl) (by kernel_rfl) (by kernel_rfl) (fun _ _ _ h => h) (Or.inl ⟨by rfl, ?hy31⟩) (by assumption) ?rest31
          case hy31 =>
            intro w9 hS9
            go_simp
          try simp only [Act.put, List.setIfInBounds_toArray, List.set_cons_zero, List.set_cons_succ]
          refine wpAnyH_done (by kernel_rfl) ?_ _
          clear hHeld
          have HBC : Hid (Below w.heap.size w P5) := bC
          clear bC
          go_wp2
          go_ret
          refine ⟨?_, HBC.out⟩
          rw [HS.out, ← ba_ap]
          rfl
        · have hc9 := conv_any rB
          rw [HONE.out] at hc9
          go_simp
          clear hc9 rB
          refine hK.out _ _ trivial (fun hx9 => ?_)
          clear hK K hx9
          try simp only [Act.put, List.setIfInBounds_toArray, List.set_cons_zero, List.set_cons_succ]
          refine wpAnyH_ready (rs := [4]) (by kernel_rfl) (by simp) ?_
          refine (AllReadyH.cons (o := { dst := some 15, op := _, type := _, pos := _, after := _, guard := _ }) rfl (fun K hK => ?_) AllReadyH.nil)
          go_simp
          refine (HI.out P4).mono ?_
          rintro e P8 ⟨rfl, bA⟩
          replace bC := bC.trans (bA.mono bC.size)
          clear bA
          refine hK.out _ _ trivial (fun hx9 => ?_)
          clear hK K hx9
          try simp only [Act.put, List.setIfInBounds_toArray, List.set_cons_zero, List.set_cons_succ]
          refine wpAnyH_take (i := 11) (oi := { dst := some 22, op := _, type := _, pos := _, after := _, guard := _ }) (v := (.string (⟨L.toArray⟩ ++ ⟨[UInt8.ofNat (48 + v % 10)].toArray⟩))) rfl (by kernel_rfl) (by kernel_rfl) (by kernel_rfl) (fun _ _ _ h => h) (Or.inl ⟨by rfl, ?hy32⟩) (by assumption) ?rest32
          case hy32 =>
            intro w9 hS9
            go_simp
            omega
          try simp only [Act.put, List.setIfInBounds_toArray, List.set_cons_zero, List.set_cons_succ]
          skip
          refine wpAnyH_take (i := 12) (oi := { dst := some 4, op := _, type := _, pos := _, after := _, guard := _ }) (v := (.string (⟨L.toArray⟩ ++ ⟨[UInt8.ofNat (48 + v % 10)].toArray⟩))) rfl (by kernel_rfl) (by kernel_rfl) (by kernel_rfl) (fun _ _ _ h => h) (Or.inl ⟨by rfl, ?hy33⟩) (by assumption) ?rest33
          case hy33 =>
            intro w9 hS9
            go_simp
          try simp only [Act.put, List.setIfInBounds_toArray, List.set_cons_zero, List.set_cons_succ]
          refine wpAnyH_done (by kernel_rfl) ?_ _
          clear hHeld
          have HBC : Hid (Below w.heap.size w P8) := bC
          clear bC
          go_wp2
          go_ret
          refine ⟨?_, HBC.out⟩
          rw [HS.out, ← ba_ap]
          rfl

end Go.Proofs.YtejhcebodlcloaaGreatDoor


