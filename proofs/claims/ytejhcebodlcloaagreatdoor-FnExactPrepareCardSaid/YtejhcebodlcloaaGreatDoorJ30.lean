import Derived.Test.YtejhcebodlcloaaGreatDoorJ29
import Derived.Test.YtejhcebodlcloaaGreatDoorJ12
import Derived.Test.YtejhcebodlcloaaGreatDoorJ10
import Derived.Test.YtejhcebodlcloaaGreatDoorJ27
namespace Go.Proofs.YtejhcebodlcloaaGreatDoor
open Go.RowKit Go.Shelf

/-- A marked effect. -/
def mkE (K : Nat) : Ef := ⟨(K : Int) % 3 == 0, ⟨mtx (K + 1), mtx (K + 2), (K : Int) + 1 + 1 + 1, (K : Int) + 1 + 1 + 1 + 1, (K : Int) + 1 + 1 + 1 + 1 + 1, (K : Int) + 1 + 1 + 1 + 1 + 1 + 1, (K : Int) + 1 + 1 + 1 + 1 + 1 + 1 + 1⟩⟩
def mkEs (k n : Nat) : List Ef := (List.range n).map fun j => mkE (k + 8 * j)
theorem mkEs_len (k n : Nat) : (mkEs k n).length = n := by simp [mkEs]
theorem mkEs_at (k n j : Nat) (h : j < n) : eAt (mkEs k n) j = mkE (k + 8 * j) := by unfold eAt mkEs; simp [List.getD, h]
def mkMixE (k : Nat) (ns : List Ef) (j : Nat) : List Ef := mkEs k j ++ ns.drop j
theorem mkMixE_len (k : Nat) (ns : List Ef) (j : Nat) (h : j ≤ ns.length) : (mkMixE k ns j).length = ns.length := by unfold mkMixE; rw [List.length_append, mkEs_len, List.length_drop]; omega
theorem mkMixE_set (k : Nat) (ns : List Ef) (j : Nat) (h : j < ns.length) : (mkMixE k ns j).set j (mkE (k + 8 * j)) = mkMixE k ns (j + 1) := by
  unfold mkMixE
  rw [List.set_append_right _ _ (by rw [mkEs_len]; exact Nat.le_refl _), mkEs_len, Nat.sub_self, List.drop_eq_getElem_cons h, List.set_cons_zero]
  unfold mkEs
  rw [List.range_succ, List.map_append, List.append_assoc]
  rfl
theorem mkMixE_all (k : Nat) (ns : List Ef) : mkMixE k ns ns.length = mkEs k ns.length := by unfold mkMixE; simp
/-- A row of effects on the way. -/
def RowX (w : World) (lo g n cap : Nat) (us : List Value) (w' : World) : Prop := w'.ownsRow lo 100 8 (.slice (some ⟨g, 0, none⟩) n cap) n us ∧ Below lo w w' ∧ KT 100 w w'
theorem RowX.set {w w' : World} {lo g n cap : Nat} {us : List Value} (h : RowX w lo g n cap us w') (i : Nat) (u : Value) : RowX w lo g n cap (us.set i u) (w'.setCell ⟨g, i, none⟩ u) := by
  obtain ⟨h1, h2, h3⟩ := h
  have hs := World.ownsRow.stored h1 i u
  exact ⟨hs.1, h2.setCell (World.ownsRow.lt h1 g rfl).1 _, h3.grown h1 hs.2⟩
theorem RowX.below {w w' w2 : World} {lo g n cap : Nat} {us : List Value} (h : RowX w lo g n cap us w') (hb : Below w'.heap.size w' w2) : RowX w lo g n cap us w2 := by
  obtain ⟨h1, h2, h3⟩ := h
  refine ⟨row_keep h1 hb, h2.trans (hb.mono ?_), h3.below hb⟩
  have := World.ownsRow.lt h1 g rfl
  omega
theorem RowX.cell {w w' : World} {lo g n cap : Nat} {us : List Value} (h : RowX w lo g n cap us w') (i : Nat) (hi : i < n * 8) : ∃ u, w'.cell? ⟨g, i, none⟩ = some u ∧ w'.frozen? ⟨g, i, none⟩ = false := rowcell h.1 i hi

set_option maxHeartbeats 2000000 in
set_option maxRecDepth 100000 in
theorem markEffectL_row (w : World) (lo g n cap k : Nat) (ns : List Ef) (hp : ns.length = n) (ho : w.ownsRow lo 100 8 (.slice (some ⟨g, 0, none⟩) n cap) n (erow ns)) (hk : k ≤ 1048576) (hn : n ≤ 1048576) :
    Calls Tryz.prog 63 #[.slice (some ⟨g, 0, none⟩) n cap, .int .i64 k] w fun e w' => e = .returned (.int .i64 ((k + 8 * n : Nat) : Int)) ∧ RowX w lo g n cap (erow (mkEs k n)) w' := by
  have R0 : Hid (RowX w lo g n cap (erow (mkMixE k ns 0)) w) := ⟨by unfold mkMixE mkEs; simpa using ho, Below.refl _ _, KT.refl _ _⟩
  have HP : Hid (ns.length = n) := hp
  clear ho hp
  go_enter Tryz.func63, Tryz.ntmps63
  go_wp2
  go_loopw [1, 5] (fun vk vi wr => ∃ j K : Nat, j ≤ n ∧ K = k + 8 * j ∧ vi = .int .i64 j ∧ vk = .int .i64 K ∧ Hid (RowX w lo g n cap (erow (mkMixE k ns j)) wr)) (fun _ i _ => n - (intOf i).toNat)
  case atStart => exact ⟨0, k, Nat.zero_le _, by omega, rfl, rfl, R0⟩
  case round =>
    obtain ⟨j, K, hj, hK, rfl, rfl, HR⟩ := hrel
    have HKE : Hid (K = k + 8 * j) := hK
    by_cases hlt : j < n
    · have hltI : (j : Int) < (n : Int) := by omega
      have hK2 : K ≤ 10000000 := by omega
      have HS : Hid (set8 (erow (mkMixE k ns j)) (j * 8) (mkE K) = erow (mkMixE k ns (j + 1))) := by
        show _ = _
        rw [erow_set _ _ _ (by rw [mkMixE_len _ _ _ (by rw [HP.out]; omega), HP.out]; exact hlt), hK, mkMixE_set _ _ _ (by rw [HP.out]; exact hlt)]
      generalize erow (mkMixE k ns j) = us at *
      clear hK
      have hm1 : Hid (∀ W, Calls Tryz.prog 62 #[.int .i64 ((K : Int) + 1)] W fun e w' => e = .returned (.string (mtx (K + 1))) ∧ Below W.heap.size W w') := by
        intro W
        have hm := markText_any W (K + 1) (by omega)
        rw [show ((K + 1 : Nat) : Int) = (K : Int) + 1 by omega] at hm
        exact hm
      have hm2 : Hid (∀ W, Calls Tryz.prog 62 #[.int .i64 ((K : Int) + 1 + 1)] W fun e w' => e = .returned (.string (mtx (K + 2))) ∧ Below W.heap.size W w') := by
        intro W
        have hm := markText_any W (K + 2) (by omega)
        rw [show ((K + 2 : Nat) : Int) = (K : Int) + 1 + 1 by omega] at hm
        exact hm
      obtain ⟨x0, d0, f0⟩ := HR.out.cell (j * 8) (by omega)
      go_wp2_with fail
      refine (hm1.out _).mono ?_
      rintro e w1 ⟨rfl, b1⟩
      have R1 : Hid (RowX w lo g n cap (us.set (j * 8) (.bool ((K : Int) % 3 == 0))) w1) := (HR.out.set _ _).below b1
      clear b1 HR d0 f0 hm1
      obtain ⟨x1, d1, f1⟩ := R1.out.cell (j * 8 + 1) (by omega)
      go_wp2_with fail
      refine (hm2.out _).mono ?_
      rintro e w3 ⟨rfl, b3⟩
      have R3 : Hid (RowX w lo g n cap ((us.set (j * 8) (.bool ((K : Int) % 3 == 0))).set (j * 8 + 1) (.string (mtx (K + 1)))) w3) := (R1.out.set _ _).below b3
      clear b3 R1 d1 f1 hm2
      obtain ⟨x2, d2, f2⟩ := R3.out.cell (j * 8 + 2) (by omega)
      obtain ⟨x3, d3, f3⟩ := R3.out.cell (j * 8 + 3) (by omega)
      obtain ⟨x4, d4, f4⟩ := R3.out.cell (j * 8 + 4) (by omega)
      obtain ⟨x5, d5, f5⟩ := R3.out.cell (j * 8 + 5) (by omega)
      obtain ⟨x6, d6, f6⟩ := R3.out.cell (j * 8 + 6) (by omega)
      obtain ⟨x7, d7, f7⟩ := R3.out.cell (j * 8 + 7) (by omega)
      go_wp2
      refine ⟨⟨j + 1, K + 8, by omega, by have := HKE.out; omega, by go_num, by go_num, ?_⟩, by simp [intOf]; omega⟩
      show RowX _ _ _ _ _ _ _
      rw [← HS.out]
      exact ((((((R3.out.set _ _).set _ _).set _ _).set _ _).set _ _).set _ _)
    · have hjn : j = n := by omega
      subst hjn
      subst hK
      have HF : Hid (RowX w lo g j cap (erow (mkEs k j)) wr) := by have := HR.out; rw [← HP.out, mkMixE_all, HP.out] at this; exact this
      go_wp2
      go_ret
      exact ⟨rfl, HF.out⟩

theorem markEffectL_any (w : World) (lo k : Nat) (v : Value) (ns : List Ef) (h : OwnE 100 w lo v ns) (hk : k ≤ 1048576) (hn : ns.length ≤ 1048576) :
    Calls Tryz.prog 63 #[v, .int .i64 k] w fun e w' => e = .returned (.int .i64 ((k + 8 * ns.length : Nat) : Int)) ∧ OwnE 100 w' lo v (mkEs k ns.length) ∧ Below lo w w' ∧ KT 100 w w' := by
  have h0 := h
  rcases h.2 with ⟨rfl, h1⟩ | ⟨g, cap, cur, rfl, rest⟩
  · refine (markEffectS_nil w none 0 k).mono ?_
    rintro e w' ⟨rfl, rfl⟩
    rw [h1]
    exact ⟨rfl, World.ownsRow_nil _ _ _ _, Below.refl _ _, KT.refl _ _⟩
  · refine (markEffectL_row w lo g ns.length cap k ns rfl h0 hk hn).mono ?_
    rintro e w' ⟨rfl, h1, h2, h3⟩
    exact ⟨rfl, by unfold OwnE; rw [mkEs_len]; exact h1, h2, h3⟩

set_option maxHeartbeats 2000000 in
set_option maxRecDepth 100000 in
theorem heldEffectS_row (w : World) (b o n cap k : Nat) (hb : b < w.heap.size) (hc : ∀ i, i < n → CellsE w b (o + i * 8) (eAt (mkEs k n) i)) (hk : k ≤ 1048576) (hn : n ≤ 1048576) :
    Calls Tryz.prog 64 #[.slice (some ⟨b, o, none⟩) n cap, .int .i64 k] w fun e w' => e = .returned (.int .i64 ((k + 8 * n : Nat) : Int)) ∧ Below w.heap.size w w' := by
  have HC : Hid (∀ i, i < n → CellsE w b (o + i * 8) (mkE (k + 8 * i))) := fun i hi => by have := hc i hi; rw [mkEs_at k n i hi] at this; exact this
  clear hc
  go_enter Tryz.func64, Tryz.ntmps64
  go_wp2
  go_loopw [1, 5] (fun vk vi wr => ∃ j K : Nat, j ≤ n ∧ K = k + 8 * j ∧ vi = .int .i64 j ∧ vk = .int .i64 K ∧ Hid (Below w.heap.size w wr)) (fun _ i _ => n - (intOf i).toNat)
  case atStart => exact ⟨0, k, Nat.zero_le _, by omega, rfl, rfl, Below.refl _ _⟩
  case round =>
    obtain ⟨j, K, hj, hK, rfl, rfl, HB⟩ := hrel
    have HKE : Hid (K = k + 8 * j) := hK
    by_cases hlt : j < n
    · have hltI : (j : Int) < (n : Int) := by omega
      have hK2 : K ≤ 10000000 := by omega
      have HCJ : Hid (CellsE w b (o + j * 8) (mkE K)) := by have := HC.out j hlt; rw [← hK] at this; exact this
      have hm0 : Hid (∀ W, Calls Tryz.prog 62 #[.int .i64 ((K : Int) + 1)] W fun e w' => e = .returned (.string (mtx (K + 1))) ∧ Below W.heap.size W w') := by
        intro W
        have hm := markText_any W (K + 1) (by omega)
        rw [show ((K + 1 : Nat) : Int) = (K : Int) + 1 by omega] at hm
        exact hm
      have hm1 : Hid (∀ W, Calls Tryz.prog 62 #[.int .i64 ((K : Int) + 1 + 1)] W fun e w' => e = .returned (.string (mtx (K + 2))) ∧ Below W.heap.size W w') := by
        intro W
        have hm := markText_any W (K + 2) (by omega)
        rw [show ((K + 2 : Nat) : Int) = (K : Int) + 1 + 1 by omega] at hm
        exact hm
      have hpp : ((mtx (K + 1)).toList == (mtx (K + 1)).toList) = true := by simp
      have hpp1 : ((mtx (K + 2)).toList == (mtx (K + 2)).toList) = true := by simp
      have q0 : wr.cell? ⟨b, o + j * 8, none⟩ = some (.bool ((K : Int) % 3 == 0)) := (HCJ.out.below HB.out hb).c0
      clear hK
      go_wp2
      clear q0
      refine wp_region_held_drew (S := fun W => Hid (Below w.heap.size w W) ∧ W.cell? ⟨b, o + j * 8 + 1, none⟩ = some (.string (mtx (K + 1)))) (by kernel_rfl) (⟨HB.out.trans ((below_drewN' _ 1).mono HB.out.size), ((HCJ.out.below HB.out hb).below (below_drewN' _ 1) (Nat.lt_of_lt_of_le hb HB.out.size)).c1⟩) (fun hHeld => ?_)
      refine wpAnyH_take (i := 0) (oi := { dst := some 23, op := _, type := _, pos := _, after := _, guard := _ }) (v := (.slice (some ⟨b, o, none⟩) n cap)) rfl (by kernel_rfl) (by kernel_rfl) (by kernel_rfl) (fun _ _ _ h => h) (Or.inl ⟨by rfl, ?hy1⟩) (by assumption) ?rest1
      case hy1 =>
        intro w9 hS9
        obtain ⟨-, y0⟩ := hS9
        go_simp
        try with_reducible rfl
      try simp only [Act.put, List.setIfInBounds_toArray, List.set_cons_zero, List.set_cons_succ]
      refine wpAnyH_take (i := 1) (oi := { dst := some 24, op := _, type := _, pos := _, after := _, guard := _ }) (v := (.int .i64 (j : Int))) rfl (by kernel_rfl) (by kernel_rfl) (by kernel_rfl) (fun _ _ _ h => h) (Or.inl ⟨by rfl, ?hy2⟩) (by assumption) ?rest2
      case hy2 =>
        intro w9 hS9
        obtain ⟨-, y0⟩ := hS9
        go_simp
        try with_reducible rfl
      try simp only [Act.put, List.setIfInBounds_toArray, List.set_cons_zero, List.set_cons_succ]
      refine wpAnyH_take (i := 2) (oi := { dst := some 25, op := _, type := _, pos := _, after := _, guard := _ }) (v := (.pointer (some ⟨b, o + j * 8, none⟩))) rfl (by kernel_rfl) (by kernel_rfl) (by kernel_rfl) (fun _ _ _ h => h) (Or.inl ⟨by rfl, ?hy3⟩) (by assumption) ?rest3
      case hy3 =>
        intro w9 hS9
        obtain ⟨-, y0⟩ := hS9
        go_simp
        try with_reducible rfl
      try simp only [Act.put, List.setIfInBounds_toArray, List.set_cons_zero, List.set_cons_succ]
      refine wpAnyH_take (i := 3) (oi := { dst := some 26, op := _, type := _, pos := _, after := _, guard := _ }) (v := (.pointer (some ⟨b, o + j * 8 + 1, none⟩))) rfl (by kernel_rfl) (by kernel_rfl) (by kernel_rfl) (fun _ _ _ h => h) (Or.inl ⟨by rfl, ?hy4⟩) (by assumption) ?rest4
      case hy4 =>
        intro w9 hS9
        obtain ⟨-, y0⟩ := hS9
        go_simp
        try with_reducible rfl
      try simp only [Act.put, List.setIfInBounds_toArray, List.set_cons_zero, List.set_cons_succ]
      refine wpAnyH_take (i := 4) (oi := { dst := some 27, op := _, type := _, pos := _, after := _, guard := _ }) (v := (.pointer (some ⟨b, o + j * 8 + 1, none⟩))) rfl (by kernel_rfl) (by kernel_rfl) (by kernel_rfl) (fun _ _ _ h => h) (Or.inl ⟨by rfl, ?hy5⟩) (by assumption) ?rest5
      case hy5 =>
        intro w9 hS9
        obtain ⟨-, y0⟩ := hS9
        go_simp
        try with_reducible rfl
      try simp only [Act.put, List.setIfInBounds_toArray, List.set_cons_zero, List.set_cons_succ]
      refine wpAnyH_take (i := 5) (oi := { dst := some 28, op := _, type := _, pos := _, after := _, guard := _ }) (v := (.string (mtx (K + 1)))) rfl (by kernel_rfl) (by kernel_rfl) (by kernel_rfl) (fun _ _ _ h => h) (Or.inl ⟨by rfl, ?hy6⟩) (by assumption) ?rest6
      case hy6 =>
        intro w9 hS9
        obtain ⟨-, y0⟩ := hS9
        go_simp
        try with_reducible rfl
      try simp only [Act.put, List.setIfInBounds_toArray, List.set_cons_zero, List.set_cons_succ]
      refine wpAnyH_take (i := 6) (oi := { dst := some 29, op := _, type := _, pos := _, after := _, guard := _ }) (v := (.int .i64 ((K : Int) + 1))) rfl (by kernel_rfl) (by kernel_rfl) (by kernel_rfl) (fun _ _ _ h => h) (Or.inl ⟨by rfl, ?hy7⟩) (by assumption) ?rest7
      case hy7 =>
        intro w9 hS9
        obtain ⟨-, y0⟩ := hS9
        go_simp
        try with_reducible rfl
      try simp only [Act.put, List.setIfInBounds_toArray, List.set_cons_zero, List.set_cons_succ]
      refine wpAnyH_ready (rs := [7]) (by kernel_rfl) (by simp) ?_
      refine AllReadyH.cons (o := { dst := some 30, op := _, type := _, pos := _, after := _, guard := _ }) rfl (fun KK hK => ?_) AllReadyH.nil
      go_simp
      refine (hm0.out _).mono ?_
      rintro e w4 ⟨rfl, b4⟩
      have HB4 : Hid (Below w.heap.size w w4) := (HB.out.trans ((below_drewN' _ 1).mono HB.out.size)).trans (b4.mono HB.out.size)
      clear b4
      refine hK.out _ _ ((show Hid (Below w.heap.size w w4) ∧ w4.cell? ⟨b, o + j * 8 + 1, none⟩ = some (.string (mtx (K + 1))) from ⟨HB4, (HCJ.out.below HB4.out hb).c1⟩)) (fun hx9 => ?_)
      clear hK KK hHeld hx9
      have hHeld := (show Hid (Below w.heap.size w w4) ∧ w4.cell? ⟨b, o + j * 8 + 1, none⟩ = some (.string (mtx (K + 1))) from ⟨HB4, (HCJ.out.below HB4.out hb).c1⟩)
      try simp only [Act.put, List.setIfInBounds_toArray, List.set_cons_zero, List.set_cons_succ]
      refine wpAnyH_take (i := 8) (oi := { dst := some 31, op := _, type := _, pos := _, after := _, guard := _ }) (v := (.bool false)) rfl (by kernel_rfl) (by kernel_rfl) (by kernel_rfl) (fun _ _ _ h => h) (Or.inl ⟨by rfl, ?hy8⟩) (by assumption) ?rest8
      case hy8 =>
        intro w9 hS9
        go_simp
        try with_reducible rfl
      try simp only [Act.put, List.setIfInBounds_toArray, List.set_cons_zero, List.set_cons_succ]
      refine wpAnyH_done (by kernel_rfl) ?_ _
      clear hHeld
      go_wp2
      refine wp_region_held_drew (S := fun W => Hid (Below w.heap.size w W) ∧ W.cell? ⟨b, o + j * 8 + 2, none⟩ = some (.string (mtx (K + 2)))) (by kernel_rfl) (⟨HB4.out.trans ((below_drewN' _ 1).mono HB4.out.size), ((HCJ.out.below HB4.out hb).below (below_drewN' _ 1) (Nat.lt_of_lt_of_le hb HB4.out.size)).c2⟩) (fun hHeld => ?_)
      refine wpAnyH_take (i := 0) (oi := { dst := some 34, op := _, type := _, pos := _, after := _, guard := _ }) (v := (.slice (some ⟨b, o, none⟩) n cap)) rfl (by kernel_rfl) (by kernel_rfl) (by kernel_rfl) (fun _ _ _ h => h) (Or.inl ⟨by rfl, ?hy9⟩) (by assumption) ?rest9
      case hy9 =>
        intro w9 hS9
        obtain ⟨-, y0⟩ := hS9
        go_simp
        try with_reducible rfl
      try simp only [Act.put, List.setIfInBounds_toArray, List.set_cons_zero, List.set_cons_succ]
      refine wpAnyH_take (i := 1) (oi := { dst := some 35, op := _, type := _, pos := _, after := _, guard := _ }) (v := (.int .i64 (j : Int))) rfl (by kernel_rfl) (by kernel_rfl) (by kernel_rfl) (fun _ _ _ h => h) (Or.inl ⟨by rfl, ?hy10⟩) (by assumption) ?rest10
      case hy10 =>
        intro w9 hS9
        obtain ⟨-, y0⟩ := hS9
        go_simp
        try with_reducible rfl
      try simp only [Act.put, List.setIfInBounds_toArray, List.set_cons_zero, List.set_cons_succ]
      refine wpAnyH_take (i := 2) (oi := { dst := some 36, op := _, type := _, pos := _, after := _, guard := _ }) (v := (.pointer (some ⟨b, o + j * 8, none⟩))) rfl (by kernel_rfl) (by kernel_rfl) (by kernel_rfl) (fun _ _ _ h => h) (Or.inl ⟨by rfl, ?hy11⟩) (by assumption) ?rest11
      case hy11 =>
        intro w9 hS9
        obtain ⟨-, y0⟩ := hS9
        go_simp
        try with_reducible rfl
      try simp only [Act.put, List.setIfInBounds_toArray, List.set_cons_zero, List.set_cons_succ]
      refine wpAnyH_take (i := 3) (oi := { dst := some 37, op := _, type := _, pos := _, after := _, guard := _ }) (v := (.pointer (some ⟨b, o + j * 8 + 1, none⟩))) rfl (by kernel_rfl) (by kernel_rfl) (by kernel_rfl) (fun _ _ _ h => h) (Or.inl ⟨by rfl, ?hy12⟩) (by assumption) ?rest12
      case hy12 =>
        intro w9 hS9
        obtain ⟨-, y0⟩ := hS9
        go_simp
        try with_reducible rfl
      try simp only [Act.put, List.setIfInBounds_toArray, List.set_cons_zero, List.set_cons_succ]
      refine wpAnyH_take (i := 4) (oi := { dst := some 38, op := _, type := _, pos := _, after := _, guard := _ }) (v := (.pointer (some ⟨b, o + j * 8 + 2, none⟩))) rfl (by kernel_rfl) (by kernel_rfl) (by kernel_rfl) (fun _ _ _ h => h) (Or.inl ⟨by rfl, ?hy13⟩) (by assumption) ?rest13
      case hy13 =>
        intro w9 hS9
        obtain ⟨-, y0⟩ := hS9
        go_simp
        try with_reducible rfl
      try simp only [Act.put, List.setIfInBounds_toArray, List.set_cons_zero, List.set_cons_succ]
      refine wpAnyH_take (i := 5) (oi := { dst := some 39, op := _, type := _, pos := _, after := _, guard := _ }) (v := (.string (mtx (K + 2)))) rfl (by kernel_rfl) (by kernel_rfl) (by kernel_rfl) (fun _ _ _ h => h) (Or.inl ⟨by rfl, ?hy14⟩) (by assumption) ?rest14
      case hy14 =>
        intro w9 hS9
        obtain ⟨-, y0⟩ := hS9
        go_simp
        try with_reducible rfl
      try simp only [Act.put, List.setIfInBounds_toArray, List.set_cons_zero, List.set_cons_succ]
      refine wpAnyH_take (i := 6) (oi := { dst := some 40, op := _, type := _, pos := _, after := _, guard := _ }) (v := (.int .i64 ((K : Int) + 1 + 1))) rfl (by kernel_rfl) (by kernel_rfl) (by kernel_rfl) (fun _ _ _ h => h) (Or.inl ⟨by rfl, ?hy15⟩) (by assumption) ?rest15
      case hy15 =>
        intro w9 hS9
        obtain ⟨-, y0⟩ := hS9
        go_simp
        try with_reducible rfl
      try simp only [Act.put, List.setIfInBounds_toArray, List.set_cons_zero, List.set_cons_succ]
      refine wpAnyH_ready (rs := [7]) (by kernel_rfl) (by simp) ?_
      refine AllReadyH.cons (o := { dst := some 41, op := _, type := _, pos := _, after := _, guard := _ }) rfl (fun KK hK => ?_) AllReadyH.nil
      go_simp
      refine (hm1.out _).mono ?_
      rintro e w5 ⟨rfl, b5⟩
      have HB5 : Hid (Below w.heap.size w w5) := (HB4.out.trans ((below_drewN' _ 1).mono HB4.out.size)).trans (b5.mono HB4.out.size)
      clear b5
      refine hK.out _ _ ((show Hid (Below w.heap.size w w5) ∧ w5.cell? ⟨b, o + j * 8 + 2, none⟩ = some (.string (mtx (K + 2))) from ⟨HB5, (HCJ.out.below HB5.out hb).c2⟩)) (fun hx9 => ?_)
      clear hK KK hHeld hx9
      have hHeld := (show Hid (Below w.heap.size w w5) ∧ w5.cell? ⟨b, o + j * 8 + 2, none⟩ = some (.string (mtx (K + 2))) from ⟨HB5, (HCJ.out.below HB5.out hb).c2⟩)
      try simp only [Act.put, List.setIfInBounds_toArray, List.set_cons_zero, List.set_cons_succ]
      refine wpAnyH_take (i := 8) (oi := { dst := some 42, op := _, type := _, pos := _, after := _, guard := _ }) (v := (.bool false)) rfl (by kernel_rfl) (by kernel_rfl) (by kernel_rfl) (fun _ _ _ h => h) (Or.inl ⟨by rfl, ?hy16⟩) (by assumption) ?rest16
      case hy16 =>
        intro w9 hS9
        go_simp
        try with_reducible rfl
      try simp only [Act.put, List.setIfInBounds_toArray, List.set_cons_zero, List.set_cons_succ]
      refine wpAnyH_done (by kernel_rfl) ?_ _
      clear hHeld
      obtain ⟨-, -, -, y3, y4, y5, y6, y7⟩ := HCJ.out.below HB5.out hb
      unfold mkE at y3 y4 y5 y6 y7
      simp only at y3 y4 y5 y6 y7
      go_wp2
      exact ⟨⟨j + 1, K + 8, by omega, by have := HKE.out; omega, by go_num, by go_num, HB5⟩, by simp [intOf]; omega⟩
    · have hjn : j = n := by omega
      subst hjn
      subst hK
      go_wp2
      go_ret
      exact ⟨rfl, HB.out⟩

set_option maxHeartbeats 400000 in
theorem heldEffectS_nil (w : World) (ao : Option Addr) (cap k : Nat) : Calls Tryz.prog 64 #[.slice ao 0 cap, .int .i64 k] w fun e w' => e = .returned (.int .i64 k) ∧ w' = w := by
  go_enter Tryz.func64, Tryz.ntmps64
  go_wp2
  go_rounds 1
  go_ret
  exact ⟨rfl, rfl⟩

theorem heldEffectS_any (w : World) (v : Value) (k n : Nat) (h : RdE w v (mkEs k n)) (hk : k ≤ 1048576) (hn : n ≤ 1048576) :
    Calls Tryz.prog 64 #[v, .int .i64 k] w fun e w' => e = .returned (.int .i64 ((k + 8 * n : Nat) : Int)) ∧ Below w.heap.size w w' := by
  obtain ⟨ao, cap, rfl, h1, h2, h3⟩ := h
  rw [mkEs_len] at h1 h3 ⊢
  rcases h3 with h3 | ⟨b, o, rfl, hb, hc⟩
  · have : n = 0 := by have := congrArg List.length h3; rw [mkEs_len] at this; exact this
    subst this
    refine (heldEffectS_nil w ao cap k).mono ?_
    rintro e w' ⟨rfl, rfl⟩
    exact ⟨rfl, Below.refl _ _⟩
  · exact heldEffectS_row w b o n cap k hb hc hk hn

set_option maxHeartbeats 400000 in
theorem markTxnL_any (w : World) (lo k : Nat) (z : Int) (v : Value) (ns : List Ef) (h : OwnE 100 w lo v ns) (hl : lo ≤ w.heap.size) (hk : k ≤ 1048576) (hn : ns.length ≤ 1048576) :
    Calls Tryz.prog 37 #[.agg #[.int .i64 z, v], .int .i64 k] w fun e w' => e = .returned (.int .i64 ((k + 8 * ns.length : Nat) : Int)) ∧ OwnE 100 w' lo v (mkEs k ns.length) ∧ Below lo w w' ∧ KT 100 w w' := by
  have H : Hid (OwnE 100 w lo v ns) := h
  clear h
  go_enter Tryz.func37, Tryz.ntmps37
  go_wp2_with fail
  refine (markEffectL_any _ lo k v ns (H.out.below ((Below.refl _ _).alloc (Nat.le_refl _) _)) hk hn).mono ?_
  rintro e w1 ⟨rfl, o1, b1, k1⟩
  have O1 : Hid (OwnE 100 w1 lo v (mkEs k ns.length)) := o1
  have B1 : Hid (Below lo w w1) := ((Below.refl _ _).alloc hl _).trans b1
  have K1 : Hid (KT 100 w w1) := ((KT.refl _ _).alloc _).trans k1
  clear b1 k1 o1
  go_wp2
  go_ret
  exact ⟨rfl, O1.out, B1.out, K1.out⟩

set_option maxHeartbeats 400000 in
theorem heldTxn_any (w : World) (k n : Nat) (z : Int) (v : Value) (h : RdE w v (mkEs k n)) (hk : k ≤ 1048576) (hn : n ≤ 1048576) :
    Calls Tryz.prog 39 #[.agg #[.int .i64 z, v], .int .i64 k] w fun e w' => e = .returned (.int .i64 ((k + 8 * n : Nat) : Int)) ∧ Below w.heap.size w w' := by
  have B0 : Hid (Below w.heap.size w (w.alloc (.cells #[.int .i64 z, v] 33))) := (Below.refl _ _).alloc (Nat.le_refl _) _
  have H : Hid (RdE (w.alloc (.cells #[.int .i64 z, v] 33)) v (mkEs k n)) := h.below B0.out
  clear h
  go_enter Tryz.func39, Tryz.ntmps39
  go_wp2_with fail
  refine (heldEffectS_any _ _ k n H.out hk hn).mono ?_
  rintro e w1 ⟨rfl, b1⟩
  have B1 : Hid (Below w.heap.size w w1) := B0.out.trans (b1.mono (by simp))
  have hI : ¬ ((k + 8 * n : Nat) : Int) < 0 := by omega
  clear b1
  go_wp2
  go_ret
  exact ⟨rfl, B1.out⟩


theorem OwnE.keepQ {w w' : World} {lo : Nat} {v : Value} {ns : List Ef} {t : TypeId} (h : OwnE 100 w lo v ns) (hk : KT t w w') (ht : 100 ≠ t) : OwnE 100 w' lo v ns := by
  refine ⟨h.1, ?_⟩
  rcases h.2 with hn | ⟨g, cap, cur, rfl, hbg, hgg, rest⟩
  · exact .inl hn
  · exact .inr ⟨g, cap, cur, rfl, hbg, hk.box hgg ht, rest⟩
theorem OwnE.belowQ {w w' : World} {lo m : Nat} {v : Value} {ns : List Ef} (h : OwnE 100 w lo v ns) (hb : Below m w w') (hlt : ∀ g, v.ownBlock = some g → g < m) : OwnE 100 w' lo v ns := by
  refine ⟨h.1, ?_⟩
  rcases h.2 with hn | ⟨g, cap, cur, rfl, hbg, hgg, rest⟩
  · exact .inl hn
  · exact .inr ⟨g, cap, cur, rfl, hbg, (hb.block g (hlt g rfl)).trans hgg, rest⟩


/-- What came in: a request of the laws' own type. -/
def InR (w : World) (v : Value) (os : List Op5) : Prop := RdO w v os ∧ ∀ i, (oAt os i).path.size ≤ maxLen ∧ (oAt os i).data.size ≤ maxLen

/-- A local answer. -/
def BxP (W : World) (B : Nat) (c i : Int) (vn : Value) (z : Int) (ve : Value) : Prop := W.heap[B]? = some (.cells #[.int .i64 c, .int .i64 i, vn, .int .i64 z, ve] 35 (0, 0))
theorem BxP.lt {w : World} {B : Nat} {c i : Int} {vn : Value} {z : Int} {ve : Value} (h : BxP w B c i vn z ve) : B < w.heap.size := (Array.getElem?_eq_some_iff.1 h).1
theorem BxP.new (w : World) (c i : Int) (vn : Value) (z : Int) (ve : Value) : BxP (w.alloc (.cells #[.int .i64 c, .int .i64 i, vn, .int .i64 z, ve] 35)) w.heap.size c i vn z ve := heap_alloc_new w _
theorem BxP.later {w w' : World} {B : Nat} {c i : Int} {vn : Value} {z : Int} {ve : Value} (h : BxP w B c i vn z ve) (hb : Below w.heap.size w w') : BxP w' B c i vn z ve := (hb.block _ h.lt).trans h
theorem BxP.cells {w : World} {B : Nat} {c i : Int} {vn : Value} {z : Int} {ve : Value} (h : BxP w B c i vn z ve) : w.cell? ⟨B, 0, none⟩ = some (.int .i64 c) ∧ w.cell? ⟨B, 1, none⟩ = some (.int .i64 i) ∧ w.cell? ⟨B, 2, none⟩ = some vn ∧ w.cell? ⟨B, 3, none⟩ = some (.int .i64 z) ∧ w.cell? ⟨B, 4, none⟩ = some ve :=
  ⟨(cell_of h _).trans rfl, (cell_of h _).trans rfl, (cell_of h _).trans rfl, (cell_of h _).trans rfl, (cell_of h _).trans rfl⟩

set_option maxHeartbeats 1000000 in
set_option maxRecDepth 100000 in
theorem eqPrepared_same (w : World) (c i z : Int) (L : List (List UInt8)) (es : List Ef) (va vb xa xb : Value) (ha : RdS w va L) (hb : RdS w vb L) (ga : RdE w xa es) (gb : RdE w xb es) (hl : L.length ≤ 1048576) (hn : es.length ≤ 1048576) :
    Calls Tryz.prog 10 #[.agg #[.int .i64 c, .int .i64 i, va, .int .i64 z, xa], .agg #[.int .i64 c, .int .i64 i, vb, .int .i64 z, xb]] w fun e w' => e = .returned (.bool true) ∧ Below w.heap.size w w' := by
  have s1 : (w.alloc (.cells #[.int .i64 c, .int .i64 i, va, .int .i64 z, xa] 35)).heap.size = w.heap.size + 1 := by simp
  have P1 := BxP.new w c i va z xa
  have P2 := BxP.new (w.alloc (.cells #[.int .i64 c, .int .i64 i, va, .int .i64 z, xa] 35)) c i vb z xb
  have b1 : Below w.heap.size w (w.alloc (.cells #[.int .i64 c, .int .i64 i, va, .int .i64 z, xa] 35)) := (Below.refl _ _).alloc (Nat.le_refl _) _
  have b2 : Below (w.alloc (.cells #[.int .i64 c, .int .i64 i, va, .int .i64 z, xa] 35)).heap.size (w.alloc (.cells #[.int .i64 c, .int .i64 i, va, .int .i64 z, xa] 35)) ((w.alloc (.cells #[.int .i64 c, .int .i64 i, va, .int .i64 z, xa] 35)).alloc (.cells #[.int .i64 c, .int .i64 i, vb, .int .i64 z, xb] 35)) := (Below.refl _ _).alloc (Nat.le_refl _) _
  have Q1 := hd9 (P1.later b2)
  rw [s1] at P2
  have Q2 := hd9 P2
  have B0 := hd9 (b1.trans (b2.mono b1.size))
  have RA := hd9 (ha.below B0.out)
  have RB := hd9 (hb.below B0.out)
  have GA := hd9 (ga.below B0.out)
  have GB := hd9 (gb.below B0.out)
  clear s1 P1 P2 b1 b2 ha hb ga gb
  go_enter Tryz.func10, Tryz.ntmps10
  go_wp2_with fail
  generalize (w.alloc (.cells #[.int .i64 c, .int .i64 i, va, .int .i64 z, xa] 35)).alloc (.cells #[.int .i64 c, .int .i64 i, vb, .int .i64 z, xb] 35) = w0 at *
  refine (eqStringS_same _ _ _ L RA.out RB.out hl).mono ?_
  rintro e w1 ⟨rfl, b1⟩
  have B1 := hd9 (B0.out.trans (b1.mono B0.out.size))
  obtain ⟨-, -, -, c3, c4⟩ := (Q1.out.later b1).cells
  obtain ⟨-, -, -, d3, d4⟩ := (Q2.out.later b1).cells
  have HA := hd9 (GA.out.below b1)
  have HB := hd9 (GB.out.below b1)
  clear b1 RA RB GA GB Q1 Q2 B0
  go_wp2_with fail
  refine (eqTxn_same _ _ _ _ es HA.out HB.out hn).mono ?_
  rintro e w2 ⟨rfl, b2⟩
  have B2 := hd9 (B1.out.trans (b2.mono B1.out.size))
  clear b2 HA HB B1 c3 c4 d3 d4
  go_wp2
  go_ret
  exact ⟨rfl, B2.out⟩

theorem markStringK_any (w : World) (lo k : Nat) (v : Value) (L : List (List UInt8)) (h : OwnS w lo v L) (hk : k ≤ 1048576) (hn : L.length ≤ 1048576) :
    Calls Tryz.prog 36 #[v, .int .i64 k] w fun e w' => e = .returned (.int .i64 ((k + L.length : Nat) : Int)) ∧ OwnS w' lo v (mkS k L.length) ∧ Below lo w w' ∧ KT 9 w w' := by
  have h0 := h
  rcases h.2 with ⟨rfl, h1⟩ | ⟨g, cap, cur, rfl, rest⟩
  · refine (markStringS_nil w none 0 k).mono ?_
    rintro e w' ⟨rfl, rfl⟩
    rw [h1]
    exact ⟨rfl, World.ownsRow_nil _ _ _ _, Below.refl _ _, KT.refl _ _⟩
  · refine (markStringS_row w lo g L.length cap k L rfl h0 hk hn).mono ?_
    rintro e w' ⟨rfl, h1, h2, h3⟩
    exact ⟨rfl, by unfold OwnS; rw [mkS_len]; exact h1, h2, h3⟩

set_option maxHeartbeats 1000000 in
set_option maxRecDepth 100000 in
theorem markPrepared_any (w : World) (lo k : Nat) (c i z : Int) (L : List (List UInt8)) (es : List Ef) (vn ve : Value) (h : OwnS w lo vn L) (he : OwnE 100 w lo ve es) (hlo : lo ≤ w.heap.size) (hk : k ≤ 1000) (hl : L.length ≤ 2000) (hn : es.length ≤ 2000) :
    Calls Tryz.prog 15 #[.agg #[.int .i64 c, .int .i64 i, vn, .int .i64 z, ve], .int .i64 k] w fun e w' => e = .returned (.int .i64 ((k + L.length + 8 * es.length : Nat) : Int)) ∧ OwnS w' lo vn (mkS k L.length) ∧ OwnE 100 w' lo ve (mkEs (k + L.length) es.length) ∧ Below lo w w' ∧ ∀ (b : Nat) (A : Array Value) (t : TypeId) (f : Nat × Nat), w.heap[b]? = some (.cells A t f) → t ≠ 9 → t ≠ 100 → w'.heap[b]? = some (.cells A t f) := by
  have b0 : Below w.heap.size w (w.alloc (.cells #[.int .i64 c, .int .i64 i, vn, .int .i64 z, ve] 35)) := (Below.refl _ _).alloc (Nat.le_refl _) _
  have Q0 := hd9 (BxP.new w c i vn z ve)
  have B0 := hd9 (b0.mono hlo)
  have K0 : Hid (KT 9 w (w.alloc (.cells #[.int .i64 c, .int .i64 i, vn, .int .i64 z, ve] 35))) := (KT.refl _ _).alloc _
  have S0 := hd9 (h.below b0)
  have E0 := hd9 (he.below b0)
  have z0 : lo ≤ (w.alloc (.cells #[.int .i64 c, .int .i64 i, vn, .int .i64 z, ve] 35)).heap.size := by simp; omega
  clear h he b0
  go_enter Tryz.func15, Tryz.ntmps15
  go_wp2_with fail
  generalize w.alloc (.cells #[.int .i64 c, .int .i64 i, vn, .int .i64 z, ve] 35) = w0 at *
  refine (markStringK_any _ lo k _ L S0.out (by omega) (by omega)).mono ?_
  rintro e w1 ⟨rfl, o1, b1, k1⟩
  have Q1 : BxP w1 w.heap.size c i vn z ve := k1.box Q0.out (by decide)
  obtain ⟨-, -, -, c3, c4⟩ := Q1.cells
  have E1 := hd9 (E0.out.keepQ k1 (by decide))
  have S1 := hd9 o1
  have B1 := hd9 (B0.out.trans b1)
  have z1 : lo ≤ w1.heap.size := Nat.le_trans z0 k1.1
  have K1 := hd9 (K0.out.trans k1)
  clear K0 Q0 Q1 o1 b1 k1 S0 E0 B0
  go_wp2_with fail
  refine (markTxnL_any _ lo (k + L.length) z _ es E1.out z1 (by omega) (by omega)).mono ?_
  rintro e w2 ⟨rfl, o2, b2, k2⟩
  have S2 := hd9 (S1.out.keepT k2 (by decide))
  have O2 := hd9 o2
  have B2 := hd9 (B1.out.trans b2)
  have K2 := hd9 k2
  clear o2 b2 k2 S1 E1 B1 c3 c4
  go_wp2
  go_ret
  exact ⟨rfl, S2.out, O2.out, B2.out, fun b A t f h1 h2 h3 => K2.out.box (K1.out.box h1 h2) h3⟩

set_option maxHeartbeats 1000000 in
set_option maxRecDepth 100000 in
theorem heldPrepared_any (w : World) (k n m : Nat) (c i z : Int) (vn ve : Value) (h : RdS w vn (mkS k n)) (he : RdE w ve (mkEs (k + n) m)) (hk : k ≤ 1000) (hl : n ≤ 2000) (hn : m ≤ 2000) :
    Calls Tryz.prog 16 #[.agg #[.int .i64 c, .int .i64 i, vn, .int .i64 z, ve], .int .i64 k] w fun e w' => e = .returned (.int .i64 ((k + n + 8 * m : Nat) : Int)) ∧ Below w.heap.size w w' := by
  have b0 : Below w.heap.size w (w.alloc (.cells #[.int .i64 c, .int .i64 i, vn, .int .i64 z, ve] 35)) := (Below.refl _ _).alloc (Nat.le_refl _) _
  have Q0 := hd9 (BxP.new w c i vn z ve)
  have S0 := hd9 (h.below b0)
  have E0 := hd9 (he.below b0)
  have B0 := hd9 b0
  clear h he b0
  go_enter Tryz.func16, Tryz.ntmps16
  go_wp2_with fail
  generalize w.alloc (.cells #[.int .i64 c, .int .i64 i, vn, .int .i64 z, ve] 35) = w0 at *
  refine (heldStringS_any _ _ k n S0.out (by omega) (by omega)).mono ?_
  rintro e w1 ⟨rfl, b1⟩
  obtain ⟨-, -, -, c3, c4⟩ := (Q0.out.later b1).cells
  have E1 := hd9 (E0.out.below b1)
  have B1 := hd9 (B0.out.trans (b1.mono B0.out.size))
  have hI : ¬ ((k + n : Nat) : Int) < 0 := by omega
  clear Q0 b1 S0 E0 B0
  go_wp2_with fail
  refine (heldTxn_any _ (k + n) m z _ E1.out (by omega) (by omega)).mono ?_
  rintro e w2 ⟨rfl, b2⟩
  have B2 := hd9 (B1.out.trans (b2.mono B1.out.size))
  have hJ : ¬ ((k + n + 8 * m : Nat) : Int) < 0 := by omega
  clear b2 E1 B1 c3 c4
  go_wp2
  go_ret
  exact ⟨rfl, B2.out⟩

end Go.Proofs.YtejhcebodlcloaaGreatDoor


