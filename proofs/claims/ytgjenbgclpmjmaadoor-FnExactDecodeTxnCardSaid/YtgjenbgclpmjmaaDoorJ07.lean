import Derived.Test.YtgjenbgclpmjmaaDoorJ06
import Derived.Test.YtgjenbgclpmjmaaDoorJ03
import Derived.Test.YtgjenbgclpmjmaaDoorJ02
import Derived.Test.YtgjenbgclpmjmaaDoorJ04
import Derived.Deep.DeepHandedRow
import Derived.ShutString
import Derived.ChangeOld
import Derived.ChangeMaps5
import Derived.Test.YtgjenbgclpmjmaaDoorCards
import Derived.Test.YtgjenbgclpmjmaaDoorTie
import Derived.Lib.LaidIn
namespace Go.Proofs.YtgjenbgclpmjmaaDoor
open Go.RowKit Go.Shelf

/-- A marked node. -/
def mkN (K : Nat) : Nd := ⟨mtx K, mtx (K + 1), (K : Int) + 1 + 1, (K : Int) + 1 + 1 + 1, (K : Int) + 1 + 1 + 1 + 1, (K : Int) + 1 + 1 + 1 + 1 + 1, (K : Int) + 1 + 1 + 1 + 1 + 1 + 1⟩
def mkNs (k n : Nat) : List Nd := (List.range n).map fun j => mkN (k + 7 * j)
theorem mkNs_len (k n : Nat) : (mkNs k n).length = n := by simp [mkNs]
theorem mkNs_at (k n j : Nat) (h : j < n) : nAt (mkNs k n) j = mkN (k + 7 * j) := by unfold nAt mkNs; simp [List.getD, h]
def mkMix (k : Nat) (ns : List Nd) (j : Nat) : List Nd := mkNs k j ++ ns.drop j
theorem mkMix_len (k : Nat) (ns : List Nd) (j : Nat) (h : j ≤ ns.length) : (mkMix k ns j).length = ns.length := by unfold mkMix; rw [List.length_append, mkNs_len, List.length_drop]; omega
theorem mkMix_set (k : Nat) (ns : List Nd) (j : Nat) (h : j < ns.length) : (mkMix k ns j).set j (mkN (k + 7 * j)) = mkMix k ns (j + 1) := by
  unfold mkMix
  rw [List.set_append_right _ _ (by rw [mkNs_len]; exact Nat.le_refl _), mkNs_len, Nat.sub_self, List.drop_eq_getElem_cons h, List.set_cons_zero]
  unfold mkNs
  rw [List.range_succ, List.map_append, List.append_assoc]
  rfl
theorem mkMix_all (k : Nat) (ns : List Nd) : mkMix k ns ns.length = mkNs k ns.length := by unfold mkMix; simp
/-- A row of nodes on the way. -/
def RowL (w : World) (lo g n cap : Nat) (us : List Value) (w' : World) : Prop := w'.ownsRow lo 81 7 (.slice (some ⟨g, 0, none⟩) n cap) n us ∧ Below lo w w' ∧ KT 81 w w'
theorem RowL.set {w w' : World} {lo g n cap : Nat} {us : List Value} (h : RowL w lo g n cap us w') (i : Nat) (u : Value) : RowL w lo g n cap (us.set i u) (w'.setCell ⟨g, i, none⟩ u) := by
  obtain ⟨h1, h2, h3⟩ := h
  have hs := World.ownsRow.stored h1 i u
  exact ⟨hs.1, h2.setCell (World.ownsRow.lt h1 g rfl).1 _, h3.grown h1 hs.2⟩
theorem RowL.below {w w' w2 : World} {lo g n cap : Nat} {us : List Value} (h : RowL w lo g n cap us w') (hb : Below w'.heap.size w' w2) : RowL w lo g n cap us w2 := by
  obtain ⟨h1, h2, h3⟩ := h
  refine ⟨row_keep h1 hb, h2.trans (hb.mono ?_), h3.below hb⟩
  have := World.ownsRow.lt h1 g rfl
  omega
theorem RowL.cell {w w' : World} {lo g n cap : Nat} {us : List Value} (h : RowL w lo g n cap us w') (i : Nat) (hi : i < n * 7) : ∃ u, w'.cell? ⟨g, i, none⟩ = some u ∧ w'.frozen? ⟨g, i, none⟩ = false := rowcell h.1 i hi

set_option maxHeartbeats 2000000 in
set_option maxRecDepth 100000 in
theorem markNodeL_row (w : World) (lo g n cap k : Nat) (ns : List Nd) (hp : ns.length = n) (ho : w.ownsRow lo 81 7 (.slice (some ⟨g, 0, none⟩) n cap) n (nrow ns)) (hk : k ≤ 1048576) (hn : n ≤ 1048576) :
    Calls Tryd.prog 84 #[.slice (some ⟨g, 0, none⟩) n cap, .int .i64 k] w fun e w' => e = .returned (.int .i64 ((k + 7 * n : Nat) : Int)) ∧ RowL w lo g n cap (nrow (mkNs k n)) w' := by
  have R0 : Hid (RowL w lo g n cap (nrow (mkMix k ns 0)) w) := ⟨by unfold mkMix mkNs; simpa using ho, Below.refl _ _, KT.refl _ _⟩
  have HP : Hid (ns.length = n) := hp
  clear ho hp
  go_enter Tryd.func84, Tryd.ntmps84
  go_wp2
  go_loopw [1, 5] (fun vk vi wr => ∃ j K : Nat, j ≤ n ∧ K = k + 7 * j ∧ vi = .int .i64 j ∧ vk = .int .i64 K ∧ Hid (RowL w lo g n cap (nrow (mkMix k ns j)) wr)) (fun _ i _ => n - (intOf i).toNat)
  case atStart => exact ⟨0, k, Nat.zero_le _, by omega, rfl, rfl, R0⟩
  case round =>
    obtain ⟨j, K, hj, hK, rfl, rfl, HR⟩ := hrel
    have HKE : Hid (K = k + 7 * j) := hK
    by_cases hlt : j < n
    · have hltI : (j : Int) < (n : Int) := by omega
      have hK2 : K ≤ 10000000 := by omega
      have HS : Hid (set7 (nrow (mkMix k ns j)) (j * 7) (mkN K) = nrow (mkMix k ns (j + 1))) := by
        show _ = _
        rw [nrow_set _ _ _ (by rw [mkMix_len _ _ _ (by rw [HP.out]; omega), HP.out]; exact hlt), hK, mkMix_set _ _ _ (by rw [HP.out]; exact hlt)]
      generalize nrow (mkMix k ns j) = us at *
      clear hK
      go_wp2_with fail
      refine (markText_any _ K (by omega)).mono ?_
      rintro e w1 ⟨rfl, b1⟩
      have R1 : Hid (RowL w lo g n cap us w1) := HR.out.below b1
      clear b1 HR
      obtain ⟨x0, d0, f0⟩ := R1.out.cell (j * 7) (by omega)
      have R2 : Hid (RowL w lo g n cap (us.set (j * 7) (.string (mtx K))) (w1.setCell ⟨g, j * 7, none⟩ (.string (mtx K)))) := R1.out.set _ _
      go_wp2_with fail
      generalize w1.setCell ⟨g, j * 7, none⟩ (.string (mtx K)) = w2 at *
      clear d0 f0 R1
      have hm := markText_any w2 (K + 1) (by omega)
      rw [show ((K + 1 : Nat) : Int) = (K : Int) + 1 by omega] at hm
      refine hm.mono ?_
      clear hm
      rintro e w3 ⟨rfl, b3⟩
      have R3 : Hid (RowL w lo g n cap (us.set (j * 7) (.string (mtx K))) w3) := R2.out.below b3
      clear b3 R2
      obtain ⟨x1, d1, f1⟩ := R3.out.cell (j * 7 + 1) (by omega)
      obtain ⟨x2, d2, f2⟩ := R3.out.cell (j * 7 + 2) (by omega)
      obtain ⟨x3, d3, f3⟩ := R3.out.cell (j * 7 + 3) (by omega)
      obtain ⟨x4, d4, f4⟩ := R3.out.cell (j * 7 + 4) (by omega)
      obtain ⟨x5, d5, f5⟩ := R3.out.cell (j * 7 + 5) (by omega)
      obtain ⟨x6, d6, f6⟩ := R3.out.cell (j * 7 + 6) (by omega)
      go_wp2
      refine ⟨⟨j + 1, K + 7, by omega, by have := HKE.out; omega, by go_num, by go_num, ?_⟩, by simp [intOf]; omega⟩
      show RowL _ _ _ _ _ _ _
      rw [← HS.out]
      exact ((((((R3.out.set _ _).set _ _).set _ _).set _ _).set _ _).set _ _)
    · have hjn : j = n := by omega
      subst hjn
      subst hK
      have HF : Hid (RowL w lo g j cap (nrow (mkNs k j)) wr) := by have := HR.out; rw [← HP.out, mkMix_all, HP.out] at this; exact this
      go_wp2
      go_ret
      exact ⟨rfl, HF.out⟩

theorem markNodeL_any (w : World) (lo k : Nat) (v : Value) (ns : List Nd) (h : OwnN 81 w lo v ns) (hk : k ≤ 1048576) (hn : ns.length ≤ 1048576) :
    Calls Tryd.prog 84 #[v, .int .i64 k] w fun e w' => e = .returned (.int .i64 ((k + 7 * ns.length : Nat) : Int)) ∧ OwnN 81 w' lo v (mkNs k ns.length) ∧ Below lo w w' ∧ KT 81 w w' := by
  have h0 := h
  rcases h.2 with ⟨rfl, h1⟩ | ⟨g, cap, cur, rfl, rest⟩
  · refine (markNodeS_nil w none 0 k).mono ?_
    rintro e w' ⟨rfl, rfl⟩
    rw [h1]
    exact ⟨rfl, World.ownsRow_nil _ _ _ _, Below.refl _ _, KT.refl _ _⟩
  · refine (markNodeL_row w lo g ns.length cap k ns rfl h0 hk hn).mono ?_
    rintro e w' ⟨rfl, h1, h2, h3⟩
    exact ⟨rfl, by unfold OwnN; rw [mkNs_len]; exact h1, h2, h3⟩

set_option maxHeartbeats 2000000 in
set_option maxRecDepth 100000 in
theorem heldNodeS_row (w : World) (b o n cap k : Nat) (hb : b < w.heap.size) (hc : ∀ i, i < n → CellsN w b (o + i * 7) (nAt (mkNs k n) i)) (hk : k ≤ 1048576) (hn : n ≤ 1048576) :
    Calls Tryd.prog 98 #[.slice (some ⟨b, o, none⟩) n cap, .int .i64 k] w fun e w' => e = .returned (.int .i64 ((k + 7 * n : Nat) : Int)) ∧ Below w.heap.size w w' := by
  have HC : Hid (∀ i, i < n → CellsN w b (o + i * 7) (mkN (k + 7 * i))) := fun i hi => by have := hc i hi; rw [mkNs_at k n i hi] at this; exact this
  clear hc
  go_enter Tryd.func98, Tryd.ntmps98
  go_wp2
  go_loopw [1, 5] (fun vk vi wr => ∃ j K : Nat, j ≤ n ∧ K = k + 7 * j ∧ vi = .int .i64 j ∧ vk = .int .i64 K ∧ Hid (Below w.heap.size w wr)) (fun _ i _ => n - (intOf i).toNat)
  case atStart => exact ⟨0, k, Nat.zero_le _, by omega, rfl, rfl, Below.refl _ _⟩
  case round =>
    obtain ⟨j, K, hj, hK, rfl, rfl, HB⟩ := hrel
    have HKE : Hid (K = k + 7 * j) := hK
    by_cases hlt : j < n
    · have hltI : (j : Int) < (n : Int) := by omega
      have hK2 : K ≤ 10000000 := by omega
      have HCJ : Hid (CellsN w b (o + j * 7) (mkN K)) := by have := HC.out j hlt; rw [← hK] at this; exact this
      have hm0 : Hid (∀ W, Calls Tryd.prog 85 #[.int .i64 (K : Int)] W fun e w' => e = .returned (.string (mtx K)) ∧ Below W.heap.size W w') := fun W => markText_any W K (by omega)
      have hm1 : Hid (∀ W, Calls Tryd.prog 85 #[.int .i64 ((K : Int) + 1)] W fun e w' => e = .returned (.string (mtx (K + 1))) ∧ Below W.heap.size W w') := by
        intro W
        have hm := markText_any W (K + 1) (by omega)
        rw [show ((K + 1 : Nat) : Int) = (K : Int) + 1 by omega] at hm
        exact hm
      have hpp : ((mtx K).toList == (mtx K).toList) = true := by simp
      have hpp1 : ((mtx (K + 1)).toList == (mtx (K + 1)).toList) = true := by simp
      clear hK
      go_wp2
      refine wp_region_held_drew (S := fun W => Hid (Below w.heap.size w W) ∧ W.cell? ⟨b, o + j * 7, none⟩ = some (.string (mtx K))) (by kernel_rfl) (⟨HB.out.trans ((below_drewN' _ 1).mono HB.out.size), ((HCJ.out.below HB.out hb).below (below_drewN' _ 1) (Nat.lt_of_lt_of_le hb HB.out.size)).c0⟩) (fun hHeld => ?_)
      refine wpAnyH_take (i := 0) (oi := { dst := some 12, op := _, type := _, pos := _, after := _, guard := _ }) (v := (.slice (some ⟨b, o, none⟩) n cap)) rfl (by kernel_rfl) (by kernel_rfl) (by kernel_rfl) (fun _ _ _ h => h) (Or.inl ⟨by rfl, ?hy1⟩) (by assumption) ?rest1
      case hy1 =>
        intro w9 hS9
        obtain ⟨-, y0⟩ := hS9
        go_simp
        try with_reducible rfl
      try simp only [Act.put, List.setIfInBounds_toArray, List.set_cons_zero, List.set_cons_succ]
      refine wpAnyH_take (i := 1) (oi := { dst := some 13, op := _, type := _, pos := _, after := _, guard := _ }) (v := (.int .i64 (j : Int))) rfl (by kernel_rfl) (by kernel_rfl) (by kernel_rfl) (fun _ _ _ h => h) (Or.inl ⟨by rfl, ?hy2⟩) (by assumption) ?rest2
      case hy2 =>
        intro w9 hS9
        obtain ⟨-, y0⟩ := hS9
        go_simp
        try with_reducible rfl
      try simp only [Act.put, List.setIfInBounds_toArray, List.set_cons_zero, List.set_cons_succ]
      refine wpAnyH_take (i := 2) (oi := { dst := some 14, op := _, type := _, pos := _, after := _, guard := _ }) (v := (.pointer (some ⟨b, o + j * 7, none⟩))) rfl (by kernel_rfl) (by kernel_rfl) (by kernel_rfl) (fun _ _ _ h => h) (Or.inl ⟨by rfl, ?hy3⟩) (by assumption) ?rest3
      case hy3 =>
        intro w9 hS9
        obtain ⟨-, y0⟩ := hS9
        go_simp
        try with_reducible rfl
      try simp only [Act.put, List.setIfInBounds_toArray, List.set_cons_zero, List.set_cons_succ]
      refine wpAnyH_take (i := 3) (oi := { dst := some 15, op := _, type := _, pos := _, after := _, guard := _ }) (v := (.pointer (some ⟨b, o + j * 7, none⟩))) rfl (by kernel_rfl) (by kernel_rfl) (by kernel_rfl) (fun _ _ _ h => h) (Or.inl ⟨by rfl, ?hy4⟩) (by assumption) ?rest4
      case hy4 =>
        intro w9 hS9
        obtain ⟨-, y0⟩ := hS9
        go_simp
        try with_reducible rfl
      try simp only [Act.put, List.setIfInBounds_toArray, List.set_cons_zero, List.set_cons_succ]
      refine wpAnyH_take (i := 4) (oi := { dst := some 16, op := _, type := _, pos := _, after := _, guard := _ }) (v := (.string (mtx K))) rfl (by kernel_rfl) (by kernel_rfl) (by kernel_rfl) (fun _ _ _ h => h) (Or.inl ⟨by rfl, ?hy5⟩) (by assumption) ?rest5
      case hy5 =>
        intro w9 hS9
        obtain ⟨-, y0⟩ := hS9
        go_simp
        try with_reducible rfl
      try simp only [Act.put, List.setIfInBounds_toArray, List.set_cons_zero, List.set_cons_succ]
      refine wpAnyH_take (i := 5) (oi := { dst := some 17, op := _, type := _, pos := _, after := _, guard := _ }) (v := (.int .i64 (K : Int))) rfl (by kernel_rfl) (by kernel_rfl) (by kernel_rfl) (fun _ _ _ h => h) (Or.inl ⟨by rfl, ?hy6⟩) (by assumption) ?rest6
      case hy6 =>
        intro w9 hS9
        obtain ⟨-, y0⟩ := hS9
        go_simp
        try with_reducible rfl
      try simp only [Act.put, List.setIfInBounds_toArray, List.set_cons_zero, List.set_cons_succ]
      refine wpAnyH_ready (rs := [6]) (by kernel_rfl) (by simp) ?_
      refine AllReadyH.cons (o := { dst := some 18, op := _, type := _, pos := _, after := _, guard := _ }) rfl (fun KK hK => ?_) AllReadyH.nil
      go_simp
      refine (hm0.out _).mono ?_
      rintro e w4 ⟨rfl, b4⟩
      have HB4 : Hid (Below w.heap.size w w4) := (HB.out.trans ((below_drewN' _ 1).mono HB.out.size)).trans (b4.mono HB.out.size)
      clear b4
      refine hK.out _ _ ((show Hid (Below w.heap.size w w4) ∧ w4.cell? ⟨b, o + j * 7, none⟩ = some (.string (mtx K)) from ⟨HB4, (HCJ.out.below HB4.out hb).c0⟩)) (fun hx9 => ?_)
      clear hK KK hHeld hx9
      have hHeld := (show Hid (Below w.heap.size w w4) ∧ w4.cell? ⟨b, o + j * 7, none⟩ = some (.string (mtx K)) from ⟨HB4, (HCJ.out.below HB4.out hb).c0⟩)
      try simp only [Act.put, List.setIfInBounds_toArray, List.set_cons_zero, List.set_cons_succ]
      refine wpAnyH_take (i := 7) (oi := { dst := some 19, op := _, type := _, pos := _, after := _, guard := _ }) (v := (.bool false)) rfl (by kernel_rfl) (by kernel_rfl) (by kernel_rfl) (fun _ _ _ h => h) (Or.inl ⟨by rfl, ?hy7⟩) (by assumption) ?rest7
      case hy7 =>
        intro w9 hS9
        go_simp
        try with_reducible rfl
      try simp only [Act.put, List.setIfInBounds_toArray, List.set_cons_zero, List.set_cons_succ]
      refine wpAnyH_done (by kernel_rfl) ?_ _
      clear hHeld
      go_wp2
      refine wp_region_held_drew (S := fun W => Hid (Below w.heap.size w W) ∧ W.cell? ⟨b, o + j * 7 + 1, none⟩ = some (.string (mtx (K + 1)))) (by kernel_rfl) (⟨HB4.out.trans ((below_drewN' _ 1).mono HB4.out.size), ((HCJ.out.below HB4.out hb).below (below_drewN' _ 1) (Nat.lt_of_lt_of_le hb HB4.out.size)).c1⟩) (fun hHeld => ?_)
      refine wpAnyH_take (i := 0) (oi := { dst := some 22, op := _, type := _, pos := _, after := _, guard := _ }) (v := (.slice (some ⟨b, o, none⟩) n cap)) rfl (by kernel_rfl) (by kernel_rfl) (by kernel_rfl) (fun _ _ _ h => h) (Or.inl ⟨by rfl, ?hy8⟩) (by assumption) ?rest8
      case hy8 =>
        intro w9 hS9
        obtain ⟨-, y0⟩ := hS9
        go_simp
        try with_reducible rfl
      try simp only [Act.put, List.setIfInBounds_toArray, List.set_cons_zero, List.set_cons_succ]
      refine wpAnyH_take (i := 1) (oi := { dst := some 23, op := _, type := _, pos := _, after := _, guard := _ }) (v := (.int .i64 (j : Int))) rfl (by kernel_rfl) (by kernel_rfl) (by kernel_rfl) (fun _ _ _ h => h) (Or.inl ⟨by rfl, ?hy9⟩) (by assumption) ?rest9
      case hy9 =>
        intro w9 hS9
        obtain ⟨-, y0⟩ := hS9
        go_simp
        try with_reducible rfl
      try simp only [Act.put, List.setIfInBounds_toArray, List.set_cons_zero, List.set_cons_succ]
      refine wpAnyH_take (i := 2) (oi := { dst := some 24, op := _, type := _, pos := _, after := _, guard := _ }) (v := (.pointer (some ⟨b, o + j * 7, none⟩))) rfl (by kernel_rfl) (by kernel_rfl) (by kernel_rfl) (fun _ _ _ h => h) (Or.inl ⟨by rfl, ?hy10⟩) (by assumption) ?rest10
      case hy10 =>
        intro w9 hS9
        obtain ⟨-, y0⟩ := hS9
        go_simp
        try with_reducible rfl
      try simp only [Act.put, List.setIfInBounds_toArray, List.set_cons_zero, List.set_cons_succ]
      refine wpAnyH_take (i := 3) (oi := { dst := some 25, op := _, type := _, pos := _, after := _, guard := _ }) (v := (.pointer (some ⟨b, o + j * 7 + 1, none⟩))) rfl (by kernel_rfl) (by kernel_rfl) (by kernel_rfl) (fun _ _ _ h => h) (Or.inl ⟨by rfl, ?hy11⟩) (by assumption) ?rest11
      case hy11 =>
        intro w9 hS9
        obtain ⟨-, y0⟩ := hS9
        go_simp
        try with_reducible rfl
      try simp only [Act.put, List.setIfInBounds_toArray, List.set_cons_zero, List.set_cons_succ]
      refine wpAnyH_take (i := 4) (oi := { dst := some 26, op := _, type := _, pos := _, after := _, guard := _ }) (v := (.string (mtx (K + 1)))) rfl (by kernel_rfl) (by kernel_rfl) (by kernel_rfl) (fun _ _ _ h => h) (Or.inl ⟨by rfl, ?hy12⟩) (by assumption) ?rest12
      case hy12 =>
        intro w9 hS9
        obtain ⟨-, y0⟩ := hS9
        go_simp
        try with_reducible rfl
      try simp only [Act.put, List.setIfInBounds_toArray, List.set_cons_zero, List.set_cons_succ]
      refine wpAnyH_take (i := 5) (oi := { dst := some 27, op := _, type := _, pos := _, after := _, guard := _ }) (v := (.int .i64 ((K : Int) + 1))) rfl (by kernel_rfl) (by kernel_rfl) (by kernel_rfl) (fun _ _ _ h => h) (Or.inl ⟨by rfl, ?hy13⟩) (by assumption) ?rest13
      case hy13 =>
        intro w9 hS9
        obtain ⟨-, y0⟩ := hS9
        go_simp
        try with_reducible rfl
      try simp only [Act.put, List.setIfInBounds_toArray, List.set_cons_zero, List.set_cons_succ]
      refine wpAnyH_ready (rs := [6]) (by kernel_rfl) (by simp) ?_
      refine AllReadyH.cons (o := { dst := some 28, op := _, type := _, pos := _, after := _, guard := _ }) rfl (fun KK hK => ?_) AllReadyH.nil
      go_simp
      refine (hm1.out _).mono ?_
      rintro e w5 ⟨rfl, b5⟩
      have HB5 : Hid (Below w.heap.size w w5) := (HB4.out.trans ((below_drewN' _ 1).mono HB4.out.size)).trans (b5.mono HB4.out.size)
      clear b5
      refine hK.out _ _ ((show Hid (Below w.heap.size w w5) ∧ w5.cell? ⟨b, o + j * 7 + 1, none⟩ = some (.string (mtx (K + 1))) from ⟨HB5, (HCJ.out.below HB5.out hb).c1⟩)) (fun hx9 => ?_)
      clear hK KK hHeld hx9
      have hHeld := (show Hid (Below w.heap.size w w5) ∧ w5.cell? ⟨b, o + j * 7 + 1, none⟩ = some (.string (mtx (K + 1))) from ⟨HB5, (HCJ.out.below HB5.out hb).c1⟩)
      try simp only [Act.put, List.setIfInBounds_toArray, List.set_cons_zero, List.set_cons_succ]
      refine wpAnyH_take (i := 7) (oi := { dst := some 29, op := _, type := _, pos := _, after := _, guard := _ }) (v := (.bool false)) rfl (by kernel_rfl) (by kernel_rfl) (by kernel_rfl) (fun _ _ _ h => h) (Or.inl ⟨by rfl, ?hy14⟩) (by assumption) ?rest14
      case hy14 =>
        intro w9 hS9
        go_simp
        try with_reducible rfl
      try simp only [Act.put, List.setIfInBounds_toArray, List.set_cons_zero, List.set_cons_succ]
      refine wpAnyH_done (by kernel_rfl) ?_ _
      clear hHeld
      obtain ⟨-, -, y2, y3, y4, y5, y6⟩ := HCJ.out.below HB5.out hb
      unfold mkN at y2 y3 y4 y5 y6
      simp only at y2 y3 y4 y5 y6
      go_wp2
      exact ⟨⟨j + 1, K + 7, by omega, by have := HKE.out; omega, by go_num, by go_num, HB5⟩, by simp [intOf]; omega⟩
    · have hjn : j = n := by omega
      subst hjn
      subst hK
      go_wp2
      go_ret
      exact ⟨rfl, HB.out⟩

set_option maxHeartbeats 400000 in
theorem heldNodeS_nil (w : World) (ao : Option Addr) (cap k : Nat) : Calls Tryd.prog 98 #[.slice ao 0 cap, .int .i64 k] w fun e w' => e = .returned (.int .i64 k) ∧ w' = w := by
  go_enter Tryd.func98, Tryd.ntmps98
  go_wp2
  go_rounds 1
  go_ret
  exact ⟨rfl, rfl⟩

theorem heldNodeS_any (w : World) (v : Value) (k n : Nat) (h : RdN w v (mkNs k n)) (hk : k ≤ 1048576) (hn : n ≤ 1048576) :
    Calls Tryd.prog 98 #[v, .int .i64 k] w fun e w' => e = .returned (.int .i64 ((k + 7 * n : Nat) : Int)) ∧ Below w.heap.size w w' := by
  obtain ⟨ao, cap, rfl, h1, h2, h3⟩ := h
  rw [mkNs_len] at h1 h3 ⊢
  rcases h3 with h3 | ⟨b, o, rfl, hb, hc⟩
  · have : n = 0 := by have := congrArg List.length h3; rw [mkNs_len] at this; exact this
    subst this
    refine (heldNodeS_nil w ao cap k).mono ?_
    rintro e w' ⟨rfl, rfl⟩
    exact ⟨rfl, Below.refl _ _⟩
  · exact heldNodeS_row w b o n cap k hb hc hk hn

end Go.Proofs.YtgjenbgclpmjmaaDoor

namespace Go.Proofs.YtgjenbgclpmjmaaDoor
open Go.RowKit Go.Shelf

/-- A marked effect. -/
def mkE (K : Nat) : Ef := ⟨(K : Int) % 3 == 0, ⟨mtx (K + 1), mtx (K + 2), (K : Int) + 1 + 1 + 1, (K : Int) + 1 + 1 + 1 + 1, (K : Int) + 1 + 1 + 1 + 1 + 1, (K : Int) + 1 + 1 + 1 + 1 + 1 + 1, (K : Int) + 1 + 1 + 1 + 1 + 1 + 1 + 1⟩⟩
def mkEs (k n : Nat) : List Ef := (List.range n).map fun j => mkE (k + 8 * j)
theorem mkEs_len (k n : Nat) : (mkEs k n).length = n := by simp [mkEs]
theorem mkEs_at (k n j : Nat) (h : j < n) : eAt (mkEs k n) j = mkE (k + 8 * j) := by unfold eAt mkEs; simp [List.getD, h]
def mkMixE (k : Nat) (ns : List Ef) (j : Nat) : List Ef := mkEs k j ++ ns.drop j
theorem mkMixE_len (k : Nat) (ns : List Ef) (j : Nat) (h : j ≤ ns.length) : (mkMixE k ns j).length = ns.length := by unfold mkMixE; rw [List.length_append, mkEs_len, List.length_drop]; omega
theorem mkMixE_set (k : Nat) (ns : List Ef) (j : Nat) (h : j < ns.length) : (mkMixE k ns j).set j (mkE (k + 8 * j)) = mkMixE k ns (j + 1) := by
  unfold mkMixE
  rw [List.set_append_right _ _ (by rw [mkEs_len]; exact Nat.le_refl _), mkEs_len, Nat.sub_self, List.drop_eq_getElem_cons h, List.set_cons_zero]
  unfold mkEs
  rw [List.range_succ, List.map_append, List.append_assoc]
  rfl
theorem mkMixE_all (k : Nat) (ns : List Ef) : mkMixE k ns ns.length = mkEs k ns.length := by unfold mkMixE; simp
/-- A row of effects on the way. -/
def RowX (w : World) (lo g n cap : Nat) (us : List Value) (w' : World) : Prop := w'.ownsRow lo 86 8 (.slice (some ⟨g, 0, none⟩) n cap) n us ∧ Below lo w w' ∧ KT 86 w w'
theorem RowX.set {w w' : World} {lo g n cap : Nat} {us : List Value} (h : RowX w lo g n cap us w') (i : Nat) (u : Value) : RowX w lo g n cap (us.set i u) (w'.setCell ⟨g, i, none⟩ u) := by
  obtain ⟨h1, h2, h3⟩ := h
  have hs := World.ownsRow.stored h1 i u
  exact ⟨hs.1, h2.setCell (World.ownsRow.lt h1 g rfl).1 _, h3.grown h1 hs.2⟩
theorem RowX.below {w w' w2 : World} {lo g n cap : Nat} {us : List Value} (h : RowX w lo g n cap us w') (hb : Below w'.heap.size w' w2) : RowX w lo g n cap us w2 := by
  obtain ⟨h1, h2, h3⟩ := h
  refine ⟨row_keep h1 hb, h2.trans (hb.mono ?_), h3.below hb⟩
  have := World.ownsRow.lt h1 g rfl
  omega
theorem RowX.cell {w w' : World} {lo g n cap : Nat} {us : List Value} (h : RowX w lo g n cap us w') (i : Nat) (hi : i < n * 8) : ∃ u, w'.cell? ⟨g, i, none⟩ = some u ∧ w'.frozen? ⟨g, i, none⟩ = false := rowcell h.1 i hi

set_option maxHeartbeats 2000000 in
set_option maxRecDepth 100000 in
theorem markEffectL_row (w : World) (lo g n cap k : Nat) (ns : List Ef) (hp : ns.length = n) (ho : w.ownsRow lo 86 8 (.slice (some ⟨g, 0, none⟩) n cap) n (erow ns)) (hk : k ≤ 1048576) (hn : n ≤ 1048576) :
    Calls Tryd.prog 94 #[.slice (some ⟨g, 0, none⟩) n cap, .int .i64 k] w fun e w' => e = .returned (.int .i64 ((k + 8 * n : Nat) : Int)) ∧ RowX w lo g n cap (erow (mkEs k n)) w' := by
  have R0 : Hid (RowX w lo g n cap (erow (mkMixE k ns 0)) w) := ⟨by unfold mkMixE mkEs; simpa using ho, Below.refl _ _, KT.refl _ _⟩
  have HP : Hid (ns.length = n) := hp
  clear ho hp
  go_enter Tryd.func94, Tryd.ntmps94
  go_wp2
  go_loopw [1, 5] (fun vk vi wr => ∃ j K : Nat, j ≤ n ∧ K = k + 8 * j ∧ vi = .int .i64 j ∧ vk = .int .i64 K ∧ Hid (RowX w lo g n cap (erow (mkMixE k ns j)) wr)) (fun _ i _ => n - (intOf i).toNat)
  case atStart => exact ⟨0, k, Nat.zero_le _, by omega, rfl, rfl, R0⟩
  case round =>
    obtain ⟨j, K, hj, hK, rfl, rfl, HR⟩ := hrel
    have HKE : Hid (K = k + 8 * j) := hK
    by_cases hlt : j < n
    · have hltI : (j : Int) < (n : Int) := by omega
      have hK2 : K ≤ 10000000 := by omega
      have HS : Hid (set8 (erow (mkMixE k ns j)) (j * 8) (mkE K) = erow (mkMixE k ns (j + 1))) := by
        show _ = _
        rw [erow_set _ _ _ (by rw [mkMixE_len _ _ _ (by rw [HP.out]; omega), HP.out]; exact hlt), hK, mkMixE_set _ _ _ (by rw [HP.out]; exact hlt)]
      generalize erow (mkMixE k ns j) = us at *
      clear hK
      have hm1 : Hid (∀ W, Calls Tryd.prog 85 #[.int .i64 ((K : Int) + 1)] W fun e w' => e = .returned (.string (mtx (K + 1))) ∧ Below W.heap.size W w') := by
        intro W
        have hm := markText_any W (K + 1) (by omega)
        rw [show ((K + 1 : Nat) : Int) = (K : Int) + 1 by omega] at hm
        exact hm
      have hm2 : Hid (∀ W, Calls Tryd.prog 85 #[.int .i64 ((K : Int) + 1 + 1)] W fun e w' => e = .returned (.string (mtx (K + 2))) ∧ Below W.heap.size W w') := by
        intro W
        have hm := markText_any W (K + 2) (by omega)
        rw [show ((K + 2 : Nat) : Int) = (K : Int) + 1 + 1 by omega] at hm
        exact hm
      obtain ⟨x0, d0, f0⟩ := HR.out.cell (j * 8) (by omega)
      go_wp2_with fail
      refine (hm1.out _).mono ?_
      rintro e w1 ⟨rfl, b1⟩
      have R1 : Hid (RowX w lo g n cap (us.set (j * 8) (.bool ((K : Int) % 3 == 0))) w1) := (HR.out.set _ _).below b1
      clear b1 HR d0 f0 hm1
      obtain ⟨x1, d1, f1⟩ := R1.out.cell (j * 8 + 1) (by omega)
      go_wp2_with fail
      refine (hm2.out _).mono ?_
      rintro e w3 ⟨rfl, b3⟩
      have R3 : Hid (RowX w lo g n cap ((us.set (j * 8) (.bool ((K : Int) % 3 == 0))).set (j * 8 + 1) (.string (mtx (K + 1)))) w3) := (R1.out.set _ _).below b3
      clear b3 R1 d1 f1 hm2
      obtain ⟨x2, d2, f2⟩ := R3.out.cell (j * 8 + 2) (by omega)
      obtain ⟨x3, d3, f3⟩ := R3.out.cell (j * 8 + 3) (by omega)
      obtain ⟨x4, d4, f4⟩ := R3.out.cell (j * 8 + 4) (by omega)
      obtain ⟨x5, d5, f5⟩ := R3.out.cell (j * 8 + 5) (by omega)
      obtain ⟨x6, d6, f6⟩ := R3.out.cell (j * 8 + 6) (by omega)
      obtain ⟨x7, d7, f7⟩ := R3.out.cell (j * 8 + 7) (by omega)
      go_wp2
      refine ⟨⟨j + 1, K + 8, by omega, by have := HKE.out; omega, by go_num, by go_num, ?_⟩, by simp [intOf]; omega⟩
      show RowX _ _ _ _ _ _ _
      rw [← HS.out]
      exact ((((((R3.out.set _ _).set _ _).set _ _).set _ _).set _ _).set _ _)
    · have hjn : j = n := by omega
      subst hjn
      subst hK
      have HF : Hid (RowX w lo g j cap (erow (mkEs k j)) wr) := by have := HR.out; rw [← HP.out, mkMixE_all, HP.out] at this; exact this
      go_wp2
      go_ret
      exact ⟨rfl, HF.out⟩

theorem markEffectL_any (w : World) (lo k : Nat) (v : Value) (ns : List Ef) (h : OwnE 86 w lo v ns) (hk : k ≤ 1048576) (hn : ns.length ≤ 1048576) :
    Calls Tryd.prog 94 #[v, .int .i64 k] w fun e w' => e = .returned (.int .i64 ((k + 8 * ns.length : Nat) : Int)) ∧ OwnE 86 w' lo v (mkEs k ns.length) ∧ Below lo w w' ∧ KT 86 w w' := by
  have h0 := h
  rcases h.2 with ⟨rfl, h1⟩ | ⟨g, cap, cur, rfl, rest⟩
  · refine (markEffectS_nil w none 0 k).mono ?_
    rintro e w' ⟨rfl, rfl⟩
    rw [h1]
    exact ⟨rfl, World.ownsRow_nil _ _ _ _, Below.refl _ _, KT.refl _ _⟩
  · refine (markEffectL_row w lo g ns.length cap k ns rfl h0 hk hn).mono ?_
    rintro e w' ⟨rfl, h1, h2, h3⟩
    exact ⟨rfl, by unfold OwnE; rw [mkEs_len]; exact h1, h2, h3⟩

set_option maxHeartbeats 2000000 in
set_option maxRecDepth 100000 in
theorem heldEffectS_row (w : World) (b o n cap k : Nat) (hb : b < w.heap.size) (hc : ∀ i, i < n → CellsE w b (o + i * 8) (eAt (mkEs k n) i)) (hk : k ≤ 1048576) (hn : n ≤ 1048576) :
    Calls Tryd.prog 112 #[.slice (some ⟨b, o, none⟩) n cap, .int .i64 k] w fun e w' => e = .returned (.int .i64 ((k + 8 * n : Nat) : Int)) ∧ Below w.heap.size w w' := by
  have HC : Hid (∀ i, i < n → CellsE w b (o + i * 8) (mkE (k + 8 * i))) := fun i hi => by have := hc i hi; rw [mkEs_at k n i hi] at this; exact this
  clear hc
  go_enter Tryd.func112, Tryd.ntmps112
  go_wp2
  go_loopw [1, 5] (fun vk vi wr => ∃ j K : Nat, j ≤ n ∧ K = k + 8 * j ∧ vi = .int .i64 j ∧ vk = .int .i64 K ∧ Hid (Below w.heap.size w wr)) (fun _ i _ => n - (intOf i).toNat)
  case atStart => exact ⟨0, k, Nat.zero_le _, by omega, rfl, rfl, Below.refl _ _⟩
  case round =>
    obtain ⟨j, K, hj, hK, rfl, rfl, HB⟩ := hrel
    have HKE : Hid (K = k + 8 * j) := hK
    by_cases hlt : j < n
    · have hltI : (j : Int) < (n : Int) := by omega
      have hK2 : K ≤ 10000000 := by omega
      have HCJ : Hid (CellsE w b (o + j * 8) (mkE K)) := by have := HC.out j hlt; rw [← hK] at this; exact this
      have hm0 : Hid (∀ W, Calls Tryd.prog 85 #[.int .i64 ((K : Int) + 1)] W fun e w' => e = .returned (.string (mtx (K + 1))) ∧ Below W.heap.size W w') := by
        intro W
        have hm := markText_any W (K + 1) (by omega)
        rw [show ((K + 1 : Nat) : Int) = (K : Int) + 1 by omega] at hm
        exact hm
      have hm1 : Hid (∀ W, Calls Tryd.prog 85 #[.int .i64 ((K : Int) + 1 + 1)] W fun e w' => e = .returned (.string (mtx (K + 2))) ∧ Below W.heap.size W w') := by
        intro W
        have hm := markText_any W (K + 2) (by omega)
        rw [show ((K + 2 : Nat) : Int) = (K : Int) + 1 + 1 by omega] at hm
        exact hm
      have hpp : ((mtx (K + 1)).toList == (mtx (K + 1)).toList) = true := by simp
      have hpp1 : ((mtx (K + 2)).toList == (mtx (K + 2)).toList) = true := by simp
      have q0 : wr.cell? ⟨b, o + j * 8, none⟩ = some (.bool ((K : Int) % 3 == 0)) := (HCJ.out.below HB.out hb).c0
      clear hK
      go_wp2
      clear q0
      refine wp_region_held_drew (S := fun W => Hid (Below w.heap.size w W) ∧ W.cell? ⟨b, o + j * 8 + 1, none⟩ = some (.string (mtx (K + 1)))) (by kernel_rfl) (⟨HB.out.trans ((below_drewN' _ 1).mono HB.out.size), ((HCJ.out.below HB.out hb).below (below_drewN' _ 1) (Nat.lt_of_lt_of_le hb HB.out.size)).c1⟩) (fun hHeld => ?_)
      refine wpAnyH_take (i := 0) (oi := { dst := some 23, op := _, type := _, pos := _, after := _, guard := _ }) (v := (.slice (some ⟨b, o, none⟩) n cap)) rfl (by kernel_rfl) (by kernel_rfl) (by kernel_rfl) (fun _ _ _ h => h) (Or.inl ⟨by rfl, ?hy1⟩) (by assumption) ?rest1
      case hy1 =>
        intro w9 hS9
        obtain ⟨-, y0⟩ := hS9
        go_simp
        try with_reducible rfl
      try simp only [Act.put, List.setIfInBounds_toArray, List.set_cons_zero, List.set_cons_succ]
      refine wpAnyH_take (i := 1) (oi := { dst := some 24, op := _, type := _, pos := _, after := _, guard := _ }) (v := (.int .i64 (j : Int))) rfl (by kernel_rfl) (by kernel_rfl) (by kernel_rfl) (fun _ _ _ h => h) (Or.inl ⟨by rfl, ?hy2⟩) (by assumption) ?rest2
      case hy2 =>
        intro w9 hS9
        obtain ⟨-, y0⟩ := hS9
        go_simp
        try with_reducible rfl
      try simp only [Act.put, List.setIfInBounds_toArray, List.set_cons_zero, List.set_cons_succ]
      refine wpAnyH_take (i := 2) (oi := { dst := some 25, op := _, type := _, pos := _, after := _, guard := _ }) (v := (.pointer (some ⟨b, o + j * 8, none⟩))) rfl (by kernel_rfl) (by kernel_rfl) (by kernel_rfl) (fun _ _ _ h => h) (Or.inl ⟨by rfl, ?hy3⟩) (by assumption) ?rest3
      case hy3 =>
        intro w9 hS9
        obtain ⟨-, y0⟩ := hS9
        go_simp
        try with_reducible rfl
      try simp only [Act.put, List.setIfInBounds_toArray, List.set_cons_zero, List.set_cons_succ]
      refine wpAnyH_take (i := 3) (oi := { dst := some 26, op := _, type := _, pos := _, after := _, guard := _ }) (v := (.pointer (some ⟨b, o + j * 8 + 1, none⟩))) rfl (by kernel_rfl) (by kernel_rfl) (by kernel_rfl) (fun _ _ _ h => h) (Or.inl ⟨by rfl, ?hy4⟩) (by assumption) ?rest4
      case hy4 =>
        intro w9 hS9
        obtain ⟨-, y0⟩ := hS9
        go_simp
        try with_reducible rfl
      try simp only [Act.put, List.setIfInBounds_toArray, List.set_cons_zero, List.set_cons_succ]
      refine wpAnyH_take (i := 4) (oi := { dst := some 27, op := _, type := _, pos := _, after := _, guard := _ }) (v := (.pointer (some ⟨b, o + j * 8 + 1, none⟩))) rfl (by kernel_rfl) (by kernel_rfl) (by kernel_rfl) (fun _ _ _ h => h) (Or.inl ⟨by rfl, ?hy5⟩) (by assumption) ?rest5
      case hy5 =>
        intro w9 hS9
        obtain ⟨-, y0⟩ := hS9
        go_simp
        try with_reducible rfl
      try simp only [Act.put, List.setIfInBounds_toArray, List.set_cons_zero, List.set_cons_succ]
      refine wpAnyH_take (i := 5) (oi := { dst := some 28, op := _, type := _, pos := _, after := _, guard := _ }) (v := (.string (mtx (K + 1)))) rfl (by kernel_rfl) (by kernel_rfl) (by kernel_rfl) (fun _ _ _ h => h) (Or.inl ⟨by rfl, ?hy6⟩) (by assumption) ?rest6
      case hy6 =>
        intro w9 hS9
        obtain ⟨-, y0⟩ := hS9
        go_simp
        try with_reducible rfl
      try simp only [Act.put, List.setIfInBounds_toArray, List.set_cons_zero, List.set_cons_succ]
      refine wpAnyH_take (i := 6) (oi := { dst := some 29, op := _, type := _, pos := _, after := _, guard := _ }) (v := (.int .i64 ((K : Int) + 1))) rfl (by kernel_rfl) (by kernel_rfl) (by kernel_rfl) (fun _ _ _ h => h) (Or.inl ⟨by rfl, ?hy7⟩) (by assumption) ?rest7
      case hy7 =>
        intro w9 hS9
        obtain ⟨-, y0⟩ := hS9
        go_simp
        try with_reducible rfl
      try simp only [Act.put, List.setIfInBounds_toArray, List.set_cons_zero, List.set_cons_succ]
      refine wpAnyH_ready (rs := [7]) (by kernel_rfl) (by simp) ?_
      refine AllReadyH.cons (o := { dst := some 30, op := _, type := _, pos := _, after := _, guard := _ }) rfl (fun KK hK => ?_) AllReadyH.nil
      go_simp
      refine (hm0.out _).mono ?_
      rintro e w4 ⟨rfl, b4⟩
      have HB4 : Hid (Below w.heap.size w w4) := (HB.out.trans ((below_drewN' _ 1).mono HB.out.size)).trans (b4.mono HB.out.size)
      clear b4
      refine hK.out _ _ ((show Hid (Below w.heap.size w w4) ∧ w4.cell? ⟨b, o + j * 8 + 1, none⟩ = some (.string (mtx (K + 1))) from ⟨HB4, (HCJ.out.below HB4.out hb).c1⟩)) (fun hx9 => ?_)
      clear hK KK hHeld hx9
      have hHeld := (show Hid (Below w.heap.size w w4) ∧ w4.cell? ⟨b, o + j * 8 + 1, none⟩ = some (.string (mtx (K + 1))) from ⟨HB4, (HCJ.out.below HB4.out hb).c1⟩)
      try simp only [Act.put, List.setIfInBounds_toArray, List.set_cons_zero, List.set_cons_succ]
      refine wpAnyH_take (i := 8) (oi := { dst := some 31, op := _, type := _, pos := _, after := _, guard := _ }) (v := (.bool false)) rfl (by kernel_rfl) (by kernel_rfl) (by kernel_rfl) (fun _ _ _ h => h) (Or.inl ⟨by rfl, ?hy8⟩) (by assumption) ?rest8
      case hy8 =>
        intro w9 hS9
        go_simp
        try with_reducible rfl
      try simp only [Act.put, List.setIfInBounds_toArray, List.set_cons_zero, List.set_cons_succ]
      refine wpAnyH_done (by kernel_rfl) ?_ _
      clear hHeld
      go_wp2
      refine wp_region_held_drew (S := fun W => Hid (Below w.heap.size w W) ∧ W.cell? ⟨b, o + j * 8 + 2, none⟩ = some (.string (mtx (K + 2)))) (by kernel_rfl) (⟨HB4.out.trans ((below_drewN' _ 1).mono HB4.out.size), ((HCJ.out.below HB4.out hb).below (below_drewN' _ 1) (Nat.lt_of_lt_of_le hb HB4.out.size)).c2⟩) (fun hHeld => ?_)
      refine wpAnyH_take (i := 0) (oi := { dst := some 34, op := _, type := _, pos := _, after := _, guard := _ }) (v := (.slice (some ⟨b, o, none⟩) n cap)) rfl (by kernel_rfl) (by kernel_rfl) (by kernel_rfl) (fun _ _ _ h => h) (Or.inl ⟨by rfl, ?hy9⟩) (by assumption) ?rest9
      case hy9 =>
        intro w9 hS9
        obtain ⟨-, y0⟩ := hS9
        go_simp
        try with_reducible rfl
      try simp only [Act.put, List.setIfInBounds_toArray, List.set_cons_zero, List.set_cons_succ]
      refine wpAnyH_take (i := 1) (oi := { dst := some 35, op := _, type := _, pos := _, after := _, guard := _ }) (v := (.int .i64 (j : Int))) rfl (by kernel_rfl) (by kernel_rfl) (by kernel_rfl) (fun _ _ _ h => h) (Or.inl ⟨by rfl, ?hy10⟩) (by assumption) ?rest10
      case hy10 =>
        intro w9 hS9
        obtain ⟨-, y0⟩ := hS9
        go_simp
        try with_reducible rfl
      try simp only [Act.put, List.setIfInBounds_toArray, List.set_cons_zero, List.set_cons_succ]
      refine wpAnyH_take (i := 2) (oi := { dst := some 36, op := _, type := _, pos := _, after := _, guard := _ }) (v := (.pointer (some ⟨b, o + j * 8, none⟩))) rfl (by kernel_rfl) (by kernel_rfl) (by kernel_rfl) (fun _ _ _ h => h) (Or.inl ⟨by rfl, ?hy11⟩) (by assumption) ?rest11
      case hy11 =>
        intro w9 hS9
        obtain ⟨-, y0⟩ := hS9
        go_simp
        try with_reducible rfl
      try simp only [Act.put, List.setIfInBounds_toArray, List.set_cons_zero, List.set_cons_succ]
      refine wpAnyH_take (i := 3) (oi := { dst := some 37, op := _, type := _, pos := _, after := _, guard := _ }) (v := (.pointer (some ⟨b, o + j * 8 + 1, none⟩))) rfl (by kernel_rfl) (by kernel_rfl) (by kernel_rfl) (fun _ _ _ h => h) (Or.inl ⟨by rfl, ?hy12⟩) (by assumption) ?rest12
      case hy12 =>
        intro w9 hS9
        obtain ⟨-, y0⟩ := hS9
        go_simp
        try with_reducible rfl
      try simp only [Act.put, List.setIfInBounds_toArray, List.set_cons_zero, List.set_cons_succ]
      refine wpAnyH_take (i := 4) (oi := { dst := some 38, op := _, type := _, pos := _, after := _, guard := _ }) (v := (.pointer (some ⟨b, o + j * 8 + 2, none⟩))) rfl (by kernel_rfl) (by kernel_rfl) (by kernel_rfl) (fun _ _ _ h => h) (Or.inl ⟨by rfl, ?hy13⟩) (by assumption) ?rest13
      case hy13 =>
        intro w9 hS9
        obtain ⟨-, y0⟩ := hS9
        go_simp
        try with_reducible rfl
      try simp only [Act.put, List.setIfInBounds_toArray, List.set_cons_zero, List.set_cons_succ]
      refine wpAnyH_take (i := 5) (oi := { dst := some 39, op := _, type := _, pos := _, after := _, guard := _ }) (v := (.string (mtx (K + 2)))) rfl (by kernel_rfl) (by kernel_rfl) (by kernel_rfl) (fun _ _ _ h => h) (Or.inl ⟨by rfl, ?hy14⟩) (by assumption) ?rest14
      case hy14 =>
        intro w9 hS9
        obtain ⟨-, y0⟩ := hS9
        go_simp
        try with_reducible rfl
      try simp only [Act.put, List.setIfInBounds_toArray, List.set_cons_zero, List.set_cons_succ]
      refine wpAnyH_take (i := 6) (oi := { dst := some 40, op := _, type := _, pos := _, after := _, guard := _ }) (v := (.int .i64 ((K : Int) + 1 + 1))) rfl (by kernel_rfl) (by kernel_rfl) (by kernel_rfl) (fun _ _ _ h => h) (Or.inl ⟨by rfl, ?hy15⟩) (by assumption) ?rest15
      case hy15 =>
        intro w9 hS9
        obtain ⟨-, y0⟩ := hS9
        go_simp
        try with_reducible rfl
      try simp only [Act.put, List.setIfInBounds_toArray, List.set_cons_zero, List.set_cons_succ]
      refine wpAnyH_ready (rs := [7]) (by kernel_rfl) (by simp) ?_
      refine AllReadyH.cons (o := { dst := some 41, op := _, type := _, pos := _, after := _, guard := _ }) rfl (fun KK hK => ?_) AllReadyH.nil
      go_simp
      refine (hm1.out _).mono ?_
      rintro e w5 ⟨rfl, b5⟩
      have HB5 : Hid (Below w.heap.size w w5) := (HB4.out.trans ((below_drewN' _ 1).mono HB4.out.size)).trans (b5.mono HB4.out.size)
      clear b5
      refine hK.out _ _ ((show Hid (Below w.heap.size w w5) ∧ w5.cell? ⟨b, o + j * 8 + 2, none⟩ = some (.string (mtx (K + 2))) from ⟨HB5, (HCJ.out.below HB5.out hb).c2⟩)) (fun hx9 => ?_)
      clear hK KK hHeld hx9
      have hHeld := (show Hid (Below w.heap.size w w5) ∧ w5.cell? ⟨b, o + j * 8 + 2, none⟩ = some (.string (mtx (K + 2))) from ⟨HB5, (HCJ.out.below HB5.out hb).c2⟩)
      try simp only [Act.put, List.setIfInBounds_toArray, List.set_cons_zero, List.set_cons_succ]
      refine wpAnyH_take (i := 8) (oi := { dst := some 42, op := _, type := _, pos := _, after := _, guard := _ }) (v := (.bool false)) rfl (by kernel_rfl) (by kernel_rfl) (by kernel_rfl) (fun _ _ _ h => h) (Or.inl ⟨by rfl, ?hy16⟩) (by assumption) ?rest16
      case hy16 =>
        intro w9 hS9
        go_simp
        try with_reducible rfl
      try simp only [Act.put, List.setIfInBounds_toArray, List.set_cons_zero, List.set_cons_succ]
      refine wpAnyH_done (by kernel_rfl) ?_ _
      clear hHeld
      obtain ⟨-, -, -, y3, y4, y5, y6, y7⟩ := HCJ.out.below HB5.out hb
      unfold mkE at y3 y4 y5 y6 y7
      simp only at y3 y4 y5 y6 y7
      go_wp2
      exact ⟨⟨j + 1, K + 8, by omega, by have := HKE.out; omega, by go_num, by go_num, HB5⟩, by simp [intOf]; omega⟩
    · have hjn : j = n := by omega
      subst hjn
      subst hK
      go_wp2
      go_ret
      exact ⟨rfl, HB.out⟩

set_option maxHeartbeats 400000 in
theorem heldEffectS_nil (w : World) (ao : Option Addr) (cap k : Nat) : Calls Tryd.prog 112 #[.slice ao 0 cap, .int .i64 k] w fun e w' => e = .returned (.int .i64 k) ∧ w' = w := by
  go_enter Tryd.func112, Tryd.ntmps112
  go_wp2
  go_rounds 1
  go_ret
  exact ⟨rfl, rfl⟩

theorem heldEffectS_any (w : World) (v : Value) (k n : Nat) (h : RdE w v (mkEs k n)) (hk : k ≤ 1048576) (hn : n ≤ 1048576) :
    Calls Tryd.prog 112 #[v, .int .i64 k] w fun e w' => e = .returned (.int .i64 ((k + 8 * n : Nat) : Int)) ∧ Below w.heap.size w w' := by
  obtain ⟨ao, cap, rfl, h1, h2, h3⟩ := h
  rw [mkEs_len] at h1 h3 ⊢
  rcases h3 with h3 | ⟨b, o, rfl, hb, hc⟩
  · have : n = 0 := by have := congrArg List.length h3; rw [mkEs_len] at this; exact this
    subst this
    refine (heldEffectS_nil w ao cap k).mono ?_
    rintro e w' ⟨rfl, rfl⟩
    exact ⟨rfl, Below.refl _ _⟩
  · exact heldEffectS_row w b o n cap k hb hc hk hn

end Go.Proofs.YtgjenbgclpmjmaaDoor

namespace Go.Proofs.YtgjenbgclpmjmaaDoor
open Go.RowKit Go.Shelf

theorem own_full {e : TypeId} {w : World} {base : Nat} {v : Value} {xs : List Int} (h : Own .u8 e w base v xs) (hn : 0 < xs.length) : ∃ g c, v = .slice (some ⟨g, 0, none⟩) xs.length c := by
  rcases h.2 with ⟨-, h0⟩ | ⟨g, cap, cur, rfl, -⟩
  · omega
  · exact ⟨g, cap, rfl⟩
theorem u8_oneCell (xs : List Int) : ∀ u ∈ xs.map (Value.int .u8), u.oneCell' = true := by
  intro u hu
  obtain ⟨x, -, rfl⟩ := List.mem_map.1 hu
  rfl
theorem BoxN.belowM {w w' : World} {B m : Nat} {n : Nd} (h : BoxN w B n) (hb : Below m w w') (hl : B < m) : BoxN w' B n :=
  ⟨Nat.lt_of_lt_of_le h.lt hb.size, (hb.cell (p := ⟨B, _, none⟩) hl).trans h.c0, (hb.cell (p := ⟨B, _, none⟩) hl).trans h.c1, (hb.cell (p := ⟨B, _, none⟩) hl).trans h.c2, (hb.cell (p := ⟨B, _, none⟩) hl).trans h.c3,
   (hb.cell (p := ⟨B, _, none⟩) hl).trans h.c4, (hb.cell (p := ⟨B, _, none⟩) hl).trans h.c5, (hb.cell (p := ⟨B, _, none⟩) hl).trans h.c6⟩

set_option maxHeartbeats 2000000 in
set_option maxRecDepth 100000 in
theorem sNode_any (w : World) (n : Nd) (hn : okNd n = true) :
    Calls Tryd.prog 90 #[.agg #[.string n.path, .string n.data, .int .i64 n.ver, .int .i64 n.cver, .int .i64 n.cz, .int .i64 n.mz, .int .i64 n.pz]] w fun e w' => ∃ v', e = .returned v' ∧ Own .u8 5 w' w.heap.size v' (nodeB n) ∧ Below w.heap.size w w' := by
  obtain ⟨i0, hi, hz0, hz1, hz2⟩ := info_parts Tryd.infoB
  obtain ⟨p1, p2, p3, p4, p5, p6, p7⟩ := okNd_all hn
  clear hn
  obtain ⟨z0, hz0'⟩ : ∃ z : Nat, n.ver = (z : Int) := ⟨n.ver.toNat, by omega⟩
  have HZ0 : Hid (n.ver = (z0 : Int)) := hz0'
  have hb0 : z0 ≤ 2147483647 := by omega
  obtain ⟨z1, hz1'⟩ : ∃ z : Nat, n.cver = (z : Int) := ⟨n.cver.toNat, by omega⟩
  have HZ1 : Hid (n.cver = (z1 : Int)) := hz1'
  have hb1 : z1 ≤ 2147483647 := by omega
  obtain ⟨z2, hz2'⟩ : ∃ z : Nat, n.cz = (z : Int) := ⟨n.cz.toNat, by omega⟩
  have HZ2 : Hid (n.cz = (z2 : Int)) := hz2'
  have hb2 : z2 ≤ 2147483647 := by omega
  obtain ⟨z3, hz3'⟩ : ∃ z : Nat, n.mz = (z : Int) := ⟨n.mz.toNat, by omega⟩
  have HZ3 : Hid (n.mz = (z3 : Int)) := hz3'
  have hb3 : z3 ≤ 2147483647 := by omega
  obtain ⟨z4, hz4'⟩ : ∃ z : Nat, n.pz = (z : Int) := ⟨n.pz.toNat, by omega⟩
  have HZ4 : Hid (n.pz = (z4 : Int)) := hz4'
  have hb4 : z4 ≤ 2147483647 := by omega
  have HZ : Hid (nodeB n = txB n.path ++ txB n.data ++ bigR z0 4 ++ bigR z1 4 ++ bigR z2 4 ++ bigR z3 4 ++ bigR z4 4) := by
    show _ = _
    unfold nodeB stB
    simp [hz0', hz1', hz2', hz3', hz4']
  clear hz0' hz1' hz2' hz3' hz4' p3 p4 p5 p6 p7
  have X0 : Hid (BoxN (w.alloc (.cells #[.string n.path, .string n.data, .int .i64 n.ver, .int .i64 n.cver, .int .i64 n.cz, .int .i64 n.mz, .int .i64 n.pz] 81)) w.heap.size n) := BoxN.new _ _ _
  have B0 : Hid (Below w.heap.size w (w.alloc (.cells #[.string n.path, .string n.data, .int .i64 n.ver, .int .i64 n.cver, .int .i64 n.cz, .int .i64 n.mz, .int .i64 n.pz] 81))) := (Below.refl _ _).alloc (Nat.le_refl _) _
  go_enter Tryd.func90, Tryd.ntmps90
  go_wp2
  generalize w.alloc (.cells #[.string n.path, .string n.data, .int .i64 n.ver, .int .i64 n.cver, .int .i64 n.cz, .int .i64 n.mz, .int .i64 n.pz] 81) = w0 at *
  have s0 : w.heap.size + 1 ≤ w0.heap.size := X0.out.lt
  refine wp_region_held_drew (S := fun W => BoxN W w.heap.size n) (by kernel_rfl) (X0.out.below (below_drewN' w0 1)) (fun hHeld => ?_)
  refine wpAnyH_take (i := 0) (oi := { dst := some 4, op := _, type := _, pos := _, after := _, guard := _ }) (v := (.pointer (some ⟨w.heap.size, 0, none⟩))) rfl (by kernel_rfl) (by kernel_rfl) (by kernel_rfl) (fun _ _ _ h => h) (Or.inl ⟨by rfl, ?hy1⟩) (by assumption) ?rest1
  case hy1 =>
    intro w9 hS9
    obtain ⟨-, y0, y1, y2, y3, y4, y5, y6⟩ := hS9
    go_simp
    try with_reducible rfl
  try simp only [Act.put, List.setIfInBounds_toArray, List.set_cons_zero, List.set_cons_succ]
  refine wpAnyH_take (i := 1) (oi := { dst := some 5, op := _, type := _, pos := _, after := _, guard := _ }) (v := (.string n.path)) rfl (by kernel_rfl) (by kernel_rfl) (by kernel_rfl) (fun _ _ _ h => h) (Or.inl ⟨by rfl, ?hy2⟩) (by assumption) ?rest2
  case hy2 =>
    intro w9 hS9
    obtain ⟨-, y0, y1, y2, y3, y4, y5, y6⟩ := hS9
    go_simp
    try with_reducible rfl
  try simp only [Act.put, List.setIfInBounds_toArray, List.set_cons_zero, List.set_cons_succ]
  refine wpAnyH_take (i := 3) (oi := { dst := some 7, op := _, type := _, pos := _, after := _, guard := _ }) (v := (.pointer (some ⟨w.heap.size, 1, none⟩))) rfl (by kernel_rfl) (by kernel_rfl) (by kernel_rfl) (fun _ _ _ h => h) (Or.inl ⟨by rfl, ?hy3⟩) (by assumption) ?rest3
  case hy3 =>
    intro w9 hS9
    obtain ⟨-, y0, y1, y2, y3, y4, y5, y6⟩ := hS9
    go_simp
    try with_reducible rfl
  try simp only [Act.put, List.setIfInBounds_toArray, List.set_cons_zero, List.set_cons_succ]
  refine wpAnyH_take (i := 4) (oi := { dst := some 8, op := _, type := _, pos := _, after := _, guard := _ }) (v := (.string n.data)) rfl (by kernel_rfl) (by kernel_rfl) (by kernel_rfl) (fun _ _ _ h => h) (Or.inl ⟨by rfl, ?hy4⟩) (by assumption) ?rest4
  case hy4 =>
    intro w9 hS9
    obtain ⟨-, y0, y1, y2, y3, y4, y5, y6⟩ := hS9
    go_simp
    try with_reducible rfl
  try simp only [Act.put, List.setIfInBounds_toArray, List.set_cons_zero, List.set_cons_succ]
  refine wpAnyH_ready (rs := [2]) (by kernel_rfl) (by simp) ?_
  refine AllReadyH.cons (o := { dst := some 6, op := _, type := _, pos := _, after := _, guard := _ }) rfl (fun K hK => ?_) AllReadyH.nil
  go_simp
  refine (specText_any _ n.path (by omega)).mono ?_
  rintro e w1 ⟨v1, rfl, o1, b1⟩
  have X1 : Hid (BoxN w1 w.heap.size n) := (X0.out.below (below_drewN' w0 1)).below b1
  have B1 : Hid (Below w.heap.size w w1) := (B0.out.trans ((below_drewN' w0 1).mono B0.out.size)).trans (b1.mono (by show w.heap.size ≤ w0.heap.size; omega))
  have O1 : Hid (Own .u8 5 w1 (w.heap.size + 1) v1 (txB n.path)) := o1.mono s0
  clear o1 b1
  refine hK.out _ _ (X1.out) (fun hx9 => ?_)
  clear hK K hHeld hx9
  have hHeld := X1.out
  try simp only [Act.put, List.setIfInBounds_toArray, List.set_cons_zero, List.set_cons_succ]
  refine wpAnyH_ready (rs := [5]) (by kernel_rfl) (by simp) ?_
  refine AllReadyH.cons (o := { dst := some 9, op := _, type := _, pos := _, after := _, guard := _ }) rfl (fun K hK => ?_) AllReadyH.nil
  go_simp
  refine (specText_any _ n.data (by omega)).mono ?_
  rintro e w2 ⟨v2, rfl, o2, b2⟩
  have s1 : w.heap.size + 1 ≤ w1.heap.size := X1.out.lt
  have X2 : Hid (BoxN w2 w.heap.size n) := X1.out.below b2
  have B2 : Hid (Below w.heap.size w w2) := B1.out.trans (b2.mono (by omega))
  obtain ⟨g2, c2, hv2⟩ := own_full o2 (by rw [txB_len]; omega)
  rw [txB_len] at hv2
  subst hv2
  have O2 : Hid (w2.ownsRow (w.heap.size + 1) 5 1 v1 (1 + n.path.size) ((txB n.path).map (Value.int .u8))) := by have := O1.out.below b2; unfold Own at this; rw [txB_len] at this; exact this
  have N2 : Hid (∀ j u, ((txB n.data).map (Value.int .u8))[j]? = some u → w2.cell? ((⟨g2, 0, none⟩ : Addr).add j) = some u) := World.ownsRow.cells o2 rfl
  have s2 : w.heap.size + 1 ≤ w2.heap.size := X2.out.lt
  clear o2 b2 O1 X1 B1
  refine hK.out _ _ (X2.out) (fun hx9 => ?_)
  clear hK K hHeld hx9
  have hHeld := X2.out
  try simp only [Act.put, List.setIfInBounds_toArray, List.set_cons_zero, List.set_cons_succ]
  refine wpAnyH_ready (rs := [6]) (by kernel_rfl) (by simp) ?_
  refine AllReadyH.cons (o := { dst := some 10, op := _, type := _, pos := _, after := _, guard := _ }) rfl (fun K hK => ?_) AllReadyH.nil
  refine step_append rfl (.tmp 6) (.tmp 9) 45 rfl (w.heap.size + 1) 5 i0 (.int .u8 0) 1 1 Tryd.underlying45 hi hz0 hz1 hz2 rfl (by decide) v1 (1 + n.path.size) _ rfl O2.out ⟨g2, 0, none⟩ (1 + n.data.size) c2 ((txB n.data).map (Value.int .u8)) rfl (by rw [List.length_map, txB_len, Nat.mul_one]) N2.out (u8_oneCell _) (by unfold maxLen; omega) (by omega) s2 ?_
  intro v3 w3 ho3 hg3
  have b3 : Below (w.heap.size + 1) w2 w3 := (Below.refl _ _).grown hg3 s2 (fun q hq => (World.ownsRow.lt O2.out q hq).1)
  have X3 : Hid (BoxN w3 w.heap.size n) := X2.out.belowM b3 (by omega)
  have B3 : Hid (Below w.heap.size w w3) := B2.out.trans (b3.mono (by omega))
  have O3 : Hid (w3.ownsRow (w.heap.size + 1) 5 1 v3 (1 + n.path.size + (1 + n.data.size)) ((txB n.path ++ txB n.data).map (Value.int .u8))) := by show World.ownsRow _ _ _ _ _ _ _; rw [List.map_append]; exact ho3
  clear ho3 hg3 b3 O2 N2 X2 B2
  refine hK.out _ _ (X3.out) (fun hx9 => ?_)
  clear hK K hHeld hx9
  have hHeld := X3.out
  try simp only [Act.put, List.setIfInBounds_toArray, List.set_cons_zero, List.set_cons_succ]
  refine wpAnyH_take (i := 7) (oi := { dst := some 3, op := _, type := _, pos := _, after := _, guard := _ }) (v := v3) rfl (by kernel_rfl) (by kernel_rfl) (by kernel_rfl) (fun _ _ _ h => h) (Or.inl ⟨by rfl, ?hy5⟩) (by assumption) ?rest5
  case hy5 =>
    intro w9 hS9
    go_simp
  try simp only [Act.put, List.setIfInBounds_toArray, List.set_cons_zero, List.set_cons_succ]
  refine wpAnyH_done (by kernel_rfl) ?_ _
  clear hHeld
  obtain ⟨M, hM⟩ : ∃ M, M = 1 + n.path.size + (1 + n.data.size) := ⟨_, rfl⟩
  obtain ⟨L3, hL3⟩ : ∃ L, L = txB n.path ++ txB n.data := ⟨_, rfl⟩
  have hM2 : M ≤ 200 := by omega
  have HL3 : Hid (L3.length = M) := by show _ = _; rw [hL3, hM, List.length_append, txB_len, txB_len]
  rw [← hM, ← hL3] at O3
  rw [← hL3] at HZ
  clear hM hL3
  have s3 : w.heap.size + 1 ≤ w3.heap.size := X3.out.lt
  obtain ⟨-, y0, y1, y2, y3, y4, y5, y6⟩ := X3.out
  rw [HZ0.out] at y2
  go_wp2_with fail
  refine (specBig_any 4 _ z0 (by omega) (by omega)).mono ?_
  rintro e w4 ⟨v4, rfl, o4, b4⟩
  obtain ⟨g4, c4, hv4⟩ := own_full o4 (by rw [bigR_len]; omega)
  rw [bigR_len] at hv4
  subst hv4
  have X4 : Hid (BoxN w4 w.heap.size n) := X3.out.below b4
  have B4 : Hid (Below w.heap.size w w4) := B3.out.trans (b4.mono (by omega))
  have s4 : w.heap.size + 1 ≤ w4.heap.size := X4.out.lt
  have O4 : Hid (w4.ownsRow (w.heap.size + 1) 5 1 v3 M (L3.map (Value.int .u8))) := by
    refine World.ownsRow.kept O3.out (row := none) ⟨b4.os, b4.tape, b4.output, b4.size, fun k hk _ => b4.block k hk⟩ ?_
    cases hq : v3.ownBlock with
    | none => exact .inl rfl
    | some g => exact .inr (by simp)
  have N4 : Hid (∀ j u, ((bigR z0 4).map (Value.int .u8))[j]? = some u → w4.cell? ((⟨g4, 0, none⟩ : Addr).add j) = some u) := World.ownsRow.cells o4 rfl
  clear y0 y1 y2 y3 y4 y5 y6 o4 b4 X3 B3 O3
  go_wp2_with (at_builtin; go_must (refine wpList_append_own _ rfl _ _ 45 rfl (w.heap.size + 1) 5 i0 (.int .u8 0) 1 1 Tryd.underlying45 hi hz0 hz1 hz2 rfl (by decide) _ _ _ rfl O4.out ⟨g4, 0, none⟩ 4 c4 ((bigR z0 4).map (Value.int .u8)) rfl ?_ N4.out (u8_oneCell _) ?_ ?_ ?_ ?_))
  · rw [List.length_map, bigR_len]
  · unfold maxLen; omega
  · omega
  · exact s4
  intro v5 w5 ho5 hg5 _
  have b5 : Below (w.heap.size + 1) w4 w5 := (Below.refl _ _).grown hg5 s4 (fun q hq => (World.ownsRow.lt O4.out q hq).1)
  have X5 : Hid (BoxN w5 w.heap.size n) := X4.out.belowM b5 (by omega)
  have B5 : Hid (Below w.heap.size w w5) := B4.out.trans (b5.mono (by omega))
  have s5 : w.heap.size + 1 ≤ w5.heap.size := X5.out.lt
  obtain ⟨L5, hL5⟩ : ∃ L, L = L3 ++ bigR z0 4 := ⟨_, rfl⟩
  have O5 : Hid (w5.ownsRow (w.heap.size + 1) 5 1 v5 (M + 4) (L5.map (Value.int .u8))) := by
    show World.ownsRow _ _ _ _ _ _ _
    rw [hL5, List.map_append]; exact ho5
  have HL5 : Hid (L5.length = M + 4) := by show _ = _; rw [hL5, List.length_append, HL3.out, bigR_len]
  rw [← hL5] at HZ
  clear ho5 hg5 b5 X4 B4 O4 N4 hL5
  obtain ⟨-, y0, y1, y2, y3, y4, y5, y6⟩ := X5.out
  rw [HZ1.out] at y3
  go_wp2_with fail
  refine (specBig_any 4 _ z1 (by omega) (by omega)).mono ?_
  rintro e w6 ⟨v6, rfl, o6, b6⟩
  obtain ⟨g6, c6, hv6⟩ := own_full o6 (by rw [bigR_len]; omega)
  rw [bigR_len] at hv6
  subst hv6
  have X6 : Hid (BoxN w6 w.heap.size n) := X5.out.below b6
  have B6 : Hid (Below w.heap.size w w6) := B5.out.trans (b6.mono (by omega))
  have s6 : w.heap.size + 1 ≤ w6.heap.size := X6.out.lt
  have O6 : Hid (w6.ownsRow (w.heap.size + 1) 5 1 v5 (M + 4) (L5.map (Value.int .u8))) := by
    refine World.ownsRow.kept O5.out (row := none) ⟨b6.os, b6.tape, b6.output, b6.size, fun k hk _ => b6.block k hk⟩ ?_
    cases hq : v5.ownBlock with
    | none => exact .inl rfl
    | some g => exact .inr (by simp)
  have N6 : Hid (∀ j u, ((bigR z1 4).map (Value.int .u8))[j]? = some u → w6.cell? ((⟨g6, 0, none⟩ : Addr).add j) = some u) := World.ownsRow.cells o6 rfl
  clear y0 y1 y2 y3 y4 y5 y6 o6 b6 X5 B5 O5
  go_wp2_with (at_builtin; go_must (refine wpList_append_own _ rfl _ _ 45 rfl (w.heap.size + 1) 5 i0 (.int .u8 0) 1 1 Tryd.underlying45 hi hz0 hz1 hz2 rfl (by decide) _ _ _ rfl O6.out ⟨g6, 0, none⟩ 4 c6 ((bigR z1 4).map (Value.int .u8)) rfl ?_ N6.out (u8_oneCell _) ?_ ?_ ?_ ?_))
  · rw [List.length_map, bigR_len]
  · unfold maxLen; omega
  · omega
  · exact s6
  intro v7 w7 ho7 hg7 _
  have b7 : Below (w.heap.size + 1) w6 w7 := (Below.refl _ _).grown hg7 s6 (fun q hq => (World.ownsRow.lt O6.out q hq).1)
  have X7 : Hid (BoxN w7 w.heap.size n) := X6.out.belowM b7 (by omega)
  have B7 : Hid (Below w.heap.size w w7) := B6.out.trans (b7.mono (by omega))
  have s7 : w.heap.size + 1 ≤ w7.heap.size := X7.out.lt
  obtain ⟨L7, hL7⟩ : ∃ L, L = L5 ++ bigR z1 4 := ⟨_, rfl⟩
  have O7 : Hid (w7.ownsRow (w.heap.size + 1) 5 1 v7 (M + 8) (L7.map (Value.int .u8))) := by
    show World.ownsRow _ _ _ _ _ _ _
    rw [hL7, List.map_append]; exact ho7
  have HL7 : Hid (L7.length = M + 8) := by show _ = _; rw [hL7, List.length_append, HL5.out, bigR_len]
  rw [← hL7] at HZ
  clear ho7 hg7 b7 X6 B6 O6 N6 hL7
  obtain ⟨-, y0, y1, y2, y3, y4, y5, y6⟩ := X7.out
  rw [HZ2.out] at y4
  go_wp2_with fail
  refine (specBig_any 4 _ z2 (by omega) (by omega)).mono ?_
  rintro e w8 ⟨v8, rfl, o8, b8⟩
  obtain ⟨g8, c8, hv8⟩ := own_full o8 (by rw [bigR_len]; omega)
  rw [bigR_len] at hv8
  subst hv8
  have X8 : Hid (BoxN w8 w.heap.size n) := X7.out.below b8
  have B8 : Hid (Below w.heap.size w w8) := B7.out.trans (b8.mono (by omega))
  have s8 : w.heap.size + 1 ≤ w8.heap.size := X8.out.lt
  have O8 : Hid (w8.ownsRow (w.heap.size + 1) 5 1 v7 (M + 8) (L7.map (Value.int .u8))) := by
    refine World.ownsRow.kept O7.out (row := none) ⟨b8.os, b8.tape, b8.output, b8.size, fun k hk _ => b8.block k hk⟩ ?_
    cases hq : v7.ownBlock with
    | none => exact .inl rfl
    | some g => exact .inr (by simp)
  have N8 : Hid (∀ j u, ((bigR z2 4).map (Value.int .u8))[j]? = some u → w8.cell? ((⟨g8, 0, none⟩ : Addr).add j) = some u) := World.ownsRow.cells o8 rfl
  clear y0 y1 y2 y3 y4 y5 y6 o8 b8 X7 B7 O7
  go_wp2_with (at_builtin; go_must (refine wpList_append_own _ rfl _ _ 45 rfl (w.heap.size + 1) 5 i0 (.int .u8 0) 1 1 Tryd.underlying45 hi hz0 hz1 hz2 rfl (by decide) _ _ _ rfl O8.out ⟨g8, 0, none⟩ 4 c8 ((bigR z2 4).map (Value.int .u8)) rfl ?_ N8.out (u8_oneCell _) ?_ ?_ ?_ ?_))
  · rw [List.length_map, bigR_len]
  · unfold maxLen; omega
  · omega
  · exact s8
  intro v9 w9 ho9 hg9 _
  have b9 : Below (w.heap.size + 1) w8 w9 := (Below.refl _ _).grown hg9 s8 (fun q hq => (World.ownsRow.lt O8.out q hq).1)
  have X9 : Hid (BoxN w9 w.heap.size n) := X8.out.belowM b9 (by omega)
  have B9 : Hid (Below w.heap.size w w9) := B8.out.trans (b9.mono (by omega))
  have s9 : w.heap.size + 1 ≤ w9.heap.size := X9.out.lt
  obtain ⟨L9, hL9⟩ : ∃ L, L = L7 ++ bigR z2 4 := ⟨_, rfl⟩
  have O9 : Hid (w9.ownsRow (w.heap.size + 1) 5 1 v9 (M + 12) (L9.map (Value.int .u8))) := by
    show World.ownsRow _ _ _ _ _ _ _
    rw [hL9, List.map_append]; exact ho9
  have HL9 : Hid (L9.length = M + 12) := by show _ = _; rw [hL9, List.length_append, HL7.out, bigR_len]
  rw [← hL9] at HZ
  clear ho9 hg9 b9 X8 B8 O8 N8 hL9
  obtain ⟨-, y0, y1, y2, y3, y4, y5, y6⟩ := X9.out
  rw [HZ3.out] at y5
  go_wp2_with fail
  refine (specBig_any 4 _ z3 (by omega) (by omega)).mono ?_
  rintro e w10 ⟨v10, rfl, o10, b10⟩
  obtain ⟨g10, c10, hv10⟩ := own_full o10 (by rw [bigR_len]; omega)
  rw [bigR_len] at hv10
  subst hv10
  have X10 : Hid (BoxN w10 w.heap.size n) := X9.out.below b10
  have B10 : Hid (Below w.heap.size w w10) := B9.out.trans (b10.mono (by omega))
  have s10 : w.heap.size + 1 ≤ w10.heap.size := X10.out.lt
  have O10 : Hid (w10.ownsRow (w.heap.size + 1) 5 1 v9 (M + 12) (L9.map (Value.int .u8))) := by
    refine World.ownsRow.kept O9.out (row := none) ⟨b10.os, b10.tape, b10.output, b10.size, fun k hk _ => b10.block k hk⟩ ?_
    cases hq : v9.ownBlock with
    | none => exact .inl rfl
    | some g => exact .inr (by simp)
  have N10 : Hid (∀ j u, ((bigR z3 4).map (Value.int .u8))[j]? = some u → w10.cell? ((⟨g10, 0, none⟩ : Addr).add j) = some u) := World.ownsRow.cells o10 rfl
  clear y0 y1 y2 y3 y4 y5 y6 o10 b10 X9 B9 O9
  go_wp2_with (at_builtin; go_must (refine wpList_append_own _ rfl _ _ 45 rfl (w.heap.size + 1) 5 i0 (.int .u8 0) 1 1 Tryd.underlying45 hi hz0 hz1 hz2 rfl (by decide) _ _ _ rfl O10.out ⟨g10, 0, none⟩ 4 c10 ((bigR z3 4).map (Value.int .u8)) rfl ?_ N10.out (u8_oneCell _) ?_ ?_ ?_ ?_))
  · rw [List.length_map, bigR_len]
  · unfold maxLen; omega
  · omega
  · exact s10
  intro v11 w11 ho11 hg11 _
  have b11 : Below (w.heap.size + 1) w10 w11 := (Below.refl _ _).grown hg11 s10 (fun q hq => (World.ownsRow.lt O10.out q hq).1)
  have X11 : Hid (BoxN w11 w.heap.size n) := X10.out.belowM b11 (by omega)
  have B11 : Hid (Below w.heap.size w w11) := B10.out.trans (b11.mono (by omega))
  have s11 : w.heap.size + 1 ≤ w11.heap.size := X11.out.lt
  obtain ⟨L11, hL11⟩ : ∃ L, L = L9 ++ bigR z3 4 := ⟨_, rfl⟩
  have O11 : Hid (w11.ownsRow (w.heap.size + 1) 5 1 v11 (M + 16) (L11.map (Value.int .u8))) := by
    show World.ownsRow _ _ _ _ _ _ _
    rw [hL11, List.map_append]; exact ho11
  have HL11 : Hid (L11.length = M + 16) := by show _ = _; rw [hL11, List.length_append, HL9.out, bigR_len]
  rw [← hL11] at HZ
  clear ho11 hg11 b11 X10 B10 O10 N10 hL11
  obtain ⟨-, y0, y1, y2, y3, y4, y5, y6⟩ := X11.out
  rw [HZ4.out] at y6
  go_wp2_with fail
  refine (specBig_any 4 _ z4 (by omega) (by omega)).mono ?_
  rintro e w12 ⟨v12, rfl, o12, b12⟩
  obtain ⟨g12, c12, hv12⟩ := own_full o12 (by rw [bigR_len]; omega)
  rw [bigR_len] at hv12
  subst hv12
  have X12 : Hid (BoxN w12 w.heap.size n) := X11.out.below b12
  have B12 : Hid (Below w.heap.size w w12) := B11.out.trans (b12.mono (by omega))
  have s12 : w.heap.size + 1 ≤ w12.heap.size := X12.out.lt
  have O12 : Hid (w12.ownsRow (w.heap.size + 1) 5 1 v11 (M + 16) (L11.map (Value.int .u8))) := by
    refine World.ownsRow.kept O11.out (row := none) ⟨b12.os, b12.tape, b12.output, b12.size, fun k hk _ => b12.block k hk⟩ ?_
    cases hq : v11.ownBlock with
    | none => exact .inl rfl
    | some g => exact .inr (by simp)
  have N12 : Hid (∀ j u, ((bigR z4 4).map (Value.int .u8))[j]? = some u → w12.cell? ((⟨g12, 0, none⟩ : Addr).add j) = some u) := World.ownsRow.cells o12 rfl
  clear y0 y1 y2 y3 y4 y5 y6 o12 b12 X11 B11 O11
  go_wp2_with (at_builtin; go_must (refine wpList_append_own _ rfl _ _ 45 rfl (w.heap.size + 1) 5 i0 (.int .u8 0) 1 1 Tryd.underlying45 hi hz0 hz1 hz2 rfl (by decide) _ _ _ rfl O12.out ⟨g12, 0, none⟩ 4 c12 ((bigR z4 4).map (Value.int .u8)) rfl ?_ N12.out (u8_oneCell _) ?_ ?_ ?_ ?_))
  · rw [List.length_map, bigR_len]
  · unfold maxLen; omega
  · omega
  · exact s12
  intro v13 w13 ho13 hg13 _
  have b13 : Below (w.heap.size + 1) w12 w13 := (Below.refl _ _).grown hg13 s12 (fun q hq => (World.ownsRow.lt O12.out q hq).1)
  have X13 : Hid (BoxN w13 w.heap.size n) := X12.out.belowM b13 (by omega)
  have B13 : Hid (Below w.heap.size w w13) := B12.out.trans (b13.mono (by omega))
  have s13 : w.heap.size + 1 ≤ w13.heap.size := X13.out.lt
  obtain ⟨L13, hL13⟩ : ∃ L, L = L11 ++ bigR z4 4 := ⟨_, rfl⟩
  have O13 : Hid (w13.ownsRow (w.heap.size + 1) 5 1 v13 (M + 20) (L13.map (Value.int .u8))) := by
    show World.ownsRow _ _ _ _ _ _ _
    rw [hL13, List.map_append]; exact ho13
  have HL13 : Hid (L13.length = M + 20) := by show _ = _; rw [hL13, List.length_append, HL11.out, bigR_len]
  rw [← hL13] at HZ
  clear ho13 hg13 b13 X12 B12 O12 N12 hL13
  go_wp2
  go_ret
  exact ⟨_, rfl, (own_of HL13.out HZ.out O13.out).mono (Nat.le_succ _), B13.out⟩

end Go.Proofs.YtgjenbgclpmjmaaDoor

namespace Go.Proofs.YtgjenbgclpmjmaaDoor
open Go.RowKit Go.Shelf

theorem ownsRow_keep {w w' : World} {lo n z : Nat} {e : TypeId} {v : Value} {us : List Value} (ho : w.ownsRow lo e z v n us) (hb : Below w.heap.size w w') : w'.ownsRow lo e z v n us := by
  refine ⟨ho.1, ?_⟩
  rcases ho.2 with hn | ⟨g, cap, cur, rfl, hbg, hgg, rest⟩
  · exact .inl hn
  · exact .inr ⟨g, cap, cur, rfl, hbg, by rw [hb.block g (Array.getElem?_eq_some_iff.1 hgg).1]; exact hgg, rest⟩

set_option maxHeartbeats 1000000 in
set_option maxRecDepth 100000 in
theorem sNodes_row (w : World) (b o n cap : Nat) (ns : List Nd) (hp : ns.length = n) (hn : n ≤ 1000) (hb : b < w.heap.size) (hc : ∀ i, i < n → CellsN w b (o + i * 7) (nAt ns i)) (hok : ∀ i, i < n → okNd (nAt ns i) = true) :
    Calls Tryd.prog 86 #[.slice (some ⟨b, o, none⟩) n cap] w fun e w' => ∃ v', e = .returned v' ∧ Own .u8 5 w' w.heap.size v' (nodesB ns) ∧ Below w.heap.size w w' := by
  obtain ⟨i0, hi, hz0, hz1, hz2⟩ := info_parts Tryd.infoB
  have HC : Hid (∀ i, i < n → CellsN w b (o + i * 7) (nAt ns i)) := hc
  have HP : Hid (ns.length = n) := hp
  have HOK : Hid (∀ k, k < n → okNd (nAt ns k) = true) := hok
  have HLN : Hid (∀ k, k ≤ n → (nodesB (ns.take k)).length ≤ k * 188) := fun k hk => nodesB_len (fun k hk => hok k (by rw [← hp]; exact hk)) k (by rw [hp]; exact hk)
  have O0 : Hid (Own .u8 5 (w.alloc (.cells #[] 5)) w.heap.size (.slice (some ⟨w.heap.size, 0, none⟩) 0 0) (nodesB (ns.take 0))) := World.ownsRow_lit w #[] 0 (Nat.le_refl _) (Nat.zero_le _) rfl
  have B0 : Hid (Below w.heap.size w (w.alloc (.cells #[] 5))) := (Below.refl _ _).alloc (Nat.le_refl _) _
  clear hc hp hok
  go_enter Tryd.func86, Tryd.ntmps86
  go_wp2
  go_loopw [3, 4] (fun vo vk wr => ∃ k : Nat, k ≤ n ∧ vk = .int .i64 k ∧ Hid (Own .u8 5 wr w.heap.size vo (nodesB (ns.take k))) ∧ Hid (Below w.heap.size w wr)) (fun _ i _ => n - (intOf i).toNat)
  case atStart => exact ⟨0, Nat.zero_le _, rfl, O0, B0⟩
  case round =>
    obtain ⟨k, hk, rfl, HW, HB⟩ := hrel
    have sB := HB.out.size
    by_cases hlt : k < n
    · have hltI : (k : Int) < (n : Int) := by omega
      obtain ⟨c0, c1, c2, c3, c4, c5, c6⟩ := (HC.out k hlt).below HB.out hb
      go_wp2_with fail
      clear c0 c1 c2 c3 c4 c5 c6
      refine (sNode_any _ (nAt ns k) (HOK.out k hlt)).mono ?_
      rintro e w1 ⟨v1, rfl, o1, b1⟩
      have hl1 : (nodeB (nAt ns k)).length ≤ 188 ∧ 0 < (nodeB (nAt ns k)).length := by
        have := okNd_all (HOK.out k hlt)
        rw [nodeB_len]; omega
      have hl0 := HLN.out k hk
      obtain ⟨g1, q1, hv1⟩ := own_full o1 hl1.2
      obtain ⟨L, hL⟩ : ∃ L, L = nodesB (ns.take k) := ⟨_, rfl⟩
      obtain ⟨N, hN⟩ : ∃ N, N = nodeB (nAt ns k) := ⟨_, rfl⟩
      have HS : Hid (L ++ N = nodesB (ns.take (k + 1))) := by show _ = _; rw [hL, hN]; exact nodesB_succ ns k (by rw [HP.out]; exact hlt)
      rw [← hN] at hv1 o1 hl1
      rw [← hL] at HW hl0
      generalize hm : N.length = m at *
      have HM : Hid (N.length = m) := hm
      subst hv1
      have O1 : Hid (w1.ownsRow w.heap.size 5 1 u3 L.length (L.map (Value.int .u8))) := HW.out.below b1
      have N1 : Hid (∀ j u, (N.map (Value.int .u8))[j]? = some u → w1.cell? ((⟨g1, 0, none⟩ : Addr).add j) = some u) := World.ownsRow.cells o1 rfl
      have B1 : Hid (Below w.heap.size w w1) := HB.out.trans (b1.mono sB)
      have s1 := B1.out.size
      clear o1 b1 HW HB hL hN hm
      go_wp2_with (at_builtin; go_must (refine wpList_append_own _ rfl _ _ 45 rfl w.heap.size 5 i0 (.int .u8 0) 1 1 Tryd.underlying45 hi hz0 hz1 hz2 rfl (by decide) _ _ _ rfl O1.out ⟨g1, 0, none⟩ m q1 (N.map (Value.int .u8)) rfl ?_ N1.out (u8_oneCell _) ?_ ?_ ?_ ?_))
      · rw [List.length_map, HM.out, Nat.mul_one]
      · unfold maxLen; omega
      · omega
      · exact s1
      intro v2 w2 ho2 hg2 _
      have O2 : Hid (Own .u8 5 w2 w.heap.size v2 (nodesB (ns.take (k + 1)))) := by
        refine own_of (q := L.length + m) (ys := L ++ N) (by rw [List.length_append, HM.out]) HS.out.symm ?_
        rw [List.map_append]; exact ho2
      have B2 : Hid (Below w.heap.size w w2) := B1.out.grown hg2 s1 (fun q hq => (World.ownsRow.lt O1.out q hq).1)
      clear ho2 hg2 O1 N1 B1 HS HM hl0 hl1
      go_wp2
      exact ⟨⟨k + 1, by omega, by go_num, O2, B2⟩, by simp [intOf]; omega⟩
    · have hkn : k = n := by omega
      subst hkn
      go_wp2
      go_ret
      refine ⟨_, rfl, ?_, HB.out⟩
      rw [← nodesB_all ns k (by rw [HP.out]; exact Nat.le_refl _)]
      exact HW.out

set_option maxHeartbeats 1000000 in
set_option maxRecDepth 100000 in
theorem sNodes_nil (w : World) (ao : Option Addr) (cap : Nat) :
    Calls Tryd.prog 86 #[.slice ao 0 cap] w fun e w' => ∃ v', e = .returned v' ∧ Own .u8 5 w' w.heap.size v' [] ∧ Below w.heap.size w w' := by
  have O0 : Hid (Own .u8 5 (w.alloc (.cells #[] 5)) w.heap.size (.slice (some ⟨w.heap.size, 0, none⟩) 0 0) []) := World.ownsRow_lit w #[] 0 (Nat.le_refl _) (Nat.zero_le _) rfl
  have B0 : Hid (Below w.heap.size w (w.alloc (.cells #[] 5))) := (Below.refl _ _).alloc (Nat.le_refl _) _
  go_enter Tryd.func86, Tryd.ntmps86
  go_wp2
  go_rounds 1
  go_ret
  exact ⟨_, rfl, O0.out, B0.out⟩

theorem sNodes_any (w : World) (v : Value) (ns : List Nd) (h : RdN w v ns) (hn : ns.length ≤ 1000) (hok : ∀ i, i < ns.length → okNd (nAt ns i) = true) :
    Calls Tryd.prog 86 #[v] w fun e w' => ∃ v', e = .returned v' ∧ Own .u8 5 w' w.heap.size v' (nodesB ns) ∧ Below w.heap.size w w' := by
  obtain ⟨ao, cap, rfl, h1, h2, h3⟩ := h
  rcases h3 with rfl | ⟨b, o, rfl, hb, hc⟩
  · exact sNodes_nil w ao cap
  · exact sNodes_row w b o ns.length cap ns rfl hn hb hc hok

set_option maxHeartbeats 1000000 in
set_option maxRecDepth 100000 in
theorem sTree_any (w : World) (v : Value) (ns : List Nd) (h : RdN w v ns) (hn : ns.length ≤ 1048576) (hsz : ∀ i, (nAt ns i).path.size ≤ 1048576 ∧ (nAt ns i).data.size ≤ 1048576) :
    Calls Tryd.prog 43 #[.agg #[v]] w fun e w' => ∃ v', e = .returned v' ∧ Own .u8 5 w' w.heap.size v' (treeB ns) ∧ Below w.heap.size w w' := by
  obtain ⟨ao, ca, rfl, _, _⟩ := h.len
  have HR : Hid (RdN w (.slice ao ns.length ca) ns) := h
  have HZ : Hid (∀ i, (nAt ns i).path.size ≤ 1048576 ∧ (nAt ns i).data.size ≤ 1048576) := hsz
  have B0 : Hid (Below w.heap.size w (w.alloc (.cells #[.slice ao ns.length ca] 30))) := (Below.refl _ _).alloc (Nat.le_refl _) _
  have X0 : Hid (Boxed (w.alloc (.cells #[.slice ao ns.length ca] 30)) w.heap.size 30 (.slice ao ns.length ca)) := Boxed.new _ _ _
  clear h hsz
  go_enter Tryd.func43, Tryd.ntmps43
  go_wp2_with fail
  generalize w.alloc (.cells #[.slice ao ns.length ca] 30) = w0 at *
  refine (specTree_any _ _ ns (HR.out.below B0.out) hn HZ.out).mono ?_
  rintro e w1 ⟨rfl, b1⟩
  have B1 : Hid (Below w.heap.size w w1) := B0.out.trans (b1.mono B0.out.size)
  have X1 : Hid (Boxed w1 w.heap.size 30 (.slice ao ns.length ca)) := boxed_below b1 X0.out
  clear b1 X0 B0
  have s1 := B1.out.size
  by_cases hok : okTree ns = true
  rotate_left
  · have hok' : okTree ns = false := by simpa using hok
    have HT : Hid (treeB ns = []) := by show _ = _; unfold treeB; rw [if_neg hok]
    have O2 : Hid (Own .u8 5 (w1.alloc (.cells #[] 5)) w.heap.size (.slice (some ⟨w1.heap.size, 0, none⟩) 0 0) []) := Own.mono (World.ownsRow_lit w1 #[] 0 (Nat.le_refl _) (Nat.zero_le _) rfl) s1
    rw [hok']
    clear hok hok'
    go_wp2
    go_ret
    exact ⟨_, rfl, (by rw [HT.out]; exact O2.out), B1.out.alloc s1 _⟩
  have HT : Hid (treeB ns = nodesB ns) := by show _ = _; unfold treeB; rw [if_pos hok]
  have HOK : Hid (∀ k, k < ns.length → okNd (nAt ns k) = true) := fun k hk => okTree_nd hok k hk
  have hn2 := okTree_len hok
  rw [hok]
  clear hok
  have c0 := X1.out.cell
  go_wp2_with fail
  refine (sNodes_any _ _ ns (HR.out.below B1.out) hn2 HOK.out).mono ?_
  rintro e w2 ⟨v2, rfl, o2, b2⟩
  have O2 : Hid (Own .u8 5 w2 w.heap.size v2 (treeB ns)) := by rw [HT.out]; exact o2.mono s1
  have B2 : Hid (Below w.heap.size w w2) := B1.out.trans (b2.mono s1)
  clear o2 b2 c0
  go_wp2
  go_ret
  exact ⟨_, rfl, O2.out, B2.out⟩

end Go.Proofs.YtgjenbgclpmjmaaDoor

namespace Go.Proofs.YtgjenbgclpmjmaaDoor
open Go.RowKit Go.Shelf

theorem own_apart {k : IntKind} {e e' : TypeId} {w w' : World} {B B' : Nat} {v v' : Value} {xs xs' : List Int} (h : Own k e w B v xs) (h' : Own k e' w' B' v' xs') (hlt : w.heap.size ≤ B') : v.ownBlock = none ∨ v.ownBlock ≠ v'.ownBlock := by
  cases hv : v.ownBlock with
  | none => exact .inl rfl
  | some g =>
    refine .inr fun e => ?_
    have h1 := (h.lt g hv).2
    have h2 := (h'.lt g e.symm).1
    omega
theorem Own.keepT {w w' : World} {lo : Nat} {v : Value} {xs : List Int} {t : TypeId} (h : Own .u8 5 w lo v xs) (hk : KT t w w') (ht : 5 ≠ t) : Own .u8 5 w' lo v xs := by
  refine ⟨h.1, ?_⟩
  rcases h.2 with hn | ⟨g, cap, cur, rfl, hbg, hgg, rest⟩
  · exact .inl hn
  · exact .inr ⟨g, cap, cur, rfl, hbg, hk.box hgg ht, rest⟩

set_option maxHeartbeats 2000000 in
set_option maxRecDepth 100000 in
theorem lawEncTree_walk (w : World) (v : Value) (ns : List Nd) (h : InT w v ns) :
    Calls Tryd.prog 9 #[.agg #[v]] w fun e w' => e = .returned (.bool true) ∧ Below w.heap.size w w' := by
  obtain ⟨hr, hsz⟩ := h
  obtain ⟨ao, ca, rfl, _, _⟩ := hr.len
  have B0 : Hid (Below w.heap.size w (w.alloc (.cells #[.slice ao ns.length ca] 25))) := (Below.refl _ _).alloc (Nat.le_refl _) _
  have X0 : Hid (Boxed (w.alloc (.cells #[.slice ao ns.length ca] 25)) w.heap.size 25 (.slice ao ns.length ca)) := Boxed.new _ _ _
  have HR : Hid (RdN w (.slice ao ns.length ca) ns) := hr
  have HZ : Hid (∀ i, (nAt ns i).path.size ≤ maxLen ∧ (nAt ns i).data.size ≤ maxLen) := hsz
  clear hr hsz
  go_enter Tryd.func9, Tryd.ntmps9
  go_wp2_with fail
  generalize w.alloc (.cells #[.slice ao ns.length ca] 25) = w0 at *
  refine (szTree_any _ _ ns (HR.out.below B0.out) HZ.out 1048576 (by omega) (by omega)).mono ?_
  rintro e w1 ⟨r, rfl, hsz, b1⟩
  have B1 : Hid (Below w.heap.size w w1) := B0.out.trans (b1.mono B0.out.size)
  have X1 : Hid (Boxed w1 w.heap.size 25 (.slice ao ns.length ca)) := boxed_below b1 X0.out
  clear b1 X0 B0
  by_cases hneg : r < 0
  · clear hsz
    go_wp2
    go_ret
    exact ⟨rfl, B1.out⟩
  have hsz' : r + ns.length + totN ns = 1048576 := by omega
  have hn : ns.length ≤ 1048576 := by omega
  have hd : Hid (∀ i, (nAt ns i).path.size ≤ 1048576 ∧ (nAt ns i).data.size ≤ 1048576) := fun i => by have := totN_ge ns i; omega
  clear hsz hsz'
  have hls := treeB_len ns
  obtain ⟨L, hL⟩ : ∃ L, L = treeB ns := ⟨_, rfl⟩
  rw [← hL] at hls
  have HL : Hid (treeB ns = L) := hL.symm
  clear hL
  have c0 := X1.out.cell
  go_wp2_with fail
  refine (toTree_any _ _ ns (HR.out.below B1.out) hn).mono ?_
  rintro e w2 ⟨a2, k2, rfl, o2, b2⟩
  have Q2 : Hid (RdN w2 (.slice a2 ns.length k2) ns) := o2.rd
  have B2 : Hid (Below w.heap.size w w2) := B1.out.trans (b2.mono B1.out.size)
  have X2 : Hid (Boxed w2 w.heap.size 25 (.slice ao ns.length ca)) := boxed_below b2 X1.out
  clear o2 b2 c0 X1
  go_wp2_with fail
  refine (sTree_any _ _ ns Q2.out hn hd.out).mono ?_
  rw [HL.out]
  rintro e w3 ⟨v3, rfl, o3, b3⟩
  have s2 := B2.out.size
  have O3 : Hid (Own .u8 5 w3 w2.heap.size v3 L) := o3
  have B3 : Hid (Below w.heap.size w w3) := B2.out.trans (b3.mono s2)
  have X3 : Hid (Boxed w3 w.heap.size 25 (.slice ao ns.length ca)) := boxed_below b3 X2.out
  clear b3 o3 Q2 X2
  have c0 := X3.out.cell
  go_wp2_with fail
  refine (toTree_any _ _ ns (HR.out.below B3.out) hn).mono ?_
  rintro e w4 ⟨a4, k4, rfl, o4, b4⟩
  have s3 := B3.out.size
  have Q4 : Hid (OwnN 81 w4 w3.heap.size (.slice a4 ns.length k4) ns) := o4
  have B4 : Hid (Below w.heap.size w w4) := B3.out.trans (b4.mono s3)
  have X4 : Hid (Boxed w4 w.heap.size 25 (.slice ao ns.length ca)) := boxed_below b4 X3.out
  have O34 : Hid (Own .u8 5 w4 w2.heap.size v3 L) := O3.out.below b4
  have s34 := b4.size
  clear o4 b4 c0 X3 O3
  go_wp2_with fail
  have BA : Hid (Below w4.heap.size w4 (w4.alloc (.cells #[.slice a4 ns.length k4] 30))) := (Below.refl _ _).alloc (Nat.le_refl _) _
  have Y5 : Hid (Boxed (w4.alloc (.cells #[.slice a4 ns.length k4] 30)) w4.heap.size 30 (.slice a4 ns.length k4)) := Boxed.new _ _ _
  generalize w4.alloc (.cells #[.slice a4 ns.length k4] 30) = w5 at *
  have Y5lt := Y5.out.lt
  have s4 := B4.out.size
  have s45 := BA.out.size
  have B5 : Hid (Below w.heap.size w w5) := B4.out.trans (BA.out.mono s4)
  have X5 : Hid (Boxed w5 w.heap.size 25 (.slice ao ns.length ca)) := boxed_below BA.out X4.out
  have Q5 : Hid (OwnN 81 w5 w3.heap.size (.slice a4 ns.length k4) ns) := Q4.out.below BA.out
  have O35 : Hid (Own .u8 5 w5 w2.heap.size v3 L) := O34.out.below BA.out
  clear X4 Q4 BA O34
  refine (encTree_any _ _ ns Q5.out.rd hd.out).mono ?_
  rw [HL.out]
  rintro e w6 ⟨v6, rfl, o6, b6⟩
  have s5 := B5.out.size
  have O6 : Hid (Own .u8 5 w6 w5.heap.size v6 L) := o6
  have B6 : Hid (Below w.heap.size w w6) := B5.out.trans (b6.mono s5)
  have X6 : Hid (Boxed w6 w.heap.size 25 (.slice ao ns.length ca)) := boxed_below b6 X5.out
  have Y6 : Hid (Boxed w6 w4.heap.size 30 (.slice a4 ns.length k4)) := boxed_below b6 Y5.out
  have Q6 : Hid (OwnN 81 w6 w3.heap.size (.slice a4 ns.length k4) ns) := Q5.out.below b6
  have O36 : Hid (Own .u8 5 w6 w2.heap.size v3 L) := O35.out.below b6
  have N36 : Hid (v3.ownBlock = none ∨ v3.ownBlock ≠ v6.ownBlock) := own_apart O35.out O6.out (Nat.le_refl _)
  have s56 := b6.size
  clear o6 b6 X5 Y5 Q5 B5 O35
  go_wp2_with fail
  refine (eqByteS_any _ _ _ L L O6.out.rd O36.out.rd).mono ?_
  rintro e w7 ⟨rfl, q7, rfl⟩
  rw [show decide (L = L) = true by simp]
  have D7 : Hid (Below w6.heap.size w6 (w6.drewN q7)) := below_drewN' w6 q7
  generalize w6.drewN q7 = w7 at *
  have O7 : Hid (Own .u8 5 w7 w5.heap.size v6 L) := O6.out.below D7.out
  have O37 : Hid (Own .u8 5 w7 w2.heap.size v3 L) := O36.out.below D7.out
  have B7 : Hid (Below w.heap.size w w7) := B6.out.trans (D7.out.mono B6.out.size)
  have X7 : Hid (Boxed w7 w.heap.size 25 (.slice ao ns.length ca)) := boxed_below D7.out X6.out
  have Y7 : Hid (Boxed w7 w4.heap.size 30 (.slice a4 ns.length k4)) := boxed_below D7.out Y6.out
  have Q7 : Hid (OwnN 81 w7 w3.heap.size (.slice a4 ns.length k4) ns) := Q6.out.below D7.out
  have s67 := D7.out.size
  clear D7 O6 O36 B6 X6 Y6 Q6
  have c0 := X7.out.cell
  have d0 := Y7.out.cell
  have HT : Hid (∀ q, Calls Tryd.prog 16 #[.agg #[.slice ao ns.length ca]] (w7.drewN q) fun e w' => ∃ a c, e = .returned (.agg #[.slice a ns.length c]) ∧ Hid (RdN w' (.slice a ns.length c) ns) ∧ Hid (RdN w' (.slice a4 ns.length k4) ns) ∧ w'.cell? ⟨w4.heap.size, 0, none⟩ = some (.slice a4 ns.length k4) ∧ Hid (Below w7.heap.size w7 w')) := by
    intro q
    refine (toTree_any _ _ ns ((HR.out.below B7.out).below (below_drewN' w7 q)) hn).mono ?_
    rintro e w' ⟨a, c, rfl, o', b'⟩
    have b7' : Below w7.heap.size w7 w' := (below_drewN' w7 q).trans b'
    exact ⟨a, c, rfl, o'.rd, Q7.out.rd.below b7', (boxed_below b7' Y7.out).cell, b7'⟩
  go_wp2
  go_region_with (first | (go_at_call 16; refine (HT.out 1).mono ?_; rintro e w' ⟨a, c, rfl, r1, r2, k0, bw⟩) | (go_at_call 18; refine (eqTree_same _ _ _ ns r2.out r1.out hn).mono ?_; rintro e w'' ⟨rfl, b''⟩))
  all_goals
    have b8 : Below w7.heap.size w7 w'' := bw.out.trans (b''.mono bw.out.size)
    have O8 : Hid (Own .u8 5 w'' w5.heap.size v6 L) := O7.out.below b8
    have O38 : Hid (Own .u8 5 w'' w2.heap.size v3 L) := O37.out.below b8
    have B8 : Hid (Below w.heap.size w w'') := B7.out.trans (b8.mono B7.out.size)
    have X8 : Hid (Boxed w'' w.heap.size 25 (.slice ao ns.length ca)) := boxed_below b8 X7.out
    have Y8 : Hid (Boxed w'' w4.heap.size 30 (.slice a4 ns.length k4)) := boxed_below b8 Y7.out
    have Q8 : Hid (OwnN 81 w'' w3.heap.size (.slice a4 ns.length k4) ns) := Q7.out.below b8
    have s78 := b8.size
    clear b8 b'' bw k0 r1 r2 O7 O37 B7 X7 Y7 Q7 HT c0 d0
    have d0 := Y8.out.cell
    go_wp2_with fail
    refine (markTree_any _ w3.heap.size 1 _ ns Q8.out (by omega) (by omega) hn).mono ?_
    rintro e w9 ⟨rfl, b9, k9⟩
    have O9 : Hid (Own .u8 5 w9 w5.heap.size v6 L) := O8.out.keepT k9 (by decide)
    have O39 : Hid (Own .u8 5 w9 w2.heap.size v3 L) := O38.out.keepT k9 (by decide)
    have B9 : Hid (Below w.heap.size w w9) := B8.out.trans (b9.mono s3)
    have X9 : Hid (Boxed w9 w.heap.size 25 (.slice ao ns.length ca)) := k9.box X8.out (by decide)
    have s9 := b9.size
    clear b9 k9 O8 O38 B8 X8 Y8 Q8 d0
    have hk9 : ¬ ((1 + 7 * ns.length : Nat) : Int) < 0 := by omega
    go_wp2_with fail
    refine (eqByteS_any _ _ _ L L O9.out.rd O39.out.rd).mono ?_
    rintro e w10 ⟨rfl, q10, rfl⟩
    rw [show decide (L = L) = true by simp]
    go_wp2_with fail
    refine (markByteS_any _ _ _ L 1 (O9.out.drewN q10) (by omega) (by omega) (by omega)).mono ?_
    rintro e w11 ⟨rfl, o11, g11⟩
    have b11 : Below w5.heap.size w9 w11 := ((below_drewN' w9 q10).mono (by omega)).grown g11 (by show _ ≤ w9.heap.size; omega) (fun k hk => (O9.out.lt k hk).1)
    have X11 : Hid (Boxed w11 w.heap.size 25 (.slice ao ns.length ca)) := by
      have hlt : w.heap.size < w5.heap.size := by have := Y5lt; omega
      exact (b11.block _ hlt).trans X9.out
    have B11 : Hid (Below w.heap.size w w11) := B9.out.trans (b11.mono s5)
    have O311 : Hid (Own .u8 5 w11 w2.heap.size v3 L) := (O39.out.drewN q10).other g11 N36.out
    have O11 : Hid (Own .u8 5 w11 w5.heap.size v6 (marks 1 L.length)) := o11
    have s11 := b11.size
    clear o11 g11 b11 O9 O39 X9 B9
    generalize hm : L.length = m at *
    have HM : Hid (L.length = m) := hm
    clear hm
    go_wp2_with fail
    refine (heldByteS_any _ _ m 1 O11.out.rd (by omega) (by omega) (by omega)).mono ?_
    rintro e w12 ⟨rfl, rfl⟩
    have hq0 : ¬ (1 + (m : Int)) < 0 := by omega
    have c0 := X11.out.cell
    go_wp2_with fail
    refine (toTree_any _ _ ns (HR.out.below B11.out) hn).mono ?_
    rintro e w13 ⟨a13, k13, rfl, o13, b13⟩
    have Q13 : Hid (RdN w13 (.slice a13 ns.length k13) ns) := o13.rd
    have B13 : Hid (Below w.heap.size w w13) := B11.out.trans (b13.mono B11.out.size)
    have O313 : Hid (Own .u8 5 w13 w2.heap.size v3 L) := O311.out.below b13
    clear o13 b13 O311 O11 X11 B11 c0
    go_wp2_with fail
    refine (encTree_any _ _ ns Q13.out hd.out).mono ?_
    rw [HL.out]
    rintro e w14 ⟨v14, rfl, o14, b14⟩
    have O14 : Hid (Own .u8 5 w14 w13.heap.size v14 L) := o14
    have O314 : Hid (Own .u8 5 w14 w2.heap.size v3 L) := O313.out.below b14
    have B14 : Hid (Below w.heap.size w w14) := B13.out.trans (b14.mono B13.out.size)
    clear o14 b14 O313 Q13 B13
    go_wp2_with fail
    refine (eqByteS_any _ _ _ L L O14.out.rd O314.out.rd).mono ?_
    rintro e w15 ⟨rfl, q15, rfl⟩
    rw [show decide (L = L) = true by simp]
    have B15 : Hid (Below w.heap.size w (w14.drewN q15)) := B14.out.trans ((below_drewN' w14 q15).mono B14.out.size)
    go_wp2
    go_ret
    exact ⟨rfl, B15.out⟩

end Go.Proofs.YtgjenbgclpmjmaaDoor

namespace Go.Proofs.YtgjenbgclpmjmaaDoor
open Go.RowKit Go.Shelf

theorem BxE.new (w : World) (e : Ef) : BxE (w.alloc (.cells #[.string e.nd.path, .string e.nd.data, .int .i64 e.nd.ver, .int .i64 e.nd.cver, .int .i64 e.nd.cz, .int .i64 e.nd.mz, .int .i64 e.nd.pz, .int .u8 (mkB e)] 104)) w.heap.size e := by
  have := heap_alloc_new w (.cells #[.string e.nd.path, .string e.nd.data, .int .i64 e.nd.ver, .int .i64 e.nd.cver, .int .i64 e.nd.cz, .int .i64 e.nd.mz, .int .i64 e.nd.pz, .int .u8 (mkB e)] 104)
  exact ⟨⟨⟨_, _, _, this, by decide⟩, (cell_of this _).trans rfl, (cell_of this _).trans rfl, (cell_of this _).trans rfl, (cell_of this _).trans rfl, (cell_of this _).trans rfl, (cell_of this _).trans rfl, (cell_of this _).trans rfl⟩, (cell_of this _).trans rfl⟩

set_option maxHeartbeats 1000000 in
set_option maxRecDepth 100000 in
theorem encTxn_row (w : World) (z : Int) (b o n cap : Nat) (ns : List Ef) (hp : ns.length = n) (hb : b < w.heap.size) (hc : ∀ i, i < n → CellsE w b (o + i * 8) (eAt ns i)) (hR : RdE w (.slice (some ⟨b, o, none⟩) n cap) ns)
    (hsz : ∀ i, (eAt ns i).nd.path.size ≤ 1048576 ∧ (eAt ns i).nd.data.size ≤ 1048576) :
    Calls Tryd.prog 47 #[.agg #[.int .i64 z, .slice (some ⟨b, o, none⟩) n cap]] w fun e w' => ∃ v', e = .returned v' ∧ Own .u8 5 w' w.heap.size v' (txnB z ns) ∧ Below w.heap.size w w' := by
  have HC : Hid (∀ i, i < n → CellsE w b (o + i * 8) (eAt ns i)) := hc
  have HP : Hid (ns.length = n) := hp
  have HR : Hid (RdE w (.slice (some ⟨b, o, none⟩) n cap) ns) := hR
  have HZ : Hid (∀ i, (eAt ns i).nd.path.size ≤ 1048576 ∧ (eAt ns i).nd.data.size ≤ 1048576) := hsz
  have B0 : Hid (Below w.heap.size w (w.alloc (.cells #[.int .i64 z, .slice (some ⟨b, o, none⟩) n cap] 41))) := (Below.refl _ _).alloc (Nat.le_refl _) _
  have X0 : Hid (BoxX (w.alloc (.cells #[.int .i64 z, .slice (some ⟨b, o, none⟩) n cap] 41)) w.heap.size z (.slice (some ⟨b, o, none⟩) n cap)) := BoxX.new _ _ _ _
  clear hc hp hR hsz
  go_enter Tryd.func47, Tryd.ntmps47
  go_wp2_with fail
  generalize w.alloc (.cells #[.int .i64 z, .slice (some ⟨b, o, none⟩) n cap] 41) = w0 at *
  refine (implTxn_any _ _ _ ns (HR.out.below B0.out) HZ.out).mono ?_
  rintro e w1 ⟨rfl, b1⟩
  have B1 : Hid (Below w.heap.size w w1) := B0.out.trans (b1.mono B0.out.size)
  have X1 : Hid (BoxX w1 w.heap.size z (.slice (some ⟨b, o, none⟩) n cap)) := X0.out.below b1
  clear b1 X0 B0
  by_cases hok : okTxn z ns = true
  rotate_left
  · have hok' : okTxn z ns = false := by simpa using hok
    have HT : Hid (txnB z ns = []) := by show _ = _; unfold txnB; rw [if_neg hok]
    rw [hok']
    clear hok hok'
    go_wp2
    go_ret
    exact ⟨_, rfl, (by rw [HT.out]; exact World.ownsRow_nil _ _ _ _), B1.out⟩
  obtain ⟨g1, g2, g3, g4⟩ := okTxn_all hok
  rw [HP.out] at g3 g4
  obtain ⟨Z, rfl⟩ : ∃ Z : Nat, z = (Z : Int) := ⟨z.toNat, by omega⟩
  have HT : Hid (txnB Z ns = bigR Z 4 ++ bigR n 2 ++ effsB ns) := by show _ = _; unfold txnB; rw [if_pos hok, HP.out, Int.toNat_natCast]
  have HOK : Hid (∀ k, k < n → okEf (eAt ns k) = true) := g4
  have HLN : Hid (∀ k, k ≤ n → (effsB (ns.take k)).length ≤ k * 189) := fun k hk => effsB_len (fun k hk => g4 k (by rw [← HP.out]; exact hk)) k (by rw [HP.out]; exact hk)
  rw [hok]
  clear hok g4
  obtain ⟨z1, c0, c1⟩ := X1.out
  have s1 : w.heap.size + 1 ≤ w1.heap.size := z1
  have D1 : Hid (Below (w.heap.size + 1) w1 w1) := Below.refl _ _
  have C1 : Hid (w1.cell? ⟨w.heap.size, 1, none⟩ = some (.slice (some ⟨b, o, none⟩) n cap)) := c1
  go_wp2_with fail
  refine (implNumber_any w1 (w.heap.size + 1) (.slice none 0 0) [] Z 4 (World.ownsRow_nil _ _ _ _) s1 (by simp) (by omega)).mono ?_
  rintro e w2 ⟨v2, rfl, o2, b2, -⟩
  have O2 : Hid (Own .u8 5 w2 (w.heap.size + 1) v2 (bigR Z 4)) := o2
  have D2 : Hid (Below (w.heap.size + 1) w1 w2) := b2
  clear o2 b2 c0 c1 D1
  have c1 := (D2.out.cell (p := ⟨w.heap.size, 1, none⟩) (Nat.lt_succ_self _)).trans C1.out
  have s2 : w.heap.size + 1 ≤ w2.heap.size := Nat.le_trans s1 D2.out.size
  go_wp2_with fail
  refine (implNumber_any w2 (w.heap.size + 1) v2 (bigR Z 4) n 2 O2.out s2 (by rw [bigR_len]; omega) (by omega)).mono ?_
  rintro e w3 ⟨v3, rfl, o3, b3, -⟩
  obtain ⟨H, hH⟩ : ∃ H, H = bigR Z 4 ++ bigR n 2 := ⟨_, rfl⟩
  have HH : Hid (H.length = 6) := by show _ = _; rw [hH, List.length_append, bigR_len, bigR_len]
  rw [← hH] at o3 HT
  have O3 : Hid (Own .u8 5 w3 (w.heap.size + 1) v3 (H ++ effsB (ns.take 0))) := by show Own _ _ _ _ _ _; rw [List.take_zero, show effsB [] = [] from rfl, List.append_nil]; exact o3
  have D3 : Hid (Below (w.heap.size + 1) w1 w3) := D2.out.trans b3
  clear o3 b3 hH O2 D2 c1
  have c1 := (D3.out.cell (p := ⟨w.heap.size, 1, none⟩) (Nat.lt_succ_self _)).trans C1.out
  go_wp2
  go_loopw [3, 21] (fun vi vk wr => ∃ k : Nat, k ≤ n ∧ vk = .int .i64 k ∧ Hid (Own .u8 5 wr (w.heap.size + 1) vi (H ++ effsB (ns.take k))) ∧ Hid (Below (w.heap.size + 1) w1 wr)) (fun _ i _ => n - (intOf i).toNat)
  case atStart => exact ⟨0, Nat.zero_le _, rfl, O3, D3⟩
  case round =>
    clear c1
    obtain ⟨k, hk, rfl, HW, HD⟩ := hrel
    have sD : w.heap.size + 1 ≤ wr.heap.size := Nat.le_trans s1 HD.out.size
    by_cases hlt : k < n
    · have hltI : (k : Int) < (n : Int) := by omega
      obtain ⟨c0, c1, c2, c3, c4, c5, c6, c7⟩ := ((HC.out k hlt).below B1.out hb).below HD.out (Nat.lt_succ_of_lt hb)
      go_wp2_with fail
      clear c0 c1 c2 c3 c4 c5 c6 c7
      refine (imageOf_any _ (eAt ns k)).mono ?_
      rintro e w4 ⟨rfl, b4⟩
      have D4 : Hid (Below (w.heap.size + 1) w1 w4) := (HD.out.alloc sD _).trans (b4.mono (by simp; omega))
      have O4 : Hid (Own .u8 5 w4 (w.heap.size + 1) u3 (H ++ effsB (ns.take k))) := (HW.out.below ((Below.refl _ _).alloc (Nat.le_refl _) _)).below b4
      have s4 : w.heap.size + 1 ≤ w4.heap.size := Nat.le_trans s1 D4.out.size
      clear b4 HW HD
      go_wp2_with fail
      refine (encEff_any _ (w.heap.size + 1) u3 (H ++ effsB (ns.take k)) w4.heap.size (eAt ns k) ?e1 ?e2 ?e3 ?e4 (HOK.out k hlt)).mono ?_
      case e1 => exact O4.out.below ((Below.refl _ _).alloc (Nat.le_refl _) _)
      case e2 => simp; omega
      case e3 => have := HLN.out k hk; rw [List.length_append, HH.out]; omega
      case e4 => exact BxE.new _ _
      rintro e w5 ⟨v5, rfl, o5, b5, -⟩
      have O5 : Hid (Own .u8 5 w5 (w.heap.size + 1) v5 (H ++ effsB (ns.take (k + 1)))) := by
        rw [List.append_assoc, effsB_succ ns k (by rw [HP.out]; exact hlt)] at o5; exact o5
      have D5 : Hid (Below (w.heap.size + 1) w1 w5) := (D4.out.alloc s4 _).trans b5
      clear o5 b5 O4 D4
      go_wp2
      exact ⟨⟨k + 1, by omega, by go_num, O5, D5⟩, by simp [intOf]; omega⟩
    · have hkn : k = n := by omega
      subst hkn
      go_wp2
      go_ret
      refine ⟨_, rfl, ?_, B1.out.trans (HD.out.mono (Nat.le_succ _))⟩
      rw [HT.out, ← effsB_all ns k (by rw [HP.out]; exact Nat.le_refl _)]
      exact HW.out.mono (Nat.le_succ _)

set_option maxHeartbeats 1000000 in
set_option maxRecDepth 100000 in
theorem encTxn_nil (w : World) (z : Int) (ao : Option Addr) (cap : Nat) (hc : cap ≤ maxLen) :
    Calls Tryd.prog 47 #[.agg #[.int .i64 z, .slice ao 0 cap]] w fun e w' => ∃ v', e = .returned v' ∧ Own .u8 5 w' w.heap.size v' (txnB z []) ∧ Below w.heap.size w w' := by
  have HR : Hid (RdE w (.slice ao 0 cap) []) := ⟨ao, cap, rfl, Nat.zero_le _, hc, .inl rfl⟩
  have B0 : Hid (Below w.heap.size w (w.alloc (.cells #[.int .i64 z, .slice ao 0 cap] 41))) := (Below.refl _ _).alloc (Nat.le_refl _) _
  have X0 : Hid (BoxX (w.alloc (.cells #[.int .i64 z, .slice ao 0 cap] 41)) w.heap.size z (.slice ao 0 cap)) := BoxX.new _ _ _ _
  clear hc
  go_enter Tryd.func47, Tryd.ntmps47
  go_wp2_with fail
  generalize w.alloc (.cells #[.int .i64 z, .slice ao 0 cap] 41) = w0 at *
  refine (implTxn_any _ _ _ [] (HR.out.below B0.out) (fun i => by simp [eAt, ef0, nd0])).mono ?_
  rintro e w1 ⟨rfl, b1⟩
  have B1 : Hid (Below w.heap.size w w1) := B0.out.trans (b1.mono B0.out.size)
  have X1 : Hid (BoxX w1 w.heap.size z (.slice ao 0 cap)) := X0.out.below b1
  clear b1 X0 B0
  by_cases hok : okTxn z [] = true
  rotate_left
  · have hok' : okTxn z [] = false := by simpa using hok
    have HT : Hid (txnB z [] = []) := by show _ = _; unfold txnB; rw [if_neg hok]
    rw [hok']
    clear hok hok'
    go_wp2
    go_ret
    exact ⟨_, rfl, (by rw [HT.out]; exact World.ownsRow_nil _ _ _ _), B1.out⟩
  obtain ⟨g1, g2, -, -⟩ := okTxn_all hok
  obtain ⟨Z, rfl⟩ : ∃ Z : Nat, z = (Z : Int) := ⟨z.toNat, by omega⟩
  have HT : Hid (txnB Z [] = bigR Z 4 ++ bigR 0 2) := by show _ = _; unfold txnB; rw [if_pos hok, Int.toNat_natCast]; simp [effsB]
  rw [hok]
  clear hok
  obtain ⟨z1, c0, c1⟩ := X1.out
  have s1 : w.heap.size + 1 ≤ w1.heap.size := z1
  have C1 : Hid (w1.cell? ⟨w.heap.size, 1, none⟩ = some (.slice ao 0 cap)) := c1
  go_wp2_with fail
  refine (implNumber_any w1 (w.heap.size + 1) (.slice none 0 0) [] Z 4 (World.ownsRow_nil _ _ _ _) s1 (by simp) (by omega)).mono ?_
  rintro e w2 ⟨v2, rfl, o2, b2, -⟩
  have O2 : Hid (Own .u8 5 w2 (w.heap.size + 1) v2 (bigR Z 4)) := o2
  have D2 : Hid (Below (w.heap.size + 1) w1 w2) := b2
  clear o2 b2 c0 c1
  have c1 := (D2.out.cell (p := ⟨w.heap.size, 1, none⟩) (Nat.lt_succ_self _)).trans C1.out
  have s2 : w.heap.size + 1 ≤ w2.heap.size := Nat.le_trans s1 D2.out.size
  go_wp2_with fail
  refine (implNumber_any w2 (w.heap.size + 1) v2 (bigR Z 4) 0 2 O2.out s2 (by rw [bigR_len]; omega) (by omega)).mono ?_
  rintro e w3 ⟨v3, rfl, o3, b3, -⟩
  have O3 : Hid (Own .u8 5 w3 w.heap.size v3 (txnB Z [])) := by rw [HT.out]; exact o3.mono (Nat.le_succ _)
  have D3 : Hid (Below (w.heap.size + 1) w1 w3) := D2.out.trans b3
  clear o3 b3 O2 D2 c1
  have c1 := (D3.out.cell (p := ⟨w.heap.size, 1, none⟩) (Nat.lt_succ_self _)).trans C1.out
  go_wp2
  go_rounds 1
  go_ret
  exact ⟨_, rfl, O3.out, B1.out.trans (D3.out.mono (Nat.le_succ _))⟩

theorem encTxn_any (w : World) (z : Int) (v : Value) (ns : List Ef) (h : RdE w v ns) (hsz : ∀ i, (eAt ns i).nd.path.size ≤ 1048576 ∧ (eAt ns i).nd.data.size ≤ 1048576) :
    Calls Tryd.prog 47 #[.agg #[.int .i64 z, v]] w fun e w' => ∃ v', e = .returned v' ∧ Own .u8 5 w' w.heap.size v' (txnB z ns) ∧ Below w.heap.size w w' := by
  have h0 := h
  obtain ⟨ao, cap, rfl, h1, h2, h3⟩ := h
  rcases h3 with rfl | ⟨b, o, rfl, hb, hc⟩
  · exact encTxn_nil w z ao cap h2
  · exact encTxn_row w z b o ns.length cap ns rfl hb hc h0 hsz

end Go.Proofs.YtgjenbgclpmjmaaDoor

namespace Go.Proofs.YtgjenbgclpmjmaaDoor
open Go.RowKit Go.Shelf

theorem BoxX.belowM {w w' : World} {b m : Nat} {x : Int} {y : Value} (h : BoxX w b x y) (hb : Below m w w') (hl : b < m) : BoxX w' b x y :=
  ⟨Nat.lt_of_lt_of_le h.1 hb.size, (hb.cell (p := ⟨b, 0, none⟩) hl).trans h.2.1, (hb.cell (p := ⟨b, 1, none⟩) hl).trans h.2.2⟩

set_option maxHeartbeats 2000000 in
set_option maxRecDepth 100000 in
theorem sTxn_any (w : World) (z : Int) (v : Value) (ns : List Ef) (h : RdE w v ns) (hsz : ∀ i, (eAt ns i).nd.path.size ≤ 1048576 ∧ (eAt ns i).nd.data.size ≤ 1048576) :
    Calls Tryd.prog 46 #[.agg #[.int .i64 z, v]] w fun e w' => ∃ v', e = .returned v' ∧ Own .u8 5 w' w.heap.size v' (txnB z ns) ∧ Below w.heap.size w w' := by
  obtain ⟨i0, hi, hz0, hz1, hz2⟩ := info_parts Tryd.infoB
  obtain ⟨ao, ca, rfl, _, _⟩ := h.len
  have HR : Hid (RdE w (.slice ao ns.length ca) ns) := h
  have HZ : Hid (∀ i, (eAt ns i).nd.path.size ≤ 1048576 ∧ (eAt ns i).nd.data.size ≤ 1048576) := hsz
  generalize hnn : ns.length = n at *
  have HP : Hid (ns.length = n) := hnn
  have B0 : Hid (Below w.heap.size w (w.alloc (.cells #[.int .i64 z, .slice ao n ca] 41))) := (Below.refl _ _).alloc (Nat.le_refl _) _
  have X0 : Hid (BoxX (w.alloc (.cells #[.int .i64 z, .slice ao n ca] 41)) w.heap.size z (.slice ao n ca)) := BoxX.new _ _ _ _
  clear h hsz hnn
  go_enter Tryd.func46, Tryd.ntmps46
  go_wp2_with fail
  generalize w.alloc (.cells #[.int .i64 z, .slice ao n ca] 41) = w0 at *
  refine (specTxn_any _ _ _ ns (HR.out.below B0.out) HZ.out).mono ?_
  rintro e w1 ⟨rfl, b1⟩
  have B1 : Hid (Below w.heap.size w w1) := B0.out.trans (b1.mono B0.out.size)
  have X1 : Hid (BoxX w1 w.heap.size z (.slice ao n ca)) := X0.out.below b1
  clear b1 X0 B0
  have s1 : w.heap.size + 1 ≤ w1.heap.size := X1.out.1
  by_cases hok : okTxn z ns = true
  rotate_left
  · have hok' : okTxn z ns = false := by simpa using hok
    have HT : Hid (txnB z ns = []) := by show _ = _; unfold txnB; rw [if_neg hok]
    have O2 : Hid (Own .u8 5 (w1.alloc (.cells #[] 5)) w.heap.size (.slice (some ⟨w1.heap.size, 0, none⟩) 0 0) []) := Own.mono (World.ownsRow_lit w1 #[] 0 (Nat.le_refl _) (Nat.zero_le _) rfl) B1.out.size
    have B2 : Hid (Below w.heap.size w (w1.alloc (.cells #[] 5))) := B1.out.alloc B1.out.size _
    rw [hok']
    clear hok hok'
    go_wp2
    go_ret
    exact ⟨_, rfl, (by rw [HT.out]; exact O2.out), B2.out⟩
  obtain ⟨g1, g2, g3, g4⟩ := okTxn_all hok
  rw [HP.out] at g3 g4
  obtain ⟨Z, rfl⟩ : ∃ Z : Nat, z = (Z : Int) := ⟨z.toNat, by omega⟩
  have HT : Hid (txnB Z ns = bigR Z 4 ++ bigR n 2 ++ effsB ns) := by show _ = _; unfold txnB; rw [if_pos hok, HP.out, Int.toNat_natCast]
  have HOK : Hid (∀ k, k < n → okEf (eAt ns k) = true) := g4
  have HLN : Hid (∀ k, k ≤ n → (effsB (ns.take k)).length ≤ k * 189) := fun k hk => effsB_len (fun k hk => g4 k (by rw [← HP.out]; exact hk)) k (by rw [HP.out]; exact hk)
  rw [hok]
  clear hok g4
  go_wp2
  refine wp_region_held_drew (S := fun W => BoxX W w.heap.size (Z : Int) (.slice ao n ca)) (by kernel_rfl) (X1.out.below (below_drewN' w1 1)) (fun hHeld => ?_)
  refine wpAnyH_take (i := 0) (oi := { dst := some 9, op := _, type := _, pos := _, after := _, guard := _ }) (v := (.pointer (some ⟨w.heap.size, 0, none⟩))) rfl (by kernel_rfl) (by kernel_rfl) (by kernel_rfl) (fun _ _ _ h => h) (Or.inl ⟨by rfl, ?hy1⟩) (by assumption) ?rest1
  case hy1 =>
    intro w9 hS9
    obtain ⟨-, y0, y1⟩ := hS9
    go_simp
    try with_reducible rfl
  try simp only [Act.put, List.setIfInBounds_toArray, List.set_cons_zero, List.set_cons_succ]
  refine wpAnyH_take (i := 1) (oi := { dst := some 10, op := _, type := _, pos := _, after := _, guard := _ }) (v := (.int .i64 (Z : Int))) rfl (by kernel_rfl) (by kernel_rfl) (by kernel_rfl) (fun _ _ _ h => h) (Or.inl ⟨by rfl, ?hy2⟩) (by assumption) ?rest2
  case hy2 =>
    intro w9 hS9
    obtain ⟨-, y0, y1⟩ := hS9
    go_simp
    try with_reducible rfl
  try simp only [Act.put, List.setIfInBounds_toArray, List.set_cons_zero, List.set_cons_succ]
  refine wpAnyH_take (i := 3) (oi := { dst := some 12, op := _, type := _, pos := _, after := _, guard := _ }) (v := (.pointer (some ⟨w.heap.size, 1, none⟩))) rfl (by kernel_rfl) (by kernel_rfl) (by kernel_rfl) (fun _ _ _ h => h) (Or.inl ⟨by rfl, ?hy3⟩) (by assumption) ?rest3
  case hy3 =>
    intro w9 hS9
    obtain ⟨-, y0, y1⟩ := hS9
    go_simp
    try with_reducible rfl
  try simp only [Act.put, List.setIfInBounds_toArray, List.set_cons_zero, List.set_cons_succ]
  refine wpAnyH_take (i := 4) (oi := { dst := some 13, op := _, type := _, pos := _, after := _, guard := _ }) (v := (.slice ao n ca)) rfl (by kernel_rfl) (by kernel_rfl) (by kernel_rfl) (fun _ _ _ h => h) (Or.inl ⟨by rfl, ?hy4⟩) (by assumption) ?rest4
  case hy4 =>
    intro w9 hS9
    obtain ⟨-, y0, y1⟩ := hS9
    go_simp
    try with_reducible rfl
  try simp only [Act.put, List.setIfInBounds_toArray, List.set_cons_zero, List.set_cons_succ]
  refine wpAnyH_take (i := 5) (oi := { dst := some 14, op := _, type := _, pos := _, after := _, guard := _ }) (v := (.int .i64 (n : Int))) rfl (by kernel_rfl) (by kernel_rfl) (by kernel_rfl) (fun _ _ _ h => h) (Or.inl ⟨by rfl, ?hy5⟩) (by assumption) ?rest5
  case hy5 =>
    intro w9 hS9
    obtain ⟨-, y0, y1⟩ := hS9
    go_simp
    try with_reducible rfl
  try simp only [Act.put, List.setIfInBounds_toArray, List.set_cons_zero, List.set_cons_succ]
  refine wpAnyH_ready (rs := [2]) (by kernel_rfl) (by simp) ?_
  refine AllReadyH.cons (o := { dst := some 11, op := _, type := _, pos := _, after := _, guard := _ }) rfl (fun K hK => ?_) AllReadyH.nil
  go_simp
  refine (specBig_any 4 _ Z (by omega) (by omega)).mono ?_
  rintro e w2 ⟨v2, rfl, o2, b2⟩
  have D2 : Hid (Below (w.heap.size + 1) w1 w2) := ((below_drewN' w1 1).mono s1).trans (b2.mono s1)
  have X2 : Hid (BoxX w2 w.heap.size (Z : Int) (.slice ao n ca)) := X1.out.belowM D2.out (Nat.lt_succ_self _)
  have O2 : Hid (Own .u8 5 w2 (w.heap.size + 1) v2 (bigR Z 4)) := o2.mono s1
  clear o2 b2
  refine hK.out _ _ (X2.out) (fun hx9 => ?_)
  clear hK K hHeld hx9
  have hHeld := X2.out
  try simp only [Act.put, List.setIfInBounds_toArray, List.set_cons_zero, List.set_cons_succ]
  refine wpAnyH_ready (rs := [6]) (by kernel_rfl) (by simp) ?_
  refine AllReadyH.cons (o := { dst := some 15, op := _, type := _, pos := _, after := _, guard := _ }) rfl (fun K hK => ?_) AllReadyH.nil
  go_simp
  refine (specBig_any 2 _ n (by omega) (by omega)).mono ?_
  rintro e w3 ⟨v3, rfl, o3, b3⟩
  have s2 : w.heap.size + 1 ≤ w2.heap.size := X2.out.1
  have D3 : Hid (Below (w.heap.size + 1) w1 w3) := D2.out.trans (b3.mono s2)
  have X3 : Hid (BoxX w3 w.heap.size (Z : Int) (.slice ao n ca)) := X2.out.below b3
  obtain ⟨g3, c3, hv3⟩ := own_full o3 (by rw [bigR_len]; omega)
  rw [bigR_len] at hv3
  subst hv3
  have O3 : Hid (w3.ownsRow (w.heap.size + 1) 5 1 v2 4 ((bigR Z 4).map (Value.int .u8))) := by have := O2.out.below b3; unfold Own at this; rw [bigR_len] at this; exact this
  have N3 : Hid (∀ j u, ((bigR n 2).map (Value.int .u8))[j]? = some u → w3.cell? ((⟨g3, 0, none⟩ : Addr).add j) = some u) := World.ownsRow.cells o3 rfl
  have s3 : w.heap.size + 1 ≤ w3.heap.size := X3.out.1
  clear o3 b3 O2 X2 D2
  refine hK.out _ _ (X3.out) (fun hx9 => ?_)
  clear hK K hHeld hx9
  have hHeld := X3.out
  try simp only [Act.put, List.setIfInBounds_toArray, List.set_cons_zero, List.set_cons_succ]
  refine wpAnyH_ready (rs := [7]) (by kernel_rfl) (by simp) ?_
  refine AllReadyH.cons (o := { dst := some 16, op := _, type := _, pos := _, after := _, guard := _ }) rfl (fun K hK => ?_) AllReadyH.nil
  refine step_append rfl (.tmp 11) (.tmp 15) 45 rfl (w.heap.size + 1) 5 i0 (.int .u8 0) 1 1 Tryd.underlying45 hi hz0 hz1 hz2 rfl (by decide) v2 4 _ rfl O3.out ⟨g3, 0, none⟩ 2 c3 ((bigR n 2).map (Value.int .u8)) rfl (by rw [List.length_map, bigR_len]) N3.out (u8_oneCell _) (by unfold maxLen; omega) (by omega) s3 ?_
  intro v4 w4 ho4 hg4
  have b4 : Below (w.heap.size + 1) w3 w4 := (Below.refl _ _).grown hg4 s3 (fun q hq => (World.ownsRow.lt O3.out q hq).1)
  have X4 : Hid (BoxX w4 w.heap.size (Z : Int) (.slice ao n ca)) := X3.out.belowM b4 (Nat.lt_succ_self _)
  have D4 : Hid (Below (w.heap.size + 1) w1 w4) := D3.out.trans b4
  have O4 : Hid (Own .u8 5 w4 (w.heap.size + 1) v4 (bigR Z 4 ++ bigR n 2)) := by refine own_of (q := 6) (ys := bigR Z 4 ++ bigR n 2) (by rw [List.length_append, bigR_len, bigR_len]) rfl ?_; rw [List.map_append]; exact ho4
  clear ho4 hg4 b4 O3 N3 X3 D3
  refine hK.out _ _ (X4.out) (fun hx9 => ?_)
  clear hK K hHeld hx9
  have hHeld := X4.out
  try simp only [Act.put, List.setIfInBounds_toArray, List.set_cons_zero, List.set_cons_succ]
  refine wpAnyH_take (i := 8) (oi := { dst := some 3, op := _, type := _, pos := _, after := _, guard := _ }) (v := v4) rfl (by kernel_rfl) (by kernel_rfl) (by kernel_rfl) (fun _ _ _ h => h) (Or.inl ⟨by rfl, ?hy6⟩) (by assumption) ?rest6
  case hy6 =>
    intro w9 hS9
    go_simp
  try simp only [Act.put, List.setIfInBounds_toArray, List.set_cons_zero, List.set_cons_succ]
  refine wpAnyH_done (by kernel_rfl) ?_ _
  clear hHeld
  obtain ⟨H, hH⟩ : ∃ H, H = bigR Z 4 ++ bigR n 2 := ⟨_, rfl⟩
  have HH : Hid (H.length = 6) := by show _ = _; rw [hH, List.length_append, bigR_len, bigR_len]
  rw [← hH] at O4 HT
  have O5 : Hid (Own .u8 5 w4 (w.heap.size + 1) v4 (H ++ effsB (ns.take 0))) := by show Own _ _ _ _ _ _; rw [List.take_zero, show effsB [] = [] from rfl, List.append_nil]; exact O4.out
  clear hH O4 X4
  go_wp2
  go_loopw [3, 4] (fun vo vk wr => ∃ k : Nat, k ≤ n ∧ vk = .int .i64 k ∧ Hid (Own .u8 5 wr (w.heap.size + 1) vo (H ++ effsB (ns.take k))) ∧ Hid (Below (w.heap.size + 1) w1 wr)) (fun _ i _ => n - (intOf i).toNat)
  case atStart => exact ⟨0, Nat.zero_le _, rfl, O5, D4⟩
  case round =>
    obtain ⟨k, hk, rfl, HW, HD⟩ := hrel
    have sD : w.heap.size + 1 ≤ wr.heap.size := Nat.le_trans s1 HD.out.size
    obtain ⟨-, y0, y1⟩ := X1.out.belowM HD.out (Nat.lt_succ_self _)
    by_cases hlt : k < n
    · have hltI : (k : Int) < (n : Int) := by omega
      obtain ⟨b, o, hao, hb, hc⟩ : ∃ b o, ao = some ⟨b, o, none⟩ ∧ b < w.heap.size ∧ CellsE w b (o + k * 8) (eAt ns k) := by
        obtain ⟨ao', cap', e', -, -, h3⟩ := HR.out
        simp only [Value.slice.injEq] at e'
        obtain ⟨rfl, -, -⟩ := e'
        rcases h3 with h3 | ⟨b, o, rfl, hb, hc⟩
        · have := HP.out; rw [h3] at this; simp at this; omega
        · exact ⟨b, o, rfl, hb, hc k (by rw [HP.out]; exact hlt)⟩
      subst hao
      have HCk : Hid (CellsE w1 b (o + k * 8) (eAt ns k)) := hc.below B1.out hb
      clear hc
      have hb1 : b < w.heap.size + 1 := Nat.lt_succ_of_lt hb
      have hef := HOK.out k hlt
      have hle := effB_len hef
      have HND : Hid (okNd (eAt ns k).nd = true) := okEf_nd' hef
      have hpz := (okNd_all HND.out).1
      have HSU : Hid (effsB (ns.take k) ++ effB (eAt ns k) = effsB (ns.take (k + 1))) := effsB_succ ns k (by rw [HP.out]; exact hlt)
      have HLE : Hid ((H ++ effsB (ns.take k)).length ≤ 6 + 189000) := by show _ ≤ _; have := HLN.out k hk; rw [List.length_append, HH.out]; omega
      obtain ⟨L, hL⟩ : ∃ L, L = H ++ effsB (ns.take k) := ⟨_, rfl⟩
      have HL2 : Hid (L ++ effB (eAt ns k) = H ++ effsB (ns.take (k + 1))) := by show _ = _; rw [hL, List.append_assoc, HSU.out]
      rw [← hL] at HW HLE
      clear hL HSU hef hle
      have hLE := HLE.out
      have OW : Hid (wr.ownsRow (w.heap.size + 1) 5 1 u3 L.length (L.map (Value.int .u8))) := HW.out
      obtain ⟨c0, c1, c2, c3, c4, c5, c6, c7⟩ := HCk.out.below HD.out hb1
      cases hdel : (eAt ns k).del with
      | true =>
        rw [hdel] at c0
        have HEF : Hid (effB (eAt ns k) = [2] ++ txB (eAt ns k).nd.path) := by show _ = _; unfold effB; rw [hdel]; rfl
        clear hdel
        go_wp2_with (at_builtin; go_must (refine wpList_append_own _ rfl _ _ 45 rfl (w.heap.size + 1) 5 i0 (.int .u8 0) 1 1 Tryd.underlying45 hi hz0 hz1 hz2 rfl (by decide) _ _ _ rfl (OW.out.alloc _) ⟨wr.heap.size, 0, none⟩ 1 1 [.int .u8 2] rfl rfl (cell_one_new _ _ _) (by intro u hu; simp at hu; subst hu; rfl) ?_ ?_ ?_ ?_))
        · unfold maxLen; omega
        · omega
        · simp; omega
        intro v5 w5 ho5 hg5 _
        have b5 : Below (w.heap.size + 1) wr w5 := ((Below.refl _ _).alloc sD _).grown hg5 (by simp; omega) (fun q hq => (World.ownsRow.lt OW.out q hq).1)
        have O5 : Hid (Own .u8 5 w5 (w.heap.size + 1) v5 (L ++ [2])) := by
          refine own_of (q := L.length + 1) (ys := L ++ [2]) (by simp) rfl ?_
          rw [List.map_append]; exact ho5
        have D5 : Hid (Below (w.heap.size + 1) w1 w5) := HD.out.trans b5
        clear ho5 hg5 b5 c0 c1 c2 c3 c4 c5 c6 c7 y0 y1 OW HW HD
        have s5 : w.heap.size + 1 ≤ w5.heap.size := Nat.le_trans s1 D5.out.size
        obtain ⟨-, y0, y1⟩ := X1.out.belowM D5.out (Nat.lt_succ_self _)
        obtain ⟨c0, c1, c2, c3, c4, c5, c6, c7⟩ := HCk.out.below D5.out hb1
        go_wp2_with fail
        refine (specText_any _ (eAt ns k).nd.path (by omega)).mono ?_
        rintro e w6 ⟨v6, rfl, o6, b6⟩
        clear c0 c1 c2 c3 c4 c5 c6 c7 y0 y1
        obtain ⟨N, hN⟩ : ∃ N, N = txB (eAt ns k).nd.path := ⟨_, rfl⟩
        have hNl : 0 < N.length ∧ N.length ≤ 188 := by
          have := okNd_all HND.out
          rw [hN, txB_len]; omega
        rw [← hN] at o6 HEF
        have HL3 : Hid (L ++ [2] ++ N = H ++ effsB (ns.take (k + 1))) := by show _ = _; rw [← HL2.out, HEF.out, List.append_assoc]
        generalize hm : N.length = m at *
        have HM : Hid (N.length = m) := hm
        obtain ⟨g6, q6, hv6⟩ := own_full o6 (by omega)
        rw [hm] at hv6
        subst hv6
        have O6 : Hid (w6.ownsRow (w.heap.size + 1) 5 1 v5 (L.length + 1) ((L ++ [2]).map (Value.int .u8))) := by have := O5.out.below b6; unfold Own at this; rw [List.length_append] at this; exact this
        have N6 : Hid (∀ j u, (N.map (Value.int .u8))[j]? = some u → w6.cell? ((⟨g6, 0, none⟩ : Addr).add j) = some u) := World.ownsRow.cells o6 rfl
        have D6 : Hid (Below (w.heap.size + 1) w1 w6) := D5.out.trans (b6.mono s5)
        have s6 : w.heap.size + 1 ≤ w6.heap.size := Nat.le_trans s1 D6.out.size
        clear o6 b6 O5 D5 hN hm HEF
        go_wp2_with (at_builtin; go_must (refine wpList_append_own _ rfl _ _ 45 rfl (w.heap.size + 1) 5 i0 (.int .u8 0) 1 1 Tryd.underlying45 hi hz0 hz1 hz2 rfl (by decide) _ _ _ rfl O6.out ⟨g6, 0, none⟩ m q6 (N.map (Value.int .u8)) rfl ?_ N6.out (u8_oneCell _) ?_ ?_ ?_ ?_))
        · rw [List.length_map, HM.out, Nat.mul_one]
        · unfold maxLen; omega
        · omega
        · exact s6
        intro v7 w7 ho7 hg7 _
        have O7 : Hid (Own .u8 5 w7 (w.heap.size + 1) v7 (H ++ effsB (ns.take (k + 1)))) := by
          refine own_of (q := L.length + 1 + m) (ys := L ++ [2] ++ N) (by rw [List.length_append, List.length_append, HM.out]; rfl) HL3.out.symm ?_
          rw [List.map_append, List.map_append, List.append_assoc]; exact ho7
        have D7 : Hid (Below (w.heap.size + 1) w1 w7) := D6.out.grown hg7 s6 (fun q hq => (World.ownsRow.lt O6.out q hq).1)
        clear ho7 hg7 O6 N6 D6
        go_wp2
        exact ⟨⟨k + 1, by omega, by go_num, O7, D7⟩, by simp [intOf]; omega⟩
      | false =>
        rw [hdel] at c0
        have HEF : Hid (effB (eAt ns k) = [1] ++ nodeB (eAt ns k).nd) := by show _ = _; unfold effB; rw [hdel]; rfl
        clear hdel
        go_wp2_with (at_builtin; go_must (refine wpList_append_own _ rfl _ _ 45 rfl (w.heap.size + 1) 5 i0 (.int .u8 0) 1 1 Tryd.underlying45 hi hz0 hz1 hz2 rfl (by decide) _ _ _ rfl (OW.out.alloc _) ⟨wr.heap.size, 0, none⟩ 1 1 [.int .u8 1] rfl rfl (cell_one_new _ _ _) (by intro u hu; simp at hu; subst hu; rfl) ?_ ?_ ?_ ?_))
        · unfold maxLen; omega
        · omega
        · simp; omega
        intro v5 w5 ho5 hg5 _
        have b5 : Below (w.heap.size + 1) wr w5 := ((Below.refl _ _).alloc sD _).grown hg5 (by simp; omega) (fun q hq => (World.ownsRow.lt OW.out q hq).1)
        have O5 : Hid (Own .u8 5 w5 (w.heap.size + 1) v5 (L ++ [1])) := by
          refine own_of (q := L.length + 1) (ys := L ++ [1]) (by simp) rfl ?_
          rw [List.map_append]; exact ho5
        have D5 : Hid (Below (w.heap.size + 1) w1 w5) := HD.out.trans b5
        clear ho5 hg5 b5 c0 c1 c2 c3 c4 c5 c6 c7 y0 y1 OW HW HD
        have s5 : w.heap.size + 1 ≤ w5.heap.size := Nat.le_trans s1 D5.out.size
        obtain ⟨-, y0, y1⟩ := X1.out.belowM D5.out (Nat.lt_succ_self _)
        obtain ⟨c0, c1, c2, c3, c4, c5, c6, c7⟩ := HCk.out.below D5.out hb1
        go_wp2_with fail
        refine (sNode_any _ (eAt ns k).nd HND.out).mono ?_
        rintro e w6 ⟨v6, rfl, o6, b6⟩
        clear c0 c1 c2 c3 c4 c5 c6 c7 y0 y1
        obtain ⟨N, hN⟩ : ∃ N, N = nodeB (eAt ns k).nd := ⟨_, rfl⟩
        have hNl : 0 < N.length ∧ N.length ≤ 188 := by
          have := okNd_all HND.out
          rw [hN, nodeB_len]; omega
        rw [← hN] at o6 HEF
        have HL3 : Hid (L ++ [1] ++ N = H ++ effsB (ns.take (k + 1))) := by show _ = _; rw [← HL2.out, HEF.out, List.append_assoc]
        generalize hm : N.length = m at *
        have HM : Hid (N.length = m) := hm
        obtain ⟨g6, q6, hv6⟩ := own_full o6 (by omega)
        rw [hm] at hv6
        subst hv6
        have O6 : Hid (w6.ownsRow (w.heap.size + 1) 5 1 v5 (L.length + 1) ((L ++ [1]).map (Value.int .u8))) := by have := O5.out.below b6; unfold Own at this; rw [List.length_append] at this; exact this
        have N6 : Hid (∀ j u, (N.map (Value.int .u8))[j]? = some u → w6.cell? ((⟨g6, 0, none⟩ : Addr).add j) = some u) := World.ownsRow.cells o6 rfl
        have D6 : Hid (Below (w.heap.size + 1) w1 w6) := D5.out.trans (b6.mono s5)
        have s6 : w.heap.size + 1 ≤ w6.heap.size := Nat.le_trans s1 D6.out.size
        clear o6 b6 O5 D5 hN hm HEF
        go_wp2_with (at_builtin; go_must (refine wpList_append_own _ rfl _ _ 45 rfl (w.heap.size + 1) 5 i0 (.int .u8 0) 1 1 Tryd.underlying45 hi hz0 hz1 hz2 rfl (by decide) _ _ _ rfl O6.out ⟨g6, 0, none⟩ m q6 (N.map (Value.int .u8)) rfl ?_ N6.out (u8_oneCell _) ?_ ?_ ?_ ?_))
        · rw [List.length_map, HM.out, Nat.mul_one]
        · unfold maxLen; omega
        · omega
        · exact s6
        intro v7 w7 ho7 hg7 _
        have O7 : Hid (Own .u8 5 w7 (w.heap.size + 1) v7 (H ++ effsB (ns.take (k + 1)))) := by
          refine own_of (q := L.length + 1 + m) (ys := L ++ [1] ++ N) (by rw [List.length_append, List.length_append, HM.out]; rfl) HL3.out.symm ?_
          rw [List.map_append, List.map_append, List.append_assoc]; exact ho7
        have D7 : Hid (Below (w.heap.size + 1) w1 w7) := D6.out.grown hg7 s6 (fun q hq => (World.ownsRow.lt O6.out q hq).1)
        clear ho7 hg7 O6 N6 D6
        go_wp2
        exact ⟨⟨k + 1, by omega, by go_num, O7, D7⟩, by simp [intOf]; omega⟩
    · have hkn : k = n := by omega
      subst hkn
      go_wp2
      go_ret
      refine ⟨_, rfl, ?_, B1.out.trans (HD.out.mono (Nat.le_succ _))⟩
      rw [HT.out, ← effsB_all ns k (by rw [HP.out]; exact Nat.le_refl _)]
      exact HW.out.mono (Nat.le_succ _)

end Go.Proofs.YtgjenbgclpmjmaaDoor

namespace Go.Proofs.YtgjenbgclpmjmaaDoor
open Go.RowKit Go.Shelf

/-- A local transaction, of a type. -/
def BxX (w : World) (B : Nat) (t : TypeId) (z : Int) (v : Value) : Prop := w.heap[B]? = some (.cells #[.int .i64 z, v] t (0, 0))
theorem BxX.lt {w : World} {B : Nat} {t : TypeId} {z : Int} {v : Value} (h : BxX w B t z v) : B < w.heap.size := (Array.getElem?_eq_some_iff.1 h).1
theorem BxX.new (w : World) (t : TypeId) (z : Int) (v : Value) : BxX (w.alloc (.cells #[.int .i64 z, v] t)) w.heap.size t z v := heap_alloc_new w _
theorem BxX.later {w w' : World} {B : Nat} {t : TypeId} {z : Int} {v : Value} (hb : Below w.heap.size w w') (h : BxX w B t z v) : BxX w' B t z v := (hb.block _ h.lt).trans h
theorem BxX.cells {w : World} {B : Nat} {t : TypeId} {z : Int} {v : Value} (h : BxX w B t z v) : w.cell? ⟨B, 0, none⟩ = some (.int .i64 z) ∧ w.cell? ⟨B, 1, none⟩ = some v := ⟨(cell_of h _).trans rfl, (cell_of h _).trans rfl⟩
theorem OwnE.keepQ {w w' : World} {lo : Nat} {v : Value} {ns : List Ef} {t : TypeId} (h : OwnE 86 w lo v ns) (hk : KT t w w') (ht : 86 ≠ t) : OwnE 86 w' lo v ns := by
  refine ⟨h.1, ?_⟩
  rcases h.2 with hn | ⟨g, cap, cur, rfl, hbg, hgg, rest⟩
  · exact .inl hn
  · exact .inr ⟨g, cap, cur, rfl, hbg, hk.box hgg ht, rest⟩
theorem OwnE.belowQ {w w' : World} {lo m : Nat} {v : Value} {ns : List Ef} (h : OwnE 86 w lo v ns) (hb : Below m w w') (hlt : ∀ g, v.ownBlock = some g → g < m) : OwnE 86 w' lo v ns := by
  refine ⟨h.1, ?_⟩
  rcases h.2 with hn | ⟨g, cap, cur, rfl, hbg, hgg, rest⟩
  · exact .inl hn
  · exact .inr ⟨g, cap, cur, rfl, hbg, (hb.block g (hlt g rfl)).trans hgg, rest⟩

end Go.Proofs.YtgjenbgclpmjmaaDoor

namespace Go.Proofs.YtgjenbgclpmjmaaDoor
open Go.RowKit Go.Shelf

set_option maxHeartbeats 2000000 in
set_option maxRecDepth 100000 in
theorem lawEncTxn_walk (w : World) (z : Int) (v : Value) (ns : List Ef) (h : InX w v ns) :
    Calls Tryd.prog 10 #[.agg #[.int .i64 z, v]] w fun e w' => e = .returned (.bool true) ∧ Below w.heap.size w w' := by
  obtain ⟨hr, hsz⟩ := h
  obtain ⟨ao, ca, rfl, _, _⟩ := hr.len
  have B0 : Hid (Below w.heap.size w (w.alloc (.cells #[.int .i64 z, .slice ao ns.length ca] 36))) := (Below.refl _ _).alloc (Nat.le_refl _) _
  have X0 : Hid (BxX (w.alloc (.cells #[.int .i64 z, .slice ao ns.length ca] 36)) w.heap.size 36 z (.slice ao ns.length ca)) := BxX.new _ _ _ _
  have HR : Hid (RdE w (.slice ao ns.length ca) ns) := hr
  have HZ : Hid (∀ i, (eAt ns i).nd.path.size ≤ maxLen ∧ (eAt ns i).nd.data.size ≤ maxLen) := hsz
  clear hr hsz
  go_enter Tryd.func10, Tryd.ntmps10
  go_wp2_with fail
  generalize w.alloc (.cells #[.int .i64 z, .slice ao ns.length ca] 36) = w0 at *
  refine (szTxn_any _ _ _ ns (HR.out.below B0.out) HZ.out 1048576 (by omega) (by omega)).mono ?_
  rintro e w1 ⟨r, rfl, hsz, b1⟩
  have B1 : Hid (Below w.heap.size w w1) := B0.out.trans (b1.mono B0.out.size)
  have X1 : Hid (BxX w1 w.heap.size 36 z (.slice ao ns.length ca)) := BxX.later b1 X0.out
  clear b1 X0 B0
  by_cases hneg : r < 0
  · clear hsz
    go_wp2
    go_ret
    exact ⟨rfl, B1.out⟩
  have hsz' : r + ns.length + totE ns = 1048576 := by omega
  have hn : ns.length ≤ 1048576 := by omega
  have hd : Hid (∀ i, (eAt ns i).nd.path.size ≤ 1048576 ∧ (eAt ns i).nd.data.size ≤ 1048576) := fun i => by have := totE_ge ns i; omega
  clear hsz hsz'
  have hls := txnB_len z ns
  obtain ⟨L, hL⟩ : ∃ L, L = txnB z ns := ⟨_, rfl⟩
  rw [← hL] at hls
  have HL : Hid (txnB z ns = L) := hL.symm
  clear hL
  obtain ⟨c0, c1⟩ := X1.out.cells
  go_wp2_with fail
  refine (toTxn_any _ _ _ ns (HR.out.below B1.out) hn).mono ?_
  rintro e w2 ⟨a2, k2, rfl, o2, b2⟩
  have Q2 : Hid (RdE w2 (.slice a2 ns.length k2) ns) := o2.rd
  have B2 : Hid (Below w.heap.size w w2) := B1.out.trans (b2.mono B1.out.size)
  have X2 : Hid (BxX w2 w.heap.size 36 z (.slice ao ns.length ca)) := BxX.later b2 X1.out
  clear o2 b2 c0 c1 X1
  go_wp2_with fail
  refine (sTxn_any _ _ _ ns Q2.out hd.out).mono ?_
  rw [HL.out]
  rintro e w3 ⟨v3, rfl, o3, b3⟩
  have s2 := B2.out.size
  have O3 : Hid (Own .u8 5 w3 w2.heap.size v3 L) := o3
  have B3 : Hid (Below w.heap.size w w3) := B2.out.trans (b3.mono s2)
  have X3 : Hid (BxX w3 w.heap.size 36 z (.slice ao ns.length ca)) := BxX.later b3 X2.out
  clear b3 o3 Q2 X2
  obtain ⟨c0, c1⟩ := X3.out.cells
  go_wp2_with fail
  refine (toTxn_any _ _ _ ns (HR.out.below B3.out) hn).mono ?_
  rintro e w4 ⟨a4, k4, rfl, o4, b4⟩
  have s3 := B3.out.size
  have Q4 : Hid (OwnE 86 w4 w3.heap.size (.slice a4 ns.length k4) ns) := o4
  have B4 : Hid (Below w.heap.size w w4) := B3.out.trans (b4.mono s3)
  have X4 : Hid (BxX w4 w.heap.size 36 z (.slice ao ns.length ca)) := BxX.later b4 X3.out
  have O34 : Hid (Own .u8 5 w4 w2.heap.size v3 L) := O3.out.below b4
  have s34 := b4.size
  clear o4 b4 c0 c1 X3 O3
  go_wp2_with fail
  have BA : Hid (Below w4.heap.size w4 (w4.alloc (.cells #[.int .i64 z, .slice a4 ns.length k4] 41))) := (Below.refl _ _).alloc (Nat.le_refl _) _
  have Y5 : Hid (BxX (w4.alloc (.cells #[.int .i64 z, .slice a4 ns.length k4] 41)) w4.heap.size 41 z (.slice a4 ns.length k4)) := BxX.new _ _ _ _
  generalize w4.alloc (.cells #[.int .i64 z, .slice a4 ns.length k4] 41) = w5 at *
  have Y5lt := Y5.out.lt
  have s4 := B4.out.size
  have s45 := BA.out.size
  have B5 : Hid (Below w.heap.size w w5) := B4.out.trans (BA.out.mono s4)
  have X5 : Hid (BxX w5 w.heap.size 36 z (.slice ao ns.length ca)) := BxX.later BA.out X4.out
  have Q5 : Hid (OwnE 86 w5 w3.heap.size (.slice a4 ns.length k4) ns) := Q4.out.below BA.out
  have O35 : Hid (Own .u8 5 w5 w2.heap.size v3 L) := O34.out.below BA.out
  clear X4 Q4 BA O34
  refine (encTxn_any _ _ _ ns Q5.out.rd hd.out).mono ?_
  rw [HL.out]
  rintro e w6 ⟨v6, rfl, o6, b6⟩
  have s5 := B5.out.size
  have O6 : Hid (Own .u8 5 w6 w5.heap.size v6 L) := o6
  have B6 : Hid (Below w.heap.size w w6) := B5.out.trans (b6.mono s5)
  have X6 : Hid (BxX w6 w.heap.size 36 z (.slice ao ns.length ca)) := BxX.later b6 X5.out
  have Y6 : Hid (BxX w6 w4.heap.size 41 z (.slice a4 ns.length k4)) := BxX.later b6 Y5.out
  have Q6 : Hid (OwnE 86 w6 w3.heap.size (.slice a4 ns.length k4) ns) := Q5.out.below b6
  have O36 : Hid (Own .u8 5 w6 w2.heap.size v3 L) := O35.out.below b6
  have N36 : Hid (v3.ownBlock = none ∨ v3.ownBlock ≠ v6.ownBlock) := own_apart O35.out O6.out (Nat.le_refl _)
  have s56 := b6.size
  clear o6 b6 X5 Y5 Q5 B5 O35
  go_wp2_with fail
  refine (eqByteS_any _ _ _ L L O6.out.rd O36.out.rd).mono ?_
  rintro e w7 ⟨rfl, q7, rfl⟩
  rw [show decide (L = L) = true by simp]
  have D7 : Hid (Below w6.heap.size w6 (w6.drewN q7)) := below_drewN' w6 q7
  generalize w6.drewN q7 = w7 at *
  have O7 : Hid (Own .u8 5 w7 w5.heap.size v6 L) := O6.out.below D7.out
  have O37 : Hid (Own .u8 5 w7 w2.heap.size v3 L) := O36.out.below D7.out
  have B7 : Hid (Below w.heap.size w w7) := B6.out.trans (D7.out.mono B6.out.size)
  have X7 : Hid (BxX w7 w.heap.size 36 z (.slice ao ns.length ca)) := BxX.later D7.out X6.out
  have Y7 : Hid (BxX w7 w4.heap.size 41 z (.slice a4 ns.length k4)) := BxX.later D7.out Y6.out
  have Q7 : Hid (OwnE 86 w7 w3.heap.size (.slice a4 ns.length k4) ns) := Q6.out.below D7.out
  have s67 := D7.out.size
  clear D7 O6 O36 B6 X6 Y6 Q6
  obtain ⟨c0, c1⟩ := X7.out.cells
  obtain ⟨d0, d1⟩ := Y7.out.cells
  have HT : Hid (∀ q, Calls Tryd.prog 21 #[.agg #[.int .i64 z, .slice ao ns.length ca]] (w7.drewN q) fun e w' => ∃ a c, e = .returned (.agg #[.int .i64 z, .slice a ns.length c]) ∧ Hid (RdE w' (.slice a ns.length c) ns) ∧ Hid (RdE w' (.slice a4 ns.length k4) ns) ∧ (w'.cell? ⟨w4.heap.size, 0, none⟩ = some (.int .i64 z) ∧ w'.cell? ⟨w4.heap.size, 1, none⟩ = some (.slice a4 ns.length k4)) ∧ Hid (Below w7.heap.size w7 w')) := by
    intro q
    refine (toTxn_any _ _ _ ns ((HR.out.below B7.out).below (below_drewN' w7 q)) hn).mono ?_
    rintro e w' ⟨a, c, rfl, o', b'⟩
    have b7' : Below w7.heap.size w7 w' := (below_drewN' w7 q).trans b'
    exact ⟨a, c, rfl, o'.rd, Q7.out.rd.below b7', (BxX.later b7' Y7.out).cells, b7'⟩
  go_wp2
  go_region_with (first | (go_at_call 21; refine (HT.out 1).mono ?_; rintro e w' ⟨a, c, rfl, r1, r2, ⟨k0, k1⟩, bw⟩) | (go_at_call 23; refine (eqTxn_same _ _ _ _ ns r2.out r1.out hn).mono ?_; rintro e w'' ⟨rfl, b''⟩))
  all_goals
    have b8 : Below w7.heap.size w7 w'' := bw.out.trans (b''.mono bw.out.size)
    have O8 : Hid (Own .u8 5 w'' w5.heap.size v6 L) := O7.out.below b8
    have O38 : Hid (Own .u8 5 w'' w2.heap.size v3 L) := O37.out.below b8
    have B8 : Hid (Below w.heap.size w w'') := B7.out.trans (b8.mono B7.out.size)
    have X8 : Hid (BxX w'' w.heap.size 36 z (.slice ao ns.length ca)) := BxX.later b8 X7.out
    have Y8 : Hid (BxX w'' w4.heap.size 41 z (.slice a4 ns.length k4)) := BxX.later b8 Y7.out
    have Q8 : Hid (OwnE 86 w'' w3.heap.size (.slice a4 ns.length k4) ns) := Q7.out.below b8
    have s78 := b8.size
    clear b8 b'' bw k0 k1 r1 r2 O7 O37 B7 X7 Y7 Q7 HT c0 c1 d0 d1
    obtain ⟨d0, d1⟩ := Y8.out.cells
    go_wp2_with fail
    refine (markTxn_any _ w3.heap.size 1 _ _ ns Q8.out (by omega) (by omega) hn).mono ?_
    rintro e w9 ⟨rfl, b9, k9⟩
    have O9 : Hid (Own .u8 5 w9 w5.heap.size v6 L) := O8.out.keepT k9 (by decide)
    have O39 : Hid (Own .u8 5 w9 w2.heap.size v3 L) := O38.out.keepT k9 (by decide)
    have B9 : Hid (Below w.heap.size w w9) := B8.out.trans (b9.mono s3)
    have X9 : Hid (BxX w9 w.heap.size 36 z (.slice ao ns.length ca)) := k9.box X8.out (by decide)
    have s9 := b9.size
    clear b9 k9 O8 O38 B8 X8 Y8 Q8 d0 d1
    have hk9 : ¬ ((1 + 8 * ns.length : Nat) : Int) < 0 := by omega
    go_wp2_with fail
    refine (eqByteS_any _ _ _ L L O9.out.rd O39.out.rd).mono ?_
    rintro e w10 ⟨rfl, q10, rfl⟩
    rw [show decide (L = L) = true by simp]
    go_wp2_with fail
    refine (markByteS_any _ _ _ L 1 (O9.out.drewN q10) (by omega) (by omega) (by omega)).mono ?_
    rintro e w11 ⟨rfl, o11, g11⟩
    have b11 : Below w5.heap.size w9 w11 := ((below_drewN' w9 q10).mono (by omega)).grown g11 (by show _ ≤ w9.heap.size; omega) (fun k hk => (O9.out.lt k hk).1)
    have X11 : Hid (BxX w11 w.heap.size 36 z (.slice ao ns.length ca)) := by
      have hlt : w.heap.size < w5.heap.size := by have := Y5lt; omega
      exact (b11.block _ hlt).trans X9.out
    have B11 : Hid (Below w.heap.size w w11) := B9.out.trans (b11.mono s5)
    have O311 : Hid (Own .u8 5 w11 w2.heap.size v3 L) := (O39.out.drewN q10).other g11 N36.out
    have O11 : Hid (Own .u8 5 w11 w5.heap.size v6 (marks 1 L.length)) := o11
    have s11 := b11.size
    clear o11 g11 b11 O9 O39 X9 B9
    generalize hm : L.length = m at *
    have HM : Hid (L.length = m) := hm
    clear hm
    go_wp2_with fail
    refine (heldByteS_any _ _ m 1 O11.out.rd (by omega) (by omega) (by omega)).mono ?_
    rintro e w12 ⟨rfl, rfl⟩
    have hq0 : ¬ (1 + (m : Int)) < 0 := by omega
    obtain ⟨c0, c1⟩ := X11.out.cells
    go_wp2_with fail
    refine (toTxn_any _ _ _ ns (HR.out.below B11.out) hn).mono ?_
    rintro e w13 ⟨a13, k13, rfl, o13, b13⟩
    have Q13 : Hid (RdE w13 (.slice a13 ns.length k13) ns) := o13.rd
    have B13 : Hid (Below w.heap.size w w13) := B11.out.trans (b13.mono B11.out.size)
    have O313 : Hid (Own .u8 5 w13 w2.heap.size v3 L) := O311.out.below b13
    clear o13 b13 O311 O11 X11 B11 c0 c1
    go_wp2_with fail
    refine (encTxn_any _ _ _ ns Q13.out hd.out).mono ?_
    rw [HL.out]
    rintro e w14 ⟨v14, rfl, o14, b14⟩
    have O14 : Hid (Own .u8 5 w14 w13.heap.size v14 L) := o14
    have O314 : Hid (Own .u8 5 w14 w2.heap.size v3 L) := O313.out.below b14
    have B14 : Hid (Below w.heap.size w w14) := B13.out.trans (b14.mono B13.out.size)
    clear o14 b14 O313 Q13 B13
    go_wp2_with fail
    refine (eqByteS_any _ _ _ L L O14.out.rd O314.out.rd).mono ?_
    rintro e w15 ⟨rfl, q15, rfl⟩
    rw [show decide (L = L) = true by simp]
    have B15 : Hid (Below w.heap.size w (w14.drewN q15)) := B14.out.trans ((below_drewN' w14 q15).mono B14.out.size)
    go_wp2
    go_ret
    exact ⟨rfl, B15.out⟩

end Go.Proofs.YtgjenbgclpmjmaaDoor

namespace Go.Proofs.YtgjenbgclpmjmaaDoor
open Go.RowKit Go.Shelf

/-- The answer as it is compared. -/
def resX (ys : List Int) : Bool × Int × List Ef := match decX ys with | none => (false, 0, []) | some (z, es) => (true, z, es)
theorem decX_len {ys : List Int} {z : Int} {es : List Ef} (h : decX ys = some (z, es)) : es.length ≤ 1000 := by
  unfold decX at h
  split at h
  · cases h
  · split at h
    · cases h
    · split at h
      · rename_i hok
        simp only [Option.some.injEq, Prod.mk.injEq] at h
        obtain ⟨-, rfl⟩ := h
        exact (okTxn_all hok.2).2.2.1
      · cases h
theorem resX_len (ys : List Int) : (resX ys).2.2.length ≤ 1000 := by
  unfold resX
  cases h : decX ys with
  | none => simp
  | some q => obtain ⟨z, es⟩ := q; exact decX_len h
theorem DxPost.res {w w' : World} {ys : List Int} {e : Ending} (h : DxPost w ys e w') : ∃ a c, e = .returned (.agg #[.bool (resX ys).1, .int .i64 (resX ys).2.1, .slice a (resX ys).2.2.length c]) ∧ OwnE 86 w' w.heap.size (.slice a (resX ys).2.2.length c) (resX ys).2.2 ∧ Below w.heap.size w w' := by
  obtain ⟨hb, h⟩ := h
  unfold resX
  rcases h with ⟨h1, rfl⟩ | ⟨z, ns, v, h1, rfl, h2⟩
  · rw [h1]; exact ⟨none, 0, rfl, World.ownsRow_nil _ _ _ _, hb⟩
  · rw [h1]
    obtain ⟨a, c, rfl⟩ := h2.slice
    exact ⟨a, c, rfl, h2, hb⟩
/-- A local answer. -/
def BxQ (W : World) (B : Nat) (t : Bool) (z : Int) (v : Value) : Prop := W.heap[B]? = some (.cells #[.bool t, .int .i64 z, v] 47 (0, 0))
theorem BxQ.lt {w : World} {B : Nat} {t : Bool} {z : Int} {v : Value} (h : BxQ w B t z v) : B < w.heap.size := (Array.getElem?_eq_some_iff.1 h).1
theorem BxQ.new (w : World) (t : Bool) (z : Int) (v : Value) : BxQ (w.alloc (.cells #[.bool t, .int .i64 z, v] 47)) w.heap.size t z v := heap_alloc_new w _
theorem BxQ.later {w w' : World} {B : Nat} {t : Bool} {z : Int} {v : Value} (h : BxQ w B t z v) (hb : Below w.heap.size w w') : BxQ w' B t z v := (hb.block _ h.lt).trans h
theorem BxQ.cells {w : World} {B : Nat} {t : Bool} {z : Int} {v : Value} (h : BxQ w B t z v) : w.cell? ⟨B, 0, none⟩ = some (.bool t) ∧ w.cell? ⟨B, 1, none⟩ = some (.int .i64 z) ∧ w.cell? ⟨B, 2, none⟩ = some v := ⟨(cell_of h _).trans rfl, (cell_of h _).trans rfl, (cell_of h _).trans rfl⟩
set_option maxHeartbeats 400000 in
theorem eqXR_same (w : World) (t : Bool) (z : Int) (va vb : Value) (ns : List Ef) (ha : RdE w va ns) (hb : RdE w vb ns) (hn : ns.length ≤ 1048576) :
    Calls Tryd.prog 27 #[.agg #[.bool t, .int .i64 z, va], .agg #[.bool t, .int .i64 z, vb]] w fun e w' => e = .returned (.bool true) ∧ Below w.heap.size w w' := by
  have B0 : Hid (Below w.heap.size w ((w.alloc (.cells #[.bool t, .int .i64 z, va] 47)).alloc (.cells #[.bool t, .int .i64 z, vb] 47))) := ((Below.refl _ _).alloc (Nat.le_refl _) _).alloc (by simp) _
  have RA : Hid (RdE ((w.alloc (.cells #[.bool t, .int .i64 z, va] 47)).alloc (.cells #[.bool t, .int .i64 z, vb] 47)) va ns) := ha.below B0.out
  have RB : Hid (RdE ((w.alloc (.cells #[.bool t, .int .i64 z, va] 47)).alloc (.cells #[.bool t, .int .i64 z, vb] 47)) vb ns) := hb.below B0.out
  have htt : (t != t) = false := by simp
  clear ha hb
  go_enter Tryd.func27, Tryd.ntmps27
  go_wp2_with fail
  refine (eqTxn_same _ _ _ _ ns RA.out RB.out hn).mono ?_
  rintro e w1 ⟨rfl, b1⟩
  have B1 : Hid (Below w.heap.size w w1) := B0.out.trans (b1.mono (by simp; omega))
  clear b1
  go_wp2
  go_ret
  exact ⟨rfl, B1.out⟩

set_option maxHeartbeats 400000 in
theorem markTxnL_any (w : World) (lo k : Nat) (z : Int) (v : Value) (ns : List Ef) (h : OwnE 86 w lo v ns) (hl : lo ≤ w.heap.size) (hk : k ≤ 1048576) (hn : ns.length ≤ 1048576) :
    Calls Tryd.prog 48 #[.agg #[.int .i64 z, v], .int .i64 k] w fun e w' => e = .returned (.int .i64 ((k + 8 * ns.length : Nat) : Int)) ∧ OwnE 86 w' lo v (mkEs k ns.length) ∧ Below lo w w' ∧ KT 86 w w' := by
  have H : Hid (OwnE 86 w lo v ns) := h
  clear h
  go_enter Tryd.func48, Tryd.ntmps48
  go_wp2_with fail
  refine (markEffectL_any _ lo k v ns (H.out.below ((Below.refl _ _).alloc (Nat.le_refl _) _)) hk hn).mono ?_
  rintro e w1 ⟨rfl, o1, b1, k1⟩
  have O1 : Hid (OwnE 86 w1 lo v (mkEs k ns.length)) := o1
  have B1 : Hid (Below lo w w1) := ((Below.refl _ _).alloc hl _).trans b1
  have K1 : Hid (KT 86 w w1) := ((KT.refl _ _).alloc _).trans k1
  clear b1 k1 o1
  go_wp2
  go_ret
  exact ⟨rfl, O1.out, B1.out, K1.out⟩

set_option maxHeartbeats 400000 in
theorem markXR_any (w : World) (lo k : Nat) (t : Bool) (z : Int) (v : Value) (ns : List Ef) (h : OwnE 86 w lo v ns) (hl : lo ≤ w.heap.size) (hk : k ≤ 1048576) (hn : ns.length ≤ 1048576) :
    Calls Tryd.prog 30 #[.agg #[.bool t, .int .i64 z, v], .int .i64 k] w fun e w' => e = .returned (.int .i64 ((k + 8 * ns.length : Nat) : Int)) ∧ OwnE 86 w' lo v (mkEs k ns.length) ∧ Below lo w w' ∧ KT 86 w w' := by
  have H : Hid (OwnE 86 w lo v ns) := h
  clear h
  go_enter Tryd.func30, Tryd.ntmps30
  go_wp2_with fail
  refine (markTxnL_any _ lo k z v ns (H.out.below ((Below.refl _ _).alloc (Nat.le_refl _) _)) (by simp; omega) hk hn).mono ?_
  rintro e w1 ⟨rfl, o1, b1, k1⟩
  have O1 : Hid (OwnE 86 w1 lo v (mkEs k ns.length)) := o1
  have B1 : Hid (Below lo w w1) := ((Below.refl _ _).alloc hl _).trans b1
  have K1 : Hid (KT 86 w w1) := ((KT.refl _ _).alloc _).trans k1
  clear b1 k1 o1
  go_wp2
  go_ret
  exact ⟨rfl, O1.out, B1.out, K1.out⟩

set_option maxHeartbeats 400000 in
theorem heldTxn_any (w : World) (k n : Nat) (z : Int) (v : Value) (h : RdE w v (mkEs k n)) (hk : k ≤ 1048576) (hn : n ≤ 1048576) :
    Calls Tryd.prog 77 #[.agg #[.int .i64 z, v], .int .i64 k] w fun e w' => e = .returned (.int .i64 ((k + 8 * n : Nat) : Int)) ∧ Below w.heap.size w w' := by
  have B0 : Hid (Below w.heap.size w (w.alloc (.cells #[.int .i64 z, v] 41))) := (Below.refl _ _).alloc (Nat.le_refl _) _
  have H : Hid (RdE (w.alloc (.cells #[.int .i64 z, v] 41)) v (mkEs k n)) := h.below B0.out
  clear h
  go_enter Tryd.func77, Tryd.ntmps77
  go_wp2_with fail
  refine (heldEffectS_any _ _ k n H.out hk hn).mono ?_
  rintro e w1 ⟨rfl, b1⟩
  have B1 : Hid (Below w.heap.size w w1) := B0.out.trans (b1.mono (by simp))
  have hI : ¬ ((k + 8 * n : Nat) : Int) < 0 := by omega
  clear b1
  go_wp2
  go_ret
  exact ⟨rfl, B1.out⟩

set_option maxHeartbeats 400000 in
theorem heldXR_any (w : World) (k n : Nat) (t : Bool) (z : Int) (v : Value) (h : RdE w v (mkEs k n)) (hk : k ≤ 1048576) (hn : n ≤ 1048576) :
    Calls Tryd.prog 31 #[.agg #[.bool t, .int .i64 z, v], .int .i64 k] w fun e w' => e = .returned (.int .i64 ((k + 8 * n : Nat) : Int)) ∧ Below w.heap.size w w' := by
  have B0 : Hid (Below w.heap.size w (w.alloc (.cells #[.bool t, .int .i64 z, v] 47))) := (Below.refl _ _).alloc (Nat.le_refl _) _
  have H : Hid (RdE (w.alloc (.cells #[.bool t, .int .i64 z, v] 47)) v (mkEs k n)) := h.below B0.out
  clear h
  go_enter Tryd.func31, Tryd.ntmps31
  go_wp2_with fail
  refine (heldTxn_any _ k n _ _ H.out hk hn).mono ?_
  rintro e w1 ⟨rfl, b1⟩
  have B1 : Hid (Below w.heap.size w w1) := B0.out.trans (b1.mono (by simp))
  have hI : ¬ ((k + 8 * n : Nat) : Int) < 0 := by omega
  clear b1
  go_wp2
  go_ret
  exact ⟨rfl, B1.out⟩

set_option maxHeartbeats 2000000 in
set_option maxRecDepth 100000 in
theorem lawDecTxn_walk (w : World) (v : Value) (xs : List Int) (h : Rd .u8 w v xs) (hby : Byt xs) :
    Calls Tryd.prog 6 #[v] w fun e w' => e = .returned (.bool true) ∧ Below w.heap.size w w' := by
  obtain ⟨ao, cap, hv, hl1, hl2⟩ := h.len
  have HR : Hid (Rd .u8 w v xs) := h
  have HBY : Hid (Byt xs) := hby
  subst hv
  clear h hby
  unfold maxLen at hl2
  by_cases hbig : 1048576 < xs.length
  · have hbI : (1048576 : Int) < (xs.length : Int) := by omega
    go_enter Tryd.func6, Tryd.ntmps6
    go_wp2
    go_ret
    exact ⟨rfl, Below.refl _ _⟩
  have hbI : ¬ (1048576 : Int) < (xs.length : Int) := by omega
  have hrl := resX_len xs
  obtain ⟨t, z, ns, hts⟩ : ∃ t z ns, resX xs = (t, z, ns) := ⟨_, _, _, rfl⟩
  rw [hts] at hrl
  simp only at hrl
  have HTS : Hid (resX xs = (t, z, ns)) := hts
  clear hts
  go_enter Tryd.func6, Tryd.ntmps6
  go_wp2_with fail
  refine (toByteS_any _ _ xs HR.out (by omega)).mono ?_
  rintro e w1 ⟨v1, rfl, o1, b1⟩
  go_wp2_with fail
  refine (specDecX_any _ _ xs o1.rd HBY.out (by omega)).mono ?_
  intro e w2 hpost
  obtain ⟨a2, c2, rfl, o2, b2⟩ := hpost.res
  rw [HTS.out] at o2
  rw [HTS.out]
  simp only at o2
  simp only
  clear hpost
  have s1 := b1.size
  have s2 := b2.size
  have O2 : Hid (OwnE 86 w2 w1.heap.size (.slice a2 ns.length c2) ns) := o2
  have B2 : Hid (Below w.heap.size w w2) := b1.trans (b2.mono s1)
  clear o1 b1 b2 o2
  have ba : Below w2.heap.size w2 (w2.alloc (.cells #[.bool t, .int .i64 z, .slice a2 ns.length c2] 47)) := (Below.refl _ _).alloc (Nat.le_refl _) _
  have X3 : Hid (BxQ (w2.alloc (.cells #[.bool t, .int .i64 z, .slice a2 ns.length c2] 47)) w2.heap.size t z (.slice a2 ns.length c2)) := BxQ.new w2 t z _
  have O3 : Hid (OwnE 86 (w2.alloc (.cells #[.bool t, .int .i64 z, .slice a2 ns.length c2] 47)) w1.heap.size (.slice a2 ns.length c2) ns) := O2.out.below ba
  have B3 : Hid (Below w.heap.size w (w2.alloc (.cells #[.bool t, .int .i64 z, .slice a2 ns.length c2] 47))) := B2.out.trans (ba.mono B2.out.size)
  have L2 : Hid (∀ g, (Value.slice a2 ns.length c2).ownBlock = some g → g < w2.heap.size) := fun g hg => (World.ownsRow.lt O2.out g hg).2
  have s23 := ba.size
  go_wp2_with fail
  clear ba O2
  generalize w2.alloc (.cells #[.bool t, .int .i64 z, .slice a2 ns.length c2] 47) = wa at *
  have sa := B3.out.size
  refine (toByteS_any _ _ xs (HR.out.below B3.out) (by omega)).mono ?_
  rintro e w4 ⟨v4, rfl, o4, b4⟩
  have s4 := b4.size
  have O4 : Hid (Own .u8 5 w4 wa.heap.size v4 xs) := o4
  have X4 : Hid (BxQ w4 w2.heap.size t z (.slice a2 ns.length c2)) := X3.out.later b4
  have O34 : Hid (OwnE 86 w4 w1.heap.size (.slice a2 ns.length c2) ns) := O3.out.below b4
  have B4 : Hid (Below w.heap.size w w4) := B3.out.trans (b4.mono sa)
  clear o4 b4 X3 O3 B3
  go_wp2_with fail
  refine (implDecX_any _ _ xs O4.out.rd HBY.out (by omega)).mono ?_
  intro e w5 hpost
  obtain ⟨a5, c5, rfl, o5, b5⟩ := hpost.res
  rw [HTS.out] at o5
  rw [HTS.out]
  simp only at o5
  simp only
  clear hpost
  have s5 := b5.size
  have O5 : Hid (OwnE 86 w5 w4.heap.size (.slice a5 ns.length c5) ns) := o5
  have O45 : Hid (Own .u8 5 w5 wa.heap.size v4 xs) := O4.out.below b5
  have X5 : Hid (BxQ w5 w2.heap.size t z (.slice a2 ns.length c2)) := X4.out.later b5
  have O35 : Hid (OwnE 86 w5 w1.heap.size (.slice a2 ns.length c2) ns) := O34.out.below b5
  have B5 : Hid (Below w.heap.size w w5) := B4.out.trans (b5.mono B4.out.size)
  clear o5 b5 O4 X4 O34 B4
  have ba : Below w5.heap.size w5 (w5.alloc (.cells #[.bool t, .int .i64 z, .slice a5 ns.length c5] 47)) := (Below.refl _ _).alloc (Nat.le_refl _) _
  have Y6 : Hid (BxQ (w5.alloc (.cells #[.bool t, .int .i64 z, .slice a5 ns.length c5] 47)) w5.heap.size t z (.slice a5 ns.length c5)) := BxQ.new w5 t z _
  have X6 : Hid (BxQ (w5.alloc (.cells #[.bool t, .int .i64 z, .slice a5 ns.length c5] 47)) w2.heap.size t z (.slice a2 ns.length c2)) := X5.out.later ba
  have O6 : Hid (OwnE 86 (w5.alloc (.cells #[.bool t, .int .i64 z, .slice a5 ns.length c5] 47)) w4.heap.size (.slice a5 ns.length c5) ns) := O5.out.below ba
  have O46 : Hid (Own .u8 5 (w5.alloc (.cells #[.bool t, .int .i64 z, .slice a5 ns.length c5] 47)) wa.heap.size v4 xs) := O45.out.below ba
  have O36 : Hid (OwnE 86 (w5.alloc (.cells #[.bool t, .int .i64 z, .slice a5 ns.length c5] 47)) w1.heap.size (.slice a2 ns.length c2) ns) := O35.out.below ba
  have B6 : Hid (Below w.heap.size w (w5.alloc (.cells #[.bool t, .int .i64 z, .slice a5 ns.length c5] 47))) := B5.out.trans (ba.mono B5.out.size)
  have s56 := ba.size
  obtain ⟨x0, x1, x2⟩ := X5.out.cells
  have xl := X5.out.lt
  go_wp2_with fail
  clear ba x0 x1 x2 xl O5 O45 X5 O35 B5
  generalize w5.alloc (.cells #[.bool t, .int .i64 z, .slice a5 ns.length c5] 47) = w6 at *
  refine (eqXR_same _ t z _ _ ns O6.out.rd O36.out.rd (by omega)).mono ?_
  rintro e w7 ⟨rfl, b7⟩
  have s7 := b7.size
  have O7 : Hid (OwnE 86 w7 w4.heap.size (.slice a5 ns.length c5) ns) := O6.out.below b7
  have O47 : Hid (Own .u8 5 w7 wa.heap.size v4 xs) := O46.out.below b7
  have O37 : Hid (OwnE 86 w7 w1.heap.size (.slice a2 ns.length c2) ns) := O36.out.below b7
  have X7 : Hid (BxQ w7 w2.heap.size t z (.slice a2 ns.length c2)) := X6.out.later b7
  have Y7 : Hid (BxQ w7 w5.heap.size t z (.slice a5 ns.length c5)) := Y6.out.later b7
  have B7 : Hid (Below w.heap.size w w7) := B6.out.trans (b7.mono B6.out.size)
  clear b7 O6 O46 O36 X6 Y6 B6
  go_wp2_with fail
  refine (toByteS_any _ _ xs (HR.out.below B7.out) (by omega)).mono ?_
  rintro e w8 ⟨v8, rfl, o8, b8⟩
  have s8 := b8.size
  have O8 : Hid (OwnE 86 w8 w4.heap.size (.slice a5 ns.length c5) ns) := O7.out.below b8
  have O48 : Hid (Own .u8 5 w8 wa.heap.size v4 xs) := O47.out.below b8
  have O38 : Hid (OwnE 86 w8 w1.heap.size (.slice a2 ns.length c2) ns) := O37.out.below b8
  have X8 : Hid (BxQ w8 w2.heap.size t z (.slice a2 ns.length c2)) := X7.out.later b8
  have Y8 : Hid (BxQ w8 w5.heap.size t z (.slice a5 ns.length c5)) := Y7.out.later b8
  have B8 : Hid (Below w.heap.size w w8) := B7.out.trans (b8.mono B7.out.size)
  have N8 : Hid (Rd .u8 w8 v8 xs) := o8.rd
  clear b8 o8 O7 O47 O37 X7 Y7 B7
  go_wp2_with fail
  refine (eqByteS_any _ _ _ xs xs O48.out.rd N8.out).mono ?_
  rintro e w9 ⟨rfl, q9, rfl⟩
  rw [show decide (xs = xs) = true by simp]
  go_wp2_with fail
  refine (markByteS_any _ _ _ xs 1 (O48.out.drewN q9) (by omega) (by omega) (by omega)).mono ?_
  rintro e w10 ⟨rfl, o10, g10⟩
  have k10 : KT 5 w8 w10 := ((KT.refl _ _).below (below_drewN' w8 q9)).grown (O48.out.drewN q9) g10
  have s10 := k10.1
  have O10 : Hid (OwnE 86 w10 w4.heap.size (.slice a5 ns.length c5) ns) := O8.out.keepQ k10 (by decide)
  have O310 : Hid (OwnE 86 w10 w1.heap.size (.slice a2 ns.length c2) ns) := O38.out.keepQ k10 (by decide)
  have X10 : Hid (BxQ w10 w2.heap.size t z (.slice a2 ns.length c2)) := k10.box X8.out (by decide)
  have Y10 : Hid (BxQ w10 w5.heap.size t z (.slice a5 ns.length c5)) := k10.box Y8.out (by decide)
  have B10 : Hid (Below w.heap.size w w10) := (B8.out.trans ((below_drewN' w8 q9).mono B8.out.size)).grown g10 B8.out.size (fun k hk => by have := (O48.out.lt k hk).1; omega)
  clear o10 g10 k10 O8 O48 O38 X8 Y8 B8 N8
  have hk10 : ¬ (1 + (xs.length : Int)) < 0 := by omega
  obtain ⟨x0, x1, x2⟩ := X10.out.cells
  obtain ⟨y0, y1, y2⟩ := Y10.out.cells
  go_wp2_with fail
  refine (eqXR_same _ t z _ _ ns O10.out.rd O310.out.rd (by omega)).mono ?_
  rintro e w11 ⟨rfl, b11⟩
  clear x0 x1 x2 y0 y1 y2
  have s11 := b11.size
  have O11 : Hid (OwnE 86 w11 w4.heap.size (.slice a5 ns.length c5) ns) := O10.out.below b11
  have O311 : Hid (OwnE 86 w11 w1.heap.size (.slice a2 ns.length c2) ns) := O310.out.below b11
  have X11 : Hid (BxQ w11 w2.heap.size t z (.slice a2 ns.length c2)) := X10.out.later b11
  have Y11 : Hid (BxQ w11 w5.heap.size t z (.slice a5 ns.length c5)) := Y10.out.later b11
  have B11 : Hid (Below w.heap.size w w11) := B10.out.trans (b11.mono B10.out.size)
  clear b11 O10 O310 X10 Y10 B10
  obtain ⟨y0, y1, y2⟩ := Y11.out.cells
  go_wp2_with fail
  refine (markXR_any _ w4.heap.size 1 t _ _ ns O11.out (by omega) (by omega) (by omega)).mono ?_
  rintro e w12 ⟨rfl, o12, b12, k12⟩
  clear y0 y1 y2
  have s12 := b12.size
  have O12 : Hid (OwnE 86 w12 w4.heap.size (.slice a5 ns.length c5) (mkEs 1 ns.length)) := o12
  have O312 : Hid (OwnE 86 w12 w1.heap.size (.slice a2 ns.length c2) ns) := O311.out.belowQ b12 (fun g hg => by have := L2.out g hg; omega)
  have X12 : Hid (BxQ w12 w2.heap.size t z (.slice a2 ns.length c2)) := k12.box X11.out (by decide)
  have Y12 : Hid (BxQ w12 w5.heap.size t z (.slice a5 ns.length c5)) := k12.box Y11.out (by decide)
  have B12 : Hid (Below w.heap.size w w12) := B11.out.trans (b12.mono (by omega))
  clear b12 o12 k12 O11 O311 X11 Y11 B11
  obtain ⟨y0, y1, y2⟩ := Y12.out.cells
  go_wp2_with fail
  refine (heldXR_any _ 1 ns.length t _ _ O12.out.rd (by omega) (by omega)).mono ?_
  rintro e w13 ⟨rfl, b13⟩
  clear y0 y1 y2
  have O313 : Hid (OwnE 86 w13 w1.heap.size (.slice a2 ns.length c2) ns) := O312.out.below b13
  have X13 : Hid (BxQ w13 w2.heap.size t z (.slice a2 ns.length c2)) := X12.out.later b13
  have B13 : Hid (Below w.heap.size w w13) := B12.out.trans (b13.mono B12.out.size)
  clear b13 O12 O312 X12 Y12 B12
  have hk13 : ¬ ((1 + 8 * ns.length : Nat) : Int) < 0 := by omega
  go_wp2_with fail
  refine (toByteS_any _ _ xs (HR.out.below B13.out) (by omega)).mono ?_
  rintro e w14 ⟨v14, rfl, o14, b14⟩
  have O314 : Hid (OwnE 86 w14 w1.heap.size (.slice a2 ns.length c2) ns) := O313.out.below b14
  have X14 : Hid (BxQ w14 w2.heap.size t z (.slice a2 ns.length c2)) := X13.out.later b14
  have B14 : Hid (Below w.heap.size w w14) := B13.out.trans (b14.mono B13.out.size)
  have N14 : Hid (Rd .u8 w14 v14 xs) := o14.rd
  clear b14 o14 O313 X13 B13
  go_wp2_with fail
  refine (implDecX_any _ _ xs N14.out HBY.out (by omega)).mono ?_
  intro e w15 hpost
  obtain ⟨a15, c15, rfl, o15, b15⟩ := hpost.res
  rw [HTS.out] at o15
  rw [HTS.out]
  simp only at o15
  simp only
  clear hpost
  have ba : Below w15.heap.size w15 (w15.alloc (.cells #[.bool t, .int .i64 z, .slice a15 ns.length c15] 47)) := (Below.refl _ _).alloc (Nat.le_refl _) _
  have O16 : Hid (RdE (w15.alloc (.cells #[.bool t, .int .i64 z, .slice a15 ns.length c15] 47)) (.slice a15 ns.length c15) ns) := o15.rd.below ba
  have O316 : Hid (RdE (w15.alloc (.cells #[.bool t, .int .i64 z, .slice a15 ns.length c15] 47)) (.slice a2 ns.length c2) ns) := (O314.out.below b15).rd.below ba
  have X15 : Hid (BxQ w15 w2.heap.size t z (.slice a2 ns.length c2)) := X14.out.later b15
  have B15 : Hid (Below w.heap.size w w15) := B14.out.trans (b15.mono B14.out.size)
  have B16 : Hid (Below w.heap.size w (w15.alloc (.cells #[.bool t, .int .i64 z, .slice a15 ns.length c15] 47))) := B15.out.trans (ba.mono B15.out.size)
  clear b15 o15 O314 X14 B14 ba
  obtain ⟨x0, x1, x2⟩ := X15.out.cells
  have xl := X15.out.lt
  go_wp2_with fail
  refine (eqXR_same _ t z _ _ ns O16.out O316.out (by omega)).mono ?_
  rintro e w17 ⟨rfl, b17⟩
  have B17 : Hid (Below w.heap.size w w17) := B16.out.trans (b17.mono B16.out.size)
  clear b17 x0 x1 x2 xl
  go_wp2
  go_ret
  exact ⟨rfl, B17.out⟩

end Go.Proofs.YtgjenbgclpmjmaaDoor

namespace Go.Proofs.YtgjenbgclpmjmaaDoor
open Go.ChangeShapes Go.WideShapes Go.ChangeAt Go.RowKit

theorem addr_add_none (b o i : Nat) : (⟨b, o, none⟩ : Addr).add i = ⟨b, o + i, none⟩ := Addr.add_lit ..

theorem rd_of {k : IntKind} {w : World} {x : Addr} {len cap : Nat} {zs : List Int} (hl : len ≤ cap) (hm : cap ≤ maxLen) (hz : zs.length = cap)
    (hcell : ∀ i, i < zs.length → w.cell? (x.add i) = some (.int k (zs.getD i 0))) : Rd k w (.slice (some x) len cap) (zs.take len) := by
  have hlen : (zs.take len).length = len := by simp; omega
  refine ⟨some x, cap, by rw [hlen], by rw [hlen]; exact hl, hm, ?_⟩
  by_cases h0 : len = 0
  · subst h0; exact .inl rfl
  · right
    obtain ⟨b, off, spot⟩ := x
    have hc := hcell 0 (by omega)
    have hspot : spot = none := by simpa [Addr.add] using World.cell?_spot hc
    subst hspot
    refine ⟨b, off, rfl, ?_, fun i hi => ?_⟩
    · have := World.block_lt_of_cell? w _ hc
      simpa [Addr.add] using this
    · rw [hlen] at hi
      have := hcell i (by omega)
      rw [addr_add_none] at this
      rw [this]
      simp [List.getD, List.getElem?_take_of_lt hi]

theorem byt_of {zs : List Int} {len : Nat} (h : ∀ n ∈ zs, (Lit.int .u8 n).wf = true) : Byt (zs.take len) := by
  intro x hx
  have := h x (List.mem_of_mem_take hx)
  have b := bounds_u8 this
  omega

/-- A []byte that came in. -/
theorem open_bytes {H : Type} {enc : TypeId × Value → H} {W : World} {a0 : Option Addr} {len0 cap0 : Nat} {d0 : DataW H} {p0 : List MemPlace} {base : Nat} {b : Bool}
    (h0 : DataW.Trod enc Tryd.prog W base (fun _ => true) b 45 (.slice a0 len0 cap0) d0 p0) : ∃ xs, Rd .u8 W (.slice a0 len0 cap0) xs ∧ Byt xs := by
  obtain ⟨fuel, hf⟩ := h0
  rcases open_ints Tryd.underlying45 Tryd.underlying5 (by kernel_rfl) hf with ⟨hcs, _⟩ | ⟨x, l, c, zs, hcs, _, hl, hm, hz, _, hcell, hwz⟩
  · simp [Value.cells] at hcs
    obtain ⟨rfl, rfl, rfl⟩ := hcs
    exact ⟨[], ⟨none, 0, rfl, Nat.le_refl _, Nat.zero_le _, .inl rfl⟩, fun x hx => by cases hx⟩
  · simp [Value.cells] at hcs
    obtain ⟨rfl, rfl, rfl⟩ := hcs
    exact ⟨zs.take len0, rd_of hl hm (by simpa using hz) hcell, byt_of hwz⟩

end Go.Proofs.YtgjenbgclpmjmaaDoor

namespace Go.Proofs.YtgjenbgclpmjmaaDoor
open Go.ChangeShapes Go.WideShapes Go.ChangeAt Go.RowKit

theorem knob : ownKnob Tryd.prog.godebug = none := by kernel_rfl
theorem laidOut : laidOutB Tryd.prog = true := by kernel_rfl

def gFirst (P : Program) : Nat := (P.globalNamed "unicode/utf8.first").getD 0
def gAccept (P : Program) : Nat := (P.globalNamed "unicode/utf8.acceptRanges").getD 0

/-- The witness: the two tables as they are laid. -/
def laidWorld (P : Program) (os : Os) : World :=
  let w0 := World.holding P os ⟨#[], #[], []⟩
  let put (h : Array Obj) (g : Nat) (cs : Array Value) : Array Obj := h.modify g fun
    | .cells _ t frozen => .cells cs t frozen
    | o => o
  let h1 := put w0.heap (gFirst P) (Go.Pinned.utf8FirstZ.map fun (z : Nat) => Value.int .u8 (z : Int)).toArray
  let h2 := put h1 (gAccept P) ((([128, 191, 160, 191, 128, 159, 144, 191, 128, 143] : List Int) ++ List.replicate 22 0).map fun (z : Int) => Value.int .u8 z).toArray
  { w0 with heap := h2 }
theorem laid_met (os : Os) (args : Array Value) : laidMet Tryd.prog [("unicode/utf8.acceptRanges", Rows.laid_unicode_utf8_acceptRanges), ("unicode/utf8.first", Rows.laid_unicode_utf8_first)] ((laidWorld Tryd.prog os).forCall (fun _ _ => 0) ⟨#[], args, []⟩).memory :=
  (LaidIn.of_run (l := [("unicode/utf8.acceptRanges", Rows.laid_unicode_utf8_acceptRanges), ("unicode/utf8.first", Rows.laid_unicode_utf8_first)]) [gAccept Tryd.prog, gFirst Tryd.prog] 8 (by kernel_rfl) (by kernel_rfl) (by kernel_rfl) (by kernel_rfl)).met

end Go.Proofs.YtgjenbgclpmjmaaDoor

