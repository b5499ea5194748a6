import Derived.Test.YtejhcebodlcloaaGreatDoorJ28
import Derived.Test.YtejhcebodlcloaaGreatDoorJ12
import Derived.Test.YtejhcebodlcloaaGreatDoorJ13
namespace Go.Proofs.YtejhcebodlcloaaGreatDoor
open Go.RowKit Go.Shelf

set_option maxHeartbeats 2000000 in
set_option maxRecDepth 100000 in
theorem markOpS_row (w : World) (lo g n cap k : Nat) (us : List Value) (ho : w.ownsRow lo 58 5 (.slice (some ⟨g, 0, none⟩) n cap) n us) (hk : k ≤ 100000000) (hn : n ≤ 1048576) :
    Calls Tryz.prog 35 #[.slice (some ⟨g, 0, none⟩) n cap, .int .i64 k] w fun e w' => e = .returned (.int .i64 ((k + 5 * n : Nat) : Int)) ∧ RowW w lo g n cap 5 58 w' := by
  have R0 : Hid (RowW w lo g n cap 5 58 w) := ⟨⟨us, ho⟩, Below.refl _ _, KT.refl _ _⟩
  clear ho
  go_enter Tryz.func35, Tryz.ntmps35
  go_wp2
  go_loopw [1, 5] (fun vk vi wr => ∃ j K : Nat, j ≤ n ∧ K = k + 5 * j ∧ vi = .int .i64 j ∧ vk = .int .i64 K ∧ Hid (RowW w lo g n cap 5 58 wr)) (fun _ i _ => n - (intOf i).toNat)
  case atStart => exact ⟨0, k, Nat.zero_le _, by omega, rfl, rfl, R0⟩
  case round =>
    obtain ⟨j, K, hj, hK, rfl, rfl, HR⟩ := hrel
    have HKE : Hid (K = k + 5 * j) := hK
    by_cases hlt : j < n
    · have hltI : (j : Int) < (n : Int) := by omega
      have hK2 : K ≤ 1000000000 := by omega
      clear hK
      have hm1 : Hid (∀ W, Calls Tryz.prog 62 #[.int .i64 ((K : Int) + 1)] W fun e w' => e = .returned (.string (mtx (K + 1))) ∧ Below W.heap.size W w') := by
        intro W
        have hm := markText_any W (K + 1) (by omega)
        rw [show ((K + 1 : Nat) : Int) = (K : Int) + 1 by omega] at hm
        exact hm
      have hm2 : Hid (∀ W, Calls Tryz.prog 62 #[.int .i64 ((K : Int) + 1 + 1)] W fun e w' => e = .returned (.string (mtx (K + 2))) ∧ Below W.heap.size W w') := by
        intro W
        have hm := markText_any W (K + 2) (by omega)
        rw [show ((K + 2 : Nat) : Int) = (K : Int) + 1 + 1 by omega] at hm
        exact hm
      obtain ⟨x0, d0, f0⟩ := HR.out.cell (j * 5) (by omega)
      go_wp2_with fail
      refine (hm1.out _).mono ?_
      rintro e w1 ⟨rfl, b1⟩
      have R1 : Hid (RowW w lo g n cap 5 58 w1) := (HR.out.set _ _).below b1
      clear b1 HR d0 f0 hm1
      obtain ⟨x1, d1, f1⟩ := R1.out.cell (j * 5 + 1) (by omega)
      go_wp2_with fail
      refine (hm2.out _).mono ?_
      rintro e w3 ⟨rfl, b3⟩
      have R3 : Hid (RowW w lo g n cap 5 58 w3) := (R1.out.set _ _).below b3
      clear b3 R1 d1 f1 hm2
      obtain ⟨x2, d2, f2⟩ := R3.out.cell (j * 5 + 2) (by omega)
      obtain ⟨x3, d3, f3⟩ := R3.out.cell (j * 5 + 3) (by omega)
      obtain ⟨x4, d4, f4⟩ := R3.out.cell (j * 5 + 4) (by omega)
      go_wp2
      refine ⟨⟨j + 1, K + 5, by omega, by have := HKE.out; omega, by go_num, by go_num, ?_⟩, by simp [intOf]; omega⟩
      exact (((R3.out.set _ _).set _ _).set _ _)
    · have hjn : j = n := by omega
      subst hjn
      subst hK
      go_wp2
      go_ret
      exact ⟨rfl, HR.out⟩

set_option maxHeartbeats 400000 in
theorem markOpS_nil (w : World) (ao : Option Addr) (cap k : Nat) : Calls Tryz.prog 35 #[.slice ao 0 cap, .int .i64 k] w fun e w' => e = .returned (.int .i64 k) ∧ w' = w := by
  go_enter Tryz.func35, Tryz.ntmps35
  go_wp2
  go_rounds 1
  go_ret
  exact ⟨rfl, rfl⟩

theorem markOpS_any (w : World) (lo k : Nat) (v : Value) (ns : List Op5) (h : OwnO 58 w lo v ns) (hk : k ≤ 100000000) (hn : ns.length ≤ 1048576) :
    Calls Tryz.prog 35 #[v, .int .i64 k] w fun e w' => e = .returned (.int .i64 ((k + 5 * ns.length : Nat) : Int)) ∧ Below lo w w' ∧ KT 58 w w' := by
  have h0 := h
  rcases h.2 with ⟨rfl, h1⟩ | ⟨g, cap, cur, rfl, rest⟩
  · refine (markOpS_nil w none 0 k).mono ?_
    rintro e w' ⟨rfl, rfl⟩
    rw [h1]
    exact ⟨rfl, Below.refl _ _, KT.refl _ _⟩
  · refine (markOpS_row w lo g ns.length cap k _ h0 hk hn).mono ?_
    rintro e w' ⟨rfl, -, h2, h3⟩
    exact ⟨rfl, h2, h3⟩

set_option maxHeartbeats 400000 in
theorem markRequest_any (w : World) (lo k : Nat) (v : Value) (ns : List Op5) (h : OwnO 58 w lo v ns) (hl : lo ≤ w.heap.size) (hk : k ≤ 100000000) (hn : ns.length ≤ 1048576) :
    Calls Tryz.prog 14 #[.agg #[v], .int .i64 k] w fun e w' => e = .returned (.int .i64 ((k + 5 * ns.length : Nat) : Int)) ∧ Below lo w w' ∧ KT 58 w w' := by
  have H : Hid (OwnO 58 w lo v ns) := h
  clear h
  go_enter Tryz.func14, Tryz.ntmps14
  go_wp2_with fail
  refine (markOpS_any _ lo k v ns (H.out.below ((Below.refl _ _).alloc (Nat.le_refl _) _)) hk hn).mono ?_
  rintro e w1 ⟨rfl, b1, k1⟩
  have B1 : Hid (Below lo w w1) := ((Below.refl _ _).alloc hl _).trans b1
  have K1 : Hid (KT 58 w w1) := ((KT.refl _ _).alloc _).trans k1
  clear b1 k1
  go_wp2
  go_ret
  exact ⟨rfl, B1.out, K1.out⟩


def lA (L : List (List UInt8)) (i : Nat) : List UInt8 := L.getD i []
/-- A slice of texts that reads as L. -/
def RdS (w : World) (v : Value) (L : List (List UInt8)) : Prop :=
  ∃ ao cap, v = .slice ao L.length cap ∧ (L = [] ∨ ∃ b off, ao = some ⟨b, off, none⟩ ∧ b < w.heap.size ∧ ∀ i, i < L.length → w.cell? ⟨b, off + i, none⟩ = some (.string ⟨(lA L i).toArray⟩))
theorem OwnS.rd {w : World} {lo : Nat} {v : Value} {L : List (List UInt8)} (h : OwnS w lo v L) : RdS w v L := by
  rcases h.2 with ⟨rfl, h0⟩ | ⟨g, cap, cur, rfl, hb, hg, hn, hm, hs, ht⟩
  · exact ⟨none, 0, by rw [h0], .inl (List.eq_nil_of_length_eq_zero h0)⟩
  · refine ⟨_, cap, rfl, .inr ⟨g, 0, rfl, (Array.getElem?_eq_some_iff.1 hg).1, fun i hi => ?_⟩⟩
    have h1 := World.ownsRow.cells h (g := g) rfl i (sV (lA L i)) (by unfold lA; simp [List.getD, hi])
    rw [Addr.add_lit] at h1
    exact h1
theorem RdS.below {w w' : World} {v : Value} {L : List (List UInt8)} (h : RdS w v L) (hb : Below w.heap.size w w') : RdS w' v L := by
  obtain ⟨ao, cap, rfl, h3⟩ := h
  refine ⟨ao, cap, rfl, ?_⟩
  rcases h3 with h3 | ⟨b, off, rfl, hlt, hc⟩
  · exact .inl h3
  · exact .inr ⟨b, off, rfl, Nat.lt_of_lt_of_le hlt hb.size, fun i hi => (hb.cell (p := ⟨b, off + i, none⟩) hlt).trans (hc i hi)⟩

set_option maxHeartbeats 400000 in
theorem eqStringS_nil (w : World) (ao bo : Option Addr) (ca cb : Nat) :
    Calls Tryz.prog 30 #[.slice ao 0 ca, .slice bo 0 cb] w fun e w' => e = .returned (.bool true) ∧ w' = w := by
  go_enter Tryz.func30, Tryz.ntmps30
  go_wp2
  go_rounds 1
  go_ret
  exact ⟨rfl, rfl⟩

set_option maxHeartbeats 1000000 in
set_option maxRecDepth 100000 in
theorem eqStringS_row (w : World) (b o b2 o2 n ca cb : Nat) (L : List (List UInt8)) (hn : n ≤ 1048576)
    (hc : ∀ i, i < n → w.cell? ⟨b, o + i, none⟩ = some (.string ⟨(lA L i).toArray⟩)) (hc2 : ∀ i, i < n → w.cell? ⟨b2, o2 + i, none⟩ = some (.string ⟨(lA L i).toArray⟩)) :
    Calls Tryz.prog 30 #[.slice (some ⟨b, o, none⟩) n ca, .slice (some ⟨b2, o2, none⟩) n cb] w fun e w' => e = .returned (.bool true) ∧ ∃ q, w' = w.drewN q := by
  have HC : Hid (∀ i, i < n → w.cell? ⟨b, o + i, none⟩ = some (.string ⟨(lA L i).toArray⟩)) := hc
  have HC2 : Hid (∀ i, i < n → w.cell? ⟨b2, o2 + i, none⟩ = some (.string ⟨(lA L i).toArray⟩)) := hc2
  clear hc hc2
  have h1 : ((n : Int) != (n : Int)) = false := by simp
  go_enter Tryz.func30, Tryz.ntmps30
  go_wp2
  go_loopw [5] (fun i wr => ∃ k : Nat, k ≤ n ∧ i = .int .i64 k ∧ ∃ q, wr = w.drewN q) (fun i _ => n - (intOf i).toNat)
  case atStart => exact ⟨0, Nat.zero_le _, rfl, 0, rfl⟩
  case round =>
    obtain ⟨k, hk, rfl, q, rfl⟩ := hrel
    by_cases hlt : k < n
    · have c1 := HC.out k hlt
      have c2 := HC2.out k hlt
      have hltI : (k : Int) < (n : Int) := by omega
      generalize lA L k = t at *
      go_wp2
      go_quiet (fail)
      go_wp2
      go_roundw
      case rel => exact ⟨k + 1, by omega, by go_num, _, rfl⟩
      case measure => simp [intOf]; omega
    · go_wp2
      go_ret
      exact ⟨rfl, _, rfl⟩

theorem eqStringS_same (w : World) (va vb : Value) (L : List (List UInt8)) (ha : RdS w va L) (hb : RdS w vb L) (hn : L.length ≤ 1048576) :
    Calls Tryz.prog 30 #[va, vb] w fun e w' => e = .returned (.bool true) ∧ Below w.heap.size w w' := by
  obtain ⟨ao, ca, rfl, h3⟩ := ha
  obtain ⟨bo, cb, rfl, k3⟩ := hb
  by_cases hL : L = []
  · subst hL
    refine (eqStringS_nil w ao bo ca cb).mono ?_
    rintro e w' ⟨rfl, rfl⟩
    exact ⟨rfl, Below.refl _ _⟩
  · rcases h3 with h3 | ⟨b, o, rfl, _, hc⟩
    · exact absurd h3 hL
    · rcases k3 with k3 | ⟨b2, o2, rfl, _, hc2⟩
      · exact absurd k3 hL
      · refine (eqStringS_row w b o b2 o2 L.length ca cb L hn hc hc2).mono ?_
        rintro e w' ⟨rfl, q, rfl⟩
        exact ⟨rfl, below_drewN' w q⟩

def mkS (k n : Nat) : List (List UInt8) := (List.range n).map fun j => (mtx (k + j)).data.toList
theorem mkS_len (k n : Nat) : (mkS k n).length = n := by simp [mkS]
theorem mkS_at (k n j : Nat) (h : j < n) : (⟨(lA (mkS k n) j).toArray⟩ : ByteArray) = mtx (k + j) := by unfold lA mkS; simp [List.getD, h]
theorem sV_mtx (K : Nat) : sV (mtx K).data.toList = .string (mtx K) := by unfold sV; simp
def mixS (k : Nat) (L : List (List UInt8)) (j : Nat) : List (List UInt8) := mkS k j ++ L.drop j
theorem mixS_set (k : Nat) (L : List (List UInt8)) (j : Nat) (h : j < L.length) : ((mixS k L j).map sV).set j (.string (mtx (k + j))) = (mixS k L (j + 1)).map sV := by
  rw [← sV_mtx, ← List.map_set]
  congr 1
  unfold mixS
  rw [List.set_append_right _ _ (by rw [mkS_len]; exact Nat.le_refl _), mkS_len, Nat.sub_self, List.drop_eq_getElem_cons h, List.set_cons_zero]
  unfold mkS
  rw [List.range_succ, List.map_append, List.append_assoc]
  rfl
theorem mixS_all (k : Nat) (L : List (List UInt8)) : mixS k L L.length = mkS k L.length := by unfold mixS; simp
def RowS (w : World) (lo g n cap : Nat) (us : List Value) (w' : World) : Prop := w'.ownsRow lo 9 1 (.slice (some ⟨g, 0, none⟩) n cap) n us ∧ Below lo w w' ∧ KT 9 w w'
theorem RowS.set {w w' : World} {lo g n cap : Nat} {us : List Value} (h : RowS w lo g n cap us w') (i : Nat) (u : Value) : RowS w lo g n cap (us.set i u) (w'.setCell ⟨g, i, none⟩ u) := by
  obtain ⟨h1, h2, h3⟩ := h
  have hs := World.ownsRow.stored h1 i u
  exact ⟨hs.1, h2.setCell (World.ownsRow.lt h1 g rfl).1 _, h3.grown h1 hs.2⟩
theorem RowS.below {w w' w2 : World} {lo g n cap : Nat} {us : List Value} (h : RowS w lo g n cap us w') (hb : Below w'.heap.size w' w2) : RowS w lo g n cap us w2 := by
  obtain ⟨h1, h2, h3⟩ := h
  refine ⟨row_keep h1 hb, h2.trans (hb.mono ?_), h3.below hb⟩
  have := World.ownsRow.lt h1 g rfl
  omega

set_option maxHeartbeats 1000000 in
set_option maxRecDepth 100000 in
theorem markStringS_row (w : World) (lo g n cap k : Nat) (L : List (List UInt8)) (hp : L.length = n) (ho : w.ownsRow lo 9 1 (.slice (some ⟨g, 0, none⟩) n cap) n (L.map sV)) (hk : k ≤ 1048576) (hn : n ≤ 1048576) :
    Calls Tryz.prog 36 #[.slice (some ⟨g, 0, none⟩) n cap, .int .i64 k] w fun e w' => e = .returned (.int .i64 ((k + n : Nat) : Int)) ∧ RowS w lo g n cap ((mkS k n).map sV) w' := by
  have R0 : Hid (RowS w lo g n cap ((mixS k L 0).map sV) w) := ⟨by unfold mixS mkS; simpa using ho, Below.refl _ _, KT.refl _ _⟩
  have HP : Hid (L.length = n) := hp
  clear ho hp
  go_enter Tryz.func36, Tryz.ntmps36
  go_wp2
  go_loopw [1, 5] (fun vk vi wr => ∃ j K : Nat, j ≤ n ∧ K = k + j ∧ vi = .int .i64 j ∧ vk = .int .i64 K ∧ Hid (RowS w lo g n cap ((mixS k L j).map sV) wr)) (fun _ i _ => n - (intOf i).toNat)
  case atStart => exact ⟨0, k, Nat.zero_le _, by omega, rfl, rfl, R0⟩
  case round =>
    obtain ⟨j, K, hj, hK, rfl, rfl, HR⟩ := hrel
    have HKE : Hid (K = k + j) := hK
    by_cases hlt : j < n
    · have hltI : (j : Int) < (n : Int) := by omega
      have hK2 : K ≤ 10000000 := by omega
      have HS : Hid (((mixS k L j).map sV).set j (.string (mtx K)) = (mixS k L (j + 1)).map sV) := by show _ = _; rw [hK]; exact mixS_set k L j (by rw [HP.out]; exact hlt)
      generalize (mixS k L j).map sV = us at *
      clear hK
      go_wp2_with fail
      refine (markText_any _ K (by omega)).mono ?_
      rintro e w1 ⟨rfl, b1⟩
      have R1 : Hid (RowS w lo g n cap us w1) := HR.out.below b1
      clear b1 HR
      obtain ⟨x0, d0, f0⟩ := rowcell R1.out.1 j (by omega)
      have R2 : Hid (RowS w lo g n cap (us.set j (.string (mtx K))) (w1.setCell ⟨g, j, none⟩ (.string (mtx K)))) := R1.out.set _ _
      go_wp2
      exact ⟨⟨j + 1, K + 1, by omega, by have := HKE.out; omega, by go_num, by go_num, (by rw [← HS.out]; exact R2)⟩, by simp [intOf]; omega⟩
    · have hjn : j = n := by omega
      subst hjn
      subst hK
      have HF : Hid (RowS w lo g j cap ((mkS k j).map sV) wr) := by have := HR.out; rw [← HP.out, mixS_all, HP.out] at this; exact this
      go_wp2
      go_ret
      exact ⟨rfl, HF.out⟩

set_option maxHeartbeats 400000 in
theorem markStringS_nil (w : World) (ao : Option Addr) (cap k : Nat) : Calls Tryz.prog 36 #[.slice ao 0 cap, .int .i64 k] w fun e w' => e = .returned (.int .i64 k) ∧ w' = w := by
  go_enter Tryz.func36, Tryz.ntmps36
  go_wp2
  go_rounds 1
  go_ret
  exact ⟨rfl, rfl⟩

set_option maxHeartbeats 1000000 in
set_option maxRecDepth 100000 in
theorem heldStringS_row (w : World) (b o n cap k : Nat) (hb : b < w.heap.size) (hc : ∀ i, i < n → w.cell? ⟨b, o + i, none⟩ = some (.string (mtx (k + i)))) (hk : k ≤ 1048576) (hn : n ≤ 1048576) :
    Calls Tryz.prog 38 #[.slice (some ⟨b, o, none⟩) n cap, .int .i64 k] w fun e w' => e = .returned (.int .i64 ((k + n : Nat) : Int)) ∧ Below w.heap.size w w' := by
  have HC : Hid (∀ i, i < n → w.cell? ⟨b, o + i, none⟩ = some (.string (mtx (k + i)))) := hc
  clear hc
  go_enter Tryz.func38, Tryz.ntmps38
  go_wp2
  go_loopw [1, 5] (fun vk vi wr => ∃ j K : Nat, j ≤ n ∧ K = k + j ∧ vi = .int .i64 j ∧ vk = .int .i64 K ∧ Hid (Below w.heap.size w wr)) (fun _ i _ => n - (intOf i).toNat)
  case atStart => exact ⟨0, k, Nat.zero_le _, by omega, rfl, rfl, Below.refl _ _⟩
  case round =>
    obtain ⟨j, K, hj, hK, rfl, rfl, HB⟩ := hrel
    have HKE : Hid (K = k + j) := hK
    by_cases hlt : j < n
    · have hltI : (j : Int) < (n : Int) := by omega
      have hK2 : K ≤ 10000000 := by omega
      have HCJ : Hid (w.cell? ⟨b, o + j, none⟩ = some (.string (mtx K))) := by have := HC.out j hlt; rw [← hK] at this; exact this
      have hm0 : Hid (∀ W, Calls Tryz.prog 62 #[.int .i64 (K : Int)] W fun e w' => e = .returned (.string (mtx K)) ∧ Below W.heap.size W w') := fun W => markText_any W K (by omega)
      have hpp : ((mtx K).toList == (mtx K).toList) = true := by simp
      clear hK
      go_wp2
      refine wp_region_held_drew (S := fun W => Hid (Below w.heap.size w W) ∧ W.cell? ⟨b, o + j, none⟩ = some (.string (mtx K))) (by kernel_rfl) (⟨HB.out.trans ((below_drewN' _ 1).mono HB.out.size), ((HB.out.trans ((below_drewN' _ 1).mono HB.out.size)).cell (p := ⟨b, o + j, none⟩) hb).trans HCJ.out⟩) (fun hHeld => ?_)
      refine wpAnyH_take (i := 0) (oi := { dst := some 12, op := _, type := _, pos := _, after := _, guard := _ }) (v := (.slice (some ⟨b, o, none⟩) n cap)) rfl (by kernel_rfl) (by kernel_rfl) (by kernel_rfl) (fun _ _ _ h => h) (Or.inl ⟨by rfl, ?hy1⟩) (by assumption) ?rest1
      case hy1 =>
        intro w9 hS9
        obtain ⟨-, y0⟩ := hS9
        go_simp
        try with_reducible rfl
      try simp only [Act.put, List.setIfInBounds_toArray, List.set_cons_zero, List.set_cons_succ]
      refine wpAnyH_take (i := 1) (oi := { dst := some 13, op := _, type := _, pos := _, after := _, guard := _ }) (v := (.int .i64 (j : Int))) rfl (by kernel_rfl) (by kernel_rfl) (by kernel_rfl) (fun _ _ _ h => h) (Or.inl ⟨by rfl, ?hy2⟩) (by assumption) ?rest2
      case hy2 =>
        intro w9 hS9
        obtain ⟨-, y0⟩ := hS9
        go_simp
        try with_reducible rfl
      try simp only [Act.put, List.setIfInBounds_toArray, List.set_cons_zero, List.set_cons_succ]
      refine wpAnyH_take (i := 2) (oi := { dst := some 14, op := _, type := _, pos := _, after := _, guard := _ }) (v := (.pointer (some ⟨b, o + j, none⟩))) rfl (by kernel_rfl) (by kernel_rfl) (by kernel_rfl) (fun _ _ _ h => h) (Or.inl ⟨by rfl, ?hy3⟩) (by assumption) ?rest3
      case hy3 =>
        intro w9 hS9
        obtain ⟨-, y0⟩ := hS9
        go_simp
        try with_reducible rfl
      try simp only [Act.put, List.setIfInBounds_toArray, List.set_cons_zero, List.set_cons_succ]
      refine wpAnyH_take (i := 3) (oi := { dst := some 15, op := _, type := _, pos := _, after := _, guard := _ }) (v := (.string (mtx K))) rfl (by kernel_rfl) (by kernel_rfl) (by kernel_rfl) (fun _ _ _ h => h) (Or.inl ⟨by rfl, ?hy4⟩) (by assumption) ?rest4
      case hy4 =>
        intro w9 hS9
        obtain ⟨-, y0⟩ := hS9
        go_simp
        try with_reducible rfl
      try simp only [Act.put, List.setIfInBounds_toArray, List.set_cons_zero, List.set_cons_succ]
      refine wpAnyH_take (i := 4) (oi := { dst := some 16, op := _, type := _, pos := _, after := _, guard := _ }) (v := (.int .i64 (K : Int))) rfl (by kernel_rfl) (by kernel_rfl) (by kernel_rfl) (fun _ _ _ h => h) (Or.inl ⟨by rfl, ?hy5⟩) (by assumption) ?rest5
      case hy5 =>
        intro w9 hS9
        obtain ⟨-, y0⟩ := hS9
        go_simp
        try with_reducible rfl
      try simp only [Act.put, List.setIfInBounds_toArray, List.set_cons_zero, List.set_cons_succ]
      refine wpAnyH_ready (rs := [5]) (by kernel_rfl) (by simp) ?_
      refine AllReadyH.cons (o := { dst := some 17, op := _, type := _, pos := _, after := _, guard := _ }) rfl (fun KK hK => ?_) AllReadyH.nil
      go_simp
      refine (hm0.out _).mono ?_
      rintro e w4 ⟨rfl, b4⟩
      have HB4 : Hid (Below w.heap.size w w4) := (HB.out.trans ((below_drewN' _ 1).mono HB.out.size)).trans (b4.mono HB.out.size)
      clear b4
      refine hK.out _ _ ((show Hid (Below w.heap.size w w4) ∧ w4.cell? ⟨b, o + j, none⟩ = some (.string (mtx K)) from ⟨HB4, (HB4.out.cell (p := ⟨b, o + j, none⟩) hb).trans HCJ.out⟩)) (fun hx9 => ?_)
      clear hK KK hHeld hx9
      have hHeld := (show Hid (Below w.heap.size w w4) ∧ w4.cell? ⟨b, o + j, none⟩ = some (.string (mtx K)) from ⟨HB4, (HB4.out.cell (p := ⟨b, o + j, none⟩) hb).trans HCJ.out⟩)
      try simp only [Act.put, List.setIfInBounds_toArray, List.set_cons_zero, List.set_cons_succ]
      refine wpAnyH_take (i := 6) (oi := { dst := some 18, op := _, type := _, pos := _, after := _, guard := _ }) (v := (.bool false)) rfl (by kernel_rfl) (by kernel_rfl) (by kernel_rfl) (fun _ _ _ h => h) (Or.inl ⟨by rfl, ?hy6⟩) (by assumption) ?rest6
      case hy6 =>
        intro w9 hS9
        go_simp
        try with_reducible rfl
      try simp only [Act.put, List.setIfInBounds_toArray, List.set_cons_zero, List.set_cons_succ]
      refine wpAnyH_done (by kernel_rfl) ?_ _
      clear hHeld
      go_wp2
      exact ⟨⟨j + 1, K + 1, by omega, by have := HKE.out; omega, by go_num, by go_num, HB4⟩, by simp [intOf]; omega⟩
    · have hjn : j = n := by omega
      subst hjn
      subst hK
      go_wp2
      go_ret
      exact ⟨rfl, HB.out⟩

set_option maxHeartbeats 400000 in
theorem heldStringS_nil (w : World) (ao : Option Addr) (cap k : Nat) : Calls Tryz.prog 38 #[.slice ao 0 cap, .int .i64 k] w fun e w' => e = .returned (.int .i64 k) ∧ w' = w := by
  go_enter Tryz.func38, Tryz.ntmps38
  go_wp2
  go_rounds 1
  go_ret
  exact ⟨rfl, rfl⟩

theorem heldStringS_any (w : World) (v : Value) (k n : Nat) (h : RdS w v (mkS k n)) (hk : k ≤ 1048576) (hn : n ≤ 1048576) :
    Calls Tryz.prog 38 #[v, .int .i64 k] w fun e w' => e = .returned (.int .i64 ((k + n : Nat) : Int)) ∧ Below w.heap.size w w' := by
  obtain ⟨ao, cap, rfl, h3⟩ := h
  rw [mkS_len] at h3 ⊢
  rcases h3 with h3 | ⟨b, o, rfl, hb, hc⟩
  · have : n = 0 := by have := congrArg List.length h3; rw [mkS_len] at this; exact this
    subst this
    refine (heldStringS_nil w ao cap k).mono ?_
    rintro e w' ⟨rfl, rfl⟩
    exact ⟨rfl, Below.refl _ _⟩
  · exact heldStringS_row w b o n cap k hb (fun i hi => by rw [hc i hi, mkS_at k n i hi]) hk hn

theorem OwnS.keepT {w w' : World} {lo : Nat} {v : Value} {L : List (List UInt8)} {t : TypeId} (h : OwnS w lo v L) (hk : KT t w w') (ht : 9 ≠ t) : OwnS w' lo v L := by
  refine ⟨h.1, ?_⟩
  rcases h.2 with hn | ⟨g, cap, cur, rfl, hbg, hgg, rest⟩
  · exact .inl hn
  · exact .inr ⟨g, cap, cur, rfl, hbg, hk.box hgg ht, rest⟩
theorem OwnS.belowM {w w' : World} {lo m : Nat} {v : Value} {L : List (List UInt8)} (h : OwnS w lo v L) (hb : Below m w w') (hlt : ∀ g, v.ownBlock = some g → g < m) : OwnS w' lo v L := by
  refine ⟨h.1, ?_⟩
  rcases h.2 with hn | ⟨g, cap, cur, rfl, hbg, hgg, rest⟩
  · exact .inl hn
  · exact .inr ⟨g, cap, cur, rfl, hbg, (hb.block g (hlt g rfl)).trans hgg, rest⟩


set_option maxHeartbeats 400000 in
theorem markEffectS_nil (w : World) (ao : Option Addr) (cap k : Nat) : Calls Tryz.prog 63 #[.slice ao 0 cap, .int .i64 k] w fun e w' => e = .returned (.int .i64 k) ∧ w' = w := by
  go_enter Tryz.func63, Tryz.ntmps63
  go_wp2
  go_rounds 1
  go_ret
  exact ⟨rfl, rfl⟩


/-- A marked node. -/
def mkN (K : Nat) : Nd := ⟨mtx K, mtx (K + 1), (K : Int) + 1 + 1, (K : Int) + 1 + 1 + 1, (K : Int) + 1 + 1 + 1 + 1, (K : Int) + 1 + 1 + 1 + 1 + 1, (K : Int) + 1 + 1 + 1 + 1 + 1 + 1⟩
def mkNs (k n : Nat) : List Nd := (List.range n).map fun j => mkN (k + 7 * j)
theorem mkNs_len (k n : Nat) : (mkNs k n).length = n := by simp [mkNs]
def mkMix (k : Nat) (ns : List Nd) (j : Nat) : List Nd := mkNs k j ++ ns.drop j
theorem mkMix_len (k : Nat) (ns : List Nd) (j : Nat) (h : j ≤ ns.length) : (mkMix k ns j).length = ns.length := by unfold mkMix; rw [List.length_append, mkNs_len, List.length_drop]; omega
theorem mkMix_set (k : Nat) (ns : List Nd) (j : Nat) (h : j < ns.length) : (mkMix k ns j).set j (mkN (k + 7 * j)) = mkMix k ns (j + 1) := by
  unfold mkMix
  rw [List.set_append_right _ _ (by rw [mkNs_len]; exact Nat.le_refl _), mkNs_len, Nat.sub_self, List.drop_eq_getElem_cons h, List.set_cons_zero]
  unfold mkNs
  rw [List.range_succ, List.map_append, List.append_assoc]
  rfl
theorem mkMix_all (k : Nat) (ns : List Nd) : mkMix k ns ns.length = mkNs k ns.length := by unfold mkMix; simp
end Go.Proofs.YtejhcebodlcloaaGreatDoor


