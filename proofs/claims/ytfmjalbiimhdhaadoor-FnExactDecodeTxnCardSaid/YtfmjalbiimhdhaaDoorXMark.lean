import Derived.Test.YtfmjalbiimhdhaaDoorEMarkN
import Derived.Test.YtfmjalbiimhdhaaDoorXEq
namespace Go.Proofs.YtfmjalbiimhdhaaDoor
open Go.RowKit Go.Shelf

set_option maxHeartbeats 2000000 in
set_option maxRecDepth 100000 in
theorem markEffectS_row (w : World) (lo g n cap k : Nat) (us : List Value) (ho : w.ownsRow lo 79 8 (.slice (some ⟨g, 0, none⟩) n cap) n us) (hk : k ≤ 1048576) (hn : n ≤ 1048576) :
    Calls Tryd.prog 88 #[.slice (some ⟨g, 0, none⟩) n cap, .int .i64 k] w fun e w' => e = .returned (.int .i64 ((k + 8 * n : Nat) : Int)) ∧ RowW w lo g n cap 8 79 w' := by
  have R0 : Hid (RowW w lo g n cap 8 79 w) := ⟨⟨us, ho⟩, Below.refl _ _, KT.refl _ _⟩
  clear ho
  go_enter Tryd.func88, Tryd.ntmps88
  go_wp2
  go_loopw [1, 5] (fun vk vi wr => ∃ j K : Nat, j ≤ n ∧ K = k + 8 * j ∧ vi = .int .i64 j ∧ vk = .int .i64 K ∧ Hid (RowW w lo g n cap 8 79 wr)) (fun _ i _ => n - (intOf i).toNat)
  case atStart => exact ⟨0, k, Nat.zero_le _, by omega, rfl, rfl, R0⟩
  case round =>
    obtain ⟨j, K, hj, hK, rfl, rfl, HR⟩ := hrel
    have HKE : Hid (K = k + 8 * j) := hK
    by_cases hlt : j < n
    · have hltI : (j : Int) < (n : Int) := by omega
      have hK2 : K ≤ 10000000 := by omega
      clear hK
      have hm1 : Hid (∀ W, Calls Tryd.prog 79 #[.int .i64 ((K : Int) + 1)] W fun e w' => e = .returned (.string (mtx (K + 1))) ∧ Below W.heap.size W w') := by
        intro W
        have hm := markText_any W (K + 1) (by omega)
        rw [show ((K + 1 : Nat) : Int) = (K : Int) + 1 by omega] at hm
        exact hm
      have hm2 : Hid (∀ W, Calls Tryd.prog 79 #[.int .i64 ((K : Int) + 1 + 1)] W fun e w' => e = .returned (.string (mtx (K + 2))) ∧ Below W.heap.size W w') := by
        intro W
        have hm := markText_any W (K + 2) (by omega)
        rw [show ((K + 2 : Nat) : Int) = (K : Int) + 1 + 1 by omega] at hm
        exact hm
      obtain ⟨x0, d0, f0⟩ := HR.out.cell (j * 8) (by omega)
      go_wp2_with fail
      refine (hm1.out _).mono ?_
      rintro e w1 ⟨rfl, b1⟩
      have R1 : Hid (RowW w lo g n cap 8 79 w1) := (HR.out.set _ _).below b1
      clear b1 HR d0 f0 hm1
      obtain ⟨x1, d1, f1⟩ := R1.out.cell (j * 8 + 1) (by omega)
      go_wp2_with fail
      refine (hm2.out _).mono ?_
      rintro e w3 ⟨rfl, b3⟩
      have R3 : Hid (RowW w lo g n cap 8 79 w3) := (R1.out.set _ _).below b3
      clear b3 R1 d1 f1 hm2
      obtain ⟨x2, d2, f2⟩ := R3.out.cell (j * 8 + 2) (by omega)
      obtain ⟨x3, d3, f3⟩ := R3.out.cell (j * 8 + 3) (by omega)
      obtain ⟨x4, d4, f4⟩ := R3.out.cell (j * 8 + 4) (by omega)
      obtain ⟨x5, d5, f5⟩ := R3.out.cell (j * 8 + 5) (by omega)
      obtain ⟨x6, d6, f6⟩ := R3.out.cell (j * 8 + 6) (by omega)
      obtain ⟨x7, d7, f7⟩ := R3.out.cell (j * 8 + 7) (by omega)
      go_wp2
      refine ⟨⟨j + 1, K + 8, by omega, by have := HKE.out; omega, by go_num, by go_num, ?_⟩, by simp [intOf]; omega⟩
      exact ((((((R3.out.set _ _).set _ _).set _ _).set _ _).set _ _).set _ _)
    · have hjn : j = n := by omega
      subst hjn
      subst hK
      go_wp2
      go_ret
      exact ⟨rfl, HR.out⟩

set_option maxHeartbeats 400000 in
theorem markEffectS_nil (w : World) (ao : Option Addr) (cap k : Nat) : Calls Tryd.prog 88 #[.slice ao 0 cap, .int .i64 k] w fun e w' => e = .returned (.int .i64 k) ∧ w' = w := by
  go_enter Tryd.func88, Tryd.ntmps88
  go_wp2
  go_rounds 1
  go_ret
  exact ⟨rfl, rfl⟩

theorem markEffectS_any (w : World) (lo k : Nat) (v : Value) (ns : List Ef) (h : OwnE 79 w lo v ns) (hk : k ≤ 1048576) (hn : ns.length ≤ 1048576) :
    Calls Tryd.prog 88 #[v, .int .i64 k] w fun e w' => e = .returned (.int .i64 ((k + 8 * ns.length : Nat) : Int)) ∧ Below lo w w' ∧ KT 79 w w' := by
  have h0 := h
  rcases h.2 with ⟨rfl, h1⟩ | ⟨g, cap, cur, rfl, rest⟩
  · refine (markEffectS_nil w none 0 k).mono ?_
    rintro e w' ⟨rfl, rfl⟩
    rw [h1]
    exact ⟨rfl, Below.refl _ _, KT.refl _ _⟩
  · refine (markEffectS_row w lo g ns.length cap k _ h0 hk hn).mono ?_
    rintro e w' ⟨rfl, -, h2, h3⟩
    exact ⟨rfl, h2, h3⟩

set_option maxHeartbeats 400000 in
theorem markTxn_any (w : World) (lo k : Nat) (z : Int) (v : Value) (ns : List Ef) (h : OwnE 79 w lo v ns) (hl : lo ≤ w.heap.size) (hk : k ≤ 1048576) (hn : ns.length ≤ 1048576) :
    Calls Tryd.prog 45 #[.agg #[.int .i64 z, v], .int .i64 k] w fun e w' => e = .returned (.int .i64 ((k + 8 * ns.length : Nat) : Int)) ∧ Below lo w w' ∧ KT 79 w w' := by
  have H : Hid (OwnE 79 w lo v ns) := h
  clear h
  go_enter Tryd.func45, Tryd.ntmps45
  go_wp2_with fail
  refine (markEffectS_any _ lo k v ns (H.out.below ((Below.refl _ _).alloc (Nat.le_refl _) _)) hk hn).mono ?_
  rintro e w1 ⟨rfl, b1, k1⟩
  have B1 : Hid (Below lo w w1) := ((Below.refl _ _).alloc hl _).trans b1
  have K1 : Hid (KT 79 w w1) := ((KT.refl _ _).alloc _).trans k1
  clear b1 k1
  go_wp2
  go_ret
  exact ⟨rfl, B1.out, K1.out⟩

end Go.Proofs.YtfmjalbiimhdhaaDoor
