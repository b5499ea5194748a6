import Derived.Test.YtgjenbgclpmjmaaDoorXEff
namespace Go.Proofs.YtgjenbgclpmjmaaDoor
open Go.RowKit

set_option maxHeartbeats 1000000 in
set_option maxRecDepth 100000 in
theorem szEffect_any (w : World) (n : Ef) (left : Int) (hp : n.nd.path.size ≤ maxLen) (hd : n.nd.data.size ≤ maxLen) (h0 : 0 ≤ left) (h1 : left ≤ 1048576) :
    Calls Tryd.prog 105 #[.agg #[.bool n.del, .string n.nd.path, .string n.nd.data, .int .i64 n.nd.ver, .int .i64 n.nd.cver, .int .i64 n.nd.cz, .int .i64 n.nd.mz, .int .i64 n.nd.pz], .int .i64 left] w fun e w' => e = .returned (.int .i64 (szr left (n.nd.path.size + n.nd.data.size))) ∧ Below w.heap.size w w' := by
  have B0 : Hid (Below w.heap.size w (w.alloc (.cells #[.bool n.del, .string n.nd.path, .string n.nd.data, .int .i64 n.nd.ver, .int .i64 n.nd.cver, .int .i64 n.nd.cz, .int .i64 n.nd.mz, .int .i64 n.nd.pz] 130))) := (Below.refl _ _).alloc (Nat.le_refl _) _
  go_enter Tryd.func105, Tryd.ntmps105
  go_wp2_with fail
  refine (szNode_any _ n.nd left hp hd h0 h1).mono ?_
  rintro e w1 ⟨rfl, b1⟩
  have B1 : Hid (Below w.heap.size w w1) := B0.out.trans (b1.mono (by simp))
  clear b1
  unfold maxLen at hp hd
  by_cases h : left < ((n.nd.path.size + n.nd.data.size : Nat) : Int)
  · have HS : Hid (szr left (n.nd.path.size + n.nd.data.size) = -1) := szr_neg h
    rw [szr_neg h]
    clear h
    go_wp2
    go_ret
    exact ⟨ret_i HS.out.symm, B1.out⟩
  · have HS := szr_pos h
    rw [szr_pos h]
    obtain ⟨L2, hL2⟩ : ∃ L2 : Int, L2 = left - ((n.nd.path.size + n.nd.data.size : Nat) : Int) := ⟨_, rfl⟩
    rw [← hL2] at HS
    rw [← hL2]
    have HS2 : Hid (szr left (n.nd.path.size + n.nd.data.size) = L2) := HS
    have h3 : ¬ L2 < 0 := by omega
    clear hL2 h HS
    go_wp2
    go_ret
    exact ⟨ret_i HS2.out.symm, B1.out⟩

set_option maxHeartbeats 1000000 in
set_option maxRecDepth 100000 in
theorem szEffectS_row (w : World) (b o n cap : Nat) (ns : List Ef) (hp : ns.length = n) (hn : n ≤ maxLen) (hb : b < w.heap.size) (hsz : ∀ i, (eAt ns i).nd.path.size ≤ maxLen ∧ (eAt ns i).nd.data.size ≤ maxLen)
    (hc : ∀ i, i < n → CellsE w b (o + i * 8) (eAt ns i)) (left : Int) (h0 : 0 ≤ left) (h1 : left ≤ 1048576) :
    Calls Tryd.prog 62 #[.slice (some ⟨b, o, none⟩) n cap, .int .i64 left] w fun e w' => ∃ r : Int, e = .returned (.int .i64 r) ∧ (r < 0 ∨ r + n + totE ns = left) ∧ Below w.heap.size w w' := by
  have HC : Hid (∀ i, i < n → CellsE w b (o + i * 8) (eAt ns i)) := hc
  have HP : Hid (ns.length = n) := hp
  have HZ : Hid (∀ i, (eAt ns i).nd.path.size ≤ maxLen ∧ (eAt ns i).nd.data.size ≤ maxLen) := hsz
  clear hc hp hsz
  unfold maxLen at hn
  by_cases hl : left < n
  · have h2 : left - (n : Int) < 0 := by omega
    go_enter Tryd.func62, Tryd.ntmps62
    go_wp2
    go_ret
    exact ⟨-1, rfl, .inl (by omega), Below.refl _ _⟩
  · have h2 : ¬ left - (n : Int) < 0 := by omega
    go_enter Tryd.func62, Tryd.ntmps62
    go_wp2
    go_loopw [1, 5] (fun l i wr => ∃ (k : Nat) (L : Int), k ≤ n ∧ i = .int .i64 k ∧ 0 ≤ L ∧ L ≤ 1048576 ∧ l = .int .i64 L ∧ Hid (L + n + totE (ns.take k) = left) ∧ Hid (Below w.heap.size w wr)) (fun _ i _ => n - (intOf i).toNat)
    case atStart => exact ⟨0, left - n, Nat.zero_le _, rfl, by omega, by omega, rfl, (by show _ = _; simp [totE]), Below.refl _ _⟩
    case round =>
      obtain ⟨k, L, hk, rfl, hL0, hL1, rfl, HE, HG⟩ := hrel
      by_cases hlt : k < n
      · have hltI : (k : Int) < (n : Int) := by omega
        obtain ⟨c0, c1, c2, c3, c4, c5, c6, c7⟩ := (HC.out k hlt).below HG.out hb
        have HTS : Hid (totE (ns.take (k + 1)) = totE (ns.take k) + ((eAt ns k).nd.path.size + (eAt ns k).nd.data.size)) := totE_take_succ ns k (by rw [HP.out]; exact hlt)
        have sg := HG.out.size
        go_wp2_with fail
        refine (szEffect_any _ (eAt ns k) L (HZ.out k).1 (HZ.out k).2 hL0 hL1).mono ?_
        rintro e w1 ⟨rfl, b1⟩
        have HG1 : Hid (Below w.heap.size w w1) := HG.out.trans (b1.mono sg)
        clear b1 c0 c1 c2 c3 c4 c5 c6 c7
        obtain ⟨hz1, hz2⟩ := HZ.out k
        unfold maxLen at hz1 hz2
        by_cases hneg : L < (((eAt ns k).nd.path.size + (eAt ns k).nd.data.size : Nat) : Int)
        · rw [szr_neg hneg]
          clear hneg
          go_wp2
          go_ret
          exact ⟨-1, rfl, .inl (by omega), HG1.out⟩
        · rw [szr_pos hneg]
          obtain ⟨L2, hL2⟩ : ∃ L2 : Int, L2 = L - (((eAt ns k).nd.path.size + (eAt ns k).nd.data.size : Nat) : Int) := ⟨_, rfl⟩
          have HL2 : Hid (L2 = L - (((eAt ns k).nd.path.size + (eAt ns k).nd.data.size : Nat) : Int)) := hL2
          rw [← hL2]
          have h3 : ¬ L2 < 0 := by omega
          have h4 : L2 ≤ 1048576 := by omega
          clear hL2 hneg
          go_wp2
          go_roundw
          case rel => exact ⟨k + 1, L2, by omega, by go_num, by omega, by omega, rfl, (by show _ = _; rw [HTS.out]; have := HE.out; have := HL2.out; omega), HG1⟩
          case measure => simp [intOf]; omega
      · go_wp2
        go_ret
        exact ⟨L, rfl, .inr (by have := HE.out; rw [totE_all ns k (by rw [HP.out]; omega)] at this; exact this), HG.out⟩

set_option maxHeartbeats 400000 in
theorem szEffectS_nil (w : World) (ao : Option Addr) (cap : Nat) (left : Int) (h0 : 0 ≤ left) (h1 : left ≤ 1048576) :
    Calls Tryd.prog 62 #[.slice ao 0 cap, .int .i64 left] w fun e w' => e = .returned (.int .i64 left) ∧ w' = w := by
  have h2 : ¬ left < 0 := by omega
  go_enter Tryd.func62, Tryd.ntmps62
  go_wp2
  go_rounds 1
  go_ret
  exact ⟨by simp, rfl⟩

theorem szEffectS_any (w : World) (v : Value) (ns : List Ef) (h : RdE w v ns) (hsz : ∀ i, (eAt ns i).nd.path.size ≤ maxLen ∧ (eAt ns i).nd.data.size ≤ maxLen) (left : Int) (h0 : 0 ≤ left) (h1 : left ≤ 1048576) :
    Calls Tryd.prog 62 #[v, .int .i64 left] w fun e w' => ∃ r : Int, e = .returned (.int .i64 r) ∧ (r < 0 ∨ r + ns.length + totE ns = left) ∧ Below w.heap.size w w' := by
  obtain ⟨ao, cap, rfl, k1, k2, k3⟩ := h
  rcases k3 with rfl | ⟨b, o, rfl, hb, hc⟩
  · refine (szEffectS_nil w ao cap left h0 h1).mono ?_
    rintro e w' ⟨rfl, rfl⟩
    exact ⟨left, rfl, .inr (by simp [totE]), Below.refl _ _⟩
  · exact szEffectS_row w b o ns.length cap ns rfl (by omega) hb hsz hc left h0 h1

set_option maxHeartbeats 400000 in
theorem szTxn_any (w : World) (z : Int) (v : Value) (ns : List Ef) (h : RdE w v ns) (hsz : ∀ i, (eAt ns i).nd.path.size ≤ maxLen ∧ (eAt ns i).nd.data.size ≤ maxLen) (left : Int) (h0 : 0 ≤ left) (h1 : left ≤ 1048576) :
    Calls Tryd.prog 19 #[.agg #[.int .i64 z, v], .int .i64 left] w fun e w' => ∃ r : Int, e = .returned (.int .i64 r) ∧ (r < 0 ∨ r + ns.length + totE ns = left) ∧ Below w.heap.size w w' := by
  have B0 : Hid (Below w.heap.size w (w.alloc (.cells #[.int .i64 z, v] 36))) := (Below.refl _ _).alloc (Nat.le_refl _) _
  obtain ⟨ao, cap, rfl, k1, k2⟩ := h.len
  have HR : Hid (RdE (w.alloc (.cells #[.int .i64 z, .slice ao ns.length cap] 36)) (.slice ao ns.length cap) ns) := h.below B0.out
  clear h
  go_enter Tryd.func19, Tryd.ntmps19
  go_wp2_with fail
  refine (szEffectS_any _ _ ns HR.out hsz left h0 h1).mono ?_
  rintro e w1 ⟨r, rfl, hr, b1⟩
  have B1 : Hid (Below w.heap.size w w1) := B0.out.trans (b1.mono (by simp))
  have hr2 : r ≤ 1048576 := by omega
  have HRR : Hid (r < 0 ∨ r + ns.length + totE ns = left) := hr
  clear b1 hr
  by_cases hneg : r < 0
  · go_wp2
    go_ret
    exact ⟨-1, rfl, .inl (by omega), B1.out⟩
  · go_wp2
    go_ret
    exact ⟨r, rfl, HRR.out, B1.out⟩

end Go.Proofs.YtgjenbgclpmjmaaDoor
