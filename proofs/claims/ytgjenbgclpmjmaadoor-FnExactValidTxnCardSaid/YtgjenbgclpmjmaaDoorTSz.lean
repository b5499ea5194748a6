import Derived.Test.YtgjenbgclpmjmaaDoorTNode
namespace Go.Proofs.YtgjenbgclpmjmaaDoor
open Go.RowKit

/-- What is left of a sum. -/
def szr (left : Int) (a : Nat) : Int := if left < (a : Int) then -1 else left - (a : Int)
theorem szr_neg {left : Int} {a : Nat} (h : left < (a : Int)) : szr left a = -1 := if_pos h
theorem szr_pos {left : Int} {a : Nat} (h : ¬ left < (a : Int)) : szr left a = left - (a : Int) := if_neg h
theorem ret_i {a b : Int} (h : a = b) : Ending.returned (.int .i64 a) = .returned (.int .i64 b) := by rw [h]

set_option maxHeartbeats 1000000 in
set_option maxRecDepth 100000 in
theorem szNode_any (w : World) (n : Nd) (left : Int) (hp : n.path.size ≤ maxLen) (hd : n.data.size ≤ maxLen) (h0 : 0 ≤ left) (h1 : left ≤ 1048576) :
    Calls Tryd.prog 101 #[.agg #[.string n.path, .string n.data, .int .i64 n.ver, .int .i64 n.cver, .int .i64 n.cz, .int .i64 n.mz, .int .i64 n.pz], .int .i64 left] w fun e w' => e = .returned (.int .i64 (szr left (n.path.size + n.data.size))) ∧ Below w.heap.size w w' := by
  unfold maxLen at hp hd
  have B0 : Hid (∀ o, Below w.heap.size w (w.alloc o)) := fun o => (Below.refl _ _).alloc (Nat.le_refl _) _
  by_cases h : left < n.path.size
  · have h2 : left - (n.path.size : Int) < 0 := by omega
    have HE : Hid (szr left (n.path.size + n.data.size) = -1) := szr_neg (by omega)
    go_enter Tryd.func101, Tryd.ntmps101
    go_wp2
    go_ret
    exact ⟨ret_i HE.out.symm, B0.out _⟩
  · have h2 : ¬ left - (n.path.size : Int) < 0 := by omega
    by_cases h3 : left < n.path.size + n.data.size
    · have h4 : left - (n.path.size : Int) - (n.data.size : Int) < 0 := by omega
      have HE : Hid (szr left (n.path.size + n.data.size) = -1) := szr_neg (by omega)
      go_enter Tryd.func101, Tryd.ntmps101
      go_wp2
      go_ret
      exact ⟨ret_i HE.out.symm, B0.out _⟩
    · have h4 : ¬ left - (n.path.size : Int) - (n.data.size : Int) < 0 := by omega
      have HE : Hid (szr left (n.path.size + n.data.size) = left - n.path.size - n.data.size) := by show _ = _; rw [szr_pos (by omega)]; omega
      go_enter Tryd.func101, Tryd.ntmps101
      go_wp2
      go_ret
      exact ⟨ret_i HE.out.symm, B0.out _⟩

set_option maxHeartbeats 1000000 in
set_option maxRecDepth 100000 in
theorem szNodeS_row (w : World) (b o n cap : Nat) (ns : List Nd) (hp : ns.length = n) (hn : n ≤ maxLen) (hb : b < w.heap.size) (hsz : ∀ i, (nAt ns i).path.size ≤ maxLen ∧ (nAt ns i).data.size ≤ maxLen)
    (hc : ∀ i, i < n → CellsN w b (o + i * 7) (nAt ns i)) (left : Int) (h0 : 0 ≤ left) (h1 : left ≤ 1048576) :
    Calls Tryd.prog 57 #[.slice (some ⟨b, o, none⟩) n cap, .int .i64 left] w fun e w' => ∃ r : Int, e = .returned (.int .i64 r) ∧ (r < 0 ∨ r + n + totN ns = left) ∧ Below w.heap.size w w' := by
  have HC : Hid (∀ i, i < n → CellsN w b (o + i * 7) (nAt ns i)) := hc
  have HP : Hid (ns.length = n) := hp
  have HZ : Hid (∀ i, (nAt ns i).path.size ≤ maxLen ∧ (nAt ns i).data.size ≤ maxLen) := hsz
  clear hc hp hsz
  unfold maxLen at hn
  by_cases hl : left < n
  · have h2 : left - (n : Int) < 0 := by omega
    go_enter Tryd.func57, Tryd.ntmps57
    go_wp2
    go_ret
    exact ⟨-1, rfl, .inl (by omega), Below.refl _ _⟩
  · have h2 : ¬ left - (n : Int) < 0 := by omega
    go_enter Tryd.func57, Tryd.ntmps57
    go_wp2
    go_loopw [1, 5] (fun l i wr => ∃ (k : Nat) (L : Int), k ≤ n ∧ i = .int .i64 k ∧ 0 ≤ L ∧ L ≤ 1048576 ∧ l = .int .i64 L ∧ Hid (L + n + totN (ns.take k) = left) ∧ Hid (Below w.heap.size w wr)) (fun _ i _ => n - (intOf i).toNat)
    case atStart => exact ⟨0, left - n, Nat.zero_le _, rfl, by omega, by omega, rfl, (by show _ = _; simp [totN]), Below.refl _ _⟩
    case round =>
      obtain ⟨k, L, hk, rfl, hL0, hL1, rfl, HE, HG⟩ := hrel
      by_cases hlt : k < n
      · have hltI : (k : Int) < (n : Int) := by omega
        obtain ⟨c0, c1, c2, c3, c4, c5, c6⟩ := (HC.out k hlt).below HG.out hb
        have HTS : Hid (totN (ns.take (k + 1)) = totN (ns.take k) + ((nAt ns k).path.size + (nAt ns k).data.size)) := totN_take_succ ns k (by rw [HP.out]; exact hlt)
        have sg := HG.out.size
        go_wp2_with fail
        refine (szNode_any _ (nAt ns k) L (HZ.out k).1 (HZ.out k).2 hL0 hL1).mono ?_
        rintro e w1 ⟨rfl, b1⟩
        have HG1 : Hid (Below w.heap.size w w1) := HG.out.trans (b1.mono sg)
        clear b1 c0 c1 c2 c3 c4 c5 c6
        obtain ⟨hz1, hz2⟩ := HZ.out k
        unfold maxLen at hz1 hz2
        by_cases hneg : L < (((nAt ns k).path.size + (nAt ns k).data.size : Nat) : Int)
        · rw [szr_neg hneg]
          clear hneg
          go_wp2
          go_ret
          exact ⟨-1, rfl, .inl (by omega), HG1.out⟩
        · rw [szr_pos hneg]
          obtain ⟨L2, hL2⟩ : ∃ L2 : Int, L2 = L - (((nAt ns k).path.size + (nAt ns k).data.size : Nat) : Int) := ⟨_, rfl⟩
          have HL2 : Hid (L2 = L - (((nAt ns k).path.size + (nAt ns k).data.size : Nat) : Int)) := hL2
          rw [← hL2]
          have h3 : ¬ L2 < 0 := by omega
          have h4 : L2 ≤ 1048576 := by omega
          clear hL2 hneg
          go_wp2
          go_roundw
          case rel => exact ⟨k + 1, L2, by omega, by go_num, by omega, by omega, rfl, (by show _ = _; rw [HTS.out]; have := HE.out; have := HL2.out; omega), HG1⟩
          case measure => simp [intOf]; omega
      · go_wp2
        go_ret
        exact ⟨L, rfl, .inr (by have := HE.out; rw [totN_all ns k (by rw [HP.out]; omega)] at this; exact this), HG.out⟩

set_option maxHeartbeats 400000 in
theorem szNodeS_nil (w : World) (ao : Option Addr) (cap : Nat) (left : Int) (h0 : 0 ≤ left) (h1 : left ≤ 1048576) :
    Calls Tryd.prog 57 #[.slice ao 0 cap, .int .i64 left] w fun e w' => e = .returned (.int .i64 left) ∧ w' = w := by
  have h2 : ¬ left < 0 := by omega
  go_enter Tryd.func57, Tryd.ntmps57
  go_wp2
  go_rounds 1
  go_ret
  exact ⟨by simp, rfl⟩

theorem szNodeS_any (w : World) (v : Value) (ns : List Nd) (h : RdN w v ns) (hsz : ∀ i, (nAt ns i).path.size ≤ maxLen ∧ (nAt ns i).data.size ≤ maxLen) (left : Int) (h0 : 0 ≤ left) (h1 : left ≤ 1048576) :
    Calls Tryd.prog 57 #[v, .int .i64 left] w fun e w' => ∃ r : Int, e = .returned (.int .i64 r) ∧ (r < 0 ∨ r + ns.length + totN ns = left) ∧ Below w.heap.size w w' := by
  obtain ⟨ao, cap, rfl, k1, k2, k3⟩ := h
  rcases k3 with rfl | ⟨b, o, rfl, hb, hc⟩
  · refine (szNodeS_nil w ao cap left h0 h1).mono ?_
    rintro e w' ⟨rfl, rfl⟩
    exact ⟨left, rfl, .inr (by simp [totN]), Below.refl _ _⟩
  · exact szNodeS_row w b o ns.length cap ns rfl (by omega) hb hsz hc left h0 h1

set_option maxHeartbeats 400000 in
theorem szTree_any (w : World) (v : Value) (ns : List Nd) (h : RdN w v ns) (hsz : ∀ i, (nAt ns i).path.size ≤ maxLen ∧ (nAt ns i).data.size ≤ maxLen) (left : Int) (h0 : 0 ≤ left) (h1 : left ≤ 1048576) :
    Calls Tryd.prog 14 #[.agg #[v], .int .i64 left] w fun e w' => ∃ r : Int, e = .returned (.int .i64 r) ∧ (r < 0 ∨ r + ns.length + totN ns = left) ∧ Below w.heap.size w w' := by
  have B0 : Hid (Below w.heap.size w (w.alloc (.cells #[v] 25))) := (Below.refl _ _).alloc (Nat.le_refl _) _
  obtain ⟨ao, cap, rfl, k1, k2⟩ := h.len
  have HR : Hid (RdN (w.alloc (.cells #[.slice ao ns.length cap] 25)) (.slice ao ns.length cap) ns) := h.below B0.out
  clear h
  go_enter Tryd.func14, Tryd.ntmps14
  go_wp2_with fail
  refine (szNodeS_any _ _ ns HR.out hsz left h0 h1).mono ?_
  rintro e w1 ⟨r, rfl, hr, b1⟩
  have B1 : Hid (Below w.heap.size w w1) := B0.out.trans (b1.mono (by simp))
  have hr2 : r ≤ 1048576 := by omega
  have HRR : Hid (r < 0 ∨ r + ns.length + totN ns = left) := hr
  clear b1 hr
  by_cases hneg : r < 0
  · go_wp2
    go_ret
    exact ⟨-1, rfl, .inl (by omega), B1.out⟩
  · go_wp2
    go_ret
    exact ⟨r, rfl, HRR.out, B1.out⟩

end Go.Proofs.YtgjenbgclpmjmaaDoor
