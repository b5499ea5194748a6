import Derived.Test.YtajnihjdhhmefaaLNewDisk
namespace Go.Proofs.Ytajnihjdhhmefaa
open Go.RowKit

def pB (ps : List (Int × List Int)) (i : Nat) : Int := (ps.getD i (0, [])).1
def pD (ps : List (Int × List Int)) (i : Nat) : List Int := (ps.getD i (0, [])).2

/-- A slice of records (a number and a list of bytes) that reads as ps. -/
def RdW (w : World) (v : Value) (ps : List (Int × List Int)) : Prop :=
  ∃ ao cap, v = .slice ao ps.length cap ∧ ps.length ≤ cap ∧ cap ≤ maxLen ∧
    (ps = [] ∨ ∃ b off, ao = some ⟨b, off, none⟩ ∧ b < w.heap.size ∧ ∀ i, i < ps.length →
      w.cell? ⟨b, off + i * 2, none⟩ = some (.int .i64 (pB ps i)) ∧ ∃ da c, w.cell? ⟨b, off + i * 2 + 1, none⟩ = some (.slice da (pD ps i).length c) ∧ Rd .u8 w (.slice da (pD ps i).length c) (pD ps i))

theorem RdW.len {w : World} {v : Value} {ps : List (Int × List Int)} (h : RdW w v ps) : ∃ ao cap, v = .slice ao ps.length cap ∧ ps.length ≤ cap ∧ cap ≤ maxLen := by
  obtain ⟨ao, cap, h0, h1, h2, _⟩ := h
  exact ⟨ao, cap, h0, h1, h2⟩

theorem RdW.below {w w' : World} {v : Value} {ps : List (Int × List Int)} (h : RdW w v ps) (hb : Below w.heap.size w w') : RdW w' v ps := by
  obtain ⟨ao, cap, rfl, h1, h2, h3⟩ := h
  refine ⟨ao, cap, rfl, h1, h2, ?_⟩
  rcases h3 with h3 | ⟨b, off, rfl, hlt, hc⟩
  · exact .inl h3
  · refine .inr ⟨b, off, rfl, Nat.lt_of_lt_of_le hlt hb.size, fun i hi => ?_⟩
    obtain ⟨c1, da, c, c2, r⟩ := hc i hi
    exact ⟨(hb.cell (p := ⟨b, _, none⟩) hlt).trans c1, da, c, (hb.cell (p := ⟨b, _, none⟩) hlt).trans c2, r.below hb⟩

def tot (ps : List (Int × List Int)) : Nat := (ps.map fun p => p.2.length).sum
theorem tot_take_succ (ps : List (Int × List Int)) (k : Nat) (h : k < ps.length) : tot (ps.take (k + 1)) = tot (ps.take k) + (pD ps k).length := by
  unfold tot pD
  rw [List.take_succ_eq_append_getElem h, List.map_append, List.sum_append]
  simp [List.getD, h]
theorem tot_all (ps : List (Int × List Int)) (k : Nat) (h : ps.length ≤ k) : tot (ps.take k) = tot ps := by rw [List.take_of_length_le h]

set_option maxHeartbeats 400000 in
theorem szByteS_any (w : World) (ao : Option Addr) (n cap : Nat) (left : Int) (hn : n ≤ maxLen) (h0 : 0 ≤ left) (h1 : left ≤ 1048576) :
    Calls Try.prog 45 #[.slice ao n cap, .int .i64 left] w fun e w' => e = .returned (.int .i64 (if left < n then -1 else left - n)) ∧ w' = w := by
  unfold maxLen at hn
  by_cases h : left < n
  · rw [if_pos h]
    have h2 : left - (n : Int) < 0 := by omega
    go_enter Try.func45, Try.ntmps45
    go_wp2
    go_ret
    exact ⟨rfl, rfl⟩
  · rw [if_neg h]
    have h2 : ¬ left - (n : Int) < 0 := by omega
    go_enter Try.func45, Try.ntmps45
    go_wp2
    go_ret
    exact ⟨rfl, rfl⟩

set_option maxHeartbeats 400000 in
theorem szWrite_any (w : World) (x : Int) (ao : Option Addr) (n cap : Nat) (left : Int) (hn : n ≤ maxLen) (h0 : 0 ≤ left) (h1 : left ≤ 1048576) :
    Calls Try.prog 74 #[.agg #[.int .i64 x, .slice ao n cap], .int .i64 left] w fun e w' => e = .returned (.int .i64 (if left < n then -1 else left - n)) ∧ Below w.heap.size w w' := by
  have B0 : Hid (Below w.heap.size w (w.alloc (.cells #[.int .i64 x, .slice ao n cap] 99))) := (Below.refl _ _).alloc (Nat.le_refl _) _
  go_enter Try.func74, Try.ntmps74
  go_wp2_with fail
  refine (szByteS_any _ ao n cap left hn h0 h1).mono ?_
  rintro e w1 ⟨rfl, hw⟩
  subst hw
  by_cases h : left < n
  · rw [if_pos h]
    go_wp2
    go_ret
    exact ⟨rfl, B0.out⟩
  · rw [if_neg h]
    have h2 : ¬ left - (n : Int) < 0 := by omega
    go_wp2
    go_ret
    exact ⟨rfl, B0.out⟩

set_option maxHeartbeats 400000 in
set_option maxRecDepth 100000 in
theorem szWriteS_row (w : World) (b o n cap : Nat) (ps : List (Int × List Int)) (hp : ps.length = n) (hn : n ≤ maxLen) (hb : b < w.heap.size)
    (hc : ∀ i, i < n → w.cell? ⟨b, o + i * 2, none⟩ = some (.int .i64 (pB ps i)) ∧ ∃ da c, w.cell? ⟨b, o + i * 2 + 1, none⟩ = some (.slice da (pD ps i).length c) ∧ Rd .u8 w (.slice da (pD ps i).length c) (pD ps i)) (left : Int) (h0 : 0 ≤ left) (h1 : left ≤ 1048576) :
    Calls Try.prog 46 #[.slice (some ⟨b, o, none⟩) n cap, .int .i64 left] w fun e w' => ∃ r : Int, e = .returned (.int .i64 r) ∧ (r < 0 ∨ r + n + tot ps = left) ∧ Below w.heap.size w w' := by
  have HC : Hid (∀ i, i < n → w.cell? ⟨b, o + i * 2, none⟩ = some (.int .i64 (pB ps i)) ∧ ∃ da c, w.cell? ⟨b, o + i * 2 + 1, none⟩ = some (.slice da (pD ps i).length c) ∧ Rd .u8 w (.slice da (pD ps i).length c) (pD ps i)) := hc
  have HP : Hid (ps.length = n) := hp
  clear hc hp
  unfold maxLen at hn
  by_cases hl : left < n
  · have h2 : left - (n : Int) < 0 := by omega
    go_enter Try.func46, Try.ntmps46
    go_wp2
    go_ret
    exact ⟨-1, rfl, .inl (by omega), Below.refl _ _⟩
  · have h2 : ¬ left - (n : Int) < 0 := by omega
    go_enter Try.func46, Try.ntmps46
    go_wp2
    go_loopw [1, 5] (fun l i wr => ∃ (k : Nat) (L : Int), k ≤ n ∧ i = .int .i64 k ∧ 0 ≤ L ∧ L ≤ 1048576 ∧ l = .int .i64 L ∧ Hid (L + n + tot (ps.take k) = left) ∧ Below w.heap.size w wr) (fun _ i _ => n - (intOf i).toNat)
    case atStart => exact ⟨0, left - n, Nat.zero_le _, rfl, by omega, by omega, rfl, (by show _ = _; simp [tot]), Below.refl _ _⟩
    case round =>
      obtain ⟨k, L, hk, rfl, hL0, hL1, rfl, HE, hg⟩ := hrel
      by_cases hlt : k < n
      · obtain ⟨c1, da, dc, c2, r⟩ := HC.out k hlt
        have hltI : (k : Int) < (n : Int) := by omega
        have c1' := (hg.cell (p := ⟨b, o + k * 2, none⟩) hb).trans c1
        have c2' := (hg.cell (p := ⟨b, o + k * 2 + 1, none⟩) hb).trans c2
        have HG : Hid (Below w.heap.size w wr) := hg
        have hd2 : (pD ps k).length ≤ maxLen := by obtain ⟨_, _, _, h3, h4⟩ := r.len; omega
        have HTS : Hid (tot (ps.take (k + 1)) = tot (ps.take k) + (pD ps k).length) := tot_take_succ ps k (by rw [HP.out]; exact hlt)
        have sg := hg.size
        clear c1 c2 hg r
        go_wp2_with fail
        refine (szWrite_any _ _ _ _ _ L hd2 hL0 hL1).mono ?_
        rintro e w1 ⟨rfl, b1⟩
        have HG1 : Hid (Below w.heap.size w w1) := HG.out.trans (b1.mono sg)
        clear b1 c1' c2'
        by_cases hneg : L < (pD ps k).length
        · rw [if_pos hneg]
          go_wp2
          go_ret
          exact ⟨-1, rfl, .inl (by omega), HG1.out⟩
        · rw [if_neg hneg]
          have h3 : ¬ L - ((pD ps k).length : Int) < 0 := by omega
          go_wp2
          go_roundw
          case rel => exact ⟨k + 1, L - (pD ps k).length, by omega, by go_num, by omega, by omega, rfl, (by show _ = _; rw [HTS.out]; have := HE.out; omega), HG1.out⟩
          case measure => simp [intOf]; omega
      · have HG : Hid (Below w.heap.size w wr) := hg
        clear hg
        go_wp2
        go_ret
        exact ⟨L, rfl, .inr (by have := HE.out; rw [tot_all ps k (by rw [HP.out]; omega)] at this; exact this), HG.out⟩

set_option maxHeartbeats 400000 in
theorem szWriteS_nil (w : World) (ao : Option Addr) (cap : Nat) (left : Int) (h0 : 0 ≤ left) (h1 : left ≤ 1048576) :
    Calls Try.prog 46 #[.slice ao 0 cap, .int .i64 left] w fun e w' => e = .returned (.int .i64 left) ∧ w' = w := by
  have h2 : ¬ left < 0 := by omega
  go_enter Try.func46, Try.ntmps46
  go_wp2
  go_rounds 1
  go_ret
  exact ⟨by simp, rfl⟩

theorem szWriteS_any (w : World) (v : Value) (ps : List (Int × List Int)) (h : RdW w v ps) (left : Int) (h0 : 0 ≤ left) (h1 : left ≤ 1048576) :
    Calls Try.prog 46 #[v, .int .i64 left] w fun e w' => ∃ r : Int, e = .returned (.int .i64 r) ∧ (r < 0 ∨ r + ps.length + tot ps = left) ∧ Below w.heap.size w w' := by
  obtain ⟨ao, cap, rfl, k1, k2, k3⟩ := h
  rcases k3 with rfl | ⟨b, o, rfl, hb, hc⟩
  · refine (szWriteS_nil w ao cap left h0 h1).mono ?_
    rintro e w' ⟨rfl, rfl⟩
    exact ⟨left, rfl, .inr (by simp [tot]), Below.refl _ _⟩
  · exact szWriteS_row w b o ps.length cap ps rfl (by omega) hb hc left h0 h1

set_option maxHeartbeats 400000 in
theorem szDisk_any (w : World) (vd vp : Value) (dur : List Int) (ps : List (Int × List Int)) (hd : Rd .u8 w vd dur) (hp : RdW w vp ps) :
    Calls Try.prog 22 #[.agg #[vd, vp], .int .i64 1048576] w fun e w' => ∃ r : Int, e = .returned (.int .i64 r) ∧ (r < 0 ∨ r + dur.length + ps.length + tot ps = 1048576) ∧ Below w.heap.size w w' := by
  have B0 : Hid (Below w.heap.size w (w.alloc (.cells #[vd, vp] 40))) := (Below.refl _ _).alloc (Nat.le_refl _) _
  have RP : Hid (RdW (w.alloc (.cells #[vd, vp] 40)) vp ps) := hp.below B0.out
  obtain ⟨ao, cap, rfl, k1, k2⟩ := hd.len
  clear hp hd
  go_enter Try.func22, Try.ntmps22
  go_wp2_with fail
  refine (szByteS_any _ ao dur.length cap 1048576 (by omega) (by omega) (by omega)).mono ?_
  rintro e w1 ⟨rfl, hw⟩
  subst hw
  by_cases h : (1048576 : Int) < dur.length
  · rw [if_pos h]
    go_wp2
    go_ret
    exact ⟨-1, rfl, .inl (by omega), B0.out⟩
  · rw [if_neg h]
    have h2 : ¬ (1048576 : Int) - (dur.length : Int) < 0 := by omega
    go_wp2_with fail
    refine (szWriteS_any _ _ ps RP.out (1048576 - dur.length) (by omega) (by omega)).mono ?_
    rintro e w2 ⟨r, rfl, hr, b2⟩
    have B2 : Hid (Below w.heap.size w w2) := B0.out.trans (b2.mono (by simp))
    clear b2
    by_cases hneg : r < 0
    · go_wp2
      go_ret
      exact ⟨-1, rfl, .inl (by omega), B2.out⟩
    · have h3 : r + ps.length + tot ps = 1048576 - dur.length := by omega
      have H3 : Hid (r + dur.length + ps.length + tot ps = 1048576) := by show _ = _; omega
      clear hr h3
      go_wp2
      go_ret
      exact ⟨r, rfl, .inr H3.out, B2.out⟩

end Go.Proofs.Ytajnihjdhhmefaa
