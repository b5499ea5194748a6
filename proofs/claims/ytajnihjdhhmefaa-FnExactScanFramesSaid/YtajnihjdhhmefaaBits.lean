import Derived.Test.YtajnihjdhhmefaaPack
namespace Go.Proofs.Ytajnihjdhhmefaa
open Go.RowKit

theorem Try.infoI : (Try.prog.info? 2).map (fun i => (i.zero, i.size, i.bytes)) = some (some (.int .i64 0), 1, 8) := by kernel_rfl

def bitsL (W : Nat) (xs : List Int) (q : Nat) : List Int := (List.range q).map (fun i => ((dig W 1 xs i : Nat) : Int))
theorem bitsL_len (W : Nat) (xs : List Int) (q : Nat) : (bitsL W xs q).length = q := by simp [bitsL]
theorem bitsL_getD (W : Nat) (xs : List Int) (q i : Nat) (h : i < q) : (bitsL W xs q).getD i 0 = ((dig W 1 xs i : Nat) : Int) := by simp [bitsL, List.getD, h]
theorem bitsL_succ (W : Nat) (xs : List Int) (q : Nat) : bitsL W xs (q + 1) = bitsL W xs q ++ [((dig W 1 xs q : Nat) : Int)] := range_snoc _ q

theorem bit_at (W : Nat) (xs : List Int) (k j x i : Nat) (hk : k < xs.length) (hj : j < W) (hx : xs.getD k 0 = (x : Int)) (hi : i + 1 + j = W * k + W) : dig W 1 xs i = x / 2 ^ j % 2 := by
  have e0 : W * (k + 1) = W * k + W := Nat.mul_succ W k
  rw [dig_take W 1 xs (k + 1) i hk (by rw [e0]; omega), numW_take_succ W xs k hk, hx, Int.toNat_natCast]
  rw [show W * (k + 1) - 1 * (i + 1) = j by rw [e0]; omega]
  have e : 2 ^ W = 2 ^ (W - j - 1) * 2 * 2 ^ j := by rw [← Nat.pow_succ, ← Nat.pow_add]; congr 1; omega
  rw [e, ← Nat.mul_assoc, Nat.add_comm, Nat.add_mul_div_right _ _ (pow_pos2 j), ← Nat.mul_assoc, Nat.pow_one, Nat.add_mul_mod_self_right]
  rw [Nat.mul_comm (2 ^ (W - j - 1) * 2) (2 ^ j), Nat.mod_mul_right_div_self, Nat.mod_mod_of_dvd _ (Nat.dvd_mul_left 2 _)]

theorem i64_low1 (n : Int) : bits .and .i64 n 1 = n % 2 := by
  have h1 : (BitVec.ofInt 64 1).toNat = 2 ^ 1 - 1 := by decide
  have key : (BitVec.ofInt 64 n &&& BitVec.ofInt 64 1).toNat = (n % ((2 ^ 64 : Nat) : Int)).toNat % 2 ^ 1 := by
    rw [BitVec.toNat_and, BitVec.toNat_ofInt, h1, Nat.and_two_pow_sub_one_eq_mod]
  show IntKind.i64.wrap ((BitVec.ofInt 64 n &&& BitVec.ofInt 64 1).toNat : Nat) = n % 2
  rw [key, IntKind.wrap_i64]
  omega

theorem shr_bit (x j : Nat) (hx : x < 256) : bits .and .i64 (wrap64 ((x : Int) / 2 ^ j)) 1 = ((x / 2 ^ j % 2 : Nat) : Int) := by
  have h := Nat.div_le_self x (2 ^ j)
  rw [i64_low1, shr_cast]
  generalize x / 2 ^ j = y at *
  rw [IntWalk.wrap64_in _ ⟨by omega, by omega⟩]
  omega

set_option maxHeartbeats 400000 in
set_option maxRecDepth 100000 in
theorem l2Bits_row (w : World) (b o n cap W : Nat) (xs : List Int) (hx : xs.length = n) (hb : b < w.heap.size) (hc : ∀ i, i < n → w.cell? ⟨b, o + i, none⟩ = some (.int .u8 (xs.getD i 0))) (hby : Byt xs) (hn : n ≤ 1099511627776) (hW : W ≤ 8) :
    Calls Try.prog 71 #[.slice (some ⟨b, o, none⟩) n cap, .int .i64 W] w fun e w' => ∃ v', e = .returned v' ∧ Own .i64 2 w' w.heap.size v' (bitsL W xs (W * n)) ∧ Below w.heap.size w w' := by
  obtain ⟨i0, hi, hz0, hz1, hz2⟩ := info_parts Try.infoI
  have HC : Hid (∀ i, i < n → w.cell? ⟨b, o + i, none⟩ = some (.int .u8 (xs.getD i 0))) := hc
  have HX : Hid (xs.length = n) := hx
  clear hc hx
  go_enter Try.func71, Try.ntmps71
  go_wp2
  go_loopw [5, 6] (fun v i wr => ∃ k : Nat, k ≤ n ∧ i = .int .i64 k ∧ wr.ownsRow w.heap.size 2 1 v (W * k) ((bitsL W xs (W * k)).map (Value.int .i64)) ∧ Below w.heap.size w wr) (fun _ i _ => n - (intOf i).toNat)
  case atStart => exact ⟨0, Nat.zero_le _, rfl, World.ownsRow_lit w #[] 0 (Nat.le_refl _) (Nat.zero_le _) rfl, (Below.refl _ _).alloc (Nat.le_refl _) _⟩
  case round =>
    obtain ⟨k, hk, rfl, ho, hg⟩ := hrel
    by_cases hlt : k < n
    · obtain ⟨x, hx, hxe⟩ := byt_at hby k
      have hltI : (k : Int) < (n : Int) := by omega
      have HXE : Hid (xs.getD k 0 = (x : Int)) := hxe
      have hsrc : w.cell? ⟨b, o + k, none⟩ = some (.int .u8 (x : Int)) := by rw [← hxe]; exact HC.out k hlt
      have HS : Hid (w.cell? ⟨b, o + k, none⟩ = some (.int .u8 (x : Int))) := hsrc
      clear hxe hsrc
      go_wp2
      go_loopw [5, 7] (fun v j wr => ∃ t : Nat, t ≤ W ∧ j = .int .i64 ((W : Int) - 1 - t) ∧ wr.ownsRow w.heap.size 2 1 v (W * k + t) ((bitsL W xs (W * k + t)).map (Value.int .i64)) ∧ Below w.heap.size w wr) (fun _ j _ => (intOf j + 1).toNat)
      case atStart => exact ⟨0, Nat.zero_le _, by go_num, ho, hg⟩
      case round =>
        clear ho hg
        obtain ⟨t, ht, rfl, ho, hg⟩ := hrel
        by_cases htl : t < W
        · obtain ⟨j, hj⟩ : ∃ j, t + 1 + j = W := ⟨W - 1 - t, by omega⟩
          have HJ : Hid (t + 1 + j = W) := hj
          have ej : (W : Int) - 1 - (t : Int) = (j : Int) := by omega
          rw [ej]
          have hj0 : (0 : Int) ≤ (j : Int) := by omega
          have hj8 : j < 8 := by omega
          clear hj ej
          have hsrc : wr.cell? ⟨b, o + k, none⟩ = some (.int .u8 (x : Int)) := (hg.cell (p := ⟨b, o + k, none⟩) hb).trans HS.out
          have HB : Hid (bits .and .i64 (wrap64 ((x : Int) / 2 ^ j)) 1 = ((dig W 1 xs (W * k + t) : Nat) : Int)) := by
            show _ = _
            have hj := HJ.out
            rw [bit_at W xs k j x (W * k + t) (by rw [HX.out]; exact hlt) (by omega) HXE.out (by omega), shr_bit x j hx]
          have HL : Hid (W * k + t + 1 ≤ 8796093022208) := by
            have : W * k ≤ 8 * k := Nat.mul_le_mul_right _ hW
            show _ ≤ _
            omega
          go_wp2_with (at_builtin; go_must (refine wpList_append_own _ rfl _ _ 54 rfl w.heap.size 2 i0 (.int .i64 0) 1 8 Try.underlying54 hi hz0 hz1 hz2 rfl (by decide) _ _ _ rfl (ho.alloc _) ⟨wr.heap.size, 0, none⟩ 1 1 [.int .i64 (bits .and .i64 (wrap64 ((x : Int) / 2 ^ j)) 1)] rfl rfl (cell_one_new _ _ _) (by intro u hu; simp at hu; subst hu; rfl) ?c3 ?c4 ?c5 ?_))
          case c3 => have := HL.out; unfold maxLen; omega
          case c4 => have := HL.out; omega
          case c5 => have := hg.size; simp; omega
          intro v2 w2 ho2 hg2 _
          have HO2 : Hid (w2.ownsRow w.heap.size 2 1 v2 (W * k + (t + 1)) ((bitsL W xs (W * k + (t + 1))).map (Value.int .i64))) := by
            rw [HB.out] at ho2; show World.ownsRow _ _ _ _ _ _ _; rw [← Nat.add_assoc, bitsL_succ, List.map_append]; exact ho2
          have HG2 : Hid (Below w.heap.size w w2) := (hg.alloc (hg.size) _).grown hg2 (by have := hg.size; simp; omega) (fun q hq => (ho.lt q hq).1)
          clear ho2 hg2 ho hg HB
          go_wp2
          go_roundw
          case rel => exact ⟨t + 1, by omega, by have := HJ.out; go_num, HO2.out, HG2.out⟩
          case measure => simp [intOf]
        · have htW : t = W := by omega
          subst htW
          have et : (t : Int) - 1 - (t : Int) = -1 := by omega
          rw [et]
          go_wp2
          go_roundw
          case rel => exact ⟨k + 1, by omega, by go_num, by rw [Nat.mul_succ]; exact ho, hg⟩
          case measure => simp [intOf]; omega
    · have hkn : k = n := by omega
      subst hkn
      go_wp2
      go_ret
      exact ⟨_, rfl, own_of (bitsL_len _ _ _) rfl ho, hg⟩

set_option maxHeartbeats 400000 in
theorem l2Bits_nil (w : World) (ao : Option Addr) (cap W : Nat) :
    Calls Try.prog 71 #[.slice ao 0 cap, .int .i64 W] w fun e w' => ∃ v', e = .returned v' ∧ Own .i64 2 w' w.heap.size v' [] ∧ Below w.heap.size w w' := by
  go_enter Try.func71, Try.ntmps71
  go_wp2
  go_rounds 1
  go_ret
  exact ⟨_, rfl, World.ownsRow_lit w #[] 0 (Nat.le_refl _) (Nat.zero_le _) rfl, (Below.refl _ _).alloc (Nat.le_refl _) _⟩

theorem l2Bits_any (w : World) (v : Value) (xs : List Int) (W : Nat) (h : Rd .u8 w v xs) (hby : Byt xs) (hn : xs.length ≤ 1099511627776) (hW : W ≤ 8) :
    Calls Try.prog 71 #[v, .int .i64 W] w fun e w' => ∃ v', e = .returned v' ∧ Own .i64 2 w' w.heap.size v' (bitsL W xs (W * xs.length)) ∧ Below w.heap.size w w' := by
  obtain ⟨ao, cap, rfl, h1, h2, h3⟩ := h
  rcases h3 with rfl | ⟨b, o, rfl, hb, hc⟩
  · exact l2Bits_nil w ao cap W
  · exact l2Bits_row w b o xs.length cap W xs rfl hb hc hby hn hW

/-! ### the groups of seven bits -/
def gv (xs : List Int) (q t : Nat) : Nat :=
  if 7 * q + t ≤ 8 * xs.length then numW 8 xs / 2 ^ (8 * xs.length - (7 * q + t)) % 2 ^ t else numW 8 xs % 2 ^ (8 * xs.length - 7 * q) * 2 ^ (7 * q + t - 8 * xs.length)

theorem gv_zero (xs : List Int) (q : Nat) (h : 7 * q ≤ 8 * xs.length) : gv xs q 0 = 0 := by
  unfold gv; rw [if_pos (by omega)]; simp [Nat.mod_one]

theorem gv_in (xs : List Int) (q t : Nat) (h : 7 * q + t < 8 * xs.length) : gv xs q (t + 1) = 2 * gv xs q t + dig 8 1 xs (7 * q + t) := by
  unfold gv dig
  rw [if_pos (by omega), if_pos (by omega)]
  have e : 8 * xs.length - (7 * q + t) = 8 * xs.length - (7 * q + (t + 1)) + 1 := by omega
  rw [e, show 2 ^ (8 * xs.length - (7 * q + (t + 1)) + 1) = 2 ^ (8 * xs.length - (7 * q + (t + 1))) * 2 from Nat.pow_succ _ _, ← Nat.div_div_eq_div_mul, show 8 * xs.length - 1 * (7 * q + t + 1) = 8 * xs.length - (7 * q + (t + 1)) by omega, Nat.pow_one]
  generalize numW 8 xs / 2 ^ (8 * xs.length - (7 * q + (t + 1))) = X
  rw [Nat.pow_succ, Nat.mul_comm (2 ^ t) 2, Nat.mod_mul]
  omega

theorem gv_out (xs : List Int) (q t : Nat) (h0 : 7 * q ≤ 8 * xs.length) (h : 8 * xs.length ≤ 7 * q + t) : gv xs q (t + 1) = 2 * gv xs q t := by
  unfold gv
  rw [if_neg (by omega)]
  by_cases e : 7 * q + t = 8 * xs.length
  · rw [if_pos (by omega), show 8 * xs.length - (7 * q + t) = 0 by omega, show 8 * xs.length - 7 * q = t by omega, show 7 * q + (t + 1) - 8 * xs.length = 1 by omega]
    simp; omega
  · rw [if_neg (by omega), show 7 * q + (t + 1) - 8 * xs.length = 7 * q + t - 8 * xs.length + 1 by omega, Nat.pow_succ]
    rw [← Nat.mul_assoc, Nat.mul_comm _ 2]

theorem gv_lt (xs : List Int) (q t : Nat) (h0 : 7 * q ≤ 8 * xs.length) : gv xs q t < 2 ^ t := by
  unfold gv
  by_cases h : 7 * q + t ≤ 8 * xs.length
  · rw [if_pos h]; exact Nat.mod_lt _ (pow_pos2 t)
  · rw [if_neg h]
    have h1 : numW 8 xs % 2 ^ (8 * xs.length - 7 * q) < 2 ^ (8 * xs.length - 7 * q) := Nat.mod_lt _ (pow_pos2 _)
    have h2 := shift_lt h1 t (by omega)
    rw [show 7 * q + t - 8 * xs.length = t - (8 * xs.length - 7 * q) by omega]
    exact h2

theorem gv_le (xs : List Int) (q t : Nat) (h0 : 7 * q ≤ 8 * xs.length) (ht : t ≤ 7) : gv xs q t ≤ 127 := by
  have h := gv_lt xs q t h0
  have h2 : 2 ^ t ≤ 2 ^ 7 := Nat.pow_le_pow_right (by omega) ht
  simp only [Nat.reducePow] at h2
  omega

def pkS (xs : List Int) (q : Nat) : List Int := (List.range q).map (fun j => ((128 + gv xs j 7 : Nat) : Int))
theorem pkS_len (xs : List Int) (q : Nat) : (pkS xs q).length = q := by simp [pkS]
theorem pkS_succ (xs : List Int) (q : Nat) : pkS xs (q + 1) = pkS xs q ++ [((128 + gv xs q 7 : Nat) : Int)] := range_snoc _ q

theorem pkS_full (xs : List Int) (q : Nat) (h : 7 * q ≤ 8 * xs.length) : pkS xs q = pkE xs q := by
  unfold pkS pkE
  apply List.map_congr_left
  intro j hj
  have hj := List.mem_range.1 hj
  unfold gv dig
  rw [if_pos (by omega), show 7 * j + 7 = 7 * (j + 1) by omega]

theorem pkS_all (xs : List Int) (q : Nat) (h : 8 * xs.length ≤ 7 * q) (h1 : 7 * q < 8 * xs.length + 7) : pkS xs q = pk xs := by
  by_cases e : 7 * q = 8 * xs.length
  · rw [pkS_full xs q (by omega), pk_even (by omega)]
  · obtain ⟨p, rfl⟩ : ∃ p, q = p + 1 := ⟨q - 1, by omega⟩
    rw [pkS_succ, pkS_full xs p (by omega), pk_odd (q := p) (A := 8 * xs.length - 7 * p) (by omega) (by omega) (by omega)]
    unfold gv
    rw [if_neg (by omega), show 7 * p + 7 - 8 * xs.length = 7 - (8 * xs.length - 7 * p) by omega]

end Go.Proofs.Ytajnihjdhhmefaa
