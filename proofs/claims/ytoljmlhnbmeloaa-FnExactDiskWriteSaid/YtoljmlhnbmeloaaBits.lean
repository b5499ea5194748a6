import Derived.Test.YtoljmlhnbmeloaaPack
namespace Go.Proofs.Ytoljmlhnbmeloaa
open Go.RowKit

theorem Try.infoI : (Try.prog.info? 2).map (fun i => (i.zero, i.size, i.bytes)) = some (some (.int .i64 0), 1, 8) := by kernel_rfl

def bitsL (W : Nat) (xs : List Int) (q : Nat) : List Int := (List.range q).map (fun i => ((dig W 1 xs i : Nat) : Int))
theorem bitsL_len (W : Nat) (xs : List Int) (q : Nat) : (bitsL W xs q).length = q := by simp [bitsL]
theorem bitsL_getD (W : Nat) (xs : List Int) (q i : Nat) (h : i < q) : (bitsL W xs q).getD i 0 = ((dig W 1 xs i : Nat) : Int) := by simp [bitsL, List.getD, h]
theorem bitsL_succ (W : Nat) (xs : List Int) (q : Nat) : bitsL W xs (q + 1) = bitsL W xs q ++ [((dig W 1 xs q : Nat) : Int)] := range_snoc _ q

theorem bit_at (W : Nat) (xs : List Int) (k j x i : Nat) (hk : k < xs.length) (hj : j < W) (hx : xs.getD k 0 = (x : Int)) (hi : i + 1 + j = W * k + W) : dig W 1 xs i = x / 2 ^ j % 2 := by
  have e0 : W * (k + 1) = W * k + W := Nat.mul_succ W k
  rw [dig_take W 1 xs (k + 1) i hk (by rw [e0]; omega), numW_take_succ W xs k hk, hx, Int.toNat_natCast]
  rw [show W * (k + 1) - 1 * (i + 1) = j by rw [e0]; omega]
  have e : 2 ^ W = 2 ^ (W - j - 1) * 2 * 2 ^ j := by rw [← Nat.pow_succ, ← Nat.pow_add]; congr 1; omega
  rw [e, ← Nat.mul_assoc, Nat.add_comm, Nat.add_mul_div_right _ _ (pow_pos2 j), ← Nat.mul_assoc, Nat.pow_one, Nat.add_mul_mod_self_right]
  rw [Nat.mul_comm (2 ^ (W - j - 1) * 2) (2 ^ j), Nat.mod_mul_right_div_self, Nat.mod_mod_of_dvd _ (Nat.dvd_mul_left 2 _)]

theorem i64_low1 (n : Int) : bits .and .i64 n 1 = n % 2 := by
  have h1 : (BitVec.ofInt 64 1).toNat = 2 ^ 1 - 1 := by decide
  have key : (BitVec.ofInt 64 n &&& BitVec.ofInt 64 1).toNat = (n % ((2 ^ 64 : Nat) : Int)).toNat % 2 ^ 1 := by
    rw [BitVec.toNat_and, BitVec.toNat_ofInt, h1, Nat.and_two_pow_sub_one_eq_mod]
  show IntKind.i64.wrap ((BitVec.ofInt 64 n &&& BitVec.ofInt 64 1).toNat : Nat) = n % 2
  rw [key, IntKind.wrap_i64]
  omega

theorem shr_bit (x j : Nat) (hx : x < 256) : bits .and .i64 (wrap64 ((x : Int) / 2 ^ j)) 1 = ((x / 2 ^ j % 2 : Nat) : Int) := by
  have h := Nat.div_le_self x (2 ^ j)
  rw [i64_low1, shr_cast]
  generalize x / 2 ^ j = y at *
  rw [IntWalk.wrap64_in _ ⟨by omega, by omega⟩]
  omega




/-! ### the groups of seven bits -/
def gv (xs : List Int) (q t : Nat) : Nat :=
  if 7 * q + t ≤ 8 * xs.length then numW 8 xs / 2 ^ (8 * xs.length - (7 * q + t)) % 2 ^ t else numW 8 xs % 2 ^ (8 * xs.length - 7 * q) * 2 ^ (7 * q + t - 8 * xs.length)

theorem gv_zero (xs : List Int) (q : Nat) (h : 7 * q ≤ 8 * xs.length) : gv xs q 0 = 0 := by
  unfold gv; rw [if_pos (by omega)]; simp [Nat.mod_one]

theorem gv_in (xs : List Int) (q t : Nat) (h : 7 * q + t < 8 * xs.length) : gv xs q (t + 1) = 2 * gv xs q t + dig 8 1 xs (7 * q + t) := by
  unfold gv dig
  rw [if_pos (by omega), if_pos (by omega)]
  have e : 8 * xs.length - (7 * q + t) = 8 * xs.length - (7 * q + (t + 1)) + 1 := by omega
  rw [e, show 2 ^ (8 * xs.length - (7 * q + (t + 1)) + 1) = 2 ^ (8 * xs.length - (7 * q + (t + 1))) * 2 from Nat.pow_succ _ _, ← Nat.div_div_eq_div_mul, show 8 * xs.length - 1 * (7 * q + t + 1) = 8 * xs.length - (7 * q + (t + 1)) by omega, Nat.pow_one]
  generalize numW 8 xs / 2 ^ (8 * xs.length - (7 * q + (t + 1))) = X
  rw [Nat.pow_succ, Nat.mul_comm (2 ^ t) 2, Nat.mod_mul]
  omega

theorem gv_out (xs : List Int) (q t : Nat) (h0 : 7 * q ≤ 8 * xs.length) (h : 8 * xs.length ≤ 7 * q + t) : gv xs q (t + 1) = 2 * gv xs q t := by
  unfold gv
  rw [if_neg (by omega)]
  by_cases e : 7 * q + t = 8 * xs.length
  · rw [if_pos (by omega), show 8 * xs.length - (7 * q + t) = 0 by omega, show 8 * xs.length - 7 * q = t by omega, show 7 * q + (t + 1) - 8 * xs.length = 1 by omega]
    simp; omega
  · rw [if_neg (by omega), show 7 * q + (t + 1) - 8 * xs.length = 7 * q + t - 8 * xs.length + 1 by omega, Nat.pow_succ]
    rw [← Nat.mul_assoc, Nat.mul_comm _ 2]

theorem gv_lt (xs : List Int) (q t : Nat) (h0 : 7 * q ≤ 8 * xs.length) : gv xs q t < 2 ^ t := by
  unfold gv
  by_cases h : 7 * q + t ≤ 8 * xs.length
  · rw [if_pos h]; exact Nat.mod_lt _ (pow_pos2 t)
  · rw [if_neg h]
    have h1 : numW 8 xs % 2 ^ (8 * xs.length - 7 * q) < 2 ^ (8 * xs.length - 7 * q) := Nat.mod_lt _ (pow_pos2 _)
    have h2 := shift_lt h1 t (by omega)
    rw [show 7 * q + t - 8 * xs.length = t - (8 * xs.length - 7 * q) by omega]
    exact h2

theorem gv_le (xs : List Int) (q t : Nat) (h0 : 7 * q ≤ 8 * xs.length) (ht : t ≤ 7) : gv xs q t ≤ 127 := by
  have h := gv_lt xs q t h0
  have h2 : 2 ^ t ≤ 2 ^ 7 := Nat.pow_le_pow_right (by omega) ht
  simp only [Nat.reducePow] at h2
  omega

def pkS (xs : List Int) (q : Nat) : List Int := (List.range q).map (fun j => ((128 + gv xs j 7 : Nat) : Int))
theorem pkS_len (xs : List Int) (q : Nat) : (pkS xs q).length = q := by simp [pkS]
theorem pkS_succ (xs : List Int) (q : Nat) : pkS xs (q + 1) = pkS xs q ++ [((128 + gv xs q 7 : Nat) : Int)] := range_snoc _ q

theorem pkS_full (xs : List Int) (q : Nat) (h : 7 * q ≤ 8 * xs.length) : pkS xs q = pkE xs q := by
  unfold pkS pkE
  apply List.map_congr_left
  intro j hj
  have hj := List.mem_range.1 hj
  unfold gv dig
  rw [if_pos (by omega), show 7 * j + 7 = 7 * (j + 1) by omega]

theorem pkS_all (xs : List Int) (q : Nat) (h : 8 * xs.length ≤ 7 * q) (h1 : 7 * q < 8 * xs.length + 7) : pkS xs q = pk xs := by
  by_cases e : 7 * q = 8 * xs.length
  · rw [pkS_full xs q (by omega), pk_even (by omega)]
  · obtain ⟨p, rfl⟩ : ∃ p, q = p + 1 := ⟨q - 1, by omega⟩
    rw [pkS_succ, pkS_full xs p (by omega), pk_odd (q := p) (A := 8 * xs.length - 7 * p) (by omega) (by omega) (by omega)]
    unfold gv
    rw [if_neg (by omega), show 7 * p + 7 - 8 * xs.length = 7 - (8 * xs.length - 7 * p) by omega]

end Go.Proofs.Ytoljmlhnbmeloaa
