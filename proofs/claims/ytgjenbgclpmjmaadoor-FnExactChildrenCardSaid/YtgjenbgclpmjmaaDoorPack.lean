import Derived.Test.YtgjenbgclpmjmaaDoorBytes
import Derived.Test.YtgjenbgclpmjmaaDoorMath
namespace Go.Proofs.YtgjenbgclpmjmaaDoor
open Go.RowKit

theorem u16_low7 (r : Int) (h0 : 0 ≤ r) (h1 : r < 65536) : bits .and .u16 r 127 = r % 128 := by
  rw [u16_and r 127 h0 h1 (by omega) (by omega)]
  rw [show ((127 : Int).toNat) = 127 from rfl, nat_mask7]
  omega

theorem u8_mark (x : Int) (h0 : 0 ≤ x) (h1 : x < 128) : bits .or .u8 128 x = 128 + x := by
  rw [u8_or 128 x (by omega) (by omega) h0 (by omega)]
  rw [show ((128 : Int).toNat) = 128 from rfl, nat_join 7 128 x.toNat (by decide) (by simp only [Nat.reducePow]; omega)]
  omega


def Byt (xs : List Int) : Prop := ∀ x ∈ xs, 0 ≤ x ∧ x < 256
theorem byt_at {xs : List Int} (h : Byt xs) (k : Nat) : ∃ x : Nat, x < 256 ∧ xs.getD k 0 = (x : Int) := by
  by_cases hk : k < xs.length
  · have := h xs[k] (List.getElem_mem hk)
    exact ⟨xs[k].toNat, by omega, by simp only [List.getD, List.getElem?_eq_getElem hk, Option.getD_some]; omega⟩
  · exact ⟨0, by omega, by simp [List.getD, show xs.length ≤ k by omega]⟩

theorem reg_in (R x A N : Nat) (hx : x < 256) (hA : A ≤ 6) (h : R % 2 ^ A = N % 2 ^ A) :
    ∃ R' : Nat, R' < 65536 ∧ bits .or .u16 (IntKind.u16.wrap ((R : Int) * 256)) (x : Int) = (R' : Int) ∧ R' % 2 ^ (A + 8) = (N * 256 + x) % 2 ^ (A + 8) := by
  have hs := reg_step R N x A 8 16 (by omega) h
  simp only [show (2 : Nat) ^ 8 = 256 from rfl, show (2 : Nat) ^ 16 = 65536 from rfl] at hs
  refine ⟨R * 256 % 65536 + x, by omega, ?_, hs⟩
  have e : IntKind.u16.wrap ((R : Int) * 256) = ((R * 256 % 65536 : Nat) : Int) := by rw [IntKind.wrap_u16]; omega
  rw [e, u16_or_nat _ _ (by omega) (by omega), nat_join 8 (R * 256 % 65536) x (by simp only [Nat.reducePow]; omega) (by simpa using hx)]

theorem shr_nonneg (R A : Nat) : (0 : Int) ≤ (R : Int) / 2 ^ A := Int.ediv_nonneg (by omega) (by exact_mod_cast Nat.zero_le _)
theorem shr_cast (R A : Nat) : (R : Int) / 2 ^ A = ((R / 2 ^ A : Nat) : Int) := by simp
theorem shr_lt (R A : Nat) (h : R < 65536) : (R : Int) / 2 ^ A < 65536 := by
  rw [shr_cast]
  have := Nat.div_le_self R (2 ^ A)
  omega

theorem reg_out (xs : List Int) (R A k q : Nat) (hk : k ≤ xs.length) (hq : 7 * q + (A + 7) = 8 * k) (h : R % 2 ^ (A + 7) = numW 8 (xs.take k) % 2 ^ (A + 7)) :
    (128 + (R : Int) / 2 ^ A % 128) = ((128 + dig 8 7 xs q : Nat) : Int) := by
  rw [shr_cast, dig_take 8 7 xs k q hk (by omega), show 8 * k - 7 * (q + 1) = A by omega, ← reg_dig R _ A 7 h]
  simp only [Nat.reducePow]
  omega

theorem wrap16 (x : Int) : 0 ≤ IntKind.u16.wrap x ∧ IntKind.u16.wrap x < 65536 := by rw [IntKind.wrap_u16]; omega
theorem reg_last (R N A : Nat) (hA : A ≤ 7) (h : R % 2 ^ A = N % 2 ^ A) : (128 + IntKind.u16.wrap ((R : Int) * 2 ^ (7 - A)) % 128) = ((128 + N % 2 ^ A * 2 ^ (7 - A) : Nat) : Int) := by
  have e : (R : Int) * 2 ^ (7 - A) = ((R * 2 ^ (7 - A) : Nat) : Int) := by simp
  rw [e, IntKind.wrap_u16]
  have e2 : R * 2 ^ (7 - A) % 128 = N % 2 ^ A * 2 ^ (7 - A) := by
    have e3 : 128 = 2 ^ A * 2 ^ (7 - A) := by rw [← Nat.pow_add, show A + (7 - A) = 7 by omega]
    conv => lhs; rw [e3]
    rw [Nat.mul_mod_mul_right, h]
  rw [← e2]
  generalize R * 2 ^ (7 - A) = z
  omega

def pkE (xs : List Int) (q : Nat) : List Int := (List.range q).map (fun j => ((128 + dig 8 7 xs j : Nat) : Int))

theorem pkE_len (xs : List Int) (q : Nat) : (pkE xs q).length = q := by simp [pkE]
theorem pk_even {xs : List Int} {q : Nat} (h : 7 * q + 0 = 8 * xs.length) : pk xs = pkE xs q := by
  unfold pk pkE
  rw [show 8 * xs.length / 7 = q by omega, if_pos (by omega), List.append_nil]
theorem pk_odd {xs : List Int} {q A : Nat} (h : 7 * q + A = 8 * xs.length) (h0 : 0 < A) (h6 : A ≤ 6) : pk xs = pkE xs q ++ [((128 + numW 8 xs % 2 ^ A * 2 ^ (7 - A) : Nat) : Int)] := by
  unfold pk pkE
  rw [show 8 * xs.length / 7 = q by omega, show 8 * xs.length % 7 = A by omega, if_neg (by omega)]
theorem own_of {k : IntKind} {e : TypeId} {w : World} {base q : Nat} {v : Value} {ys xs : List Int} (hl : ys.length = q) (he : xs = ys) (h : w.ownsRow base e 1 v q (ys.map (Value.int k))) : Own k e w base v xs := by
  subst he; unfold Own; rw [hl]; exact h


end Go.Proofs.YtgjenbgclpmjmaaDoor
