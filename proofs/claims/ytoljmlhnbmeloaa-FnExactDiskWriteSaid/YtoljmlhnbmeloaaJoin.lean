import Derived.Test.YtoljmlhnbmeloaaBits
import Derived.Test.YtoljmlhnbmeloaaSame
namespace Go.Proofs.Ytoljmlhnbmeloaa
open Go.RowKit

def upE (ps : List Int) (q : Nat) : List Int := (List.range q).map (fun j => ((dig 7 8 ps j : Nat) : Int))
theorem upE_len (ps : List Int) (q : Nat) : (upE ps q).length = q := by simp [upE]
theorem upE_succ (ps : List Int) (q : Nat) : upE ps (q + 1) = upE ps q ++ [((dig 7 8 ps q : Nat) : Int)] := range_snoc _ q
theorem upE_all {ps : List Int} {q : Nat} (h : q = 7 * ps.length / 8) : up ps = upE ps q := by subst h; rfl

theorem u8_low7 (x : Nat) (hx : x < 256) : bits .and .u8 (x : Int) 127 = ((x % 128 : Nat) : Int) := by
  rw [show (127 : Int) = ((127 : Nat) : Int) from rfl, u8_and_nat x 127 hx (by omega), nat_mask7]

theorem reg_in7 (R x A N : Nat) (hx : x < 128) (hA : A ≤ 7) (h : R % 2 ^ A = N % 2 ^ A) :
    ∃ R' : Nat, R' < 65536 ∧ bits .or .u16 (IntKind.u16.wrap ((R : Int) * 128)) (x : Int) = (R' : Int) ∧ R' % 2 ^ (A + 7) = (N * 128 + x) % 2 ^ (A + 7) := by
  have hs := reg_step R N x A 7 16 (by omega) h
  simp only [show (2 : Nat) ^ 7 = 128 from rfl, show (2 : Nat) ^ 16 = 65536 from rfl] at hs
  refine ⟨R * 128 % 65536 + x, by omega, ?_, hs⟩
  have e : IntKind.u16.wrap ((R : Int) * 128) = ((R * 128 % 65536 : Nat) : Int) := by rw [IntKind.wrap_u16]; omega
  rw [e, u16_or_nat _ _ (by omega) (by omega), nat_join 7 (R * 128 % 65536) x (by simp only [Nat.reducePow]; omega) (by simpa using hx)]

theorem reg_out8 (xs : List Int) (R A k q : Nat) (hk : k ≤ xs.length) (hq : 8 * q + (A + 8) = 7 * k) (h : R % 2 ^ (A + 8) = numW 7 (xs.take k) % 2 ^ (A + 8)) :
    IntKind.u8.wrap ((R : Int) / 2 ^ A) = ((dig 7 8 xs q : Nat) : Int) := by
  rw [IntKind.wrap_u8', shr_cast, dig_take 7 8 xs k q hk (by omega), show 7 * k - 8 * (q + 1) = A by omega, ← reg_dig R _ A 8 h]
  simp only [Nat.reducePow]
  omega




end Go.Proofs.Ytoljmlhnbmeloaa
