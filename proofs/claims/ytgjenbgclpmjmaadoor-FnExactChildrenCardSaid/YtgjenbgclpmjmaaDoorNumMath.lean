import Derived.Test.YtgjenbgclpmjmaaDoorSuperMath
import Derived.Test.YtgjenbgclpmjmaaDoorPack
namespace Go.Proofs.YtgjenbgclpmjmaaDoor
open Go.RowKit

theorem ofInt_wrap64 (x : Nat) : (BitVec.ofInt 64 (wrap64 (x : Int))).toNat = x % 18446744073709551616 := by
  rw [BitVec.toNat_ofInt]
  unfold wrap64
  omega

theorem i64_join (x b : Nat) (hb : b < 256) : bits .or .i64 (wrap64 ((x : Int) * 256)) (b : Int) = wrap64 (((x * 256 + b : Nat) : Int)) := by
  show IntKind.i64.wrap ((BitVec.ofInt 64 (wrap64 ((x : Int) * 256)) ||| BitVec.ofInt 64 (b : Int)).toNat : Int) = _
  have e1 : (BitVec.ofInt 64 (wrap64 ((x : Int) * 256))).toNat = x * 256 % 18446744073709551616 := by
    have := ofInt_wrap64 (x * 256)
    rw [Int.natCast_mul] at this
    exact this
  have e2 : (BitVec.ofInt 64 (b : Int)).toNat = b := by
    rw [BitVec.ofInt_natCast, BitVec.toNat_ofNat]; exact Nat.mod_eq_of_lt (by omega)
  rw [BitVec.toNat_or, e1, e2, nat_join 8 (x * 256 % 18446744073709551616) b (by simp only [Nat.reducePow]; omega) (by simpa using hb), IntKind.wrap_i64]
  unfold wrap64
  omega

/-- The wrap of a number that was wrapped and moved. -/
theorem wrap64_shl (x : Nat) : wrap64 (wrap64 (x : Int) * 256) = wrap64 ((x : Int) * 256) := by unfold wrap64; omega

/-! ### what a superblock's bytes say -/
def nG (ys : List Int) : Int := wrap64 ((numB (ys.take 8) : Nat) : Int)
def nB (ys : List Int) : Int := ((numB ((ys.drop 8).take 1) : Nat) : Int)
def nS (ys : List Int) : Int := ((numB ((ys.drop 9).take 4) : Nat) : Int)
def nL (ys : List Int) : Int := ((numB ((ys.drop 13).take 4) : Nat) : Int)
def nC (ys : List Int) : Int := ((numB ((ys.drop 17).take 4) : Nat) : Int)
abbrev decOk (ys : List Int) : Prop := ys.length = 64 ∧ sup (nG ys) (nB ys) (nS ys) (nL ys) (nC ys) = ys
def decV (ys : List Int) : Value := if decOk ys then .agg #[.bool true, .int .i64 (nG ys), .int .i64 (nB ys), .int .i64 (nS ys), .int .i64 (nL ys), .int .i64 (nC ys)] else .agg #[.bool false, .int .i64 0, .int .i64 0, .int .i64 0, .int .i64 0, .int .i64 0]

theorem sup_len64 {g b s l c : Int} {ys : List Int} (h : sup g b s l c = ys) (h0 : ys ≠ []) : ys.length = 64 := by
  subst h
  unfold sup at h0 ⊢
  split
  · exact supB_len _ _ _ _ _
  · rename_i hn; rw [if_neg hn] at h0; exact absurd rfl h0

end Go.Proofs.YtgjenbgclpmjmaaDoor
