import Derived.Test.YtoljmlhnbmeloaaSync2
import Derived.Test.YtoljmlhnbmeloaaSpecRead2
namespace Go.Proofs.Ytoljmlhnbmeloaa
open Go.RowKit

/-- Is the configuration one? -/
def cfgOk (S L : Int) : Bool := decide (1 ≤ S ∧ S ≤ 64) && decide (1 ≤ L ∧ L ≤ 64)
/-- Is the disk laid out for it? -/
def fitD (S L : Int) (dl : Nat) (ps : List (Int × List Int)) : Bool := cfgOk S L && (vldD dl ps && decide (((dl / 64 : Nat) : Int) = 2 + 2 * (S + L)))
/-- The first block of an area, and its blocks. -/
def arF (S L bank : Int) (log : Bool) : Int := 2 + bank * (S + L) + if log then S else 0
def arL (S L : Int) (log : Bool) : Int := if log then L else S
def arOk (S L : Int) (dl : Nat) (ps : List (Int × List Int)) (bank : Int) : Bool := fitD S L dl ps && decide (0 ≤ bank ∧ bank ≤ 1)
def arN (D : List Int) (f l : Nat) : List Int := (D.drop (f * 64)).take (l * 64)
def arA (dur : List Int) (ps : List (Int × List Int)) (S L bank : Int) (log : Bool) : List Int :=
  if arOk S L dur.length ps bank then arN (syD dur ps) (arF S L bank log).toNat (arL S L log).toNat else []

theorem cfgOk_iff (S L : Int) : cfgOk S L = true ↔ (1 ≤ S ∧ S ≤ 64) ∧ 1 ≤ L ∧ L ≤ 64 := by unfold cfgOk; simp only [Bool.and_eq_true, decide_eq_true_eq]
theorem fitD_iff (S L : Int) (dl : Nat) (ps : List (Int × List Int)) : fitD S L dl ps = true ↔ cfgOk S L = true ∧ vldD dl ps = true ∧ ((dl / 64 : Nat) : Int) = 2 + 2 * (S + L) := by
  unfold fitD; simp only [Bool.and_eq_true, decide_eq_true_eq]

theorem arN_succ (D : List Int) (f i : Nat) : arN D f (i + 1) = arN D f i ++ blk D (f + i) := by
  unfold arN blk
  rw [show (i + 1) * 64 = i * 64 + 64 by omega, show (f + i) * 64 = f * 64 + i * 64 by omega, List.take_add, List.drop_drop]
theorem arN_zero (D : List Int) (f : Nat) : arN D f 0 = [] := by unfold arN; simp
theorem syD_length {dur : List Int} {ps : List (Int × List Int)} (h : vldD dur.length ps = true) : (syD dur ps).length = dur.length := by
  unfold syD; rw [if_pos h]; exact stl_len _ _ _ h _ (Nat.le_refl _)
theorem arN_length (D : List Int) (f l : Nat) (h : (f + l) * 64 ≤ D.length) : (arN D f l).length = l * 64 := by
  unfold arN; rw [List.length_take, List.length_drop]; omega
theorem syD_blk {dur : List Int} {ps : List (Int × List Int)} {b : Nat} (hv : vldD dur.length ps = true) (hb : b < dur.length / 64) : rdA dur ps (b : Int) = blk (syD dur ps) b := by
  unfold rdA rdOk syD
  have hb' : ((b : Int)) < ((dur.length / 64 : Nat) : Int) := by omega
  rw [if_pos (by simp only [hv, Bool.true_and, decide_eq_true_eq]; exact ⟨by omega, hb'⟩), if_pos hv, Int.toNat_natCast]
  exact (stl_blk dur ps hv b _ (Nat.le_refl _)).symm

end Go.Proofs.Ytoljmlhnbmeloaa
