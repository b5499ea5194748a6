import Derived.Test.YtoljmlhnbmeloaaSPack
import Derived.Test.YtoljmlhnbmeloaaJoin
namespace Go.Proofs.Ytoljmlhnbmeloaa
open Go.RowKit

def unp (ps : List Int) : List Int := if pk (up ps) = ps then up ps else []

theorem byt_pk (xs : List Int) : Byt (pk xs) := fun x hx => by have := pk_range xs x hx; omega
theorem byt_up (xs : List Int) : Byt (up xs) := fun x hx => by have := up_range xs x hx; omega

theorem bcell {W w1 : World} (hb : Below W.heap.size W w1) : (∀ b o, b < W.heap.size → w1.cell? ⟨b, o, none⟩ = W.cell? ⟨b, o, none⟩) ∧ (∀ b o, b < W.heap.size → w1.frozen? ⟨b, o, none⟩ = W.frozen? ⟨b, o, none⟩) :=
  ⟨fun b o h => hb.cell (p := ⟨b, o, none⟩) h, fun b o h => hb.frozen (p := ⟨b, o, none⟩) h⟩

/-- A new block of one cell, in every later world. -/
theorem box_later {w w1 : World} {x : Value} {t : TypeId} (hb : Below (w.alloc (.cells #[x] t)).heap.size (w.alloc (.cells #[x] t)) w1) :
    w1.cell? ⟨w.heap.size, 0, none⟩ = some x ∧ w1.frozen? ⟨w.heap.size, 0, none⟩ = false ∧ w.heap.size < w1.heap.size := by
  obtain ⟨hc, hf⟩ := bcell hb
  have hs := hb.size
  simp at hs
  refine ⟨?_, ?_, by omega⟩
  · rw [hc _ _ (by simp)]; simp
  · rw [hf _ _ (by simp)]; simp

theorem Own.setBelow {k : IntKind} {e : TypeId} {w : World} {base : Nat} {v : Value} {xs : List Int} (h : Own k e w base v xs) {a : Addr} (ha : a.block < base) (u : Value) : Own k e (w.setCell a u) base v xs := ownsRow_setCell_below h ha u


/-! ### the groups of eight bits -/
def g8 (xs : List Int) (q t : Nat) : Nat := numW 7 xs / 2 ^ (7 * xs.length - (8 * q + t)) % 2 ^ t
theorem g8_zero (xs : List Int) (q : Nat) : g8 xs q 0 = 0 := by unfold g8; simp [Nat.mod_one]
theorem g8_in (xs : List Int) (q t : Nat) (h : 8 * q + t < 7 * xs.length) : g8 xs q (t + 1) = 2 * g8 xs q t + dig 7 1 xs (8 * q + t) := by
  unfold g8 dig
  have e : 7 * xs.length - (8 * q + t) = 7 * xs.length - (8 * q + (t + 1)) + 1 := by omega
  rw [e, show 2 ^ (7 * xs.length - (8 * q + (t + 1)) + 1) = 2 ^ (7 * xs.length - (8 * q + (t + 1))) * 2 from Nat.pow_succ _ _, ← Nat.div_div_eq_div_mul, show 7 * xs.length - 1 * (8 * q + t + 1) = 7 * xs.length - (8 * q + (t + 1)) by omega, Nat.pow_one]
  generalize numW 7 xs / 2 ^ (7 * xs.length - (8 * q + (t + 1))) = X
  rw [Nat.pow_succ, Nat.mul_comm (2 ^ t) 2, Nat.mod_mul]
  omega
theorem g8_le (xs : List Int) (q t : Nat) (ht : t ≤ 8) : g8 xs q t ≤ 255 := by
  have h : g8 xs q t < 2 ^ t := Nat.mod_lt _ (pow_pos2 t)
  have h2 : 2 ^ t ≤ 2 ^ 8 := Nat.pow_le_pow_right (by omega) ht
  simp only [Nat.reducePow] at h2
  omega
theorem g8_dig (xs : List Int) (q : Nat) : g8 xs q 8 = dig 7 8 xs q := by unfold g8 dig; rw [show 8 * q + 8 = 8 * (q + 1) by omega]


end Go.Proofs.Ytoljmlhnbmeloaa
