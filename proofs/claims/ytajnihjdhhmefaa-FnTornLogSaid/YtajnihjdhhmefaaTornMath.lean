import Derived.Test.YtajnihjdhhmefaaScanMath
import Derived.Test.YtajnihjdhhmefaaFrame
namespace Go.Proofs.Ytajnihjdhhmefaa

theorem div_step (N a v : Nat) : N / 2 ^ (a + v) * 2 ^ v + N / 2 ^ a % 2 ^ v = N / 2 ^ a := by
  rw [Nat.pow_add, ← Nat.div_div_eq_div_mul, Nat.mul_comm]
  exact Nat.div_add_mod _ _

theorem numW_pk_digits (xs : List Int) : ∀ q, 7 * q ≤ 8 * xs.length → numW 7 ((List.range q).map (fun q => ((128 + dig 8 7 xs q : Nat) : Int))) = numW 8 xs / 2 ^ (8 * xs.length - 7 * q) := by
  intro q
  induction q with
  | zero =>
    intro _
    have h := numW_lt 8 xs xs.length (Nat.le_refl _)
    rw [List.take_length] at h
    rw [Nat.mul_zero, Nat.sub_zero, Nat.div_eq_of_lt h]
    rfl
  | succ q ih =>
    intro h
    rw [range_snoc (fun q => ((128 + dig 8 7 xs q : Nat) : Int)) q, numW_snoc, ih (by omega), Int.toNat_natCast]
    have e1 : (128 + dig 8 7 xs q) % 2 ^ 7 = dig 8 7 xs q := by have := dig_lt 8 7 xs q; simp only [Nat.reducePow] at this ⊢; omega
    rw [e1, show 8 * xs.length - 7 * q = 8 * xs.length - 7 * (q + 1) + 7 by omega]
    unfold dig
    exact div_step _ _ _

theorem numW_pk (xs : List Int) : numW 7 (pk xs) = numW 8 xs * 2 ^ (7 * (pk xs).length - 8 * xs.length) := by
  rw [pk_length]
  unfold pk
  by_cases h : 8 * xs.length % 7 = 0
  · rw [if_pos h, List.append_nil, numW_pk_digits xs _ (by omega), show 8 * xs.length - 7 * (8 * xs.length / 7) = 0 by omega, show 7 * ((8 * xs.length + 6) / 7) - 8 * xs.length = 0 by omega]
    simp
  · rw [if_neg h, numW_snoc, numW_pk_digits xs _ (by omega), Int.toNat_natCast, show 8 * xs.length - 7 * (8 * xs.length / 7) = 8 * xs.length % 7 by omega, show 7 * ((8 * xs.length + 6) / 7) - 8 * xs.length = 7 - 8 * xs.length % 7 by omega]
    have hr : 8 * xs.length % 7 < 7 := Nat.mod_lt _ (by omega)
    generalize 8 * xs.length % 7 = r at *
    have h1 : numW 8 xs % 2 ^ r < 2 ^ r := Nat.mod_lt _ (pow_pos2 _)
    have h2 := shift_lt h1 7 (by omega)
    have e1 : (128 + numW 8 xs % 2 ^ r * 2 ^ (7 - r)) % 2 ^ 7 = numW 8 xs % 2 ^ r * 2 ^ (7 - r) := by
      simp only [Nat.reducePow] at h2 ⊢; omega
    rw [e1]
    have e2 : (2 : Nat) ^ 7 = 2 ^ r * 2 ^ (7 - r) := by rw [← Nat.pow_add]; congr 1; omega
    rw [e2, ← Nat.mul_assoc, ← Nat.add_mul, Nat.mul_comm (numW 8 xs / 2 ^ r), Nat.div_add_mod]

theorem dig88 (xs : List Int) (q : Nat) (h : q < xs.length) (hx : 0 ≤ xs.getD q 0 ∧ xs.getD q 0 < 256) : ((dig 8 8 xs q : Nat) : Int) = xs.getD q 0 := by
  rw [dig_take 8 8 xs (q + 1) q (by omega) (Nat.le_refl _), Nat.sub_self, numW_take_succ 8 xs q h]
  simp only [Nat.reducePow, Nat.div_one]
  omega

/-- What is packed is read back. -/
theorem up_pk (xs : List Int) (hby : Byt xs) : up (pk xs) = xs := by
  have hl : 7 * (pk xs).length / 8 = xs.length := by rw [pk_length]; omega
  have hL := pk_length xs
  apply List.ext_getElem
  · rw [up_length, hl]
  · intro q h1 h2
    have hq : (up (pk xs))[q] = ((dig 7 8 (pk xs) q : Nat) : Int) := by simp [up]
    rw [hq]
    have e : dig 7 8 (pk xs) q = dig 8 8 xs q := by
      unfold dig
      rw [numW_pk]
      have e1 : 7 * (pk xs).length - 8 * (q + 1) = 8 * xs.length - 8 * (q + 1) + (7 * (pk xs).length - 8 * xs.length) := by omega
      rw [e1, Nat.pow_add, Nat.mul_div_mul_right _ _ (pow_pos2 _)]
    have hg : xs.getD q 0 = xs[q] := by simp [List.getD, h2]
    have hb := hby (xs[q]) (List.getElem_mem h2)
    rw [e, dig88 xs q h2 (by rw [hg]; exact hb), hg]

theorem unp_pk (xs : List Int) (hby : Byt xs) : unp (pk xs) = xs := by
  unfold unp
  rw [up_pk xs hby, if_pos rfl]

/-- A byte without its mark: nothing is read. -/
theorem unp_bad (ps : List Int) (x : Int) (hx : x ∈ ps) (h : x < 128) : unp ps = [] := by
  unfold unp
  rw [if_neg]
  intro e
  rw [← e] at hx
  have := pk_range _ x hx
  omega

theorem fr_len {xs : List Int} (h0 : 0 < xs.length) (h1 : xs.length ≤ 2000) : (fr xs).length = 2 + (8 * xs.length + 6) / 7 := by
  rw [fr_yes h0 h1, List.length_append, pk_length]; rfl

theorem hdr_back (L : Nat) (h : L ≤ 2286) : (128 + (L : Int) / 128).toNat % 128 * 128 + (128 + (L : Int) % 128).toNat % 128 = L := by
  have t0 : (128 + (L : Int) / 128).toNat = 128 + L / 128 := by omega
  have t1 : (128 + (L : Int) % 128).toNat = 128 + L % 128 := by omega
  rw [t0, t1]
  clear t0 t1
  have h1 : L / 128 < 128 := by omega
  have h2 : L % 128 < 128 := by omega
  have e1 : (128 + L / 128) % 128 = L / 128 := by omega
  have e2 : (128 + L % 128) % 128 = L % 128 := by omega
  rw [e1, e2]
  omega

/-- A frame ahead of other bytes: its header, and its payload. -/
theorem frm_fr {xs rest : List Int} (hby : Byt xs) (h0 : 0 < xs.length) (h1 : xs.length ≤ 2000) :
    frm_m (fr xs ++ rest) = (pk xs).length ∧ frm_p (fr xs ++ rest) = xs ∧ frmB (fr xs ++ rest) = true := by
  have hL := pk_length xs
  have e0 : (fr xs ++ rest).getD 0 0 = 128 + ((pk xs).length : Int) / 128 := by rw [fr_yes h0 h1]; rfl
  have e1 : (fr xs ++ rest).getD 1 0 = 128 + ((pk xs).length : Int) % 128 := by rw [fr_yes h0 h1]; rfl
  have em : frm_m (fr xs ++ rest) = (pk xs).length := by
    unfold frm_m
    rw [e0, e1]
    exact hdr_back _ (by omega)
  have ep : frm_p (fr xs ++ rest) = xs := by
    unfold frm_p
    rw [em, fr_yes h0 h1]
    have : ((([128 + ((pk xs).length : Int) / 128, 128 + ((pk xs).length : Int) % 128] ++ pk xs) ++ rest).drop 2).take (pk xs).length = pk xs := by
      simp
    rw [this, unp_pk xs hby]
  refine ⟨em, ep, (frmB_iff _).2 ⟨?_, ?_, ?_, ?_, ?_, ?_⟩⟩
  · rw [List.length_append, fr_len h0 h1]; omega
  · rw [e0]; omega
  · rw [e1]; omega
  · rw [em, List.length_append, fr_len h0 h1]; omega
  · rw [ep]; intro e; rw [e] at h0; simp at h0
  · rw [ep]; exact h1

/-- Bytes of which one within the frame's length has lost its mark hold no record, if the header is the frame's or has lost its mark, too. -/
theorem frm_torn {a : List Int} {m : Nat} (hm : 128 ≤ a.getD 0 0 → 128 ≤ a.getD 1 0 → frm_m a = m) (i : Nat) (hi : i < 2 + m) (hil : i < a.length) (hz : a.getD i 0 < 128) : frmB a = false := by
  refine frmB_no (fun hk => ?_)
  obtain ⟨k1, k2, k3, k4, k5, -⟩ := hk
  have e := hm k2 k3
  have hi0 : i ≠ 0 := fun e => by subst e; omega
  have hi1 : i ≠ 1 := fun e => by subst e; omega
  apply k5
  unfold frm_p
  rw [e]
  refine unp_bad _ (a.getD i 0) ?_ hz
  rw [List.mem_iff_getElem?]
  refine ⟨i - 2, ?_⟩
  rw [List.getElem?_take_of_lt (by omega), List.getElem?_drop, show 2 + (i - 2) = i by omega]
  simp [List.getD, hil]

end Go.Proofs.Ytajnihjdhhmefaa
