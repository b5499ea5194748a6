import Derived.Test.YtgjenbgclpmjmaaLDecSuper
namespace Go.Proofs.Ytgjenbgclpmjmaa
open Go.RowKit

theorem supB_take8 (g b s l c : Nat) : (supB g b s l c).take 8 = bigR g 8 := by
  unfold supB
  simp only [List.append_assoc]
  exact List.take_left' (bigR_len 8 g)
theorem supB_drop56 (g b s l c : Nat) : (supB g b s l c).drop 56 = bigR g 8 := by
  unfold supB
  exact List.drop_left' (by simp [bigR_len])
theorem supB_b (g b s l c : Nat) : ((supB g b s l c).drop 8).take 1 = bigR b 1 := by
  unfold supB
  simp only [List.append_assoc]
  rw [List.drop_left' (bigR_len 8 g)]
  exact List.take_left' (bigR_len 1 b)
theorem supB_s (g b s l c : Nat) : ((supB g b s l c).drop 9).take 4 = bigR s 4 := by
  unfold supB
  rw [show bigR g 8 ++ bigR b 1 ++ bigR s 4 ++ bigR l 4 ++ bigR c 4 ++ List.replicate 35 0 ++ bigR g 8 = (bigR g 8 ++ bigR b 1) ++ (bigR s 4 ++ (bigR l 4 ++ bigR c 4 ++ List.replicate 35 0 ++ bigR g 8)) by simp only [List.append_assoc]]
  rw [List.drop_left' (by simp [bigR_len])]
  exact List.take_left' (bigR_len 4 s)
theorem supB_l (g b s l c : Nat) : ((supB g b s l c).drop 13).take 4 = bigR l 4 := by
  unfold supB
  rw [show bigR g 8 ++ bigR b 1 ++ bigR s 4 ++ bigR l 4 ++ bigR c 4 ++ List.replicate 35 0 ++ bigR g 8 = (bigR g 8 ++ bigR b 1 ++ bigR s 4) ++ (bigR l 4 ++ (bigR c 4 ++ List.replicate 35 0 ++ bigR g 8)) by simp only [List.append_assoc]]
  rw [List.drop_left' (by simp [bigR_len])]
  exact List.take_left' (bigR_len 4 l)
theorem supB_c (g b s l c : Nat) : ((supB g b s l c).drop 17).take 4 = bigR c 4 := by
  unfold supB
  rw [show bigR g 8 ++ bigR b 1 ++ bigR s 4 ++ bigR l 4 ++ bigR c 4 ++ List.replicate 35 0 ++ bigR g 8 = (bigR g 8 ++ bigR b 1 ++ bigR s 4 ++ bigR l 4) ++ (bigR c 4 ++ (List.replicate 35 0 ++ bigR g 8)) by simp only [List.append_assoc]]
  rw [List.drop_left' (by simp [bigR_len])]
  exact List.take_left' (bigR_len 4 c)

/-- What was written is read back. -/
theorem dec_sup {g b s l c : Int} (h : supOk g b s l c = true) (hg : g < 9223372036854775808) : decV (sup g b s l c) = .agg #[.bool true, .int .i64 g, .int .i64 b, .int .i64 s, .int .i64 l, .int .i64 c] := by
  have h' := h
  unfold supOk at h'
  simp only [Bool.and_eq_true, Bool.or_eq_true, decide_eq_true_eq] at h'
  obtain ⟨g, b, s, l, c, rfl, rfl, rfl, rfl, rfl⟩ := supOk_nat h
  have e : sup (g : Int) b s l c = supB g b s l c := by unfold sup; rw [if_pos h]; rfl
  have eg : nG (supB g b s l c) = (g : Int) := by unfold nG; rw [supB_take8, numB_bigR 8 g (by omega)]; unfold wrap64; omega
  have eb : nB (supB g b s l c) = (b : Int) := by unfold nB; rw [supB_b, numB_bigR 1 b (by omega)]
  have es : nS (supB g b s l c) = (s : Int) := by unfold nS; rw [supB_s, numB_bigR 4 s (by omega)]
  have el : nL (supB g b s l c) = (l : Int) := by unfold nL; rw [supB_l, numB_bigR 4 l (by omega)]
  have ec : nC (supB g b s l c) = (c : Int) := by unfold nC; rw [supB_c, numB_bigR 4 c (by omega)]
  rw [e]
  unfold decV
  rw [if_pos (show decOk (supB g b s l c) from ⟨supB_len _ _ _ _ _, by rw [eg, eb, es, el, ec, e]⟩), eg, eb, es, el, ec]

theorem sup_ends {g b s l c : Int} {ys : List Int} (h : sup g b s l c = ys) (h0 : ys ≠ []) : ys.length = 64 ∧ ys.take 8 = ys.drop 56 := by
  refine ⟨sup_len64 h h0, ?_⟩
  subst h
  unfold sup at h0 ⊢
  split
  · rw [supB_take8, supB_drop56]
  · rename_i hn; rw [if_neg hn] at h0; exact absurd rfl h0

theorem mix_getElem? (A B : List Int) (hB : B.length = 64) (cut i : Nat) (hc : cut ≤ 64) : (B.take cut ++ A.drop cut)[i]? = if i < cut then B[i]? else A[i]? := by
  by_cases h : i < cut
  · rw [if_pos h, List.getElem?_append_left (by rw [List.length_take]; omega), List.getElem?_take_of_lt h]
  · rw [if_neg h, List.getElem?_append_right (by rw [List.length_take]; omega), List.getElem?_drop]
    congr 1
    rw [List.length_take]
    omega

/-- A torn block whose ends agree is one of the two. -/
theorem torn_ends {A B ys : List Int} {cut : Nat} (hA : A.length = 64) (hB : B.length = 64) (hAe : A.take 8 = A.drop 56) (hBe : B.take 8 = B.drop 56) (hne : A.take 8 ≠ B.take 8) (hc : cut ≤ 64) (hy : ys = B.take cut ++ A.drop cut) (hye : ys.take 8 = ys.drop 56) : ys = A ∨ ys = B := by
  have hyi : ∀ i, ys[i]? = if i < cut then B[i]? else A[i]? := fun i => by rw [hy]; exact mix_getElem? A B hB cut i hc
  have ends : ∀ {zs : List Int}, zs.take 8 = zs.drop 56 → ∀ i, i < 8 → zs[i]? = zs[56 + i]? := fun {zs} h i hi => by
    have := congrArg (fun l => l[i]?) h
    simp only [List.getElem?_take_of_lt hi, List.getElem?_drop] at this
    exact this
  have hyE := ends hye
  have hAE := ends hAe
  have hBE := ends hBe
  by_cases h56 : cut ≤ 56
  · by_cases h8 : 8 ≤ cut
    · exfalso
      apply hne
      apply List.ext_getElem?
      intro i
      by_cases hi : i < 8
      · rw [List.getElem?_take_of_lt hi, List.getElem?_take_of_lt hi]
        have h1 := hyE i hi
        rw [hyi i, hyi (56 + i), if_pos (by omega), if_neg (by omega)] at h1
        rw [hAE i hi, h1]
      · rw [List.getElem?_eq_none (by rw [List.length_take]; omega), List.getElem?_eq_none (by rw [List.length_take]; omega)]
    · left
      apply List.ext_getElem?
      intro i
      rw [hyi i]
      by_cases hi : i < cut
      · rw [if_pos hi]
        have h1 := hyE i (by omega)
        rw [hyi i, hyi (56 + i), if_pos hi, if_neg (by omega)] at h1
        rw [h1, hAE i (by omega)]
      · rw [if_neg hi]
  · right
    apply List.ext_getElem?
    intro i
    rw [hyi i]
    by_cases hi : i < cut
    · rw [if_pos hi]
    · rw [if_neg hi]
      by_cases h64 : i < 64
      · obtain ⟨j, rfl⟩ : ∃ j, i = 56 + j := ⟨i - 56, by omega⟩
        have h1 := hyE j (by omega)
        rw [hyi j, hyi (56 + j), if_pos (by omega), if_neg hi] at h1
        rw [← h1, hBE j (by omega)]
      · rw [List.getElem?_eq_none (by omega), List.getElem?_eq_none (by omega)]

theorem gen_ne {g b s l c g' b' s' l' c' : Int} (h : supOk g b s l c = true) (h' : supOk g' b' s' l' c' = true) (hg : g < 9223372036854775808) (hg' : g' < 9223372036854775808) (hne : g ≠ g') : (sup g b s l c).take 8 ≠ (sup g' b' s' l' c').take 8 := by
  have k := h
  have k' := h'
  unfold supOk at k k'
  simp only [Bool.and_eq_true, Bool.or_eq_true, decide_eq_true_eq] at k k'
  obtain ⟨g, b, s, l, c, rfl, rfl, rfl, rfl, rfl⟩ := supOk_nat h
  obtain ⟨g', b', s', l', c', rfl, rfl, rfl, rfl, rfl⟩ := supOk_nat h'
  have e : sup (g : Int) b s l c = supB g b s l c := by unfold sup; rw [if_pos h]; rfl
  have e' : sup (g' : Int) b' s' l' c' = supB g' b' s' l' c' := by unfold sup; rw [if_pos h']; rfl
  rw [e, e', supB_take8, supB_take8]
  intro he
  have h1 := congrArg numB he
  rw [numB_bigR 8 g (by omega), numB_bigR 8 g' (by omega)] at h1
  omega

end Go.Proofs.Ytgjenbgclpmjmaa
