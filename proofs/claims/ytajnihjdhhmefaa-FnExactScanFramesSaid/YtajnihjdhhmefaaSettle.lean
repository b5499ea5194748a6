import Derived.Test.YtajnihjdhhmefaaBlockAt
import Derived.Laws.CopyOwn
namespace Go.Proofs.Ytajnihjdhhmefaa
open Go.RowKit

theorem splice_get {α : Type} (L : List α) (off : Nat) (cs : List α) (h : off + cs.length ≤ L.length) (j : Nat) :
    (splice L off cs)[j]? = if j < off then L[j]? else if j < off + cs.length then cs[j - off]? else L[j]? := by
  unfold splice
  have hl : (L.take off).length = off := by rw [List.length_take]; omega
  by_cases h1 : j < off
  · rw [if_pos h1, List.getElem?_append_left (by omega), List.getElem?_take_of_lt h1]
  · rw [if_neg h1, List.getElem?_append_right (by omega), hl]
    by_cases h2 : j < off + cs.length
    · rw [if_pos h2, List.getElem?_append_left (by omega)]
    · rw [if_neg h2, List.getElem?_append_right (by omega), List.getElem?_drop]
      congr 1
      omega

theorem splice_map {α β : Type} (f : α → β) (L : List α) (off : Nat) (cs : List α) : (splice L off cs).map f = splice (L.map f) off (cs.map f) := by
  simp [splice, List.map_take, List.map_drop]

theorem splice_nil {α : Type} (L : List α) (off : Nat) : splice L off [] = L := by simp [splice]

theorem splice_snoc (L : List Int) (off : Nat) (ys : List Int) (j : Nat) (hj : j < ys.length) (h : off + ys.length ≤ L.length) :
    (splice L off (ys.take j)).set (off + j) (ys.getD j 0) = splice L off (ys.take (j + 1)) := by
  have hl1 : (ys.take j).length = j := by rw [List.length_take]; omega
  have hl2 : (ys.take (j + 1)).length = j + 1 := by rw [List.length_take]; omega
  apply List.ext_getElem?
  intro i
  rw [splice_get _ _ _ (by omega), List.getElem?_set, length_splice _ _ _ (by omega), splice_get _ _ _ (by omega), hl1, hl2]
  by_cases e : off + j = i
  · subst e
    rw [if_pos rfl, if_pos (by omega), if_neg (by omega), if_pos (by omega), show off + j - off = j by omega, List.getElem?_take_of_lt (by omega)]
    simp [List.getD, hj]
  · rw [if_neg e]
    by_cases h1 : i < off
    · rw [if_pos h1, if_pos h1]
    · rw [if_neg h1, if_neg h1]
      by_cases h2 : i < off + j
      · rw [if_pos h2, if_pos (by omega), List.getElem?_take_of_lt (by omega), List.getElem?_take_of_lt (by omega)]
      · rw [if_neg h2, if_neg (by omega)]

/-- A block that is read, torn and laid back. -/
theorem splice_torn (D W : List Int) (o c : Nat) (hW : W.length = 64) (hc : c ≤ 64) (ho : o + 64 ≤ D.length) :
    splice D o (splice ((D.drop o).take 64) 0 (W.take c)) = splice D o (W.take c) := by
  have hd : ((D.drop o).take 64).length = 64 := by rw [List.length_take, List.length_drop]; omega
  have hw : (W.take c).length = c := by rw [List.length_take]; omega
  have hs : (splice ((D.drop o).take 64) 0 (W.take c)).length = 64 := by rw [length_splice _ _ _ (by omega), hd]
  apply List.ext_getElem?
  intro i
  rw [splice_get _ _ _ (by omega), splice_get _ _ _ (by omega), splice_get _ _ _ (by omega), hs, hw]
  by_cases h1 : i < o
  · rw [if_pos h1, if_pos h1]
  · rw [if_neg h1, if_neg h1]
    by_cases h2 : i < o + 64
    · rw [if_pos h2, if_neg (by omega)]
      by_cases h3 : i < o + c
      · rw [if_pos h3, if_pos (by omega)]; rfl
      · rw [if_neg h3, if_neg (by omega), List.getElem?_take_of_lt (by omega), List.getElem?_drop]
        congr 1; omega
    · rw [if_neg h2, if_neg (by omega)]

/-- The durable bytes when the first k pending writes have come, each with so many of its first bytes. -/
def stl (dur : List Int) (ps : List (Int × List Int)) (c : Nat → Nat) : Nat → List Int
  | 0 => dur
  | k + 1 => splice (stl dur ps c k) ((pB ps k).toNat * 64) ((pD ps k).take (c k))

theorem vld_at {dl : Nat} {ps : List (Int × List Int)} (h : vldD dl ps = true) (k : Nat) (hk : k < ps.length) : ∃ b : Nat, pB ps k = b ∧ b * 64 + 64 ≤ dl ∧ b ≤ 300 ∧ (pD ps k).length = 64 := by
  obtain ⟨h1, h2, h3, h4, h5⟩ := (vldD_iff dl ps).1 h
  obtain ⟨k1, k2, k3⟩ := h5 k hk
  exact ⟨(pB ps k).toNat, by omega, by omega, by omega, k3⟩

theorem stl_len (dur : List Int) (ps : List (Int × List Int)) (c : Nat → Nat) (h : vldD dur.length ps = true) : ∀ k, k ≤ ps.length → (stl dur ps c k).length = dur.length
  | 0, _ => rfl
  | k + 1, hk => by
    have ih := stl_len dur ps c h k (by omega)
    obtain ⟨b, hb, hb2, _, hd⟩ := vld_at h k (by omega)
    rw [stl, length_splice, ih]
    rw [hb, Int.toNat_natCast, List.length_take, ih, hd]
    omega

theorem stl_congr (dur : List Int) (ps : List (Int × List Int)) (c c' : Nat → Nat) : ∀ k, (∀ i, i < k → c i = c' i) → stl dur ps c k = stl dur ps c' k
  | 0, _ => rfl
  | k + 1, h => by rw [stl, stl, stl_congr dur ps c c' k (fun i hi => h i (by omega)), h k (by omega)]

/-- How many of its bytes write i keeps. -/
def chc (cs : List Int) (i : Nat) : Nat := if i < cs.length then (if 0 ≤ cs.getD i 0 ∧ cs.getD i 0 < 64 then (cs.getD i 0).toNat else 64) else 0
theorem chc_le (cs : List Int) (i : Nat) : chc cs i ≤ 64 := by
  unfold chc; split
  · split
    · omega
    · omega
  · omega

def crOk (dl : Nat) (ps : List (Int × List Int)) (m : Nat) : Bool := vldD dl ps && decide (m ≤ 2000)
def crD (dur : List Int) (ps : List (Int × List Int)) (cs : List Int) : List Int := if crOk dur.length ps cs.length then stl dur ps (chc cs) ps.length else []
def syD (dur : List Int) (ps : List (Int × List Int)) : List Int := if vldD dur.length ps then stl dur ps (fun _ => 64) ps.length else []

theorem crD_len (dur : List Int) (ps : List (Int × List Int)) (cs : List Int) : (crD dur ps cs).length ≤ dur.length := by
  unfold crD; split
  · rename_i h
    rw [stl_len dur ps _ (by unfold crOk at h; simp only [Bool.and_eq_true] at h; exact h.1) _ (Nat.le_refl _)]; exact Nat.le_refl _
  · simp
theorem syD_len (dur : List Int) (ps : List (Int × List Int)) : (syD dur ps).length ≤ dur.length := by
  unfold syD; split
  · rename_i h
    rw [stl_len dur ps _ h _ (Nat.le_refl _)]; exact Nat.le_refl _
  · simp

end Go.Proofs.Ytajnihjdhhmefaa
