import Derived.Test.YtgjenbgclpmjmaaDoorEMath
namespace Go.Proofs.YtgjenbgclpmjmaaDoor
open Go.RowKit

theorem splA_join : ∀ (l cur : List UInt8), 47 :: (cur ++ l) = (splA cur l).flatMap (fun a => 47 :: a)
  | [], cur => by simp [splA]
  | x :: l, cur => by
    by_cases h : x = 47
    · subst h
      rw [splA_sl, List.flatMap_cons, ← splA_join l []]
      simp
    · rw [splA_ch h, ← splA_join l (cur ++ [x])]
      simp
theorem splA_no : ∀ (l cur : List UInt8), (47 : UInt8) ∉ cur → ∀ a ∈ splA cur l, (47 : UInt8) ∉ a
  | [], cur, h, a, ha => by simp [splA] at ha; subst ha; exact h
  | x :: l, cur, h, a, ha => by
    by_cases hx : x = 47
    · subst hx
      rw [splA_sl] at ha
      rcases List.mem_cons.1 ha with rfl | ha
      · exact h
      · exact splA_no l [] (by simp) a ha
    · rw [splA_ch hx] at ha
      refine splA_no l (cur ++ [x]) ?_ a ha
      intro hm
      rcases List.mem_append.1 hm with hm | hm
      · exact h hm
      · simp at hm; exact hx hm.symm
/-- What is ahead of the last slash, and what is behind it. -/
def headL (s : ByteArray) : List UInt8 := (nm s).dropLast.flatMap (fun a => 47 :: a)
def lastL (s : ByteArray) : List UInt8 := (nm s).getLastD []
theorem nm_ne (s : ByteArray) : nm s ≠ [] := fun h => by have := splA_pos (s.data.toList.drop 1) []; unfold nm at h; rw [h] at this; simp at this
theorem nm_split (s : ByteArray) : nm s = (nm s).dropLast ++ [lastL s] := by
  unfold lastL
  have h := nm_ne s
  rw [List.getLastD_eq_getLast?, List.getLast?_eq_some_getLast h, Option.getD_some]
  exact (List.dropLast_concat_getLast h).symm
theorem path_split {s : ByteArray} (h1 : 1 ≤ s.size) (h0 : bN s 0 = 47) : s.data.toList = headL s ++ 47 :: lastL s := by
  have hl : 0 < s.data.toList.length := by rw [Array.length_toList]; exact h1
  have hc : s.data.toList = 47 :: s.data.toList.drop 1 := by
    conv => lhs; rw [← List.drop_zero (l := s.data.toList), List.drop_eq_getElem_cons hl]
    congr 1
    unfold bN at h0
    simp only [List.getD, List.getElem?_eq_getElem hl, Option.getD_some] at h0
    exact UInt8.toNat.inj (by simpa using h0)
  have hj := splA_join (s.data.toList.drop 1) []
  rw [List.nil_append, ← hc] at hj
  have hj2 : s.data.toList = (nm s).flatMap (fun a => 47 :: a) := hj
  rw [hj2]
  conv => lhs; rw [nm_split s]
  rw [List.flatMap_append]
  simp [headL]
theorem last_no (s : ByteArray) : (47 : UInt8) ∉ lastL s := by
  refine splA_no (s.data.toList.drop 1) [] (by simp) _ ?_
  show lastL s ∈ nm s
  rw [nm_split s]
  simp
/-- The path above. -/
def parL (s : ByteArray) : List UInt8 := if headL s = [] then [47] else headL s
theorem okPath_head {s : ByteArray} (h : okPath s = true) : 1 ≤ s.size ∧ bN s 0 = 47 := by
  unfold okPath at h
  simp only [Bool.or_eq_true, Bool.and_eq_true, decide_eq_true_eq] at h
  rcases h with h | ⟨⟨⟨h1, h2⟩, -⟩, -⟩
  · have hs : s.data.toList.length = s.size := by rw [Array.length_toList]; rfl
    rw [h] at hs
    refine ⟨by simp at hs; omega, ?_⟩
    unfold bN; rw [h]; rfl
  · exact ⟨by omega, h2⟩

end Go.Proofs.YtgjenbgclpmjmaaDoor
