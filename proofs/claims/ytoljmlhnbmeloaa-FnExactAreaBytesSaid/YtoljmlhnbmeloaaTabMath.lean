import Derived.Test.YtoljmlhnbmeloaaSettle
import Derived.Great.BuildSlice
import Derived.Maps.OwnSet
namespace Go.Proofs.Ytoljmlhnbmeloaa
open Go.RowKit

/-- The cells of a table's rows. -/
def rowT (rs : List (Int × List Int)) : List Value := rs.flatMap fun r => .int .i64 r.1 :: r.2.map (Value.int .u8)
theorem rowT_nil : rowT [] = [] := rfl
theorem rowT_app (a b : List (Int × List Int)) : rowT (a ++ b) = rowT a ++ rowT b := by simp [rowT]
theorem rowT_one (x : Int) (V : List Int) : rowT [(x, V)] = .int .i64 x :: V.map (Value.int .u8) := by simp [rowT]

theorem rowT_len : ∀ (rs : List (Int × List Int)), (∀ i, i < rs.length → (pD rs i).length = 64) → (rowT rs).length = rs.length * 65
  | [], _ => rfl
  | r :: rs, h => by
    have h0 : r.2.length = 64 := h 0 (by simp)
    have ih := rowT_len rs (fun i hi => h (i + 1) (by simp; omega))
    have e : rowT (r :: rs) = rowT [(r.1, r.2)] ++ rowT rs := by simp [rowT]
    rw [e, List.length_append, ih, rowT_one]
    simp [h0]; omega

theorem pB_take (rs : List (Int × List Int)) (i k : Nat) (h : i < k) : pB (rs.take k) i = pB rs i := by unfold pB; simp [List.getD, List.getElem?_take_of_lt h]
theorem pD_take (rs : List (Int × List Int)) (i k : Nat) (h : i < k) : pD (rs.take k) i = pD rs i := by unfold pD; simp [List.getD, List.getElem?_take_of_lt h]

theorem rs_split (rs : List (Int × List Int)) (i : Nat) (hi : i < rs.length) : rs = rs.take i ++ ((pB rs i, pD rs i) :: rs.drop (i + 1)) := by
  have e : (pB rs i, pD rs i) = rs[i] := by unfold pB pD; simp [List.getD, hi]
  rw [e]
  conv => lhs; rw [← List.take_append_drop i rs]
  rw [List.drop_eq_getElem_cons hi]

theorem rowT_split (rs : List (Int × List Int)) (i : Nat) (hi : i < rs.length) : rowT rs = rowT (rs.take i) ++ (.int .i64 (pB rs i) :: ((pD rs i).map (Value.int .u8) ++ rowT (rs.drop (i + 1)))) := by
  conv => lhs; rw [rs_split rs i hi]
  rw [rowT_app]
  congr 1

theorem rowT_pre (rs : List (Int × List Int)) (i : Nat) (hi : i ≤ rs.length) (h : ∀ i, i < rs.length → (pD rs i).length = 64) : (rowT (rs.take i)).length = i * 65 := by
  rw [rowT_len _ (fun j hj => by rw [List.length_take] at hj; rw [pD_take _ _ _ (by omega)]; exact h j (by omega)), List.length_take, Nat.min_eq_left hi]

/-- The key of a row, and its value. -/
theorem rowT_key (rs : List (Int × List Int)) (i : Nat) (hi : i < rs.length) (h : ∀ i, i < rs.length → (pD rs i).length = 64) : (rowT rs)[i * 65]? = some (.int .i64 (pB rs i)) := by
  rw [rowT_split rs i hi, List.getElem?_append_right (by rw [rowT_pre rs i (by omega) h]; exact Nat.le_refl _), rowT_pre rs i (by omega) h]
  simp

theorem rowT_val (rs : List (Int × List Int)) (i : Nat) (hi : i < rs.length) (h : ∀ i, i < rs.length → (pD rs i).length = 64) (j : Nat) (u : Value) (hu : ((pD rs i).map (Value.int .u8))[j]? = some u) : (rowT rs)[i * 65 + 1 + j]? = some u := by
  have hj : j < (pD rs i).length := by have := (List.getElem?_eq_some_iff.1 hu).1; simpa using this
  rw [rowT_split rs i hi, List.getElem?_append_right (by rw [rowT_pre rs i (by omega) h]; omega), rowT_pre rs i (by omega) h, show i * 65 + 1 + j - i * 65 = j + 1 by omega, List.getElem?_cons_succ, List.getElem?_append_left (by simpa using hj)]
  exact hu

theorem set_split (rs : List (Int × List Int)) (i : Nat) (hi : i < rs.length) (r : Int × List Int) : rs.set i r = rs.take i ++ (r :: rs.drop (i + 1)) := by
  rw [List.set_eq_take_append_cons_drop, if_pos hi]

theorem rowT_set (rs : List (Int × List Int)) (i : Nat) (hi : i < rs.length) (h : ∀ i, i < rs.length → (pD rs i).length = 64) (V : List Int) (hV : V.length = 64) :
    rowT (rs.set i (pB rs i, V)) = splice (rowT rs) (i * 65 + 1) (V.map (Value.int .u8)) := by
  have hp := rowT_pre rs i (by omega) h
  have hd := h i hi
  rw [set_split rs i hi, rowT_app]
  have e1 : rowT ((pB rs i, V) :: rs.drop (i + 1)) = .int .i64 (pB rs i) :: (V.map (Value.int .u8) ++ rowT (rs.drop (i + 1))) := by simp [rowT]
  rw [e1, rowT_split rs i hi]
  generalize rowT (rs.take i) = A at *
  generalize rowT (rs.drop (i + 1)) = B at *
  have hO : ((pD rs i).map (Value.int .u8)).length = 64 := by simpa using hd
  have hV' : (V.map (Value.int .u8)).length = 64 := by simpa using hV
  generalize (pD rs i).map (Value.int .u8) = O at *
  generalize V.map (Value.int .u8) = V' at *
  generalize Value.int .i64 (pB rs i) = x at *
  unfold splice
  have t1 : (A ++ x :: (O ++ B)).take (i * 65 + 1) = A ++ [x] := by
    rw [List.take_append, List.take_of_length_le (by omega), show i * 65 + 1 - A.length = 1 by omega]; rfl
  have t2 : (A ++ x :: (O ++ B)).drop (i * 65 + 1 + V'.length) = B := by
    rw [List.drop_append, List.drop_eq_nil_of_le (by omega), show i * 65 + 1 + V'.length - A.length = 64 + 1 by omega, List.drop_succ_cons, List.drop_append, List.drop_eq_nil_of_le (by omega), show 64 - O.length = 0 by omega]
    simp
  rw [t1, t2]
  simp

theorem pB_set (rs : List (Int × List Int)) (i j : Nat) (hi : i < rs.length) (V : List Int) : pB (rs.set i (pB rs i, V)) j = pB rs j := by
  unfold pB
  simp only [List.getD, List.getElem?_set]
  by_cases e : i = j
  · subst e; simp [hi]
  · simp [e]
theorem pD_set (rs : List (Int × List Int)) (i j : Nat) (hi : i < rs.length) (V : List Int) : pD (rs.set i (pB rs i, V)) j = if j = i then V else pD rs j := by
  unfold pD
  simp only [List.getD, List.getElem?_set]
  by_cases e : i = j
  · subst e; simp [hi]
  · rw [if_neg e, if_neg (fun h => e h.symm)]

/-- One put. -/
def Put (rs : List (Int × List Int)) (x : Int) (V : List Int) (rs' : List (Int × List Int)) : Prop :=
  (∃ i, i < rs.length ∧ pB rs i = x ∧ rs' = rs.set i (pB rs i, V)) ∨ ((∀ i, i < rs.length → pB rs i ≠ x) ∧ rs' = rs ++ [(x, V)])

/-- The table after the first k pending writes. -/
def TabOf (dur : List Int) (ps : List (Int × List Int)) (k : Nat) (rs : List (Int × List Int)) : Prop :=
  (∀ b : Nat, (∀ i, i < rs.length → pB rs i = b → rdv dur ps b k = pD rs i) ∧ ((∀ i, i < rs.length → pB rs i ≠ b) → rdv dur ps b k = rdv dur ps b 0)) ∧
  (∀ i, i < rs.length → ∃ b : Nat, pB rs i = b ∧ b * 64 + 64 ≤ dur.length ∧ b ≤ 300)

theorem tabOf_nil (dur : List Int) (ps : List (Int × List Int)) : TabOf dur ps 0 [] := ⟨fun b => ⟨fun i hi => by simp at hi, fun _ => rfl⟩, fun i hi => by simp at hi⟩

theorem rdv_at (dur : List Int) (ps : List (Int × List Int)) (b k : Nat) (h : pB ps k = b) : rdv dur ps b (k + 1) = pD ps k := by unfold rdv; rw [if_pos h]
theorem rdv_off (dur : List Int) (ps : List (Int × List Int)) (b k : Nat) (h : ¬ pB ps k = b) : rdv dur ps b (k + 1) = rdv dur ps b k := by rw [rdv, if_neg h]

theorem tabOf_put (dur : List Int) (ps rs rs' : List (Int × List Int)) (k : Nat) (ht : TabOf dur ps k rs) (hk : ∃ b : Nat, pB ps k = b ∧ b * 64 + 64 ≤ dur.length ∧ b ≤ 300)
    (hap : ∀ i j, i < rs.length → j < rs.length → pB rs i = pB rs j → i = j) (h : Put rs (pB ps k) (pD ps k) rs') : TabOf dur ps (k + 1) rs' := by
  obtain ⟨h1, h2⟩ := ht
  rcases h with ⟨i, hi, hx, rfl⟩ | ⟨hno, rfl⟩
  · have hl : (rs.set i (pB rs i, pD ps k)).length = rs.length := List.length_set ..
    refine ⟨fun b => ⟨fun j hj hb => ?_, fun hb => ?_⟩, fun j hj => ?_⟩
    · rw [hl] at hj
      rw [pB_set rs i j hi] at hb
      rw [pD_set rs i j hi]
      by_cases e : j = i
      · subst e; rw [if_pos rfl]; exact rdv_at dur ps b k (by rw [← hx]; exact hb)
      · rw [if_neg e, rdv_off dur ps b k (fun e' => e (hap j i hj hi (by rw [hb, hx, e'])))]
        exact (h1 b).1 j hj hb
    · have hb' : ∀ j, j < rs.length → pB rs j ≠ b := fun j hj => by have := hb j (by rw [hl]; exact hj); rw [pB_set rs i j hi] at this; exact this
      rw [rdv_off dur ps b k (fun e => hb' i hi (by rw [hx, e]))]
      exact (h1 b).2 hb'
    · rw [hl] at hj
      rw [pB_set rs i j hi]
      exact h2 j hj
  · have hl : (rs ++ [(pB ps k, pD ps k)]).length = rs.length + 1 := by simp
    refine ⟨fun b => ⟨fun j hj hb => ?_, fun hb => ?_⟩, fun j hj => ?_⟩
    · rw [hl] at hj
      by_cases e : j = rs.length
      · subst e
        rw [pB_last] at hb
        rw [pD_last]; exact rdv_at dur ps b k hb
      · rw [pB_app _ _ _ (by omega)] at hb
        rw [pD_app _ _ _ (by omega), rdv_off dur ps b k (fun e' => hno j (by omega) (by rw [hb, e']))]
        exact (h1 b).1 j (by omega) hb
    · have hn := hb rs.length (by rw [hl]; omega)
      rw [pB_last] at hn
      rw [rdv_off dur ps b k hn]
      exact (h1 b).2 (fun j hj => by have := hb j (by rw [hl]; omega); rw [pB_app _ _ _ hj] at this; exact this)
    · rw [hl] at hj
      by_cases e : j = rs.length
      · subst e; rw [pB_last]; exact hk
      · rw [pB_app _ _ _ (by omega)]; exact h2 j (by omega)

/-- What a table's map says. -/
def MF (D : DataW Unit) (rs : List (Int × List Int)) : Prop :=
  (∀ x : Int, Maps.has D (.int .i64 x) = true ↔ ∃ i, i < rs.length ∧ pB rs i = x) ∧ ∀ i, i < rs.length → ∀ z, D.atKey (.int .i64 (pB rs i)) z = .lit (.int .i64 i)

theorem MF.set {D : DataW Unit} {rs : List (Int × List Int)} (h : MF D rs) (i : Nat) (hi : i < rs.length) (V : List Int) : MF D (rs.set i (pB rs i, V)) := by
  have hl : (rs.set i (pB rs i, V)).length = rs.length := List.length_set ..
  refine ⟨fun x => ?_, fun j hj z => ?_⟩
  · rw [h.1 x, hl]
    constructor
    · rintro ⟨j, hj, e⟩; exact ⟨j, hj, by rw [pB_set rs i j hi]; exact e⟩
    · rintro ⟨j, hj, e⟩; rw [pB_set rs i j hi] at e; exact ⟨j, hj, e⟩
  · rw [hl] at hj; rw [pB_set rs i j hi]; exact h.2 j hj z

theorem MF.snoc {D : DataW Unit} {rs : List (Int × List Int)} (h : MF D rs) (hD : Maps.IsMap D) (x : Int) (V : List Int) (hno : ∀ i, i < rs.length → pB rs i ≠ x) : MF (D.put (.int .i64 x) (.lit (.int .i64 (rs.length : Int)))) (rs ++ [(x, V)]) := by
  have hl : (rs ++ [(x, V)]).length = rs.length + 1 := by simp
  refine ⟨fun y => ?_, fun j hj z => ?_⟩
  · by_cases e : y = x
    · subst e
      rw [Maps.has_put_same (k := .int .i64 y) hD trivial]
      exact ⟨fun _ => ⟨rs.length, by rw [hl]; omega, pB_last _ _⟩, fun _ => rfl⟩
    · rw [Maps.has_put_other (by intro h; injection h; contradiction), h.1 y, hl]
      constructor
      · rintro ⟨j, hj, e'⟩; exact ⟨j, by omega, by rw [pB_app _ _ _ hj]; exact e'⟩
      · rintro ⟨j, hj, e'⟩
        by_cases ej : j = rs.length
        · subst ej; rw [pB_last] at e'; exact absurd e'.symm e
        · rw [pB_app _ _ _ (by omega)] at e'; exact ⟨j, by omega, e'⟩
  · rw [hl] at hj
    by_cases ej : j = rs.length
    · subst ej; rw [pB_last]; exact Maps.atKey_put_same (k := .int .i64 x) hD trivial _ _
    · rw [pB_app _ _ _ (by omega), Maps.atKey_put_other (by intro h'; injection h' with _ h'; exact hno j (by omega) h')]
      exact h.2 j (by omega) z

end Go.Proofs.Ytoljmlhnbmeloaa
