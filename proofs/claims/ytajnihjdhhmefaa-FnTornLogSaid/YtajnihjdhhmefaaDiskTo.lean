import Derived.Test.YtajnihjdhhmefaaDisk
namespace Go.Proofs.Ytajnihjdhhmefaa
open Go.RowKit

/-! ### rows of records -/
def rowW (n : Nat) (f : Nat → Int) (g : Nat → Value) : List Value := (List.range n).flatMap fun i => [.int .i64 (f i), g i]

theorem rowW_succ (n : Nat) (f : Nat → Int) (g : Nat → Value) : rowW (n + 1) f g = rowW n f g ++ [.int .i64 (f n), g n] := by
  unfold rowW; rw [List.range_succ, List.flatMap_append]; simp
theorem rowW_length (n : Nat) (f : Nat → Int) (g : Nat → Value) : (rowW n f g).length = n * 2 := by
  induction n with
  | zero => rfl
  | succ n ih => rw [rowW_succ, List.length_append, ih]; simp; omega
theorem rowW_get (n : Nat) (f : Nat → Int) (g : Nat → Value) (j : Nat) (h : j < n * 2) : (rowW n f g)[j]? = some (if j % 2 = 0 then .int .i64 (f (j / 2)) else g (j / 2)) := by
  induction n with
  | zero => omega
  | succ n ih =>
    rw [rowW_succ]
    by_cases hj : j < n * 2
    · rw [List.getElem?_append_left (by rw [rowW_length]; exact hj), ih hj]
    · rw [List.getElem?_append_right (by rw [rowW_length]; omega), rowW_length]
      by_cases e : j = n * 2
      · subst e
        simp [show n * 2 % 2 = 0 by omega]
      · have e2 : j = n * 2 + 1 := by omega
        subst e2
        rw [if_neg (by omega), show n * 2 + 1 - n * 2 = 1 by omega, show (n * 2 + 1) / 2 = n by omega]
        rfl
theorem rowW_congr {n : Nat} {f f' : Nat → Int} {g g' : Nat → Value} (hf : ∀ i, i < n → f i = f' i) (hg : ∀ i, i < n → g i = g' i) : rowW n f g = rowW n f' g' := by
  unfold rowW
  rw [List.flatMap_def, List.flatMap_def]
  congr 1
  apply List.map_congr_left
  intro i hi
  have hi := List.mem_range.1 hi
  rw [hf i hi, hg i hi]
/-- Record k written. -/
theorem rowW_set {n : Nat} {f f' : Nat → Int} {g g' : Nat → Value} {k : Nat} (hk : k < n) (hf : ∀ i, i ≠ k → f i = f' i) (hg : ∀ i, i ≠ k → g i = g' i) :
    ((rowW n f g).set (k * 2) (.int .i64 (f' k))).set (k * 2 + 1) (g' k) = rowW n f' g' := by
  apply List.ext_getElem?
  intro j
  by_cases hj : j < n * 2
  · rw [List.getElem?_set, List.getElem?_set, rowW_get n f' g' j hj, rowW_get n f g j hj]
    simp only [List.length_set, rowW_length]
    by_cases e1 : k * 2 + 1 = j
    · rw [if_pos e1, if_pos (by omega), if_neg (by omega), show j / 2 = k by omega]
    · rw [if_neg e1]
      by_cases e2 : k * 2 = j
      · rw [if_pos e2, if_pos (by omega), if_pos (by omega), show j / 2 = k by omega]
      · rw [if_neg e2, hf _ (by omega), hg _ (by omega)]
  · rw [List.getElem?_eq_none (by simp [rowW_length]; omega), List.getElem?_eq_none (by rw [rowW_length]; omega)]

theorem rowW_zero (n : Nat) : (madeCells #[Value.int .i64 0, Value.slice none 0 0] (n * 2)).toList = rowW n (fun _ => 0) (fun _ => .slice none 0 0) := by
  apply List.ext_getElem?
  intro j
  by_cases hj : j < n * 2
  · rw [rowW_get _ _ _ _ hj]
    rcases Nat.mod_two_eq_zero_or_one j with e | e
    · simp [madeCells, hj, e]
    · simp [madeCells, hj, e]
  · simp [madeCells, hj, List.getElem?_eq_none (show (rowW n (fun _ => 0) (fun _ => Value.slice none 0 0)).length ≤ j by rw [rowW_length]; omega)]

def Ne2 (a b : Value) : Prop := a.ownBlock = none ∨ a.ownBlock ≠ b.ownBlock

theorem Own.slice {k : IntKind} {e : TypeId} {w : World} {lo : Nat} {v : Value} {xs : List Int} (h : Own k e w lo v xs) : ∃ a c, v = .slice a xs.length c := by
  obtain ⟨a, c, h0, _⟩ := h.rd.len
  exact ⟨a, c, h0⟩
theorem Own.setAt {k : IntKind} {e : TypeId} {w : World} {lo g j : Nat} {v u : Value} {xs : List Int} (h : Own k e w lo v xs) (hne : v.ownBlock = none ∨ v.ownBlock ≠ some g) : Own k e (w.setCell ⟨g, j, none⟩ u) lo v xs :=
  h.other (grownBy_set w w g j u (World.grownBy.refl _ _)) hne

/-- Bytes in a row of the call's own, whatever type the row is of. -/
def OwnB (w : World) (lo : Nat) (v : Value) (xs : List Int) : Prop := ∃ te, Own .u8 te w lo v xs
theorem Own.b {te : TypeId} {w : World} {lo : Nat} {v : Value} {xs : List Int} (h : Own .u8 te w lo v xs) : OwnB w lo v xs := ⟨te, h⟩
theorem OwnB.rd {w : World} {lo : Nat} {v : Value} {xs : List Int} (h : OwnB w lo v xs) : Rd .u8 w v xs := h.elim fun _ h => h.rd
theorem OwnB.below {w w' : World} {lo : Nat} {v : Value} {xs : List Int} (h : OwnB w lo v xs) (hb : Below w.heap.size w w') : OwnB w' lo v xs := h.elim fun _ h => ⟨_, h.below hb⟩
theorem OwnB.mono {w : World} {lo lo' : Nat} {v : Value} {xs : List Int} (h : OwnB w lo v xs) (hl : lo' ≤ lo) : OwnB w lo' v xs := h.elim fun _ h => ⟨_, h.mono hl⟩
theorem OwnB.other {w w' : World} {lo : Nat} {v : Value} {xs : List Int} {row : Option Nat} (h : OwnB w lo v xs) (hg : w.grownBy w' row) (hne : v.ownBlock = none ∨ v.ownBlock ≠ row) : OwnB w' lo v xs := h.elim fun _ h => ⟨_, h.other hg hne⟩
theorem OwnB.lt {w : World} {lo : Nat} {v : Value} {xs : List Int} (h : OwnB w lo v xs) : ∀ g, v.ownBlock = some g → lo ≤ g ∧ g < w.heap.size := h.elim fun _ h => h.lt
theorem OwnB.slice {w : World} {lo : Nat} {v : Value} {xs : List Int} (h : OwnB w lo v xs) : ∃ a c, v = .slice a xs.length c := h.elim fun _ h => h.slice
theorem OwnB.setAt {w : World} {lo g j : Nat} {v u : Value} {xs : List Int} (h : OwnB w lo v xs) (hne : v.ownBlock = none ∨ v.ownBlock ≠ some g) : OwnB (w.setCell ⟨g, j, none⟩ u) lo v xs := h.elim fun _ h => ⟨_, h.setAt hne⟩
theorem OwnB.setBelow {w : World} {lo : Nat} {v : Value} {xs : List Int} (h : OwnB w lo v xs) {a : Addr} (ha : a.block < lo) (u : Value) : OwnB (w.setCell a u) lo v xs := h.elim fun _ h => ⟨_, h.setBelow ha u⟩

/-- A slice of records that is the call's own, each list in a row of its own. -/
def OwnW (e : TypeId) (w : World) (lo : Nat) (v : Value) (ps : List (Int × List Int)) (dv : Nat → Value) : Prop :=
  w.ownsRow lo e 2 v ps.length (rowW ps.length (pB ps) dv) ∧ (∀ i, i < ps.length → OwnB w lo (dv i) (pD ps i)) ∧
  (∀ i j, i < ps.length → j < ps.length → i ≠ j → Ne2 (dv i) (dv j)) ∧ ∀ i, i < ps.length → Ne2 (dv i) v

theorem OwnW.rd {e : TypeId} {w : World} {lo : Nat} {v : Value} {ps : List (Int × List Int)} {dv : Nat → Value} (h : OwnW e w lo v ps dv) : RdW w v ps := by
  obtain ⟨ho, hd, _, _⟩ := h
  rcases ho.2 with ⟨rfl, h0⟩ | ⟨g, cap, cur, rfl, hb, hg, hn, hm, hs, ht⟩
  · have : ps = [] := List.eq_nil_of_length_eq_zero h0
    subst this
    exact ⟨none, 0, rfl, Nat.le_refl _, Nat.zero_le _, .inl rfl⟩
  · refine ⟨_, cap, rfl, hn, hm, .inr ⟨g, 0, rfl, (Array.getElem?_eq_some_iff.1 hg).1, fun i hi => ?_⟩⟩
    have c1 := World.ownsRow.cells ho (g := g) rfl (i * 2) _ (rowW_get _ _ _ _ (by omega))
    have c2 := World.ownsRow.cells ho (g := g) rfl (i * 2 + 1) _ (rowW_get _ _ _ _ (by omega))
    rw [Addr.add_lit] at c1 c2
    rw [if_pos (by omega), show i * 2 / 2 = i by omega] at c1
    rw [if_neg (by omega), show (i * 2 + 1) / 2 = i by omega] at c2
    obtain ⟨a, c, e⟩ := (hd i hi).slice
    refine ⟨c1, a, c, ?_, ?_⟩
    · rw [← e, Nat.add_assoc]; exact c2
    · rw [← e]; exact (hd i hi).rd

theorem OwnW.below {e : TypeId} {w w' : World} {lo : Nat} {v : Value} {ps : List (Int × List Int)} {dv : Nat → Value} (h : OwnW e w lo v ps dv) (hb : Below w.heap.size w w') : OwnW e w' lo v ps dv := by
  obtain ⟨ho, hd, h3, h4⟩ := h
  refine ⟨⟨ho.1, ?_⟩, fun i hi => (hd i hi).below hb, h3, h4⟩
  rcases ho.2 with hn | ⟨g, cap, cur, rfl, hbg, hgg, rest⟩
  · exact .inl hn
  · exact .inr ⟨g, cap, cur, rfl, hbg, by rw [hb.block g (Array.getElem?_eq_some_iff.1 hgg).1]; exact hgg, rest⟩

theorem OwnW.mono {e : TypeId} {w : World} {lo lo' : Nat} {v : Value} {ps : List (Int × List Int)} {dv : Nat → Value} (h : OwnW e w lo v ps dv) (hl : lo' ≤ lo) : OwnW e w lo' v ps dv := by
  obtain ⟨ho, hd, h3, h4⟩ := h
  refine ⟨⟨ho.1, ?_⟩, fun i hi => (hd i hi).mono hl, h3, h4⟩
  rcases ho.2 with hn | ⟨g, cap, cur, rfl, hbg, rest⟩
  · exact .inl hn
  · exact .inr ⟨g, cap, cur, rfl, by omega, rest⟩

/-! ### the copies that the laws make -/
set_option maxHeartbeats 400000 in
set_option maxRecDepth 100000 in
theorem toWrite_any (w : World) (x : Int) (vd : Value) (xs : List Int) (h : Rd .u8 w vd xs) (hn : xs.length ≤ 1099511627776) :
    Calls Try.prog 75 #[.agg #[.int .i64 x, vd]] w fun e w' => ∃ v', e = .returned (.agg #[.int .i64 x, v']) ∧ Own .u8 5 w' w.heap.size v' xs ∧ Below w.heap.size w w' := by
  obtain ⟨ao, cap, rfl, k1, k2⟩ := h.len
  have HB : Hid (∀ o1 o2 o3, Below w.heap.size w (((w.alloc o1).alloc o2).alloc o3)) := fun o1 o2 o3 => (((Below.refl _ _).alloc (Nat.le_refl _) _).alloc (by simp) _).alloc (by simp; omega) _
  have HR : Hid (Rd .u8 w (.slice ao xs.length cap) xs) := h
  clear h
  go_enter Try.func75, Try.ntmps75
  go_wp2_with fail
  refine (toByteS_any _ _ xs (HR.out.below (HB.out _ _ _)) hn).mono ?_
  rintro e w1 ⟨v1, rfl, o1, b1⟩
  obtain ⟨a1, c1, rfl⟩ := o1.slice
  have c20 : w1.cell? ⟨w.heap.size + 2, 0, none⟩ = some (.int .i64 x) := (b1.cell (p := ⟨w.heap.size + 2, 0, none⟩) (by simp)).trans (by go_simp)
  have c21 : w1.cell? ⟨w.heap.size + 2, 1, none⟩ = some (.slice none 0 0) := (b1.cell (p := ⟨w.heap.size + 2, 1, none⟩) (by simp)).trans (by go_simp)
  have f21 : w1.frozen? ⟨w.heap.size + 2, 1, none⟩ = false := (b1.frozen (p := ⟨w.heap.size + 2, 1, none⟩) (by simp)).trans (by go_simp)
  have c10 : w1.cell? ⟨w.heap.size + 1, 0, none⟩ = some (.int .i64 0) := (b1.cell (p := ⟨w.heap.size + 1, 0, none⟩) (by simp)).trans (by go_simp)
  have c11 : w1.cell? ⟨w.heap.size + 1, 1, none⟩ = some (.slice none 0 0) := (b1.cell (p := ⟨w.heap.size + 1, 1, none⟩) (by simp)).trans (by go_simp)
  have f10 : w1.frozen? ⟨w.heap.size + 1, 0, none⟩ = false := (b1.frozen (p := ⟨w.heap.size + 1, 0, none⟩) (by simp)).trans (by go_simp)
  have f11 : w1.frozen? ⟨w.heap.size + 1, 1, none⟩ = false := (b1.frozen (p := ⟨w.heap.size + 1, 1, none⟩) (by simp)).trans (by go_simp)
  have O1 : Hid (Own .u8 5 w1 (w.heap.size + 3) (.slice a1 xs.length c1) xs) := by have := o1; simp at this; exact this
  have z1 : w.heap.size + 3 ≤ w1.heap.size := by have := b1.size; simp at this; omega
  have B1 : Hid (Below w.heap.size w w1) := (HB.out _ _ _).trans (b1.mono (by simp; omega))
  clear o1 b1
  go_wp2
  refine bodyPost_ret (v := .agg #[.int .i64 x, .slice a1 xs.length c1]) (by simp [results, Try.results75, go_sem, c10, c11]) rfl ⟨_, rfl, ?_, ?_⟩
  · refine Own.mono ?_ (show w.heap.size ≤ w.heap.size + 3 by omega)
    repeat (first | exact O1.out | refine Own.setBelow ?_ (by simp; try omega) _)
  · repeat (first | exact B1.out | refine Below.setCell ?_ (by simp; try omega) _)

end Go.Proofs.Ytajnihjdhhmefaa
