import Derived.Test.YtajnihjdhhmefaaCopy
namespace Go.Proofs.Ytajnihjdhhmefaa
open Go.RowKit

theorem rowW_snoc (k : Nat) (ps : List (Int × List Int)) (dv : Nat → Value) (v : Value) : rowW (k + 1) (pB ps) (dvSet dv k v) = rowW k (pB ps) dv ++ [.int .i64 (pB ps k), v] := by
  rw [rowW_succ]
  congr 1
  · exact rowW_congr (fun _ _ => rfl) (fun i hi => by unfold dvSet; rw [if_neg (by omega)])
  · unfold dvSet; rw [if_pos rfl]

/-- A local struct of two cells that may be written. -/
def BoxF (w : World) (b : Nat) (x y : Value) : Prop := Box2 w b x y ∧ w.frozen? ⟨b, 0, none⟩ = false ∧ w.frozen? ⟨b, 1, none⟩ = false
theorem BoxF.below {w w' : World} {b : Nat} {x y : Value} (h : BoxF w b x y) (hb : Below w.heap.size w w') : BoxF w' b x y :=
  ⟨h.1.below hb, (hb.frozen (p := ⟨b, 0, none⟩) h.1.1).trans h.2.1, (hb.frozen (p := ⟨b, 1, none⟩) h.1.1).trans h.2.2⟩
theorem BoxF.new (w : World) (x y : Value) (t : TypeId) : BoxF (w.alloc (.cells #[x, y] t)) w.heap.size x y := ⟨Box2.new _ _ _ _, by simp, by simp⟩
theorem BoxF.belowB {w w' : World} {b B : Nat} {x y : Value} (h : BoxF w b x y) (hb : Below B w w') (hB : b < B) : BoxF w' b x y :=
  ⟨⟨Nat.lt_of_lt_of_le h.1.1 hb.size, (hb.cell (p := ⟨b, 0, none⟩) hB).trans h.1.2.1, (hb.cell (p := ⟨b, 1, none⟩) hB).trans h.1.2.2⟩, (hb.frozen (p := ⟨b, 0, none⟩) hB).trans h.2.1, (hb.frozen (p := ⟨b, 1, none⟩) hB).trans h.2.2⟩

theorem RdW.recAt {w : World} {ao : Option Addr} {n cap k : Nat} {ps : List (Int × List Int)} (h : RdW w (.slice ao n cap) ps) (hl : ps.length = n) (hk : k < n) : ∃ b o, ao = some ⟨b, o, none⟩ ∧ b < w.heap.size ∧
    w.cell? ⟨b, o + k * 2, none⟩ = some (.int .i64 (pB ps k)) ∧ ∃ da c, w.cell? ⟨b, o + k * 2 + 1, none⟩ = some (.slice da (pD ps k).length c) ∧ Rd .u8 w (.slice da (pD ps k).length c) (pD ps k) := by
  obtain ⟨ao', cap', e, h1, h2, h3⟩ := h
  simp only [Value.slice.injEq] at e
  obtain ⟨rfl, _, rfl⟩ := e
  rcases h3 with rfl | ⟨b, o, rfl, hb, hc⟩
  · simp at hl; omega
  · obtain ⟨c1, da, c, c2, r⟩ := hc k (by omega)
    exact ⟨b, o, rfl, hb, c1, da, c, c2, r⟩

/-- What the rounds of a copy have made so far. -/
def Made (w : World) (lo g k cap : Nat) (ps : List (Int × List Int)) (dv : Nat → Value) : Prop :=
  w.ownsRow lo 71 2 (.slice (some ⟨g, 0, none⟩) k cap) k (rowW k (pB ps) dv) ∧ (∀ i, i < k → Own .u8 5 w (g + 1) (dv i) (pD ps i)) ∧ (∀ i j, i < k → j < k → i ≠ j → Ne2 (dv i) (dv j))

theorem Own.none_or {k : IntKind} {e : TypeId} {w : World} {base B : Nat} {v : Value} {xs : List Int} (h : Own k e w base v xs) (hB : B < base) : v.ownBlock = none ∨ v.ownBlock ≠ some B := by
  cases hv : v.ownBlock with
  | none => exact .inl rfl
  | some q => have := (h.lt q hv).1; exact .inr (by simp; omega)

theorem Made.below {w w' : World} {lo g k cap : Nat} {ps : List (Int × List Int)} {dv : Nat → Value} (h : Made w lo g k cap ps dv) (hb : Below w.heap.size w w') : Made w' lo g k cap ps dv :=
  ⟨World.ownsRow.kept h.1 (row := none) ⟨hb.os, hb.tape, hb.output, hb.size, fun q hq _ => hb.block q hq⟩ (.inr (by simp [Value.ownBlock])), fun i hi => (h.2.1 i hi).below hb, h.2.2⟩

theorem made_step {wr w' w4 : World} {lo g k cap : Nat} {ps : List (Int × List Int)} {dv : Nat → Value} {v : Value} {ob : Obj} (hm : Made wr lo g k cap ps dv) (hgr : g < wr.heap.size) (bw : Below wr.heap.size wr w') (o' : Own .u8 5 w' wr.heap.size v (pD ps k))
    (ho4 : w4.ownsRow lo 71 2 (.slice (some ⟨g, 0, none⟩) (k + 1) cap) (k + 1) (rowW k (pB ps) dv ++ [.int .i64 (pB ps k), v])) (hg4 : (w'.alloc ob).grownBy w4 (some g)) : Made w4 lo g (k + 1) cap ps (dvSet dv k v) := by
  have G : w'.grownBy w4 (some g) := World.grownBy.trans (World.grownBy_alloc w' ob (some g)) hg4
  refine ⟨by rw [rowW_snoc]; exact ho4, fun i hi => ?_, fun i j hi hj hne => ?_⟩
  · unfold dvSet
    by_cases e : i = k
    · subst e
      rw [if_pos rfl]
      exact (o'.mono (by omega)).other G ((o'.mono (base' := g + 1) (by omega)).none_or (by omega))
    · rw [if_neg e]
      have h1 := hm.2.1 i (by omega)
      exact (h1.below bw).other G (h1.none_or (by omega))
  · unfold dvSet Ne2
    by_cases e : i = k
    · by_cases e' : j = k
      · omega
      · rw [if_pos e, if_neg e']
        cases hv : v.ownBlock with
        | none => exact .inl rfl
        | some q =>
          right; intro hq
          have := (o'.lt q hv).1; have := ((hm.2.1 j (by omega)).lt q hq.symm).2; omega
    · by_cases e' : j = k
      · rw [if_neg e, if_pos e']
        cases hv : (dv i).ownBlock with
        | none => exact .inl rfl
        | some q =>
          right; intro hq
          have := (o'.lt q hq.symm).1; have := ((hm.2.1 i (by omega)).lt q hv).2; omega
      · rw [if_neg e, if_neg e']
        exact hm.2.2 i j (by omega) (by omega) hne

theorem OwnD.mono {w : World} {lo lo' hi hi' : Nat} {vd vp : Value} {dur : List Int} {ps : List (Int × List Int)} {dv : Nat → Value} (ho : OwnD w lo hi vd vp dur ps dv) (hl : lo' ≤ lo) (hh : hi ≤ hi') : OwnD w lo' hi' vd vp dur ps dv :=
  ⟨ho.d.mono hl, ho.p.mono hl, fun g hg => Nat.lt_of_lt_of_le (ho.dlt g hg) hh, fun g hg => Nat.lt_of_lt_of_le (ho.plt g hg) hh, fun i hi g hg => Nat.lt_of_lt_of_le (ho.qlt i hi g hg) hh, ho.dp, ho.dq⟩

theorem made_ownD {w6 w7 : World} {lo g k cap : Nat} {vd : Value} {dur : List Int} {ps : List (Int × List Int)} {dv : Nat → Value} (hm : Made w6 lo g k cap ps dv) (hl : ps.length = k) (hb : Below w6.heap.size w6 w7) (hd : Own .u8 5 w7 w6.heap.size vd dur) (hlo : lo ≤ g) :
    OwnD w7 lo w7.heap.size vd (.slice (some ⟨g, 0, none⟩) k cap) dur ps dv := by
  subst hl
  have m7 := hm.below hb
  have hg6 := (World.ownsRow.lt hm.1 g rfl).2
  refine ⟨hd.mono (by omega), ⟨m7.1, fun i hi => ((m7.2.1 i hi).mono (by omega)).b, m7.2.2, fun i hi => ?_⟩, fun g hg => (hd.lt g hg).2, fun g' hg => (World.ownsRow.lt m7.1 g' hg).2, fun i hi g hg => ((m7.2.1 i hi).lt g hg).2, ?_, fun i hi => ?_⟩
  · exact (hm.2.1 i hi).none_or (B := g) (by omega)
  · right
    intro e
    have := (hd.lt g e.symm).1
    omega
  · cases hv : (dv i).ownBlock with
    | none => exact .inl hv
    | some q =>
      right; intro e
      rw [hv] at e
      have := (hd.lt q e.symm).1; have := ((hm.2.1 i hi).lt q hv).2; omega

theorem pB_app (ps : List (Int × List Int)) (p : Int × List Int) (i : Nat) (h : i < ps.length) : pB (ps ++ [p]) i = pB ps i := by unfold pB; simp [List.getD, List.getElem?_append_left h]
theorem pD_app (ps : List (Int × List Int)) (p : Int × List Int) (i : Nat) (h : i < ps.length) : pD (ps ++ [p]) i = pD ps i := by unfold pD; simp [List.getD, List.getElem?_append_left h]
theorem pB_last (ps : List (Int × List Int)) (p : Int × List Int) : pB (ps ++ [p]) ps.length = p.1 := by unfold pB; simp [List.getD]
theorem pD_last (ps : List (Int × List Int)) (p : Int × List Int) : pD (ps ++ [p]) ps.length = p.2 := by unfold pD; simp [List.getD]

theorem ownD_nil (w : World) (lo hi : Nat) : OwnD w lo hi (.slice none 0 0) (.slice none 0 0) [] [] (fun _ => .slice none 0 0) :=
  ⟨World.ownsRow_nil _ _ _ _, ⟨World.ownsRow_nil _ _ _ _, fun i hi => by simp at hi, fun i j hi => by simp at hi, fun i hi => by simp at hi⟩, fun g hg => by simp [Value.ownBlock] at hg, fun g hg => by simp [Value.ownBlock] at hg, fun i hi => by simp at hi, .inl rfl, fun i hi => by simp at hi⟩

/-- May the write be made? -/
def wrOk (dl : Nat) (ps : List (Int × List Int)) (x : Int) (m : Nat) : Bool := vldD dl ps && decide (ps.length < 2000) && decide (0 ≤ x ∧ x < ((dl / 64 : Nat) : Int)) && decide (m = 64)
def wrDur (dur : List Int) (ps : List (Int × List Int)) (x : Int) (xs : List Int) : List Int := if wrOk dur.length ps x xs.length then dur else []
def wrPend (dur : List Int) (ps : List (Int × List Int)) (x : Int) (xs : List Int) : List (Int × List Int) := if wrOk dur.length ps x xs.length then ps ++ [(x, xs)] else []

end Go.Proofs.Ytajnihjdhhmefaa
