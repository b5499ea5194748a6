import Derived.Test.YtmgolinleiahpaaMadeW
import Derived.Deep.RegionHeld3
import Derived.Deep.AppendLies
namespace Go.Proofs.Ytmgolinleiahpaa
open Go.RowKit

theorem Own.far {k : IntKind} {e : TypeId} {w : World} {base : Nat} {v : Value} {xs : List Int} (h : Own k e w base v xs) {u : Value} (hu : ∀ g, u.ownBlock = some g → g < base) : v.ownBlock = none ∨ v.ownBlock ≠ u.ownBlock := by
  cases hv : v.ownBlock with
  | none => exact .inl rfl
  | some q =>
    right; intro e
    have := (h.lt q hv).1; have := hu q e.symm; omega

/-- One record more. -/
theorem ownD_snoc {wr w' w4 : World} {lo hi g k cap : Nat} {vd vk v : Value} {dur xs : List Int} {ps : List (Int × List Int)} {x : Int} {dv : Nat → Value} {ob : Obj} {te : TypeId} (ho : OwnD wr lo hi vd vk dur ps dv) (hhi : hi ≤ wr.heap.size) (hlo : lo ≤ wr.heap.size) (hk : ps.length = k) (bw : Below wr.heap.size wr w') (o' : Own .u8 te w' wr.heap.size v xs)
    (ho4 : w4.ownsRow lo 42 2 (.slice (some ⟨g, 0, none⟩) (k + 1) cap) (k + 1) (rowW k (pB ps) dv ++ [.int .i64 x, v])) (hg4 : (w'.alloc ob).grownBy w4 vk.ownBlock) (hat : vk.ownBlock = some g ∨ g = w'.heap.size + 1) :
    OwnD w4 lo w4.heap.size vd (.slice (some ⟨g, 0, none⟩) (k + 1) cap) dur (ps ++ [(x, xs)]) (dvSet dv k v) := by
  subst hk
  have G : w'.grownBy w4 vk.ownBlock := World.grownBy.trans (World.grownBy_alloc w' ob _) hg4
  have hsz := bw.size
  have hs4 : w'.heap.size ≤ w4.heap.size := G.size
  have hvk : ∀ q, vk.ownBlock = some q → q < wr.heap.size := fun q hq => Nat.lt_of_lt_of_le (ho.plt q hq) hhi
  have hnew : OwnB w4 wr.heap.size v xs := (o'.other G (o'.far hvk)).b
  have hold : ∀ i, i < ps.length → OwnB w4 lo (dv i) (pD ps i) := fun i hi => ((ho.p.2.1 i hi).below bw).other G (ho.p.2.2.2 i hi)
  have hlen : (ps ++ [(x, xs)]).length = ps.length + 1 := by simp
  have hd4 : Own .u8 5 w4 lo vd dur := by
    refine (ho.d.below bw).other G ?_
    rcases ho.dp with h | h
    · rw [h]; cases vd.ownBlock with
      | none => exact .inl rfl
      | some q => exact .inr (by simp)
    · exact .inr (Ne.symm h)
  have hgv : ∀ u : Value, (∀ q, u.ownBlock = some q → q < wr.heap.size) → Ne2 u vk → Ne2 u (.slice (some ⟨g, 0, none⟩) (ps.length + 1) cap) := by
    intro u hu hn
    unfold Ne2
    cases e : u.ownBlock with
    | none => exact .inl rfl
    | some q =>
      right
      simp only [Value.ownBlock, ne_eq, Option.some.injEq]
      intro eq
      have := hu q e
      rcases hat with h | h
      · rcases hn with h' | h'
        · rw [h'] at e; cases e
        · exact h' (by rw [e, h, eq])
      · omega
  have hlast : Ne2 v (.slice (some ⟨g, 0, none⟩) (ps.length + 1) cap) := by
    unfold Ne2
    cases e : v.ownBlock with
    | none => exact .inl rfl
    | some q =>
      right
      simp only [Value.ownBlock, ne_eq, Option.some.injEq]
      intro eq
      have h1 := o'.lt q e
      rcases hat with h | h
      · have := hvk g h; omega
      · omega
  refine ⟨hd4, ⟨?_, ?_, ?_, ?_⟩, fun q hq => (hd4.lt q hq).2, fun q hq => (World.ownsRow.lt ho4 q hq).2, ?_, ?_, ?_⟩
  · rw [hlen]
    have e : rowW (ps.length + 1) (pB (ps ++ [(x, xs)])) (dvSet dv ps.length v) = rowW ps.length (pB ps) dv ++ [.int .i64 x, v] := by
      rw [rowW_succ]
      congr 1
      · exact rowW_congr (fun i hi => pB_app _ _ _ hi) (fun i hi => by unfold dvSet; rw [if_neg (by omega)])
      · rw [pB_last]; unfold dvSet; rw [if_pos rfl]
    rw [e]; exact ho4
  · intro i hi
    rw [hlen] at hi
    unfold dvSet
    by_cases e : i = ps.length
    · rw [if_pos e, e, pD_last]; exact hnew.mono hlo
    · rw [if_neg e, pD_app _ _ _ (by omega)]; exact hold i (by omega)
  · intro i j hi hj hne
    rw [hlen] at hi hj
    unfold dvSet
    by_cases e : i = ps.length
    · rw [if_pos e, if_neg (by omega)]
      exact o'.far (fun q hq => ((ho.p.2.1 j (by omega)).lt q hq).2)
    · by_cases e' : j = ps.length
      · rw [if_neg e, if_pos e']
        unfold Ne2
        cases hv : (dv i).ownBlock with
        | none => exact .inl rfl
        | some q =>
          right; intro hq
          have := (o'.lt q hq.symm).1; have := ((ho.p.2.1 i (by omega)).lt q hv).2; omega
      · rw [if_neg e, if_neg e']; exact ho.p.2.2.1 i j (by omega) (by omega) hne
  · intro i hi
    rw [hlen] at hi
    unfold dvSet
    by_cases e : i = ps.length
    · rw [if_pos e]; exact hlast
    · rw [if_neg e]; exact hgv _ (fun q hq => ((ho.p.2.1 i (by omega)).lt q hq).2) (ho.p.2.2.2 i (by omega))
  · intro i hi q hq
    rw [hlen] at hi
    unfold dvSet at hq
    by_cases e : i = ps.length
    · rw [if_pos e] at hq; exact (hnew.lt q hq).2
    · rw [if_neg e] at hq; exact ((hold i (by omega)).lt q hq).2
  · right
    simp only [Value.ownBlock, ne_eq]
    intro e
    have h1 := ho.dlt g e.symm
    rcases hat with h | h
    · rcases ho.dp with h' | h'
      · rw [h'] at h; cases h
      · exact h' (h.trans e)
    · omega
  · intro i hi
    rw [hlen] at hi
    unfold dvSet
    by_cases e : i = ps.length
    · rw [if_pos e]
      exact o'.far (fun q hq => by have := ho.dlt q hq; omega)
    · rw [if_neg e]; exact ho.dq i (by omega)

end Go.Proofs.Ytmgolinleiahpaa
