import Derived.Test.YtajnihjdhhmefaaSPack
import Derived.Test.YtajnihjdhhmefaaRows
namespace Go.Proofs.Ytajnihjdhhmefaa
open Go.RowKit

/-- A row of another block is not the row that was written. -/
theorem own_ne {k : IntKind} {e e' : TypeId} {w w' : World} {B B' : Nat} {v v' : Value} {xs xs' : List Int} (h : Own k e w B v xs) (h' : Own k e' w' B' v' xs') (hlt : w.heap.size ≤ B') : v.ownBlock = none ∨ v.ownBlock ≠ v'.ownBlock := by
  cases hv : v.ownBlock with
  | none => exact .inl rfl
  | some g =>
    refine .inr fun e => ?_
    have h1 := (h.lt g hv).2
    have h2 := (h'.lt g e.symm).1
    omega

theorem own_ne' {k : IntKind} {e e' : TypeId} {w w' : World} {B B' : Nat} {v v' : Value} {xs xs' : List Int} (h : Own k e w B v xs) (h' : Own k e' w' B' v' xs') (hlt : w.heap.size ≤ B') : v'.ownBlock = none ∨ v'.ownBlock ≠ v.ownBlock := by
  cases hv : v'.ownBlock with
  | none => exact .inl rfl
  | some g =>
    refine .inr fun e => ?_
    have h1 := (h.lt g e.symm).2
    have h2 := (h'.lt g hv).1
    omega


end Go.Proofs.Ytajnihjdhhmefaa
