import Derived.Test.YtmgolinleiahpaaBytes
import Derived.Test.YtmgolinleiahpaaMath
namespace Go.Proofs.Ytmgolinleiahpaa
open Go.RowKit

def Byt (xs : List Int) : Prop := ∀ x ∈ xs, 0 ≤ x ∧ x < 256
theorem own_of {k : IntKind} {e : TypeId} {w : World} {base q : Nat} {v : Value} {ys xs : List Int} (hl : ys.length = q) (he : xs = ys) (h : w.ownsRow base e 1 v q (ys.map (Value.int k))) : Own k e w base v xs := by
  subst he; unfold Own; rw [hl]; exact h


end Go.Proofs.Ytmgolinleiahpaa
