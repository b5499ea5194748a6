import Derived.Test.YtmgolinleiahpaaUnpack
import Derived.Test.YtmgolinleiahpaaPack
import Derived.Test.YtmgolinleiahpaaRows
namespace Go.Proofs.Ytmgolinleiahpaa
open Go.RowKit




/-- A local struct of one cell. -/
def Box (w : World) (b : Nat) (v : Value) : Prop := b < w.heap.size ∧ w.cell? ⟨b, 0, none⟩ = some v
theorem Box.below {w w' : World} {b : Nat} {v : Value} (h : Box w b v) (hb : Below w.heap.size w w') : Box w' b v :=
  ⟨Nat.lt_of_lt_of_le h.1 hb.size, (hb.cell (p := ⟨b, 0, none⟩) h.1).trans h.2⟩
theorem Box.other {w w' : World} {b : Nat} {v : Value} {row : Option Nat} (h : Box w b v) (hg : w.grownBy w' row) (hne : some b ≠ row) : Box w' b v :=
  ⟨Nat.lt_of_lt_of_le h.1 hg.size, hg.cell h.2 hne⟩
theorem Box.new (w : World) (v : Value) (t : TypeId) : Box (w.alloc (.cells #[v] t)) w.heap.size v := ⟨by simp, by simp⟩
theorem Box.drewN {w : World} {b : Nat} {v : Value} (h : Box w b v) (n : Nat) : Box (w.drewN n) b v := h

end Go.Proofs.Ytmgolinleiahpaa
