import Derived.Test.YtmgolinleiahpaaEqDisk
namespace Go.Proofs.Ytmgolinleiahpaa
open Go.RowKit

/-- What came in: a disk of the laws' own type. -/
def InD (w : World) (vd vp : Value) (dur : List Int) (ps : List (Int × List Int)) : Prop := Rd .u8 w vd dur ∧ RdW w vp ps ∧ Byt dur ∧ ∀ i, i < ps.length → Byt (pD ps i) ∧ -9223372036854775808 ≤ pB ps i ∧ pB ps i ≤ 9223372036854775807

theorem tot_ge (ps : List (Int × List Int)) (i : Nat) : (pD ps i).length ≤ tot ps := by
  by_cases h : i < ps.length
  · have h1 := tot_take_succ ps i h
    have h2 : tot (ps.take (i + 1)) ≤ tot ps := by
      unfold tot
      conv => rhs; rw [← List.take_append_drop (i + 1) ps, List.map_append, List.sum_append]
      omega
    omega
  · unfold pD; rw [List.getD, List.getElem?_eq_none (by omega)]; simp


end Go.Proofs.Ytmgolinleiahpaa
