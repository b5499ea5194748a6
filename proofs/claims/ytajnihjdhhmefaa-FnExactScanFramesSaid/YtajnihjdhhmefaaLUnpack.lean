import Derived.Test.YtajnihjdhhmefaaPay
namespace Go.Proofs.Ytajnihjdhhmefaa
open Go.RowKit

theorem unp_length (xs : List Int) : (unp xs).length ≤ xs.length := by
  unfold unp; split
  · rw [up_length]; omega
  · simp


end Go.Proofs.Ytajnihjdhhmefaa
