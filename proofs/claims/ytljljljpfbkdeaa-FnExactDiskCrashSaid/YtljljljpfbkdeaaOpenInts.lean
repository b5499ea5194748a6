import Derived.Test.YtljljljpfbkdeaaOpen
namespace Go.Proofs.Ytljljljpfbkdeaa
open Go.ChangeShapes Go.WideShapes Go.ChangeAt Go.RowKit

/-- A []int64 that came in. -/
theorem open_i64s {H : Type} {enc : TypeId × Value → H} {W : World} {a0 : Option Addr} {len0 cap0 : Nat} {d0 : DataW H} {p0 : List MemPlace} {base : Nat} {b : Bool}
    (h0 : DataW.Trod enc Try.prog W base (fun _ => true) b 61 (.slice a0 len0 cap0) d0 p0) : ∃ xs, Rd .i64 W (.slice a0 len0 cap0) xs := by
  obtain ⟨fuel, hf⟩ := h0
  rcases open_ints Try.underlying61 Try.underlying2 (by kernel_rfl) hf with ⟨hcs, _⟩ | ⟨x, l, c, zs, hcs, _, hl, hm, hz, _, hcell, hwz⟩
  · simp [Value.cells] at hcs
    obtain ⟨rfl, rfl, rfl⟩ := hcs
    exact ⟨[], ⟨none, 0, rfl, Nat.le_refl _, Nat.zero_le _, .inl rfl⟩⟩
  · simp [Value.cells] at hcs
    obtain ⟨rfl, rfl, rfl⟩ := hcs
    exact ⟨zs.take len0, rd_of hl hm (by simpa using hz) hcell⟩

end Go.Proofs.Ytljljljpfbkdeaa
