import Derived.Test.YtmekkfiicnlkaaaOpen
import Derived.Lib.SmallJoins
namespace Go.Proofs.Ytmekkfiicnlkaaa
open Go.ChangeShapes Go.WideShapes Go.ChangeAt Go.RowKit

theorem cells_S5 : Try.prog.cellsOf 23 = 5 := by kernel_rfl
theorem cells_I1 : Try.prog.cellsOf 2 = 1 := by kernel_rfl

theorem array5 {α : Type} {cs : Array α} (h : cs.size = 5) : ∃ c0 c1 c2 c3 c4, cs = #[c0, c1, c2, c3, c4] := by
  obtain ⟨l⟩ := cs
  match l, h with
  | [c0, c1, c2, c3, c4], _ => exact ⟨c0, c1, c2, c3, c4, rfl⟩

section
variable {H : Type} {enc : TypeId × Value → H} {W : World} {base : Nat} {held : Bool}

set_option maxRecDepth 100000 in
/-- A superblock that came in. -/
theorem open_super {b0 : Nat} {v : Value} {d : DataW H} {p : List MemPlace} (hv : Value.okWide Try.prog W .any b0 23 v) (h : DataW.Trod enc Try.prog W base (fun _ => true) held 23 v d p) :
    ∃ g b s l c : Int, v = .agg #[.int .i64 g, .int .i64 b, .int .i64 s, .int .i64 l, .int .i64 c] ∧ g < 9223372036854775808 := by
  obtain ⟨cs, rfl, hsz⟩ := okWide_struct Try.underlying23 hv
  obtain ⟨c0, c1, c2, c3, c4, rfl⟩ := array5 (hsz.trans cells_S5)
  obtain ⟨fuel, hf⟩ := h
  obtain ⟨xs, n, -, -, hl, hlen, hfs⟩ := DataW.trod_struct Try.underlying23 hf
  match xs, hlen with
  | [y0, y1, y2, y3, y4], _ =>
    have h0 : DataW.trod enc Try.prog W base (fun _ => true) held n 2 [c0] = some y0 := by
      have := hfs 0 _ rfl
      simpa [cells_I1, Value.cells] using this
    have h1 : DataW.trod enc Try.prog W base (fun _ => true) held n 2 [c1] = some y1 := by
      have := hfs 1 _ rfl
      simpa [cells_I1, Value.cells] using this
    have h2 : DataW.trod enc Try.prog W base (fun _ => true) held n 2 [c2] = some y2 := by
      have := hfs 2 _ rfl
      simpa [cells_I1, Value.cells] using this
    have h3 : DataW.trod enc Try.prog W base (fun _ => true) held n 2 [c3] = some y3 := by
      have := hfs 3 _ rfl
      simpa [cells_I1, Value.cells] using this
    have h4 : DataW.trod enc Try.prog W base (fun _ => true) held n 2 [c4] = some y4 := by
      have := hfs 4 _ rfl
      simpa [cells_I1, Value.cells] using this
    obtain ⟨g, e0, -, hw⟩ := DataW.trod_int Try.underlying2 h0
    obtain ⟨b, e1, -, -⟩ := DataW.trod_int Try.underlying2 h1
    obtain ⟨s, e2, -, -⟩ := DataW.trod_int Try.underlying2 h2
    obtain ⟨l, e3, -, -⟩ := DataW.trod_int Try.underlying2 h3
    obtain ⟨c, e4, -, -⟩ := DataW.trod_int Try.underlying2 h4
    simp only [List.cons.injEq, and_true] at e0 e1 e2 e3 e4
    subst e0 e1 e2 e3 e4
    have := bounds_i64 hw
    exact ⟨g, b, s, l, c, rfl, by omega⟩
end

end Go.Proofs.Ytmekkfiicnlkaaa
