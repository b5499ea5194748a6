import Derived.Test.YtoljmlhnbmeloaaOpen
import Derived.Lib.SmallJoins
namespace Go.Proofs.Ytoljmlhnbmeloaa
open Go.ChangeShapes Go.WideShapes Go.ChangeAt Go.RowKit

theorem cells_C2 : Try.prog.cellsOf 57 = 2 := by kernel_rfl
theorem cells_CI : Try.prog.cellsOf 2 = 1 := by kernel_rfl

theorem array2 {α : Type} {cs : Array α} (h : cs.size = 2) : ∃ c0 c1, cs = #[c0, c1] := by
  obtain ⟨l⟩ := cs
  match l, h with
  | [c0, c1], _ => exact ⟨c0, c1, rfl⟩

section
variable {H : Type} {enc : TypeId × Value → H} {W : World} {base : Nat} {held : Bool}

set_option maxRecDepth 100000 in
/-- A configuration that came in. -/
theorem open_conf {b0 : Nat} {v : Value} {d : DataW H} {p : List MemPlace} (hv : Value.okWide Try.prog W .any b0 57 v) (h : DataW.Trod enc Try.prog W base (fun _ => true) held 57 v d p) :
    ∃ g b : Int, v = .agg #[.int .i64 g, .int .i64 b] := by
  obtain ⟨cs, rfl, hsz⟩ := okWide_struct Try.underlying57 hv
  obtain ⟨c0, c1, rfl⟩ := array2 (hsz.trans cells_C2)
  obtain ⟨fuel, hf⟩ := h
  obtain ⟨xs, n, -, -, hl, hlen, hfs⟩ := DataW.trod_struct Try.underlying57 hf
  match xs, hlen with
  | [y0, y1], _ =>
    have h0 : DataW.trod enc Try.prog W base (fun _ => true) held n 2 [c0] = some y0 := by
      have := hfs 0 _ rfl
      simpa [cells_CI, Value.cells] using this
    have h1 : DataW.trod enc Try.prog W base (fun _ => true) held n 2 [c1] = some y1 := by
      have := hfs 1 _ rfl
      simpa [cells_CI, Value.cells] using this
    obtain ⟨g, e0, -, -⟩ := DataW.trod_int Try.underlying2 h0
    obtain ⟨b, e1, -, -⟩ := DataW.trod_int Try.underlying2 h1
    simp only [List.cons.injEq, and_true] at e0 e1
    subst e0 e1
    exact ⟨g, b, rfl⟩
end

end Go.Proofs.Ytoljmlhnbmeloaa
