/-
  No cell of these rows narrows 'for every input' (looked for: loops, veiled, ifaces, maps, wideKeys, modest, calm, conditions, laid).
  DERIVED. THE GIVEN ROWS OF THIS SEAT. 3 by the template 'for every input the law returns true; each argument reads behind the call as it read before'; 0 by the template 'total and deterministic' (their statements: YtmekkfiicnlkaaaTotals.lean).
  GIVEN WITH THE SEED: the statements are not yours to turn. If you find one false, say at which input.
  Laid BY PROGRAM, IN A SANDBOX (cutbox-rows.mjs): the forced cells as the released guide's own fill.sh prints them over the translation d3e1ca1478e03e3b… (all of the seat's roots in one cut). By AI agents, Wed Nov 11 2026. No macro, syntax, notation, axiom, sorry.
-/
import Derived.Test.YtmekkfiicnlkaaaChecked
import GoSem.Claim
import GoSem.ClaimJoined
import GoSem.ClaimMapViews
import Derived.JoinedTies
import Derived.KernelRfl
namespace Go.Proofs.Ytmekkfiicnlkaaa
/- THE CELL 'sum', in the pinned program and in every row, IS THE sha256 OF THE DUMP (.gsa) THAT YtmekkfiicnlkaaaProg.lean LOADS. Nothing in Lean hashes anything: it is a label: what it is worth is what the hold of that sum in a sandbox is worth. -/
noncomputable def Try.pinned : Pinned := { name := "ytmekkfiicnlkaaa", sum := "d3e1ca1478e03e3ba54f01e2f46005580b686b42770a923f557b793f01945a06", checked := Try.checked }
namespace Rows
def none {H : Type} : Left H := { results := [], args := [] }

/-- 'laws.FnExactEncodeSuper': WHATEVER THE INPUT: true; the input reads as it did. -/
def fnExactEncodeSuperSpec : ChangeSpec := { name := "fnExactEncodeSuper", fn := fun _ => fun
  | [d] => { results := [.lit (.bool true)], args := [d] }
  | _ => none }
def fnExactEncodeSuperRow : OpenClaim := { program := "ytmekkfiicnlkaaa", sum := "d3e1ca1478e03e3ba54f01e2f46005580b686b42770a923f557b793f01945a06", func := "loop.example/s01594/laws.FnExactEncodeSuper", spec := "fnExactEncodeSuper", recurses := true, apart := false }
def FnExactEncodeSuperSaid : Prop := fnExactEncodeSuperRow.holds Try.pinned (OpenSpec.ofChange fnExactEncodeSuperSpec)

/-- ITS FALSE NEIGHBOUR: 'it returns false'. Refute it at one input. -/
def fnExactEncodeSuperWrong : ChangeSpec := { name := "fnExactEncodeSuper", fn := fun _ => fun
  | [d] => { results := [.lit (.bool false)], args := [d] }
  | _ => none }
def FnExactEncodeSuperWrongFalsely : Prop := fnExactEncodeSuperRow.holds Try.pinned (OpenSpec.ofChange fnExactEncodeSuperWrong)

/-- 'laws.FnTornSuper': WHATEVER THE INPUT: true; the input reads as it did. -/
def fnTornSuperSpec : ChangeSpec := { name := "fnTornSuper", fn := fun _ => fun
  | [d1, d2] => { results := [.lit (.bool true)], args := [d1, d2] }
  | _ => none }
def fnTornSuperRow : OpenClaim := { program := "ytmekkfiicnlkaaa", sum := "d3e1ca1478e03e3ba54f01e2f46005580b686b42770a923f557b793f01945a06", func := "loop.example/s01594/laws.FnTornSuper", spec := "fnTornSuper", recurses := true, apart := false }
def FnTornSuperSaid : Prop := fnTornSuperRow.holds Try.pinned (OpenSpec.ofChange fnTornSuperSpec)

/-- ITS FALSE NEIGHBOUR: 'it returns false'. Refute it at one input. -/
def fnTornSuperWrong : ChangeSpec := { name := "fnTornSuper", fn := fun _ => fun
  | [d1, d2] => { results := [.lit (.bool false)], args := [d1, d2] }
  | _ => none }
def FnTornSuperWrongFalsely : Prop := fnTornSuperRow.holds Try.pinned (OpenSpec.ofChange fnTornSuperWrong)

/-- 'laws.FnExactDecodeSuper': WHATEVER THE INPUT: true; the input reads as it did. -/
def fnExactDecodeSuperSpec : ChangeSpec := { name := "fnExactDecodeSuper", fn := fun _ => fun
  | [d] => { results := [.lit (.bool true)], args := [d] }
  | _ => none }
def fnExactDecodeSuperRow : OpenClaim := { program := "ytmekkfiicnlkaaa", sum := "d3e1ca1478e03e3ba54f01e2f46005580b686b42770a923f557b793f01945a06", func := "loop.example/s01594/laws.FnExactDecodeSuper", spec := "fnExactDecodeSuper", recurses := true, apart := false }
def FnExactDecodeSuperSaid : Prop := fnExactDecodeSuperRow.holds Try.pinned (OpenSpec.ofChange fnExactDecodeSuperSpec)

/-- ITS FALSE NEIGHBOUR: 'it returns false'. Refute it at one input. -/
def fnExactDecodeSuperWrong : ChangeSpec := { name := "fnExactDecodeSuper", fn := fun _ => fun
  | [d] => { results := [.lit (.bool false)], args := [d] }
  | _ => none }
def FnExactDecodeSuperWrongFalsely : Prop := fnExactDecodeSuperRow.holds Try.pinned (OpenSpec.ofChange fnExactDecodeSuperWrong)

/- THE SECOND FORM. 'bulk': how many values and letters a reading holds, each counted each time it is reached (what is shared counts as often as it is met; a slice's spare places count too). A statement '..UptoSaid' is the law's where the arguments, and the package variables that the reading takes, are together of bulk at most 1048576: NARROWER than '..Said'. Prove '..Said' where nothing that the law and all that it calls make is longer than what came in: it says more and counts as full. Else prove '..UptoSaid'. A law counts once. -/
mutual
def uptoBulk {H : Type} : DataW H → Nat
  | .lit (.string bytes) => bytes.length + 1
  | .lit _ => 1
  | .nil => 1
  | .ptr d => uptoBulk d + 1
  | .slice elems spare => uptoBulkAll elems + uptoBulkAll spare + 1
  | .agg parts => uptoBulkAll parts + 1
  | .iface _ d => uptoBulk d + 1
  | .map entries => uptoBulkEntries entries + 1
  | .held _ => 1
def uptoBulkAll {H : Type} : List (DataW H) → Nat
  | [] => 0
  | d :: r => uptoBulk d + uptoBulkAll r
def uptoBulkEntries {H : Type} : List (Lit × DataW H) → Nat
  | [] => 0
  | x :: r => uptoBulkEntry x + uptoBulkEntries r
def uptoBulkEntry {H : Type} : Lit × DataW H → Nat
  | (.string bytes, d) => bytes.length + uptoBulk d + 1
  | (_, d) => uptoBulk d + 1
 end
def uptoSmall : (H : Type) → List (DataW H) → Bool := fun _ ds => decide (uptoBulkAll ds ≤ 1048576)
def OpenSpec.upto (s : _root_.Go.ChangeSpec) : _root_.Go.OpenSpec := { _root_.Go.OpenSpec.ofChange s with cond := some uptoSmall }

/-- 'laws.FnExactEncodeSuper', WHERE WHAT IT READS IS OF BULK AT MOST 1048576: true; the input reads as it did. -/
def fnExactEncodeSuperUptoRow : OpenClaim := { program := "ytmekkfiicnlkaaa", sum := "d3e1ca1478e03e3ba54f01e2f46005580b686b42770a923f557b793f01945a06", func := "loop.example/s01594/laws.FnExactEncodeSuper", spec := "fnExactEncodeSuper", recurses := true, apart := false, narrowed := true }
def FnExactEncodeSuperUptoSaid : Prop := fnExactEncodeSuperUptoRow.holds Try.pinned (OpenSpec.upto fnExactEncodeSuperSpec)

/-- 'laws.FnTornSuper', WHERE WHAT IT READS IS OF BULK AT MOST 1048576: true; the input reads as it did. -/
def fnTornSuperUptoRow : OpenClaim := { program := "ytmekkfiicnlkaaa", sum := "d3e1ca1478e03e3ba54f01e2f46005580b686b42770a923f557b793f01945a06", func := "loop.example/s01594/laws.FnTornSuper", spec := "fnTornSuper", recurses := true, apart := false, narrowed := true }
def FnTornSuperUptoSaid : Prop := fnTornSuperUptoRow.holds Try.pinned (OpenSpec.upto fnTornSuperSpec)

/-- 'laws.FnExactDecodeSuper', WHERE WHAT IT READS IS OF BULK AT MOST 1048576: true; the input reads as it did. -/
def fnExactDecodeSuperUptoRow : OpenClaim := { program := "ytmekkfiicnlkaaa", sum := "d3e1ca1478e03e3ba54f01e2f46005580b686b42770a923f557b793f01945a06", func := "loop.example/s01594/laws.FnExactDecodeSuper", spec := "fnExactDecodeSuper", recurses := true, apart := false, narrowed := true }
def FnExactDecodeSuperUptoSaid : Prop := fnExactDecodeSuperUptoRow.holds Try.pinned (OpenSpec.upto fnExactDecodeSuperSpec)

end Rows
end Go.Proofs.Ytmekkfiicnlkaaa
