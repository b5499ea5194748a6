/-
  DERIVED. GIVEN WITH THE SEED: THE CARDS: each row of YtdiingonnddkcaaGreatDoorRows.lean that lists a variable, with what it lists TIED to the program's text (the seventh form; the later family's looks); each row that meets fmt, with fmt's text TOLD by the authors' own Lean function (tested against real Go, not proved from fmt's source: count such statements apart). THE CARD IS WHAT COUNTS. Prove the row's statement (the work); the ties are given (YtdiingonnddkcaaGreatDoorTie.lean); close each card by the builder's one call (the guide's Derived/Test/ToyasCard.lean, 'card_holds'). Laid BY PROGRAM, IN A SANDBOX (cutbox-door.mjs). By AI agents, Wed Nov 11 2026. No macro, syntax, notation, axiom, sorry.
-/
import Derived.Test.YtdiingonnddkcaaGreatDoorRows
import GoSem.ClaimSeven
namespace Go.Proofs.YtdiingonnddkcaaGreatDoor
namespace Rows

/-- THE TIED CARD OF 'laws.FnSeq'. -/
def fnSeqCard : Claim7 := { stood := { row := fnSeqRow, standIns := [], harness := (true, "39ea9462544babf4f583c1bce86a6c1b395b177a983bb4fcccaead88a4171ef8"), looks := true }, kinds := [], alts := [], laidByText := true, laidKinds := [.data, .data, .data, .data, .handle, .pinned], laidTests := true, laidLooks := .later }
def FnSeqCardSaid : Prop := Claim7.holds Tryz.pinned (.plain (OpenSpec.ofChange fnSeqSpec)) fnSeqCard

/-- THE TIED CARD OF 'laws.FnPrepareApply'. -/
def fnPrepareApplyCard : Claim7 := { stood := { row := fnPrepareApplyRow, standIns := [], harness := (true, "39ea9462544babf4f583c1bce86a6c1b395b177a983bb4fcccaead88a4171ef8"), looks := true }, kinds := [], alts := [], laidByText := true, laidKinds := [.data, .data, .data, .data, .handle, .pinned], laidTests := true, laidLooks := .later }
def FnPrepareApplyCardSaid : Prop := Claim7.holds Tryz.pinned (.plain (OpenSpec.ofChange fnPrepareApplySpec)) fnPrepareApplyCard

/-- THE TIED CARD OF 'laws.FnFuzzy'. -/
def fnFuzzyCard : Claim7 := { stood := { row := fnFuzzyRow, standIns := [], harness := (true, "39ea9462544babf4f583c1bce86a6c1b395b177a983bb4fcccaead88a4171ef8"), looks := true }, kinds := [], alts := [], laidByText := true, laidKinds := [.data, .data, .data, .data, .handle, .pinned], laidTests := true, laidLooks := .later }
def FnFuzzyCardSaid : Prop := Claim7.holds Tryz.pinned (.plain (OpenSpec.ofChange fnFuzzySpec)) fnFuzzyCard

/-- THE SECOND FORM's CARD OF 'laws.FnSeq'. -/
def fnSeqUptoCard : Claim7 := { stood := { row := fnSeqUptoRow, standIns := [], harness := (true, "39ea9462544babf4f583c1bce86a6c1b395b177a983bb4fcccaead88a4171ef8"), looks := true }, kinds := [], alts := [], laidByText := true, laidKinds := [.data, .data, .data, .data, .handle, .pinned], laidTests := true, laidLooks := .later }
def FnSeqUptoCardSaid : Prop := Claim7.holds Tryz.pinned (.plain (OpenSpec.upto fnSeqSpec)) fnSeqUptoCard

/-- THE SECOND FORM's CARD OF 'laws.FnPrepareApply'. -/
def fnPrepareApplyUptoCard : Claim7 := { stood := { row := fnPrepareApplyUptoRow, standIns := [], harness := (true, "39ea9462544babf4f583c1bce86a6c1b395b177a983bb4fcccaead88a4171ef8"), looks := true }, kinds := [], alts := [], laidByText := true, laidKinds := [.data, .data, .data, .data, .handle, .pinned], laidTests := true, laidLooks := .later }
def FnPrepareApplyUptoCardSaid : Prop := Claim7.holds Tryz.pinned (.plain (OpenSpec.upto fnPrepareApplySpec)) fnPrepareApplyUptoCard

/-- THE SECOND FORM's CARD OF 'laws.FnFuzzy'. -/
def fnFuzzyUptoCard : Claim7 := { stood := { row := fnFuzzyUptoRow, standIns := [], harness := (true, "39ea9462544babf4f583c1bce86a6c1b395b177a983bb4fcccaead88a4171ef8"), looks := true }, kinds := [], alts := [], laidByText := true, laidKinds := [.data, .data, .data, .data, .handle, .pinned], laidTests := true, laidLooks := .later }
def FnFuzzyUptoCardSaid : Prop := Claim7.holds Tryz.pinned (.plain (OpenSpec.upto fnFuzzySpec)) fnFuzzyUptoCard
end Rows
end Go.Proofs.YtdiingonnddkcaaGreatDoor
