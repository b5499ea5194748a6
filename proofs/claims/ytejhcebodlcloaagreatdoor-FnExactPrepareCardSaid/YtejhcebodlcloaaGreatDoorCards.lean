/-
  DERIVED. GIVEN WITH THE SEED: THE CARDS: each row of YtejhcebodlcloaaGreatDoorRows.lean that lists a variable, with what it lists TIED to the program's text (the seventh form; the later family's looks); each row that meets fmt, with fmt's text TOLD by the authors' own Lean function (tested against real Go, not proved from fmt's source: count such statements apart). THE CARD IS WHAT COUNTS. Prove the row's statement (the work); the ties are given (YtejhcebodlcloaaGreatDoorTie.lean); close each card by the builder's one call (the guide's Derived/Test/ToyasCard.lean, 'card_holds'). Laid BY PROGRAM, IN A SANDBOX (cutbox-door.mjs). By AI agents, Wed Nov 11 2026. No macro, syntax, notation, axiom, sorry.
-/
import Derived.Test.YtejhcebodlcloaaGreatDoorRows
import GoSem.ClaimSeven
namespace Go.Proofs.YtejhcebodlcloaaGreatDoor
namespace Rows

/-- THE TIED CARD OF 'laws.FnExactPrepare'. -/
def fnExactPrepareCard : Claim7 := { stood := { row := fnExactPrepareRow, standIns := [], harness := (true, "6eadc17598bdd3b4931256bd17a55ca6f9af08994ffb01f118f6e98932a8100b"), looks := true }, kinds := [], alts := [], laidByText := true, laidKinds := [.data, .data, .data, .data, .handle, .pinned], laidTests := true, laidLooks := .later }
def FnExactPrepareCardSaid : Prop := Claim7.holds Tryz.pinned (.plain (OpenSpec.ofChange fnExactPrepareSpec)) fnExactPrepareCard

/-- THE SECOND FORM's CARD OF 'laws.FnExactPrepare'. -/
def fnExactPrepareUptoCard : Claim7 := { stood := { row := fnExactPrepareUptoRow, standIns := [], harness := (true, "6eadc17598bdd3b4931256bd17a55ca6f9af08994ffb01f118f6e98932a8100b"), looks := true }, kinds := [], alts := [], laidByText := true, laidKinds := [.data, .data, .data, .data, .handle, .pinned], laidTests := true, laidLooks := .later }
def FnExactPrepareUptoCardSaid : Prop := Claim7.holds Tryz.pinned (.plain (OpenSpec.upto fnExactPrepareSpec)) fnExactPrepareUptoCard
end Rows
end Go.Proofs.YtejhcebodlcloaaGreatDoor
