/-
  DERIVED. GIVEN WITH THE SEED: THE CARDS: each row of YtgjenbgclpmjmaaDoorRows.lean that lists a variable, with what it lists TIED to the program's text (the seventh form; the later family's looks); each row that meets fmt, with fmt's text TOLD by the authors' own Lean function (tested against real Go, not proved from fmt's source: count such statements apart). THE CARD IS WHAT COUNTS. Prove the row's statement (the work); the ties are given (YtgjenbgclpmjmaaDoorTie.lean); close each card by the builder's one call (the guide's Derived/Test/ToyasCard.lean, 'card_holds'). Laid BY PROGRAM, IN A SANDBOX (cutbox-door.mjs). By AI agents, Wed Nov 11 2026. No macro, syntax, notation, axiom, sorry.
-/
import Derived.Test.YtgjenbgclpmjmaaDoorRows
import GoSem.ClaimSeven
namespace Go.Proofs.YtgjenbgclpmjmaaDoor
namespace Rows

/-- THE TIED CARD OF 'laws.FnExactValidPath'. -/
def fnExactValidPathCard : Claim7 := { stood := { row := fnExactValidPathRow, standIns := [], harness := (true, "49ff341ecfdd72798b2823b10c8066804114cc3508032c44548c9d91d685f056"), looks := true }, kinds := [], alts := [], laidByText := true, laidKinds := [.data, .pinned], laidTests := true, laidLooks := .later }
def FnExactValidPathCardSaid : Prop := Claim7.holds Tryd.pinned (.plain (OpenSpec.ofChange fnExactValidPathSpec)) fnExactValidPathCard

/-- THE TIED CARD OF 'laws.FnExactValidTree'. -/
def fnExactValidTreeCard : Claim7 := { stood := { row := fnExactValidTreeRow, standIns := [], harness := (true, "49ff341ecfdd72798b2823b10c8066804114cc3508032c44548c9d91d685f056"), looks := true }, kinds := [], alts := [], laidByText := true, laidKinds := [.data, .pinned], laidTests := true, laidLooks := .later }
def FnExactValidTreeCardSaid : Prop := Claim7.holds Tryd.pinned (.plain (OpenSpec.ofChange fnExactValidTreeSpec)) fnExactValidTreeCard

/-- THE TIED CARD OF 'laws.FnExactValidTxn'. -/
def fnExactValidTxnCard : Claim7 := { stood := { row := fnExactValidTxnRow, standIns := [], harness := (true, "49ff341ecfdd72798b2823b10c8066804114cc3508032c44548c9d91d685f056"), looks := true }, kinds := [], alts := [], laidByText := true, laidKinds := [.data, .pinned], laidTests := true, laidLooks := .later }
def FnExactValidTxnCardSaid : Prop := Claim7.holds Tryd.pinned (.plain (OpenSpec.ofChange fnExactValidTxnSpec)) fnExactValidTxnCard

/-- THE TIED CARD OF 'laws.FnExactDecodeTxn'. -/
def fnExactDecodeTxnCard : Claim7 := { stood := { row := fnExactDecodeTxnRow, standIns := [], harness := (true, "49ff341ecfdd72798b2823b10c8066804114cc3508032c44548c9d91d685f056"), looks := true }, kinds := [], alts := [], laidByText := true, laidKinds := [.data, .pinned], laidTests := true, laidLooks := .later }
def FnExactDecodeTxnCardSaid : Prop := Claim7.holds Tryd.pinned (.plain (OpenSpec.ofChange fnExactDecodeTxnSpec)) fnExactDecodeTxnCard

/-- THE TIED CARD OF 'laws.FnExactDecodeTree'. -/
def fnExactDecodeTreeCard : Claim7 := { stood := { row := fnExactDecodeTreeRow, standIns := [], harness := (true, "49ff341ecfdd72798b2823b10c8066804114cc3508032c44548c9d91d685f056"), looks := true }, kinds := [], alts := [], laidByText := true, laidKinds := [.data, .pinned], laidTests := true, laidLooks := .later }
def FnExactDecodeTreeCardSaid : Prop := Claim7.holds Tryd.pinned (.plain (OpenSpec.ofChange fnExactDecodeTreeSpec)) fnExactDecodeTreeCard

/-- THE TIED CARD OF 'laws.FnExactChildren'. -/
def fnExactChildrenCard : Claim7 := { stood := { row := fnExactChildrenRow, standIns := [], harness := (true, "49ff341ecfdd72798b2823b10c8066804114cc3508032c44548c9d91d685f056"), looks := true }, kinds := [], alts := [], laidByText := true, laidKinds := [.data, .pinned], laidTests := true, laidLooks := .later }
def FnExactChildrenCardSaid : Prop := Claim7.holds Tryd.pinned (.plain (OpenSpec.ofChange fnExactChildrenSpec)) fnExactChildrenCard

/-- THE TIED CARD OF 'laws.FnExactEncodeTree'. -/
def fnExactEncodeTreeCard : Claim7 := { stood := { row := fnExactEncodeTreeRow, standIns := [], harness := (true, "49ff341ecfdd72798b2823b10c8066804114cc3508032c44548c9d91d685f056"), looks := true }, kinds := [], alts := [], laidByText := true, laidKinds := [.data, .pinned], laidTests := true, laidLooks := .later }
def FnExactEncodeTreeCardSaid : Prop := Claim7.holds Tryd.pinned (.plain (OpenSpec.ofChange fnExactEncodeTreeSpec)) fnExactEncodeTreeCard

/-- THE TIED CARD OF 'laws.FnExactEncodeTxn'. -/
def fnExactEncodeTxnCard : Claim7 := { stood := { row := fnExactEncodeTxnRow, standIns := [], harness := (true, "49ff341ecfdd72798b2823b10c8066804114cc3508032c44548c9d91d685f056"), looks := true }, kinds := [], alts := [], laidByText := true, laidKinds := [.data, .pinned], laidTests := true, laidLooks := .later }
def FnExactEncodeTxnCardSaid : Prop := Claim7.holds Tryd.pinned (.plain (OpenSpec.ofChange fnExactEncodeTxnSpec)) fnExactEncodeTxnCard

/-- THE TIED CARD OF 'laws.FnExactApplyTxn'. -/
def fnExactApplyTxnCard : Claim7 := { stood := { row := fnExactApplyTxnRow, standIns := [], harness := (true, "49ff341ecfdd72798b2823b10c8066804114cc3508032c44548c9d91d685f056"), looks := true }, kinds := [], alts := [], laidByText := true, laidKinds := [.data, .pinned], laidTests := true, laidLooks := .later }
def FnExactApplyTxnCardSaid : Prop := Claim7.holds Tryd.pinned (.plain (OpenSpec.ofChange fnExactApplyTxnSpec)) fnExactApplyTxnCard

/-- THE SECOND FORM's CARD OF 'laws.FnExactValidPath'. -/
def fnExactValidPathUptoCard : Claim7 := { stood := { row := fnExactValidPathUptoRow, standIns := [], harness := (true, "49ff341ecfdd72798b2823b10c8066804114cc3508032c44548c9d91d685f056"), looks := true }, kinds := [], alts := [], laidByText := true, laidKinds := [.data, .pinned], laidTests := true, laidLooks := .later }
def FnExactValidPathUptoCardSaid : Prop := Claim7.holds Tryd.pinned (.plain (OpenSpec.upto fnExactValidPathSpec)) fnExactValidPathUptoCard

/-- THE SECOND FORM's CARD OF 'laws.FnExactValidTree'. -/
def fnExactValidTreeUptoCard : Claim7 := { stood := { row := fnExactValidTreeUptoRow, standIns := [], harness := (true, "49ff341ecfdd72798b2823b10c8066804114cc3508032c44548c9d91d685f056"), looks := true }, kinds := [], alts := [], laidByText := true, laidKinds := [.data, .pinned], laidTests := true, laidLooks := .later }
def FnExactValidTreeUptoCardSaid : Prop := Claim7.holds Tryd.pinned (.plain (OpenSpec.upto fnExactValidTreeSpec)) fnExactValidTreeUptoCard

/-- THE SECOND FORM's CARD OF 'laws.FnExactValidTxn'. -/
def fnExactValidTxnUptoCard : Claim7 := { stood := { row := fnExactValidTxnUptoRow, standIns := [], harness := (true, "49ff341ecfdd72798b2823b10c8066804114cc3508032c44548c9d91d685f056"), looks := true }, kinds := [], alts := [], laidByText := true, laidKinds := [.data, .pinned], laidTests := true, laidLooks := .later }
def FnExactValidTxnUptoCardSaid : Prop := Claim7.holds Tryd.pinned (.plain (OpenSpec.upto fnExactValidTxnSpec)) fnExactValidTxnUptoCard

/-- THE SECOND FORM's CARD OF 'laws.FnExactDecodeTxn'. -/
def fnExactDecodeTxnUptoCard : Claim7 := { stood := { row := fnExactDecodeTxnUptoRow, standIns := [], harness := (true, "49ff341ecfdd72798b2823b10c8066804114cc3508032c44548c9d91d685f056"), looks := true }, kinds := [], alts := [], laidByText := true, laidKinds := [.data, .pinned], laidTests := true, laidLooks := .later }
def FnExactDecodeTxnUptoCardSaid : Prop := Claim7.holds Tryd.pinned (.plain (OpenSpec.upto fnExactDecodeTxnSpec)) fnExactDecodeTxnUptoCard

/-- THE SECOND FORM's CARD OF 'laws.FnExactDecodeTree'. -/
def fnExactDecodeTreeUptoCard : Claim7 := { stood := { row := fnExactDecodeTreeUptoRow, standIns := [], harness := (true, "49ff341ecfdd72798b2823b10c8066804114cc3508032c44548c9d91d685f056"), looks := true }, kinds := [], alts := [], laidByText := true, laidKinds := [.data, .pinned], laidTests := true, laidLooks := .later }
def FnExactDecodeTreeUptoCardSaid : Prop := Claim7.holds Tryd.pinned (.plain (OpenSpec.upto fnExactDecodeTreeSpec)) fnExactDecodeTreeUptoCard

/-- THE SECOND FORM's CARD OF 'laws.FnExactChildren'. -/
def fnExactChildrenUptoCard : Claim7 := { stood := { row := fnExactChildrenUptoRow, standIns := [], harness := (true, "49ff341ecfdd72798b2823b10c8066804114cc3508032c44548c9d91d685f056"), looks := true }, kinds := [], alts := [], laidByText := true, laidKinds := [.data, .pinned], laidTests := true, laidLooks := .later }
def FnExactChildrenUptoCardSaid : Prop := Claim7.holds Tryd.pinned (.plain (OpenSpec.upto fnExactChildrenSpec)) fnExactChildrenUptoCard

/-- THE SECOND FORM's CARD OF 'laws.FnExactEncodeTree'. -/
def fnExactEncodeTreeUptoCard : Claim7 := { stood := { row := fnExactEncodeTreeUptoRow, standIns := [], harness := (true, "49ff341ecfdd72798b2823b10c8066804114cc3508032c44548c9d91d685f056"), looks := true }, kinds := [], alts := [], laidByText := true, laidKinds := [.data, .pinned], laidTests := true, laidLooks := .later }
def FnExactEncodeTreeUptoCardSaid : Prop := Claim7.holds Tryd.pinned (.plain (OpenSpec.upto fnExactEncodeTreeSpec)) fnExactEncodeTreeUptoCard

/-- THE SECOND FORM's CARD OF 'laws.FnExactEncodeTxn'. -/
def fnExactEncodeTxnUptoCard : Claim7 := { stood := { row := fnExactEncodeTxnUptoRow, standIns := [], harness := (true, "49ff341ecfdd72798b2823b10c8066804114cc3508032c44548c9d91d685f056"), looks := true }, kinds := [], alts := [], laidByText := true, laidKinds := [.data, .pinned], laidTests := true, laidLooks := .later }
def FnExactEncodeTxnUptoCardSaid : Prop := Claim7.holds Tryd.pinned (.plain (OpenSpec.upto fnExactEncodeTxnSpec)) fnExactEncodeTxnUptoCard

/-- THE SECOND FORM's CARD OF 'laws.FnExactApplyTxn'. -/
def fnExactApplyTxnUptoCard : Claim7 := { stood := { row := fnExactApplyTxnUptoRow, standIns := [], harness := (true, "49ff341ecfdd72798b2823b10c8066804114cc3508032c44548c9d91d685f056"), looks := true }, kinds := [], alts := [], laidByText := true, laidKinds := [.data, .pinned], laidTests := true, laidLooks := .later }
def FnExactApplyTxnUptoCardSaid : Prop := Claim7.holds Tryd.pinned (.plain (OpenSpec.upto fnExactApplyTxnSpec)) fnExactApplyTxnUptoCard
end Rows
end Go.Proofs.YtgjenbgclpmjmaaDoor
