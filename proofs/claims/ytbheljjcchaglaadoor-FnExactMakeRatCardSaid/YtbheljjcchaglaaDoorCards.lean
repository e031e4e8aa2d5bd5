/-
  DERIVED. GIVEN WITH THE SEED: THE CARDS: each row of YtbheljjcchaglaaDoorRows.lean that lists a variable, with what it lists TIED to the program's text (the seventh form; the later family's looks); each row that meets fmt, with fmt's text TOLD by the authors' own Lean function (tested against real Go, not proved from fmt's source: count such statements apart). THE CARD IS WHAT COUNTS. Prove the row's statement (the work); the ties are given (YtbheljjcchaglaaDoorTie.lean); close each card by the builder's one call (the guide's Derived/Test/ToyasCard.lean, 'card_holds'). Laid BY PROGRAM, IN A SANDBOX (cutbox-door.mjs). By AI agents, Wed Nov 11 2026. No macro, syntax, notation, axiom, sorry.
-/
import Derived.Test.YtbheljjcchaglaaDoorRows
import GoSem.ClaimSeven
namespace Go.Proofs.YtbheljjcchaglaaDoor
namespace Rows

/-- THE TIED CARD OF 'laws.FnExactDivRat'. -/
def fnExactDivRatCard : Claim7 := { stood := { row := fnExactDivRatRow, standIns := [], harness := (true, "9321735e65c2f46b8c83f4771d7beaa827d86a28833cce5dd08fda5b86c5c14b"), looks := true }, kinds := [], alts := [], laidByText := true, laidKinds := [.sentinel], laidTests := true, laidLooks := .later }
def FnExactDivRatCardSaid : Prop := Claim7.holds Tryd.pinned (.plain (OpenSpec.ofChange fnExactDivRatSpec)) fnExactDivRatCard

/-- THE TIED CARD OF 'laws.FnExactMakeRat'. -/
def fnExactMakeRatCard : Claim7 := { stood := { row := fnExactMakeRatRow, standIns := [], harness := (true, "9321735e65c2f46b8c83f4771d7beaa827d86a28833cce5dd08fda5b86c5c14b"), looks := true }, kinds := [], alts := [], laidByText := true, laidKinds := [.sentinel], laidTests := true, laidLooks := .later }
def FnExactMakeRatCardSaid : Prop := Claim7.holds Tryd.pinned (.plain (OpenSpec.ofChange fnExactMakeRatSpec)) fnExactMakeRatCard

/-- THE TIED CARD OF 'laws.FnField'. -/
def fnFieldCard : Claim7 := { stood := { row := fnFieldRow, standIns := [], harness := (true, "9321735e65c2f46b8c83f4771d7beaa827d86a28833cce5dd08fda5b86c5c14b"), looks := true }, kinds := [], alts := [], laidByText := true, laidKinds := [.sentinel], laidTests := true, laidLooks := .later }
def FnFieldCardSaid : Prop := Claim7.holds Tryd.pinned (.plain (OpenSpec.ofChange fnFieldSpec)) fnFieldCard

/-- THE TIED CARD OF 'laws.FnFloor'. -/
def fnFloorCard : Claim7 := { stood := { row := fnFloorRow, standIns := [], harness := (true, "9321735e65c2f46b8c83f4771d7beaa827d86a28833cce5dd08fda5b86c5c14b"), looks := true }, kinds := [], alts := [], laidByText := true, laidKinds := [.sentinel], laidTests := true, laidLooks := .later }
def FnFloorCardSaid : Prop := Claim7.holds Tryd.pinned (.plain (OpenSpec.ofChange fnFloorSpec)) fnFloorCard

/-- THE SECOND FORM's CARD OF 'laws.FnExactDivRat'. -/
def fnExactDivRatUptoCard : Claim7 := { stood := { row := fnExactDivRatUptoRow, standIns := [], harness := (true, "9321735e65c2f46b8c83f4771d7beaa827d86a28833cce5dd08fda5b86c5c14b"), looks := true }, kinds := [], alts := [], laidByText := true, laidKinds := [.sentinel], laidTests := true, laidLooks := .later }
def FnExactDivRatUptoCardSaid : Prop := Claim7.holds Tryd.pinned (.plain (OpenSpec.upto fnExactDivRatSpec)) fnExactDivRatUptoCard

/-- THE SECOND FORM's CARD OF 'laws.FnExactMakeRat'. -/
def fnExactMakeRatUptoCard : Claim7 := { stood := { row := fnExactMakeRatUptoRow, standIns := [], harness := (true, "9321735e65c2f46b8c83f4771d7beaa827d86a28833cce5dd08fda5b86c5c14b"), looks := true }, kinds := [], alts := [], laidByText := true, laidKinds := [.sentinel], laidTests := true, laidLooks := .later }
def FnExactMakeRatUptoCardSaid : Prop := Claim7.holds Tryd.pinned (.plain (OpenSpec.upto fnExactMakeRatSpec)) fnExactMakeRatUptoCard

/-- THE SECOND FORM's CARD OF 'laws.FnField'. -/
def fnFieldUptoCard : Claim7 := { stood := { row := fnFieldUptoRow, standIns := [], harness := (true, "9321735e65c2f46b8c83f4771d7beaa827d86a28833cce5dd08fda5b86c5c14b"), looks := true }, kinds := [], alts := [], laidByText := true, laidKinds := [.sentinel], laidTests := true, laidLooks := .later }
def FnFieldUptoCardSaid : Prop := Claim7.holds Tryd.pinned (.plain (OpenSpec.upto fnFieldSpec)) fnFieldUptoCard

/-- THE SECOND FORM's CARD OF 'laws.FnFloor'. -/
def fnFloorUptoCard : Claim7 := { stood := { row := fnFloorUptoRow, standIns := [], harness := (true, "9321735e65c2f46b8c83f4771d7beaa827d86a28833cce5dd08fda5b86c5c14b"), looks := true }, kinds := [], alts := [], laidByText := true, laidKinds := [.sentinel], laidTests := true, laidLooks := .later }
def FnFloorUptoCardSaid : Prop := Claim7.holds Tryd.pinned (.plain (OpenSpec.upto fnFloorSpec)) fnFloorUptoCard
end Rows
end Go.Proofs.YtbheljjcchaglaaDoor
