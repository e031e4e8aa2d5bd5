/-
  DERIVED. GIVEN WITH THE SEED: THE CARDS: each row of YtlphcpkhclfkaaaDoorRows.lean that lists a variable, with what it lists TIED to the program's text (the seventh form; the later family's looks); each row that meets fmt, with fmt's text TOLD by the authors' own Lean function (tested against real Go, not proved from fmt's source: count such statements apart). THE CARD IS WHAT COUNTS. Prove the row's statement (the work); the ties are given (YtlphcpkhclfkaaaDoorTie.lean); close each card by the builder's one call (the guide's Derived/Test/ToyasCard.lean, 'card_holds'). Laid BY PROGRAM, IN A SANDBOX (cutbox-door.mjs). By AI agents, Wed Nov 11 2026. No macro, syntax, notation, axiom, sorry.
-/
import Derived.Test.YtlphcpkhclfkaaaDoorRows
import GoSem.ClaimSeven
namespace Go.Proofs.YtlphcpkhclfkaaaDoor
namespace Rows

/-- THE TIED CARD OF 'laws.FnExactPrintExpr'. -/
def fnExactPrintExprCard : Claim7 := { stood := { row := fnExactPrintExprRow, standIns := [], harness := (true, "c1aecc6103df34c0b139cf1dd412c555983a527000f8a5a1029f6f6b150bc401"), looks := false }, kinds := [], alts := [], laidByText := true, laidKinds := [.data, .data, .data, .data], laidTests := true, laidLooks := .later }
def FnExactPrintExprCardSaid : Prop := Claim7.holds Tryd.pinned (.plain (OpenSpec.ofChange fnExactPrintExprSpec)) fnExactPrintExprCard

/-- THE TIED CARD OF 'laws.FnExactTapeText'. -/
def fnExactTapeTextCard : Claim7 := { stood := { row := fnExactTapeTextRow, standIns := [], harness := (true, "c1aecc6103df34c0b139cf1dd412c555983a527000f8a5a1029f6f6b150bc401"), looks := false }, kinds := [], alts := [], laidByText := true, laidKinds := [.data, .data, .data, .data], laidTests := true, laidLooks := .later }
def FnExactTapeTextCardSaid : Prop := Claim7.holds Tryd.pinned (.plain (OpenSpec.ofChange fnExactTapeTextSpec)) fnExactTapeTextCard

/-- THE SECOND FORM's CARD OF 'laws.FnExactPrintExpr'. -/
def fnExactPrintExprUptoCard : Claim7 := { stood := { row := fnExactPrintExprUptoRow, standIns := [], harness := (true, "c1aecc6103df34c0b139cf1dd412c555983a527000f8a5a1029f6f6b150bc401"), looks := false }, kinds := [], alts := [], laidByText := true, laidKinds := [.data, .data, .data, .data], laidTests := true, laidLooks := .later }
def FnExactPrintExprUptoCardSaid : Prop := Claim7.holds Tryd.pinned (.plain (OpenSpec.upto fnExactPrintExprSpec)) fnExactPrintExprUptoCard

/-- THE SECOND FORM's CARD OF 'laws.FnExactTapeText'. -/
def fnExactTapeTextUptoCard : Claim7 := { stood := { row := fnExactTapeTextUptoRow, standIns := [], harness := (true, "c1aecc6103df34c0b139cf1dd412c555983a527000f8a5a1029f6f6b150bc401"), looks := false }, kinds := [], alts := [], laidByText := true, laidKinds := [.data, .data, .data, .data], laidTests := true, laidLooks := .later }
def FnExactTapeTextUptoCardSaid : Prop := Claim7.holds Tryd.pinned (.plain (OpenSpec.upto fnExactTapeTextSpec)) fnExactTapeTextUptoCard
end Rows
end Go.Proofs.YtlphcpkhclfkaaaDoor
