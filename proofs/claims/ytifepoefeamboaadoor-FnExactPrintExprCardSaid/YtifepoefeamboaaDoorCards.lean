/-
  DERIVED. GIVEN WITH THE SEED: THE CARDS: each row of YtifepoefeamboaaDoorRows.lean that lists a variable, with what it lists TIED to the program's text (the seventh form; the later family's looks); each row that meets fmt, with fmt's text TOLD by the authors' own Lean function (tested against real Go, not proved from fmt's source: count such statements apart). THE CARD IS WHAT COUNTS. Prove the row's statement (the work); the ties are given (YtifepoefeamboaaDoorTie.lean); close each card by the builder's one call (the guide's Derived/Test/ToyasCard.lean, 'card_holds'). Laid BY PROGRAM, IN A SANDBOX (cutbox-door.mjs). By AI agents, Wed Nov 11 2026. No macro, syntax, notation, axiom, sorry.
-/
import Derived.Test.YtifepoefeamboaaDoorRows
import GoSem.ClaimSeven
namespace Go.Proofs.YtifepoefeamboaaDoor
namespace Rows

/-- THE TIED CARD OF 'laws.FnExactSolverWord'. -/
def fnExactSolverWordCard : Claim7 := { stood := { row := fnExactSolverWordRow, standIns := [], harness := (true, "9aa770c30ac88dd3f45e948d2e01cfbd313f25450ca8005a4e8c7c0cddd24443"), looks := false }, kinds := [], alts := [], laidByText := true, laidKinds := [.data], laidTests := true, laidLooks := .later }
def FnExactSolverWordCardSaid : Prop := Claim7.holds Tryd.pinned (.plain (OpenSpec.ofChange fnExactSolverWordSpec)) fnExactSolverWordCard

/-- THE TIED CARD OF 'laws.FnExactTapeText'. -/
def fnExactTapeTextCard : Claim7 := { stood := { row := fnExactTapeTextRow, standIns := [], harness := (true, "9aa770c30ac88dd3f45e948d2e01cfbd313f25450ca8005a4e8c7c0cddd24443"), looks := false }, kinds := [], alts := [], laidByText := true, laidKinds := [.data, .data, .data, .data], laidTests := true, laidLooks := .later }
def FnExactTapeTextCardSaid : Prop := Claim7.holds Tryd.pinned (.plain (OpenSpec.ofChange fnExactTapeTextSpec)) fnExactTapeTextCard

/-- THE TIED CARD OF 'laws.FnExactPrintExpr'. -/
def fnExactPrintExprCard : Claim7 := { stood := { row := fnExactPrintExprRow, standIns := [], harness := (true, "9aa770c30ac88dd3f45e948d2e01cfbd313f25450ca8005a4e8c7c0cddd24443"), looks := false }, kinds := [], alts := [], laidByText := true, laidKinds := [.data, .data, .data, .data], laidTests := true, laidLooks := .later }
def FnExactPrintExprCardSaid : Prop := Claim7.holds Tryd.pinned (.plain (OpenSpec.ofChange fnExactPrintExprSpec)) fnExactPrintExprCard

/-- THE SECOND FORM's CARD OF 'laws.FnExactSolverWord'. -/
def fnExactSolverWordUptoCard : Claim7 := { stood := { row := fnExactSolverWordUptoRow, standIns := [], harness := (true, "9aa770c30ac88dd3f45e948d2e01cfbd313f25450ca8005a4e8c7c0cddd24443"), looks := false }, kinds := [], alts := [], laidByText := true, laidKinds := [.data], laidTests := true, laidLooks := .later }
def FnExactSolverWordUptoCardSaid : Prop := Claim7.holds Tryd.pinned (.plain (OpenSpec.upto fnExactSolverWordSpec)) fnExactSolverWordUptoCard

/-- THE SECOND FORM's CARD OF 'laws.FnExactTapeText'. -/
def fnExactTapeTextUptoCard : Claim7 := { stood := { row := fnExactTapeTextUptoRow, standIns := [], harness := (true, "9aa770c30ac88dd3f45e948d2e01cfbd313f25450ca8005a4e8c7c0cddd24443"), looks := false }, kinds := [], alts := [], laidByText := true, laidKinds := [.data, .data, .data, .data], laidTests := true, laidLooks := .later }
def FnExactTapeTextUptoCardSaid : Prop := Claim7.holds Tryd.pinned (.plain (OpenSpec.upto fnExactTapeTextSpec)) fnExactTapeTextUptoCard

/-- THE SECOND FORM's CARD OF 'laws.FnExactPrintExpr'. -/
def fnExactPrintExprUptoCard : Claim7 := { stood := { row := fnExactPrintExprUptoRow, standIns := [], harness := (true, "9aa770c30ac88dd3f45e948d2e01cfbd313f25450ca8005a4e8c7c0cddd24443"), looks := false }, kinds := [], alts := [], laidByText := true, laidKinds := [.data, .data, .data, .data], laidTests := true, laidLooks := .later }
def FnExactPrintExprUptoCardSaid : Prop := Claim7.holds Tryd.pinned (.plain (OpenSpec.upto fnExactPrintExprSpec)) fnExactPrintExprUptoCard
end Rows
end Go.Proofs.YtifepoefeamboaaDoor
