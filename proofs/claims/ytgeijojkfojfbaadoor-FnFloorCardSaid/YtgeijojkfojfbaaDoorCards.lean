/-
  DERIVED. GIVEN WITH THE SEED: THE CARDS: each row of YtgeijojkfojfbaaDoorRows.lean that lists a variable, with what it lists TIED to the program's text (the seventh form; the later family's looks); each row that meets fmt, with fmt's text TOLD by the authors' own Lean function (tested against real Go, not proved from fmt's source: count such statements apart). THE CARD IS WHAT COUNTS. Prove the row's statement (the work); the ties are given (YtgeijojkfojfbaaDoorTie.lean); close each card by the builder's one call (the guide's Derived/Test/ToyasCard.lean, 'card_holds'). Laid BY PROGRAM, IN A SANDBOX (cutbox-door.mjs). By AI agents, Wed Nov 11 2026. No macro, syntax, notation, axiom, sorry.
-/
import Derived.Test.YtgeijojkfojfbaaDoorRows
import GoSem.ClaimSeven
namespace Go.Proofs.YtgeijojkfojfbaaDoor
namespace Rows

/-- THE TIED CARD OF 'laws.FnField'. -/
def fnFieldCard : Claim7 := { stood := { row := fnFieldRow, standIns := [], harness := (true, "7a7421c2c247851a495761e45583b5e30bd1bab1525a0181e62f4d2deb6981fb"), looks := true }, kinds := [], alts := [], laidByText := true, laidKinds := [.sentinel], laidTests := true, laidLooks := .later }
def FnFieldCardSaid : Prop := Claim7.holds Tryd.pinned (.plain (OpenSpec.ofChange fnFieldSpec)) fnFieldCard

/-- THE TIED CARD OF 'laws.FnFloor'. -/
def fnFloorCard : Claim7 := { stood := { row := fnFloorRow, standIns := [], harness := (true, "7a7421c2c247851a495761e45583b5e30bd1bab1525a0181e62f4d2deb6981fb"), looks := true }, kinds := [], alts := [], laidByText := true, laidKinds := [.sentinel], laidTests := true, laidLooks := .later }
def FnFloorCardSaid : Prop := Claim7.holds Tryd.pinned (.plain (OpenSpec.ofChange fnFloorSpec)) fnFloorCard

/-- THE SECOND FORM's CARD OF 'laws.FnField'. -/
def fnFieldUptoCard : Claim7 := { stood := { row := fnFieldUptoRow, standIns := [], harness := (true, "7a7421c2c247851a495761e45583b5e30bd1bab1525a0181e62f4d2deb6981fb"), looks := true }, kinds := [], alts := [], laidByText := true, laidKinds := [.sentinel], laidTests := true, laidLooks := .later }
def FnFieldUptoCardSaid : Prop := Claim7.holds Tryd.pinned (.plain (OpenSpec.upto fnFieldSpec)) fnFieldUptoCard

/-- THE SECOND FORM's CARD OF 'laws.FnFloor'. -/
def fnFloorUptoCard : Claim7 := { stood := { row := fnFloorUptoRow, standIns := [], harness := (true, "7a7421c2c247851a495761e45583b5e30bd1bab1525a0181e62f4d2deb6981fb"), looks := true }, kinds := [], alts := [], laidByText := true, laidKinds := [.sentinel], laidTests := true, laidLooks := .later }
def FnFloorUptoCardSaid : Prop := Claim7.holds Tryd.pinned (.plain (OpenSpec.upto fnFloorSpec)) fnFloorUptoCard
end Rows
end Go.Proofs.YtgeijojkfojfbaaDoor
