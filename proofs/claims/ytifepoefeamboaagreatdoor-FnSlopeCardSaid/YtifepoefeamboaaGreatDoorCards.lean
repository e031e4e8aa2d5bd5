/-
  DERIVED. GIVEN WITH THE SEED: THE CARDS: each row of YtifepoefeamboaaGreatDoorRows.lean that lists a variable, with what it lists TIED to the program's text (the seventh form; the later family's looks); each row that meets fmt, with fmt's text TOLD by the authors' own Lean function (tested against real Go, not proved from fmt's source: count such statements apart). THE CARD IS WHAT COUNTS. Prove the row's statement (the work); the ties are given (YtifepoefeamboaaGreatDoorTie.lean); close each card by the builder's one call (the guide's Derived/Test/ToyasCard.lean, 'card_holds'). Laid BY PROGRAM, IN A SANDBOX (cutbox-door.mjs). By AI agents, Wed Nov 11 2026. No macro, syntax, notation, axiom, sorry.
-/
import Derived.Test.YtifepoefeamboaaGreatDoorRows
import GoSem.ClaimSeven
namespace Go.Proofs.YtifepoefeamboaaGreatDoor
namespace Rows

/-- THE TIED CARD OF 'laws.FnSlope'. -/
def fnSlopeCard : Claim7 := { stood := { row := fnSlopeRow, standIns := [], harness := (true, "499fdf5c8531c67fc6e5eaf5441ff463a09c45a72f7c02bb0382e250d3a788d7"), looks := true }, kinds := [], alts := [], laidByText := true, laidKinds := [.sentinel], laidTests := true, laidLooks := .later }
def FnSlopeCardSaid : Prop := Claim7.holds Tryz.pinned (.plain (OpenSpec.ofChange fnSlopeSpec)) fnSlopeCard

/-- THE TIED CARD OF 'laws.FnExactValueOf'. -/
def fnExactValueOfCard : Claim7 := { stood := { row := fnExactValueOfRow, standIns := [], harness := (true, "499fdf5c8531c67fc6e5eaf5441ff463a09c45a72f7c02bb0382e250d3a788d7"), looks := true }, kinds := [], alts := [], laidByText := true, laidKinds := [.sentinel], laidTests := true, laidLooks := .later }
def FnExactValueOfCardSaid : Prop := Claim7.holds Tryz.pinned (.plain (OpenSpec.ofChange fnExactValueOfSpec)) fnExactValueOfCard

/-- THE TIED CARD OF 'laws.FnExactSlopeOf'. -/
def fnExactSlopeOfCard : Claim7 := { stood := { row := fnExactSlopeOfRow, standIns := [], harness := (true, "499fdf5c8531c67fc6e5eaf5441ff463a09c45a72f7c02bb0382e250d3a788d7"), looks := true }, kinds := [], alts := [], laidByText := true, laidKinds := [.sentinel], laidTests := true, laidLooks := .later }
def FnExactSlopeOfCardSaid : Prop := Claim7.holds Tryz.pinned (.plain (OpenSpec.ofChange fnExactSlopeOfSpec)) fnExactSlopeOfCard

/-- THE TIED CARD OF 'laws.FnExactGradOf'. -/
def fnExactGradOfCard : Claim7 := { stood := { row := fnExactGradOfRow, standIns := [], harness := (true, "499fdf5c8531c67fc6e5eaf5441ff463a09c45a72f7c02bb0382e250d3a788d7"), looks := true }, kinds := [], alts := [], laidByText := true, laidKinds := [.sentinel], laidTests := true, laidLooks := .later }
def FnExactGradOfCardSaid : Prop := Claim7.holds Tryz.pinned (.plain (OpenSpec.ofChange fnExactGradOfSpec)) fnExactGradOfCard

/-- THE TIED CARD OF 'laws.FnExactCurveOf'. -/
def fnExactCurveOfCard : Claim7 := { stood := { row := fnExactCurveOfRow, standIns := [], harness := (true, "499fdf5c8531c67fc6e5eaf5441ff463a09c45a72f7c02bb0382e250d3a788d7"), looks := true }, kinds := [], alts := [], laidByText := true, laidKinds := [.sentinel], laidTests := true, laidLooks := .later }
def FnExactCurveOfCardSaid : Prop := Claim7.holds Tryz.pinned (.plain (OpenSpec.ofChange fnExactCurveOfSpec)) fnExactCurveOfCard

/-- THE TIED CARD OF 'laws.FnExactHessOf'. -/
def fnExactHessOfCard : Claim7 := { stood := { row := fnExactHessOfRow, standIns := [], harness := (true, "499fdf5c8531c67fc6e5eaf5441ff463a09c45a72f7c02bb0382e250d3a788d7"), looks := true }, kinds := [], alts := [], laidByText := true, laidKinds := [.sentinel], laidTests := true, laidLooks := .later }
def FnExactHessOfCardSaid : Prop := Claim7.holds Tryz.pinned (.plain (OpenSpec.ofChange fnExactHessOfSpec)) fnExactHessOfCard

/-- THE SECOND FORM's CARD OF 'laws.FnSlope'. -/
def fnSlopeUptoCard : Claim7 := { stood := { row := fnSlopeUptoRow, standIns := [], harness := (true, "499fdf5c8531c67fc6e5eaf5441ff463a09c45a72f7c02bb0382e250d3a788d7"), looks := true }, kinds := [], alts := [], laidByText := true, laidKinds := [.sentinel], laidTests := true, laidLooks := .later }
def FnSlopeUptoCardSaid : Prop := Claim7.holds Tryz.pinned (.plain (OpenSpec.upto fnSlopeSpec)) fnSlopeUptoCard

/-- THE SECOND FORM's CARD OF 'laws.FnExactValueOf'. -/
def fnExactValueOfUptoCard : Claim7 := { stood := { row := fnExactValueOfUptoRow, standIns := [], harness := (true, "499fdf5c8531c67fc6e5eaf5441ff463a09c45a72f7c02bb0382e250d3a788d7"), looks := true }, kinds := [], alts := [], laidByText := true, laidKinds := [.sentinel], laidTests := true, laidLooks := .later }
def FnExactValueOfUptoCardSaid : Prop := Claim7.holds Tryz.pinned (.plain (OpenSpec.upto fnExactValueOfSpec)) fnExactValueOfUptoCard

/-- THE SECOND FORM's CARD OF 'laws.FnExactSlopeOf'. -/
def fnExactSlopeOfUptoCard : Claim7 := { stood := { row := fnExactSlopeOfUptoRow, standIns := [], harness := (true, "499fdf5c8531c67fc6e5eaf5441ff463a09c45a72f7c02bb0382e250d3a788d7"), looks := true }, kinds := [], alts := [], laidByText := true, laidKinds := [.sentinel], laidTests := true, laidLooks := .later }
def FnExactSlopeOfUptoCardSaid : Prop := Claim7.holds Tryz.pinned (.plain (OpenSpec.upto fnExactSlopeOfSpec)) fnExactSlopeOfUptoCard

/-- THE SECOND FORM's CARD OF 'laws.FnExactGradOf'. -/
def fnExactGradOfUptoCard : Claim7 := { stood := { row := fnExactGradOfUptoRow, standIns := [], harness := (true, "499fdf5c8531c67fc6e5eaf5441ff463a09c45a72f7c02bb0382e250d3a788d7"), looks := true }, kinds := [], alts := [], laidByText := true, laidKinds := [.sentinel], laidTests := true, laidLooks := .later }
def FnExactGradOfUptoCardSaid : Prop := Claim7.holds Tryz.pinned (.plain (OpenSpec.upto fnExactGradOfSpec)) fnExactGradOfUptoCard

/-- THE SECOND FORM's CARD OF 'laws.FnExactCurveOf'. -/
def fnExactCurveOfUptoCard : Claim7 := { stood := { row := fnExactCurveOfUptoRow, standIns := [], harness := (true, "499fdf5c8531c67fc6e5eaf5441ff463a09c45a72f7c02bb0382e250d3a788d7"), looks := true }, kinds := [], alts := [], laidByText := true, laidKinds := [.sentinel], laidTests := true, laidLooks := .later }
def FnExactCurveOfUptoCardSaid : Prop := Claim7.holds Tryz.pinned (.plain (OpenSpec.upto fnExactCurveOfSpec)) fnExactCurveOfUptoCard

/-- THE SECOND FORM's CARD OF 'laws.FnExactHessOf'. -/
def fnExactHessOfUptoCard : Claim7 := { stood := { row := fnExactHessOfUptoRow, standIns := [], harness := (true, "499fdf5c8531c67fc6e5eaf5441ff463a09c45a72f7c02bb0382e250d3a788d7"), looks := true }, kinds := [], alts := [], laidByText := true, laidKinds := [.sentinel], laidTests := true, laidLooks := .later }
def FnExactHessOfUptoCardSaid : Prop := Claim7.holds Tryz.pinned (.plain (OpenSpec.upto fnExactHessOfSpec)) fnExactHessOfUptoCard
end Rows
end Go.Proofs.YtifepoefeamboaaGreatDoor
