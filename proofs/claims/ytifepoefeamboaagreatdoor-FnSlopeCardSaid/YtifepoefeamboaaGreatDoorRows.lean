/-
  NARROWER THAN 'FOR EVERY INPUT', by the rows' own cells (each row's printed sentence says how): FnSlope: ifaces, laid · FnExactValueOf: ifaces, laid · FnExactSlopeOf: ifaces, laid · FnExactGradOf: ifaces, laid · FnExactCurveOf: ifaces, laid · FnExactHessOf: ifaces, laid.
  DERIVED. THE GIVEN ROWS OF THIS SEAT. 6 by the template 'for every input the law returns true; each argument reads behind the call as it read before'; 0 by the template 'total and deterministic' (their statements: YtifepoefeamboaaGreatDoorTotals.lean).
  GIVEN WITH THE SEED: the statements are not yours to turn. If you find one false, say at which input.
  Laid BY PROGRAM, IN A SANDBOX (cutbox-rows.mjs): the forced cells as the released guide's own fill.sh prints them over the translation 81767e091cd2b431… (all of the seat's roots in one cut). By AI agents, Wed Nov 11 2026. No macro, syntax, notation, axiom, sorry.
-/
import Derived.Test.YtifepoefeamboaaGreatDoorChecked
import GoSem.Claim
import GoSem.ClaimJoined
import GoSem.ClaimMapViews
import Derived.JoinedTies
import Derived.KernelRfl
namespace Go.Proofs.YtifepoefeamboaaGreatDoor
/- THE CELL 'sum', in the pinned program and in every row, IS THE sha256 OF THE DUMP (.gsa) THAT YtifepoefeamboaaGreatDoorProg.lean LOADS. Nothing in Lean hashes anything: it is a label: what it is worth is what the hold of that sum in a sandbox is worth. -/
noncomputable def Tryz.pinned : Pinned := { name := "ytifepoefeamboaagreatdoor", sum := "81767e091cd2b431cf8bf27463d7f3c70172cdd0ecd8c13509ae4d1bde754661", checked := Tryz.checked }
namespace Rows
def none {H : Type} : Left H := { results := [], args := [] }

/- WHAT THE LISTED PACKAGE-LEVEL VARIABLES READ AS WHEN THE CALL BEGINS. Each datum BY PROGRAM (the guide's laid-datum.mjs) off the statement by which the dump's own 'gosem.cut.vars' lays the variable. In a bare row this is a premise. The card (YtifepoefeamboaaGreatDoorCards.lean) ties it to the program's text. -/
def laid_loop_example_g00615_impl_errOverZero {H : Type} : DataW H := .iface "*errors.errorString" (.ptr (.agg [.lit (.string [111, 118, 101, 114, 32, 48])]))

/-- 'laws.FnSlope': WHATEVER THE INPUT: true; the input reads as it did. -/
def fnSlopeSpec : ChangeSpec := { name := "fnSlope", vars := ["loop.example/g00615/impl.errOverZero"], fn := fun _ => fun
  | [d1, d2, g1] => { results := [.lit (.bool true)], args := [d1, d2], vars := [g1] }
  | _ => none }
def fnSlopeRow : OpenClaim := { program := "ytifepoefeamboaagreatdoor", sum := "81767e091cd2b431cf8bf27463d7f3c70172cdd0ecd8c13509ae4d1bde754661", func := "loop.example/g00615/laws.FnSlope", spec := "fnSlope", inPlace := ["internal/reflectlite.TypeOf"], unfollowed := true, recurses := true, named := ["loop.example/g00615/impl.errOverZero"], ifaces := true, apart := false, laid := [("loop.example/g00615/impl.errOverZero", laid_loop_example_g00615_impl_errOverZero)] }
def FnSlopeSaid : Prop := fnSlopeRow.holds Tryz.pinned (OpenSpec.ofChange fnSlopeSpec)

/-- ITS FALSE NEIGHBOUR: 'it returns false'. Refute it at one input. -/
def fnSlopeWrong : ChangeSpec := { name := "fnSlope", vars := ["loop.example/g00615/impl.errOverZero"], fn := fun _ => fun
  | [d1, d2, g1] => { results := [.lit (.bool false)], args := [d1, d2], vars := [g1] }
  | _ => none }
def FnSlopeWrongFalsely : Prop := fnSlopeRow.holds Tryz.pinned (OpenSpec.ofChange fnSlopeWrong)

/-- 'laws.FnExactValueOf': WHATEVER THE INPUT: true; the input reads as it did. -/
def fnExactValueOfSpec : ChangeSpec := { name := "fnExactValueOf", vars := ["loop.example/g00615/impl.errOverZero"], fn := fun _ => fun
  | [d1, d2, g1] => { results := [.lit (.bool true)], args := [d1, d2], vars := [g1] }
  | _ => none }
def fnExactValueOfRow : OpenClaim := { program := "ytifepoefeamboaagreatdoor", sum := "81767e091cd2b431cf8bf27463d7f3c70172cdd0ecd8c13509ae4d1bde754661", func := "loop.example/g00615/laws.FnExactValueOf", spec := "fnExactValueOf", inPlace := ["internal/reflectlite.TypeOf"], unfollowed := true, recurses := true, named := ["loop.example/g00615/impl.errOverZero"], ifaces := true, apart := false, laid := [("loop.example/g00615/impl.errOverZero", laid_loop_example_g00615_impl_errOverZero)] }
def FnExactValueOfSaid : Prop := fnExactValueOfRow.holds Tryz.pinned (OpenSpec.ofChange fnExactValueOfSpec)

/-- ITS FALSE NEIGHBOUR: 'it returns false'. Refute it at one input. -/
def fnExactValueOfWrong : ChangeSpec := { name := "fnExactValueOf", vars := ["loop.example/g00615/impl.errOverZero"], fn := fun _ => fun
  | [d1, d2, g1] => { results := [.lit (.bool false)], args := [d1, d2], vars := [g1] }
  | _ => none }
def FnExactValueOfWrongFalsely : Prop := fnExactValueOfRow.holds Tryz.pinned (OpenSpec.ofChange fnExactValueOfWrong)

/-- 'laws.FnExactSlopeOf': WHATEVER THE INPUT: true; the input reads as it did. -/
def fnExactSlopeOfSpec : ChangeSpec := { name := "fnExactSlopeOf", vars := ["loop.example/g00615/impl.errOverZero"], fn := fun _ => fun
  | [d1, d2, d3, g1] => { results := [.lit (.bool true)], args := [d1, d2, d3], vars := [g1] }
  | _ => none }
def fnExactSlopeOfRow : OpenClaim := { program := "ytifepoefeamboaagreatdoor", sum := "81767e091cd2b431cf8bf27463d7f3c70172cdd0ecd8c13509ae4d1bde754661", func := "loop.example/g00615/laws.FnExactSlopeOf", spec := "fnExactSlopeOf", inPlace := ["internal/reflectlite.TypeOf"], unfollowed := true, recurses := true, named := ["loop.example/g00615/impl.errOverZero"], ifaces := true, apart := false, laid := [("loop.example/g00615/impl.errOverZero", laid_loop_example_g00615_impl_errOverZero)] }
def FnExactSlopeOfSaid : Prop := fnExactSlopeOfRow.holds Tryz.pinned (OpenSpec.ofChange fnExactSlopeOfSpec)

/-- ITS FALSE NEIGHBOUR: 'it returns false'. Refute it at one input. -/
def fnExactSlopeOfWrong : ChangeSpec := { name := "fnExactSlopeOf", vars := ["loop.example/g00615/impl.errOverZero"], fn := fun _ => fun
  | [d1, d2, d3, g1] => { results := [.lit (.bool false)], args := [d1, d2, d3], vars := [g1] }
  | _ => none }
def FnExactSlopeOfWrongFalsely : Prop := fnExactSlopeOfRow.holds Tryz.pinned (OpenSpec.ofChange fnExactSlopeOfWrong)

/-- 'laws.FnExactGradOf': WHATEVER THE INPUT: true; the input reads as it did. -/
def fnExactGradOfSpec : ChangeSpec := { name := "fnExactGradOf", vars := ["loop.example/g00615/impl.errOverZero"], fn := fun _ => fun
  | [d1, d2, g1] => { results := [.lit (.bool true)], args := [d1, d2], vars := [g1] }
  | _ => none }
def fnExactGradOfRow : OpenClaim := { program := "ytifepoefeamboaagreatdoor", sum := "81767e091cd2b431cf8bf27463d7f3c70172cdd0ecd8c13509ae4d1bde754661", func := "loop.example/g00615/laws.FnExactGradOf", spec := "fnExactGradOf", inPlace := ["internal/reflectlite.TypeOf"], unfollowed := true, recurses := true, named := ["loop.example/g00615/impl.errOverZero"], ifaces := true, apart := false, laid := [("loop.example/g00615/impl.errOverZero", laid_loop_example_g00615_impl_errOverZero)] }
def FnExactGradOfSaid : Prop := fnExactGradOfRow.holds Tryz.pinned (OpenSpec.ofChange fnExactGradOfSpec)

/-- ITS FALSE NEIGHBOUR: 'it returns false'. Refute it at one input. -/
def fnExactGradOfWrong : ChangeSpec := { name := "fnExactGradOf", vars := ["loop.example/g00615/impl.errOverZero"], fn := fun _ => fun
  | [d1, d2, g1] => { results := [.lit (.bool false)], args := [d1, d2], vars := [g1] }
  | _ => none }
def FnExactGradOfWrongFalsely : Prop := fnExactGradOfRow.holds Tryz.pinned (OpenSpec.ofChange fnExactGradOfWrong)

/-- 'laws.FnExactCurveOf': WHATEVER THE INPUT: true; the input reads as it did. -/
def fnExactCurveOfSpec : ChangeSpec := { name := "fnExactCurveOf", vars := ["loop.example/g00615/impl.errOverZero"], fn := fun _ => fun
  | [d1, d2, d3, g1] => { results := [.lit (.bool true)], args := [d1, d2, d3], vars := [g1] }
  | _ => none }
def fnExactCurveOfRow : OpenClaim := { program := "ytifepoefeamboaagreatdoor", sum := "81767e091cd2b431cf8bf27463d7f3c70172cdd0ecd8c13509ae4d1bde754661", func := "loop.example/g00615/laws.FnExactCurveOf", spec := "fnExactCurveOf", inPlace := ["internal/reflectlite.TypeOf"], unfollowed := true, recurses := true, named := ["loop.example/g00615/impl.errOverZero"], ifaces := true, apart := false, laid := [("loop.example/g00615/impl.errOverZero", laid_loop_example_g00615_impl_errOverZero)] }
def FnExactCurveOfSaid : Prop := fnExactCurveOfRow.holds Tryz.pinned (OpenSpec.ofChange fnExactCurveOfSpec)

/-- ITS FALSE NEIGHBOUR: 'it returns false'. Refute it at one input. -/
def fnExactCurveOfWrong : ChangeSpec := { name := "fnExactCurveOf", vars := ["loop.example/g00615/impl.errOverZero"], fn := fun _ => fun
  | [d1, d2, d3, g1] => { results := [.lit (.bool false)], args := [d1, d2, d3], vars := [g1] }
  | _ => none }
def FnExactCurveOfWrongFalsely : Prop := fnExactCurveOfRow.holds Tryz.pinned (OpenSpec.ofChange fnExactCurveOfWrong)

/-- 'laws.FnExactHessOf': WHATEVER THE INPUT: true; the input reads as it did. -/
def fnExactHessOfSpec : ChangeSpec := { name := "fnExactHessOf", vars := ["loop.example/g00615/impl.errOverZero"], fn := fun _ => fun
  | [d1, d2, g1] => { results := [.lit (.bool true)], args := [d1, d2], vars := [g1] }
  | _ => none }
def fnExactHessOfRow : OpenClaim := { program := "ytifepoefeamboaagreatdoor", sum := "81767e091cd2b431cf8bf27463d7f3c70172cdd0ecd8c13509ae4d1bde754661", func := "loop.example/g00615/laws.FnExactHessOf", spec := "fnExactHessOf", inPlace := ["internal/reflectlite.TypeOf"], unfollowed := true, recurses := true, named := ["loop.example/g00615/impl.errOverZero"], ifaces := true, apart := false, laid := [("loop.example/g00615/impl.errOverZero", laid_loop_example_g00615_impl_errOverZero)] }
def FnExactHessOfSaid : Prop := fnExactHessOfRow.holds Tryz.pinned (OpenSpec.ofChange fnExactHessOfSpec)

/-- ITS FALSE NEIGHBOUR: 'it returns false'. Refute it at one input. -/
def fnExactHessOfWrong : ChangeSpec := { name := "fnExactHessOf", vars := ["loop.example/g00615/impl.errOverZero"], fn := fun _ => fun
  | [d1, d2, g1] => { results := [.lit (.bool false)], args := [d1, d2], vars := [g1] }
  | _ => none }
def FnExactHessOfWrongFalsely : Prop := fnExactHessOfRow.holds Tryz.pinned (OpenSpec.ofChange fnExactHessOfWrong)

/- THE SECOND FORM. 'bulk': how many values and letters a reading holds, each counted each time it is reached (what is shared counts as often as it is met; a slice's spare places count too). A statement '..UptoSaid' is the law's where the arguments, and the package variables that the reading takes, are together of bulk at most 1048576: NARROWER than '..Said'. Prove '..Said' where nothing that the law and all that it calls make is longer than what came in: it says more and counts as full. Else prove '..UptoSaid'. A law counts once. -/
mutual
def uptoBulk {H : Type} : DataW H → Nat
  | .lit (.string bytes) => bytes.length + 1
  | .lit _ => 1
  | .nil => 1
  | .ptr d => uptoBulk d + 1
  | .slice elems spare => uptoBulkAll elems + uptoBulkAll spare + 1
  | .agg parts => uptoBulkAll parts + 1
  | .iface _ d => uptoBulk d + 1
  | .map entries => uptoBulkEntries entries + 1
  | .held _ => 1
def uptoBulkAll {H : Type} : List (DataW H) → Nat
  | [] => 0
  | d :: r => uptoBulk d + uptoBulkAll r
def uptoBulkEntries {H : Type} : List (Lit × DataW H) → Nat
  | [] => 0
  | x :: r => uptoBulkEntry x + uptoBulkEntries r
def uptoBulkEntry {H : Type} : Lit × DataW H → Nat
  | (.string bytes, d) => bytes.length + uptoBulk d + 1
  | (_, d) => uptoBulk d + 1
 end
def uptoSmall : (H : Type) → List (DataW H) → Bool := fun _ ds => decide (uptoBulkAll ds ≤ 1048576)
def OpenSpec.upto (s : _root_.Go.ChangeSpec) : _root_.Go.OpenSpec := { _root_.Go.OpenSpec.ofChange s with cond := some uptoSmall }

/-- 'laws.FnSlope', WHERE WHAT IT READS IS OF BULK AT MOST 1048576: true; the input reads as it did. -/
def fnSlopeUptoRow : OpenClaim := { program := "ytifepoefeamboaagreatdoor", sum := "81767e091cd2b431cf8bf27463d7f3c70172cdd0ecd8c13509ae4d1bde754661", func := "loop.example/g00615/laws.FnSlope", spec := "fnSlope", inPlace := ["internal/reflectlite.TypeOf"], unfollowed := true, recurses := true, named := ["loop.example/g00615/impl.errOverZero"], ifaces := true, apart := false, laid := [("loop.example/g00615/impl.errOverZero", laid_loop_example_g00615_impl_errOverZero)], narrowed := true }
def FnSlopeUptoSaid : Prop := fnSlopeUptoRow.holds Tryz.pinned (OpenSpec.upto fnSlopeSpec)

/-- 'laws.FnExactValueOf', WHERE WHAT IT READS IS OF BULK AT MOST 1048576: true; the input reads as it did. -/
def fnExactValueOfUptoRow : OpenClaim := { program := "ytifepoefeamboaagreatdoor", sum := "81767e091cd2b431cf8bf27463d7f3c70172cdd0ecd8c13509ae4d1bde754661", func := "loop.example/g00615/laws.FnExactValueOf", spec := "fnExactValueOf", inPlace := ["internal/reflectlite.TypeOf"], unfollowed := true, recurses := true, named := ["loop.example/g00615/impl.errOverZero"], ifaces := true, apart := false, laid := [("loop.example/g00615/impl.errOverZero", laid_loop_example_g00615_impl_errOverZero)], narrowed := true }
def FnExactValueOfUptoSaid : Prop := fnExactValueOfUptoRow.holds Tryz.pinned (OpenSpec.upto fnExactValueOfSpec)

/-- 'laws.FnExactSlopeOf', WHERE WHAT IT READS IS OF BULK AT MOST 1048576: true; the input reads as it did. -/
def fnExactSlopeOfUptoRow : OpenClaim := { program := "ytifepoefeamboaagreatdoor", sum := "81767e091cd2b431cf8bf27463d7f3c70172cdd0ecd8c13509ae4d1bde754661", func := "loop.example/g00615/laws.FnExactSlopeOf", spec := "fnExactSlopeOf", inPlace := ["internal/reflectlite.TypeOf"], unfollowed := true, recurses := true, named := ["loop.example/g00615/impl.errOverZero"], ifaces := true, apart := false, laid := [("loop.example/g00615/impl.errOverZero", laid_loop_example_g00615_impl_errOverZero)], narrowed := true }
def FnExactSlopeOfUptoSaid : Prop := fnExactSlopeOfUptoRow.holds Tryz.pinned (OpenSpec.upto fnExactSlopeOfSpec)

/-- 'laws.FnExactGradOf', WHERE WHAT IT READS IS OF BULK AT MOST 1048576: true; the input reads as it did. -/
def fnExactGradOfUptoRow : OpenClaim := { program := "ytifepoefeamboaagreatdoor", sum := "81767e091cd2b431cf8bf27463d7f3c70172cdd0ecd8c13509ae4d1bde754661", func := "loop.example/g00615/laws.FnExactGradOf", spec := "fnExactGradOf", inPlace := ["internal/reflectlite.TypeOf"], unfollowed := true, recurses := true, named := ["loop.example/g00615/impl.errOverZero"], ifaces := true, apart := false, laid := [("loop.example/g00615/impl.errOverZero", laid_loop_example_g00615_impl_errOverZero)], narrowed := true }
def FnExactGradOfUptoSaid : Prop := fnExactGradOfUptoRow.holds Tryz.pinned (OpenSpec.upto fnExactGradOfSpec)

/-- 'laws.FnExactCurveOf', WHERE WHAT IT READS IS OF BULK AT MOST 1048576: true; the input reads as it did. -/
def fnExactCurveOfUptoRow : OpenClaim := { program := "ytifepoefeamboaagreatdoor", sum := "81767e091cd2b431cf8bf27463d7f3c70172cdd0ecd8c13509ae4d1bde754661", func := "loop.example/g00615/laws.FnExactCurveOf", spec := "fnExactCurveOf", inPlace := ["internal/reflectlite.TypeOf"], unfollowed := true, recurses := true, named := ["loop.example/g00615/impl.errOverZero"], ifaces := true, apart := false, laid := [("loop.example/g00615/impl.errOverZero", laid_loop_example_g00615_impl_errOverZero)], narrowed := true }
def FnExactCurveOfUptoSaid : Prop := fnExactCurveOfUptoRow.holds Tryz.pinned (OpenSpec.upto fnExactCurveOfSpec)

/-- 'laws.FnExactHessOf', WHERE WHAT IT READS IS OF BULK AT MOST 1048576: true; the input reads as it did. -/
def fnExactHessOfUptoRow : OpenClaim := { program := "ytifepoefeamboaagreatdoor", sum := "81767e091cd2b431cf8bf27463d7f3c70172cdd0ecd8c13509ae4d1bde754661", func := "loop.example/g00615/laws.FnExactHessOf", spec := "fnExactHessOf", inPlace := ["internal/reflectlite.TypeOf"], unfollowed := true, recurses := true, named := ["loop.example/g00615/impl.errOverZero"], ifaces := true, apart := false, laid := [("loop.example/g00615/impl.errOverZero", laid_loop_example_g00615_impl_errOverZero)], narrowed := true }
def FnExactHessOfUptoSaid : Prop := fnExactHessOfUptoRow.holds Tryz.pinned (OpenSpec.upto fnExactHessOfSpec)

end Rows
end Go.Proofs.YtifepoefeamboaaGreatDoor
