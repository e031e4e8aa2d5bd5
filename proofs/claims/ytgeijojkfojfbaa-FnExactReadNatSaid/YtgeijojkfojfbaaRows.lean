/-
  No cell of these rows narrows 'for every input' (looked for: loops, veiled, ifaces, maps, wideKeys, modest, calm, conditions, laid).
  DERIVED. THE GIVEN ROWS OF THIS SEAT. 10 by the template 'for every input the law returns true; each argument reads behind the call as it read before'; 0 by the template 'total and deterministic' (their statements: YtgeijojkfojfbaaTotals.lean).
  GIVEN WITH THE SEED: the statements are not yours to turn. If you find one false, say at which input.
  Laid BY PROGRAM, IN A SANDBOX (cutbox-rows.mjs): the forced cells as the released guide's own fill.sh prints them over the translation 188833959a7952c9… (all of the seat's roots in one cut). By AI agents, Wed Nov 11 2026. No macro, syntax, notation, axiom, sorry.
-/
import Derived.Test.YtgeijojkfojfbaaChecked
import GoSem.Claim
import GoSem.ClaimJoined
import GoSem.ClaimMapViews
import Derived.JoinedTies
import Derived.KernelRfl
namespace Go.Proofs.Ytgeijojkfojfbaa
/- THE CELL 'sum', in the pinned program and in every row, IS THE sha256 OF THE DUMP (.gsa) THAT YtgeijojkfojfbaaProg.lean LOADS. Nothing in Lean hashes anything: it is a label: what it is worth is what the hold of that sum in a sandbox is worth. -/
noncomputable def Try.pinned : Pinned := { name := "ytgeijojkfojfbaa", sum := "188833959a7952c9ed404290b98bee3cd5d1f237122c94103400a64a60344dae", checked := Try.checked }
namespace Rows
def none {H : Type} : Left H := { results := [], args := [] }

/-- 'laws.FnExactExprOK': WHATEVER THE INPUT: true; the input reads as it did. -/
def fnExactExprOKSpec : ChangeSpec := { name := "fnExactExprOK", fn := fun _ => fun
  | [d] => { results := [.lit (.bool true)], args := [d] }
  | _ => none }
def fnExactExprOKRow : OpenClaim := { program := "ytgeijojkfojfbaa", sum := "188833959a7952c9ed404290b98bee3cd5d1f237122c94103400a64a60344dae", func := "loop.example/g00615/laws.FnExactExprOK", spec := "fnExactExprOK", unfollowed := true, recurses := true, apart := false }
def FnExactExprOKSaid : Prop := fnExactExprOKRow.holds Try.pinned (OpenSpec.ofChange fnExactExprOKSpec)

/-- ITS FALSE NEIGHBOUR: 'it returns false'. Refute it at one input. -/
def fnExactExprOKWrong : ChangeSpec := { name := "fnExactExprOK", fn := fun _ => fun
  | [d] => { results := [.lit (.bool false)], args := [d] }
  | _ => none }
def FnExactExprOKWrongFalsely : Prop := fnExactExprOKRow.holds Try.pinned (OpenSpec.ofChange fnExactExprOKWrong)

/-- 'laws.FnExactDepthOf': WHATEVER THE INPUT: true; the input reads as it did. -/
def fnExactDepthOfSpec : ChangeSpec := { name := "fnExactDepthOf", fn := fun _ => fun
  | [d] => { results := [.lit (.bool true)], args := [d] }
  | _ => none }
def fnExactDepthOfRow : OpenClaim := { program := "ytgeijojkfojfbaa", sum := "188833959a7952c9ed404290b98bee3cd5d1f237122c94103400a64a60344dae", func := "loop.example/g00615/laws.FnExactDepthOf", spec := "fnExactDepthOf", unfollowed := true, recurses := true, apart := false }
def FnExactDepthOfSaid : Prop := fnExactDepthOfRow.holds Try.pinned (OpenSpec.ofChange fnExactDepthOfSpec)

/-- ITS FALSE NEIGHBOUR: 'it returns false'. Refute it at one input. -/
def fnExactDepthOfWrong : ChangeSpec := { name := "fnExactDepthOf", fn := fun _ => fun
  | [d] => { results := [.lit (.bool false)], args := [d] }
  | _ => none }
def FnExactDepthOfWrongFalsely : Prop := fnExactDepthOfRow.holds Try.pinned (OpenSpec.ofChange fnExactDepthOfWrong)

/-- 'laws.FnExactDimOf': WHATEVER THE INPUT: true; the input reads as it did. -/
def fnExactDimOfSpec : ChangeSpec := { name := "fnExactDimOf", fn := fun _ => fun
  | [d] => { results := [.lit (.bool true)], args := [d] }
  | _ => none }
def fnExactDimOfRow : OpenClaim := { program := "ytgeijojkfojfbaa", sum := "188833959a7952c9ed404290b98bee3cd5d1f237122c94103400a64a60344dae", func := "loop.example/g00615/laws.FnExactDimOf", spec := "fnExactDimOf", unfollowed := true, recurses := true, apart := false }
def FnExactDimOfSaid : Prop := fnExactDimOfRow.holds Try.pinned (OpenSpec.ofChange fnExactDimOfSpec)

/-- ITS FALSE NEIGHBOUR: 'it returns false'. Refute it at one input. -/
def fnExactDimOfWrong : ChangeSpec := { name := "fnExactDimOf", fn := fun _ => fun
  | [d] => { results := [.lit (.bool false)], args := [d] }
  | _ => none }
def FnExactDimOfWrongFalsely : Prop := fnExactDimOfRow.holds Try.pinned (OpenSpec.ofChange fnExactDimOfWrong)

/-- 'laws.FnExactSameExpr': WHATEVER THE INPUT: true; the input reads as it did. -/
def fnExactSameExprSpec : ChangeSpec := { name := "fnExactSameExpr", fn := fun _ => fun
  | [d1, d2] => { results := [.lit (.bool true)], args := [d1, d2] }
  | _ => none }
def fnExactSameExprRow : OpenClaim := { program := "ytgeijojkfojfbaa", sum := "188833959a7952c9ed404290b98bee3cd5d1f237122c94103400a64a60344dae", func := "loop.example/g00615/laws.FnExactSameExpr", spec := "fnExactSameExpr", unfollowed := true, recurses := true, apart := false }
def FnExactSameExprSaid : Prop := fnExactSameExprRow.holds Try.pinned (OpenSpec.ofChange fnExactSameExprSpec)

/-- ITS FALSE NEIGHBOUR: 'it returns false'. Refute it at one input. -/
def fnExactSameExprWrong : ChangeSpec := { name := "fnExactSameExpr", fn := fun _ => fun
  | [d1, d2] => { results := [.lit (.bool false)], args := [d1, d2] }
  | _ => none }
def FnExactSameExprWrongFalsely : Prop := fnExactSameExprRow.holds Try.pinned (OpenSpec.ofChange fnExactSameExprWrong)

/-- 'laws.FnShape': WHATEVER THE INPUT: true; the input reads as it did. -/
def fnShapeSpec : ChangeSpec := { name := "fnShape", fn := fun _ => fun
  | [d] => { results := [.lit (.bool true)], args := [d] }
  | _ => none }
def fnShapeRow : OpenClaim := { program := "ytgeijojkfojfbaa", sum := "188833959a7952c9ed404290b98bee3cd5d1f237122c94103400a64a60344dae", func := "loop.example/g00615/laws.FnShape", spec := "fnShape", unfollowed := true, recurses := true, apart := false }
def FnShapeSaid : Prop := fnShapeRow.holds Try.pinned (OpenSpec.ofChange fnShapeSpec)

/-- ITS FALSE NEIGHBOUR: 'it returns false'. Refute it at one input. -/
def fnShapeWrong : ChangeSpec := { name := "fnShape", fn := fun _ => fun
  | [d] => { results := [.lit (.bool false)], args := [d] }
  | _ => none }
def FnShapeWrongFalsely : Prop := fnShapeRow.holds Try.pinned (OpenSpec.ofChange fnShapeWrong)

/-- 'laws.FnOrder': WHATEVER THE INPUT: true; the input reads as it did. -/
def fnOrderSpec : ChangeSpec := { name := "fnOrder", fn := fun _ => fun
  | [d1, d2] => { results := [.lit (.bool true)], args := [d1, d2] }
  | _ => none }
def fnOrderRow : OpenClaim := { program := "ytgeijojkfojfbaa", sum := "188833959a7952c9ed404290b98bee3cd5d1f237122c94103400a64a60344dae", func := "loop.example/g00615/laws.FnOrder", spec := "fnOrder", apart := false }
def FnOrderSaid : Prop := fnOrderRow.holds Try.pinned (OpenSpec.ofChange fnOrderSpec)

/-- ITS FALSE NEIGHBOUR: 'it returns false'. Refute it at one input. -/
def fnOrderWrong : ChangeSpec := { name := "fnOrder", fn := fun _ => fun
  | [d1, d2] => { results := [.lit (.bool false)], args := [d1, d2] }
  | _ => none }
def FnOrderWrongFalsely : Prop := fnOrderRow.holds Try.pinned (OpenSpec.ofChange fnOrderWrong)

/-- 'laws.FnExactAxpy': WHATEVER THE INPUT: true; the input reads as it did. -/
def fnExactAxpySpec : ChangeSpec := { name := "fnExactAxpy", fn := fun _ => fun
  | [d1, d2, d3] => { results := [.lit (.bool true)], args := [d1, d2, d3] }
  | _ => none }
def fnExactAxpyRow : OpenClaim := { program := "ytgeijojkfojfbaa", sum := "188833959a7952c9ed404290b98bee3cd5d1f237122c94103400a64a60344dae", func := "loop.example/g00615/laws.FnExactAxpy", spec := "fnExactAxpy", unfollowed := true, recurses := true, apart := false }
def FnExactAxpySaid : Prop := fnExactAxpyRow.holds Try.pinned (OpenSpec.ofChange fnExactAxpySpec)

/-- ITS FALSE NEIGHBOUR: 'it returns false'. Refute it at one input. -/
def fnExactAxpyWrong : ChangeSpec := { name := "fnExactAxpy", fn := fun _ => fun
  | [d1, d2, d3] => { results := [.lit (.bool false)], args := [d1, d2, d3] }
  | _ => none }
def FnExactAxpyWrongFalsely : Prop := fnExactAxpyRow.holds Try.pinned (OpenSpec.ofChange fnExactAxpyWrong)

/-- 'laws.FnVec': WHATEVER THE INPUT: true; the input reads as it did. -/
def fnVecSpec : ChangeSpec := { name := "fnVec", fn := fun _ => fun
  | [d1, d2] => { results := [.lit (.bool true)], args := [d1, d2] }
  | _ => none }
def fnVecRow : OpenClaim := { program := "ytgeijojkfojfbaa", sum := "188833959a7952c9ed404290b98bee3cd5d1f237122c94103400a64a60344dae", func := "loop.example/g00615/laws.FnVec", spec := "fnVec", unfollowed := true, recurses := true, apart := false }
def FnVecSaid : Prop := fnVecRow.holds Try.pinned (OpenSpec.ofChange fnVecSpec)

/-- ITS FALSE NEIGHBOUR: 'it returns false'. Refute it at one input. -/
def fnVecWrong : ChangeSpec := { name := "fnVec", fn := fun _ => fun
  | [d1, d2] => { results := [.lit (.bool false)], args := [d1, d2] }
  | _ => none }
def FnVecWrongFalsely : Prop := fnVecRow.holds Try.pinned (OpenSpec.ofChange fnVecWrong)

/-- 'laws.FnExactNameOK': WHATEVER THE INPUT: true; the input reads as it did. -/
def fnExactNameOKSpec : ChangeSpec := { name := "fnExactNameOK", fn := fun _ => fun
  | [d] => { results := [.lit (.bool true)], args := [d] }
  | _ => none }
def fnExactNameOKRow : OpenClaim := { program := "ytgeijojkfojfbaa", sum := "188833959a7952c9ed404290b98bee3cd5d1f237122c94103400a64a60344dae", func := "loop.example/g00615/laws.FnExactNameOK", spec := "fnExactNameOK", apart := false }
def FnExactNameOKSaid : Prop := fnExactNameOKRow.holds Try.pinned (OpenSpec.ofChange fnExactNameOKSpec)

/-- ITS FALSE NEIGHBOUR: 'it returns false'. Refute it at one input. -/
def fnExactNameOKWrong : ChangeSpec := { name := "fnExactNameOK", fn := fun _ => fun
  | [d] => { results := [.lit (.bool false)], args := [d] }
  | _ => none }
def FnExactNameOKWrongFalsely : Prop := fnExactNameOKRow.holds Try.pinned (OpenSpec.ofChange fnExactNameOKWrong)

/-- 'laws.FnExactReadNat': WHATEVER THE INPUT: true; the input reads as it did. -/
def fnExactReadNatSpec : ChangeSpec := { name := "fnExactReadNat", fn := fun _ => fun
  | [d] => { results := [.lit (.bool true)], args := [d] }
  | _ => none }
def fnExactReadNatRow : OpenClaim := { program := "ytgeijojkfojfbaa", sum := "188833959a7952c9ed404290b98bee3cd5d1f237122c94103400a64a60344dae", func := "loop.example/g00615/laws.FnExactReadNat", spec := "fnExactReadNat", apart := false }
def FnExactReadNatSaid : Prop := fnExactReadNatRow.holds Try.pinned (OpenSpec.ofChange fnExactReadNatSpec)

/-- ITS FALSE NEIGHBOUR: 'it returns false'. Refute it at one input. -/
def fnExactReadNatWrong : ChangeSpec := { name := "fnExactReadNat", fn := fun _ => fun
  | [d] => { results := [.lit (.bool false)], args := [d] }
  | _ => none }
def FnExactReadNatWrongFalsely : Prop := fnExactReadNatRow.holds Try.pinned (OpenSpec.ofChange fnExactReadNatWrong)

/- THE SECOND FORM. 'bulk': how many values and letters a reading holds, each counted each time it is reached (what is shared counts as often as it is met; a slice's spare places count too). A statement '..UptoSaid' is the law's where the arguments, and the package variables that the reading takes, are together of bulk at most 1048576: NARROWER than '..Said'. Prove '..Said' where nothing that the law and all that it calls make is longer than what came in: it says more and counts as full. Else prove '..UptoSaid'. A law counts once. -/
mutual
def uptoBulk {H : Type} : DataW H → Nat
  | .lit (.string bytes) => bytes.length + 1
  | .lit _ => 1
  | .nil => 1
  | .ptr d => uptoBulk d + 1
  | .slice elems spare => uptoBulkAll elems + uptoBulkAll spare + 1
  | .agg parts => uptoBulkAll parts + 1
  | .iface _ d => uptoBulk d + 1
  | .map entries => uptoBulkEntries entries + 1
  | .held _ => 1
def uptoBulkAll {H : Type} : List (DataW H) → Nat
  | [] => 0
  | d :: r => uptoBulk d + uptoBulkAll r
def uptoBulkEntries {H : Type} : List (Lit × DataW H) → Nat
  | [] => 0
  | x :: r => uptoBulkEntry x + uptoBulkEntries r
def uptoBulkEntry {H : Type} : Lit × DataW H → Nat
  | (.string bytes, d) => bytes.length + uptoBulk d + 1
  | (_, d) => uptoBulk d + 1
 end
def uptoSmall : (H : Type) → List (DataW H) → Bool := fun _ ds => decide (uptoBulkAll ds ≤ 1048576)
def OpenSpec.upto (s : _root_.Go.ChangeSpec) : _root_.Go.OpenSpec := { _root_.Go.OpenSpec.ofChange s with cond := some uptoSmall }

/-- 'laws.FnExactExprOK', WHERE WHAT IT READS IS OF BULK AT MOST 1048576: true; the input reads as it did. -/
def fnExactExprOKUptoRow : OpenClaim := { program := "ytgeijojkfojfbaa", sum := "188833959a7952c9ed404290b98bee3cd5d1f237122c94103400a64a60344dae", func := "loop.example/g00615/laws.FnExactExprOK", spec := "fnExactExprOK", unfollowed := true, recurses := true, apart := false, narrowed := true }
def FnExactExprOKUptoSaid : Prop := fnExactExprOKUptoRow.holds Try.pinned (OpenSpec.upto fnExactExprOKSpec)

/-- 'laws.FnExactDepthOf', WHERE WHAT IT READS IS OF BULK AT MOST 1048576: true; the input reads as it did. -/
def fnExactDepthOfUptoRow : OpenClaim := { program := "ytgeijojkfojfbaa", sum := "188833959a7952c9ed404290b98bee3cd5d1f237122c94103400a64a60344dae", func := "loop.example/g00615/laws.FnExactDepthOf", spec := "fnExactDepthOf", unfollowed := true, recurses := true, apart := false, narrowed := true }
def FnExactDepthOfUptoSaid : Prop := fnExactDepthOfUptoRow.holds Try.pinned (OpenSpec.upto fnExactDepthOfSpec)

/-- 'laws.FnExactDimOf', WHERE WHAT IT READS IS OF BULK AT MOST 1048576: true; the input reads as it did. -/
def fnExactDimOfUptoRow : OpenClaim := { program := "ytgeijojkfojfbaa", sum := "188833959a7952c9ed404290b98bee3cd5d1f237122c94103400a64a60344dae", func := "loop.example/g00615/laws.FnExactDimOf", spec := "fnExactDimOf", unfollowed := true, recurses := true, apart := false, narrowed := true }
def FnExactDimOfUptoSaid : Prop := fnExactDimOfUptoRow.holds Try.pinned (OpenSpec.upto fnExactDimOfSpec)

/-- 'laws.FnExactSameExpr', WHERE WHAT IT READS IS OF BULK AT MOST 1048576: true; the input reads as it did. -/
def fnExactSameExprUptoRow : OpenClaim := { program := "ytgeijojkfojfbaa", sum := "188833959a7952c9ed404290b98bee3cd5d1f237122c94103400a64a60344dae", func := "loop.example/g00615/laws.FnExactSameExpr", spec := "fnExactSameExpr", unfollowed := true, recurses := true, apart := false, narrowed := true }
def FnExactSameExprUptoSaid : Prop := fnExactSameExprUptoRow.holds Try.pinned (OpenSpec.upto fnExactSameExprSpec)

/-- 'laws.FnShape', WHERE WHAT IT READS IS OF BULK AT MOST 1048576: true; the input reads as it did. -/
def fnShapeUptoRow : OpenClaim := { program := "ytgeijojkfojfbaa", sum := "188833959a7952c9ed404290b98bee3cd5d1f237122c94103400a64a60344dae", func := "loop.example/g00615/laws.FnShape", spec := "fnShape", unfollowed := true, recurses := true, apart := false, narrowed := true }
def FnShapeUptoSaid : Prop := fnShapeUptoRow.holds Try.pinned (OpenSpec.upto fnShapeSpec)

/-- 'laws.FnOrder', WHERE WHAT IT READS IS OF BULK AT MOST 1048576: true; the input reads as it did. -/
def fnOrderUptoRow : OpenClaim := { program := "ytgeijojkfojfbaa", sum := "188833959a7952c9ed404290b98bee3cd5d1f237122c94103400a64a60344dae", func := "loop.example/g00615/laws.FnOrder", spec := "fnOrder", apart := false, narrowed := true }
def FnOrderUptoSaid : Prop := fnOrderUptoRow.holds Try.pinned (OpenSpec.upto fnOrderSpec)

/-- 'laws.FnExactAxpy', WHERE WHAT IT READS IS OF BULK AT MOST 1048576: true; the input reads as it did. -/
def fnExactAxpyUptoRow : OpenClaim := { program := "ytgeijojkfojfbaa", sum := "188833959a7952c9ed404290b98bee3cd5d1f237122c94103400a64a60344dae", func := "loop.example/g00615/laws.FnExactAxpy", spec := "fnExactAxpy", unfollowed := true, recurses := true, apart := false, narrowed := true }
def FnExactAxpyUptoSaid : Prop := fnExactAxpyUptoRow.holds Try.pinned (OpenSpec.upto fnExactAxpySpec)

/-- 'laws.FnVec', WHERE WHAT IT READS IS OF BULK AT MOST 1048576: true; the input reads as it did. -/
def fnVecUptoRow : OpenClaim := { program := "ytgeijojkfojfbaa", sum := "188833959a7952c9ed404290b98bee3cd5d1f237122c94103400a64a60344dae", func := "loop.example/g00615/laws.FnVec", spec := "fnVec", unfollowed := true, recurses := true, apart := false, narrowed := true }
def FnVecUptoSaid : Prop := fnVecUptoRow.holds Try.pinned (OpenSpec.upto fnVecSpec)

/-- 'laws.FnExactNameOK', WHERE WHAT IT READS IS OF BULK AT MOST 1048576: true; the input reads as it did. -/
def fnExactNameOKUptoRow : OpenClaim := { program := "ytgeijojkfojfbaa", sum := "188833959a7952c9ed404290b98bee3cd5d1f237122c94103400a64a60344dae", func := "loop.example/g00615/laws.FnExactNameOK", spec := "fnExactNameOK", apart := false, narrowed := true }
def FnExactNameOKUptoSaid : Prop := fnExactNameOKUptoRow.holds Try.pinned (OpenSpec.upto fnExactNameOKSpec)

/-- 'laws.FnExactReadNat', WHERE WHAT IT READS IS OF BULK AT MOST 1048576: true; the input reads as it did. -/
def fnExactReadNatUptoRow : OpenClaim := { program := "ytgeijojkfojfbaa", sum := "188833959a7952c9ed404290b98bee3cd5d1f237122c94103400a64a60344dae", func := "loop.example/g00615/laws.FnExactReadNat", spec := "fnExactReadNat", apart := false, narrowed := true }
def FnExactReadNatUptoSaid : Prop := fnExactReadNatUptoRow.holds Try.pinned (OpenSpec.upto fnExactReadNatSpec)

end Rows
end Go.Proofs.Ytgeijojkfojfbaa
