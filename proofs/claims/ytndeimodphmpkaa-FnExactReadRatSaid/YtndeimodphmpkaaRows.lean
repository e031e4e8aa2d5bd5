/-
  No cell of these rows narrows 'for every input' (looked for: loops, veiled, ifaces, maps, wideKeys, modest, calm, conditions, laid).
  DERIVED. THE GIVEN ROWS OF THIS SEAT. 4 by the template 'for every input the law returns true; each argument reads behind the call as it read before'; 0 by the template 'total and deterministic' (their statements: YtndeimodphmpkaaTotals.lean).
  GIVEN WITH THE SEED: the statements are not yours to turn. If you find one false, say at which input.
  Laid BY PROGRAM, IN A SANDBOX (cutbox-rows.mjs): the forced cells as the released guide's own fill.sh prints them over the translation e26f723203ab249b… (all of the seat's roots in one cut). By AI agents, Wed Nov 11 2026. No macro, syntax, notation, axiom, sorry.
-/
import Derived.Test.YtndeimodphmpkaaChecked
import GoSem.Claim
import GoSem.ClaimJoined
import GoSem.ClaimMapViews
import Derived.JoinedTies
import Derived.KernelRfl
namespace Go.Proofs.Ytndeimodphmpkaa
/- THE CELL 'sum', in the pinned program and in every row, IS THE sha256 OF THE DUMP (.gsa) THAT YtndeimodphmpkaaProg.lean LOADS. Nothing in Lean hashes anything: it is a label: what it is worth is what the hold of that sum in a sandbox is worth. -/
noncomputable def Try.pinned : Pinned := { name := "ytndeimodphmpkaa", sum := "e26f723203ab249be1bdadec24d96711cec3082c54345dac85d2d5b02349d678", checked := Try.checked }
namespace Rows
def none {H : Type} : Left H := { results := [], args := [] }

/-- 'laws.FnShape': WHATEVER THE INPUT: true; the input reads as it did. -/
def fnShapeSpec : ChangeSpec := { name := "fnShape", fn := fun _ => fun
  | [d] => { results := [.lit (.bool true)], args := [d] }
  | _ => none }
def fnShapeRow : OpenClaim := { program := "ytndeimodphmpkaa", sum := "e26f723203ab249be1bdadec24d96711cec3082c54345dac85d2d5b02349d678", func := "loop.example/g00615/laws.FnShape", spec := "fnShape", unfollowed := true, recurses := true, plainKeys := false, apart := false }
def FnShapeSaid : Prop := fnShapeRow.holds Try.pinned (OpenSpec.ofChange fnShapeSpec)

/-- ITS FALSE NEIGHBOUR: 'it returns false'. Refute it at one input. -/
def fnShapeWrong : ChangeSpec := { name := "fnShape", fn := fun _ => fun
  | [d] => { results := [.lit (.bool false)], args := [d] }
  | _ => none }
def FnShapeWrongFalsely : Prop := fnShapeRow.holds Try.pinned (OpenSpec.ofChange fnShapeWrong)

/-- 'laws.FnExactReadRat': WHATEVER THE INPUT: true; the input reads as it did. -/
def fnExactReadRatSpec : ChangeSpec := { name := "fnExactReadRat", fn := fun _ => fun
  | [d] => { results := [.lit (.bool true)], args := [d] }
  | _ => none }
def fnExactReadRatRow : OpenClaim := { program := "ytndeimodphmpkaa", sum := "e26f723203ab249be1bdadec24d96711cec3082c54345dac85d2d5b02349d678", func := "loop.example/g00615/laws.FnExactReadRat", spec := "fnExactReadRat", inPlace := ["internal/bytealg.IndexByteString", "internal/bytealg.IndexString"], named := ["internal/bytealg.MaxLen"], plainKeys := false, apart := false }
def FnExactReadRatSaid : Prop := fnExactReadRatRow.holds Try.pinned (OpenSpec.ofChange fnExactReadRatSpec)

/-- ITS FALSE NEIGHBOUR: 'it returns false'. Refute it at one input. -/
def fnExactReadRatWrong : ChangeSpec := { name := "fnExactReadRat", fn := fun _ => fun
  | [d] => { results := [.lit (.bool false)], args := [d] }
  | _ => none }
def FnExactReadRatWrongFalsely : Prop := fnExactReadRatRow.holds Try.pinned (OpenSpec.ofChange fnExactReadRatWrong)

/-- 'laws.FnExactCompile': WHATEVER THE INPUT: true; the input reads as it did. -/
def fnExactCompileSpec : ChangeSpec := { name := "fnExactCompile", fn := fun _ => fun
  | [d] => { results := [.lit (.bool true)], args := [d] }
  | _ => none }
def fnExactCompileRow : OpenClaim := { program := "ytndeimodphmpkaa", sum := "e26f723203ab249be1bdadec24d96711cec3082c54345dac85d2d5b02349d678", func := "loop.example/g00615/laws.FnExactCompile", spec := "fnExactCompile", unfollowed := true, recurses := true, plainKeys := false, apart := false }
def FnExactCompileSaid : Prop := fnExactCompileRow.holds Try.pinned (OpenSpec.ofChange fnExactCompileSpec)

/-- ITS FALSE NEIGHBOUR: 'it returns false'. Refute it at one input. -/
def fnExactCompileWrong : ChangeSpec := { name := "fnExactCompile", fn := fun _ => fun
  | [d] => { results := [.lit (.bool false)], args := [d] }
  | _ => none }
def FnExactCompileWrongFalsely : Prop := fnExactCompileRow.holds Try.pinned (OpenSpec.ofChange fnExactCompileWrong)

/-- 'laws.FnExactMatVec': WHATEVER THE INPUT: true; the input reads as it did. -/
def fnExactMatVecSpec : ChangeSpec := { name := "fnExactMatVec", fn := fun _ => fun
  | [d1, d2] => { results := [.lit (.bool true)], args := [d1, d2] }
  | _ => none }
def fnExactMatVecRow : OpenClaim := { program := "ytndeimodphmpkaa", sum := "e26f723203ab249be1bdadec24d96711cec3082c54345dac85d2d5b02349d678", func := "loop.example/g00615/laws.FnExactMatVec", spec := "fnExactMatVec", unfollowed := true, recurses := true, plainKeys := false, apart := false }
def FnExactMatVecSaid : Prop := fnExactMatVecRow.holds Try.pinned (OpenSpec.ofChange fnExactMatVecSpec)

/-- ITS FALSE NEIGHBOUR: 'it returns false'. Refute it at one input. -/
def fnExactMatVecWrong : ChangeSpec := { name := "fnExactMatVec", fn := fun _ => fun
  | [d1, d2] => { results := [.lit (.bool false)], args := [d1, d2] }
  | _ => none }
def FnExactMatVecWrongFalsely : Prop := fnExactMatVecRow.holds Try.pinned (OpenSpec.ofChange fnExactMatVecWrong)

/- THE SECOND FORM. 'bulk': how many values and letters a reading holds, each counted each time it is reached (what is shared counts as often as it is met; a slice's spare places count too). A statement '..UptoSaid' is the law's where the arguments, and the package variables that the reading takes, are together of bulk at most 1048576: NARROWER than '..Said'. Prove '..Said' where nothing that the law and all that it calls make is longer than what came in: it says more and counts as full. Else prove '..UptoSaid'. A law counts once. -/
mutual
def uptoBulk {H : Type} : DataW H → Nat
  | .lit (.string bytes) => bytes.length + 1
  | .lit _ => 1
  | .nil => 1
  | .ptr d => uptoBulk d + 1
  | .slice elems spare => uptoBulkAll elems + uptoBulkAll spare + 1
  | .agg parts => uptoBulkAll parts + 1
  | .iface _ d => uptoBulk d + 1
  | .map entries => uptoBulkEntries entries + 1
  | .held _ => 1
def uptoBulkAll {H : Type} : List (DataW H) → Nat
  | [] => 0
  | d :: r => uptoBulk d + uptoBulkAll r
def uptoBulkEntries {H : Type} : List (Lit × DataW H) → Nat
  | [] => 0
  | x :: r => uptoBulkEntry x + uptoBulkEntries r
def uptoBulkEntry {H : Type} : Lit × DataW H → Nat
  | (.string bytes, d) => bytes.length + uptoBulk d + 1
  | (_, d) => uptoBulk d + 1
 end
def uptoSmall : (H : Type) → List (DataW H) → Bool := fun _ ds => decide (uptoBulkAll ds ≤ 1048576)
def OpenSpec.upto (s : _root_.Go.ChangeSpec) : _root_.Go.OpenSpec := { _root_.Go.OpenSpec.ofChange s with cond := some uptoSmall }

/-- 'laws.FnShape', WHERE WHAT IT READS IS OF BULK AT MOST 1048576: true; the input reads as it did. -/
def fnShapeUptoRow : OpenClaim := { program := "ytndeimodphmpkaa", sum := "e26f723203ab249be1bdadec24d96711cec3082c54345dac85d2d5b02349d678", func := "loop.example/g00615/laws.FnShape", spec := "fnShape", unfollowed := true, recurses := true, plainKeys := false, apart := false, narrowed := true }
def FnShapeUptoSaid : Prop := fnShapeUptoRow.holds Try.pinned (OpenSpec.upto fnShapeSpec)

/-- 'laws.FnExactReadRat', WHERE WHAT IT READS IS OF BULK AT MOST 1048576: true; the input reads as it did. -/
def fnExactReadRatUptoRow : OpenClaim := { program := "ytndeimodphmpkaa", sum := "e26f723203ab249be1bdadec24d96711cec3082c54345dac85d2d5b02349d678", func := "loop.example/g00615/laws.FnExactReadRat", spec := "fnExactReadRat", inPlace := ["internal/bytealg.IndexByteString", "internal/bytealg.IndexString"], named := ["internal/bytealg.MaxLen"], plainKeys := false, apart := false, narrowed := true }
def FnExactReadRatUptoSaid : Prop := fnExactReadRatUptoRow.holds Try.pinned (OpenSpec.upto fnExactReadRatSpec)

/-- 'laws.FnExactCompile', WHERE WHAT IT READS IS OF BULK AT MOST 1048576: true; the input reads as it did. -/
def fnExactCompileUptoRow : OpenClaim := { program := "ytndeimodphmpkaa", sum := "e26f723203ab249be1bdadec24d96711cec3082c54345dac85d2d5b02349d678", func := "loop.example/g00615/laws.FnExactCompile", spec := "fnExactCompile", unfollowed := true, recurses := true, plainKeys := false, apart := false, narrowed := true }
def FnExactCompileUptoSaid : Prop := fnExactCompileUptoRow.holds Try.pinned (OpenSpec.upto fnExactCompileSpec)

/-- 'laws.FnExactMatVec', WHERE WHAT IT READS IS OF BULK AT MOST 1048576: true; the input reads as it did. -/
def fnExactMatVecUptoRow : OpenClaim := { program := "ytndeimodphmpkaa", sum := "e26f723203ab249be1bdadec24d96711cec3082c54345dac85d2d5b02349d678", func := "loop.example/g00615/laws.FnExactMatVec", spec := "fnExactMatVec", unfollowed := true, recurses := true, plainKeys := false, apart := false, narrowed := true }
def FnExactMatVecUptoSaid : Prop := fnExactMatVecUptoRow.holds Try.pinned (OpenSpec.upto fnExactMatVecSpec)

end Rows
end Go.Proofs.Ytndeimodphmpkaa
