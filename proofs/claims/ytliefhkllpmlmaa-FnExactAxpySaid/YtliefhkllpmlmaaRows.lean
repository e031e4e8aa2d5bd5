/-
  No cell of these rows narrows 'for every input' (looked for: loops, veiled, ifaces, maps, wideKeys, modest, calm, conditions, laid).
  DERIVED. THE GIVEN ROWS OF THIS SEAT. 5 by the template 'for every input the law returns true; each argument reads behind the call as it read before'; 0 by the template 'total and deterministic' (their statements: YtliefhkllpmlmaaTotals.lean).
  GIVEN WITH THE SEED: the statements are not yours to turn. If you find one false, say at which input.
  Laid BY PROGRAM, IN A SANDBOX (cutbox-rows.mjs): the forced cells as the released guide's own fill.sh prints them over the translation 9094a1fa263d9ec2… (all of the seat's roots in one cut). By AI agents, Wed Nov 11 2026. No macro, syntax, notation, axiom, sorry.
-/
import Derived.Test.YtliefhkllpmlmaaChecked
import GoSem.Claim
import GoSem.ClaimJoined
import GoSem.ClaimMapViews
import Derived.JoinedTies
import Derived.KernelRfl
namespace Go.Proofs.Ytliefhkllpmlmaa
/- THE CELL 'sum', in the pinned program and in every row, IS THE sha256 OF THE DUMP (.gsa) THAT YtliefhkllpmlmaaProg.lean LOADS. Nothing in Lean hashes anything: it is a label: what it is worth is what the hold of that sum in a sandbox is worth. -/
noncomputable def Try.pinned : Pinned := { name := "ytliefhkllpmlmaa", sum := "9094a1fa263d9ec2cbd97fe6479754ade716b728f1e93bf08351d336b8eebdc4", checked := Try.checked }
namespace Rows
def none {H : Type} : Left H := { results := [], args := [] }

/-- 'laws.FnExactAxpy': WHATEVER THE INPUT: true; the input reads as it did. -/
def fnExactAxpySpec : ChangeSpec := { name := "fnExactAxpy", fn := fun _ => fun
  | [d1, d2, d3] => { results := [.lit (.bool true)], args := [d1, d2, d3] }
  | _ => none }
def fnExactAxpyRow : OpenClaim := { program := "ytliefhkllpmlmaa", sum := "9094a1fa263d9ec2cbd97fe6479754ade716b728f1e93bf08351d336b8eebdc4", func := "loop.example/g00615/laws.FnExactAxpy", spec := "fnExactAxpy", unfollowed := true, recurses := true, apart := false }
def FnExactAxpySaid : Prop := fnExactAxpyRow.holds Try.pinned (OpenSpec.ofChange fnExactAxpySpec)

/-- ITS FALSE NEIGHBOUR: 'it returns false'. Refute it at one input. -/
def fnExactAxpyWrong : ChangeSpec := { name := "fnExactAxpy", fn := fun _ => fun
  | [d1, d2, d3] => { results := [.lit (.bool false)], args := [d1, d2, d3] }
  | _ => none }
def FnExactAxpyWrongFalsely : Prop := fnExactAxpyRow.holds Try.pinned (OpenSpec.ofChange fnExactAxpyWrong)

/-- 'laws.FnExactMatOK': WHATEVER THE INPUT: true; the input reads as it did. -/
def fnExactMatOKSpec : ChangeSpec := { name := "fnExactMatOK", fn := fun _ => fun
  | [d1, d2] => { results := [.lit (.bool true)], args := [d1, d2] }
  | _ => none }
def fnExactMatOKRow : OpenClaim := { program := "ytliefhkllpmlmaa", sum := "9094a1fa263d9ec2cbd97fe6479754ade716b728f1e93bf08351d336b8eebdc4", func := "loop.example/g00615/laws.FnExactMatOK", spec := "fnExactMatOK", apart := false }
def FnExactMatOKSaid : Prop := fnExactMatOKRow.holds Try.pinned (OpenSpec.ofChange fnExactMatOKSpec)

/-- ITS FALSE NEIGHBOUR: 'it returns false'. Refute it at one input. -/
def fnExactMatOKWrong : ChangeSpec := { name := "fnExactMatOK", fn := fun _ => fun
  | [d1, d2] => { results := [.lit (.bool false)], args := [d1, d2] }
  | _ => none }
def FnExactMatOKWrongFalsely : Prop := fnExactMatOKRow.holds Try.pinned (OpenSpec.ofChange fnExactMatOKWrong)

/-- 'laws.FnExactMatVec': WHATEVER THE INPUT: true; the input reads as it did. -/
def fnExactMatVecSpec : ChangeSpec := { name := "fnExactMatVec", fn := fun _ => fun
  | [d1, d2] => { results := [.lit (.bool true)], args := [d1, d2] }
  | _ => none }
def fnExactMatVecRow : OpenClaim := { program := "ytliefhkllpmlmaa", sum := "9094a1fa263d9ec2cbd97fe6479754ade716b728f1e93bf08351d336b8eebdc4", func := "loop.example/g00615/laws.FnExactMatVec", spec := "fnExactMatVec", unfollowed := true, recurses := true, apart := false }
def FnExactMatVecSaid : Prop := fnExactMatVecRow.holds Try.pinned (OpenSpec.ofChange fnExactMatVecSpec)

/-- ITS FALSE NEIGHBOUR: 'it returns false'. Refute it at one input. -/
def fnExactMatVecWrong : ChangeSpec := { name := "fnExactMatVec", fn := fun _ => fun
  | [d1, d2] => { results := [.lit (.bool false)], args := [d1, d2] }
  | _ => none }
def FnExactMatVecWrongFalsely : Prop := fnExactMatVecRow.holds Try.pinned (OpenSpec.ofChange fnExactMatVecWrong)

/-- 'laws.FnVec': WHATEVER THE INPUT: true; the input reads as it did. -/
def fnVecSpec : ChangeSpec := { name := "fnVec", fn := fun _ => fun
  | [d1, d2] => { results := [.lit (.bool true)], args := [d1, d2] }
  | _ => none }
def fnVecRow : OpenClaim := { program := "ytliefhkllpmlmaa", sum := "9094a1fa263d9ec2cbd97fe6479754ade716b728f1e93bf08351d336b8eebdc4", func := "loop.example/g00615/laws.FnVec", spec := "fnVec", unfollowed := true, recurses := true, apart := false }
def FnVecSaid : Prop := fnVecRow.holds Try.pinned (OpenSpec.ofChange fnVecSpec)

/-- ITS FALSE NEIGHBOUR: 'it returns false'. Refute it at one input. -/
def fnVecWrong : ChangeSpec := { name := "fnVec", fn := fun _ => fun
  | [d1, d2] => { results := [.lit (.bool false)], args := [d1, d2] }
  | _ => none }
def FnVecWrongFalsely : Prop := fnVecRow.holds Try.pinned (OpenSpec.ofChange fnVecWrong)

/-- 'laws.FnShape': WHATEVER THE INPUT: true; the input reads as it did. -/
def fnShapeSpec : ChangeSpec := { name := "fnShape", fn := fun _ => fun
  | [d] => { results := [.lit (.bool true)], args := [d] }
  | _ => none }
def fnShapeRow : OpenClaim := { program := "ytliefhkllpmlmaa", sum := "9094a1fa263d9ec2cbd97fe6479754ade716b728f1e93bf08351d336b8eebdc4", func := "loop.example/g00615/laws.FnShape", spec := "fnShape", unfollowed := true, recurses := true, apart := false }
def FnShapeSaid : Prop := fnShapeRow.holds Try.pinned (OpenSpec.ofChange fnShapeSpec)

/-- ITS FALSE NEIGHBOUR: 'it returns false'. Refute it at one input. -/
def fnShapeWrong : ChangeSpec := { name := "fnShape", fn := fun _ => fun
  | [d] => { results := [.lit (.bool false)], args := [d] }
  | _ => none }
def FnShapeWrongFalsely : Prop := fnShapeRow.holds Try.pinned (OpenSpec.ofChange fnShapeWrong)

/- THE SECOND FORM. 'bulk': how many values and letters a reading holds, each counted each time it is reached (what is shared counts as often as it is met; a slice's spare places count too). A statement '..UptoSaid' is the law's where the arguments, and the package variables that the reading takes, are together of bulk at most 1048576: NARROWER than '..Said'. Prove '..Said' where nothing that the law and all that it calls make is longer than what came in: it says more and counts as full. Else prove '..UptoSaid'. A law counts once. -/
mutual
def uptoBulk {H : Type} : DataW H → Nat
  | .lit (.string bytes) => bytes.length + 1
  | .lit _ => 1
  | .nil => 1
  | .ptr d => uptoBulk d + 1
  | .slice elems spare => uptoBulkAll elems + uptoBulkAll spare + 1
  | .agg parts => uptoBulkAll parts + 1
  | .iface _ d => uptoBulk d + 1
  | .map entries => uptoBulkEntries entries + 1
  | .held _ => 1
def uptoBulkAll {H : Type} : List (DataW H) → Nat
  | [] => 0
  | d :: r => uptoBulk d + uptoBulkAll r
def uptoBulkEntries {H : Type} : List (Lit × DataW H) → Nat
  | [] => 0
  | x :: r => uptoBulkEntry x + uptoBulkEntries r
def uptoBulkEntry {H : Type} : Lit × DataW H → Nat
  | (.string bytes, d) => bytes.length + uptoBulk d + 1
  | (_, d) => uptoBulk d + 1
 end
def uptoSmall : (H : Type) → List (DataW H) → Bool := fun _ ds => decide (uptoBulkAll ds ≤ 1048576)
def OpenSpec.upto (s : _root_.Go.ChangeSpec) : _root_.Go.OpenSpec := { _root_.Go.OpenSpec.ofChange s with cond := some uptoSmall }

/-- 'laws.FnExactAxpy', WHERE WHAT IT READS IS OF BULK AT MOST 1048576: true; the input reads as it did. -/
def fnExactAxpyUptoRow : OpenClaim := { program := "ytliefhkllpmlmaa", sum := "9094a1fa263d9ec2cbd97fe6479754ade716b728f1e93bf08351d336b8eebdc4", func := "loop.example/g00615/laws.FnExactAxpy", spec := "fnExactAxpy", unfollowed := true, recurses := true, apart := false, narrowed := true }
def FnExactAxpyUptoSaid : Prop := fnExactAxpyUptoRow.holds Try.pinned (OpenSpec.upto fnExactAxpySpec)

/-- 'laws.FnExactMatOK', WHERE WHAT IT READS IS OF BULK AT MOST 1048576: true; the input reads as it did. -/
def fnExactMatOKUptoRow : OpenClaim := { program := "ytliefhkllpmlmaa", sum := "9094a1fa263d9ec2cbd97fe6479754ade716b728f1e93bf08351d336b8eebdc4", func := "loop.example/g00615/laws.FnExactMatOK", spec := "fnExactMatOK", apart := false, narrowed := true }
def FnExactMatOKUptoSaid : Prop := fnExactMatOKUptoRow.holds Try.pinned (OpenSpec.upto fnExactMatOKSpec)

/-- 'laws.FnExactMatVec', WHERE WHAT IT READS IS OF BULK AT MOST 1048576: true; the input reads as it did. -/
def fnExactMatVecUptoRow : OpenClaim := { program := "ytliefhkllpmlmaa", sum := "9094a1fa263d9ec2cbd97fe6479754ade716b728f1e93bf08351d336b8eebdc4", func := "loop.example/g00615/laws.FnExactMatVec", spec := "fnExactMatVec", unfollowed := true, recurses := true, apart := false, narrowed := true }
def FnExactMatVecUptoSaid : Prop := fnExactMatVecUptoRow.holds Try.pinned (OpenSpec.upto fnExactMatVecSpec)

/-- 'laws.FnVec', WHERE WHAT IT READS IS OF BULK AT MOST 1048576: true; the input reads as it did. -/
def fnVecUptoRow : OpenClaim := { program := "ytliefhkllpmlmaa", sum := "9094a1fa263d9ec2cbd97fe6479754ade716b728f1e93bf08351d336b8eebdc4", func := "loop.example/g00615/laws.FnVec", spec := "fnVec", unfollowed := true, recurses := true, apart := false, narrowed := true }
def FnVecUptoSaid : Prop := fnVecUptoRow.holds Try.pinned (OpenSpec.upto fnVecSpec)

/-- 'laws.FnShape', WHERE WHAT IT READS IS OF BULK AT MOST 1048576: true; the input reads as it did. -/
def fnShapeUptoRow : OpenClaim := { program := "ytliefhkllpmlmaa", sum := "9094a1fa263d9ec2cbd97fe6479754ade716b728f1e93bf08351d336b8eebdc4", func := "loop.example/g00615/laws.FnShape", spec := "fnShape", unfollowed := true, recurses := true, apart := false, narrowed := true }
def FnShapeUptoSaid : Prop := fnShapeUptoRow.holds Try.pinned (OpenSpec.upto fnShapeSpec)

end Rows
end Go.Proofs.Ytliefhkllpmlmaa
