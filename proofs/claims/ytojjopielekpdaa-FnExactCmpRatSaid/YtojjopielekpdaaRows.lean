/-
  No cell of these rows narrows 'for every input' (looked for: loops, veiled, ifaces, maps, wideKeys, modest, calm, conditions, laid).
  DERIVED. THE GIVEN ROWS OF THIS SEAT. 6 by the template 'for every input the law returns true; each argument reads behind the call as it read before'; 0 by the template 'total and deterministic' (their statements: YtojjopielekpdaaTotals.lean).
  GIVEN WITH THE SEED: the statements are not yours to turn. If you find one false, say at which input.
  Laid BY PROGRAM, IN A SANDBOX (cutbox-rows.mjs): the forced cells as the released guide's own fill.sh prints them over the translation 5cbe0927f466a7df… (all of the seat's roots in one cut). By AI agents, Wed Nov 11 2026. No macro, syntax, notation, axiom, sorry.
-/
import Derived.Test.YtojjopielekpdaaChecked
import GoSem.Claim
import GoSem.ClaimJoined
import GoSem.ClaimMapViews
import Derived.JoinedTies
import Derived.KernelRfl
namespace Go.Proofs.Ytojjopielekpdaa
/- THE CELL 'sum', in the pinned program and in every row, IS THE sha256 OF THE DUMP (.gsa) THAT YtojjopielekpdaaProg.lean LOADS. Nothing in Lean hashes anything: it is a label: what it is worth is what the hold of that sum in a sandbox is worth. -/
noncomputable def Try.pinned : Pinned := { name := "ytojjopielekpdaa", sum := "5cbe0927f466a7dfc07dcdbf3afb702a35dd024bedca002478f26eb8c8557f47", checked := Try.checked }
namespace Rows
def none {H : Type} : Left H := { results := [], args := [] }

/-- 'laws.FnExactGcdNat': WHATEVER THE INPUT: true; the input reads as it did. -/
def fnExactGcdNatSpec : ChangeSpec := { name := "fnExactGcdNat", fn := fun _ => fun
  | [d1, d2] => { results := [.lit (.bool true)], args := [d1, d2] }
  | _ => none }
def fnExactGcdNatRow : OpenClaim := { program := "ytojjopielekpdaa", sum := "5cbe0927f466a7dfc07dcdbf3afb702a35dd024bedca002478f26eb8c8557f47", func := "loop.example/g00615/laws.FnExactGcdNat", spec := "fnExactGcdNat", apart := false }
def FnExactGcdNatSaid : Prop := fnExactGcdNatRow.holds Try.pinned (OpenSpec.ofChange fnExactGcdNatSpec)

/-- ITS FALSE NEIGHBOUR: 'it returns false'. Refute it at one input. -/
def fnExactGcdNatWrong : ChangeSpec := { name := "fnExactGcdNat", fn := fun _ => fun
  | [d1, d2] => { results := [.lit (.bool false)], args := [d1, d2] }
  | _ => none }
def FnExactGcdNatWrongFalsely : Prop := fnExactGcdNatRow.holds Try.pinned (OpenSpec.ofChange fnExactGcdNatWrong)

/-- 'laws.FnExactRatOK': WHATEVER THE INPUT: true; the input reads as it did. -/
def fnExactRatOKSpec : ChangeSpec := { name := "fnExactRatOK", fn := fun _ => fun
  | [d] => { results := [.lit (.bool true)], args := [d] }
  | _ => none }
def fnExactRatOKRow : OpenClaim := { program := "ytojjopielekpdaa", sum := "5cbe0927f466a7dfc07dcdbf3afb702a35dd024bedca002478f26eb8c8557f47", func := "loop.example/g00615/laws.FnExactRatOK", spec := "fnExactRatOK", apart := false }
def FnExactRatOKSaid : Prop := fnExactRatOKRow.holds Try.pinned (OpenSpec.ofChange fnExactRatOKSpec)

/-- ITS FALSE NEIGHBOUR: 'it returns false'. Refute it at one input. -/
def fnExactRatOKWrong : ChangeSpec := { name := "fnExactRatOK", fn := fun _ => fun
  | [d] => { results := [.lit (.bool false)], args := [d] }
  | _ => none }
def FnExactRatOKWrongFalsely : Prop := fnExactRatOKRow.holds Try.pinned (OpenSpec.ofChange fnExactRatOKWrong)

/-- 'laws.FnExactCmpRat': WHATEVER THE INPUT: true; the input reads as it did. -/
def fnExactCmpRatSpec : ChangeSpec := { name := "fnExactCmpRat", fn := fun _ => fun
  | [d1, d2] => { results := [.lit (.bool true)], args := [d1, d2] }
  | _ => none }
def fnExactCmpRatRow : OpenClaim := { program := "ytojjopielekpdaa", sum := "5cbe0927f466a7dfc07dcdbf3afb702a35dd024bedca002478f26eb8c8557f47", func := "loop.example/g00615/laws.FnExactCmpRat", spec := "fnExactCmpRat", apart := false }
def FnExactCmpRatSaid : Prop := fnExactCmpRatRow.holds Try.pinned (OpenSpec.ofChange fnExactCmpRatSpec)

/-- ITS FALSE NEIGHBOUR: 'it returns false'. Refute it at one input. -/
def fnExactCmpRatWrong : ChangeSpec := { name := "fnExactCmpRat", fn := fun _ => fun
  | [d1, d2] => { results := [.lit (.bool false)], args := [d1, d2] }
  | _ => none }
def FnExactCmpRatWrongFalsely : Prop := fnExactCmpRatRow.holds Try.pinned (OpenSpec.ofChange fnExactCmpRatWrong)

/-- 'laws.FnExactNegRat': WHATEVER THE INPUT: true; the input reads as it did. -/
def fnExactNegRatSpec : ChangeSpec := { name := "fnExactNegRat", fn := fun _ => fun
  | [d] => { results := [.lit (.bool true)], args := [d] }
  | _ => none }
def fnExactNegRatRow : OpenClaim := { program := "ytojjopielekpdaa", sum := "5cbe0927f466a7dfc07dcdbf3afb702a35dd024bedca002478f26eb8c8557f47", func := "loop.example/g00615/laws.FnExactNegRat", spec := "fnExactNegRat", apart := false }
def FnExactNegRatSaid : Prop := fnExactNegRatRow.holds Try.pinned (OpenSpec.ofChange fnExactNegRatSpec)

/-- ITS FALSE NEIGHBOUR: 'it returns false'. Refute it at one input. -/
def fnExactNegRatWrong : ChangeSpec := { name := "fnExactNegRat", fn := fun _ => fun
  | [d] => { results := [.lit (.bool false)], args := [d] }
  | _ => none }
def FnExactNegRatWrongFalsely : Prop := fnExactNegRatRow.holds Try.pinned (OpenSpec.ofChange fnExactNegRatWrong)

/-- 'laws.FnExactAbsRat': WHATEVER THE INPUT: true; the input reads as it did. -/
def fnExactAbsRatSpec : ChangeSpec := { name := "fnExactAbsRat", fn := fun _ => fun
  | [d] => { results := [.lit (.bool true)], args := [d] }
  | _ => none }
def fnExactAbsRatRow : OpenClaim := { program := "ytojjopielekpdaa", sum := "5cbe0927f466a7dfc07dcdbf3afb702a35dd024bedca002478f26eb8c8557f47", func := "loop.example/g00615/laws.FnExactAbsRat", spec := "fnExactAbsRat", apart := false }
def FnExactAbsRatSaid : Prop := fnExactAbsRatRow.holds Try.pinned (OpenSpec.ofChange fnExactAbsRatSpec)

/-- ITS FALSE NEIGHBOUR: 'it returns false'. Refute it at one input. -/
def fnExactAbsRatWrong : ChangeSpec := { name := "fnExactAbsRat", fn := fun _ => fun
  | [d] => { results := [.lit (.bool false)], args := [d] }
  | _ => none }
def FnExactAbsRatWrongFalsely : Prop := fnExactAbsRatRow.holds Try.pinned (OpenSpec.ofChange fnExactAbsRatWrong)

/-- 'laws.FnExactFloorRat': WHATEVER THE INPUT: true; the input reads as it did. -/
def fnExactFloorRatSpec : ChangeSpec := { name := "fnExactFloorRat", fn := fun _ => fun
  | [d] => { results := [.lit (.bool true)], args := [d] }
  | _ => none }
def fnExactFloorRatRow : OpenClaim := { program := "ytojjopielekpdaa", sum := "5cbe0927f466a7dfc07dcdbf3afb702a35dd024bedca002478f26eb8c8557f47", func := "loop.example/g00615/laws.FnExactFloorRat", spec := "fnExactFloorRat", apart := false }
def FnExactFloorRatSaid : Prop := fnExactFloorRatRow.holds Try.pinned (OpenSpec.ofChange fnExactFloorRatSpec)

/-- ITS FALSE NEIGHBOUR: 'it returns false'. Refute it at one input. -/
def fnExactFloorRatWrong : ChangeSpec := { name := "fnExactFloorRat", fn := fun _ => fun
  | [d] => { results := [.lit (.bool false)], args := [d] }
  | _ => none }
def FnExactFloorRatWrongFalsely : Prop := fnExactFloorRatRow.holds Try.pinned (OpenSpec.ofChange fnExactFloorRatWrong)

/- THE SECOND FORM. 'bulk': how many values and letters a reading holds, each counted each time it is reached (what is shared counts as often as it is met; a slice's spare places count too). A statement '..UptoSaid' is the law's where the arguments, and the package variables that the reading takes, are together of bulk at most 1048576: NARROWER than '..Said'. Prove '..Said' where nothing that the law and all that it calls make is longer than what came in: it says more and counts as full. Else prove '..UptoSaid'. A law counts once. -/
mutual
def uptoBulk {H : Type} : DataW H → Nat
  | .lit (.string bytes) => bytes.length + 1
  | .lit _ => 1
  | .nil => 1
  | .ptr d => uptoBulk d + 1
  | .slice elems spare => uptoBulkAll elems + uptoBulkAll spare + 1
  | .agg parts => uptoBulkAll parts + 1
  | .iface _ d => uptoBulk d + 1
  | .map entries => uptoBulkEntries entries + 1
  | .held _ => 1
def uptoBulkAll {H : Type} : List (DataW H) → Nat
  | [] => 0
  | d :: r => uptoBulk d + uptoBulkAll r
def uptoBulkEntries {H : Type} : List (Lit × DataW H) → Nat
  | [] => 0
  | x :: r => uptoBulkEntry x + uptoBulkEntries r
def uptoBulkEntry {H : Type} : Lit × DataW H → Nat
  | (.string bytes, d) => bytes.length + uptoBulk d + 1
  | (_, d) => uptoBulk d + 1
 end
def uptoSmall : (H : Type) → List (DataW H) → Bool := fun _ ds => decide (uptoBulkAll ds ≤ 1048576)
def OpenSpec.upto (s : _root_.Go.ChangeSpec) : _root_.Go.OpenSpec := { _root_.Go.OpenSpec.ofChange s with cond := some uptoSmall }

/-- 'laws.FnExactGcdNat', WHERE WHAT IT READS IS OF BULK AT MOST 1048576: true; the input reads as it did. -/
def fnExactGcdNatUptoRow : OpenClaim := { program := "ytojjopielekpdaa", sum := "5cbe0927f466a7dfc07dcdbf3afb702a35dd024bedca002478f26eb8c8557f47", func := "loop.example/g00615/laws.FnExactGcdNat", spec := "fnExactGcdNat", apart := false, narrowed := true }
def FnExactGcdNatUptoSaid : Prop := fnExactGcdNatUptoRow.holds Try.pinned (OpenSpec.upto fnExactGcdNatSpec)

/-- 'laws.FnExactRatOK', WHERE WHAT IT READS IS OF BULK AT MOST 1048576: true; the input reads as it did. -/
def fnExactRatOKUptoRow : OpenClaim := { program := "ytojjopielekpdaa", sum := "5cbe0927f466a7dfc07dcdbf3afb702a35dd024bedca002478f26eb8c8557f47", func := "loop.example/g00615/laws.FnExactRatOK", spec := "fnExactRatOK", apart := false, narrowed := true }
def FnExactRatOKUptoSaid : Prop := fnExactRatOKUptoRow.holds Try.pinned (OpenSpec.upto fnExactRatOKSpec)

/-- 'laws.FnExactCmpRat', WHERE WHAT IT READS IS OF BULK AT MOST 1048576: true; the input reads as it did. -/
def fnExactCmpRatUptoRow : OpenClaim := { program := "ytojjopielekpdaa", sum := "5cbe0927f466a7dfc07dcdbf3afb702a35dd024bedca002478f26eb8c8557f47", func := "loop.example/g00615/laws.FnExactCmpRat", spec := "fnExactCmpRat", apart := false, narrowed := true }
def FnExactCmpRatUptoSaid : Prop := fnExactCmpRatUptoRow.holds Try.pinned (OpenSpec.upto fnExactCmpRatSpec)

/-- 'laws.FnExactNegRat', WHERE WHAT IT READS IS OF BULK AT MOST 1048576: true; the input reads as it did. -/
def fnExactNegRatUptoRow : OpenClaim := { program := "ytojjopielekpdaa", sum := "5cbe0927f466a7dfc07dcdbf3afb702a35dd024bedca002478f26eb8c8557f47", func := "loop.example/g00615/laws.FnExactNegRat", spec := "fnExactNegRat", apart := false, narrowed := true }
def FnExactNegRatUptoSaid : Prop := fnExactNegRatUptoRow.holds Try.pinned (OpenSpec.upto fnExactNegRatSpec)

/-- 'laws.FnExactAbsRat', WHERE WHAT IT READS IS OF BULK AT MOST 1048576: true; the input reads as it did. -/
def fnExactAbsRatUptoRow : OpenClaim := { program := "ytojjopielekpdaa", sum := "5cbe0927f466a7dfc07dcdbf3afb702a35dd024bedca002478f26eb8c8557f47", func := "loop.example/g00615/laws.FnExactAbsRat", spec := "fnExactAbsRat", apart := false, narrowed := true }
def FnExactAbsRatUptoSaid : Prop := fnExactAbsRatUptoRow.holds Try.pinned (OpenSpec.upto fnExactAbsRatSpec)

/-- 'laws.FnExactFloorRat', WHERE WHAT IT READS IS OF BULK AT MOST 1048576: true; the input reads as it did. -/
def fnExactFloorRatUptoRow : OpenClaim := { program := "ytojjopielekpdaa", sum := "5cbe0927f466a7dfc07dcdbf3afb702a35dd024bedca002478f26eb8c8557f47", func := "loop.example/g00615/laws.FnExactFloorRat", spec := "fnExactFloorRat", apart := false, narrowed := true }
def FnExactFloorRatUptoSaid : Prop := fnExactFloorRatUptoRow.holds Try.pinned (OpenSpec.upto fnExactFloorRatSpec)

end Rows
end Go.Proofs.Ytojjopielekpdaa
