/-
  No cell of these rows narrows 'for every input' (looked for: loops, veiled, ifaces, maps, wideKeys, modest, calm, conditions, laid).
  DERIVED. THE GIVEN ROWS OF THIS SEAT. 9 by the template 'for every input the law returns true; each argument reads behind the call as it read before'; 0 by the template 'total and deterministic' (their statements: YtnagmhmjhhfmcaaTotals.lean).
  GIVEN WITH THE SEED: the statements are not yours to turn. If you find one false, say at which input.
  Laid BY PROGRAM, IN A SANDBOX (cutbox-rows.mjs): the forced cells as the released guide's own fill.sh prints them over the translation b22190e53672d65b… (all of the seat's roots in one cut). By AI agents, Wed Nov 11 2026. No macro, syntax, notation, axiom, sorry.
-/
import Derived.Test.YtnagmhmjhhfmcaaChecked
import GoSem.Claim
import GoSem.ClaimJoined
import GoSem.ClaimMapViews
import Derived.JoinedTies
import Derived.KernelRfl
namespace Go.Proofs.Ytnagmhmjhhfmcaa
/- THE CELL 'sum', in the pinned program and in every row, IS THE sha256 OF THE DUMP (.gsa) THAT YtnagmhmjhhfmcaaProg.lean LOADS. Nothing in Lean hashes anything: it is a label: what it is worth is what the hold of that sum in a sandbox is worth. -/
noncomputable def Try.pinned : Pinned := { name := "ytnagmhmjhhfmcaa", sum := "b22190e53672d65bc66f23f5a930a9aca01003d503721a05d25be5abe2ac39ee", checked := Try.checked }
namespace Rows
def none {H : Type} : Left H := { results := [], args := [] }

/-- 'laws.FnExactConstants': WHATEVER THE INPUT: true; the input reads as it did. -/
def fnExactConstantsSpec : ChangeSpec := { name := "fnExactConstants", fn := fun _ => fun
  | [] => { results := [.lit (.bool true)], args := [] }
  | _ => none }
def fnExactConstantsRow : OpenClaim := { program := "ytnagmhmjhhfmcaa", sum := "b22190e53672d65bc66f23f5a930a9aca01003d503721a05d25be5abe2ac39ee", func := "loop.example/g00615/laws.FnExactConstants", spec := "fnExactConstants", apart := false }
def FnExactConstantsSaid : Prop := fnExactConstantsRow.holds Try.pinned (OpenSpec.ofChange fnExactConstantsSpec)

/-- ITS FALSE NEIGHBOUR: 'it returns false'. Refute it at one input. -/
def fnExactConstantsWrong : ChangeSpec := { name := "fnExactConstants", fn := fun _ => fun
  | [] => { results := [.lit (.bool false)], args := [] }
  | _ => none }
def FnExactConstantsWrongFalsely : Prop := fnExactConstantsRow.holds Try.pinned (OpenSpec.ofChange fnExactConstantsWrong)

/-- 'laws.FnExactNameOK': WHATEVER THE INPUT: true; the input reads as it did. -/
def fnExactNameOKSpec : ChangeSpec := { name := "fnExactNameOK", fn := fun _ => fun
  | [d] => { results := [.lit (.bool true)], args := [d] }
  | _ => none }
def fnExactNameOKRow : OpenClaim := { program := "ytnagmhmjhhfmcaa", sum := "b22190e53672d65bc66f23f5a930a9aca01003d503721a05d25be5abe2ac39ee", func := "loop.example/g00615/laws.FnExactNameOK", spec := "fnExactNameOK", apart := false }
def FnExactNameOKSaid : Prop := fnExactNameOKRow.holds Try.pinned (OpenSpec.ofChange fnExactNameOKSpec)

/-- ITS FALSE NEIGHBOUR: 'it returns false'. Refute it at one input. -/
def fnExactNameOKWrong : ChangeSpec := { name := "fnExactNameOK", fn := fun _ => fun
  | [d] => { results := [.lit (.bool false)], args := [d] }
  | _ => none }
def FnExactNameOKWrongFalsely : Prop := fnExactNameOKRow.holds Try.pinned (OpenSpec.ofChange fnExactNameOKWrong)

/-- 'laws.FnExactNatOK': WHATEVER THE INPUT: true; the input reads as it did. -/
def fnExactNatOKSpec : ChangeSpec := { name := "fnExactNatOK", fn := fun _ => fun
  | [d] => { results := [.lit (.bool true)], args := [d] }
  | _ => none }
def fnExactNatOKRow : OpenClaim := { program := "ytnagmhmjhhfmcaa", sum := "b22190e53672d65bc66f23f5a930a9aca01003d503721a05d25be5abe2ac39ee", func := "loop.example/g00615/laws.FnExactNatOK", spec := "fnExactNatOK", apart := false }
def FnExactNatOKSaid : Prop := fnExactNatOKRow.holds Try.pinned (OpenSpec.ofChange fnExactNatOKSpec)

/-- ITS FALSE NEIGHBOUR: 'it returns false'. Refute it at one input. -/
def fnExactNatOKWrong : ChangeSpec := { name := "fnExactNatOK", fn := fun _ => fun
  | [d] => { results := [.lit (.bool false)], args := [d] }
  | _ => none }
def FnExactNatOKWrongFalsely : Prop := fnExactNatOKRow.holds Try.pinned (OpenSpec.ofChange fnExactNatOKWrong)

/-- 'laws.FnExactCmpNat': WHATEVER THE INPUT: true; the input reads as it did. -/
def fnExactCmpNatSpec : ChangeSpec := { name := "fnExactCmpNat", fn := fun _ => fun
  | [d1, d2] => { results := [.lit (.bool true)], args := [d1, d2] }
  | _ => none }
def fnExactCmpNatRow : OpenClaim := { program := "ytnagmhmjhhfmcaa", sum := "b22190e53672d65bc66f23f5a930a9aca01003d503721a05d25be5abe2ac39ee", func := "loop.example/g00615/laws.FnExactCmpNat", spec := "fnExactCmpNat", apart := false }
def FnExactCmpNatSaid : Prop := fnExactCmpNatRow.holds Try.pinned (OpenSpec.ofChange fnExactCmpNatSpec)

/-- ITS FALSE NEIGHBOUR: 'it returns false'. Refute it at one input. -/
def fnExactCmpNatWrong : ChangeSpec := { name := "fnExactCmpNat", fn := fun _ => fun
  | [d1, d2] => { results := [.lit (.bool false)], args := [d1, d2] }
  | _ => none }
def FnExactCmpNatWrongFalsely : Prop := fnExactCmpNatRow.holds Try.pinned (OpenSpec.ofChange fnExactCmpNatWrong)

/-- 'laws.FnExactAddNat': WHATEVER THE INPUT: true; the input reads as it did. -/
def fnExactAddNatSpec : ChangeSpec := { name := "fnExactAddNat", fn := fun _ => fun
  | [d1, d2] => { results := [.lit (.bool true)], args := [d1, d2] }
  | _ => none }
def fnExactAddNatRow : OpenClaim := { program := "ytnagmhmjhhfmcaa", sum := "b22190e53672d65bc66f23f5a930a9aca01003d503721a05d25be5abe2ac39ee", func := "loop.example/g00615/laws.FnExactAddNat", spec := "fnExactAddNat", apart := false }
def FnExactAddNatSaid : Prop := fnExactAddNatRow.holds Try.pinned (OpenSpec.ofChange fnExactAddNatSpec)

/-- ITS FALSE NEIGHBOUR: 'it returns false'. Refute it at one input. -/
def fnExactAddNatWrong : ChangeSpec := { name := "fnExactAddNat", fn := fun _ => fun
  | [d1, d2] => { results := [.lit (.bool false)], args := [d1, d2] }
  | _ => none }
def FnExactAddNatWrongFalsely : Prop := fnExactAddNatRow.holds Try.pinned (OpenSpec.ofChange fnExactAddNatWrong)

/-- 'laws.FnExactSubNat': WHATEVER THE INPUT: true; the input reads as it did. -/
def fnExactSubNatSpec : ChangeSpec := { name := "fnExactSubNat", fn := fun _ => fun
  | [d1, d2] => { results := [.lit (.bool true)], args := [d1, d2] }
  | _ => none }
def fnExactSubNatRow : OpenClaim := { program := "ytnagmhmjhhfmcaa", sum := "b22190e53672d65bc66f23f5a930a9aca01003d503721a05d25be5abe2ac39ee", func := "loop.example/g00615/laws.FnExactSubNat", spec := "fnExactSubNat", apart := false }
def FnExactSubNatSaid : Prop := fnExactSubNatRow.holds Try.pinned (OpenSpec.ofChange fnExactSubNatSpec)

/-- ITS FALSE NEIGHBOUR: 'it returns false'. Refute it at one input. -/
def fnExactSubNatWrong : ChangeSpec := { name := "fnExactSubNat", fn := fun _ => fun
  | [d1, d2] => { results := [.lit (.bool false)], args := [d1, d2] }
  | _ => none }
def FnExactSubNatWrongFalsely : Prop := fnExactSubNatRow.holds Try.pinned (OpenSpec.ofChange fnExactSubNatWrong)

/-- 'laws.FnExactMulNat': WHATEVER THE INPUT: true; the input reads as it did. -/
def fnExactMulNatSpec : ChangeSpec := { name := "fnExactMulNat", fn := fun _ => fun
  | [d1, d2] => { results := [.lit (.bool true)], args := [d1, d2] }
  | _ => none }
def fnExactMulNatRow : OpenClaim := { program := "ytnagmhmjhhfmcaa", sum := "b22190e53672d65bc66f23f5a930a9aca01003d503721a05d25be5abe2ac39ee", func := "loop.example/g00615/laws.FnExactMulNat", spec := "fnExactMulNat", apart := false }
def FnExactMulNatSaid : Prop := fnExactMulNatRow.holds Try.pinned (OpenSpec.ofChange fnExactMulNatSpec)

/-- ITS FALSE NEIGHBOUR: 'it returns false'. Refute it at one input. -/
def fnExactMulNatWrong : ChangeSpec := { name := "fnExactMulNat", fn := fun _ => fun
  | [d1, d2] => { results := [.lit (.bool false)], args := [d1, d2] }
  | _ => none }
def FnExactMulNatWrongFalsely : Prop := fnExactMulNatRow.holds Try.pinned (OpenSpec.ofChange fnExactMulNatWrong)

/-- 'laws.FnExactReadNat': WHATEVER THE INPUT: true; the input reads as it did. -/
def fnExactReadNatSpec : ChangeSpec := { name := "fnExactReadNat", fn := fun _ => fun
  | [d] => { results := [.lit (.bool true)], args := [d] }
  | _ => none }
def fnExactReadNatRow : OpenClaim := { program := "ytnagmhmjhhfmcaa", sum := "b22190e53672d65bc66f23f5a930a9aca01003d503721a05d25be5abe2ac39ee", func := "loop.example/g00615/laws.FnExactReadNat", spec := "fnExactReadNat", apart := false }
def FnExactReadNatSaid : Prop := fnExactReadNatRow.holds Try.pinned (OpenSpec.ofChange fnExactReadNatSpec)

/-- ITS FALSE NEIGHBOUR: 'it returns false'. Refute it at one input. -/
def fnExactReadNatWrong : ChangeSpec := { name := "fnExactReadNat", fn := fun _ => fun
  | [d] => { results := [.lit (.bool false)], args := [d] }
  | _ => none }
def FnExactReadNatWrongFalsely : Prop := fnExactReadNatRow.holds Try.pinned (OpenSpec.ofChange fnExactReadNatWrong)

/-- 'laws.FnExactDivNat': WHATEVER THE INPUT: true; the input reads as it did. -/
def fnExactDivNatSpec : ChangeSpec := { name := "fnExactDivNat", fn := fun _ => fun
  | [d1, d2] => { results := [.lit (.bool true)], args := [d1, d2] }
  | _ => none }
def fnExactDivNatRow : OpenClaim := { program := "ytnagmhmjhhfmcaa", sum := "b22190e53672d65bc66f23f5a930a9aca01003d503721a05d25be5abe2ac39ee", func := "loop.example/g00615/laws.FnExactDivNat", spec := "fnExactDivNat", apart := false }
def FnExactDivNatSaid : Prop := fnExactDivNatRow.holds Try.pinned (OpenSpec.ofChange fnExactDivNatSpec)

/-- ITS FALSE NEIGHBOUR: 'it returns false'. Refute it at one input. -/
def fnExactDivNatWrong : ChangeSpec := { name := "fnExactDivNat", fn := fun _ => fun
  | [d1, d2] => { results := [.lit (.bool false)], args := [d1, d2] }
  | _ => none }
def FnExactDivNatWrongFalsely : Prop := fnExactDivNatRow.holds Try.pinned (OpenSpec.ofChange fnExactDivNatWrong)

/- THE SECOND FORM. 'bulk': how many values and letters a reading holds, each counted each time it is reached (what is shared counts as often as it is met; a slice's spare places count too). A statement '..UptoSaid' is the law's where the arguments, and the package variables that the reading takes, are together of bulk at most 1048576: NARROWER than '..Said'. Prove '..Said' where nothing that the law and all that it calls make is longer than what came in: it says more and counts as full. Else prove '..UptoSaid'. A law counts once. -/
mutual
def uptoBulk {H : Type} : DataW H → Nat
  | .lit (.string bytes) => bytes.length + 1
  | .lit _ => 1
  | .nil => 1
  | .ptr d => uptoBulk d + 1
  | .slice elems spare => uptoBulkAll elems + uptoBulkAll spare + 1
  | .agg parts => uptoBulkAll parts + 1
  | .iface _ d => uptoBulk d + 1
  | .map entries => uptoBulkEntries entries + 1
  | .held _ => 1
def uptoBulkAll {H : Type} : List (DataW H) → Nat
  | [] => 0
  | d :: r => uptoBulk d + uptoBulkAll r
def uptoBulkEntries {H : Type} : List (Lit × DataW H) → Nat
  | [] => 0
  | x :: r => uptoBulkEntry x + uptoBulkEntries r
def uptoBulkEntry {H : Type} : Lit × DataW H → Nat
  | (.string bytes, d) => bytes.length + uptoBulk d + 1
  | (_, d) => uptoBulk d + 1
 end
def uptoSmall : (H : Type) → List (DataW H) → Bool := fun _ ds => decide (uptoBulkAll ds ≤ 1048576)
def OpenSpec.upto (s : _root_.Go.ChangeSpec) : _root_.Go.OpenSpec := { _root_.Go.OpenSpec.ofChange s with cond := some uptoSmall }

/-- 'laws.FnExactConstants', WHERE WHAT IT READS IS OF BULK AT MOST 1048576: true; the input reads as it did. -/
def fnExactConstantsUptoRow : OpenClaim := { program := "ytnagmhmjhhfmcaa", sum := "b22190e53672d65bc66f23f5a930a9aca01003d503721a05d25be5abe2ac39ee", func := "loop.example/g00615/laws.FnExactConstants", spec := "fnExactConstants", apart := false, narrowed := true }
def FnExactConstantsUptoSaid : Prop := fnExactConstantsUptoRow.holds Try.pinned (OpenSpec.upto fnExactConstantsSpec)

/-- 'laws.FnExactNameOK', WHERE WHAT IT READS IS OF BULK AT MOST 1048576: true; the input reads as it did. -/
def fnExactNameOKUptoRow : OpenClaim := { program := "ytnagmhmjhhfmcaa", sum := "b22190e53672d65bc66f23f5a930a9aca01003d503721a05d25be5abe2ac39ee", func := "loop.example/g00615/laws.FnExactNameOK", spec := "fnExactNameOK", apart := false, narrowed := true }
def FnExactNameOKUptoSaid : Prop := fnExactNameOKUptoRow.holds Try.pinned (OpenSpec.upto fnExactNameOKSpec)

/-- 'laws.FnExactNatOK', WHERE WHAT IT READS IS OF BULK AT MOST 1048576: true; the input reads as it did. -/
def fnExactNatOKUptoRow : OpenClaim := { program := "ytnagmhmjhhfmcaa", sum := "b22190e53672d65bc66f23f5a930a9aca01003d503721a05d25be5abe2ac39ee", func := "loop.example/g00615/laws.FnExactNatOK", spec := "fnExactNatOK", apart := false, narrowed := true }
def FnExactNatOKUptoSaid : Prop := fnExactNatOKUptoRow.holds Try.pinned (OpenSpec.upto fnExactNatOKSpec)

/-- 'laws.FnExactCmpNat', WHERE WHAT IT READS IS OF BULK AT MOST 1048576: true; the input reads as it did. -/
def fnExactCmpNatUptoRow : OpenClaim := { program := "ytnagmhmjhhfmcaa", sum := "b22190e53672d65bc66f23f5a930a9aca01003d503721a05d25be5abe2ac39ee", func := "loop.example/g00615/laws.FnExactCmpNat", spec := "fnExactCmpNat", apart := false, narrowed := true }
def FnExactCmpNatUptoSaid : Prop := fnExactCmpNatUptoRow.holds Try.pinned (OpenSpec.upto fnExactCmpNatSpec)

/-- 'laws.FnExactAddNat', WHERE WHAT IT READS IS OF BULK AT MOST 1048576: true; the input reads as it did. -/
def fnExactAddNatUptoRow : OpenClaim := { program := "ytnagmhmjhhfmcaa", sum := "b22190e53672d65bc66f23f5a930a9aca01003d503721a05d25be5abe2ac39ee", func := "loop.example/g00615/laws.FnExactAddNat", spec := "fnExactAddNat", apart := false, narrowed := true }
def FnExactAddNatUptoSaid : Prop := fnExactAddNatUptoRow.holds Try.pinned (OpenSpec.upto fnExactAddNatSpec)

/-- 'laws.FnExactSubNat', WHERE WHAT IT READS IS OF BULK AT MOST 1048576: true; the input reads as it did. -/
def fnExactSubNatUptoRow : OpenClaim := { program := "ytnagmhmjhhfmcaa", sum := "b22190e53672d65bc66f23f5a930a9aca01003d503721a05d25be5abe2ac39ee", func := "loop.example/g00615/laws.FnExactSubNat", spec := "fnExactSubNat", apart := false, narrowed := true }
def FnExactSubNatUptoSaid : Prop := fnExactSubNatUptoRow.holds Try.pinned (OpenSpec.upto fnExactSubNatSpec)

/-- 'laws.FnExactMulNat', WHERE WHAT IT READS IS OF BULK AT MOST 1048576: true; the input reads as it did. -/
def fnExactMulNatUptoRow : OpenClaim := { program := "ytnagmhmjhhfmcaa", sum := "b22190e53672d65bc66f23f5a930a9aca01003d503721a05d25be5abe2ac39ee", func := "loop.example/g00615/laws.FnExactMulNat", spec := "fnExactMulNat", apart := false, narrowed := true }
def FnExactMulNatUptoSaid : Prop := fnExactMulNatUptoRow.holds Try.pinned (OpenSpec.upto fnExactMulNatSpec)

/-- 'laws.FnExactReadNat', WHERE WHAT IT READS IS OF BULK AT MOST 1048576: true; the input reads as it did. -/
def fnExactReadNatUptoRow : OpenClaim := { program := "ytnagmhmjhhfmcaa", sum := "b22190e53672d65bc66f23f5a930a9aca01003d503721a05d25be5abe2ac39ee", func := "loop.example/g00615/laws.FnExactReadNat", spec := "fnExactReadNat", apart := false, narrowed := true }
def FnExactReadNatUptoSaid : Prop := fnExactReadNatUptoRow.holds Try.pinned (OpenSpec.upto fnExactReadNatSpec)

/-- 'laws.FnExactDivNat', WHERE WHAT IT READS IS OF BULK AT MOST 1048576: true; the input reads as it did. -/
def fnExactDivNatUptoRow : OpenClaim := { program := "ytnagmhmjhhfmcaa", sum := "b22190e53672d65bc66f23f5a930a9aca01003d503721a05d25be5abe2ac39ee", func := "loop.example/g00615/laws.FnExactDivNat", spec := "fnExactDivNat", apart := false, narrowed := true }
def FnExactDivNatUptoSaid : Prop := fnExactDivNatUptoRow.holds Try.pinned (OpenSpec.upto fnExactDivNatSpec)

end Rows
end Go.Proofs.Ytnagmhmjhhfmcaa
