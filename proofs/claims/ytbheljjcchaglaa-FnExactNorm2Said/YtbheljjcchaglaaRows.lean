/-
  No cell of these rows narrows 'for every input' (looked for: loops, veiled, ifaces, maps, wideKeys, modest, calm, conditions, laid).
  DERIVED. THE GIVEN ROWS OF THIS SEAT. 8 by the template 'for every input the law returns true; each argument reads behind the call as it read before'; 0 by the template 'total and deterministic' (their statements: YtbheljjcchaglaaTotals.lean).
  GIVEN WITH THE SEED: the statements are not yours to turn. If you find one false, say at which input.
  Laid BY PROGRAM, IN A SANDBOX (cutbox-rows.mjs): the forced cells as the released guide's own fill.sh prints them over the translation fc90ee527de6666a… (all of the seat's roots in one cut). By AI agents, Wed Nov 11 2026. No macro, syntax, notation, axiom, sorry.
-/
import Derived.Test.YtbheljjcchaglaaChecked
import GoSem.Claim
import GoSem.ClaimJoined
import GoSem.ClaimMapViews
import Derived.JoinedTies
import Derived.KernelRfl
namespace Go.Proofs.Ytbheljjcchaglaa
/- THE CELL 'sum', in the pinned program and in every row, IS THE sha256 OF THE DUMP (.gsa) THAT YtbheljjcchaglaaProg.lean LOADS. Nothing in Lean hashes anything: it is a label: what it is worth is what the hold of that sum in a sandbox is worth. -/
noncomputable def Try.pinned : Pinned := { name := "ytbheljjcchaglaa", sum := "fc90ee527de6666af14526a91bfa16debaee6fc421388828744c82766b339119", checked := Try.checked }
namespace Rows
def none {H : Type} : Left H := { results := [], args := [] }

/-- 'laws.FnExactTokenOK': WHATEVER THE INPUT: true; the input reads as it did. -/
def fnExactTokenOKSpec : ChangeSpec := { name := "fnExactTokenOK", fn := fun _ => fun
  | [d] => { results := [.lit (.bool true)], args := [d] }
  | _ => none }
def fnExactTokenOKRow : OpenClaim := { program := "ytbheljjcchaglaa", sum := "fc90ee527de6666af14526a91bfa16debaee6fc421388828744c82766b339119", func := "loop.example/g00615/laws.FnExactTokenOK", spec := "fnExactTokenOK", apart := false }
def FnExactTokenOKSaid : Prop := fnExactTokenOKRow.holds Try.pinned (OpenSpec.ofChange fnExactTokenOKSpec)

/-- ITS FALSE NEIGHBOUR: 'it returns false'. Refute it at one input. -/
def fnExactTokenOKWrong : ChangeSpec := { name := "fnExactTokenOK", fn := fun _ => fun
  | [d] => { results := [.lit (.bool false)], args := [d] }
  | _ => none }
def FnExactTokenOKWrongFalsely : Prop := fnExactTokenOKRow.holds Try.pinned (OpenSpec.ofChange fnExactTokenOKWrong)

/-- 'laws.FnExactVecOK': WHATEVER THE INPUT: true; the input reads as it did. -/
def fnExactVecOKSpec : ChangeSpec := { name := "fnExactVecOK", fn := fun _ => fun
  | [d] => { results := [.lit (.bool true)], args := [d] }
  | _ => none }
def fnExactVecOKRow : OpenClaim := { program := "ytbheljjcchaglaa", sum := "fc90ee527de6666af14526a91bfa16debaee6fc421388828744c82766b339119", func := "loop.example/g00615/laws.FnExactVecOK", spec := "fnExactVecOK", apart := false }
def FnExactVecOKSaid : Prop := fnExactVecOKRow.holds Try.pinned (OpenSpec.ofChange fnExactVecOKSpec)

/-- ITS FALSE NEIGHBOUR: 'it returns false'. Refute it at one input. -/
def fnExactVecOKWrong : ChangeSpec := { name := "fnExactVecOK", fn := fun _ => fun
  | [d] => { results := [.lit (.bool false)], args := [d] }
  | _ => none }
def FnExactVecOKWrongFalsely : Prop := fnExactVecOKRow.holds Try.pinned (OpenSpec.ofChange fnExactVecOKWrong)

/-- 'laws.FnExactSameVec': WHATEVER THE INPUT: true; the input reads as it did. -/
def fnExactSameVecSpec : ChangeSpec := { name := "fnExactSameVec", fn := fun _ => fun
  | [d1, d2] => { results := [.lit (.bool true)], args := [d1, d2] }
  | _ => none }
def fnExactSameVecRow : OpenClaim := { program := "ytbheljjcchaglaa", sum := "fc90ee527de6666af14526a91bfa16debaee6fc421388828744c82766b339119", func := "loop.example/g00615/laws.FnExactSameVec", spec := "fnExactSameVec", unfollowed := true, recurses := true, apart := false }
def FnExactSameVecSaid : Prop := fnExactSameVecRow.holds Try.pinned (OpenSpec.ofChange fnExactSameVecSpec)

/-- ITS FALSE NEIGHBOUR: 'it returns false'. Refute it at one input. -/
def fnExactSameVecWrong : ChangeSpec := { name := "fnExactSameVec", fn := fun _ => fun
  | [d1, d2] => { results := [.lit (.bool false)], args := [d1, d2] }
  | _ => none }
def FnExactSameVecWrongFalsely : Prop := fnExactSameVecRow.holds Try.pinned (OpenSpec.ofChange fnExactSameVecWrong)

/-- 'laws.FnExactScaleVec': WHATEVER THE INPUT: true; the input reads as it did. -/
def fnExactScaleVecSpec : ChangeSpec := { name := "fnExactScaleVec", fn := fun _ => fun
  | [d1, d2] => { results := [.lit (.bool true)], args := [d1, d2] }
  | _ => none }
def fnExactScaleVecRow : OpenClaim := { program := "ytbheljjcchaglaa", sum := "fc90ee527de6666af14526a91bfa16debaee6fc421388828744c82766b339119", func := "loop.example/g00615/laws.FnExactScaleVec", spec := "fnExactScaleVec", apart := false }
def FnExactScaleVecSaid : Prop := fnExactScaleVecRow.holds Try.pinned (OpenSpec.ofChange fnExactScaleVecSpec)

/-- ITS FALSE NEIGHBOUR: 'it returns false'. Refute it at one input. -/
def fnExactScaleVecWrong : ChangeSpec := { name := "fnExactScaleVec", fn := fun _ => fun
  | [d1, d2] => { results := [.lit (.bool false)], args := [d1, d2] }
  | _ => none }
def FnExactScaleVecWrongFalsely : Prop := fnExactScaleVecRow.holds Try.pinned (OpenSpec.ofChange fnExactScaleVecWrong)

/-- 'laws.FnExactDot': WHATEVER THE INPUT: true; the input reads as it did. -/
def fnExactDotSpec : ChangeSpec := { name := "fnExactDot", fn := fun _ => fun
  | [d1, d2] => { results := [.lit (.bool true)], args := [d1, d2] }
  | _ => none }
def fnExactDotRow : OpenClaim := { program := "ytbheljjcchaglaa", sum := "fc90ee527de6666af14526a91bfa16debaee6fc421388828744c82766b339119", func := "loop.example/g00615/laws.FnExactDot", spec := "fnExactDot", unfollowed := true, recurses := true, apart := false }
def FnExactDotSaid : Prop := fnExactDotRow.holds Try.pinned (OpenSpec.ofChange fnExactDotSpec)

/-- ITS FALSE NEIGHBOUR: 'it returns false'. Refute it at one input. -/
def fnExactDotWrong : ChangeSpec := { name := "fnExactDot", fn := fun _ => fun
  | [d1, d2] => { results := [.lit (.bool false)], args := [d1, d2] }
  | _ => none }
def FnExactDotWrongFalsely : Prop := fnExactDotRow.holds Try.pinned (OpenSpec.ofChange fnExactDotWrong)

/-- 'laws.FnExactNorm2': WHATEVER THE INPUT: true; the input reads as it did. -/
def fnExactNorm2Spec : ChangeSpec := { name := "fnExactNorm2", fn := fun _ => fun
  | [d] => { results := [.lit (.bool true)], args := [d] }
  | _ => none }
def fnExactNorm2Row : OpenClaim := { program := "ytbheljjcchaglaa", sum := "fc90ee527de6666af14526a91bfa16debaee6fc421388828744c82766b339119", func := "loop.example/g00615/laws.FnExactNorm2", spec := "fnExactNorm2", unfollowed := true, recurses := true, apart := false }
def FnExactNorm2Said : Prop := fnExactNorm2Row.holds Try.pinned (OpenSpec.ofChange fnExactNorm2Spec)

/-- ITS FALSE NEIGHBOUR: 'it returns false'. Refute it at one input. -/
def fnExactNorm2Wrong : ChangeSpec := { name := "fnExactNorm2", fn := fun _ => fun
  | [d] => { results := [.lit (.bool false)], args := [d] }
  | _ => none }
def FnExactNorm2WrongFalsely : Prop := fnExactNorm2Row.holds Try.pinned (OpenSpec.ofChange fnExactNorm2Wrong)

/-- 'laws.FnExactAxpy': WHATEVER THE INPUT: true; the input reads as it did. -/
def fnExactAxpySpec : ChangeSpec := { name := "fnExactAxpy", fn := fun _ => fun
  | [d1, d2, d3] => { results := [.lit (.bool true)], args := [d1, d2, d3] }
  | _ => none }
def fnExactAxpyRow : OpenClaim := { program := "ytbheljjcchaglaa", sum := "fc90ee527de6666af14526a91bfa16debaee6fc421388828744c82766b339119", func := "loop.example/g00615/laws.FnExactAxpy", spec := "fnExactAxpy", unfollowed := true, recurses := true, apart := false }
def FnExactAxpySaid : Prop := fnExactAxpyRow.holds Try.pinned (OpenSpec.ofChange fnExactAxpySpec)

/-- ITS FALSE NEIGHBOUR: 'it returns false'. Refute it at one input. -/
def fnExactAxpyWrong : ChangeSpec := { name := "fnExactAxpy", fn := fun _ => fun
  | [d1, d2, d3] => { results := [.lit (.bool false)], args := [d1, d2, d3] }
  | _ => none }
def FnExactAxpyWrongFalsely : Prop := fnExactAxpyRow.holds Try.pinned (OpenSpec.ofChange fnExactAxpyWrong)

/-- 'laws.FnOrder': WHATEVER THE INPUT: true; the input reads as it did. -/
def fnOrderSpec : ChangeSpec := { name := "fnOrder", fn := fun _ => fun
  | [d1, d2] => { results := [.lit (.bool true)], args := [d1, d2] }
  | _ => none }
def fnOrderRow : OpenClaim := { program := "ytbheljjcchaglaa", sum := "fc90ee527de6666af14526a91bfa16debaee6fc421388828744c82766b339119", func := "loop.example/g00615/laws.FnOrder", spec := "fnOrder", apart := false }
def FnOrderSaid : Prop := fnOrderRow.holds Try.pinned (OpenSpec.ofChange fnOrderSpec)

/-- ITS FALSE NEIGHBOUR: 'it returns false'. Refute it at one input. -/
def fnOrderWrong : ChangeSpec := { name := "fnOrder", fn := fun _ => fun
  | [d1, d2] => { results := [.lit (.bool false)], args := [d1, d2] }
  | _ => none }
def FnOrderWrongFalsely : Prop := fnOrderRow.holds Try.pinned (OpenSpec.ofChange fnOrderWrong)

/- THE SECOND FORM. 'bulk': how many values and letters a reading holds, each counted each time it is reached (what is shared counts as often as it is met; a slice's spare places count too). A statement '..UptoSaid' is the law's where the arguments, and the package variables that the reading takes, are together of bulk at most 1048576: NARROWER than '..Said'. Prove '..Said' where nothing that the law and all that it calls make is longer than what came in: it says more and counts as full. Else prove '..UptoSaid'. A law counts once. -/
mutual
def uptoBulk {H : Type} : DataW H → Nat
  | .lit (.string bytes) => bytes.length + 1
  | .lit _ => 1
  | .nil => 1
  | .ptr d => uptoBulk d + 1
  | .slice elems spare => uptoBulkAll elems + uptoBulkAll spare + 1
  | .agg parts => uptoBulkAll parts + 1
  | .iface _ d => uptoBulk d + 1
  | .map entries => uptoBulkEntries entries + 1
  | .held _ => 1
def uptoBulkAll {H : Type} : List (DataW H) → Nat
  | [] => 0
  | d :: r => uptoBulk d + uptoBulkAll r
def uptoBulkEntries {H : Type} : List (Lit × DataW H) → Nat
  | [] => 0
  | x :: r => uptoBulkEntry x + uptoBulkEntries r
def uptoBulkEntry {H : Type} : Lit × DataW H → Nat
  | (.string bytes, d) => bytes.length + uptoBulk d + 1
  | (_, d) => uptoBulk d + 1
 end
def uptoSmall : (H : Type) → List (DataW H) → Bool := fun _ ds => decide (uptoBulkAll ds ≤ 1048576)
def OpenSpec.upto (s : _root_.Go.ChangeSpec) : _root_.Go.OpenSpec := { _root_.Go.OpenSpec.ofChange s with cond := some uptoSmall }

/-- 'laws.FnExactTokenOK', WHERE WHAT IT READS IS OF BULK AT MOST 1048576: true; the input reads as it did. -/
def fnExactTokenOKUptoRow : OpenClaim := { program := "ytbheljjcchaglaa", sum := "fc90ee527de6666af14526a91bfa16debaee6fc421388828744c82766b339119", func := "loop.example/g00615/laws.FnExactTokenOK", spec := "fnExactTokenOK", apart := false, narrowed := true }
def FnExactTokenOKUptoSaid : Prop := fnExactTokenOKUptoRow.holds Try.pinned (OpenSpec.upto fnExactTokenOKSpec)

/-- 'laws.FnExactVecOK', WHERE WHAT IT READS IS OF BULK AT MOST 1048576: true; the input reads as it did. -/
def fnExactVecOKUptoRow : OpenClaim := { program := "ytbheljjcchaglaa", sum := "fc90ee527de6666af14526a91bfa16debaee6fc421388828744c82766b339119", func := "loop.example/g00615/laws.FnExactVecOK", spec := "fnExactVecOK", apart := false, narrowed := true }
def FnExactVecOKUptoSaid : Prop := fnExactVecOKUptoRow.holds Try.pinned (OpenSpec.upto fnExactVecOKSpec)

/-- 'laws.FnExactSameVec', WHERE WHAT IT READS IS OF BULK AT MOST 1048576: true; the input reads as it did. -/
def fnExactSameVecUptoRow : OpenClaim := { program := "ytbheljjcchaglaa", sum := "fc90ee527de6666af14526a91bfa16debaee6fc421388828744c82766b339119", func := "loop.example/g00615/laws.FnExactSameVec", spec := "fnExactSameVec", unfollowed := true, recurses := true, apart := false, narrowed := true }
def FnExactSameVecUptoSaid : Prop := fnExactSameVecUptoRow.holds Try.pinned (OpenSpec.upto fnExactSameVecSpec)

/-- 'laws.FnExactScaleVec', WHERE WHAT IT READS IS OF BULK AT MOST 1048576: true; the input reads as it did. -/
def fnExactScaleVecUptoRow : OpenClaim := { program := "ytbheljjcchaglaa", sum := "fc90ee527de6666af14526a91bfa16debaee6fc421388828744c82766b339119", func := "loop.example/g00615/laws.FnExactScaleVec", spec := "fnExactScaleVec", apart := false, narrowed := true }
def FnExactScaleVecUptoSaid : Prop := fnExactScaleVecUptoRow.holds Try.pinned (OpenSpec.upto fnExactScaleVecSpec)

/-- 'laws.FnExactDot', WHERE WHAT IT READS IS OF BULK AT MOST 1048576: true; the input reads as it did. -/
def fnExactDotUptoRow : OpenClaim := { program := "ytbheljjcchaglaa", sum := "fc90ee527de6666af14526a91bfa16debaee6fc421388828744c82766b339119", func := "loop.example/g00615/laws.FnExactDot", spec := "fnExactDot", unfollowed := true, recurses := true, apart := false, narrowed := true }
def FnExactDotUptoSaid : Prop := fnExactDotUptoRow.holds Try.pinned (OpenSpec.upto fnExactDotSpec)

/-- 'laws.FnExactNorm2', WHERE WHAT IT READS IS OF BULK AT MOST 1048576: true; the input reads as it did. -/
def fnExactNorm2UptoRow : OpenClaim := { program := "ytbheljjcchaglaa", sum := "fc90ee527de6666af14526a91bfa16debaee6fc421388828744c82766b339119", func := "loop.example/g00615/laws.FnExactNorm2", spec := "fnExactNorm2", unfollowed := true, recurses := true, apart := false, narrowed := true }
def FnExactNorm2UptoSaid : Prop := fnExactNorm2UptoRow.holds Try.pinned (OpenSpec.upto fnExactNorm2Spec)

/-- 'laws.FnExactAxpy', WHERE WHAT IT READS IS OF BULK AT MOST 1048576: true; the input reads as it did. -/
def fnExactAxpyUptoRow : OpenClaim := { program := "ytbheljjcchaglaa", sum := "fc90ee527de6666af14526a91bfa16debaee6fc421388828744c82766b339119", func := "loop.example/g00615/laws.FnExactAxpy", spec := "fnExactAxpy", unfollowed := true, recurses := true, apart := false, narrowed := true }
def FnExactAxpyUptoSaid : Prop := fnExactAxpyUptoRow.holds Try.pinned (OpenSpec.upto fnExactAxpySpec)

/-- 'laws.FnOrder', WHERE WHAT IT READS IS OF BULK AT MOST 1048576: true; the input reads as it did. -/
def fnOrderUptoRow : OpenClaim := { program := "ytbheljjcchaglaa", sum := "fc90ee527de6666af14526a91bfa16debaee6fc421388828744c82766b339119", func := "loop.example/g00615/laws.FnOrder", spec := "fnOrder", apart := false, narrowed := true }
def FnOrderUptoSaid : Prop := fnOrderUptoRow.holds Try.pinned (OpenSpec.upto fnOrderSpec)

end Rows
end Go.Proofs.Ytbheljjcchaglaa
