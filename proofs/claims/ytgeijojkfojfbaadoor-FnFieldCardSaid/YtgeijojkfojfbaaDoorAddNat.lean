/-
  AddNat of the program.
-/
import Derived.Test.YtgeijojkfojfbaaDoorAdd
namespace Nt
open Go Go.RowKit
/-- an answer with a code: nothing beside a code that is not 0 -/
def resL (code : Int) (xs : List Int) : List Int := if code = 0 then xs else []
def resC (code c : Int) : Int := if code = 0 then c else code
theorem res_ok (xs : List Int) (c : Int) : resL 0 xs = xs ∧ resC 0 c = c := ⟨rfl, rfl⟩
theorem resL_fit (code : Int) (xs : List Int) : (resL code (fitL xs)).length ≤ 40 := by
  unfold resL fitL
  split
  · split
    · assumption
    · simp
  · simp
theorem res_bad {code : Int} (h : code ≠ 0) (xs : List Int) (c : Int) : resL code xs = [] ∧ resC code c = code := by unfold resL resC; rw [if_neg h, if_neg h]; exact ⟨rfl, rfl⟩
end Nt
namespace Go.Proofs.YtgeijojkfojfbaaDoor
open Go Go.RowKit Nt

end Go.Proofs.YtgeijojkfojfbaaDoor
