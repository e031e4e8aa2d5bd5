/-
  The library's tables, as a row lists them, and as a world holds them.
-/
import Derived.Test.YtifepoefeamboaaDoorBuild
import Derived.Test.YtifepoefeamboaaDoorCards
import Derived.Test.YtifepoefeamboaaDoorTie
import Derived.ProofKit
import Derived.OpenShut
import Derived.ShutString
import Derived.ChangeOld
import Derived.ChangeVars
import Derived.LaidLaws
import Derived.Deep.DeepHandedRow
import Derived.Stop.LaidErr
namespace Go.Proofs.YtifepoefeamboaaDoor
open Go Go.RowKit

theorem pow10_of_laid {W : World} {x y : String × DataW Unit} {rest : List (String × DataW Unit)} (h : laidMet Tryd.prog (x :: y :: ("internal/strconv.uint64pow10", Rows.laid_internal_strconv_uint64pow10) :: rest) W) : Pow10 W :=
  Lib.tabIs_of_head (g := 3) (by kernel_rfl) (by kernel_rfl) Tryd.underlying124 Tryd.underlying115 (by kernel_rfl) (by kernel_rfl) (show laidMet Tryd.prog (("internal/strconv.uint64pow10", Lib.tabData .u64 Lib.pow10Tab) :: rest) W from h.tail.tail)
def litCells : DataW Unit → Array Value
  | .agg xs => (xs.map fun d => match d with | .lit (.int k z) => Value.int k z | .lit (.string l) => Value.string ⟨l.toArray⟩ | _ => undef).toArray
  | _ => #[]
def tabPut (g : Nat) (cs : Array Value) (w : World) : World :=
  { w with heap := w.heap.modify g fun
      | .cells _ t frozen => .cells cs t frozen
      | o => o }
noncomputable def tabWorld (os : Os) : World :=
  tabPut 5 (litCells Rows.laid_math_bits_deBruijn32tab) (tabPut 6 (litCells Rows.laid_math_bits_deBruijn64tab) (tabPut 3 (litCells Rows.laid_internal_strconv_uint64pow10) (World.holding Tryd.prog os ⟨#[], #[], []⟩)))
end Go.Proofs.YtifepoefeamboaaDoor
