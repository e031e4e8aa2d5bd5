/-
  Sums of the program: addInto, AddNat.
-/
import Derived.Test.YtojjopielekpdabFresh
namespace Nt
open Go Go.RowKit
/-- block g, of N numbers, now begins with xs; nothing else that was there has turned -/
def Put (t : TypeId) (w : World) (g N : Nat) (xs : List Int) (w' : World) : Prop :=
  ∃ full : List Int, full.length = N ∧ Arr w' g t full ∧ full.take xs.length = xs ∧ xs.length ≤ N ∧ w.grownBy w' (some g)
end Nt
namespace Go.Proofs.Ytojjopielekpdab
open Go Go.RowKit Nt

end Go.Proofs.Ytojjopielekpdab
