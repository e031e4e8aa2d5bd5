/-
  SubNat of the program.
-/
import Derived.Test.YtojjopielekpdabTake
namespace Go.Proofs.Ytojjopielekpdab
open Go Go.RowKit Nt

end Go.Proofs.Ytojjopielekpdab
