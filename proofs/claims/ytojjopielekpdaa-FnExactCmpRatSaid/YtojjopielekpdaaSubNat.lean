/-
  SubNat of the program.
-/
import Derived.Test.YtojjopielekpdaaTake
namespace Go.Proofs.Ytojjopielekpdaa
open Go Go.RowKit Nt

end Go.Proofs.Ytojjopielekpdaa
