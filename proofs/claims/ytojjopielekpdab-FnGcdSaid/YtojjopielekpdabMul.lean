/-
  Products of the program: mulInto, MulNat.
-/
import Derived.Test.YtojjopielekpdabAddNat
import Derived.Test.YtojjopielekpdabMulMath
namespace Go.Proofs.Ytojjopielekpdab
open Go Go.RowKit Nt

end Go.Proofs.Ytojjopielekpdab
