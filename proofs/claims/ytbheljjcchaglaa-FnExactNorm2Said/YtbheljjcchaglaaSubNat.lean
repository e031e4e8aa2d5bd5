/-
  SubNat of the program.
-/
import Derived.Test.YtbheljjcchaglaaTake
namespace Go.Proofs.Ytbheljjcchaglaa
open Go Go.RowKit Nt

end Go.Proofs.Ytbheljjcchaglaa
