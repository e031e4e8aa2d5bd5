/-
  SubNat of the program.
-/
import Derived.Test.YtbheljjcchaglaaDoorTake
namespace Go.Proofs.YtbheljjcchaglaaDoor
open Go Go.RowKit Nt

end Go.Proofs.YtbheljjcchaglaaDoor
