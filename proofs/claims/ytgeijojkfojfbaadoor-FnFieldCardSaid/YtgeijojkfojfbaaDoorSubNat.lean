/-
  SubNat of the program.
-/
import Derived.Test.YtgeijojkfojfbaaDoorTake
namespace Go.Proofs.YtgeijojkfojfbaaDoor
open Go Go.RowKit Nt

end Go.Proofs.YtgeijojkfojfbaaDoor
