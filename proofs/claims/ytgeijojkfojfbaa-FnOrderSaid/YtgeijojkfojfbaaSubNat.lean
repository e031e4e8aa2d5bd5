/-
  SubNat of the program.
-/
import Derived.Test.YtgeijojkfojfbaaTake
namespace Go.Proofs.Ytgeijojkfojfbaa
open Go Go.RowKit Nt

end Go.Proofs.Ytgeijojkfojfbaa
