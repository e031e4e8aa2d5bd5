/-
  SubNat of the program.
-/
import Derived.Test.YthfnddafbpjolaaTake
namespace Go.Proofs.Ythfnddafbpjolaa
open Go Go.RowKit Nt

end Go.Proofs.Ythfnddafbpjolaa
