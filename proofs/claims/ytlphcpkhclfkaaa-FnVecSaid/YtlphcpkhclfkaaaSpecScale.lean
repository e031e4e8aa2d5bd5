/-
  ScaleVec of the model.
-/
import Derived.Test.YtlphcpkhclfkaaaSpecVec
namespace Nt
open Go Go.RowKit
theorem nilV (w w' : World) (g code : Int) (b : Nat) (hB : Below w.heap.size w w') : SayVC w [] code (.returned (.tuple #[.slice (some ⟨b, 0, none⟩) 0 0, .int .i64 code])) w' :=
  ⟨_, 0, rfl, ⟨rfl, Nat.le_refl _, (fun h => by cases h), fun h => absurd h (Nat.lt_irrefl _)⟩, hB⟩
end Nt
namespace Go.Proofs.Ytlphcpkhclfkaaa
open Go Go.RowKit Nt

end Go.Proofs.Ytlphcpkhclfkaaa
