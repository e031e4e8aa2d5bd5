/-
  An expression's slope along a way: SlopeOf of the model.
-/
import Derived.Test.YtifepoefeamboaaGreatDoorJoF
import Derived.Test.YtifepoefeamboaaGreatDoorJoA
namespace Nt
open Go Go.RowKit
/-- two numbers that can be read, and a code -/
def SayRRC (w : World) (n : Bool) (xs ys : List Int) (n' : Bool) (xs' ys' : List Int) (code : Int) (e : Ending) (w' : World) : Prop :=
  ∃ A ca B cb A' ca' B' cb', e = .returned (.tuple #[.agg #[.bool n, .slice A xs.length ca, .slice B ys.length cb], .agg #[.bool n', .slice A' xs'.length ca', .slice B' ys'.length cb'], .int .i64 code]) ∧ RdR w' (fun _ => True) xs ys A ca B cb ∧ RdR w' (fun _ => True) xs' ys' A' ca' B' cb' ∧ Below w.heap.size w w'
end Nt
namespace Go.Proofs.YtifepoefeamboaaGreatDoor
open Go Go.RowKit Nt
end Go.Proofs.YtifepoefeamboaaGreatDoor
