/-
  Tapes that are alike: SameTape of the program and of the model.
-/
import Derived.Test.YtifepoefeamboaaGreatDoorGrpF
import Derived.Test.YtifepoefeamboaaGreatDoorTapeCopy
namespace Nt
open Go Go.RowKit
def sameTp (ns ms : List Nd) (o p : Int) : Bool := decide (ns = ms) && (o == p)
theorem two_tapes (w : World) (t : TypeId) (A B : Option Addr) (n c m d : Nat) (o p : Int) :
    TpAt ((w.alloc (.cells #[.slice A n c, .int .i64 o] t)).alloc (.cells #[.slice B m d, .int .i64 p] t)) w.heap.size t A n c o ∧ TpAt ((w.alloc (.cells #[.slice A n c, .int .i64 o] t)).alloc (.cells #[.slice B m d, .int .i64 p] t)) (w.heap.size + 1) t B m d p ∧ Below w.heap.size w ((w.alloc (.cells #[.slice A n c, .int .i64 o] t)).alloc (.cells #[.slice B m d, .int .i64 p] t)) := by
  refine ⟨(TpAt.new _ _ _ _ _ _).on (below_one _ _), ?_, ((Below.refl _ _).alloc (Nat.le_refl _) _).alloc (by simp) _⟩
  have h := TpAt.new (w.alloc (.cells #[.slice A n c, .int .i64 o] t)) t B m d p
  rwa [World.size_alloc] at h
end Nt
namespace Go.Proofs.YtifepoefeamboaaGreatDoor
open Go Go.RowKit Nt

end Go.Proofs.YtifepoefeamboaaGreatDoor
