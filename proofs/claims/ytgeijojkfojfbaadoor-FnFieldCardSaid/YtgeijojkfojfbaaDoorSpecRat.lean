/-
  Sums of the model: l02Add.
-/
import Derived.Test.YtgeijojkfojfbaaDoorSpecMake
namespace Go.Proofs.YtgeijojkfojfbaaDoor
open Go Go.RowKit Nt
def MkAt (neg : Bool) (m d : Nat) (nn : Bool) (X Y : List Int) : Prop :=
  ∀ (A7 : Option Addr) (c7 : Nat) (B7 : Option Addr) (d7 : Nat) (W : World), Nm W A7 c7 m → Nm W B7 d7 d → Calls Tryd.prog 46 #[.bool neg, .slice A7 (D m).length c7, .slice B7 (D d).length d7] W (SayR W nn X Y)

theorem mkAt (neg : Bool) (m d : Nat) (r : Rat) (hr : r = mkRat (sg neg m) d) (hd : 0 < d) (l1 : (D m).length ≤ 1000) (l2 : (D d).length ≤ 1000) : MkAt neg m d (isNeg r) (D (nu r)) (D r.den) := by
  subst hr
  intro A7 c7 B7 d7 W h1 h2
  exact l02Make_any neg A7 B7 _ c7 _ d7 m d _ _ W h1 h2 l1 l2 hd
end Go.Proofs.YtgeijojkfojfbaaDoor
