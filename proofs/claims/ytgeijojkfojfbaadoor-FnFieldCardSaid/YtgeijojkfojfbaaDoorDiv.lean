/-
  What is divided, in place: divideRest, in blocks that are known whole.
-/
import Derived.Test.YtgeijojkfojfbaaDoorDivX
import Derived.Test.YtgeijojkfojfbaaDoorTake
namespace Nt
open Go Go.RowKit
/-- what a division leaves: the quotient in block gq, the rest in block gr, ahead of post -/
def Divided (tq tr : TypeId) (w : World) (gq gr NQ nr : Nat) (post : List Int) (m n : Int) (w' : World) : Prop :=
  ∃ qs rs : List Int, qs.length = NQ ∧ Limbs qs ∧ val qs = m / n ∧ Arr w' gq tq qs ∧ rs.length = nr ∧ Limbs rs ∧ val rs = m % n ∧ Arr w' gr tr (rs ++ post) ∧ Two gq gr w w'
end Nt
namespace Go.Proofs.YtgeijojkfojfbaaDoor
open Go Go.RowKit Nt
theorem divideRest_any (gq gr NQ cq nr cr : Nat) (tq tr : TypeId) (full xs post : List Int) (B : Option Addr) (lb cb n : Nat) (w : World)
    (hq : Arr w gq tq full) (hql : full.length = NQ) (hrr : Arr w gr tr (xs ++ post)) (hxl : xs.length = nr) (hl : Limbs xs) (hcr : nr ≤ cr) (hb : Rd w (fun k => k ≠ gq ∧ k ≠ gr) B lb cb (D n)) (hn : 0 < n)
    (hne : gq ≠ gr) (hNQ : nr ≤ NQ) (hNQ0 : 0 < NQ) (hN : NQ ≤ 1000) (hlb : lb ≤ 1000) :
    Calls Tryd.prog 60 #[.slice (some ⟨gq, 0, none⟩) NQ cq, .slice (some ⟨gr, 0, none⟩) nr cr, .slice B lb cb] w fun e w' => e = .returned (.tuple #[]) ∧ Divided tq tr w gq gr NQ nr post (val xs) n w' :=
  (divideRest_x gq gr NQ cq nr cr 0 0 tq tr full [] xs post B lb cb n w (by rw [List.append_nil]; exact hq.arx) hql hrr.arx hxl hl hcr hb hn hne hNQ hNQ0 hN hlb).mono fun _ _ ⟨h, qs, rs, h1, h2, h3, h4, h5, h6, h7, h8, h9⟩ => ⟨h, qs, rs, h1, h2, h3, (by rw [List.append_nil] at h4; exact h4.arr), h5, h6, h7, h8.arr, h9⟩
end Go.Proofs.YtgeijojkfojfbaaDoor
