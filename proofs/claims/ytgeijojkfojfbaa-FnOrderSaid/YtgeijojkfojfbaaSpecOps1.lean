/-
  NegRat, AbsRat of the model; what its functions of one rational answer where it is not right.
-/
import Derived.Test.YtgeijojkfojfbaaSpecOwn
namespace Nt
open Go Go.RowKit
/-- a rational that can be read, and a code -/
def SayRC' (w : World) (neg : Bool) (xs ys : List Int) (code : Int) (e : Ending) (w' : World) : Prop :=
  ∃ A ca B cb, e = .returned (.tuple #[.agg #[.bool neg, .slice A xs.length ca, .slice B ys.length cb], .int .i64 code]) ∧ RdR w' (fun _ => True) xs ys A ca B cb ∧ Below w.heap.size w w'
end Nt
namespace Go.Proofs.Ytgeijojkfojfbaa
open Go Go.RowKit Nt

set_option maxHeartbeats 400000 in
theorem l02Neg_any (neg : Bool) (A B : Option Addr) (la ca lb cb : Nat) (w : World) (hla : la ≤ 16777216) :
    Calls Try.prog 163 #[.agg #[.bool neg, .slice A la ca, .slice B lb cb]] w fun e w' => e = .returned (.agg #[.bool (!neg && decide (0 < la)), .slice A la ca, .slice B lb cb]) ∧ Below w.heap.size w w' := by
  cases neg with
  | true =>
    go_enter Try.func163, Try.ntmps163
    go_wp2
    refine bodyPost_ret (retR rfl _ _ _ rfl (RatAt.new1 _ _ _ _ _ _ _ _ _ _)) rfl ⟨rfl, below2 _ _ _⟩
  | false =>
    by_cases hp : 0 < la
    · have HE : Hid ((!false && decide (0 < la)) = true) := Lib.hid (by simpa using hp)
      have hp' : (0 : Int) < la := by omega
      go_enter Try.func163, Try.ntmps163
      go_wp2
      refine bodyPost_ret (retR rfl _ _ _ rfl (RatAt.new1 _ _ _ _ _ _ _ _ _ _)) rfl ⟨by rw [HE.out], below2 _ _ _⟩
    · have HE : Hid ((!false && decide (0 < la)) = false) := Lib.hid (by simpa using hp)
      have hp' : decide ((0 : Int) < la) = false := decide_eq_false (by omega)
      go_enter Try.func163, Try.ntmps163
      go_wp2
      refine bodyPost_ret (retR rfl _ _ _ rfl (RatAt.new1 _ _ _ _ _ _ _ _ _ _)) rfl ⟨by rw [HE.out], below2 _ _ _⟩






end Go.Proofs.Ytgeijojkfojfbaa
