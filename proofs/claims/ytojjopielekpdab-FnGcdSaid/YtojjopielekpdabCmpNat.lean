/-
  CmpNat of the program and of the model, and the law.
-/
import Derived.Test.YtojjopielekpdabCmp
namespace Nt
def cmpR (xs ys : List Int) : Int := if codeL [xs, ys] = 0 then cmpI (natOf xs) (natOf ys) else 0
theorem cmpR_bad {xs ys : List Int} (h : codeL [xs, ys] ≠ 0) : cmpR xs ys = 0 := by unfold cmpR; rw [if_neg h]
theorem cmpR_D {m n : Nat} (h : codeL [D m, D n] = 0) : cmpR (D m) (D n) = cmpI m n := by unfold cmpR; rw [if_pos h, natOf_D, natOf_D]
end Nt
namespace Go.Proofs.Ytojjopielekpdab
open Go Go.RowKit Nt

theorem ret_two {a b a' b' : Int} (h : a = a') (k : b = b') : Ending.returned (.tuple #[.int .i64 a, .int .i64 b]) = .returned (.tuple #[.int .i64 a', .int .i64 b']) := by rw [h, k]
end Go.Proofs.Ytojjopielekpdab
