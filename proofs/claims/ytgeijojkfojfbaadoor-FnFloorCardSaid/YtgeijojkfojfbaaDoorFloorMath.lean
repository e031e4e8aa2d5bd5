/-
  A rational is at least its floor, and below the next whole number.
-/
import Derived.Test.YtgeijojkfojfbaaDoorGrpC
namespace Nt
theorem fl_num (a : Rat) : sg (isNeg a) (flAbs a) = a.num / (a.den : Int) := by
  have hs := sg_num a
  have hd := a.den_pos
  unfold flAbs
  cases hn : isNeg a with
  | false =>
    rw [hn] at hs
    rw [if_neg (by simp)]
    have e : (nu a : Int) = a.num := hs
    show ((nu a / a.den : Nat) : Int) = _
    rw [← e, Int.natCast_ediv]
  | true =>
    rw [hn] at hs
    have e : -(nu a : Int) = a.num := hs
    have hm := Nat.div_add_mod (nu a) a.den
    have hr := Nat.mod_lt (nu a) hd
    generalize nu a / a.den = q at *
    generalize nu a % a.den = r at *
    have hz : (a.den : Int) ≠ 0 := by omega
    by_cases h : 0 < r
    · rw [if_pos ⟨rfl, h⟩]
      show -((q + 1 : Nat) : Int) = _
      have e2 : a.num = ((a.den : Int) - r) + (a.den : Int) * (-((q : Int) + 1)) := by
        rw [← e, ← hm]
        push_cast
        rw [Int.mul_neg, Int.mul_add]
        omega
      rw [e2, Int.add_mul_ediv_left _ _ hz, Int.ediv_eq_zero_of_lt (by omega) (by omega)]
      omega
    · rw [if_neg (fun k => h k.2)]
      show -((q : Nat) : Int) = _
      have hr0 : r = 0 := by omega
      subst hr0
      have e2 : a.num = (a.den : Int) * (-(q : Int)) := by
        rw [← e, ← hm, Int.mul_neg]
        push_cast
        omega
      rw [e2, Int.mul_ediv_cancel_left _ hz]
theorem fl_int (a : Rat) : flQ a = ((a.num / (a.den : Int) : Int) : Rat) := by
  unfold flQ
  rw [fl_num, Rat.mkRat_one]
theorem fl_below (a : Rat) : cmpQ (flQ a) a ≤ 0 := by
  rw [cmpQ_eq, fl_int, Rat.num_intCast, Rat.den_intCast]
  have hd : (0 : Int) < a.den := by have := a.den_pos; omega
  have h := Int.ediv_mul_le a.num (show (a.den : Int) ≠ 0 by omega)
  rcases Int.lt_trichotomy (a.num / (a.den : Int) * (a.den : Int) - a.num * ((1 : Nat) : Int)) 0 with h1 | h1 | h1
  · rw [Int.sign_eq_neg_one_of_neg h1]; decide
  · rw [h1]; decide
  · omega
theorem fl_above (a : Rat) : cmpQ a (flQ a + 1) = -1 := by
  have e : flQ a + 1 = ((a.num / (a.den : Int) + 1 : Int) : Rat) := by rw [fl_int, Rat.intCast_add]; rfl
  rw [cmpQ_eq, e, Rat.num_intCast, Rat.den_intCast]
  have hd : (0 : Int) < a.den := by have := a.den_pos; omega
  have h := Int.lt_ediv_add_one_mul_self a.num hd
  exact Int.sign_eq_neg_one_of_neg (by omega)
theorem pow_addF (a : Rat) (m : Nat) : ∀ n : Nat, a ^ (m + n) = a ^ m * a ^ n
  | 0 => by rw [Nat.add_zero, Rat.pow_zero, Rat.mul_one]
  | n + 1 => by rw [← Nat.add_assoc, Rat.pow_succ, pow_addF a m n, Rat.pow_succ, Rat.mul_assoc]
theorem one_made : mkRat 1 1 / mkRat 1 1 = (1 : Rat) := by
  rw [Rat.mkRat_one, Rat.intCast_one, Rat.div_def, Rat.mul_inv_cancel _ (by decide)]
end Nt
