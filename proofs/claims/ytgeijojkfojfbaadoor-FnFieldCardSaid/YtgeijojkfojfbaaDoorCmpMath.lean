/-
  How two rationals compare, by their signs and by products crosswise.
-/
import Derived.Test.YtgeijojkfojfbaaDoorRatMath
import Derived.Test.YtgeijojkfojfbaaDoorMath
namespace Nt
theorem sign_cases (x : Int) : (x < 0 ∧ x.sign = -1) ∨ (x = 0 ∧ x.sign = 0) ∨ (0 < x ∧ x.sign = 1) := by
  rcases Int.lt_trichotomy x 0 with h | h | h
  · exact .inl ⟨h, Int.sign_eq_neg_one_of_neg h⟩
  · exact .inr (.inl ⟨h, by rw [h]; rfl⟩)
  · exact .inr (.inr ⟨h, Int.sign_eq_one_of_pos h⟩)
theorem mul_pos_den {x : Int} (h : 0 < x) {d : Nat} (hd : 0 < d) : 0 < x * (d : Int) := Int.mul_pos h (by omega)
theorem mul_neg_den {x : Int} (h : x < 0) {d : Nat} (hd : 0 < d) : x * (d : Int) < 0 := Int.mul_neg_of_neg_of_pos h (by omega)
theorem cmpQ_diff (a b : Rat) (h : a.num.sign ≠ b.num.sign) : cmpQ a b = cmpZ a.num.sign b.num.sign := by
  have ha := a.den_pos
  have hb := b.den_pos
  rw [cmpQ_eq]
  unfold cmpZ
  rcases sign_cases a.num with ⟨h1, e1⟩ | ⟨h1, e1⟩ | ⟨h1, e1⟩ <;> rcases sign_cases b.num with ⟨h2, e2⟩ | ⟨h2, e2⟩ | ⟨h2, e2⟩ <;> rw [e1, e2] at h ⊢ <;> first | exact absurd rfl h | skip
  · have := mul_neg_den h1 hb; rw [h2, Int.zero_mul, Int.sub_zero, Int.sign_eq_neg_one_of_neg this]; rfl
  · have k1 := mul_neg_den h1 hb; have k2 := mul_pos_den h2 ha; rw [Int.sign_eq_neg_one_of_neg (by omega)]; rfl
  · have := mul_neg_den h2 ha; rw [h1, Int.zero_mul, Int.sign_eq_one_of_pos (by omega)]; rfl
  · have := mul_pos_den h2 ha; rw [h1, Int.zero_mul, Int.sign_eq_neg_one_of_neg (by omega)]; rfl
  · have k1 := mul_pos_den h1 hb; have k2 := mul_neg_den h2 ha; rw [Int.sign_eq_one_of_pos (by omega)]; rfl
  · have := mul_pos_den h1 hb; rw [h2, Int.zero_mul, Int.sub_zero, Int.sign_eq_one_of_pos this]; rfl
theorem sign_sub (m n : Nat) : ((m : Int) - n).sign = cmpI m n := by
  unfold cmpI
  by_cases h : m < n
  · rw [if_pos h, Int.sign_eq_neg_one_of_neg (by omega)]
  · by_cases h2 : m = n
    · subst h2; simp
    · rw [if_neg h, if_neg h2, Int.sign_eq_one_of_pos (by omega)]
theorem cmpQ_same (a b : Rat) (h : a.num.sign = b.num.sign) : cmpQ a b = a.num.sign * cmpI (nu a * b.den) (nu b * a.den) := by
  rw [cmpQ_eq, ← sign_sub, Int.natCast_mul, Int.natCast_mul]
  unfold nu
  rcases sign_cases a.num with ⟨h1, e1⟩ | ⟨h1, e1⟩ | ⟨h1, e1⟩ <;> rcases sign_cases b.num with ⟨h2, e2⟩ | ⟨h2, e2⟩ | ⟨h2, e2⟩ <;> rw [e1, e2] at h <;> first | (exact absurd h (by decide)) | skip
  · rw [e1]
    have k1 : (a.num.natAbs : Int) = -a.num := by omega
    have k2 : (b.num.natAbs : Int) = -b.num := by omega
    rw [k1, k2, show -a.num * (b.den : Int) - -b.num * (a.den : Int) = -(a.num * (b.den : Int) - b.num * (a.den : Int)) from by rw [Int.neg_mul, Int.neg_mul]; omega, Int.sign_neg]
    omega
  · rw [e1, h1, h2]; simp
  · rw [e1]
    have k1 : (a.num.natAbs : Int) = a.num := by omega
    have k2 : (b.num.natAbs : Int) = b.num := by omega
    rw [k1, k2, Int.one_mul]
theorem sgn_parts (r : Rat) : r.num.sign = if nu r = 0 then 0 else if isNeg r = true then -1 else 1 := by
  unfold nu isNeg
  rcases sign_cases r.num with ⟨h1, e1⟩ | ⟨h1, e1⟩ | ⟨h1, e1⟩
  · rw [e1, if_neg (by omega), if_pos (decide_eq_true h1)]
  · rw [e1, if_pos (by omega)]
  · rw [e1, if_neg (by omega), if_neg (by rw [decide_eq_true_eq]; omega)]
end Nt
