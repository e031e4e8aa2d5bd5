/-
  Jets of at most two ways are the four numbers of the model: the value, the slopes along each way, and along both.
-/
import Derived.Test.YtcepjcnpokpdcaaGreatDoorJetMath
namespace Nt
open Go Go.RowKit
structure Q4 where
  f : Rat
  v : Rat
  w : Rat
  vw : Rat
def con4 (c : Rat) : Q4 := ⟨c, 0, 0, 0⟩
def add4 (a b : Q4) : Q4 := ⟨a.f + b.f, a.v + b.v, a.w + b.w, a.vw + b.vw⟩
def neg4 (a : Q4) : Q4 := ⟨-a.f, -a.v, -a.w, -a.vw⟩
def mul4 (a b : Q4) : Q4 := ⟨a.f * b.f, a.v * b.f + a.f * b.v, a.w * b.f + a.f * b.w, (a.vw * b.f + a.f * b.vw) + (a.v * b.w + a.w * b.v)⟩
def over4 (a : Q4) : Q4 := ⟨1 / a.f, -(a.v * ((1 / a.f) * (1 / a.f))), -(a.w * ((1 / a.f) * (1 / a.f))), (2 * (((1 / a.f) * (1 / a.f)) * (1 / a.f))) * (a.v * a.w) - a.vw * ((1 / a.f) * (1 / a.f))⟩
def toPow4 (a : Q4) : Nat → Q4
  | 0 => con4 1
  | n + 1 => mul4 (toPow4 a n) a
def fit4 (a : Q4) : Prop := fitQ a.f ∧ fitQ a.v ∧ fitQ a.w ∧ fitQ a.vw
/-- the four numbers of a jet: the last way is the outer one -/
def r4 (j : Jt) : Q4 := ⟨numJ j 0, numJ j.at_ 1, numJ j 1, numJ j 2⟩
theorem numJ_fx0 (q : Rat) : numJ (.fx q) 0 = q := by rw [numJ]
theorem numJ_fx1 (q : Rat) (k : Nat) : numJ (.fx q) (k + 1) = 0 := by rw [numJ]
theorem numJ_mv (a s : Jt) (k : Nat) : numJ (.mv a s) (k + 1) = numJ s k := by rw [numJ]
theorem numJ_at (j : Jt) : numJ j.at_ 0 = numJ j 0 := by cases j <;> simp [Jt.at_, numJ]
theorem numJ_sl (j : Jt) (k : Nat) : numJ j.sl k = numJ j (k + 1) := by
  cases j
  · cases k <;> simp [Jt.sl, numJ]
  · simp [Jt.sl, numJ]
theorem num0_eq : ∀ j : Jt, num0 j = numJ j 0
  | .fx q => by simp [num0, numJ]
  | .mv a s => by rw [num0, numJ, num0_eq a]
theorem sumJ_fx (p q : Rat) : sumJ (.fx p) (.fx q) = .fx (p + q) := by rw [sumJ]
theorem prodJ_fx (p q : Rat) : prodJ (.fx p) (.fx q) = .fx (p * q) := by rw [prodJ]
theorem dep_fx {f g : Jt} (h : ¬ 0 < f.dep + g.dep) : ∃ p q, f = .fx p ∧ g = .fx q := by
  cases f <;> cases g <;> first | exact ⟨_, _, rfl, rfl⟩ | (exfalso; apply h; simp only [Jt.dep]; omega)
theorem num_sum (f g : Jt) (k : Nat) : numJ (sumJ f g) k = numJ f k + numJ g k := by
  by_cases h : 0 < f.dep + g.dep
  · rw [sumJ_halves f g h]
    have hd := dep_halves f g h
    cases k with
    | zero => rw [numJ, num_sum f.at_ g.at_ 0, numJ_at, numJ_at]
    | succ k => rw [numJ, num_sum f.sl g.sl k, numJ_sl, numJ_sl]
  · obtain ⟨p, q, rfl, rfl⟩ := dep_fx h
    rw [sumJ_fx]
    cases k <;> simp [numJ, Rat.add_zero]
termination_by f.dep + g.dep
decreasing_by all_goals omega
theorem at_sum (f g : Jt) : (sumJ f g).at_ = sumJ f.at_ g.at_ := by
  by_cases h : 0 < f.dep + g.dep
  · rw [sumJ_halves f g h]; rfl
  · obtain ⟨p, q, rfl, rfl⟩ := dep_fx h
    rw [sumJ_fx]; simp only [Jt.at_]; rw [sumJ_fx]
theorem at_prod (f g : Jt) : (prodJ f g).at_ = prodJ f.at_ g.at_ := by
  by_cases h : 0 < f.dep + g.dep
  · rw [prodJ_halves f g h]; rfl
  · obtain ⟨p, q, rfl, rfl⟩ := dep_fx h
    rw [prodJ_fx]; simp only [Jt.at_]; rw [prodJ_fx]
theorem num_prod0 (f g : Jt) : numJ (prodJ f g) 0 = numJ f 0 * numJ g 0 := by
  by_cases h : 0 < f.dep + g.dep
  · have hd := dep_halves f g h
    rw [prodJ_halves f g h, numJ, num_prod0 f.at_ g.at_, numJ_at, numJ_at]
  · obtain ⟨p, q, rfl, rfl⟩ := dep_fx h
    rw [prodJ_fx]; simp [numJ]
termination_by f.dep + g.dep
decreasing_by all_goals omega
theorem num_prod1 (f g : Jt) : numJ (prodJ f g) 1 = numJ f 1 * numJ g 0 + numJ f 0 * numJ g 1 := by
  by_cases h : 0 < f.dep + g.dep
  · rw [prodJ_halves f g h, numJ, num_sum, num_prod0, num_prod0, numJ_sl, numJ_sl, numJ_at, numJ_at]
  · obtain ⟨p, q, rfl, rfl⟩ := dep_fx h
    rw [prodJ_fx]; simp [numJ, Rat.add_zero]
theorem num_prod2 (f g : Jt) : numJ (prodJ f g) 2 = (numJ f 2 * numJ g 0 + numJ f 1 * numJ g.at_ 1) + (numJ f.at_ 1 * numJ g 1 + numJ f 0 * numJ g 2) := by
  by_cases h : 0 < f.dep + g.dep
  · rw [prodJ_halves f g h, numJ, num_sum, num_prod1, num_prod1, numJ_sl, numJ_sl, numJ_sl, numJ_sl, numJ_at, numJ_at]
  · obtain ⟨p, q, rfl, rfl⟩ := dep_fx h
    rw [prodJ_fx]; simp [numJ, Jt.at_, Rat.add_zero]
theorem r4_fx (q : Rat) : r4 (.fx q) = con4 q := by simp [r4, con4, numJ, Jt.at_]
theorem r4_sum (f g : Jt) : r4 (sumJ f g) = add4 (r4 f) (r4 g) := by
  simp only [r4, add4, at_sum, num_sum]
theorem r4_prod (f g : Jt) : r4 (prodJ f g) = mul4 (r4 f) (r4 g) := by
  simp only [r4, mul4, at_prod, num_prod0, num_prod1, num_prod2, numJ_at]
  congr 1
  grind
theorem r4_times (n : Int) (f : Jt) : r4 (timesJ n f) = ⟨n * (r4 f).f, n * (r4 f).v, n * (r4 f).w, n * (r4 f).vw⟩ := by
  rw [timesJ, r4_prod, r4_fx]; simp [mul4, con4, Rat.zero_add, Rat.add_zero]
theorem r4_neg (f : Jt) : r4 (timesJ (-1) f) = neg4 (r4 f) := by
  rw [r4_times]; simp only [neg4]; congr 1 <;> grind
theorem r4_sub (f g : Jt) : r4 (sumJ f (timesJ (-1) g)) = add4 (r4 f) (neg4 (r4 g)) := by rw [r4_sum, r4_neg]
theorem num_times (n : Int) (f : Jt) (k : Nat) (hk : k ≤ 2) : numJ (timesJ n f) k = n * numJ f k := by
  have h := r4_times n f
  simp only [r4, Q4.mk.injEq] at h
  match k, hk with
  | 0, _ => exact h.1
  | 1, _ => exact h.2.2.1
  | 2, _ => exact h.2.2.2
theorem inv0 : ∀ j : Jt, numJ (invJ j) 0 = (numJ j 0)⁻¹
  | .fx q => by simp [invJ, numJ]
  | .mv a s => by rw [invJ, numJ, numJ, inv0 a]
theorem inv1 (j : Jt) : numJ (invJ j) 1 = -(numJ j 1 * ((numJ j 0)⁻¹ * (numJ j 0)⁻¹)) := by
  cases j with
  | fx q => simp [invJ, numJ]
  | mv a s =>
    rw [invJ, numJ_mv, numJ_mv, num_times _ _ 0 (by omega), num_prod0, num_prod0, inv0]
    simp only [numJ]; grind
theorem at_inv (j : Jt) : (invJ j).at_ = invJ j.at_ := by cases j <;> simp [invJ, Jt.at_]
theorem inv2 (j : Jt) : numJ (invJ j) 2 = (2 * (((numJ j 0)⁻¹ * (numJ j 0)⁻¹) * (numJ j 0)⁻¹)) * (numJ j.at_ 1 * numJ j 1) - numJ j 2 * ((numJ j 0)⁻¹ * (numJ j 0)⁻¹) := by
  cases j with
  | fx q => simp [invJ, numJ, Jt.at_, Rat.sub_self]
  | mv a s =>
    rw [invJ, numJ_mv (invJ a), num_times _ _ 1 (by omega), num_prod1, num_prod1, num_prod0, inv0, inv1]
    simp only [numJ, Jt.at_]; grind
theorem r4_inv (j : Jt) : r4 (invJ j) = over4 (r4 j) := by
  simp only [r4, over4, at_inv, inv0, inv1, inv2, numJ_at]
  simp only [Rat.div_def, Rat.one_mul]
theorem raise0 : ∀ (j : Jt) (n : Nat), numJ (raiseJ j n) 0 = numJ j 0 ^ n
  | .fx q, n => by simp [raiseJ, numJ]
  | .mv a s, n => by rw [raiseJ, numJ, numJ, raise0 a n]
theorem at_raise (j : Jt) (n : Nat) : (raiseJ j n).at_ = raiseJ j.at_ n := by cases j <;> simp [raiseJ, Jt.at_]
theorem raise1 (j : Jt) (n : Nat) : numJ (raiseJ j n) 1 = n * (numJ j 0 ^ (n - 1) * numJ j 1) := by
  cases j with
  | fx q => simp [raiseJ, numJ]
  | mv a s =>
    rw [raiseJ, numJ_mv (raiseJ a n), num_times _ _ 0 (by omega), num_prod0, raise0]
    simp only [numJ, Rat.intCast_natCast]
theorem raise2 (j : Jt) (n : Nat) : numJ (raiseJ j n) 2 = n * (((n - 1 : Nat) * (numJ j 0 ^ (n - 1 - 1) * numJ j.at_ 1)) * numJ j 1 + numJ j 0 ^ (n - 1) * numJ j 2) := by
  cases j with
  | fx q => simp [raiseJ, numJ, Jt.at_, Rat.add_zero]
  | mv a s =>
    rw [raiseJ, numJ_mv (raiseJ a n), num_times _ _ 1 (by omega), num_prod1, raise0, raise1]
    simp only [numJ, Jt.at_, Rat.intCast_natCast]
theorem toPow_two (a : Q4) : ∀ m : Nat, toPow4 a (m + 2) = ⟨a.f ^ (m + 2), (m + 2 : Nat) * (a.f ^ (m + 1) * a.v), (m + 2 : Nat) * (a.f ^ (m + 1) * a.w), (m + 2 : Nat) * (((m + 1 : Nat) * (a.f ^ m * a.v)) * a.w + a.f ^ (m + 1) * a.vw)⟩
  | 0 => by
    simp only [toPow4, mul4, con4, Q4.mk.injEq, Nat.zero_add, Rat.pow_succ, Rat.pow_zero]
    refine ⟨by grind, by grind, by grind, by grind⟩
  | m + 1 => by
    have h2 : ((m + 1 + 2 : Nat) : Rat) = ((m : Nat) : Rat) + 3 := by simp; grind
    have h1 : ((m + 1 + 1 : Nat) : Rat) = ((m : Nat) : Rat) + 2 := by simp; grind
    have h3 : ((m + 2 : Nat) : Rat) = ((m : Nat) : Rat) + 2 := by simp
    have h4 : ((m + 1 : Nat) : Rat) = ((m : Nat) : Rat) + 1 := by simp
    rw [toPow4, toPow_two a m]
    simp only [mul4, Q4.mk.injEq, h1, h2, h3, h4, Rat.pow_succ]
    generalize a.f ^ m = x
    refine ⟨by grind, by grind, by grind, by grind⟩
theorem r4_raise (j : Jt) : ∀ n : Nat, r4 (raiseJ j n) = toPow4 (r4 j) n
  | 0 => by
    simp only [r4, toPow4, con4, raise0, at_raise, raise1, raise2, numJ_at, Q4.mk.injEq]
    simp
  | 1 => by
    simp only [r4, toPow4, con4, mul4, raise0, at_raise, raise1, raise2, numJ_at, Q4.mk.injEq]
    simp [Rat.zero_add, Rat.add_zero]
  | m + 2 => by
    rw [toPow_two]
    simp only [r4, raise0, at_raise, raise1, raise2, numJ_at, Q4.mk.injEq]
    simp
theorem fitQ_zero : fitQ 0 := by unfold fitQ; decide
theorem fits0 {j : Jt} (h : j.dep = 0) : fitsJ j = true ↔ fitQ (numJ j 0) := by
  cases j with
  | fx q => simp [fitsJ, numJ]
  | mv a s => simp [Jt.dep] at h
theorem fits1 {j : Jt} (h : j.dep ≤ 1) : fitsJ j = true ↔ fitQ (numJ j 0) ∧ fitQ (numJ j 1) := by
  cases j with
  | fx q => simp [fitsJ, numJ, fitQ_zero]
  | mv a s =>
    simp only [Jt.dep] at h
    have ha : a.dep = 0 := by omega
    have hs : s.dep = 0 := by omega
    rw [fitsJ, Bool.and_eq_true, fits0 ha, fits0 hs, numJ_mv]; simp only [numJ]
theorem fits2 {j : Jt} (h : j.dep ≤ 2) : fitsJ j = true ↔ fit4 (r4 j) := by
  cases j with
  | fx q => simp [fitsJ, r4, fit4, numJ, Jt.at_, fitQ_zero]
  | mv a s =>
    simp only [Jt.dep] at h
    have ha : a.dep ≤ 1 := by omega
    have hs : s.dep ≤ 1 := by omega
    rw [fitsJ, Bool.and_eq_true, fits1 ha, fits1 hs]
    simp only [r4, fit4, numJ, Jt.at_]
    exact ⟨fun ⟨⟨a, b⟩, c, d⟩ => ⟨a, b, c, d⟩, fun ⟨a, b, c, d⟩ => ⟨⟨a, b⟩, c, d⟩⟩
end Nt
