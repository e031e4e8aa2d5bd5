/-
  Plain mathematics of rationals: what the parts of sums, products, powers and floors are.
-/
namespace Nt
/-- a natural with a sign -/
def sg (neg : Bool) (p : Nat) : Int := if neg then -(p : Int) else p
def isNeg (r : Rat) : Bool := decide (r.num < 0)
def nu (r : Rat) : Nat := r.num.natAbs
theorem sg_abs (neg : Bool) (p : Nat) : (sg neg p).natAbs = p := by cases neg <;> simp [sg]
theorem sg_neg (neg : Bool) (p : Nat) : decide (sg neg p < 0) = (neg && decide (0 < p)) := by
  cases neg <;> simp [sg]
theorem sg_num (r : Rat) : sg (isNeg r) (nu r) = r.num := by
  unfold sg isNeg nu
  by_cases h : r.num < 0
  · simp [h]; omega
  · simp [h]; omega
theorem sg_mul (x y : Bool) (p q : Nat) : sg x p * sg y q = sg (x != y) (p * q) := by
  cases x <;> cases y <;> simp [sg, Int.neg_mul, Int.mul_neg]
theorem nu_pos {r : Rat} (h : isNeg r = true) : 0 < nu r := by
  unfold isNeg nu at *
  have := of_decide_eq_true h
  omega
theorem isNeg_zero {r : Rat} (h : nu r = 0) : isNeg r = false := by
  unfold isNeg nu at *
  exact decide_eq_false (by omega)
theorem cop (r : Rat) : Nat.gcd (nu r) r.den = 1 := r.reduced
/-- what is in lowest terms -/
theorem low_parts (neg : Bool) (p q : Nat) (hq : 0 < q) (hc : Nat.gcd p q = 1) :
    nu (mkRat (sg neg p) q) = p ∧ (mkRat (sg neg p) q).den = q ∧ isNeg (mkRat (sg neg p) q) = (neg && decide (0 < p)) := by
  have h1 := Rat.num_mkRat (sg neg p) q
  have h2 := Rat.den_mkRat (sg neg p) q
  rw [if_neg (by omega), sg_abs, Nat.gcd_comm, hc] at h1 h2
  simp at h1 h2
  refine ⟨by unfold nu; rw [h1, sg_abs], h2, ?_⟩
  unfold isNeg; rw [h1, sg_neg]
theorem mk_low (neg : Bool) (p q : Nat) (hq : 0 < q) :
    mkRat (sg neg p) q = mkRat (sg neg (p / Nat.gcd p q)) (q / Nat.gcd p q) := by
  have hg : 0 < Nat.gcd p q := Nat.gcd_pos_of_pos_right _ hq
  have hp : p = Nat.gcd p q * (p / Nat.gcd p q) := (Nat.mul_div_cancel' (Nat.gcd_dvd_left p q)).symm
  have hq' : q = Nat.gcd p q * (q / Nat.gcd p q) := (Nat.mul_div_cancel' (Nat.gcd_dvd_right p q)).symm
  have e : sg neg p = ((Nat.gcd p q : Nat) : Int) * sg neg (p / Nat.gcd p q) := by
    conv => lhs; rw [hp]
    cases neg <;> simp [sg, Int.mul_neg]
  rw [e]
  conv => lhs; rhs; rw [hq']
  rw [Rat.mkRat_mul_left (by omega)]
/-- what a fraction is once it is cancelled -/
theorem mk_parts (neg : Bool) (p q : Nat) (hq : 0 < q) :
    nu (mkRat (sg neg p) q) = p / Nat.gcd p q ∧ (mkRat (sg neg p) q).den = q / Nat.gcd p q ∧ isNeg (mkRat (sg neg p) q) = (neg && decide (0 < p / Nat.gcd p q)) := by
  rw [mk_low neg p q hq]
  exact low_parts neg _ _ (Nat.div_gcd_pos_of_pos_right _ hq) (Nat.coprime_div_gcd_div_gcd (Nat.gcd_pos_of_pos_right _ hq))
/-- the sign and the size of a sum of two signed ones -/
def sumNeg (x : Bool) (p : Nat) (y : Bool) (q : Nat) : Bool := if x = y then x else if q ≤ p then x else y
def sumAbs (x : Bool) (p : Nat) (y : Bool) (q : Nat) : Nat := if x = y then p + q else if q ≤ p then p - q else q - p
theorem sum_sg (x : Bool) (p : Nat) (y : Bool) (q : Nat) : sg (sumNeg x p y q) (sumAbs x p y q) = sg x p + sg y q := by
  unfold sumNeg sumAbs
  by_cases h : x = y
  · subst h; cases x <;> simp [sg]; omega
  · by_cases h2 : q ≤ p
    · cases x <;> cases y <;> simp [sg, h2] at h ⊢ <;> omega
    · cases x <;> cases y <;> simp [sg, h2] at h ⊢ <;> omega
theorem sum_abs (x : Bool) (p : Nat) (y : Bool) (q : Nat) : sumAbs x p y q = (sg x p + sg y q).natAbs := by
  rw [← sum_sg, sg_abs]
theorem sum_le (x : Bool) (p : Nat) (y : Bool) (q : Nat) : sumAbs x p y q ≤ p + q := by unfold sumAbs; split <;> (try split) <;> omega
/-- a sum over the product of both denominators -/
theorem add_make (a b : Rat) : a + b = mkRat (sg (sumNeg (isNeg a) (nu a * b.den) (isNeg b) (nu b * a.den)) (sumAbs (isNeg a) (nu a * b.den) (isNeg b) (nu b * a.den))) (a.den * b.den) := by
  rw [sum_sg, Rat.add_def']
  have h1 : sg (isNeg a) (nu a * b.den) = a.num * b.den := by
    rw [← sg_num a]; cases isNeg a <;> simp [sg, Int.neg_mul]
  have h2 : sg (isNeg b) (nu b * a.den) = b.num * a.den := by
    rw [← sg_num b]; cases isNeg b <;> simp [sg, Int.neg_mul]
  rw [h1, h2]
theorem mul_make (a b : Rat) : a * b = mkRat (sg (isNeg a != isNeg b) (nu a * nu b)) (a.den * b.den) := by
  rw [← sg_mul, sg_num, sg_num, Rat.mul_def']
theorem inv_parts {b : Rat} (h : 0 < nu b) : nu b⁻¹ = b.den ∧ (b⁻¹).den = nu b ∧ isNeg b⁻¹ = isNeg b := by
  have hd := b.den_pos
  have h0 : b.num ≠ 0 := by unfold nu at h; omega
  refine ⟨?_, ?_, ?_⟩
  · unfold nu at *; rw [Rat.num_inv, Int.natAbs_mul, Int.natAbs_sign_of_ne_zero h0]; simp
  · rw [Rat.den_inv, if_neg h0]; rfl
  · unfold isNeg
    rw [Rat.num_inv]
    rcases Int.lt_trichotomy b.num 0 with h1 | h1 | h1
    · rw [Int.sign_eq_neg_one_of_neg h1]; simp [h1]; omega
    · exact absurd h1 h0
    · rw [Int.sign_eq_one_of_pos h1]; simp; omega
theorem div_make (a b : Rat) (h : 0 < nu b) : a / b = mkRat (sg (isNeg a != isNeg b) (nu a * b.den)) (a.den * nu b) := by
  obtain ⟨h1, h2, h3⟩ := inv_parts h
  rw [Rat.div_def, mul_make, h1, h2, h3]
theorem cross_mul {g h x y u v A B U V : Nat} (hA : g * x = A) (hB : h * y = B) (hU : h * u = U) (hV : g * v = V) : (A * B) * (u * v) = (x * y) * (U * V) := by
  subst hA hB hU hV
  simp only [Nat.mul_comm, Nat.mul_left_comm]
theorem cross_add {g x y A B : Nat} {p q : Int} (hA : g * x = A) (hB : g * y = B) : p * (B : Int) + q * (A : Int) = (g : Int) * (p * (y : Int) + q * (x : Int)) := by
  subst hA hB
  rw [Int.natCast_mul, Int.natCast_mul, Int.mul_add]
  simp only [Int.mul_left_comm]
/-- a product, cancelled crosswise -/
theorem times_parts (a b : Rat) :
    nu (a * b) = (nu a / Nat.gcd (nu a) b.den) * (nu b / Nat.gcd (nu b) a.den) ∧
    (a * b).den = (a.den / Nat.gcd (nu b) a.den) * (b.den / Nat.gcd (nu a) b.den) ∧
    isNeg (a * b) = ((isNeg a != isNeg b) && decide (0 < (nu a / Nat.gcd (nu a) b.den) * (nu b / Nat.gcd (nu b) a.den))) := by
  have hg1 : 0 < Nat.gcd (nu a) b.den := Nat.gcd_pos_of_pos_right _ b.den_pos
  have hg2 : 0 < Nat.gcd (nu b) a.den := Nat.gcd_pos_of_pos_right _ a.den_pos
  have hpos : 0 < (a.den / Nat.gcd (nu b) a.den) * (b.den / Nat.gcd (nu a) b.den) :=
    Nat.mul_pos (Nat.div_gcd_pos_of_pos_right _ a.den_pos) (Nat.div_gcd_pos_of_pos_right _ b.den_pos)
  have ea := Nat.mul_div_cancel' (Nat.gcd_dvd_left (nu a) b.den)
  have eb := Nat.mul_div_cancel' (Nat.gcd_dvd_right (nu a) b.den)
  have ec := Nat.mul_div_cancel' (Nat.gcd_dvd_left (nu b) a.den)
  have ed := Nat.mul_div_cancel' (Nat.gcd_dvd_right (nu b) a.den)
  have hc : Nat.Coprime ((nu a / Nat.gcd (nu a) b.den) * (nu b / Nat.gcd (nu b) a.den)) ((a.den / Nat.gcd (nu b) a.den) * (b.den / Nat.gcd (nu a) b.den)) := by
    refine Nat.coprime_mul_iff_left.2 ⟨Nat.coprime_mul_iff_right.2 ⟨?_, ?_⟩, Nat.coprime_mul_iff_right.2 ⟨?_, ?_⟩⟩
    · exact (Nat.Coprime.coprime_div_left (show Nat.Coprime (nu a) a.den from cop a) (Nat.gcd_dvd_left ..)).coprime_div_right (Nat.gcd_dvd_right ..)
    · exact Nat.coprime_div_gcd_div_gcd hg1
    · exact Nat.coprime_div_gcd_div_gcd hg2
    · exact (Nat.Coprime.coprime_div_left (show Nat.Coprime (nu b) b.den from cop b) (Nat.gcd_dvd_left ..)).coprime_div_right (Nat.gcd_dvd_right ..)
  have e : a * b = mkRat (sg (isNeg a != isNeg b) ((nu a / Nat.gcd (nu a) b.den) * (nu b / Nat.gcd (nu b) a.den))) ((a.den / Nat.gcd (nu b) a.den) * (b.den / Nat.gcd (nu a) b.den)) := by
    rw [mul_make, Rat.mkRat_eq_iff (Nat.pos_iff_ne_zero.1 (Nat.mul_pos a.den_pos b.den_pos)) (by omega)]
    have k : (nu a * nu b) * ((a.den / Nat.gcd (nu b) a.den) * (b.den / Nat.gcd (nu a) b.den)) = ((nu a / Nat.gcd (nu a) b.den) * (nu b / Nat.gcd (nu b) a.den)) * (a.den * b.den) := by
      exact cross_mul ea ec ed eb
    have k' : ((nu a * nu b : Nat) : Int) * ((a.den / Nat.gcd (nu b) a.den) * (b.den / Nat.gcd (nu a) b.den) : Nat) = (((nu a / Nat.gcd (nu a) b.den) * (nu b / Nat.gcd (nu b) a.den) : Nat) : Int) * (a.den * b.den : Nat) := by
      rw [← Int.natCast_mul, ← Int.natCast_mul, k]
    cases (isNeg a != isNeg b)
    · exact k'
    · simp only [sg, if_true, Int.neg_mul]; rw [k']
  rw [e]
  exact low_parts _ _ _ hpos hc
/-- a sum, cancelled by what the denominators share -/
def plusNeg (a b : Rat) : Bool := sumNeg (isNeg a) (nu a * (b.den / Nat.gcd a.den b.den)) (isNeg b) (nu b * (a.den / Nat.gcd a.den b.den))
def plusAbs (a b : Rat) : Nat := sumAbs (isNeg a) (nu a * (b.den / Nat.gcd a.den b.den)) (isNeg b) (nu b * (a.den / Nat.gcd a.den b.den))
theorem plus_num (a b : Rat) : (plusAbs a b : Int) = ((a.num * ((b.den / Nat.gcd a.den b.den : Nat) : Int) + b.num * ((a.den / Nat.gcd a.den b.den : Nat) : Int)).natAbs : Nat) := by
  unfold plusAbs
  rw [sum_abs]
  have h1 : ∀ (r : Rat) (k : Nat), sg (isNeg r) (nu r * k) = r.num * k := by
    intro r k; rw [← sg_num r]; cases isNeg r <;> simp [sg, Int.neg_mul]
  rw [h1, h1]
theorem plus_parts (a b : Rat) :
    nu (a + b) = plusAbs a b / Nat.gcd (plusAbs a b) (Nat.gcd a.den b.den) ∧
    (a + b).den = (a.den / Nat.gcd a.den b.den) * (b.den / Nat.gcd (plusAbs a b) (Nat.gcd a.den b.den)) ∧
    isNeg (a + b) = (plusNeg a b && decide (0 < plusAbs a b / Nat.gcd (plusAbs a b) (Nat.gcd a.den b.den))) := by
  have hg : 0 < Nat.gcd a.den b.den := Nat.gcd_pos_of_pos_right _ b.den_pos
  have aux := Rat.add.aux a b (g := Nat.gcd a.den b.den) rfl rfl rfl
  have hn : plusAbs a b = (a.num * ((b.den / Nat.gcd a.den b.den : Nat) : Int) + b.num * ((a.den / Nat.gcd a.den b.den : Nat) : Int)).natAbs := by
    have := plus_num a b; omega
  simp only [← hn] at aux
  have hpos : 0 < (a.den / Nat.gcd a.den b.den) * b.den := Nat.mul_pos (Nat.div_gcd_pos_of_pos_left _ a.den_pos) b.den_pos
  have e : a + b = mkRat (sg (plusNeg a b) (plusAbs a b)) ((a.den / Nat.gcd a.den b.den) * b.den) := by
    have ea := Nat.mul_div_cancel' (Nat.gcd_dvd_left a.den b.den)
    have eb := Nat.mul_div_cancel' (Nat.gcd_dvd_right a.den b.den)
    have h1 : ∀ (r : Rat) (k : Nat), sg (isNeg r) (nu r * k) = r.num * k := by
      intro r k; rw [← sg_num r]; cases isNeg r <;> simp [sg, Int.neg_mul]
    have e1 : sg (plusNeg a b) (plusAbs a b) = a.num * ((b.den / Nat.gcd a.den b.den : Nat) : Int) + b.num * ((a.den / Nat.gcd a.den b.den : Nat) : Int) := by
      unfold plusNeg plusAbs; rw [sum_sg, h1, h1]
    rw [e1, Rat.add_def']
    have e2 : a.num * (b.den : Int) + b.num * (a.den : Int) = ((Nat.gcd a.den b.den : Nat) : Int) * (a.num * ((b.den / Nat.gcd a.den b.den : Nat) : Int) + b.num * ((a.den / Nat.gcd a.den b.den : Nat) : Int)) := by
      exact cross_add ea eb
    have e3 : a.den * b.den = Nat.gcd a.den b.den * ((a.den / Nat.gcd a.den b.den) * b.den) := by rw [← Nat.mul_assoc, ea]
    rw [e2, e3, Rat.mkRat_mul_left (by omega)]
  have hd : Nat.gcd (plusAbs a b) (Nat.gcd a.den b.den) ∣ b.den := Nat.dvd_trans (Nat.gcd_dvd_right _ _) (Nat.gcd_dvd_right _ _)
  rw [e]
  have m := mk_parts (plusNeg a b) (plusAbs a b) _ hpos
  rw [← aux, Nat.mul_div_assoc _ hd] at m
  exact m
theorem pow_parts (a : Rat) (n : Nat) : nu (a ^ n) = nu a ^ n ∧ (a ^ n).den = a.den ^ n ∧ isNeg (a ^ n) = ((isNeg a && n % 2 == 1) && decide (0 < nu a ^ n)) := by
  refine ⟨by unfold nu; rw [Rat.num_pow, Int.natAbs_pow], Rat.den_pow a n, ?_⟩
  unfold isNeg
  rw [Rat.num_pow]
  have key : ∀ (neg : Bool) (p n : Nat), (sg neg p) ^ n = sg (neg && n % 2 == 1) (p ^ n) := by
    intro neg p n
    induction n with
    | zero => simp [sg]
    | succ n ih =>
      rw [Int.pow_succ, ih, sg_mul, Nat.pow_succ]
      congr 1
      cases neg
      · simp
      · have : n % 2 = 0 ∨ n % 2 = 1 := by omega
        rcases this with h | h
        · have h2 : (n + 1) % 2 = 1 := by omega
          simp [h, h2]
        · have h2 : (n + 1) % 2 = 0 := by omega
          simp [h, h2]
  have e := key (isNeg a) (nu a) n
  rw [sg_num] at e
  rw [e, sg_neg]; rfl
/-- the greatest whole number that is not above -/
def flAbs (a : Rat) : Nat := if isNeg a = true ∧ 0 < nu a % a.den then nu a / a.den + 1 else nu a / a.den
def flQ (a : Rat) : Rat := mkRat (sg (isNeg a) (flAbs a)) 1
theorem fl_parts (a : Rat) : nu (flQ a) = flAbs a ∧ (flQ a).den = 1 ∧ isNeg (flQ a) = isNeg a := by
  obtain ⟨h1, h2, h3⟩ := low_parts (isNeg a) (flAbs a) 1 (by decide) (Nat.gcd_one_right _)
  refine ⟨h1, h2, ?_⟩
  unfold flQ
  rw [h3]
  cases hn : isNeg a
  · rfl
  · have hp := nu_pos hn
    have : 0 < flAbs a := by
      unfold flAbs
      by_cases h : 0 < nu a % a.den
      · rw [if_pos ⟨hn, h⟩]; exact Nat.succ_pos _
      · rw [if_neg (fun k => h k.2)]
        have h0 : nu a % a.den = 0 := by omega
        have hd := Nat.dvd_of_mod_eq_zero h0
        exact Nat.div_pos (Nat.le_of_dvd hp hd) a.den_pos
    simp [this]
/-- how two compare -/
def cmpQ (a b : Rat) : Int := (a - b).num.sign
theorem cmpQ_eq (a b : Rat) : cmpQ a b = (a.num * b.den - b.num * a.den).sign := by
  unfold cmpQ
  rw [Rat.sub_def']
  have hd : 0 < a.den * b.den := Nat.mul_pos a.den_pos b.den_pos
  generalize a.num * (b.den : Int) - b.num * (a.den : Int) = n at *
  have h := Rat.num_mkRat n (a.den * b.den)
  rw [if_neg (by omega)] at h
  rw [h]
  have hg : 0 < Nat.gcd (a.den * b.den) n.natAbs := Nat.gcd_pos_of_pos_left _ hd
  have hdv : ((Nat.gcd (a.den * b.den) n.natAbs : Nat) : Int) ∣ n := by
    rw [← Int.dvd_natAbs]; exact Int.ofNat_dvd.2 (Nat.gcd_dvd_right _ _)
  obtain ⟨k, hk⟩ := hdv
  generalize ((Nat.gcd (a.den * b.den) n.natAbs : Nat)) = g at *
  rw [hk, Int.mul_ediv_cancel_left _ (by omega), Int.sign_mul, Int.sign_eq_one_of_pos (a := (g : Int)) (by omega), Int.one_mul]
end Nt
