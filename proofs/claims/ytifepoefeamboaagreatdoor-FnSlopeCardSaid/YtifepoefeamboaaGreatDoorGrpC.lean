/-
  RatMath One RatOk RatLaw RatCode RatNeg RatOps1 SpecOwn SpecOps1 SpecMake SpecRat in one text.
-/
import Derived.Test.YtifepoefeamboaaGreatDoorGrpB
import Derived.Laws.ResultCell
import Derived.Deep.RegionHeld3
import Derived.Deep.RegionLaw
namespace Nt
/-- a natural with a sign -/
def sg (neg : Bool) (p : Nat) : Int := if neg then -(p : Int) else p
def isNeg (r : Rat) : Bool := decide (r.num < 0)
def nu (r : Rat) : Nat := r.num.natAbs
theorem sg_abs (neg : Bool) (p : Nat) : (sg neg p).natAbs = p := by cases neg <;> simp [sg]
theorem sg_neg (neg : Bool) (p : Nat) : decide (sg neg p < 0) = (neg && decide (0 < p)) := by
  cases neg <;> simp [sg]
theorem sg_num (r : Rat) : sg (isNeg r) (nu r) = r.num := by
  unfold sg isNeg nu
  by_cases h : r.num < 0
  · simp [h]; omega
  · simp [h]; omega
theorem sg_mul (x y : Bool) (p q : Nat) : sg x p * sg y q = sg (x != y) (p * q) := by
  cases x <;> cases y <;> simp [sg, Int.neg_mul, Int.mul_neg]
theorem nu_pos {r : Rat} (h : isNeg r = true) : 0 < nu r := by
  unfold isNeg nu at *
  have := of_decide_eq_true h
  omega
theorem cop (r : Rat) : Nat.gcd (nu r) r.den = 1 := r.reduced
/-- what is in lowest terms -/
theorem low_parts (neg : Bool) (p q : Nat) (hq : 0 < q) (hc : Nat.gcd p q = 1) :
    nu (mkRat (sg neg p) q) = p ∧ (mkRat (sg neg p) q).den = q ∧ isNeg (mkRat (sg neg p) q) = (neg && decide (0 < p)) := by
  have h1 := Rat.num_mkRat (sg neg p) q
  have h2 := Rat.den_mkRat (sg neg p) q
  rw [if_neg (by omega), sg_abs, Nat.gcd_comm, hc] at h1 h2
  simp at h1 h2
  refine ⟨by unfold nu; rw [h1, sg_abs], h2, ?_⟩
  unfold isNeg; rw [h1, sg_neg]
theorem mk_low (neg : Bool) (p q : Nat) (hq : 0 < q) :
    mkRat (sg neg p) q = mkRat (sg neg (p / Nat.gcd p q)) (q / Nat.gcd p q) := by
  have hg : 0 < Nat.gcd p q := Nat.gcd_pos_of_pos_right _ hq
  have hp : p = Nat.gcd p q * (p / Nat.gcd p q) := (Nat.mul_div_cancel' (Nat.gcd_dvd_left p q)).symm
  have hq' : q = Nat.gcd p q * (q / Nat.gcd p q) := (Nat.mul_div_cancel' (Nat.gcd_dvd_right p q)).symm
  have e : sg neg p = ((Nat.gcd p q : Nat) : Int) * sg neg (p / Nat.gcd p q) := by
    conv => lhs; rw [hp]
    cases neg <;> simp [sg, Int.mul_neg]
  rw [e]
  conv => lhs; rhs; rw [hq']
  rw [Rat.mkRat_mul_left (by omega)]
/-- what a fraction is once it is cancelled -/
theorem mk_parts (neg : Bool) (p q : Nat) (hq : 0 < q) :
    nu (mkRat (sg neg p) q) = p / Nat.gcd p q ∧ (mkRat (sg neg p) q).den = q / Nat.gcd p q ∧ isNeg (mkRat (sg neg p) q) = (neg && decide (0 < p / Nat.gcd p q)) := by
  rw [mk_low neg p q hq]
  exact low_parts neg _ _ (Nat.div_gcd_pos_of_pos_right _ hq) (Nat.coprime_div_gcd_div_gcd (Nat.gcd_pos_of_pos_right _ hq))
/-- the sign and the size of a sum of two signed ones -/
def sumNeg (x : Bool) (p : Nat) (y : Bool) (q : Nat) : Bool := if x = y then x else if q ≤ p then x else y
def sumAbs (x : Bool) (p : Nat) (y : Bool) (q : Nat) : Nat := if x = y then p + q else if q ≤ p then p - q else q - p
theorem sum_sg (x : Bool) (p : Nat) (y : Bool) (q : Nat) : sg (sumNeg x p y q) (sumAbs x p y q) = sg x p + sg y q := by
  unfold sumNeg sumAbs
  by_cases h : x = y
  · subst h; cases x <;> simp [sg]; omega
  · by_cases h2 : q ≤ p
    · cases x <;> cases y <;> simp [sg, h2] at h ⊢ <;> omega
    · cases x <;> cases y <;> simp [sg, h2] at h ⊢ <;> omega
theorem sum_abs (x : Bool) (p : Nat) (y : Bool) (q : Nat) : sumAbs x p y q = (sg x p + sg y q).natAbs := by
  rw [← sum_sg, sg_abs]
theorem sum_le (x : Bool) (p : Nat) (y : Bool) (q : Nat) : sumAbs x p y q ≤ p + q := by unfold sumAbs; split <;> (try split) <;> omega
/-- a sum over the product of both denominators -/
theorem add_make (a b : Rat) : a + b = mkRat (sg (sumNeg (isNeg a) (nu a * b.den) (isNeg b) (nu b * a.den)) (sumAbs (isNeg a) (nu a * b.den) (isNeg b) (nu b * a.den))) (a.den * b.den) := by
  rw [sum_sg, Rat.add_def']
  have h1 : sg (isNeg a) (nu a * b.den) = a.num * b.den := by
    rw [← sg_num a]; cases isNeg a <;> simp [sg, Int.neg_mul]
  have h2 : sg (isNeg b) (nu b * a.den) = b.num * a.den := by
    rw [← sg_num b]; cases isNeg b <;> simp [sg, Int.neg_mul]
  rw [h1, h2]
theorem mul_make (a b : Rat) : a * b = mkRat (sg (isNeg a != isNeg b) (nu a * nu b)) (a.den * b.den) := by
  rw [← sg_mul, sg_num, sg_num, Rat.mul_def']
theorem inv_parts {b : Rat} (h : 0 < nu b) : nu b⁻¹ = b.den ∧ (b⁻¹).den = nu b ∧ isNeg b⁻¹ = isNeg b := by
  have hd := b.den_pos
  have h0 : b.num ≠ 0 := by unfold nu at h; omega
  refine ⟨?_, ?_, ?_⟩
  · unfold nu at *; rw [Rat.num_inv, Int.natAbs_mul, Int.natAbs_sign_of_ne_zero h0]; simp
  · rw [Rat.den_inv, if_neg h0]; rfl
  · unfold isNeg
    rw [Rat.num_inv]
    rcases Int.lt_trichotomy b.num 0 with h1 | h1 | h1
    · rw [Int.sign_eq_neg_one_of_neg h1]; simp [h1]; omega
    · exact absurd h1 h0
    · rw [Int.sign_eq_one_of_pos h1]; simp; omega
theorem div_make (a b : Rat) (h : 0 < nu b) : a / b = mkRat (sg (isNeg a != isNeg b) (nu a * b.den)) (a.den * nu b) := by
  obtain ⟨h1, h2, h3⟩ := inv_parts h
  rw [Rat.div_def, mul_make, h1, h2, h3]
theorem cross_mul {g h x y u v A B U V : Nat} (hA : g * x = A) (hB : h * y = B) (hU : h * u = U) (hV : g * v = V) : (A * B) * (u * v) = (x * y) * (U * V) := by
  subst hA hB hU hV
  simp only [Nat.mul_comm, Nat.mul_left_comm]
theorem cross_add {g x y A B : Nat} {p q : Int} (hA : g * x = A) (hB : g * y = B) : p * (B : Int) + q * (A : Int) = (g : Int) * (p * (y : Int) + q * (x : Int)) := by
  subst hA hB
  rw [Int.natCast_mul, Int.natCast_mul, Int.mul_add]
  simp only [Int.mul_left_comm]
/-- a product, cancelled crosswise -/
theorem times_parts (a b : Rat) :
    nu (a * b) = (nu a / Nat.gcd (nu a) b.den) * (nu b / Nat.gcd (nu b) a.den) ∧
    (a * b).den = (a.den / Nat.gcd (nu b) a.den) * (b.den / Nat.gcd (nu a) b.den) ∧
    isNeg (a * b) = ((isNeg a != isNeg b) && decide (0 < (nu a / Nat.gcd (nu a) b.den) * (nu b / Nat.gcd (nu b) a.den))) := by
  have hg1 : 0 < Nat.gcd (nu a) b.den := Nat.gcd_pos_of_pos_right _ b.den_pos
  have hg2 : 0 < Nat.gcd (nu b) a.den := Nat.gcd_pos_of_pos_right _ a.den_pos
  have hpos : 0 < (a.den / Nat.gcd (nu b) a.den) * (b.den / Nat.gcd (nu a) b.den) :=
    Nat.mul_pos (Nat.div_gcd_pos_of_pos_right _ a.den_pos) (Nat.div_gcd_pos_of_pos_right _ b.den_pos)
  have ea := Nat.mul_div_cancel' (Nat.gcd_dvd_left (nu a) b.den)
  have eb := Nat.mul_div_cancel' (Nat.gcd_dvd_right (nu a) b.den)
  have ec := Nat.mul_div_cancel' (Nat.gcd_dvd_left (nu b) a.den)
  have ed := Nat.mul_div_cancel' (Nat.gcd_dvd_right (nu b) a.den)
  have hc : Nat.Coprime ((nu a / Nat.gcd (nu a) b.den) * (nu b / Nat.gcd (nu b) a.den)) ((a.den / Nat.gcd (nu b) a.den) * (b.den / Nat.gcd (nu a) b.den)) := by
    refine Nat.coprime_mul_iff_left.2 ⟨Nat.coprime_mul_iff_right.2 ⟨?_, ?_⟩, Nat.coprime_mul_iff_right.2 ⟨?_, ?_⟩⟩
    · exact (Nat.Coprime.coprime_div_left (show Nat.Coprime (nu a) a.den from cop a) (Nat.gcd_dvd_left ..)).coprime_div_right (Nat.gcd_dvd_right ..)
    · exact Nat.coprime_div_gcd_div_gcd hg1
    · exact Nat.coprime_div_gcd_div_gcd hg2
    · exact (Nat.Coprime.coprime_div_left (show Nat.Coprime (nu b) b.den from cop b) (Nat.gcd_dvd_left ..)).coprime_div_right (Nat.gcd_dvd_right ..)
  have e : a * b = mkRat (sg (isNeg a != isNeg b) ((nu a / Nat.gcd (nu a) b.den) * (nu b / Nat.gcd (nu b) a.den))) ((a.den / Nat.gcd (nu b) a.den) * (b.den / Nat.gcd (nu a) b.den)) := by
    rw [mul_make, Rat.mkRat_eq_iff (Nat.pos_iff_ne_zero.1 (Nat.mul_pos a.den_pos b.den_pos)) (by omega)]
    have k : (nu a * nu b) * ((a.den / Nat.gcd (nu b) a.den) * (b.den / Nat.gcd (nu a) b.den)) = ((nu a / Nat.gcd (nu a) b.den) * (nu b / Nat.gcd (nu b) a.den)) * (a.den * b.den) := by
      exact cross_mul ea ec ed eb
    have k' : ((nu a * nu b : Nat) : Int) * ((a.den / Nat.gcd (nu b) a.den) * (b.den / Nat.gcd (nu a) b.den) : Nat) = (((nu a / Nat.gcd (nu a) b.den) * (nu b / Nat.gcd (nu b) a.den) : Nat) : Int) * (a.den * b.den : Nat) := by
      rw [← Int.natCast_mul, ← Int.natCast_mul, k]
    cases (isNeg a != isNeg b)
    · exact k'
    · simp only [sg, if_true, Int.neg_mul]; rw [k']
  rw [e]
  exact low_parts _ _ _ hpos hc
/-- a sum, cancelled by what the denominators share -/
def plusNeg (a b : Rat) : Bool := sumNeg (isNeg a) (nu a * (b.den / Nat.gcd a.den b.den)) (isNeg b) (nu b * (a.den / Nat.gcd a.den b.den))
def plusAbs (a b : Rat) : Nat := sumAbs (isNeg a) (nu a * (b.den / Nat.gcd a.den b.den)) (isNeg b) (nu b * (a.den / Nat.gcd a.den b.den))
theorem plus_num (a b : Rat) : (plusAbs a b : Int) = ((a.num * ((b.den / Nat.gcd a.den b.den : Nat) : Int) + b.num * ((a.den / Nat.gcd a.den b.den : Nat) : Int)).natAbs : Nat) := by
  unfold plusAbs
  rw [sum_abs]
  have h1 : ∀ (r : Rat) (k : Nat), sg (isNeg r) (nu r * k) = r.num * k := by
    intro r k; rw [← sg_num r]; cases isNeg r <;> simp [sg, Int.neg_mul]
  rw [h1, h1]
theorem plus_parts (a b : Rat) :
    nu (a + b) = plusAbs a b / Nat.gcd (plusAbs a b) (Nat.gcd a.den b.den) ∧
    (a + b).den = (a.den / Nat.gcd a.den b.den) * (b.den / Nat.gcd (plusAbs a b) (Nat.gcd a.den b.den)) ∧
    isNeg (a + b) = (plusNeg a b && decide (0 < plusAbs a b / Nat.gcd (plusAbs a b) (Nat.gcd a.den b.den))) := by
  have hg : 0 < Nat.gcd a.den b.den := Nat.gcd_pos_of_pos_right _ b.den_pos
  have aux := Rat.add.aux a b (g := Nat.gcd a.den b.den) rfl rfl rfl
  have hn : plusAbs a b = (a.num * ((b.den / Nat.gcd a.den b.den : Nat) : Int) + b.num * ((a.den / Nat.gcd a.den b.den : Nat) : Int)).natAbs := by
    have := plus_num a b; omega
  simp only [← hn] at aux
  have hpos : 0 < (a.den / Nat.gcd a.den b.den) * b.den := Nat.mul_pos (Nat.div_gcd_pos_of_pos_left _ a.den_pos) b.den_pos
  have e : a + b = mkRat (sg (plusNeg a b) (plusAbs a b)) ((a.den / Nat.gcd a.den b.den) * b.den) := by
    have ea := Nat.mul_div_cancel' (Nat.gcd_dvd_left a.den b.den)
    have eb := Nat.mul_div_cancel' (Nat.gcd_dvd_right a.den b.den)
    have h1 : ∀ (r : Rat) (k : Nat), sg (isNeg r) (nu r * k) = r.num * k := by
      intro r k; rw [← sg_num r]; cases isNeg r <;> simp [sg, Int.neg_mul]
    have e1 : sg (plusNeg a b) (plusAbs a b) = a.num * ((b.den / Nat.gcd a.den b.den : Nat) : Int) + b.num * ((a.den / Nat.gcd a.den b.den : Nat) : Int) := by
      unfold plusNeg plusAbs; rw [sum_sg, h1, h1]
    rw [e1, Rat.add_def']
    have e2 : a.num * (b.den : Int) + b.num * (a.den : Int) = ((Nat.gcd a.den b.den : Nat) : Int) * (a.num * ((b.den / Nat.gcd a.den b.den : Nat) : Int) + b.num * ((a.den / Nat.gcd a.den b.den : Nat) : Int)) := by
      exact cross_add ea eb
    have e3 : a.den * b.den = Nat.gcd a.den b.den * ((a.den / Nat.gcd a.den b.den) * b.den) := by rw [← Nat.mul_assoc, ea]
    rw [e2, e3, Rat.mkRat_mul_left (by omega)]
  have hd : Nat.gcd (plusAbs a b) (Nat.gcd a.den b.den) ∣ b.den := Nat.dvd_trans (Nat.gcd_dvd_right _ _) (Nat.gcd_dvd_right _ _)
  rw [e]
  have m := mk_parts (plusNeg a b) (plusAbs a b) _ hpos
  rw [← aux, Nat.mul_div_assoc _ hd] at m
  exact m
theorem pow_parts (a : Rat) (n : Nat) : nu (a ^ n) = nu a ^ n ∧ (a ^ n).den = a.den ^ n ∧ isNeg (a ^ n) = ((isNeg a && n % 2 == 1) && decide (0 < nu a ^ n)) := by
  refine ⟨by unfold nu; rw [Rat.num_pow, Int.natAbs_pow], Rat.den_pow a n, ?_⟩
  unfold isNeg
  rw [Rat.num_pow]
  have key : ∀ (neg : Bool) (p n : Nat), (sg neg p) ^ n = sg (neg && n % 2 == 1) (p ^ n) := by
    intro neg p n
    induction n with
    | zero => simp [sg]
    | succ n ih =>
      rw [Int.pow_succ, ih, sg_mul, Nat.pow_succ]
      congr 1
      cases neg
      · simp
      · have : n % 2 = 0 ∨ n % 2 = 1 := by omega
        rcases this with h | h
        · have h2 : (n + 1) % 2 = 1 := by omega
          simp [h, h2]
        · have h2 : (n + 1) % 2 = 0 := by omega
          simp [h, h2]
  have e := key (isNeg a) (nu a) n
  rw [sg_num] at e
  rw [e, sg_neg]; rfl
end Nt
namespace Nt
open Go Go.RowKit
theorem D_one_len {m : Nat} (h : (D m).length = 1) : D m = [(m : Int)] ∧ m < 10000 := by
  have h1 := (D_len_le m 1).1 (by omega)
  have h0 : 0 < m := by
    rcases Nat.eq_zero_or_pos m with h2 | h2
    · subst h2; cases h
    · exact h2
  rw [D_pos m h0, show m / 10000 = 0 from by omega, D_zero, show m % 10000 = m from by omega]
  exact ⟨rfl, by omega⟩
end Nt
namespace Go.Proofs.YtifepoefeamboaaGreatDoor
open Go Go.RowKit Nt

set_option maxHeartbeats 400000 in
theorem equalOne_any (A : Option Addr) (la ca m g : Nat) (P : Nat → Prop) (w : World) (hr : Rd w P A la ca (D m)) (hg : w.cell? ⟨g, 0, none⟩ = some (.int .i64 1)) (hla : la ≤ 9000) :
    Calls Tryz.prog 168 #[.slice A la ca, .slice (some ⟨g, 0, none⟩) 1 1] w fun e w' => e = .returned (.bool (decide (m = 1))) ∧ Drawn w w' := by
  have hl := hr.len
  by_cases h1 : la = 1
  · subst h1
    obtain ⟨hd, hlt⟩ := D_one_len hl
    rw [hd] at hr
    obtain ⟨b, o, rfl, hP, _, hc⟩ := hr.at_ (by omega)
    have hcx : w.cell? ⟨b, o, none⟩ = some (.int .i64 (m : Int)) := hc 0 (by omega)
    have HM : Hid (decide (m = 1) = ((m : Int) == 1)) := by
      show _ = _
      rw [Bool.eq_iff_iff]; simp; omega
    clear hc hr hl hP hd
    go_enter Tryz.func168, Tryz.ntmps168
    go_wp2
    go_loopw [13] (fun i wr => ∃ k : Nat, k ≤ 1 ∧ i = .int .i64 k ∧ (k = 1 → m = 1) ∧ ∃ q, wr = w.drewN q) (fun i _ => 1 - (intOf i).toNat)
    case atStart => exact ⟨0, by omega, rfl, fun h => by omega, 0, rfl⟩
    case round =>
      obtain ⟨k, hk, rfl, hm, q, rfl⟩ := hrel
      by_cases hlt : k < 1
      · obtain rfl : k = 0 := by omega
        by_cases hx : m = 1
        · subst hx
          go_wp2
          go_quiet (fail)
          go_wp2
          go_roundw
          case rel => exact ⟨1, by omega, by go_num, fun _ => by trivial, _, rfl⟩
          case measure => simp [intOf]
        · have hx' : ((m : Int) != 1) = true := by simp; omega
          have HF : Hid (decide (m = 1) = false) := by show _ = _; simp [hx]
          go_wp2
          go_quiet (fail)
          go_wp2
          go_ret
          rw [HF.out]
          exact ⟨rfl, Drawn.more (w := w) ⟨q, rfl⟩ _⟩
      · obtain rfl : k = 1 := by omega
        have HT : Hid (decide (m = 1) = true) := by show _ = _; simp [hm rfl]
        clear hm
        go_wp2
        go_ret
        rw [HT.out]
        exact ⟨rfl, _, rfl⟩
  · have hne : ((la : Int) != 1) = true := by simp; omega
    have HF : Hid (decide (m = 1) = false) := by
      show _ = _
      refine decide_eq_false fun e => ?_
      subst e
      exact h1 (by rw [← hl]; rfl)
    clear hr hl hg
    go_enter Tryz.func168, Tryz.ntmps168
    go_wp2
    go_ret
    rw [HF.out]
    exact ⟨rfl, 0, rfl⟩

set_option maxHeartbeats 400000 in
theorem isOne_any (A : Option Addr) (la ca m : Nat) (P : Nat → Prop) (w : World) (hr : Rd w P A la ca (D m)) (hla : la ≤ 9000) :
    Calls Tryz.prog 163 #[.slice A la ca] w fun e w' => e = .returned (.bool (decide (m = 1))) ∧ Below w.heap.size w w' := by
  have HR := Lib.hid ((hr.mono (Q := (· < w.heap.size)) fun _ _ h => h).below ((Below.refl w.heap.size w).alloc (Nat.le_refl _) (.cells #[.int .i64 1] 3)))
  clear hr
  go_enter Tryz.func163, Tryz.ntmps163
  go_wp2_with fail
  refine (equalOne_any A la ca m w.heap.size _ _ HR.out (by simp [World.cell?_alloc_at]) hla).mono ?_
  rintro e w1 ⟨rfl, hd⟩
  have HB := Lib.hid (((Below.refl w.heap.size w).alloc (Nat.le_refl _) (.cells #[.int .i64 1] 3)).trans (hd.below _))
  clear hd
  go_wp2
  go_ret
  exact ⟨rfl, HB.out⟩
end Go.Proofs.YtifepoefeamboaaGreatDoor
namespace Nt
open Go Go.RowKit
/-- what RatOK says to a sign and two lists -/
def okR (neg : Bool) (xs ys : List Int) : Bool :=
  okL xs && (okL ys && (!ys.isEmpty && (!(neg && xs.isEmpty) && decide (Nat.gcd (natOf xs) (natOf ys) = 1))))
theorem okR_out {neg : Bool} {xs ys : List Int} (h : okR neg xs ys = true) : ∃ r : Rat, neg = isNeg r ∧ xs = D (nu r) ∧ ys = D r.den ∧ nu r < Top ∧ r.den < Top := by
  unfold okR at h
  simp only [Bool.and_eq_true, Bool.not_eq_true', decide_eq_true_eq] at h
  obtain ⟨h1, h2, h3, h4, h5⟩ := h
  obtain ⟨m, hm, rfl⟩ := okL_out h1
  obtain ⟨n, hn, rfl⟩ := okL_out h2
  rw [natOf_D, natOf_D] at h5
  have hn0 : 0 < n := by
    rcases Nat.eq_zero_or_pos n with e | e
    · subst e; simp [D_zero] at h3
    · exact e
  obtain ⟨e1, e2, e3⟩ := low_parts neg m n hn0 h5
  refine ⟨mkRat (sg neg m) n, ?_, by rw [e1], by rw [e2], by rw [e1]; exact hm, by rw [e2]; exact hn⟩
  rw [e3]
  cases neg
  · rfl
  · have : 0 < m := by
      rcases Nat.eq_zero_or_pos m with e | e
      · subst e; simp [D_zero] at h4
      · exact e
    simp [this]
theorem okR_rat (r : Rat) (h1 : nu r < Top) (h2 : r.den < Top) : okR (isNeg r) (D (nu r)) (D r.den) = true := by
  unfold okR
  rw [okL_D _ h1, okL_D _ h2, natOf_D, natOf_D, decide_eq_true (cop r)]
  have h3 : (D r.den).isEmpty = false := by
    rw [List.isEmpty_eq_false_iff]
    intro e
    have := (D_nil_iff _).1 e
    have := r.den_pos
    omega
  rw [h3]
  cases hn : isNeg r
  · rfl
  · have := nu_pos hn
    have h4 : (D (nu r)).isEmpty = false := by
      rw [List.isEmpty_eq_false_iff]
      intro e
      have := (D_nil_iff _).1 e
      omega
    rw [h4]; rfl
theorem cmpI_ne {m n : Nat} (h : m ≠ n) : cmpI m n ≠ 0 := by unfold cmpI; rw [if_neg h]; split <;> decide
theorem okR_num {neg : Bool} {xs ys : List Int} (h : okL xs = false) : okR neg xs ys = false := by unfold okR; rw [h]; rfl
theorem okR_den {neg : Bool} {xs ys : List Int} (h : okL ys = false) : okR neg xs ys = false := by unfold okR; rw [h]; simp
theorem okR_empty {neg : Bool} {xs : List Int} : okR neg xs [] = false := by unfold okR; simp
theorem okR_rest {neg : Bool} {m n : Nat} (h1 : okL (D m) = true) (h2 : okL (D n) = true) (h3 : D n ≠ []) (h4 : neg = false ∨ D m ≠ []) : okR neg (D m) (D n) = decide (Nat.gcd m n = 1) := by
  unfold okR
  rw [h1, h2, natOf_D, natOf_D]
  have e1 : (D n).isEmpty = false := by rw [List.isEmpty_eq_false_iff]; exact h3
  have e2 : (neg && (D m).isEmpty) = false := by
    rcases h4 with h | h
    · rw [h]; rfl
    · rw [show (D m).isEmpty = false from by rw [List.isEmpty_eq_false_iff]; exact h]; simp
  rw [e1, e2]
  rfl
theorem okR_zero {ys : List Int} : okR true [] ys = false := by unfold okR; simp
/-- a rational's struct lies in block b -/
def RatAt (w : World) (b : Nat) (t : TypeId) (neg : Bool) (A : Option Addr) (la ca : Nat) (B : Option Addr) (lb cb : Nat) : Prop :=
  w.heap[b]? = some (.cells #[.bool neg, .slice A la ca, .slice B lb cb] t (0, 0))
theorem RatAt.c0 {w : World} {b : Nat} {t : TypeId} {neg : Bool} {A B : Option Addr} {la ca lb cb : Nat} (h : RatAt w b t neg A la ca B lb cb) : w.cell? ⟨b, 0, none⟩ = some (.bool neg) := by rw [cell_of_row w b 0 _ t (0, 0) h]; rfl
theorem RatAt.c1 {w : World} {b : Nat} {t : TypeId} {neg : Bool} {A B : Option Addr} {la ca lb cb : Nat} (h : RatAt w b t neg A la ca B lb cb) : w.cell? ⟨b, 1, none⟩ = some (.slice A la ca) := by rw [cell_of_row w b 1 _ t (0, 0) h]; rfl
theorem RatAt.c2 {w : World} {b : Nat} {t : TypeId} {neg : Bool} {A B : Option Addr} {la ca lb cb : Nat} (h : RatAt w b t neg A la ca B lb cb) : w.cell? ⟨b, 2, none⟩ = some (.slice B lb cb) := by rw [cell_of_row w b 2 _ t (0, 0) h]; rfl
theorem RatAt.lt {w : World} {b : Nat} {t : TypeId} {neg : Bool} {A B : Option Addr} {la ca lb cb : Nat} (h : RatAt w b t neg A la ca B lb cb) : b < w.heap.size := by
  rcases Nat.lt_or_ge b w.heap.size with hlt | hge
  · exact hlt
  · unfold RatAt at h; rw [Array.getElem?_eq_none hge] at h; cases h
theorem RatAt.on {w w' : World} {b : Nat} {t : TypeId} {neg : Bool} {A B : Option Addr} {la ca lb cb : Nat} (h : RatAt w b t neg A la ca B lb cb) (hb : Below w.heap.size w w') : RatAt w' b t neg A la ca B lb cb := (hb.block b h.lt).trans h
theorem RatAt.new (w : World) (t : TypeId) (neg : Bool) (A B : Option Addr) (la ca lb cb : Nat) : RatAt (w.alloc (.cells #[.bool neg, .slice A la ca, .slice B lb cb] t)) w.heap.size t neg A la ca B lb cb := heap_alloc_new w _
theorem RatAt.fz {w : World} {b : Nat} {t : TypeId} {neg : Bool} {A B : Option Addr} {la ca lb cb : Nat} (h : RatAt w b t neg A la ca B lb cb) (i : Nat) : w.frozen? ⟨b, i, none⟩ = false := frozen_of_row w b i _ t h
theorem RatAt.set0 {w : World} {b : Nat} {t : TypeId} {neg : Bool} {A B : Option Addr} {la ca lb cb : Nat} (h : RatAt w b t neg A la ca B lb cb) (n' : Bool) : RatAt (w.setCell ⟨b, 0, none⟩ (.bool n')) b t n' A la ca B lb cb := by
  unfold RatAt at h ⊢
  rw [heap_setCell_same w b 0 _ t _ h]; rfl
theorem RatAt.set1 {w : World} {b : Nat} {t : TypeId} {neg : Bool} {A B : Option Addr} {la ca lb cb : Nat} (h : RatAt w b t neg A la ca B lb cb) (A' : Option Addr) (n' c' : Nat) : RatAt (w.setCell ⟨b, 1, none⟩ (.slice A' n' c')) b t neg A' n' c' B lb cb := by
  unfold RatAt at h ⊢
  rw [heap_setCell_same w b 1 _ t _ h]; rfl
theorem RatAt.set2 {w : World} {b : Nat} {t : TypeId} {neg : Bool} {A B : Option Addr} {la ca lb cb : Nat} (h : RatAt w b t neg A la ca B lb cb) (A' : Option Addr) (n' c' : Nat) : RatAt (w.setCell ⟨b, 2, none⟩ (.slice A' n' c')) b t neg A la ca A' n' c' := by
  unfold RatAt at h ⊢
  rw [heap_setCell_same w b 2 _ t _ h]; rfl
theorem RatAt.grown {w w' : World} {b g : Nat} {t : TypeId} {neg : Bool} {A B : Option Addr} {la ca lb cb : Nat} (h : RatAt w b t neg A la ca B lb cb) (hg : w.grownBy w' (some g)) (hne : b ≠ g) : RatAt w' b t neg A la ca B lb cb := (hg.block b h.lt (fun e => hne (by injection e))).trans h
theorem RatAt.alloc {w : World} {b : Nat} {t : TypeId} {neg : Bool} {A B : Option Addr} {la ca lb cb : Nat} (h : RatAt w b t neg A la ca B lb cb) (o : Obj) : RatAt (w.alloc o) b t neg A la ca B lb cb := h.on ((Below.refl _ _).alloc (Nat.le_refl _) o)
theorem RatAt.new1 (w : World) (o : Obj) (t : TypeId) (neg : Bool) (A B : Option Addr) (la ca lb cb : Nat) : RatAt ((w.alloc o).alloc (.cells #[.bool neg, .slice A la ca, .slice B lb cb] t)) (w.heap.size + 1) t neg A la ca B lb cb := by
  have := RatAt.new (w.alloc o) t neg A B la ca lb cb
  rwa [World.size_alloc] at this
theorem RatAt.new2 (w : World) (o o' : Obj) (t : TypeId) (neg : Bool) (A B : Option Addr) (la ca lb cb : Nat) : RatAt (((w.alloc o).alloc o').alloc (.cells #[.bool neg, .slice A la ca, .slice B lb cb] t)) (w.heap.size + 1 + 1) t neg A la ca B lb cb := by
  have := RatAt.new ((w.alloc o).alloc o') t neg A B la ca lb cb
  rwa [World.size_alloc, World.size_alloc] at this
/-- a call's world under one name, with what is known of it -/
theorem calls_at {P : Program} {f : FuncId} {args : Array Value} {W : World} {post : Ending → World → Prop} (F : World → Prop) (hF : F W) (h : ∀ W, F W → Calls P f args W post) : Calls P f args W post := h W hF
theorem below1 (w : World) (o : Obj) : Below w.heap.size w (w.alloc o) := (Below.refl _ _).alloc (Nat.le_refl _) _
theorem below2 (w : World) (o o' : Obj) : Below w.heap.size w ((w.alloc o).alloc o') := (below1 w o).alloc (by simp) _
theorem below3 (w : World) (o o' o'' : Obj) : Below w.heap.size w (((w.alloc o).alloc o').alloc o'') := (below2 w o o').alloc (by simp; omega) _
theorem RatAt.setAll {w : World} {b : Nat} {t : TypeId} {neg : Bool} {A B : Option Addr} {la ca lb cb : Nat} (h : RatAt w b t neg A la ca B lb cb) (n' : Bool) (A' : Option Addr) (a' c' : Nat) (B' : Option Addr) (b' d' : Nat) :
    RatAt (((w.setCell ⟨b, 0, none⟩ (.bool n')).setCell ⟨b, 1, none⟩ (.slice A' a' c')).setCell ⟨b, 2, none⟩ (.slice B' b' d')) b t n' A' a' c' B' b' d' := ((h.set0 _).set1 _ _ _).set2 _ _ _
theorem setAll_grown (w : World) (b : Nat) (x y z : Value) : w.grownBy (((w.setCell ⟨b, 0, none⟩ x).setCell ⟨b, 1, none⟩ y).setCell ⟨b, 2, none⟩ z) (some b) := grown_set (grown_set (grown_set (World.grownBy.refl _ _) _) _) _
theorem below_grow {w w1 w2 : World} {g : Nat} (h : Below w.heap.size w w1) (hg : w.heap.size ≤ g) (hw : w1.grownBy w2 (some g)) : Below w.heap.size w w2 := h.trans (grown_below hw h.size hg)
theorem results_cell_tmp_row {P : Program} {fn : Func} {p u : Tmp} {ty : TypeId} (h : fn.results = #[.cell p ty, .tmp u]) (tmps : Array Value) (w : World) (g : Nat) (t : TypeId) (cs : Array Value) (fr : Nat × Nat) (d : TypeDesc)
    (hp : tmps.getD p undef = .pointer (some ⟨g, 0, none⟩)) (hg : w.heap[g]? = some (.cells cs t fr))
    (hu : P.underlying ty = some d) (hd : (match d with | .struct _ | .array _ _ => true | _ => false) = true) (hi : (P.info? ty).map (·.size) = some cs.size) :
    (results fn tmps).run P w = .ok (.tuple #[.agg cs, tmps.getD u undef]) w := by
  rw [results_cell_tmp h]
  simp only [hp, asAddr, run_loadVar_row w g t ty cs fr d hg hu hd hi, Result.andThen, Sem.run_pure]
theorem undrew {W w1 : World} (h : Below W.drew.heap.size W.drew w1) : Below W.heap.size W w1 := (below_drewN (Below.refl W.heap.size W) 1).trans h
end Nt
namespace Go.Proofs.YtifepoefeamboaaGreatDoor
open Go Go.RowKit Nt
theorem retR {fn : Func} {p : Tmp} {neg : Bool} {A B : Option Addr} {la ca lb cb : Nat} (h : fn.results = #[.cell p 31]) (tmps : Array Value) (w : World) (b : Nat) (hp : tmps.getD p undef = .pointer (some ⟨b, 0, none⟩)) (hr : RatAt w b 31 neg A la ca B lb cb) :
    (results fn tmps).run Tryz.prog w = .ok (.agg #[.bool neg, .slice A la ca, .slice B lb cb]) w := results_cell_row h tmps w b _ _ _ _ hp hr Tryz.underlying31 rfl (by kernel_rfl)
theorem retRC {fn : Func} {p u : Tmp} {neg : Bool} {A B : Option Addr} {la ca lb cb : Nat} (h : fn.results = #[.cell p 31, .tmp u]) (tmps : Array Value) (w : World) (b : Nat) (hp : tmps.getD p undef = .pointer (some ⟨b, 0, none⟩)) (hr : RatAt w b 31 neg A la ca B lb cb) :
    (results fn tmps).run Tryz.prog w = .ok (.tuple #[.agg #[.bool neg, .slice A la ca, .slice B lb cb], tmps.getD u undef]) w := results_cell_tmp_row h tmps w b _ _ _ _ hp hr Tryz.underlying31 rfl (by kernel_rfl)

set_option maxHeartbeats 1600000 in
theorem implRatOK_any (neg : Bool) (A B : Option Addr) (la ca lb cb : Nat) (xs ys : List Int) (P Q : Nat → Prop) (w : World) (hx0 : Rd w P A la ca xs) (hy0 : Rd w Q B lb cb ys) (hla : la ≤ 16777216) (hlb : lb ≤ 16777216) :
    Calls Tryz.prog 149 #[.agg #[.bool neg, .slice A la ca, .slice B lb cb]] w fun e w' => e = .returned (.bool (okR neg xs ys)) ∧ Below w.heap.size w w' := by
  have HXL := Lib.hid hx0.len
  have HYL := Lib.hid hy0.len
  have hb : Below w.heap.size w (w.alloc (.cells #[.bool neg, .slice A la ca, .slice B lb cb] 31)) := (Below.refl _ _).alloc (Nat.le_refl _) _
  have HX := Lib.hid ((hx0.mono (Q := (· < w.heap.size)) fun _ _ h => h).below hb)
  have HY := Lib.hid ((hy0.mono (Q := (· < w.heap.size)) fun _ _ h => h).below hb)
  have HB := Lib.hid hb
  have HR := Lib.hid (RatAt.new w 31 neg A B la ca lb cb)
  clear hx0 hy0 hb
  go_enter Tryz.func149, Tryz.ntmps149
  go_wp2_with fail
  have hc0 := HR.out.c0
  have hc1 := HR.out.c1
  have hc2 := HR.out.c2
  have hsz := HB.out.size
  clear HR
  generalize w.alloc (.cells #[.bool neg, .slice A la ca, .slice B lb cb] 31) = W at *
  refine (implNatOK_any A la ca xs _ W HX.out hla).mono ?_
  rintro e w1 ⟨rfl, rfl⟩
  by_cases h1 : okL xs = true
  · rw [h1]
    go_wp2_with fail
    refine (implNatOK_any B lb cb ys _ W HY.out hlb).mono ?_
    rintro e w1 ⟨rfl, rfl⟩
    by_cases h2 : okL ys = true
    · rw [h2]
      have H1 := Lib.hid h1
      have H2 := Lib.hid h2
      obtain ⟨m, hm, rfl⟩ := okL_out h1
      obtain ⟨n, hn, rfl⟩ := okL_out h2
      have HM := Lib.hid hm
      have HN := Lib.hid hn
      clear h1 h2 hm hn
      have hla' : la ≤ 40 := by rw [← HXL.out]; exact (D_len_le m 40).2 HM.out
      have hlb' : lb ≤ 40 := by rw [← HYL.out]; exact (D_len_le n 40).2 HN.out
      by_cases hn0 : lb = 0
      · have HF : Hid (okR neg (D m) (D n) = false) := by
          show _ = _
          have : D n = [] := List.eq_nil_of_length_eq_zero (by rw [HYL.out]; exact hn0)
          rw [this]; exact okR_empty
        have hz : ((lb : Int) == 0) = true := by simp [hn0]
        clear hn0
        go_wp2
        go_ret
        rw [HF.out]
        exact ⟨rfl, HB.out⟩
      · have hz : ((lb : Int) == 0) = false := by simp; omega
        cases neg with
        | true =>
          by_cases hm0 : la = 0
          · have HF : Hid (okR true (D m) (D n) = false) := by
              show _ = _
              have : D m = [] := List.eq_nil_of_length_eq_zero (by rw [HXL.out]; exact hm0)
              rw [this]; exact okR_zero
            have hz2 : ((la : Int) == 0) = true := by simp [hm0]
            clear hm0
            go_wp2
            go_ret
            rw [HF.out]
            exact ⟨rfl, HB.out⟩
          · have hz2 : ((la : Int) == 0) = false := by simp; omega
            go_wp2_with fail
            refine (commonLimbs_any A B la ca lb cb m n _ _ W HX.out HY.out (by omega) (by omega)).mono ?_
            rintro e w2 hnew
            obtain ⟨A1, c1, rfl, hm1, hb1⟩ := new_of hnew
            have HM1 := Lib.hid hm1
            have HB1 := Lib.hid (HB.out.trans (hb1.mono hsz))
            have hg : (D (Nat.gcd m n)).length ≤ 9000 := by have := (D_len_le _ 40).2 (gcd_lt_top HM.out HN.out); omega
            have hs1 := hb1.size
            clear hnew hm1 hb1
            go_wp2_with fail
            refine (isOne_any A1 _ c1 (Nat.gcd m n) _ w2 HM1.out hg).mono ?_
            rintro e w3 ⟨rfl, hb3⟩
            have HB3 := Lib.hid (HB1.out.trans (hb3.mono (by omega)))
            clear hb3
            go_wp2
            go_ret
            refine ⟨?_, HB3.out⟩
            have e : okR true (D m) (D n) = decide (Nat.gcd m n = 1) := okR_rest H1.out H2.out (fun e => hn0 (by rw [← HYL.out, e]; rfl)) (.inr fun e => hm0 (by rw [← HXL.out, e]; rfl))
            rw [e]
            rfl
        | false =>
          go_wp2_with fail
          refine (commonLimbs_any A B la ca lb cb m n _ _ W HX.out HY.out (by omega) (by omega)).mono ?_
          rintro e w2 hnew
          obtain ⟨A1, c1, rfl, hm1, hb1⟩ := new_of hnew
          have HM1 := Lib.hid hm1
          have HB1 := Lib.hid (HB.out.trans (hb1.mono hsz))
          have hg : (D (Nat.gcd m n)).length ≤ 9000 := by have := (D_len_le _ 40).2 (gcd_lt_top HM.out HN.out); omega
          have hs1 := hb1.size
          clear hnew hm1 hb1
          go_wp2_with fail
          refine (isOne_any A1 _ c1 (Nat.gcd m n) _ w2 HM1.out hg).mono ?_
          rintro e w3 ⟨rfl, hb3⟩
          have HB3 := Lib.hid (HB1.out.trans (hb3.mono (by omega)))
          clear hb3
          go_wp2
          go_ret
          refine ⟨?_, HB3.out⟩
          have e : okR false (D m) (D n) = decide (Nat.gcd m n = 1) := okR_rest H1.out H2.out (fun e => hn0 (by rw [← HYL.out, e]; rfl)) (.inl rfl)
          rw [e]
          rfl
    · have h2' : okL ys = false := by simpa using h2
      rw [h2']
      have HF := Lib.hid (okR_den (neg := neg) (xs := xs) h2')
      clear h2 h2'
      go_wp2
      go_ret
      rw [HF.out]
      exact ⟨rfl, HB.out⟩
  · have h1' : okL xs = false := by simpa using h1
    rw [h1']
    have HF := Lib.hid (okR_num (neg := neg) (ys := ys) h1')
    clear h1 h1'
    go_wp2
    go_ret
    rw [HF.out]
    exact ⟨rfl, HB.out⟩

set_option maxHeartbeats 1600000 in
theorem specRatOK_any (neg : Bool) (A B : Option Addr) (la ca lb cb : Nat) (xs ys : List Int) (P Q : Nat → Prop) (w : World) (hx0 : Rd w P A la ca xs) (hy0 : Rd w Q B lb cb ys) (hla : la ≤ 16777216) (hlb : lb ≤ 16777216) :
    Calls Tryz.prog 112 #[.agg #[.bool neg, .slice A la ca, .slice B lb cb]] w fun e w' => e = .returned (.bool (okR neg xs ys)) ∧ Below w.heap.size w w' := by
  have HXL := Lib.hid hx0.len
  have HYL := Lib.hid hy0.len
  have hb : Below w.heap.size w (w.alloc (.cells #[.bool neg, .slice A la ca, .slice B lb cb] 31)) := (Below.refl _ _).alloc (Nat.le_refl _) _
  have HX := Lib.hid ((hx0.mono (Q := (· < w.heap.size)) fun _ _ h => h).below hb)
  have HY := Lib.hid ((hy0.mono (Q := (· < w.heap.size)) fun _ _ h => h).below hb)
  have HB := Lib.hid hb
  have HR := Lib.hid (RatAt.new w 31 neg A B la ca lb cb)
  clear hx0 hy0 hb
  go_enter Tryz.func112, Tryz.ntmps112
  go_wp2_with fail
  have hc0 := HR.out.c0
  have hc1 := HR.out.c1
  have hc2 := HR.out.c2
  have hsz := HB.out.size
  clear HR
  generalize w.alloc (.cells #[.bool neg, .slice A la ca, .slice B lb cb] 31) = W at *
  refine (specNatOK_any A la ca xs _ W HX.out hla).mono ?_
  rintro e w1 ⟨rfl, rfl⟩
  by_cases h1 : okL xs = true
  · rw [h1]
    go_wp2_with fail
    refine (specNatOK_any B lb cb ys _ W HY.out hlb).mono ?_
    rintro e w1 ⟨rfl, rfl⟩
    by_cases h2 : okL ys = true
    · rw [h2]
      have H1 := Lib.hid h1
      have H2 := Lib.hid h2
      obtain ⟨m, hm, rfl⟩ := okL_out h1
      obtain ⟨n, hn, rfl⟩ := okL_out h2
      have HM := Lib.hid hm
      have HN := Lib.hid hn
      clear h1 h2 hm hn
      have hla' : la ≤ 40 := by rw [← HXL.out]; exact (D_len_le m 40).2 HM.out
      have hlb' : lb ≤ 40 := by rw [← HYL.out]; exact (D_len_le n 40).2 HN.out
      by_cases hn0 : lb = 0
      · have HF : Hid (okR neg (D m) (D n) = false) := by
          show _ = _
          have : D n = [] := List.eq_nil_of_length_eq_zero (by rw [HYL.out]; exact hn0)
          rw [this]; exact okR_empty
        have hz : ((lb : Int) == 0) = true := by simp [hn0]
        clear hn0
        go_wp2
        go_ret
        rw [HF.out]
        exact ⟨rfl, HB.out⟩
      · have hz : ((lb : Int) == 0) = false := by simp; omega
        by_cases hneg : neg = true ∧ la = 0
        · obtain ⟨rfl, hm0⟩ := hneg
          have HF : Hid (okR true (D m) (D n) = false) := by
            show _ = _
            have : D m = [] := List.eq_nil_of_length_eq_zero (by rw [HXL.out]; exact hm0)
            rw [this]; exact okR_zero
          have hz2 : ((la : Int) == 0) = true := by simp [hm0]
          clear hm0
          go_wp2
          go_ret
          rw [HF.out]
          exact ⟨rfl, HB.out⟩
        · have hgo : neg = false ∨ ((la : Int) == 0) = false := by
            cases neg
            · exact .inl rfl
            · right
              have : la ≠ 0 := fun e => hneg ⟨rfl, e⟩
              simp; omega
          have HE : Hid (okR neg (D m) (D n) = decide (Nat.gcd m n = 1)) := okR_rest H1.out H2.out (fun e => hn0 (by rw [← HYL.out, e]; rfl)) (by
            rcases hgo with h | h
            · exact .inl h
            · right
              intro e
              rw [beq_eq_false_iff_ne] at h
              exact h (by rw [← HXL.out, e]; rfl))
          have hg : (D (Nat.gcd m n)).length ≤ 9000 := by have := (D_len_le _ 40).2 (gcd_lt_top HM.out HN.out); omega
          by_cases hm0 : la = 0
          · have hz2 : ((la : Int) == 0) = true := by simp [hm0]
            have hnf : neg = false := by
              cases neg
              · rfl
              · exact absurd ⟨rfl, hm0⟩ hneg
            subst hnf
            clear hm0 hneg hgo
            go_wp2_with fail
            refine (l01Gcd_any A B la ca lb cb m n _ _ W HX.out HY.out (by omega) (by omega)).mono ?_
            rintro e w2 hnew
            obtain ⟨A1, c1, rfl, hm1, hb1⟩ := new_of hnew
            have HM1 := Lib.hid (hm1.on ((Below.refl _ _).alloc (Nat.le_refl _) (.cells #[.int .i64 1] 3)))
            have HB1 := Lib.hid ((HB.out.trans (hb1.mono hsz)).alloc (by have := hb1.size; omega) (.cells #[.int .i64 1] 3))
            have HO1 := Lib.hid (Nm.lit w2 3)
            have hs1 := hb1.size
            clear hnew hm1 hb1
            go_wp2_with fail
            refine (l01Cmp_any A1 _ _ c1 1 1 (Nat.gcd m n) 1 _ _ _ HM1.out HO1.out (by omega) (by omega)).mono ?_
            rintro e w3 ⟨rfl, hd3⟩
            have HB3 := Lib.hid (HB1.out.trans (hd3.below _))
            clear hd3
            by_cases hone : Nat.gcd m n = 1
            · have HT : Hid (okR false (D m) (D n) = true) := by show _ = _; rw [HE.out]; exact decide_eq_true hone
              have hcm : cmpI (Nat.gcd m n) 1 = 0 := by rw [hone]; rfl
              rw [hcm]
              clear hone hcm
              go_wp2
              go_ret
              rw [HT.out]
              exact ⟨rfl, HB3.out⟩
            · have HT : Hid (okR false (D m) (D n) = false) := by show _ = _; rw [HE.out]; exact decide_eq_false hone
              have hcm : (cmpI (Nat.gcd m n) 1 == 0) = false := by rw [beq_eq_false_iff_ne]; exact cmpI_ne hone
              generalize cmpI (Nat.gcd m n) 1 = cc at *
              go_wp2
              go_ret
              rw [HT.out]
              exact ⟨rfl, HB3.out⟩
          · have hz2 : ((la : Int) == 0) = false := by simp; omega
            clear hm0 hneg hgo
            go_wp2_with fail
            refine (l01Gcd_any A B la ca lb cb m n _ _ W HX.out HY.out (by omega) (by omega)).mono ?_
            rintro e w2 hnew
            obtain ⟨A1, c1, rfl, hm1, hb1⟩ := new_of hnew
            have HM1 := Lib.hid (hm1.on ((Below.refl _ _).alloc (Nat.le_refl _) (.cells #[.int .i64 1] 3)))
            have HB1 := Lib.hid ((HB.out.trans (hb1.mono hsz)).alloc (by have := hb1.size; omega) (.cells #[.int .i64 1] 3))
            have HO1 := Lib.hid (Nm.lit w2 3)
            have hs1 := hb1.size
            clear hnew hm1 hb1
            go_wp2_with fail
            refine (l01Cmp_any A1 _ _ c1 1 1 (Nat.gcd m n) 1 _ _ _ HM1.out HO1.out (by omega) (by omega)).mono ?_
            rintro e w3 ⟨rfl, hd3⟩
            have HB3 := Lib.hid (HB1.out.trans (hd3.below _))
            clear hd3
            by_cases hone : Nat.gcd m n = 1
            · have HT : Hid (okR neg (D m) (D n) = true) := by show _ = _; rw [HE.out]; exact decide_eq_true hone
              have hcm : cmpI (Nat.gcd m n) 1 = 0 := by rw [hone]; rfl
              rw [hcm]
              clear hone hcm
              go_wp2
              go_ret
              rw [HT.out]
              exact ⟨rfl, HB3.out⟩
            · have HT : Hid (okR neg (D m) (D n) = false) := by show _ = _; rw [HE.out]; exact decide_eq_false hone
              have hcm : (cmpI (Nat.gcd m n) 1 == 0) = false := by rw [beq_eq_false_iff_ne]; exact cmpI_ne hone
              generalize cmpI (Nat.gcd m n) 1 = cc at *
              go_wp2
              go_ret
              rw [HT.out]
              exact ⟨rfl, HB3.out⟩
    · have h2' : okL ys = false := by simpa using h2
      rw [h2']
      have HF := Lib.hid (okR_den (neg := neg) (xs := xs) h2')
      clear h2 h2'
      go_wp2
      go_ret
      rw [HF.out]
      exact ⟨rfl, HB.out⟩
  · have h1' : okL xs = false := by simpa using h1
    rw [h1']
    have HF := Lib.hid (okR_num (neg := neg) (ys := ys) h1')
    clear h1 h1'
    go_wp2
    go_ret
    rw [HF.out]
    exact ⟨rfl, HB.out⟩
end Go.Proofs.YtifepoefeamboaaGreatDoor
namespace Nt
open Go Go.RowKit
theorem below_on {a w w' : World} (h : Below a.heap.size a w) (hb : Below w.heap.size w w') : Below a.heap.size a w' := h.trans (hb.mono h.size)
/-- two rows of the call's own that share no block -/
def OwnR (t : TypeId) (w : World) (base : Nat) (xs ys : List Int) (A : Option Addr) (ca : Nat) (B : Option Addr) (cb : Nat) : Prop :=
  w.ownsRow base t 1 (.slice A xs.length ca) xs.length (xs.map (Value.int .i64)) ∧ w.ownsRow base t 1 (.slice B ys.length cb) ys.length (ys.map (Value.int .i64)) ∧
  ∀ g h, A = some ⟨g, 0, none⟩ → B = some ⟨h, 0, none⟩ → g ≠ h
/-- two slices that read as xs and ys -/
def RdR (w : World) (P : Nat → Prop) (xs ys : List Int) (A : Option Addr) (ca : Nat) (B : Option Addr) (cb : Nat) : Prop :=
  Rd w P A xs.length ca xs ∧ Rd w P B ys.length cb ys
/-- a rational in memory of its own -/
def RetR (t : TypeId) (w : World) (neg : Bool) (xs ys : List Int) (e : Ending) (w' : World) : Prop :=
  ∃ A ca B cb, e = .returned (.agg #[.bool neg, .slice A xs.length ca, .slice B ys.length cb]) ∧ OwnR t w' w.heap.size xs ys A ca B cb ∧ Below w.heap.size w w'
/-- the same, and a code -/
def RetRC (t : TypeId) (w : World) (neg : Bool) (xs ys : List Int) (code : Int) (e : Ending) (w' : World) : Prop :=
  ∃ A ca B cb, e = .returned (.tuple #[.agg #[.bool neg, .slice A xs.length ca, .slice B ys.length cb], .int .i64 code]) ∧ OwnR t w' w.heap.size xs ys A ca B cb ∧ Below w.heap.size w w'
variable {t : TypeId} {w w' : World} {base ca cb : Nat} {xs ys : List Int} {A B : Option Addr}
theorem OwnR.on (h : OwnR t w base xs ys A ca B cb) (hb : Below w.heap.size w w') : OwnR t w' base xs ys A ca B cb := ⟨own_keep h.1 hb, own_keep h.2.1 hb, h.2.2⟩
theorem OwnR.rd (h : OwnR t w base xs ys A ca B cb) : RdR w (base ≤ ·) xs ys A ca B cb := ⟨own_rd' h.1, own_rd' h.2.1⟩
theorem OwnR.rdt (h : OwnR t w base xs ys A ca B cb) : RdR w (fun _ => True) xs ys A ca B cb := ⟨(own_rd' h.1).mono fun _ _ _ => trivial, (own_rd' h.2.1).mono fun _ _ _ => trivial⟩
theorem OwnR.mono {base' : Nat} (h : OwnR t w base xs ys A ca B cb) (hb : base' ≤ base) : OwnR t w base' xs ys A ca B cb := ⟨own_mono h.1 hb, own_mono h.2.1 hb, h.2.2⟩
theorem RdR.below {N : Nat} (h : RdR w (· < N) xs ys A ca B cb) (hb : Below N w w') : RdR w' (· < N) xs ys A ca B cb := ⟨h.1.below hb, h.2.below hb⟩
theorem RdR.on {P : Nat → Prop} (h : RdR w P xs ys A ca B cb) (hb : Below w.heap.size w w') : RdR w' P xs ys A ca B cb :=
  ⟨h.1.keep hb.size fun b _ hl => hb.block b hl, h.2.keep hb.size fun b _ hl => hb.block b hl⟩
theorem RdR.mono {P Q : Nat → Prop} (h : RdR w P xs ys A ca B cb) (hpq : ∀ b, P b → b < w.heap.size → Q b) : RdR w Q xs ys A ca B cb := ⟨h.1.mono hpq, h.2.mono hpq⟩
theorem own_type {n c b : Nat} {v : List Value} {tr : TypeId} {cells : Array Value} (h : w.ownsRow base t 1 (.slice A n c) n v) (hne : t ≠ tr) (hr : w.heap[b]? = some (.cells cells tr (0, 0))) : A ≠ some ⟨b, 0, none⟩ := by
  intro e
  subst e
  rcases h.2 with ⟨e1, _⟩ | ⟨g, cap, cur, e1, _, hh, _⟩
  · cases e1
  · injection e1 with e1
    injection e1 with e1
    injection e1 with e1
    subst e1
    rw [hr] at hh
    injection hh with hh
    injection hh with _ hh
    exact hne hh.symm
theorem OwnR.lt (h : OwnR t w base xs ys A ca B cb) : ∀ g, A = some ⟨g, 0, none⟩ ∨ B = some ⟨g, 0, none⟩ → g < w.heap.size := by
  rintro g (e | e)
  · exact (own_block h.1 e).2
  · exact (own_block h.2.1 e).2
theorem OwnR.ge (h : OwnR t w base xs ys A ca B cb) : ∀ g, A = some ⟨g, 0, none⟩ ∨ B = some ⟨g, 0, none⟩ → base ≤ g := by
  rintro g (e | e)
  · exact (own_block h.1 e).1
  · exact (own_block h.2.1 e).1
end Nt
namespace Go.Proofs.YtifepoefeamboaaGreatDoor
open Go Go.RowKit Nt

end Go.Proofs.YtifepoefeamboaaGreatDoor
namespace Nt
open Go Go.RowKit
/-- rationals as they lie in a call's list -/
structure RV where
  neg : Bool
  A : Option Addr
  la : Nat
  ca : Nat
  B : Option Addr
  lb : Nat
  cb : Nat
  xs : List Int
  ys : List Int
def RV.ok (r : RV) : Bool := okR r.neg r.xs r.ys
def RV.rd (r : RV) (w : World) (P : Nat → Prop) : Prop := Rd w P r.A r.la r.ca r.xs ∧ Rd w P r.B r.lb r.cb r.ys
def RV.v (r : RV) : Value := .agg #[.bool r.neg, .slice r.A r.la r.ca, .slice r.B r.lb r.cb]
theorem RV.rd.below {r : RV} {w w' : World} {N : Nat} (h : r.rd w (· < N)) (hb : Below N w w') : r.rd w' (· < N) := ⟨h.1.below hb, h.2.below hb⟩
end Nt
namespace Go.Proofs.YtifepoefeamboaaGreatDoor
open Go Go.RowKit Nt

end Go.Proofs.YtifepoefeamboaaGreatDoor
namespace Go.Proofs.YtifepoefeamboaaGreatDoor
open Go Go.RowKit Nt

set_option maxRecDepth 20000 in
set_option maxHeartbeats 800000 in
theorem apart_any (neg : Bool) (A B : Option Addr) (ca cb : Nat) (xs ys : List Int) (P : Nat → Prop) (w : World) (h0 : RdR w P xs ys A ca B cb) (hx : xs.length ≤ 16777216) (hy : ys.length ≤ 16777216) :
    Calls Tryz.prog 45 #[.agg #[.bool neg, .slice A xs.length ca, .slice B ys.length cb]] w (RetR 3 w neg xs ys) := by
  have H := Lib.hid (h0.mono (Q := (· < w.heap.size)) fun _ _ h => h)
  clear h0
  go_enter Tryz.func45, Tryz.ntmps45
  go_upto_region 1 with fail
  have HB0 : Hid (Below w.heap.size w ((w.alloc (.cells #[.bool neg, .slice A xs.length ca, .slice B ys.length cb] 31)).alloc (.cells #[.bool false, .slice none 0 0, .slice none 0 0] 31))) := below2 _ _ _
  have HR0 : Hid (RatAt ((w.alloc (.cells #[.bool neg, .slice A xs.length ca, .slice B ys.length cb] 31)).alloc (.cells #[.bool false, .slice none 0 0, .slice none 0 0] 31)) w.heap.size 31 neg A xs.length ca B ys.length cb) := (RatAt.new _ _ _ _ _ _ _ _ _).alloc _
  have HR1 : Hid (RatAt ((w.alloc (.cells #[.bool neg, .slice A xs.length ca, .slice B ys.length cb] 31)).alloc (.cells #[.bool false, .slice none 0 0, .slice none 0 0] 31)) (w.heap.size + 1) 31 false none 0 0 none 0 0) := RatAt.new1 _ _ _ _ _ _ _ _ _ _
  generalize (w.alloc (.cells #[.bool neg, .slice A xs.length ca, .slice B ys.length cb] 31)).alloc (.cells #[.bool false, .slice none 0 0, .slice none 0 0] 31) = W at *
  have hs := HR1.out.lt
  have HRX := Lib.hid (H.out.below HB0.out)
  go_region_held3 (fun wx => wx.cell? ⟨w.heap.size, 0, none⟩ = some (.bool neg) ∧ wx.cell? ⟨w.heap.size, 1, none⟩ = some (.slice A xs.length ca) ∧ wx.cell? ⟨w.heap.size, 2, none⟩ = some (.slice B ys.length cb))
    (first | exact ⟨HR0.out.c0, HR0.out.c1, HR0.out.c2⟩ | exact ⟨HQ0.out.c0, HQ0.out.c1, HQ0.out.c2⟩ | exact ⟨HS0.out.c0, HS0.out.c1, HS0.out.c2⟩ | exact ⟨(HS0.out.grown (setAll_grown _ _ _ _ _) (by omega)).c0, (HS0.out.grown (setAll_grown _ _ _ _ _) (by omega)).c1, (HS0.out.grown (setAll_grown _ _ _ _ _) (by omega)).c2⟩)
    (first
      | (go_at_call 77; refine (fresh_any A _ ca xs (· < w.heap.size) _ (by exact HRX.out.1) hx).mono ?_; rintro e w1 ⟨A1, c1, rfl, o1, b1⟩; have b1 := undrew b1; have HO1 : Hid (w1.ownsRow W.heap.size 3 1 (.slice A1 xs.length c1) xs.length (xs.map (Value.int .i64))) := o1; have HQ0 := Lib.hid (HR0.out.on b1); have HQ1 := Lib.hid (HR1.out.on b1); have HB1 := Lib.hid (below_on HB0.out b1); have HS1 := Lib.hid b1.size; clear o1 b1)
      | (go_at_call 77; refine (fresh_any B _ cb ys (· < w.heap.size) _ (by exact (H.out.below HB1.out).2) hy).mono ?_; rintro e w2 ⟨A2, c2, rfl, o2, b2⟩; have HO2 := Lib.hid o2; have HO1' := Lib.hid (own_keep HO1.out b2); have HS0 := Lib.hid (HQ0.out.on b2); have HT1 := Lib.hid (HQ1.out.on b2); have HB2 := Lib.hid (below_on HB1.out b2); have f0 := HT1.out.fz 0; have f1 := HT1.out.fz 1; have f2 := HT1.out.fz 2; have y0 := HT1.out.c0; have y1 := HT1.out.c1; have y2 := HT1.out.c2; clear o2 b2))
  go_wp2
  have g2 := setAll_grown w2 (w.heap.size + 1) (.bool neg) (.slice A1 xs.length c1) (.slice A2 ys.length c2)
  refine bodyPost_ret (retR rfl _ _ _ rfl (HT1.out.setAll _ _ _ _ _ _ _)) rfl ?_
  have s1 := HS1.out
  exact ⟨_, _, _, _, rfl, ⟨own_mono (own_gone HO1'.out g2 (fun k hk => by have := own_block HO1'.out hk; omega)) (by omega), own_mono (own_gone HO2.out g2 (fun k hk => by have := own_block HO2.out hk; omega)) (by omega), fun g h e1 e2 => by have := own_block HO1.out e1; have := own_block HO2.out e2; omega⟩, below_grow HB2.out (by omega) g2⟩

end Go.Proofs.YtifepoefeamboaaGreatDoor
namespace Nt
open Go Go.RowKit
theorem neg_parts (r : Rat) : nu (-r) = nu r ∧ (-r).den = r.den ∧ isNeg (-r) = (!isNeg r && decide (0 < (D (nu r)).length)) := by
  refine ⟨by unfold nu; rw [Rat.neg_num]; omega, Rat.neg_den r, ?_⟩
  have e : decide (0 < (D (nu r)).length) = decide (0 < nu r) := by
    rcases Nat.eq_zero_or_pos (nu r) with h | h
    · rw [h]; rfl
    · rw [decide_eq_true h, decide_eq_true (D_len_pos h)]
  rw [e]
  unfold isNeg nu
  rw [Rat.neg_num, Bool.eq_iff_iff]
  simp only [decide_eq_true_eq, Bool.and_eq_true, Bool.not_eq_true', decide_eq_false_iff_not]
  omega
end Nt
namespace Go.Proofs.YtifepoefeamboaaGreatDoor
open Go Go.RowKit Nt






end Go.Proofs.YtifepoefeamboaaGreatDoor
namespace Nt
open Go Go.RowKit
/-- below N nothing has turned, and no block with cells has -/
def Grew (N : Nat) (w w' : World) : Prop :=
  Below N w w' ∧ ∀ k, k < w.heap.size → w'.heap[k]? = w.heap[k]? ∨ ∃ t, w.heap[k]? = some (.cells #[] t (0, 0))
theorem Grew.refl (N : Nat) (w : World) : Grew N w w := ⟨Below.refl _ _, fun _ _ => .inl rfl⟩
theorem Grew.trans {N : Nat} {u v w : World} (h : Grew N u v) (k : Grew N v w) : Grew N u w := by
  refine ⟨h.1.trans k.1, fun i hi => ?_⟩
  rcases h.2 i hi with e | e
  · rcases k.2 i (Nat.lt_of_lt_of_le hi h.1.size) with e2 | ⟨t, e2⟩
    · exact .inl (e2.trans e)
    · exact .inr ⟨t, e.symm.trans e2⟩
  · exact .inr e
theorem Grew.alloc {N : Nat} {u w : World} (h : Grew N u w) (hN : N ≤ u.heap.size) (o : Obj) : Grew N u (w.alloc o) :=
  h.trans ⟨(Below.refl N w).alloc (Nat.le_trans hN h.1.size) o, fun _ hk => .inl (Below.heap_alloc _ _ _ hk)⟩
theorem Grew.drew {N : Nat} (w : World) : Grew N w w.drew := ⟨below_drewN (Below.refl N w) 1, fun _ _ => .inl rfl⟩
theorem Rd.grew {N : Nat} {w w' : World} {P : Nat → Prop} {A : Option Addr} {n c : Nat} {xs : List Int} (h : Rd w P A n c xs) (hg : Grew N w w') : Rd w' P A n c xs := by
  refine ⟨h.1, h.2.1, h.2.2.1, fun hn => ?_⟩
  obtain ⟨b, o, e, hp, hlt, hc⟩ := h.2.2.2 hn
  have hb : w'.heap[b]? = w.heap[b]? := by
    rcases hg.2 b hlt with e | ⟨t, e⟩
    · exact e
    · have h0 := hc 0 hn
      rw [cell_of_row w b _ _ t (0, 0) e] at h0
      simp at h0
  exact ⟨b, o, e, hp, Nat.lt_of_lt_of_le hlt hg.1.size, fun i hi => (World.cell?_of_block (a := ⟨b, o + i, none⟩) hb).trans (hc i hi)⟩
theorem RatAt.grew {N : Nat} {w w' : World} {b : Nat} {t : TypeId} {neg : Bool} {A B : Option Addr} {la ca lb cb : Nat} (h : RatAt w b t neg A la ca B lb cb) (hg : Grew N w w') : RatAt w' b t neg A la ca B lb cb := by
  rcases hg.2 b h.lt with e | ⟨t', e⟩
  · exact e.trans h
  · unfold RatAt at h
    rw [h] at e
    injection e with e
    injection e with e
    injection e with e
    cases e
/-- append of numbers onto an empty literal, as one step of a region that draws -/
theorem step_append_lit {P : Program} {ops : Array Oper} {o : Oper} {a : Act} {w : World} {K : Act → World → Prop} {Q : Exit → Act → World → Prop} {E : Prop} (N : Nat)
    (hg : o.guard = none) (s x : Operand) (t : TypeId) (hop : o.op = .call { callee := .builtin .append, args := #[s, x], argTypes := #[t, t] })
    (e : TypeId) (ht : P.underlying t = some (.slice e)) (hinfo : (P.info? e).map (fun i => (i.zero, i.size, i.bytes)) = some (some (.int .i64 0), 1, 8))
    (g : Nat) (hs : a.eval s = .slice (some ⟨g, 0, none⟩) 0 0) (hgN : N ≤ g) (hempty : w.heap[g]? = some (.cells #[] e (0, 0)))
    (R : Nat → Prop) (A : Option Addr) (m c : Nat) (ys : List Int) (hx : a.eval x = .slice A m c) (hr : Rd w R A m c ys) (hm : m ≤ 16777216) (hNw : N ≤ w.heap.size)
    (h : ∀ V' c' w', Rd w' (fun _ => True) V' m c' ys → Grew N w w' → w.grownBy w' (some g) → K (a.put o.dst (.slice V' m c')) w') :
    if Region.wanted o (yielded ops a.tmps) = true then Oper.wp P o a w K Q else E := by
  have hw : Region.wanted o (yielded ops a.tmps) = true := by simp [Region.wanted, hg]
  rw [if_pos hw]
  obtain ⟨i, h1, h2, h3, h4⟩ := info_parts hinfo
  have hown : w.ownsRow N e 1 (.slice (some ⟨g, 0, none⟩) 0 0) 0 ((([] : List Int)).map (Value.int .i64)) := ⟨rfl, .inr ⟨g, 0, #[], rfl, hgN, hempty, Nat.le_refl _, Nat.zero_le _, rfl, rfl⟩⟩
  cases A with
  | none =>
    have hc0 := hr.2.2.1 rfl
    have hm0 : m = 0 := by have := hr.cap; omega
    subst hc0 hm0
    have hrun := run_append_owned_none (P := P) (w := w) N t o.type e i 1 ht h1 _ 0 _ hown
    unfold Oper.wp
    simp [execOp, hop, resolve, invoke, builtin, hs, hx, hrun, Result.andThen]
    have hy : ys = [] := List.eq_nil_of_length_eq_zero hr.len
    subst hy
    exact h _ _ _ (Rd.nil_ _ _ _ _ (fun h => by cases h)) (Grew.refl _ _) (World.grownBy.refl _ _)
  | some ad =>
    refine wp_append_own w s x t hop N e i _ 1 8 ht h1 h2 h3 h4 rfl (by decide) _ 0 _ hs hown ad m c (ys.map (Value.int .i64)) hx (by simpa using hr.len) ?_ (ints_oneCell _ _) (by unfold maxLen; omega) (by omega) hNw ?_
    · intro j u hj
      rw [List.getElem?_map] at hj
      have hlt : j < ys.length := by
        rcases Nat.lt_or_ge j ys.length with h | h
        · exact h
        · rw [List.getElem?_eq_none h] at hj; cases hj
      obtain ⟨b, o', e', _, _, hc⟩ := hr.at_ (by have := hr.len; omega)
      injection e' with e'
      subst e'
      have := hc j (by have := hr.len; omega)
      rw [List.getElem?_eq_getElem hlt] at hj
      simp only [Option.map_some, Option.some.injEq] at hj
      rw [← hj]
      have e2 : ys.getD j 0 = ys[j] := by simp [List.getD, hlt]
      rw [e2] at this
      rw [← this]
      unfold Addr.add
      by_cases hj0 : j = 0 <;> simp [hj0]
    · intro v' w' h5 h6 _
      rw [← List.map_append, List.nil_append, Nat.zero_add] at h5
      obtain ⟨A', c', rfl, hrd⟩ := own_rd h5
      have h6' : w.grownBy w' (some g) := h6
      refine h A' c' w' (hrd.mono fun _ _ _ => trivial) ⟨grown_below h6' hNw hgN, fun k hk => ?_⟩ h6'
      by_cases hkg : k = g
      · subst hkg; exact .inr ⟨e, hempty⟩
      · exact .inl (h6'.block k hk (fun e => hkg (by injection e)))
theorem Rd.past {w w' : World} {P : Nat → Prop} {A : Option Addr} {n c : Nat} {xs : List Int} {r : Nat} {t : TypeId} {neg : Bool} {A' B' : Option Addr} {la ca lb cb : Nat} (h : Rd w P A n c xs) (hr : RatAt w r t neg A' la ca B' lb cb) (hg : w.grownBy w' (some r)) : Rd w' P A n c xs := by
  refine ⟨h.1, h.2.1, h.2.2.1, fun hn => ?_⟩
  obtain ⟨b, o, e, hp, hlt, hc⟩ := h.2.2.2 hn
  have hne : b ≠ r := by
    intro e2
    subst e2
    have h0 := hc 0 hn
    rw [cell_of_row w b _ _ t (0, 0) hr] at h0
    match o, h0 with
    | 0, h0 => simp at h0
    | 1, h0 => simp at h0
    | 2, h0 => simp at h0
    | (k + 3), h0 => simp at h0
  exact ⟨b, o, e, hp, Nat.lt_of_lt_of_le hlt hg.size, fun i hi => (World.cell?_of_block (a := ⟨b, o + i, none⟩) (hg.block b hlt (fun e => hne (by injection e)))).trans (hc i hi)⟩
theorem two_empty (W : World) (t : TypeId) (k : Nat) (hk : k = W.heap.size ∨ k = W.heap.size + 1) : ((W.drew.alloc (.cells #[] t)).alloc (.cells #[] t)).heap[k]? = some (.cells #[] t (0, 0)) := by
  rcases hk with rfl | rfl
  · exact heap_alloc2_old W.drew _ _
  · exact heap_alloc2_new W.drew _ _
theorem two_kept {W w1 : World} {t : TypeId} {g : Nat} (hg : ((W.drew.alloc (.cells #[] t)).alloc (.cells #[] t)).grownBy w1 (some g)) (k : Nat) (hk : k = W.heap.size ∨ k = W.heap.size + 1) (hne : k ≠ g) : w1.heap[k]? = some (.cells #[] t (0, 0)) := by
  have hs : ((W.drew.alloc (.cells #[] t)).alloc (.cells #[] t)).heap.size = W.heap.size + 1 + 1 := by
    rw [World.size_alloc, World.size_alloc]; rfl
  exact (hg.block k (by omega) (fun e => hne (by injection e))).trans (two_empty W t k hk)
theorem grew1 (W : World) (N : Nat) (hN : N ≤ W.heap.size) (o : Obj) : Grew N W (W.drew.alloc o) := (Grew.drew W).alloc hN o
theorem grew2 (W : World) (N : Nat) (hN : N ≤ W.heap.size) (o o' : Obj) : Grew N W ((W.drew.alloc o).alloc o') := (grew1 W N hN o).alloc hN o'
end Nt
namespace Go.Proofs.YtifepoefeamboaaGreatDoor
open Go Go.RowKit Nt
/-- a rational that can be read -/
def SayR (w : World) (neg : Bool) (xs ys : List Int) (e : Ending) (w' : World) : Prop :=
  ∃ A ca B cb, e = .returned (.agg #[.bool neg, .slice A xs.length ca, .slice B ys.length cb]) ∧ RdR w' (fun _ => True) xs ys A ca B cb ∧ Below w.heap.size w w'

set_option maxRecDepth 20000 in
set_option maxHeartbeats 1600000 in
theorem l02Own_any (neg : Bool) (A B : Option Addr) (ca cb : Nat) (xs ys : List Int) (P : Nat → Prop) (w : World) (h0 : RdR w P xs ys A ca B cb) (hx : xs.length ≤ 16777216) (hy : ys.length ≤ 16777216) :
    Calls Tryz.prog 62 #[.agg #[.bool neg, .slice A xs.length ca, .slice B ys.length cb]] w (SayR w neg xs ys) := by
  have H := Lib.hid (h0.mono (Q := (· < w.heap.size)) fun _ _ h => h)
  clear h0
  go_enter Tryz.func62, Tryz.ntmps62
  go_upto_region 1 with fail
  have HB0 : Hid (Below w.heap.size w ((w.alloc (.cells #[.bool neg, .slice A xs.length ca, .slice B ys.length cb] 31)).alloc (.cells #[.bool false, .slice none 0 0, .slice none 0 0] 31))) := below2 _ _ _
  have HR0 : Hid (RatAt ((w.alloc (.cells #[.bool neg, .slice A xs.length ca, .slice B ys.length cb] 31)).alloc (.cells #[.bool false, .slice none 0 0, .slice none 0 0] 31)) w.heap.size 31 neg A xs.length ca B ys.length cb) := (RatAt.new _ _ _ _ _ _ _ _ _).alloc _
  have HR1 : Hid (RatAt ((w.alloc (.cells #[.bool neg, .slice A xs.length ca, .slice B ys.length cb] 31)).alloc (.cells #[.bool false, .slice none 0 0, .slice none 0 0] 31)) (w.heap.size + 1) 31 false none 0 0 none 0 0) := RatAt.new1 _ _ _ _ _ _ _ _ _ _
  generalize (w.alloc (.cells #[.bool neg, .slice A xs.length ca, .slice B ys.length cb] 31)).alloc (.cells #[.bool false, .slice none 0 0, .slice none 0 0] 31) = W at *
  have hs := HR1.out.lt
  have HRX := Lib.hid (H.out.below HB0.out)
  go_region_held3 (fun wx => wx.cell? ⟨w.heap.size, 0, none⟩ = some (.bool neg) ∧ wx.cell? ⟨w.heap.size, 1, none⟩ = some (.slice A xs.length ca) ∧ wx.cell? ⟨w.heap.size, 2, none⟩ = some (.slice B ys.length cb))
    (first | exact ⟨(HR0.out).c0, (HR0.out).c1, (HR0.out).c2⟩ | exact ⟨(HR0.out.alloc (.cells #[] 3)).c0, (HR0.out.alloc (.cells #[] 3)).c1, (HR0.out.alloc (.cells #[] 3)).c2⟩ | exact ⟨((HR0.out.alloc (.cells #[] 3)).alloc (.cells #[] 3)).c0, ((HR0.out.alloc (.cells #[] 3)).alloc (.cells #[] 3)).c1, ((HR0.out.alloc (.cells #[] 3)).alloc (.cells #[] 3)).c2⟩ | exact ⟨(HQ0.out).c0, (HQ0.out).c1, (HQ0.out).c2⟩ | exact ⟨(HQ0.out.alloc (.cells #[] 3)).c0, (HQ0.out.alloc (.cells #[] 3)).c1, (HQ0.out.alloc (.cells #[] 3)).c2⟩ | exact ⟨(HS0.out).c0, (HS0.out).c1, (HS0.out).c2⟩ | exact ⟨(HS0.out.grown (setAll_grown _ _ _ _ _) (by omega)).c0, (HS0.out.grown (setAll_grown _ _ _ _ _) (by omega)).c1, (HS0.out.grown (setAll_grown _ _ _ _ _) (by omega)).c2⟩)
    (first
      | (refine step_append_lit W.heap.size rfl (.tmp 5) (.tmp 7) 29 rfl 3 Tryz.underlying29 infoInt _ rfl (by first | exact HG1.out.1.size | exact Nat.le_refl _ | exact Nat.le_succ _) (by first | exact heap_alloc_new w1 _ | exact two_kept HGR.out _ (.inl rfl) (by simp) | exact two_kept HGR.out _ (.inr rfl) (by simp)) (· < w.heap.size) A _ ca xs rfl (by first | exact HRX.out.1.grew HG1.out | exact HRX.out.1.grew (HG1.out.alloc (Nat.le_refl _) (.cells #[] 3))) hx (by first | exact HG1.out.1.size | exact (HG1.out.alloc (Nat.le_refl _) (.cells #[] 3)).1.size) ?_; intro V2 d2 w2 rr2 gg2 gr2; have HFX := Lib.hid rr2; have HG2 : Hid (Grew W.heap.size W w2) := (by first | exact HG1.out.trans gg2 | exact (HG1.out.alloc (Nat.le_refl _) (.cells #[] 3)).trans gg2); have HFO := (by first | exact Lib.hid (HFY.out.grew gg2) | exact Lib.hid ((HFY.out.grew ((Grew.refl W.heap.size w1).alloc HG1.out.1.size (.cells #[] 3))).grew gg2)); have HS0 := Lib.hid (HR0.out.grew HG2.out); have HT1 := Lib.hid (HR1.out.grew HG2.out); have f0 := HT1.out.fz 0; have f1 := HT1.out.fz 1; have f2 := HT1.out.fz 2; have y0 := HT1.out.c0; have y1 := HT1.out.c1; have y2 := HT1.out.c2; clear rr2 gg2 gr2)
      | (refine step_append_lit W.heap.size rfl (.tmp 9) (.tmp 11) 29 rfl 3 Tryz.underlying29 infoInt _ rfl (by first | exact HG1.out.1.size | exact Nat.le_refl _ | exact Nat.le_succ _) (by first | exact heap_alloc_new w1 _ | exact two_kept HGR.out _ (.inl rfl) (by simp) | exact two_kept HGR.out _ (.inr rfl) (by simp)) (· < w.heap.size) B _ cb ys rfl (by first | exact HRX.out.2.grew HG1.out | exact HRX.out.2.grew (HG1.out.alloc (Nat.le_refl _) (.cells #[] 3))) hy (by first | exact HG1.out.1.size | exact (HG1.out.alloc (Nat.le_refl _) (.cells #[] 3)).1.size) ?_; intro V2 d2 w2 rr2 gg2 gr2; have HFY := Lib.hid rr2; have HG2 : Hid (Grew W.heap.size W w2) := (by first | exact HG1.out.trans gg2 | exact (HG1.out.alloc (Nat.le_refl _) (.cells #[] 3)).trans gg2); have HFO := (by first | exact Lib.hid (HFX.out.grew gg2) | exact Lib.hid ((HFX.out.grew ((Grew.refl W.heap.size w1).alloc HG1.out.1.size (.cells #[] 3))).grew gg2)); have HS0 := Lib.hid (HR0.out.grew HG2.out); have HT1 := Lib.hid (HR1.out.grew HG2.out); have f0 := HT1.out.fz 0; have f1 := HT1.out.fz 1; have f2 := HT1.out.fz 2; have y0 := HT1.out.c0; have y1 := HT1.out.c1; have y2 := HT1.out.c2; clear rr2 gg2 gr2)
      | (refine step_append_lit W.heap.size rfl (.tmp 5) (.tmp 7) 29 rfl 3 Tryz.underlying29 infoInt _ rfl (by first | exact Nat.le_refl _ | exact Nat.le_succ _) (by first | exact heap_alloc_new W.drew _ | exact two_empty W _ _ (.inl rfl) | exact two_empty W _ _ (.inr rfl)) (· < w.heap.size) A _ ca xs rfl (by first | exact HRX.out.1.grew (grew1 W W.heap.size (Nat.le_refl _) (.cells #[] 3)) | exact HRX.out.1.grew (grew2 W W.heap.size (Nat.le_refl _) (.cells #[] 3) (.cells #[] 3))) hx (by first | exact (grew1 W W.heap.size (Nat.le_refl _) (.cells #[] 3)).1.size | exact (grew2 W W.heap.size (Nat.le_refl _) (.cells #[] 3) (.cells #[] 3)).1.size) ?_; intro V1 d1 w1 rr1 gg1 gr1; have HFX := Lib.hid rr1; have HGR := Lib.hid gr1; have HG1 : Hid (Grew W.heap.size W w1) := (by first | exact (grew1 W W.heap.size (Nat.le_refl _) (.cells #[] 3)).trans gg1 | exact (grew2 W W.heap.size (Nat.le_refl _) (.cells #[] 3) (.cells #[] 3)).trans gg1); have HQ0 := Lib.hid (HR0.out.grew HG1.out); clear rr1 gg1 gr1)
      | (refine step_append_lit W.heap.size rfl (.tmp 9) (.tmp 11) 29 rfl 3 Tryz.underlying29 infoInt _ rfl (by first | exact Nat.le_refl _ | exact Nat.le_succ _) (by first | exact heap_alloc_new W.drew _ | exact two_empty W _ _ (.inl rfl) | exact two_empty W _ _ (.inr rfl)) (· < w.heap.size) B _ cb ys rfl (by first | exact HRX.out.2.grew (grew1 W W.heap.size (Nat.le_refl _) (.cells #[] 3)) | exact HRX.out.2.grew (grew2 W W.heap.size (Nat.le_refl _) (.cells #[] 3) (.cells #[] 3))) hy (by first | exact (grew1 W W.heap.size (Nat.le_refl _) (.cells #[] 3)).1.size | exact (grew2 W W.heap.size (Nat.le_refl _) (.cells #[] 3) (.cells #[] 3)).1.size) ?_; intro V1 d1 w1 rr1 gg1 gr1; have HFY := Lib.hid rr1; have HGR := Lib.hid gr1; have HG1 : Hid (Grew W.heap.size W w1) := (by first | exact (grew1 W W.heap.size (Nat.le_refl _) (.cells #[] 3)).trans gg1 | exact (grew2 W W.heap.size (Nat.le_refl _) (.cells #[] 3) (.cells #[] 3)).trans gg1); have HQ0 := Lib.hid (HR0.out.grew HG1.out); clear rr1 gg1 gr1))
  all_goals
    go_wp2
    have g2 := setAll_grown w2 (w.heap.size + 1) (.bool neg)
    refine bodyPost_ret (retR rfl _ _ _ rfl (HT1.out.setAll _ _ _ _ _ _ _)) rfl ?_
    refine ⟨_, _, _, _, rfl, ⟨?_, ?_⟩, below_grow (HB0.out.trans (HG2.out.1.mono HB0.out.size)) (by omega) (g2 _ _)⟩
    · first | exact HFO.out.past HT1.out (g2 _ _) | exact HFX.out.past HT1.out (g2 _ _)
    · first | exact HFY.out.past HT1.out (g2 _ _) | exact HFO.out.past HT1.out (g2 _ _)
end Go.Proofs.YtifepoefeamboaaGreatDoor
namespace Nt
open Go Go.RowKit
/-- a rational that can be read, and a code -/
def SayRC' (w : World) (neg : Bool) (xs ys : List Int) (code : Int) (e : Ending) (w' : World) : Prop :=
  ∃ A ca B cb, e = .returned (.tuple #[.agg #[.bool neg, .slice A xs.length ca, .slice B ys.length cb], .int .i64 code]) ∧ RdR w' (fun _ => True) xs ys A ca B cb ∧ Below w.heap.size w w'
end Nt
namespace Go.Proofs.YtifepoefeamboaaGreatDoor
open Go Go.RowKit Nt

set_option maxHeartbeats 400000 in
theorem l02Neg_any (neg : Bool) (A B : Option Addr) (la ca lb cb : Nat) (w : World) (hla : la ≤ 16777216) :
    Calls Tryz.prog 119 #[.agg #[.bool neg, .slice A la ca, .slice B lb cb]] w fun e w' => e = .returned (.agg #[.bool (!neg && decide (0 < la)), .slice A la ca, .slice B lb cb]) ∧ Below w.heap.size w w' := by
  cases neg with
  | true =>
    go_enter Tryz.func119, Tryz.ntmps119
    go_wp2
    refine bodyPost_ret (retR rfl _ _ _ rfl (RatAt.new1 _ _ _ _ _ _ _ _ _ _)) rfl ⟨rfl, below2 _ _ _⟩
  | false =>
    by_cases hp : 0 < la
    · have HE : Hid ((!false && decide (0 < la)) = true) := Lib.hid (by simpa using hp)
      have hp' : (0 : Int) < la := by omega
      go_enter Tryz.func119, Tryz.ntmps119
      go_wp2
      refine bodyPost_ret (retR rfl _ _ _ rfl (RatAt.new1 _ _ _ _ _ _ _ _ _ _)) rfl ⟨by rw [HE.out], below2 _ _ _⟩
    · have HE : Hid ((!false && decide (0 < la)) = false) := Lib.hid (by simpa using hp)
      have hp' : decide ((0 : Int) < la) = false := decide_eq_false (by omega)
      go_enter Tryz.func119, Tryz.ntmps119
      go_wp2
      refine bodyPost_ret (retR rfl _ _ _ rfl (RatAt.new1 _ _ _ _ _ _ _ _ _ _)) rfl ⟨by rw [HE.out], below2 _ _ _⟩






end Go.Proofs.YtifepoefeamboaaGreatDoor
namespace Nt
open Go Go.RowKit
theorem D_len_up {m n : Nat} (h : m ≤ n) : (D m).length ≤ (D n).length :=
  (D_len_le m (D n).length).2 (Nat.lt_of_le_of_lt h ((D_len_le n (D n).length).1 (Nat.le_refl _)))
theorem D_len_mul (m n : Nat) : (D (m * n)).length ≤ (D m).length + (D n).length := by
  have h1 := (D_len_le m (D m).length).1 (Nat.le_refl _)
  have h2 := (D_len_le n (D n).length).1 (Nat.le_refl _)
  refine (D_len_le (m * n) _).2 ?_
  rw [Nat.pow_add]
  exact Nat.mul_lt_mul'' h1 h2
theorem D_len_add (m n : Nat) : (D (m + n)).length ≤ max (D m).length (D n).length + 1 := by
  have h1 := (D_len_le m (D m).length).1 (Nat.le_refl _)
  have h2 := (D_len_le n (D n).length).1 (Nat.le_refl _)
  have k1 : 10000 ^ (D m).length ≤ 10000 ^ (max (D m).length (D n).length) := Nat.pow_le_pow_right (by decide) (by omega)
  have k2 : 10000 ^ (D n).length ≤ 10000 ^ (max (D m).length (D n).length) := Nat.pow_le_pow_right (by decide) (by omega)
  refine (D_len_le (m + n) _).2 ?_
  rw [Nat.pow_succ]
  omega
theorem D_len_sub (m n : Nat) : (D (m - n)).length ≤ (D m).length := D_len_up (Nat.sub_le _ _)
theorem D_len_div (m n : Nat) : (D (m / n)).length ≤ (D m).length := D_len_up (Nat.div_le_self _ _)
theorem D_len_gcd (m : Nat) {n : Nat} (h : 0 < n) : (D (Nat.gcd m n)).length ≤ (D n).length := D_len_up (Nat.gcd_le_right m h)
theorem add_pos_den (a b : Rat) : 0 < a.den * b.den := Nat.mul_pos a.den_pos b.den_pos
theorem rat_len (p q : Nat) (neg : Bool) (h : 0 < q) : (D (nu (mkRat (sg neg p) q))).length ≤ (D p).length ∧ (D (mkRat (sg neg p) q).den).length ≤ (D q).length := by
  obtain ⟨e1, e2, _⟩ := mk_parts neg p q h
  rw [e1, e2]
  exact ⟨D_len_div _ _, D_len_div _ _⟩
theorem add_same {a b : Rat} (h : isNeg a = isNeg b) : a + b = mkRat (sg (isNeg a) (nu a * b.den + nu b * a.den)) (a.den * b.den) := by
  rw [add_make]; unfold sumNeg sumAbs; rw [if_pos h, if_pos h]
theorem add_ge {a b : Rat} (h : isNeg a ≠ isNeg b) (hle : nu b * a.den ≤ nu a * b.den) : a + b = mkRat (sg (isNeg a) (nu a * b.den - nu b * a.den)) (a.den * b.den) := by
  rw [add_make]; unfold sumNeg sumAbs; rw [if_neg h, if_neg h, if_pos hle, if_pos hle]
theorem add_lt {a b : Rat} (h : isNeg a ≠ isNeg b) (hlt : nu a * b.den < nu b * a.den) : a + b = mkRat (sg (isNeg b) (nu b * a.den - nu a * b.den)) (a.den * b.den) := by
  rw [add_make]; unfold sumNeg sumAbs; rw [if_neg h, if_neg h, if_neg (by omega), if_neg (by omega)]
end Nt
namespace Go.Proofs.YtifepoefeamboaaGreatDoor
open Go Go.RowKit Nt

set_option maxHeartbeats 800000 in
theorem l02Make_any (neg : Bool) (A B : Option Addr) (la ca lb cb p q : Nat) (P Q : Nat → Prop) (w : World) (hx0 : Rd w P A la ca (D p)) (hy0 : Rd w Q B lb cb (D q)) (hla : la ≤ 9000) (hlb : lb ≤ 9000) (hq : 0 < q) :
    Calls Tryz.prog 124 #[.bool neg, .slice A la ca, .slice B lb cb] w (SayR w (isNeg (mkRat (sg neg p) q)) (D (nu (mkRat (sg neg p) q))) (D (mkRat (sg neg p) q).den)) := by
  have HX := Lib.hid (hx0.mono (Q := (· < w.heap.size)) fun _ _ h => h)
  have HY := Lib.hid (hy0.mono (Q := (· < w.heap.size)) fun _ _ h => h)
  have hyl := hy0.len
  have hg0 : 0 < Nat.gcd p q := Nat.gcd_pos_of_pos_right _ hq
  have hgl : (D (Nat.gcd p q)).length ≤ 9000 := by have := D_len_gcd p hq; omega
  clear hx0 hy0 hyl
  go_enter Tryz.func124, Tryz.ntmps124
  go_wp2_with fail
  refine calls_at (fun W => Below w.heap.size w W ∧ RatAt W w.heap.size 31 false none 0 0 none 0 0) ⟨below1 _ _, RatAt.new _ _ _ _ _ _ _ _ _⟩ ?_
  rintro W ⟨hb, r0⟩
  refine (l01Gcd_any A B la ca lb cb p q _ _ W (HX.out.below hb) (HY.out.below hb) hla hlb).mono ?_
  rintro e w1 hnew
  obtain ⟨A1, c1, rfl, m1, b1⟩ := new_of hnew
  have HB1 := Lib.hid (below_on hb b1)
  have HR1 := Lib.hid (r0.on b1)
  have HM1 := Lib.hid m1
  clear hnew hb r0 m1 b1
  go_wp2_with fail
  refine (l01Div_any A A1 la ca _ c1 p (Nat.gcd p q) _ _ w1 (HX.out.below HB1.out) HM1.out hla hgl hg0).mono ?_
  rintro e w2 ⟨A2, c2, A3, c3, rfl, o2, r2, b2⟩
  have HP : Hid (Nm w2 A2 c2 (p / Nat.gcd p q)) := (own_rd' o2).mono fun _ _ _ => trivial
  have HB2 := Lib.hid (below_on HB1.out b2)
  have HR2 := Lib.hid (HR1.out.on b2)
  have HM2 := Lib.hid (HM1.out.on b2)
  clear o2 r2 b2 HB1 HR1 HM1
  go_wp2_with fail
  refine (l01Div_any B A1 lb cb _ c1 q (Nat.gcd p q) _ _ w2 (HY.out.below HB2.out) HM2.out hlb hgl hg0).mono ?_
  rintro e w3 ⟨A4, c4, A5, c5, rfl, o3, r3, b3⟩
  have HQ3 : Hid (Nm w3 A4 c4 (q / Nat.gcd p q)) := (own_rd' o3).mono fun _ _ _ => trivial
  have HP3 := Lib.hid (HP.out.on b3)
  have HB3 := Lib.hid (below_on HB2.out b3)
  have HR3 := Lib.hid (HR2.out.on b3)
  clear o3 r3 b3 HB2 HR2 HM2 HP
  have f0 := HR3.out.fz 0
  have f1 := HR3.out.fz 1
  have f2 := HR3.out.fz 2
  have y0 := HR3.out.c0
  have y1 := HR3.out.c1
  have y2 := HR3.out.c2
  cases neg with
  | false =>
    have HE : Hid ((false && decide (0 < p / Nat.gcd p q)) = false) := Lib.hid rfl
    go_wp2
    have g2 := fun b => setAll_grown w3 w.heap.size (.bool b) (.slice A2 (D (p / Nat.gcd p q)).length c2) (.slice A4 (D (q / Nat.gcd p q)).length c4)
    refine bodyPost_ret (retR rfl _ _ _ rfl (HR3.out.setAll _ _ _ _ _ _ _)) rfl ?_
    obtain ⟨e1, e2, e3⟩ := mk_parts false p q hq
    rw [e1, e2, e3]
    exact ⟨A2, c2, A4, c4, by rw [HE.out], ⟨Rd.past HP3.out HR3.out (g2 _), Rd.past HQ3.out HR3.out (g2 _)⟩, below_grow HB3.out (Nat.le_refl _) (g2 _)⟩
  | true =>
    have HE : Hid ((true && decide (0 < p / Nat.gcd p q)) = decide (0 < (D (p / Nat.gcd p q)).length)) := by
      show _ = _
      rw [Bool.true_and]
      rcases Nat.eq_zero_or_pos (p / Nat.gcd p q) with h | h
      · rw [h]; rfl
      · rw [decide_eq_true h, decide_eq_true (D_len_pos h)]
    go_wp2
    have g2 := fun b => setAll_grown w3 w.heap.size (.bool b) (.slice A2 (D (p / Nat.gcd p q)).length c2) (.slice A4 (D (q / Nat.gcd p q)).length c4)
    refine bodyPost_ret (retR rfl _ _ _ rfl (HR3.out.setAll _ _ _ _ _ _ _)) rfl ?_
    obtain ⟨e1, e2, e3⟩ := mk_parts true p q hq
    rw [e1, e2, e3]
    exact ⟨A2, c2, A4, c4, by rw [HE.out], ⟨Rd.past HP3.out HR3.out (g2 _), Rd.past HQ3.out HR3.out (g2 _)⟩, below_grow HB3.out (Nat.le_refl _) (g2 _)⟩
end Go.Proofs.YtifepoefeamboaaGreatDoor
namespace Go.Proofs.YtifepoefeamboaaGreatDoor
open Go Go.RowKit Nt
def MkAt (neg : Bool) (m d : Nat) (nn : Bool) (X Y : List Int) : Prop :=
  ∀ (A7 : Option Addr) (c7 : Nat) (B7 : Option Addr) (d7 : Nat) (W : World), Nm W A7 c7 m → Nm W B7 d7 d → Calls Tryz.prog 124 #[.bool neg, .slice A7 (D m).length c7, .slice B7 (D d).length d7] W (SayR W nn X Y)

set_option maxRecDepth 20000 in
set_option maxHeartbeats 6400000 in
theorem l02Add_core (na nb : Bool) (x y x' y' s t d : Nat) (hs : x * y' = s) (ht : x' * y = t) (hd : y * y' = d) (nn : Bool) (X Y : List Int) (A B : Option Addr) (ca cb : Nat) (A' B' : Option Addr) (ca' cb' : Nat) (P P' : Nat → Prop) (w : World) (h0 : RdR w P (D x) (D y) A ca B cb) (h1 : RdR w P' (D x') (D y') A' ca' B' cb')
    (l1 : (D x).length ≤ 3600) (l2 : (D y).length ≤ 3600) (l3 : (D x').length ≤ 3600) (l4 : (D y').length ≤ 3600) (m1 : (D s).length ≤ 7200) (m2 : (D t).length ≤ 7200) (_m3 : (D d).length ≤ 7200)
    (hm1 : na = nb → MkAt na (s + t) d nn X Y) (hm2 : na ≠ nb → t ≤ s → MkAt na (s - t) d nn X Y) (hm3 : na ≠ nb → s < t → MkAt nb (t - s) d nn X Y) :
    Calls Tryz.prog 118 #[.agg #[.bool na, .slice A (D x).length ca, .slice B (D y).length cb], .agg #[.bool nb, .slice A' (D x').length ca', .slice B' (D y').length cb']] w (SayR w nn X Y) := by
  have H0 := Lib.hid (h0.mono (Q := (· < w.heap.size)) fun _ _ h => h)
  have H1 := Lib.hid (h1.mono (Q := (· < w.heap.size)) fun _ _ h => h)
  have HM1 := Lib.hid hm1
  have HM2 := Lib.hid hm2
  have HM3 := Lib.hid hm3
  have HSs := Lib.hid hs
  have HTt := Lib.hid ht
  have HDd := Lib.hid hd
  clear h0 h1 hm1 hm2 hm3 hs ht hd
  go_enter Tryz.func118, Tryz.ntmps118
  go_wp2_with fail
  refine calls_at (fun W => Below w.heap.size w W ∧ RatAt W w.heap.size 31 na A (D x).length ca B (D y).length cb ∧ RatAt W (w.heap.size + 1) 31 nb A' (D x').length ca' B' (D y').length cb' ∧ RatAt W (w.heap.size + 1 + 1) 31 false none 0 0 none 0 0)
    ⟨below3 _ _ _ _, ((RatAt.new _ _ _ _ _ _ _ _ _).alloc _).alloc _, (RatAt.new1 _ _ _ _ _ _ _ _ _ _).alloc _, RatAt.new2 _ _ _ _ _ _ _ _ _ _ _⟩ ?_
  rintro W ⟨hb, r0, r1, r2⟩
  refine (l01Mul_any A B' _ ca _ cb' x y' _ _ W (H0.out.below hb).1 (H1.out.below hb).2 (by omega) (by omega)).mono ?_
  rintro e w1 hnew
  rw [HSs.out] at hnew
  obtain ⟨V1, d1, rfl, p1, b1⟩ := new_of hnew
  have HB1 := Lib.hid (below_on hb b1)
  have HR1 := Lib.hid (r0.on b1)
  have HS1 := Lib.hid (r1.on b1)
  have HT1 := Lib.hid (r2.on b1)
  have HP1 := Lib.hid p1
  clear hnew hb r0 r1 r2 p1 b1
  have c11 := HS1.out.c1
  have c02 := HR1.out.c2
  go_wp2_with fail
  clear c11 c02
  refine (l01Mul_any A' B _ ca' _ cb x' y _ _ w1 (H1.out.below HB1.out).1 (H0.out.below HB1.out).2 (by omega) (by omega)).mono ?_
  rintro e w2 hnew
  rw [HTt.out] at hnew
  obtain ⟨V2, d2, rfl, p2, b2⟩ := new_of hnew
  have HB2 := Lib.hid (below_on HB1.out b2)
  have HR2 := Lib.hid (HR1.out.on b2)
  have HS2 := Lib.hid (HS1.out.on b2)
  have HT2 := Lib.hid (HT1.out.on b2)
  have HP2 := Lib.hid (HP1.out.on b2)
  have HQ2 := Lib.hid p2
  clear hnew p2 b2 HB1 HR1 HS1 HT1 HP1
  have c12 := HS2.out.c2
  have c02 := HR2.out.c2
  go_wp2_with fail
  clear c12 c02
  refine (l01Mul_any B B' _ cb _ cb' y y' _ _ w2 (H0.out.below HB2.out).2 (H1.out.below HB2.out).2 (by omega) (by omega)).mono ?_
  rintro e w3 hnew
  rw [HDd.out] at hnew
  obtain ⟨V3, d3, rfl, p3, b3⟩ := new_of hnew
  have HB := Lib.hid (below_on HB2.out b3)
  have HR0 := Lib.hid (HR2.out.on b3)
  have HS0 := Lib.hid (HS2.out.on b3)
  have HT := Lib.hid (HT2.out.on b3)
  have HP := Lib.hid (HP2.out.on b3)
  have HQ := Lib.hid (HQ2.out.on b3)
  have HD := Lib.hid p3
  clear hnew p3 b3 HB2 HR2 HS2 HT2 HP2 HQ2
  have c00 := HR0.out.c0
  have c10 := HS0.out.c0
  by_cases hn : na = nb
  · subst hn
    have hnb : (na == na) = true := by simp
    go_upto_region 5 with fail
    clear c00 c10 hnb
    obtain ⟨u, hu⟩ : ∃ u, s + t = u := ⟨_, rfl⟩
    have HC1 : Hid (Calls Tryz.prog 146 #[.slice V1 (D s).length d1, .slice V2 (D t).length d2] w3.drew (RetNew 3 w3.drew (D u))) := Lib.hid (by rw [← hu]; exact l01Add_any V1 V2 _ d1 _ d2 s t _ _ w3.drew (Rd.drew HP.out) (Rd.drew HQ.out) (by omega) (by omega))
    have HMK := HM1.out (by first | rfl | trivial)
    rw [hu] at HMK
    have HMK2 := Lib.hid HMK
    clear HMK hu
    go_region_held3 (fun wx => wx.cell? ⟨w.heap.size, 0, none⟩ = some (.bool na))
      (first | exact HR0.out.c0 | exact HRa.out.c0 | exact HRb.out.c0 | exact (HRb.out.grown (setAll_grown _ _ _ _ _) (by omega)).c0)
      (first
        | (go_at_call 146; refine HC1.out.mono ?_; rintro e v1 hnew; obtain ⟨A7, c7, rfl, m7, bb⟩ := new_of hnew; have bb := undrew bb; have HM7 := Lib.hid m7; have HRa := Lib.hid (HR0.out.on bb); have HT7 := Lib.hid (HT.out.on bb); have HD7 := Lib.hid (HD.out.on bb); have HB7 := Lib.hid (below_on HB.out bb); clear hnew m7 bb)
        | (go_at_call 124; refine (HMK2.out A7 c7 V3 d3 v1 HM7.out HD7.out).mono ?_; rintro e v2 ⟨A8, c8, B8, d8, rfl, o8, bb⟩; have HO8 := Lib.hid o8; have HRb := Lib.hid (HRa.out.on bb); have HT8 := Lib.hid (HT7.out.on bb); have HB8 := Lib.hid (below_on HB7.out bb); have f0 := HT8.out.fz 0; have f1 := HT8.out.fz 1; have f2 := HT8.out.fz 2; have y0 := HT8.out.c0; have y1 := HT8.out.c1; have y2 := HT8.out.c2; clear o8 bb))
    go_wp2
    have g2 := fun b u v => setAll_grown v2 (w.heap.size + 1 + 1) (.bool b) u v
    refine bodyPost_ret (retR rfl _ _ _ rfl (HT8.out.setAll _ _ _ _ _ _ _)) rfl ?_
    exact ⟨A8, c8, B8, d8, rfl, ⟨HO8.out.1.past HT8.out (g2 _ _ _), HO8.out.2.past HT8.out (g2 _ _ _)⟩, below_grow HB8.out (by omega) (g2 _ _ _)⟩
  · have hnb : (na == nb) = false := by simpa using hn
    go_wp2_with fail
    clear c00 c10 hnb
    refine (l01Cmp_any V1 V2 _ d1 _ d2 s t _ _ w3 HP.out HQ.out (by omega) (by omega)).mono ?_
    rintro e w4 ⟨rfl, dd⟩
    have b4 := dd.below w3.heap.size
    have HB' := Lib.hid (below_on HB.out b4)
    have HR0' := Lib.hid (HR0.out.on b4)
    have HS0' := Lib.hid (HS0.out.on b4)
    have HT' := Lib.hid (HT.out.on b4)
    have HP' := Lib.hid (HP.out.on b4)
    have HQ' := Lib.hid (HQ.out.on b4)
    have HD' := Lib.hid (HD.out.on b4)
    clear dd b4 HB HR0 HS0 HT HP HQ HD
    by_cases hcmp : t ≤ s
    · obtain ⟨hc0, hc1⟩ := cmpI_ge (m := s) (n := t) (by omega)
      generalize cmpI s t = cc at *
      go_upto_region 7 with fail
      obtain ⟨u, hu⟩ : ∃ u, s - t = u := ⟨_, rfl⟩
      have HC1 : Hid (Calls Tryz.prog 147 #[.slice V1 (D s).length d1, .slice V2 (D t).length d2] w4.drew (RetNew 3 w4.drew (D u))) := Lib.hid (by rw [← hu]; exact l01Sub_any V1 V2 _ d1 _ d2 s t _ _ w4.drew (Rd.drew HP'.out) (Rd.drew HQ'.out) (by omega) (by omega) hcmp)
      have HMK := HM2.out hn hcmp
      rw [hu] at HMK
      have HMK2 := Lib.hid HMK
      clear HMK hu
      go_region_held3 (fun wx => wx.cell? ⟨w.heap.size, 0, none⟩ = some (.bool na))
        (first | exact HR0'.out.c0 | exact HRa.out.c0 | exact HRb.out.c0 | exact (HRb.out.grown (setAll_grown _ _ _ _ _) (by omega)).c0)
        (first
          | (go_at_call 147; refine HC1.out.mono ?_; rintro e v1 hnew; obtain ⟨A7, c7, rfl, m7, bb⟩ := new_of hnew; have bb := undrew bb; have HM7 := Lib.hid m7; have HRa := Lib.hid (HR0'.out.on bb); have HT7 := Lib.hid (HT'.out.on bb); have HD7 := Lib.hid (HD'.out.on bb); have HB7 := Lib.hid (below_on HB'.out bb); clear hnew m7 bb)
          | (go_at_call 124; refine (HMK2.out A7 c7 V3 d3 v1 HM7.out HD7.out).mono ?_; rintro e v2 ⟨A8, c8, B8, d8, rfl, o8, bb⟩; have HO8 := Lib.hid o8; have HRb := Lib.hid (HRa.out.on bb); have HT8 := Lib.hid (HT7.out.on bb); have HB8 := Lib.hid (below_on HB7.out bb); have f0 := HT8.out.fz 0; have f1 := HT8.out.fz 1; have f2 := HT8.out.fz 2; have y0 := HT8.out.c0; have y1 := HT8.out.c1; have y2 := HT8.out.c2; clear o8 bb))
      go_wp2
      have g2 := fun b u v => setAll_grown v2 (w.heap.size + 1 + 1) (.bool b) u v
      refine bodyPost_ret (retR rfl _ _ _ rfl (HT8.out.setAll _ _ _ _ _ _ _)) rfl ?_
      exact ⟨A8, c8, B8, d8, rfl, ⟨HO8.out.1.past HT8.out (g2 _ _ _), HO8.out.2.past HT8.out (g2 _ _ _)⟩, below_grow HB8.out (by omega) (g2 _ _ _)⟩
    · rw [cmpI_lt (by omega)]
      go_upto_region 8 with fail
      obtain ⟨u, hu⟩ : ∃ u, t - s = u := ⟨_, rfl⟩
      have HC1 : Hid (Calls Tryz.prog 147 #[.slice V2 (D t).length d2, .slice V1 (D s).length d1] w4.drew (RetNew 3 w4.drew (D u))) := Lib.hid (by rw [← hu]; exact l01Sub_any V2 V1 _ d2 _ d1 t s _ _ w4.drew (Rd.drew HQ'.out) (Rd.drew HP'.out) (by omega) (by omega) (by omega))
      have HMK := HM3.out hn (by omega)
      rw [hu] at HMK
      have HMK2 := Lib.hid HMK
      clear HMK hu
      go_region_held3 (fun wx => wx.cell? ⟨(w.heap.size + 1), 0, none⟩ = some (.bool nb))
        (first | exact HS0'.out.c0 | exact HRa.out.c0 | exact HRb.out.c0 | exact (HRb.out.grown (setAll_grown _ _ _ _ _) (by omega)).c0)
        (first
          | (go_at_call 147; refine HC1.out.mono ?_; rintro e v1 hnew; obtain ⟨A7, c7, rfl, m7, bb⟩ := new_of hnew; have bb := undrew bb; have HM7 := Lib.hid m7; have HRa := Lib.hid (HS0'.out.on bb); have HT7 := Lib.hid (HT'.out.on bb); have HD7 := Lib.hid (HD'.out.on bb); have HB7 := Lib.hid (below_on HB'.out bb); clear hnew m7 bb)
          | (go_at_call 124; refine (HMK2.out A7 c7 V3 d3 v1 HM7.out HD7.out).mono ?_; rintro e v2 ⟨A8, c8, B8, d8, rfl, o8, bb⟩; have HO8 := Lib.hid o8; have HRb := Lib.hid (HRa.out.on bb); have HT8 := Lib.hid (HT7.out.on bb); have HB8 := Lib.hid (below_on HB7.out bb); have f0 := HT8.out.fz 0; have f1 := HT8.out.fz 1; have f2 := HT8.out.fz 2; have y0 := HT8.out.c0; have y1 := HT8.out.c1; have y2 := HT8.out.c2; clear o8 bb))
      go_wp2
      have g2 := fun b u v => setAll_grown v2 (w.heap.size + 1 + 1) (.bool b) u v
      refine bodyPost_ret (retR rfl _ _ _ rfl (HT8.out.setAll _ _ _ _ _ _ _)) rfl ?_
      exact ⟨A8, c8, B8, d8, rfl, ⟨HO8.out.1.past HT8.out (g2 _ _ _), HO8.out.2.past HT8.out (g2 _ _ _)⟩, below_grow HB8.out (by omega) (g2 _ _ _)⟩

theorem mkAt (neg : Bool) (m d : Nat) (r : Rat) (hr : r = mkRat (sg neg m) d) (hd : 0 < d) (l1 : (D m).length ≤ 9000) (l2 : (D d).length ≤ 9000) : MkAt neg m d (isNeg r) (D (nu r)) (D r.den) := by
  subst hr
  intro A7 c7 B7 d7 W h1 h2
  exact l02Make_any neg A7 B7 _ c7 _ d7 m d _ _ W h1 h2 l1 l2 hd
theorem l02Add_any (a b : Rat) (A B : Option Addr) (ca cb : Nat) (A' B' : Option Addr) (ca' cb' : Nat) (P P' : Nat → Prop) (w : World) (h0 : RdR w P (D (nu a)) (D a.den) A ca B cb) (h1 : RdR w P' (D (nu b)) (D b.den) A' ca' B' cb')
    (l1 : (D (nu a)).length ≤ 3600) (l2 : (D a.den).length ≤ 3600) (l3 : (D (nu b)).length ≤ 3600) (l4 : (D b.den).length ≤ 3600) :
    Calls Tryz.prog 118 #[.agg #[.bool (isNeg a), .slice A (D (nu a)).length ca, .slice B (D a.den).length cb], .agg #[.bool (isNeg b), .slice A' (D (nu b)).length ca', .slice B' (D b.den).length cb']] w (SayR w (isNeg (a + b)) (D (nu (a + b))) (D (a + b).den)) := by
  have m1 : (D (nu a * b.den)).length ≤ 7200 := by have := D_len_mul (nu a) b.den; omega
  have m2 : (D (nu b * a.den)).length ≤ 7200 := by have := D_len_mul (nu b) a.den; omega
  have m3 : (D (a.den * b.den)).length ≤ 7200 := by have := D_len_mul a.den b.den; omega
  refine l02Add_core (isNeg a) (isNeg b) (nu a) a.den (nu b) b.den _ _ _ rfl rfl rfl _ _ _ A B ca cb A' B' ca' cb' P P' w h0 h1 l1 l2 l3 l4 m1 m2 m3 (fun h => ?_) (fun h h2 => ?_) (fun h h2 => ?_)
  · exact mkAt _ _ _ _ (add_same h) (add_pos_den a b) (by have := D_len_add (nu a * b.den) (nu b * a.den); omega) (by omega)
  · exact mkAt _ _ _ _ (add_ge h h2) (add_pos_den a b) (by have := D_len_sub (nu a * b.den) (nu b * a.den); omega) (by omega)
  · exact mkAt _ _ _ _ (add_lt h h2) (add_pos_den a b) (by have := D_len_sub (nu b * a.den) (nu a * b.den); omega) (by omega)
end Go.Proofs.YtifepoefeamboaaGreatDoor
