/-
  Plain mathematics of limbs: a natural number as its digits to the base 10000, the lowest first.
-/
namespace Nt

def val : List Int → Int
  | [] => 0
  | x :: xs => x + 10000 * val xs

def Limbs (xs : List Int) : Prop := ∀ x ∈ xs, 0 ≤ x ∧ x < 10000

def DF : Nat → Nat → List Int
  | 0, _ => []
  | f + 1, n => if n = 0 then [] else ((n % 10000 : Nat) : Int) :: DF f (n / 10000)

def D (n : Nat) : List Int := DF n n

theorem DF_fuel : ∀ f g n, n ≤ f → n ≤ g → DF f n = DF g n
  | 0, 0, _, _, _ => rfl
  | 0, g + 1, n, h, _ => by
    have : n = 0 := by omega
    subst this; simp [DF]
  | f + 1, 0, n, _, h => by
    have : n = 0 := by omega
    subst this; simp [DF]
  | f + 1, g + 1, n, h1, h2 => by
    unfold DF
    by_cases h : n = 0
    · simp [h]
    · simp only [h, if_false]
      rw [DF_fuel f g (n / 10000) (by omega) (by omega)]

theorem D_zero : D 0 = [] := rfl
theorem D_pos (n : Nat) (h : 0 < n) : D n = ((n % 10000 : Nat) : Int) :: D (n / 10000) := by
  unfold D
  obtain ⟨k, rfl⟩ : ∃ k, n = k + 1 := ⟨n - 1, by omega⟩
  conv => lhs; unfold DF
  rw [if_neg (by omega), DF_fuel k ((k + 1) / 10000) ((k + 1) / 10000) (by omega) (by omega)]
theorem D_nil_iff (n : Nat) : D n = [] ↔ n = 0 := by
  constructor
  · intro h
    rcases Nat.eq_zero_or_pos n with h0 | h0
    · exact h0
    · rw [D_pos n h0] at h; cases h
  · rintro rfl; rfl

theorem limbs_nil : Limbs [] := by intro x hx; cases hx
theorem limbs_cons {x : Int} {xs : List Int} : Limbs (x :: xs) ↔ (0 ≤ x ∧ x < 10000) ∧ Limbs xs := by
  unfold Limbs
  constructor
  · intro h
    exact ⟨h x (by simp), fun y hy => h y (by simp [hy])⟩
  · rintro ⟨h1, h2⟩ y hy
    rcases List.mem_cons.1 hy with rfl | hy
    · exact h1
    · exact h2 y hy
theorem limbs_append {xs ys : List Int} : Limbs (xs ++ ys) ↔ Limbs xs ∧ Limbs ys := by
  induction xs with
  | nil => simp [limbs_nil]
  | cons x xs ih => simp only [List.cons_append, limbs_cons, ih, and_assoc]
theorem limbs_take {xs : List Int} (h : Limbs xs) (k : Nat) : Limbs (xs.take k) := fun x hx => h x (List.mem_of_mem_take hx)
theorem limbs_drop {xs : List Int} (h : Limbs xs) (k : Nat) : Limbs (xs.drop k) := fun x hx => h x (List.mem_of_mem_drop hx)
theorem limbs_getD {xs : List Int} (h : Limbs xs) (i : Nat) : 0 ≤ xs.getD i 0 ∧ xs.getD i 0 < 10000 := by
  rcases Nat.lt_or_ge i xs.length with hi | hi
  · have : xs.getD i 0 = xs[i] := by simp [List.getD, hi]
    rw [this]; exact h _ (List.getElem_mem hi)
  · have : xs.getD i 0 = 0 := by simp [List.getD, hi]
    omega
theorem limbs_replicate (n : Nat) : Limbs (List.replicate n 0) := by
  intro x hx
  have := List.eq_of_mem_replicate hx
  omega
theorem limbs_set {xs : List Int} (h : Limbs xs) (i : Nat) (v : Int) (h0 : 0 ≤ v) (h1 : v < 10000) : Limbs (xs.set i v) := by
  intro x hx
  rcases List.mem_or_eq_of_mem_set hx with hx | rfl
  · exact h x hx
  · exact ⟨h0, h1⟩

theorem val_D (n : Nat) : val (D n) = n := by
  induction n using Nat.strongRecOn with
  | _ n ih =>
    rcases Nat.eq_zero_or_pos n with h | h
    · subst h; rfl
    · rw [D_pos n h, val, ih (n / 10000) (by omega)]; omega
theorem limbs_D (n : Nat) : Limbs (D n) := by
  induction n using Nat.strongRecOn with
  | _ n ih =>
    rcases Nat.eq_zero_or_pos n with h | h
    · subst h; exact limbs_nil
    · rw [D_pos n h, limbs_cons]; exact ⟨by omega, ih _ (by omega)⟩

theorem val_nonneg {xs : List Int} (h : Limbs xs) : 0 ≤ val xs := by
  induction xs with
  | nil => simp [val]
  | cons x xs ih => rw [limbs_cons] at h; have := ih h.2; simp only [val]; omega
theorem pow_succ' (k : Nat) : (10000 : Int) ^ (k + 1) = 10000 * 10000 ^ k := by rw [Int.pow_succ, Int.mul_comm]
theorem pow_pos' (k : Nat) : (0 : Int) < 10000 ^ k := Int.pow_pos (by decide)
theorem npow_pos (k : Nat) : 0 < 10000 ^ k := Nat.pow_pos (by decide)
theorem npow_cast (k : Nat) : ((10000 ^ k : Nat) : Int) = 10000 ^ k := Int.natCast_pow 10000 k
theorem val_lt {xs : List Int} (h : Limbs xs) : val xs < 10000 ^ xs.length := by
  induction xs with
  | nil => simp [val]
  | cons x xs ih =>
    rw [limbs_cons] at h
    have := ih h.2
    rw [List.length_cons, pow_succ']
    simp only [val]; omega
theorem val_append (xs ys : List Int) : val (xs ++ ys) = val xs + 10000 ^ xs.length * val ys := by
  induction xs with
  | nil => simp [val]
  | cons x xs ih =>
    rw [List.cons_append, val, ih, val, List.length_cons, pow_succ', Int.mul_add, Int.mul_assoc, Int.add_assoc]
theorem val_replicate (n : Nat) : val (List.replicate n 0) = 0 := by
  induction n with
  | zero => rfl
  | succ n ih => simp [List.replicate_succ, val, ih]
theorem val_snoc (xs : List Int) (x : Int) : val (xs ++ [x]) = val xs + 10000 ^ xs.length * x := by
  rw [val_append]; simp [val]
theorem val_take_drop (xs : List Int) (k : Nat) (h : k ≤ xs.length) : val xs = val (xs.take k) + 10000 ^ k * val (xs.drop k) := by
  conv => lhs; rw [← List.take_append_drop k xs]
  rw [val_append, List.length_take, Nat.min_eq_left h]
theorem take_snoc (xs : List Int) (k : Nat) (h : k < xs.length) : xs.take (k + 1) = xs.take k ++ [xs.getD k 0] := by
  rw [List.take_succ_eq_append_getElem h]; simp [List.getD, h]
theorem drop_cons (xs : List Int) (k : Nat) (h : k < xs.length) : xs.drop k = xs.getD k 0 :: xs.drop (k + 1) := by
  rw [List.drop_eq_getElem_cons h]; simp [List.getD, h]
theorem val_drop (xs : List Int) (k : Nat) (h : k < xs.length) : val (xs.drop k) = xs.getD k 0 + 10000 * val (xs.drop (k + 1)) := by
  rw [drop_cons xs k h, val]
theorem drop_end (xs : List Int) (k : Nat) (h : xs.length ≤ k) : xs.drop k = [] := List.drop_eq_nil_of_le h

/-- no 0 at the end -/
def Last (xs : List Int) : Prop := xs = [] ∨ xs.getD (xs.length - 1) 0 ≠ 0
theorem last_cons {x : Int} {xs : List Int} (h : xs ≠ []) : Last (x :: xs) ↔ Last xs := by
  obtain ⟨y, ys, rfl⟩ : ∃ y ys, xs = y :: ys := by
    cases xs with
    | nil => exact absurd rfl h
    | cons y ys => exact ⟨y, ys, rfl⟩
  unfold Last
  simp
theorem last_D (n : Nat) : Last (D n) := by
  induction n using Nat.strongRecOn with
  | _ n ih =>
    rcases Nat.eq_zero_or_pos n with h | h
    · subst h; exact .inl rfl
    · rw [D_pos n h]
      rcases Nat.eq_zero_or_pos (n / 10000) with h' | h'
      · rw [h', D_zero]; right; simp; omega
      · rw [last_cons (by rw [ne_eq, D_nil_iff]; omega)]; exact ih _ (by omega)
theorem D_val {xs : List Int} (h : Limbs xs) (hl : Last xs) : D (val xs).toNat = xs := by
  induction xs with
  | nil => rfl
  | cons x xs ih =>
    rw [limbs_cons] at h
    have h0 := val_nonneg h.2
    rcases Classical.em (xs = []) with rfl | hne
    · have hx : x ≠ 0 := by
        rcases hl with hl | hl
        · cases hl
        · simpa using hl
      have e : (val [x]).toNat = x.toNat := by simp [val]
      rw [e, D_pos _ (by omega), show x.toNat / 10000 = 0 from by omega, D_zero]
      congr 1; omega
    · have hl' := (last_cons hne).1 hl
      have ih' := ih h.2 hl'
      have hp : 0 < val xs := by
        rcases Int.lt_or_eq_of_le h0 with h1 | h1
        · exact h1
        · rw [← h1] at ih'; exact absurd ih'.symm hne
      rw [show (val (x :: xs)).toNat = x.toNat + 10000 * (val xs).toNat from by simp only [val]; omega, D_pos _ (by omega)]
      rw [show (x.toNat + 10000 * (val xs).toNat) / 10000 = (val xs).toNat from by omega, ih']
      congr 1; omega
theorem D_drop (n i : Nat) : (D n).drop i = D (n / 10000 ^ i) := by
  induction i generalizing n with
  | zero => simp
  | succ i ih =>
    rcases Nat.eq_zero_or_pos n with h | h
    · subst h; simp [D_zero]
    · rw [D_pos n h, List.drop_succ_cons, ih, Nat.div_div_eq_div_mul, Nat.pow_succ, Nat.mul_comm]
theorem D_len_le (n k : Nat) : (D n).length ≤ k ↔ n < 10000 ^ k := by
  have h : (D n).length ≤ k ↔ (D n).drop k = [] := by simp
  rw [h, D_drop, D_nil_iff, Nat.div_eq_zero_iff]
  have := npow_pos k
  omega
theorem D_len_gt (n k : Nat) : k < (D n).length ↔ 10000 ^ k ≤ n := by have := D_len_le n k; omega
theorem D_getD (n i : Nat) : (D n).getD i 0 = ((n / 10000 ^ i % 10000 : Nat) : Int) := by
  have h : (D n).getD i 0 = ((D n).drop i).getD 0 0 := by simp [List.getD]
  rw [h, D_drop]
  rcases Nat.eq_zero_or_pos (n / 10000 ^ i) with h | h
  · rw [h]; rfl
  · rw [D_pos _ h]; rfl
theorem D_inj {m n : Nat} (h : D m = D n) : m = n := by
  have := congrArg val h
  rw [val_D, val_D] at this
  omega
/-- what is trimmed -/
theorem trim_D {xs : List Int} (h : Limbs xs) (k : Nat) (hk : k ≤ xs.length) (hz : ∀ i, k ≤ i → i < xs.length → xs.getD i 0 = 0) (hl : k = 0 ∨ xs.getD (k - 1) 0 ≠ 0) :
    xs.take k = D (val xs).toNat := by
  have hd : val (xs.drop k) = 0 := by
    have : xs.drop k = List.replicate (xs.length - k) 0 := by
      apply List.ext_getElem
      · simp
      · intro i h1 h2
        have h3 : k + i < xs.length := by simp at h1; omega
        have := hz (k + i) (by omega) h3
        simp [List.getD, h3] at this
        simpa using this
    rw [this, val_replicate]
  have hv : val xs = val (xs.take k) := by rw [val_take_drop xs k hk, hd]; simp
  rw [hv]
  refine (D_val (limbs_take h k) ?_).symm
  rcases hl with rfl | hl
  · left; rfl
  · rcases Nat.eq_zero_or_pos k with h0 | h0
    · subst h0; left; rfl
    · right
      rw [List.length_take, Nat.min_eq_left hk]
      have hk' : k - 1 < xs.length := by omega
      have hk'' : k - 1 < k := by omega
      simpa [List.getD, List.getElem?_take, hk''] using hl

def natOf (xs : List Int) : Nat := (val xs).toNat
theorem natOf_D (n : Nat) : natOf (D n) = n := by unfold natOf; rw [val_D]; rfl
theorem natOf_val {xs : List Int} (h : Limbs xs) : (natOf xs : Int) = val xs := by unfold natOf; have := val_nonneg h; omega
theorem trim_len_le {xs : List Int} (h : Limbs xs) : (D (natOf xs)).length ≤ xs.length := by
  rw [D_len_le]
  have h1 := val_lt h
  have h2 := natOf_val h
  have e := npow_cast xs.length
  omega
theorem trim_take {xs : List Int} (h : Limbs xs) (k : Nat) (hk : k ≤ xs.length) (hz : ∀ i, k ≤ i → i < xs.length → xs.getD i 0 = 0) (hl : k = 0 ∨ xs.getD (k - 1) 0 ≠ 0) : k = (D (natOf xs)).length := by
  have := congrArg List.length (trim_D h k hk hz hl)
  rw [List.length_take, Nat.min_eq_left hk] at this
  exact this
theorem take_trim {xs : List Int} (h : Limbs xs) : xs.take (D (natOf xs)).length = D (natOf xs) := by
  have ex : ∀ n, n ≤ xs.length → (∀ i, n ≤ i → i < xs.length → xs.getD i 0 = 0) → ∃ k, k ≤ xs.length ∧ (∀ i, k ≤ i → i < xs.length → xs.getD i 0 = 0) ∧ (k = 0 ∨ xs.getD (k - 1) 0 ≠ 0) := by
    intro n
    induction n with
    | zero => intro _ hz; exact ⟨0, by omega, hz, .inl rfl⟩
    | succ n ih =>
      intro hn hz
      by_cases h0 : xs.getD n 0 = 0
      · exact ih (by omega) (fun i h1 h2 => by
          by_cases hi : i = n
          · subst hi; exact h0
          · exact hz i (by omega) h2)
      · exact ⟨n + 1, hn, hz, .inr (by simpa using h0)⟩
  obtain ⟨k, hk, hz, hl⟩ := ex xs.length (Nat.le_refl _) (fun i h1 h2 => absurd h1 (by omega))
  rw [← trim_take h k hk hz hl]
  exact trim_D h k hk hz hl

/-- what stands from a place on -/
def vd (xs : List Int) (k : Nat) : Int := val (xs.drop k)
theorem vd_zero (xs : List Int) : vd xs 0 = val xs := rfl
theorem vd_end (xs : List Int) (k : Nat) (h : xs.length ≤ k) : vd xs k = 0 := by unfold vd; rw [drop_end xs k h]; rfl
theorem vd_step (xs : List Int) (k : Nat) : vd xs k = xs.getD k 0 + 10000 * vd xs (k + 1) := by
  rcases Nat.lt_or_ge k xs.length with h | h
  · exact val_drop xs k h
  · rw [vd_end xs k h, vd_end xs (k + 1) (by omega)]
    have : xs.getD k 0 = 0 := by simp [List.getD, h]
    omega
theorem vd_nonneg {xs : List Int} (h : Limbs xs) (k : Nat) : 0 ≤ vd xs k := val_nonneg (limbs_drop h k)
theorem pow_step (P a b : Int) : P * a + (10000 * P) * b = P * (a + 10000 * b) := by
  rw [Int.mul_add, Int.mul_comm 10000 P, Int.mul_assoc]
theorem add_step (xs ys out : List Int) (k : Nat) (q : Int) (hl : out.length = k) :
    val (out ++ [(xs.getD k 0 + q + ys.getD k 0) % 10000]) + 10000 ^ (k + 1) * ((xs.getD k 0 + q + ys.getD k 0) / 10000 + vd xs (k + 1) + vd ys (k + 1)) = val out + 10000 ^ k * (q + vd xs k + vd ys k) := by
  rw [val_snoc, hl, pow_succ', Int.add_assoc, pow_step, vd_step xs k, vd_step ys k]
  generalize vd xs (k + 1) = u
  generalize vd ys (k + 1) = v
  generalize xs.getD k 0 = x
  generalize ys.getD k 0 = y
  rw [show (x + q + y) % 10000 + 10000 * ((x + q + y) / 10000 + u + v) = q + (x + 10000 * u) + (y + 10000 * v) from by omega]
/-- one limb of a difference: x less what is taken, and the next borrow -/
theorem take_step (xs ys out : List Int) (k : Nat) (q times left borrow : Int) (hl : out.length = k) (hx : xs.getD k 0 - (q + ys.getD k 0 * times) = left - 10000 * borrow) :
    val (out ++ [left]) + 10000 ^ (k + 1) * (vd xs (k + 1) - borrow - vd ys (k + 1) * times) = val out + 10000 ^ k * (vd xs k - q - vd ys k * times) := by
  rw [val_snoc, hl, pow_succ', Int.add_assoc, pow_step, vd_step xs k, vd_step ys k, Int.add_mul, Int.mul_assoc]
  generalize vd xs (k + 1) = u at *
  generalize vd ys (k + 1) * times = v at *
  generalize ys.getD k 0 * times = y at *
  generalize xs.getD k 0 = x at *
  rw [show left + 10000 * (u - borrow - v) = x + 10000 * u - q - (y + 10000 * v) from by omega]
theorem take_end {v P z r : Int} (h0 : v < P) (hP : 0 < P) (hz : 0 ≤ z) (hr : 0 ≤ r) (h : v + P * (0 - z) = r) : z = 0 := by
  rcases Int.lt_or_eq_of_le hz with h1 | h1
  · have : P * (0 - z) ≤ P * (-1) := Int.mul_le_mul_of_nonneg_left (by omega) (by omega)
    omega
  · omega
theorem limb_times {y t : Int} (h0 : 0 ≤ y) (h1 : y < 10000) (h2 : 0 ≤ t) (h3 : t ≤ 10000) : 0 ≤ y * t ∧ y * t ≤ 99990000 := by
  refine ⟨Int.mul_nonneg h0 h2, ?_⟩
  have := Int.mul_le_mul (show y ≤ 9999 by omega) h3 h2 (by omega)
  omega
def fitL (xs : List Int) : List Int := if xs.length ≤ 40 then xs else []
def fitC (xs : List Int) : Int := if xs.length ≤ 40 then 0 else 7

/-- what is left of a natural from a place on -/
def dv (m k : Nat) : Nat := m / 10000 ^ k
theorem dv_zero (m : Nat) : dv m 0 = m := by simp [dv]
theorem dv_pos (m k : Nat) : 0 < dv m k ↔ k < (D m).length := by
  rw [D_len_gt]
  unfold dv
  rw [Nat.div_pos_iff]
  have := npow_pos k
  omega
theorem dv_step (m k : Nat) : ((dv m k : Nat) : Int) = (D m).getD k 0 + 10000 * (dv m (k + 1) : Nat) := by
  rw [D_getD]
  have h : dv m (k + 1) = dv m k / 10000 := by unfold dv; rw [Nat.pow_succ, Nat.div_div_eq_div_mul]
  rw [h]
  show ((dv m k : Nat) : Int) = ((dv m k % 10000 : Nat) : Int) + _
  omega
theorem add_round (m n k c : Nat) (h : 0 < c + dv m k + dv n k) :
    D (c + dv m k + dv n k) = (((c : Int) + (D m).getD k 0 + (D n).getD k 0) % 10000) :: D ((((c : Int) + (D m).getD k 0 + (D n).getD k 0) / 10000).toNat + dv m (k + 1) + dv n (k + 1)) := by
  rw [D_pos _ h]
  have h1 := dv_step m k
  have h2 := dv_step n k
  have h3 := limbs_getD (limbs_D m) k
  have h4 := limbs_getD (limbs_D n) k
  generalize (D m).getD k 0 = x at *
  generalize (D n).getD k 0 = y at *
  congr 1
  · omega
  · congr 1; omega

/-- the greatest natural that fits, and one more -/
def Top : Nat := 10000 ^ 40
def okL (xs : List Int) : Bool := decide (xs.length ≤ 40) && (xs.all fun x => decide (0 ≤ x) && decide (x < 10000)) && (xs.isEmpty || decide (xs.getD (xs.length - 1) 0 ≠ 0))
theorem okL_iff (xs : List Int) : okL xs = true ↔ xs.length ≤ 40 ∧ Limbs xs ∧ Last xs := by
  unfold okL Limbs Last
  simp only [Bool.and_eq_true, Bool.or_eq_true, decide_eq_true_eq, List.all_eq_true, List.isEmpty_iff, and_assoc]
theorem okL_D (n : Nat) (h : n < Top) : okL (D n) = true := (okL_iff _).2 ⟨(D_len_le n 40).2 h, limbs_D n, last_D n⟩
theorem okL_out {xs : List Int} (h : okL xs = true) : ∃ n, n < Top ∧ xs = D n := by
  obtain ⟨h1, h2, h3⟩ := (okL_iff _).1 h
  refine ⟨(val xs).toNat, ?_, (D_val h2 h3).symm⟩
  rw [Top, ← D_len_le, D_val h2 h3]; exact h1

theorem okL_long {xs : List Int} (h : 40 < xs.length) : okL xs = false := by
  rw [Bool.eq_false_iff]; intro hk; have := ((okL_iff _).1 hk).1; omega
theorem okL_last {xs : List Int} (h : 0 < xs.length) (hz : xs.getD (xs.length - 1) 0 = 0) : okL xs = false := by
  rw [Bool.eq_false_iff]; intro hk
  rcases ((okL_iff _).1 hk).2.2 with h0 | h0
  · rw [h0] at h; simp at h
  · exact h0 hz
theorem okL_bad {xs : List Int} (i : Nat) (_hi : i < xs.length) (hb : xs.getD i 0 < 0 ∨ 10000 ≤ xs.getD i 0) : okL xs = false := by
  rw [Bool.eq_false_iff]; intro hk
  have := limbs_getD ((okL_iff _).1 hk).2.1 i
  omega
theorem limbs_of_getD {xs : List Int} (h : ∀ i, i < xs.length → 0 ≤ xs.getD i 0 ∧ xs.getD i 0 < 10000) : Limbs xs := by
  intro x hx
  obtain ⟨i, hi, rfl⟩ := List.getElem_of_mem hx
  have := h i hi
  simpa [List.getD, hi] using this
theorem okL_good {xs : List Int} (h : xs.length ≤ 40) (hb : ∀ i, i < xs.length → 0 ≤ xs.getD i 0 ∧ xs.getD i 0 < 10000) (hl : xs.length = 0 ∨ xs.getD (xs.length - 1) 0 ≠ 0) : okL xs = true := by
  refine (okL_iff _).2 ⟨h, limbs_of_getD hb, ?_⟩
  rcases hl with hl | hl
  · exact .inl (List.eq_nil_of_length_eq_zero hl)
  · exact .inr hl

theorem top_add {m n : Nat} (hm : m < Top) (hn : n < Top) : m + n < 10000 ^ 41 := by
  have : 10000 ^ 41 = 10000 * Top := by unfold Top; rw [Nat.pow_succ, Nat.mul_comm]
  rw [this]; omega
theorem top_mul {m n : Nat} (hm : m < Top) (hn : n < Top) : m * n < 10000 ^ 80 := by
  have : 10000 ^ 80 = Top * Top := by unfold Top; rw [← Nat.pow_add]
  rw [this]; exact Nat.mul_lt_mul'' hm hn
/-- the order of two naturals, as a number -/
def cmpI (m n : Nat) : Int := if m < n then -1 else if m = n then 0 else 1
theorem D_len_mono {m n : Nat} (h : (D m).length < (D n).length) : m < n := by
  have h1 := (D_len_le m (D m).length).1 (Nat.le_refl _)
  have h2 := (D_len_gt n (D m).length).1 h
  omega
theorem cmpI_lt {m n : Nat} (h : m < n) : cmpI m n = -1 := by unfold cmpI; rw [if_pos h]
theorem cmpI_ge {m n : Nat} (h : ¬ m < n) : 0 ≤ cmpI m n ∧ cmpI m n ≤ 1 := by unfold cmpI; rw [if_neg h]; split <;> omega
def subL (m n : Nat) : List Int := if m < n then [] else D (m - n)
def subC (m n : Nat) : Int := if m < n then 11 else 0
theorem subL_lt {m n : Nat} (h : m < n) : subL m n = [] ∧ subC m n = 11 := by unfold subL subC; rw [if_pos h, if_pos h]; exact ⟨rfl, rfl⟩
theorem subL_ge {m n : Nat} (h : ¬ m < n) : subL m n = D (m - n) ∧ subC m n = 0 := by unfold subL subC; rw [if_neg h, if_neg h]; exact ⟨rfl, rfl⟩
theorem fit_D {m : Nat} (h : m < Top) : fitL (D m) = D m ∧ fitC (D m) = 0 := by
  have := (D_len_le m 40).2 h
  unfold fitL fitC; rw [if_pos this, if_pos this]; exact ⟨rfl, rfl⟩
theorem subL_len {m n : Nat} (h : m < Top) : (subL m n).length ≤ 40 := by
  unfold subL
  split
  · simp
  · exact (D_len_le _ 40).2 (by unfold Top at h; omega)
/-- the order of two numbers, as a number -/
def cmpZ (a b : Int) : Int := if a < b then -1 else if b < a then 1 else 0
theorem cmpZ_nat (m n : Nat) : cmpZ m n = cmpI m n := by
  unfold cmpZ cmpI
  by_cases h : m < n
  · rw [if_pos (by omega), if_pos h]
  · rw [if_neg (by omega), if_neg h]
    by_cases h2 : m = n
    · rw [if_neg (by omega), if_pos h2]
    · rw [if_pos (by omega), if_neg h2]
theorem cmp_len {m n : Nat} (h : (D m).length ≠ (D n).length) : cmpZ ((D m).length : Nat) ((D n).length : Nat) = cmpI m n := by
  rw [cmpZ_nat]
  rcases Nat.lt_or_gt_of_ne h with h1 | h1
  · have := D_len_mono h1
    unfold cmpI; rw [if_pos h1, if_pos this]
  · have := D_len_mono h1
    unfold cmpI; rw [if_neg (by omega), if_neg (by omega), if_neg (by omega), if_neg (by omega)]
theorem val_cmp {xs ys : List Int} (hx : Limbs xs) (hy : Limbs ys) (hl : xs.length = ys.length) (k : Nat) (hk : k < xs.length)
    (hd : ∀ j, k < j → j < xs.length → xs.getD j 0 = ys.getD j 0) (hlt : xs.getD k 0 < ys.getD k 0) : val xs < val ys := by
  have e1 := val_take_drop xs k (by omega)
  have e2 := val_take_drop ys k (by omega)
  rw [val_drop xs k hk] at e1
  rw [val_drop ys k (by omega)] at e2
  have e3 : xs.drop (k + 1) = ys.drop (k + 1) := by
    apply List.ext_getElem
    · simp [hl]
    · intro i h1 h2
      have h3 : k + 1 + i < xs.length := by simp at h1; omega
      have := hd (k + 1 + i) (by omega) h3
      have h4 : k + 1 + i < ys.length := by omega
      simp [List.getD, h3, h4] at this
      simpa using this
  rw [e3] at e1
  have b1 := val_lt (limbs_take hx k)
  rw [List.length_take, Nat.min_eq_left (by omega)] at b1
  have b2 := val_nonneg (limbs_take hy k)
  generalize val (ys.drop (k + 1)) = r at *
  have p := pow_pos' k
  generalize (10000 : Int) ^ k = q at *
  have h5 : q * (xs.getD k 0 + 10000 * r) + q ≤ q * (ys.getD k 0 + 10000 * r) := by
    have : q * (xs.getD k 0 + 10000 * r) + q = q * (xs.getD k 0 + 10000 * r + 1) := by rw [Int.mul_add q (xs.getD k 0 + 10000 * r) 1, Int.mul_one]
    rw [this]
    exact Int.mul_le_mul_of_nonneg_left (by omega) (by omega)
  omega
theorem D_cmp {m n : Nat} (hl : (D m).length = (D n).length) (k : Nat) (hk : k < (D m).length)
    (hd : ∀ j, k < j → j < (D m).length → (D m).getD j 0 = (D n).getD j 0) (hne : (D m).getD k 0 ≠ (D n).getD k 0) : cmpZ ((D m).getD k 0) ((D n).getD k 0) = cmpI m n := by
  rcases Int.lt_or_gt_of_ne hne with h | h
  · have := val_cmp (limbs_D m) (limbs_D n) hl k hk hd h
    rw [val_D, val_D] at this
    unfold cmpZ cmpI; rw [if_pos h, if_pos (by omega)]
  · have := val_cmp (limbs_D n) (limbs_D m) hl.symm k (by omega) (fun j h1 h2 => (hd j h1 (by omega)).symm) h
    rw [val_D, val_D] at this
    unfold cmpZ cmpI; rw [if_neg (by omega), if_pos h, if_neg (by omega), if_neg (by omega)]
theorem D_same {m n : Nat} (hl : (D m).length = (D n).length) (hd : ∀ j, j < (D m).length → (D m).getD j 0 = (D n).getD j 0) : cmpI m n = 0 := by
  have : D m = D n := by
    apply List.ext_getElem hl
    intro i h1 h2
    have := hd i h1
    simpa [List.getD, h1, h2] using this
  have := D_inj this
  unfold cmpI; rw [if_neg (by omega), if_pos this]

/-- the code of lists that are asked of -/
def codeL (xss : List (List Int)) : Int := if (xss.all fun xs => decide (xs.length ≤ 4096)) = true then (if xss.all okL = true then 0 else 1) else 2
theorem codeL_long {N : Nat} {xss : Nat → List Int} (k : Nat) (hk : k < N) (h : 4096 < (xss k).length) : codeL ((List.range N).map xss) = 2 := by
  unfold codeL
  rw [if_neg]
  intro hh
  rw [List.all_eq_true] at hh
  have := hh (xss k) (List.mem_map.2 ⟨k, by simpa using hk, rfl⟩)
  simp at this
  omega
theorem codeL_bad {N : Nat} {xss : Nat → List Int} (hs : ∀ j, j < N → (xss j).length ≤ 4096) (k : Nat) (hk : k < N) (h : okL (xss k) = false) : codeL ((List.range N).map xss) = 1 := by
  unfold codeL
  rw [if_pos, if_neg]
  · intro hh
    rw [List.all_eq_true] at hh
    have := hh (xss k) (List.mem_map.2 ⟨k, by simpa using hk, rfl⟩)
    rw [h] at this; cases this
  · rw [List.all_eq_true]
    intro x hx
    obtain ⟨j, hj, rfl⟩ := List.mem_map.1 hx
    simpa using hs j (by simpa using hj)
theorem codeL_good {N : Nat} {xss : Nat → List Int} (hs : ∀ j, j < N → (xss j).length ≤ 4096) (h : ∀ j, j < N → okL (xss j) = true) : codeL ((List.range N).map xss) = 0 := by
  unfold codeL
  rw [if_pos, if_pos]
  · rw [List.all_eq_true]
    intro x hx
    obtain ⟨j, hj, rfl⟩ := List.mem_map.1 hx
    exact h j (by simpa using hj)
  · rw [List.all_eq_true]
    intro x hx
    obtain ⟨j, hj, rfl⟩ := List.mem_map.1 hx
    simpa using hs j (by simpa using hj)
theorem codeL_bd (xss : List (List Int)) : 0 ≤ codeL xss ∧ codeL xss ≤ 2 := by
  unfold codeL; repeat (first | split | omega)
theorem codeL2_ok {xs ys : List Int} (h : codeL [xs, ys] = 0) : ∃ m n, m < Top ∧ n < Top ∧ xs = D m ∧ ys = D n := by
  unfold codeL at h
  split at h
  · split at h
    · rename_i _ h2
      simp only [List.all_cons, List.all_nil, Bool.and_true, Bool.and_eq_true] at h2
      obtain ⟨m, hm, e1⟩ := okL_out h2.1
      obtain ⟨n, hn, e2⟩ := okL_out h2.2
      exact ⟨m, n, hm, hn, e1, e2⟩
    · cases h
  · cases h
theorem codeL1_ok {xs : List Int} (h : codeL [xs] = 0) : ∃ m, m < Top ∧ xs = D m := by
  unfold codeL at h
  split at h
  · split at h
    · rename_i _ h2
      simp only [List.all_cons, List.all_nil, Bool.and_true] at h2
      exact okL_out h2
    · cases h
  · cases h
/-- a bit as a number -/
def bitZ (b : Bool) : Int := if b = true then 1 else 0
theorem bit_cmp (x y : Int) (h : x ≠ y) : 2 * bitZ (decide (y < x)) - 1 = cmpZ x y := by
  unfold bitZ cmpZ
  by_cases h1 : y < x
  · rw [if_pos (by simpa using h1), if_neg (by omega), if_pos h1]; rfl
  · rw [if_neg (by simpa using h1), if_pos (by omega)]; rfl
end Nt
