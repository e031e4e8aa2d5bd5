/-
  Plain mathematics of limbs: a natural number as its digits to the base 10000, the lowest first.
-/
namespace Nt

def val : List Int → Int
  | [] => 0
  | x :: xs => x + 10000 * val xs

def Limbs (xs : List Int) : Prop := ∀ x ∈ xs, 0 ≤ x ∧ x < 10000

def DF : Nat → Nat → List Int
  | 0, _ => []
  | f + 1, n => if n = 0 then [] else ((n % 10000 : Nat) : Int) :: DF f (n / 10000)

def D (n : Nat) : List Int := DF n n

theorem DF_fuel : ∀ f g n, n ≤ f → n ≤ g → DF f n = DF g n
  | 0, 0, _, _, _ => rfl
  | 0, g + 1, n, h, _ => by
    have : n = 0 := by omega
    subst this; simp [DF]
  | f + 1, 0, n, _, h => by
    have : n = 0 := by omega
    subst this; simp [DF]
  | f + 1, g + 1, n, h1, h2 => by
    unfold DF
    by_cases h : n = 0
    · simp [h]
    · simp only [h, if_false]
      rw [DF_fuel f g (n / 10000) (by omega) (by omega)]

theorem D_zero : D 0 = [] := rfl
theorem D_pos (n : Nat) (h : 0 < n) : D n = ((n % 10000 : Nat) : Int) :: D (n / 10000) := by
  unfold D
  obtain ⟨k, rfl⟩ : ∃ k, n = k + 1 := ⟨n - 1, by omega⟩
  conv => lhs; unfold DF
  rw [if_neg (by omega), DF_fuel k ((k + 1) / 10000) ((k + 1) / 10000) (by omega) (by omega)]
theorem D_nil_iff (n : Nat) : D n = [] ↔ n = 0 := by
  constructor
  · intro h
    rcases Nat.eq_zero_or_pos n with h0 | h0
    · exact h0
    · rw [D_pos n h0] at h; cases h
  · rintro rfl; rfl

theorem limbs_nil : Limbs [] := by intro x hx; cases hx
theorem limbs_cons {x : Int} {xs : List Int} : Limbs (x :: xs) ↔ (0 ≤ x ∧ x < 10000) ∧ Limbs xs := by
  unfold Limbs
  constructor
  · intro h
    exact ⟨h x (by simp), fun y hy => h y (by simp [hy])⟩
  · rintro ⟨h1, h2⟩ y hy
    rcases List.mem_cons.1 hy with rfl | hy
    · exact h1
    · exact h2 y hy
theorem limbs_append {xs ys : List Int} : Limbs (xs ++ ys) ↔ Limbs xs ∧ Limbs ys := by
  induction xs with
  | nil => simp [limbs_nil]
  | cons x xs ih => simp only [List.cons_append, limbs_cons, ih, and_assoc]
theorem limbs_take {xs : List Int} (h : Limbs xs) (k : Nat) : Limbs (xs.take k) := fun x hx => h x (List.mem_of_mem_take hx)
theorem limbs_drop {xs : List Int} (h : Limbs xs) (k : Nat) : Limbs (xs.drop k) := fun x hx => h x (List.mem_of_mem_drop hx)
theorem limbs_getD {xs : List Int} (h : Limbs xs) (i : Nat) : 0 ≤ xs.getD i 0 ∧ xs.getD i 0 < 10000 := by
  rcases Nat.lt_or_ge i xs.length with hi | hi
  · have : xs.getD i 0 = xs[i] := by simp [List.getD, hi]
    rw [this]; exact h _ (List.getElem_mem hi)
  · have : xs.getD i 0 = 0 := by simp [List.getD, hi]
    omega
theorem limbs_replicate (n : Nat) : Limbs (List.replicate n 0) := by
  intro x hx
  have := List.eq_of_mem_replicate hx
  omega
theorem limbs_set {xs : List Int} (h : Limbs xs) (i : Nat) (v : Int) (h0 : 0 ≤ v) (h1 : v < 10000) : Limbs (xs.set i v) := by
  intro x hx
  rcases List.mem_or_eq_of_mem_set hx with hx | rfl
  · exact h x hx
  · exact ⟨h0, h1⟩

theorem val_D (n : Nat) : val (D n) = n := by
  induction n using Nat.strongRecOn with
  | _ n ih =>
    rcases Nat.eq_zero_or_pos n with h | h
    · subst h; rfl
    · rw [D_pos n h, val, ih (n / 10000) (by omega)]; omega
theorem limbs_D (n : Nat) : Limbs (D n) := by
  induction n using Nat.strongRecOn with
  | _ n ih =>
    rcases Nat.eq_zero_or_pos n with h | h
    · subst h; exact limbs_nil
    · rw [D_pos n h, limbs_cons]; exact ⟨by omega, ih _ (by omega)⟩

theorem val_nonneg {xs : List Int} (h : Limbs xs) : 0 ≤ val xs := by
  induction xs with
  | nil => simp [val]
  | cons x xs ih => rw [limbs_cons] at h; have := ih h.2; simp only [val]; omega
theorem pow_succ' (k : Nat) : (10000 : Int) ^ (k + 1) = 10000 * 10000 ^ k := by rw [Int.pow_succ, Int.mul_comm]
theorem pow_pos' (k : Nat) : (0 : Int) < 10000 ^ k := Int.pow_pos (by decide)
theorem npow_pos (k : Nat) : 0 < 10000 ^ k := Nat.pow_pos (by decide)
theorem val_lt {xs : List Int} (h : Limbs xs) : val xs < 10000 ^ xs.length := by
  induction xs with
  | nil => simp [val]
  | cons x xs ih =>
    rw [limbs_cons] at h
    have := ih h.2
    rw [List.length_cons, pow_succ']
    simp only [val]; omega
theorem val_append (xs ys : List Int) : val (xs ++ ys) = val xs + 10000 ^ xs.length * val ys := by
  induction xs with
  | nil => simp [val]
  | cons x xs ih =>
    rw [List.cons_append, val, ih, val, List.length_cons, pow_succ', Int.mul_add, Int.mul_assoc, Int.add_assoc]
theorem val_replicate (n : Nat) : val (List.replicate n 0) = 0 := by
  induction n with
  | zero => rfl
  | succ n ih => simp [List.replicate_succ, val, ih]
theorem val_snoc (xs : List Int) (x : Int) : val (xs ++ [x]) = val xs + 10000 ^ xs.length * x := by
  rw [val_append]; simp [val]
theorem val_take_drop (xs : List Int) (k : Nat) (h : k ≤ xs.length) : val xs = val (xs.take k) + 10000 ^ k * val (xs.drop k) := by
  conv => lhs; rw [← List.take_append_drop k xs]
  rw [val_append, List.length_take, Nat.min_eq_left h]
theorem take_snoc (xs : List Int) (k : Nat) (h : k < xs.length) : xs.take (k + 1) = xs.take k ++ [xs.getD k 0] := by
  rw [List.take_succ_eq_append_getElem h]; simp [List.getD, h]
theorem drop_cons (xs : List Int) (k : Nat) (h : k < xs.length) : xs.drop k = xs.getD k 0 :: xs.drop (k + 1) := by
  rw [List.drop_eq_getElem_cons h]; simp [List.getD, h]
theorem val_drop (xs : List Int) (k : Nat) (h : k < xs.length) : val (xs.drop k) = xs.getD k 0 + 10000 * val (xs.drop (k + 1)) := by
  rw [drop_cons xs k h, val]
theorem drop_end (xs : List Int) (k : Nat) (h : xs.length ≤ k) : xs.drop k = [] := List.drop_eq_nil_of_le h

/-- no 0 at the end -/
def Last (xs : List Int) : Prop := xs = [] ∨ xs.getD (xs.length - 1) 0 ≠ 0
theorem last_cons {x : Int} {xs : List Int} (h : xs ≠ []) : Last (x :: xs) ↔ Last xs := by
  obtain ⟨y, ys, rfl⟩ : ∃ y ys, xs = y :: ys := by
    cases xs with
    | nil => exact absurd rfl h
    | cons y ys => exact ⟨y, ys, rfl⟩
  unfold Last
  simp
theorem last_D (n : Nat) : Last (D n) := by
  induction n using Nat.strongRecOn with
  | _ n ih =>
    rcases Nat.eq_zero_or_pos n with h | h
    · subst h; exact .inl rfl
    · rw [D_pos n h]
      rcases Nat.eq_zero_or_pos (n / 10000) with h' | h'
      · rw [h', D_zero]; right; simp; omega
      · rw [last_cons (by rw [ne_eq, D_nil_iff]; omega)]; exact ih _ (by omega)
theorem D_val {xs : List Int} (h : Limbs xs) (hl : Last xs) : D (val xs).toNat = xs := by
  induction xs with
  | nil => rfl
  | cons x xs ih =>
    rw [limbs_cons] at h
    have h0 := val_nonneg h.2
    rcases Classical.em (xs = []) with rfl | hne
    · have hx : x ≠ 0 := by
        rcases hl with hl | hl
        · cases hl
        · simpa using hl
      have e : (val [x]).toNat = x.toNat := by simp [val]
      rw [e, D_pos _ (by omega), show x.toNat / 10000 = 0 from by omega, D_zero]
      congr 1; omega
    · have hl' := (last_cons hne).1 hl
      have ih' := ih h.2 hl'
      have hp : 0 < val xs := by
        rcases Int.lt_or_eq_of_le h0 with h1 | h1
        · exact h1
        · rw [← h1] at ih'; exact absurd ih'.symm hne
      rw [show (val (x :: xs)).toNat = x.toNat + 10000 * (val xs).toNat from by simp only [val]; omega, D_pos _ (by omega)]
      rw [show (x.toNat + 10000 * (val xs).toNat) / 10000 = (val xs).toNat from by omega, ih']
      congr 1; omega
theorem D_drop (n i : Nat) : (D n).drop i = D (n / 10000 ^ i) := by
  induction i generalizing n with
  | zero => simp
  | succ i ih =>
    rcases Nat.eq_zero_or_pos n with h | h
    · subst h; simp [D_zero]
    · rw [D_pos n h, List.drop_succ_cons, ih, Nat.div_div_eq_div_mul, Nat.pow_succ, Nat.mul_comm]
theorem D_len_le (n k : Nat) : (D n).length ≤ k ↔ n < 10000 ^ k := by
  have h : (D n).length ≤ k ↔ (D n).drop k = [] := by simp
  rw [h, D_drop, D_nil_iff, Nat.div_eq_zero_iff]
  have := npow_pos k
  omega
theorem D_len_gt (n k : Nat) : k < (D n).length ↔ 10000 ^ k ≤ n := by have := D_len_le n k; omega
theorem D_getD (n i : Nat) : (D n).getD i 0 = ((n / 10000 ^ i % 10000 : Nat) : Int) := by
  have h : (D n).getD i 0 = ((D n).drop i).getD 0 0 := by simp [List.getD]
  rw [h, D_drop]
  rcases Nat.eq_zero_or_pos (n / 10000 ^ i) with h | h
  · rw [h]; rfl
  · rw [D_pos _ h]; rfl
theorem D_inj {m n : Nat} (h : D m = D n) : m = n := by
  have := congrArg val h
  rw [val_D, val_D] at this
  omega
/-- what is trimmed -/
theorem trim_D {xs : List Int} (h : Limbs xs) (k : Nat) (hk : k ≤ xs.length) (hz : ∀ i, k ≤ i → i < xs.length → xs.getD i 0 = 0) (hl : k = 0 ∨ xs.getD (k - 1) 0 ≠ 0) :
    xs.take k = D (val xs).toNat := by
  have hd : val (xs.drop k) = 0 := by
    have : xs.drop k = List.replicate (xs.length - k) 0 := by
      apply List.ext_getElem
      · simp
      · intro i h1 h2
        have h3 : k + i < xs.length := by simp at h1; omega
        have := hz (k + i) (by omega) h3
        simp [List.getD, h3] at this
        simpa using this
    rw [this, val_replicate]
  have hv : val xs = val (xs.take k) := by rw [val_take_drop xs k hk, hd]; simp
  rw [hv]
  refine (D_val (limbs_take h k) ?_).symm
  rcases hl with rfl | hl
  · left; rfl
  · rcases Nat.eq_zero_or_pos k with h0 | h0
    · subst h0; left; rfl
    · right
      rw [List.length_take, Nat.min_eq_left hk]
      have hk' : k - 1 < xs.length := by omega
      have hk'' : k - 1 < k := by omega
      simpa [List.getD, List.getElem?_take, hk''] using hl

/-- the greatest natural that fits, and one more -/
def Top : Nat := 10000 ^ 40
def okL (xs : List Int) : Bool := decide (xs.length ≤ 40) && (xs.all fun x => decide (0 ≤ x) && decide (x < 10000)) && (xs.isEmpty || decide (xs.getD (xs.length - 1) 0 ≠ 0))
theorem okL_iff (xs : List Int) : okL xs = true ↔ xs.length ≤ 40 ∧ Limbs xs ∧ Last xs := by
  unfold okL Limbs Last
  simp only [Bool.and_eq_true, Bool.or_eq_true, decide_eq_true_eq, List.all_eq_true, List.isEmpty_iff, and_assoc]
theorem okL_D (n : Nat) (h : n < Top) : okL (D n) = true := (okL_iff _).2 ⟨(D_len_le n 40).2 h, limbs_D n, last_D n⟩
theorem okL_out {xs : List Int} (h : okL xs = true) : ∃ n, n < Top ∧ xs = D n := by
  obtain ⟨h1, h2, h3⟩ := (okL_iff _).1 h
  refine ⟨(val xs).toNat, ?_, (D_val h2 h3).symm⟩
  rw [Top, ← D_len_le, D_val h2 h3]; exact h1

theorem okL_long {xs : List Int} (h : 40 < xs.length) : okL xs = false := by
  rw [Bool.eq_false_iff]; intro hk; have := ((okL_iff _).1 hk).1; omega
theorem okL_last {xs : List Int} (h : 0 < xs.length) (hz : xs.getD (xs.length - 1) 0 = 0) : okL xs = false := by
  rw [Bool.eq_false_iff]; intro hk
  rcases ((okL_iff _).1 hk).2.2 with h0 | h0
  · rw [h0] at h; simp at h
  · exact h0 hz
theorem okL_bad {xs : List Int} (i : Nat) (hi : i < xs.length) (hb : xs.getD i 0 < 0 ∨ 10000 ≤ xs.getD i 0) : okL xs = false := by
  rw [Bool.eq_false_iff]; intro hk
  have := limbs_getD ((okL_iff _).1 hk).2.1 i
  omega
theorem limbs_of_getD {xs : List Int} (h : ∀ i, i < xs.length → 0 ≤ xs.getD i 0 ∧ xs.getD i 0 < 10000) : Limbs xs := by
  intro x hx
  obtain ⟨i, hi, rfl⟩ := List.getElem_of_mem hx
  have := h i hi
  simpa [List.getD, hi] using this
theorem okL_good {xs : List Int} (h : xs.length ≤ 40) (hb : ∀ i, i < xs.length → 0 ≤ xs.getD i 0 ∧ xs.getD i 0 < 10000) (hl : xs.length = 0 ∨ xs.getD (xs.length - 1) 0 ≠ 0) : okL xs = true := by
  refine (okL_iff _).2 ⟨h, limbs_of_getD hb, ?_⟩
  rcases hl with hl | hl
  · exact .inl (List.eq_nil_of_length_eq_zero hl)
  · exact .inr hl

/-- the order of two naturals, as a number -/
def cmpI (m n : Nat) : Int := if m < n then -1 else if m = n then 0 else 1
theorem D_len_mono {m n : Nat} (h : (D m).length < (D n).length) : m < n := by
  have h1 := (D_len_le m (D m).length).1 (Nat.le_refl _)
  have h2 := (D_len_gt n (D m).length).1 h
  omega
end Nt
