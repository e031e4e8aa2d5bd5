/-
  Math Mem MemX Base Ok Cmp Fresh TakeX MulMath DivMath High DivX in one text.
-/
import Derived.WalkKit
import Derived.WalkSpells
import Derived.WalkLawsBesides
import Derived.Lib.Hide
import Derived.Deep.Draws
import Derived.Deep.QuietTactic
import Derived.Laws.AppendOwnNone
import Derived.Laws.CopyOwn
import Derived.Test.YtifepoefeamboaaDoorRows
import Derived.BigQuiet
import Derived.Lib.SliceRun
import Derived.Deep.LoopGhost
namespace Nt

def val : List Int → Int
  | [] => 0
  | x :: xs => x + 10000 * val xs

def Limbs (xs : List Int) : Prop := ∀ x ∈ xs, 0 ≤ x ∧ x < 10000

def DF : Nat → Nat → List Int
  | 0, _ => []
  | f + 1, n => if n = 0 then [] else ((n % 10000 : Nat) : Int) :: DF f (n / 10000)

def D (n : Nat) : List Int := DF n n

theorem DF_fuel : ∀ f g n, n ≤ f → n ≤ g → DF f n = DF g n
  | 0, 0, _, _, _ => rfl
  | 0, g + 1, n, h, _ => by
    have : n = 0 := by omega
    subst this; simp [DF]
  | f + 1, 0, n, _, h => by
    have : n = 0 := by omega
    subst this; simp [DF]
  | f + 1, g + 1, n, h1, h2 => by
    unfold DF
    by_cases h : n = 0
    · simp [h]
    · simp only [h, if_false]
      rw [DF_fuel f g (n / 10000) (by omega) (by omega)]

theorem D_zero : D 0 = [] := rfl
theorem D_pos (n : Nat) (h : 0 < n) : D n = ((n % 10000 : Nat) : Int) :: D (n / 10000) := by
  unfold D
  obtain ⟨k, rfl⟩ : ∃ k, n = k + 1 := ⟨n - 1, by omega⟩
  conv => lhs; unfold DF
  rw [if_neg (by omega), DF_fuel k ((k + 1) / 10000) ((k + 1) / 10000) (by omega) (by omega)]
theorem D_nil_iff (n : Nat) : D n = [] ↔ n = 0 := by
  constructor
  · intro h
    rcases Nat.eq_zero_or_pos n with h0 | h0
    · exact h0
    · rw [D_pos n h0] at h; cases h
  · rintro rfl; rfl

theorem limbs_nil : Limbs [] := by intro x hx; cases hx
theorem limbs_cons {x : Int} {xs : List Int} : Limbs (x :: xs) ↔ (0 ≤ x ∧ x < 10000) ∧ Limbs xs := by
  unfold Limbs
  constructor
  · intro h
    exact ⟨h x (by simp), fun y hy => h y (by simp [hy])⟩
  · rintro ⟨h1, h2⟩ y hy
    rcases List.mem_cons.1 hy with rfl | hy
    · exact h1
    · exact h2 y hy
theorem limbs_append {xs ys : List Int} : Limbs (xs ++ ys) ↔ Limbs xs ∧ Limbs ys := by
  induction xs with
  | nil => simp [limbs_nil]
  | cons x xs ih => simp only [List.cons_append, limbs_cons, ih, and_assoc]
theorem limbs_take {xs : List Int} (h : Limbs xs) (k : Nat) : Limbs (xs.take k) := fun x hx => h x (List.mem_of_mem_take hx)
theorem limbs_drop {xs : List Int} (h : Limbs xs) (k : Nat) : Limbs (xs.drop k) := fun x hx => h x (List.mem_of_mem_drop hx)
theorem limbs_getD {xs : List Int} (h : Limbs xs) (i : Nat) : 0 ≤ xs.getD i 0 ∧ xs.getD i 0 < 10000 := by
  rcases Nat.lt_or_ge i xs.length with hi | hi
  · have : xs.getD i 0 = xs[i] := by simp [List.getD, hi]
    rw [this]; exact h _ (List.getElem_mem hi)
  · have : xs.getD i 0 = 0 := by simp [List.getD, hi]
    omega
theorem limbs_replicate (n : Nat) : Limbs (List.replicate n 0) := by
  intro x hx
  have := List.eq_of_mem_replicate hx
  omega
theorem limbs_set {xs : List Int} (h : Limbs xs) (i : Nat) (v : Int) (h0 : 0 ≤ v) (h1 : v < 10000) : Limbs (xs.set i v) := by
  intro x hx
  rcases List.mem_or_eq_of_mem_set hx with hx | rfl
  · exact h x hx
  · exact ⟨h0, h1⟩

theorem val_D (n : Nat) : val (D n) = n := by
  induction n using Nat.strongRecOn with
  | _ n ih =>
    rcases Nat.eq_zero_or_pos n with h | h
    · subst h; rfl
    · rw [D_pos n h, val, ih (n / 10000) (by omega)]; omega
theorem limbs_D (n : Nat) : Limbs (D n) := by
  induction n using Nat.strongRecOn with
  | _ n ih =>
    rcases Nat.eq_zero_or_pos n with h | h
    · subst h; exact limbs_nil
    · rw [D_pos n h, limbs_cons]; exact ⟨by omega, ih _ (by omega)⟩

theorem val_nonneg {xs : List Int} (h : Limbs xs) : 0 ≤ val xs := by
  induction xs with
  | nil => simp [val]
  | cons x xs ih => rw [limbs_cons] at h; have := ih h.2; simp only [val]; omega
theorem pow_succ' (k : Nat) : (10000 : Int) ^ (k + 1) = 10000 * 10000 ^ k := by rw [Int.pow_succ, Int.mul_comm]
theorem pow_pos' (k : Nat) : (0 : Int) < 10000 ^ k := Int.pow_pos (by decide)
theorem npow_pos (k : Nat) : 0 < 10000 ^ k := Nat.pow_pos (by decide)
theorem npow_cast (k : Nat) : ((10000 ^ k : Nat) : Int) = 10000 ^ k := Int.natCast_pow 10000 k
theorem val_lt {xs : List Int} (h : Limbs xs) : val xs < 10000 ^ xs.length := by
  induction xs with
  | nil => simp [val]
  | cons x xs ih =>
    rw [limbs_cons] at h
    have := ih h.2
    rw [List.length_cons, pow_succ']
    simp only [val]; omega
theorem val_append (xs ys : List Int) : val (xs ++ ys) = val xs + 10000 ^ xs.length * val ys := by
  induction xs with
  | nil => simp [val]
  | cons x xs ih =>
    rw [List.cons_append, val, ih, val, List.length_cons, pow_succ', Int.mul_add, Int.mul_assoc, Int.add_assoc]
theorem val_replicate (n : Nat) : val (List.replicate n 0) = 0 := by
  induction n with
  | zero => rfl
  | succ n ih => simp [List.replicate_succ, val, ih]
theorem val_snoc (xs : List Int) (x : Int) : val (xs ++ [x]) = val xs + 10000 ^ xs.length * x := by
  rw [val_append]; simp [val]
theorem val_take_drop (xs : List Int) (k : Nat) (h : k ≤ xs.length) : val xs = val (xs.take k) + 10000 ^ k * val (xs.drop k) := by
  conv => lhs; rw [← List.take_append_drop k xs]
  rw [val_append, List.length_take, Nat.min_eq_left h]
theorem take_snoc (xs : List Int) (k : Nat) (h : k < xs.length) : xs.take (k + 1) = xs.take k ++ [xs.getD k 0] := by
  rw [List.take_succ_eq_append_getElem h]; simp [List.getD, h]
theorem drop_cons (xs : List Int) (k : Nat) (h : k < xs.length) : xs.drop k = xs.getD k 0 :: xs.drop (k + 1) := by
  rw [List.drop_eq_getElem_cons h]; simp [List.getD, h]
theorem val_drop (xs : List Int) (k : Nat) (h : k < xs.length) : val (xs.drop k) = xs.getD k 0 + 10000 * val (xs.drop (k + 1)) := by
  rw [drop_cons xs k h, val]
theorem drop_end (xs : List Int) (k : Nat) (h : xs.length ≤ k) : xs.drop k = [] := List.drop_eq_nil_of_le h

/-- no 0 at the end -/
def Last (xs : List Int) : Prop := xs = [] ∨ xs.getD (xs.length - 1) 0 ≠ 0
theorem last_cons {x : Int} {xs : List Int} (h : xs ≠ []) : Last (x :: xs) ↔ Last xs := by
  obtain ⟨y, ys, rfl⟩ : ∃ y ys, xs = y :: ys := by
    cases xs with
    | nil => exact absurd rfl h
    | cons y ys => exact ⟨y, ys, rfl⟩
  unfold Last
  simp
theorem last_D (n : Nat) : Last (D n) := by
  induction n using Nat.strongRecOn with
  | _ n ih =>
    rcases Nat.eq_zero_or_pos n with h | h
    · subst h; exact .inl rfl
    · rw [D_pos n h]
      rcases Nat.eq_zero_or_pos (n / 10000) with h' | h'
      · rw [h', D_zero]; right; simp; omega
      · rw [last_cons (by rw [ne_eq, D_nil_iff]; omega)]; exact ih _ (by omega)
theorem D_val {xs : List Int} (h : Limbs xs) (hl : Last xs) : D (val xs).toNat = xs := by
  induction xs with
  | nil => rfl
  | cons x xs ih =>
    rw [limbs_cons] at h
    have h0 := val_nonneg h.2
    rcases Classical.em (xs = []) with rfl | hne
    · have hx : x ≠ 0 := by
        rcases hl with hl | hl
        · cases hl
        · simpa using hl
      have e : (val [x]).toNat = x.toNat := by simp [val]
      rw [e, D_pos _ (by omega), show x.toNat / 10000 = 0 from by omega, D_zero]
      congr 1; omega
    · have hl' := (last_cons hne).1 hl
      have ih' := ih h.2 hl'
      have hp : 0 < val xs := by
        rcases Int.lt_or_eq_of_le h0 with h1 | h1
        · exact h1
        · rw [← h1] at ih'; exact absurd ih'.symm hne
      rw [show (val (x :: xs)).toNat = x.toNat + 10000 * (val xs).toNat from by simp only [val]; omega, D_pos _ (by omega)]
      rw [show (x.toNat + 10000 * (val xs).toNat) / 10000 = (val xs).toNat from by omega, ih']
      congr 1; omega
theorem D_drop (n i : Nat) : (D n).drop i = D (n / 10000 ^ i) := by
  induction i generalizing n with
  | zero => simp
  | succ i ih =>
    rcases Nat.eq_zero_or_pos n with h | h
    · subst h; simp [D_zero]
    · rw [D_pos n h, List.drop_succ_cons, ih, Nat.div_div_eq_div_mul, Nat.pow_succ, Nat.mul_comm]
theorem D_len_le (n k : Nat) : (D n).length ≤ k ↔ n < 10000 ^ k := by
  have h : (D n).length ≤ k ↔ (D n).drop k = [] := by simp
  rw [h, D_drop, D_nil_iff, Nat.div_eq_zero_iff]
  have := npow_pos k
  omega
theorem D_len_gt (n k : Nat) : k < (D n).length ↔ 10000 ^ k ≤ n := by have := D_len_le n k; omega
theorem D_getD (n i : Nat) : (D n).getD i 0 = ((n / 10000 ^ i % 10000 : Nat) : Int) := by
  have h : (D n).getD i 0 = ((D n).drop i).getD 0 0 := by simp [List.getD]
  rw [h, D_drop]
  rcases Nat.eq_zero_or_pos (n / 10000 ^ i) with h | h
  · rw [h]; rfl
  · rw [D_pos _ h]; rfl
theorem D_inj {m n : Nat} (h : D m = D n) : m = n := by
  have := congrArg val h
  rw [val_D, val_D] at this
  omega
/-- what is trimmed -/
theorem trim_D {xs : List Int} (h : Limbs xs) (k : Nat) (hk : k ≤ xs.length) (hz : ∀ i, k ≤ i → i < xs.length → xs.getD i 0 = 0) (hl : k = 0 ∨ xs.getD (k - 1) 0 ≠ 0) :
    xs.take k = D (val xs).toNat := by
  have hd : val (xs.drop k) = 0 := by
    have : xs.drop k = List.replicate (xs.length - k) 0 := by
      apply List.ext_getElem
      · simp
      · intro i h1 h2
        have h3 : k + i < xs.length := by simp at h1; omega
        have := hz (k + i) (by omega) h3
        simp [List.getD, h3] at this
        simpa using this
    rw [this, val_replicate]
  have hv : val xs = val (xs.take k) := by rw [val_take_drop xs k hk, hd]; simp
  rw [hv]
  refine (D_val (limbs_take h k) ?_).symm
  rcases hl with rfl | hl
  · left; rfl
  · rcases Nat.eq_zero_or_pos k with h0 | h0
    · subst h0; left; rfl
    · right
      rw [List.length_take, Nat.min_eq_left hk]
      have hk' : k - 1 < xs.length := by omega
      have hk'' : k - 1 < k := by omega
      simpa [List.getD, List.getElem?_take, hk''] using hl

def natOf (xs : List Int) : Nat := (val xs).toNat
theorem natOf_D (n : Nat) : natOf (D n) = n := by unfold natOf; rw [val_D]; rfl
theorem natOf_val {xs : List Int} (h : Limbs xs) : (natOf xs : Int) = val xs := by unfold natOf; have := val_nonneg h; omega
theorem trim_len_le {xs : List Int} (h : Limbs xs) : (D (natOf xs)).length ≤ xs.length := by
  rw [D_len_le]
  have h1 := val_lt h
  have h2 := natOf_val h
  have e := npow_cast xs.length
  omega
theorem trim_take {xs : List Int} (h : Limbs xs) (k : Nat) (hk : k ≤ xs.length) (hz : ∀ i, k ≤ i → i < xs.length → xs.getD i 0 = 0) (hl : k = 0 ∨ xs.getD (k - 1) 0 ≠ 0) : k = (D (natOf xs)).length := by
  have := congrArg List.length (trim_D h k hk hz hl)
  rw [List.length_take, Nat.min_eq_left hk] at this
  exact this
theorem take_trim {xs : List Int} (h : Limbs xs) : xs.take (D (natOf xs)).length = D (natOf xs) := by
  have ex : ∀ n, n ≤ xs.length → (∀ i, n ≤ i → i < xs.length → xs.getD i 0 = 0) → ∃ k, k ≤ xs.length ∧ (∀ i, k ≤ i → i < xs.length → xs.getD i 0 = 0) ∧ (k = 0 ∨ xs.getD (k - 1) 0 ≠ 0) := by
    intro n
    induction n with
    | zero => intro _ hz; exact ⟨0, by omega, hz, .inl rfl⟩
    | succ n ih =>
      intro hn hz
      by_cases h0 : xs.getD n 0 = 0
      · exact ih (by omega) (fun i h1 h2 => by
          by_cases hi : i = n
          · subst hi; exact h0
          · exact hz i (by omega) h2)
      · exact ⟨n + 1, hn, hz, .inr (by simpa using h0)⟩
  obtain ⟨k, hk, hz, hl⟩ := ex xs.length (Nat.le_refl _) (fun i h1 h2 => absurd h1 (by omega))
  rw [← trim_take h k hk hz hl]
  exact trim_D h k hk hz hl

/-- what stands from a place on -/
def vd (xs : List Int) (k : Nat) : Int := val (xs.drop k)
theorem vd_zero (xs : List Int) : vd xs 0 = val xs := rfl
theorem vd_end (xs : List Int) (k : Nat) (h : xs.length ≤ k) : vd xs k = 0 := by unfold vd; rw [drop_end xs k h]; rfl
theorem vd_step (xs : List Int) (k : Nat) : vd xs k = xs.getD k 0 + 10000 * vd xs (k + 1) := by
  rcases Nat.lt_or_ge k xs.length with h | h
  · exact val_drop xs k h
  · rw [vd_end xs k h, vd_end xs (k + 1) (by omega)]
    have : xs.getD k 0 = 0 := by simp [List.getD, h]
    omega
theorem vd_nonneg {xs : List Int} (h : Limbs xs) (k : Nat) : 0 ≤ vd xs k := val_nonneg (limbs_drop h k)
theorem pow_step (P a b : Int) : P * a + (10000 * P) * b = P * (a + 10000 * b) := by
  rw [Int.mul_add, Int.mul_comm 10000 P, Int.mul_assoc]
theorem add_step (xs ys out : List Int) (k : Nat) (q : Int) (hl : out.length = k) :
    val (out ++ [(xs.getD k 0 + q + ys.getD k 0) % 10000]) + 10000 ^ (k + 1) * ((xs.getD k 0 + q + ys.getD k 0) / 10000 + vd xs (k + 1) + vd ys (k + 1)) = val out + 10000 ^ k * (q + vd xs k + vd ys k) := by
  rw [val_snoc, hl, pow_succ', Int.add_assoc, pow_step, vd_step xs k, vd_step ys k]
  generalize vd xs (k + 1) = u
  generalize vd ys (k + 1) = v
  generalize xs.getD k 0 = x
  generalize ys.getD k 0 = y
  rw [show (x + q + y) % 10000 + 10000 * ((x + q + y) / 10000 + u + v) = q + (x + 10000 * u) + (y + 10000 * v) from by omega]
/-- one limb of a difference: x less what is taken, and the next borrow -/
theorem take_step (xs ys out : List Int) (k : Nat) (q times left borrow : Int) (hl : out.length = k) (hx : xs.getD k 0 - (q + ys.getD k 0 * times) = left - 10000 * borrow) :
    val (out ++ [left]) + 10000 ^ (k + 1) * (vd xs (k + 1) - borrow - vd ys (k + 1) * times) = val out + 10000 ^ k * (vd xs k - q - vd ys k * times) := by
  rw [val_snoc, hl, pow_succ', Int.add_assoc, pow_step, vd_step xs k, vd_step ys k, Int.add_mul, Int.mul_assoc]
  generalize vd xs (k + 1) = u at *
  generalize vd ys (k + 1) * times = v at *
  generalize ys.getD k 0 * times = y at *
  generalize xs.getD k 0 = x at *
  rw [show left + 10000 * (u - borrow - v) = x + 10000 * u - q - (y + 10000 * v) from by omega]
theorem take_end {v P z r : Int} (h0 : v < P) (hP : 0 < P) (hz : 0 ≤ z) (hr : 0 ≤ r) (h : v + P * (0 - z) = r) : z = 0 := by
  rcases Int.lt_or_eq_of_le hz with h1 | h1
  · have : P * (0 - z) ≤ P * (-1) := Int.mul_le_mul_of_nonneg_left (by omega) (by omega)
    omega
  · omega
theorem limb_times {y t : Int} (h0 : 0 ≤ y) (h1 : y < 10000) (h2 : 0 ≤ t) (h3 : t ≤ 10000) : 0 ≤ y * t ∧ y * t ≤ 99990000 := by
  refine ⟨Int.mul_nonneg h0 h2, ?_⟩
  have := Int.mul_le_mul (show y ≤ 9999 by omega) h3 h2 (by omega)
  omega
def fitL (xs : List Int) : List Int := if xs.length ≤ 40 then xs else []
def fitC (xs : List Int) : Int := if xs.length ≤ 40 then 0 else 7

/-- what is left of a natural from a place on -/
def dv (m k : Nat) : Nat := m / 10000 ^ k
theorem dv_zero (m : Nat) : dv m 0 = m := by simp [dv]
theorem dv_pos (m k : Nat) : 0 < dv m k ↔ k < (D m).length := by
  rw [D_len_gt]
  unfold dv
  rw [Nat.div_pos_iff]
  have := npow_pos k
  omega
theorem dv_step (m k : Nat) : ((dv m k : Nat) : Int) = (D m).getD k 0 + 10000 * (dv m (k + 1) : Nat) := by
  rw [D_getD]
  have h : dv m (k + 1) = dv m k / 10000 := by unfold dv; rw [Nat.pow_succ, Nat.div_div_eq_div_mul]
  rw [h]
  show ((dv m k : Nat) : Int) = ((dv m k % 10000 : Nat) : Int) + _
  omega
theorem add_round (m n k c : Nat) (h : 0 < c + dv m k + dv n k) :
    D (c + dv m k + dv n k) = (((c : Int) + (D m).getD k 0 + (D n).getD k 0) % 10000) :: D ((((c : Int) + (D m).getD k 0 + (D n).getD k 0) / 10000).toNat + dv m (k + 1) + dv n (k + 1)) := by
  rw [D_pos _ h]
  have h1 := dv_step m k
  have h2 := dv_step n k
  have h3 := limbs_getD (limbs_D m) k
  have h4 := limbs_getD (limbs_D n) k
  generalize (D m).getD k 0 = x at *
  generalize (D n).getD k 0 = y at *
  congr 1
  · omega
  · congr 1; omega

/-- the greatest natural that fits, and one more -/
def Top : Nat := 10000 ^ 40
def okL (xs : List Int) : Bool := decide (xs.length ≤ 40) && (xs.all fun x => decide (0 ≤ x) && decide (x < 10000)) && (xs.isEmpty || decide (xs.getD (xs.length - 1) 0 ≠ 0))
theorem okL_iff (xs : List Int) : okL xs = true ↔ xs.length ≤ 40 ∧ Limbs xs ∧ Last xs := by
  unfold okL Limbs Last
  simp only [Bool.and_eq_true, Bool.or_eq_true, decide_eq_true_eq, List.all_eq_true, List.isEmpty_iff, and_assoc]
theorem okL_D (n : Nat) (h : n < Top) : okL (D n) = true := (okL_iff _).2 ⟨(D_len_le n 40).2 h, limbs_D n, last_D n⟩
theorem okL_out {xs : List Int} (h : okL xs = true) : ∃ n, n < Top ∧ xs = D n := by
  obtain ⟨h1, h2, h3⟩ := (okL_iff _).1 h
  refine ⟨(val xs).toNat, ?_, (D_val h2 h3).symm⟩
  rw [Top, ← D_len_le, D_val h2 h3]; exact h1

theorem okL_long {xs : List Int} (h : 40 < xs.length) : okL xs = false := by
  rw [Bool.eq_false_iff]; intro hk; have := ((okL_iff _).1 hk).1; omega
theorem okL_last {xs : List Int} (h : 0 < xs.length) (hz : xs.getD (xs.length - 1) 0 = 0) : okL xs = false := by
  rw [Bool.eq_false_iff]; intro hk
  rcases ((okL_iff _).1 hk).2.2 with h0 | h0
  · rw [h0] at h; simp at h
  · exact h0 hz
theorem okL_bad {xs : List Int} (i : Nat) (_hi : i < xs.length) (hb : xs.getD i 0 < 0 ∨ 10000 ≤ xs.getD i 0) : okL xs = false := by
  rw [Bool.eq_false_iff]; intro hk
  have := limbs_getD ((okL_iff _).1 hk).2.1 i
  omega
theorem limbs_of_getD {xs : List Int} (h : ∀ i, i < xs.length → 0 ≤ xs.getD i 0 ∧ xs.getD i 0 < 10000) : Limbs xs := by
  intro x hx
  obtain ⟨i, hi, rfl⟩ := List.getElem_of_mem hx
  have := h i hi
  simpa [List.getD, hi] using this
theorem okL_good {xs : List Int} (h : xs.length ≤ 40) (hb : ∀ i, i < xs.length → 0 ≤ xs.getD i 0 ∧ xs.getD i 0 < 10000) (hl : xs.length = 0 ∨ xs.getD (xs.length - 1) 0 ≠ 0) : okL xs = true := by
  refine (okL_iff _).2 ⟨h, limbs_of_getD hb, ?_⟩
  rcases hl with hl | hl
  · exact .inl (List.eq_nil_of_length_eq_zero hl)
  · exact .inr hl

theorem top_add {m n : Nat} (hm : m < Top) (hn : n < Top) : m + n < 10000 ^ 41 := by
  have : 10000 ^ 41 = 10000 * Top := by unfold Top; rw [Nat.pow_succ, Nat.mul_comm]
  rw [this]; omega
theorem top_mul {m n : Nat} (hm : m < Top) (hn : n < Top) : m * n < 10000 ^ 80 := by
  have : 10000 ^ 80 = Top * Top := by unfold Top; rw [← Nat.pow_add]
  rw [this]; exact Nat.mul_lt_mul'' hm hn
/-- the order of two naturals, as a number -/
def cmpI (m n : Nat) : Int := if m < n then -1 else if m = n then 0 else 1
theorem D_len_mono {m n : Nat} (h : (D m).length < (D n).length) : m < n := by
  have h1 := (D_len_le m (D m).length).1 (Nat.le_refl _)
  have h2 := (D_len_gt n (D m).length).1 h
  omega
theorem cmpI_lt {m n : Nat} (h : m < n) : cmpI m n = -1 := by unfold cmpI; rw [if_pos h]
theorem cmpI_ge {m n : Nat} (h : ¬ m < n) : 0 ≤ cmpI m n ∧ cmpI m n ≤ 1 := by unfold cmpI; rw [if_neg h]; split <;> omega
def subL (m n : Nat) : List Int := if m < n then [] else D (m - n)
def subC (m n : Nat) : Int := if m < n then 11 else 0
theorem subL_lt {m n : Nat} (h : m < n) : subL m n = [] ∧ subC m n = 11 := by unfold subL subC; rw [if_pos h, if_pos h]; exact ⟨rfl, rfl⟩
theorem subL_ge {m n : Nat} (h : ¬ m < n) : subL m n = D (m - n) ∧ subC m n = 0 := by unfold subL subC; rw [if_neg h, if_neg h]; exact ⟨rfl, rfl⟩
theorem fit_D {m : Nat} (h : m < Top) : fitL (D m) = D m ∧ fitC (D m) = 0 := by
  have := (D_len_le m 40).2 h
  unfold fitL fitC; rw [if_pos this, if_pos this]; exact ⟨rfl, rfl⟩
theorem subL_len {m n : Nat} (h : m < Top) : (subL m n).length ≤ 40 := by
  unfold subL
  split
  · simp
  · exact (D_len_le _ 40).2 (by unfold Top at h; omega)
/-- the order of two numbers, as a number -/
def cmpZ (a b : Int) : Int := if a < b then -1 else if b < a then 1 else 0
theorem cmpZ_nat (m n : Nat) : cmpZ m n = cmpI m n := by
  unfold cmpZ cmpI
  by_cases h : m < n
  · rw [if_pos (by omega), if_pos h]
  · rw [if_neg (by omega), if_neg h]
    by_cases h2 : m = n
    · rw [if_neg (by omega), if_pos h2]
    · rw [if_pos (by omega), if_neg h2]
theorem cmp_len {m n : Nat} (h : (D m).length ≠ (D n).length) : cmpZ ((D m).length : Nat) ((D n).length : Nat) = cmpI m n := by
  rw [cmpZ_nat]
  rcases Nat.lt_or_gt_of_ne h with h1 | h1
  · have := D_len_mono h1
    unfold cmpI; rw [if_pos h1, if_pos this]
  · have := D_len_mono h1
    unfold cmpI; rw [if_neg (by omega), if_neg (by omega), if_neg (by omega), if_neg (by omega)]
theorem val_cmp {xs ys : List Int} (hx : Limbs xs) (hy : Limbs ys) (hl : xs.length = ys.length) (k : Nat) (hk : k < xs.length)
    (hd : ∀ j, k < j → j < xs.length → xs.getD j 0 = ys.getD j 0) (hlt : xs.getD k 0 < ys.getD k 0) : val xs < val ys := by
  have e1 := val_take_drop xs k (by omega)
  have e2 := val_take_drop ys k (by omega)
  rw [val_drop xs k hk] at e1
  rw [val_drop ys k (by omega)] at e2
  have e3 : xs.drop (k + 1) = ys.drop (k + 1) := by
    apply List.ext_getElem
    · simp [hl]
    · intro i h1 h2
      have h3 : k + 1 + i < xs.length := by simp at h1; omega
      have := hd (k + 1 + i) (by omega) h3
      have h4 : k + 1 + i < ys.length := by omega
      simp [List.getD, h3, h4] at this
      simpa using this
  rw [e3] at e1
  have b1 := val_lt (limbs_take hx k)
  rw [List.length_take, Nat.min_eq_left (by omega)] at b1
  have b2 := val_nonneg (limbs_take hy k)
  generalize val (ys.drop (k + 1)) = r at *
  have p := pow_pos' k
  generalize (10000 : Int) ^ k = q at *
  have h5 : q * (xs.getD k 0 + 10000 * r) + q ≤ q * (ys.getD k 0 + 10000 * r) := by
    have : q * (xs.getD k 0 + 10000 * r) + q = q * (xs.getD k 0 + 10000 * r + 1) := by rw [Int.mul_add q (xs.getD k 0 + 10000 * r) 1, Int.mul_one]
    rw [this]
    exact Int.mul_le_mul_of_nonneg_left (by omega) (by omega)
  omega
theorem D_cmp {m n : Nat} (hl : (D m).length = (D n).length) (k : Nat) (hk : k < (D m).length)
    (hd : ∀ j, k < j → j < (D m).length → (D m).getD j 0 = (D n).getD j 0) (hne : (D m).getD k 0 ≠ (D n).getD k 0) : cmpZ ((D m).getD k 0) ((D n).getD k 0) = cmpI m n := by
  rcases Int.lt_or_gt_of_ne hne with h | h
  · have := val_cmp (limbs_D m) (limbs_D n) hl k hk hd h
    rw [val_D, val_D] at this
    unfold cmpZ cmpI; rw [if_pos h, if_pos (by omega)]
  · have := val_cmp (limbs_D n) (limbs_D m) hl.symm k (by omega) (fun j h1 h2 => (hd j h1 (by omega)).symm) h
    rw [val_D, val_D] at this
    unfold cmpZ cmpI; rw [if_neg (by omega), if_pos h, if_neg (by omega), if_neg (by omega)]
theorem D_same {m n : Nat} (hl : (D m).length = (D n).length) (hd : ∀ j, j < (D m).length → (D m).getD j 0 = (D n).getD j 0) : cmpI m n = 0 := by
  have : D m = D n := by
    apply List.ext_getElem hl
    intro i h1 h2
    have := hd i h1
    simpa [List.getD, h1, h2] using this
  have := D_inj this
  unfold cmpI; rw [if_neg (by omega), if_pos this]

/-- the code of lists that are asked of -/
def codeL (xss : List (List Int)) : Int := if (xss.all fun xs => decide (xs.length ≤ 4096)) = true then (if xss.all okL = true then 0 else 1) else 2
theorem codeL_long {N : Nat} {xss : Nat → List Int} (k : Nat) (hk : k < N) (h : 4096 < (xss k).length) : codeL ((List.range N).map xss) = 2 := by
  unfold codeL
  rw [if_neg]
  intro hh
  rw [List.all_eq_true] at hh
  have := hh (xss k) (List.mem_map.2 ⟨k, by simpa using hk, rfl⟩)
  simp at this
  omega
theorem codeL_bad {N : Nat} {xss : Nat → List Int} (hs : ∀ j, j < N → (xss j).length ≤ 4096) (k : Nat) (hk : k < N) (h : okL (xss k) = false) : codeL ((List.range N).map xss) = 1 := by
  unfold codeL
  rw [if_pos, if_neg]
  · intro hh
    rw [List.all_eq_true] at hh
    have := hh (xss k) (List.mem_map.2 ⟨k, by simpa using hk, rfl⟩)
    rw [h] at this; cases this
  · rw [List.all_eq_true]
    intro x hx
    obtain ⟨j, hj, rfl⟩ := List.mem_map.1 hx
    simpa using hs j (by simpa using hj)
theorem codeL_good {N : Nat} {xss : Nat → List Int} (hs : ∀ j, j < N → (xss j).length ≤ 4096) (h : ∀ j, j < N → okL (xss j) = true) : codeL ((List.range N).map xss) = 0 := by
  unfold codeL
  rw [if_pos, if_pos]
  · rw [List.all_eq_true]
    intro x hx
    obtain ⟨j, hj, rfl⟩ := List.mem_map.1 hx
    exact h j (by simpa using hj)
  · rw [List.all_eq_true]
    intro x hx
    obtain ⟨j, hj, rfl⟩ := List.mem_map.1 hx
    simpa using hs j (by simpa using hj)
theorem codeL_bd (xss : List (List Int)) : 0 ≤ codeL xss ∧ codeL xss ≤ 2 := by
  unfold codeL; repeat (first | split | omega)
theorem codeL2_ok {xs ys : List Int} (h : codeL [xs, ys] = 0) : ∃ m n, m < Top ∧ n < Top ∧ xs = D m ∧ ys = D n := by
  unfold codeL at h
  split at h
  · split at h
    · rename_i _ h2
      simp only [List.all_cons, List.all_nil, Bool.and_true, Bool.and_eq_true] at h2
      obtain ⟨m, hm, e1⟩ := okL_out h2.1
      obtain ⟨n, hn, e2⟩ := okL_out h2.2
      exact ⟨m, n, hm, hn, e1, e2⟩
    · cases h
  · cases h
theorem codeL1_ok {xs : List Int} (h : codeL [xs] = 0) : ∃ m, m < Top ∧ xs = D m := by
  unfold codeL at h
  split at h
  · split at h
    · rename_i _ h2
      simp only [List.all_cons, List.all_nil, Bool.and_true] at h2
      exact okL_out h2
    · cases h
  · cases h
/-- a bit as a number -/
def bitZ (b : Bool) : Int := if b = true then 1 else 0
theorem bit_cmp (x y : Int) (h : x ≠ y) : 2 * bitZ (decide (y < x)) - 1 = cmpZ x y := by
  unfold bitZ cmpZ
  by_cases h1 : y < x
  · rw [if_pos (by simpa using h1), if_neg (by omega), if_pos h1]; rfl
  · rw [if_neg (by simpa using h1), if_pos (by omega)]; rfl
end Nt
namespace Nt
open Go Go.RowKit

/-- the slice value '.slice A n c' reads as the numbers xs; its block is one of P -/
def Rd (w : World) (P : Nat → Prop) (A : Option Addr) (n c : Nat) (xs : List Int) : Prop :=
  xs.length = n ∧ n ≤ c ∧ (A = none → c = 0) ∧ (0 < n → ∃ b o, A = some ⟨b, o, none⟩ ∧ P b ∧ b < w.heap.size ∧ ∀ i, i < n → w.cell? ⟨b, o + i, none⟩ = some (.int .i64 (xs.getD i 0)))

theorem Rd.at_ {w : World} {P : Nat → Prop} {A : Option Addr} {n c : Nat} {xs : List Int} (h : Rd w P A n c xs) (hn : 0 < n) :
    ∃ b o, A = some ⟨b, o, none⟩ ∧ P b ∧ b < w.heap.size ∧ ∀ i, i < n → w.cell? ⟨b, o + i, none⟩ = some (.int .i64 (xs.getD i 0)) := h.2.2.2 hn
theorem Rd.len {w : World} {P : Nat → Prop} {A : Option Addr} {n c : Nat} {xs : List Int} (h : Rd w P A n c xs) : xs.length = n := h.1
theorem Rd.cap {w : World} {P : Nat → Prop} {A : Option Addr} {n c : Nat} {xs : List Int} (h : Rd w P A n c xs) : n ≤ c := h.2.1
theorem Rd.keep {w w' : World} {P : Nat → Prop} {A : Option Addr} {n c : Nat} {xs : List Int} (h : Rd w P A n c xs) (hs : w.heap.size ≤ w'.heap.size)
    (hk : ∀ b, P b → b < w.heap.size → w'.heap[b]? = w.heap[b]?) : Rd w' P A n c xs :=
  ⟨h.1, h.2.1, h.2.2.1, fun hn => by
    obtain ⟨b, o, e, hp, hlt, hc⟩ := h.2.2.2 hn
    exact ⟨b, o, e, hp, by omega, fun i hi => (World.cell?_of_block (a := ⟨b, o + i, none⟩) (hk b hp hlt)).trans (hc i hi)⟩⟩
theorem Rd.mono {w : World} {P Q : Nat → Prop} {A : Option Addr} {n c : Nat} {xs : List Int} (h : Rd w P A n c xs) (hpq : ∀ b, P b → b < w.heap.size → Q b) : Rd w Q A n c xs :=
  ⟨h.1, h.2.1, h.2.2.1, fun hn => by
    obtain ⟨b, o, e, hp, hlt, hc⟩ := h.2.2.2 hn
    exact ⟨b, o, e, hpq b hp hlt, hlt, hc⟩⟩
theorem Rd.nil_ (w : World) (P : Nat → Prop) (A : Option Addr) (c : Nat) (hA : A = none → c = 0) : Rd w P A 0 c [] := ⟨rfl, Nat.zero_le _, hA, fun h => absurd h (by omega)⟩
theorem Rd.below {w w' : World} {B : Nat} {A : Option Addr} {n c : Nat} {xs : List Int} (h : Rd w (· < B) A n c xs) (hb : Below B w w') : Rd w' (· < B) A n c xs :=
  h.keep hb.size fun b hp _ => hb.block b hp
theorem Rd.drew {w : World} {P : Nat → Prop} {A : Option Addr} {n c : Nat} {xs : List Int} (h : Rd w P A n c xs) : Rd w.drew P A n c xs := h
theorem Rd.drewN {w : World} {P : Nat → Prop} {A : Option Addr} {n c : Nat} {xs : List Int} (h : Rd w P A n c xs) (k : Nat) : Rd (w.drewN k) P A n c xs := h

/-- numbers as cells; noughts -/
def cellsOf (xs : List Int) : Array Value := (xs.map (Value.int .i64)).toArray
def zeros (n : Nat) : List Int := List.replicate n 0
theorem zeros_len (n : Nat) : (zeros n).length = n := by simp [zeros]
theorem zeros_limbs (n : Nat) : Limbs (zeros n) := limbs_replicate n
theorem zeros_val (n : Nat) : val (zeros n) = 0 := val_replicate n
theorem zeros_getD (n i : Nat) : (zeros n).getD i 0 = 0 := by
  unfold zeros
  rcases Nat.lt_or_ge i n with h | h
  · simp [List.getD, h]
  · simp [List.getD, h]
theorem set_zeros (out : List Int) (k m : Nat) (x : Int) (hk : out.length = k) (hm : 0 < m) : (out ++ zeros m).set k x = (out ++ [x]) ++ zeros (m - 1) := by
  obtain ⟨m, rfl⟩ : ∃ j, m = j + 1 := ⟨m - 1, by omega⟩
  subst hk
  simp [zeros, List.replicate_succ]
theorem cellsOf_get (xs : List Int) (i : Nat) (hi : i < xs.length) : (cellsOf xs)[i]? = some (.int .i64 (xs.getD i 0)) := by simp [cellsOf, List.getD, hi]
theorem cellsOf_size (xs : List Int) : (cellsOf xs).size = xs.length := by simp [cellsOf]

/-- block g is just the numbers xs, none frozen -/
def Arr (w : World) (g : Nat) (t : TypeId) (xs : List Int) : Prop := w.heap[g]? = some (.cells (cellsOf xs) t (0, 0))

theorem Arr.lt {w : World} {g : Nat} {t : TypeId} {xs : List Int} (h : Arr w g t xs) : g < w.heap.size := by
  rcases Nat.lt_or_ge g w.heap.size with hlt | hge
  · exact hlt
  · unfold Arr at h; rw [Array.getElem?_eq_none hge] at h; cases h
theorem Arr.cell {w : World} {g : Nat} {t : TypeId} {xs : List Int} (h : Arr w g t xs) (i : Nat) (hi : i < xs.length) : w.cell? ⟨g, i, none⟩ = some (.int .i64 (xs.getD i 0)) := by
  rw [cell_of_row w g i _ t (0, 0) h, cellsOf_get xs i hi]
theorem Arr.frozen {w : World} {g : Nat} {t : TypeId} {xs : List Int} (h : Arr w g t xs) (i : Nat) : w.frozen? ⟨g, i, none⟩ = false := frozen_of_row w g i _ t h
theorem Arr.keep {w w' : World} {g : Nat} {t : TypeId} {xs : List Int} (h : Arr w g t xs) (hk : w'.heap[g]? = w.heap[g]?) : Arr w' g t xs := hk.trans h
theorem Arr.set_ {w : World} {g : Nat} {t : TypeId} {xs : List Int} (h : Arr w g t xs) (i : Nat) (v : Int) : Arr (w.setCell ⟨g, i, none⟩ (.int .i64 v)) g t (xs.set i v) := by
  unfold Arr at h ⊢
  rw [heap_setCell_same w g i _ t _ h]
  simp [cellsOf, List.map_set]
theorem Arr.rd {w : World} {g : Nat} {t : TypeId} {xs : List Int} (h : Arr w g t xs) (P : Nat → Prop) (hP : P g) (o n c : Nat) (hn : o + n ≤ xs.length) (hc : n ≤ c) :
    Rd w P (some ⟨g, o, none⟩) n c ((xs.drop o).take n) :=
  ⟨by simp; omega, hc, (fun h => by cases h), fun _ => ⟨g, o, rfl, hP, h.lt, fun i hi => by
    rw [h.cell (o + i) (by omega)]
    simp [List.getD, hi]⟩⟩
theorem Arr.rd_all {w : World} {g : Nat} {t : TypeId} {xs : List Int} (h : Arr w g t xs) (P : Nat → Prop) (hP : P g) (n c : Nat) (hn : n = xs.length) (hc : n ≤ c) :
    Rd w P (some ⟨g, 0, none⟩) n c xs := by
  have := h.rd P hP 0 n c (by omega) hc
  simpa [hn] using this
theorem Arr.new (w : World) (t : TypeId) (xs : List Int) : Arr (w.alloc (.cells (cellsOf xs) t)) w.heap.size t xs := heap_alloc_new w _

/-- a row of the call's own, whose numbers are xs -/
theorem own_rd {w : World} {base n : Nat} {e : TypeId} {v : Value} {xs : List Int} (h : w.ownsRow base e 1 v n (xs.map (Value.int .i64))) :
    ∃ A c, v = .slice A n c ∧ Rd w (base ≤ ·) A n c xs := by
  have hlen : xs.length = n := by have := h.1; simpa using this
  rcases h.2 with ⟨rfl, rfl⟩ | ⟨g, cap, cur, rfl, hb, hh, hnc, _, _, ht⟩
  · have : xs = [] := List.eq_nil_of_length_eq_zero hlen
    subst this
    exact ⟨_, _, rfl, Rd.nil_ _ _ _ _ (fun _ => rfl)⟩
  · refine ⟨_, _, rfl, hlen, hnc, (fun h => by cases h), fun hn => ⟨g, 0, rfl, hb, ?_, fun i hi => ?_⟩⟩
    · rcases Nat.lt_or_ge g w.heap.size with hlt | hge
      · exact hlt
      · rw [Array.getElem?_eq_none hge] at hh; cases hh
    · rw [h.cellAt _ (by omega)]
      simp [List.getD, hlen, hi]

theorem own_rd' {w : World} {base n c : Nat} {e : TypeId} {A : Option Addr} {xs : List Int} (h : w.ownsRow base e 1 (.slice A n c) n (xs.map (Value.int .i64))) : Rd w (base ≤ ·) A n c xs := by
  obtain ⟨A', c', e', hr⟩ := own_rd h
  injection e' with e1 _ e3
  subst e1 e3
  exact hr
theorem Arr.own {w : World} {g : Nat} {t : TypeId} {xs : List Int} (h : Arr w g t xs) (base : Nat) (hb : base ≤ g) (n c : Nat) (hn : n = xs.length) (hc : c = n) (hm : n ≤ maxLen) : w.ownsRow base t 1 (.slice (some ⟨g, 0, none⟩) n c) n (xs.map (Value.int .i64)) := by
  subst hc hn
  exact ⟨by simp, .inr ⟨g, xs.length, _, rfl, hb, h, Nat.le_refl _, hm, by simp [cellsOf], by simp [cellsOf, List.take_of_length_le]⟩⟩
theorem own_at {w : World} {base n c : Nat} {e : TypeId} {A : Option Addr} {xs : List Value} (h : w.ownsRow base e 1 (.slice A n c) n xs) (hn : 0 < n) : ∃ g, A = some ⟨g, 0, none⟩ ∧ base ≤ g ∧ g < w.heap.size := by
  rcases h.2 with ⟨_, h0⟩ | ⟨g, cap, cur, e', hb, hh, _⟩
  · omega
  · injection e' with e1
    refine ⟨g, e1, hb, ?_⟩
    rcases Nat.lt_or_ge g w.heap.size with hlt | hge
    · exact hlt
    · rw [Array.getElem?_eq_none hge] at hh; cases hh
theorem own_mono {w : World} {base base' n : Nat} {e : TypeId} {v : Value} {xs : List Value} (h : w.ownsRow base e 1 v n xs) (hb : base' ≤ base) : w.ownsRow base' e 1 v n xs := by
  rcases h with ⟨h1, h2 | ⟨g, cap, cur, e', hg, h3⟩⟩
  · exact ⟨h1, .inl h2⟩
  · exact ⟨h1, .inr ⟨g, cap, cur, e', Nat.le_trans hb hg, h3⟩⟩
theorem own_lt {w : World} {base n c : Nat} {e : TypeId} {A : Option Addr} {xs : List Value} (h : w.ownsRow base e 1 (.slice A n c) n xs) : ∀ g, (Value.slice A n c).ownBlock = some g → base ≤ g ∧ g < w.heap.size := fun g hg => h.lt g hg
theorem own_keep {w w' : World} {base n c : Nat} {e : TypeId} {A : Option Addr} {xs : List Value} (h : w.ownsRow base e 1 (.slice A n c) n xs) (hb : Below w.heap.size w w') : w'.ownsRow base e 1 (.slice A n c) n xs := by
  refine h.kept (row := none) ⟨hb.os, hb.tape, hb.output, hb.size, fun k hk _ => hb.block k hk⟩ ?_
  cases hA : (Value.slice A n c).ownBlock with
  | none => exact .inl rfl
  | some g => exact .inr (by simp)
theorem own_other {w w' : World} {base n c g : Nat} {e : TypeId} {A : Option Addr} {xs : List Value} (h : w.ownsRow base e 1 (.slice A n c) n xs) (hg : w.grownBy w' (some g)) (hne : g < base) : w'.ownsRow base e 1 (.slice A n c) n xs := by
  refine h.kept hg ?_
  cases hA : (Value.slice A n c).ownBlock with
  | none => exact .inl rfl
  | some k => exact .inr (fun e => by injection e with e; have := (h.lt k hA).1; omega)
/-- the marks that the laws write: k, k + 1, .. -/
def marks (k : Int) (n : Nat) : List Int := (List.range n).map fun i => k + (i : Nat)
theorem marks_len (k : Int) (n : Nat) : (marks k n).length = n := by simp [marks]
theorem marks_getD (k : Int) (n i : Nat) (h : i < n) : (marks k n).getD i 0 = k + i := by simp [marks, List.getD, h]
theorem marks_step (k : Int) (xs : List Int) (i : Nat) (h : i < xs.length) : (marks k i ++ xs.drop i).set i (k + i) = marks k (i + 1) ++ xs.drop (i + 1) := by
  rw [drop_cons xs i h]
  have hl := marks_len k i
  rw [List.set_append_right _ _ (by omega), hl, Nat.sub_self, List.set_cons_zero]
  simp [marks, List.range_succ]
/-- make([]int, n) -/
theorem run_make_ints {P : Program} (t e : TypeId) (ht : P.underlying t = some (.slice e)) (hi : (P.info? e).map (fun i => (i.zero, i.size, i.bytes)) = some (some (.int .i64 0), 1, 8)) (n : Nat) (hn : n ≤ 16777216) (w : World) :
    (Instr.makeSlice t (.int .i64 (n : Int)) (.int .i64 (n : Int))).run P w = .ok (.slice (some ⟨w.heap.size, 0, none⟩) n n) (w.alloc (.cells (cellsOf (zeros n)) e)) := by
  obtain ⟨i, h1, h2, h3, h4⟩ := info_parts hi
  have hb : (i.bytes : Int) * (n : Int) ≤ 281474976710656 := by rw [h4]; omega
  have hr := run_make (P := P) w t e i _ ht h1 h2 .i64 .i64 n n (by omega) (by omega) hb (by omega)
  simp only [Int.toNat_natCast] at hr
  rw [hr, h3]
  have : madeCells (Value.int .i64 0).cells (n * 1) = cellsOf (zeros n) := by
    apply Array.toList_inj.1
    rw [Nat.mul_one]
    show (madeCells #[.int .i64 0] n).toList = _
    rw [toList_madeCells_one]
    simp [cellsOf, zeros]
  rw [this]

theorem rd_one (w : World) (e : TypeId) (x : Int) : Rd (w.alloc (.cells #[.int .i64 x] e)) (fun b => b = w.heap.size) (some ⟨w.heap.size, 0, none⟩) 1 1 [x] :=
  (Arr.new w e [x]).rd_all (fun b => b = w.heap.size) rfl 1 1 rfl (Nat.le_refl _)
theorem Rd.cut {w : World} {P : Nat → Prop} {A : Option Addr} {n c : Nat} {xs : List Int} (h : Rd w P A n c xs) (k : Nat) (hk : k ≤ n) : Rd w P A k c (xs.take k) := by
  have hl := h.len
  refine ⟨by rw [List.length_take]; omega, by have := h.cap; omega, h.2.2.1, fun hn => ?_⟩
  obtain ⟨b, o, e, hp, hlt, hc⟩ := h.at_ (by omega)
  refine ⟨b, o, e, hp, hlt, fun i hi => ?_⟩
  rw [hc i (by omega)]
  simp [List.getD, hi]
/-- append onto a row of the call's own: numbers that are read anywhere -/
theorem wpList_append_ints {P : Program} (w : World) {ops : Array Oper} {rest : List Oper} {o : Oper} {a : Act} {Q : Exit → Act → World → Prop} (hgd : o.guard = none) (s x : Operand) (t : TypeId)
    (ho : o.op = .call { callee := .builtin .append, args := #[s, x], argTypes := #[t, t] })
    (base : Nat) (e : TypeId) (ht : P.underlying t = some (.slice e)) (hinfo : (P.info? e).map (fun i => (i.zero, i.size, i.bytes)) = some (some (.int .i64 0), 1, 8))
    (V : Option Addr) (n cv : Nat) (xs : List Int) (hs : a.eval s = .slice V n cv) (hown : w.ownsRow base e 1 (.slice V n cv) n (xs.map (Value.int .i64)))
    (R : Nat → Prop) (A : Option Addr) (m c : Nat) (ys : List Int) (hx : a.eval x = .slice A m c) (hr : Rd w R A m c ys) (hnm : n + m ≤ 268435456) (hbase : base ≤ w.heap.size)
    (h : ∀ V' c' w', w'.ownsRow base e 1 (.slice V' (n + m) c') (n + m) ((xs ++ ys).map (Value.int .i64)) → w.grownBy w' (Value.slice V n cv).ownBlock → wpList P ops Q rest (a.put o.dst (.slice V' (n + m) c')) w') :
    wpList P ops Q (o :: rest) a w := by
  obtain ⟨i, h1, h2, h3, h4⟩ := info_parts hinfo
  cases A with
  | none =>
    have hc0 := hr.2.2.1 rfl
    have hm0 : m = 0 := by have := hr.cap; omega
    subst hc0 hm0
    have hy : ys = [] := List.eq_nil_of_length_eq_zero hr.len
    subst hy
    refine wpList_append_own_none hgd s x t ho base e i 1 ht h1 _ n _ hs hown hx ?_
    have := h V cv w (by simpa using hown) (World.grownBy.refl _ _)
    simpa using this
  | some ad =>
    refine wpList_append_own w hgd s x t ho base e i _ 1 8 ht h1 h2 h3 h4 rfl (by decide) _ n _ hs hown ad m c (ys.map (Value.int .i64)) hx (by simpa using hr.len) ?_ (ints_oneCell _ _) (by unfold maxLen; omega) (by omega) hbase ?_
    · intro j u hj
      rw [List.getElem?_map] at hj
      have hlt : j < ys.length := by
        rcases Nat.lt_or_ge j ys.length with h | h
        · exact h
        · rw [List.getElem?_eq_none h] at hj; cases hj
      obtain ⟨b, o', e', _, _, hc⟩ := hr.at_ (by have := hr.len; omega)
      injection e' with e'
      subst e'
      have := hc j (by have := hr.len; omega)
      rw [List.getElem?_eq_getElem hlt] at hj
      simp only [Option.map_some, Option.some.injEq] at hj
      rw [← hj]
      have e2 : ys.getD j 0 = ys[j] := by simp [List.getD, hlt]
      rw [e2] at this
      rw [← this]
      unfold Addr.add
      by_cases hj0 : j = 0 <;> simp [hj0]
    · intro v' w' h5 h6 _
      rw [← List.map_append] at h5
      obtain ⟨A', c', rfl, _⟩ := own_rd h5
      exact h A' c' w' h5 h6
/-- copy into a block that is known whole -/
theorem wpList_copy_ints {P : Program} (w : World) {ops : Array Oper} {rest : List Oper} {o : Oper} {a : Act} {Q : Exit → Act → World → Prop} (hgd : o.guard = none) (d s : Operand) (dT : TypeId)
    (ho : o.op = .call { callee := .builtin .copy, args := #[d, s], argTypes := #[dT, dT] }) (e : TypeId) (ht : P.underlying dT = some (.slice e)) (hinfo : (P.info? e).map (fun i => (i.zero, i.size, i.bytes)) = some (some (.int .i64 0), 1, 8))
    (g N cN : Nat) (t : TypeId) (full : List Int) (hd : a.eval d = .slice (some ⟨g, 0, none⟩) N cN) (hg : Arr w g t full) (hN : N ≤ full.length)
    (R : Nat → Prop) (A : Option Addr) (n c : Nat) (xs : List Int) (hs : a.eval s = .slice A n c) (hr : Rd w R A n c xs) (hn : n ≤ N)
    (h : ∀ w', Arr w' g t (xs ++ full.drop n) → w.grownBy w' (some g) → wpList P ops Q rest (a.put o.dst (.int .i64 n)) w') : wpList P ops Q (o :: rest) a w := by
  obtain ⟨i, h1, h2, h3, h4⟩ := info_parts hinfo
  have hsz : (P.info? e).map (·.size) = some 1 := by rw [h1]; simp [h3]
  have hl := hr.len
  rcases Nat.eq_zero_or_pos n with h0 | h0
  · subst h0
    have hx : xs = [] := List.eq_nil_of_length_eq_zero hl
    subst hx
    exact wpList_copy_nothing hgd d s dT dT ho e ht hsz _ A N cN 0 c hd hs (by simp) (h w (by simpa using hg) (World.grownBy.refl _ _))
  · obtain ⟨b, o', rfl, _, _, hc⟩ := hr.at_ h0
    have hmin : Nat.min n N = n := Nat.min_eq_left hn
    refine wpList_copy_own hgd d s dT dT ho e ht hsz g 0 N cN ⟨b, o', none⟩ n c hd hs (cellsOf full) t hg (xs.map (Value.int .i64)) (by rw [List.length_map, hmin]; exact hl) ?_ (by simp [cellsOf]; omega) (ints_oneCell _ _) ?_
    · intro j u hj
      rw [List.getElem?_map] at hj
      have hlt : j < xs.length := by
        rcases Nat.lt_or_ge j xs.length with h | h
        · exact h
        · rw [List.getElem?_eq_none h] at hj; cases hj
      have := hc j (by omega)
      rw [List.getElem?_eq_getElem hlt] at hj
      simp only [Option.map_some, Option.some.injEq] at hj
      have e2 : xs.getD j 0 = xs[j] := by simp [List.getD, hlt]
      rw [e2, hj] at this
      rw [← this]
      unfold Addr.add
      by_cases hj0 : j = 0 <;> simp [hj0]
    · have e1 : ((cellsOf full).toList.take 0 ++ (xs.map (Value.int .i64) ++ (cellsOf full).toList.drop (0 + (xs.map (Value.int .i64)).length))).toArray = cellsOf (xs ++ full.drop n) := by
        simp [cellsOf, hl]
      rw [e1]
      have e2 : goInt (xs.map (Value.int .i64)).length = .int .i64 n := by rw [List.length_map, hl]; rfl
      rw [e2]
      exact h _ (setRow_heap w g _ _ t _ hg) ⟨rfl, rfl, rfl, by simp, fun k _ hne => setRow_other w g k _ (fun e => hne (by rw [e]))⟩
theorem results_none {fn : Func} (h : fn.results = #[]) (tmps : Array Value) (P : Program) (w : World) : (results fn tmps).run P w = .ok (.tuple #[]) w := by simp [results, h]
/-- a cut of an array, from its head -/
theorem run_cut_arr {P : Program} (t e : TypeId) (N : Nat) (ht : P.underlying t = some (.array N e)) (hinfo : (P.info? e).map (fun i => (i.zero, i.size, i.bytes)) = some (some (.int .i64 0), 1, 8)) (g h : Nat) (hh : h ≤ N) (w : World) :
    (Instr.sliceAt t (.pointer (some ⟨g, 0, none⟩)) none (some (.int .i64 (h : Int))) none).run P w = .ok (.slice (some ⟨g, 0, none⟩) h N) w := by
  obtain ⟨i, h1, _, h3, _⟩ := info_parts hinfo
  have hh' : (h : Int) ≤ (N : Int) := by omega
  simp [Instr.sliceAt, Instr.sureAddr, run_underlying ht, Instr.sliceBounds, run_sliceBound, Go.sizeOf, typeInfo, h1, hh', Addr.add]
/-- what a row of the claim tells of a slice of integers that came in -/
def IsRow (k : IntKind) (w : World) (a : Option Addr) (len cap : Nat) (zs : List Int) : Prop :=
  (a = none ∧ len = 0 ∧ cap = 0 ∧ zs = []) ∨
  ∃ x, a = some x ∧ len ≤ cap ∧ cap ≤ maxLen ∧ zs.length = cap ∧ (∀ i, i < zs.length → w.cell? (x.add i) = some (.int k (zs.getD i 0))) ∧ ∀ n ∈ zs, (Lit.int k n).wf = true
theorem IsRow.le {k : IntKind} {w : World} {a : Option Addr} {len cap : Nat} {zs : List Int} (h : IsRow k w a len cap zs) : len ≤ 9223372036854775807 := by
  rcases h with ⟨_, h, _⟩ | ⟨x, _, h1, h2, _⟩
  · omega
  · unfold maxLen at h2; omega
theorem IsRow.rd {w : World} {a : Option Addr} {len cap : Nat} {zs : List Int} (h : IsRow .i64 w a len cap zs) : Rd w (· < w.heap.size) a len cap (zs.take len) := by
  rcases h with ⟨rfl, rfl, rfl, rfl⟩ | ⟨⟨b, o, spot⟩, rfl, h1, h2, h3, hc, _⟩
  · exact Rd.nil_ _ _ _ _ (fun _ => rfl)
  · refine ⟨by rw [List.length_take]; omega, h1, (fun h => by cases h), fun hn => ?_⟩
    have h0 := hc 0 (by omega)
    have hspot : spot = none := by simpa [Addr.add] using World.cell?_spot h0
    subst hspot
    refine ⟨b, o, rfl, ?_, ?_, fun i hi => ?_⟩
    · exact World.block_lt_of_cell? w _ h0
    · exact World.block_lt_of_cell? w _ h0
    · have := hc i (by omega)
      have e : (zs.take len).getD i 0 = zs.getD i 0 := by simp [List.getD, hi]
      rw [e, ← this]
      unfold Addr.add
      by_cases hi0 : i = 0 <;> simp [hi0]

theorem ret_bool {a b : Bool} (h : a = b) : Ending.returned (.bool a) = .returned (.bool b) := by rw [h]
theorem ret_int {a b : Int} (h : a = b) : Ending.returned (.int .i64 a) = .returned (.int .i64 b) := by rw [h]
theorem below_drewN' {B : Nat} {a w : World} (h : Below B a w) (n : Nat) : Below B a (w.drewN n) := ⟨h.os, h.tape, h.output, h.size, h.block⟩
/-- a world that has drawn, and drawn again -/
def Drawn (w w' : World) : Prop := ∃ q, w' = w.drewN q
theorem Drawn.refl (w : World) : Drawn w w := ⟨0, rfl⟩
theorem Drawn.more {w w' : World} (h : Drawn w w') (n : Nat) : Drawn w (w'.drewN n) := by
  obtain ⟨q, rfl⟩ := h; exact ⟨q + n, by rw [World.drewN_drewN]⟩
theorem Drawn.drew {w w' : World} (h : Drawn w w') : Drawn w w'.drew := h.more 1
theorem Drawn.trans {a b c : World} (h : Drawn a b) (k : Drawn b c) : Drawn a c := by
  obtain ⟨q, rfl⟩ := k; exact h.more q
theorem Drawn.heap {w w' : World} (h : Drawn w w') : w'.heap = w.heap := by obtain ⟨q, rfl⟩ := h; rfl
theorem Drawn.cell {w w' : World} (h : Drawn w w') {a : Addr} {v : Value} (hc : w.cell? a = some v) : w'.cell? a = some v := by obtain ⟨q, rfl⟩ := h; exact hc
theorem Drawn.below {w w' : World} (h : Drawn w w') (B : Nat) : Below B w w' := by obtain ⟨q, rfl⟩ := h; exact below_drewN' (Below.refl _ _) q
theorem Drawn.rd {w w' : World} {P : Nat → Prop} {A : Option Addr} {n c : Nat} {xs : List Int} (h : Drawn w w') (hr : Rd w P A n c xs) : Rd w' P A n c xs := by obtain ⟨q, rfl⟩ := h; exact hr
theorem Drawn.arr {w w' : World} {g : Nat} {t : TypeId} {xs : List Int} (h : Drawn w w') (hr : Arr w g t xs) : Arr w' g t xs := by obtain ⟨q, rfl⟩ := h; exact hr
theorem Drawn.grown {w w' : World} (h : Drawn w w') (r : Option Nat) : w.grownBy w' r := by obtain ⟨q, rfl⟩ := h; exact ⟨rfl, rfl, rfl, Nat.le_refl _, fun _ _ _ => rfl⟩
theorem quiet_add_left {P : Program} {f : FuncId} {args : Array Value} {w : World} {a n : Nat} {v : Value}
    (h : Calls P f args (w.drewN (a + n)) fun e w' => e = .returned v ∧ w.drewN (a + n) = w') :
    Calls P f args (w.drewN (a + n)) fun e w'' => e = .returned v ∧ ∃ m, w'' = w.drewN (a + m) :=
  h.mono fun _ _ ⟨he, hm⟩ => ⟨he, n, hm.symm⟩
theorem quiet_left {P : Program} {f : FuncId} {args : Array Value} {w : World} {n : Nat} {v : Value}
    (h : Calls P f args (w.drewN n) fun e w' => e = .returned v ∧ w.drewN n = w') : Calls P f args (w.drewN n) fun e w'' => e = .returned v ∧ ∃ m, w'' = w.drewN m :=
  h.mono fun _ _ ⟨he, hm⟩ => ⟨he, n, hm.symm⟩
theorem quiet_drawn {P : Program} {f : FuncId} {args : Array Value} {w : World} {n : Nat} {v : Value}
    (h : Calls P f args (w.drewN n) fun e w' => e = .returned v ∧ Drawn (w.drewN n) w') : Calls P f args (w.drewN n) fun e w'' => e = .returned v ∧ ∃ m, w'' = w.drewN m :=
  h.mono fun _ _ ⟨he, m, hm⟩ => ⟨he, n + m, by rw [hm, World.drewN_drewN]⟩
theorem quiet_add_drawn {P : Program} {f : FuncId} {args : Array Value} {w : World} {a n : Nat} {v : Value}
    (h : Calls P f args (w.drewN (a + n)) fun e w' => e = .returned v ∧ Drawn (w.drewN (a + n)) w') :
    Calls P f args (w.drewN (a + n)) fun e w'' => e = .returned v ∧ ∃ m, w'' = w.drewN (a + m) :=
  h.mono fun _ _ ⟨he, m, hm⟩ => ⟨he, n + m, by rw [hm, World.drewN_drewN, Nat.add_assoc]⟩
theorem grown_trans {a b c : World} {r : Option Nat} (h : a.grownBy b r) (k : b.grownBy c r) : a.grownBy c r :=
  ⟨k.os.trans h.os, k.tape.trans h.tape, k.output.trans h.output, Nat.le_trans h.size k.size, fun i hi hne => (k.block i (Nat.lt_of_lt_of_le hi h.size) hne).trans (h.block i hi hne)⟩
theorem grown_set {a w : World} {g i : Nat} (h : a.grownBy w (some g)) (u : Value) : a.grownBy (w.setCell ⟨g, i, none⟩ u) (some g) :=
  ⟨h.os, h.tape, h.output, by simpa [World.setCell] using h.size, fun k hk hne => (Below.heap_setCell w _ u k (fun e => hne (by rw [e]))).trans (h.block k hk hne)⟩
theorem grown_drew {a w : World} {r : Option Nat} (h : a.grownBy w r) : a.grownBy w.drew r := ⟨h.os, h.tape, h.output, h.size, h.block⟩
theorem grown_drewN {a w : World} {r : Option Nat} (h : a.grownBy w r) (n : Nat) : a.grownBy (w.drewN n) r := ⟨h.os, h.tape, h.output, h.size, h.block⟩
theorem below_drewN {B : Nat} {a w : World} (h : Below B a w) (n : Nat) : Below B a (w.drewN n) := ⟨h.os, h.tape, h.output, h.size, h.block⟩
theorem grown_below {a w : World} {g B : Nat} (h : a.grownBy w (some g)) (hB : B ≤ a.heap.size) (hg : B ≤ g) : Below B a w :=
  ⟨h.os, h.tape, h.output, h.size, fun k hk => h.block k (by omega) (fun e => by injection e with e; omega)⟩
theorem below_grown {a w : World} (h : Below a.heap.size a w) (r : Option Nat) : a.grownBy w r := ⟨h.os, h.tape, h.output, h.size, fun i hi _ => h.block i hi⟩
end Nt
namespace Nt
open Go Go.RowKit
/-- block g begins with the numbers xs, k more cells follow, none is frozen -/
def Arx (w : World) (g : Nat) (t : TypeId) (k : Nat) (xs : List Int) : Prop :=
  ∃ rest : List Value, rest.length = k ∧ w.heap[g]? = some (.cells (xs.map (Value.int .i64) ++ rest).toArray t (0, 0))
variable {w w' : World} {g k : Nat} {t : TypeId} {xs : List Int}
theorem Arr.arx (h : Arr w g t xs) : Arx w g t 0 xs := ⟨[], rfl, by rw [List.append_nil]; exact h⟩
theorem Arx.lt (h : Arx w g t k xs) : g < w.heap.size := by
  obtain ⟨r, _, h⟩ := h
  rcases Nat.lt_or_ge g w.heap.size with hlt | hge
  · exact hlt
  · rw [Array.getElem?_eq_none hge] at h; cases h
theorem Arx.cell (h : Arx w g t k xs) (i : Nat) (hi : i < xs.length) : w.cell? ⟨g, i, none⟩ = some (.int .i64 (xs.getD i 0)) := by
  obtain ⟨r, _, h⟩ := h
  rw [cell_of_row w g i _ t (0, 0) h]
  simp [List.getElem?_append, hi, List.getD]
theorem Arx.frozen (h : Arx w g t k xs) (i : Nat) : w.frozen? ⟨g, i, none⟩ = false := by
  obtain ⟨r, _, h⟩ := h
  exact frozen_of_row w g i _ t h
theorem Arx.keep (h : Arx w g t k xs) (hk : w'.heap[g]? = w.heap[g]?) : Arx w' g t k xs := by
  obtain ⟨r, h0, h⟩ := h
  exact ⟨r, h0, hk.trans h⟩
theorem Arx.set_ (h : Arx w g t k xs) (i : Nat) (v : Int) : Arx (w.setCell ⟨g, i, none⟩ (.int .i64 v)) g t k (xs.set i v) := by
  obtain ⟨r, h0, h⟩ := h
  rcases Nat.lt_or_ge i xs.length with hi | hi
  · refine ⟨r, h0, ?_⟩
    rw [heap_setCell_same w g i _ t _ h]
    simp [List.map_set, hi]
  · refine ⟨r.set (i - xs.length) (.int .i64 v), by rw [List.length_set]; exact h0, ?_⟩
    rw [heap_setCell_same w g i _ t _ h]
    simp [List.set_append, List.set_eq_of_length_le hi, Nat.not_lt.2 hi]
theorem Arx.rd (h : Arx w g t k xs) (P : Nat → Prop) (hP : P g) (o n c : Nat) (hn : o + n ≤ xs.length) (hc : n ≤ c) :
    Rd w P (some ⟨g, o, none⟩) n c ((xs.drop o).take n) :=
  ⟨by simp; omega, hc, (fun h => by cases h), fun _ => ⟨g, o, rfl, hP, h.lt, fun i hi => by
    rw [h.cell (o + i) (by omega)]
    simp [List.getD, hi]⟩⟩
theorem Drawn.arx (h : Drawn w w') (hr : Arx w g t k xs) : Arx w' g t k xs := by obtain ⟨q, rfl⟩ := h; exact hr
/-- fewer of them -/
theorem Arx.less {ys : List Int} (h : Arx w g t k (xs ++ ys)) : Arx w g t (k + ys.length) xs := by
  obtain ⟨r, h0, h⟩ := h
  refine ⟨ys.map (Value.int .i64) ++ r, by simp [h0]; omega, ?_⟩
  rw [h]
  simp
theorem Arx.cutx (h : Arx w g t k xs) (n : Nat) (_hn : n ≤ xs.length) : Arx w g t (k + (xs.length - n)) (xs.take n) := by
  have e := List.take_append_drop n xs
  have h' : Arx w g t k (xs.take n ++ xs.drop n) := by rw [e]; exact h
  have := h'.less
  rwa [List.length_drop] at this
/-- a row of the call's own is such a block -/
theorem own_arx {base n c : Nat} {A : Option Addr} (h : w.ownsRow base t 1 (.slice A n c) n (xs.map (Value.int .i64))) (hn : 0 < n) : ∃ g, A = some ⟨g, 0, none⟩ ∧ base ≤ g ∧ n ≤ c ∧ c ≤ maxLen ∧ Arx w g t (c - n) xs := by
  have hl : xs.length = n := by have := h.1; simpa using this
  rcases h.2 with ⟨_, h0⟩ | ⟨g, cap, cur, e', hb, hh, hnc, hm, hcs, ht⟩
  · omega
  · injection e' with e1 e2 e3
    subst e3
    refine ⟨g, e1, hb, hnc, hm, cur.toList.drop n, by simp; omega, ?_⟩
    rw [hh]
    rw [Nat.mul_one] at ht
    rw [← ht, List.take_append_drop]
theorem Arx.own (h : Arx w g t k xs) (base : Nat) (hb : base ≤ g) (n c : Nat) (hn : n ≤ xs.length) (hc : c = xs.length + k) (hm : c ≤ maxLen) : w.ownsRow base t 1 (.slice (some ⟨g, 0, none⟩) n c) n ((xs.take n).map (Value.int .i64)) := by
  obtain ⟨r, h0, h⟩ := h
  refine ⟨by simp; omega, .inr ⟨g, c, _, rfl, hb, h, by omega, hm, by simp; omega, ?_⟩⟩
  rw [Nat.mul_one]
  simp only [List.take_append, List.length_map, List.map_take]
  rw [show n - xs.length = 0 from by omega]
  simp
end Nt
namespace Go.Proofs.YtifepoefeamboaaDoor
open Go Go.RowKit Nt

theorem infoInt : (Tryd.prog.info? 3).map (fun i => (i.zero, i.size, i.bytes)) = some (some (.int .i64 0), 1, 8) := by kernel_rfl
theorem mk_ints (n : Nat) (hn : n ≤ 16777216) (w : World) :
    (Instr.makeSlice 74 (.int .i64 (n : Int)) (.int .i64 (n : Int))).run Tryd.prog w = .ok (.slice (some ⟨w.heap.size, 0, none⟩) n n) (w.alloc (.cells (cellsOf (zeros n)) 3)) :=
  run_make_ints _ _ Tryd.underlying74 infoInt n hn w

end Go.Proofs.YtifepoefeamboaaDoor
namespace Go.Proofs.YtifepoefeamboaaDoor
open Go Go.RowKit Nt

set_option maxHeartbeats 400000 in
theorem l01In_any (n a b : Int) (w : World) :
    Calls Tryd.prog 22 #[.int .i64 n, .int .i64 a, .int .i64 b] w fun e w' => e = .returned (.bool (decide (a ≤ n) && decide (n ≤ b))) ∧ w = w' := by
  by_cases h : a ≤ n
  · have h1 : decide (a ≤ n) = true := by simpa using h
    go_enter Tryd.func22, Tryd.ntmps22
    go_wp2
    go_ret
    exact ⟨by simp [h], rfl⟩
  · have h1 : decide (a ≤ n) = false := by simpa using h
    go_enter Tryd.func22, Tryd.ntmps22
    go_wp2
    go_ret
    exact ⟨by simp, rfl⟩

end Go.Proofs.YtifepoefeamboaaDoor
namespace Go.Proofs.YtifepoefeamboaaDoor
open Go Go.RowKit Nt

theorem bitZ_bd (b : Bool) : 0 ≤ bitZ b ∧ bitZ b ≤ 1 := by cases b <;> simp [bitZ]
theorem l01Bit_any (b : Bool) (w : World) : Calls Tryd.prog 60 #[.bool b] w fun e w' => e = .returned (.int .i64 (bitZ b)) ∧ w = w' := by
  cases b
  · go_enter Tryd.func60, Tryd.ntmps60
    go_wp2
    go_ret
    exact ⟨rfl, rfl⟩
  · go_enter Tryd.func60, Tryd.ntmps60
    go_wp2
    go_ret
    exact ⟨rfl, rfl⟩

theorem rangeAny_no {N : Nat} {p : Nat → Bool} (h : ∀ j, j < N → p j = false) : (List.range N).any p = false := by
  rw [List.any_eq_false]
  intro x hx
  rw [h x (List.mem_range.1 hx)]
  simp
theorem rangeAny_yes {N : Nat} {p : Nat → Bool} {k : Nat} (hk : k < N) (h : p k = true) : (List.range N).any p = true := List.any_eq_true.2 ⟨k, List.mem_range.2 hk, h⟩
end Go.Proofs.YtifepoefeamboaaDoor
namespace Nt
open Go Go.RowKit
/-- it hands back new memory that holds the numbers xs; nothing that was there has turned -/
def RetNew (t : TypeId) (w : World) (xs : List Int) (e : Ending) (w' : World) : Prop :=
  ∃ A c, e = .returned (.slice A xs.length c) ∧ w'.ownsRow w.heap.size t 1 (.slice A xs.length c) xs.length (xs.map (Value.int .i64)) ∧ Below w.heap.size w w'
/-- the same, and a code -/
def RetCode (t : TypeId) (w : World) (xs : List Int) (code : Int) (e : Ending) (w' : World) : Prop :=
  ∃ A c, e = .returned (.tuple #[.slice A xs.length c, .int .i64 code]) ∧ w'.ownsRow w.heap.size t 1 (.slice A xs.length c) xs.length (xs.map (Value.int .i64)) ∧ Below w.heap.size w w'
end Nt
namespace Go.Proofs.YtifepoefeamboaaDoor
open Go Go.RowKit Nt

end Go.Proofs.YtifepoefeamboaaDoor
namespace Nt
open Go Go.RowKit
/-- between pre and post block g now holds numbers that mean r, so many limbs; nothing else that was there has turned -/
def TookX (t : TypeId) (kx : Nat) (w : World) (g : Nat) (pre post : List Int) (len : Nat) (r : Int) (w' : World) : Prop :=
  ∃ ys : List Int, ys.length = len ∧ Limbs ys ∧ val ys = r ∧ Arx w' g t kx (pre ++ ys ++ post) ∧ w.grownBy w' (some g)
theorem set_midx (pre out rest post : List Int) (off k : Nat) (v : Int) (h1 : pre.length = off) (h2 : out.length = k) (h3 : k < (out ++ rest).length) :
    (pre ++ (out ++ rest) ++ post).set (off + k) v = pre ++ ((out ++ [v]) ++ rest.drop 1) ++ post := by
  obtain ⟨x, r, rfl⟩ : ∃ x r, rest = x :: r := by
    cases rest with
    | nil => simp at h3; omega
    | cons x r => exact ⟨x, r, rfl⟩
  subst h1 h2
  simp
theorem get_midx (pre out rest post : List Int) (off k : Nat) (h1 : pre.length = off) (h2 : out.length = k) (h3 : 0 < rest.length) : (pre ++ (out ++ rest) ++ post).getD (off + k) 0 = rest.getD 0 0 := by
  obtain ⟨x, r, rfl⟩ : ∃ x r, rest = x :: r := by
    cases rest with
    | nil => simp at h3
    | cons x r => exact ⟨x, r, rfl⟩
  subst h1 h2
  simp [List.getD]
end Nt
namespace Go.Proofs.YtifepoefeamboaaDoor
open Go Go.RowKit Nt

end Go.Proofs.YtifepoefeamboaaDoor
namespace Nt
theorem mul_step (out ys P : List Int) (k j : Nat) (x q : Int) (hl : P.length = k) :
    val (P ++ [(out.getD k 0 + x * ys.getD j 0 + q) % 10000]) + 10000 ^ (k + 1) * ((out.getD k 0 + x * ys.getD j 0 + q) / 10000 + vd out (k + 1) + x * vd ys (j + 1)) = val P + 10000 ^ k * (q + vd out k + x * vd ys j) := by
  rw [val_snoc, hl, pow_succ', Int.add_assoc, pow_step, vd_step out k, vd_step ys j, Int.mul_add x, Int.mul_left_comm x 10000]
  generalize vd out (k + 1) = u
  generalize x * vd ys (j + 1) = v
  generalize out.getD k 0 = c
  generalize x * ys.getD j 0 = y
  rw [show (c + y + q) % 10000 + 10000 * ((c + y + q) / 10000 + u + v) = q + (c + 10000 * u) + (y + 10000 * v) from by omega]
theorem mul_start (out : List Int) (i : Nat) (z : Int) (h : i ≤ out.length) : val (out.take i) + 10000 ^ i * (0 + vd out i + z) = val out + 10000 ^ i * z := by
  have := val_take_drop out i h
  rw [Int.zero_add, Int.mul_add, ← Int.add_assoc, ← (show val out = val (out.take i) + 10000 ^ i * vd out i from this)]
theorem mul_outer (xs : List Int) (i n : Nat) (h : i < xs.length) : val (xs.take i) * n + 10000 ^ i * (xs.getD i 0 * n) = val (xs.take (i + 1)) * n := by
  rw [take_snoc xs i h, val_snoc, List.length_take, Nat.min_eq_left (by omega), Int.add_mul, Int.mul_assoc]
theorem limb_prod {x y : Int} (h0 : 0 ≤ x) (h1 : x < 10000) (h2 : 0 ≤ y) (h3 : y < 10000) : 0 ≤ x * y ∧ x * y ≤ 99980001 := by
  refine ⟨Int.mul_nonneg h0 h2, ?_⟩
  have := Int.mul_le_mul (show x ≤ 9999 by omega) (show y ≤ 9999 by omega) h2 (by omega)
  omega
theorem set_at (P T : List Int) (k : Nat) (v : Int) (hl : P.length = k) (hk : k < T.length) : (P ++ T.drop k).set k v = (P ++ [v]) ++ T.drop (k + 1) := by
  rw [List.set_append_right _ _ (by omega), hl, Nat.sub_self, drop_cons T k hk, List.set_cons_zero]
  simp
theorem getD_at (P T : List Int) (k : Nat) (hl : P.length = k) (hk : k < T.length) : (P ++ T.drop k).getD k 0 = T.getD k 0 := by
  rw [drop_cons T k hk]
  subst hl
  simp [List.getD]
theorem get_left (P T : List Int) (k : Nat) (hk : k < P.length) : (P ++ T).getD k 0 = P.getD k 0 := by
  simp [List.getD, List.getElem?_append_left hk]
theorem take_all_val (xs : List Int) (k : Nat) (h : xs.length ≤ k) : val (xs.take k) = val xs := by rw [List.take_of_length_le h]
theorem vd_zeros (T : List Int) (k : Nat) (h : ∀ j, k ≤ j → T.getD j 0 = 0) : vd T k = 0 := by
  have hlen : ∀ d k, T.length - k ≤ d → (∀ j, k ≤ j → T.getD j 0 = 0) → vd T k = 0 := by
    intro d
    induction d with
    | zero => intro k hk _; exact vd_end T k (by omega)
    | succ d ih =>
      intro k hk h
      rw [vd_step, h k (Nat.le_refl _)]
      rcases Nat.lt_or_ge k T.length with hl | hl
      · rw [ih (k + 1) (by omega) (fun j hj => h j (by omega))]; rfl
      · rw [vd_end T (k + 1) (by omega)]; rfl
  exact hlen _ k (Nat.le_refl _) h
theorem mul_step' (out ys P : List Int) (k j : Nat) (x q : Int) (hl : P.length = k) :
    val (P ++ [(out.getD k 0 + q + x * ys.getD j 0) % 10000]) + 10000 ^ (k + 1) * ((out.getD k 0 + q + x * ys.getD j 0) / 10000 + vd out (k + 1) + x * vd ys (j + 1)) = val P + 10000 ^ k * (q + vd out k + x * vd ys j) := by
  have := mul_step out ys P k j x q hl
  rw [show out.getD k 0 + x * ys.getD j 0 + q = out.getD k 0 + q + x * ys.getD j 0 from by omega] at this
  exact this
theorem getD_right (P T : List Int) (k j : Nat) (hl : P.length = k) (hj : k ≤ j) : (P ++ T.drop k).getD j 0 = T.getD j 0 := by
  subst hl
  simp only [List.getD, List.getElem?_append_right hj, List.getElem?_drop]
  congr 2; omega
end Nt
namespace Nt
theorem vd_lt {xs : List Int} (h : Limbs xs) (k : Nat) : vd xs k < 10000 ^ (xs.length - k) := by
  have := val_lt (limbs_drop h k)
  rwa [List.length_drop] at this
theorem pow_mono {j k : Nat} (h : j ≤ k) : (10000 : Int) ^ j ≤ 10000 ^ k := by
  obtain ⟨d, rfl⟩ : ∃ d, k = j + d := ⟨k - j, by omega⟩
  have h1 := pow_pos' j
  have h2 := pow_pos' d
  rw [Int.pow_add]
  have := Int.mul_le_mul_of_nonneg_left (show (1 : Int) ≤ 10000 ^ d by omega) (show (0 : Int) ≤ 10000 ^ j by omega)
  omega
theorem pow3 : (10000 : Int) ^ 3 = 1000000000000 := by decide
theorem pow4 : (10000 : Int) ^ 4 = 10000000000000000 := by decide
theorem vd_small {xs : List Int} (h : Limbs xs) (k : Nat) (hk : xs.length ≤ k + 3) : vd xs k < 1000000000000 := by
  have h1 := vd_lt h k
  have h2 := pow_mono (show xs.length - k ≤ 3 by omega)
  rw [pow3] at h2
  omega
theorem vd_small4 {xs : List Int} (h : Limbs xs) (k : Nat) (hk : xs.length ≤ k + 4) : vd xs k < 10000000000000000 := by
  have h1 := vd_lt h k
  have h2 := pow_mono (show xs.length - k ≤ 4 by omega)
  rw [pow4] at h2
  omega
theorem val_split {xs : List Int} (k : Nat) : val xs = val (xs.take k) + 10000 ^ k * vd xs k := by
  rcases Nat.lt_or_ge xs.length k with h | h
  · rw [vd_end xs k (by omega), List.take_of_length_le (by omega)]; simp
  · exact val_take_drop xs k h
theorem vd_split (xs : List Int) (k d : Nat) : vd xs k = val ((xs.drop k).take d) + 10000 ^ d * vd xs (k + d) := by
  unfold vd
  have := val_split (xs := xs.drop k) d
  rw [show vd (xs.drop k) d = val (xs.drop (k + d)) from by unfold vd; rw [List.drop_drop]] at this
  exact this
theorem pow_vd_le {xs : List Int} (h : Limbs xs) (k : Nat) : 10000 ^ k * vd xs k ≤ val xs := by
  have := val_split (xs := xs) k
  have := val_nonneg (limbs_take h k)
  omega
theorem D_below (n low : Nat) : (n : Int) < 10000 ^ low * (vd (D n) low + 1) := by
  have h1 := val_split (xs := D n) low
  rw [val_D] at h1
  have h2 := val_lt (limbs_take (limbs_D n) low)
  have h3 := pow_mono (show ((D n).take low).length ≤ low by simp; omega)
  rw [Int.mul_add, Int.mul_one]
  omega
theorem guess_high {zs : List Int} (hz : Limbs zs) (n low : Nat) : (n : Int) * (vd zs low / (vd (D n) low + 1)) ≤ val zs := by
  have hd := vd_nonneg (limbs_D n) low
  have hv := vd_nonneg hz low
  have h1 := D_below n low
  have h2 := pow_vd_le hz low
  have hp := pow_pos' low
  generalize vd (D n) low + 1 = h at *
  have hh : 0 < h := by
    rcases (show 0 < h ∨ h ≤ 0 by omega) with h0 | h0
    · exact h0
    · have := Int.mul_nonpos_of_nonneg_of_nonpos (show (0 : Int) ≤ 10000 ^ low by omega) h0
      omega
  have h3 : vd zs low / h * h ≤ vd zs low := Int.ediv_mul_le _ (by omega)
  have ht : 0 ≤ vd zs low / h := Int.ediv_nonneg hv (by omega)
  generalize vd zs low / h = t at *
  have h4 : (n : Int) * t ≤ (10000 ^ low * h) * t := Int.mul_le_mul_of_nonneg_right (by omega) ht
  have h5 : (10000 ^ low * h) * t = 10000 ^ low * (t * h) := by rw [Int.mul_assoc, Int.mul_comm h t]
  have h6 : 10000 ^ low * (t * h) ≤ 10000 ^ low * vd zs low := Int.mul_le_mul_of_nonneg_left h3 (by omega)
  omega
theorem guess_low {zs : List Int} (n : Nat) (hn : 0 < n) : (n : Int) * (val zs / n) ≤ val zs := by
  have := Int.ediv_mul_le (val zs) (show (n : Int) ≠ 0 by omega)
  rw [Int.mul_comm]; exact this
theorem guess_lt {n : Nat} {t v : Int} (h : (n : Int) * t ≤ v) (hv : v < 10000 * n) : t ≤ 9999 := by
  rcases (show t < 10000 ∨ 10000 ≤ t by omega) with h1 | h1
  · omega
  · have := Int.mul_le_mul_of_nonneg_left h1 (show (0 : Int) ≤ n by omega)
    omega
theorem val_set (qs : List Int) (j : Nat) (v : Int) (hj : j < qs.length) : val (qs.set j v) = val qs + 10000 ^ j * (v - qs.getD j 0) := by
  induction qs generalizing j with
  | nil => simp at hj
  | cons x xs ih =>
    cases j with
    | zero => simp [val]; omega
    | succ j =>
      rw [List.set_cons_succ, val, val, ih j (by simpa using hj), pow_succ']
      have : (x :: xs).getD (j + 1) 0 = xs.getD j 0 := by simp [List.getD]
      rw [this, Int.mul_add, Int.mul_assoc]
      omega
theorem D_top (n : Nat) (h : 0 < n) : (10000 : Int) ^ ((D n).length - 1) ≤ n := by
  have h1 : 0 < (D n).length := by
    rw [List.length_pos_iff]; intro e; rw [D_nil_iff] at e; omega
  have := (D_len_gt n ((D n).length - 1)).1 (by omega)
  have e := npow_cast ((D n).length - 1)
  omega
theorem D_bound (n : Nat) : (n : Int) < 10000 ^ (D n).length := by
  have := (D_len_le n (D n).length).1 (Nat.le_refl _)
  have e := npow_cast (D n).length
  omega
theorem vd_gone {a v P : Int} (ha : 0 ≤ a) (hv : 0 ≤ v) (hP : 0 < P) (h : a + P * v < P) : v = 0 := by
  rcases (show v = 0 ∨ 1 ≤ v by omega) with h0 | h0
  · exact h0
  · have := Int.mul_le_mul_of_nonneg_left h0 (show (0 : Int) ≤ P by omega)
    omega
theorem div_parts (rs : List Int) (p nw : Nat) : rs = rs.take p ++ (rs.drop p).take nw ++ rs.drop (p + nw) := by
  rw [List.append_assoc]
  have : (rs.drop p).take nw ++ rs.drop (p + nw) = rs.drop p := by
    rw [← List.drop_drop, List.take_append_drop]
  rw [this, List.take_append_drop]
/-- what stands behind the window is 0, and the window is less than the base times what is divided by -/
theorem div_window {rs : List Int} (hl : Limbs rs) (n p nw : Nat) (_hp : p < rs.length) (hv : vd rs (p + 1) < n) (hnw : nw = (D n).length + 1 ∨ p + nw = rs.length) :
    vd rs (p + nw) = 0 ∧ val ((rs.drop p).take nw) = vd rs p ∧ vd rs p < 10000 * n := by
  have h0 : vd rs (p + nw) = 0 := by
    rcases hnw with h | h
    · have h1 := vd_split rs (p + 1) (D n).length
      have h2 := D_bound n
      have h3 := val_nonneg (limbs_take (limbs_drop hl (p + 1)) (D n).length)
      have h4 := vd_nonneg hl (p + 1 + (D n).length)
      have := vd_gone h3 h4 (pow_pos' _) (show _ < (10000 : Int) ^ (D n).length by omega)
      rw [h, show p + ((D n).length + 1) = p + 1 + (D n).length from by omega]
      exact this
    · exact vd_end rs _ (by omega)
  have h1 := vd_split rs p nw
  rw [h0, Int.mul_zero, Int.add_zero] at h1
  refine ⟨h0, h1.symm, ?_⟩
  have h2 := vd_step rs p
  have h3 := limbs_getD hl p
  omega
theorem div_next {rs ws qs : List Int} {p nw n : Nat} {t M : Int} (hp : p + nw ≤ rs.length) (hw : ws.length = nw) (h0 : vd rs (p + nw) = 0) (hv : val ws + n * t = val ((rs.drop p).take nw)) (hq : qs.getD p 0 = 0) (hpq : p < qs.length)
    (hM : val rs + n * val qs = M) : val (rs.take p ++ ws ++ rs.drop (p + nw)) + n * val (qs.set p t) = M ∧ vd (rs.take p ++ ws ++ rs.drop (p + nw)) p = val ws := by
  have hl1 : (rs.take p).length = p := by rw [List.length_take]; omega
  have e1 : val rs = val (rs.take p) + 10000 ^ p * val ((rs.drop p).take nw) := by
    have h1 := val_split (xs := rs) p
    rw [vd_split rs p nw, h0, Int.mul_zero, Int.add_zero] at h1
    exact h1
  have e2 : val (rs.take p ++ ws ++ rs.drop (p + nw)) = val (rs.take p) + 10000 ^ p * val ws := by
    rw [List.append_assoc, val_append, val_append, hl1, show val (rs.drop (p + nw)) = vd rs (p + nw) from rfl, h0, Int.mul_zero, Int.add_zero]
  constructor
  · rw [e2, val_set qs p t hpq, hq, Int.sub_zero, Int.mul_add, Int.mul_left_comm (n : Int), ← hM, e1, ← hv, Int.mul_add]
    omega
  · unfold vd
    rw [List.append_assoc, List.drop_append_of_le_length (by omega), List.drop_of_length_le (by omega), List.nil_append, val_append, show val (rs.drop (p + nw)) = vd rs (p + nw) from rfl, h0, Int.mul_zero, Int.add_zero]
theorem div_done {r q M : Int} {n : Nat} (h0 : 0 ≤ r) (h1 : r < n) (hM : r + n * q = M) : q = M / n ∧ r = M % n := by
  have hn : (0 : Int) < n := by omega
  constructor
  · rw [← hM, Int.add_mul_ediv_left _ _ (by omega), Int.ediv_eq_zero_of_lt h0 h1, Int.zero_add]
  · rw [← hM, Int.add_mul_emod_self_left, Int.emod_eq_of_lt h0 h1]
end Nt
namespace Nt
open Go
/-- a guess that is not too high -/
def Guess (n : Nat) (v : Int) (e : Ending) : Prop := ∃ t : Int, 0 ≤ t ∧ t ≤ 9999 ∧ (n : Int) * t ≤ v ∧ e = .returned (.int .i64 t)
end Nt
namespace Go.Proofs.YtifepoefeamboaaDoor
open Go Go.RowKit Nt

end Go.Proofs.YtifepoefeamboaaDoor
namespace Nt
open Go Go.RowKit
/-- only the blocks a and b may have turned, and what is new -/
def Two (a b : Nat) (w w' : World) : Prop :=
  w'.os = w.os ∧ w'.tape = w.tape ∧ w'.output = w.output ∧ w.heap.size ≤ w'.heap.size ∧ ∀ k, k < w.heap.size → k ≠ a → k ≠ b → w'.heap[k]? = w.heap[k]?
theorem Two.refl (a b : Nat) (w : World) : Two a b w w := ⟨rfl, rfl, rfl, Nat.le_refl _, fun _ _ _ _ => rfl⟩
theorem Two.size {a b : Nat} {w w' : World} (h : Two a b w w') : w.heap.size ≤ w'.heap.size := h.2.2.2.1
theorem Two.block {a b : Nat} {w w' : World} (h : Two a b w w') : ∀ k, k < w.heap.size → k ≠ a → k ≠ b → w'.heap[k]? = w.heap[k]? := h.2.2.2.2
theorem Two.trans {a b : Nat} {u v w : World} (h : Two a b u v) (k : Two a b v w) : Two a b u w :=
  ⟨k.1.trans h.1, k.2.1.trans h.2.1, k.2.2.1.trans h.2.2.1, Nat.le_trans h.size k.size, fun i hi h1 h2 => (k.block i (Nat.lt_of_lt_of_le hi h.size) h1 h2).trans (h.block i hi h1 h2)⟩
theorem Two.left {a b : Nat} {w w' : World} (h : w.grownBy w' (some a)) : Two a b w w' := ⟨h.os, h.tape, h.output, h.size, fun k hk h1 _ => h.block k hk (fun e => h1 (by injection e))⟩
theorem Two.right {a b : Nat} {w w' : World} (h : w.grownBy w' (some b)) : Two a b w w' := ⟨h.os, h.tape, h.output, h.size, fun k hk _ h2 => h.block k hk (fun e => h2 (by injection e))⟩
theorem Two.drawn {a b : Nat} {w w' : World} (h : Drawn w w') : Two a b w w' := Two.left (h.grown _)
theorem Two.below {a b B : Nat} {w w' : World} (h : Two a b w w') (hB : B ≤ w.heap.size) (ha : B ≤ a) (hb : B ≤ b) : Below B w w' :=
  ⟨h.1, h.2.1, h.2.2.1, h.size, fun k hk => h.block k (by omega) (by omega) (by omega)⟩
theorem Rd.two {w w' : World} {a b : Nat} {A : Option Addr} {n c : Nat} {xs : List Int} (h : Rd w (fun k => k ≠ a ∧ k ≠ b) A n c xs) (ht : Two a b w w') : Rd w' (fun k => k ≠ a ∧ k ≠ b) A n c xs :=
  h.keep ht.size fun k hp hk => ht.block k hk hp.1 hp.2
theorem arx_setCells (g : Nat) (t : TypeId) (kx : Nat) (post : List Int) : ∀ (ys : List Int) (o : Nat) (w : World) (pre xs : List Int), Arx w g t kx (pre ++ (xs ++ post)) → pre.length = o → xs.length = ys.length →
    Arx (w.setCells g o (ys.map (Value.int .i64))) g t kx (pre ++ (ys ++ post)) ∧ w.grownBy (w.setCells g o (ys.map (Value.int .i64))) (some g)
  | [], o, w, pre, xs, h, _, hx => by
    have : xs = [] := List.eq_nil_of_length_eq_zero (by simpa using hx)
    subst this
    exact ⟨h, World.grownBy.refl _ _⟩
  | y :: ys, o, w, pre, xs, h, ho, hx => by
    obtain ⟨x, xs, rfl⟩ : ∃ x r, xs = x :: r := by
      cases xs with
      | nil => simp at hx
      | cons x r => exact ⟨x, r, rfl⟩
    have h1 := h.set_ o y
    have e : (pre ++ (x :: xs ++ post)).set o y = (pre ++ [y]) ++ (xs ++ post) := by subst ho; simp
    rw [e] at h1
    obtain ⟨h2, h3⟩ := arx_setCells g t kx post ys (o + 1) _ (pre ++ [y]) xs h1 (by simp [ho]) (by simpa using hx)
    have e2 : pre ++ (y :: ys ++ post) = (pre ++ [y]) ++ (ys ++ post) := by simp
    rw [e2]
    exact ⟨h2, grown_trans (grown_set (World.grownBy.refl _ _) _) h3⟩
/-- clear of the first cells of a block -/
theorem run_clear_x {P : Program} (w : World) (t e : TypeId) (ht : P.underlying t = some (.slice e)) (hz : ∀ w, (zeroValue e).run P w = .ok (.int .i64 0) w) (g N c : Nat) (tb : TypeId) (kx : Nat) (full post : List Int) (hf : Arx w g tb kx (full ++ post)) (hl : full.length = N) (hN : 0 < N) :
    ∃ w', (∀ ty, (Builtin.clear_ #[t] ty #[.slice (some ⟨g, 0, none⟩) N c]).run P w = .ok (.tuple #[]) w') ∧ Arx w' g tb kx (zeros N ++ post) ∧ w.grownBy w' (some g) := by
  have h0 : List.replicate N (Value.int .i64 0) = (zeros N).map (Value.int .i64) := by simp [zeros]
  have hs := arx_setCells g tb kx post (zeros N) 0 w [] full (by simpa using hf) rfl (by rw [zeros_len]; exact hl)
  rw [← h0] at hs
  refine ⟨_, fun ty => Lib.run_clear_slice (P := P) w t e ty (.int .i64 0) ht hz rfl rfl g 0 N c hN (fun j hj => ?_) (fun j hj => ?_), ?_, ?_⟩
  · rw [Nat.zero_add, hf.cell j (by simp; omega)]; rfl
  · rw [Nat.zero_add]; exact hf.frozen j
  · simpa using hs.1
  · exact hs.2
/-- what a division leaves: the quotient in block gq, the rest in block gr, ahead of post -/
def DividedX (tq tr : TypeId) (kq kr : Nat) (w : World) (gq gr NQ nr : Nat) (pq post : List Int) (m n : Int) (w' : World) : Prop :=
  ∃ qs rs : List Int, qs.length = NQ ∧ Limbs qs ∧ val qs = m / n ∧ Arx w' gq tq kq (qs ++ pq) ∧ rs.length = nr ∧ Limbs rs ∧ val rs = m % n ∧ Arx w' gr tr kr (rs ++ post) ∧ Two gq gr w w'
end Nt
namespace Go.Proofs.YtifepoefeamboaaDoor
open Go Go.RowKit Nt

theorem zeroInt (w : World) : (zeroValue 3).run Tryd.prog w = .ok (.int .i64 0) w := by kernel_rfl

end Go.Proofs.YtifepoefeamboaaDoor
