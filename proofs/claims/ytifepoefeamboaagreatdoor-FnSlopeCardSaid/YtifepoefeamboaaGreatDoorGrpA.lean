/-
  Math Mem MemX Base Ok Cmp Fresh TakeX MulMath DivMath High DivX in one text.
-/
import Derived.WalkKit
import Derived.WalkSpells
import Derived.WalkLawsBesides
import Derived.Lib.Hide
import Derived.Deep.Draws
import Derived.Deep.QuietTactic
import Derived.Laws.AppendOwnNone
import Derived.Laws.CopyOwn
import Derived.Test.YtifepoefeamboaaGreatDoorRows
import Derived.BigQuiet
import Derived.Lib.SliceRun
import Derived.Deep.LoopGhost
namespace Nt

def val : List Int → Int
  | [] => 0
  | x :: xs => x + 10000 * val xs

def Limbs (xs : List Int) : Prop := ∀ x ∈ xs, 0 ≤ x ∧ x < 10000

def DF : Nat → Nat → List Int
  | 0, _ => []
  | f + 1, n => if n = 0 then [] else ((n % 10000 : Nat) : Int) :: DF f (n / 10000)

def D (n : Nat) : List Int := DF n n

theorem DF_fuel : ∀ f g n, n ≤ f → n ≤ g → DF f n = DF g n
  | 0, 0, _, _, _ => rfl
  | 0, g + 1, n, h, _ => by
    have : n = 0 := by omega
    subst this; simp [DF]
  | f + 1, 0, n, _, h => by
    have : n = 0 := by omega
    subst this; simp [DF]
  | f + 1, g + 1, n, h1, h2 => by
    unfold DF
    by_cases h : n = 0
    · simp [h]
    · simp only [h, if_false]
      rw [DF_fuel f g (n / 10000) (by omega) (by omega)]

theorem D_zero : D 0 = [] := rfl
theorem D_pos (n : Nat) (h : 0 < n) : D n = ((n % 10000 : Nat) : Int) :: D (n / 10000) := by
  unfold D
  obtain ⟨k, rfl⟩ : ∃ k, n = k + 1 := ⟨n - 1, by omega⟩
  conv => lhs; unfold DF
  rw [if_neg (by omega), DF_fuel k ((k + 1) / 10000) ((k + 1) / 10000) (by omega) (by omega)]
theorem D_nil_iff (n : Nat) : D n = [] ↔ n = 0 := by
  constructor
  · intro h
    rcases Nat.eq_zero_or_pos n with h0 | h0
    · exact h0
    · rw [D_pos n h0] at h; cases h
  · rintro rfl; rfl

theorem limbs_nil : Limbs [] := by intro x hx; cases hx
theorem limbs_cons {x : Int} {xs : List Int} : Limbs (x :: xs) ↔ (0 ≤ x ∧ x < 10000) ∧ Limbs xs := by
  unfold Limbs
  constructor
  · intro h
    exact ⟨h x (by simp), fun y hy => h y (by simp [hy])⟩
  · rintro ⟨h1, h2⟩ y hy
    rcases List.mem_cons.1 hy with rfl | hy
    · exact h1
    · exact h2 y hy
theorem limbs_append {xs ys : List Int} : Limbs (xs ++ ys) ↔ Limbs xs ∧ Limbs ys := by
  induction xs with
  | nil => simp [limbs_nil]
  | cons x xs ih => simp only [List.cons_append, limbs_cons, ih, and_assoc]
theorem limbs_take {xs : List Int} (h : Limbs xs) (k : Nat) : Limbs (xs.take k) := fun x hx => h x (List.mem_of_mem_take hx)
theorem limbs_drop {xs : List Int} (h : Limbs xs) (k : Nat) : Limbs (xs.drop k) := fun x hx => h x (List.mem_of_mem_drop hx)
theorem limbs_getD {xs : List Int} (h : Limbs xs) (i : Nat) : 0 ≤ xs.getD i 0 ∧ xs.getD i 0 < 10000 := by
  rcases Nat.lt_or_ge i xs.length with hi | hi
  · have : xs.getD i 0 = xs[i] := by simp [List.getD, hi]
    rw [this]; exact h _ (List.getElem_mem hi)
  · have : xs.getD i 0 = 0 := by simp [List.getD, hi]
    omega
theorem limbs_replicate (n : Nat) : Limbs (List.replicate n 0) := by
  intro x hx
  have := List.eq_of_mem_replicate hx
  omega
theorem limbs_set {xs : List Int} (h : Limbs xs) (i : Nat) (v : Int) (h0 : 0 ≤ v) (h1 : v < 10000) : Limbs (xs.set i v) := by
  intro x hx
  rcases List.mem_or_eq_of_mem_set hx with hx | rfl
  · exact h x hx
  · exact ⟨h0, h1⟩

theorem val_D (n : Nat) : val (D n) = n := by
  induction n using Nat.strongRecOn with
  | _ n ih =>
    rcases Nat.eq_zero_or_pos n with h | h
    · subst h; rfl
    · rw [D_pos n h, val, ih (n / 10000) (by omega)]; omega
theorem limbs_D (n : Nat) : Limbs (D n) := by
  induction n using Nat.strongRecOn with
  | _ n ih =>
    rcases Nat.eq_zero_or_pos n with h | h
    · subst h; exact limbs_nil
    · rw [D_pos n h, limbs_cons]; exact ⟨by omega, ih _ (by omega)⟩

theorem val_nonneg {xs : List Int} (h : Limbs xs) : 0 ≤ val xs := by
  induction xs with
  | nil => simp [val]
  | cons x xs ih => rw [limbs_cons] at h; have := ih h.2; simp only [val]; omega
theorem pow_succ' (k : Nat) : (10000 : Int) ^ (k + 1) = 10000 * 10000 ^ k := by rw [Int.pow_succ, Int.mul_comm]
theorem pow_pos' (k : Nat) : (0 : Int) < 10000 ^ k := Int.pow_pos (by decide)
theorem npow_pos (k : Nat) : 0 < 10000 ^ k := Nat.pow_pos (by decide)
theorem npow_cast (k : Nat) : ((10000 ^ k : Nat) : Int) = 10000 ^ k := Int.natCast_pow 10000 k
theorem val_lt {xs : List Int} (h : Limbs xs) : val xs < 10000 ^ xs.length := by
  induction xs with
  | nil => simp [val]
  | cons x xs ih =>
    rw [limbs_cons] at h
    have := ih h.2
    rw [List.length_cons, pow_succ']
    simp only [val]; omega
theorem val_append (xs ys : List Int) : val (xs ++ ys) = val xs + 10000 ^ xs.length * val ys := by
  induction xs with
  | nil => simp [val]
  | cons x xs ih =>
    rw [List.cons_append, val, ih, val, List.length_cons, pow_succ', Int.mul_add, Int.mul_assoc, Int.add_assoc]
theorem val_replicate (n : Nat) : val (List.replicate n 0) = 0 := by
  induction n with
  | zero => rfl
  | succ n ih => simp [List.replicate_succ, val, ih]
theorem val_snoc (xs : List Int) (x : Int) : val (xs ++ [x]) = val xs + 10000 ^ xs.length * x := by
  rw [val_append]; simp [val]
theorem val_take_drop (xs : List Int) (k : Nat) (h : k ≤ xs.length) : val xs = val (xs.take k) + 10000 ^ k * val (xs.drop k) := by
  conv => lhs; rw [← List.take_append_drop k xs]
  rw [val_append, List.length_take, Nat.min_eq_left h]
theorem take_snoc (xs : List Int) (k : Nat) (h : k < xs.length) : xs.take (k + 1) = xs.take k ++ [xs.getD k 0] := by
  rw [List.take_succ_eq_append_getElem h]; simp [List.getD, h]
theorem drop_cons (xs : List Int) (k : Nat) (h : k < xs.length) : xs.drop k = xs.getD k 0 :: xs.drop (k + 1) := by
  rw [List.drop_eq_getElem_cons h]; simp [List.getD, h]
theorem val_drop (xs : List Int) (k : Nat) (h : k < xs.length) : val (xs.drop k) = xs.getD k 0 + 10000 * val (xs.drop (k + 1)) := by
  rw [drop_cons xs k h, val]
theorem drop_end (xs : List Int) (k : Nat) (h : xs.length ≤ k) : xs.drop k = [] := List.drop_eq_nil_of_le h

/-- no 0 at the end -/
def Last (xs : List Int) : Prop := xs = [] ∨ xs.getD (xs.length - 1) 0 ≠ 0
theorem last_cons {x : Int} {xs : List Int} (h : xs ≠ []) : Last (x :: xs) ↔ Last xs := by
  obtain ⟨y, ys, rfl⟩ : ∃ y ys, xs = y :: ys := by
    cases xs with
    | nil => exact absurd rfl h
    | cons y ys => exact ⟨y, ys, rfl⟩
  unfold Last
  simp
theorem last_D (n : Nat) : Last (D n) := by
  induction n using Nat.strongRecOn with
  | _ n ih =>
    rcases Nat.eq_zero_or_pos n with h | h
    · subst h; exact .inl rfl
    · rw [D_pos n h]
      rcases Nat.eq_zero_or_pos (n / 10000) with h' | h'
      · rw [h', D_zero]; right; simp; omega
      · rw [last_cons (by rw [ne_eq, D_nil_iff]; omega)]; exact ih _ (by omega)
theorem D_val {xs : List Int} (h : Limbs xs) (hl : Last xs) : D (val xs).toNat = xs := by
  induction xs with
  | nil => rfl
  | cons x xs ih =>
    rw [limbs_cons] at h
    have h0 := val_nonneg h.2
    rcases Classical.em (xs = []) with rfl | hne
    · have hx : x ≠ 0 := by
        rcases hl with hl | hl
        · cases hl
        · simpa using hl
      have e : (val [x]).toNat = x.toNat := by simp [val]
      rw [e, D_pos _ (by omega), show x.toNat / 10000 = 0 from by omega, D_zero]
      congr 1; omega
    · have hl' := (last_cons hne).1 hl
      have ih' := ih h.2 hl'
      have hp : 0 < val xs := by
        rcases Int.lt_or_eq_of_le h0 with h1 | h1
        · exact h1
        · rw [← h1] at ih'; exact absurd ih'.symm hne
      rw [show (val (x :: xs)).toNat = x.toNat + 10000 * (val xs).toNat from by simp only [val]; omega, D_pos _ (by omega)]
      rw [show (x.toNat + 10000 * (val xs).toNat) / 10000 = (val xs).toNat from by omega, ih']
      congr 1; omega
theorem D_drop (n i : Nat) : (D n).drop i = D (n / 10000 ^ i) := by
  induction i generalizing n with
  | zero => simp
  | succ i ih =>
    rcases Nat.eq_zero_or_pos n with h | h
    · subst h; simp [D_zero]
    · rw [D_pos n h, List.drop_succ_cons, ih, Nat.div_div_eq_div_mul, Nat.pow_succ, Nat.mul_comm]
theorem D_len_le (n k : Nat) : (D n).length ≤ k ↔ n < 10000 ^ k := by
  have h : (D n).length ≤ k ↔ (D n).drop k = [] := by simp
  rw [h, D_drop, D_nil_iff, Nat.div_eq_zero_iff]
  have := npow_pos k
  omega
theorem D_len_gt (n k : Nat) : k < (D n).length ↔ 10000 ^ k ≤ n := by have := D_len_le n k; omega
theorem D_getD (n i : Nat) : (D n).getD i 0 = ((n / 10000 ^ i % 10000 : Nat) : Int) := by
  have h : (D n).getD i 0 = ((D n).drop i).getD 0 0 := by simp [List.getD]
  rw [h, D_drop]
  rcases Nat.eq_zero_or_pos (n / 10000 ^ i) with h | h
  · rw [h]; rfl
  · rw [D_pos _ h]; rfl
theorem D_inj {m n : Nat} (h : D m = D n) : m = n := by
  have := congrArg val h
  rw [val_D, val_D] at this
  omega
/-- what is trimmed -/
theorem trim_D {xs : List Int} (h : Limbs xs) (k : Nat) (hk : k ≤ xs.length) (hz : ∀ i, k ≤ i → i < xs.length → xs.getD i 0 = 0) (hl : k = 0 ∨ xs.getD (k - 1) 0 ≠ 0) :
    xs.take k = D (val xs).toNat := by
  have hd : val (xs.drop k) = 0 := by
    have : xs.drop k = List.replicate (xs.length - k) 0 := by
      apply List.ext_getElem
      · simp
      · intro i h1 h2
        have h3 : k + i < xs.length := by simp at h1; omega
        have := hz (k + i) (by omega) h3
        simp [List.getD, h3] at this
        simpa using this
    rw [this, val_replicate]
  have hv : val xs = val (xs.take k) := by rw [val_take_drop xs k hk, hd]; simp
  rw [hv]
  refine (D_val (limbs_take h k) ?_).symm
  rcases hl with rfl | hl
  · left; rfl
  · rcases Nat.eq_zero_or_pos k with h0 | h0
    · subst h0; left; rfl
    · right
      rw [List.length_take, Nat.min_eq_left hk]
      have hk' : k - 1 < xs.length := by omega
      have hk'' : k - 1 < k := by omega
      simpa [List.getD, List.getElem?_take, hk''] using hl

def natOf (xs : List Int) : Nat := (val xs).toNat
theorem natOf_D (n : Nat) : natOf (D n) = n := by unfold natOf; rw [val_D]; rfl
theorem natOf_val {xs : List Int} (h : Limbs xs) : (natOf xs : Int) = val xs := by unfold natOf; have := val_nonneg h; omega
theorem trim_len_le {xs : List Int} (h : Limbs xs) : (D (natOf xs)).length ≤ xs.length := by
  rw [D_len_le]
  have h1 := val_lt h
  have h2 := natOf_val h
  have e := npow_cast xs.length
  omega
theorem trim_take {xs : List Int} (h : Limbs xs) (k : Nat) (hk : k ≤ xs.length) (hz : ∀ i, k ≤ i → i < xs.length → xs.getD i 0 = 0) (hl : k = 0 ∨ xs.getD (k - 1) 0 ≠ 0) : k = (D (natOf xs)).length := by
  have := congrArg List.length (trim_D h k hk hz hl)
  rw [List.length_take, Nat.min_eq_left hk] at this
  exact this
theorem take_trim {xs : List Int} (h : Limbs xs) : xs.take (D (natOf xs)).length = D (natOf xs) := by
  have ex : ∀ n, n ≤ xs.length → (∀ i, n ≤ i → i < xs.length → xs.getD i 0 = 0) → ∃ k, k ≤ xs.length ∧ (∀ i, k ≤ i → i < xs.length → xs.getD i 0 = 0) ∧ (k = 0 ∨ xs.getD (k - 1) 0 ≠ 0) := by
    intro n
    induction n with
    | zero => intro _ hz; exact ⟨0, by omega, hz, .inl rfl⟩
    | succ n ih =>
      intro hn hz
      by_cases h0 : xs.getD n 0 = 0
      · exact ih (by omega) (fun i h1 h2 => by
          by_cases hi : i = n
          · subst hi; exact h0
          · exact hz i (by omega) h2)
      · exact ⟨n + 1, hn, hz, .inr (by simpa using h0)⟩
  obtain ⟨k, hk, hz, hl⟩ := ex xs.length (Nat.le_refl _) (fun i h1 h2 => absurd h1 (by omega))
  rw [← trim_take h k hk hz hl]
  exact trim_D h k hk hz hl

/-- what stands from a place on -/
def vd (xs : List Int) (k : Nat) : Int := val (xs.drop k)
theorem vd_zero (xs : List Int) : vd xs 0 = val xs := rfl
theorem vd_end (xs : List Int) (k : Nat) (h : xs.length ≤ k) : vd xs k = 0 := by unfold vd; rw [drop_end xs k h]; rfl
theorem vd_step (xs : List Int) (k : Nat) : vd xs k = xs.getD k 0 + 10000 * vd xs (k + 1) := by
  rcases Nat.lt_or_ge k xs.length with h | h
  · exact val_drop xs k h
  · rw [vd_end xs k h, vd_end xs (k + 1) (by omega)]
    have : xs.getD k 0 = 0 := by simp [List.getD, h]
    omega
theorem vd_nonneg {xs : List Int} (h : Limbs xs) (k : Nat) : 0 ≤ vd xs k := val_nonneg (limbs_drop h k)
theorem pow_step (P a b : Int) : P * a + (10000 * P) * b = P * (a + 10000 * b) := by
  rw [Int.mul_add, Int.mul_comm 10000 P, Int.mul_assoc]
theorem add_step (xs ys out : List Int) (k : Nat) (q : Int) (hl : out.length = k) :
    val (out ++ [(xs.getD k 0 + q + ys.getD k 0) % 10000]) + 10000 ^ (k + 1) * ((xs.getD k 0 + q + ys.getD k 0) / 10000 + vd xs (k + 1) + vd ys (k + 1)) = val out + 10000 ^ k * (q + vd xs k + vd ys k) := by
  rw [val_snoc, hl, pow_succ', Int.add_assoc, pow_step, vd_step xs k, vd_step ys k]
  generalize vd xs (k + 1) = u
  generalize vd ys (k + 1) = v
  generalize xs.getD k 0 = x
  generalize ys.getD k 0 = y
  rw [show (x + q + y) % 10000 + 10000 * ((x + q + y) / 10000 + u + v) = q + (x + 10000 * u) + (y + 10000 * v) from by omega]
/-- one limb of a difference: x less what is taken, and the next borrow -/
theorem take_step (xs ys out : List Int) (k : Nat) (q times left borrow : Int) (hl : out.length = k) (hx : xs.getD k 0 - (q + ys.getD k 0 * times) = left - 10000 * borrow) :
    val (out ++ [left]) + 10000 ^ (k + 1) * (vd xs (k + 1) - borrow - vd ys (k + 1) * times) = val out + 10000 ^ k * (vd xs k - q - vd ys k * times) := by
  rw [val_snoc, hl, pow_succ', Int.add_assoc, pow_step, vd_step xs k, vd_step ys k, Int.add_mul, Int.mul_assoc]
  generalize vd xs (k + 1) = u at *
  generalize vd ys (k + 1) * times = v at *
  generalize ys.getD k 0 * times = y at *
  generalize xs.getD k 0 = x at *
  rw [show left + 10000 * (u - borrow - v) = x + 10000 * u - q - (y + 10000 * v) from by omega]
theorem take_end {v P z r : Int} (h0 : v < P) (hP : 0 < P) (hz : 0 ≤ z) (hr : 0 ≤ r) (h : v + P * (0 - z) = r) : z = 0 := by
  rcases Int.lt_or_eq_of_le hz with h1 | h1
  · have : P * (0 - z) ≤ P * (-1) := Int.mul_le_mul_of_nonneg_left (by omega) (by omega)
    omega
  · omega
theorem limb_times {y t : Int} (h0 : 0 ≤ y) (h1 : y < 10000) (h2 : 0 ≤ t) (h3 : t ≤ 10000) : 0 ≤ y * t ∧ y * t ≤ 99990000 := by
  refine ⟨Int.mul_nonneg h0 h2, ?_⟩
  have := Int.mul_le_mul (show y ≤ 9999 by omega) h3 h2 (by omega)
  omega
/-- what is left of a natural from a place on -/
def dv (m k : Nat) : Nat := m / 10000 ^ k
theorem dv_zero (m : Nat) : dv m 0 = m := by simp [dv]
theorem dv_pos (m k : Nat) : 0 < dv m k ↔ k < (D m).length := by
  rw [D_len_gt]
  unfold dv
  rw [Nat.div_pos_iff]
  have := npow_pos k
  omega
theorem dv_step (m k : Nat) : ((dv m k : Nat) : Int) = (D m).getD k 0 + 10000 * (dv m (k + 1) : Nat) := by
  rw [D_getD]
  have h : dv m (k + 1) = dv m k / 10000 := by unfold dv; rw [Nat.pow_succ, Nat.div_div_eq_div_mul]
  rw [h]
  show ((dv m k : Nat) : Int) = ((dv m k % 10000 : Nat) : Int) + _
  omega
theorem add_round (m n k c : Nat) (h : 0 < c + dv m k + dv n k) :
    D (c + dv m k + dv n k) = (((c : Int) + (D m).getD k 0 + (D n).getD k 0) % 10000) :: D ((((c : Int) + (D m).getD k 0 + (D n).getD k 0) / 10000).toNat + dv m (k + 1) + dv n (k + 1)) := by
  rw [D_pos _ h]
  have h1 := dv_step m k
  have h2 := dv_step n k
  have h3 := limbs_getD (limbs_D m) k
  have h4 := limbs_getD (limbs_D n) k
  generalize (D m).getD k 0 = x at *
  generalize (D n).getD k 0 = y at *
  congr 1
  · omega
  · congr 1; omega

/-- the greatest natural that fits, and one more -/
def Top : Nat := 10000 ^ 40
def okL (xs : List Int) : Bool := decide (xs.length ≤ 40) && (xs.all fun x => decide (0 ≤ x) && decide (x < 10000)) && (xs.isEmpty || decide (xs.getD (xs.length - 1) 0 ≠ 0))
theorem okL_iff (xs : List Int) : okL xs = true ↔ xs.length ≤ 40 ∧ Limbs xs ∧ Last xs := by
  unfold okL Limbs Last
  simp only [Bool.and_eq_true, Bool.or_eq_true, decide_eq_true_eq, List.all_eq_true, List.isEmpty_iff, and_assoc]
theorem okL_D (n : Nat) (h : n < Top) : okL (D n) = true := (okL_iff _).2 ⟨(D_len_le n 40).2 h, limbs_D n, last_D n⟩
theorem okL_out {xs : List Int} (h : okL xs = true) : ∃ n, n < Top ∧ xs = D n := by
  obtain ⟨h1, h2, h3⟩ := (okL_iff _).1 h
  refine ⟨(val xs).toNat, ?_, (D_val h2 h3).symm⟩
  rw [Top, ← D_len_le, D_val h2 h3]; exact h1

theorem okL_long {xs : List Int} (h : 40 < xs.length) : okL xs = false := by
  rw [Bool.eq_false_iff]; intro hk; have := ((okL_iff _).1 hk).1; omega
theorem okL_last {xs : List Int} (h : 0 < xs.length) (hz : xs.getD (xs.length - 1) 0 = 0) : okL xs = false := by
  rw [Bool.eq_false_iff]; intro hk
  rcases ((okL_iff _).1 hk).2.2 with h0 | h0
  · rw [h0] at h; simp at h
  · exact h0 hz
theorem okL_bad {xs : List Int} (i : Nat) (_hi : i < xs.length) (hb : xs.getD i 0 < 0 ∨ 10000 ≤ xs.getD i 0) : okL xs = false := by
  rw [Bool.eq_false_iff]; intro hk
  have := limbs_getD ((okL_iff _).1 hk).2.1 i
  omega
theorem limbs_of_getD {xs : List Int} (h : ∀ i, i < xs.length → 0 ≤ xs.getD i 0 ∧ xs.getD i 0 < 10000) : Limbs xs := by
  intro x hx
  obtain ⟨i, hi, rfl⟩ := List.getElem_of_mem hx
  have := h i hi
  simpa [List.getD, hi] using this
theorem okL_good {xs : List Int} (h : xs.length ≤ 40) (hb : ∀ i, i < xs.length → 0 ≤ xs.getD i 0 ∧ xs.getD i 0 < 10000) (hl : xs.length = 0 ∨ xs.getD (xs.length - 1) 0 ≠ 0) : okL xs = true := by
  refine (okL_iff _).2 ⟨h, limbs_of_getD hb, ?_⟩
  rcases hl with hl | hl
  · exact .inl (List.eq_nil_of_length_eq_zero hl)
  · exact .inr hl

/-- the order of two naturals, as a number -/
def cmpI (m n : Nat) : Int := if m < n then -1 else if m = n then 0 else 1
theorem D_len_mono {m n : Nat} (h : (D m).length < (D n).length) : m < n := by
  have h1 := (D_len_le m (D m).length).1 (Nat.le_refl _)
  have h2 := (D_len_gt n (D m).length).1 h
  omega
theorem cmpI_lt {m n : Nat} (h : m < n) : cmpI m n = -1 := by unfold cmpI; rw [if_pos h]
theorem cmpI_ge {m n : Nat} (h : ¬ m < n) : 0 ≤ cmpI m n ∧ cmpI m n ≤ 1 := by unfold cmpI; rw [if_neg h]; split <;> omega
/-- the order of two numbers, as a number -/
def cmpZ (a b : Int) : Int := if a < b then -1 else if b < a then 1 else 0
theorem cmpZ_nat (m n : Nat) : cmpZ m n = cmpI m n := by
  unfold cmpZ cmpI
  by_cases h : m < n
  · rw [if_pos (by omega), if_pos h]
  · rw [if_neg (by omega), if_neg h]
    by_cases h2 : m = n
    · rw [if_neg (by omega), if_pos h2]
    · rw [if_pos (by omega), if_neg h2]
theorem cmp_len {m n : Nat} (h : (D m).length ≠ (D n).length) : cmpZ ((D m).length : Nat) ((D n).length : Nat) = cmpI m n := by
  rw [cmpZ_nat]
  rcases Nat.lt_or_gt_of_ne h with h1 | h1
  · have := D_len_mono h1
    unfold cmpI; rw [if_pos h1, if_pos this]
  · have := D_len_mono h1
    unfold cmpI; rw [if_neg (by omega), if_neg (by omega), if_neg (by omega), if_neg (by omega)]
theorem val_cmp {xs ys : List Int} (hx : Limbs xs) (hy : Limbs ys) (hl : xs.length = ys.length) (k : Nat) (hk : k < xs.length)
    (hd : ∀ j, k < j → j < xs.length → xs.getD j 0 = ys.getD j 0) (hlt : xs.getD k 0 < ys.getD k 0) : val xs < val ys := by
  have e1 := val_take_drop xs k (by omega)
  have e2 := val_take_drop ys k (by omega)
  rw [val_drop xs k hk] at e1
  rw [val_drop ys k (by omega)] at e2
  have e3 : xs.drop (k + 1) = ys.drop (k + 1) := by
    apply List.ext_getElem
    · simp [hl]
    · intro i h1 h2
      have h3 : k + 1 + i < xs.length := by simp at h1; omega
      have := hd (k + 1 + i) (by omega) h3
      have h4 : k + 1 + i < ys.length := by omega
      simp [List.getD, h3, h4] at this
      simpa using this
  rw [e3] at e1
  have b1 := val_lt (limbs_take hx k)
  rw [List.length_take, Nat.min_eq_left (by omega)] at b1
  have b2 := val_nonneg (limbs_take hy k)
  generalize val (ys.drop (k + 1)) = r at *
  have p := pow_pos' k
  generalize (10000 : Int) ^ k = q at *
  have h5 : q * (xs.getD k 0 + 10000 * r) + q ≤ q * (ys.getD k 0 + 10000 * r) := by
    have : q * (xs.getD k 0 + 10000 * r) + q = q * (xs.getD k 0 + 10000 * r + 1) := by rw [Int.mul_add q (xs.getD k 0 + 10000 * r) 1, Int.mul_one]
    rw [this]
    exact Int.mul_le_mul_of_nonneg_left (by omega) (by omega)
  omega
theorem D_cmp {m n : Nat} (hl : (D m).length = (D n).length) (k : Nat) (hk : k < (D m).length)
    (hd : ∀ j, k < j → j < (D m).length → (D m).getD j 0 = (D n).getD j 0) (hne : (D m).getD k 0 ≠ (D n).getD k 0) : cmpZ ((D m).getD k 0) ((D n).getD k 0) = cmpI m n := by
  rcases Int.lt_or_gt_of_ne hne with h | h
  · have := val_cmp (limbs_D m) (limbs_D n) hl k hk hd h
    rw [val_D, val_D] at this
    unfold cmpZ cmpI; rw [if_pos h, if_pos (by omega)]
  · have := val_cmp (limbs_D n) (limbs_D m) hl.symm k (by omega) (fun j h1 h2 => (hd j h1 (by omega)).symm) h
    rw [val_D, val_D] at this
    unfold cmpZ cmpI; rw [if_neg (by omega), if_pos h, if_neg (by omega), if_neg (by omega)]
theorem D_same {m n : Nat} (hl : (D m).length = (D n).length) (hd : ∀ j, j < (D m).length → (D m).getD j 0 = (D n).getD j 0) : cmpI m n = 0 := by
  have : D m = D n := by
    apply List.ext_getElem hl
    intro i h1 h2
    have := hd i h1
    simpa [List.getD, h1, h2] using this
  have := D_inj this
  unfold cmpI; rw [if_neg (by omega), if_pos this]

/-- a bit as a number -/
def bitZ (b : Bool) : Int := if b = true then 1 else 0
theorem bit_cmp (x y : Int) (h : x ≠ y) : 2 * bitZ (decide (y < x)) - 1 = cmpZ x y := by
  unfold bitZ cmpZ
  by_cases h1 : y < x
  · rw [if_pos (by simpa using h1), if_neg (by omega), if_pos h1]; rfl
  · rw [if_neg (by simpa using h1), if_pos (by omega)]; rfl
end Nt
namespace Nt
open Go Go.RowKit

/-- the slice value '.slice A n c' reads as the numbers xs; its block is one of P -/
def Rd (w : World) (P : Nat → Prop) (A : Option Addr) (n c : Nat) (xs : List Int) : Prop :=
  xs.length = n ∧ n ≤ c ∧ (A = none → c = 0) ∧ (0 < n → ∃ b o, A = some ⟨b, o, none⟩ ∧ P b ∧ b < w.heap.size ∧ ∀ i, i < n → w.cell? ⟨b, o + i, none⟩ = some (.int .i64 (xs.getD i 0)))

theorem Rd.at_ {w : World} {P : Nat → Prop} {A : Option Addr} {n c : Nat} {xs : List Int} (h : Rd w P A n c xs) (hn : 0 < n) :
    ∃ b o, A = some ⟨b, o, none⟩ ∧ P b ∧ b < w.heap.size ∧ ∀ i, i < n → w.cell? ⟨b, o + i, none⟩ = some (.int .i64 (xs.getD i 0)) := h.2.2.2 hn
theorem Rd.len {w : World} {P : Nat → Prop} {A : Option Addr} {n c : Nat} {xs : List Int} (h : Rd w P A n c xs) : xs.length = n := h.1
theorem Rd.cap {w : World} {P : Nat → Prop} {A : Option Addr} {n c : Nat} {xs : List Int} (h : Rd w P A n c xs) : n ≤ c := h.2.1
theorem Rd.keep {w w' : World} {P : Nat → Prop} {A : Option Addr} {n c : Nat} {xs : List Int} (h : Rd w P A n c xs) (hs : w.heap.size ≤ w'.heap.size)
    (hk : ∀ b, P b → b < w.heap.size → w'.heap[b]? = w.heap[b]?) : Rd w' P A n c xs :=
  ⟨h.1, h.2.1, h.2.2.1, fun hn => by
    obtain ⟨b, o, e, hp, hlt, hc⟩ := h.2.2.2 hn
    exact ⟨b, o, e, hp, by omega, fun i hi => (World.cell?_of_block (a := ⟨b, o + i, none⟩) (hk b hp hlt)).trans (hc i hi)⟩⟩
theorem Rd.mono {w : World} {P Q : Nat → Prop} {A : Option Addr} {n c : Nat} {xs : List Int} (h : Rd w P A n c xs) (hpq : ∀ b, P b → b < w.heap.size → Q b) : Rd w Q A n c xs :=
  ⟨h.1, h.2.1, h.2.2.1, fun hn => by
    obtain ⟨b, o, e, hp, hlt, hc⟩ := h.2.2.2 hn
    exact ⟨b, o, e, hpq b hp hlt, hlt, hc⟩⟩
theorem Rd.nil_ (w : World) (P : Nat → Prop) (A : Option Addr) (c : Nat) (hA : A = none → c = 0) : Rd w P A 0 c [] := ⟨rfl, Nat.zero_le _, hA, fun h => absurd h (by omega)⟩
theorem Rd.below {w w' : World} {B : Nat} {A : Option Addr} {n c : Nat} {xs : List Int} (h : Rd w (· < B) A n c xs) (hb : Below B w w') : Rd w' (· < B) A n c xs :=
  h.keep hb.size fun b hp _ => hb.block b hp
theorem Rd.drew {w : World} {P : Nat → Prop} {A : Option Addr} {n c : Nat} {xs : List Int} (h : Rd w P A n c xs) : Rd w.drew P A n c xs := h
theorem Rd.drewN {w : World} {P : Nat → Prop} {A : Option Addr} {n c : Nat} {xs : List Int} (h : Rd w P A n c xs) (k : Nat) : Rd (w.drewN k) P A n c xs := h

/-- numbers as cells; noughts -/
def cellsOf (xs : List Int) : Array Value := (xs.map (Value.int .i64)).toArray
def zeros (n : Nat) : List Int := List.replicate n 0
theorem zeros_len (n : Nat) : (zeros n).length = n := by simp [zeros]
theorem zeros_limbs (n : Nat) : Limbs (zeros n) := limbs_replicate n
theorem zeros_val (n : Nat) : val (zeros n) = 0 := val_replicate n
theorem zeros_getD (n i : Nat) : (zeros n).getD i 0 = 0 := by
  unfold zeros
  rcases Nat.lt_or_ge i n with h | h
  · simp [List.getD, h]
  · simp [List.getD, h]
theorem set_zeros (out : List Int) (k m : Nat) (x : Int) (hk : out.length = k) (hm : 0 < m) : (out ++ zeros m).set k x = (out ++ [x]) ++ zeros (m - 1) := by
  obtain ⟨m, rfl⟩ : ∃ j, m = j + 1 := ⟨m - 1, by omega⟩
  subst hk
  simp [zeros, List.replicate_succ]
theorem cellsOf_get (xs : List Int) (i : Nat) (hi : i < xs.length) : (cellsOf xs)[i]? = some (.int .i64 (xs.getD i 0)) := by simp [cellsOf, List.getD, hi]
/-- block g is just the numbers xs, none frozen -/
def Arr (w : World) (g : Nat) (t : TypeId) (xs : List Int) : Prop := w.heap[g]? = some (.cells (cellsOf xs) t (0, 0))

theorem Arr.lt {w : World} {g : Nat} {t : TypeId} {xs : List Int} (h : Arr w g t xs) : g < w.heap.size := by
  rcases Nat.lt_or_ge g w.heap.size with hlt | hge
  · exact hlt
  · unfold Arr at h; rw [Array.getElem?_eq_none hge] at h; cases h
theorem Arr.cell {w : World} {g : Nat} {t : TypeId} {xs : List Int} (h : Arr w g t xs) (i : Nat) (hi : i < xs.length) : w.cell? ⟨g, i, none⟩ = some (.int .i64 (xs.getD i 0)) := by
  rw [cell_of_row w g i _ t (0, 0) h, cellsOf_get xs i hi]
theorem Arr.frozen {w : World} {g : Nat} {t : TypeId} {xs : List Int} (h : Arr w g t xs) (i : Nat) : w.frozen? ⟨g, i, none⟩ = false := frozen_of_row w g i _ t h
theorem Arr.keep {w w' : World} {g : Nat} {t : TypeId} {xs : List Int} (h : Arr w g t xs) (hk : w'.heap[g]? = w.heap[g]?) : Arr w' g t xs := hk.trans h
theorem Arr.set_ {w : World} {g : Nat} {t : TypeId} {xs : List Int} (h : Arr w g t xs) (i : Nat) (v : Int) : Arr (w.setCell ⟨g, i, none⟩ (.int .i64 v)) g t (xs.set i v) := by
  unfold Arr at h ⊢
  rw [heap_setCell_same w g i _ t _ h]
  simp [cellsOf, List.map_set]
theorem Arr.rd {w : World} {g : Nat} {t : TypeId} {xs : List Int} (h : Arr w g t xs) (P : Nat → Prop) (hP : P g) (o n c : Nat) (hn : o + n ≤ xs.length) (hc : n ≤ c) :
    Rd w P (some ⟨g, o, none⟩) n c ((xs.drop o).take n) :=
  ⟨by simp; omega, hc, (fun h => by cases h), fun _ => ⟨g, o, rfl, hP, h.lt, fun i hi => by
    rw [h.cell (o + i) (by omega)]
    simp [List.getD, hi]⟩⟩
theorem Arr.rd_all {w : World} {g : Nat} {t : TypeId} {xs : List Int} (h : Arr w g t xs) (P : Nat → Prop) (hP : P g) (n c : Nat) (hn : n = xs.length) (hc : n ≤ c) :
    Rd w P (some ⟨g, 0, none⟩) n c xs := by
  have := h.rd P hP 0 n c (by omega) hc
  simpa [hn] using this
theorem Arr.new (w : World) (t : TypeId) (xs : List Int) : Arr (w.alloc (.cells (cellsOf xs) t)) w.heap.size t xs := heap_alloc_new w _

/-- a row of the call's own, whose numbers are xs -/
theorem own_rd {w : World} {base n : Nat} {e : TypeId} {v : Value} {xs : List Int} (h : w.ownsRow base e 1 v n (xs.map (Value.int .i64))) :
    ∃ A c, v = .slice A n c ∧ Rd w (base ≤ ·) A n c xs := by
  have hlen : xs.length = n := by have := h.1; simpa using this
  rcases h.2 with ⟨rfl, rfl⟩ | ⟨g, cap, cur, rfl, hb, hh, hnc, _, _, ht⟩
  · have : xs = [] := List.eq_nil_of_length_eq_zero hlen
    subst this
    exact ⟨_, _, rfl, Rd.nil_ _ _ _ _ (fun _ => rfl)⟩
  · refine ⟨_, _, rfl, hlen, hnc, (fun h => by cases h), fun hn => ⟨g, 0, rfl, hb, ?_, fun i hi => ?_⟩⟩
    · rcases Nat.lt_or_ge g w.heap.size with hlt | hge
      · exact hlt
      · rw [Array.getElem?_eq_none hge] at hh; cases hh
    · rw [h.cellAt _ (by omega)]
      simp [List.getD, hlen, hi]

theorem own_rd' {w : World} {base n c : Nat} {e : TypeId} {A : Option Addr} {xs : List Int} (h : w.ownsRow base e 1 (.slice A n c) n (xs.map (Value.int .i64))) : Rd w (base ≤ ·) A n c xs := by
  obtain ⟨A', c', e', hr⟩ := own_rd h
  injection e' with e1 _ e3
  subst e1 e3
  exact hr
theorem Arr.own {w : World} {g : Nat} {t : TypeId} {xs : List Int} (h : Arr w g t xs) (base : Nat) (hb : base ≤ g) (n c : Nat) (hn : n = xs.length) (hc : c = n) (hm : n ≤ maxLen) : w.ownsRow base t 1 (.slice (some ⟨g, 0, none⟩) n c) n (xs.map (Value.int .i64)) := by
  subst hc hn
  exact ⟨by simp, .inr ⟨g, xs.length, _, rfl, hb, h, Nat.le_refl _, hm, by simp [cellsOf], by simp [cellsOf, List.take_of_length_le]⟩⟩
theorem own_mono {w : World} {base base' n : Nat} {e : TypeId} {v : Value} {xs : List Value} (h : w.ownsRow base e 1 v n xs) (hb : base' ≤ base) : w.ownsRow base' e 1 v n xs := by
  rcases h with ⟨h1, h2 | ⟨g, cap, cur, e', hg, h3⟩⟩
  · exact ⟨h1, .inl h2⟩
  · exact ⟨h1, .inr ⟨g, cap, cur, e', Nat.le_trans hb hg, h3⟩⟩
theorem own_keep {w w' : World} {base n c : Nat} {e : TypeId} {A : Option Addr} {xs : List Value} (h : w.ownsRow base e 1 (.slice A n c) n xs) (hb : Below w.heap.size w w') : w'.ownsRow base e 1 (.slice A n c) n xs := by
  refine h.kept (row := none) ⟨hb.os, hb.tape, hb.output, hb.size, fun k hk _ => hb.block k hk⟩ ?_
  cases hA : (Value.slice A n c).ownBlock with
  | none => exact .inl rfl
  | some g => exact .inr (by simp)
/-- make([]int, n) -/
theorem run_make_ints {P : Program} (t e : TypeId) (ht : P.underlying t = some (.slice e)) (hi : (P.info? e).map (fun i => (i.zero, i.size, i.bytes)) = some (some (.int .i64 0), 1, 8)) (n : Nat) (hn : n ≤ 16777216) (w : World) :
    (Instr.makeSlice t (.int .i64 (n : Int)) (.int .i64 (n : Int))).run P w = .ok (.slice (some ⟨w.heap.size, 0, none⟩) n n) (w.alloc (.cells (cellsOf (zeros n)) e)) := by
  obtain ⟨i, h1, h2, h3, h4⟩ := info_parts hi
  have hb : (i.bytes : Int) * (n : Int) ≤ 281474976710656 := by rw [h4]; omega
  have hr := run_make (P := P) w t e i _ ht h1 h2 .i64 .i64 n n (by omega) (by omega) hb (by omega)
  simp only [Int.toNat_natCast] at hr
  rw [hr, h3]
  have : madeCells (Value.int .i64 0).cells (n * 1) = cellsOf (zeros n) := by
    apply Array.toList_inj.1
    rw [Nat.mul_one]
    show (madeCells #[.int .i64 0] n).toList = _
    rw [toList_madeCells_one]
    simp [cellsOf, zeros]
  rw [this]

theorem rd_one (w : World) (e : TypeId) (x : Int) : Rd (w.alloc (.cells #[.int .i64 x] e)) (fun b => b = w.heap.size) (some ⟨w.heap.size, 0, none⟩) 1 1 [x] :=
  (Arr.new w e [x]).rd_all (fun b => b = w.heap.size) rfl 1 1 rfl (Nat.le_refl _)
theorem Rd.cut {w : World} {P : Nat → Prop} {A : Option Addr} {n c : Nat} {xs : List Int} (h : Rd w P A n c xs) (k : Nat) (hk : k ≤ n) : Rd w P A k c (xs.take k) := by
  have hl := h.len
  refine ⟨by rw [List.length_take]; omega, by have := h.cap; omega, h.2.2.1, fun hn => ?_⟩
  obtain ⟨b, o, e, hp, hlt, hc⟩ := h.at_ (by omega)
  refine ⟨b, o, e, hp, hlt, fun i hi => ?_⟩
  rw [hc i (by omega)]
  simp [List.getD, hi]
/-- append onto a row of the call's own: numbers that are read anywhere -/
theorem wpList_append_ints {P : Program} (w : World) {ops : Array Oper} {rest : List Oper} {o : Oper} {a : Act} {Q : Exit → Act → World → Prop} (hgd : o.guard = none) (s x : Operand) (t : TypeId)
    (ho : o.op = .call { callee := .builtin .append, args := #[s, x], argTypes := #[t, t] })
    (base : Nat) (e : TypeId) (ht : P.underlying t = some (.slice e)) (hinfo : (P.info? e).map (fun i => (i.zero, i.size, i.bytes)) = some (some (.int .i64 0), 1, 8))
    (V : Option Addr) (n cv : Nat) (xs : List Int) (hs : a.eval s = .slice V n cv) (hown : w.ownsRow base e 1 (.slice V n cv) n (xs.map (Value.int .i64)))
    (R : Nat → Prop) (A : Option Addr) (m c : Nat) (ys : List Int) (hx : a.eval x = .slice A m c) (hr : Rd w R A m c ys) (hnm : n + m ≤ 268435456) (hbase : base ≤ w.heap.size)
    (h : ∀ V' c' w', w'.ownsRow base e 1 (.slice V' (n + m) c') (n + m) ((xs ++ ys).map (Value.int .i64)) → w.grownBy w' (Value.slice V n cv).ownBlock → wpList P ops Q rest (a.put o.dst (.slice V' (n + m) c')) w') :
    wpList P ops Q (o :: rest) a w := by
  obtain ⟨i, h1, h2, h3, h4⟩ := info_parts hinfo
  cases A with
  | none =>
    have hc0 := hr.2.2.1 rfl
    have hm0 : m = 0 := by have := hr.cap; omega
    subst hc0 hm0
    have hy : ys = [] := List.eq_nil_of_length_eq_zero hr.len
    subst hy
    refine wpList_append_own_none hgd s x t ho base e i 1 ht h1 _ n _ hs hown hx ?_
    have := h V cv w (by simpa using hown) (World.grownBy.refl _ _)
    simpa using this
  | some ad =>
    refine wpList_append_own w hgd s x t ho base e i _ 1 8 ht h1 h2 h3 h4 rfl (by decide) _ n _ hs hown ad m c (ys.map (Value.int .i64)) hx (by simpa using hr.len) ?_ (ints_oneCell _ _) (by unfold maxLen; omega) (by omega) hbase ?_
    · intro j u hj
      rw [List.getElem?_map] at hj
      have hlt : j < ys.length := by
        rcases Nat.lt_or_ge j ys.length with h | h
        · exact h
        · rw [List.getElem?_eq_none h] at hj; cases hj
      obtain ⟨b, o', e', _, _, hc⟩ := hr.at_ (by have := hr.len; omega)
      injection e' with e'
      subst e'
      have := hc j (by have := hr.len; omega)
      rw [List.getElem?_eq_getElem hlt] at hj
      simp only [Option.map_some, Option.some.injEq] at hj
      rw [← hj]
      have e2 : ys.getD j 0 = ys[j] := by simp [List.getD, hlt]
      rw [e2] at this
      rw [← this]
      unfold Addr.add
      by_cases hj0 : j = 0 <;> simp [hj0]
    · intro v' w' h5 h6 _
      rw [← List.map_append] at h5
      obtain ⟨A', c', rfl, _⟩ := own_rd h5
      exact h A' c' w' h5 h6
theorem results_none {fn : Func} (h : fn.results = #[]) (tmps : Array Value) (P : Program) (w : World) : (results fn tmps).run P w = .ok (.tuple #[]) w := by simp [results, h]
/-- what a row of the claim tells of a slice of integers that came in -/
def IsRow (k : IntKind) (w : World) (a : Option Addr) (len cap : Nat) (zs : List Int) : Prop :=
  (a = none ∧ len = 0 ∧ cap = 0 ∧ zs = []) ∨
  ∃ x, a = some x ∧ len ≤ cap ∧ cap ≤ maxLen ∧ zs.length = cap ∧ (∀ i, i < zs.length → w.cell? (x.add i) = some (.int k (zs.getD i 0))) ∧ ∀ n ∈ zs, (Lit.int k n).wf = true
theorem IsRow.le {k : IntKind} {w : World} {a : Option Addr} {len cap : Nat} {zs : List Int} (h : IsRow k w a len cap zs) : len ≤ 9223372036854775807 := by
  rcases h with ⟨_, h, _⟩ | ⟨x, _, h1, h2, _⟩
  · omega
  · unfold maxLen at h2; omega
theorem IsRow.rd {w : World} {a : Option Addr} {len cap : Nat} {zs : List Int} (h : IsRow .i64 w a len cap zs) : Rd w (· < w.heap.size) a len cap (zs.take len) := by
  rcases h with ⟨rfl, rfl, rfl, rfl⟩ | ⟨⟨b, o, spot⟩, rfl, h1, h2, h3, hc, _⟩
  · exact Rd.nil_ _ _ _ _ (fun _ => rfl)
  · refine ⟨by rw [List.length_take]; omega, h1, (fun h => by cases h), fun hn => ?_⟩
    have h0 := hc 0 (by omega)
    have hspot : spot = none := by simpa [Addr.add] using World.cell?_spot h0
    subst hspot
    refine ⟨b, o, rfl, ?_, ?_, fun i hi => ?_⟩
    · exact World.block_lt_of_cell? w _ h0
    · exact World.block_lt_of_cell? w _ h0
    · have := hc i (by omega)
      have e : (zs.take len).getD i 0 = zs.getD i 0 := by simp [List.getD, hi]
      rw [e, ← this]
      unfold Addr.add
      by_cases hi0 : i = 0 <;> simp [hi0]

theorem ret_bool {a b : Bool} (h : a = b) : Ending.returned (.bool a) = .returned (.bool b) := by rw [h]
theorem ret_int {a b : Int} (h : a = b) : Ending.returned (.int .i64 a) = .returned (.int .i64 b) := by rw [h]
theorem below_drewN' {B : Nat} {a w : World} (h : Below B a w) (n : Nat) : Below B a (w.drewN n) := ⟨h.os, h.tape, h.output, h.size, h.block⟩
/-- a world that has drawn, and drawn again -/
def Drawn (w w' : World) : Prop := ∃ q, w' = w.drewN q
theorem Drawn.refl (w : World) : Drawn w w := ⟨0, rfl⟩
theorem Drawn.more {w w' : World} (h : Drawn w w') (n : Nat) : Drawn w (w'.drewN n) := by
  obtain ⟨q, rfl⟩ := h; exact ⟨q + n, by rw [World.drewN_drewN]⟩
theorem Drawn.drew {w w' : World} (h : Drawn w w') : Drawn w w'.drew := h.more 1
theorem Drawn.trans {a b c : World} (h : Drawn a b) (k : Drawn b c) : Drawn a c := by
  obtain ⟨q, rfl⟩ := k; exact h.more q
theorem Drawn.heap {w w' : World} (h : Drawn w w') : w'.heap = w.heap := by obtain ⟨q, rfl⟩ := h; rfl
theorem Drawn.cell {w w' : World} (h : Drawn w w') {a : Addr} {v : Value} (hc : w.cell? a = some v) : w'.cell? a = some v := by obtain ⟨q, rfl⟩ := h; exact hc
theorem Drawn.below {w w' : World} (h : Drawn w w') (B : Nat) : Below B w w' := by obtain ⟨q, rfl⟩ := h; exact below_drewN' (Below.refl _ _) q
theorem Drawn.rd {w w' : World} {P : Nat → Prop} {A : Option Addr} {n c : Nat} {xs : List Int} (h : Drawn w w') (hr : Rd w P A n c xs) : Rd w' P A n c xs := by obtain ⟨q, rfl⟩ := h; exact hr
theorem Drawn.arr {w w' : World} {g : Nat} {t : TypeId} {xs : List Int} (h : Drawn w w') (hr : Arr w g t xs) : Arr w' g t xs := by obtain ⟨q, rfl⟩ := h; exact hr
theorem Drawn.grown {w w' : World} (h : Drawn w w') (r : Option Nat) : w.grownBy w' r := by obtain ⟨q, rfl⟩ := h; exact ⟨rfl, rfl, rfl, Nat.le_refl _, fun _ _ _ => rfl⟩
theorem quiet_add_left {P : Program} {f : FuncId} {args : Array Value} {w : World} {a n : Nat} {v : Value}
    (h : Calls P f args (w.drewN (a + n)) fun e w' => e = .returned v ∧ w.drewN (a + n) = w') :
    Calls P f args (w.drewN (a + n)) fun e w'' => e = .returned v ∧ ∃ m, w'' = w.drewN (a + m) :=
  h.mono fun _ _ ⟨he, hm⟩ => ⟨he, n, hm.symm⟩
theorem grown_trans {a b c : World} {r : Option Nat} (h : a.grownBy b r) (k : b.grownBy c r) : a.grownBy c r :=
  ⟨k.os.trans h.os, k.tape.trans h.tape, k.output.trans h.output, Nat.le_trans h.size k.size, fun i hi hne => (k.block i (Nat.lt_of_lt_of_le hi h.size) hne).trans (h.block i hi hne)⟩
theorem grown_set {a w : World} {g i : Nat} (h : a.grownBy w (some g)) (u : Value) : a.grownBy (w.setCell ⟨g, i, none⟩ u) (some g) :=
  ⟨h.os, h.tape, h.output, by simpa [World.setCell] using h.size, fun k hk hne => (Below.heap_setCell w _ u k (fun e => hne (by rw [e]))).trans (h.block k hk hne)⟩
theorem grown_drew {a w : World} {r : Option Nat} (h : a.grownBy w r) : a.grownBy w.drew r := ⟨h.os, h.tape, h.output, h.size, h.block⟩
theorem grown_drewN {a w : World} {r : Option Nat} (h : a.grownBy w r) (n : Nat) : a.grownBy (w.drewN n) r := ⟨h.os, h.tape, h.output, h.size, h.block⟩
theorem below_drewN {B : Nat} {a w : World} (h : Below B a w) (n : Nat) : Below B a (w.drewN n) := ⟨h.os, h.tape, h.output, h.size, h.block⟩
theorem grown_below {a w : World} {g B : Nat} (h : a.grownBy w (some g)) (hB : B ≤ a.heap.size) (hg : B ≤ g) : Below B a w :=
  ⟨h.os, h.tape, h.output, h.size, fun k hk => h.block k (by omega) (fun e => by injection e with e; omega)⟩
theorem below_grown {a w : World} (h : Below a.heap.size a w) (r : Option Nat) : a.grownBy w r := ⟨h.os, h.tape, h.output, h.size, fun i hi _ => h.block i hi⟩
end Nt
namespace Nt
open Go Go.RowKit
/-- block g begins with the numbers xs, k more cells follow, none is frozen -/
def Arx (w : World) (g : Nat) (t : TypeId) (k : Nat) (xs : List Int) : Prop :=
  ∃ rest : List Value, rest.length = k ∧ w.heap[g]? = some (.cells (xs.map (Value.int .i64) ++ rest).toArray t (0, 0))
variable {w w' : World} {g k : Nat} {t : TypeId} {xs : List Int}
theorem Arr.arx (h : Arr w g t xs) : Arx w g t 0 xs := ⟨[], rfl, by rw [List.append_nil]; exact h⟩
theorem Arx.lt (h : Arx w g t k xs) : g < w.heap.size := by
  obtain ⟨r, _, h⟩ := h
  rcases Nat.lt_or_ge g w.heap.size with hlt | hge
  · exact hlt
  · rw [Array.getElem?_eq_none hge] at h; cases h
theorem Arx.cell (h : Arx w g t k xs) (i : Nat) (hi : i < xs.length) : w.cell? ⟨g, i, none⟩ = some (.int .i64 (xs.getD i 0)) := by
  obtain ⟨r, _, h⟩ := h
  rw [cell_of_row w g i _ t (0, 0) h]
  simp [List.getElem?_append, hi, List.getD]
theorem Arx.frozen (h : Arx w g t k xs) (i : Nat) : w.frozen? ⟨g, i, none⟩ = false := by
  obtain ⟨r, _, h⟩ := h
  exact frozen_of_row w g i _ t h
theorem Arx.keep (h : Arx w g t k xs) (hk : w'.heap[g]? = w.heap[g]?) : Arx w' g t k xs := by
  obtain ⟨r, h0, h⟩ := h
  exact ⟨r, h0, hk.trans h⟩
theorem Arx.set_ (h : Arx w g t k xs) (i : Nat) (v : Int) : Arx (w.setCell ⟨g, i, none⟩ (.int .i64 v)) g t k (xs.set i v) := by
  obtain ⟨r, h0, h⟩ := h
  rcases Nat.lt_or_ge i xs.length with hi | hi
  · refine ⟨r, h0, ?_⟩
    rw [heap_setCell_same w g i _ t _ h]
    simp [List.map_set, hi]
  · refine ⟨r.set (i - xs.length) (.int .i64 v), by rw [List.length_set]; exact h0, ?_⟩
    rw [heap_setCell_same w g i _ t _ h]
    simp [List.set_append, List.set_eq_of_length_le hi, Nat.not_lt.2 hi]
theorem Arx.rd (h : Arx w g t k xs) (P : Nat → Prop) (hP : P g) (o n c : Nat) (hn : o + n ≤ xs.length) (hc : n ≤ c) :
    Rd w P (some ⟨g, o, none⟩) n c ((xs.drop o).take n) :=
  ⟨by simp; omega, hc, (fun h => by cases h), fun _ => ⟨g, o, rfl, hP, h.lt, fun i hi => by
    rw [h.cell (o + i) (by omega)]
    simp [List.getD, hi]⟩⟩
theorem Drawn.arx (h : Drawn w w') (hr : Arx w g t k xs) : Arx w' g t k xs := by obtain ⟨q, rfl⟩ := h; exact hr
/-- a row of the call's own is such a block -/
theorem own_arx {base n c : Nat} {A : Option Addr} (h : w.ownsRow base t 1 (.slice A n c) n (xs.map (Value.int .i64))) (hn : 0 < n) : ∃ g, A = some ⟨g, 0, none⟩ ∧ base ≤ g ∧ n ≤ c ∧ c ≤ maxLen ∧ Arx w g t (c - n) xs := by
  have hl : xs.length = n := by have := h.1; simpa using this
  rcases h.2 with ⟨_, h0⟩ | ⟨g, cap, cur, e', hb, hh, hnc, hm, hcs, ht⟩
  · omega
  · injection e' with e1 e2 e3
    subst e3
    refine ⟨g, e1, hb, hnc, hm, cur.toList.drop n, by simp; omega, ?_⟩
    rw [hh]
    rw [Nat.mul_one] at ht
    rw [← ht, List.take_append_drop]
theorem Arx.own (h : Arx w g t k xs) (base : Nat) (hb : base ≤ g) (n c : Nat) (hn : n ≤ xs.length) (hc : c = xs.length + k) (hm : c ≤ maxLen) : w.ownsRow base t 1 (.slice (some ⟨g, 0, none⟩) n c) n ((xs.take n).map (Value.int .i64)) := by
  obtain ⟨r, h0, h⟩ := h
  refine ⟨by simp; omega, .inr ⟨g, c, _, rfl, hb, h, by omega, hm, by simp; omega, ?_⟩⟩
  rw [Nat.mul_one]
  simp only [List.take_append, List.length_map, List.map_take]
  rw [show n - xs.length = 0 from by omega]
  simp
end Nt
namespace Go.Proofs.YtifepoefeamboaaGreatDoor
open Go Go.RowKit Nt

theorem infoInt : (Tryz.prog.info? 3).map (fun i => (i.zero, i.size, i.bytes)) = some (some (.int .i64 0), 1, 8) := by kernel_rfl
theorem mk_ints (n : Nat) (hn : n ≤ 16777216) (w : World) :
    (Instr.makeSlice 29 (.int .i64 (n : Int)) (.int .i64 (n : Int))).run Tryz.prog w = .ok (.slice (some ⟨w.heap.size, 0, none⟩) n n) (w.alloc (.cells (cellsOf (zeros n)) 3)) :=
  run_make_ints _ _ Tryz.underlying29 infoInt n hn w

end Go.Proofs.YtifepoefeamboaaGreatDoor
namespace Go.Proofs.YtifepoefeamboaaGreatDoor
open Go Go.RowKit Nt

set_option maxHeartbeats 400000 in
theorem implNatOK_any (A : Option Addr) (n c : Nat) (xs : List Int) (P : Nat → Prop) (w : World) (hr : Rd w P A n c xs) (hn : n ≤ 16777216) :
    Calls Tryz.prog 162 #[.slice A n c] w fun e w' => e = .returned (.bool (okL xs)) ∧ w = w' := by
  have hl := hr.len
  by_cases h40 : 40 < n
  · have hok := okL_long (xs := xs) (by omega)
    have h40' : decide ((40 : Int) < n) = true := by simp; omega
    rw [hok]
    clear hok hl
    go_enter Tryz.func162, Tryz.ntmps162
    go_wp2
    go_ret
    exact ⟨rfl, rfl⟩
  · by_cases h0 : n = 0
    · subst h0
      have hxe : xs = [] := List.eq_nil_of_length_eq_zero hl
      subst hxe
      have hok : okL [] = true := rfl
      rw [hok]
      clear hok hl
      go_enter Tryz.func162, Tryz.ntmps162
      go_wp2
      refine wp_loop_rounds 1 ?_
      rw [rounds_succ]
      go_wp2
      go_ret
      exact ⟨rfl, rfl⟩
    · obtain ⟨b, o, rfl, hP, _, hc⟩ := hr.at_ (by omega)
      have hcl := hc (n - 1) (by omega)
      have h41 : (n : Int) ≤ 40 := by omega
      have h42 : (0 : Int) < n := by omega
      by_cases hz : xs.getD (n - 1) 0 = 0
      · have hok := okL_last (xs := xs) (by omega) (by rw [hl]; exact hz)
        rw [hok]
        rw [hz] at hcl
        clear hok hl hz
        go_enter Tryz.func162, Tryz.ntmps162
        go_wp2
        go_ret
        exact ⟨rfl, rfl⟩
      · have hz' : (xs.getD (n - 1) 0 == 0) = false := by simpa using hz
        have HZ := Lib.hid hz
        clear hz
        have HL := Lib.hid hl
        clear hl
        generalize hy : xs.getD (n - 1) 0 = y at *
        have HY := Lib.hid hy
        clear hy
        go_enter Tryz.func162, Tryz.ntmps162
        go_wp2
        go_loop [24] (fun i => ∃ k : Nat, k ≤ n ∧ i = .int .i64 k ∧ ∀ j, j < k → 0 ≤ xs.getD j 0 ∧ xs.getD j 0 < 10000) (fun i => n - (intOf i).toNat)
        case atStart => exact ⟨0, Nat.zero_le _, rfl, fun j hj => absurd hj (by omega)⟩
        case round =>
          obtain ⟨k, hk, rfl, hall⟩ := hrel
          by_cases hlt : k < n
          · have hcx := hc k hlt
            have HA := Lib.hid hall
            clear hall
            by_cases hbad : xs.getD k 0 < 0 ∨ 10000 ≤ xs.getD k 0
            · have hok := okL_bad (xs := xs) k (by have := HL.out; omega) hbad
              have HOK := Lib.hid hok
              clear hok hc hr hcl
              generalize xs.getD k 0 = x at *
              by_cases hx0 : x < 0
              · have hx0' : decide (x < 0) = true := by simpa using hx0
                clear hbad
                go_wp2
                go_ret
                exact ⟨ret_bool HOK.out.symm, rfl⟩
              · have hx1 : 10000 ≤ x := by omega
                have hx0' : decide (x < 0) = false := by simpa using hx0
                clear hbad
                go_wp2
                go_ret
                exact ⟨ret_bool HOK.out.symm, rfl⟩
            · have hx0 : 0 ≤ xs.getD k 0 := by omega
              have hx1 : xs.getD k 0 < 10000 := by omega
              have HA' : Hid (∀ j, j < k + 1 → 0 ≤ xs.getD j 0 ∧ xs.getD j 0 < 10000) := by
                intro j hj
                by_cases hjk : j = k
                · subst hjk; exact ⟨hx0, hx1⟩
                · exact HA.out j (by omega)
              clear hbad HA hc hr hcl
              generalize xs.getD k 0 = x at *
              go_wp2
              go_round
              case rel => exact ⟨k + 1, by omega, by go_num, HA'.out⟩
              case measure => simp [intOf]; omega
          · obtain rfl : k = n := by omega
            have hok := okL_good (xs := xs) (by have := HL.out; omega) (by rw [HL.out]; exact hall) (by right; rw [HL.out, HY.out]; exact HZ.out)
            have HOK := Lib.hid hok
            clear hok hall hc hr hcl
            go_wp2
            go_ret
            exact ⟨ret_bool HOK.out.symm, rfl⟩

set_option maxHeartbeats 400000 in
theorem l01In_any (n a b : Int) (w : World) :
    Calls Tryz.prog 107 #[.int .i64 n, .int .i64 a, .int .i64 b] w fun e w' => e = .returned (.bool (decide (a ≤ n) && decide (n ≤ b))) ∧ w = w' := by
  by_cases h : a ≤ n
  · have h1 : decide (a ≤ n) = true := by simpa using h
    go_enter Tryz.func107, Tryz.ntmps107
    go_wp2
    go_ret
    exact ⟨by simp [h], rfl⟩
  · have h1 : decide (a ≤ n) = false := by simpa using h
    go_enter Tryz.func107, Tryz.ntmps107
    go_wp2
    go_ret
    exact ⟨by simp, rfl⟩

set_option maxHeartbeats 400000 in
theorem specNatOK_any (A : Option Addr) (n c : Nat) (xs : List Int) (P : Nat → Prop) (w : World) (hr : Rd w P A n c xs) (hn : n ≤ 16777216) :
    Calls Tryz.prog 136 #[.slice A n c] w fun e w' => e = .returned (.bool (okL xs)) ∧ w = w' := by
  have hl := hr.len
  by_cases h40 : 4096 < n
  · have hok := okL_long (xs := xs) (by omega)
    rw [hok]
    clear hok hl
    go_enter Tryz.func136, Tryz.ntmps136
    go_wp2
    go_ret
    exact ⟨rfl, rfl⟩
  · have h40' : (n : Int) ≤ 4096 := by omega
    have HL := Lib.hid hl
    clear hl
    go_enter Tryz.func136, Tryz.ntmps136
    go_wp2
    go_loop [3] (fun i => ∃ k : Nat, k ≤ n ∧ i = .int .i64 k ∧ ∀ j, j < k → 0 ≤ xs.getD j 0 ∧ xs.getD j 0 < 10000) (fun i => n - (intOf i).toNat)
    case atStart => exact ⟨0, Nat.zero_le _, rfl, fun j hj => absurd hj (by omega)⟩
    case round =>
      obtain ⟨k, hk, rfl, hall⟩ := hrel
      by_cases hlt : k < n
      · obtain ⟨b, o, rfl, hP, _, hc⟩ := hr.at_ (by omega)
        have hcx := hc k hlt
        have HA := Lib.hid hall
        clear hall
        by_cases hbad : xs.getD k 0 < 0 ∨ 10000 ≤ xs.getD k 0
        · have hok := okL_bad (xs := xs) k (by have := HL.out; omega) hbad
          have HOK := Lib.hid hok
          clear hok hc hr
          generalize xs.getD k 0 = x at *
          have hd : (decide ((0 : Int) ≤ x) && decide (x ≤ 9999)) = false := by rw [Bool.and_eq_false_iff]; simp; omega
          clear hbad
          go_wp2_with (go_at_call 107; refine (l01In_any _ _ _ _).mono ?_; rintro e w' ⟨rfl, rfl⟩; rw [hd])
          go_ret
          exact ⟨ret_bool HOK.out.symm, rfl⟩
        · have HA' : Hid (∀ j, j < k + 1 → 0 ≤ xs.getD j 0 ∧ xs.getD j 0 < 10000) := by
            intro j hj
            by_cases hjk : j = k
            · subst hjk; omega
            · exact HA.out j (by omega)
          have hd : (decide ((0 : Int) ≤ xs.getD k 0) && decide (xs.getD k 0 ≤ 9999)) = true := by rw [Bool.and_eq_true]; exact ⟨decide_eq_true (by omega), decide_eq_true (by omega)⟩
          clear hbad HA hc hr
          generalize xs.getD k 0 = x at *
          go_wp2_with (go_at_call 107; refine (l01In_any _ _ _ _).mono ?_; rintro e w' ⟨rfl, rfl⟩; rw [hd])
          go_round
          case rel => exact ⟨k + 1, by omega, by go_num, HA'.out⟩
          case measure => simp [intOf]; omega
      · obtain rfl : k = n := by omega
        have HALL := Lib.hid hall
        clear hall
        by_cases h41 : k ≤ 40
        · have h41' : decide ((k : Int) ≤ 40) = true := by simp; omega
          by_cases h0 : k = 0
          · subst h0
            have hok := okL_good (xs := xs) (by have := HL.out; omega) (by rw [HL.out]; exact HALL.out) (.inl HL.out)
            have HOK := Lib.hid hok
            clear hok hr
            go_wp2
            go_ret
            exact ⟨ret_bool HOK.out.symm, rfl⟩
          · obtain ⟨b, o, rfl, hP, _, hc⟩ := hr.at_ (by omega)
            have hcl := hc (k - 1) (by omega)
            have h0' : ((k : Int) == 0) = false := by simp; omega
            have hd := HALL.out (k - 1) (by omega)
            have HOK : Hid (okL xs = decide (0 < xs.getD (k - 1) 0)) := by
              show okL xs = _
              by_cases hz : xs.getD (k - 1) 0 = 0
              · rw [okL_last (by have := HL.out; omega) (by rw [HL.out]; exact hz), hz]; rfl
              · rw [okL_good (by have := HL.out; omega) (by rw [HL.out]; exact HALL.out) (.inr (by rw [HL.out]; exact hz))]
                symm; simp only [decide_eq_true_eq]; omega
            clear hr hc
            generalize xs.getD (k - 1) 0 = x at *
            go_wp2
            go_ret
            exact ⟨ret_bool HOK.out.symm, rfl⟩
        · have h41' : decide ((k : Int) ≤ 40) = false := by simp; omega
          have HOK := Lib.hid (okL_long (xs := xs) (by have := HL.out; omega))
          clear hr
          go_wp2
          go_ret
          exact ⟨ret_bool HOK.out.symm, rfl⟩
end Go.Proofs.YtifepoefeamboaaGreatDoor
namespace Go.Proofs.YtifepoefeamboaaGreatDoor
open Go Go.RowKit Nt

set_option maxHeartbeats 400000 in
theorem compare_any (a b : Int) (w : World) : Calls Tryz.prog 167 #[.int .i64 a, .int .i64 b] w fun e w' => e = .returned (.int .i64 (cmpZ a b)) ∧ w = w' := by
  have ha : (a != a) = false := by simp
  have hb : (b != b) = false := by simp
  by_cases h1 : a < b
  · have HC : Hid (cmpZ a b = -1) := by show _ = _; unfold cmpZ; rw [if_pos h1]
    go_enter Tryz.func167, Tryz.ntmps167
    go_wp2
    go_ret
    exact ⟨ret_int HC.out.symm, rfl⟩
  · by_cases h2 : b < a
    · have HC : Hid (cmpZ a b = 1) := by show _ = _; unfold cmpZ; rw [if_neg h1, if_pos h2]
      go_enter Tryz.func167, Tryz.ntmps167
      go_wp2
      go_ret
      exact ⟨ret_int HC.out.symm, rfl⟩
    · have HC : Hid (cmpZ a b = 0) := by show _ = _; unfold cmpZ; rw [if_neg h1, if_neg h2]
      go_enter Tryz.func167, Tryz.ntmps167
      go_wp2
      go_ret
      exact ⟨ret_int HC.out.symm, rfl⟩

set_option maxHeartbeats 800000 in
theorem compareLimbs_any (A A' : Option Addr) (la c la' c' m n : Nat) (P P' : Nat → Prop) (w : World) (hr : Rd w P A la c (D m)) (hr' : Rd w P' A' la' c' (D n)) (hn : la ≤ 16777216) (hn' : la' ≤ 16777216) :
    Calls Tryz.prog 159 #[.slice A la c, .slice A' la' c'] w fun e w' => e = .returned (.int .i64 (cmpI m n)) ∧ Drawn w w' := by
  have hl := hr.len
  have hl' := hr'.len
  by_cases hne : la = la'
  · subst hne
    have hne' : ((la : Int) != (la : Int)) = false := by simp
    have HL : Hid ((D m).length = (D n).length) := by show _ = _; omega
    have HM := Lib.hid hl
    clear hl hl'
    go_enter Tryz.func159, Tryz.ntmps159
    go_wp2
    go_loopw [5] (fun i wr => ∃ k : Nat, k ≤ la ∧ i = .int .i64 ((k : Int) - 1) ∧ (∀ j, k ≤ j → j < (D m).length → (D m).getD j 0 = (D n).getD j 0) ∧ Drawn w wr) (fun i _ => (intOf i + 1).toNat)
    case atStart => exact ⟨la, Nat.le_refl _, rfl, fun j h1 h2 => absurd h2 (by have := HM.out; omega), Drawn.refl _⟩
    case round =>
      obtain ⟨k, hk, rfl, hall, hq⟩ := hrel
      have HQ := Lib.hid hq
      have HA := Lib.hid hall
      clear hall
      by_cases hlt : 0 < k
      · obtain ⟨k, rfl⟩ : ∃ j, k = j + 1 := ⟨k - 1, by omega⟩
        obtain ⟨b, o, rfl, hP, _, hc⟩ := hr.at_ (by omega)
        obtain ⟨b', o', rfl, hP', _, hc'⟩ := hr'.at_ (by omega)
        have hcx : wr.cell? ⟨b, o + k, none⟩ = some (.int .i64 ((D m).getD k 0)) := hq.cell (hc k (by omega))
        have hcy : wr.cell? ⟨b', o' + k, none⟩ = some (.int .i64 ((D n).getD k 0)) := hq.cell (hc' k (by omega))
        have ek : ((k + 1 : Nat) : Int) - 1 = (k : Int) := by omega
        rw [ek]
        have hlt' : (k : Int) < (la : Int) := by omega
        have hge : (0 : Int) ≤ (k : Int) := by omega
        by_cases hxy : (D m).getD k 0 = (D n).getD k 0
        · have HA' : Hid (∀ j, k ≤ j → j < (D m).length → (D m).getD j 0 = (D n).getD j 0) := by
            intro j h1 h2
            by_cases hjk : j = k
            · subst hjk; exact hxy
            · exact HA.out j (by omega) h2
          rw [← hxy] at hcy
          generalize (D m).getD k 0 = x at *
          have hxx : ((x : Int) != x) = false := by simp
          clear hc hc' hr hr' hP hP' HA hxy ek hq
          go_wp2
          go_quiet (fail)
          go_wp2
          go_roundw
          case rel => exact ⟨k, by omega, by go_num, HA'.out, HQ.out.more _⟩
          case measure => simp [intOf]
        · have HC := Lib.hid (D_cmp HL.out k (by have := HM.out; omega) (fun j h1 h2 => HA.out j (by omega) h2) hxy)
          have hxy' : ((D m).getD k 0 != (D n).getD k 0) = true := by simpa using hxy
          generalize (D m).getD k 0 = x at *
          generalize (D n).getD k 0 = y at *
          clear hc hc' hr hr' hP hP' HA hxy ek hq
          go_wp2
          go_quiet (fail)
          go_wp2
          go_quiet ((go_at_call 167; exact quiet_add_left (compare_any _ _ _)))
          go_wp2
          go_ret
          exact ⟨ret_int HC.out, (HQ.out.more _).more _⟩
      · obtain rfl : k = 0 := by omega
        have HC := Lib.hid (D_same HL.out (fun j h => HA.out j (by omega) h))
        clear hr hr' hq
        go_wp2
        go_ret
        exact ⟨ret_int HC.out.symm, HQ.out⟩
  · have HC := Lib.hid (cmp_len (m := m) (n := n) (by omega))
    have hne' : ((la : Int) != (la' : Int)) = true := by rw [bne_iff_ne]; omega
    have HL : Hid ((D m).length = la ∧ (D n).length = la') := ⟨hl, hl'⟩
    clear hr hr' hl hl' hne
    go_enter Tryz.func159, Tryz.ntmps159
    go_wp2_with (go_at_call 167; refine (compare_any _ _ _).mono ?_; rintro e w' ⟨rfl, rfl⟩)
    go_ret
    refine ⟨ret_int ?_, Drawn.refl _⟩
    rw [← HC.out, HL.out.1, HL.out.2]
theorem bitZ_bd (b : Bool) : 0 ≤ bitZ b ∧ bitZ b ≤ 1 := by cases b <;> simp [bitZ]
theorem l01Bit_any (b : Bool) (w : World) : Calls Tryz.prog 95 #[.bool b] w fun e w' => e = .returned (.int .i64 (bitZ b)) ∧ w = w' := by
  cases b
  · go_enter Tryz.func95, Tryz.ntmps95
    go_wp2
    go_ret
    exact ⟨rfl, rfl⟩
  · go_enter Tryz.func95, Tryz.ntmps95
    go_wp2
    go_ret
    exact ⟨rfl, rfl⟩

set_option maxHeartbeats 800000 in
theorem l01Cmp_any (A A' : Option Addr) (la c la' c' m n : Nat) (P P' : Nat → Prop) (w : World) (hr : Rd w P A la c (D m)) (hr' : Rd w P' A' la' c' (D n)) (hn : la ≤ 16777216) (hn' : la' ≤ 16777216) :
    Calls Tryz.prog 137 #[.slice A la c, .slice A' la' c'] w fun e w' => e = .returned (.int .i64 (cmpI m n)) ∧ Drawn w w' := by
  have hl := hr.len
  have hl' := hr'.len
  by_cases hne : la = la'
  · subst hne
    have hne' : ((la : Int) != (la : Int)) = false := by simp
    have HL : Hid ((D m).length = (D n).length) := by show _ = _; omega
    have HM := Lib.hid hl
    clear hl hl'
    go_enter Tryz.func137, Tryz.ntmps137
    go_wp2
    go_loopw [5] (fun i wr => ∃ k : Nat, k ≤ la ∧ i = .int .i64 ((k : Int) - 1) ∧ (∀ j, k ≤ j → j < (D m).length → (D m).getD j 0 = (D n).getD j 0) ∧ Drawn w wr) (fun i _ => (intOf i + 1).toNat)
    case atStart => exact ⟨la, Nat.le_refl _, rfl, fun j h1 h2 => absurd h2 (by have := HM.out; omega), Drawn.refl _⟩
    case round =>
      obtain ⟨k, hk, rfl, hall, hq⟩ := hrel
      have HQ := Lib.hid hq
      have HA := Lib.hid hall
      clear hall
      by_cases hlt : 0 < k
      · obtain ⟨k, rfl⟩ : ∃ j, k = j + 1 := ⟨k - 1, by omega⟩
        obtain ⟨b, o, rfl, hP, _, hc⟩ := hr.at_ (by omega)
        obtain ⟨b', o', rfl, hP', _, hc'⟩ := hr'.at_ (by omega)
        have hcx : wr.cell? ⟨b, o + k, none⟩ = some (.int .i64 ((D m).getD k 0)) := hq.cell (hc k (by omega))
        have hcy : wr.cell? ⟨b', o' + k, none⟩ = some (.int .i64 ((D n).getD k 0)) := hq.cell (hc' k (by omega))
        have ek : ((k + 1 : Nat) : Int) - 1 = (k : Int) := by omega
        rw [ek]
        have hlt' : (k : Int) < (la : Int) := by omega
        have hge : (0 : Int) ≤ (k : Int) := by omega
        by_cases hxy : (D m).getD k 0 = (D n).getD k 0
        · have HA' : Hid (∀ j, k ≤ j → j < (D m).length → (D m).getD j 0 = (D n).getD j 0) := by
            intro j h1 h2
            by_cases hjk : j = k
            · subst hjk; exact hxy
            · exact HA.out j (by omega) h2
          rw [← hxy] at hcy
          generalize (D m).getD k 0 = x at *
          have hxx : ((x : Int) != x) = false := by simp
          clear hc hc' hr hr' hP hP' HA hxy ek hq
          go_wp2
          go_quiet (fail)
          go_wp2
          go_roundw
          case rel => exact ⟨k, by omega, by go_num, HA'.out, HQ.out.more _⟩
          case measure => simp [intOf]
        · have HC := Lib.hid (D_cmp HL.out k (by have := HM.out; omega) (fun j h1 h2 => HA.out j (by omega) h2) hxy)
          have hxy' : ((D m).getD k 0 != (D n).getD k 0) = true := by simpa using hxy
          generalize (D m).getD k 0 = x at *
          generalize (D n).getD k 0 = y at *
          have HB := Lib.hid (bit_cmp x y hxy)
          have hb1 := bitZ_bd (decide (y < x))
          obtain ⟨hb1, hb2⟩ := hb1
          have hw1 : IntKind.i64.wrap (2 * bitZ (decide (y < x))) = 2 * bitZ (decide (y < x)) := IntWalk.i64_in _ (by omega)
          have hw2 : IntKind.i64.wrap (2 * bitZ (decide (y < x)) - 1) = 2 * bitZ (decide (y < x)) - 1 := IntWalk.i64_in _ (by omega)
          clear hc hc' hr hr' hP hP' HA hxy ek hq
          go_wp2
          go_quiet (fail)
          go_wp2
          go_quiet ((go_at_call 95; exact quiet_add_left (l01Bit_any _ _)))
          go_wp2
          go_ret
          exact ⟨ret_int (HB.out.trans HC.out), (HQ.out.more _).more _⟩
      · obtain rfl : k = 0 := by omega
        have HC := Lib.hid (D_same HL.out (fun j h => HA.out j (by omega) h))
        clear hr hr' hq
        go_wp2
        go_ret
        exact ⟨ret_int HC.out.symm, HQ.out⟩
  · have HC := Lib.hid (cmp_len (m := m) (n := n) (by omega))
    have hne' : ((la : Int) != (la' : Int)) = true := by rw [bne_iff_ne]; omega
    have HL : Hid ((D m).length = la ∧ (D n).length = la') := ⟨hl, hl'⟩
    have HN : Hid ((la : Int) ≠ la') := by show (la : Int) ≠ la'; omega
    clear hr hr' hl hl' hne
    go_enter Tryz.func137, Tryz.ntmps137
    go_wp2_with (go_at_call 95; refine (l01Bit_any _ _).mono ?_; rintro e w' ⟨rfl, rfl⟩; have hb1 := bitZ_bd (decide (la' < la)); obtain ⟨hb1, hb2⟩ := hb1)
    go_ret
    refine ⟨ret_int ?_, Drawn.refl _⟩
    rw [← HC.out, HL.out.1, HL.out.2, ← bit_cmp _ _ HN.out, show decide ((la' : Int) < (la : Int)) = decide (la' < la) from by simp]

end Go.Proofs.YtifepoefeamboaaGreatDoor
namespace Nt
open Go Go.RowKit
/-- it hands back new memory that holds the numbers xs; nothing that was there has turned -/
def RetNew (t : TypeId) (w : World) (xs : List Int) (e : Ending) (w' : World) : Prop :=
  ∃ A c, e = .returned (.slice A xs.length c) ∧ w'.ownsRow w.heap.size t 1 (.slice A xs.length c) xs.length (xs.map (Value.int .i64)) ∧ Below w.heap.size w w'
end Nt
namespace Go.Proofs.YtifepoefeamboaaGreatDoor
open Go Go.RowKit Nt

set_option maxHeartbeats 400000 in
theorem trimmed_any (A : Option Addr) (n c : Nat) (xs : List Int) (P : Nat → Prop) (w : World) (hr : Rd w P A n c xs) (hl : Limbs xs) (hn : n ≤ 16777216) :
    Calls Tryz.prog 155 #[.slice A n c] w fun e w' => e = .returned (.slice A (D (natOf xs)).length c) ∧ w = w' := by
  have HL := Lib.hid hl
  have HN := Lib.hid hr.len
  have hcap := hr.cap
  clear hl
  go_enter Tryz.func155, Tryz.ntmps155
  go_wp2
  go_loop [0] (fun v => ∃ k : Nat, k ≤ n ∧ v = .slice A k c ∧ ∀ i, k ≤ i → i < n → xs.getD i 0 = 0) (fun v => match v with | .slice _ k _ => k | _ => 0)
  case atStart => exact ⟨n, Nat.le_refl _, rfl, fun i h1 h2 => absurd h1 (by omega)⟩
  case round =>
    obtain ⟨k, hk, rfl, hz⟩ := hrel
    have HZ := Lib.hid hz
    clear hz
    by_cases h0 : 0 < k
    · obtain ⟨b, o, rfl, hP, _, hc⟩ := hr.at_ (by omega)
      have hcx := hc (k - 1) (by omega)
      have hd : decide ((0 : Int) < k) = true := by simp; omega
      by_cases hx : xs.getD (k - 1) 0 = 0
      · have HZ' : Hid (∀ i, k - 1 ≤ i → i < n → xs.getD i 0 = 0) := by
          intro i h1 h2
          by_cases hi : i = k - 1
          · subst hi; exact hx
          · exact HZ.out i (by omega) h2
        rw [hx] at hcx
        clear hx hc hr HZ
        go_wp2
        go_round
        case rel => exact ⟨k - 1, by omega, by go_num, HZ'.out⟩
        case measure => simp; omega
      · have hx' : (xs.getD (k - 1) 0 == 0) = false := by simpa using hx
        have HK := Lib.hid (trim_take HL.out k (by have := HN.out; omega) (by rw [HN.out]; exact HZ.out) (.inr hx))
        generalize xs.getD (k - 1) 0 = x at *
        clear hx hc hr HZ
        go_wp2
        go_ret
        exact ⟨by rw [← HK.out]; rfl, rfl⟩
    · obtain rfl : k = 0 := by omega
      have HK := Lib.hid (trim_take HL.out 0 (by omega) (by rw [HN.out]; exact HZ.out) (.inl rfl))
      clear hr HZ
      go_wp2
      go_ret
      exact ⟨by rw [← HK.out]; rfl, rfl⟩

set_option maxHeartbeats 400000 in
theorem fresh_any (A : Option Addr) (n c : Nat) (xs : List Int) (P : Nat → Prop) (w : World) (hr : Rd w P A n c xs) (hn : n ≤ 16777216) :
    Calls Tryz.prog 77 #[.slice A n c] w (RetNew 3 w xs) := by
  have HR := Lib.hid hr
  clear hr
  go_enter Tryz.func77, Tryz.ntmps77
  go_wp2_with (at_builtin; refine wpList_append_ints _ rfl _ _ 29 rfl w.heap.size 3 Tryz.underlying29 infoInt none 0 0 [] rfl (World.ownsRow_nil _ _ _ _) _ A n c xs rfl HR.out (by omega) (Nat.le_refl _) ?_; intro V' c' w1 hown hg)
  go_ret
  have hl := HR.out.len
  subst hl
  simp only [Nat.zero_add, List.nil_append] at hown
  refine ⟨V', c', by simp, hown, (Below.refl _ _).grown hg (Nat.le_refl _) (fun k h => by simp [Value.ownBlock] at h)⟩
end Go.Proofs.YtifepoefeamboaaGreatDoor
namespace Nt
open Go Go.RowKit
/-- between pre and post block g now holds numbers that mean r, so many limbs; nothing else that was there has turned -/
def TookX (t : TypeId) (kx : Nat) (w : World) (g : Nat) (pre post : List Int) (len : Nat) (r : Int) (w' : World) : Prop :=
  ∃ ys : List Int, ys.length = len ∧ Limbs ys ∧ val ys = r ∧ Arx w' g t kx (pre ++ ys ++ post) ∧ w.grownBy w' (some g)
theorem set_midx (pre out rest post : List Int) (off k : Nat) (v : Int) (h1 : pre.length = off) (h2 : out.length = k) (h3 : k < (out ++ rest).length) :
    (pre ++ (out ++ rest) ++ post).set (off + k) v = pre ++ ((out ++ [v]) ++ rest.drop 1) ++ post := by
  obtain ⟨x, r, rfl⟩ : ∃ x r, rest = x :: r := by
    cases rest with
    | nil => simp at h3; omega
    | cons x r => exact ⟨x, r, rfl⟩
  subst h1 h2
  simp
theorem get_midx (pre out rest post : List Int) (off k : Nat) (h1 : pre.length = off) (h2 : out.length = k) (h3 : 0 < rest.length) : (pre ++ (out ++ rest) ++ post).getD (off + k) 0 = rest.getD 0 0 := by
  obtain ⟨x, r, rfl⟩ : ∃ x r, rest = x :: r := by
    cases rest with
    | nil => simp at h3
    | cons x r => exact ⟨x, r, rfl⟩
  subst h1 h2
  simp [List.getD]
end Nt
namespace Go.Proofs.YtifepoefeamboaaGreatDoor
open Go Go.RowKit Nt

set_option maxHeartbeats 1600000 in
theorem takeTimes_x (g off nr cr kx : Nat) (t : TypeId) (pre xs post : List Int) (B : Option Addr) (lb cb n : Nat) (times : Int) (w : World)
    (hf : Arx w g t kx (pre ++ xs ++ post)) (hoff : pre.length = off) (hnr : xs.length = nr) (hb : Rd w (· ≠ g) B lb cb (D n)) (hl : Limbs xs) (ht0 : 0 ≤ times) (ht1 : times ≤ 10000) (hle : (n : Int) * times ≤ val xs)
    (hN : nr ≤ 10000) (hlb : lb ≤ 10000) (_hoffN : off ≤ 10000) :
    Calls Tryz.prog 165 #[.slice (some ⟨g, off, none⟩) nr cr, .slice B lb cb, .int .i64 times] w fun e w' => e = .returned (.tuple #[]) ∧ TookX t kx w g pre post nr (val xs - n * times) w' := by
  have HF := Lib.hid hf
  have HOFF := Lib.hid hoff
  have HNR := Lib.hid hnr
  have HBR := Lib.hid hb
  have HL := Lib.hid hl
  have HLE := Lib.hid hle
  have HLB := Lib.hid hb.len
  clear hf hoff hnr hb hl hle
  go_enter Tryz.func165, Tryz.ntmps165
  go_wp2
  go_loopw [6, 12] (fun b i wr => ∃ (k : Nat) (q : Int) (out : List Int), k ≤ nr ∧ i = .int .i64 k ∧ b = .int .i64 q ∧ 0 ≤ q ∧ q ≤ 10001 ∧ out.length = k ∧ Limbs out ∧ val out + 10000 ^ k * (vd xs k - q - vd (D n) k * times) = val xs - n * times ∧ Arx wr g t kx (pre ++ (out ++ xs.drop k) ++ post) ∧ w.grownBy wr (some g)) (fun _ i _ => nr - (intOf i).toNat)
  case atStart => exact ⟨0, 0, [], Nat.zero_le _, rfl, rfl, by omega, by omega, rfl, limbs_nil, by simp [vd_zero, val_D, val], by simpa using HF.out, World.grownBy.refl _ _⟩
  case round =>
    obtain ⟨k, q, out, hk, rfl, rfl, hq0, hq1, hol, hlim, hval, harr, hgr⟩ := hrel
    have HOL := Lib.hid hol
    have HLM := Lib.hid hlim
    have HV := Lib.hid hval
    have HA := Lib.hid harr
    have HG := Lib.hid hgr
    clear hol hlim hval harr hgr
    by_cases hlt : k < nr
    · have hbx := limbs_getD HL.out k
      have hfz := HA.out.frozen (off + k)
      have HSET : Hid (∀ v, (pre ++ (out ++ xs.drop k) ++ post).set (off + k) v = pre ++ ((out ++ [v]) ++ xs.drop (k + 1)) ++ post) := by
        intro v
        rw [set_midx pre out (xs.drop k) post off k v HOFF.out HOL.out (by have := HNR.out; simp [HOL.out]; omega), List.drop_drop]
      have hcx := HA.out.cell (off + k) (by have := HNR.out; have := HOFF.out; have := HOL.out; simp; omega)
      rw [get_midx pre out (xs.drop k) post off k HOFF.out HOL.out (by have := HNR.out; simp; omega)] at hcx
      have hx0 : (xs.drop k).getD 0 0 = xs.getD k 0 := by simp [List.getD]
      rw [hx0] at hcx
      clear hx0
      generalize hxk : xs.getD k 0 = x at *
      have HXK := Lib.hid hxk
      clear hxk
      by_cases hlt2 : k < lb
      · obtain ⟨b2, o2, eB, hP2, hb2, hcc2⟩ := HBR.out.at_ (by omega)
        subst eB
        have hcy : wr.cell? ⟨b2, o2 + k, none⟩ = some (.int .i64 ((D n).getD k 0)) := (World.cell?_of_block (a := ⟨b2, o2 + k, none⟩) (HG.out.block b2 hb2 (fun e => hP2 (by injection e)))).trans (hcc2 k hlt2)
        have hby := limbs_getD (limbs_D n) k
        generalize hyk : (D n).getD k 0 = y at *
        have HYK := Lib.hid hyk
        clear hyk hcc2
        have hd : decide ((lb : Int) ≤ k) = false := by simp; omega
        have hmul := limb_times hby.1 hby.2 ht0 ht1
        obtain ⟨hmul0, hmul1⟩ := hmul
        have hp0 : 0 ≤ q + y * times := by omega
        by_cases hneg : x - (q + y * times) % 10000 < 0
        · have HSTEP := Lib.hid (take_step xs (D n) out k q times (x - (q + y * times) % 10000 + 10000) ((q + y * times) / 10000 + 1) HOL.out (by rw [HXK.out, HYK.out]; omega))
          have hst := HA.out.set_ (off + k) (x - (q + y * times) % 10000 + 10000)
          rw [HSET.out (x - (q + y * times) % 10000 + 10000)] at hst
          have HST := Lib.hid hst
          have HLM' := Lib.hid (limbs_append.2 ⟨HLM.out, limbs_cons.2 ⟨(show 0 ≤ x - (q + y * times) % 10000 + 10000 ∧ x - (q + y * times) % 10000 + 10000 < 10000 from by omega), limbs_nil⟩⟩)
          clear hst HA HLM HSET
          go_wp2
          go_roundw
          case rel => exact ⟨k + 1, (q + y * times) / 10000 + 1, out ++ [x - (q + y * times) % 10000 + 10000], by omega, by go_num, by go_num, by omega, by omega, by simp [HOL.out], HLM'.out, HSTEP.out.trans HV.out, HST.out, grown_set HG.out _⟩
          case measure => simp [intOf]; omega
        · have HSTEP := Lib.hid (take_step xs (D n) out k q times (x - (q + y * times) % 10000) ((q + y * times) / 10000) HOL.out (by rw [HXK.out, HYK.out]; omega))
          have hst := HA.out.set_ (off + k) (x - (q + y * times) % 10000)
          rw [HSET.out (x - (q + y * times) % 10000)] at hst
          have HST := Lib.hid hst
          have HLM' := Lib.hid (limbs_append.2 ⟨HLM.out, limbs_cons.2 ⟨(show 0 ≤ x - (q + y * times) % 10000 ∧ x - (q + y * times) % 10000 < 10000 from by omega), limbs_nil⟩⟩)
          clear hst HA HLM HSET
          go_wp2
          go_roundw
          case rel => exact ⟨k + 1, (q + y * times) / 10000, out ++ [x - (q + y * times) % 10000], by omega, by go_num, by go_num, by omega, by omega, by simp [HOL.out], HLM'.out, HSTEP.out.trans HV.out, HST.out, grown_set HG.out _⟩
          case measure => simp [intOf]; omega
      · have hy0 : (D n).getD k 0 = 0 := by simp [List.getD, HLB.out, show lb ≤ k from by omega]
        have HYK := Lib.hid hy0
        clear hy0
        have hd : decide ((lb : Int) ≤ k) = true := by simp; omega
        by_cases hq : q = 0
        · have HFIN : Hid (val (out ++ xs.drop k) = val xs - n * times) := by
            show _ = _
            have := HV.out
            rw [hq, vd_end (D n) k (by have := HLB.out; omega)] at this
            rw [val_append, HOL.out]
            simpa [vd] using this
          subst hq
          clear HSET
          go_wp2
          refine bodyPost_ret (results_none rfl _ _ _) rfl ?_
          exact ⟨rfl, out ++ xs.drop k, by have := HNR.out; simp [HOL.out]; omega, limbs_append.2 ⟨HLM.out, limbs_drop HL.out k⟩, HFIN.out, HA.out, HG.out⟩
        · have hq' : (q == 0) = false := by simpa using hq
          by_cases hneg : x - q % 10000 < 0
          · have HSTEP := Lib.hid (take_step xs (D n) out k q times (x - (q) % 10000 + 10000) ((q) / 10000 + 1) HOL.out (by rw [HXK.out, HYK.out]; rw [Int.zero_mul]; omega))
            have hst := HA.out.set_ (off + k) (x - (q) % 10000 + 10000)
            rw [HSET.out (x - (q) % 10000 + 10000)] at hst
            have HST := Lib.hid hst
            have HLM' := Lib.hid (limbs_append.2 ⟨HLM.out, limbs_cons.2 ⟨(show 0 ≤ x - (q) % 10000 + 10000 ∧ x - (q) % 10000 + 10000 < 10000 from by omega), limbs_nil⟩⟩)
            clear hst HA HLM HSET
            go_wp2
            go_roundw
            case rel => exact ⟨k + 1, (q) / 10000 + 1, out ++ [x - (q) % 10000 + 10000], by omega, by go_num, by go_num, by omega, by omega, by simp [HOL.out], HLM'.out, HSTEP.out.trans HV.out, HST.out, grown_set HG.out _⟩
            case measure => simp [intOf]; omega
          · have HSTEP := Lib.hid (take_step xs (D n) out k q times (x - (q) % 10000) ((q) / 10000) HOL.out (by rw [HXK.out, HYK.out]; rw [Int.zero_mul]; omega))
            have hst := HA.out.set_ (off + k) (x - (q) % 10000)
            rw [HSET.out (x - (q) % 10000)] at hst
            have HST := Lib.hid hst
            have HLM' := Lib.hid (limbs_append.2 ⟨HLM.out, limbs_cons.2 ⟨(show 0 ≤ x - (q) % 10000 ∧ x - (q) % 10000 < 10000 from by omega), limbs_nil⟩⟩)
            clear hst HA HLM HSET
            go_wp2
            go_roundw
            case rel => exact ⟨k + 1, (q) / 10000, out ++ [x - (q) % 10000], by omega, by go_num, by go_num, by omega, by omega, by simp [HOL.out], HLM'.out, HSTEP.out.trans HV.out, HST.out, grown_set HG.out _⟩
            case measure => simp [intOf]; omega
    · obtain rfl : k = nr := by omega
      have HFIN : Hid (val out = val xs - n * times) := by
        show _ = _
        have h1 := HV.out
        rw [vd_end xs k (by have := HNR.out; omega)] at h1
        have h2 := vd_nonneg (limbs_D n) k
        have h3 := val_lt HLM.out
        rw [HOL.out] at h3
        have h4 := take_end h3 (pow_pos' k) (show 0 ≤ q + vd (D n) k * times from by have := Int.mul_nonneg h2 ht0; omega) (show 0 ≤ val xs - n * times from by have := HLE.out; omega)
          (by rw [← h1]; congr 2; omega)
        rw [show (0 : Int) - q - vd (D n) k * times = 0 from by omega, Int.mul_zero, Int.add_zero] at h1
        exact h1
      have HA' : Hid (Arx wr g t kx (pre ++ out ++ post)) := by
        show Arx _ _ _ _ _
        have := HA.out
        rw [drop_end xs k (by have := HNR.out; omega), List.append_nil] at this
        exact this
      clear HA
      go_wp2
      go_end0
      exact ⟨rfl, out, HOL.out, HLM.out, HFIN.out, HA'.out, HG.out⟩
end Go.Proofs.YtifepoefeamboaaGreatDoor
namespace Nt
theorem mul_step (out ys P : List Int) (k j : Nat) (x q : Int) (hl : P.length = k) :
    val (P ++ [(out.getD k 0 + x * ys.getD j 0 + q) % 10000]) + 10000 ^ (k + 1) * ((out.getD k 0 + x * ys.getD j 0 + q) / 10000 + vd out (k + 1) + x * vd ys (j + 1)) = val P + 10000 ^ k * (q + vd out k + x * vd ys j) := by
  rw [val_snoc, hl, pow_succ', Int.add_assoc, pow_step, vd_step out k, vd_step ys j, Int.mul_add x, Int.mul_left_comm x 10000]
  generalize vd out (k + 1) = u
  generalize x * vd ys (j + 1) = v
  generalize out.getD k 0 = c
  generalize x * ys.getD j 0 = y
  rw [show (c + y + q) % 10000 + 10000 * ((c + y + q) / 10000 + u + v) = q + (c + 10000 * u) + (y + 10000 * v) from by omega]
theorem mul_start (out : List Int) (i : Nat) (z : Int) (h : i ≤ out.length) : val (out.take i) + 10000 ^ i * (0 + vd out i + z) = val out + 10000 ^ i * z := by
  have := val_take_drop out i h
  rw [Int.zero_add, Int.mul_add, ← Int.add_assoc, ← (show val out = val (out.take i) + 10000 ^ i * vd out i from this)]
theorem mul_outer (xs : List Int) (i n : Nat) (h : i < xs.length) : val (xs.take i) * n + 10000 ^ i * (xs.getD i 0 * n) = val (xs.take (i + 1)) * n := by
  rw [take_snoc xs i h, val_snoc, List.length_take, Nat.min_eq_left (by omega), Int.add_mul, Int.mul_assoc]
theorem limb_prod {x y : Int} (h0 : 0 ≤ x) (h1 : x < 10000) (h2 : 0 ≤ y) (h3 : y < 10000) : 0 ≤ x * y ∧ x * y ≤ 99980001 := by
  refine ⟨Int.mul_nonneg h0 h2, ?_⟩
  have := Int.mul_le_mul (show x ≤ 9999 by omega) (show y ≤ 9999 by omega) h2 (by omega)
  omega
theorem set_at (P T : List Int) (k : Nat) (v : Int) (hl : P.length = k) (hk : k < T.length) : (P ++ T.drop k).set k v = (P ++ [v]) ++ T.drop (k + 1) := by
  rw [List.set_append_right _ _ (by omega), hl, Nat.sub_self, drop_cons T k hk, List.set_cons_zero]
  simp
theorem getD_at (P T : List Int) (k : Nat) (hl : P.length = k) (hk : k < T.length) : (P ++ T.drop k).getD k 0 = T.getD k 0 := by
  rw [drop_cons T k hk]
  subst hl
  simp [List.getD]
theorem get_left (P T : List Int) (k : Nat) (hk : k < P.length) : (P ++ T).getD k 0 = P.getD k 0 := by
  simp [List.getD, List.getElem?_append_left hk]
theorem take_all_val (xs : List Int) (k : Nat) (h : xs.length ≤ k) : val (xs.take k) = val xs := by rw [List.take_of_length_le h]
theorem vd_zeros (T : List Int) (k : Nat) (h : ∀ j, k ≤ j → T.getD j 0 = 0) : vd T k = 0 := by
  have hlen : ∀ d k, T.length - k ≤ d → (∀ j, k ≤ j → T.getD j 0 = 0) → vd T k = 0 := by
    intro d
    induction d with
    | zero => intro k hk _; exact vd_end T k (by omega)
    | succ d ih =>
      intro k hk h
      rw [vd_step, h k (Nat.le_refl _)]
      rcases Nat.lt_or_ge k T.length with hl | hl
      · rw [ih (k + 1) (by omega) (fun j hj => h j (by omega))]; rfl
      · rw [vd_end T (k + 1) (by omega)]; rfl
  exact hlen _ k (Nat.le_refl _) h
theorem mul_step' (out ys P : List Int) (k j : Nat) (x q : Int) (hl : P.length = k) :
    val (P ++ [(out.getD k 0 + q + x * ys.getD j 0) % 10000]) + 10000 ^ (k + 1) * ((out.getD k 0 + q + x * ys.getD j 0) / 10000 + vd out (k + 1) + x * vd ys (j + 1)) = val P + 10000 ^ k * (q + vd out k + x * vd ys j) := by
  have := mul_step out ys P k j x q hl
  rw [show out.getD k 0 + x * ys.getD j 0 + q = out.getD k 0 + q + x * ys.getD j 0 from by omega] at this
  exact this
theorem getD_right (P T : List Int) (k j : Nat) (hl : P.length = k) (hj : k ≤ j) : (P ++ T.drop k).getD j 0 = T.getD j 0 := by
  subst hl
  simp only [List.getD, List.getElem?_append_right hj, List.getElem?_drop]
  congr 2; omega
end Nt
namespace Nt
theorem vd_lt {xs : List Int} (h : Limbs xs) (k : Nat) : vd xs k < 10000 ^ (xs.length - k) := by
  have := val_lt (limbs_drop h k)
  rwa [List.length_drop] at this
theorem pow_mono {j k : Nat} (h : j ≤ k) : (10000 : Int) ^ j ≤ 10000 ^ k := by
  obtain ⟨d, rfl⟩ : ∃ d, k = j + d := ⟨k - j, by omega⟩
  have h1 := pow_pos' j
  have h2 := pow_pos' d
  rw [Int.pow_add]
  have := Int.mul_le_mul_of_nonneg_left (show (1 : Int) ≤ 10000 ^ d by omega) (show (0 : Int) ≤ 10000 ^ j by omega)
  omega
theorem pow3 : (10000 : Int) ^ 3 = 1000000000000 := by decide
theorem pow4 : (10000 : Int) ^ 4 = 10000000000000000 := by decide
theorem vd_small {xs : List Int} (h : Limbs xs) (k : Nat) (hk : xs.length ≤ k + 3) : vd xs k < 1000000000000 := by
  have h1 := vd_lt h k
  have h2 := pow_mono (show xs.length - k ≤ 3 by omega)
  rw [pow3] at h2
  omega
theorem vd_small4 {xs : List Int} (h : Limbs xs) (k : Nat) (hk : xs.length ≤ k + 4) : vd xs k < 10000000000000000 := by
  have h1 := vd_lt h k
  have h2 := pow_mono (show xs.length - k ≤ 4 by omega)
  rw [pow4] at h2
  omega
theorem val_split {xs : List Int} (k : Nat) : val xs = val (xs.take k) + 10000 ^ k * vd xs k := by
  rcases Nat.lt_or_ge xs.length k with h | h
  · rw [vd_end xs k (by omega), List.take_of_length_le (by omega)]; simp
  · exact val_take_drop xs k h
theorem vd_split (xs : List Int) (k d : Nat) : vd xs k = val ((xs.drop k).take d) + 10000 ^ d * vd xs (k + d) := by
  unfold vd
  have := val_split (xs := xs.drop k) d
  rw [show vd (xs.drop k) d = val (xs.drop (k + d)) from by unfold vd; rw [List.drop_drop]] at this
  exact this
theorem pow_vd_le {xs : List Int} (h : Limbs xs) (k : Nat) : 10000 ^ k * vd xs k ≤ val xs := by
  have := val_split (xs := xs) k
  have := val_nonneg (limbs_take h k)
  omega
theorem D_below (n low : Nat) : (n : Int) < 10000 ^ low * (vd (D n) low + 1) := by
  have h1 := val_split (xs := D n) low
  rw [val_D] at h1
  have h2 := val_lt (limbs_take (limbs_D n) low)
  have h3 := pow_mono (show ((D n).take low).length ≤ low by simp; omega)
  rw [Int.mul_add, Int.mul_one]
  omega
theorem guess_high {zs : List Int} (hz : Limbs zs) (n low : Nat) : (n : Int) * (vd zs low / (vd (D n) low + 1)) ≤ val zs := by
  have hd := vd_nonneg (limbs_D n) low
  have hv := vd_nonneg hz low
  have h1 := D_below n low
  have h2 := pow_vd_le hz low
  have hp := pow_pos' low
  generalize vd (D n) low + 1 = h at *
  have hh : 0 < h := by
    rcases (show 0 < h ∨ h ≤ 0 by omega) with h0 | h0
    · exact h0
    · have := Int.mul_nonpos_of_nonneg_of_nonpos (show (0 : Int) ≤ 10000 ^ low by omega) h0
      omega
  have h3 : vd zs low / h * h ≤ vd zs low := Int.ediv_mul_le _ (by omega)
  have ht : 0 ≤ vd zs low / h := Int.ediv_nonneg hv (by omega)
  generalize vd zs low / h = t at *
  have h4 : (n : Int) * t ≤ (10000 ^ low * h) * t := Int.mul_le_mul_of_nonneg_right (by omega) ht
  have h5 : (10000 ^ low * h) * t = 10000 ^ low * (t * h) := by rw [Int.mul_assoc, Int.mul_comm h t]
  have h6 : 10000 ^ low * (t * h) ≤ 10000 ^ low * vd zs low := Int.mul_le_mul_of_nonneg_left h3 (by omega)
  omega
theorem guess_low {zs : List Int} (n : Nat) (hn : 0 < n) : (n : Int) * (val zs / n) ≤ val zs := by
  have := Int.ediv_mul_le (val zs) (show (n : Int) ≠ 0 by omega)
  rw [Int.mul_comm]; exact this
theorem guess_lt {n : Nat} {t v : Int} (h : (n : Int) * t ≤ v) (hv : v < 10000 * n) : t ≤ 9999 := by
  rcases (show t < 10000 ∨ 10000 ≤ t by omega) with h1 | h1
  · omega
  · have := Int.mul_le_mul_of_nonneg_left h1 (show (0 : Int) ≤ n by omega)
    omega
theorem val_set (qs : List Int) (j : Nat) (v : Int) (hj : j < qs.length) : val (qs.set j v) = val qs + 10000 ^ j * (v - qs.getD j 0) := by
  induction qs generalizing j with
  | nil => simp at hj
  | cons x xs ih =>
    cases j with
    | zero => simp [val]; omega
    | succ j =>
      rw [List.set_cons_succ, val, val, ih j (by simpa using hj), pow_succ']
      have : (x :: xs).getD (j + 1) 0 = xs.getD j 0 := by simp [List.getD]
      rw [this, Int.mul_add, Int.mul_assoc]
      omega
theorem D_top (n : Nat) (h : 0 < n) : (10000 : Int) ^ ((D n).length - 1) ≤ n := by
  have h1 : 0 < (D n).length := by
    rw [List.length_pos_iff]; intro e; rw [D_nil_iff] at e; omega
  have := (D_len_gt n ((D n).length - 1)).1 (by omega)
  have e := npow_cast ((D n).length - 1)
  omega
theorem D_bound (n : Nat) : (n : Int) < 10000 ^ (D n).length := by
  have := (D_len_le n (D n).length).1 (Nat.le_refl _)
  have e := npow_cast (D n).length
  omega
theorem vd_gone {a v P : Int} (ha : 0 ≤ a) (hv : 0 ≤ v) (hP : 0 < P) (h : a + P * v < P) : v = 0 := by
  rcases (show v = 0 ∨ 1 ≤ v by omega) with h0 | h0
  · exact h0
  · have := Int.mul_le_mul_of_nonneg_left h0 (show (0 : Int) ≤ P by omega)
    omega
theorem div_parts (rs : List Int) (p nw : Nat) : rs = rs.take p ++ (rs.drop p).take nw ++ rs.drop (p + nw) := by
  rw [List.append_assoc]
  have : (rs.drop p).take nw ++ rs.drop (p + nw) = rs.drop p := by
    rw [← List.drop_drop, List.take_append_drop]
  rw [this, List.take_append_drop]
/-- what stands behind the window is 0, and the window is less than the base times what is divided by -/
theorem div_window {rs : List Int} (hl : Limbs rs) (n p nw : Nat) (_hp : p < rs.length) (hv : vd rs (p + 1) < n) (hnw : nw = (D n).length + 1 ∨ p + nw = rs.length) :
    vd rs (p + nw) = 0 ∧ val ((rs.drop p).take nw) = vd rs p ∧ vd rs p < 10000 * n := by
  have h0 : vd rs (p + nw) = 0 := by
    rcases hnw with h | h
    · have h1 := vd_split rs (p + 1) (D n).length
      have h2 := D_bound n
      have h3 := val_nonneg (limbs_take (limbs_drop hl (p + 1)) (D n).length)
      have h4 := vd_nonneg hl (p + 1 + (D n).length)
      have := vd_gone h3 h4 (pow_pos' _) (show _ < (10000 : Int) ^ (D n).length by omega)
      rw [h, show p + ((D n).length + 1) = p + 1 + (D n).length from by omega]
      exact this
    · exact vd_end rs _ (by omega)
  have h1 := vd_split rs p nw
  rw [h0, Int.mul_zero, Int.add_zero] at h1
  refine ⟨h0, h1.symm, ?_⟩
  have h2 := vd_step rs p
  have h3 := limbs_getD hl p
  omega
theorem div_next {rs ws qs : List Int} {p nw n : Nat} {t M : Int} (hp : p + nw ≤ rs.length) (hw : ws.length = nw) (h0 : vd rs (p + nw) = 0) (hv : val ws + n * t = val ((rs.drop p).take nw)) (hq : qs.getD p 0 = 0) (hpq : p < qs.length)
    (hM : val rs + n * val qs = M) : val (rs.take p ++ ws ++ rs.drop (p + nw)) + n * val (qs.set p t) = M ∧ vd (rs.take p ++ ws ++ rs.drop (p + nw)) p = val ws := by
  have hl1 : (rs.take p).length = p := by rw [List.length_take]; omega
  have e1 : val rs = val (rs.take p) + 10000 ^ p * val ((rs.drop p).take nw) := by
    have h1 := val_split (xs := rs) p
    rw [vd_split rs p nw, h0, Int.mul_zero, Int.add_zero] at h1
    exact h1
  have e2 : val (rs.take p ++ ws ++ rs.drop (p + nw)) = val (rs.take p) + 10000 ^ p * val ws := by
    rw [List.append_assoc, val_append, val_append, hl1, show val (rs.drop (p + nw)) = vd rs (p + nw) from rfl, h0, Int.mul_zero, Int.add_zero]
  constructor
  · rw [e2, val_set qs p t hpq, hq, Int.sub_zero, Int.mul_add, Int.mul_left_comm (n : Int), ← hM, e1, ← hv, Int.mul_add]
    omega
  · unfold vd
    rw [List.append_assoc, List.drop_append_of_le_length (by omega), List.drop_of_length_le (by omega), List.nil_append, val_append, show val (rs.drop (p + nw)) = vd rs (p + nw) from rfl, h0, Int.mul_zero, Int.add_zero]
theorem div_done {r q M : Int} {n : Nat} (h0 : 0 ≤ r) (h1 : r < n) (hM : r + n * q = M) : q = M / n ∧ r = M % n := by
  have hn : (0 : Int) < n := by omega
  constructor
  · rw [← hM, Int.add_mul_ediv_left _ _ (by omega), Int.ediv_eq_zero_of_lt h0 h1, Int.zero_add]
  · rw [← hM, Int.add_mul_emod_self_left, Int.emod_eq_of_lt h0 h1]
end Nt
namespace Nt
open Go
/-- a guess that is not too high -/
def Guess (n : Nat) (v : Int) (e : Ending) : Prop := ∃ t : Int, 0 ≤ t ∧ t ≤ 9999 ∧ (n : Int) * t ≤ v ∧ e = .returned (.int .i64 t)
end Nt
namespace Go.Proofs.YtifepoefeamboaaGreatDoor
open Go Go.RowKit Nt

set_option maxHeartbeats 400000 in
theorem highValue_any (A : Option Addr) (n c low : Nat) (xs : List Int) (P : Nat → Prop) (w : World) (hr : Rd w P A n c xs) (hl : Limbs xs) (hlow : low ≤ n) (hn : n ≤ low + 4) (hn2 : n ≤ 10000) :
    Calls Tryz.prog 169 #[.slice A n c, .int .i64 (low : Int)] w fun e w' => e = .returned (.int .i64 (vd xs low)) ∧ w = w' := by
  have HL := Lib.hid hl
  have HN := Lib.hid hr.len
  clear hl
  go_enter Tryz.func169, Tryz.ntmps169
  go_wp2
  go_loop [5, 6] (fun v p => ∃ k : Nat, low ≤ k ∧ k ≤ n ∧ p = .int .i64 ((k : Int) - 1) ∧ v = .int .i64 (vd xs k)) (fun _ p => (intOf p + 1).toNat)
  case atStart => exact ⟨n, hlow, Nat.le_refl _, rfl, by rw [vd_end xs n (by have := HN.out; omega)]⟩
  case round =>
    obtain ⟨k, hk1, hk2, rfl, rfl⟩ := hrel
    have hv0 := vd_nonneg HL.out k
    by_cases hlt : low < k
    · obtain ⟨k, rfl⟩ : ∃ j, k = j + 1 := ⟨k - 1, by omega⟩
      obtain ⟨b, o, rfl, hP, _, hc⟩ := hr.at_ (by omega)
      have hcx := hc k (by omega)
      have hb := limbs_getD HL.out k
      have hv1 := vd_small HL.out (k + 1) (by have := HN.out; omega)
      have HS := Lib.hid (vd_step xs k)
      have ek : ((k + 1 : Nat) : Int) - 1 = (k : Int) := by omega
      rw [ek]
      generalize xs.getD k 0 = x at *
      generalize vd xs (k + 1) = v at *
      clear hc hr ek
      have hlk : (low : Int) ≤ k := by omega
      have hkn : (k : Int) < n := by omega
      go_wp2
      go_round
      case rel => exact ⟨k, by omega, by omega, by go_num, by rw [HS.out]; go_num⟩
      case measure => simp [intOf]
    · obtain rfl : k = low := by omega
      generalize hvv : vd xs k = v at *
      have HVV := Lib.hid hvv
      clear hr hvv
      go_wp2
      go_ret
      exact ⟨ret_int HVV.out.symm, rfl⟩

set_option maxHeartbeats 400000 in
theorem guessTimes_any (A B : Option Addr) (nz cz lb cb n : Nat) (zs : List Int) (P Q : Nat → Prop) (w : World) (hz : Rd w P A nz cz zs) (hb : Rd w Q B lb cb (D n)) (hl : Limbs zs) (hn0 : 0 < n) (h1 : lb ≤ nz) (h2 : nz ≤ lb + 1) (hlb : lb ≤ 9000) (hv : val zs < 10000 * n) :
    Calls Tryz.prog 164 #[.slice A nz cz, .slice B lb cb] w fun e w' => Guess n (val zs) e ∧ w = w' := by
  have HZ := Lib.hid hz
  have HB := Lib.hid hb
  have HL := Lib.hid hl
  have HV := Lib.hid hv
  have HZL := Lib.hid hz.len
  have HBL := Lib.hid hb.len
  clear hz hb hl hv
  by_cases h3 : lb < 3
  · have hneg : (lb : Int) - 3 < 0 := by omega
    have hd0 := vd_nonneg (limbs_D n) 0
    have hz0 := vd_nonneg HL.out 0
    have hd1 := vd_small (limbs_D n) 0 (by have := HBL.out; omega)
    have hz1 := vd_small4 HL.out 0 (by have := HZL.out; omega)
    have HG := Lib.hid (guess_low (zs := zs) n hn0)
    have HE : Hid (vd zs 0 = val zs ∧ vd (D n) 0 = n) := ⟨rfl, by rw [vd_zero, val_D]⟩
    have hdp : 0 < vd (D n) 0 := by have := HE.out.2; omega
    go_enter Tryz.func164, Tryz.ntmps164
    go_wp2_with fail
    refine (highValue_any B lb cb 0 (D n) _ w HB.out (limbs_D n) (by omega) (by omega) (by omega)).mono ?_
    rintro e w1 ⟨rfl, rfl⟩
    generalize vd (D n) 0 = d at *
    go_wp2_with fail
    refine (highValue_any A nz cz 0 zs _ w HZ.out HL.out (by omega) (by omega) (by omega)).mono ?_
    rintro e w1 ⟨rfl, rfl⟩
    generalize vd zs 0 = v at *
    go_wp2
    go_ret
    obtain ⟨e1, e2⟩ := HE.out
    have hg := HG.out
    refine ⟨⟨v / d, Int.ediv_nonneg hz0 (by omega), ?_, ?_, rfl⟩, rfl⟩
    · rw [e1, e2]; exact guess_lt hg HV.out
    · rw [e1, e2]; exact hg
  obtain ⟨low, rfl⟩ : ∃ low, lb = low + 3 := ⟨lb - 3, by omega⟩
  by_cases hl0 : low = 0
  · subst hl0
    have hd0 := vd_nonneg (limbs_D n) 0
    have hz0 := vd_nonneg HL.out 0
    have hd1 := vd_small (limbs_D n) 0 (by have := HBL.out; omega)
    have hz1 := vd_small4 HL.out 0 (by have := HZL.out; omega)
    have HG := Lib.hid (guess_low (zs := zs) n hn0)
    have HE : Hid (vd zs 0 = val zs ∧ vd (D n) 0 = n) := ⟨rfl, by rw [vd_zero, val_D]⟩
    have hdp : 0 < vd (D n) 0 := by have := HE.out.2; omega
    go_enter Tryz.func164, Tryz.ntmps164
    go_wp2_with fail
    refine (highValue_any B (0 + 3) cb 0 (D n) _ w HB.out (limbs_D n) (by omega) (by omega) (by omega)).mono ?_
    rintro e w1 ⟨rfl, rfl⟩
    generalize vd (D n) 0 = d at *
    go_wp2_with fail
    refine (highValue_any A nz cz 0 zs _ w HZ.out HL.out (by omega) (by omega) (by omega)).mono ?_
    rintro e w1 ⟨rfl, rfl⟩
    generalize vd zs 0 = v at *
    go_wp2
    go_ret
    obtain ⟨e1, e2⟩ := HE.out
    have hg := HG.out
    refine ⟨⟨v / d, Int.ediv_nonneg hz0 (by omega), ?_, ?_, rfl⟩, rfl⟩
    · rw [e1, e2]; exact guess_lt hg HV.out
    · rw [e1, e2]; exact hg
  · have hd0 := vd_nonneg (limbs_D n) low
    have hz0 := vd_nonneg HL.out low
    have hd1 := vd_small (limbs_D n) low (by have := HBL.out; omega)
    have hz1 := vd_small4 HL.out low (by have := HZL.out; omega)
    have HG := Lib.hid (guess_high HL.out n low)
    have hlow : (0 : Int) < low := by omega
    go_enter Tryz.func164, Tryz.ntmps164
    go_wp2_with fail
    refine (highValue_any B (low + 3) cb low (D n) _ w HB.out (limbs_D n) (by omega) (by omega) (by omega)).mono ?_
    rintro e w1 ⟨rfl, rfl⟩
    generalize vd (D n) low = d at *
    go_wp2_with fail
    refine (highValue_any A nz cz low zs _ w HZ.out HL.out (by omega) (by omega) (by omega)).mono ?_
    rintro e w1 ⟨rfl, rfl⟩
    generalize vd zs low = v at *
    go_wp2
    go_ret
    have hg := HG.out
    exact ⟨⟨v / (d + 1), Int.ediv_nonneg hz0 (by omega), guess_lt hg HV.out, hg, rfl⟩, rfl⟩
end Go.Proofs.YtifepoefeamboaaGreatDoor
namespace Nt
open Go Go.RowKit
/-- only the blocks a and b may have turned, and what is new -/
def Two (a b : Nat) (w w' : World) : Prop :=
  w'.os = w.os ∧ w'.tape = w.tape ∧ w'.output = w.output ∧ w.heap.size ≤ w'.heap.size ∧ ∀ k, k < w.heap.size → k ≠ a → k ≠ b → w'.heap[k]? = w.heap[k]?
theorem Two.refl (a b : Nat) (w : World) : Two a b w w := ⟨rfl, rfl, rfl, Nat.le_refl _, fun _ _ _ _ => rfl⟩
theorem Two.size {a b : Nat} {w w' : World} (h : Two a b w w') : w.heap.size ≤ w'.heap.size := h.2.2.2.1
theorem Two.block {a b : Nat} {w w' : World} (h : Two a b w w') : ∀ k, k < w.heap.size → k ≠ a → k ≠ b → w'.heap[k]? = w.heap[k]? := h.2.2.2.2
theorem Two.trans {a b : Nat} {u v w : World} (h : Two a b u v) (k : Two a b v w) : Two a b u w :=
  ⟨k.1.trans h.1, k.2.1.trans h.2.1, k.2.2.1.trans h.2.2.1, Nat.le_trans h.size k.size, fun i hi h1 h2 => (k.block i (Nat.lt_of_lt_of_le hi h.size) h1 h2).trans (h.block i hi h1 h2)⟩
theorem Two.left {a b : Nat} {w w' : World} (h : w.grownBy w' (some a)) : Two a b w w' := ⟨h.os, h.tape, h.output, h.size, fun k hk h1 _ => h.block k hk (fun e => h1 (by injection e))⟩
theorem Two.right {a b : Nat} {w w' : World} (h : w.grownBy w' (some b)) : Two a b w w' := ⟨h.os, h.tape, h.output, h.size, fun k hk _ h2 => h.block k hk (fun e => h2 (by injection e))⟩
theorem Two.drawn {a b : Nat} {w w' : World} (h : Drawn w w') : Two a b w w' := Two.left (h.grown _)
theorem Two.below {a b B : Nat} {w w' : World} (h : Two a b w w') (hB : B ≤ w.heap.size) (ha : B ≤ a) (hb : B ≤ b) : Below B w w' :=
  ⟨h.1, h.2.1, h.2.2.1, h.size, fun k hk => h.block k (by omega) (by omega) (by omega)⟩
theorem Rd.two {w w' : World} {a b : Nat} {A : Option Addr} {n c : Nat} {xs : List Int} (h : Rd w (fun k => k ≠ a ∧ k ≠ b) A n c xs) (ht : Two a b w w') : Rd w' (fun k => k ≠ a ∧ k ≠ b) A n c xs :=
  h.keep ht.size fun k hp hk => ht.block k hk hp.1 hp.2
theorem arx_setCells (g : Nat) (t : TypeId) (kx : Nat) (post : List Int) : ∀ (ys : List Int) (o : Nat) (w : World) (pre xs : List Int), Arx w g t kx (pre ++ (xs ++ post)) → pre.length = o → xs.length = ys.length →
    Arx (w.setCells g o (ys.map (Value.int .i64))) g t kx (pre ++ (ys ++ post)) ∧ w.grownBy (w.setCells g o (ys.map (Value.int .i64))) (some g)
  | [], o, w, pre, xs, h, _, hx => by
    have : xs = [] := List.eq_nil_of_length_eq_zero (by simpa using hx)
    subst this
    exact ⟨h, World.grownBy.refl _ _⟩
  | y :: ys, o, w, pre, xs, h, ho, hx => by
    obtain ⟨x, xs, rfl⟩ : ∃ x r, xs = x :: r := by
      cases xs with
      | nil => simp at hx
      | cons x r => exact ⟨x, r, rfl⟩
    have h1 := h.set_ o y
    have e : (pre ++ (x :: xs ++ post)).set o y = (pre ++ [y]) ++ (xs ++ post) := by subst ho; simp
    rw [e] at h1
    obtain ⟨h2, h3⟩ := arx_setCells g t kx post ys (o + 1) _ (pre ++ [y]) xs h1 (by simp [ho]) (by simpa using hx)
    have e2 : pre ++ (y :: ys ++ post) = (pre ++ [y]) ++ (ys ++ post) := by simp
    rw [e2]
    exact ⟨h2, grown_trans (grown_set (World.grownBy.refl _ _) _) h3⟩
/-- clear of the first cells of a block -/
theorem run_clear_x {P : Program} (w : World) (t e : TypeId) (ht : P.underlying t = some (.slice e)) (hz : ∀ w, (zeroValue e).run P w = .ok (.int .i64 0) w) (g N c : Nat) (tb : TypeId) (kx : Nat) (full post : List Int) (hf : Arx w g tb kx (full ++ post)) (hl : full.length = N) (hN : 0 < N) :
    ∃ w', (∀ ty, (Builtin.clear_ #[t] ty #[.slice (some ⟨g, 0, none⟩) N c]).run P w = .ok (.tuple #[]) w') ∧ Arx w' g tb kx (zeros N ++ post) ∧ w.grownBy w' (some g) := by
  have h0 : List.replicate N (Value.int .i64 0) = (zeros N).map (Value.int .i64) := by simp [zeros]
  have hs := arx_setCells g tb kx post (zeros N) 0 w [] full (by simpa using hf) rfl (by rw [zeros_len]; exact hl)
  rw [← h0] at hs
  refine ⟨_, fun ty => Lib.run_clear_slice (P := P) w t e ty (.int .i64 0) ht hz rfl rfl g 0 N c hN (fun j hj => ?_) (fun j hj => ?_), ?_, ?_⟩
  · rw [Nat.zero_add, hf.cell j (by simp; omega)]; rfl
  · rw [Nat.zero_add]; exact hf.frozen j
  · simpa using hs.1
  · exact hs.2
/-- what a division leaves: the quotient in block gq, the rest in block gr, ahead of post -/
def DividedX (tq tr : TypeId) (kq kr : Nat) (w : World) (gq gr NQ nr : Nat) (pq post : List Int) (m n : Int) (w' : World) : Prop :=
  ∃ qs rs : List Int, qs.length = NQ ∧ Limbs qs ∧ val qs = m / n ∧ Arx w' gq tq kq (qs ++ pq) ∧ rs.length = nr ∧ Limbs rs ∧ val rs = m % n ∧ Arx w' gr tr kr (rs ++ post) ∧ Two gq gr w w'
end Nt
namespace Go.Proofs.YtifepoefeamboaaGreatDoor
open Go Go.RowKit Nt

theorem zeroInt (w : World) : (zeroValue 3).run Tryz.prog w = .ok (.int .i64 0) w := by kernel_rfl

set_option maxHeartbeats 3200000 in
theorem divideRest_x (gq gr NQ cq nr cr kq kr : Nat) (tq tr : TypeId) (full pq xs post : List Int) (B : Option Addr) (lb cb n : Nat) (w : World)
    (hq : Arx w gq tq kq (full ++ pq)) (hql : full.length = NQ) (hrr : Arx w gr tr kr (xs ++ post)) (hxl : xs.length = nr) (hl : Limbs xs) (hcr : nr ≤ cr) (hb : Rd w (fun k => k ≠ gq ∧ k ≠ gr) B lb cb (D n)) (hn : 0 < n)
    (hne : gq ≠ gr) (hNQ : nr ≤ NQ) (hNQ0 : 0 < NQ) (hN : NQ ≤ 9000) (hlb : lb ≤ 9000) :
    Calls Tryz.prog 154 #[.slice (some ⟨gq, 0, none⟩) NQ cq, .slice (some ⟨gr, 0, none⟩) nr cr, .slice B lb cb] w fun e w' => e = .returned (.tuple #[]) ∧ DividedX tq tr kq kr w gq gr NQ nr pq post (val xs) n w' := by
  obtain ⟨wc, hclr, haq, hgq⟩ := run_clear_x (P := Tryz.prog) w 29 3 Tryz.underlying29 zeroInt gq NQ cq tq kq full pq hq hql hNQ0
  have HAQ := Lib.hid haq
  have HAR := Lib.hid (hrr.keep (hgq.block _ hrr.lt (fun e => hne (by injection e with e; exact e.symm))))
  have HTW : Hid (Two gq gr w wc) := Two.left hgq
  have HXL := Lib.hid hxl
  have HL := Lib.hid hl
  have HB := Lib.hid hb
  have HBL := Lib.hid hb.len
  have HD := Lib.hid (D_top n hn)
  have HDB := Lib.hid (D_bound n)
  clear hq hql hrr hxl hl hb haq hgq
  by_cases hsmall : nr < lb
  · have HLT : Hid (val xs < n) := by
      show _ < _
      have h1 := val_lt HL.out
      have h2 := HD.out
      have h3 := pow_mono (show xs.length ≤ (D n).length - 1 by have := HXL.out; have := HBL.out; omega)
      omega
    go_enter Tryz.func154, Tryz.ntmps154
    go_wp2
    go_step3
    go_wp2
    go_step3
    go_wp2
    refine wp_loop_rounds 1 ?_
    rw [rounds_succ]
    go_wp2
    rw [Exit.noGoto_normal]
    go_end0
    have h0 := val_nonneg HL.out
    obtain ⟨e1, e2⟩ := div_done (q := 0) (M := val xs) h0 HLT.out (by simp)
    exact ⟨rfl, zeros NQ, xs, zeros_len _, zeros_limbs _, by rw [zeros_val]; exact e1, HAQ.out, HXL.out, HL.out, e2, HAR.out, HTW.out⟩
  · go_enter Tryz.func154, Tryz.ntmps154
    go_wp2
    go_step3
    go_wp2
    go_step3
    go_wp2
    clear hclr
    go_loopg [6] (nr + 1 - lb) (fun k p wr => ∃ (rs qs : List Int), k + lb ≤ nr + 1 ∧ p = .int .i64 ((k : Int) - 1) ∧ rs.length = nr ∧ Limbs rs ∧ qs.length = NQ ∧ Limbs qs ∧ (∀ j, j < k → qs.getD j 0 = 0) ∧ val rs + n * val qs = val xs ∧ vd rs k < n ∧ Arx wr gr tr kr (rs ++ post) ∧ Arx wr gq tq kq (qs ++ pq) ∧ Two gq gr w wr)
    case atStart =>
      refine ⟨xs, zeros NQ, by omega, by congr 1; omega, HXL.out, HL.out, zeros_len _, zeros_limbs _, fun j _ => zeros_getD _ j, by rw [zeros_val]; simp, ?_, HAR.out, HAQ.out, HTW.out⟩
      have h1 := vd_lt HL.out (nr + 1 - lb)
      have h2 := HD.out
      have h3 := pow_mono (show xs.length - (nr + 1 - lb) ≤ (D n).length - 1 by have := HXL.out; have := HBL.out; omega)
      omega
    case round =>
      obtain ⟨rs, qs, hk, rfl, hrl, hrlim, hqn, hqlim, hqz, hM, hv, har, haq, htw⟩ := hrel
      have HRL := Lib.hid hrl
      have HRM := Lib.hid hrlim
      have HQL := Lib.hid hqn
      have HQM := Lib.hid hqlim
      have HQZ := Lib.hid hqz
      have HM := Lib.hid hM
      have HV := Lib.hid hv
      have HA := Lib.hid har
      have HQ := Lib.hid haq
      have HT := Lib.hid htw
      clear hrl hrlim hqn hqlim hqz hM hv har haq htw HAQ HAR HTW
      by_cases hk0 : 0 < gk
      · obtain ⟨p, rfl⟩ : ∃ p, gk = p + 1 := ⟨gk - 1, by omega⟩
        rw [show ((p + 1 : Nat) : Int) - 1 = (p : Int) from by omega]
        have hlb0 : 0 < lb := by
          have h1 : (D n).length ≠ 0 := by
            intro e
            have := (D_nil_iff n).1 (List.eq_nil_of_length_eq_zero e)
            omega
          have := HBL.out
          omega
        obtain ⟨nw, hnw1, hnw2, hnw3, hnw4, hnw5⟩ : ∃ nw, lb ≤ nw ∧ nw ≤ lb + 1 ∧ p + nw ≤ nr ∧ (nw = (D n).length + 1 ∨ p + nw = rs.length) ∧ ((p + lb + 1 ≤ nr ∧ nw = lb + 1) ∨ (nr < p + lb + 1 ∧ p + nw = nr)) := by
          have hb := HBL.out
          have hr := HRL.out
          by_cases hcut : p + lb + 1 ≤ nr
          · exact ⟨lb + 1, by omega, by omega, by omega, by omega, by omega⟩
          · exact ⟨lb, by omega, by omega, by omega, by omega, by omega⟩
        obtain ⟨hw0, hw1, hw2⟩ := div_window HRM.out n p nw (by have := HRL.out; omega) HV.out hnw4
        have HPART := Lib.hid (div_parts rs p nw)
        have HWL : Hid (((rs.drop p).take nw).length = nw) := by show _ = _; have := HRL.out; simp; omega
        have HPL : Hid ((rs.take p).length = p) := by show _ = _; have := HRL.out; simp; omega
        have HWM := Lib.hid (limbs_take (limbs_drop HRM.out p) nw)
        have HW0 := Lib.hid hw0
        have HW2 : Hid (val ((rs.drop p).take nw) < 10000 * n) := by show _ < _; omega
        have HAW : Hid (Arx wr gr tr kr (rs.take p ++ (rs.drop p).take nw ++ (rs.drop (p + nw) ++ post))) := by
          show Arx _ _ _ _ _
          rw [← List.append_assoc, ← HPART.out]
          exact HA.out
        have H5 := Lib.hid hnw5
        clear hw0 hw1 hw2 hnw4 hnw5 HA HPART
        have hpc : (p : Int) < cr := by omega
        by_cases hcut : p + lb + 1 ≤ nr
        all_goals
          go_wp2_with fail
          first
            | rw [show ((p : Int) + lb + 1).toNat - p = nw from by have := H5.out; omega]
            | rw [show p + lb + 1 - p = nw from by have := H5.out; omega]
            | rw [show nr - p = nw from by have := H5.out; omega]
          generalize hws : (rs.drop p).take nw = ws at *
          generalize hpre : rs.take p = pre at *
          generalize hpo : rs.drop (p + nw) = po at *
          have HWS := Lib.hid hws
          have HPRE := Lib.hid hpre
          have HPO := Lib.hid hpo
          clear hws hpre hpo
          have hcpn : nw ≤ cr - p := by omega
          have hrd : Rd wr (fun _ => True) (some ⟨gr, p, none⟩) nw (cr - p) ws := by
            have h := HAW.out.rd (fun _ => True) trivial p nw (cr - p) (by have := HPL.out; have := HWL.out; simp; omega) hcpn
            have e : ((pre ++ ws ++ (po ++ post)).drop p).take nw = ws := by
              have h1 := HPL.out
              have h2 := HWL.out
              rw [List.append_assoc, List.drop_append_of_le_length (by omega), List.drop_of_length_le (by omega), List.nil_append, List.take_append_of_le_length (by omega), List.take_of_length_le (by omega)]
            rw [e] at h
            exact h
          refine (guessTimes_any (some ⟨gr, p, none⟩) B nw (cr - p) lb cb n ws (fun _ => True) _ wr hrd (HB.out.two HT.out) HWM.out hn hnw1 hnw2 hlb HW2.out).mono ?_
          rintro e w1 ⟨⟨t0, ht0, ht1, ht2, rfl⟩, rfl⟩
          clear hrd
          have HT2 := Lib.hid ht2
          clear ht2
          go_wp2_with fail
          refine (takeTimes_x gr p nw (cr - p) kr tr pre ws (po ++ post) B lb cb n t0 wr HAW.out HPL.out HWL.out ((HB.out.two HT.out).mono (fun b h _ => h.2)) HWM.out ht0 (by omega) HT2.out (by omega) (by omega) (by omega)).mono ?_
          rintro e w1 ⟨rfl, ws1, hl1, hm1, hv1, ha1, hg1⟩
          have HL1 := Lib.hid hl1
          have HM1 := Lib.hid hm1
          have HV1 := Lib.hid hv1
          have HA1 := Lib.hid ha1
          have HQ1 := Lib.hid (HQ.out.keep (hg1.block _ HQ.out.lt (fun e => hne (by injection e))))
          have HT1 := Lib.hid (HT.out.trans (Two.right hg1))
          clear hl1 hm1 hv1 ha1 hg1 HAW HQ HT
          go_wp2
          go_loopg [8] (10000 - t0.toNat) (fun gt tv wr => ∃ (t : Int) (ws' : List Int), (gt : Int) + t = 10000 ∧ 0 ≤ t ∧ t ≤ 9999 ∧ tv = .int .i64 t ∧ ws'.length = nw ∧ Limbs ws' ∧ val ws' + n * t = val ws ∧ Arx wr gr tr kr (pre ++ ws' ++ (po ++ post)) ∧ Arx wr gq tq kq (qs ++ pq) ∧ Two gq gr w wr)
          case atStart => exact ⟨t0, ws1, by omega, ht0, ht1, rfl, HL1.out, HM1.out, by rw [HV1.out]; omega, HA1.out, HQ1.out, HT1.out⟩
          case round =>
            obtain ⟨t, ws', hgt, ht0', ht1', rfl, hl', hm', hv', ha', hq', htw'⟩ := hrel
            have HL' := Lib.hid hl'
            have HM' := Lib.hid hm'
            have HV' := Lib.hid hv'
            have HA' := Lib.hid ha'
            have HQ' := Lib.hid hq'
            have HT' := Lib.hid htw'
            clear hl' hm' hv' ha' hq' htw' HL1 HM1 HV1 HA1 HQ1 HT1 HT2
            have HGT := Lib.hid hgt
            clear hgt
            have hrd : Rd wr (fun _ => True) (some ⟨gr, p, none⟩) nw (cr - p) ws' := by
              have h := HA'.out.rd (fun _ => True) trivial p nw (cr - p) (by have := HPL.out; have := HL'.out; simp; omega) hcpn
              have e : ((pre ++ ws' ++ (po ++ post)).drop p).take nw = ws' := by
                have h1 := HPL.out
                have h2 := HL'.out
                rw [List.append_assoc, List.drop_append_of_le_length (by omega), List.drop_of_length_le (by omega), List.nil_append, List.take_append_of_le_length (by omega), List.take_of_length_le (by omega)]
              rw [e] at h
              exact h
            have HRD := Lib.hid hrd
            clear hrd
            go_wp2_with fail
            refine (trimmed_any _ nw (cr - p) ws' (fun _ => True) wr HRD.out HM'.out (by omega)).mono ?_
            rintro e w2 ⟨rfl, rfl⟩
            have hle := trim_len_le HM'.out
            have hrd2 := HRD.out.cut (D (natOf ws')).length (by have := HL'.out; omega)
            rw [take_trim HM'.out] at hrd2
            have HR2 := Lib.hid hrd2
            have hle2 : (D (natOf ws')).length ≤ 16777216 := by have := HL'.out; omega
            clear hrd2 hle
            go_wp2_with fail
            refine (compareLimbs_any _ B _ (cr - p) lb cb (natOf ws') n (fun _ => True) _ wr HR2.out (HB.out.two HT'.out) hle2 (by omega)).mono ?_
            rintro e w2 ⟨rfl, hd2⟩
            have HA2 := Lib.hid (hd2.arx HA'.out)
            have HQ2 := Lib.hid (hd2.arx HQ'.out)
            have HT2 := Lib.hid (HT'.out.trans (Two.drawn hd2))
            clear hd2 HA' HQ' HT' HR2 HRD hle2
            by_cases hlt : natOf ws' < n
            · rw [cmpI_lt hlt]
              have hfz := HQ2.out.frozen p
              have hcc := HQ2.out.cell p (by have := HQL.out; simp; omega)
              have hst := HQ2.out.set_ p t
              rw [List.set_append_left _ _ (by have := HQL.out; omega)] at hst
              have HST := Lib.hid hst
              have hgs : w2.grownBy (w2.setCell ⟨gq, p, none⟩ (.int .i64 t)) (some gq) := grown_set (World.grownBy.refl _ _) _
              have HAS := Lib.hid (HA2.out.keep (hgs.block _ HA2.out.lt (fun e => hne (by injection e with e; exact e.symm))))
              have HTS := Lib.hid (HT2.out.trans (Two.left hgs))
              clear hst hgs HQ2 HA2 HT2
              generalize (qs ++ pq).getD p 0 = old at hcc
              have hpq : (p : Int) < NQ := by omega
              go_wp2
              go_roundg p
              case measure => omega
              case rel =>
                have hv1 := HV'.out
                rw [← HWS.out] at hv1
                obtain ⟨e1, e2⟩ := div_next (by have := HRL.out; omega) HL'.out HW0.out hv1 (HQZ.out p (by omega)) (by have := HQL.out; omega) HM.out
                rw [HPRE.out, HPO.out] at e1 e2
                refine ⟨pre ++ ws' ++ po, qs.set p t, by omega, rfl, ?_, ?_, by rw [List.length_set]; exact HQL.out, limbs_set HQM.out p t ht0' (by omega), ?_, e1, ?_, ?_, HST.out, HTS.out⟩
                · have h1 := HPL.out
                  have h2 := HL'.out
                  have h3 : po.length = nr - (p + nw) := by rw [← HPO.out, List.length_drop, HRL.out]
                  simp only [List.length_append]
                  omega
                · refine limbs_append.2 ⟨limbs_append.2 ⟨?_, HM'.out⟩, ?_⟩
                  · rw [← HPRE.out]; exact limbs_take HRM.out p
                  · rw [← HPO.out]; exact limbs_drop HRM.out _
                · intro j hj
                  have hz := HQZ.out j (by omega)
                  simp only [List.getD, List.getElem?_set, if_neg (show ¬ p = j from by omega)] at hz ⊢
                  exact hz
                · rw [e2]
                  have := natOf_val HM'.out
                  omega
                · have := HAS.out
                  rwa [← List.append_assoc] at this
            · obtain ⟨hc0, hc1⟩ := cmpI_ge hlt
              generalize cmpI (natOf ws') n = cc at *
              have hge : (n : Int) * 1 ≤ val ws' := by have := natOf_val HM'.out; omega
              have HGE := Lib.hid hge
              clear hge
              go_wp2_with fail
              refine (takeTimes_x gr p nw (cr - p) kr tr pre ws' (po ++ post) B lb cb n 1 w2 HA2.out HPL.out HL'.out ((HB.out.two HT2.out).mono (fun b h _ => h.2)) HM'.out (by omega) (by omega) HGE.out (by omega) (by omega) (by omega)).mono ?_
              rintro e w3 ⟨rfl, ws2, hl2, hm2, hv2, ha2, hg2⟩
              have HL2 := Lib.hid hl2
              have HM2 := Lib.hid hm2
              have HV2 : Hid (val ws2 + n * (t + 1) = val ws) := by show _ = _; have := HV'.out; rw [Int.mul_add]; omega
              have HA3 := Lib.hid ha2
              have HQ3 := Lib.hid (HQ2.out.keep (hg2.block _ HQ2.out.lt (fun e => hne (by injection e))))
              have HT3 := Lib.hid (HT2.out.trans (Two.right hg2))
              have ht9 : t + 1 ≤ 9999 := guess_lt (v := val ws) (by have := HV2.out; have := val_nonneg hm2; omega) HW2.out
              clear hl2 hm2 hv2 ha2 hg2 HA2 HQ2 HT2 HV' HM' HL'
              go_wp2
              go_roundg (gk - 1)
              case measure => have := HGT.out; omega
              case rel => exact ⟨t + 1, ws2, by have := HGT.out; omega, by omega, ht9, rfl, HL2.out, HM2.out, HV2.out, HA3.out, HQ3.out, HT3.out⟩
      · obtain rfl : gk = 0 := by omega
        go_wp2
        rw [Exit.noGoto_normal]
        go_end0
        have h0 := val_nonneg HRM.out
        obtain ⟨e1, e2⟩ := div_done (r := val rs) (q := val qs) (M := val xs) h0 HV.out HM.out
        exact ⟨rfl, qs, rs, HQL.out, HQM.out, e1, HQ.out, HRL.out, HRM.out, e2, HA.out, HT.out⟩
end Go.Proofs.YtifepoefeamboaaGreatDoor
