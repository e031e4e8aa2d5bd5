/-
  Plain mathematics of roots.
-/
import Derived.Test.YtgeijojkfojfbabDivMath
namespace Nt
def rtF : Nat → Nat → Nat
  | 0, _ => 0
  | k + 1, m => if (k + 1) * (k + 1) ≤ m then k + 1 else rtF k m
def rt (m : Nat) : Nat := rtF m m
theorem rtF_le : ∀ k m, rtF k m * rtF k m ≤ m
  | 0, m => Nat.zero_le _
  | k + 1, m => by
    unfold rtF
    split
    · assumption
    · exact rtF_le k m
theorem rtF_gt : ∀ k m j, rtF k m < j → j ≤ k → m < j * j
  | 0, _, j, h1, h2 => by omega
  | k + 1, m, j, h1, h2 => by
    unfold rtF at h1
    split at h1
    · omega
    · by_cases h : j = k + 1
      · subst h; omega
      · exact rtF_gt k m j h1 (by omega)
theorem rt_le (m : Nat) : rt m * rt m ≤ m := rtF_le m m
theorem rt_gt (m : Nat) : m < (rt m + 1) * (rt m + 1) := by
  rcases Nat.lt_or_ge (rt m) m with h | h
  · exact rtF_gt m m (rt m + 1) (by show rt m < _; omega) h
  · have h1 : rt m + 1 ≤ (rt m + 1) * (rt m + 1) := Nat.le_mul_of_pos_left _ (by omega)
    omega
theorem rt_unique {m s : Nat} (h1 : s * s ≤ m) (h2 : m < (s + 1) * (s + 1)) : s = rt m := by
  have h3 := rt_le m
  have h4 := rt_gt m
  have a : s ≤ rt m := by
    rcases Nat.lt_or_ge (rt m) s with h | h
    · have := Nat.mul_le_mul (show rt m + 1 ≤ s by omega) (show rt m + 1 ≤ s by omega)
      omega
    · exact h
  have b : rt m ≤ s := by
    rcases Nat.lt_or_ge s (rt m) with h | h
    · have := Nat.mul_le_mul (show s + 1 ≤ rt m by omega) (show s + 1 ≤ rt m by omega)
      omega
    · exact h
  omega
theorem rt_lt {m r : Nat} (h : m < r * r) : rt m < r := by
  have h3 := rt_le m
  rcases Nat.lt_or_ge (rt m) r with h1 | h1
  · exact h1
  · have := Nat.mul_le_mul h1 h1
    omega
/-- Newton's rule stays above -/
theorem newton_ge {m r : Nat} (h : rt m ≤ r) (hr : 0 < r) : rt m ≤ (r + m / r) / 2 := by
  obtain ⟨d, rfl⟩ : ∃ d, r = rt m + d := ⟨r - rt m, by omega⟩
  have h3 := rt_le m
  have hq : rt m - d ≤ m / (rt m + d) := by
    rw [Nat.le_div_iff_mul_le hr]
    refine Nat.le_trans ?_ h3
    rcases Nat.lt_or_ge (rt m) d with hd | hd
    · rw [show rt m - d = 0 from by omega]; omega
    · obtain ⟨e, he⟩ : ∃ e, rt m = e + d := ⟨rt m - d, by omega⟩
      rw [he, show e + d - d = e from by omega]
      simp only [Nat.mul_add, Nat.add_mul, Nat.mul_comm d e]
      omega
  omega
/-- what no longer falls is the root -/
theorem newton_end {m r : Nat} (h : rt m ≤ r) (hn : r ≤ (r + m / r) / 2) : r = rt m := by
  have h1 : r ≤ m / r := by omega
  have h2 : r * r ≤ m := by
    have := Nat.mul_le_mul_right r h1
    have := Nat.div_mul_le_self m r
    omega
  have h4 := rt_gt m
  rcases Nat.lt_or_ge (rt m) r with h5 | h5
  · have := Nat.mul_le_mul (show rt m + 1 ≤ r by omega) (show rt m + 1 ≤ r by omega)
    omega
  · omega
theorem D_pow (h : Nat) : D (10000 ^ h) = List.replicate h 0 ++ [1] := by
  induction h with
  | zero => rfl
  | succ h ih =>
    rw [D_pos _ (npow_pos _)]
    have e1 : 10000 ^ (h + 1) / 10000 = 10000 ^ h := by rw [Nat.pow_succ, Nat.mul_div_cancel _ (by decide)]
    have e2 : 10000 ^ (h + 1) % 10000 = 0 := by rw [Nat.pow_succ, Nat.mul_mod_left]
    rw [e1, e2, ih, List.replicate_succ]
    rfl
theorem root_start {m la : Nat} (h : m < 10000 ^ la) : rt m ≤ 10000 ^ ((la + 1) / 2) := by
  have h1 : 10000 ^ la ≤ 10000 ^ ((la + 1) / 2) * 10000 ^ ((la + 1) / 2) := by
    rw [← Nat.pow_add]
    exact Nat.pow_le_pow_right (by decide) (by omega)
  have := rt_lt (show m < 10000 ^ ((la + 1) / 2) * 10000 ^ ((la + 1) / 2) by omega)
  omega
theorem half_step {x H q y : Int} (hy : y = H / 2) (hq : q = H % 2) : (q * 10000 + x) / 2 + 10000 * y = (x + 10000 * H) / 2 ∧ (q * 10000 + x) % 2 = (x + 10000 * H) % 2 := by omega
end Nt
