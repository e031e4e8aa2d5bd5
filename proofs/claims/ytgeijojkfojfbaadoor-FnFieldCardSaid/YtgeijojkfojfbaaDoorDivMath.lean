/-
  Plain mathematics of quotients.
-/
import Derived.Test.YtgeijojkfojfbaaDoorMulMath
namespace Nt
theorem vd_lt {xs : List Int} (h : Limbs xs) (k : Nat) : vd xs k < 10000 ^ (xs.length - k) := by
  have := val_lt (limbs_drop h k)
  rwa [List.length_drop] at this
theorem pow_mono {j k : Nat} (h : j ≤ k) : (10000 : Int) ^ j ≤ 10000 ^ k := by
  obtain ⟨d, rfl⟩ : ∃ d, k = j + d := ⟨k - j, by omega⟩
  have h1 := pow_pos' j
  have h2 := pow_pos' d
  rw [Int.pow_add]
  have := Int.mul_le_mul_of_nonneg_left (show (1 : Int) ≤ 10000 ^ d by omega) (show (0 : Int) ≤ 10000 ^ j by omega)
  omega
theorem pow3 : (10000 : Int) ^ 3 = 1000000000000 := by decide
theorem pow4 : (10000 : Int) ^ 4 = 10000000000000000 := by decide
theorem vd_small {xs : List Int} (h : Limbs xs) (k : Nat) (hk : xs.length ≤ k + 3) : vd xs k < 1000000000000 := by
  have h1 := vd_lt h k
  have h2 := pow_mono (show xs.length - k ≤ 3 by omega)
  rw [pow3] at h2
  omega
theorem vd_small4 {xs : List Int} (h : Limbs xs) (k : Nat) (hk : xs.length ≤ k + 4) : vd xs k < 10000000000000000 := by
  have h1 := vd_lt h k
  have h2 := pow_mono (show xs.length - k ≤ 4 by omega)
  rw [pow4] at h2
  omega
theorem val_split {xs : List Int} (k : Nat) : val xs = val (xs.take k) + 10000 ^ k * vd xs k := by
  rcases Nat.lt_or_ge xs.length k with h | h
  · rw [vd_end xs k (by omega), List.take_of_length_le (by omega)]; simp
  · exact val_take_drop xs k h
theorem vd_split (xs : List Int) (k d : Nat) : vd xs k = val ((xs.drop k).take d) + 10000 ^ d * vd xs (k + d) := by
  unfold vd
  have := val_split (xs := xs.drop k) d
  rw [show vd (xs.drop k) d = val (xs.drop (k + d)) from by unfold vd; rw [List.drop_drop]] at this
  exact this
theorem pow_vd_le {xs : List Int} (h : Limbs xs) (k : Nat) : 10000 ^ k * vd xs k ≤ val xs := by
  have := val_split (xs := xs) k
  have := val_nonneg (limbs_take h k)
  omega
theorem D_below (n low : Nat) : (n : Int) < 10000 ^ low * (vd (D n) low + 1) := by
  have h1 := val_split (xs := D n) low
  rw [val_D] at h1
  have h2 := val_lt (limbs_take (limbs_D n) low)
  have h3 := pow_mono (show ((D n).take low).length ≤ low by simp; omega)
  rw [Int.mul_add, Int.mul_one]
  omega
theorem guess_high {zs : List Int} (hz : Limbs zs) (n low : Nat) : (n : Int) * (vd zs low / (vd (D n) low + 1)) ≤ val zs := by
  have hd := vd_nonneg (limbs_D n) low
  have hv := vd_nonneg hz low
  have h1 := D_below n low
  have h2 := pow_vd_le hz low
  have hp := pow_pos' low
  generalize vd (D n) low + 1 = h at *
  have hh : 0 < h := by
    rcases (show 0 < h ∨ h ≤ 0 by omega) with h0 | h0
    · exact h0
    · have := Int.mul_nonpos_of_nonneg_of_nonpos (show (0 : Int) ≤ 10000 ^ low by omega) h0
      omega
  have h3 : vd zs low / h * h ≤ vd zs low := Int.ediv_mul_le _ (by omega)
  have ht : 0 ≤ vd zs low / h := Int.ediv_nonneg hv (by omega)
  generalize vd zs low / h = t at *
  have h4 : (n : Int) * t ≤ (10000 ^ low * h) * t := Int.mul_le_mul_of_nonneg_right (by omega) ht
  have h5 : (10000 ^ low * h) * t = 10000 ^ low * (t * h) := by rw [Int.mul_assoc, Int.mul_comm h t]
  have h6 : 10000 ^ low * (t * h) ≤ 10000 ^ low * vd zs low := Int.mul_le_mul_of_nonneg_left h3 (by omega)
  omega
theorem guess_low {zs : List Int} (n : Nat) (hn : 0 < n) : (n : Int) * (val zs / n) ≤ val zs := by
  have := Int.ediv_mul_le (val zs) (show (n : Int) ≠ 0 by omega)
  rw [Int.mul_comm]; exact this
theorem guess_lt {n : Nat} {t v : Int} (h : (n : Int) * t ≤ v) (hv : v < 10000 * n) : t ≤ 9999 := by
  rcases (show t < 10000 ∨ 10000 ≤ t by omega) with h1 | h1
  · omega
  · have := Int.mul_le_mul_of_nonneg_left h1 (show (0 : Int) ≤ n by omega)
    omega
theorem val_set (qs : List Int) (j : Nat) (v : Int) (hj : j < qs.length) : val (qs.set j v) = val qs + 10000 ^ j * (v - qs.getD j 0) := by
  induction qs generalizing j with
  | nil => simp at hj
  | cons x xs ih =>
    cases j with
    | zero => simp [val]; omega
    | succ j =>
      rw [List.set_cons_succ, val, val, ih j (by simpa using hj), pow_succ']
      have : (x :: xs).getD (j + 1) 0 = xs.getD j 0 := by simp [List.getD]
      rw [this, Int.mul_add, Int.mul_assoc]
      omega
theorem D_top (n : Nat) (h : 0 < n) : (10000 : Int) ^ ((D n).length - 1) ≤ n := by
  have h1 : 0 < (D n).length := by
    rw [List.length_pos_iff]; intro e; rw [D_nil_iff] at e; omega
  have := (D_len_gt n ((D n).length - 1)).1 (by omega)
  have e := npow_cast ((D n).length - 1)
  omega
theorem D_bound (n : Nat) : (n : Int) < 10000 ^ (D n).length := by
  have := (D_len_le n (D n).length).1 (Nat.le_refl _)
  have e := npow_cast (D n).length
  omega
theorem vd_gone {a v P : Int} (ha : 0 ≤ a) (hv : 0 ≤ v) (hP : 0 < P) (h : a + P * v < P) : v = 0 := by
  rcases (show v = 0 ∨ 1 ≤ v by omega) with h0 | h0
  · exact h0
  · have := Int.mul_le_mul_of_nonneg_left h0 (show (0 : Int) ≤ P by omega)
    omega
theorem div_parts (rs : List Int) (p nw : Nat) : rs = rs.take p ++ (rs.drop p).take nw ++ rs.drop (p + nw) := by
  rw [List.append_assoc]
  have : (rs.drop p).take nw ++ rs.drop (p + nw) = rs.drop p := by
    rw [← List.drop_drop, List.take_append_drop]
  rw [this, List.take_append_drop]
/-- what stands behind the window is 0, and the window is less than the base times what is divided by -/
theorem div_window {rs : List Int} (hl : Limbs rs) (n p nw : Nat) (_hp : p < rs.length) (hv : vd rs (p + 1) < n) (hnw : nw = (D n).length + 1 ∨ p + nw = rs.length) :
    vd rs (p + nw) = 0 ∧ val ((rs.drop p).take nw) = vd rs p ∧ vd rs p < 10000 * n := by
  have h0 : vd rs (p + nw) = 0 := by
    rcases hnw with h | h
    · have h1 := vd_split rs (p + 1) (D n).length
      have h2 := D_bound n
      have h3 := val_nonneg (limbs_take (limbs_drop hl (p + 1)) (D n).length)
      have h4 := vd_nonneg hl (p + 1 + (D n).length)
      have := vd_gone h3 h4 (pow_pos' _) (show _ < (10000 : Int) ^ (D n).length by omega)
      rw [h, show p + ((D n).length + 1) = p + 1 + (D n).length from by omega]
      exact this
    · exact vd_end rs _ (by omega)
  have h1 := vd_split rs p nw
  rw [h0, Int.mul_zero, Int.add_zero] at h1
  refine ⟨h0, h1.symm, ?_⟩
  have h2 := vd_step rs p
  have h3 := limbs_getD hl p
  omega
theorem div_next {rs ws qs : List Int} {p nw n : Nat} {t M : Int} (hp : p + nw ≤ rs.length) (hw : ws.length = nw) (h0 : vd rs (p + nw) = 0) (hv : val ws + n * t = val ((rs.drop p).take nw)) (hq : qs.getD p 0 = 0) (hpq : p < qs.length)
    (hM : val rs + n * val qs = M) : val (rs.take p ++ ws ++ rs.drop (p + nw)) + n * val (qs.set p t) = M ∧ vd (rs.take p ++ ws ++ rs.drop (p + nw)) p = val ws := by
  have hl1 : (rs.take p).length = p := by rw [List.length_take]; omega
  have e1 : val rs = val (rs.take p) + 10000 ^ p * val ((rs.drop p).take nw) := by
    have h1 := val_split (xs := rs) p
    rw [vd_split rs p nw, h0, Int.mul_zero, Int.add_zero] at h1
    exact h1
  have e2 : val (rs.take p ++ ws ++ rs.drop (p + nw)) = val (rs.take p) + 10000 ^ p * val ws := by
    rw [List.append_assoc, val_append, val_append, hl1, show val (rs.drop (p + nw)) = vd rs (p + nw) from rfl, h0, Int.mul_zero, Int.add_zero]
  constructor
  · rw [e2, val_set qs p t hpq, hq, Int.sub_zero, Int.mul_add, Int.mul_left_comm (n : Int), ← hM, e1, ← hv, Int.mul_add]
    omega
  · unfold vd
    rw [List.append_assoc, List.drop_append_of_le_length (by omega), List.drop_of_length_le (by omega), List.nil_append, val_append, show val (rs.drop (p + nw)) = vd rs (p + nw) from rfl, h0, Int.mul_zero, Int.add_zero]
theorem div_done {r q M : Int} {n : Nat} (h0 : 0 ≤ r) (h1 : r < n) (hM : r + n * q = M) : q = M / n ∧ r = M % n := by
  have hn : (0 : Int) < n := by omega
  constructor
  · rw [← hM, Int.add_mul_ediv_left _ _ (by omega), Int.ediv_eq_zero_of_lt h0 h1, Int.zero_add]
  · rw [← hM, Int.add_mul_emod_self_left, Int.emod_eq_of_lt h0 h1]
end Nt
