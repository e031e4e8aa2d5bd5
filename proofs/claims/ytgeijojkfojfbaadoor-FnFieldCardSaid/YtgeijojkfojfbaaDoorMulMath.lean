/-
  Plain mathematics of products.
-/
import Derived.Test.YtgeijojkfojfbaaDoorMath
namespace Nt
theorem mul_step (out ys P : List Int) (k j : Nat) (x q : Int) (hl : P.length = k) :
    val (P ++ [(out.getD k 0 + x * ys.getD j 0 + q) % 10000]) + 10000 ^ (k + 1) * ((out.getD k 0 + x * ys.getD j 0 + q) / 10000 + vd out (k + 1) + x * vd ys (j + 1)) = val P + 10000 ^ k * (q + vd out k + x * vd ys j) := by
  rw [val_snoc, hl, pow_succ', Int.add_assoc, pow_step, vd_step out k, vd_step ys j, Int.mul_add x, Int.mul_left_comm x 10000]
  generalize vd out (k + 1) = u
  generalize x * vd ys (j + 1) = v
  generalize out.getD k 0 = c
  generalize x * ys.getD j 0 = y
  rw [show (c + y + q) % 10000 + 10000 * ((c + y + q) / 10000 + u + v) = q + (c + 10000 * u) + (y + 10000 * v) from by omega]
theorem mul_start (out : List Int) (i : Nat) (z : Int) (h : i ≤ out.length) : val (out.take i) + 10000 ^ i * (0 + vd out i + z) = val out + 10000 ^ i * z := by
  have := val_take_drop out i h
  rw [Int.zero_add, Int.mul_add, ← Int.add_assoc, ← (show val out = val (out.take i) + 10000 ^ i * vd out i from this)]
theorem mul_outer (xs : List Int) (i n : Nat) (h : i < xs.length) : val (xs.take i) * n + 10000 ^ i * (xs.getD i 0 * n) = val (xs.take (i + 1)) * n := by
  rw [take_snoc xs i h, val_snoc, List.length_take, Nat.min_eq_left (by omega), Int.add_mul, Int.mul_assoc]
theorem limb_prod {x y : Int} (h0 : 0 ≤ x) (h1 : x < 10000) (h2 : 0 ≤ y) (h3 : y < 10000) : 0 ≤ x * y ∧ x * y ≤ 99980001 := by
  refine ⟨Int.mul_nonneg h0 h2, ?_⟩
  have := Int.mul_le_mul (show x ≤ 9999 by omega) (show y ≤ 9999 by omega) h2 (by omega)
  omega
theorem set_at (P T : List Int) (k : Nat) (v : Int) (hl : P.length = k) (hk : k < T.length) : (P ++ T.drop k).set k v = (P ++ [v]) ++ T.drop (k + 1) := by
  rw [List.set_append_right _ _ (by omega), hl, Nat.sub_self, drop_cons T k hk, List.set_cons_zero]
  simp
theorem getD_at (P T : List Int) (k : Nat) (hl : P.length = k) (hk : k < T.length) : (P ++ T.drop k).getD k 0 = T.getD k 0 := by
  rw [drop_cons T k hk]
  subst hl
  simp [List.getD]
theorem get_left (P T : List Int) (k : Nat) (hk : k < P.length) : (P ++ T).getD k 0 = P.getD k 0 := by
  simp [List.getD, List.getElem?_append_left hk]
theorem take_all_val (xs : List Int) (k : Nat) (h : xs.length ≤ k) : val (xs.take k) = val xs := by rw [List.take_of_length_le h]
theorem vd_zeros (T : List Int) (k : Nat) (h : ∀ j, k ≤ j → T.getD j 0 = 0) : vd T k = 0 := by
  have hlen : ∀ d k, T.length - k ≤ d → (∀ j, k ≤ j → T.getD j 0 = 0) → vd T k = 0 := by
    intro d
    induction d with
    | zero => intro k hk _; exact vd_end T k (by omega)
    | succ d ih =>
      intro k hk h
      rw [vd_step, h k (Nat.le_refl _)]
      rcases Nat.lt_or_ge k T.length with hl | hl
      · rw [ih (k + 1) (by omega) (fun j hj => h j (by omega))]; rfl
      · rw [vd_end T (k + 1) (by omega)]; rfl
  exact hlen _ k (Nat.le_refl _) h
theorem mul_step' (out ys P : List Int) (k j : Nat) (x q : Int) (hl : P.length = k) :
    val (P ++ [(out.getD k 0 + q + x * ys.getD j 0) % 10000]) + 10000 ^ (k + 1) * ((out.getD k 0 + q + x * ys.getD j 0) / 10000 + vd out (k + 1) + x * vd ys (j + 1)) = val P + 10000 ^ k * (q + vd out k + x * vd ys j) := by
  have := mul_step out ys P k j x q hl
  rw [show out.getD k 0 + x * ys.getD j 0 + q = out.getD k 0 + q + x * ys.getD j 0 from by omega] at this
  exact this
theorem getD_right (P T : List Int) (k j : Nat) (hl : P.length = k) (hj : k ≤ j) : (P ++ T.drop k).getD j 0 = T.getD j 0 := by
  subst hl
  simp only [List.getD, List.getElem?_append_right hj, List.getElem?_drop]
  congr 2; omega
end Nt
