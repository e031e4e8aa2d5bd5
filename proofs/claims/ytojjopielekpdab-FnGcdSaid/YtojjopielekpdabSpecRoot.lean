/-
  Roots of the model: l01Root, RootNat.
-/
import Derived.Test.YtojjopielekpdabRoot
namespace Nt
theorem D_small (x : Nat) (h : 0 < x) (h2 : x < 10000) : D x = [(x : Int)] := by
  rw [D_pos x h, show x / 10000 = 0 from by omega, D_zero, show x % 10000 = x from by omega]
theorem codeL_nil (xs : List Int) : codeL [xs, []] = codeL [xs] := by
  unfold codeL
  have e1 : okL [] = true := rfl
  simp [e1]
theorem rt_lt_top {m : Nat} (h : m < Top) : rt m < Top := by
  have := rt_le m
  rcases Nat.eq_zero_or_pos (rt m) with h0 | h0
  · rw [h0]; exact npow_pos 40
  · have := Nat.le_mul_of_pos_left (rt m) h0
    omega
end Nt
namespace Go.Proofs.Ytojjopielekpdab
open Go Go.RowKit Nt

theorem rd_lit {w : World} (e : TypeId) (x : Nat) (h : 0 < x) (h2 : x < 10000) : Rd (w.alloc (.cells #[.int .i64 (x : Int)] e)) (fun b => b = w.heap.size) (some ⟨w.heap.size, 0, none⟩) 1 1 (D x) := by
  rw [D_small x h h2]
  exact rd_one w e x

theorem root_len (xs : List Int) : (resL (codeL [xs]) (D (rt (natOf xs)))).length ≤ 40 := by
  by_cases h : codeL [xs] = 0
  · obtain ⟨m, hm, rfl⟩ := codeL1_ok h
    rw [h, natOf_D]
    exact (D_len_le _ 40).2 (rt_lt_top hm)
  · rw [(res_bad h _ 0).1]; simp
end Go.Proofs.Ytojjopielekpdab
