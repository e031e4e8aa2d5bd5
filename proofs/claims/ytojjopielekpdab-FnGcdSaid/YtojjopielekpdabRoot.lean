/-
  Roots of the program: halved, RootNat.
-/
import Derived.Test.YtojjopielekpdabGcd
import Derived.Test.YtojjopielekpdabRootMath
import Derived.Deep.RegionHeld3
import Derived.Deep.RegionWith
namespace Go.Proofs.Ytojjopielekpdab
open Go Go.RowKit Nt

theorem rd_head {w : World} {g N : Nat} {t : TypeId} {xs post : List Int} (h : Arr w g t (xs ++ post)) (P : Nat → Prop) (hP : P g) (hN : xs.length ≤ N) : Rd w P (some ⟨g, 0, none⟩) xs.length N xs := by
  have := h.rd P hP 0 xs.length N (by simp) hN
  rwa [List.drop_zero, List.take_append_of_le_length (Nat.le_refl _), List.take_length] at this
theorem put_arr {t : TypeId} {w w' : World} {g N : Nat} {xs : List Int} (h : Put t w g N xs w') : ∃ post, Arr w' g t (xs ++ post) ∧ (xs ++ post).length = N := by
  obtain ⟨full, h1, h2, h3, h4, _⟩ := h
  refine ⟨full.drop xs.length, ?_, ?_⟩
  · have : xs ++ full.drop xs.length = full := by
      conv => lhs; lhs; rw [← h3]
      exact List.take_append_drop _ _
    rw [this]; exact h2
  · rw [List.length_append, List.length_drop]; omega
theorem put_grown {t : TypeId} {w w' : World} {g N : Nat} {xs : List Int} (h : Put t w g N xs w') : w.grownBy w' (some g) := by
  obtain ⟨full, h1, h2, h3, h4, h5⟩ := h
  exact h5

end Go.Proofs.Ytojjopielekpdab
