/-
  A unit's list, and what is worked out axis by axis till one stops.
-/
import Derived.Test.YtifepoefeamboaaGreatDoorPlaceWay
namespace Nt
open Go Go.RowKit
/-- so many numbers, 1 at i and 0 elsewhere -/
def unitL (m i : Nat) : List Rat := (List.range m).map fun k => if k = i then 1 else 0
theorem unitL_len (m i : Nat) : (unitL m i).length = m := by simp [unitL]
theorem unitL_yes (m : Nat) : unitL (m + 1) m = unitL m m ++ [1] := by simp [unitL, List.range_succ]
theorem unitL_snoc (m i : Nat) : unitL (m + 1) i = unitL m i ++ [if m = i then 1 else 0] := by simp [unitL, List.range_succ]
theorem fine_unitL (m i : Nat) : Fine (unitL m i) := by
  intro q hq
  unfold unitL at hq
  obtain ⟨k, -, rfl⟩ := List.mem_map.1 hq
  split <;> decide
/-- what R tells of each of so many, till one of them stops it -/
def rowsTo (R : Nat → Rat × Int) : Nat → List Rat × Int
  | 0 => ([], 0)
  | k + 1 => if (rowsTo R k).2 = 0 then (if (R k).2 = 0 then ((rowsTo R k).1 ++ [(R k).1], 0) else ([], (R k).2)) else rowsTo R k
theorem rowsTo_more {R : Nat → Rat × Int} {k : Nat} {L : List Rat} (h : rowsTo R k = (L, 0)) (h0 : (R k).2 = 0) : rowsTo R (k + 1) = (L ++ [(R k).1], 0) := by
  rw [rowsTo, h, if_pos rfl, if_pos h0]
theorem rowsTo_past {R : Nat → Rat × Int} {k : Nat} (h : (rowsTo R k).2 ≠ 0) : ∀ d, rowsTo R (k + d) = rowsTo R k
  | 0 => rfl
  | d + 1 => by
    have ih := rowsTo_past h d
    rw [← Nat.add_assoc, rowsTo, ih, if_neg h]
theorem rowsTo_stop {R : Nat → Rat × Int} {k m : Nat} {L : List Rat} (h : rowsTo R k = (L, 0)) (h0 : (R k).2 ≠ 0) (hk : k < m) : rowsTo R m = ([], (R k).2) := by
  have e : rowsTo R (k + 1) = ([], (R k).2) := by rw [rowsTo, h, if_pos rfl, if_neg h0]
  obtain ⟨d, rfl⟩ : ∃ d, m = k + 1 + d := ⟨m - (k + 1), by omega⟩
  rw [rowsTo_past (by rw [e]; exact h0), e]
theorem rowsTo_congr {R R' : Nat → Rat × Int} : ∀ m, (∀ k, k < m → R k = R' k) → rowsTo R m = rowsTo R' m
  | 0, _ => rfl
  | m + 1, h => by rw [rowsTo, rowsTo, rowsTo_congr m fun k hk => h k (by omega), h m (by omega)]
theorem rowsTo_len {R : Nat → Rat × Int} : ∀ m, (rowsTo R m).2 = 0 → (rowsTo R m).1.length = m
  | 0, _ => rfl
  | m + 1, h => by
    rw [rowsTo] at h ⊢
    by_cases h1 : (rowsTo R m).2 = 0
    · rw [if_pos h1] at h ⊢
      by_cases h2 : (R m).2 = 0
      · rw [if_pos h2, List.length_append, rowsTo_len m h1]; rfl
      · rw [if_neg h2] at h; exact absurd h h2
    · rw [if_neg h1] at h; exact absurd h h1
theorem rowsTo_none {R : Nat → Rat × Int} : ∀ m, (rowsTo R m).2 ≠ 0 → (rowsTo R m).1 = []
  | 0, h => absurd rfl h
  | m + 1, h => by
    rw [rowsTo] at h ⊢
    by_cases h1 : (rowsTo R m).2 = 0
    · rw [if_pos h1] at h ⊢
      by_cases h2 : (R m).2 = 0
      · rw [if_pos h2] at h; exact absurd rfl h
      · rw [if_neg h2]
    · rw [if_neg h1]; exact rowsTo_none m h1
theorem rowsTo_fit {R : Nat → Rat × Int} (p : Rat → Prop) : ∀ m, (∀ k, k < m → (R k).2 = 0 → p (R k).1) → ∀ q ∈ (rowsTo R m).1, p q
  | 0, _, q, hq => by simp [rowsTo] at hq
  | m + 1, h, q, hq => by
    rw [rowsTo] at hq
    have ih := rowsTo_fit p m fun k hk => h k (by omega)
    by_cases h1 : (rowsTo R m).2 = 0
    · rw [if_pos h1] at hq
      by_cases h2 : (R m).2 = 0
      · rw [if_pos h2] at hq
        rcases List.mem_append.1 hq with hq | hq
        · exact ih q hq
        · rw [List.mem_singleton.1 hq]; exact h m (by omega) h2
      · rw [if_neg h2] at hq; simp at hq
    · rw [if_neg h1] at hq; exact ih q hq
/-- the slope along axis i and, where there is one, a way more: the program's -/
def rowJ (qs : List Rat) (vs : Nat → Nat → List Rat) (N : Nat) (ns : List Nd) (i : Nat) : Rat × Int :=
  (numJ ((evalJ (varsJ qs (vs i) N qs.length) ns).1.getD (ns.length - 1) j0) N, (evalJ (varsJ qs (vs i) N qs.length) ns).2)
end Nt
