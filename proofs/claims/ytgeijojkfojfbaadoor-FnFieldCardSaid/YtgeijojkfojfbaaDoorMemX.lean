/-
  A block whose first cells are known: what follows them may be anything.
-/
import Derived.Test.YtgeijojkfojfbaaDoorMem
namespace Nt
open Go Go.RowKit
/-- block g begins with the numbers xs, k more cells follow, none is frozen -/
def Arx (w : World) (g : Nat) (t : TypeId) (k : Nat) (xs : List Int) : Prop :=
  ∃ rest : List Value, rest.length = k ∧ w.heap[g]? = some (.cells (xs.map (Value.int .i64) ++ rest).toArray t (0, 0))
variable {w w' : World} {g k : Nat} {t : TypeId} {xs : List Int}
theorem Arr.arx (h : Arr w g t xs) : Arx w g t 0 xs := ⟨[], rfl, by rw [List.append_nil]; exact h⟩
theorem Arx.lt (h : Arx w g t k xs) : g < w.heap.size := by
  obtain ⟨r, _, h⟩ := h
  rcases Nat.lt_or_ge g w.heap.size with hlt | hge
  · exact hlt
  · rw [Array.getElem?_eq_none hge] at h; cases h
theorem Arx.cell (h : Arx w g t k xs) (i : Nat) (hi : i < xs.length) : w.cell? ⟨g, i, none⟩ = some (.int .i64 (xs.getD i 0)) := by
  obtain ⟨r, _, h⟩ := h
  rw [cell_of_row w g i _ t (0, 0) h]
  simp [List.getElem?_append, hi, List.getD]
theorem Arx.frozen (h : Arx w g t k xs) (i : Nat) : w.frozen? ⟨g, i, none⟩ = false := by
  obtain ⟨r, _, h⟩ := h
  exact frozen_of_row w g i _ t h
theorem Arx.keep (h : Arx w g t k xs) (hk : w'.heap[g]? = w.heap[g]?) : Arx w' g t k xs := by
  obtain ⟨r, h0, h⟩ := h
  exact ⟨r, h0, hk.trans h⟩
theorem Arx.set_ (h : Arx w g t k xs) (i : Nat) (v : Int) : Arx (w.setCell ⟨g, i, none⟩ (.int .i64 v)) g t k (xs.set i v) := by
  obtain ⟨r, h0, h⟩ := h
  rcases Nat.lt_or_ge i xs.length with hi | hi
  · refine ⟨r, h0, ?_⟩
    rw [heap_setCell_same w g i _ t _ h]
    simp [List.map_set, hi]
  · refine ⟨r.set (i - xs.length) (.int .i64 v), by rw [List.length_set]; exact h0, ?_⟩
    rw [heap_setCell_same w g i _ t _ h]
    simp [List.set_append, List.set_eq_of_length_le hi, Nat.not_lt.2 hi]
theorem Arx.rd (h : Arx w g t k xs) (P : Nat → Prop) (hP : P g) (o n c : Nat) (hn : o + n ≤ xs.length) (hc : n ≤ c) :
    Rd w P (some ⟨g, o, none⟩) n c ((xs.drop o).take n) :=
  ⟨by simp; omega, hc, (fun h => by cases h), fun _ => ⟨g, o, rfl, hP, h.lt, fun i hi => by
    rw [h.cell (o + i) (by omega)]
    simp [List.getD, hi]⟩⟩
theorem Drawn.arx (h : Drawn w w') (hr : Arx w g t k xs) : Arx w' g t k xs := by obtain ⟨q, rfl⟩ := h; exact hr
/-- fewer of them -/
theorem Arx.less {ys : List Int} (h : Arx w g t k (xs ++ ys)) : Arx w g t (k + ys.length) xs := by
  obtain ⟨r, h0, h⟩ := h
  refine ⟨ys.map (Value.int .i64) ++ r, by simp [h0]; omega, ?_⟩
  rw [h]
  simp
theorem Arx.cutx (h : Arx w g t k xs) (n : Nat) (_hn : n ≤ xs.length) : Arx w g t (k + (xs.length - n)) (xs.take n) := by
  have e := List.take_append_drop n xs
  have h' : Arx w g t k (xs.take n ++ xs.drop n) := by rw [e]; exact h
  have := h'.less
  rwa [List.length_drop] at this
/-- a row of the call's own is such a block -/
theorem own_arx {base n c : Nat} {A : Option Addr} (h : w.ownsRow base t 1 (.slice A n c) n (xs.map (Value.int .i64))) (hn : 0 < n) : ∃ g, A = some ⟨g, 0, none⟩ ∧ base ≤ g ∧ n ≤ c ∧ c ≤ maxLen ∧ Arx w g t (c - n) xs := by
  have hl : xs.length = n := by have := h.1; simpa using this
  rcases h.2 with ⟨_, h0⟩ | ⟨g, cap, cur, e', hb, hh, hnc, hm, hcs, ht⟩
  · omega
  · injection e' with e1 e2 e3
    subst e3
    refine ⟨g, e1, hb, hnc, hm, cur.toList.drop n, by simp; omega, ?_⟩
    rw [hh]
    rw [Nat.mul_one] at ht
    rw [← ht, List.take_append_drop]
theorem Arx.own (h : Arx w g t k xs) (base : Nat) (hb : base ≤ g) (n c : Nat) (hn : n ≤ xs.length) (hc : c = xs.length + k) (hm : c ≤ maxLen) : w.ownsRow base t 1 (.slice (some ⟨g, 0, none⟩) n c) n ((xs.take n).map (Value.int .i64)) := by
  obtain ⟨r, h0, h⟩ := h
  refine ⟨by simp; omega, .inr ⟨g, c, _, rfl, hb, h, by omega, hm, by simp; omega, ?_⟩⟩
  rw [Nat.mul_one]
  simp only [List.take_append, List.length_map, List.map_take]
  rw [show n - xs.length = 0 from by omega]
  simp
end Nt
