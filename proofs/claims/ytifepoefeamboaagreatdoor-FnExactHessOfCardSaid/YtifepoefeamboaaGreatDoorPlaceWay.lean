/-
  What stands against a place and a way; the variables along ways, as the model has them.
-/
import Derived.Test.YtifepoefeamboaaGreatDoorPlaceMath
import Derived.Test.YtifepoefeamboaaGreatDoorGrpH
namespace Nt
open Go Go.RowKit
/-- what stands against a place and one way from it -/
def ptCode1 (right : Bool) (ns : List Nd) (m mv : Nat) (rs sv : List R3) : Int := if 4096 < m ∨ 4096 < mv then 2 else if right && okV rs then (if (m : Int) < dimE ns then 8 else askV m mv rs sv) else 1
theorem ptCode1_zero {right : Bool} {ns : List Nd} {m mv : Nat} {rs sv : List R3} (h : ptCode1 right ns m mv rs sv = 0) : m ≤ 4096 ∧ mv = m ∧ right = true ∧ okV rs = true ∧ okV sv = true ∧ ¬ (m : Int) < dimE ns := by
  unfold ptCode1 at h
  split at h
  · cases h
  · split at h
    · rename_i h1 h2
      rw [Bool.and_eq_true] at h2
      split at h
      · cases h
      · rename_i h3
        unfold askV at h
        rw [if_neg h1] at h
        split at h
        · rename_i h4
          rw [Bool.and_eq_true] at h4
          split at h
          · cases h
          · exact ⟨by omega, by omega, h2.1, h2.2, h4.2, h3⟩
        · cases h
    · cases h
/-- two numbers in memory of their own, and a code -/
def RetRRC (t : TypeId) (w : World) (n : Bool) (xs ys : List Int) (n' : Bool) (xs' ys' : List Int) (code : Int) (e : Ending) (w' : World) : Prop :=
  ∃ A ca B cb A' ca' B' cb' M, e = .returned (.tuple #[.agg #[.bool n, .slice A xs.length ca, .slice B ys.length cb], .agg #[.bool n', .slice A' xs'.length ca', .slice B' ys'.length cb'], .int .i64 code]) ∧ OwnR t w' w.heap.size xs ys A ca B cb ∧ OwnR t w' M xs' ys' A' ca' B' cb' ∧ (w.heap.size ≤ M ∧ M ≤ w'.heap.size ∧ ∀ g, A = some ⟨g, 0, none⟩ ∨ B = some ⟨g, 0, none⟩ → g < M) ∧ Below w.heap.size w w'
/-- the last step's number and its slope in memory of their own, or a code -/
def RetVal2 (t : TypeId) (w : World) (r s : Rat) (code : Int) (e : Ending) (w' : World) : Prop :=
  (code = 0 ∧ RetRRC t w (isNeg r) (D (nu r)) (D r.den) (isNeg s) (D (nu s)) (D s.den) 0 e w') ∨ (code ≠ 0 ∧ RetRRC t w false [] [] false [] [] code e w')
theorem WaysAt.one {w : World} {g m : Nat} {A : Nat → Option Addr} {c : Nat → Nat} {vs : Nat → List Rat} (hg : g < w.heap.size) (hc : w.cell? ⟨g, 0, none⟩ = some (.slice (A 0) m (c 0))) (hr : RdS w (fun _ => True) (A 0) m (c 0) ((vs 0).map rat3)) : WaysAt w (some ⟨g, 0, none⟩) 1 m A c vs := by
  refine ⟨fun _ => ⟨g, rfl, hg, fun i hi => ?_⟩, fun i hi => ?_⟩
  · obtain rfl : i = 0 := by omega
    exact hc
  · obtain rfl : i = 0 := by omega
    exact hr
/-- the variables along one way, or two -/
theorem varsJ_mem {xs : List Rat} {vs : Nat → List Rat} {N m : Nat} {j : Jt} (h : j ∈ varsJ xs vs N m) : ∃ i, i < m ∧ j = varJ xs vs i N := by
  unfold varsJ at h
  obtain ⟨i, hi, rfl⟩ := List.mem_map.1 h
  exact ⟨i, List.mem_range.1 hi, rfl⟩
theorem fine_lim {qs : List Rat} (h : Fine qs) (i : Nat) : lim (qs.getD i 0) 40 := by
  by_cases hi : i < qs.length
  · have := h.at_ i hi
    exact ⟨(D_len_le _ 40).2 this.1, (D_len_le _ 40).2 this.2⟩
  · have e : qs.getD i 0 = 0 := by simp [List.getD, hi]
    rw [e]; exact lim_mono lim_zero (by decide)
theorem varJ_dep (xs : List Rat) (vs : Nat → List Rat) (i : Nat) : ∀ N, (varJ xs vs i N).dep ≤ N
  | 0 => by simp [varJ, Jt.dep]
  | N + 1 => by
    have := varJ_dep xs vs i N
    simp only [varJ, Jt.dep]
    omega
theorem varsJ_dep (xs : List Rat) (vs : Nat → List Rat) (N m : Nat) : ∀ j ∈ varsJ xs vs N m, j.dep ≤ N := fun j hj => by
  obtain ⟨i, -, rfl⟩ := varsJ_mem hj
  exact varJ_dep xs vs i N
theorem varsJ_L2 {xs : List Rat} {vs : Nat → List Rat} {N : Nat} (hN : N ≤ 2) (hx : Fine xs) (hv : ∀ t, t < N → Fine (vs t)) (m : Nat) : ∀ j ∈ varsJ xs vs N m, L2 j 40 40 40 40 := fun j hj => by
  obtain ⟨i, -, rfl⟩ := varsJ_mem hj
  have z : lim (0 : Rat) 40 := lim_mono lim_zero (by decide)
  refine ⟨Nat.le_trans (varJ_dep xs vs i N) hN, ?_⟩
  match N, hN, hv with
  | 0, _, _ => exact ⟨by simpa [varJ, numJ] using fine_lim hx i, by simpa [varJ, numJ, Jt.at_] using z, by simpa [varJ, numJ] using z, by simpa [varJ, numJ] using z⟩
  | 1, _, hv => exact ⟨by simpa [varJ, numJ] using fine_lim hx i, by simpa [varJ, numJ, Jt.at_] using z, by simpa [varJ, numJ] using fine_lim (hv 0 (by omega)) i, by simpa [varJ, numJ] using z⟩
  | 2, _, hv => exact ⟨by simpa [varJ, numJ] using fine_lim hx i, by simpa [varJ, numJ, Jt.at_] using fine_lim (hv 0 (by omega)) i, by simpa [varJ, numJ] using fine_lim (hv 1 (by omega)) i, by simpa [varJ, numJ] using z⟩
theorem getD_varsJ (xs : List Rat) (vs : Nat → List Rat) (N m i : Nat) (h : i < m) : (varsJ xs vs N m).getD i j0 = varJ xs vs i N := by
  simp [varsJ, List.getD, h]
theorem getD_past (xs : List Rat) (i : Nat) (h : xs.length ≤ i) : xs.getD i 0 = 0 := by
  simp [List.getD, List.getElem?_eq_none h]
/-- the model's jets along one way, by the program's -/
theorem eval_one (qs us : List Rat) (ns : List Nd) (h : us.length = qs.length) : eval4 qs (noughts qs.length) us ns = ((evalJ (varsJ qs (fun _ => us) 1 qs.length) ns).1.map r4, (evalJ (varsJ qs (fun _ => us) 1 qs.length) ns).2) := by
  have h0 : ∀ i, (noughts qs.length).getD i 0 = 0 := fun i => by
    by_cases h : i < qs.length
    · simp [List.getD, h]
    · simp [List.getD, h]
  have := eval_r4 (X := qs) (V := noughts qs.length) (W := us) (vars := varsJ qs (fun _ => us) 1 qs.length) (fun j hj => Nat.le_trans (varsJ_dep _ _ _ _ j hj) (by decide)) (fun i => by
    unfold varQ
    rw [h0]
    by_cases hi : i < qs.length
    · rw [getD_varsJ _ _ _ _ _ hi]
      simp [varJ, r4, numJ, Jt.at_]
    · have e : (varsJ qs (fun _ => us) 1 qs.length).getD i j0 = .fx 0 := by
        simp [List.getD, varsJ, hi, j0]
      rw [e, r4_fx, getD_past qs i (by omega), getD_past us i (by omega)]
      rfl) ns ns.length (Nat.le_refl _)
  rwa [List.take_length] at this
/-- the model's jets along two ways, by the program's -/
theorem eval_two (qs us vs : List Rat) (ns : List Nd) (h : us.length = qs.length) (h' : vs.length = qs.length) : eval4 qs us vs ns = ((evalJ (varsJ qs (fun t => if t = 0 then us else vs) 2 qs.length) ns).1.map r4, (evalJ (varsJ qs (fun t => if t = 0 then us else vs) 2 qs.length) ns).2) := by
  have := eval_r4 (X := qs) (V := us) (W := vs) (vars := varsJ qs (fun t => if t = 0 then us else vs) 2 qs.length) (fun j hj => varsJ_dep _ _ _ _ j hj) (fun i => by
    unfold varQ
    by_cases hi : i < qs.length
    · rw [getD_varsJ _ _ _ _ _ hi]
      simp [varJ, r4, numJ, Jt.at_]
    · have e : (varsJ qs (fun t => if t = 0 then us else vs) 2 qs.length).getD i j0 = .fx 0 := by
        simp [List.getD, varsJ, hi, j0]
      rw [e, r4_fx, getD_past qs i (by omega), getD_past us i (by omega), getD_past vs i (by omega)]
      rfl) ns ns.length (Nat.le_refl _)
  rwa [List.take_length] at this
/-- the last step's jet is not too long -/
theorem last_L2 {vars : List Jt} (hd : ∀ j ∈ vars, j.dep ≤ 2) {ns : List Nd} {js : List Jt} {n : Nat} (hn : ns.length = n) (h1 : 1 ≤ n) (hR : evalJ vars ns = (js, 0)) : js.length = n ∧ L2 (js.getD (n - 1) j0) 40 40 40 40 := by
  have := evalJ_ok hd ns ns.length (Nat.le_refl _) (by rw [List.take_length, hR])
  rw [List.take_length, hR] at this
  have hl : n - 1 < js.length := by have := this.len; dsimp only at this; omega
  have e : js.getD (n - 1) j0 = js[n - 1] := by simp [List.getD, hl]
  rw [e]
  exact ⟨by have := this.len; dsimp only at this; omega, L2.of_fits (this.dep _ (List.getElem_mem hl)) (this.fit _ (List.getElem_mem hl))⟩
theorem vcode2W (n m : Nat) (rs ss : List R3) : vcode 2 (fun i => if i = 0 then n else m) (fun i => if i = 0 then rs else ss) = askV n m rs ss := by
  unfold vcode askV
  simp only [List.range_succ, List.range_zero, List.nil_append, List.cons_append, List.any_cons, List.any_nil, Bool.or_false, if_true, Nat.succ_ne_zero, if_false]
  by_cases h : 4096 < n ∨ 4096 < m
  · rw [if_pos h, if_pos]
    simp only [Bool.or_eq_true, decide_eq_true_eq]
    exact h
  · rw [if_neg h, if_neg (by simp only [Bool.or_eq_true, decide_eq_true_eq]; exact h)]
    cases h1 : okV rs <;> cases h2 : okV ss <;> simp
    by_cases e : n = m
    · simp [e]
    · simp [e, Ne.symm e]
theorem two_cellsW (w : World) (t : TypeId) (x y : Value) : ∀ i, i < 2 → (w.alloc (.cells #[x, y] t)).cell? ⟨w.heap.size, i, none⟩ = some (if i = 0 then x else y) := by
  intro i hi
  rw [cell_of_row _ _ _ _ t (0, 0) (heap_alloc_new w _)]
  match i, hi with
  | 0, _ => rfl
  | 1, _ => rfl
end Nt
