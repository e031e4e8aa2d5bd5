/-
  How the steps of a list of nodes are gone over, one by one.
-/
import Derived.Test.YtifepoefeamboaaGreatDoorNewMap
import Derived.Test.YtifepoefeamboaaGreatDoorRangeOwn
import Derived.Test.YtifepoefeamboaaGreatDoorBehind
import Derived.Carry
import Derived.Sort.MapsRangeIn
namespace Nt
open Go Go.RowKit
/-- what an iterator over steps writes into -/
def stepObj (tI : TypeId) : Obj → Bool
  | .map _ _ => true
  | .cells _ t _ => t == tI
  | _ => false
/-- what a round leaves it -/
def KpS (tI : TypeId) (n₀ n₁ : Nat) (W W' : World) : Prop := W.heap.size ≤ W'.heap.size ∧ (∀ b, b < n₀ → W'.heap[b]? = W.heap[b]?) ∧ ∀ b o, n₁ ≤ b → W.heap[b]? = some o → stepObj tI o = true → W'.heap[b]? = some o
theorem KpS.trans {tI n₀ n₁ : Nat} {U V W : World} (h : KpS tI n₀ n₁ U V) (k : KpS tI n₀ n₁ V W) : KpS tI n₀ n₁ U W := ⟨Nat.le_trans h.1 k.1, fun b hb => (k.2.1 b hb).trans (h.2.1 b hb), fun b o hb ho hk => k.2.2 b o hb (h.2.2 b o hb ho hk) hk⟩
theorem KpS.put {tI n₀ n₁ l : Nat} {W : World} {r r' : Loop} (hl : n₀ ≤ l) (h : W.heap[l]? = some (.loop r)) : KpS tI n₀ n₁ W (W.putObj l (.loop r')) :=
  ⟨(put_grown W l _).size, fun b hb => by
    rcases Nat.lt_or_ge b W.heap.size with q | q
    · exact (put_grown W l _).block b q (fun e => by injection e with e; omega)
    · have hs : l < W.heap.size := (Array.getElem?_eq_some_iff.1 h).1
      omega, fun b o hb ho hk => by
    have q : b < W.heap.size := (Array.getElem?_eq_some_iff.1 ho).1
    refine ((put_grown W l _).block b q (fun e => ?_)).trans ho
    injection e with e
    subst e
    rw [h] at ho
    injection ho with ho
    subst ho
    cases hk⟩
theorem KpS.row {tI n₀ n₁ B n : Nat} {W W' : World} {v : Value} {xs : List Value} (h : KpS tI n₀ n₁ W W') (hr : W.ownsRow B tI 1 v n xs) (hB : n₁ ≤ B) : W'.ownsRow B tI 1 v n xs := by
  obtain ⟨hl, hr⟩ := hr
  rcases hr with hr | ⟨g, cap, cur, e, hb, hh, hn, hc, hs, ht⟩
  · exact ⟨hl, .inl hr⟩
  · exact ⟨hl, .inr ⟨g, cap, cur, e, hb, h.2.2 g _ (by omega) hh (by simp [stepObj]), hn, hc, hs, ht⟩⟩
theorem KpS.map {H : Type} {tI n₀ n₁ b n : Nat} {W W' : World} {P : Program} {k : TypeId} {R : Value → Option (DataW H × List MemPlace)} {D : DataW H} (h : KpS tI n₀ n₁ W W') (hm : W.ownsMap P k R b n D) (hb : n₁ ≤ b) : W'.ownsMap P k R b n D := by
  obtain ⟨es, ck, hh, r⟩ := hm
  exact ⟨es, ck, h.2.2 b _ hb hh rfl, r⟩
theorem grown_none {w w' : World} (h : Below w.heap.size w w') : w.grownBy w' none := ⟨h.os, h.tape, h.output, h.size, fun k hk _ => h.block k hk⟩
/-- the steps, each with its place -/
def stepsE (ss : List Nd) : List (Nat × Nd) := (List.range ss.length).map fun i => (i, ss.getD i nd0)
theorem stepsE_nil : stepsE [] = [] := rfl
theorem stepsE_snoc (ss : List Nd) (x : Nd) : stepsE (ss ++ [x]) = stepsE ss ++ [(ss.length, x)] := by
  unfold stepsE
  rw [List.length_append, List.length_singleton, List.range_succ, List.map_append, List.map_cons, List.map_nil]
  congr 1
  · refine List.map_congr_left fun i hi => ?_
    have : i < ss.length := List.mem_range.1 hi
    simp [List.getD, List.getElem?_append_left this]
  · simp [List.getD]
theorem stepsE_length (ss : List Nd) : (stepsE ss).length = ss.length := by simp [stepsE]
theorem ownI_rd {w : World} {B t n c : Nat} {V : Option Addr} {az : List Int} (h : w.ownsRow B t 1 (.slice V n c) n (az.map (Value.int .i64))) : Rd w (· < w.heap.size) V n c az := by
  obtain ⟨hl, hr⟩ := h
  have hl : az.length = n := by simpa using hl
  rcases hr with ⟨e, rfl⟩ | ⟨g, cap, cur, e, hb, hh, hn, hc, hs, ht⟩
  · injection e with e1 e2 e3
    subst e1 e3
    exact ⟨hl, Nat.le_refl _, fun _ => rfl, fun h0 => absurd h0 (by omega)⟩
  · injection e with e1 e2 e3
    subst e1 e3
    have hlt : g < w.heap.size := (Array.getElem?_eq_some_iff.1 hh).1
    refine ⟨hl, hn, (fun e => by cases e), fun _ => ⟨g, 0, rfl, hlt, hlt, fun i hi => ?_⟩⟩
    rw [Nat.zero_add, cell_of_row w g i cur t (0, 0) hh]
    have h1 : (cur.toList.take (n * 1))[i]? = (az.map (Value.int .i64))[i]? := by rw [ht]
    have hz : az[i]? = some az[i] := List.getElem?_eq_getElem (by omega)
    rw [List.getElem?_take_of_lt (by omega), List.getElem?_map, hz] at h1
    simpa [List.getD, hz] using h1
theorem one_new (w : World) (e : TypeId) (x : Value) : ∀ (j : Nat) (u : Value), [x][j]? = some u → (w.alloc (.cells #[x] e)).cell? ((⟨w.heap.size, 0, none⟩ : Addr).add j) = some u := by
  intro j u hj
  rw [addN_none, Nat.zero_add, cell_of_row _ w.heap.size j _ e (0, 0) (heap_alloc_new w _)]
  simpa using hj
theorem one_new_at (w : World) (e : TypeId) (x : Value) (g : Nat) (hg : w.heap.size = g) : ∀ (j : Nat) (u : Value), [x][j]? = some u → (w.alloc (.cells #[x] e)).cell? ((⟨g, 0, none⟩ : Addr).add j) = some u := by subst hg; exact one_new w e x
theorem step_kids {op a b n : Int} {k : Nat} (h : stepN (op, a, b, n) k = true) : ((two op || one op) = true → 0 ≤ a ∧ a < k) ∧ (two op = true → 0 ≤ b ∧ b < k) := by
  unfold stepN behind at h
  simp only [Bool.and_eq_true, Bool.or_eq_true, Bool.not_eq_true', decide_eq_true_eq] at h
  refine ⟨fun q => ?_, fun q => ?_⟩
  · rcases h.2.1 with h' | h'
    · rw [q] at h'; cases h'
    · exact h'
  · rcases h.2.2 with h' | h'
    · rw [q] at h'; cases h'
    · exact h'
theorem most_le (op : Int) : mostN op ≤ 999999999 := by
  unfold mostN
  split
  · omega
  · split
    · omega
    · split <;> omega
theorem wired_wf {op a b n : Int} {k : Nat} {az : List Int} (h : stepN (op, a, b, n) k = true) (ha : ∀ j, j < k → 0 ≤ az.getD j 0 ∧ az.getD j 0 ≤ 60) : WfN (wired az (op, a, b, n)) := by
  obtain ⟨k1, k2⟩ := step_kids h
  have hm := most_le op
  unfold stepN fitN at h
  simp only [Bool.and_eq_true, Bool.or_eq_true, decide_eq_true_eq] at h
  obtain ⟨⟨⟨⟨⟨⟨f1, f2⟩, f3⟩, f4⟩, f5⟩, f6⟩, _⟩ := h
  unfold wired
  refine ⟨wf_small (by dsimp only; omega), ?_, ?_, wf_small (by dsimp only; omega)⟩
  · dsimp only
    by_cases q : (two op || one op) = true
    · rw [if_pos q]
      have := ha a.toNat (by have := k1 q; omega)
      exact wf_small (by omega)
    · rw [if_neg q]
      have : a = 0 := by
        rcases f5 with f5 | f5
        · exact absurd (by simpa [Bool.or_eq_true] using f5) q
        · exact f5
      exact wf_small (by omega)
  · dsimp only
    by_cases q : two op = true
    · rw [if_pos q]
      have := ha b.toNat (by have := k2 q; omega)
      exact wf_small (by omega)
    · rw [if_neg q]
      have : b = 0 := by
        rcases f6 with f6 | f6
        · exact absurd f6 q
        · exact f6
      exact wf_small (by omega)
theorem app_end {tI n₀ k cv : Nat} {W w4 w5 : World} {V : Option Addr} {xs : List Value} {J : List (Nat × Nd) → World → Prop} {T : List (Nat × Nd)} {o : Obj} (hJ : Bides W.heap.size (stepObj tI) J) (hro : w4.ownsRow (W.heap.size + 1) tI 1 (.slice V k cv) k xs)
    (hl : (∀ b, b < n₀ → w4.heap[b]? = W.heap[b]?) ∧ W.heap.size + 1 ≤ w4.heap.size) (hn0 : n₀ ≤ W.heap.size) (h4 : J T w4) (hg : (w4.alloc o).grownBy w5 (Value.slice V k cv).ownBlock) :
    J T w5 ∧ (∀ b, b < n₀ → w5.heap[b]? = W.heap[b]?) ∧ W.heap.size + 1 ≤ w5.heap.size ∧ some W.heap.size ≠ (Value.slice V k cv).ownBlock := by
  have hlt : ∀ g, (Value.slice V k cv).ownBlock = some g → W.heap.size + 1 ≤ g ∧ ∃ o' : Obj, (w4.alloc o).heap[g]? = some o' ∧ stepObj tI o' = true := fun g e => by
    rcases hro.2 with ⟨e1, _⟩ | ⟨g1, cap, cur, e1, hb, hh, _⟩
    · rw [e1] at e; cases e
    · rw [e1] at e
      have e : g1 = g := by simpa [Value.ownBlock] using e
      subst e
      have hl1 : g1 < w4.heap.size := (Array.getElem?_eq_some_iff.1 hh).1
      exact ⟨hb, _, ((World.grownBy_alloc w4 o none).block g1 hl1 (by simp)).trans hh, by simp [stepObj]⟩
  have hs := hg.size
  rw [World.size_alloc] at hs
  refine ⟨hJ _ _ _ _ (hJ _ _ _ none h4 (World.grownBy_alloc _ _ _) (fun r e => by cases e)) hg (fun r e => ?_), fun b hb => ?_, by omega, fun e => ?_⟩
  · obtain ⟨q1, q2⟩ := hlt r e
    exact ⟨by omega, q2⟩
  · refine (hg.block b (by rw [World.size_alloc]; omega) (fun e => ?_)).trans (((World.grownBy_alloc w4 o none).block b (by omega) (by simp)).trans (hl.1 b hb))
    have := (hlt b e.symm).1
    omega
  · have := (hlt _ e.symm).1
    omega
end Nt
namespace Go.Proofs.YtifepoefeamboaaGreatDoor
open Go Go.RowKit Nt
attribute [local go_sem] Oper.semAt_some
theorem infoInt4 : (Tryz.prog.info? 3).map (fun i => (i.zero, i.size, i.bytes)) = some (some (.int .i64 0), 1, 8) := by kernel_rfl
theorem zeroInt4 (w : World) : (zeroValue 3).run Tryz.prog w = .ok (.int .i64 0) w := by kernel_rfl
/-- what a round of it finds -/
def NS (W : World) (n₀ : Nat) (J : List (Nat × Nd) → World → Prop) (ns : List Nd) (k : Nat) (V : Option Addr) (cv : Nat) (D : DataW Unit) (wr : World) : Prop :=
  wr.ownsMap Tryz.prog 114 (plainElem Tryz.prog 3) W.heap.size k D ∧ Known D (comp (ns.take k)).1 ∧ wr.ownsRow (W.heap.size + 1) 3 1 (.slice V k cv) k ((comp (ns.take k)).2.map (Value.int .i64)) ∧ J (stepsE (comp (ns.take k)).1) wr ∧ (∀ b, b < n₀ → wr.heap[b]? = W.heap[b]?) ∧ W.heap.size + 1 ≤ wr.heap.size

end Go.Proofs.YtifepoefeamboaaGreatDoor
