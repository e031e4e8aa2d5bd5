/-
  How the steps of a list of nodes are gone over, one by one.
-/
import Derived.Test.YtcepjcnpokpdcaaGreatDoorNewMap
import Derived.Test.YtcepjcnpokpdcaaGreatDoorRangeOwn
import Derived.Test.YtcepjcnpokpdcaaGreatDoorBehind
import Derived.Carry
import Derived.Sort.MapsRangeIn
namespace Nt
open Go Go.RowKit
/-- what an iterator over steps writes into -/
def stepObj (tI : TypeId) : Obj → Bool
  | .map _ _ => true
  | .cells _ t _ => t == tI
  | _ => false
/-- what a round leaves it -/
def KpS (tI : TypeId) (n₀ n₁ : Nat) (W W' : World) : Prop := W.heap.size ≤ W'.heap.size ∧ (∀ b, b < n₀ → W'.heap[b]? = W.heap[b]?) ∧ ∀ b o, n₁ ≤ b → W.heap[b]? = some o → stepObj tI o = true → W'.heap[b]? = some o
theorem KpS.trans {tI n₀ n₁ : Nat} {U V W : World} (h : KpS tI n₀ n₁ U V) (k : KpS tI n₀ n₁ V W) : KpS tI n₀ n₁ U W := ⟨Nat.le_trans h.1 k.1, fun b hb => (k.2.1 b hb).trans (h.2.1 b hb), fun b o hb ho hk => k.2.2 b o hb (h.2.2 b o hb ho hk) hk⟩
theorem KpS.put {tI n₀ n₁ l : Nat} {W : World} {r r' : Loop} (hl : n₀ ≤ l) (h : W.heap[l]? = some (.loop r)) : KpS tI n₀ n₁ W (W.putObj l (.loop r')) :=
  ⟨(put_grown W l _).size, fun b hb => by
    rcases Nat.lt_or_ge b W.heap.size with q | q
    · exact (put_grown W l _).block b q (fun e => by injection e with e; omega)
    · have hs : l < W.heap.size := (Array.getElem?_eq_some_iff.1 h).1
      omega, fun b o hb ho hk => by
    have q : b < W.heap.size := (Array.getElem?_eq_some_iff.1 ho).1
    refine ((put_grown W l _).block b q (fun e => ?_)).trans ho
    injection e with e
    subst e
    rw [h] at ho
    injection ho with ho
    subst ho
    cases hk⟩
theorem KpS.row {tI n₀ n₁ B n : Nat} {W W' : World} {v : Value} {xs : List Value} (h : KpS tI n₀ n₁ W W') (hr : W.ownsRow B tI 1 v n xs) (hB : n₁ ≤ B) : W'.ownsRow B tI 1 v n xs := by
  obtain ⟨hl, hr⟩ := hr
  rcases hr with hr | ⟨g, cap, cur, e, hb, hh, hn, hc, hs, ht⟩
  · exact ⟨hl, .inl hr⟩
  · exact ⟨hl, .inr ⟨g, cap, cur, e, hb, h.2.2 g _ (by omega) hh (by simp [stepObj]), hn, hc, hs, ht⟩⟩
theorem KpS.map {H : Type} {tI n₀ n₁ b n : Nat} {W W' : World} {P : Program} {k : TypeId} {R : Value → Option (DataW H × List MemPlace)} {D : DataW H} (h : KpS tI n₀ n₁ W W') (hm : W.ownsMap P k R b n D) (hb : n₁ ≤ b) : W'.ownsMap P k R b n D := by
  obtain ⟨es, ck, hh, r⟩ := hm
  exact ⟨es, ck, h.2.2 b _ hb hh rfl, r⟩
theorem grown_none {w w' : World} (h : Below w.heap.size w w') : w.grownBy w' none := ⟨h.os, h.tape, h.output, h.size, fun k hk _ => h.block k hk⟩
/-- the steps, each with its place -/
def stepsE (ss : List Nd) : List (Nat × Nd) := (List.range ss.length).map fun i => (i, ss.getD i nd0)
theorem stepsE_nil : stepsE [] = [] := rfl
theorem stepsE_snoc (ss : List Nd) (x : Nd) : stepsE (ss ++ [x]) = stepsE ss ++ [(ss.length, x)] := by
  unfold stepsE
  rw [List.length_append, List.length_singleton, List.range_succ, List.map_append, List.map_cons, List.map_nil]
  congr 1
  · refine List.map_congr_left fun i hi => ?_
    have : i < ss.length := List.mem_range.1 hi
    simp [List.getD, List.getElem?_append_left this]
  · simp [List.getD]
theorem stepsE_length (ss : List Nd) : (stepsE ss).length = ss.length := by simp [stepsE]
theorem ownI_rd {w : World} {B t n c : Nat} {V : Option Addr} {az : List Int} (h : w.ownsRow B t 1 (.slice V n c) n (az.map (Value.int .i64))) : Rd w (· < w.heap.size) V n c az := by
  obtain ⟨hl, hr⟩ := h
  have hl : az.length = n := by simpa using hl
  rcases hr with ⟨e, rfl⟩ | ⟨g, cap, cur, e, hb, hh, hn, hc, hs, ht⟩
  · injection e with e1 e2 e3
    subst e1 e3
    exact ⟨hl, Nat.le_refl _, fun _ => rfl, fun h0 => absurd h0 (by omega)⟩
  · injection e with e1 e2 e3
    subst e1 e3
    have hlt : g < w.heap.size := (Array.getElem?_eq_some_iff.1 hh).1
    refine ⟨hl, hn, (fun e => by cases e), fun _ => ⟨g, 0, rfl, hlt, hlt, fun i hi => ?_⟩⟩
    rw [Nat.zero_add, cell_of_row w g i cur t (0, 0) hh]
    have h1 : (cur.toList.take (n * 1))[i]? = (az.map (Value.int .i64))[i]? := by rw [ht]
    have hz : az[i]? = some az[i] := List.getElem?_eq_getElem (by omega)
    rw [List.getElem?_take_of_lt (by omega), List.getElem?_map, hz] at h1
    simpa [List.getD, hz] using h1
theorem one_new (w : World) (e : TypeId) (x : Value) : ∀ (j : Nat) (u : Value), [x][j]? = some u → (w.alloc (.cells #[x] e)).cell? ((⟨w.heap.size, 0, none⟩ : Addr).add j) = some u := by
  intro j u hj
  rw [addN_none, Nat.zero_add, cell_of_row _ w.heap.size j _ e (0, 0) (heap_alloc_new w _)]
  simpa using hj
theorem one_new_at (w : World) (e : TypeId) (x : Value) (g : Nat) (hg : w.heap.size = g) : ∀ (j : Nat) (u : Value), [x][j]? = some u → (w.alloc (.cells #[x] e)).cell? ((⟨g, 0, none⟩ : Addr).add j) = some u := by subst hg; exact one_new w e x
theorem step_kids {op a b n : Int} {k : Nat} (h : stepN (op, a, b, n) k = true) : ((two op || one op) = true → 0 ≤ a ∧ a < k) ∧ (two op = true → 0 ≤ b ∧ b < k) := by
  unfold stepN behind at h
  simp only [Bool.and_eq_true, Bool.or_eq_true, Bool.not_eq_true', decide_eq_true_eq] at h
  refine ⟨fun q => ?_, fun q => ?_⟩
  · rcases h.2.1 with h' | h'
    · rw [q] at h'; cases h'
    · exact h'
  · rcases h.2.2 with h' | h'
    · rw [q] at h'; cases h'
    · exact h'
theorem most_le (op : Int) : mostN op ≤ 999999999 := by
  unfold mostN
  split
  · omega
  · split
    · omega
    · split <;> omega
theorem wired_wf {op a b n : Int} {k : Nat} {az : List Int} (h : stepN (op, a, b, n) k = true) (ha : ∀ j, j < k → 0 ≤ az.getD j 0 ∧ az.getD j 0 ≤ 60) : WfN (wired az (op, a, b, n)) := by
  obtain ⟨k1, k2⟩ := step_kids h
  have hm := most_le op
  unfold stepN fitN at h
  simp only [Bool.and_eq_true, Bool.or_eq_true, decide_eq_true_eq] at h
  obtain ⟨⟨⟨⟨⟨⟨f1, f2⟩, f3⟩, f4⟩, f5⟩, f6⟩, _⟩ := h
  unfold wired
  refine ⟨wf_small (by dsimp only; omega), ?_, ?_, wf_small (by dsimp only; omega)⟩
  · dsimp only
    by_cases q : (two op || one op) = true
    · rw [if_pos q]
      have := ha a.toNat (by have := k1 q; omega)
      exact wf_small (by omega)
    · rw [if_neg q]
      have : a = 0 := by
        rcases f5 with f5 | f5
        · exact absurd (by simpa [Bool.or_eq_true] using f5) q
        · exact f5
      exact wf_small (by omega)
  · dsimp only
    by_cases q : two op = true
    · rw [if_pos q]
      have := ha b.toNat (by have := k2 q; omega)
      exact wf_small (by omega)
    · rw [if_neg q]
      have : b = 0 := by
        rcases f6 with f6 | f6
        · exact absurd f6 q
        · exact f6
      exact wf_small (by omega)
theorem app_end {tI n₀ k cv : Nat} {W w4 w5 : World} {V : Option Addr} {xs : List Value} {J : List (Nat × Nd) → World → Prop} {T : List (Nat × Nd)} {o : Obj} (hJ : Bides W.heap.size (stepObj tI) J) (hro : w4.ownsRow (W.heap.size + 1) tI 1 (.slice V k cv) k xs)
    (hl : (∀ b, b < n₀ → w4.heap[b]? = W.heap[b]?) ∧ W.heap.size + 1 ≤ w4.heap.size) (hn0 : n₀ ≤ W.heap.size) (h4 : J T w4) (hg : (w4.alloc o).grownBy w5 (Value.slice V k cv).ownBlock) :
    J T w5 ∧ (∀ b, b < n₀ → w5.heap[b]? = W.heap[b]?) ∧ W.heap.size + 1 ≤ w5.heap.size ∧ some W.heap.size ≠ (Value.slice V k cv).ownBlock := by
  have hlt : ∀ g, (Value.slice V k cv).ownBlock = some g → W.heap.size + 1 ≤ g ∧ ∃ o' : Obj, (w4.alloc o).heap[g]? = some o' ∧ stepObj tI o' = true := fun g e => by
    rcases hro.2 with ⟨e1, _⟩ | ⟨g1, cap, cur, e1, hb, hh, _⟩
    · rw [e1] at e; cases e
    · rw [e1] at e
      have e : g1 = g := by simpa [Value.ownBlock] using e
      subst e
      have hl1 : g1 < w4.heap.size := (Array.getElem?_eq_some_iff.1 hh).1
      exact ⟨hb, _, ((World.grownBy_alloc w4 o none).block g1 hl1 (by simp)).trans hh, by simp [stepObj]⟩
  have hs := hg.size
  rw [World.size_alloc] at hs
  refine ⟨hJ _ _ _ _ (hJ _ _ _ none h4 (World.grownBy_alloc _ _ _) (fun r e => by cases e)) hg (fun r e => ?_), fun b hb => ?_, by omega, fun e => ?_⟩
  · obtain ⟨q1, q2⟩ := hlt r e
    exact ⟨by omega, q2⟩
  · refine (hg.block b (by rw [World.size_alloc]; omega) (fun e => ?_)).trans (((World.grownBy_alloc w4 o none).block b (by omega) (by simp)).trans (hl.1 b hb))
    have := (hlt b e.symm).1
    omega
  · have := (hlt _ e.symm).1
    omega
end Nt
namespace Go.Proofs.YtcepjcnpokpdcaaGreatDoor
open Go Go.RowKit Nt
attribute [local go_sem] Oper.semAt_some
theorem infoInt4 : (Tryz.prog.info? 3).map (fun i => (i.zero, i.size, i.bytes)) = some (some (.int .i64 0), 1, 8) := by kernel_rfl
theorem zeroInt4 (w : World) : (zeroValue 3).run Tryz.prog w = .ok (.int .i64 0) w := by kernel_rfl
/-- what a round of it finds -/
def NS (W : World) (n₀ : Nat) (J : List (Nat × Nd) → World → Prop) (ns : List Nd) (k : Nat) (V : Option Addr) (cv : Nat) (D : DataW Unit) (wr : World) : Prop :=
  wr.ownsMap Tryz.prog 127 (plainElem Tryz.prog 3) W.heap.size k D ∧ Known D (comp (ns.take k)).1 ∧ wr.ownsRow (W.heap.size + 1) 3 1 (.slice V k cv) k ((comp (ns.take k)).2.map (Value.int .i64)) ∧ J (stepsE (comp (ns.take k)).1) wr ∧ (∀ b, b < n₀ → wr.heap[b]? = W.heap[b]?) ∧ W.heap.size + 1 ≤ wr.heap.size

set_option maxRecDepth 100000 in
set_option maxHeartbeats 8000000 in
theorem newSteps1_in (n : Nat) (hn : 1 ≤ n) (l Bx n₀ n₁ : Nat) (A : Option Addr) (m c : Nat) (ns : List Nd) (hm : m ≤ 60) (hst : AllSt ns m) (J : List (Nat × Nd) → World → Prop) (W : World) (hJ : Bides W.heap.size (stepObj 3) J)
    (hBx : Boxed W Bx 23 (.slice A m c)) (hr : RdN W (· < n₀) A m c ns) (hn0 : n₀ ≤ W.heap.size) (hn1 : n₁ ≤ W.heap.size)
    (hY : ∀ pre x W1, J pre W1 → pre.length < m → YieldAt Fence.wide (n - 1) Tryz.prog l #[.int .i64 (x.1 : Int), ndV x.2] W1 fun e W' => e = .returned (.bool true) ∧ J (pre ++ [x]) W' ∧ KpS 3 n₀ n₁ W1 W')
    (h0 : J [] W) :
    CallsIn Fence.wide n Tryz.prog 172 #[.func (.yield l) #[] #[], .pointer (some ⟨Bx, 0, none⟩)] W fun e W' => (∃ v, e = .returned v) ∧ ∃ xs, xs = stepsE (comp ns).1 ∧ J xs W' := by
  have hmm := @run_makeMap Tryz.prog
  have HL := Lib.hid hr.len
  obtain ⟨i0, hi, hz0, hz1, hz2⟩ := info_parts infoInt4
  refine callsIn_of_wp Tryz.func172 rfl trivial ?_ rfl
  simp only [Tryz.ntmps172, List.size_toArray, List.length_cons, List.length_nil, Nat.reduceAdd, Nat.reduceSub, Array.replicate_succ, Array.replicate_zero, List.push_toArray, List.append_toArray, List.nil_append, List.cons_append]
  have cb0 := (hBx.alloc (.map #[] 0)).cell
  have hs0 : NS W n₀ J ns 0 none 0 (.map []) (W.alloc (.map #[] 0)) := by
    have e0 : comp (ns.take 0) = ([], []) := by simp [comp]
    unfold NS
    rw [e0]
    exact ⟨World.ownsMap_made W _ _ _, known_nil, World.ownsRow_nil _ _ _ _, hJ _ _ _ none h0 (World.grownBy_alloc _ _ _) (fun r e => by cases e), fun b hb => (World.grownBy_alloc W _ none).block b (by omega) (by simp), by simp⟩
  have HS0 := Lib.hid hs0
  clear hs0
  gi_wp2
  clear cb0
  gi_loopw [4, 13] (fun p i wr => ∃ (k : Nat) (V : Option Addr) (cv : Nat) (D : DataW Unit), k ≤ m ∧ p = .slice V k cv ∧ i = .int .i64 (k : Int) ∧ Hid (NS W n₀ J ns k V cv D wr)) (fun p i _ => m - (intOf i).toNat)
  case atStart => exact ⟨0, none, 0, _, Nat.zero_le _, rfl, rfl, HS0⟩
  case round =>
    clear HS0
    obtain ⟨k, V, cv, D, hk, rfl, rfl, HS⟩ := hrel
    by_cases hlt : k < m
    · obtain ⟨hown, hkn, hrow, hJs, hlow, hsz⟩ := HS.out
      have hlen := HL.out
      have ok := comp_ok ns k (by omega)
      have ek := comp_take ns k (by omega)
      have hsx := hst k hlt
      obtain ⟨bb, o, rfl, hP, _, hc⟩ := hr.at_ (by omega)
      have e1 := (hc k hlt).keep (hlow bb hP)
      obtain ⟨x, hx⟩ : ∃ x, ns.getD k nd0 = x := ⟨_, rfl⟩
      rw [hx] at ek hsx e1
      obtain ⟨i1, i2, i3, i4⟩ := ok
      obtain ⟨S, hSe⟩ : ∃ S, comp (ns.take k) = S := ⟨_, rfl⟩
      rw [hSe] at hkn hrow hJs ek i1 i2 i3 i4
      obtain ⟨ss, az⟩ := S
      obtain ⟨op, a, b, nn⟩ := x
      dsimp only at hkn hrow hJs i1 i2 i3 i4
      obtain ⟨kk1, kk2⟩ := step_kids hsx
      have hw := wired_wf hsx (az := az) (fun j hj => by have := i4 j hj; omega)
      unfold cstep at ek
      dsimp only at ek
      have hRD : Rd (wr.alloc (.cells #[.int .i64 op, .int .i64 a, .int .i64 b, .int .i64 nn] 127)) (· < (wr.alloc (.cells #[.int .i64 op, .int .i64 a, .int .i64 b, .int .i64 nn] 127)).heap.size) V k cv az := ownI_rd (hrow.alloc _)
      have HWK := withKids_any op a b nn V k cv az _ hRD (by omega) kk1 kk2
      obtain ⟨y, hy⟩ : ∃ y, wired az (op, a, b, nn) = y := ⟨_, rfl⟩
      rw [hy] at ek hw HWK
      obtain ⟨y0, y1, y2, y3⟩ := y
      dsimp only at HWK
      replace HWK := Lib.hid HWK
      have hkey : keyOf Tryz.prog 127 (.agg #[.int .i64 y0, .int .i64 y1, .int .i64 y2, .int .i64 y3]) = some (klN (y0, y1, y2, y3)) := keyOf_nd (y0, y1, y2, y3) hw
      have hBL : ∀ w1, Below (wr.alloc (.cells #[.int .i64 op, .int .i64 a, .int .i64 b, .int .i64 nn] 127)).heap.size (wr.alloc (.cells #[.int .i64 op, .int .i64 a, .int .i64 b, .int .i64 nn] 127)) w1 → Below wr.heap.size wr (w1.alloc (.cells #[.int .i64 y0, .int .i64 y1, .int .i64 y2, .int .i64 y3] 127)) := fun w1 bl => ((below_one wr _).trans (bl.mono (by simp))).alloc (by have := bl.size; simp at this; omega) _
      have HM : Hid (∀ w1, Below (wr.alloc (.cells #[.int .i64 op, .int .i64 a, .int .i64 b, .int .i64 nn] 127)).heap.size (wr.alloc (.cells #[.int .i64 op, .int .i64 a, .int .i64 b, .int .i64 nn] 127)) w1 → (w1.alloc (.cells #[.int .i64 y0, .int .i64 y1, .int .i64 y2, .int .i64 y3] 127)).ownsMap Tryz.prog 127 (plainElem Tryz.prog 3) W.heap.size k D) := fun w1 bl => hown.kept (grown_none (hBL w1 bl)) (by simp)
      have HB2 := Lib.hid hBL
      obtain ⟨q0, q1, q2, q3⟩ := e1
      dsimp only at q0 q1 q2 q3
      have hkm : (k : Int) < m := by omega
      have HI := Lib.hid (And.intro i1 (And.intro i2 i4))
      have HW := Lib.hid hw
      have HKN := Lib.hid hkn
      have HRW := Lib.hid hrow
      have HJS := Lib.hid hJs
      have HLOW := Lib.hid (And.intro hlow hsz)
      have HJB := Lib.hid hJ
      have HSE := Lib.hid hSe
      have hm60 : m ≤ 60 := hm
      by_cases hmiss : findN ss (y0, y1, y2, y3) ss.length < 0
      · have HEK : Hid (comp (ns.take (k + 1)) = (ss ++ [(y0, y1, y2, y3)], az ++ [(ss.length : Int)])) := by show _ = _; rw [ek, if_pos hmiss]
        have hhas : Maps.has D (klN (y0, y1, y2, y3)) = false := by rw [hkn.has _ hw]; simp; omega
        have hsize : Maps.size D = ss.length := hkn.size
        have HMISS := Lib.hid hmiss
        have HYY : Hid (∀ w1 w3, Below (wr.alloc (.cells #[.int .i64 op, .int .i64 a, .int .i64 b, .int .i64 nn] 127)).heap.size (wr.alloc (.cells #[.int .i64 op, .int .i64 a, .int .i64 b, .int .i64 nn] 127)) w1 → (w1.alloc (.cells #[.int .i64 y0, .int .i64 y1, .int .i64 y2, .int .i64 y3] 127)).grownBy w3 (some W.heap.size) →
            (w3.cell? ⟨w1.heap.size, 0, none⟩ = some (.int .i64 y0) ∧ w3.cell? ⟨w1.heap.size, 1, none⟩ = some (.int .i64 y1) ∧ w3.cell? ⟨w1.heap.size, 2, none⟩ = some (.int .i64 y2) ∧ w3.cell? ⟨w1.heap.size, 3, none⟩ = some (.int .i64 y3)) ∧
            (w3.ownsRow (W.heap.size + 1) 3 1 (.slice V k cv) k (az.map (Value.int .i64)) ∧ (∀ b, b < n₀ → w3.heap[b]? = W.heap[b]?) ∧ W.heap.size + 1 ≤ w3.heap.size) ∧
            YieldAt Fence.wide (n - 1) Tryz.prog l #[.int .i64 (ss.length : Int), .agg #[.int .i64 y0, .int .i64 y1, .int .i64 y2, .int .i64 y3]] w3 fun e W' => e = .returned (.bool true) ∧ J (stepsE (ss ++ [(y0, y1, y2, y3)])) W' ∧ KpS 3 n₀ n₁ w3 W') := by
          intro w1 w3 bl hg
          have hb := hBL w1 bl
          have s1 : wr.heap.size + 1 ≤ w1.heap.size := by have := bl.size; simpa using this
          have hN : NodeAt (w1.alloc (.cells #[.int .i64 y0, .int .i64 y1, .int .i64 y2, .int .i64 y3] 127)) w1.heap.size 127 y0 y1 y2 y3 := NodeAt.new _ _ _ _ _ _
          have hN3 : NodeAt w3 w1.heap.size 127 y0 y1 y2 y3 := (hg.block _ hN.lt (fun e => by injection e with e; omega)).trans hN
          have hr2 := hrow.kept (grown_none hb) (by cases V with | none => exact .inl rfl | some q => exact .inr (by simp [Value.ownBlock]))
          have hr3 : w3.ownsRow (W.heap.size + 1) 3 1 (.slice V k cv) k (az.map (Value.int .i64)) := hr2.kept hg (by
            rcases hrow.2 with ⟨e, _⟩ | ⟨g, cap, cur, e, hgb, _⟩
            · rw [e]; exact .inl rfl
            · rw [e]; exact .inr (fun q => by simp [Value.ownBlock] at q; omega))
          obtain ⟨es, ck, hme, _⟩ := (HM.out w1 bl)
          have hJ3 : J (stepsE ss) w3 := hJ _ _ _ _ (hJ _ _ _ none hJs (grown_none hb) (fun r e => by cases e)) hg (fun r e => by injection e with e; subst e; exact ⟨Nat.le_refl _, _, hme, rfl⟩)
          refine ⟨⟨hN3.c0, hN3.c1, hN3.c2, hN3.c3⟩, ⟨hr3, fun b hb' => ?_, by have := hg.size; have := hb.size; omega⟩, ?_⟩
          · have z1 := hb.block b (by omega)
            exact (hg.block b (by have := hb.size; omega) (fun e => by injection e with e; omega)).trans (z1.trans (hlow b hb'))
          · have := hY (stepsE ss) (ss.length, (y0, y1, y2, y3)) w3 hJ3 (by rw [stepsE_length]; omega)
            rw [← stepsE_snoc] at this
            exact this
        have HWF : Hid ((Lit.int .i64 (ss.length : Int)).wf = true) := wf_small (by omega)
        clear hown hkn hrow hJs hlow hsz i1 i2 i3 i4 hSe hy ek hw hsx hRD kk1 kk2 hx hBL hmiss hlen HS hY hJ hc hP
        gi_wp2_with (first
          | (refine ⟨trivial, ?_⟩; gi_at_call 173; refine (callsIn_wide.2 HWK.out).mono ?_; rintro e w1 ⟨rfl, bl⟩)
          | (gi_at_lookup; refine wpListIn_lookup_own_ok_int _ rfl _ _ 196 rfl 127 3 .i64 nodeKeyed Tryz.underlying196 Tryz.underlying3 (zeroInt4 _) W.heap.size k D rfl (HM.out _ bl) _ _ rfl hkey ?_; intro cc hat hwc; rw [hhas]; clear hat hwc)
          | (gi_at_len; refine wpListIn_len_own _ rfl _ 196 rfl 127 3 Tryz.underlying196 _ W.heap.size k D rfl (HM.out _ bl) ?_; rw [hsize])
          | (gi_at_mapUpdate; refine wpListIn_mapUpdate_own _ rfl _ _ _ 196 rfl 127 3 nodeKeyed Tryz.underlying196 _ W.heap.size k D rfl (HM.out _ bl) (by unfold maxLen; omega) _ _ _ rfl rfl hkey _ [] (plainElem_int Tryz.underlying3 HWF.out) ?_; intro w3 hown3 hgrow3; obtain ⟨⟨d0, d1, d2, d3⟩, hf3, fn, tmps, assign, body, hy3, hR3⟩ := HYY.out _ _ bl hgrow3))
        refine hR3.mono ?_
        rintro e w4 ⟨rfl, hJ4, hK4⟩
        obtain ⟨hr3, hl3, hz3⟩ := hf3
        have hro := hK4.row hr3 (show n₁ ≤ W.heap.size + 1 by omega)
        have hm4 := hK4.map hown3 hn1
        have hl4 : (∀ b, b < n₀ → w4.heap[b]? = W.heap[b]?) ∧ W.heap.size + 1 ≤ w4.heap.size := ⟨fun b hb => (hK4.2.1 b hb).trans (hl3 b hb), Nat.le_trans hz3 hK4.1⟩
        have HM4 := Lib.hid hm4
        have HRO := Lib.hid hro
        have HL4 := Lib.hid hl4
        have hz4 := hl4.2
        clear d0 d1 d2 d3 hy3 hR3 hgrow3 hown3 hr3 hl3 hz3 hK4 hro hm4 hl4 HYY HM HB2 bl
        gi_wp2_with (gi_at_builtin; refine wpListIn_append_own _ rfl _ _ 29 rfl (W.heap.size + 1) 3 i0 (.int .i64 0) 1 8 Tryz.underlying29 hi hz0 hz1 hz2 rfl (by decide) _ k _ rfl (HRO.out.alloc _) ⟨w4.heap.size, 0, none⟩ 1 1 [.int .i64 (ss.length : Int)] rfl rfl (one_new _ _ _) (by simp [Value.oneCell']) (by unfold maxLen; omega) (by omega) (by simp; omega) ?_; intro v' w5 hown5 hgr5 _; obtain ⟨g', cap', rfl⟩ := ownsRow_succ hown5)
        go_roundw
        case rel =>
          obtain ⟨g1, g2, g3, g4⟩ := app_end HJB.out HRO.out HL4.out hn0 hJ4 hgr5
          have hfin : NS W n₀ J ns (k + 1) (some ⟨g', 0, none⟩) cap' (D.put (klN (y0, y1, y2, y3)) (.lit (.int .i64 (ss.length : Int)))) w5 := by
            unfold NS
            rw [HEK.out, List.map_append]
            exact ⟨(HM4.out.alloc _).kept hgr5 g4, HKN.out.more klN_inj _ HW.out HMISS.out, hown5, g1, g2, g3⟩
          exact ⟨k + 1, some ⟨g', 0, none⟩, cap', _, by omega, rfl, by go_num, hfin⟩
        case measure => simp [intOf]; omega
      · obtain ⟨j, hj⟩ : ∃ j, findN ss (y0, y1, y2, y3) ss.length = j := ⟨_, rfl⟩
        have HEK : Hid (comp (ns.take (k + 1)) = (ss, az ++ [j])) := by show _ = _; rw [ek, if_neg hmiss, hj]
        have hhas : Maps.has D (klN (y0, y1, y2, y3)) = true := by rw [hkn.has _ hw]; simp; omega
        have hatk := hkn.at_ _ hw (by omega) (.lit (.int .i64 0))
        rw [hj] at hatk
        have HATK : Hid (∀ cc : Int, D.atKey (klN (y0, y1, y2, y3)) (.lit (.int .i64 0)) = .lit (.int .i64 cc) → cc = j) := fun cc e => by
          rw [hatk] at e
          injection e with e
          injection e with e1 e2
          exact e2.symm
        have HRO : Hid (∀ w1, Below (wr.alloc (.cells #[.int .i64 op, .int .i64 a, .int .i64 b, .int .i64 nn] 127)).heap.size (wr.alloc (.cells #[.int .i64 op, .int .i64 a, .int .i64 b, .int .i64 nn] 127)) w1 → (w1.alloc (.cells #[.int .i64 y0, .int .i64 y1, .int .i64 y2, .int .i64 y3] 127)).ownsRow (W.heap.size + 1) 3 1 (.slice V k cv) k (az.map (Value.int .i64))) := fun w1 bl => hrow.kept (grown_none (hBL w1 bl)) (by cases V with | none => exact .inl rfl | some q => exact .inr (by simp [Value.ownBlock]))
        have HS4 : Hid (∀ w1, Below (wr.alloc (.cells #[.int .i64 op, .int .i64 a, .int .i64 b, .int .i64 nn] 127)).heap.size (wr.alloc (.cells #[.int .i64 op, .int .i64 a, .int .i64 b, .int .i64 nn] 127)) w1 → W.heap.size + 1 ≤ w1.heap.size) := fun w1 bl => by have := bl.size; simp at this; omega
        clear hown hkn hrow hJs hlow hsz i1 i2 i3 i4 hSe hy ek hw hsx hRD kk1 kk2 hx hBL hmiss hlen HS hY hJ hc hP hj hatk
        gi_wp2_with (first
          | (refine ⟨trivial, ?_⟩; gi_at_call 173; refine (callsIn_wide.2 HWK.out).mono ?_; rintro e w1 ⟨rfl, bl⟩; have hz4 := HS4.out _ bl)
          | (gi_at_lookup; refine wpListIn_lookup_own_ok_int _ rfl _ _ 196 rfl 127 3 .i64 nodeKeyed Tryz.underlying196 Tryz.underlying3 (zeroInt4 _) W.heap.size k D rfl (HM.out _ bl) _ _ rfl hkey ?_; intro cc hat hwc; rw [hhas]; obtain rfl := HATK.out cc hat; clear hat hwc)
          | (gi_at_builtin; refine wpListIn_append_own _ rfl _ _ 29 rfl (W.heap.size + 1) 3 i0 (.int .i64 0) 1 8 Tryz.underlying29 hi hz0 hz1 hz2 rfl (by decide) _ k _ rfl ((HRO.out _ bl).alloc _) ⟨w1.heap.size + 1, 0, none⟩ 1 1 [.int .i64 cc] rfl rfl (one_new_at _ _ _ _ (World.size_alloc _ _)) (by simp [Value.oneCell']) (by unfold maxLen; omega) (by omega) (by simp; omega) ?_; intro v' w5 hown5 hgr5 _; obtain ⟨g', cap', rfl⟩ := ownsRow_succ hown5))
        go_roundw
        case rel =>
          have hb := HB2.out _ bl
          have hJ4 := HJB.out _ _ _ none HJS.out (grown_none hb) (fun r e => by cases e)
          have hl4 : (∀ b, b < n₀ → (w1.alloc (.cells #[.int .i64 y0, .int .i64 y1, .int .i64 y2, .int .i64 y3] 127)).heap[b]? = W.heap[b]?) ∧ W.heap.size + 1 ≤ (w1.alloc (.cells #[.int .i64 y0, .int .i64 y1, .int .i64 y2, .int .i64 y3] 127)).heap.size := ⟨fun b hb' => (hb.block b (by have := HLOW.out.2; omega)).trans (HLOW.out.1 b hb'), by rw [World.size_alloc]; omega⟩
          obtain ⟨g1, g2, g3, g4⟩ := app_end HJB.out (HRO.out _ bl) hl4 hn0 hJ4 hgr5
          have hfin : NS W n₀ J ns (k + 1) (some ⟨g', 0, none⟩) cap' D w5 := by
            unfold NS
            rw [HEK.out, List.map_append]
            exact ⟨(((HM.out _ bl).mono (Nat.le_succ _)).alloc _).kept hgr5 g4, HKN.out, hown5, g1, g2, g3⟩
          exact ⟨k + 1, some ⟨g', 0, none⟩, cap', _, by omega, rfl, by go_num, hfin⟩
        case measure => simp [intOf]; omega
    · obtain rfl : k = m := by omega
      have hJm := HS.out.2.2.2.1
      have HF : Hid (stepsE (comp (ns.take k)).1 = stepsE (comp ns).1) := by show _ = _; rw [← HL.out, List.take_length]
      clear HS
      gi_wp2
      go_end0
      exact ⟨⟨_, rfl⟩, _, HF.out, hJm⟩
end Go.Proofs.YtcepjcnpokpdcaaGreatDoor
