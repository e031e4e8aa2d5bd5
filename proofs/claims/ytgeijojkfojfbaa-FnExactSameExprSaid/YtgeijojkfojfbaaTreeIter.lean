/-
  A node's children, and how they are gone over from the last to the first.
-/
import Derived.Test.YtgeijojkfojfbaaNodeCopy
import Derived.Deep.RegionWith
import Derived.RangeFuncNested
import Derived.RangeFuncLeaves
import Derived.RangeFuncBox
import Derived.Shelf.Abstract
import Derived.OwnWalkIn
import Derived.TacticsInMore
import Derived.LoopNIn
import Derived.LoopIn
import Derived.Stop.RegionWithIn
namespace Nt
open Go Go.RowKit
def uptoN {α : Type} (f : Nat → α) (k : Nat) : List α := (List.range k).map f
theorem uptoN_succ {α : Type} (f : Nat → α) (k : Nat) : uptoN f (k + 1) = uptoN f k ++ [f k] := by simp [uptoN, List.range_succ]
theorem uptoN_length {α : Type} (f : Nat → α) (k : Nat) : (uptoN f k).length = k := by simp [uptoN]
/-- what a round keeps: two blocks -/
def KZ (g B : Nat) (W W' : World) : Prop := W.heap.size ≤ W'.heap.size ∧ W'.heap[g]? = W.heap[g]? ∧ W'.heap[B]? = W.heap[B]?
theorem KZ.trans {g B : Nat} {U V W : World} (h : KZ g B U V) (k : KZ g B V W) : KZ g B U W := ⟨Nat.le_trans h.1 k.1, k.2.1.trans h.2.1, k.2.2.trans h.2.2⟩
theorem KZ.refl (g B : Nat) (W : World) : KZ g B W W := ⟨Nat.le_refl _, rfl, rfl⟩
/-- the tree that comes of a node's children -/
def kinT (ts : List Tr) : Tr → List Int → Option Tr
  | t, [] => some t
  | t, c :: cs => if 0 ≤ c ∧ c = t.1 - 1 then kinT ts ((ts.getD c.toNat tr0).1, max t.2 ((ts.getD c.toNat tr0).2 + 1)) cs else none
theorem kinT_append (ts : List Tr) : ∀ (cs : List Int) (t : Tr) (c : Int), kinT ts t (cs ++ [c]) = (kinT ts t cs).bind fun u => if 0 ≤ c ∧ c = u.1 - 1 then some ((ts.getD c.toNat tr0).1, max u.2 ((ts.getD c.toNat tr0).2 + 1)) else none
  | [], t, c => by
    show (if _ then _ else _) = (if _ then _ else _)
    rfl
  | d :: cs, t, c => by
    show (if _ then kinT ts _ (cs ++ [c]) else none) = (if _ then kinT ts _ cs else none).bind _
    by_cases h : 0 ≤ d ∧ d = t.1 - 1
    · rw [if_pos h, if_pos h, kinT_append ts cs]
    · rw [if_neg h, if_neg h]; rfl
theorem kinT_none (ts : List Tr) : ∀ (cs ds : List Int) (t : Tr), kinT ts t cs = none → kinT ts t (cs ++ ds) = none
  | [], ds, t, h => by cases h
  | c :: cs, ds, t, h => by
    have h : (if 0 ≤ c ∧ c = t.1 - 1 then kinT ts _ cs else none) = none := h
    show (if 0 ≤ c ∧ c = t.1 - 1 then kinT ts _ (cs ++ ds) else none) = none
    by_cases hc : 0 ≤ c ∧ c = t.1 - 1
    · rw [if_pos hc] at h ⊢; exact kinT_none ts cs ds _ h
    · rw [if_neg hc]
/-- a node's children, from the last to the first -/
def kids (x : Nd) : List Int := if two x.1 = true then [x.2.2.1, x.2.1] else if one x.1 = true then [x.2.1] else []
theorem grow_kin (ts : List Tr) (x : Nd) : growT ts x = kinT ts ((ts.length : Int), 1) (kids x) := by
  unfold growT kids
  by_cases h2 : two x.1 = true
  · rw [if_pos h2, if_pos h2]
    rfl
  · rw [if_neg h2, if_neg h2]
    by_cases h1 : one x.1 = true
    · rw [if_pos h1, if_pos h1]
      rfl
    · rw [if_neg h1, if_neg h1]
      rfl
/-- the k-th child that is yielded, with its index -/
def kidAt (N : Nat) (a b : Int) (k : Nat) : Int × Int := ((N : Int) - 1 - k, if N - 1 - k = 0 then a else b)
theorem kids_upto (op a b n : Int) : (uptoN (kidAt (arityN op).toNat a b) (arityN op).toNat).map Prod.snd = kids (op, a, b, n) := by
  unfold kids arityN
  by_cases h2 : two op = true
  · rw [if_pos h2, if_pos h2]; rfl
  · rw [if_neg h2, if_neg h2]
    by_cases h1 : one op = true
    · rw [if_pos h1, if_pos h1]; rfl
    · rw [if_neg h1, if_neg h1]; rfl
theorem uptoN_take {α : Type} (f : Nat → α) (j N : Nat) (h : j ≤ N) : ∃ zs, uptoN f N = uptoN f j ++ zs := by
  refine ⟨(uptoN f N).drop j, ?_⟩
  have : uptoN f j = (uptoN f N).take j := by
    unfold uptoN
    rw [← List.map_take, List.take_range, Nat.min_eq_left h]
  rw [this, List.take_append_drop]
theorem arity_le (op : Int) : (arityN op).toNat ≤ 2 := by
  unfold arityN
  split
  · decide
  · split <;> decide
end Nt
namespace Go.Proofs.Ytgeijojkfojfbaa
open Go Go.RowKit Nt Go.Shelf
attribute [local go_sem] Oper.semAt_some

theorem backward_in (n : Nat) (X : Option Addr) (lx cx : Nat) (w : World) :
    CallsIn Fence.wide n Try.prog 114 #[.slice X lx cx] w fun e w' => e = .returned (.func (.func 154) #[] #[.pointer (some ⟨w.heap.size, 0, none⟩)]) ∧ w' = w.alloc (.cells #[.slice X lx cx] 41) := by
  refine callsIn_of_wp Try.func114 rfl trivial ?_ rfl
  simp only [Try.ntmps114, List.size_toArray, List.length_cons, List.length_nil, Nat.reduceAdd, Nat.reduceSub, Array.replicate_succ, Array.replicate_zero, List.push_toArray, List.append_toArray, List.nil_append, List.cons_append]
  gi_wp2
  go_ret
  exact ⟨rfl, rfl⟩

set_option maxRecDepth 100000 in
set_option maxHeartbeats 4000000 in
theorem backward1_in (n : Nat) (hn : 1 ≤ n) (l Bx g N : Nat) (a b : Int) (hN : N ≤ 2) (J Jx : List (Int × Int) → World → Prop)
    (hY : ∀ pre x W, J pre W → pre.length < N → YieldAt Fence.wide (n - 1) Try.prog l #[.int .i64 x.1, .int .i64 x.2] W fun e W' =>
      (e = .returned (.bool true) ∧ J (pre ++ [x]) W' ∧ KZ g Bx W W') ∨ (e = .returned (.bool false) ∧ Jx (pre ++ [x]) W'))
    (W : World) (hBx : Boxed W Bx 41 (.slice (some ⟨g, 0, none⟩) N 2)) (hg : W.heap[g]? = some (.cells #[.int .i64 a, .int .i64 b] 3 (0, 0))) (h0 : J [] W) :
    CallsIn Fence.wide n Try.prog 154 #[.func (.yield l) #[] #[], .pointer (some ⟨Bx, 0, none⟩)] W fun e W' => (∃ v, e = .returned v) ∧
      ((∃ ys, ys = uptoN (kidAt N a b) N ∧ J ys W') ∨ (∃ pre, (∃ k, k ≤ N ∧ pre = uptoN (kidAt N a b) k) ∧ Jx pre W')) := by
  refine callsIn_of_wp Try.func154 rfl trivial ?_ rfl
  simp only [Try.ntmps154, List.size_toArray, List.length_cons, List.length_nil, Nat.reduceAdd, Nat.reduceSub, Array.replicate_succ, Array.replicate_zero, List.push_toArray, List.append_toArray, List.nil_append, List.cons_append]
  have cb0 := hBx.cell
  have hw0 : IntKind.i64.wrap ((N : Int) - 1) = (N : Int) - 1 := IntWalk.i64_in _ (by omega)
  gi_wp2
  clear cb0
  gi_loopw [3] (fun i wr => ∃ k : Nat, k ≤ N ∧ i = .int .i64 ((N : Int) - 1 - k) ∧ J (uptoN (kidAt N a b) k) wr ∧ KZ g Bx W wr) (fun i _ => (intOf i + 1).toNat)
  case atStart => exact ⟨0, Nat.zero_le _, by simp, h0, KZ.refl _ _ _⟩
  case round =>
    obtain ⟨k, hk, rfl, hJs, hkz⟩ := hrel
    have hby : Boxed wr Bx 41 (.slice (some ⟨g, 0, none⟩) N 2) := hkz.2.2.trans hBx
    have hgy := hkz.2.1.trans hg
    by_cases hlt : k < N
    · obtain ⟨fn, tmps, assign, body, hy, hR⟩ := hY _ (kidAt N a b k) wr hJs (by rw [uptoN_length]; exact hlt)
      have cb := hby.cell
      obtain ⟨j, hj⟩ : ∃ j : Nat, j = N - 1 - k := ⟨_, rfl⟩
      have cc : wr.cell? ⟨g, j, none⟩ = some (.int .i64 (kidAt N a b k).2) := by
        rw [cell_of_row wr g j _ 3 (0, 0) hgy]
        unfold kidAt
        rw [← hj]
        rcases (show j = 0 ∨ j = 1 by omega) with rfl | rfl <;> rfl
      have e1 : (N : Int) - 1 - k = (j : Int) := by omega
      have e2 : (kidAt N a b k).1 = (j : Int) := by unfold kidAt; exact e1
      have hjN : (j : Int) < N := by omega
      have hw1 : IntKind.i64.wrap ((j : Int) - 1) = (j : Int) - 1 := IntWalk.i64_in _ (by omega)
      rw [e2] at hy
      rw [e1]
      have HN : Hid ((N : Int) - 1 - ((k + 1 : Nat) : Int) = (j : Int) - 1) := by show _ = _; omega
      have HM : Hid ((j : Int) = (N : Int) - 1 - k) := e1.symm
      generalize (kidAt N a b k).2 = z at *
      clear e1 e2 hj hY hw0
      gi_wp2
      refine hR.mono ?_
      rintro e W3 (⟨rfl, hJ3, hk3⟩ | ⟨rfl, hJx3⟩)
      · have hkz3 := hkz.trans hk3
        gi_wp2
        go_roundw
        case rel => exact ⟨k + 1, by omega, by rw [HN.out], by rw [uptoN_succ]; exact hJ3, hkz3⟩
        case measure => first | (simp [intOf]; omega) | simp [intOf]
      · gi_wp2
        refine bodyPost_ret (results_none rfl _ _ _) rfl ?_
        exact ⟨⟨_, rfl⟩, .inr ⟨_, ⟨k + 1, by omega, (uptoN_succ _ _).symm⟩, hJx3⟩⟩
    · obtain rfl : k = N := by omega
      have hneg : (k : Int) - 1 - k = -1 := by omega
      rw [hneg]
      gi_wp2
      go_end0
      exact ⟨⟨_, rfl⟩, .inl ⟨_, rfl, hJs⟩⟩
theorem backward_stops (n : Nat) (hn : 1 ≤ n) (Bx g N : Nat) (a b : Int) (hN : N ≤ 2) (w : World) (hBx : Boxed w Bx 41 (.slice (some ⟨g, 0, none⟩) N 2)) (hg : w.heap[g]? = some (.cells #[.int .i64 a, .int .i64 b] 3 (0, 0))) (hgl : g < w.heap.size) :
    SeqStopsK Fence.wide n Try.prog 154 #[.pointer (some ⟨Bx, 0, none⟩)] (fun x : Int × Int => #[.int .i64 x.1, .int .i64 x.2]) (KZ g Bx) (fun ys => ys = uptoN (kidAt N a b) N) (fun pre => ∃ k, k ≤ N ∧ pre = uptoN (kidAt N a b) k) N w := fun l J Jx W hW _ _ hY h0 =>
  backward1_in n hn l Bx g N a b hN J Jx hY W ((hW.block Bx hBx.lt).trans hBx) ((hW.block g hgl).trans hg) h0
end Go.Proofs.Ytgeijojkfojfbaa
