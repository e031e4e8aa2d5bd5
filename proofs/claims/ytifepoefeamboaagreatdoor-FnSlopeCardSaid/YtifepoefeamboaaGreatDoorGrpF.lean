/-
  NodeFit TreeIter TreeKids LastStore Trees ImplExpr ExprDim ExprDeep ExprSame in one text.
-/
import Derived.Test.YtifepoefeamboaaGreatDoorGrpE
import Derived.Deep.RegionWith
import Derived.RangeFuncNested
import Derived.RangeFuncLeaves
import Derived.RangeFuncBox
import Derived.Shelf.Abstract
import Derived.OwnWalkIn
import Derived.TacticsInMore
import Derived.LoopNIn
import Derived.LoopIn
import Derived.Stop.RegionWithIn
import Derived.Sort.BigQuietIn
import Derived.BigQuiet
namespace Go.Proofs.YtifepoefeamboaaGreatDoor
open Go Go.RowKit Nt

set_option maxHeartbeats 1600000 in
theorem implFits_any (op a b n : Int) (w : World) : Calls Tryz.prog 103 #[.agg #[.int .i64 op, .int .i64 a, .int .i64 b, .int .i64 n]] w fun e w' => e = .returned (.bool (fitN (op, a, b, n))) ∧ Below w.heap.size w w' := by
  have hF : fitN (op, a, b, n) = (decide (1 ≤ op) && decide (op ≤ 8) && decide (0 ≤ n) && decide (n ≤ mostN op) && (two op || one op || decide (a = 0)) && (two op || decide (b = 0))) := rfl
  have HB1 := Lib.hid (below_one w (.cells #[.int .i64 op, .int .i64 a, .int .i64 b, .int .i64 n] 114))
  have HT := Lib.hid (NodeAt.new w 114 op a b n)
  have HC := Lib.hid HT.out.four
  obtain ⟨m, hm⟩ : ∃ m, mostN op = m := ⟨_, rfl⟩
  have HM := Lib.hid hm
  by_cases c0 : op < 1
  · have d0 : decide (op < 1) = true := decide_eq_true c0
    have HV : Hid (fitN (op, a, b, n) = false) := by show _ = _; rw [hF]; simp; omega
    clear hF
    go_enter Tryz.func103, Tryz.ntmps103
    go_wp2_with fail
    go_quiet (fail)
    go_wp2
    go_ret
    exact ⟨ret_bool HV.out.symm, below_drewN HB1.out _⟩
  have d0 : decide (op < 1) = false := decide_eq_false c0
  by_cases c1 : 8 < op
  · have d1 : decide (8 < op) = true := decide_eq_true c1
    have HV : Hid (fitN (op, a, b, n) = false) := by show _ = _; rw [hF]; simp; omega
    clear hF
    go_enter Tryz.func103, Tryz.ntmps103
    go_wp2_with fail
    go_quiet (fail)
    go_wp2
    go_ret
    exact ⟨ret_bool HV.out.symm, below_drewN HB1.out _⟩
  have d1 : decide (8 < op) = false := decide_eq_false c1
  by_cases c2 : n < 0
  · have d2 : decide (n < 0) = true := decide_eq_true c2
    have HV : Hid (fitN (op, a, b, n) = false) := by show _ = _; rw [hF]; simp; omega
    clear hF
    go_enter Tryz.func103, Tryz.ntmps103
    go_wp2_with fail
    go_quiet (fail)
    go_wp2
    go_ret
    exact ⟨ret_bool HV.out.symm, below_drewN HB1.out _⟩
  have d2 : decide (n < 0) = false := decide_eq_false c2
  have HS : Hid (fitN (op, a, b, n) = (decide (n ≤ mostN op) && (two op || one op || decide (a = 0)) && (two op || decide (b = 0)))) := by
    show _ = _
    rw [hF, decide_eq_true (show 1 ≤ op by omega), decide_eq_true (show op ≤ 8 by omega), decide_eq_true (show 0 ≤ n by omega)]
    simp
  rw [hm] at HS
  by_cases c3 : m < n
  · have d3 : decide (m < n) = true := decide_eq_true c3
    have HV : Hid (fitN (op, a, b, n) = false) := by show _ = _; rw [HS.out, decide_eq_false (show ¬ n ≤ m by omega)]; simp
    clear hF
    go_enter Tryz.func103, Tryz.ntmps103
    go_wp2_with fail
    go_region_with (first
        | (go_at_call 127; refine (implMost_any op a b n _).mono ?_; rintro e w1 ⟨rfl, bb⟩; have bb := undrewN bb; have HB2 := Lib.hid (HB1.out.trans (bb.mono HB1.out.size)); have HT1 := Lib.hid (HT.out.on bb); obtain ⟨t0, t1, t2, t3⟩ := HT1.out.four; rw [HM.out]))
    all_goals
      go_wp2
      go_ret
      exact ⟨ret_bool HV.out.symm, HB2.out⟩
  have d3 : decide (m < n) = false := decide_eq_false c3
  have HS2 : Hid (fitN (op, a, b, n) = ((two op || one op || decide (a = 0)) && (two op || decide (b = 0)))) := by show _ = _; rw [HS.out, decide_eq_true (show n ≤ m by omega)]; simp
  clear c0 c1 c2 c3 HS hm
  cases h2 : two op with
  | true =>
    have har : arityN op = 2 := by unfold arityN; rw [if_pos h2]
    have HV : Hid (fitN (op, a, b, n) = true) := by show _ = _; rw [HS2.out, h2]; simp
    clear hF
    go_enter Tryz.func103, Tryz.ntmps103
    go_wp2_with fail
    go_region_with (first
        | (go_at_call 127; refine (implMost_any op a b n _).mono ?_; rintro e w1 ⟨rfl, bb⟩; have bb := undrewN bb; have HB2 := Lib.hid (HB1.out.trans (bb.mono HB1.out.size)); have HT1 := Lib.hid (HT.out.on bb); obtain ⟨t0, t1, t2, t3⟩ := HT1.out.four; rw [HM.out]))
    all_goals
      go_wp2_with (first
          | (go_at_call 128; refine (implArity_any op a b n _).mono ?_; rintro e w2 ⟨rfl, bb⟩; have HB3 := Lib.hid (HB2.out.trans (bb.mono HB2.out.size)); have HT2 := Lib.hid (HT1.out.on bb); obtain ⟨t0, t1, t2, t3⟩ := HT2.out.four; rw [har])
          | (go_at_call 128; refine (implArity_any op a b n _).mono ?_; rintro e w3 ⟨rfl, bb⟩; have HB4 := Lib.hid (HB3.out.trans (bb.mono HB3.out.size)); have HT3 := Lib.hid (HT2.out.on bb); obtain ⟨t0, t1, t2, t3⟩ := HT3.out.four; rw [har]))
      go_ret
      exact ⟨ret_bool HV.out.symm, HB4.out⟩
  | false =>
    cases h1 : one op with
    | true =>
      have har : arityN op = 1 := by unfold arityN; rw [if_neg (by rw [h2]; exact Bool.false_ne_true), if_pos h1]
      have HV : Hid (fitN (op, a, b, n) = (b == 0)) := by show _ = _; rw [HS2.out, h2, h1]; by_cases hb : b = 0 <;> simp [hb]
      clear hF
      go_enter Tryz.func103, Tryz.ntmps103
      go_wp2_with fail
      go_region_with (first
          | (go_at_call 127; refine (implMost_any op a b n _).mono ?_; rintro e w1 ⟨rfl, bb⟩; have bb := undrewN bb; have HB2 := Lib.hid (HB1.out.trans (bb.mono HB1.out.size)); have HT1 := Lib.hid (HT.out.on bb); obtain ⟨t0, t1, t2, t3⟩ := HT1.out.four; rw [HM.out]))
      all_goals
        go_wp2_with (first
            | (go_at_call 128; refine (implArity_any op a b n _).mono ?_; rintro e w2 ⟨rfl, bb⟩; have HB3 := Lib.hid (HB2.out.trans (bb.mono HB2.out.size)); have HT2 := Lib.hid (HT1.out.on bb); obtain ⟨t0, t1, t2, t3⟩ := HT2.out.four; rw [har])
            | (go_at_call 128; refine (implArity_any op a b n _).mono ?_; rintro e w3 ⟨rfl, bb⟩; have HB4 := Lib.hid (HB3.out.trans (bb.mono HB3.out.size)); have HT3 := Lib.hid (HT2.out.on bb); obtain ⟨t0, t1, t2, t3⟩ := HT3.out.four; rw [har]))
        go_ret
        exact ⟨ret_bool HV.out.symm, HB4.out⟩
    | false =>
      have har : arityN op = 0 := by unfold arityN; rw [if_neg (by rw [h2]; exact Bool.false_ne_true), if_neg (by rw [h1]; exact Bool.false_ne_true)]
      by_cases q : a = 0
      · have e0 : (a == 0) = true := by simpa using q
        have HV : Hid (fitN (op, a, b, n) = (b == 0)) := by show _ = _; rw [HS2.out, h2, h1, decide_eq_true q]; by_cases hb : b = 0 <;> simp [hb]
        clear hF q
        go_enter Tryz.func103, Tryz.ntmps103
        go_wp2_with fail
        go_region_with (first
            | (go_at_call 127; refine (implMost_any op a b n _).mono ?_; rintro e w1 ⟨rfl, bb⟩; have bb := undrewN bb; have HB2 := Lib.hid (HB1.out.trans (bb.mono HB1.out.size)); have HT1 := Lib.hid (HT.out.on bb); obtain ⟨t0, t1, t2, t3⟩ := HT1.out.four; rw [HM.out]))
        all_goals
          go_wp2_with (first
              | (go_at_call 128; refine (implArity_any op a b n _).mono ?_; rintro e w2 ⟨rfl, bb⟩; have HB3 := Lib.hid (HB2.out.trans (bb.mono HB2.out.size)); have HT2 := Lib.hid (HT1.out.on bb); obtain ⟨t0, t1, t2, t3⟩ := HT2.out.four; rw [har])
              | (go_at_call 128; refine (implArity_any op a b n _).mono ?_; rintro e w3 ⟨rfl, bb⟩; have HB4 := Lib.hid (HB3.out.trans (bb.mono HB3.out.size)); have HT3 := Lib.hid (HT2.out.on bb); obtain ⟨t0, t1, t2, t3⟩ := HT3.out.four; rw [har]))
          go_ret
          exact ⟨ret_bool HV.out.symm, HB4.out⟩
      · have e0 : (a == 0) = false := by simpa using q
        have HV : Hid (fitN (op, a, b, n) = false) := by show _ = _; rw [HS2.out, h2, h1, decide_eq_false q]; simp
        clear hF q
        go_enter Tryz.func103, Tryz.ntmps103
        go_wp2_with fail
        go_region_with (first
            | (go_at_call 127; refine (implMost_any op a b n _).mono ?_; rintro e w1 ⟨rfl, bb⟩; have bb := undrewN bb; have HB2 := Lib.hid (HB1.out.trans (bb.mono HB1.out.size)); have HT1 := Lib.hid (HT.out.on bb); obtain ⟨t0, t1, t2, t3⟩ := HT1.out.four; rw [HM.out]))
        all_goals
          go_wp2_with (first
              | (go_at_call 128; refine (implArity_any op a b n _).mono ?_; rintro e w2 ⟨rfl, bb⟩; have HB3 := Lib.hid (HB2.out.trans (bb.mono HB2.out.size)); have HT2 := Lib.hid (HT1.out.on bb); obtain ⟨t0, t1, t2, t3⟩ := HT2.out.four; rw [har]))
          go_ret
          exact ⟨ret_bool HV.out.symm, HB3.out⟩

set_option maxHeartbeats 800000 in
theorem exprOK1_any (op a b n : Int) (w : World) : Calls Tryz.prog 102 #[.agg #[.int .i64 op, .int .i64 a, .int .i64 b, .int .i64 n]] w fun e w' => e = .returned (.bool (!fitN (op, a, b, n))) ∧ Below w.heap.size w w' := by
  have HB1 := Lib.hid (below_one w (.cells #[.int .i64 op, .int .i64 a, .int .i64 b, .int .i64 n] 114))
  go_enter Tryz.func102, Tryz.ntmps102
  go_wp2_with fail
  refine calls_atN (fun V => Below w.heap.size w V) HB1.out ?_
  intro v1 hb1
  refine (implFits_any op a b n v1).mono ?_
  rintro e v2 ⟨rfl, b2⟩
  have HB2 := Lib.hid (hb1.trans (b2.mono hb1.size))
  clear b2 hb1
  obtain ⟨f, hf⟩ : ∃ f, fitN (op, a, b, n) = f := ⟨_, rfl⟩
  have HF := Lib.hid hf
  rw [hf]
  clear hf
  go_wp2
  go_ret
  exact ⟨by rw [HF.out]; rfl, HB2.out⟩
end Go.Proofs.YtifepoefeamboaaGreatDoor
namespace Nt
open Go Go.RowKit
def uptoN {α : Type} (f : Nat → α) (k : Nat) : List α := (List.range k).map f
theorem uptoN_succ {α : Type} (f : Nat → α) (k : Nat) : uptoN f (k + 1) = uptoN f k ++ [f k] := by simp [uptoN, List.range_succ]
theorem uptoN_length {α : Type} (f : Nat → α) (k : Nat) : (uptoN f k).length = k := by simp [uptoN]
/-- what a round keeps: two blocks -/
def KZ (g B : Nat) (W W' : World) : Prop := W.heap.size ≤ W'.heap.size ∧ W'.heap[g]? = W.heap[g]? ∧ W'.heap[B]? = W.heap[B]?
theorem KZ.trans {g B : Nat} {U V W : World} (h : KZ g B U V) (k : KZ g B V W) : KZ g B U W := ⟨Nat.le_trans h.1 k.1, k.2.1.trans h.2.1, k.2.2.trans h.2.2⟩
theorem KZ.refl (g B : Nat) (W : World) : KZ g B W W := ⟨Nat.le_refl _, rfl, rfl⟩
/-- the tree that comes of a node's children -/
def kinT (ts : List Tr) : Tr → List Int → Option Tr
  | t, [] => some t
  | t, c :: cs => if 0 ≤ c ∧ c = t.1 - 1 then kinT ts ((ts.getD c.toNat tr0).1, max t.2 ((ts.getD c.toNat tr0).2 + 1)) cs else none
theorem kinT_append (ts : List Tr) : ∀ (cs : List Int) (t : Tr) (c : Int), kinT ts t (cs ++ [c]) = (kinT ts t cs).bind fun u => if 0 ≤ c ∧ c = u.1 - 1 then some ((ts.getD c.toNat tr0).1, max u.2 ((ts.getD c.toNat tr0).2 + 1)) else none
  | [], t, c => by
    show (if _ then _ else _) = (if _ then _ else _)
    rfl
  | d :: cs, t, c => by
    show (if _ then kinT ts _ (cs ++ [c]) else none) = (if _ then kinT ts _ cs else none).bind _
    by_cases h : 0 ≤ d ∧ d = t.1 - 1
    · rw [if_pos h, if_pos h, kinT_append ts cs]
    · rw [if_neg h, if_neg h]; rfl
theorem kinT_none (ts : List Tr) : ∀ (cs ds : List Int) (t : Tr), kinT ts t cs = none → kinT ts t (cs ++ ds) = none
  | [], ds, t, h => by cases h
  | c :: cs, ds, t, h => by
    have h : (if 0 ≤ c ∧ c = t.1 - 1 then kinT ts _ cs else none) = none := h
    show (if 0 ≤ c ∧ c = t.1 - 1 then kinT ts _ (cs ++ ds) else none) = none
    by_cases hc : 0 ≤ c ∧ c = t.1 - 1
    · rw [if_pos hc] at h ⊢; exact kinT_none ts cs ds _ h
    · rw [if_neg hc]
/-- a node's children, from the last to the first -/
def kids (x : Nd) : List Int := if two x.1 = true then [x.2.2.1, x.2.1] else if one x.1 = true then [x.2.1] else []
theorem grow_kin (ts : List Tr) (x : Nd) : growT ts x = kinT ts ((ts.length : Int), 1) (kids x) := by
  unfold growT kids
  by_cases h2 : two x.1 = true
  · rw [if_pos h2, if_pos h2]
    rfl
  · rw [if_neg h2, if_neg h2]
    by_cases h1 : one x.1 = true
    · rw [if_pos h1, if_pos h1]
      rfl
    · rw [if_neg h1, if_neg h1]
      rfl
/-- the k-th child that is yielded, with its index -/
def kidAt (N : Nat) (a b : Int) (k : Nat) : Int × Int := ((N : Int) - 1 - k, if N - 1 - k = 0 then a else b)
theorem kids_upto (op a b n : Int) : (uptoN (kidAt (arityN op).toNat a b) (arityN op).toNat).map Prod.snd = kids (op, a, b, n) := by
  unfold kids arityN
  by_cases h2 : two op = true
  · rw [if_pos h2, if_pos h2]; rfl
  · rw [if_neg h2, if_neg h2]
    by_cases h1 : one op = true
    · rw [if_pos h1, if_pos h1]; rfl
    · rw [if_neg h1, if_neg h1]; rfl
theorem uptoN_take {α : Type} (f : Nat → α) (j N : Nat) (h : j ≤ N) : ∃ zs, uptoN f N = uptoN f j ++ zs := by
  refine ⟨(uptoN f N).drop j, ?_⟩
  have : uptoN f j = (uptoN f N).take j := by
    unfold uptoN
    rw [← List.map_take, List.take_range, Nat.min_eq_left h]
  rw [this, List.take_append_drop]
theorem arity_le (op : Int) : (arityN op).toNat ≤ 2 := by
  unfold arityN
  split
  · decide
  · split <;> decide
end Nt
namespace Go.Proofs.YtifepoefeamboaaGreatDoor
open Go Go.RowKit Nt Go.Shelf
attribute [local go_sem] Oper.semAt_some

theorem backward_in (n : Nat) (X : Option Addr) (lx cx : Nat) (w : World) :
    CallsIn Fence.wide n Tryz.prog 129 #[.slice X lx cx] w fun e w' => e = .returned (.func (.func 150) #[] #[.pointer (some ⟨w.heap.size, 0, none⟩)]) ∧ w' = w.alloc (.cells #[.slice X lx cx] 29) := by
  refine callsIn_of_wp Tryz.func129 rfl trivial ?_ rfl
  simp only [Tryz.ntmps129, List.size_toArray, List.length_cons, List.length_nil, Nat.reduceAdd, Nat.reduceSub, Array.replicate_succ, Array.replicate_zero, List.push_toArray, List.append_toArray, List.nil_append, List.cons_append]
  gi_wp2
  go_ret
  exact ⟨rfl, rfl⟩

set_option maxRecDepth 100000 in
set_option maxHeartbeats 4000000 in
theorem backward1_in (n : Nat) (hn : 1 ≤ n) (l Bx g N : Nat) (a b : Int) (hN : N ≤ 2) (J Jx : List (Int × Int) → World → Prop)
    (hY : ∀ pre x W, J pre W → pre.length < N → YieldAt Fence.wide (n - 1) Tryz.prog l #[.int .i64 x.1, .int .i64 x.2] W fun e W' =>
      (e = .returned (.bool true) ∧ J (pre ++ [x]) W' ∧ KZ g Bx W W') ∨ (e = .returned (.bool false) ∧ Jx (pre ++ [x]) W'))
    (W : World) (hBx : Boxed W Bx 29 (.slice (some ⟨g, 0, none⟩) N 2)) (hg : W.heap[g]? = some (.cells #[.int .i64 a, .int .i64 b] 3 (0, 0))) (h0 : J [] W) :
    CallsIn Fence.wide n Tryz.prog 150 #[.func (.yield l) #[] #[], .pointer (some ⟨Bx, 0, none⟩)] W fun e W' => (∃ v, e = .returned v) ∧
      ((∃ ys, ys = uptoN (kidAt N a b) N ∧ J ys W') ∨ (∃ pre, (∃ k, k ≤ N ∧ pre = uptoN (kidAt N a b) k) ∧ Jx pre W')) := by
  refine callsIn_of_wp Tryz.func150 rfl trivial ?_ rfl
  simp only [Tryz.ntmps150, List.size_toArray, List.length_cons, List.length_nil, Nat.reduceAdd, Nat.reduceSub, Array.replicate_succ, Array.replicate_zero, List.push_toArray, List.append_toArray, List.nil_append, List.cons_append]
  have cb0 := hBx.cell
  have hw0 : IntKind.i64.wrap ((N : Int) - 1) = (N : Int) - 1 := IntWalk.i64_in _ (by omega)
  gi_wp2
  clear cb0
  gi_loopw [3] (fun i wr => ∃ k : Nat, k ≤ N ∧ i = .int .i64 ((N : Int) - 1 - k) ∧ J (uptoN (kidAt N a b) k) wr ∧ KZ g Bx W wr) (fun i _ => (intOf i + 1).toNat)
  case atStart => exact ⟨0, Nat.zero_le _, by simp, h0, KZ.refl _ _ _⟩
  case round =>
    obtain ⟨k, hk, rfl, hJs, hkz⟩ := hrel
    have hby : Boxed wr Bx 29 (.slice (some ⟨g, 0, none⟩) N 2) := hkz.2.2.trans hBx
    have hgy := hkz.2.1.trans hg
    by_cases hlt : k < N
    · obtain ⟨fn, tmps, assign, body, hy, hR⟩ := hY _ (kidAt N a b k) wr hJs (by rw [uptoN_length]; exact hlt)
      have cb := hby.cell
      obtain ⟨j, hj⟩ : ∃ j : Nat, j = N - 1 - k := ⟨_, rfl⟩
      have cc : wr.cell? ⟨g, j, none⟩ = some (.int .i64 (kidAt N a b k).2) := by
        rw [cell_of_row wr g j _ 3 (0, 0) hgy]
        unfold kidAt
        rw [← hj]
        rcases (show j = 0 ∨ j = 1 by omega) with rfl | rfl <;> rfl
      have e1 : (N : Int) - 1 - k = (j : Int) := by omega
      have e2 : (kidAt N a b k).1 = (j : Int) := by unfold kidAt; exact e1
      have hjN : (j : Int) < N := by omega
      have hw1 : IntKind.i64.wrap ((j : Int) - 1) = (j : Int) - 1 := IntWalk.i64_in _ (by omega)
      rw [e2] at hy
      rw [e1]
      have HN : Hid ((N : Int) - 1 - ((k + 1 : Nat) : Int) = (j : Int) - 1) := by show _ = _; omega
      have HM : Hid ((j : Int) = (N : Int) - 1 - k) := e1.symm
      generalize (kidAt N a b k).2 = z at *
      clear e1 e2 hj hY hw0
      gi_wp2
      refine hR.mono ?_
      rintro e W3 (⟨rfl, hJ3, hk3⟩ | ⟨rfl, hJx3⟩)
      · have hkz3 := hkz.trans hk3
        gi_wp2
        go_roundw
        case rel => exact ⟨k + 1, by omega, by rw [HN.out], by rw [uptoN_succ]; exact hJ3, hkz3⟩
        case measure => first | (simp [intOf]; omega) | simp [intOf]
      · gi_wp2
        refine bodyPost_ret (results_none rfl _ _ _) rfl ?_
        exact ⟨⟨_, rfl⟩, .inr ⟨_, ⟨k + 1, by omega, (uptoN_succ _ _).symm⟩, hJx3⟩⟩
    · obtain rfl : k = N := by omega
      have hneg : (k : Int) - 1 - k = -1 := by omega
      rw [hneg]
      gi_wp2
      go_end0
      exact ⟨⟨_, rfl⟩, .inl ⟨_, rfl, hJs⟩⟩
theorem backward_stops (n : Nat) (hn : 1 ≤ n) (Bx g N : Nat) (a b : Int) (hN : N ≤ 2) (w : World) (hBx : Boxed w Bx 29 (.slice (some ⟨g, 0, none⟩) N 2)) (hg : w.heap[g]? = some (.cells #[.int .i64 a, .int .i64 b] 3 (0, 0))) (hgl : g < w.heap.size) :
    SeqStopsK Fence.wide n Tryz.prog 150 #[.pointer (some ⟨Bx, 0, none⟩)] (fun x : Int × Int => #[.int .i64 x.1, .int .i64 x.2]) (KZ g Bx) (fun ys => ys = uptoN (kidAt N a b) N) (fun pre => ∃ k, k ≤ N ∧ pre = uptoN (kidAt N a b) k) N w := fun l J Jx W hW _ _ hY h0 =>
  backward1_in n hn l Bx g N a b hN J Jx hY W ((hW.block Bx hBx.lt).trans hBx) ((hW.block g hgl).trans hg) h0
end Go.Proofs.YtifepoefeamboaaGreatDoor
namespace Nt
open Go Go.RowKit
theorem arr_after {w w1 : World} {o o' : Obj} (bb : Below ((w.alloc o).alloc o').drew.heap.size ((w.alloc o).alloc o').drew w1) : w1.heap[w.heap.size + 1]? = some o' ∧ Below (w.alloc o).heap.size (w.alloc o) w1 := by
  have b1 := undrewN bb
  refine ⟨(b1.block (w.heap.size + 1) (by simp)).trans ?_, (below_one (w.alloc o) o').trans (b1.mono (by simp))⟩
  have h := heap_alloc_new (w.alloc o) o'
  rw [World.size_alloc] at h
  exact h
end Nt
namespace Go.Proofs.YtifepoefeamboaaGreatDoor
open Go Go.RowKit Nt

set_option maxHeartbeats 3200000 in
theorem children_any (op a b n : Int) (w : World) :
    Calls Tryz.prog 130 #[.agg #[.int .i64 op, .int .i64 a, .int .i64 b, .int .i64 n]] w fun e w' => ∃ g, e = .returned (.slice (some ⟨g, 0, none⟩) (arityN op).toNat 2) ∧ w.heap.size ≤ g ∧ w'.heap[g]? = some (.cells #[.int .i64 a, .int .i64 b] 3 (0, 0)) ∧ Below w.heap.size w w' := by
  have HB1 := Lib.hid (below_one w (.cells #[.int .i64 op, .int .i64 a, .int .i64 b, .int .i64 n] 114))
  have HT := Lib.hid (NodeAt.new w 114 op a b n)
  obtain ⟨m, hm⟩ : ∃ m, arityN op = m := ⟨_, rfl⟩
  have HM := Lib.hid hm
  have hr : 0 ≤ m ∧ m ≤ 2 := by
    rw [← hm]
    unfold arityN
    split
    · omega
    · split <;> omega
  obtain ⟨hm0, hm2⟩ := hr
  rw [hm]
  clear hm
  · go_enter Tryz.func130, Tryz.ntmps130
    go_wp2_with fail
    go_region_with (first
      | (go_at_call 128; refine (implArity_any op a b n _).mono ?_; rintro e w1 ⟨rfl, bb⟩; have bb := undrewN bb; have HB2 := Lib.hid (belowN_on HB1.out bb); have HT1 := Lib.hid (HT.out.on bb); obtain ⟨t0, t1, t2, t3⟩ := HT1.out.four; rw [HM.out])
      | (go_at_call 128; refine (implArity_any op a b n _).mono ?_; rintro e w1 ⟨rfl, bb⟩; obtain ⟨hg2, bb⟩ := arr_after bb; have HG2 := Lib.hid hg2; have HB2 := Lib.hid (belowN_on HB1.out bb); have HT1 := Lib.hid (HT.out.on bb); clear hg2 bb; obtain ⟨t0, t1, t2, t3⟩ := HT1.out.four; rw [HM.out]))
    all_goals
      go_wp2
      go_ret
      first
        | exact ⟨_, rfl, HB2.out.size, heap_alloc_new _ _, belowN_on HB2.out (below_one _ _)⟩
        | exact ⟨_, rfl, by simp, HG2.out, HB2.out⟩
end Go.Proofs.YtifepoefeamboaaGreatDoor
namespace Nt
open Go
/-- the last one idle -/
def idle (o : Oper) : Oper := { o with op := .move (.const (.bool true)), dst := none }
/-- what is asked of the operations' form -/
def lastOK (front : List Oper) (oL : Oper) : Bool :=
  (front.all fun o => o.guard.isNone && (match o.op with | .defer _ => false | _ => true)) && oL.guard.isNone &&
  ((List.range front.length).all fun j => oL.after.any fun e => e.on == j && Region.binds .any e) &&
  ((List.range (front.length + 1)).all fun i => match (front ++ [oL])[i]? with | none => true | some o => o.after.all fun e => decide (e.on < i))
section
variable {F : Fence} {n : Nat} {P : Program} {front : List Oper} {oL : Oper} {Q : Exit → Act → World → Prop} {C : World → Prop}
theorem last_guard (h : lastOK front oL = true) : ∀ o ∈ front, o.guard = none := by
  unfold lastOK at h
  simp only [Bool.and_eq_true, List.all_eq_true, Option.isNone_iff_eq_none] at h
  exact fun o ho => (h.1.1.1 o ho).1
theorem last_guardL (h : lastOK front oL = true) : oL.guard = none := by
  unfold lastOK at h
  simp only [Bool.and_eq_true, List.all_eq_true, Option.isNone_iff_eq_none] at h
  exact h.1.1.2
theorem last_defer (h : lastOK front oL = true) : ∀ o ∈ front, ∀ c, o.op ≠ .defer c := by
  unfold lastOK at h
  simp only [Bool.and_eq_true, List.all_eq_true, Option.isNone_iff_eq_none] at h
  intro o ho c e
  have := (h.1.1.1 o ho).2
  rw [e] at this
  cases this
theorem last_all (h : lastOK front oL = true) : ∀ j, j < front.length → ∃ e ∈ oL.after, Region.binds .any e = true ∧ e.on = j := by
  unfold lastOK at h
  simp only [Bool.and_eq_true, List.all_eq_true] at h
  intro j hj
  have := h.1.2 j (List.mem_range.2 hj)
  rw [Array.any_eq_true] at this
  obtain ⟨i, hi, hq⟩ := this
  simp only [Bool.and_eq_true, beq_iff_eq] at hq
  exact ⟨oL.after[i], Array.getElem_mem hi, hq.2, hq.1⟩
theorem last_less (h : lastOK front oL = true) : ∀ (i : Nat) (o : Oper), (front ++ [oL])[i]? = some o → ∀ e ∈ o.after, e.on < i := by
  unfold lastOK at h
  simp only [Bool.and_eq_true, List.all_eq_true] at h
  intro i o hi e he
  have hlt : i < front.length + 1 := by
    have := (List.getElem?_eq_some_iff.1 hi).1
    simpa using this
  have := h.2 i (List.mem_range.2 hlt)
  rw [hi] at this
  have this : (o.after.all fun e => decide (e.on < i)) = true := this
  rw [Array.all_eq_true_iff_forall_mem] at this
  simpa using this e he
theorem least_one {p : Nat → Prop} : ∀ n, p n → ∃ i, p i ∧ ∀ j, j < i → ¬ p j := by
  intro n
  induction n using Nat.strongRecOn with
  | _ n ih =>
    intro h
    by_cases hx : ∃ j, j < n ∧ p j
    · obtain ⟨j, hj, hp⟩ := hx
      exact ih j hj hp
    · exact ⟨n, h, fun j hj hp => hx ⟨j, hj, hp⟩⟩
theorem idle_guard {o : Oper} (h : o.guard = none) : (idle o).guard = none := h
theorem wanted_none {o : Oper} (h : o.guard = none) (_y : Array Value → Array Value) (ops : Array Oper) (a : Act) : Region.wanted o (yielded ops a.tmps) = true := by
  unfold Region.wanted
  rw [h]
theorem front_at {i : Nat} {o : Oper} (h : (front ++ [oL])[i]? = some o) : (i < front.length ∧ o ∈ front ∧ (front ++ [idle oL])[i]? = some o) ∨ (i = front.length ∧ o = oL ∧ (front ++ [idle oL])[i]? = some (idle oL)) := by
  by_cases hi : i < front.length
  · rw [List.getElem?_append_left hi] at h
    exact .inl ⟨hi, List.mem_of_getElem? h, by rw [List.getElem?_append_left hi]; exact h⟩
  · have hlt := (List.getElem?_eq_some_iff.1 h).1
    simp at hlt
    obtain rfl : i = front.length := by omega
    rw [List.getElem?_append_right (Nat.le_refl _)] at h
    simp at h
    exact .inr ⟨rfl, h.symm, by rw [List.getElem?_append_right (Nat.le_refl _)]; simp⟩
theorem any_last (hk : lastOK front oL = true) : ∀ (fuel : Nat) (listed : Array Bool) (a : Act) (w : World), C w → listed.size = front.length + 1 → listed.toList.count false = fuel → listed.getD front.length true = false →
    wpAnyQIn F n P .any (front ++ [idle oL]).toArray C (fun a' => ∀ w', C w' → wpListIn F n P (front ++ [oL]).toArray Q [oL] a' w') fuel listed a → wpAnyIn F n P .any (front ++ [oL]).toArray Q fuel listed a w
  | 0, listed, a, w, _, hs, hc, hu, _ => by
    exfalso
    rw [List.count_eq_zero] at hc
    apply hc
    have hlt : front.length < listed.size := by omega
    rw [Array.getD_eq_getD_getElem?, Array.getElem?_eq_getElem hlt] at hu
    have hu : listed[front.length] = false := hu
    rw [← hu]
    exact Array.getElem_mem_toList hlt
  | fuel + 1, listed, a, w, hw, hs, hc, hu, hq => by
    have hsame : ∀ (i : Nat) (o : Oper), (front ++ [oL]).toArray[i]? = some o → ∃ o', (front ++ [idle oL]).toArray[i]? = some o' ∧ o'.after = o.after := by
      intro i o ho
      have ho : (front ++ [oL])[i]? = some o := by simpa using ho
      rcases front_at ho with ⟨_, _, h⟩ | ⟨_, rfl, h⟩
      · exact ⟨o, by simpa using h, rfl⟩
      · exact ⟨idle o, by simpa using h, rfl⟩
    have hrd : ∀ i, i ∈ Region.ready .any (front ++ [oL]).toArray listed → i ∈ Region.ready .any (front ++ [idle oL]).toArray listed := by
      intro i hi
      obtain ⟨h1, o, h2, h3⟩ := mem_ready.1 hi
      obtain ⟨o', h4, h5⟩ := hsame i o h2
      exact mem_ready.2 ⟨h1, o', h4, by rw [h5]; exact h3⟩
    refine ⟨fun h0 => ?_, fun i hi => ?_⟩
    · exfalso
      -- the least one that has not come up is ready
      obtain ⟨i, hi, hmin⟩ : ∃ i, (i ≤ front.length ∧ listed.getD i true = false) ∧ ∀ j, j < i → ¬ (j ≤ front.length ∧ listed.getD j true = false) := by
        have hex : ∃ i, i ≤ front.length ∧ listed.getD i true = false := ⟨front.length, Nat.le_refl _, hu⟩
        obtain ⟨i, hi⟩ := hex
        exact least_one i hi
      have hlt : i < (front ++ [oL]).length := by simp; omega
      have ho : (front ++ [oL])[i]? = some (front ++ [oL])[i] := List.getElem?_eq_getElem hlt
      have : i ∈ Region.ready .any (front ++ [oL]).toArray listed := mem_ready.2 ⟨hi.2, (front ++ [oL])[i], by rw [List.getElem?_toArray]; exact ho, fun e he _ => by
        have h1 := last_less hk i _ ho e he
        have h2 := hmin e.on h1
        have hlt2 : e.on < listed.size := by omega
        rw [Array.getD_eq_getD_getElem?, Array.getElem?_eq_getElem hlt2] at h2 ⊢
        show listed[e.on] = true
        cases hv : listed[e.on] with
        | true => rfl
        | false => exact absurd ⟨by omega, by show listed[e.on] = false; exact hv⟩ h2⟩
      rw [h0] at this
      cases this
    · have hq' := hq.2 i (hrd i hi)
      obtain ⟨h1, o, h2, h3⟩ := mem_ready.1 hi
      have h2' : (front ++ [oL])[i]? = some o := by simpa using h2
      have hil : i < listed.size := by
        have := (List.getElem?_eq_some_iff.1 h2').1
        simp at this
        omega
      rcases front_at h2' with ⟨hif, hof, h4⟩ | ⟨rfl, rfl, h4⟩
      · have h4' : (front ++ [idle oL]).toArray[i]? = some o := by simpa using h4
        unfold qOpIn at hq'
        simp only [h4'] at hq'
        unfold wpOpIn
        simp only [h2]
        rw [if_pos (wanted_none (last_guard hk o hof) id _ a)] at hq' ⊢
        obtain ⟨ha, v, hv, hn⟩ := hq'
        have ih := fun a' w' (hw' : C w') => any_last hk fuel (listed.setIfInBounds i true) a' w' hw' (by simpa using hs) (by
          have hv : listed[i] = false := by
            rw [Array.getD_eq_getD_getElem?, Array.getElem?_eq_getElem hil] at h1
            exact h1
          have e1 : listed.toList[i]'(by simpa using hil) = false := by simpa using hv
          rw [Array.toList_setIfInBounds, List.count_set (h := by simpa using hil), e1, hc]
          show fuel + 1 - 1 + 0 = fuel
          omega) (by
          rw [Array.getD_eq_getD_getElem?, Array.getElem?_setIfInBounds_ne (by omega), ← Array.getD_eq_getD_getElem?]
          exact hu)
        have hr := hv w hw
        unfold Oper.quietAtIn at hr
        unfold Oper.wpIn
        refine ⟨ha w hw, ?_⟩
        rw [Oper.semAt_plain F _ _ (last_defer hk o hof)]
        generalize (execOp a.eval o).run P w = r at *
        cases r with
        | ok x w' =>
          cases x <;> simp only [Oper.quietUponIn] at hr
          case value u =>
            obtain ⟨rfl, rfl⟩ := hr
            exact ih _ _ hw hn
          case skip =>
            obtain ⟨rfl, rfl⟩ := hr
            exact ih _ _ hw hn
          case enter f args =>
            obtain ⟨rfl, hd, hcall⟩ := hr
            refine ⟨hd, CallsIn.mono hcall fun e w'' he => ?_⟩
            obtain ⟨rfl, hw''⟩ := he
            exact ih _ _ hw'' hn
        | halt x w' => cases hr
      · have h4' : (front ++ [idle o]).toArray[front.length]? = some (idle o) := by rw [List.getElem?_toArray]; exact h4
        unfold qOpIn at hq'
        simp only [h4'] at hq'
        rw [if_pos (wanted_none (o := idle o) (idle_guard (last_guardL hk)) id _ a)] at hq'
        obtain ⟨_, v, _, hn⟩ := hq'
        have hn : wpAnyQIn F n P .any (front ++ [idle o]).toArray C _ fuel (listed.setIfInBounds front.length true) a := hn
        have hall : ∀ j, j < front.length + 1 → (listed.setIfInBounds front.length true).getD j true = true := by
          intro j hj
          by_cases e : j = front.length
          · subst e
            rw [Array.getD_eq_getD_getElem?, Array.getElem?_setIfInBounds_self_of_lt hil]
            rfl
          · obtain ⟨d, hd, hb, rfl⟩ := last_all hk j (by omega)
            have := h3 d hd hb
            rw [Array.getD_eq_getD_getElem?, Array.getElem?_setIfInBounds_ne (by omega)]
            have hdl : d.on < listed.size := by omega
            rw [Array.getD_eq_getD_getElem?, Array.getElem?_eq_getElem hdl] at this
            rw [Array.getElem?_eq_getElem hdl]
            exact this
        have hnone : ∀ (ops : Array Oper), ops.size = front.length + 1 → Region.ready .any ops (listed.setIfInBounds front.length true) = [] := by
          intro ops hsz
          rw [List.eq_nil_iff_forall_not_mem]
          intro j hj
          obtain ⟨q1, o2, q2, _⟩ := mem_ready.1 hj
          have := (Array.getElem?_eq_some_iff.1 q2).1
          rw [hall j (by omega)] at q1
          cases q1
        have hQf : ∀ w', C w' → wpListIn F n P (front ++ [o]).toArray Q [o] a w' := by
          cases fuel with
          | zero => exact hn.2
          | succ fuel => exact hn.1 (hnone _ (by simp))
        have := hQf w hw
        unfold wpListIn at this
        unfold wpOpIn
        simp only [h2]
        rw [if_pos (wanted_none (last_guardL hk) id _ a)] at this ⊢
        exact Oper.wpIn_mono (fun a' w' h => wpAnyIn_done (hnone _ (by simp)) h fuel) this
theorem region_last {id : Nat} {a : Act} {w : World} (hk : lastOK front oL = true) (hm : P.follows .mixedOrders = true) (hB : Region.lexB .any (front ++ [idle oL]).toArray = true)
    (h : wpQuietIn F n P (front ++ [idle oL]).toArray (fun w' => ∃ m, w' = w.drewN m) (fun a' => ∀ w', (∃ m, w' = w.drewN m) → wpListIn F n P (front ++ [oL]).toArray Q [oL] a' w') (front ++ [idle oL]) a) :
    (Code.region id (front ++ [oL]).toArray true).wpIn F n P Q a w := by
  refine wpIn_region_any hm ?_
  simp only [Region.lexB, Bool.and_eq_true] at hB
  have h1 := wpAnyQIn_lex (F := F) (n := n) (C := fun w' => ∃ m, w' = w.drewN m) (md := .any) hB.1 (front ++ [idle oL]) 0 (Array.replicate (front.length + 1) false) a (by simp) (by simpa using hB.2) h
  have h2 := any_last (F := F) (n := n) (P := P) (Q := Q) (C := fun w' => ∃ m, w' = w.drewN m) hk (front.length + 1) (Array.replicate (front.length + 1) false) a { w with drawn := w.drawn + 1 } ⟨1, rfl⟩ (by simp) (by simp) (by simp) (by simpa using h1)
  simpa using h2
theorem region_lastL {l : List Oper} {id : Nat} {a : Act} {w : World} (hne : l ≠ []) (hk : lastOK l.dropLast (l.getLast hne) = true) (hm : P.follows .mixedOrders = true) (hB : Region.lexB .any (l.dropLast ++ [idle (l.getLast hne)]).toArray = true)
    (h : wpQuietIn F n P (l.dropLast ++ [idle (l.getLast hne)]).toArray (fun w' => ∃ m, w' = w.drewN m) (fun a' => ∀ w', (∃ m, w' = w.drewN m) → wpListIn F n P l.toArray Q [l.getLast hne] a' w') (l.dropLast ++ [idle (l.getLast hne)]) a) :
    (Code.region id l.toArray true).wpIn F n P Q a w := by
  have e : l.dropLast ++ [l.getLast hne] = l := List.dropLast_concat_getLast hne
  have := region_last (F := F) (n := n) (P := P) (Q := Q) (id := id) (a := a) (w := w) hk hm hB (by rw [e]; exact h)
  rwa [e] at this
end
end Nt
namespace Nt
open Go Go.RowKit
/-- a tree's struct lies in block b -/
def TrAt (w : World) (b : Nat) (t : TypeId) (x : Tr) : Prop := w.heap[b]? = some (.cells #[.int .i64 x.1, .int .i64 x.2] t (0, 0))
section
variable {w w' : World} {b : Nat} {t : TypeId} {x : Tr}
theorem TrAt.c0 (h : TrAt w b t x) : w.cell? ⟨b, 0, none⟩ = some (.int .i64 x.1) := by rw [cell_of_row w b 0 _ t (0, 0) h]; rfl
theorem TrAt.c1 (h : TrAt w b t x) : w.cell? ⟨b, 1, none⟩ = some (.int .i64 x.2) := by rw [cell_of_row w b 1 _ t (0, 0) h]; rfl
theorem TrAt.fz (h : TrAt w b t x) (i : Nat) : w.frozen? ⟨b, i, none⟩ = false := frozen_of_row w b i _ t h
theorem TrAt.lt (h : TrAt w b t x) : b < w.heap.size := by
  rcases Nat.lt_or_ge b w.heap.size with hlt | hge
  · exact hlt
  · unfold TrAt at h; rw [Array.getElem?_eq_none hge] at h; cases h
theorem TrAt.on (h : TrAt w b t x) (hb : Below w.heap.size w w') : TrAt w' b t x := (hb.block b h.lt).trans h
theorem TrAt.new (w : World) (t : TypeId) (x : Tr) : TrAt (w.alloc (.cells #[.int .i64 x.1, .int .i64 x.2] t)) w.heap.size t x := heap_alloc_new w _
theorem TrAt.set2 (h : TrAt w b t x) (y : Tr) : TrAt ((w.setCell ⟨b, 0, none⟩ (.int .i64 y.1)).setCell ⟨b, 1, none⟩ (.int .i64 y.2)) b t y := by
  have h1 := heap_setCell_same _ b 1 _ t (.int .i64 y.2) (heap_setCell_same w b 0 _ t (.int .i64 y.1) h)
  unfold TrAt
  rw [h1]
  rfl
end
theorem set2_grown (w : World) (b : Nat) (u v : Value) : w.grownBy ((w.setCell ⟨b, 0, none⟩ u).setCell ⟨b, 1, none⟩ v) (some b) := grown_set (grown_set (World.grownBy.refl _ _) _) _
/-- trees as cells -/
def flatT (ts : List Tr) : List Value := ts.flatMap fun t => [.int .i64 t.1, .int .i64 t.2]
theorem flatT_snoc (ts : List Tr) (t : Tr) : flatT (ts ++ [t]) = flatT ts ++ [.int .i64 t.1, .int .i64 t.2] := by unfold flatT; simp
theorem flatT_get : ∀ (ts : List Tr) (i : Nat), i < ts.length → (flatT ts)[i * 2]? = some (.int .i64 (ts.getD i tr0).1) ∧ (flatT ts)[i * 2 + 1]? = some (.int .i64 (ts.getD i tr0).2)
  | [], i, h => by simp at h
  | t :: ts, 0, _ => ⟨rfl, rfl⟩
  | t :: ts, i + 1, h => by
    have ih := flatT_get ts i (by simpa using h)
    have e : flatT (t :: ts) = .int .i64 t.1 :: .int .i64 t.2 :: flatT ts := rfl
    rw [e, show (i + 1) * 2 = i * 2 + 1 + 1 by omega]
    exact ⟨by simpa using ih.1, by simpa using ih.2⟩
/-- the slice reads as trees -/
def RdTr (w : World) (V : Option Addr) (n : Nat) (ts : List Tr) : Prop := ∃ g, V = some ⟨g, 0, none⟩ ∧ g < w.heap.size ∧ ∀ i, i < n → w.cell? ⟨g, i * 2, none⟩ = some (.int .i64 (ts.getD i tr0).1) ∧ w.cell? ⟨g, i * 2 + 1, none⟩ = some (.int .i64 (ts.getD i tr0).2)
theorem own_rdT {w : World} {base n c : Nat} {e : TypeId} {V : Option Addr} {ts : List Tr} (h : w.ownsRow base e 2 (.slice V n c) n (flatT ts)) (hl : ts.length = n) (hn : 0 < n) : RdTr w V n ts := by
  rcases h.2 with ⟨_, h0⟩ | ⟨g, cap, cur, e', hb, hh, hnc, _, hs, ht⟩
  · omega
  · injection e' with e1
    refine ⟨g, e1, ?_, fun i hi => ?_⟩
    · rcases Nat.lt_or_ge g w.heap.size with hlt | hge
      · exact hlt
      · rw [Array.getElem?_eq_none hge] at hh; cases hh
    · have q := flatT_get ts i (by omega)
      have hc : ∀ j, j < n * 2 → w.cell? ⟨g, j, none⟩ = (flatT ts)[j]? := fun j hj => by
        rw [cell_of_row w g j _ e _ hh, ← ht, List.getElem?_take, if_pos hj, Array.getElem?_toList]
      exact ⟨(hc _ (by omega)).trans q.1, (hc _ (by omega)).trans q.2⟩
theorem RdTr.on {w w' : World} {V : Option Addr} {n : Nat} {ts : List Tr} (h : RdTr w V n ts) (hb : Below w.heap.size w w') : RdTr w' V n ts := by
  obtain ⟨g, rfl, hg, hc⟩ := h
  exact ⟨g, rfl, by have := hb.size; omega, fun i hi => ⟨(hb.cell (p := ⟨g, i * 2, none⟩) hg).trans (hc i hi).1, (hb.cell (p := ⟨g, i * 2 + 1, none⟩) hg).trans (hc i hi).2⟩⟩
/-- the marks of the ranges that are over -/
def Marks (B : Nat) : List Deferred → Nat → World → Prop
  | [], _, _ => True
  | d :: ds, N, w => ∃ D, d = { target := .collected D, args := #[] } ∧ B ≤ D ∧ D < N ∧ w.heap[D]? = some (.deferred (some [])) ∧ Marks B ds D w
theorem Marks.keep {B : Nat} : ∀ {ds : List Deferred} {N : Nat} {w w' : World}, Marks B ds N w → (∀ D, D < N → w.heap[D]? = some (.deferred (some [])) → w'.heap[D]? = some (.deferred (some []))) → Marks B ds N w'
  | [], _, _, _, _, _ => trivial
  | _ :: _, _, _, _, ⟨D, h1, h2, h3, h4, h5⟩, hk => ⟨D, h1, h2, h3, hk D h3 h4, h5.keep fun D' hD' => hk D' (by omega)⟩
theorem Marks.le {B : Nat} : ∀ {ds : List Deferred} {N M : Nat} {w : World}, Marks B ds N w → N ≤ M → Marks B ds M w
  | [], _, _, _, _, _ => trivial
  | _ :: _, _, _, _, ⟨D, h1, h2, h3, h4, h5⟩, hk => ⟨D, h1, h2, by omega, h4, h5⟩
/-- what is left behind the marks: all cells, and all below -/
def Rest (B : Nat) (w w' : World) : Prop := Below B w w' ∧ ∀ (b : Nat) (cs : Array Value) (t : TypeId) (fr : Nat × Nat), w.heap[b]? = some (Obj.cells cs t fr) → w'.heap[b]? = some (Obj.cells cs t fr)
theorem leaves_marks {F : Fence} {n : Nat} {P : Program} {fn : Func} {tmps : Array Value} {R : Ending → World → Prop} {B : Nat} : ∀ (ds : List Deferred) (N : Nat) (w : World), Marks B ds N w → B ≤ w.heap.size → (∀ w', Rest B w w' → ∃ v, (results fn tmps).run P w' = .ok v w' ∧ R (.returned v) w') → LeavesInM F n P fn tmps R ds .returning w
  | [], _, w, _, _, h => h w ⟨Below.refl _ _, fun _ _ _ _ h => h⟩
  | _ :: ds, _, w, ⟨D, rfl, hB, hN, hD, hm⟩, hs, h => by
    have hg := grownBy_putObj' w D (.deferred none)
    have hb : Below B w (w.putObj D (.deferred none)) := ⟨hg.os, hg.tape, hg.output, hg.size, fun k hk => hg.block k (by omega) (fun e => by injection e with e; omega)⟩
    refine ⟨by simp, .inl ⟨D, _, rfl, run_takeDeferred hD, leaves_marks ds D _ (hm.keep fun D' h1 h2 => ?_) (Nat.le_trans hs hg.size) fun w' hw' => h w' ⟨hb.trans hw'.1, fun b cs t fr hc => hw'.2 b cs t fr ?_⟩⟩⟩
    · exact (hg.block D' (by have := (Array.getElem?_eq_some_iff.1 hD).1; omega) (fun e => by injection e with e; omega)).trans h2
    · refine (hg.block b ((Array.getElem?_eq_some_iff.1 hc).1) (fun e => ?_)).trans hc
      injection e with e
      subst e
      rw [hD] at hc
      cases hc
theorem grown_trans_some {A B C : World} {r : Nat} (h : A.grownBy B (some r)) (k : B.grownBy C (some r)) : A.grownBy C (some r) :=
  ⟨k.os.trans h.os, k.tape.trans h.tape, k.output.trans h.output, Nat.le_trans h.size k.size, fun i hi hne => (k.block i (Nat.lt_of_lt_of_le hi h.size) hne).trans (h.block i hi hne)⟩
/-- a box that is stored what it holds -/
theorem boxed_same {W : World} {B : Nat} {t : TypeId} {v : Value} (h : Boxed W B t v) : (W.setCell ⟨B, 0, none⟩ v).heap[B]? = W.heap[B]? := (Boxed.set v h).trans h.symm
theorem grown_far {A B C : World} {r : Nat} {row : Option Nat} (h : A.grownBy B (some r)) (k : B.grownBy C row) (hr : ∀ q, row = some q → A.heap.size ≤ q) : A.grownBy C (some r) :=
  ⟨k.os.trans h.os, k.tape.trans h.tape, k.output.trans h.output, Nat.le_trans h.size k.size, fun i hi hne => (k.block i (Nat.lt_of_lt_of_le hi h.size) (fun e => by have := hr i e.symm; omega)).trans (h.block i hi hne)⟩
theorem own_keepN {w w' : World} {base n c size : Nat} {e : TypeId} {A : Option Addr} {xs : List Value} (h : w.ownsRow base e size (.slice A n c) n xs) (hb : Below w.heap.size w w') : w'.ownsRow base e size (.slice A n c) n xs := by
  refine h.kept (row := none) (below_grown hb none) ?_
  rcases h.2 with ⟨e', _⟩ | ⟨g, cap, cur, e', _⟩
  · exact .inl (by rw [e']; rfl)
  · rw [e']; exact .inr (by simp [Value.ownBlock])
theorem cell_two_new (w : World) (e : TypeId) (x y : Value) : ∀ (j : Nat) (u : Value), [x, y][j]? = some u → (w.alloc (.cells #[x, y] e)).cell? ((⟨w.heap.size, 0, none⟩ : Addr).add j) = some u := by
  intro j u hj
  rw [addN_none, Nat.zero_add, cell_of_row _ w.heap.size j _ e (0, 0) (heap_alloc_new w _)]
  simpa using hj
theorem kinT_bounds {ts : List Tr} {k : Nat} (hN : Nest ts) (hl : ts.length = k) : ∀ (cs : List Int) (t u : Tr), 0 ≤ t.1 → t.1 ≤ k → 1 ≤ t.2 → t.2 ≤ k + 1 → kinT ts t cs = some u → 0 ≤ u.1 ∧ u.1 ≤ k ∧ 1 ≤ u.2 ∧ u.2 ≤ k + 1
  | [], t, u, h1, h2, h3, h4, h => by
    have h : some t = some u := h
    injection h with h
    subst h
    exact ⟨h1, h2, h3, h4⟩
  | c :: cs, t, u, h1, h2, h3, h4, h => by
    have h : (if 0 ≤ c ∧ c = t.1 - 1 then kinT ts ((ts.getD c.toNat tr0).1, max t.2 ((ts.getD c.toNat tr0).2 + 1)) cs else none) = some u := h
    by_cases hc : 0 ≤ c ∧ c = t.1 - 1
    · rw [if_pos hc] at h
      have hn := (hN c.toNat (by omega)).1
      exact kinT_bounds hN hl cs ((ts.getD c.toNat tr0).1, max t.2 ((ts.getD c.toNat tr0).2 + 1)) u hn.1 (by dsimp only; omega) (by dsimp only; omega) (by dsimp only; omega) h
    · rw [if_neg hc] at h; cases h
end Nt
namespace Go.Proofs.YtifepoefeamboaaGreatDoor
open Go Go.RowKit Nt Go.Shelf
attribute [local go_sem] Oper.semAt_some

/-- how the loop over the nodes stands -/
def TS (w wr : World) (k : Nat) (ts : List Tr) (V : Option Addr) (cv : Nat) (ds : List Deferred) : Prop :=
  Boxed wr w.heap.size 133 (.slice none 0 0) ∧ Boxed wr (w.heap.size + 1) 4 (.bool false) ∧ Boxed wr (w.heap.size + 1 + 1) 133 (.slice V k cv) ∧ wr.ownsRow (w.heap.size + 2) 137 2 (.slice V k cv) k (flatT ts) ∧ Below w.heap.size w wr ∧ Marks (w.heap.size + 2) ds wr.heap.size wr ∧ w.heap.size + 3 ≤ wr.heap.size
theorem infoTree : (Tryz.prog.info? 137).map (fun i => (i.zero, i.size, i.bytes)) = some (some (.agg #[.int .i64 0, .int .i64 0]), 2, 16) := by kernel_rfl
set_option maxRecDepth 100000 in
set_option maxHeartbeats 16000000 in
theorem treesOf_any (A : Option Addr) (n c : Nat) (ns : List Nd) (w : World) (hr : RdN w (· < w.heap.size) A n c ns) (h1 : 1 ≤ n) (hn : n ≤ 60) :
    Calls Tryz.prog 104 #[.slice A n c] w fun e w' => Below w.heap.size w w' ∧ ((trees ns = none ∧ e = .returned (.tuple #[.slice none 0 0, .bool false])) ∨ (∃ ts V d, trees ns = some ts ∧ e = .returned (.tuple #[.slice V n d, .bool true]) ∧ RdTr w' V n ts)) := by
  obtain ⟨b, o, rfl, _, hP, hc⟩ := hr.at_ (by omega)
  have HL := Lib.hid hr.len
  have HC := Lib.hid hc
  clear hr hc
  obtain ⟨i0, hi, hz0, hz1, hz2⟩ := info_parts infoTree
  refine (callsIn_wide (n := 9)).1 ?_
  refine callsIn_of_wp_marks Tryz.func104 rfl trivial ?_ rfl
  simp only [Tryz.ntmps104, List.size_toArray, List.length_cons, List.length_nil, Nat.reduceAdd, Nat.reduceSub, Array.replicate_succ, Array.replicate_zero, List.push_toArray, List.append_toArray, List.nil_append, List.cons_append]
  gi_wp2
  refine wpIn_loop (fun a' wr => ∃ (k : Nat) (ts : List Tr) (V : Option Addr) (cv : Nat) (ds : List Deferred) (u5 u6 u7 u13 u14 u15 u16 u17 u18 u19 u20 u21 u48 u49 u50 u51 u52 : Value), k ≤ n ∧ trees (ns.take k) = some ts ∧ TS w wr k ts V cv ds ∧ a' = { tmps := #[.slice (some ⟨b, o, none⟩) n c, undef, .pointer (some ⟨w.heap.size, 0, none⟩), .pointer (some ⟨w.heap.size + 1, 0, none⟩), .pointer (some ⟨w.heap.size + 1 + 1, 0, none⟩), u5, u6, u7, undef, undef, .slice (some ⟨b, o, none⟩) n c, .int .i64 (n : Int), .int .i64 (k : Int), u13, u14, u15, u16, u17, u18, u19, u20, u21, undef, undef, undef, undef, undef, undef, undef, undef, undef, undef, undef, undef, undef, undef, undef, undef, undef, undef, undef, undef, undef, undef, undef, undef, undef, undef, u48, u49, u50, u51, u52, undef], defers := ds }) (fun a' _ => n - (intOf (a'.tmps.getD 12 undef)).toNat) ?_ ?_
  · refine ⟨0, [], none, 0, [], undef, undef, undef, undef, undef, undef, undef, undef, undef, undef, undef, undef, undef, undef, undef, undef, undef, Nat.zero_le _, trees_nil, ⟨?_, ?_, ?_, ?_, ?_, trivial, by simp⟩, rfl⟩
    · exact ((Boxed.new w _ _).alloc _).alloc _
    · have h := (Boxed.new (w.alloc (.cells #[.slice none 0 0] 133)) 4 (.bool false)).alloc (.cells #[.slice none 0 0] 133)
      rw [World.size_alloc] at h
      exact h
    · have h := Boxed.new ((w.alloc (.cells #[.slice none 0 0] 133)).alloc (.cells #[.bool false] 4)) 133 (.slice none 0 0)
      rw [World.size_alloc, World.size_alloc] at h
      exact h
    · exact World.ownsRow_nil _ _ _ _
    · exact (((Below.refl _ _).alloc (Nat.le_refl _) _).alloc (by simp) _).alloc (by simp; omega) _
  · rintro a' wr ⟨k, ts, V, cv, ds, u5, u6, u7, u13, u14, u15, u16, u17, u18, u19, u20, u21, u48, u49, u50, u51, u52, hk, ht, ⟨bR1, bR2, bTB, hrow, hB, hM, hsz⟩, rfl⟩
    have HT := Lib.hid ht
    obtain ⟨hNest, _, hTl⟩ := trees_good ns k ts (by have := HL.out; omega) ht
    by_cases hlt : k < n
    · have e4 := (HC.out k hlt).keep (hB.block b hP)
      have HGR := Lib.hid (grow_kin ts (ns.getD k nd0))
      have HMORE : Hid (∀ t, growT ts (ns.getD k nd0) = some t → trees (ns.take (k + 1)) = some (ts ++ [t])) := fun t hg => trees_more (by rw [HL.out]; exact hlt) HT.out hg
      have HCUT : Hid (growT ts (ns.getD k nd0) = none → trees ns = none) := fun hg => by
        refine trees_none (k := k + 1) ?_
        rw [trees_take ns k (by rw [HL.out]; exact hlt), HT.out]
        show (growT ts (ns.getD k nd0)).map _ = none
        rw [hg]
        rfl
      obtain ⟨x, hx⟩ : ∃ x, ns.getD k nd0 = x := ⟨_, rfl⟩
      rw [hx] at e4 HGR HMORE HCUT
      clear hx ht
      obtain ⟨op, xa, xb, xn⟩ := x
      obtain ⟨q0, q1, q2, q3⟩ := e4
      dsimp only at q0 q1 q2 q3
      have hkn : (k : Int) < n := by omega
      have hTW : TrAt ((wr.alloc (.cells #[.int .i64 op, .int .i64 xa, .int .i64 xb, .int .i64 xn] 114)).alloc (.cells #[.int .i64 (k : Int), .int .i64 1] 137)) (wr.heap.size + 1) 137 ((k : Int), 1) := by
        have h := TrAt.new (wr.alloc (.cells #[.int .i64 op, .int .i64 xa, .int .i64 xb, .int .i64 xn] 114)) 137 ((k : Int), 1)
        rw [World.size_alloc] at h
        exact h
      have hBW : Below wr.heap.size wr ((wr.alloc (.cells #[.int .i64 op, .int .i64 xa, .int .i64 xb, .int .i64 xn] 114)).alloc (.cells #[.int .i64 (k : Int), .int .i64 1] 137)) := ((Below.refl _ _).alloc (Nat.le_refl _) _).alloc (by simp) _
      gi_wp2_with (first
        | (refine ⟨trivial, ?_⟩; gi_at_call 130; refine (callsIn_wide.2 (children_any op xa xb xn _)).mono ?_; rintro e w1 ⟨g, rfl, hgb, hgc, bb⟩)
        | (refine ⟨trivial, ?_⟩; gi_at_call 129; refine (backward_in _ _ _ _ _).mono ?_; rintro e w2 ⟨rfl, rfl⟩))
      clear q0 q1 q2 q3 hkn
      have hN2 := arity_le op
      have HKU := Lib.hid (kids_upto op xa xb xn)
      obtain ⟨N, hNe⟩ : ∃ N, (arityN op).toNat = N := ⟨_, rfl⟩
      rw [hNe] at hN2 HKU ⊢
      clear hNe
      have hgl : g < w1.heap.size := (Array.getElem?_eq_some_iff.1 hgc).1
      have hgb' : wr.heap.size + 2 ≤ g := by simpa using hgb
      have hTW1 := hTW.on bb
      have hBW1 : Below wr.heap.size wr w1 := hBW.trans (bb.mono (by simp; omega))
      have hs1 : wr.heap.size + 2 ≤ w1.heap.size := by have := bb.size; simpa using this
      have hTW0 : TrAt (w1.alloc (.cells #[.slice (some ⟨g, 0, none⟩) N 2] 29)) (wr.heap.size + 1) 137 ((k : Int), 1) := hTW1.on (below_one _ _)
      have hBW0 : Below wr.heap.size wr (w1.alloc (.cells #[.slice (some ⟨g, 0, none⟩) N 2] 29)) := hBW1.alloc (by omega) _
      have hBx : Boxed (w1.alloc (.cells #[.slice (some ⟨g, 0, none⟩) N 2] 29)) w1.heap.size 29 (.slice (some ⟨g, 0, none⟩) N 2) := Boxed.new _ _ _
      have hgc0 : (w1.alloc (.cells #[.slice (some ⟨g, 0, none⟩) N 2] 29)).heap[g]? = some (.cells #[.int .i64 xa, .int .i64 xb] 3 (0, 0)) := ((below_one w1 _).block g hgl).trans hgc
      have hs0 : (w1.alloc (.cells #[.slice (some ⟨g, 0, none⟩) N 2] 29)).heap.size = w1.heap.size + 1 := by simp
      obtain ⟨W0, hW0⟩ : ∃ W0, w1.alloc (.cells #[.slice (some ⟨g, 0, none⟩) N 2] 29) = W0 := ⟨_, rfl⟩
      rw [hW0] at hTW0 hBW0 hBx hgc0 hs0 ⊢
      clear hW0 hTW hBW hTW1 hBW1 bb hgc hgb
      -- what a world that has only turned the tree still holds
      have hR1 : ∀ W, W0.grownBy W (some (wr.heap.size + 1)) → Boxed W w.heap.size 133 (.slice none 0 0) := fun W hG => (hG.block w.heap.size (by omega) (fun e => by injection e with e; omega)).trans ((hBW0.block _ (by omega)).trans bR1)
      have hR2 : ∀ W, W0.grownBy W (some (wr.heap.size + 1)) → Boxed W (w.heap.size + 1) 4 (.bool false) := fun W hG => (hG.block (w.heap.size + 1) (by omega) (fun e => by injection e with e; omega)).trans ((hBW0.block _ (by omega)).trans bR2)
      have hTB : ∀ W, W0.grownBy W (some (wr.heap.size + 1)) → Boxed W (w.heap.size + 1 + 1) 133 (.slice V k cv) := fun W hG => (hG.block (w.heap.size + 1 + 1) (by omega) (fun e => by injection e with e; omega)).trans ((hBW0.block _ (by omega)).trans bTB)
      have hGW : ∀ W, W0.grownBy W (some (wr.heap.size + 1)) → Below wr.heap.size wr W := fun W hG => hBW0.trans ⟨hG.os, hG.tape, hG.output, hG.size, fun i hi => hG.block i (by omega) (fun e => by injection e with e; omega)⟩
      have hOW : ∀ W, W0.grownBy W (some (wr.heap.size + 1)) → W.ownsRow (w.heap.size + 2) 137 2 (.slice V k cv) k (flatT ts) := fun W hG => own_keepN hrow (hGW W hG)
      have hMW : ∀ W, W0.grownBy W (some (wr.heap.size + 1)) → Marks (w.heap.size + 2) ds wr.heap.size W := fun W hG => hM.keep fun D' h1 h2 => ((hGW W hG).block D' h1).trans h2
      refine wpIn_rangeFunc_ownH rfl (by omega) (gf := 150) (lb := #[.pointer (some ⟨w1.heap.size, 0, none⟩)]) rfl trivial (enters_of Tryz.func150 (by kernel_rfl) rfl)
        (backward_stops _ (by omega) w1.heap.size g N xa xb hN2 W0 hBx hgc0 (by omega))
        KZ.trans (fun W l o1 o2 hl ho hc hw => ⟨(grownBy_putObj' W l o2).size, (grownBy_putObj' W l o2).block g (by have := (Array.getElem?_eq_some_iff.1 ho).1; omega) (fun e => by injection e with e; omega), (grownBy_putObj' W l o2).block w1.heap.size (by have := (Array.getElem?_eq_some_iff.1 ho).1; omega) (fun e => by injection e with e; omega)⟩) (Below.refl _ _) (fun _ => rfl)
        (fun pre W => ∃ t, kinT ts ((k : Int), 1) (pre.map Prod.snd) = some t ∧ TrAt W (wr.heap.size + 1) 137 t ∧ W0.grownBy W (some (wr.heap.size + 1)))
        (fun c' pre W => c' = .ret ∧ kinT ts ((k : Int), 1) (pre.map Prod.snd) = none ∧ W0.grownBy W (some (wr.heap.size + 1)))
        (fun pre W W' row hs hg' hr' => by
          obtain ⟨t, h1, h2, h3⟩ := hs
          exact ⟨t, h1, (hg'.block _ h2.lt (fun e => by have := (hr' _ e.symm).1; omega)).trans h2, grown_far h3 hg' (fun q e => (hr' q e).1)⟩)
        (fun c' pre W W' row hs hg' hr' => ⟨hs.1, hs.2.1, grown_far hs.2.2 hg' (fun q e => (hr' q e).1)⟩)
        ⟨_, rfl, hTW0, World.grownBy.refl _ _⟩
        (fun x a' _ => a' = { tmps := #[.slice (some ⟨b, o, none⟩) n c, undef, .pointer (some ⟨w.heap.size, 0, none⟩), .pointer (some ⟨w.heap.size + 1, 0, none⟩), .pointer (some ⟨w.heap.size + 1 + 1, 0, none⟩), .int .i64 (k : Int), .pointer (some ⟨wr.heap.size, 0, none⟩), .pointer (some ⟨wr.heap.size + 1, 0, none⟩), undef, .int .i64 x.2, .slice (some ⟨b, o, none⟩) n c, .int .i64 (n : Int), .int .i64 (k : Int), .bool true, .int .i64 (k : Int), .pointer (some ⟨b, o + k * 4, none⟩), .agg #[.int .i64 op, .int .i64 xa, .int .i64 xb, .int .i64 xn], .int .i64 (k : Int), .agg #[.int .i64 (k : Int), .int .i64 1], .agg #[.int .i64 op, .int .i64 xa, .int .i64 xb, .int .i64 xn], .slice (some ⟨g, 0, none⟩) N 2, .func (.func 150) #[] #[.pointer (some ⟨w1.heap.size, 0, none⟩)], .int .i64 x.1, .int .i64 x.2, undef, undef, undef, undef, undef, undef, undef, undef, undef, undef, undef, undef, undef, undef, undef, undef, undef, undef, undef, undef, undef, undef, undef, undef, u48, u49, u50, u51, u52, undef], defers := [] })
        (fun x a' _ _ _ _ hs _ _ => hs)
        ?assign ?body ?done ?stop
      case assign =>
        rintro l pre x W K hI hK
        gi_wp2
        exact hK _ _ (KeepsFrom.refl _ _) (KZ.refl _ _ _) hI rfl
      case body =>
        rintro l pre x a' W hl ⟨r, hr⟩ ⟨t, hrun, hT, hG⟩ rfl hlt'
        obtain ⟨ci, cx⟩ := x
        have hbd := kinT_bounds hNest hTl (pre.map Prod.snd) ((k : Int), 1) t (by dsimp only; omega) (by dsimp only; omega) (by dsimp only; omega) (by dsimp only; omega) hrun
        have hsn : kinT ts ((k : Int), 1) ((pre ++ [(ci, cx)]).map Prod.snd) = if 0 ≤ cx ∧ cx = t.1 - 1 then some ((ts.getD cx.toNat tr0).1, max t.2 ((ts.getD cx.toNat tr0).2 + 1)) else none := by
          rw [List.map_append, List.map_cons, List.map_nil, kinT_append, hrun]
          rfl
        have p0 := hT.c0
        have p1 := hT.c1
        have f0 := hT.fz 0
        have f1 := hT.fz 1
        obtain ⟨tf, td⟩ := t
        dsimp only at hbd hsn p0 p1 ⊢
        obtain ⟨hb0, hb1, hb2, hb3⟩ := hbd
        have hwt : IntKind.i64.wrap (tf - 1) = tf - 1 := IntWalk.i64_in _ (by omega)
        have cT := (hTB W hG).cell
        have hWl : W0.heap.size ≤ W.heap.size := hG.size
        by_cases hcc : 0 ≤ cx ∧ cx = tf - 1
        · rw [if_pos hcc] at hsn
          obtain ⟨j, rfl⟩ : ∃ j : Nat, cx = j := ⟨cx.toNat, by omega⟩
          rw [Int.toNat_natCast] at hsn
          have d1 : decide ((j : Int) < 0) = false := by simp
          have e1 : ((j : Int) != tf - 1) = false := by simpa using hcc.2
          have e2 : ((j : Int) != IntKind.i64.wrap (tf - 1)) = false := by rw [hwt]; exact e1
          have hjk : j < k := by omega
          obtain ⟨gV, rfl, hgV, hcV⟩ := own_rdT (hOW W hG) hTl (by omega)
          obtain ⟨v0, v1⟩ := hcV j hjk
          have hjb := (hNest j (by omega)).1
          generalize (ts.getD j tr0).1 = yf at *
          generalize (ts.getD j tr0).2 = yd at *
          obtain ⟨hj1, hj2, hj3, hj4⟩ := hjb
          have hjI : (j : Int) < k := by omega
          have hwy : IntKind.i64.wrap (yd + 1) = yd + 1 := IntWalk.i64_in _ (by omega)
          obtain ⟨m, hm⟩ : ∃ m, max td (yd + 1) = m := ⟨_, rfl⟩
          have hmx : (if td < yd + 1 then yd + 1 else td) = m := by rw [← hm]; split <;> omega
          rw [hm] at hsn
          have HSN := Lib.hid hsn
          clear hsn hm hcV hrun hcc
          gi_wp2
          refine region_lastL (by simp) (by kernel_rfl) (by kernel_rfl) (by kernel_rfl) ?_
          simp only [List.dropLast, List.getLast, idle, List.cons_append, List.nil_append]
          repeat (gi_big_quiet_step (fail))
          refine wpQuietIn_nil ?_
          rintro w' ⟨nq, rfl⟩
          have hT' : TrAt (W.drewN nq) (wr.heap.size + 1) 137 (tf, td) := hT
          have hgd : W.grownBy (((W.drewN nq).setCell ⟨wr.heap.size + 1, 0, none⟩ (.int .i64 yf)).setCell ⟨wr.heap.size + 1, 1, none⟩ (.int .i64 m)) (some (wr.heap.size + 1)) := grown_trans_some (grown_drewN (World.grownBy.refl W _) nq) (set2_grown (W.drewN nq) (wr.heap.size + 1) (.int .i64 yf) (.int .i64 m))
          have HGD := Lib.hid hgd
          have HTW := Lib.hid (TrAt.set2 hT' (yf, m))
          have HKZ : Hid (KZ g w1.heap.size W (((W.drewN nq).setCell ⟨wr.heap.size + 1, 0, none⟩ (.int .i64 yf)).setCell ⟨wr.heap.size + 1, 1, none⟩ (.int .i64 m))) := ⟨hgd.size, hgd.block g (by omega) (fun e => by injection e with e; omega), hgd.block w1.heap.size (by omega) (fun e => by injection e with e; omega)⟩
          have HKO : Hid (KeepsOthers W (((W.drewN nq).setCell ⟨wr.heap.size + 1, 0, none⟩ (.int .i64 yf)).setCell ⟨wr.heap.size + 1, 1, none⟩ (.int .i64 m))) := KeepsOthers.of_grownBy hgd (fun j' o' e ho => by injection e with e; subst e; rw [show W.heap[wr.heap.size + 1]? = _ from hT] at ho; injection ho with ho; subst ho; rfl)
          have p0' := hT'.c0
          have p1' := hT'.c1
          have f0' := hT'.fz 0
          have f1' := hT'.fz 1
          clear hgd
          gi_wp2
          exact ⟨HKO.out.from _, HKZ.out, ⟨_, _, HSN.out, HTW.out, grown_trans_some hG HGD.out⟩⟩
        · rw [if_neg hcc] at hsn
          have bR1' := hR1 W hG
          have bR2' := hR2 W hG
          have r1 := bR1'.cell
          have r2 := bR2'.cell
          have z1 := bR1'.frozen
          have z2 := bR2'.frozen
          have hG2 : W0.grownBy ((W.setCell ⟨w.heap.size, 0, none⟩ (.slice none 0 0)).setCell ⟨w.heap.size + 1, 0, none⟩ (.bool false)) (some (wr.heap.size + 1)) := by
            have k1 := grownBy_setCell' W w.heap.size (.slice none 0 0)
            have bR2'' : Boxed (W.setCell ⟨w.heap.size, 0, none⟩ (.slice none 0 0)) (w.heap.size + 1) 4 (.bool false) := bR2'.other (by omega) _
            have k2 := grownBy_setCell' (W.setCell ⟨w.heap.size, 0, none⟩ (.slice none 0 0)) (w.heap.size + 1) (.bool false)
            refine ⟨k2.os.trans (k1.os.trans hG.os), k2.tape.trans (k1.tape.trans hG.tape), k2.output.trans (k1.output.trans hG.output), Nat.le_trans hG.size (Nat.le_trans k1.size k2.size), fun i hi hne => ?_⟩
            refine Eq.trans ?_ (hG.block i hi hne)
            by_cases e2 : i = w.heap.size + 1
            · subst e2
              exact (boxed_same bR2'').trans (k1.block _ (by omega) (fun e => by injection e with e; omega))
            · refine (k2.block i (by have := k1.size; omega) (fun e => e2 (by injection e))).trans ?_
              by_cases e1 : i = w.heap.size
              · subst e1
                exact boxed_same bR1'
              · exact k1.block i (by omega) (fun e => e1 (by injection e))
          have HSN := Lib.hid hsn
          clear hsn hrun
          by_cases c0 : cx < 0
          · have d1 : decide (cx < 0) = true := decide_eq_true c0
            clear hcc
            gi_wp2
            exact ⟨((KeepsOthers.setCell _ _ _).trans (KeepsOthers.setCell _ _ _)).from _, rfl, HSN.out, hG2⟩
          · have d1 : decide (cx < 0) = false := decide_eq_false c0
            have e1 : (cx != tf - 1) = true := by simp; omega
            have e2 : (cx != IntKind.i64.wrap (tf - 1)) = true := by rw [hwt]; exact e1
            clear hcc
            gi_wp2
            exact ⟨((KeepsOthers.setCell _ _ _).trans (KeepsOthers.setCell _ _ _)).from _, rfl, HSN.out, hG2⟩
      case done =>
        rintro D0 zs W hD rfl ⟨t, hrun, hT, hG⟩ hK
        rw [HKU.out] at hrun
        have hgrow : growT ts (op, xa, xb, xn) = some t := by rw [HGR.out, hTl]; exact hrun
        have HM1 := Lib.hid (HMORE.out t hgrow)
        obtain ⟨tf, td⟩ := t
        have p0 := hT.c0
        have p1 := hT.c1
        dsimp only at p0 p1
        have hv := hTB W hG
        have hro := hOW W hG
        have cT := hv.cell
        have hWl : W0.heap.size ≤ W.heap.size := hG.size
        have hwk : IntKind.i64.wrap ((k : Int) + 1) = (k : Int) + 1 := IntWalk.i64_in _ (by omega)
        have hR1' := hR1 W hG
        have hR2' := hR2 W hG
        have hMW' := hMW W hG
        have hGW' := hGW W hG
        clear hR1 hR2 hTB hGW hOW hMW hrun hgrow HKU
        gi_wp2_with (gi_at_builtin; refine wpListIn_append_own _ rfl _ _ 133 rfl (w.heap.size + 2) 137 i0 (.agg #[.int .i64 0, .int .i64 0]) 2 16 Tryz.underlying133 hi hz0 hz1 hz2 rfl (by decide) _ _ _ rfl (hro.alloc _) ⟨W.heap.size, 0, none⟩ 1 1 [.int .i64 tf, .int .i64 td] rfl rfl (cell_two_new _ _ _ _) (by simp [Value.oneCell']) (by unfold maxLen; omega) (by omega) (by simp; omega) ?_; intro v' w3 hown' hgr _; obtain ⟨g', cap', rfl⟩ := ownsRow_succ hown'; obtain ⟨hv1, hv2, hr2, hk2, hb2⟩ := hv.appended (by decide) hro (by omega) (by omega) hown' hgr; have hc1 := hv1.cell; have hf1 := hv1.frozen)
        have hk1 : ((k + 1 : Nat) : Int) = (k : Int) + 1 := by omega
        have hs2 := hb2.size
        refine ⟨⟨k + 1, ts ++ [(tf, td)], some ⟨g', 0, none⟩, cap', { target := .collected D0, args := #[] } :: ds, _, _, _, _, _, _, _, _, _, _, _, _, _, _, _, _, _, by omega, HM1.out, ⟨(hb2.block w.heap.size (by omega)).trans hR1', (hb2.block (w.heap.size + 1) (by omega)).trans hR2', hv2, by rw [flatT_snoc]; exact hr2, hB.trans ((hGW'.mono (by omega)).trans (hb2.mono (by omega))), ⟨D0, rfl, by omega, ?_, hk2.same D0 _ hK rfl, (hMW'.keep fun D' h1 h2 => hk2.same D' _ h2 rfl).le (by omega)⟩, by omega⟩, by rw [hk1]⟩, ?_⟩
        · exact (Array.getElem?_eq_some_iff.1 (hk2.same D0 _ hK rfl)).1
        · simp [intOf]; omega
      case stop =>
        rintro D0 c' pre W hD ⟨j, hj, rfl⟩ ⟨rfl, hrun, hG⟩ hK
        have HN : Hid (trees ns = none) := by
          refine HCUT.out ?_
          obtain ⟨zs, hzs⟩ := uptoN_take (kidAt N xa xb) j N hj
          rw [HGR.out, hTl, ← HKU.out, hzs, List.map_append]
          exact kinT_none ts _ _ _ hrun
        have hR1' := hR1 W hG
        have hR2' := hR2 W hG
        have hMW' := hMW W hG
        have hGW' := hGW W hG
        have hWl : W0.heap.size ≤ W.heap.size := hG.size
        clear hR1 hR2 hTB hGW hOW hMW hrun HKU HGR HMORE HCUT
        gi_wp2
        refine leaves_marks (B := w.heap.size + 2) ({ target := .collected D0, args := #[] } :: ds) W.heap.size W ⟨D0, rfl, by omega, (Array.getElem?_eq_some_iff.1 hK).1, hK, hMW'.le (by omega)⟩ (by omega) ?_
        intro w' hw'
        have c1 := Boxed.cell (show Boxed w' w.heap.size 133 (.slice none 0 0) from hw'.2 _ _ _ _ hR1')
        have c2 := Boxed.cell (show Boxed w' (w.heap.size + 1) 4 (.bool false) from hw'.2 _ _ _ _ hR2')
        refine ⟨.tuple #[.slice none 0 0, .bool false], ?_, hB.trans ((hGW'.mono (by omega)).trans (hw'.1.mono (by omega))), .inl ⟨HN.out, rfl⟩⟩
        simp [results, Tryz.f104, go_sem, c1, c2]
    · obtain rfl : k = n := by omega
      have c1 := bR1.cell
      have z1 := bR1.frozen
      have c2 := bR2.cell
      have z2 := bR2.frozen
      have cT := bTB.cell
      have hd0 : decide ((k : Int) < k) = false := by simp
      have HTN : Hid (trees ns = some ts) := by
        have e := HL.out
        have h := HT.out
        rwa [← e, List.take_length] at h
      obtain ⟨gV, rfl, hgV, hcV⟩ := own_rdT hrow hTl (by omega)
      have hgb : w.heap.size + 2 ≤ gV := (hrow.lt gV rfl).1
      have k1 := grownBy_setCell' wr w.heap.size (.slice (some ⟨gV, 0, none⟩) k cv)
      have k2 := grownBy_setCell' (wr.setCell ⟨w.heap.size, 0, none⟩ (.slice (some ⟨gV, 0, none⟩) k cv)) (w.heap.size + 1) (.bool true)
      have b1 : Boxed ((wr.setCell ⟨w.heap.size, 0, none⟩ (.slice (some ⟨gV, 0, none⟩) k cv)).setCell ⟨w.heap.size + 1, 0, none⟩ (.bool true)) w.heap.size 133 (.slice (some ⟨gV, 0, none⟩) k cv) := Boxed.other (Boxed.set _ bR1) (by omega) _
      have b2 : Boxed ((wr.setCell ⟨w.heap.size, 0, none⟩ (.slice (some ⟨gV, 0, none⟩) k cv)).setCell ⟨w.heap.size + 1, 0, none⟩ (.bool true)) (w.heap.size + 1) 4 (.bool true) := Boxed.set _ (Boxed.other bR2 (by omega) _)
      have hko : KeepsOthers wr ((wr.setCell ⟨w.heap.size, 0, none⟩ (.slice (some ⟨gV, 0, none⟩) k cv)).setCell ⟨w.heap.size + 1, 0, none⟩ (.bool true)) := (KeepsOthers.setCell _ _ _).trans (KeepsOthers.setCell _ _ _)
      have hBB : Below w.heap.size w ((wr.setCell ⟨w.heap.size, 0, none⟩ (.slice (some ⟨gV, 0, none⟩) k cv)).setCell ⟨w.heap.size + 1, 0, none⟩ (.bool true)) := (hB.setCell (p := ⟨w.heap.size, 0, none⟩) (Nat.le_refl _) _).setCell (p := ⟨w.heap.size + 1, 0, none⟩) (by simp) _
      have hgq : ((wr.setCell ⟨w.heap.size, 0, none⟩ (.slice (some ⟨gV, 0, none⟩) k cv)).setCell ⟨w.heap.size + 1, 0, none⟩ (.bool true)).heap[gV]? = wr.heap[gV]? := (k2.block gV (by have := k1.size; omega) (fun e => by injection e with e; omega)).trans (k1.block gV hgV (fun e => by injection e with e; omega))
      have hMk := hM.keep (w' := (wr.setCell ⟨w.heap.size, 0, none⟩ (.slice (some ⟨gV, 0, none⟩) k cv)).setCell ⟨w.heap.size + 1, 0, none⟩ (.bool true)) fun D' _ h2 => hko.same D' _ h2 rfl
      gi_wp2
      refine leaves_marks (B := w.heap.size + 2) ds wr.heap.size _ hMk (by have := hko.size; omega) ?_
      intro w' hw'
      have d1 := Boxed.cell (show Boxed w' w.heap.size 133 (.slice (some ⟨gV, 0, none⟩) k cv) from hw'.2 _ _ _ _ b1)
      have d2 := Boxed.cell (show Boxed w' (w.heap.size + 1) 4 (.bool true) from hw'.2 _ _ _ _ b2)
      have hrT : RdTr w' (some ⟨gV, 0, none⟩) k ts := by
        rcases hrow.2 with ⟨e', h0⟩ | ⟨g, cap, cur, e', _, hh, _⟩
        · omega
        · injection e' with e1
          injection e1 with e1
          injection e1 with e1
          subst e1
          have hh2 := hw'.2 _ _ _ _ (hgq.trans hh)
          exact ⟨gV, rfl, (Array.getElem?_eq_some_iff.1 hh2).1, fun i hi => ⟨(World.cell?_of_block (a := ⟨gV, i * 2, none⟩) (hh2.trans hh.symm)).trans (hcV i hi).1, (World.cell?_of_block (a := ⟨gV, i * 2 + 1, none⟩) (hh2.trans hh.symm)).trans (hcV i hi).2⟩⟩
      refine ⟨.tuple #[.slice (some ⟨gV, 0, none⟩) k cv, .bool true], ?_, hBB.trans (hw'.1.mono (by omega)), .inr ⟨ts, _, cv, HTN.out, rfl, hrT⟩⟩
      simp [results, Tryz.f104, go_sem, d1, d2]
end Go.Proofs.YtifepoefeamboaaGreatDoor
namespace Nt
open Go Go.RowKit
theorem fit_any {ns : List Nd} {k : Nat} (hk : k < ns.length) (h : fitN (ns.getD k nd0) = false) : ns.all fitN = false := by
  rw [Bool.eq_false_iff]
  intro ha
  rw [fit_all ha k hk] at h
  cases h
end Nt
namespace Go.Proofs.YtifepoefeamboaaGreatDoor
open Go Go.RowKit Nt

set_option maxHeartbeats 1600000 in
theorem indexUnfit_any (A : Option Addr) (n c : Nat) (ns : List Nd) (P : Nat → Prop) (w : World) (hr : RdN w P A n c ns) (hn : n ≤ 1048576) :
    Calls Tryz.prog 126 #[.slice A n c, .func (.func 102) #[] #[]] w fun e w' => ∃ r : Int, e = .returned (.int .i64 r) ∧ decide (0 ≤ r) = (!ns.all fitN) ∧ Below w.heap.size w w' := by
  have HR := Lib.hid hr.low
  have HL := Lib.hid hr.len
  clear hr
  go_enter Tryz.func126, Tryz.ntmps126
  go_wp2
  go_loopw [8] (fun i wr => ∃ k : Nat, k ≤ n ∧ i = .int .i64 k ∧ Hid (∀ j, j < k → fitN (ns.getD j nd0) = true) ∧ Hid (Below w.heap.size w wr)) (fun i _ => n - (intOf i).toNat)
  case atStart => exact ⟨0, Nat.zero_le _, rfl, Lib.hid (fun j hj => by omega), Lib.hid (Below.refl _ _)⟩
  case round =>
    obtain ⟨k, hk, rfl, HK, HB⟩ := hrel
    by_cases hlt : k < n
    · obtain ⟨b, o, rfl, hP, _, hc⟩ := HR.out.at_ (by omega)
      have e4 := (hc k hlt).keep (HB.out.block b hP)
      have HNO : Hid (fitN (ns.getD k nd0) = false → decide (0 ≤ (k : Int)) = (!ns.all fitN)) := fun h => by rw [fit_any (by rw [HL.out]; exact hlt) h]; simp
      have HYES : Hid (fitN (ns.getD k nd0) = true → ∀ j, j < k + 1 → fitN (ns.getD j nd0) = true) := fun h j hj => by
        by_cases e : j = k
        · subst e; exact h
        · exact HK.out j (by omega)
      obtain ⟨x, hx⟩ : ∃ x, ns.getD k nd0 = x := ⟨_, rfl⟩
      rw [hx] at e4 HNO HYES
      clear hx hc
      obtain ⟨op, xa, xb, xn⟩ := x
      obtain ⟨q0, q1, q2, q3⟩ := e4
      dsimp only at q0 q1 q2 q3
      have hkn : (k : Int) < n := by omega
      go_wp2_with fail
      refine (exprOK1_any op xa xb xn wr).mono ?_
      rintro e w1 ⟨rfl, bb⟩
      have HB1 := Lib.hid (belowN_on HB.out bb)
      clear bb q0 q1 q2 q3
      cases hf : fitN (op, xa, xb, xn) with
      | true =>
        have HF := Lib.hid (HYES.out hf)
        clear HYES HNO hf
        go_wp2
        go_roundw
        case rel => exact ⟨k + 1, by omega, by go_num, HF, HB1⟩
        case measure => simp [intOf]; omega
      | false =>
        have HF := Lib.hid (HNO.out hf)
        clear HYES HNO hf
        go_wp2
        go_ret
        exact ⟨k, rfl, HF.out, HB1.out⟩
    · have HF : Hid (decide (0 ≤ (-1 : Int)) = (!ns.all fitN)) := by
        show _ = _
        rw [all_fit fun j hj => HK.out j (by have := HL.out; omega)]
        rfl
      clear HK
      go_wp2
      go_ret
      exact ⟨-1, rfl, HF.out, HB.out⟩
theorem containsUnfit_any (A : Option Addr) (n c : Nat) (ns : List Nd) (P : Nat → Prop) (w : World) (hr : RdN w P A n c ns) (hn : n ≤ 1048576) :
    Calls Tryz.prog 101 #[.slice A n c, .func (.func 102) #[] #[]] w fun e w' => e = .returned (.bool (!ns.all fitN)) ∧ Below w.heap.size w w' := by
  have HR := Lib.hid hr
  clear hr
  go_enter Tryz.func101, Tryz.ntmps101
  go_wp2_with fail
  refine (indexUnfit_any A n c ns P w HR.out hn).mono ?_
  rintro e w1 ⟨r, rfl, hd, bb⟩
  have HD := Lib.hid hd
  have HB := Lib.hid bb
  clear bb hd
  go_wp2
  go_ret
  exact ⟨ret_bool HD.out, HB.out⟩

set_option maxHeartbeats 3200000 in
theorem implExprOK_any (A : Option Addr) (n c : Nat) (ns : List Nd) (P : Nat → Prop) (w : World) (hr : RdN w P A n c ns) (hn : n ≤ 1048576) :
    Calls Tryz.prog 70 #[.agg #[.slice A n c]] w fun e w' => e = .returned (.bool (okE ns)) ∧ Below w.heap.size w w' := by
  have HL := Lib.hid hr.len
  have HR := Lib.hid hr.low
  have HB0 := Lib.hid (below_one w (.cells #[.slice A n c] 25))
  clear hr
  by_cases h0 : n < 1
  · have HV : Hid (okE ns = false) := by have := HL.out; exact okE_len0 (by omega)
    have d0 : decide ((n : Int) < 1) = true := by simp; omega
    go_enter Tryz.func70, Tryz.ntmps70
    go_wp2
    go_ret
    exact ⟨ret_bool HV.out.symm, HB0.out⟩
  have d0 : decide ((n : Int) < 1) = false := by simp; omega
  by_cases h60 : 60 < n
  · have HV : Hid (okE ns = false) := by have := HL.out; exact okE_long (by omega)
    have d6 : decide ((60 : Int) < n) = true := by simp; omega
    go_enter Tryz.func70, Tryz.ntmps70
    go_wp2
    go_ret
    exact ⟨ret_bool HV.out.symm, HB0.out⟩
  have d6 : decide ((60 : Int) < n) = false := by simp; omega
  have hVok : ∀ ts, ns.all fitN = true → trees ns = some ts → okE ns = (decide ((ts.getD (n - 1) tr0).1 = 0) && decide ((ts.getD (n - 1) tr0).2 ≤ 12)) := by
    intro ts h1 h2
    have e := HL.out
    unfold okE
    rw [h1, h2, e, decide_eq_true (show 1 ≤ n by omega), decide_eq_true (show n ≤ 60 by omega)]
    rfl
  have HVok := Lib.hid hVok
  have hVno : ns.all fitN = false → okE ns = false := fun h => by unfold okE; rw [h]; simp
  have HVno := Lib.hid hVno
  clear hVok hVno
  go_enter Tryz.func70, Tryz.ntmps70
  go_wp2_with fail
  refine calls_atN (fun v => SlAt v w.heap.size 25 A n c ∧ Below w.heap.size w v) ⟨SlAt.new _ _ _ _ _, HB0.out⟩ ?_
  rintro v1 ⟨pS, pB⟩
  have HS := Lib.hid pS
  have HB := Lib.hid pB
  clear pS pB HB0
  refine (containsUnfit_any A n c ns _ v1 (HR.out.below HB.out) hn).mono ?_
  rintro e v2 ⟨rfl, bb⟩
  replace HS := Lib.hid (HS.out.on bb)
  replace HB := Lib.hid (belowN_on HB.out bb)
  clear bb
  cases hfit : ns.all fitN with
  | false =>
    have HV := Lib.hid (HVno.out hfit)
    clear hfit
    go_wp2
    go_ret
    exact ⟨ret_bool HV.out.symm, HB.out⟩
  | true =>
  have s0 := HS.out.c0
  have HVk := Lib.hid (fun ts h => HVok.out ts hfit h)
  clear hfit HVno HVok
  go_wp2_with fail
  clear s0
  refine (treesOf_any A n c ns v2 ((HR.out.below HB.out).mono fun _ h _ => Nat.lt_of_lt_of_le h HB.out.size) (by omega) (by omega)).mono ?_
  rintro e v3 ⟨bb, hT⟩
  replace HS := Lib.hid (HS.out.on bb)
  replace HB := Lib.hid (belowN_on HB.out bb)
  clear bb
  rcases hT with ⟨hno, rfl⟩ | ⟨ts, V, d, hts, rfl, hrd⟩
  · have HV := Lib.hid (okE_torn hno)
    clear hno
    go_wp2
    go_ret
    exact ⟨ret_bool HV.out.symm, HB.out⟩
  · obtain ⟨g, rfl, hg, hc⟩ := hrd
    obtain ⟨y0, y1⟩ := hc (n - 1) (by omega)
    have HV := Lib.hid (HVk.out ts hts)
    obtain ⟨F, hF⟩ : ∃ F, (ts.getD (n - 1) tr0).1 = F := ⟨_, rfl⟩
    obtain ⟨Dp, hD⟩ : ∃ D, (ts.getD (n - 1) tr0).2 = D := ⟨_, rfl⟩
    rw [hF, hD] at HV
    rw [hF] at y0
    rw [hD] at y1
    have hk1 : IntKind.i64.wrap ((n : Int) - 1) = ((n - 1 : Nat) : Int) := by rw [IntWalk.i64_in _ (by omega)]; omega
    have hn1 : ((n - 1 : Nat) : Int) < n := by omega
    have HBA : Hid (∀ (o : Obj), Below w.heap.size w (v3.alloc o)) := fun o => belowN_on HB.out (below_one _ _)
    clear hF hD hc hts HVk
    generalize n - 1 = m at *
    by_cases hz : F = 0
    · subst hz
      have HV2 : Hid (okE ns = decide (Dp ≤ 12)) := by show _ = _; rw [HV.out]; simp
      clear HV
      go_wp2
      go_ret
      exact ⟨ret_bool HV2.out.symm, HBA.out _⟩
    · have HV2 : Hid (okE ns = false) := by show _ = _; rw [HV.out, decide_eq_false hz]; rfl
      have e0 : (F == 0) = false := by simpa using hz
      clear HV hz
      go_wp2
      go_ret
      exact ⟨ret_bool HV2.out.symm, HBA.out _⟩
end Go.Proofs.YtifepoefeamboaaGreatDoor
namespace Nt
open Go Go.RowKit
theorem fit_var {x : Nd} (h : fitN x = true) (h2 : x.1 = 2) : 0 ≤ x.2.2.2 ∧ x.2.2.2 ≤ 3 := by
  unfold fitN mostN at h
  simp only [Bool.and_eq_true, decide_eq_true_eq] at h
  rw [h2] at h
  have := h.1.1.2
  simp at this
  omega
theorem dim_bd {ns : List Nd} (hf : ∀ j, j < ns.length → fitN (ns.getD j nd0) = true) : ∀ k, k ≤ ns.length → 0 ≤ (ns.take k).foldl dimOne 0 ∧ (ns.take k).foldl dimOne 0 ≤ 4
  | 0, _ => by simp
  | k + 1, hk => by
    have ih := dim_bd hf k (by omega)
    rw [dim_take ns k (by omega)]
    generalize (ns.take k).foldl dimOne 0 = D at ih ⊢
    unfold dimOne
    split
    · rename_i h2
      have := fit_var (hf k (by omega)) h2
      omega
    · exact ih
end Nt
namespace Go.Proofs.YtifepoefeamboaaGreatDoor
open Go Go.RowKit Nt

set_option maxHeartbeats 1600000 in
theorem l05Dim_any (A : Option Addr) (n c : Nat) (ns : List Nd) (P : Nat → Prop) (w : World) (hr : RdN w P A n c ns) (hf : ∀ j, j < ns.length → fitN (ns.getD j nd0) = true) (h1 : 1 ≤ n) (hn : n ≤ 60) :
    Calls Tryz.prog 76 #[.agg #[.slice A n c]] w fun e w' => e = .returned (.int .i64 (dimE ns)) ∧ Below w.heap.size w w' := by
  obtain ⟨b, o, rfl, _, hP, hc⟩ := hr.at_ (by omega)
  have HL := Lib.hid hr.len
  have HC := Lib.hid hc
  have HF := Lib.hid hf
  have HB0 := Lib.hid (below_one w (.cells #[.slice (some ⟨b, o, none⟩) n c] 25))
  clear hr hc hf
  go_enter Tryz.func76, Tryz.ntmps76
  go_wp2
  go_loop [3, 4] (fun d i => ∃ (k : Nat) (D : Int), k ≤ n ∧ i = .int .i64 k ∧ d = .int .i64 D ∧ Hid (D = (ns.take k).foldl dimOne 0)) (fun _ i => n - (intOf i).toNat)
  case atStart => exact ⟨0, 0, Nat.zero_le _, rfl, rfl, Lib.hid rfl⟩
  case round =>
    obtain ⟨k, D, hk, rfl, rfl, HD⟩ := hrel
    by_cases hlt : k < n
    · obtain ⟨q0, q1, q2, q3⟩ := HC.out k hlt
      have hbd := dim_bd HF.out k (by have := HL.out; omega)
      rw [← HD.out] at hbd
      have HN : Hid (dimOne D (ns.getD k nd0) = (ns.take (k + 1)).foldl dimOne 0) := by
        show _ = _
        rw [dim_take ns k (by rw [HL.out]; exact hlt), ← HD.out]
      have HV := Lib.hid (fun h2 => fit_var (HF.out k (by rw [HL.out]; exact hlt)) h2)
      obtain ⟨x, hx⟩ : ∃ x, ns.getD k nd0 = x := ⟨_, rfl⟩
      rw [hx] at q0 q1 q2 q3 HN HV
      clear hx HD
      obtain ⟨op, xa, xb, xn⟩ := x
      dsimp only at q0 q1 q2 q3 HV
      obtain ⟨hD0, hD1⟩ := hbd
      have hkn : (k : Int) < n := by omega
      by_cases h2 : op = 2
      · have hv := HV.out h2
        subst h2
        obtain ⟨hv0, hv1⟩ := hv
        obtain ⟨m, hm⟩ : ∃ m, max D (xn + 1) = m := ⟨_, rfl⟩
        have hmx : (if D < xn + 1 then xn + 1 else D) = m := by rw [← hm]; split <;> omega
        have HM : Hid (m = (ns.take (k + 1)).foldl dimOne 0) := by
          show _ = _
          rw [← HN.out, ← hm]
          rfl
        clear hm HN HV
        go_wp2
        go_round
        case rel => exact ⟨k + 1, m, by omega, by go_num, (by first | rfl | rw [hmx]), HM⟩
        case measure => simp [intOf]; omega
      · have e2 : (op == 2) = false := by simpa using h2
        have HM : Hid (D = (ns.take (k + 1)).foldl dimOne 0) := by
          show _ = _
          rw [← HN.out]
          unfold dimOne
          rw [if_neg h2]
        clear HN HV h2
        go_wp2
        go_round
        case rel => exact ⟨k + 1, D, by omega, by go_num, rfl, HM⟩
        case measure => simp [intOf]; omega
    · have HV : Hid (dimE ns = D) := by
        have e := HD.out
        rw [List.take_of_length_le (by have := HL.out; omega)] at e
        exact e.symm
      clear HD
      go_wp2
      go_ret
      exact ⟨ret_int HV.out.symm, HB0.out⟩

set_option maxHeartbeats 1600000 in
theorem axesOf_any (A : Option Addr) (n c : Nat) (ns : List Nd) (P : Nat → Prop) (w : World) (hr : RdN w P A n c ns) (hf : ∀ j, j < ns.length → fitN (ns.getD j nd0) = true) (h1 : 1 ≤ n) (hn : n ≤ 60) :
    Calls Tryz.prog 100 #[.slice A n c] w fun e w' => e = .returned (.int .i64 (dimE ns)) ∧ Below w.heap.size w w' := by
  obtain ⟨b, o, rfl, _, hP, hc⟩ := hr.at_ (by omega)
  have HL := Lib.hid hr.len
  have HC := Lib.hid hc
  have HF := Lib.hid hf
  have HB1 := Lib.hid (Below.refl w.heap.size w)
  clear hr hc hf
  go_enter Tryz.func100, Tryz.ntmps100
  go_wp2
  go_loopw [3, 8] (fun d i wr => ∃ (k : Nat) (D : Int), k ≤ n ∧ i = .int .i64 k ∧ d = .int .i64 D ∧ Hid (D = (ns.take k).foldl dimOne 0) ∧ Hid (Below w.heap.size w wr)) (fun _ i _ => n - (intOf i).toNat)
  case atStart => exact ⟨0, 0, Nat.zero_le _, rfl, rfl, Lib.hid rfl, HB1⟩
  case round =>
    obtain ⟨k, D, hk, rfl, rfl, HD, HB⟩ := hrel
    by_cases hlt : k < n
    · obtain ⟨q0, q1, q2, q3⟩ := (HC.out k hlt).keep (HB.out.block b hP)
      have hbd := dim_bd HF.out k (by have := HL.out; omega)
      rw [← HD.out] at hbd
      have HN : Hid (dimOne D (ns.getD k nd0) = (ns.take (k + 1)).foldl dimOne 0) := by
        show _ = _
        rw [dim_take ns k (by rw [HL.out]; exact hlt), ← HD.out]
      have HV := Lib.hid (fun h2 => fit_var (HF.out k (by rw [HL.out]; exact hlt)) h2)
      obtain ⟨x, hx⟩ : ∃ x, ns.getD k nd0 = x := ⟨_, rfl⟩
      rw [hx] at q0 q1 q2 q3 HN HV
      clear hx HD
      obtain ⟨op, xa, xb, xn⟩ := x
      dsimp only at q0 q1 q2 q3 HV
      obtain ⟨hD0, hD1⟩ := hbd
      have hkn : (k : Int) < n := by omega
      have HB2 : Hid (∀ o : Obj, Below w.heap.size w (wr.alloc o)) := fun o => belowN_on HB.out (below_one _ _)
      by_cases h2 : op = 2
      · have hv := HV.out h2
        subst h2
        obtain ⟨hv0, hv1⟩ := hv
        obtain ⟨m, hm⟩ : ∃ m, max D (xn + 1) = m := ⟨_, rfl⟩
        have hmx : (if D < xn + 1 then xn + 1 else D) = m := by rw [← hm]; split <;> omega
        have HM : Hid (m = (ns.take (k + 1)).foldl dimOne 0) := by
          show _ = _
          rw [← HN.out, ← hm]
          rfl
        clear hm HN HV
        go_wp2
        go_roundw
        case rel => exact ⟨k + 1, m, by omega, by go_num, (by first | rfl | rw [hmx]), HM, Lib.hid (HB2.out _)⟩
        case measure => simp [intOf]; omega
      · have e2 : (op == 2) = false := by simpa using h2
        have HM : Hid (D = (ns.take (k + 1)).foldl dimOne 0) := by
          show _ = _
          rw [← HN.out]
          unfold dimOne
          rw [if_neg h2]
        clear HN HV h2
        go_wp2
        go_roundw
        case rel => exact ⟨k + 1, D, by omega, by go_num, rfl, HM, Lib.hid (HB2.out _)⟩
        case measure => simp [intOf]; omega
    · have HV : Hid (dimE ns = D) := by
        have e := HD.out
        rw [List.take_of_length_le (by have := HL.out; omega)] at e
        exact e.symm
      clear HD
      go_wp2
      go_ret
      exact ⟨ret_int HV.out.symm, HB.out⟩

end Go.Proofs.YtifepoefeamboaaGreatDoor
namespace Nt
open Go Go.RowKit
end Nt
namespace Go.Proofs.YtifepoefeamboaaGreatDoor
open Go Go.RowKit Nt

end Go.Proofs.YtifepoefeamboaaGreatDoor
namespace Nt
open Go Go.RowKit
end Nt
namespace Go.Proofs.YtifepoefeamboaaGreatDoor
open Go Go.RowKit Nt

end Go.Proofs.YtifepoefeamboaaGreatDoor
