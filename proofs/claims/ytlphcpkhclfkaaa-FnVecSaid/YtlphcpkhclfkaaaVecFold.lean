/-
  Pairs of two vectors, yielded one by one.
-/
import Derived.Test.YtlphcpkhclfkaaaVecOps
import Derived.RangeFuncNested
import Derived.RangeFuncLeaves
import Derived.RangeFuncBox
import Derived.Shelf.Abstract
import Derived.OwnWalkIn
import Derived.TacticsInMore
import Derived.LoopNIn
import Derived.LoopIn
import Derived.Stop.RegionWithIn
namespace Nt
open Go Go.RowKit
def EV.val (r : EV) : Value := .agg #[.bool r.neg, .slice r.A r.xs.length r.ca, .slice r.B r.ys.length r.cb]
/-- an element that can be read below n₀ and is a rational -/
def GoodE (w : World) (n₀ : Nat) (r : EV) : Prop := RdR w (· < n₀) r.xs r.ys r.A r.ca r.B r.cb ∧ ∃ q : Rat, r.v3 = rat3 q ∧ nu q < Top ∧ q.den < Top
abbrev EP (w : World) (n₀ : Nat) := { x : EV × EV // GoodE w n₀ x.1 ∧ GoodE w n₀ x.2 }
/-- what has come when k rounds are over -/
def upto {α : Type} (f : Nat → α) (k : Nat) : List α := (List.range k).map f
theorem upto_succ {α : Type} (f : Nat → α) (k : Nat) : upto f (k + 1) = upto f k ++ [f k] := by simp [upto, List.range_succ]
theorem upto_length {α : Type} (f : Nat → α) (k : Nat) : (upto f k).length = k := by simp [upto]
/-- what a round keeps: all below n₀, and block B -/
def KY (n₀ B : Nat) (W W' : World) : Prop := Below n₀ W W' ∧ W'.heap[B]? = W.heap[B]?
theorem KY.trans {n₀ B : Nat} {U V W : World} (h : KY n₀ B U V) (k : KY n₀ B V W) : KY n₀ B U W := ⟨h.1.trans k.1, k.2.trans h.2⟩
/-- a struct's three cells at a place -/
def El3 (w : World) (b k : Nat) (r : EV) : Prop := w.cell? ⟨b, k, none⟩ = some (.bool r.neg) ∧ w.cell? ⟨b, k + 1, none⟩ = some (.slice r.A r.xs.length r.ca) ∧ w.cell? ⟨b, k + 2, none⟩ = some (.slice r.B r.ys.length r.cb)
theorem El3.below {w w' : World} {N b k : Nat} {r : EV} (h : El3 w b k r) (hb : b < N) (hw : Below N w w') : El3 w' b k r :=
  ⟨(hw.cell (p := ⟨b, k, none⟩) hb).trans h.1, (hw.cell (p := ⟨b, k + 1, none⟩) hb).trans h.2.1, (hw.cell (p := ⟨b, k + 2, none⟩) hb).trans h.2.2⟩
end Nt
namespace Go.Proofs.Ytlphcpkhclfkaaa
open Go Go.RowKit Nt Go.Shelf
attribute [local go_sem] Oper.semAt_some

set_option maxRecDepth 100000 in
set_option maxHeartbeats 4000000 in
theorem pairs1_in (n : Nat) (hn : 1 ≤ n) (w0 : World) (l Bx By n₀ bx ox cx b2 oy cy N : Nat) (f : Nat → EP w0 n₀) (hN : N ≤ 100) (hbx : bx < n₀) (hb2 : b2 < n₀) (J Jx : List (EP w0 n₀) → World → Prop)
    (hY : ∀ pre x W, J pre W → pre.length < N → YieldAt Fence.wide (n - 1) Try.prog l #[x.1.1.val, x.1.2.val] W fun e W' =>
      (e = .returned (.bool true) ∧ J (pre ++ [x]) W' ∧ KY n₀ By W W') ∨ (e = .returned (.bool false) ∧ Jx (pre ++ [x]) W'))
    (W : World) (hn0 : n₀ ≤ W.heap.size) (hJA : AbidesFrom W.heap.size J) (hBx : W.cell? ⟨Bx, 0, none⟩ = some (.slice (some ⟨bx, ox, none⟩) N cx)) (hBy : Boxed W By 24 (.slice (some ⟨b2, oy, none⟩) N cy))
    (hcx : ∀ j, j < N → El3 W bx (ox + j * 3) (f j).1.1) (hcy : ∀ j, j < N → El3 W b2 (oy + j * 3) (f j).1.2) (h0 : J [] W) :
    CallsIn Fence.wide n Try.prog 192 #[.func (.yield l) #[] #[], .pointer (some ⟨Bx, 0, none⟩), .pointer (some ⟨By, 0, none⟩)] W fun e W' => (∃ v, e = .returned v) ∧
      ((∃ ys, ys = upto f N ∧ J ys W') ∨ (∃ pre, (∃ k, k ≤ N ∧ pre = upto f k) ∧ Jx pre W')) := by
  refine callsIn_of_wp Try.func192 rfl trivial ?_ rfl
  simp only [Try.ntmps192, List.size_toArray, List.length_cons, List.length_nil, Nat.reduceAdd, Nat.reduceSub, Array.replicate_succ, Array.replicate_zero, List.push_toArray, List.append_toArray, List.nil_append, List.cons_append]
  gi_wp2
  gi_loopw [8] (fun i wr => ∃ k : Nat, k ≤ N ∧ i = .int .i64 k ∧ J (upto f k) wr ∧ Below n₀ W wr ∧ Boxed wr By 24 (.slice (some ⟨b2, oy, none⟩) N cy)) (fun i _ => N - (intOf i).toNat)
  case atStart => exact ⟨0, Nat.zero_le _, rfl, h0, Below.refl _ _, hBy⟩
  case round =>
    obtain ⟨k, hk, rfl, hJs, hnx, hby⟩ := hrel
    by_cases hlt : k < N
    · have x3 := (hcx k hlt).below hbx hnx
      have y3 := (hcy k hlt).below hb2 hnx
      obtain ⟨c0, c1, c2⟩ := x3
      obtain ⟨d0, d1, d2⟩ := y3
      have cb := hby.cell
      have hkN : (k : Int) < N := by omega
      have hg1 : wr.grownBy (wr.alloc (.cells #[.bool (f k).1.1.neg, .slice (f k).1.1.A (f k).1.1.xs.length (f k).1.1.ca, .slice (f k).1.1.B (f k).1.1.ys.length (f k).1.1.cb] 28)).drew none := grown_drew (World.grownBy_alloc wr _ none)
      obtain ⟨fn, tmps, assign, body, hy, hR0⟩ := hY _ (f k) _ (hJA _ wr _ none hJs hg1 (fun r e => by cases e)) (by rw [upto_length]; exact hlt)
      have hR := hR0.mono (R' := fun e W' => ∃ bb, e = .returned (.bool bb) ∧ ((bb = true ∧ J (upto f k ++ [f k]) W' ∧ KY n₀ By (wr.alloc (.cells #[.bool (f k).1.1.neg, .slice (f k).1.1.A (f k).1.1.xs.length (f k).1.1.ca, .slice (f k).1.1.B (f k).1.1.ys.length (f k).1.1.cb] 28)).drew W') ∨ (bb = false ∧ Jx (upto f k ++ [f k]) W'))) (by
        rintro e W' (⟨rfl, h1, h2⟩ | ⟨rfl, h1⟩)
        · exact ⟨true, rfl, .inl ⟨rfl, h1, h2⟩⟩
        · exact ⟨false, rfl, .inr ⟨rfl, h1⟩⟩)
      have HT : Hid (∀ W3, J (upto f k ++ [f k]) W3 → KY n₀ By (wr.alloc (.cells #[.bool (f k).1.1.neg, .slice (f k).1.1.A (f k).1.1.xs.length (f k).1.1.ca, .slice (f k).1.1.B (f k).1.1.ys.length (f k).1.1.cb] 28)).drew W3 → J (upto f (k + 1)) W3 ∧ Below n₀ W W3 ∧ Boxed W3 By 24 (.slice (some ⟨b2, oy, none⟩) N cy)) := fun W3 h1 h2 => ⟨by rw [upto_succ]; exact h1, hnx.trans ((below_drewN ((Below.refl n₀ wr).alloc (Nat.le_trans hn0 hnx.size) _) 1).trans h2.1), h2.2.trans ((Below.heap_alloc wr _ By hby.lt).trans hby)⟩
      simp only [EV.val] at hy
      clear hR0 hY hJA
      have hbl := hby.lt
      have hb2l : b2 < wr.heap.size := World.block_lt_of_cell? wr _ d0
      gi_wp2
      gi_region_with (refine hR.mono ?_; rintro e W3 ⟨bb, rfl, hh⟩)
      all_goals
        rcases hh with ⟨rfl, hJ3, hk3⟩ | ⟨rfl, hJx3⟩
        · have HT3 := Lib.hid (HT.out W3 hJ3 hk3)
          gi_wp2
          go_roundw
          case rel => exact ⟨k + 1, by omega, by simp, HT3.out.1, HT3.out.2.1, HT3.out.2.2⟩
          case measure => simp [intOf]; omega
        · gi_wp2
          refine bodyPost_ret (results_none rfl _ _ _) rfl ?_
          exact ⟨⟨_, rfl⟩, .inr ⟨_, ⟨k + 1, by omega, (upto_succ _ _).symm⟩, hJx3⟩⟩
    · obtain rfl : k = N := by omega
      gi_wp2
      go_end0
      exact ⟨⟨_, rfl⟩, .inl ⟨_, rfl, hJs⟩⟩
end Go.Proofs.Ytlphcpkhclfkaaa
