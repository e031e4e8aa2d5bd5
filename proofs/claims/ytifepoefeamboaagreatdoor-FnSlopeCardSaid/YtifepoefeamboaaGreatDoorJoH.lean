/-
  VecFold VecSame DotFold SameVec DotVec GrowMath SlopeHelp in one text.
-/
import Derived.Test.YtifepoefeamboaaGreatDoorGrpH
import Derived.RangeFuncNested
import Derived.RangeFuncLeaves
import Derived.RangeFuncBox
import Derived.Shelf.Abstract
import Derived.OwnWalkIn
import Derived.TacticsInMore
import Derived.LoopNIn
import Derived.LoopIn
import Derived.Stop.RegionWithIn
import Derived.Test.YtifepoefeamboaaGreatDoorGrpD
import Derived.Deep.RegionHeld3
import Derived.Test.YtifepoefeamboaaGreatDoorJoF
import Derived.Test.YtifepoefeamboaaGreatDoorJoB
import Derived.Deep.RegionWith
import Derived.Test.YtifepoefeamboaaGreatDoorGrpE
import Derived.Test.YtifepoefeamboaaGreatDoorJoG
namespace Nt
open Go Go.RowKit
def EV.val (r : EV) : Value := .agg #[.bool r.neg, .slice r.A r.xs.length r.ca, .slice r.B r.ys.length r.cb]
/-- an element that can be read below n₀ and is a rational -/
def GoodE (w : World) (n₀ : Nat) (r : EV) : Prop := RdR w (· < n₀) r.xs r.ys r.A r.ca r.B r.cb ∧ ∃ q : Rat, r.v3 = rat3 q ∧ nu q < Top ∧ q.den < Top
abbrev EP (w : World) (n₀ : Nat) := { x : EV × EV // GoodE w n₀ x.1 ∧ GoodE w n₀ x.2 }
/-- what has come when k rounds are over -/
def upto {α : Type} (f : Nat → α) (k : Nat) : List α := (List.range k).map f
theorem upto_succ {α : Type} (f : Nat → α) (k : Nat) : upto f (k + 1) = upto f k ++ [f k] := by simp [upto, List.range_succ]
theorem upto_length {α : Type} (f : Nat → α) (k : Nat) : (upto f k).length = k := by simp [upto]
/-- what a round keeps: all below n₀, and block B -/
def KY (n₀ B : Nat) (W W' : World) : Prop := Below n₀ W W' ∧ W'.heap[B]? = W.heap[B]?
theorem KY.trans {n₀ B : Nat} {U V W : World} (h : KY n₀ B U V) (k : KY n₀ B V W) : KY n₀ B U W := ⟨h.1.trans k.1, k.2.trans h.2⟩
/-- a struct's three cells at a place -/
def El3 (w : World) (b k : Nat) (r : EV) : Prop := w.cell? ⟨b, k, none⟩ = some (.bool r.neg) ∧ w.cell? ⟨b, k + 1, none⟩ = some (.slice r.A r.xs.length r.ca) ∧ w.cell? ⟨b, k + 2, none⟩ = some (.slice r.B r.ys.length r.cb)
theorem El3.below {w w' : World} {N b k : Nat} {r : EV} (h : El3 w b k r) (hb : b < N) (hw : Below N w w') : El3 w' b k r :=
  ⟨(hw.cell (p := ⟨b, k, none⟩) hb).trans h.1, (hw.cell (p := ⟨b, k + 1, none⟩) hb).trans h.2.1, (hw.cell (p := ⟨b, k + 2, none⟩) hb).trans h.2.2⟩
end Nt
namespace Go.Proofs.YtifepoefeamboaaGreatDoor
open Go Go.RowKit Nt Go.Shelf
attribute [local go_sem] Oper.semAt_some

set_option maxRecDepth 100000 in
set_option maxHeartbeats 4000000 in
theorem pairs1_in (n : Nat) (hn : 1 ≤ n) (w0 : World) (l Bx By n₀ bx ox cx b2 oy cy N : Nat) (f : Nat → EP w0 n₀) (hN : N ≤ 100) (hbx : bx < n₀) (hb2 : b2 < n₀) (J Jx : List (EP w0 n₀) → World → Prop)
    (hY : ∀ pre x W, J pre W → pre.length < N → YieldAt Fence.wide (n - 1) Tryz.prog l #[x.1.1.val, x.1.2.val] W fun e W' =>
      (e = .returned (.bool true) ∧ J (pre ++ [x]) W' ∧ KY n₀ By W W') ∨ (e = .returned (.bool false) ∧ Jx (pre ++ [x]) W'))
    (W : World) (hn0 : n₀ ≤ W.heap.size) (hJA : AbidesFrom W.heap.size J) (hBx : W.cell? ⟨Bx, 0, none⟩ = some (.slice (some ⟨bx, ox, none⟩) N cx)) (hBy : Boxed W By 27 (.slice (some ⟨b2, oy, none⟩) N cy))
    (hcx : ∀ j, j < N → El3 W bx (ox + j * 3) (f j).1.1) (hcy : ∀ j, j < N → El3 W b2 (oy + j * 3) (f j).1.2) (h0 : J [] W) :
    CallsIn Fence.wide n Tryz.prog 153 #[.func (.yield l) #[] #[], .pointer (some ⟨Bx, 0, none⟩), .pointer (some ⟨By, 0, none⟩)] W fun e W' => (∃ v, e = .returned v) ∧
      ((∃ ys, ys = upto f N ∧ J ys W') ∨ (∃ pre, (∃ k, k ≤ N ∧ pre = upto f k) ∧ Jx pre W')) := by
  refine callsIn_of_wp Tryz.func153 rfl trivial ?_ rfl
  simp only [Tryz.ntmps153, List.size_toArray, List.length_cons, List.length_nil, Nat.reduceAdd, Nat.reduceSub, Array.replicate_succ, Array.replicate_zero, List.push_toArray, List.append_toArray, List.nil_append, List.cons_append]
  gi_wp2
  gi_loopw [8] (fun i wr => ∃ k : Nat, k ≤ N ∧ i = .int .i64 k ∧ J (upto f k) wr ∧ Below n₀ W wr ∧ Boxed wr By 27 (.slice (some ⟨b2, oy, none⟩) N cy)) (fun i _ => N - (intOf i).toNat)
  case atStart => exact ⟨0, Nat.zero_le _, rfl, h0, Below.refl _ _, hBy⟩
  case round =>
    obtain ⟨k, hk, rfl, hJs, hnx, hby⟩ := hrel
    by_cases hlt : k < N
    · have x3 := (hcx k hlt).below hbx hnx
      have y3 := (hcy k hlt).below hb2 hnx
      obtain ⟨c0, c1, c2⟩ := x3
      obtain ⟨d0, d1, d2⟩ := y3
      have cb := hby.cell
      have hkN : (k : Int) < N := by omega
      have hg1 : wr.grownBy (wr.alloc (.cells #[.bool (f k).1.1.neg, .slice (f k).1.1.A (f k).1.1.xs.length (f k).1.1.ca, .slice (f k).1.1.B (f k).1.1.ys.length (f k).1.1.cb] 31)).drew none := grown_drew (World.grownBy_alloc wr _ none)
      obtain ⟨fn, tmps, assign, body, hy, hR0⟩ := hY _ (f k) _ (hJA _ wr _ none hJs hg1 (fun r e => by cases e)) (by rw [upto_length]; exact hlt)
      have hR := hR0.mono (R' := fun e W' => ∃ bb, e = .returned (.bool bb) ∧ ((bb = true ∧ J (upto f k ++ [f k]) W' ∧ KY n₀ By (wr.alloc (.cells #[.bool (f k).1.1.neg, .slice (f k).1.1.A (f k).1.1.xs.length (f k).1.1.ca, .slice (f k).1.1.B (f k).1.1.ys.length (f k).1.1.cb] 31)).drew W') ∨ (bb = false ∧ Jx (upto f k ++ [f k]) W'))) (by
        rintro e W' (⟨rfl, h1, h2⟩ | ⟨rfl, h1⟩)
        · exact ⟨true, rfl, .inl ⟨rfl, h1, h2⟩⟩
        · exact ⟨false, rfl, .inr ⟨rfl, h1⟩⟩)
      have HT : Hid (∀ W3, J (upto f k ++ [f k]) W3 → KY n₀ By (wr.alloc (.cells #[.bool (f k).1.1.neg, .slice (f k).1.1.A (f k).1.1.xs.length (f k).1.1.ca, .slice (f k).1.1.B (f k).1.1.ys.length (f k).1.1.cb] 31)).drew W3 → J (upto f (k + 1)) W3 ∧ Below n₀ W W3 ∧ Boxed W3 By 27 (.slice (some ⟨b2, oy, none⟩) N cy)) := fun W3 h1 h2 => ⟨by rw [upto_succ]; exact h1, hnx.trans ((below_drewN ((Below.refl n₀ wr).alloc (Nat.le_trans hn0 hnx.size) _) 1).trans h2.1), h2.2.trans ((Below.heap_alloc wr _ By hby.lt).trans hby)⟩
      simp only [EV.val] at hy
      clear hR0 hY hJA
      have hbl := hby.lt
      have hb2l : b2 < wr.heap.size := World.block_lt_of_cell? wr _ d0
      gi_wp2
      gi_region_with (refine hR.mono ?_; rintro e W3 ⟨bb, rfl, hh⟩)
      all_goals
        rcases hh with ⟨rfl, hJ3, hk3⟩ | ⟨rfl, hJx3⟩
        · have HT3 := Lib.hid (HT.out W3 hJ3 hk3)
          gi_wp2
          go_roundw
          case rel => exact ⟨k + 1, by omega, by simp, HT3.out.1, HT3.out.2.1, HT3.out.2.2⟩
          case measure => simp [intOf]; omega
        · gi_wp2
          refine bodyPost_ret (results_none rfl _ _ _) rfl ?_
          exact ⟨⟨_, rfl⟩, .inr ⟨_, ⟨k + 1, by omega, (upto_succ _ _).symm⟩, hJx3⟩⟩
    · obtain rfl : k = N := by omega
      gi_wp2
      go_end0
      exact ⟨⟨_, rfl⟩, .inl ⟨_, rfl, hJs⟩⟩
end Go.Proofs.YtifepoefeamboaaGreatDoor
namespace Nt
open Go Go.RowKit
/-- the elements of a vector, and where they lie -/
theorem RdS.evs {w : World} {P : Nat → Prop} {A : Option Addr} {n c : Nat} {rs : List R3} (h : RdS w P A n c rs) (hn : 0 < n) :
    ∃ b o, ∃ X : Nat → EV, A = some ⟨b, o, none⟩ ∧ P b ∧ b < w.heap.size ∧ (∀ i, i < n → El3 w b (o + i * 3) (X i) ∧ (X i).v3 = rs.getD i r3) ∧ ∀ i, RdR w P (X i).xs (X i).ys (X i).A (X i).ca (X i).B (X i).cb ∧ (X i).v3 ∈ rs := by
  obtain ⟨b, o, e, hP, hlt, hc⟩ := h.at_ hn
  have hl := h.len
  have each : ∀ i, i < n → ∃ x : EV, El3 w b (o + i * 3) x ∧ x.v3 = rs.getD i r3 ∧ RdR w P x.xs x.ys x.A x.ca x.B x.cb := by
    intro i hi
    obtain ⟨A, ca, B, cb, h0, h1, h2, h3⟩ := hc i hi
    exact ⟨⟨(rs.getD i r3).1, A, ca, B, cb, (rs.getD i r3).2.1, (rs.getD i r3).2.2⟩, ⟨h0, h1, h2⟩, rfl, h3⟩
  have each' : ∀ i, ∃ x : EV, (i < n → El3 w b (o + i * 3) x ∧ x.v3 = rs.getD i r3) ∧ RdR w P x.xs x.ys x.A x.ca x.B x.cb ∧ x.v3 ∈ rs := by
    intro i
    by_cases hi : i < n
    · obtain ⟨x, h1, h2, h3⟩ := each i hi
      refine ⟨x, fun _ => ⟨h1, h2⟩, h3, ?_⟩
      rw [h2, show rs.getD i r3 = rs[i]'(by omega) from by simp [List.getD, show i < rs.length by omega]]
      exact List.getElem_mem _
    · obtain ⟨x, h1, h2, h3⟩ := each 0 hn
      refine ⟨x, fun h => absurd h hi, h3, ?_⟩
      rw [h2, show rs.getD 0 r3 = rs[0]'(by omega) from by simp [List.getD, show 0 < rs.length by omega]]
      exact List.getElem_mem _
  obtain ⟨X, hX⟩ := Classical.axiomOfChoice each'
  exact ⟨b, o, X, e, hP, hlt, fun i hi => (hX i).1 hi, fun i => (hX i).2⟩
theorem GoodE.on {w : World} {n₀ : Nat} {r : EV} (h : GoodE w n₀ r) {W : World} (hb : Below n₀ w W) : ∃ q : Rat, r.neg = isNeg q ∧ r.xs = D (nu q) ∧ r.ys = D q.den ∧ RdR W (· < n₀) (D (nu q)) (D q.den) r.A r.ca r.B r.cb ∧ (D (nu q)).length ≤ 40 ∧ (D q.den).length ≤ 40 ∧ r.v3 = rat3 q := by
  obtain ⟨hr, q, hq, t1, t2⟩ := h
  have e : (r.neg, r.xs, r.ys) = (isNeg q, D (nu q), D q.den) := hq
  injection e with e1 e2
  injection e2 with e2 e3
  refine ⟨q, e1, e2, e3, ?_, (D_len_le _ 40).2 t1, (D_len_le _ 40).2 t2, hq⟩
  rw [e2, e3] at hr
  exact hr.below hb
theorem RatAt.own {B0 Bp : Nat} {t : TypeId} {neg : Bool} {A B : Option Addr} {la ca lb cb : Nat} {X Y : World} {row : Option Nat} (h : RatAt X Bp t neg A la ca B lb cb) (hg : X.grownBy Y row) (hr : ∀ r, row = some r → B0 ≤ r ∧ ∃ o : Obj, X.heap[r]? = some o ∧ o.isCells = false) : RatAt Y Bp t neg A la ca B lb cb := by
  refine (hg.block Bp h.lt (fun e => ?_)).trans h
  obtain ⟨_, o, ho, hc⟩ := hr Bp e.symm
  unfold RatAt at h
  rw [h] at ho
  injection ho with ho
  subst ho
  cases hc
theorem keeps_below {W W' : World} (h : Below W.heap.size W W') : KeepsOthers W W' := KeepsOthers.of_grownBy (below_grown h none) (fun r o e _ => by cases e)
end Nt
namespace Go.Proofs.YtifepoefeamboaaGreatDoor
open Go Go.RowKit Nt Go.Shelf
attribute [local go_sem] Oper.semAt_some

theorem pairs_in (n : Nat) (X : Option Addr) (lx cx : Nat) (Y : Option Addr) (ly cy : Nat) (w : World) :
    CallsIn Fence.wide n Tryz.prog 139 #[.slice X lx cx, .slice Y ly cy] w fun e w' => e = .returned (.func (.func 153) #[] #[.pointer (some ⟨w.heap.size, 0, none⟩), .pointer (some ⟨w.heap.size + 1, 0, none⟩)]) ∧ w' = (w.alloc (.cells #[.slice X lx cx] 27)).alloc (.cells #[.slice Y ly cy] 27) := by
  refine callsIn_of_wp Tryz.func139 rfl trivial ?_ rfl
  simp only [Tryz.ntmps139, List.size_toArray, List.length_cons, List.length_nil, Nat.reduceAdd, Nat.reduceSub, Array.replicate_succ, Array.replicate_zero, List.push_toArray, List.append_toArray, List.nil_append, List.cons_append]
  gi_wp2
  go_ret
  exact ⟨rfl, rfl⟩

theorem pairs_stops (n : Nat) (hn : 1 ≤ n) (w0 : World) (Bx By n₀ bx ox cx b2 oy cy N : Nat) (f : Nat → EP w0 n₀) (hN : N ≤ 100) (hbx : bx < n₀) (hb2 : b2 < n₀) (w : World) (hn0 : n₀ ≤ w.heap.size) (hBx : Boxed w Bx 27 (.slice (some ⟨bx, ox, none⟩) N cx)) (hBy : Boxed w By 27 (.slice (some ⟨b2, oy, none⟩) N cy))
    (hcx : ∀ j, j < N → El3 w bx (ox + j * 3) (f j).1.1) (hcy : ∀ j, j < N → El3 w b2 (oy + j * 3) (f j).1.2) :
    SeqStopsK Fence.wide n Tryz.prog 153 #[.pointer (some ⟨Bx, 0, none⟩), .pointer (some ⟨By, 0, none⟩)] (fun x : EP w0 n₀ => #[x.1.1.val, x.1.2.val]) (KY n₀ By) (fun ys => ys = upto f N) (fun _ => True) N w := fun l J Jx W hW hJA _ hY h0 => by
  refine (pairs1_in n hn w0 l Bx By n₀ bx ox cx b2 oy cy N f hN hbx hb2 J Jx hY W (Nat.le_trans hn0 hW.size) hJA ((hW.cell (p := ⟨Bx, 0, none⟩) hBx.lt).trans hBx.cell) ((hW.block By hBy.lt).trans hBy) (fun j hj => (hcx j hj).below hbx (hW.mono hn0)) (fun j hj => (hcy j hj).below hb2 (hW.mono hn0)) h0).mono ?_
  rintro e W' ⟨he, ⟨ys, rfl, hj⟩ | ⟨pre, _, hj⟩⟩
  · exact ⟨he, .inl ⟨_, rfl, hj⟩⟩
  · exact ⟨he, .inr ⟨_, trivial, hj⟩⟩

end Go.Proofs.YtifepoefeamboaaGreatDoor
namespace Nt
open Go Go.RowKit
theorem RatAt.rowedD {w w' : World} {b base : Nat} {t te : TypeId} {neg : Bool} {A B : Option Addr} {la ca lb cb : Nat} {V : Option Addr} {n c : Nat} {xs : List Value} (h : RatAt w b t neg A la ca B lb cb) (ho : w.ownsRow base te 1 (.slice V n c) n xs) (hb : b < base) (hg : w.grownBy w' (Value.slice V n c).ownBlock) : RatAt w' b t neg A la ca B lb cb :=
  (hg.block b h.lt (fun e => by have := (ho.lt _ e.symm).1; omega)).trans h
/-- an element's number -/
def qOf (r : EV) : Rat := mkRat (sg r.neg (natOf r.xs)) (natOf r.ys)
theorem qOf_eq {r : EV} {q : Rat} (h : r.v3 = rat3 q) : qOf r = q := by
  have e : (r.neg, r.xs, r.ys) = (isNeg q, D (nu q), D q.den) := h
  injection e with e1 e2
  injection e2 with e2 e3
  unfold qOf
  rw [e1, e2, e3, natOf_D, natOf_D]
  have : sg (isNeg q) (nu q) = q.num := by
    unfold sg isNeg nu
    by_cases h : q.num < 0
    · rw [decide_eq_true h]; simp; omega
    · rw [decide_eq_false h]; simp; omega
  rw [this, Rat.mkRat_self]
def dotL : List (EV × EV) → Rat
  | [] => 0
  | x :: r => dotL r + qOf x.1 * qOf x.2
def accQ {w : World} {n₀ : Nat} (pre : List (EP w n₀)) : Rat := dotL ((pre.map fun x => x.1).reverse)
theorem accQ_snoc {w : World} {n₀ : Nat} (pre : List (EP w n₀)) (x : EP w n₀) : accQ (pre ++ [x]) = accQ pre + qOf x.1.1 * qOf x.1.2 := by simp [accQ, dotL]
theorem zero_lens : (D (nu (0 : Rat))).length = 0 ∧ (D (0 : Rat).den).length = 1 := ⟨by decide, by decide⟩
theorem add_mul_lens {s a b : Rat} {k : Nat} (h1 : (D (nu s)).length ≤ 81 * k + 1) (h2 : (D s.den).length ≤ 80 * k + 1) (a1 : (D (nu a)).length ≤ 40) (a2 : (D a.den).length ≤ 40) (b1 : (D (nu b)).length ≤ 40) (b2 : (D b.den).length ≤ 40) : (D (nu (s + a * b))).length ≤ 81 * (k + 1) + 1 ∧ (D (s + a * b).den).length ≤ 80 * (k + 1) + 1 := by
  have m := mul_lens a b
  have p := add_lens s (a * b)
  omega
theorem accQ_lens {w : World} {n₀ : Nat} (pre : List (EP w n₀)) : (D (nu (accQ pre))).length ≤ 81 * pre.length + 1 ∧ (D (accQ pre).den).length ≤ 80 * pre.length + 1 := by
  have key : ∀ l : List (EP w n₀), (D (nu (dotL (l.map fun x => x.1)))).length ≤ 81 * l.length + 1 ∧ (D (dotL (l.map fun x => x.1)).den).length ≤ 80 * l.length + 1 := by
    intro l
    induction l with
    | nil => have := zero_lens; simp only [List.map_nil, dotL, List.length_nil]; omega
    | cons x l ih =>
      obtain ⟨qa, _, _, _, _, a1, a2, ea⟩ := x.2.1.on (Below.refl _ _)
      obtain ⟨qb, _, _, _, _, b1, b2, eb⟩ := x.2.2.on (Below.refl _ _)
      simp only [List.map_cons, dotL, List.length_cons]
      rw [qOf_eq ea, qOf_eq eb]
      exact add_mul_lens ih.1 ih.2 a1 a2 b1 b2
  have := key pre.reverse
  rw [List.map_reverse, List.length_reverse] at this
  exact this
theorem Rd.own {X Y : World} {P : Nat → Prop} {A : Option Addr} {n c B0 : Nat} {xs : List Int} {row : Option Nat} (h : Rd X P A n c xs) (hg : X.grownBy Y row) (hr : ∀ r, row = some r → B0 ≤ r ∧ ∃ o : Obj, X.heap[r]? = some o ∧ o.isCells = false) : Rd Y P A n c xs := by
  refine ⟨h.1, h.2.1, h.2.2.1, fun hn => ?_⟩
  obtain ⟨b, o, e, hp, hlt, hc⟩ := h.2.2.2 hn
  have hne : row ≠ some b := by
    intro er
    obtain ⟨_, ob, ho, hcl⟩ := hr b er
    have := hc 0 hn
    rw [Nat.add_zero] at this
    unfold World.cell? at this
    simp only [ho] at this
    cases ob <;> simp_all [Obj.isCells]
  exact ⟨b, o, e, hp, Nat.lt_of_lt_of_le hlt hg.size, fun i hi => (World.cell?_of_block (a := ⟨b, o + i, none⟩) (hg.block b hlt (fun e => hne e.symm))).trans (hc i hi)⟩
/-- a rational in a box, and its lists -/
def SumAt (W : World) (b : Nat) (t : TypeId) (s : Rat) : Prop := ∃ A ca B cb, RatAt W b t (isNeg s) A (D (nu s)).length ca B (D s.den).length cb ∧ RdR W (fun _ => True) (D (nu s)) (D s.den) A ca B cb
theorem SumAt.own {X Y : World} {b B0 : Nat} {t : TypeId} {s : Rat} {row : Option Nat} (h : SumAt X b t s) (hg : X.grownBy Y row) (hr : ∀ r, row = some r → B0 ≤ r ∧ ∃ o : Obj, X.heap[r]? = some o ∧ o.isCells = false) : SumAt Y b t s := by
  obtain ⟨A, ca, B, cb, h1, h2⟩ := h
  exact ⟨A, ca, B, cb, h1.own hg hr, h2.1.own hg hr, h2.2.own hg hr⟩
theorem SumAt.on {X Y : World} {b : Nat} {t : TypeId} {s : Rat} (h : SumAt X b t s) (hb : Below X.heap.size X Y) : SumAt Y b t s := by
  obtain ⟨A, ca, B, cb, h1, h2⟩ := h
  exact ⟨A, ca, B, cb, h1.on hb, h2.on hb⟩
theorem SumAt.lt {X : World} {b : Nat} {t : TypeId} {s : Rat} (h : SumAt X b t s) : b < X.heap.size := by
  obtain ⟨A, ca, B, cb, h1, h2⟩ := h
  exact h1.lt
end Nt
namespace Go.Proofs.YtifepoefeamboaaGreatDoor
open Go Go.RowKit Nt Go.Shelf
attribute [local go_sem] Oper.semAt_some

set_option maxHeartbeats 800000 in
theorem wholeRat_dot (m : Nat) (w : World) (hm : m ≤ 1000000000) :
    Calls Tryz.prog 73 #[.int .i64 ((m : Int))] w (SayR w false (D m) (D 1)) := by
  have HN5 := Lib.hid (small_len (n := m) (by omega))
  have hmax : max (m : Int) (-(m : Int)) = m := by omega
  have hle : -(m : Int) ≤ (m : Int) := by omega
  have hng : decide ((m : Int) < 0) = false := decide_eq_false (by omega)
  go_enter Tryz.func73, Tryz.ntmps73
  go_wp2
  go_loopw [3, 4] (fun v q wr => ∃ (j l : Nat) (out : List Int) (V : Option Addr) (cv : Nat), j ≤ m ∧ q = .int .i64 j ∧ v = .slice V l cv ∧ Hid (out.length = l) ∧ Hid (D m = out ++ D j) ∧ Hid (wr.ownsRow (w.heap.size + 1) 3 1 (.slice V l cv) l (out.map (Value.int .i64))) ∧ Hid (RatAt wr w.heap.size 31 false none 0 0 none 0 0) ∧ Hid (Below w.heap.size w wr)) (fun _ q _ => (intOf q).toNat)
  case atStart => exact ⟨m, 0, [], _, _, Nat.le_refl _, rfl, rfl, Lib.hid rfl, Lib.hid rfl, Lib.hid ⟨rfl, .inl ⟨rfl, rfl⟩⟩, Lib.hid (RatAt.new _ _ _ _ _ _ _ _ _), Lib.hid (below1 _ _)⟩
  case round =>
    obtain ⟨j, l, out, V, cv, hj, rfl, rfl, HOL, HD, HO, HT, HB⟩ := hrel
    have hl5 : l ≤ 5 := by
      have := congrArg List.length HD.out
      rw [List.length_append, HOL.out] at this
      have := HN5.out
      omega
    have hsz := HT.out.lt
    by_cases h0 : 0 < j
    · have hj0 : (0 : Int) < j := by omega
      have HD' : Hid (D m = (out ++ [((j % 10000 : Nat) : Int)]) ++ D (j / 10000)) := by
        show _ = _
        rw [HD.out, D_pos j h0]; simp
      clear HD
      go_wp2_with (at_builtin; refine wpList_append_ints _ rfl _ _ 29 rfl (w.heap.size + 1) 3 Tryz.underlying29 infoInt V l cv out rfl (HO.out.alloc _) _ (some ⟨wr.heap.size, 0, none⟩) 1 1 [(j : Int) % 10000] rfl (rd_one _ _ _) (by omega) (by simp; omega) ?_; intro V' c' w1 hown hg; have HO' := Lib.hid hown; have HT' := Lib.hid ((HT.out.alloc _).rowedD (HO.out.alloc _) (Nat.lt_succ_self _) hg); have HB' := Lib.hid (below_app HB.out (own_mono HO.out (Nat.le_succ _)) hg); clear hown hg)
      go_roundw
      case rel => exact ⟨j / 10000, l + 1, out ++ [((j % 10000 : Nat) : Int)], V', c', by omega, by congr 1, rfl, Lib.hid (by simp [HOL.out]), HD', HO', HT', HB'⟩
      case measure => simp [intOf]; omega
    · obtain rfl : j = 0 := by omega
      have HD' : Hid (D m = out) := by show _ = _; rw [HD.out, D_zero, List.append_nil]
      clear HD
      have HT1 := Lib.hid (HT.out.alloc (.cells #[.int .i64 1] 3))
      have HL1 := Lib.hid (Nm.lit wr 3)
      have HM1 : Hid (Nm (wr.alloc (.cells #[.int .i64 1] 3)) V cv m) := by
        have h := (own_rd' HO.out).mono (Q := fun _ => True) fun _ _ _ => trivial
        have h2 : Nm wr V cv m := by show Rd wr _ V (D m).length cv (D m); rw [HD'.out, HOL.out]; exact h
        exact h2.on (below1 _ _)
      have HB1 := Lib.hid (below_on HB.out (below1 wr (.cells #[.int .i64 1] 3)))
      have HLEN : Hid ((D m).length = l) := by show _ = _; rw [HD'.out]; exact HOL.out
      have f0 := HT1.out.fz 0
      have f1 := HT1.out.fz 1
      have f2 := HT1.out.fz 2
      have y0 := HT1.out.c0
      have y1 := HT1.out.c1
      have y2 := HT1.out.c2
      clear HO HD' HOL hsz
      go_wp2
      have g2 := fun b u v => setAll_grown (wr.alloc (.cells #[.int .i64 1] 3)) w.heap.size (.bool b) u v
      refine bodyPost_ret (retR rfl _ _ _ rfl (HT1.out.setAll _ _ _ _ _ _ _)) rfl ?_
      exact ⟨V, cv, _, 1, by rw [HLEN.out]; rfl, ⟨Rd.past HM1.out HT1.out (g2 _ _ _), Rd.past HL1.out HT1.out (g2 _ _ _)⟩, below_grow HB1.out (by omega) (g2 _ _ _)⟩


set_option maxRecDepth 20000 in
set_option maxHeartbeats 1600000 in
theorem dotted1_any (s : Rat) (As Bs : Option Addr) (cs ds : Nat) (p q : EV) (w0 : World) (n₀ : Nat) (w : World) (hs : RdR w (fun _ => True) (D (nu s)) (D s.den) As cs Bs ds) (hp : GoodE w0 n₀ p) (hq : GoodE w0 n₀ q) (hb : Below n₀ w0 w) (hn : n₀ ≤ w.heap.size) (l1 : (D (nu s)).length ≤ 300) (l2 : (D s.den).length ≤ 300) :
    Calls Tryz.prog 114 #[.agg #[.bool (isNeg s), .slice As (D (nu s)).length cs, .slice Bs (D s.den).length ds], p.val, q.val] w (SayR w (isNeg (s + qOf p * qOf q)) (D (nu (s + qOf p * qOf q))) (D (s + qOf p * qOf q).den)) := by
  obtain ⟨a, a1, a2, a3, a4, a5, a6, a7⟩ := hp.on hb
  obtain ⟨b, b1, b2, b3, b4, b5, b6, b7⟩ := hq.on hb
  rw [qOf_eq a7, qOf_eq b7]
  unfold EV.val
  rw [a1, a2, a3, b1, b2, b3]
  have HS := Lib.hid (hs.mono (Q := (· < w.heap.size)) fun _ _ h => h)
  have HA := Lib.hid (a4.mono (Q := (· < w.heap.size)) fun _ _ h => h)
  have HC := Lib.hid (b4.mono (Q := (· < w.heap.size)) fun _ _ h => h)
  have hm := mul_lens a b
  clear a1 a2 a3 a4 b1 b2 b3 b4 a7 b7 hb hs hp hq
  have HT := Lib.hid (fun (W : World) (h0 : RdR W (· < w.heap.size) (D (nu a)) (D a.den) p.A p.ca p.B p.cb) (h1 : RdR W (· < w.heap.size) (D (nu b)) (D b.den) q.A q.ca q.B q.cb) => times_any a b p.A p.B p.ca p.cb q.A q.B q.ca q.cb _ _ W h0 h1 (by omega) (by omega) (by omega) (by omega))
  have HP := Lib.hid (fun (W : World) (Am Bm : Option Addr) (cm dm : Nat) (h0 : RdR W (· < w.heap.size) (D (nu s)) (D s.den) As cs Bs ds) (h1 : RdR W (fun _ => True) (D (nu (a * b))) (D (a * b).den) Am cm Bm dm) => plus_any s (a * b) As Bs cs ds Am Bm cm dm _ _ W h0 h1 (by omega) (by omega) (by omega) (by omega))
  generalize a * b = m at *
  generalize s + m = r at *
  go_enter Tryz.func114, Tryz.ntmps114
  go_upto_region 1 with fail
  refine wp_at (fun v0 => Below w.heap.size w v0 ∧ RatAt v0 w.heap.size 31 (isNeg s) As (D (nu s)).length cs Bs (D s.den).length ds ∧ RatAt v0 (w.heap.size + 1) 31 (isNeg a) p.A (D (nu a)).length p.ca p.B (D a.den).length p.cb ∧ RatAt v0 (w.heap.size + 1 + 1) 31 (isNeg b) q.A (D (nu b)).length q.ca q.B (D b.den).length q.cb ∧ RatAt v0 (w.heap.size + 1 + 1 + 1) 31 false none 0 0 none 0 0)
    ⟨(below3 _ _ _ _).alloc (by simp; omega) _, (((RatAt.new _ _ _ _ _ _ _ _ _).alloc _).alloc _).alloc _, ((RatAt.new1 _ _ _ _ _ _ _ _ _ _).alloc _).alloc _, (RatAt.new2 _ _ _ _ _ _ _ _ _ _ _).alloc _, by have := RatAt.new (((w.alloc (.cells #[.bool (isNeg s), .slice As (D (nu s)).length cs, .slice Bs (D s.den).length ds] 31)).alloc (.cells #[.bool (isNeg a), .slice p.A (D (nu a)).length p.ca, .slice p.B (D a.den).length p.cb] 31)).alloc (.cells #[.bool (isNeg b), .slice q.A (D (nu b)).length q.ca, .slice q.B (D b.den).length q.cb] 31)) 31 false none none 0 0 0 0; rwa [World.size_alloc, World.size_alloc, World.size_alloc] at this⟩ ?_
  rintro v0 ⟨hb, r0, r1, r2, r3⟩
  have HB0 := Lib.hid hb
  have HR0 := Lib.hid r0
  have HU0 := Lib.hid r1
  have HV0 := Lib.hid r2
  have HZ0 := Lib.hid r3
  have HA0 := Lib.hid (HA.out.below HB0.out)
  have HC0 := Lib.hid (HC.out.below HB0.out)
  clear hb r0 r1 r2 r3
  go_region_held3 (fun wx => (wx.cell? ⟨w.heap.size, 0, none⟩ = some (.bool (isNeg s)) ∧ wx.cell? ⟨w.heap.size, 1, none⟩ = some (.slice As (D (nu s)).length cs) ∧ wx.cell? ⟨w.heap.size, 2, none⟩ = some (.slice Bs (D s.den).length ds)) ∧ (wx.cell? ⟨w.heap.size + 1, 0, none⟩ = some (.bool (isNeg a)) ∧ wx.cell? ⟨w.heap.size + 1, 1, none⟩ = some (.slice p.A (D (nu a)).length p.ca) ∧ wx.cell? ⟨w.heap.size + 1, 2, none⟩ = some (.slice p.B (D a.den).length p.cb)) ∧ (wx.cell? ⟨w.heap.size + 1 + 1, 0, none⟩ = some (.bool (isNeg b)) ∧ wx.cell? ⟨w.heap.size + 1 + 1, 1, none⟩ = some (.slice q.A (D (nu b)).length q.ca) ∧ wx.cell? ⟨w.heap.size + 1 + 1, 2, none⟩ = some (.slice q.B (D b.den).length q.cb)))
    (first | exact ⟨⟨HR0.out.c0, HR0.out.c1, HR0.out.c2⟩, ⟨HU0.out.c0, HU0.out.c1, HU0.out.c2⟩, ⟨HV0.out.c0, HV0.out.c1, HV0.out.c2⟩⟩ | exact ⟨⟨HR1.out.c0, HR1.out.c1, HR1.out.c2⟩, ⟨HU1.out.c0, HU1.out.c1, HU1.out.c2⟩, ⟨HV1.out.c0, HV1.out.c1, HV1.out.c2⟩⟩ | exact ⟨⟨HR2.out.c0, HR2.out.c1, HR2.out.c2⟩, ⟨HU2.out.c0, HU2.out.c1, HU2.out.c2⟩, ⟨HV2.out.c0, HV2.out.c1, HV2.out.c2⟩⟩ | exact ⟨⟨(HR2.out.grown (setAll_grown _ _ _ _ _) (by omega)).c0, (HR2.out.grown (setAll_grown _ _ _ _ _) (by omega)).c1, (HR2.out.grown (setAll_grown _ _ _ _ _) (by omega)).c2⟩, ⟨(HU2.out.grown (setAll_grown _ _ _ _ _) (by omega)).c0, (HU2.out.grown (setAll_grown _ _ _ _ _) (by omega)).c1, (HU2.out.grown (setAll_grown _ _ _ _ _) (by omega)).c2⟩, ⟨(HV2.out.grown (setAll_grown _ _ _ _ _) (by omega)).c0, (HV2.out.grown (setAll_grown _ _ _ _ _) (by omega)).c1, (HV2.out.grown (setAll_grown _ _ _ _ _) (by omega)).c2⟩⟩)
    (first
      | (go_at_call 115; refine (HP.out _ A1 B1 c1 d1 (by exact HS.out.below HB1.out) (by exact HM1.out)).mono ?_; rintro e v2 ⟨A2, c2, B2, d2, rfl, o2, bb⟩; have HB2 := Lib.hid (below_on HB1.out bb); have HR2 := Lib.hid (HR1.out.on bb); have HU2 := Lib.hid (HU1.out.on bb); have HV2 := Lib.hid (HV1.out.on bb); have HZ2 := Lib.hid (HZ1.out.on bb); have HO2 := Lib.hid o2; have f0 := HZ2.out.fz 0; have f1 := HZ2.out.fz 1; have f2 := HZ2.out.fz 2; have y0 := HZ2.out.c0; have y1 := HZ2.out.c1; have y2 := HZ2.out.c2; clear o2 bb)
      | (go_at_call 116; refine (HT.out _ (by exact HA0.out) (by exact HC0.out)).mono ?_; rintro e v1 ⟨A1, c1, B1, d1, rfl, o1, bb⟩; have bb := undrew bb; have HB1 := Lib.hid (below_on HB0.out bb); have HR1 := Lib.hid (HR0.out.on bb); have HU1 := Lib.hid (HU0.out.on bb); have HV1 := Lib.hid (HV0.out.on bb); have HZ1 := Lib.hid (HZ0.out.on bb); have HM1 := Lib.hid o1; clear o1 bb))
  go_wp2
  have g2 := fun b u v => setAll_grown v2 (w.heap.size + 1 + 1 + 1) (.bool b) u v
  refine bodyPost_ret (retR rfl _ _ _ rfl (HZ2.out.setAll _ _ _ _ _ _ _)) rfl ?_
  exact ⟨A2, c2, B2, d2, rfl, ⟨HO2.out.1.past HZ2.out (g2 _ _ _), HO2.out.2.past HZ2.out (g2 _ _ _)⟩, below_grow HB2.out (by omega) (g2 _ _ _)⟩

set_option maxRecDepth 100000 in
set_option maxHeartbeats 4000000 in
theorem foldDot_in (X : Option Addr) (Y : Option Addr) (N cx cy : Nat) (rs ss : List R3) (s0 : Rat) (As Bs : Option Addr) (cs ds : Nat) (w : World) (hx : RdS w (· < w.heap.size) X N cx rs) (hy : RdS w (· < w.heap.size) Y N cy ss) (hrs : rs.all ok3 = true) (hss : ss.all ok3 = true) (hs0 : s0 = 0) (hs : RdR w (fun _ => True) (D (nu s0)) (D s0.den) As cs Bs ds) (h0 : 0 < N) (hN : N ≤ 3 + 1) :
    Calls Tryz.prog 113 #[.slice X N cx, .slice Y N cy, .agg #[.bool (isNeg s0), .slice As (D (nu s0)).length cs, .slice Bs (D s0.den).length ds], .func (.func 114) #[] #[]] w fun e w' => ∃ l : List (EP w w.heap.size), l.map (fun x => x.1.1.v3) = rs ∧ l.map (fun x => x.1.2.v3) = ss ∧ SayR w (isNeg (accQ l)) (D (nu (accQ l))) (D (accQ l).den) e w' := by
  obtain ⟨bx, ox, XE, rfl, hbx, _, hXe, hXg⟩ := hx.evs h0
  obtain ⟨b2, oy, YE, rfl, hb2, _, hYe, hYg⟩ := hy.evs h0
  have gx : ∀ i, GoodE w w.heap.size (XE i) := fun i => ⟨(hXg i).1, by
    obtain ⟨qs, rfl, hf⟩ := all_out hrs
    obtain ⟨q, hq, e⟩ := List.mem_map.1 (hXg i).2
    exact ⟨q, e.symm, (hf q hq).1, (hf q hq).2⟩⟩
  have gy : ∀ i, GoodE w w.heap.size (YE i) := fun i => ⟨(hYg i).1, by
    obtain ⟨qs, rfl, hf⟩ := all_out hss
    obtain ⟨q, hq, e⟩ := List.mem_map.1 (hYg i).2
    exact ⟨q, e.symm, (hf q hq).1, (hf q hq).2⟩⟩
  have HV1 : Hid ((upto (fun i => (⟨(XE i, YE i), gx i, gy i⟩ : EP w w.heap.size)) N).map (fun x => x.1.1.v3) = rs) := by
    have l1 := hx.len
    refine List.ext_getElem (by simp [upto, l1]) fun i h1 h2 => ?_
    have := (hXe i (by omega)).2
    simp only [upto, List.getElem_map, List.getElem_range]
    rw [this]
    simp [List.getD, h2]
  have HV2 : Hid ((upto (fun i => (⟨(XE i, YE i), gx i, gy i⟩ : EP w w.heap.size)) N).map (fun x => x.1.2.v3) = ss) := by
    have l1 := hy.len
    refine List.ext_getElem (by simp [upto, l1]) fun i h1 h2 => ?_
    have := (hYe i (by omega)).2
    simp only [upto, List.getElem_map, List.getElem_range]
    rw [this]
    simp [List.getD, h2]
  have HXe := Lib.hid hXe
  have HYe := Lib.hid hYe
  have HS0 := Lib.hid hs0
  have HSR := Lib.hid hs
  clear hXg hYg hrs hss hXe hYe hx hy hs0 hs
  refine (callsIn_wide (n := 9)).1 ?_
  refine callsIn_of_wp_marks Tryz.func113 rfl trivial ?_ rfl
  simp only [Tryz.ntmps113, List.size_toArray, List.length_cons, List.length_nil, Nat.reduceAdd, Nat.reduceSub, Array.replicate_succ, Array.replicate_zero, List.push_toArray, List.append_toArray, List.nil_append, List.cons_append]
  gi_wp2_with (refine ⟨trivial, ?_⟩; gi_at_call 139; refine (pairs_in _ _ _ _ _ _ _ _).mono ?_; rintro e w' ⟨rfl, rfl⟩)
  have hsz : ((((((w.alloc (.cells #[.bool (isNeg s0), .slice As (D (nu s0)).length cs, .slice Bs (D s0.den).length ds] 31)).alloc (.cells #[.func (.func 114) #[] #[]] 146)).alloc (.cells #[.bool false, .slice none 0 0, .slice none 0 0] 31)).alloc (.cells #[.bool (isNeg s0), .slice As (D (nu s0)).length cs, .slice Bs (D s0.den).length ds] 31)).alloc (.cells #[.slice (some ⟨bx, ox, none⟩) N cx] 27)).alloc (.cells #[.slice (some ⟨b2, oy, none⟩) N cy] 27)).heap.size = w.heap.size + 6 := by simp
  have bJ := ((((Boxed.new (w.alloc (.cells #[.bool (isNeg s0), .slice As (D (nu s0)).length cs, .slice Bs (D s0.den).length ds] 31)) 146 (.func (.func 114) #[] #[])).alloc (.cells #[.bool false, .slice none 0 0, .slice none 0 0] 31)).alloc (.cells #[.bool (isNeg s0), .slice As (D (nu s0)).length cs, .slice Bs (D s0.den).length ds] 31)).alloc (.cells #[.slice (some ⟨bx, ox, none⟩) N cx] 27)).alloc (.cells #[.slice (some ⟨b2, oy, none⟩) N cy] 27)
  have bR := (((RatAt.new ((w.alloc (.cells #[.bool (isNeg s0), .slice As (D (nu s0)).length cs, .slice Bs (D s0.den).length ds] 31)).alloc (.cells #[.func (.func 114) #[] #[]] 146)) 31 false none none 0 0 0 0).alloc (.cells #[.bool (isNeg s0), .slice As (D (nu s0)).length cs, .slice Bs (D s0.den).length ds] 31)).alloc (.cells #[.slice (some ⟨bx, ox, none⟩) N cx] 27)).alloc (.cells #[.slice (some ⟨b2, oy, none⟩) N cy] 27)
  have bS := ((RatAt.new (((w.alloc (.cells #[.bool (isNeg s0), .slice As (D (nu s0)).length cs, .slice Bs (D s0.den).length ds] 31)).alloc (.cells #[.func (.func 114) #[] #[]] 146)).alloc (.cells #[.bool false, .slice none 0 0, .slice none 0 0] 31)) 31 (isNeg s0) As Bs (D (nu s0)).length cs (D s0.den).length ds).alloc (.cells #[.slice (some ⟨bx, ox, none⟩) N cx] 27)).alloc (.cells #[.slice (some ⟨b2, oy, none⟩) N cy] 27)
  have bX := (Boxed.new ((((w.alloc (.cells #[.bool (isNeg s0), .slice As (D (nu s0)).length cs, .slice Bs (D s0.den).length ds] 31)).alloc (.cells #[.func (.func 114) #[] #[]] 146)).alloc (.cells #[.bool false, .slice none 0 0, .slice none 0 0] 31)).alloc (.cells #[.bool (isNeg s0), .slice As (D (nu s0)).length cs, .slice Bs (D s0.den).length ds] 31)) 27 (.slice (some ⟨bx, ox, none⟩) N cx)).alloc (.cells #[.slice (some ⟨b2, oy, none⟩) N cy] 27)
  have bY := Boxed.new (((((w.alloc (.cells #[.bool (isNeg s0), .slice As (D (nu s0)).length cs, .slice Bs (D s0.den).length ds] 31)).alloc (.cells #[.func (.func 114) #[] #[]] 146)).alloc (.cells #[.bool false, .slice none 0 0, .slice none 0 0] 31)).alloc (.cells #[.bool (isNeg s0), .slice As (D (nu s0)).length cs, .slice Bs (D s0.den).length ds] 31)).alloc (.cells #[.slice (some ⟨bx, ox, none⟩) N cx] 27)) 27 (.slice (some ⟨b2, oy, none⟩) N cy)
  simp only [World.size_alloc] at bJ bR bS bX bY
  have hB0 : Below w.heap.size w ((((((w.alloc (.cells #[.bool (isNeg s0), .slice As (D (nu s0)).length cs, .slice Bs (D s0.den).length ds] 31)).alloc (.cells #[.func (.func 114) #[] #[]] 146)).alloc (.cells #[.bool false, .slice none 0 0, .slice none 0 0] 31)).alloc (.cells #[.bool (isNeg s0), .slice As (D (nu s0)).length cs, .slice Bs (D s0.den).length ds] 31)).alloc (.cells #[.slice (some ⟨bx, ox, none⟩) N cx] 27)).alloc (.cells #[.slice (some ⟨b2, oy, none⟩) N cy] 27)) := (((((below1 w _).alloc (by simp) _).alloc (by simp; omega) _).alloc (by simp; omega) _).alloc (by simp; omega) _).alloc (by simp; omega) _
  obtain ⟨W0, hW0⟩ : ∃ W0, ((((((w.alloc (.cells #[.bool (isNeg s0), .slice As (D (nu s0)).length cs, .slice Bs (D s0.den).length ds] 31)).alloc (.cells #[.func (.func 114) #[] #[]] 146)).alloc (.cells #[.bool false, .slice none 0 0, .slice none 0 0] 31)).alloc (.cells #[.bool (isNeg s0), .slice As (D (nu s0)).length cs, .slice Bs (D s0.den).length ds] 31)).alloc (.cells #[.slice (some ⟨bx, ox, none⟩) N cx] 27)).alloc (.cells #[.slice (some ⟨b2, oy, none⟩) N cy] 27)) = W0 := ⟨_, rfl⟩
  rw [hW0] at bJ bR bS bX bY hB0 hsz ⊢
  clear hW0
  have bS0 : SumAt W0 (w.heap.size + 1 + 1 + 1) 31 (accQ ([] : List (EP w w.heap.size))) := by
    show SumAt _ _ _ (0 : Rat)
    rw [← HS0.out]
    exact ⟨As, cs, Bs, ds, bS, HSR.out.on hB0⟩
  clear bS
  refine wpIn_rangeFunc_ownH rfl (by omega) (gf := 153) (lb := #[.pointer (some ⟨w.heap.size + 1 + 1 + 1 + 1, 0, none⟩), .pointer (some ⟨w.heap.size + 1 + 1 + 1 + 1 + 1, 0, none⟩)]) rfl trivial (enters_of Tryz.func153 (by kernel_rfl) rfl)
    (pairs_stops _ (by omega) w (w.heap.size + 1 + 1 + 1 + 1) (w.heap.size + 1 + 1 + 1 + 1 + 1) w.heap.size bx ox cx b2 oy cy N (fun i => ⟨(XE i, YE i), gx i, gy i⟩) (by omega) hbx hb2 W0 (by omega) bX bY (fun j hj => (HXe.out j hj).1.below hbx hB0) (fun j hj => (HYe.out j hj).1.below hb2 hB0))
    KY.trans (fun W l o o' hl ho hc hw => ⟨belowK_b (w := W0) (by omega) W l o o' hl ho hc hw, (grownBy_putObj' W l o').block _ (by have := (Array.getElem?_eq_some_iff.1 ho).1; omega) (fun e => by injection e with e; omega)⟩) (Below.refl _ _) (fun _ => rfl)
    (fun pre W => (SumAt W (w.heap.size + 1 + 1 + 1) 31 (accQ pre) ∧ (Boxed W (w.heap.size + 1) 146 (.func (.func 114) #[] #[]) ∧ (Boxed W (w.heap.size + 1 + 1 + 1 + 1 + 1) 27 (.slice (some ⟨b2, oy, none⟩) N cy) ∧ RatAt W (w.heap.size + 1 + 1) 31 false none 0 0 none 0 0))) ∧ Below w.heap.size w W)
    (fun _ _ _ => False)
    (OwnFrom.and (OwnFrom.and (fun _ _ _ _ hs hg hr => hs.own hg hr) (OwnFrom.and (Own.from (boxed_own _ _ _) _) (OwnFrom.and (Own.from (boxed_own _ _ _) _) (fun _ _ _ _ hs hg hr => RatAt.own hs hg hr)))) (ownFrom_below (Nat.le_refl _) (by omega)))
    (fun _ _ _ _ _ hs _ _ => hs)
    ⟨⟨bS0, bJ, bY, bR⟩, hB0⟩
    (fun x a' W => ∃ Bp Bq, w.heap.size + 1 + 1 + 1 + 1 + 1 < Bp ∧ w.heap.size + 1 + 1 + 1 + 1 + 1 < Bq ∧ RatAt W Bp 31 x.1.1.neg x.1.1.A x.1.1.xs.length x.1.1.ca x.1.1.B x.1.1.ys.length x.1.1.cb ∧ RatAt W Bq 31 x.1.2.neg x.1.2.A x.1.2.xs.length x.1.2.ca x.1.2.B x.1.2.ys.length x.1.2.cb ∧ a' = { tmps := #[.slice (some ⟨bx, ox, none⟩) N cx, .slice (some ⟨b2, oy, none⟩) N cy, .agg #[.bool (isNeg s0), .slice As (D (nu s0)).length cs, .slice Bs (D s0.den).length ds], .func (.func 114) #[] #[], undef, undef, .pointer (some ⟨w.heap.size, 0, none⟩), .pointer (some ⟨w.heap.size + 1, 0, none⟩), .pointer (some ⟨w.heap.size + 1 + 1, 0, none⟩), .pointer (some ⟨w.heap.size + 1 + 1 + 1, 0, none⟩), .pointer (some ⟨Bp, 0, none⟩), .pointer (some ⟨Bq, 0, none⟩), .agg #[.bool (isNeg s0), .slice As (D (nu s0)).length cs, .slice Bs (D s0.den).length ds], .slice (some ⟨bx, ox, none⟩) N cx, .slice (some ⟨b2, oy, none⟩) N cy, .func (.func 153) #[] #[.pointer (some ⟨w.heap.size + 1 + 1 + 1 + 1, 0, none⟩), .pointer (some ⟨w.heap.size + 1 + 1 + 1 + 1 + 1, 0, none⟩)], x.1.1.val, x.1.2.val, undef, undef, undef, undef, undef, undef], defers := [] })
    (fun x a' _ X Y row hs hg hr => by obtain ⟨Bp, Bq, h1, h2, h3, h4, h5⟩ := hs; exact ⟨Bp, Bq, h1, h2, h3.own hg hr, h4.own hg hr, h5⟩)
    ?assign ?body ?done ?stop
  case assign =>
    rintro l pre x W K ⟨⟨bS1, bJ1, bY1, bR1⟩, hB1⟩ hK
    have hs1 := hB1.size
    have hyl := bY1.lt
    simp only [EV.val]
    gi_wp2
    have hal := below2 W (.cells #[.bool x.1.1.neg, .slice x.1.1.A x.1.1.xs.length x.1.1.ca, .slice x.1.1.B x.1.1.ys.length x.1.1.cb] 31) (.cells #[.bool x.1.2.neg, .slice x.1.2.A x.1.2.xs.length x.1.2.ca, .slice x.1.2.B x.1.2.ys.length x.1.2.cb] 31)
    refine hK _ _ (((KeepsOthers.alloc _ _).trans (KeepsOthers.alloc _ _)).from _) ⟨((Below.refl _ W).alloc hs1 _).alloc (by simp; omega) _, (Below.heap_alloc _ _ _ (by simp; omega)).trans (Below.heap_alloc W _ _ hyl)⟩ ⟨⟨bS1.on hal, (bJ1.alloc _).alloc _, (bY1.alloc _).alloc _, bR1.on hal⟩, (hB1.alloc hs1 _).alloc (by simp; omega) _⟩ ⟨W.heap.size, W.heap.size + 1, by omega, by omega, (RatAt.new _ _ _ _ _ _ _ _ _).alloc _, RatAt.new1 _ _ _ _ _ _ _ _ _ _, rfl⟩
  case body =>
    rintro l pre x a' W hl ⟨r, hr⟩ ⟨⟨bS1, bJ1, bY1, bR1⟩, hB1⟩ ⟨Bp, Bq, hBp, hBq, rp, rq, rfl⟩ hlt
    obtain ⟨Ap, cp, Bp', dp, rS, hS⟩ := bS1
    have cJ := bJ1.cell
    have p0 := rp.c0
    have p1 := rp.c1
    have p2 := rp.c2
    have q0 := rq.c0
    have q1 := rq.c1
    have q2 := rq.c2
    have t0 := rS.c0
    have t1 := rS.c1
    have t2 := rS.c2
    have hs1 := hB1.size
    have hyl := bY1.lt
    have hln := accQ_lens pre
    have hcall := dotted1_any (accQ pre) Ap Bp' cp dp x.1.1 x.1.2 w w.heap.size W hS x.2.1 x.2.2 hB1 hs1 (by omega) (by omega)
    rw [← accQ_snoc] at hcall
    obtain ⟨s2, hs2⟩ : ∃ s2, s2 = accQ (pre ++ [x]) := ⟨_, rfl⟩
    rw [← hs2] at hcall
    have HS2 := Lib.hid hs2
    simp only [EV.val] at hcall ⊢
    clear hln hs2
    gi_wp2_with (refine ⟨trivial, ?_⟩; gi_at_call 114; refine (CallsIn.inRound l (callsIn_wide.2 hcall)).mono ?_; rintro e w1 ⟨A3, c3, B3, d3, rfl, o3, hb1⟩; have rS2 := rS.on hb1; have bJ2 : Boxed w1 _ _ _ := (hb1.block _ bJ1.lt).trans bJ1; have bY2 : Boxed w1 _ _ _ := (hb1.block _ bY1.lt).trans bY1; have bR2 := bR1.on hb1; have u0 := rS2.c0; have u1 := rS2.c1; have u2 := rS2.c2; have f0 := rS2.fz 0; have f1 := rS2.fz 1; have f2 := rS2.fz 2)
    have g2 := setAll_grown w1 (w.heap.size + 1 + 1 + 1) (.bool (isNeg s2)) (.slice A3 (D (nu s2)).length c3) (.slice B3 (D s2.den).length d3)
    have hb2' : Below w.heap.size W (((w1.setCell ⟨w.heap.size + 1 + 1 + 1, 0, none⟩ (.bool (isNeg s2))).setCell ⟨w.heap.size + 1 + 1 + 1, 1, none⟩ (.slice A3 (D (nu s2)).length c3)).setCell ⟨w.heap.size + 1 + 1 + 1, 2, none⟩ (.slice B3 (D s2.den).length d3)) := (hb1.mono hs1).trans (grown_below g2 (by have := hb1.size; omega) (by omega))
    have hkb : ∀ (b : Nat) (t : TypeId) (v : Value), Boxed w1 b t v → b ≠ w.heap.size + 1 + 1 + 1 → Boxed (((w1.setCell ⟨w.heap.size + 1 + 1 + 1, 0, none⟩ (.bool (isNeg s2))).setCell ⟨w.heap.size + 1 + 1 + 1, 1, none⟩ (.slice A3 (D (nu s2)).length c3)).setCell ⟨w.heap.size + 1 + 1 + 1, 2, none⟩ (.slice B3 (D s2.den).length d3)) b t v := fun b t v h hne => (g2.block b h.lt (fun e => hne (by injection e))).trans h
    refine ⟨((keeps_below hb1).trans ((KeepsOthers.setCell _ _ _).trans ((KeepsOthers.setCell _ _ _).trans (KeepsOthers.setCell _ _ _)))).from _, ⟨hb2', (hkb _ _ _ bY2 (by omega)).trans bY1.symm⟩, ⟨⟨by rw [← HS2.out]; exact ⟨A3, c3, B3, d3, rS2.setAll _ _ _ _ _ _ _, o3.1.past rS2 g2, o3.2.past rS2 g2⟩, hkb _ _ _ bJ2 (by omega), hkb _ _ _ bY2 (by omega), bR2.grown g2 (by omega)⟩, hB1.trans hb2'⟩⟩
  case done =>
    rintro D0 zs W hD rfl ⟨⟨bS1, bJ1, bY1, bR1⟩, hB1⟩ hK
    obtain ⟨Ap, cp, Bp', dp, rS, hS⟩ := bS1
    have t0 := rS.c0
    have t1 := rS.c1
    have t2 := rS.c2
    have f0 := bR1.fz 0
    have f1 := bR1.fz 1
    have f2 := bR1.fz 2
    have y0 := bR1.c0
    have y1 := bR1.c1
    have y2 := bR1.c2
    gi_wp2
    have g2 := fun b u v => setAll_grown W (w.heap.size + 1 + 1) (.bool b) u v
    have hdl := (Array.getElem?_eq_some_iff.1 hK).1
    have hK3 := fun b u v => ((g2 b u v).block D0 hdl (fun e => by injection e with e; omega)).trans hK
    refine ⟨by simp, .inl ⟨_, _, rfl, run_takeDeferred (hK3 _ _ _), ?_⟩⟩
    have gp := fun V => grownBy_putObj' V D0 (.deferred none)
    have hrow : ∀ (b : Bool) (u v : Value) (r : Nat), some D0 = some r → 0 ≤ r ∧ ∃ o : Obj, (((W.setCell ⟨w.heap.size + 1 + 1, 0, none⟩ (.bool b)).setCell ⟨w.heap.size + 1 + 1, 1, none⟩ u).setCell ⟨w.heap.size + 1 + 1, 2, none⟩ v).heap[r]? = some o ∧ o.isCells = false := fun b u v r e => by
      injection e with e
      subst e
      exact ⟨Nat.zero_le _, _, hK3 b u v, rfl⟩
    exact ⟨_, retR rfl _ _ _ rfl ((bR1.setAll _ _ _ _ _ _ _).own (gp _) (hrow _ _ _)), _, HV1.out, HV2.out, Ap, cp, Bp', dp, rfl, ⟨(hS.1.past bR1 (g2 _ _ _)).own (gp _) (hrow _ _ _), (hS.2.past bR1 (g2 _ _ _)).own (gp _) (hrow _ _ _)⟩, (below_grow hB1 (by omega) (g2 _ _ _)).trans (belowK_b (w := w) (Nat.le_refl _) _ D0 _ _ (by omega) (hK3 _ _ _) rfl rfl)⟩
  case stop =>
    rintro D c pre W _ _ h _
    exact h.elim
end Go.Proofs.YtifepoefeamboaaGreatDoor
namespace Nt
open Go Go.RowKit
def sameVV (rs ss : List R3) : Bool := okV rs && okV ss && decide (rs = ss)
theorem vcode2 (n m : Nat) (rs ss : List R3) : vcode 2 (fun i => if i = 0 then n else m) (fun i => if i = 0 then rs else ss) = askV n m rs ss := by
  unfold vcode askV
  simp only [List.range_succ, List.range_zero, List.nil_append, List.cons_append, List.any_cons, List.any_nil, Bool.or_false, if_true, Nat.succ_ne_zero, if_false]
  by_cases h : 4096 < n ∨ 4096 < m
  · rw [if_pos h, if_pos]
    simp only [Bool.or_eq_true, decide_eq_true_eq]
    exact h
  · rw [if_neg h, if_neg (by simp only [Bool.or_eq_true, decide_eq_true_eq]; exact h)]
    cases h1 : okV rs <;> cases h2 : okV ss <;> simp
    by_cases e : n = m
    · simp [e]
    · simp [e, Ne.symm e]
theorem sameVV_yes {n m : Nat} {rs ss : List R3} (h : askV n m rs ss = 0) : okV rs = true ∧ okV ss = true ∧ n = m ∧ sameVV rs ss = decide (rs = ss) := by
  unfold askV at h
  by_cases hb : 4096 < n ∨ 4096 < m
  · rw [if_pos hb] at h; cases h
  · rw [if_neg hb] at h
    cases hr : okV rs
    · rw [hr] at h; simp at h
    · cases hs : okV ss
      · rw [hr, hs] at h; simp at h
      · rw [hr, hs] at h
        by_cases e : n = m
        · exact ⟨rfl, rfl, e, by unfold sameVV; rw [hr, hs]; rfl⟩
        · rw [if_pos (by decide), if_pos e] at h; cases h
theorem two_cells (w : World) (t : TypeId) (x y : Value) : ∀ i, i < 2 → (w.alloc (.cells #[x, y] t)).cell? ⟨w.heap.size, i, none⟩ = some (if i = 0 then x else y) := by
  intro i hi
  rw [cell_of_row _ _ _ _ t (0, 0) (heap_alloc_new w _)]
  match i, hi with
  | 0, _ => rfl
  | 1, _ => rfl
end Nt
namespace Go.Proofs.YtifepoefeamboaaGreatDoor
open Go Go.RowKit Nt

end Go.Proofs.YtifepoefeamboaaGreatDoor
namespace Nt
open Go Go.RowKit
def dR : List (Rat × Rat) → Rat
  | [] => 0
  | x :: r => dR r + x.1 * x.2
/-- the first k products' sum -/
def dotK (ps qs : List Rat) (k : Nat) : Rat := dR (((ps.zip qs).take k).reverse)
theorem dotK_zero (ps qs : List Rat) : dotK ps qs 0 = 0 := by simp [dotK, dR]
theorem dotK_succ {ps qs : List Rat} {k : Nat} (h1 : k < ps.length) (h2 : k < qs.length) : dotK ps qs (k + 1) = dotK ps qs k + ps.getD k 0 * qs.getD k 0 := by
  unfold dotK
  have hz : k < (ps.zip qs).length := by rw [List.length_zip]; omega
  rw [List.take_succ_eq_append_getElem hz, List.reverse_append]
  simp [dR, List.getD, h1, h2]
theorem dotK_lens {ps qs : List Rat} (hp : Fine ps) (hq : Fine qs) : ∀ (k : Nat), k ≤ ps.length → k ≤ qs.length → (D (nu (dotK ps qs k))).length ≤ 81 * k + 1 ∧ (D (dotK ps qs k).den).length ≤ 80 * k + 1
  | 0, _, _ => by rw [dotK_zero]; have := zero_lens; omega
  | k + 1, h1, h2 => by
    have ih := dotK_lens hp hq k (by omega) (by omega)
    rw [dotK_succ (by omega) (by omega)]
    exact add_mul_lens ih.1 ih.2 ((D_len_le _ 40).2 (hp.at_ k (by omega)).1) ((D_len_le _ 40).2 (hp.at_ k (by omega)).2) ((D_len_le _ 40).2 (hq.at_ k (by omega)).1) ((D_len_le _ 40).2 (hq.at_ k (by omega)).2)
theorem accQ_dot {w : World} {n₀ : Nat} (l : List (EP w n₀)) (ps qs : List Rat) (h1 : l.map (fun x => x.1.1.v3) = ps.map rat3) (h2 : l.map (fun x => x.1.2.v3) = qs.map rat3) : accQ l = dotK ps qs ps.length := by
  have l1 : l.length = ps.length := by simpa using congrArg List.length h1
  have l2 : l.length = qs.length := by simpa using congrArg List.length h2
  have key : ∀ (L : List (EV × EV)), dotL L = dR (L.map fun x => (qOf x.1, qOf x.2)) := by
    intro L
    induction L with
    | nil => rfl
    | cons x L ih => simp only [dotL, dR, List.map_cons, ih]
  unfold accQ dotK
  rw [key, List.map_reverse, List.map_map]
  congr 2
  rw [List.take_of_length_le (by rw [List.length_zip]; omega)]
  refine List.ext_getElem (by simp [l1]; omega) fun i a b => ?_
  have hi : i < l.length := by simpa using a
  have e1 := congrArg (fun t => t[i]?) h1
  have e2 := congrArg (fun t => t[i]?) h2
  simp only [List.getElem?_map, List.getElem?_eq_getElem hi, List.getElem?_eq_getElem (show i < ps.length by omega), List.getElem?_eq_getElem (show i < qs.length by omega), Option.map_some, Option.some.injEq] at e1 e2
  simp only [List.getElem_map, Function.comp, List.getElem_zip]
  rw [qOf_eq e1, qOf_eq e2]
theorem C3.grown {w w' : World} {b k g : Nat} {ng : Bool} {A : Option Addr} {la ca : Nat} {B : Option Addr} {lb cb : Nat} (h : C3 w b k ng A la ca B lb cb) (hne : b ≠ g) (hg : w.grownBy w' (some g)) (hb : b < w.heap.size) : C3 w' b k ng A la ca B lb cb := by
  have hk := hg.block b hb (fun e => hne (by injection e))
  exact ⟨(World.cell?_of_block (a := ⟨b, k, none⟩) hk).trans h.1, (World.cell?_of_block (a := ⟨b, k + 1, none⟩) hk).trans h.2.1, (World.cell?_of_block (a := ⟨b, k + 2, none⟩) hk).trans h.2.2⟩
end Nt
namespace Go.Proofs.YtifepoefeamboaaGreatDoor
open Go Go.RowKit Nt

set_option maxHeartbeats 1600000 in
theorem dotted_any (ps qs : List Rat) (X Y : Option Addr) (N cx cy : Nat) (P P' : Nat → Prop) (w : World) (hx : RdS w P X N cx (ps.map rat3)) (hy : RdS w P' Y N cy (qs.map rat3)) (hp : (ps.map rat3).all ok3 = true) (hq : (qs.map rat3).all ok3 = true) (h0 : 0 < N) (hN : N ≤ 3 + 1) :
    Calls Tryz.prog 80 #[.slice X N cx, .slice Y N cy] w (SayR w (isNeg (dotK ps qs ps.length)) (D (nu (dotK ps qs ps.length))) (D (dotK ps qs ps.length).den)) := by
  have HX := Lib.hid hx.low
  have HY := Lib.hid hy.low
  have HP := Lib.hid hp
  have HQ := Lib.hid hq
  clear hx hy hp hq
  go_enter Tryz.func80, Tryz.ntmps80
  go_wp2_with fail
  refine calls_at (fun W => Below w.heap.size w W ∧ RatAt W w.heap.size 31 false none 0 0 none 0 0) ⟨below1 _ _, RatAt.new _ _ _ _ _ _ _ _ _⟩ ?_
  rintro W ⟨hb, r0⟩
  refine (wholeRat_dot 0 W (by omega)).mono ?_
  rintro e w1 ⟨A1, c1, B1, d1, rfl, o1, b1⟩
  have HB1 := Lib.hid (below_on hb b1)
  have HT1 := Lib.hid (r0.on b1)
  have HO1 := Lib.hid o1
  clear hb r0 o1 b1
  go_wp2_with fail
  refine (foldDot_in X Y N cx cy _ _ 0 A1 B1 c1 d1 w1 (HX.out.below HB1.out).low (HY.out.below HB1.out).low HP.out HQ.out rfl HO1.out h0 hN).mono ?_
  rintro e w2 ⟨l, e1, e2, A2, c2, B2, d2, rfl, o2, b2⟩
  rw [accQ_dot l ps qs e1 e2] at o2 ⊢
  have HB2 := Lib.hid (below_on HB1.out b2)
  have HT2 := Lib.hid (HT1.out.on b2)
  have HO2 := Lib.hid o2
  clear o2 b2 e1 e2 HT1 HO1
  generalize dotK ps qs ps.length = r at *
  have f0 := HT2.out.fz 0
  have f1 := HT2.out.fz 1
  have f2 := HT2.out.fz 2
  have y0 := HT2.out.c0
  have y1 := HT2.out.c1
  have y2 := HT2.out.c2
  go_wp2
  have g2 := fun b u v => setAll_grown w2 w.heap.size (.bool b) u v
  refine bodyPost_ret (retR rfl _ _ _ rfl (HT2.out.setAll _ _ _ _ _ _ _)) rfl ?_
  exact ⟨A2, c2, B2, d2, rfl, ⟨HO2.out.1.past HT2.out (g2 _ _ _), HO2.out.2.past HT2.out (g2 _ _ _)⟩, below_grow HB2.out (by omega) (g2 _ _ _)⟩

set_option maxRecDepth 20000 in
set_option maxHeartbeats 1600000 in
theorem implDot_ok (ps qs : List Rat) (X Y : Option Addr) (n c d : Nat) (P P' : Nat → Prop) (w : World) (hx0 : RdS w P X n c (ps.map rat3)) (hy0 : RdS w P' Y n d (qs.map rat3)) (hp : Fine ps) (hq : Fine qs) (hn : n ≤ 1048576) (hask : askV n n (ps.map rat3) (qs.map rat3) = 0) :
    Calls Tryz.prog 49 #[.slice X n c, .slice Y n d] w (RetRC 3 w (fN (dotK ps qs ps.length)) (fX (dotK ps qs ps.length)) (fY (dotK ps qs ps.length)) (fK (dotK ps qs ps.length))) := by
  obtain ⟨o1, o2, _, _⟩ := sameVV_yes hask
  have q1 := okV_out o1
  have hlp : ps.length = n := by have := hx0.len; rw [List.length_map] at this; exact this
  have hlq : qs.length = n := by have := hy0.len; rw [List.length_map] at this; exact this
  have q2 := q1.1
  have q3 := q1.2.1
  rw [List.length_map] at q2 q3
  have hlen := dotK_lens hp hq ps.length (Nat.le_refl _) (by omega)
  have HA1 : Hid ((ps.map rat3).all ok3 = true) := by unfold okV at o1; simp only [Bool.and_eq_true] at o1; exact o1.2
  have HA2 : Hid ((qs.map rat3).all ok3 = true) := by unfold okV at o2; simp only [Bool.and_eq_true] at o2; exact o2.2
  have hf1 : (D (nu (dotK ps qs ps.length))).length ≤ 16777216 := Nat.le_trans hlen.1 (by omega)
  have hf2 : (D (dotK ps qs ps.length).den).length ≤ 16777216 := Nat.le_trans hlen.2 (by omega)
  have HDOT := Lib.hid (fun (W : World) (h1 : RdS W (· < w.heap.size) X n c (ps.map rat3)) (h2 : RdS W (· < w.heap.size) Y n d (qs.map rat3)) => dotted_any ps qs X Y n c d _ _ W h1 h2 HA1.out HA2.out (by omega) (by omega))
  have HC : Hid (Calls Tryz.prog 79 #[.slice (some ⟨w.heap.size + 1, 0, none⟩) 2 2] ((w.alloc (.cells #[.bool false, .slice none 0 0, .slice none 0 0] 31)).alloc (.cells #[.slice X n c, .slice Y n d] 27)) fun e w' => e = .returned (.int .i64 0) ∧ Below ((w.alloc (.cells #[.bool false, .slice none 0 0, .slice none 0 0] 31)).alloc (.cells #[.slice X n c, .slice Y n d] 27)).heap.size ((w.alloc (.cells #[.bool false, .slice none 0 0, .slice none 0 0] 31)).alloc (.cells #[.slice X n c, .slice Y n d] 27)) w') := by
    have hx := hx0
    have hy := hy0
    have hs := small_fine hp
    have hs' := small_fine hq
    have hm := hn
    have h := (vecCode_any (w.heap.size + 1) 2 (fun i => if i = 0 then X else Y) (fun i => if i = 0 then n else n) (fun i => if i = 0 then c else d) (fun i => if i = 0 then ps.map rat3 else qs.map rat3) ((w.alloc (.cells #[.bool false, .slice none 0 0, .slice none 0 0] 31)).alloc (.cells #[.slice X n c, .slice Y n d] 27)) (by omega) (by omega) (by simp)
    (fun i hi => by
      have := two_cells (w.alloc (.cells #[.bool false, .slice none 0 0, .slice none 0 0] 31)) 27 (.slice X n c) (.slice Y n d) i hi
      rw [World.size_alloc] at this
      rw [this]
      by_cases e : i = 0 <;> simp [e])
    (fun i hi => by
      by_cases e : i = 0
      · simp only [e, if_true]; exact (hx.low.below (below2 _ _ _)).low
      · simp only [e, if_false]; exact (hy.low.below (below2 _ _ _)).low)
    (fun i hi => by by_cases e : i = 0 <;> simp only [e, if_true, if_false] <;> assumption)
    (fun i hi => by by_cases e : i = 0 <;> simp only [e, if_true, if_false] <;> assumption))
    rw [vcode2, hask] at h
    exact h
  have HX := Lib.hid hx0.low
  have HY := Lib.hid hy0.low
  have HBW := Lib.hid (below2 w (.cells #[.bool false, .slice none 0 0, .slice none 0 0] 31) (.cells #[.slice X n c, .slice Y n d] 27))
  have HT := Lib.hid ((RatAt.new w 31 false none none 0 0 0 0).alloc (.cells #[.slice X n c, .slice Y n d] 27))
  have h0n : 0 < n := by omega
  have hn4 : n ≤ 3 + 1 := by omega
  clear hx0 hy0 hask o1 o2 q1 q2 q3 hp hq hlen hlp hlq HA1 HA2
  generalize dotK ps qs ps.length = r at *
  go_enter Tryz.func49, Tryz.ntmps49
  go_wp2_with fail
  refine HC.out.mono ?_
  rintro e w1 ⟨rfl, b1⟩
  have HB1 := Lib.hid (below_on HBW.out b1)
  have HT1 := Lib.hid (HT.out.on b1)
  clear b1 HC HBW HT
  go_wp2_with fail
  refine (HDOT.out w1 (HX.out.below HB1.out) (HY.out.below HB1.out)).mono ?_
  rintro e w2 ⟨A2, c2, B2, d2, rfl, o2, b2⟩
  have HB2 := Lib.hid (below_on HB1.out b2)
  have HT2 := Lib.hid (HT1.out.on b2)
  have HO2 := Lib.hid o2
  clear b2 o2 HB1 HT1
  go_wp2_with fail
  refine (fitted_any r A2 B2 c2 d2 _ w2 HO2.out hf1 hf2).mono ?_
  rintro e w3 ⟨A3, c3, B3, d3, rfl, o3, b3⟩
  have HB3 := Lib.hid (below_on HB2.out b3)
  have HT3 := Lib.hid (HT2.out.on b3)
  have HO3 := Lib.hid o3
  have hs2 := HT2.out.lt
  clear b3 o3 HB2 HT2 HO2
  have f0 := HT3.out.fz 0
  have f1 := HT3.out.fz 1
  have f2 := HT3.out.fz 2
  have y0 := HT3.out.c0
  have y1 := HT3.out.c1
  have y2 := HT3.out.c2
  go_wp2
  have g2 := fun b u v => setAll_grown w3 w.heap.size (.bool b) u v
  refine bodyPost_ret (retRC rfl _ _ _ rfl (HT3.out.setAll _ _ _ _ _ _ _)) rfl ?_
  exact ⟨A3, c3, B3, d3, rfl, ⟨own_mono (own_gone HO3.out.1 (g2 _ _ _) (fun k hk => by have := own_block HO3.out.1 hk; omega)) (by omega), own_mono (own_gone HO3.out.2.1 (g2 _ _ _) (fun k hk => by have := own_block HO3.out.2.1 hk; omega)) (by omega), HO3.out.2.2⟩, below_grow HB3.out (by omega) (g2 _ _ _)⟩

end Go.Proofs.YtifepoefeamboaaGreatDoor
namespace Nt
/-- ms are ns and one tree behind them, at most d deep, with variables below m -/
def Sprout (m : Int) (d : Nat) (ns ms : List Nd) : Prop :=
  ∃ tl : List Nd, ms = ns ++ tl ∧ 1 ≤ tl.length ∧ tl.length + 1 ≤ 2 ^ d ∧ (∀ x ∈ tl, fitN x = true ∧ (x.1 = 2 → x.2.2.2 < m)) ∧
    ∀ ts, trees ns = some ts → ∃ us, trees ms = some (ts ++ us) ∧ us.length = tl.length ∧ ∃ dd : Int, us.getD (us.length - 1) tr0 = ((ts.length : Int), dd) ∧ 1 ≤ dd ∧ dd ≤ d
theorem getT_app (ts us : List Tr) (h : 1 ≤ us.length) : (ts ++ us).getD ((ts ++ us).length - 1) tr0 = us.getD (us.length - 1) tr0 := by
  have e : (ts ++ us).length - 1 = ts.length + (us.length - 1) := by rw [List.length_append]; omega
  rw [e]
  simp [List.getD, List.getElem?_append_right]
theorem getT_left (ts us : List Tr) (i : Nat) (h : i < ts.length) : (ts ++ us).getD i tr0 = ts.getD i tr0 := by simp [List.getD, List.getElem?_append_left h]
theorem sprout_leaf {m : Int} {ns : List Nd} {x : Nd} (hf : fitN x = true) (h2 : two x.1 = false) (h1 : one x.1 = false) (hv : x.1 = 2 → x.2.2.2 < m) : Sprout m 1 ns (ns ++ [x]) := by
  refine ⟨[x], rfl, Nat.le_refl _, Nat.le_refl _, fun y hy => by rw [List.mem_singleton] at hy; subst hy; exact ⟨hf, hv⟩, fun ts ht => ⟨[((ts.length : Int), 1)], ?_, rfl, 1, rfl, by omega, by omega⟩⟩
  rw [trees_snoc, ht]
  show (growT ts x).map _ = _
  unfold growT
  rw [if_neg (by rw [h2]; exact Bool.false_ne_true), if_neg (by rw [h1]; exact Bool.false_ne_true)]
  rfl
theorem sprout_mono {m : Int} {d e : Nat} {ns ms : List Nd} (h : Sprout m d ns ms) (hd : d ≤ e) : Sprout m e ns ms := by
  obtain ⟨tl, h1, h2, h3, h4, h5⟩ := h
  refine ⟨tl, h1, h2, Nat.le_trans h3 (Nat.pow_le_pow_right (by decide) hd), h4, fun ts ht => ?_⟩
  obtain ⟨us, k1, k2, dd, k3, k4, k5⟩ := h5 ts ht
  exact ⟨us, k1, k2, dd, k3, k4, by omega⟩
theorem sprout_len {m : Int} {d : Nat} {ns ms : List Nd} (h : Sprout m d ns ms) : ns.length < ms.length ∧ ms.length + 1 ≤ ns.length + 2 ^ d := by
  obtain ⟨tl, h1, h2, h3, _⟩ := h
  have : ms.length = ns.length + tl.length := by rw [h1, List.length_append]
  omega
/-- a node over the last tree -/
theorem sprout_step {ts us : List Tr} {x : Nd} {dd : Int} (h2 : two x.1 = false) (h1 : one x.1 = true) (hl : 1 ≤ us.length) (ha : x.2.1 = ((ts ++ us).length : Int) - 1) (hd : us.getD (us.length - 1) tr0 = ((ts.length : Int), dd)) (hdd : 1 ≤ dd) :
    stepT (some (ts ++ us)) x = some (ts ++ (us ++ [((ts.length : Int), dd + 1)])) := by
  show (growT (ts ++ us) x).map _ = _
  have hln : (ts ++ us).length = ts.length + us.length := List.length_append
  unfold growT
  rw [if_neg (by rw [h2]; exact Bool.false_ne_true), if_pos h1, if_pos ⟨by omega, ha⟩]
  have e : x.2.1.toNat = (ts ++ us).length - 1 := by omega
  rw [e, getT_app ts us hl, hd]
  dsimp only
  rw [show max 1 (dd + 1) = dd + 1 by omega]
  simp
theorem sprout_one {m : Int} {d : Nat} {ns ms : List Nd} {x : Nd} (h : Sprout m d ns ms) (hf : fitN x = true) (h2 : two x.1 = false) (h1 : one x.1 = true) (ha : x.2.1 = (ms.length : Int) - 1) : Sprout m (d + 1) ns (ms ++ [x]) := by
  obtain ⟨tl, rfl, k1, k2, k3, k4⟩ := h
  have hx2 : x.1 ≠ 2 := fun e => by unfold one at h1; rw [e] at h1; exact absurd h1 (by decide)
  refine ⟨tl ++ [x], by simp, by simp, by rw [List.length_append, Nat.pow_succ]; show tl.length + 1 + 1 ≤ _; omega, fun y hy => ?_, fun ts ht => ?_⟩
  · rcases List.mem_append.1 hy with hy | hy
    · exact k3 y hy
    · rw [List.mem_singleton] at hy; subst hy; exact ⟨hf, fun e => absurd e hx2⟩
  · obtain ⟨us, q1, q2, dd, q3, q4, q5⟩ := k4 ts ht
    have hlen := trees_len q1
    refine ⟨us ++ [((ts.length : Int), dd + 1)], ?_, by simp; omega, dd + 1, by simp [List.getD], by omega, by omega⟩
    rw [trees_snoc, q1]
    exact sprout_step h2 h1 (by omega) (by rw [hlen]; exact ha) q3 q4
theorem sprout_two {m : Int} {d : Nat} {ns ms ps : List Nd} {x : Nd} (h : Sprout m d ns ms) (k : Sprout m d ms ps) (hf : fitN x = true) (h2 : two x.1 = true) (ha : x.2.1 = (ms.length : Int) - 1) (hb : x.2.2.1 = (ps.length : Int) - 1) : Sprout m (d + 1) ns (ps ++ [x]) := by
  obtain ⟨tl, rfl, a1, a2, a3, a4⟩ := h
  obtain ⟨sl, rfl, b1, b2, b3, b4⟩ := k
  have hx2 : x.1 ≠ 2 := fun e => by unfold two at h2; rw [e] at h2; exact absurd h2 (by decide)
  refine ⟨tl ++ sl ++ [x], by simp, by simp; omega, by rw [List.length_append, List.length_append, Nat.pow_succ]; show tl.length + sl.length + 1 + 1 ≤ _; omega, fun y hy => ?_, fun ts ht => ?_⟩
  · rcases List.mem_append.1 hy with hy | hy
    · rcases List.mem_append.1 hy with hy | hy
      · exact a3 y hy
      · exact b3 y hy
    · rw [List.mem_singleton] at hy; subst hy; exact ⟨hf, fun e => absurd e hx2⟩
  · obtain ⟨us, q1, q2, dd, q3, q4, q5⟩ := a4 ts ht
    obtain ⟨vs, r1, r2, ee, r3, r4, r5⟩ := b4 _ q1
    have l1 := trees_len q1
    have l2 := trees_len r1
    have l1' : (ts ++ us).length = ts.length + us.length := List.length_append
    have l2' : (ts ++ us ++ vs).length = ts.length + us.length + vs.length := by rw [List.length_append, l1']
    refine ⟨us ++ vs ++ [((ts.length : Int), max (max 1 (ee + 1)) (dd + 1))], ?_, by simp; omega, max (max 1 (ee + 1)) (dd + 1), by simp [List.getD], by omega, by omega⟩
    rw [trees_snoc, r1]
    show (growT (ts ++ us ++ vs) x).map _ = _
    have eb : x.2.2.1.toNat = (ts ++ us ++ vs).length - 1 := by omega
    have gb : (ts ++ us ++ vs).getD ((ts ++ us ++ vs).length - 1) tr0 = (((ts ++ us).length : Int), ee) := by rw [getT_app _ _ (by omega)]; exact r3
    have ea : x.2.1.toNat = (ts ++ us).length - 1 := by omega
    have ga : (ts ++ us ++ vs).getD ((ts ++ us).length - 1) tr0 = ((ts.length : Int), dd) := by
      rw [getT_left _ _ _ (by omega), getT_app _ _ (by omega)]
      exact q3
    unfold growT
    rw [if_pos h2, if_pos ⟨by omega, by omega⟩, eb, gb]
    dsimp only
    rw [if_pos ⟨by omega, by omega⟩, ea, ga]
    simp
/-- a tree alone is an expression -/
theorem sprout_ok {m : Int} {d : Nat} {ms : List Nd} (h : Sprout m d [] ms) (hd : d ≤ 12) (hl : ms.length ≤ 60) : okE ms = true ∧ ∃ us dd, trees ms = some us ∧ us.length = ms.length ∧ us.getD (us.length - 1) tr0 = (0, dd) ∧ 1 ≤ dd ∧ dd ≤ d := by
  obtain ⟨tl, rfl, a1, a2, a3, a4⟩ := h
  obtain ⟨us, q1, q2, dd, q3, q4, q5⟩ := a4 [] trees_nil
  rw [List.nil_append] at q1
  refine ⟨?_, us, dd, q1, q2, q3, q4, q5⟩
  have hall : ms.all fitN = true := List.all_eq_true.2 fun x hx => (a3 x hx).1
  unfold okE
  rw [hall, q1]
  show (decide _ && decide _ && true && (decide _ && decide _)) = true
  rw [← q2, q3, decide_eq_true (show 1 ≤ us.length by omega), decide_eq_true (show us.length ≤ 60 by omega), decide_eq_true (show ((([] : List Tr).length : Int), dd).1 = 0 by rfl), decide_eq_true (show ((([] : List Tr).length : Int), dd).2 ≤ 12 by show dd ≤ 12; omega)]
  rfl
end Nt
namespace Nt
open Go Go.RowKit
/-- what the codes may be -/
theorem slope_five (qs us : List Rat) (ns : List Nd) (h : us.length = qs.length) (js ks : List Jt) (a c : Int) (R : List Rat) (d : Int) (h0 : evalJ (qs.map Jt.fx) ns = (js, a)) (h1 : evalJ (varsJ qs (fun _ => us) 1 qs.length) ns = (ks, c)) (h2 : rowsTo (rowJ qs (fun i _ => unitL qs.length i) 1 ns) qs.length = (R, d)) :
    a = 10 ∨ a = 7 ∨ (a = 0 ∧ c = 7) ∨ (a = 0 ∧ c = 0 ∧ d = 7) ∨ (a = 0 ∧ c = 0 ∧ d = 0) := by
  have e0 := eval_noughts qs ns qs.length
  rw [h0] at e0
  have e1 := eval_one qs us ns h
  rw [h1] at e1
  dsimp only at e0 e1
  have ca := eval4_codes qs (noughts qs.length) (noughts qs.length) ns
  have cc := eval4_codes qs (noughts qs.length) us ns
  rw [e0] at ca
  rw [e1] at cc
  dsimp only at ca cc
  rcases ca with ha | ha | ha
  · have nd : ∀ W', (eval4 qs (noughts qs.length) W' ns).2 ≠ 10 := fun W' => no_domain (V := noughts qs.length) (W := noughts qs.length) ns (by rw [e0]; exact ha)
    rcases cc with hc | hc | hc
    · rcases rowsTo_code (R := rowJ qs (fun i _ => unitL qs.length i) 1 ns) qs.length with hd | ⟨k, hk, hd⟩
      · rw [h2] at hd; exact .inr (.inr (.inr (.inr ⟨ha, hc, hd⟩)))
      · rw [h2] at hd
        dsimp only at hd
        have e2 := eval_one qs (unitL qs.length k) ns (unitL_len _ _)
        have c2 := eval4_codes qs (noughts qs.length) (unitL qs.length k) ns
        have n2 := nd (unitL qs.length k)
        rw [e2] at c2 n2
        dsimp only at c2 n2
        have hd' : d = (evalJ (varsJ qs (fun _ => unitL qs.length k) 1 qs.length) ns).2 := hd
        rw [← hd'] at c2 n2
        rcases c2 with c2 | c2 | c2
        · exact .inr (.inr (.inr (.inr ⟨ha, hc, c2⟩)))
        · exact .inr (.inr (.inr (.inl ⟨ha, hc, c2⟩)))
        · exact absurd c2 n2
    · exact .inr (.inr (.inl ⟨ha, hc⟩))
    · have := nd us; rw [e1] at this; exact absurd hc this
  · exact .inr (.inl ha)
  · exact .inl ha
theorem sprout_dim {m : Int} {d : Nat} {ms : List Nd} (h : Sprout m d [] ms) (hm : 0 ≤ m) : dimE ms ≤ m := by
  obtain ⟨tl, e, -, -, hx, -⟩ := h
  rw [List.nil_append] at e
  subst e
  have key : ∀ (l : List Nd) (D : Int), D ≤ m → (∀ x ∈ l, x.1 = 2 → x.2.2.2 < m) → l.foldl dimOne D ≤ m := by
    intro l
    induction l with
    | nil => intro D hD _; exact hD
    | cons x l ih =>
      intro D hD hl
      rw [List.foldl_cons]
      refine ih _ ?_ fun y hy => hl y (List.mem_cons_of_mem _ hy)
      unfold dimOne
      by_cases h2 : x.1 = 2
      · rw [if_pos h2]
        have := hl x List.mem_cons_self h2
        omega
      · rw [if_neg h2]; exact hD
  exact key ms 0 hm fun x hx' => (hx x hx').2
theorem dotK_sum (ps us : List Rat) (m : Nat) (h : ps.length = m) (h' : us.length = m) : dotK ps us m = sumTo (fun i => us.getD i 0 * ps.getD i 0) m := by
  have key : ∀ k, k ≤ m → dotK ps us k = sumTo (fun i => us.getD i 0 * ps.getD i 0) k := by
    intro k
    induction k with
    | zero => intro _; exact dotK_zero _ _
    | succ k ih =>
      intro hk
      rw [dotK_succ (by omega) (by omega), ih (by omega), sumTo, Rat.mul_comm (ps.getD k 0)]
  exact key m (Nat.le_refl _)
end Nt
namespace Go.Proofs.YtifepoefeamboaaGreatDoor
open Go Go.RowKit Nt

set_option maxHeartbeats 1600000 in
theorem sameRat_gen (N : Bool) (A B A' B' : Option Addr) (ca cb ca' cb' : Nat) (X Y : List Int) (P P' : Nat → Prop) (w : World) (h : RdR w P X Y A ca B cb) (h' : RdR w P' X Y A' ca' B' cb') (l1 : X.length ≤ 16777216) (l2 : Y.length ≤ 16777216) :
    Calls Tryz.prog 16 #[.agg #[.bool N, .slice A X.length ca, .slice B Y.length cb], .agg #[.bool N, .slice A' X.length ca', .slice B' Y.length cb']] w fun e w' => e = .returned (.bool true) ∧ Below w.heap.size w w' := by
  have H := Lib.hid h
  have H' := Lib.hid h'
  clear h h'
  have hnn : (N == N) = true := by simp
  go_enter Tryz.func16, Tryz.ntmps16
  go_wp2_with fail
  refine calls_at (fun W => Below w.heap.size w W ∧ RatAt W w.heap.size 31 N A X.length ca B Y.length cb ∧ RatAt W (w.heap.size + 1) 31 N A' X.length ca' B' Y.length cb')
    ⟨below2 _ _ _, (RatAt.new _ _ _ _ _ _ _ _ _).alloc _, RatAt.new1 _ _ _ _ _ _ _ _ _ _⟩ ?_
  rintro W ⟨hb, r0, r1⟩
  refine (sameInts_any A A' _ ca _ ca' _ _ _ _ W (H.out.on hb).1 (H'.out.on hb).1 l1 l1).mono ?_
  rintro e w1 ⟨rfl, d1⟩
  have b1 := d1.below W.heap.size
  have HB := Lib.hid (below_on hb b1)
  have HR0 := Lib.hid (r0.on b1)
  have HR1 := Lib.hid (r1.on b1)
  clear hb r0 r1 d1 b1
  rw [decide_eq_true (rfl : X = X)]
  have c02 := HR0.out.c2
  have c12 := HR1.out.c2
  go_wp2_with fail
  refine (sameInts_any B B' _ cb _ cb' _ _ _ _ w1 (H.out.on HB.out).2 (H'.out.on HB.out).2 l2 l2).mono ?_
  rintro e w2 ⟨rfl, d2⟩
  have HB2 := Lib.hid (below_on HB.out (d2.below _))
  rw [decide_eq_true (rfl : Y = Y)]
  clear d2 c02 c12
  go_wp2
  go_ret
  exact ⟨rfl, HB2.out⟩

set_option maxHeartbeats 1600000 in
theorem dotLaw_any (ps qs : List Rat) (r : Rat) (X Y : Option Addr) (n c d : Nat) (P P' : Nat → Prop) (w : World) (hx0 : RdS w P X n c (ps.map rat3)) (hy0 : RdS w P' Y n d (qs.map rat3)) (hp : Fine ps) (hq : Fine qs) (hn : n ≤ 1048576) (hask : askV n n (ps.map rat3) (qs.map rat3) = 0) (hr : dotK ps qs ps.length = r) (hf : fitQ r) :
    Calls Tryz.prog 18 #[.slice X n c, .slice Y n d] w fun e w' => ∃ A ca B cb, e = .returned (.tuple #[.agg #[.bool (isNeg r), .slice A (D (nu r)).length ca, .slice B (D r.den).length cb], .bool true]) ∧ RdR w' (fun _ => True) (D (nu r)) (D r.den) A ca B cb ∧ Below w.heap.size w w' := by
  have HD := Lib.hid (fun W (hb : Below w.heap.size w W) => implDot_ok ps qs X Y n c d _ _ W (hx0.on hb) (hy0.on hb) hp hq hn hask)
  have HF := Lib.hid hf
  rw [hr] at HD
  clear hx0 hy0 hp hq hask hr hf
  go_enter Tryz.func18, Tryz.ntmps18
  go_wp2_with fail
  refine calls_at (fun W => Below w.heap.size w W ∧ RatAt W w.heap.size 31 false none 0 0 none 0 0) ⟨below1 _ _, RatAt.new _ _ _ _ _ _ _ _ _⟩ ?_
  rintro W ⟨hb, r0⟩
  refine (HD.out W hb).mono ?_
  rintro e w1 ⟨A1, c1, B1, d1, rfl, o1, b1⟩
  have x1 : fN r = isNeg r := by unfold fN; rw [if_pos HF.out]
  have x2 : fX r = D (nu r) := by unfold fX; rw [if_pos HF.out]
  have x3 : fY r = D r.den := by unfold fY; rw [if_pos HF.out]
  have x4 : fK r = 0 := by unfold fK; rw [if_pos HF.out]
  rw [x2, x3] at o1
  rw [x1, x2, x3, x4]
  have HB1 := Lib.hid (below_on hb b1)
  have HR1 := Lib.hid (r0.on b1)
  have HO1 := Lib.hid o1.rdt
  clear x1 x2 x3 x4 hb r0 b1 o1 HD HF
  go_upto_region 2 with fail
  refine wp_at (fun V => Below w.heap.size w V ∧ RatAt V w.heap.size 31 false none 0 0 none 0 0 ∧ RatAt V w1.heap.size 31 (isNeg r) A1 (D (nu r)).length c1 B1 (D r.den).length d1 ∧ RdR V (fun _ => True) (D (nu r)) (D r.den) A1 c1 B1 d1) ⟨below_on HB1.out (below1 _ _), HR1.out.on (below1 _ _), RatAt.new _ _ _ _ _ _ _ _ _, HO1.out.on (below1 _ _)⟩ ?_
  rintro w2 ⟨b2, r2, r3, o2⟩
  have HB2 := Lib.hid b2
  have HT := Lib.hid r2
  have HO2 := Lib.hid o2
  have a0 := r3.c0
  have a1 := r3.c1
  have a2 := r3.c2
  have f0 := r2.fz 0
  have f1 := r2.fz 1
  have f2 := r2.fz 2
  have y0 := r2.c0
  have y1 := r2.c1
  have y2 := r2.c2
  clear b2 r2 r3 o2 HB1 HR1 HO1
  go_wp2
  have g2 := fun b u v => setAll_grown w2 w.heap.size (.bool b) u v
  refine bodyPost_ret (retRC rfl _ _ _ rfl (HT.out.setAll _ _ _ _ _ _ _)) rfl ?_
  exact ⟨A1, c1, B1, d1, rfl, ⟨HO2.out.1.past HT.out (g2 _ _ _), HO2.out.2.past HT.out (g2 _ _ _)⟩, below_grow HB2.out (Nat.le_refl _) (g2 _ _ _)⟩
end Go.Proofs.YtifepoefeamboaaGreatDoor
