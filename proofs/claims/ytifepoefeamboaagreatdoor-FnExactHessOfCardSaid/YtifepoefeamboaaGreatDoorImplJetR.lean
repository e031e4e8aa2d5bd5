/-
  Powers of jets: raised of the program.
-/
import Derived.Test.YtifepoefeamboaaGreatDoorImplJetP
import Derived.Test.YtifepoefeamboaaGreatDoorRatPow
namespace Nt
open Go Go.RowKit
/-- a jet's two parts, where a call finds them -/
def PartsAt (W : World) (b : Nat) (ta : TypeId) (xa : Value) (ts : TypeId) (xs : Value) : Prop := (W.cell? ⟨b, 0, none⟩ = some (.iface ta xa) ∧ W.cell? ⟨b, 1, none⟩ = some (.iface ts xs)) ∧ b < W.heap.size
theorem PartsAt.on {W W' : World} {b : Nat} {ta ts : TypeId} {xa xs : Value} (h : PartsAt W b ta xa ts xs) (hb : Below W.heap.size W W') : PartsAt W' b ta xa ts xs :=
  ⟨⟨(World.cell?_of_block (a := ⟨b, 0, none⟩) (hb.block _ h.2)).trans h.1.1, (World.cell?_of_block (a := ⟨b, 1, none⟩) (hb.block _ h.2)).trans h.1.2⟩, Nat.lt_of_lt_of_le h.2 hb.size⟩
theorem PartsAt.new (w : World) (t : TypeId) (ta ts : TypeId) (xa xs : Value) : PartsAt (w.alloc (.cells #[.iface ta xa, .iface ts xs] t)) w.heap.size ta xa ts xs :=
  ⟨⟨by rw [cell_of_row _ _ 0 _ _ (0, 0) (heap_alloc_new w _)]; rfl, by rw [cell_of_row _ _ 1 _ _ (0, 0) (heap_alloc_new w _)]; rfl⟩, by simp⟩
end Nt
namespace Go.Proofs.YtifepoefeamboaaGreatDoor
open Go Go.RowKit Nt

theorem meth_raised_f (v : Value) (w : World) : (Go.method 334 105 v "loop.example/g00615/impl.raised").run Tryz.prog w = .ok (194, v) w := by kernel_rfl
theorem meth_raised_m (v : Value) (w : World) : (Go.method 334 103 v "loop.example/g00615/impl.raised").run Tryz.prog w = .ok (191, v) w := by kernel_rfl

set_option maxRecDepth 20000 in
set_option maxHeartbeats 1600000 in
theorem raised_fx (q : Rat) (n : Nat) (hn : n ≤ 8) (A B : Option Addr) (ca cb : Nat) (P : Nat → Prop) (w : World) (hr : RdR w P (D (nu q)) (D q.den) A ca B cb) (l1 : (D (nu q)).length ≤ 40) (l2 : (D q.den).length ≤ 40) :
    Calls Tryz.prog 194 #[.agg #[.bool (isNeg q), .slice A (D (nu q)).length ca, .slice B (D q.den).length cb], .int .i64 (n : Int)] w (SayJ 105 103 w (raiseJ (.fx q) n)) := by
  have HR := Lib.hid hr
  clear hr
  rw [raiseJ]
  go_enter Tryz.func194, Tryz.ntmps194
  go_upto_region 1 with fail
  refine wp_atJ (fun v0 => Below w.heap.size w v0 ∧ RatAt v0 w.heap.size 105 (isNeg q) A (D (nu q)).length ca B (D q.den).length cb) ⟨below1 _ _, RatAt.new _ _ _ _ _ _ _ _ _⟩ ?_
  rintro v0 ⟨hb, r0⟩
  have HB0 := Lib.hid hb
  have a0 := r0.c0
  have a1 := r0.c1
  have a2 := r0.c2
  clear hb r0
  go_wp2_with (go_at_call 187; refine (raised_any q n hn A B ca cb _ _ (by exact HR.out.on HB0.out) l1 l2).mono ?_; rintro e w1 ⟨A5, c5, B5, d5, rfl, o5, bb⟩; have HB1 := Lib.hid (below_on HB0.out bb))
  refine bodyPost_ret (results_tmp rfl _ _ _) rfl ?_
  exact ⟨_, rfl, ⟨A5, c5, B5, d5, rfl, o5⟩, HB1.out⟩
end Go.Proofs.YtifepoefeamboaaGreatDoor
