/-
  A jet's number along ways: numberAlong of the program.
-/
import Derived.Test.YtifepoefeamboaaGreatDoorImplJet
namespace Go.Proofs.YtifepoefeamboaaGreatDoor
open Go Go.RowKit Nt

set_option maxRecDepth 20000 in
set_option maxHeartbeats 1600000 in
theorem along_fx0 (q : Rat) (A B : Option Addr) (ca cb : Nat) (P : Nat → Prop) (w : World) (hr : RdR w P (D (nu q)) (D q.den) A ca B cb) :
    Calls Tryz.prog 41 #[.iface 105 (.agg #[.bool (isNeg q), .slice A (D (nu q)).length ca, .slice B (D q.den).length cb]), .int .i64 0] w (SayR w (isNeg q) (D (nu q)) (D q.den)) := by
  have h1 := as_fm
  have h2 := as_ff
  have HR := Lib.hid (hr.mono (Q := fun _ => True) fun _ _ _ => trivial)
  clear hr
  go_enter Tryz.func41, Tryz.ntmps41
  go_upto_region 10 with fail
  refine wp_atJ (fun v0 => Below w.heap.size w v0 ∧ RatAt v0 w.heap.size 31 false none 0 0 none 0 0 ∧ RatAt v0 (w.heap.size + 1) 105 (isNeg q) A (D (nu q)).length ca B (D q.den).length cb) ⟨below2 _ _ _, (RatAt.new _ _ _ _ _ _ _ _ _).alloc _, RatAt.new1 _ _ _ _ _ _ _ _ _ _⟩ ?_
  rintro v0 ⟨hb, r0, r1⟩
  have HB0 := Lib.hid hb
  have HT := Lib.hid r0
  have f0 := r0.fz 0
  have f1 := r0.fz 1
  have f2 := r0.fz 2
  have y0 := r0.c0
  have y1 := r0.c1
  have y2 := r0.c2
  have a0 := r1.c0
  have a1 := r1.c1
  have a2 := r1.c2
  clear hb r0 r1
  go_wp2
  have g2 := fun b u v => setAll_grown v0 w.heap.size (.bool b) u v
  refine bodyPost_ret (retR rfl _ _ _ rfl (HT.out.setAll _ _ _ _ _ _ _)) rfl ?_
  exact ⟨A, ca, B, cb, rfl, ⟨(HR.out.on HB0.out).1.past HT.out (g2 _ _ _), (HR.out.on HB0.out).2.past HT.out (g2 _ _ _)⟩, below_grow HB0.out (Nat.le_refl _) (g2 _ _ _)⟩

set_option maxRecDepth 20000 in
set_option maxHeartbeats 1600000 in
theorem along_fxS (n : Bool) (A B : Option Addr) (la ca lb cb : Nat) (m : Int) (hm : (m == 0) = false) (w : World) :
    Calls Tryz.prog 41 #[.iface 105 (.agg #[.bool n, .slice A la ca, .slice B lb cb]), .int .i64 m] w (SayR w (isNeg 0) (D (nu 0)) (D (0 : Rat).den)) := by
  have h1 := as_fm
  have h2 := as_ff
  have hw := whole_int 0
  rw [show (((0 : Int)) : Rat) = 0 from rfl] at hw
  have HW := Lib.hid hw
  clear hw
  go_enter Tryz.func41, Tryz.ntmps41
  go_upto_region 11 with fail
  refine wp_atJ (fun v0 => Below w.heap.size w v0 ∧ RatAt v0 w.heap.size 31 false none 0 0 none 0 0) ⟨below2 _ _ _, (RatAt.new _ _ _ _ _ _ _ _ _).alloc _⟩ ?_
  rintro v0 ⟨hb, r0⟩
  have HB0 := Lib.hid hb
  have HT0 := Lib.hid r0
  clear hb r0
  go_wp2_with (go_at_call 73; refine (HW.out _ (by decide) (by decide)).mono ?_; rintro e w1 ⟨A5, c5, B5, d5, rfl, o, bb⟩; have HO := Lib.hid o; have HT := Lib.hid (HT0.out.on bb); have HB1 := Lib.hid (below_on HB0.out bb); clear o bb; have f0 := HT.out.fz 0; have f1 := HT.out.fz 1; have f2 := HT.out.fz 2; have y0 := HT.out.c0; have y1 := HT.out.c1; have y2 := HT.out.c2)
  have g2 := fun b u v => setAll_grown w1 w.heap.size (.bool b) u v
  refine bodyPost_ret (retR rfl _ _ _ rfl (HT.out.setAll _ _ _ _ _ _ _)) rfl ?_
  exact ⟨A5, c5, B5, d5, rfl, ⟨HO.out.1.past HT.out (g2 _ _ _), HO.out.2.past HT.out (g2 _ _ _)⟩, below_grow HB1.out (Nat.le_refl _) (g2 _ _ _)⟩

set_option maxRecDepth 20000 in
set_option maxHeartbeats 1600000 in
theorem along_at (r : Rat) (ta ts : TypeId) (xa xs : Value) (w : World) (hi : Hid (∀ W, Below w.heap.size w W → Calls Tryz.prog 41 #[.iface ta xa, .int .i64 0] W (SayR W (isNeg r) (D (nu r)) (D r.den)))) :
    Calls Tryz.prog 41 #[.iface 103 (.agg #[.iface ta xa, .iface ts xs]), .int .i64 0] w (SayR w (isNeg r) (D (nu r)) (D r.den)) := by
  have h1 := as_mm
  go_enter Tryz.func41, Tryz.ntmps41
  go_upto_region 6 with fail
  refine wp_atJ (fun v0 => Below w.heap.size w v0 ∧ RatAt v0 w.heap.size 31 false none 0 0 none 0 0 ∧ v0.cell? ⟨w.heap.size + 1, 0, none⟩ = some (.iface ta xa)) ⟨below2 _ _ _, (RatAt.new _ _ _ _ _ _ _ _ _).alloc _, by rw [← World.size_alloc w, cell_of_row _ _ 0 _ _ (0, 0) (heap_alloc_new _ _)]; rfl⟩ ?_
  rintro v0 ⟨hb, r0, c0⟩
  have HB0 := Lib.hid hb
  have HT0 := Lib.hid r0
  clear hb r0
  go_wp2_with (go_at_call 41; refine (hi.out _ HB0.out).mono ?_; rintro e w1 ⟨A5, c5, B5, d5, rfl, o, bb⟩; have HO := Lib.hid o; have HT := Lib.hid (HT0.out.on bb); have HB1 := Lib.hid (below_on HB0.out bb); clear o bb; have f0 := HT.out.fz 0; have f1 := HT.out.fz 1; have f2 := HT.out.fz 2; have y0 := HT.out.c0; have y1 := HT.out.c1; have y2 := HT.out.c2)
  have g2 := fun b u v => setAll_grown w1 w.heap.size (.bool b) u v
  refine bodyPost_ret (retR rfl _ _ _ rfl (HT.out.setAll _ _ _ _ _ _ _)) rfl ?_
  exact ⟨A5, c5, B5, d5, rfl, ⟨HO.out.1.past HT.out (g2 _ _ _), HO.out.2.past HT.out (g2 _ _ _)⟩, below_grow HB1.out (Nat.le_refl _) (g2 _ _ _)⟩

set_option maxRecDepth 20000 in
set_option maxHeartbeats 1600000 in
theorem along_sl (r : Rat) (m : Int) (hm : 0 < m) (hm2 : m ≤ 9) (ta ts : TypeId) (xa xs : Value) (w : World) (hi : Hid (∀ W, Below w.heap.size w W → Calls Tryz.prog 41 #[.iface ts xs, .int .i64 (m - 1)] W (SayR W (isNeg r) (D (nu r)) (D r.den)))) :
    Calls Tryz.prog 41 #[.iface 103 (.agg #[.iface ta xa, .iface ts xs]), .int .i64 m] w (SayR w (isNeg r) (D (nu r)) (D r.den)) := by
  have h1 := as_mm
  go_enter Tryz.func41, Tryz.ntmps41
  go_upto_region 5 with fail
  refine wp_atJ (fun v0 => Below w.heap.size w v0 ∧ RatAt v0 w.heap.size 31 false none 0 0 none 0 0 ∧ v0.cell? ⟨w.heap.size + 1, 1, none⟩ = some (.iface ts xs)) ⟨below2 _ _ _, (RatAt.new _ _ _ _ _ _ _ _ _).alloc _, by rw [← World.size_alloc w, cell_of_row _ _ 1 _ _ (0, 0) (heap_alloc_new _ _)]; rfl⟩ ?_
  rintro v0 ⟨hb, r0, c0⟩
  have HB0 := Lib.hid hb
  have HT0 := Lib.hid r0
  clear hb r0
  go_wp2_with (go_at_call 41; refine (hi.out _ HB0.out).mono ?_; rintro e w1 ⟨A5, c5, B5, d5, rfl, o, bb⟩; have HO := Lib.hid o; have HT := Lib.hid (HT0.out.on bb); have HB1 := Lib.hid (below_on HB0.out bb); clear o bb; have f0 := HT.out.fz 0; have f1 := HT.out.fz 1; have f2 := HT.out.fz 2; have y0 := HT.out.c0; have y1 := HT.out.c1; have y2 := HT.out.c2)
  have g2 := fun b u v => setAll_grown w1 w.heap.size (.bool b) u v
  refine bodyPost_ret (retR rfl _ _ _ rfl (HT.out.setAll _ _ _ _ _ _ _)) rfl ?_
  exact ⟨A5, c5, B5, d5, rfl, ⟨HO.out.1.past HT.out (g2 _ _ _), HO.out.2.past HT.out (g2 _ _ _)⟩, below_grow HB1.out (Nat.le_refl _) (g2 _ _ _)⟩

/-- a jet's number along so many ways -/
theorem along_any : ∀ (j : Jt) (k : Nat) (v : Value) (P : Nat → Prop) (w : World), k ≤ 9 → JAt 105 103 w P j v →
    Calls Tryz.prog 41 #[v, .int .i64 (k : Int)] w (SayR w (isNeg (numJ j k)) (D (nu (numJ j k))) (D (numJ j k).den))
  | .fx q, 0, v, P, w, _, h => by
    obtain ⟨A, ca, B, cb, rfl, hr⟩ := h
    rw [numJ_fx0]; exact along_fx0 q A B ca cb P w hr
  | .fx q, k + 1, v, P, w, _, h => by
    obtain ⟨A, ca, B, cb, rfl, hr⟩ := h
    rw [numJ_fx1]; exact along_fxS _ A B _ ca _ cb _ (by simp; omega) w
  | .mv a s, 0, v, P, w, hk, h => by
    obtain ⟨va, vs, rfl, ha, hs⟩ := h
    obtain ⟨ta, xa, rfl⟩ := ha.shape
    obtain ⟨ts, xs, rfl⟩ := hs.shape
    rw [numJ]
    exact along_at _ ta ts xa xs w (Lib.hid fun W hb => along_any a 0 _ P W hk (ha.on hb))
  | .mv a s, k + 1, v, P, w, hk, h => by
    obtain ⟨va, vs, rfl, ha, hs⟩ := h
    obtain ⟨ta, xa, rfl⟩ := ha.shape
    obtain ⟨ts, xs, rfl⟩ := hs.shape
    rw [numJ_mv]
    refine along_sl _ _ (by omega) (by omega) ta ts xa xs w (Lib.hid fun W hb => ?_)
    have := along_any s k _ P W (by omega) (hs.on hb)
    rwa [show ((k + 1 : Nat) : Int) - 1 = (k : Int) by omega]
end Go.Proofs.YtifepoefeamboaaGreatDoor
