/-
  Whether a jet fits, and its number along ways: fits, numberAlong of the program.
-/
import Derived.Test.YtifepoefeamboaaGreatDoorImplJet
namespace Go.Proofs.YtifepoefeamboaaGreatDoor
open Go Go.RowKit Nt

theorem meth_fits_f (v : Value) (w : World) : (Go.method 334 105 v "loop.example/g00615/impl.fits").run Tryz.prog w = .ok (192, v) w := by kernel_rfl
theorem meth_fits_m (v : Value) (w : World) : (Go.method 334 103 v "loop.example/g00615/impl.fits").run Tryz.prog w = .ok (189, v) w := by kernel_rfl

set_option maxRecDepth 20000 in
set_option maxHeartbeats 1600000 in
theorem fits_fx (q : Rat) (A B : Option Addr) (ca cb : Nat) (P : Nat → Prop) (w : World) (hr : RdR w P (D (nu q)) (D q.den) A ca B cb) (l1 : (D (nu q)).length ≤ 16777216) (l2 : (D q.den).length ≤ 16777216) :
    Calls Tryz.prog 192 #[.agg #[.bool (isNeg q), .slice A (D (nu q)).length ca, .slice B (D q.den).length cb]] w fun e w' => e = .returned (.bool (fitsJ (.fx q))) ∧ Below w.heap.size w w' := by
  have HR := Lib.hid hr
  clear hr
  go_enter Tryz.func192, Tryz.ntmps192
  go_upto_region 1 with fail
  refine wp_atJ (fun v0 => Below w.heap.size w v0 ∧ RatAt v0 w.heap.size 105 (isNeg q) A (D (nu q)).length ca B (D q.den).length cb) ⟨below1 _ _, RatAt.new _ _ _ _ _ _ _ _ _⟩ ?_
  rintro v0 ⟨hb, r0⟩
  have HB0 := Lib.hid hb
  have a0 := r0.c0
  have a1 := r0.c1
  have a2 := r0.c2
  clear hb r0
  go_wp2_with (go_at_call 42; refine (fitted_any q A B ca cb _ _ (by exact HR.out.on HB0.out) l1 l2).mono ?_; rintro e w1 ⟨A5, c5, B5, d5, rfl, o5, bb⟩; have HB1 := Lib.hid (below_on HB0.out bb); clear o5 bb)
  refine bodyPost_ret (results_tmp rfl _ _ _) rfl ?_
  refine ⟨?_, below_on HB1.out (below1 _ _)⟩
  have e : (fK q == 0) = fitsJ (.fx q) := by
    unfold fK; by_cases hq : fitQ q <;> simp [fitsJ, hq]
  rw [← e]; rfl

set_option maxRecDepth 20000 in
set_option maxHeartbeats 1600000 in
theorem fits_step (a s : Jt) (ta ts : TypeId) (xa xs : Value) (K L : FuncId) (w : World) (ma : ∀ w, (Go.method 334 ta xa "loop.example/g00615/impl.fits").run Tryz.prog w = .ok (K, xa) w) (ms : ∀ w, (Go.method 334 ts xs "loop.example/g00615/impl.fits").run Tryz.prog w = .ok (L, xs) w)
    (ha : Hid (∀ W, Below w.heap.size w W → Calls Tryz.prog K #[xa] W fun e w' => e = .returned (.bool (fitsJ a)) ∧ Below W.heap.size W w')) (hs : Hid (∀ W, Below w.heap.size w W → Calls Tryz.prog L #[xs] W fun e w' => e = .returned (.bool (fitsJ s)) ∧ Below W.heap.size W w'))
    (hk : K = 192 ∨ K = 189) (hl : L = 192 ∨ L = 189) :
    Calls Tryz.prog 189 #[.agg #[.iface ta xa, .iface ts xs]] w fun e w' => e = .returned (.bool (fitsJ (.mv a s))) ∧ Below w.heap.size w w' := by
  rw [fitsJ]
  generalize fitsJ a = p at *
  generalize fitsJ s = q at *
  rcases hk with rfl | rfl <;> rcases hl with rfl | rfl
  all_goals (
    go_enter Tryz.func189, Tryz.ntmps189
    go_upto_region 1 with fail
    refine wp_atJ (fun v0 => Below w.heap.size w v0 ∧ v0.cell? ⟨w.heap.size, 0, none⟩ = some (.iface ta xa) ∧ v0.cell? ⟨w.heap.size, 1, none⟩ = some (.iface ts xs) ∧ w.heap.size < v0.heap.size) ⟨below1 _ _, by rw [cell_of_row _ _ 0 _ _ (0, 0) (heap_alloc_new w _)]; rfl, by rw [cell_of_row _ _ 1 _ _ (0, 0) (heap_alloc_new w _)]; rfl, by simp⟩ ?_
    rintro v0 ⟨hb, c0, c1, hlt⟩
    have HB0 := Lib.hid hb
    have HC1 := Lib.hid c1
    have HLT := Lib.hid hlt
    clear hb hlt
    cases p
    · go_wp2_with (first
        | (go_at_call_of 192 xa; refine (ha.out _ HB0.out).mono ?_; rintro e w1 ⟨rfl, bb⟩; have HB1 := Lib.hid (below_on HB0.out bb); have d1 := (World.cell?_of_block (a := ⟨w.heap.size, 1, none⟩) (bb.block _ HLT.out)).trans HC1.out; clear bb)
        | (go_at_call_of 189 xa; refine (ha.out _ HB0.out).mono ?_; rintro e w1 ⟨rfl, bb⟩; have HB1 := Lib.hid (below_on HB0.out bb); have d1 := (World.cell?_of_block (a := ⟨w.heap.size, 1, none⟩) (bb.block _ HLT.out)).trans HC1.out; clear bb))
      exact bodyPost_ret (results_tmp rfl _ _ _) rfl ⟨rfl, HB1.out⟩
    · go_wp2_with (first
        | (go_at_call_of 192 xa; refine (ha.out _ HB0.out).mono ?_; rintro e w1 ⟨rfl, bb⟩; have HB1 := Lib.hid (below_on HB0.out bb); have d1 := (World.cell?_of_block (a := ⟨w.heap.size, 1, none⟩) (bb.block _ HLT.out)).trans HC1.out; clear bb)
        | (go_at_call_of 189 xa; refine (ha.out _ HB0.out).mono ?_; rintro e w1 ⟨rfl, bb⟩; have HB1 := Lib.hid (below_on HB0.out bb); have d1 := (World.cell?_of_block (a := ⟨w.heap.size, 1, none⟩) (bb.block _ HLT.out)).trans HC1.out; clear bb)
        | (go_at_call_of 192 xs; refine (hs.out _ HB1.out).mono ?_; rintro e w2 ⟨rfl, bb⟩; have HB2 := Lib.hid (below_on HB1.out bb); clear bb)
        | (go_at_call_of 189 xs; refine (hs.out _ HB1.out).mono ?_; rintro e w2 ⟨rfl, bb⟩; have HB2 := Lib.hid (below_on HB1.out bb); clear bb))
      exact bodyPost_ret (results_tmp rfl _ _ _) rfl ⟨rfl, HB2.out⟩)

/-- whether a jet fits: by its own method, and what that says -/
theorem fits_any : ∀ (j : Jt) (t : TypeId) (x : Value) (P : Nat → Prop) (w : World), JAt 105 103 w P j (.iface t x) → Each 16777216 j →
    ∃ K, (K = 192 ∨ K = 189) ∧ (∀ w, (Go.method 334 t x "loop.example/g00615/impl.fits").run Tryz.prog w = .ok (K, x) w) ∧ ∀ W, Below w.heap.size w W → Calls Tryz.prog K #[x] W fun e w' => e = .returned (.bool (fitsJ j)) ∧ Below W.heap.size W w'
  | .fx q, t, x, P, w, h, he => by
    obtain ⟨A, ca, B, cb, e, hr⟩ := h
    cases e
    exact ⟨_, .inl rfl, fun w => meth_fits_f _ w, fun W hb => fits_fx q A B ca cb _ W (hr.on hb) he.1 he.2⟩
  | .mv a s, t, x, P, w, h, he => by
    obtain ⟨va, vs, e, ha, hs⟩ := h
    obtain ⟨ta, xa, rfl⟩ := ha.shape
    obtain ⟨ts, xs, rfl⟩ := hs.shape
    cases e
    obtain ⟨K, k1, k2, k3⟩ := fits_any a ta xa P w ha he.1
    obtain ⟨L, l1, l2, l3⟩ := fits_any s ts xs P w hs he.2
    exact ⟨_, .inr rfl, fun w => meth_fits_m _ w, fun W hb => fits_step a s ta ts xa xs K L W k2 l2 (Lib.hid fun V hv => k3 V (below_on hb hv)) (Lib.hid fun V hv => l3 V (below_on hb hv)) k1 l1⟩
end Go.Proofs.YtifepoefeamboaaGreatDoor
