/-
  Sums of jets: halves and sumOf of the program.
-/
import Derived.Test.YtifepoefeamboaaGreatDoorImplJetC
import Derived.Test.YtifepoefeamboaaGreatDoorGrpG
namespace Nt
open Go Go.RowKit
/-- a jet that can be read -/
def SayJ (tF tM : TypeId) (w : World) (j : Jt) (e : Ending) (w' : World) : Prop :=
  ∃ v, e = .returned v ∧ JAt tF tM w' (fun _ => True) j v ∧ Below w.heap.size w w'
theorem JAt.any {tF tM : TypeId} {w : World} {P : Nat → Prop} {j : Jt} {v : Value} (h : JAt tF tM w P j v) : JAt tF tM w (fun _ => True) j v := h.mono fun _ _ _ => trivial
theorem JAt.shape {tF tM : TypeId} {w : World} {P : Nat → Prop} {j : Jt} {v : Value} (h : JAt tF tM w P j v) : ∃ t x, v = .iface t x := by
  cases j with
  | fx q => obtain ⟨A, ca, B, cb, rfl, -⟩ := h; exact ⟨_, _, rfl⟩
  | mv a s => obtain ⟨va, vs, rfl, -, -⟩ := h; exact ⟨_, _, rfl⟩
theorem mk_whole (n : Int) : mkRat n 1 = (n : Rat) := Rat.mkRat_one n
end Nt
namespace Go.Proofs.YtifepoefeamboaaGreatDoor
open Go Go.RowKit Nt

theorem whole_int (n : Int) (w : World) (h0 : -1000000000 ≤ n) (h1 : n ≤ 1000000000) :
    Calls Tryz.prog 73 #[.int .i64 n] w (SayR w (isNeg (n : Rat)) (D (nu (n : Rat))) (D (n : Rat).den)) := by
  have := whole_any n w h0 h1
  rwa [mk_whole] at this

theorem halves_fx (v : Value) (w : World) :
    Calls Tryz.prog 152 #[.iface 105 v] w fun e w' => ∃ A ca B cb, e = .returned (.tuple #[.iface 105 v, .iface 105 (.agg #[.bool (isNeg 0), .slice A (D (nu 0)).length ca, .slice B (D (0 : Rat).den).length cb])]) ∧ RdR w' (fun _ => True) (D (nu 0)) (D (0 : Rat).den) A ca B cb ∧ Below w.heap.size w w' := by
  have h1 := as_fm
  have hw := whole_int 0
  rw [show (((0 : Int)) : Rat) = 0 from rfl] at hw
  go_enter Tryz.func152, Tryz.ntmps152
  go_wp2_with (go_at_call 73; refine (hw _ (by decide) (by decide)).mono ?_; rintro e w1 ⟨A, ca, B, cb, rfl, o, bb⟩)
  refine bodyPost_ret (results_tmp2 rfl _ _ _) rfl ⟨A, ca, B, cb, rfl, o, bb⟩

/-- a jet's halves -/
theorem halves_any (j : Jt) (v : Value) (P : Nat → Prop) (w : World) (h : JAt 105 103 w P j v) :
    Calls Tryz.prog 152 #[v] w fun e w' => ∃ ta xa ts xs, e = .returned (.tuple #[.iface ta xa, .iface ts xs]) ∧ JAt 105 103 w' (fun _ => True) j.at_ (.iface ta xa) ∧ JAt 105 103 w' (fun _ => True) j.sl (.iface ts xs) ∧ Below w.heap.size w w' := by
  cases j with
  | fx q =>
    obtain ⟨A, ca, B, cb, rfl, hr⟩ := h
    refine (halves_fx _ w).mono ?_
    rintro e w' ⟨A', ca', B', cb', rfl, o, bb⟩
    have hJ : JAt 105 103 w (fun _ => True) (.fx q) (.iface 105 (.agg #[.bool (isNeg q), .slice A (D (nu q)).length ca, .slice B (D q.den).length cb])) := ⟨A, ca, B, cb, rfl, hr.mono fun _ _ _ => trivial⟩
    exact ⟨_, _, _, _, rfl, hJ.on bb, ⟨A', ca', B', cb', rfl, o⟩, bb⟩
  | mv a s =>
    obtain ⟨va, vs, rfl, ha, hs⟩ := h
    obtain ⟨ta, xa, rfl⟩ := ha.shape
    obtain ⟨ts, xs, rfl⟩ := hs.shape
    refine (halves_mv ta ts xa xs w).mono ?_
    rintro e w' ⟨rfl, bb⟩
    exact ⟨_, _, _, _, rfl, ha.any.on bb, hs.any.on bb, bb⟩

/-- what bothFixed finds in a jet -/
theorem as_any (j : Jt) (v : Value) (P : Nat → Prop) (w : World) (h : JAt 105 103 w P j v) :
    ∃ n A la ca B lb cb x, x = decide (j.dep = 0) ∧ ∀ w, (Instr.typeAssert v 64 105 true).run Tryz.prog w = .ok (.tuple #[.agg #[.bool n, .slice A la ca, .slice B lb cb], .bool x]) w := by
  cases j with
  | fx q =>
    obtain ⟨A, ca, B, cb, rfl, hr⟩ := h
    exact ⟨_, _, _, _, _, _, _, _, rfl, fun w => as_ff _ w⟩
  | mv a s =>
    obtain ⟨va, vs, rfl, ha, hs⟩ := h
    refine ⟨_, _, _, _, _, _, _, false, ?_, fun w => as_mf _ w⟩
    symm; apply decide_eq_false; simp only [Jt.dep]; omega

set_option maxRecDepth 20000 in
set_option maxHeartbeats 1600000 in
theorem sumOf_fx (p q : Rat) (vf vg : Value) (P P' : Nat → Prop) (w : World) (hf : JAt 105 103 w P (.fx p) vf) (hg : JAt 105 103 w P' (.fx q) vg) (lp : lim p 3600) (lq : lim q 3600) :
    Calls Tryz.prog 131 #[vf, vg] w (SayJ 105 103 w (.fx (p + q))) := by
  obtain ⟨A, ca, B, cb, rfl, hr⟩ := hf
  obtain ⟨A', ca', B', cb', rfl, hr'⟩ := hg
  have HR := Lib.hid hr
  have HR' := Lib.hid hr'
  clear hr hr'
  have HLP := Lib.hid lp
  have HLQ := Lib.hid lq
  clear lp lq
  go_enter Tryz.func131, Tryz.ntmps131
  go_upto_region 2 with (go_at_call 151; refine (bothFixed_gen _ _ true true _ _ _ _ _ _ _ _ _ _ _ _ _ _ (as_ff _) (as_ff _) _).mono ?_; rintro e w1 ⟨rfl, b1⟩; have HB1 := Lib.hid b1; clear b1)
  refine wp_atJ (fun v0 => Below w.heap.size w v0 ∧ RatAt v0 w1.heap.size 31 (isNeg p) A (D (nu p)).length ca B (D p.den).length cb ∧ RatAt v0 (w1.heap.size + 1) 31 (isNeg q) A' (D (nu q)).length ca' B' (D q.den).length cb')
    ⟨below_on HB1.out (below2 _ _ _), (RatAt.new _ _ _ _ _ _ _ _ _).alloc _, RatAt.new1 _ _ _ _ _ _ _ _ _ _⟩ ?_
  rintro v0 ⟨hb, r0, r1⟩
  have HB0 := Lib.hid hb
  have a0 := r0.c0
  have a1 := r0.c1
  have a2 := r0.c2
  have b0 := r1.c0
  have b1 := r1.c1
  have b2 := r1.c2
  clear hb r0 r1
  go_wp2_with (go_at_call 115; refine (plus_any p q A B ca cb A' B' ca' cb' _ _ _ (by exact HR.out.on HB0.out) (by exact HR'.out.on HB0.out) HLP.out.1 HLP.out.2 HLQ.out.1 HLQ.out.2).mono ?_; rintro e v2 ⟨A8, c8, B8, d8, rfl, o8, bb⟩)
  exact bodyPost_ret (results_tmp rfl _ _ _) rfl ⟨_, rfl, ⟨A8, c8, B8, d8, rfl, o8⟩, below_on HB0.out bb⟩

set_option maxRecDepth 20000 in
set_option maxHeartbeats 1600000 in
theorem sumOf_step (f g : Jt) (vf vg : Value) (P P' : Nat → Prop) (w : World) (hf : JAt 105 103 w P f vf) (hg : JAt 105 103 w P' g vg) (h : 0 < f.dep + g.dep)
    (h1 : Hid (∀ (va vb : Value) (W : World), JAt 105 103 W (fun _ => True) f.at_ va → JAt 105 103 W (fun _ => True) g.at_ vb → Calls Tryz.prog 131 #[va, vb] W (SayJ 105 103 W (sumJ f.at_ g.at_))))
    (h2 : Hid (∀ (va vb : Value) (W : World), JAt 105 103 W (fun _ => True) f.sl va → JAt 105 103 W (fun _ => True) g.sl vb → Calls Tryz.prog 131 #[va, vb] W (SayJ 105 103 W (sumJ f.sl g.sl)))) :
    Calls Tryz.prog 131 #[vf, vg] w (SayJ 105 103 w (sumJ f g)) := by
  rw [sumJ_halves f g h]
  obtain ⟨n, A, la, ca, B, lb, cb, x, hx, H1⟩ := as_any f vf P w hf
  obtain ⟨n', A', la', ca', B', lb', cb', y, hy, H2⟩ := as_any g vg P' w hg
  have HXY : Hid ((x && y) = false) := by
    show _ = _
    rw [hx, hy, ← Bool.decide_and]
    apply decide_eq_false; omega
  obtain ⟨tf, xf, rfl⟩ := hf.shape
  obtain ⟨tg, xg, rfl⟩ := hg.shape
  have HF := Lib.hid hf
  have HG := Lib.hid hg
  have HH1 := Lib.hid H1
  have HH2 := Lib.hid H2
  clear hf hg h hx hy H1 H2
  go_enter Tryz.func131, Tryz.ntmps131
  go_upto_region 2 with (go_at_call 151; refine (bothFixed_gen _ _ x y _ _ _ _ _ _ _ _ _ _ _ _ _ _ HH1.out HH2.out _).mono ?_; rintro e w1 ⟨rfl, b1⟩; have HB1 := Lib.hid b1; rw [HXY.out]; clear b1)
  refine wp_atJ (fun v0 => Below w.heap.size w v0) (below_on HB1.out (below2 _ _ _)) ?_
  rintro v0 hb
  have HB0 := Lib.hid hb
  clear hb
  go_upto_region 5 with (go_at_call 152; refine (halves_any f _ _ _ (HF.out.on HB0.out)).mono ?_; rintro e v1 ⟨ta, xa, ts, xs, rfl, ja, js, b2⟩; have HJA := Lib.hid ja; have HJS := Lib.hid js; have HB2 := Lib.hid (below_on HB0.out b2); clear ja js b2)
  go_upto_region 6 with (go_at_call 152; refine (halves_any g _ _ _ (HG.out.on HB2.out)).mono ?_; rintro e v2 ⟨tb, xb, tc, xc, rfl, jb, jc, b3⟩; have HJB := Lib.hid jb; have HJC := Lib.hid jc; have HJA2 := Lib.hid (HJA.out.on b3); have HJS2 := Lib.hid (HJS.out.on b3); have HB3 := Lib.hid (below_on HB2.out b3); clear jb jc b3)
  go_wp2_with (first
    | (go_at_call_of 131 xa; refine (h1.out _ _ _ (by exact HJA2.out) (by exact HJB.out)).mono ?_; rintro e v3 ⟨v37, rfl, j37, b4⟩; obtain ⟨t37, x37, rfl⟩ := j37.shape; have HJ37 := Lib.hid j37; have HJS3 := Lib.hid (HJS2.out.on b4); have HJC3 := Lib.hid (HJC.out.on b4); have HB4 := Lib.hid (below_on HB3.out b4); clear j37 b4)
    | (go_at_call_of 131 xs; refine (h2.out _ _ _ (by exact HJS3.out) (by exact HJC3.out)).mono ?_; rintro e v4 ⟨v40, rfl, j40, b5⟩; obtain ⟨t40, x40, rfl⟩ := j40.shape))
  exact bodyPost_ret (results_tmp rfl _ _ _) rfl ⟨_, rfl, ⟨_, _, rfl, HJ37.out.on b5, j40⟩, below_on HB4.out b5⟩

/-- the sum of any two jets -/
theorem sumOf_any (f g : Jt) (vf vg : Value) (P P' : Nat → Prop) (w : World) (hf : JAt 105 103 w P f vf) (hg : JAt 105 103 w P' g vg) (hs : SumFit f g) :
    Calls Tryz.prog 131 #[vf, vg] w (SayJ 105 103 w (sumJ f g)) := by
  by_cases h : 0 < f.dep + g.dep
  · have hd := dep_halves f g h
    obtain ⟨s1, s2⟩ := (sumFit_halves f g h).1 hs
    exact sumOf_step f g vf vg P P' w hf hg h (Lib.hid fun va vb W ha hb => sumOf_any f.at_ g.at_ va vb _ _ W ha hb s1) (Lib.hid fun va vb W ha hb => sumOf_any f.sl g.sl va vb _ _ W ha hb s2)
  · obtain ⟨p, q, rfl, rfl⟩ := dep_fx h
    rw [SumFit] at hs
    rw [sumJ_fx]
    exact sumOf_fx p q vf vg P P' w hf hg hs.1 hs.2
termination_by f.dep + g.dep
decreasing_by all_goals omega
end Go.Proofs.YtifepoefeamboaaGreatDoor
