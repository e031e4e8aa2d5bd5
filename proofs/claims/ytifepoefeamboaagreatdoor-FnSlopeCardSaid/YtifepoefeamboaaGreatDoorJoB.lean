/-
  ImplJet ImplJetP ImplJetI RatPow ImplJetR ImplJetG ImplJetS in one text.
-/
import Derived.Test.YtifepoefeamboaaGreatDoorJoA
import Derived.Test.YtifepoefeamboaaGreatDoorGrpG
import Derived.Deep.RegionHeld3
import Derived.Test.YtifepoefeamboaaGreatDoorGrpD
namespace Nt
open Go Go.RowKit
/-- a jet that can be read -/
def SayJ (tF tM : TypeId) (w : World) (j : Jt) (e : Ending) (w' : World) : Prop :=
  ∃ v, e = .returned v ∧ JAt tF tM w' (fun _ => True) j v ∧ Below w.heap.size w w'
theorem JAt.any {tF tM : TypeId} {w : World} {P : Nat → Prop} {j : Jt} {v : Value} (h : JAt tF tM w P j v) : JAt tF tM w (fun _ => True) j v := h.mono fun _ _ _ => trivial
theorem JAt.shape {tF tM : TypeId} {w : World} {P : Nat → Prop} {j : Jt} {v : Value} (h : JAt tF tM w P j v) : ∃ t x, v = .iface t x := by
  cases j with
  | fx q => obtain ⟨A, ca, B, cb, rfl, -⟩ := h; exact ⟨_, _, rfl⟩
  | mv a s => obtain ⟨va, vs, rfl, -, -⟩ := h; exact ⟨_, _, rfl⟩
theorem mk_whole (n : Int) : mkRat n 1 = (n : Rat) := Rat.mkRat_one n
end Nt
namespace Go.Proofs.YtifepoefeamboaaGreatDoor
open Go Go.RowKit Nt

theorem whole_int (n : Int) (w : World) (h0 : -1000000000 ≤ n) (h1 : n ≤ 1000000000) :
    Calls Tryz.prog 73 #[.int .i64 n] w (SayR w (isNeg (n : Rat)) (D (nu (n : Rat))) (D (n : Rat).den)) := by
  have := whole_any n w h0 h1
  rwa [mk_whole] at this

theorem halves_fx (v : Value) (w : World) :
    Calls Tryz.prog 152 #[.iface 105 v] w fun e w' => ∃ A ca B cb, e = .returned (.tuple #[.iface 105 v, .iface 105 (.agg #[.bool (isNeg 0), .slice A (D (nu 0)).length ca, .slice B (D (0 : Rat).den).length cb])]) ∧ RdR w' (fun _ => True) (D (nu 0)) (D (0 : Rat).den) A ca B cb ∧ Below w.heap.size w w' := by
  have h1 := as_fm
  have hw := whole_int 0
  rw [show (((0 : Int)) : Rat) = 0 from rfl] at hw
  go_enter Tryz.func152, Tryz.ntmps152
  go_wp2_with (go_at_call 73; refine (hw _ (by decide) (by decide)).mono ?_; rintro e w1 ⟨A, ca, B, cb, rfl, o, bb⟩)
  refine bodyPost_ret (results_tmp2 rfl _ _ _) rfl ⟨A, ca, B, cb, rfl, o, bb⟩

/-- a jet's halves -/
theorem halves_any (j : Jt) (v : Value) (P : Nat → Prop) (w : World) (h : JAt 105 103 w P j v) :
    Calls Tryz.prog 152 #[v] w fun e w' => ∃ ta xa ts xs, e = .returned (.tuple #[.iface ta xa, .iface ts xs]) ∧ JAt 105 103 w' (fun _ => True) j.at_ (.iface ta xa) ∧ JAt 105 103 w' (fun _ => True) j.sl (.iface ts xs) ∧ Below w.heap.size w w' := by
  cases j with
  | fx q =>
    obtain ⟨A, ca, B, cb, rfl, hr⟩ := h
    refine (halves_fx _ w).mono ?_
    rintro e w' ⟨A', ca', B', cb', rfl, o, bb⟩
    have hJ : JAt 105 103 w (fun _ => True) (.fx q) (.iface 105 (.agg #[.bool (isNeg q), .slice A (D (nu q)).length ca, .slice B (D q.den).length cb])) := ⟨A, ca, B, cb, rfl, hr.mono fun _ _ _ => trivial⟩
    exact ⟨_, _, _, _, rfl, hJ.on bb, ⟨A', ca', B', cb', rfl, o⟩, bb⟩
  | mv a s =>
    obtain ⟨va, vs, rfl, ha, hs⟩ := h
    obtain ⟨ta, xa, rfl⟩ := ha.shape
    obtain ⟨ts, xs, rfl⟩ := hs.shape
    refine (halves_mv ta ts xa xs w).mono ?_
    rintro e w' ⟨rfl, bb⟩
    exact ⟨_, _, _, _, rfl, ha.any.on bb, hs.any.on bb, bb⟩

/-- what bothFixed finds in a jet -/
theorem as_any (j : Jt) (v : Value) (P : Nat → Prop) (w : World) (h : JAt 105 103 w P j v) :
    ∃ n A la ca B lb cb x, x = decide (j.dep = 0) ∧ ∀ w, (Instr.typeAssert v 64 105 true).run Tryz.prog w = .ok (.tuple #[.agg #[.bool n, .slice A la ca, .slice B lb cb], .bool x]) w := by
  cases j with
  | fx q =>
    obtain ⟨A, ca, B, cb, rfl, hr⟩ := h
    exact ⟨_, _, _, _, _, _, _, _, rfl, fun w => as_ff _ w⟩
  | mv a s =>
    obtain ⟨va, vs, rfl, ha, hs⟩ := h
    refine ⟨_, _, _, _, _, _, _, false, ?_, fun w => as_mf _ w⟩
    symm; apply decide_eq_false; simp only [Jt.dep]; omega

set_option maxRecDepth 20000 in
set_option maxHeartbeats 1600000 in
theorem sumOf_fx (p q : Rat) (vf vg : Value) (P P' : Nat → Prop) (w : World) (hf : JAt 105 103 w P (.fx p) vf) (hg : JAt 105 103 w P' (.fx q) vg) (lp : lim p 3600) (lq : lim q 3600) :
    Calls Tryz.prog 131 #[vf, vg] w (SayJ 105 103 w (.fx (p + q))) := by
  obtain ⟨A, ca, B, cb, rfl, hr⟩ := hf
  obtain ⟨A', ca', B', cb', rfl, hr'⟩ := hg
  have HR := Lib.hid hr
  have HR' := Lib.hid hr'
  clear hr hr'
  have HLP := Lib.hid lp
  have HLQ := Lib.hid lq
  clear lp lq
  go_enter Tryz.func131, Tryz.ntmps131
  go_upto_region 2 with (go_at_call 151; refine (bothFixed_gen _ _ true true _ _ _ _ _ _ _ _ _ _ _ _ _ _ (as_ff _) (as_ff _) _).mono ?_; rintro e w1 ⟨rfl, b1⟩; have HB1 := Lib.hid b1; clear b1)
  refine wp_atJ (fun v0 => Below w.heap.size w v0 ∧ RatAt v0 w1.heap.size 31 (isNeg p) A (D (nu p)).length ca B (D p.den).length cb ∧ RatAt v0 (w1.heap.size + 1) 31 (isNeg q) A' (D (nu q)).length ca' B' (D q.den).length cb')
    ⟨below_on HB1.out (below2 _ _ _), (RatAt.new _ _ _ _ _ _ _ _ _).alloc _, RatAt.new1 _ _ _ _ _ _ _ _ _ _⟩ ?_
  rintro v0 ⟨hb, r0, r1⟩
  have HB0 := Lib.hid hb
  have a0 := r0.c0
  have a1 := r0.c1
  have a2 := r0.c2
  have b0 := r1.c0
  have b1 := r1.c1
  have b2 := r1.c2
  clear hb r0 r1
  go_wp2_with (go_at_call 115; refine (plus_any p q A B ca cb A' B' ca' cb' _ _ _ (by exact HR.out.on HB0.out) (by exact HR'.out.on HB0.out) HLP.out.1 HLP.out.2 HLQ.out.1 HLQ.out.2).mono ?_; rintro e v2 ⟨A8, c8, B8, d8, rfl, o8, bb⟩)
  exact bodyPost_ret (results_tmp rfl _ _ _) rfl ⟨_, rfl, ⟨A8, c8, B8, d8, rfl, o8⟩, below_on HB0.out bb⟩

set_option maxRecDepth 20000 in
set_option maxHeartbeats 1600000 in
theorem sumOf_step (f g : Jt) (vf vg : Value) (P P' : Nat → Prop) (w : World) (hf : JAt 105 103 w P f vf) (hg : JAt 105 103 w P' g vg) (h : 0 < f.dep + g.dep)
    (h1 : Hid (∀ (va vb : Value) (W : World), JAt 105 103 W (fun _ => True) f.at_ va → JAt 105 103 W (fun _ => True) g.at_ vb → Calls Tryz.prog 131 #[va, vb] W (SayJ 105 103 W (sumJ f.at_ g.at_))))
    (h2 : Hid (∀ (va vb : Value) (W : World), JAt 105 103 W (fun _ => True) f.sl va → JAt 105 103 W (fun _ => True) g.sl vb → Calls Tryz.prog 131 #[va, vb] W (SayJ 105 103 W (sumJ f.sl g.sl)))) :
    Calls Tryz.prog 131 #[vf, vg] w (SayJ 105 103 w (sumJ f g)) := by
  rw [sumJ_halves f g h]
  obtain ⟨n, A, la, ca, B, lb, cb, x, hx, H1⟩ := as_any f vf P w hf
  obtain ⟨n', A', la', ca', B', lb', cb', y, hy, H2⟩ := as_any g vg P' w hg
  have HXY : Hid ((x && y) = false) := by
    show _ = _
    rw [hx, hy, ← Bool.decide_and]
    apply decide_eq_false; omega
  obtain ⟨tf, xf, rfl⟩ := hf.shape
  obtain ⟨tg, xg, rfl⟩ := hg.shape
  have HF := Lib.hid hf
  have HG := Lib.hid hg
  have HH1 := Lib.hid H1
  have HH2 := Lib.hid H2
  clear hf hg h hx hy H1 H2
  go_enter Tryz.func131, Tryz.ntmps131
  go_upto_region 2 with (go_at_call 151; refine (bothFixed_gen _ _ x y _ _ _ _ _ _ _ _ _ _ _ _ _ _ HH1.out HH2.out _).mono ?_; rintro e w1 ⟨rfl, b1⟩; have HB1 := Lib.hid b1; rw [HXY.out]; clear b1)
  refine wp_atJ (fun v0 => Below w.heap.size w v0) (below_on HB1.out (below2 _ _ _)) ?_
  rintro v0 hb
  have HB0 := Lib.hid hb
  clear hb
  go_upto_region 5 with (go_at_call 152; refine (halves_any f _ _ _ (HF.out.on HB0.out)).mono ?_; rintro e v1 ⟨ta, xa, ts, xs, rfl, ja, js, b2⟩; have HJA := Lib.hid ja; have HJS := Lib.hid js; have HB2 := Lib.hid (below_on HB0.out b2); clear ja js b2)
  go_upto_region 6 with (go_at_call 152; refine (halves_any g _ _ _ (HG.out.on HB2.out)).mono ?_; rintro e v2 ⟨tb, xb, tc, xc, rfl, jb, jc, b3⟩; have HJB := Lib.hid jb; have HJC := Lib.hid jc; have HJA2 := Lib.hid (HJA.out.on b3); have HJS2 := Lib.hid (HJS.out.on b3); have HB3 := Lib.hid (below_on HB2.out b3); clear jb jc b3)
  go_wp2_with (first
    | (go_at_call_of 131 xa; refine (h1.out _ _ _ (by exact HJA2.out) (by exact HJB.out)).mono ?_; rintro e v3 ⟨v37, rfl, j37, b4⟩; obtain ⟨t37, x37, rfl⟩ := j37.shape; have HJ37 := Lib.hid j37; have HJS3 := Lib.hid (HJS2.out.on b4); have HJC3 := Lib.hid (HJC.out.on b4); have HB4 := Lib.hid (below_on HB3.out b4); clear j37 b4)
    | (go_at_call_of 131 xs; refine (h2.out _ _ _ (by exact HJS3.out) (by exact HJC3.out)).mono ?_; rintro e v4 ⟨v40, rfl, j40, b5⟩; obtain ⟨t40, x40, rfl⟩ := j40.shape))
  exact bodyPost_ret (results_tmp rfl _ _ _) rfl ⟨_, rfl, ⟨_, _, rfl, HJ37.out.on b5, j40⟩, below_on HB4.out b5⟩

/-- the sum of any two jets -/
theorem sumOf_any (f g : Jt) (vf vg : Value) (P P' : Nat → Prop) (w : World) (hf : JAt 105 103 w P f vf) (hg : JAt 105 103 w P' g vg) (hs : SumFit f g) :
    Calls Tryz.prog 131 #[vf, vg] w (SayJ 105 103 w (sumJ f g)) := by
  by_cases h : 0 < f.dep + g.dep
  · have hd := dep_halves f g h
    obtain ⟨s1, s2⟩ := (sumFit_halves f g h).1 hs
    exact sumOf_step f g vf vg P P' w hf hg h (Lib.hid fun va vb W ha hb => sumOf_any f.at_ g.at_ va vb _ _ W ha hb s1) (Lib.hid fun va vb W ha hb => sumOf_any f.sl g.sl va vb _ _ W ha hb s2)
  · obtain ⟨p, q, rfl, rfl⟩ := dep_fx h
    rw [SumFit] at hs
    rw [sumJ_fx]
    exact sumOf_fx p q vf vg P P' w hf hg hs.1 hs.2
termination_by f.dep + g.dep
decreasing_by all_goals omega
end Go.Proofs.YtifepoefeamboaaGreatDoor
namespace Go.Proofs.YtifepoefeamboaaGreatDoor
open Go Go.RowKit Nt

set_option maxRecDepth 20000 in
set_option maxHeartbeats 1600000 in
theorem productOf_fx (p q : Rat) (vf vg : Value) (P P' : Nat → Prop) (w : World) (hf : JAt 105 103 w P (.fx p) vf) (hg : JAt 105 103 w P' (.fx q) vg) (lp : lim p 3600) (lq : lim q 3600) :
    Calls Tryz.prog 133 #[vf, vg] w (SayJ 105 103 w (.fx (p * q))) := by
  obtain ⟨A, ca, B, cb, rfl, hr⟩ := hf
  obtain ⟨A', ca', B', cb', rfl, hr'⟩ := hg
  have HR := Lib.hid hr
  have HR' := Lib.hid hr'
  clear hr hr'
  have HLP := Lib.hid lp
  have HLQ := Lib.hid lq
  clear lp lq
  go_enter Tryz.func133, Tryz.ntmps133
  go_upto_region 2 with (go_at_call 151; refine (bothFixed_gen _ _ true true _ _ _ _ _ _ _ _ _ _ _ _ _ _ (as_ff _) (as_ff _) _).mono ?_; rintro e w1 ⟨rfl, b1⟩; have HB1 := Lib.hid b1; clear b1)
  refine wp_atJ (fun v0 => Below w.heap.size w v0 ∧ RatAt v0 w1.heap.size 31 (isNeg p) A (D (nu p)).length ca B (D p.den).length cb ∧ RatAt v0 (w1.heap.size + 1) 31 (isNeg q) A' (D (nu q)).length ca' B' (D q.den).length cb')
    ⟨below_on HB1.out (below2 _ _ _), (RatAt.new _ _ _ _ _ _ _ _ _).alloc _, RatAt.new1 _ _ _ _ _ _ _ _ _ _⟩ ?_
  rintro v0 ⟨hb, r0, r1⟩
  have HB0 := Lib.hid hb
  have a0 := r0.c0
  have a1 := r0.c1
  have a2 := r0.c2
  have b0 := r1.c0
  have b1 := r1.c1
  have b2 := r1.c2
  clear hb r0 r1
  go_wp2_with (go_at_call 116; refine (times_any p q A B ca cb A' B' ca' cb' _ _ _ (by exact HR.out.on HB0.out) (by exact HR'.out.on HB0.out) HLP.out.1 HLP.out.2 HLQ.out.1 HLQ.out.2).mono ?_; rintro e v2 ⟨A8, c8, B8, d8, rfl, o8, bb⟩)
  exact bodyPost_ret (results_tmp rfl _ _ _) rfl ⟨_, rfl, ⟨A8, c8, B8, d8, rfl, o8⟩, below_on HB0.out bb⟩

set_option maxRecDepth 20000 in
set_option maxHeartbeats 1600000 in
theorem productOf_step (f g : Jt) (vf vg : Value) (P P' : Nat → Prop) (w : World) (hf : JAt 105 103 w P f vf) (hg : JAt 105 103 w P' g vg) (h : 0 < f.dep + g.dep)
    (h1 : Hid (∀ (va vb : Value) (W : World), JAt 105 103 W (fun _ => True) f.at_ va → JAt 105 103 W (fun _ => True) g.at_ vb → Calls Tryz.prog 133 #[va, vb] W (SayJ 105 103 W (prodJ f.at_ g.at_))))
    (h2 : Hid (∀ (va vb : Value) (W : World), JAt 105 103 W (fun _ => True) f.sl va → JAt 105 103 W (fun _ => True) g.at_ vb → Calls Tryz.prog 133 #[va, vb] W (SayJ 105 103 W (prodJ f.sl g.at_))))
    (h3 : Hid (∀ (va vb : Value) (W : World), JAt 105 103 W (fun _ => True) f.at_ va → JAt 105 103 W (fun _ => True) g.sl vb → Calls Tryz.prog 133 #[va, vb] W (SayJ 105 103 W (prodJ f.at_ g.sl))))
    (h4 : Hid (SumFit (prodJ f.sl g.at_) (prodJ f.at_ g.sl))) :
    Calls Tryz.prog 133 #[vf, vg] w (SayJ 105 103 w (prodJ f g)) := by
  rw [prodJ_halves f g h]
  obtain ⟨n, A, la, ca, B, lb, cb, x, hx, H1⟩ := as_any f vf P w hf
  obtain ⟨n', A', la', ca', B', lb', cb', y, hy, H2⟩ := as_any g vg P' w hg
  have HXY : Hid ((x && y) = false) := by
    show _ = _
    rw [hx, hy, ← Bool.decide_and]
    apply decide_eq_false; omega
  obtain ⟨tf, xf, rfl⟩ := hf.shape
  obtain ⟨tg, xg, rfl⟩ := hg.shape
  have HF := Lib.hid hf
  have HG := Lib.hid hg
  have HH1 := Lib.hid H1
  have HH2 := Lib.hid H2
  clear hf hg h hx hy H1 H2
  go_enter Tryz.func133, Tryz.ntmps133
  go_upto_region 2 with (go_at_call 151; refine (bothFixed_gen _ _ x y _ _ _ _ _ _ _ _ _ _ _ _ _ _ HH1.out HH2.out _).mono ?_; rintro e w1 ⟨rfl, b1⟩; have HB1 := Lib.hid b1; rw [HXY.out]; clear b1)
  refine wp_atJ (fun v0 => Below w.heap.size w v0) (below_on HB1.out (below2 _ _ _)) ?_
  rintro v0 hb
  have HB0 := Lib.hid hb
  clear hb
  go_upto_region 5 with (go_at_call 152; refine (halves_any f _ _ _ (HF.out.on HB0.out)).mono ?_; rintro e v1 ⟨ta, xa, ts, xs, rfl, ja, js, b2⟩; have HJA := Lib.hid ja; have HJS := Lib.hid js; have HB2 := Lib.hid (below_on HB0.out b2); clear ja js b2)
  go_upto_region 6 with (go_at_call 152; refine (halves_any g _ _ _ (HG.out.on HB2.out)).mono ?_; rintro e v2 ⟨tb, xb, tc, xc, rfl, jb, jc, b3⟩; have HJB := Lib.hid jb; have HJC := Lib.hid jc; have HJA2 := Lib.hid (HJA.out.on b3); have HJS2 := Lib.hid (HJS.out.on b3); have HB3 := Lib.hid (below_on HB2.out b3); clear jb jc b3)
  go_wp2_with (first
    | (go_at_call_of 133 xs; refine (h2.out _ _ _ (by exact HJS3.out) (by exact HJB3.out)).mono ?_; rintro e v4 ⟨v40, rfl, j40, b5⟩; obtain ⟨t40, x40, rfl⟩ := j40.shape; have HJ40 := Lib.hid j40; have HJ37' := Lib.hid (HJ37.out.on b5); have HJA4 := Lib.hid (HJA3.out.on b5); have HJC4 := Lib.hid (HJC3.out.on b5); have HB5 := Lib.hid (below_on HB4.out b5); clear j40 b5)
    | (go_at_call_of 133 xc; refine (h3.out _ _ _ (by exact HJA4.out) (by exact HJC4.out)).mono ?_; rintro e v5 ⟨v43, rfl, j43, b6⟩; obtain ⟨t43, x43, rfl⟩ := j43.shape; have HJ43 := Lib.hid j43; have HJ40' := Lib.hid (HJ40.out.on b6); have HJ37'' := Lib.hid (HJ37'.out.on b6); have HB6 := Lib.hid (below_on HB5.out b6); clear j43 b6)
    | (go_at_call_of 133 xb; refine (h1.out _ _ _ (by exact HJA2.out) (by exact HJB.out)).mono ?_; rintro e v3 ⟨v37, rfl, j37, b4⟩; obtain ⟨t37, x37, rfl⟩ := j37.shape; have HJ37 := Lib.hid j37; have HJA3 := Lib.hid (HJA2.out.on b4); have HJB3 := Lib.hid (HJB.out.on b4); have HJS3 := Lib.hid (HJS2.out.on b4); have HJC3 := Lib.hid (HJC.out.on b4); have HB4 := Lib.hid (below_on HB3.out b4); clear j37 b4)
    | (go_at_call 131; refine (sumOf_any _ _ _ _ _ _ _ (by exact HJ40'.out) (by exact HJ43.out) h4.out).mono ?_; rintro e v6 ⟨v44, rfl, j44, b7⟩; obtain ⟨t44, x44, rfl⟩ := j44.shape))
  exact bodyPost_ret (results_tmp rfl _ _ _) rfl ⟨_, rfl, ⟨_, _, rfl, HJ37''.out.on b7, j44⟩, below_on HB6.out b7⟩

/-- the product of any two jets -/
theorem productOf_any (f g : Jt) (vf vg : Value) (P P' : Nat → Prop) (w : World) (hf : JAt 105 103 w P f vf) (hg : JAt 105 103 w P' g vg) (hs : ProdFit f g) :
    Calls Tryz.prog 133 #[vf, vg] w (SayJ 105 103 w (prodJ f g)) := by
  by_cases h : 0 < f.dep + g.dep
  · have hd := dep_halves f g h
    obtain ⟨s1, s2, s3, s4⟩ := (prodFit_halves f g h).1 hs
    exact productOf_step f g vf vg P P' w hf hg h (Lib.hid fun va vb W ha hb => productOf_any f.at_ g.at_ va vb _ _ W ha hb s1) (Lib.hid fun va vb W ha hb => productOf_any f.sl g.at_ va vb _ _ W ha hb s2) (Lib.hid fun va vb W ha hb => productOf_any f.at_ g.sl va vb _ _ W ha hb s3) (Lib.hid s4)
  · obtain ⟨p, q, rfl, rfl⟩ := dep_fx h
    rw [ProdFit] at hs
    rw [prodJ_fx]
    exact productOf_fx p q vf vg P P' w hf hg hs.1 hs.2
termination_by f.dep + g.dep
decreasing_by all_goals omega

set_option maxRecDepth 20000 in
set_option maxHeartbeats 800000 in
/-- so many times a jet -/
theorem timesOf_any (n : Int) (f : Jt) (vf : Value) (P : Nat → Prop) (w : World) (hf : JAt 105 103 w P f vf) (h0 : -1000000000 ≤ n) (h1 : n ≤ 1000000000) (hs : ProdFit (.fx (n : Rat)) f) :
    Calls Tryz.prog 132 #[.int .i64 n, vf] w (SayJ 105 103 w (timesJ n f)) := by
  unfold timesJ
  obtain ⟨tf, xf, rfl⟩ := hf.shape
  have HF := Lib.hid hf
  have HS := Lib.hid hs
  clear hf hs
  go_enter Tryz.func132, Tryz.ntmps132
  go_wp2_with (first
    | (go_at_call 73; refine (whole_int n _ h0 h1).mono ?_; rintro e w1 ⟨A, ca, B, cb, rfl, o, bb⟩; have HO := Lib.hid o; have HB1 := Lib.hid bb; clear o bb)
    | (go_at_call 133; refine (productOf_any (.fx (n : Rat)) f _ _ _ _ _ ⟨_, _, _, _, rfl, by exact HO.out⟩ (by exact HF.out.on HB1.out) HS.out).mono ?_; rintro e w2 ⟨v, rfl, j, bb⟩; obtain ⟨t2, x2, rfl⟩ := j.shape))
  refine bodyPost_ret (results_tmp rfl _ _ _) rfl ?_
  exact ⟨_, rfl, j, below_on HB1.out bb⟩
end Go.Proofs.YtifepoefeamboaaGreatDoor
namespace Go.Proofs.YtifepoefeamboaaGreatDoor
open Go Go.RowKit Nt

set_option maxRecDepth 20000 in
set_option maxHeartbeats 3200000 in
theorem inv_fx_core (m : Bool) (X Y L1 : List Int) (ev : Value) (n : Bool) (A B : Option Addr) (la ca lb cb : Nat) (w : World)
    (hW : Hid (∀ W, Calls Tryz.prog 73 #[.int .i64 1] W (SayR W false L1 L1)))
    (hO : Hid (∀ (A1 : Option Addr) (c1 : Nat) (B1 : Option Addr) (d1 : Nat) (W : World), RdR W (fun _ => True) L1 L1 A1 c1 B1 d1 → Below w.heap.size w W → Calls Tryz.prog 195 #[.agg #[.bool false, .slice A1 L1.length c1, .slice B1 L1.length d1], .agg #[.bool n, .slice A la ca, .slice B lb cb]] W (fun e w' => ∃ A5 c5 B5 d5, e = .returned (.tuple #[.agg #[.bool m, .slice A5 X.length c5, .slice B5 Y.length d5], ev]) ∧ RdR w' (fun _ => True) X Y A5 c5 B5 d5 ∧ Below W.heap.size W w'))) :
    Calls Tryz.prog 193 #[.agg #[.bool n, .slice A la ca, .slice B lb cb]] w (fun e w' => ∃ A5 c5 B5 d5, e = .returned (.tuple #[.iface 105 (.agg #[.bool m, .slice A5 X.length c5, .slice B5 Y.length d5]), ev]) ∧ RdR w' (fun _ => True) X Y A5 c5 B5 d5 ∧ Below w.heap.size w w') := by
  go_enter Tryz.func193, Tryz.ntmps193
  go_upto_region 1 with fail
  refine wp_atJ (fun v0 => Below w.heap.size w v0 ∧ RatAt v0 w.heap.size 105 n A la ca B lb cb) ⟨below1 _ _, RatAt.new _ _ _ _ _ _ _ _ _⟩ ?_
  rintro v0 ⟨hb, r0⟩
  have HB0 := Lib.hid hb
  have HR0 := Lib.hid r0
  have zR0 := r0.lt
  clear hb r0
  go_cut [4, 5] (fun s1 s2 wx => ∃ (zb : Nat) (As : Option Addr) (cs : Nat) (Bs : Option Addr) (ds : Nat), s1 = .pointer (some ⟨zb, 0, none⟩) ∧ s2 = ev ∧ Below w.heap.size w wx ∧ RdR wx (fun _ => True) X Y As cs Bs ds ∧ RatAt wx zb 31 m As X.length cs Bs Y.length ds)
  case first =>
    have zw := HB0.out.size
    go_region_held3 (fun wx => wx.cell? ⟨w.heap.size, 0, none⟩ = some (.bool n) ∧ wx.cell? ⟨w.heap.size, 1, none⟩ = some (.slice A la ca) ∧ wx.cell? ⟨w.heap.size, 2, none⟩ = some (.slice B lb cb))
      (first | with_reducible exact ⟨HR2.out.c0, HR2.out.c1, HR2.out.c2⟩ | with_reducible exact ⟨HR1.out.c0, HR1.out.c1, HR1.out.c2⟩ | with_reducible exact ⟨HR0.out.c0, HR0.out.c1, HR0.out.c2⟩ | with_reducible exact ⟨(HR2.out.alloc _).c0, (HR2.out.alloc _).c1, (HR2.out.alloc _).c2⟩ | with_reducible exact ⟨(HR1.out.alloc _).c0, (HR1.out.alloc _).c1, (HR1.out.alloc _).c2⟩ | with_reducible exact ⟨(HR0.out.alloc _).c0, (HR0.out.alloc _).c1, (HR0.out.alloc _).c2⟩ | with_reducible exact ⟨(HR2.out.grown (setAll_grown _ _ _ _ _) (by omega)).c0, (HR2.out.grown (setAll_grown _ _ _ _ _) (by omega)).c1, (HR2.out.grown (setAll_grown _ _ _ _ _) (by omega)).c2⟩ | exact ⟨HR0.out.c0, HR0.out.c1, HR0.out.c2⟩ | exact ⟨(HR0.out.alloc _).c0, (HR0.out.alloc _).c1, (HR0.out.alloc _).c2⟩ | exact ⟨(HR2.out.grown (setAll_grown _ _ _ _ _) (by omega)).c0, (HR2.out.grown (setAll_grown _ _ _ _ _) (by omega)).c1, (HR2.out.grown (setAll_grown _ _ _ _ _) (by omega)).c2⟩)
      (first
        | (go_at_call 73; (first | (with_reducible show Calls _ _ _ (World.drew (World.alloc _ _)) _) | (with_reducible show Calls _ _ _ (World.alloc (World.drew _) _) _)); refine calls_at (fun V => Below v0.heap.size v0 V ∧ RatAt V v0.heap.size 31 false none 0 0 none 0 0) (by first | exact ⟨below1 _ _, RatAt.new _ _ _ _ _ _ _ _ _⟩ | exact ⟨below_drewN (below1 _ _) 1, RatAt.new _ _ _ _ _ _ _ _ _⟩ | exact ⟨undrew (below1 _ _), RatAt.new _ _ _ _ _ _ _ _ _⟩) ?_; rintro u0 ⟨bu, pz⟩; have su0 := bu.size; have HB0 := Lib.hid (below_on HB0.out bu); have HR0 := Lib.hid (HR0.out.on bu); have HZ0 := Lib.hid pz; clear bu pz; refine (hW.out _).mono ?_; rintro e v1 ⟨A1, c1, B1, d1, rfl, oo, bb⟩; have sv1 := bb.size; have HB1 := Lib.hid (below_on HB0.out bb); have HR1 := Lib.hid (HR0.out.on bb); have HO1 := Lib.hid oo; have HZ1 := Lib.hid (HZ0.out.on bb); clear oo bb)
        | (go_at_call 73; refine (hW.out _).mono ?_; rintro e v1 ⟨A1, c1, B1, d1, rfl, oo, bb⟩; have bb := undrew bb; have sv1 := bb.size; have HB1 := Lib.hid (below_on HB0.out bb); have HR1 := Lib.hid (HR0.out.on bb); have HO1 := Lib.hid oo; clear oo bb)
        | (go_at_call 195; (with_reducible show Calls _ _ _ (World.alloc _ _) _); refine calls_at (fun V => Below v1.heap.size v1 V ∧ RatAt V v1.heap.size 31 false none 0 0 none 0 0) (by first | exact ⟨below1 _ _, RatAt.new _ _ _ _ _ _ _ _ _⟩ | exact ⟨below_drewN (below1 _ _) 1, RatAt.new _ _ _ _ _ _ _ _ _⟩ | exact ⟨undrew (below1 _ _), RatAt.new _ _ _ _ _ _ _ _ _⟩) ?_; rintro u2 ⟨bu, pz⟩; have su2 := bu.size; have HB1 := Lib.hid (below_on HB1.out bu); have HR1 := Lib.hid (HR1.out.on bu); have HO1 := Lib.hid (HO1.out.on bu); have HZ1 := Lib.hid pz; clear bu pz; refine (hO.out _ _ _ _ _ (by exact HO1.out) (by exact HB1.out)).mono ?_; rintro e v2 ⟨A2, c2, B2, d2, rfl, oo, bb⟩; have sv2 := bb.size; have HB2 := Lib.hid (below_on HB1.out bb); have HR2 := Lib.hid (HR1.out.on bb); have HO2 := Lib.hid oo; have HZ2 := Lib.hid (HZ1.out.on bb); have f0 := HZ2.out.fz 0; have f1 := HZ2.out.fz 1; have f2 := HZ2.out.fz 2; have y0 := HZ2.out.c0; have y1 := HZ2.out.c1; have y2 := HZ2.out.c2; clear oo bb)
        | (go_at_call 195; refine (hO.out _ _ _ _ _ (by exact HO1.out) (by exact HB1.out)).mono ?_; rintro e v2 ⟨A2, c2, B2, d2, rfl, oo, bb⟩; have sv2 := bb.size; have HB2 := Lib.hid (below_on HB1.out bb); have HR2 := Lib.hid (HR1.out.on bb); have HO2 := Lib.hid oo; (try (have HZ2 := Lib.hid (HZ1.out.on bb); have f0 := HZ2.out.fz 0; have f1 := HZ2.out.fz 1; have f2 := HZ2.out.fz 2; have y0 := HZ2.out.c0; have y1 := HZ2.out.c1; have y2 := HZ2.out.c2)); clear oo bb))
    all_goals
      go_wp2_with fail
      go_meet
    all_goals first | exact ⟨_, _, _, _, _, rfl, rfl, below_on HB2.out (below1 _ _), HO2.out.on (below1 _ _), RatAt.new _ _ _ _ _ _ _ _ _⟩ | exact ⟨_, _, _, _, _, rfl, rfl, HB2.out.trans (grown_below (setAll_grown _ _ _ _ _) (by omega) (by omega)), ⟨HO2.out.1.past HZ2.out (setAll_grown _ _ _ _ _), HO2.out.2.past HZ2.out (setAll_grown _ _ _ _ _)⟩, HZ2.out.setAll _ _ _ _ _ _ _⟩
  obtain ⟨zb, As, cs, Bs, ds, rfl, rfl, pB, pW, pV⟩ := hcut
  have a0 := pV.c0
  have a1 := pV.c1
  have a2 := pV.c2
  have HB := Lib.hid pB
  have HW := Lib.hid pW
  clear pB pW pV
  go_wp2
  exact bodyPost_ret (results_tmp2 rfl _ _ _) rfl ⟨As, cs, Bs, ds, rfl, HW.out, HB.out⟩
end Go.Proofs.YtifepoefeamboaaGreatDoor
namespace Nt
open Go Go.RowKit
theorem one_parts : nu (1 : Rat) = 1 ∧ (1 : Rat).den = 1 ∧ isNeg (1 : Rat) = false := ⟨rfl, rfl, rfl⟩
theorem pow_len (x k : Nat) (h : (D x).length ≤ 40) (hk : k ≤ 8) : (D (x ^ k)).length ≤ 3600 := by
  have h1 := (D_len_le x 40).1 h
  have h4 : (D (x ^ k)).length ≤ 40 * k + 1 := by
    refine (D_len_le _ (40 * k + 1)).2 ?_
    have h2 : x ^ k ≤ (10000 ^ 40) ^ k := Nat.pow_le_pow_left (Nat.le_of_lt h1) k
    rw [← Nat.pow_mul] at h2
    exact Nat.lt_of_le_of_lt h2 (Nat.pow_lt_pow_right (by decide) (Nat.lt_succ_self _))
  omega
theorem Nm.lit2 (w : World) (o o' : Obj) (t : TypeId) : Nm (((w.alloc o).alloc o').alloc (.cells #[.int .i64 1] t)) (some ⟨w.heap.size + 1 + 1, 0, none⟩) 1 1 := by
  have := Nm.lit ((w.alloc o).alloc o') t
  rwa [World.size_alloc, World.size_alloc] at this
theorem Nm.lit3 (w : World) (o o' o'' : Obj) (t : TypeId) : Nm ((((w.alloc o).alloc o').alloc o'').alloc (.cells #[.int .i64 1] t)) (some ⟨w.heap.size + 1 + 1 + 1, 0, none⟩) 1 1 := by
  have := Nm.lit (((w.alloc o).alloc o').alloc o'') t
  rwa [World.size_alloc, World.size_alloc, World.size_alloc] at this
theorem below4 (w : World) (o o' o'' o3 : Obj) : Below w.heap.size w ((((w.alloc o).alloc o').alloc o'').alloc o3) := (below3 w o o' o'').alloc (by simp; omega) _
end Nt
namespace Go.Proofs.YtifepoefeamboaaGreatDoor
open Go Go.RowKit Nt

set_option maxRecDepth 20000 in
set_option maxHeartbeats 3200000 in
theorem raised_core (na : Bool) (x y : Nat) (f g : Nat → Nat) (hf0 : f 0 = 1) (hg0 : g 0 = 1) (hf : ∀ k, f k * x = f (k + 1)) (hg : ∀ k, g k * y = g (k + 1)) (n : Nat) (hn : n ≤ 8) (lf : ∀ k, k ≤ 8 → (D (f k)).length ≤ 3600) (lg : ∀ k, k ≤ 8 → (D (g k)).length ≤ 3600)
    (A B : Option Addr) (ca cb : Nat) (P : Nat → Prop) (w : World) (k0 : RdR w P (D x) (D y) A ca B cb) (l1 : (D x).length ≤ 3600) (l2 : (D y).length ≤ 3600) :
    Calls Tryz.prog 187 #[.agg #[.bool na, .slice A (D x).length ca, .slice B (D y).length cb], .int .i64 (n : Int)] w (SayR w ((na && (n % 2 == 1)) && decide (0 < (D (f n)).length)) (D (f n)) (D (g n))) := by
  have H0 := Lib.hid (k0.mono (Q := (· < w.heap.size)) fun _ _ h => h)
  have HF0 := Lib.hid hf0
  have HG0 := Lib.hid hg0
  have HF := Lib.hid hf
  have HG := Lib.hid hg
  have HLF := Lib.hid lf
  have HLG := Lib.hid lg
  clear k0 hf0 hg0 hf hg lf lg
  go_enter Tryz.func187, Tryz.ntmps187
  go_wp2
  go_loopw [5, 6, 10] (fun s5 s6 s10 wr => ∃ (k : Nat) (U V : Option Addr) (cu cv : Nat), k ≤ n ∧ s5 = .slice U (D (f k)).length cu ∧ s6 = .slice V (D (g k)).length cv ∧ s10 = .int .i64 k ∧ Nm wr U cu (f k) ∧ Nm wr V cv (g k) ∧ RatAt wr w.heap.size 31 na A (D x).length ca B (D y).length cb ∧ RatAt wr (w.heap.size + 1) 31 false none 0 0 none 0 0 ∧ Below w.heap.size w wr) (fun _ _ i _ => n - (intOf i).toNat)
  case atStart =>
    exact ⟨0, _, _, 1, 1, Nat.zero_le _, by rw [HF0.out]; rfl, by rw [HG0.out]; rfl, rfl, by rw [HF0.out]; exact (Nm.lit2 _ _ _ _).on (below1 _ _), by rw [HG0.out]; exact Nm.lit3 _ _ _ _ _, (((RatAt.new _ _ _ _ _ _ _ _ _).alloc _).alloc _).alloc _, ((RatAt.new1 _ _ _ _ _ _ _ _ _ _).alloc _).alloc _, below4 _ _ _ _ _⟩
  case round =>
    obtain ⟨k, U, V, cu, cv, hk, rfl, rfl, rfl, hu, hv, r0, r1, hb⟩ := hrel
    have HNu0 := Lib.hid hu
    have HNv0 := Lib.hid hv
    have HR0 := Lib.hid r0
    have HT0 := Lib.hid r1
    have HB0 := Lib.hid hb
    clear hu hv r0 r1 hb
    generalize wr = v0 at *
    have lu := HLF.out k (by omega)
    have lv := HLG.out k (by omega)
    by_cases hlt : k < n
    · have hlt' : (k : Int) < n := by omega
      go_upto_region 4 with fail
      go_region_held3 (fun wx => wx.cell? ⟨w.heap.size, 0, none⟩ = some (.bool na) ∧ wx.cell? ⟨w.heap.size, 1, none⟩ = some (.slice A (D x).length ca) ∧ wx.cell? ⟨w.heap.size, 2, none⟩ = some (.slice B (D y).length cb))
        (first | exact ⟨(HR0.out).c0, (HR0.out).c1, (HR0.out).c2⟩ | exact ⟨(HR1.out).c0, (HR1.out).c1, (HR1.out).c2⟩ | exact ⟨(HR2.out).c0, (HR2.out).c1, (HR2.out).c2⟩)
        (first
          | (go_at_call_of 142 B; refine (productLimbs_any V B _ cv _ cb (g k) y _ _ _ (by first | exact HNv1.out | exact Rd.drew HNv1.out) (by exact (H0.out.below HB1.out).2) (by omega) (by omega)).mono ?_; rintro e v2 hnew; rw [HG.out k] at hnew; obtain ⟨V2, d2, rfl, p2, bb⟩ := new_of hnew; have sv2 := bb.size; have HB2 := Lib.hid (below_on HB1.out bb); have HR2 := Lib.hid (HR1.out.on bb); have HT2 := Lib.hid (HT1.out.on bb); have HNu2 := Lib.hid (HNu1.out.on bb); have HNv2 := Lib.hid (HNv1.out.on bb); have HN12 := Lib.hid (HN11.out.on bb); have HN22 := Lib.hid p2; clear hnew p2 bb)
          | (go_at_call_of 142 A; refine (productLimbs_any U A _ cu _ ca (f k) x _ _ _ (by first | exact HNu0.out | exact Rd.drew HNu0.out) (by exact (H0.out.below HB0.out).1) (by omega) (by omega)).mono ?_; rintro e v1 hnew; rw [HF.out k] at hnew; obtain ⟨V1, d1, rfl, p1, bb⟩ := new_of hnew; have bb := undrew bb; have sv1 := bb.size; have HB1 := Lib.hid (below_on HB0.out bb); have HR1 := Lib.hid (HR0.out.on bb); have HT1 := Lib.hid (HT0.out.on bb); have HNu1 := Lib.hid (HNu0.out.on bb); have HNv1 := Lib.hid (HNv0.out.on bb); have HN11 := Lib.hid p1; clear hnew p1 bb))
      go_wp2
      go_roundw
      case rel => exact ⟨k + 1, V1, V2, d1, d2, by omega, rfl, rfl, by go_num, HN12.out, HN22.out, HR2.out, HT2.out, HB2.out⟩
      case measure => simp [intOf]; omega
    · obtain rfl : k = n := by omega
      have q0 := HR0.out.c0
      cases na with
      | false =>
        go_wp2_with fail
        refine (ratOf_any false U V _ cu _ cv v0 (by omega)).mono ?_
        rintro e v1 ⟨rfl, bb⟩
        have HB1 := Lib.hid (below_on HB0.out bb)
        have HT1 := Lib.hid (HT0.out.on bb)
        have HU1 := Lib.hid (HNu0.out.on bb)
        have HV1 := Lib.hid (HNv0.out.on bb)
        clear bb q0
        have f0 := HT1.out.fz 0
        have f1 := HT1.out.fz 1
        have f2 := HT1.out.fz 2
        have y0 := HT1.out.c0
        have y1 := HT1.out.c1
        have y2 := HT1.out.c2
        go_wp2
        have g2 := fun b u v => setAll_grown v1 (w.heap.size + 1) (.bool b) u v
        refine bodyPost_ret (retR rfl _ _ _ rfl (HT1.out.setAll _ _ _ _ _ _ _)) rfl ?_
        exact ⟨U, cu, V, cv, rfl, ⟨Rd.past HU1.out HT1.out (g2 _ _ _), Rd.past HV1.out HT1.out (g2 _ _ _)⟩, below_grow HB1.out (by omega) (g2 _ _ _)⟩
      | true =>
        have HP : Hid (((k : Int) % 2 == 1) = (k % 2 == 1)) := Lib.hid (by rw [Bool.eq_iff_iff]; simp; omega)
        go_wp2_with fail
        refine (ratOf_any _ U V _ cu _ cv v0 (by omega)).mono ?_
        rintro e v1 ⟨rfl, bb⟩
        have HB1 := Lib.hid (below_on HB0.out bb)
        have HT1 := Lib.hid (HT0.out.on bb)
        have HU1 := Lib.hid (HNu0.out.on bb)
        have HV1 := Lib.hid (HNv0.out.on bb)
        clear bb q0
        have f0 := HT1.out.fz 0
        have f1 := HT1.out.fz 1
        have f2 := HT1.out.fz 2
        have y0 := HT1.out.c0
        have y1 := HT1.out.c1
        have y2 := HT1.out.c2
        go_wp2
        have g2 := fun b u v => setAll_grown v1 (w.heap.size + 1) (.bool b) u v
        refine bodyPost_ret (retR rfl _ _ _ rfl (HT1.out.setAll _ _ _ _ _ _ _)) rfl ?_
        exact ⟨U, cu, V, cv, by rw [HP.out]; rfl, ⟨Rd.past HU1.out HT1.out (g2 _ _ _), Rd.past HV1.out HT1.out (g2 _ _ _)⟩, below_grow HB1.out (by omega) (g2 _ _ _)⟩
theorem raised_any (a : Rat) (n : Nat) (hn : n ≤ 8) (A B : Option Addr) (ca cb : Nat) (P : Nat → Prop) (w : World) (h0 : RdR w P (D (nu a)) (D a.den) A ca B cb) (l1 : (D (nu a)).length ≤ 40) (l2 : (D a.den).length ≤ 40) :
    Calls Tryz.prog 187 #[.agg #[.bool (isNeg a), .slice A (D (nu a)).length ca, .slice B (D a.den).length cb], .int .i64 (n : Int)] w (SayR w (isNeg (a ^ n)) (D (nu (a ^ n))) (D (a ^ n).den)) := by
  obtain ⟨e1, e2, e3⟩ := pow_parts a n
  rw [e3, e2, e1, ← D_pos_len]
  exact raised_core (isNeg a) (nu a) a.den (fun k => nu a ^ k) (fun k => a.den ^ k) rfl rfl (fun k => (Nat.pow_succ ..).symm) (fun k => (Nat.pow_succ ..).symm) n hn (fun k hk => pow_len _ _ l1 hk) (fun k hk => pow_len _ _ l2 hk) A B ca cb P w h0 (by omega) (by omega)

end Go.Proofs.YtifepoefeamboaaGreatDoor
namespace Nt
open Go Go.RowKit
/-- a jet's two parts, where a call finds them -/
def PartsAt (W : World) (b : Nat) (ta : TypeId) (xa : Value) (ts : TypeId) (xs : Value) : Prop := (W.cell? ⟨b, 0, none⟩ = some (.iface ta xa) ∧ W.cell? ⟨b, 1, none⟩ = some (.iface ts xs)) ∧ b < W.heap.size
theorem PartsAt.on {W W' : World} {b : Nat} {ta ts : TypeId} {xa xs : Value} (h : PartsAt W b ta xa ts xs) (hb : Below W.heap.size W W') : PartsAt W' b ta xa ts xs :=
  ⟨⟨(World.cell?_of_block (a := ⟨b, 0, none⟩) (hb.block _ h.2)).trans h.1.1, (World.cell?_of_block (a := ⟨b, 1, none⟩) (hb.block _ h.2)).trans h.1.2⟩, Nat.lt_of_lt_of_le h.2 hb.size⟩
theorem PartsAt.new (w : World) (t : TypeId) (ta ts : TypeId) (xa xs : Value) : PartsAt (w.alloc (.cells #[.iface ta xa, .iface ts xs] t)) w.heap.size ta xa ts xs :=
  ⟨⟨by rw [cell_of_row _ _ 0 _ _ (0, 0) (heap_alloc_new w _)]; rfl, by rw [cell_of_row _ _ 1 _ _ (0, 0) (heap_alloc_new w _)]; rfl⟩, by simp⟩
end Nt
namespace Go.Proofs.YtifepoefeamboaaGreatDoor
open Go Go.RowKit Nt

theorem meth_raised_f (v : Value) (w : World) : (Go.method 334 105 v "loop.example/g00615/impl.raised").run Tryz.prog w = .ok (194, v) w := by kernel_rfl
theorem meth_raised_m (v : Value) (w : World) : (Go.method 334 103 v "loop.example/g00615/impl.raised").run Tryz.prog w = .ok (191, v) w := by kernel_rfl

set_option maxRecDepth 20000 in
set_option maxHeartbeats 1600000 in
theorem raised_fx (q : Rat) (n : Nat) (hn : n ≤ 8) (A B : Option Addr) (ca cb : Nat) (P : Nat → Prop) (w : World) (hr : RdR w P (D (nu q)) (D q.den) A ca B cb) (l1 : (D (nu q)).length ≤ 40) (l2 : (D q.den).length ≤ 40) :
    Calls Tryz.prog 194 #[.agg #[.bool (isNeg q), .slice A (D (nu q)).length ca, .slice B (D q.den).length cb], .int .i64 (n : Int)] w (SayJ 105 103 w (raiseJ (.fx q) n)) := by
  have HR := Lib.hid hr
  clear hr
  rw [raiseJ]
  go_enter Tryz.func194, Tryz.ntmps194
  go_upto_region 1 with fail
  refine wp_atJ (fun v0 => Below w.heap.size w v0 ∧ RatAt v0 w.heap.size 105 (isNeg q) A (D (nu q)).length ca B (D q.den).length cb) ⟨below1 _ _, RatAt.new _ _ _ _ _ _ _ _ _⟩ ?_
  rintro v0 ⟨hb, r0⟩
  have HB0 := Lib.hid hb
  have a0 := r0.c0
  have a1 := r0.c1
  have a2 := r0.c2
  clear hb r0
  go_wp2_with (go_at_call 187; refine (raised_any q n hn A B ca cb _ _ (by exact HR.out.on HB0.out) l1 l2).mono ?_; rintro e w1 ⟨A5, c5, B5, d5, rfl, o5, bb⟩; have HB1 := Lib.hid (below_on HB0.out bb))
  refine bodyPost_ret (results_tmp rfl _ _ _) rfl ?_
  exact ⟨_, rfl, ⟨A5, c5, B5, d5, rfl, o5⟩, HB1.out⟩
end Go.Proofs.YtifepoefeamboaaGreatDoor
namespace Go.Proofs.YtifepoefeamboaaGreatDoor
open Go Go.RowKit Nt

theorem meth_inverse_f (v : Value) (w : World) : (Go.method 334 105 v "loop.example/g00615/impl.inverse").run Tryz.prog w = .ok (193, v) w := by kernel_rfl
theorem meth_inverse_m (v : Value) (w : World) : (Go.method 334 103 v "loop.example/g00615/impl.inverse").run Tryz.prog w = .ok (190, v) w := by kernel_rfl

/-- a jet, and no error -/
def SayJE (tF tM : TypeId) (w : World) (j : Jt) (e : Ending) (w' : World) : Prop :=
  ∃ t x, e = .returned (.tuple #[.iface t x, .nilIface]) ∧ JAt tF tM w' (fun _ => True) j (.iface t x) ∧ Below w.heap.size w w'
/-- the error that stands for what is over 0 -/
def SayE (tE : TypeId) (ad : Addr) (w : World) (e : Ending) (w' : World) : Prop :=
  ∃ v, e = .returned (.tuple #[v, .iface tE (.pointer (some ad))]) ∧ Below w.heap.size w w'

set_option maxRecDepth 20000 in
set_option maxHeartbeats 1600000 in
theorem inv_fx_ok (q : Rat) (A B : Option Addr) (ca cb : Nat) (P : Nat → Prop) (w : World) (hr : RdR w P (D (nu q)) (D q.den) A ca B cb) (hl : lim q 3600) (h0 : 0 < nu q) :
    Calls Tryz.prog 193 #[.agg #[.bool (isNeg q), .slice A (D (nu q)).length ca, .slice B (D q.den).length cb]] w (SayJE 105 103 w (invJ (.fx q))) := by
  have e1 : (1 : Rat) / q = q⁻¹ := by rw [Rat.div_def, Rat.one_mul]
  have ho := inv_fx_core (isNeg q⁻¹) (D (nu q⁻¹)) (D q⁻¹.den) (D 1) .nilIface (isNeg q) A B (D (nu q)).length ca (D q.den).length cb w
    (Lib.hid fun W => by have := wholeRat_pos 1 W (by decide); exact this)
    (Lib.hid fun A1 c1 B1 d1 W h1 hb => by
      have l1 : (D (nu (1 : Rat))).length ≤ 3600 := by decide
      have l2 : (D (1 : Rat).den).length ≤ 3600 := by decide
      have := over_ok 1 q A1 B1 c1 d1 A B ca cb _ _ W (by rw [one_parts.1, one_parts.2.1]; exact h1) (hr.on hb) l1 l2 hl.1 hl.2 h0
      rw [e1, one_parts.1, one_parts.2.1, one_parts.2.2] at this
      exact this)
  refine ho.mono ?_
  rintro e w' ⟨A5, c5, B5, d5, rfl, o, bb⟩
  rw [invJ]
  exact ⟨_, _, rfl, ⟨A5, c5, B5, d5, rfl, o⟩, bb⟩

theorem rdr_none (w : World) (P : Nat → Prop) : RdR w P [] [] none 0 none 0 := ⟨⟨rfl, Nat.le_refl _, fun _ => rfl, fun h => absurd h (Nat.lt_irrefl _)⟩, ⟨rfl, Nat.le_refl _, fun _ => rfl, fun h => absurd h (Nat.lt_irrefl _)⟩⟩

set_option maxRecDepth 20000 in
set_option maxHeartbeats 1600000 in
theorem inv_fx_zero (q : Rat) (A B : Option Addr) (ca cb : Nat) (w : World) (ad : Addr) (hE : ErrAt 195 w ad) (h0 : nu q = 0) :
    Calls Tryz.prog 193 #[.agg #[.bool (isNeg q), .slice A (D (nu q)).length ca, .slice B (D q.den).length cb]] w (SayE 195 ad w) := by
  have hz : (D (nu q)).length = 0 := by rw [h0, D_zero]; rfl
  rw [hz]
  have ho := inv_fx_core false [] [] (D 1) (.iface 195 (.pointer (some ad))) (isNeg q) A B 0 ca (D q.den).length cb w
    (Lib.hid fun W => by have := wholeRat_pos 1 W (by decide); exact this)
    (Lib.hid fun A1 c1 B1 d1 W h1 hb => (over_zero false (isNeg q) A1 B1 (D 1).length c1 (D 1).length d1 A B ca (D q.den).length cb ad W (hE.on hb)).mono (by
      rintro e w' ⟨rfl, bb⟩
      exact ⟨none, 0, none, 0, rfl, rdr_none _ _, bb⟩))
  refine ho.mono ?_
  rintro e w' ⟨A5, c5, B5, d5, rfl, o, bb⟩
  exact ⟨_, rfl, bb⟩

set_option maxRecDepth 20000 in
set_option maxHeartbeats 1600000 in
theorem inv_step (a s : Jt) (ta ts : TypeId) (xa xs : Value) (K : FuncId) (w : World) (ma : ∀ w, (Go.method 334 ta xa "loop.example/g00615/impl.inverse").run Tryz.prog w = .ok (K, xa) w)
    (h1 : Hid (∀ W, Below w.heap.size w W → Calls Tryz.prog K #[xa] W (SayJE 105 103 W (invJ a))))
    (hs : Hid (JAt 105 103 w (fun _ => True) s (.iface ts xs))) (hp : Hid (ProdFit (invJ a) (invJ a))) (hq : Hid (ProdFit s (prodJ (invJ a) (invJ a)))) (ht : Hid (ProdFit (.fx ((-1 : Int) : Rat)) (prodJ s (prodJ (invJ a) (invJ a)))))
    (hk : K = 193 ∨ K = 190) :
    Calls Tryz.prog 190 #[.agg #[.iface ta xa, .iface ts xs]] w (SayJE 105 103 w (invJ (.mv a s))) := by
  rw [invJ]
  generalize invJ a = ia at *
  rcases hk with rfl | rfl
  all_goals (
    go_enter Tryz.func190, Tryz.ntmps190
    go_upto_region 1 with fail
    refine wp_atJ (fun v0 => Below w.heap.size w v0 ∧ PartsAt v0 w.heap.size ta xa ts xs) ⟨below1 _ _, PartsAt.new _ _ _ _ _ _⟩ ?_
    rintro v0 ⟨hb, r0⟩
    have HB0 := Lib.hid hb
    have HQ0 := Lib.hid r0
    have c0 := r0.1.1
    clear hb r0
    go_upto_region 4 with (first
      | (go_at_call_of 193 xa; refine (h1.out _ HB0.out).mono ?_; rintro e w1 ⟨t1, x1, rfl, j1, bb⟩; have HJ1 := Lib.hid j1; have HQ1 := Lib.hid (HQ0.out.on bb); have HB1 := Lib.hid (below_on HB0.out bb); clear j1 bb)
      | (go_at_call_of 190 xa; refine (h1.out _ HB0.out).mono ?_; rintro e w1 ⟨t1, x1, rfl, j1, bb⟩; have HJ1 := Lib.hid j1; have HQ1 := Lib.hid (HQ0.out.on bb); have HB1 := Lib.hid (below_on HB0.out bb); clear j1 bb))
    clear c0
    go_region_held3 (fun wx => wx.cell? ⟨w.heap.size, 0, none⟩ = some (.iface ta xa) ∧ wx.cell? ⟨w.heap.size, 1, none⟩ = some (.iface ts xs))
      (first | exact HQ1.out.1 | exact HQ2.out.1 | exact HQ3.out.1 | exact HQ4.out.1)
      (first
        | (go_at_call_of 133 xs; refine (productOf_any _ _ _ _ _ _ _ (by exact hs.out.on HB2.out) (by exact HJ2.out) hq.out).mono ?_; rintro e w3 ⟨v3, rfl, j3, bb⟩; obtain ⟨t3, x3, rfl⟩ := j3.shape; have HJ3 := Lib.hid j3; have HJ1'' := Lib.hid (HJ1'.out.on bb); have HQ3 := Lib.hid (HQ2.out.on bb); have HB3 := Lib.hid (below_on HB2.out bb); clear j3 bb)
        | (go_at_call_of 133 x1; refine (productOf_any _ _ _ _ _ _ _ (by first | exact HJ1.out | exact HJ1.out.on (below_drewJ (Below.refl _ _))) (by first | exact HJ1.out | exact HJ1.out.on (below_drewJ (Below.refl _ _))) hp.out).mono ?_; rintro e w2 ⟨v2, rfl, j2, bb⟩; have bb := undrew bb; obtain ⟨t2, x2, rfl⟩ := j2.shape; have HJ2 := Lib.hid j2; have HJ1' := Lib.hid (HJ1.out.on bb); have HQ2 := Lib.hid (HQ1.out.on bb); have HB2 := Lib.hid (below_on HB1.out bb); clear j2 bb)
        | (go_at_call 132; refine (timesOf_any (-1) _ _ _ _ (by exact HJ3.out) (by decide) (by decide) ht.out).mono ?_; rintro e w4 ⟨v4, rfl, j4, bb⟩; obtain ⟨t4, x4, rfl⟩ := j4.shape; have HJ4 := Lib.hid j4; have HJ1''' := Lib.hid (HJ1''.out.on bb); have HQ4 := Lib.hid (HQ3.out.on bb); have HB4 := Lib.hid (below_on HB3.out bb); clear j4 bb))
    go_wp2
    refine bodyPost_ret (results_tmp2 rfl _ _ _) rfl ?_
    exact ⟨_, _, rfl, ⟨_, _, rfl, HJ1'''.out, HJ4.out⟩, HB4.out⟩)

set_option maxRecDepth 20000 in
set_option maxHeartbeats 1600000 in
theorem inv_none (ta ts : TypeId) (xa xs : Value) (K : FuncId) (w : World) (ad : Addr) (ma : ∀ w, (Go.method 334 ta xa "loop.example/g00615/impl.inverse").run Tryz.prog w = .ok (K, xa) w)
    (h1 : Hid (∀ W, Below w.heap.size w W → Calls Tryz.prog K #[xa] W (SayE 195 ad W)))
    (hk : K = 193 ∨ K = 190) :
    Calls Tryz.prog 190 #[.agg #[.iface ta xa, .iface ts xs]] w (SayE 195 ad w) := by
  rcases hk with rfl | rfl
  all_goals (
    go_enter Tryz.func190, Tryz.ntmps190
    go_upto_region 1 with fail
    refine wp_atJ (fun v0 => Below w.heap.size w v0 ∧ PartsAt v0 w.heap.size ta xa ts xs) ⟨below1 _ _, PartsAt.new _ _ _ _ _ _⟩ ?_
    rintro v0 ⟨hb, r0⟩
    have HB0 := Lib.hid hb
    have c0 := r0.1.1
    clear hb r0
    go_wp2_with (first
      | (go_at_call_of 193 xa; refine (h1.out _ HB0.out).mono ?_; rintro e w1 ⟨v1, rfl, bb⟩; have HB1 := Lib.hid (below_on HB0.out bb); clear bb)
      | (go_at_call_of 190 xa; refine (h1.out _ HB0.out).mono ?_; rintro e w1 ⟨v1, rfl, bb⟩; have HB1 := Lib.hid (below_on HB0.out bb); clear bb))
    refine bodyPost_ret (results_tmp2 rfl _ _ _) rfl ?_
    exact ⟨_, rfl, HB1.out⟩)

/-- one over a jet: by its own method, and what that answers -/
theorem jinv_any : ∀ (j : Jt) (t : TypeId) (x : Value) (P : Nat → Prop) (w : World) (ad : Addr), ErrAt 195 w ad → JAt 105 103 w P j (.iface t x) → InvFit j →
    ∃ K, (K = 193 ∨ K = 190) ∧ (∀ w, (Go.method 334 t x "loop.example/g00615/impl.inverse").run Tryz.prog w = .ok (K, x) w) ∧ ∀ W, Below w.heap.size w W → (0 < nu (numJ j 0) → Calls Tryz.prog K #[x] W (SayJE 105 103 W (invJ j))) ∧ (nu (numJ j 0) = 0 → Calls Tryz.prog K #[x] W (SayE 195 ad W))
  | .fx q, t, x, P, w, ad, hE, h, he => by
    obtain ⟨A, ca, B, cb, e, hr⟩ := h
    cases e
    refine ⟨_, .inl rfl, fun w => meth_inverse_f _ w, fun W hb => ⟨fun h0 => ?_, fun h0 => ?_⟩⟩
    · rw [numJ] at h0; exact inv_fx_ok q A B ca cb _ W (hr.on hb) he h0
    · rw [numJ] at h0; exact inv_fx_zero q A B ca cb W ad (hE.on hb) h0
  | .mv a s, t, x, P, w, ad, hE, h, he => by
    obtain ⟨va, vs, e, ha, hs⟩ := h
    obtain ⟨ta, xa, rfl⟩ := ha.shape
    obtain ⟨ts, xs, rfl⟩ := hs.shape
    cases e
    obtain ⟨e1, e2, e3, e4⟩ := he
    obtain ⟨K, k1, k2, k3⟩ := jinv_any a ta xa P w ad hE ha e1
    refine ⟨_, .inr rfl, fun w => meth_inverse_m _ w, fun W hb => ⟨fun h0 => ?_, fun h0 => ?_⟩⟩
    · rw [numJ] at h0
      exact inv_step a s ta ts xa xs K W k2 (Lib.hid fun V hv => (k3 V (below_on hb hv)).1 h0) (Lib.hid (hs.any.on hb)) (Lib.hid e2) (Lib.hid e3) (Lib.hid e4) k1
    · rw [numJ] at h0
      exact inv_none ta ts xa xs K W ad k2 (Lib.hid fun V hv => (k3 V (below_on hb hv)).2 h0) k1
end Go.Proofs.YtifepoefeamboaaGreatDoor
namespace Go.Proofs.YtifepoefeamboaaGreatDoor
open Go Go.RowKit Nt

set_option maxRecDepth 20000 in
set_option maxHeartbeats 1600000 in
theorem raised_step (a s : Jt) (n : Nat) (N : Int) (hn0 : 1 ≤ N) (hn : N ≤ 8) (ta ts : TypeId) (xa xs : Value) (K : FuncId) (w : World) (ma : ∀ w, (Go.method 334 ta xa "loop.example/g00615/impl.raised").run Tryz.prog w = .ok (K, xa) w)
    (h1 : Hid (∀ W, Below w.heap.size w W → Calls Tryz.prog K #[xa, .int .i64 (N - 1)] W (SayJ 105 103 W (raiseJ a (n - 1)))))
    (h2 : Hid (∀ W, Below w.heap.size w W → Calls Tryz.prog K #[xa, .int .i64 N] W (SayJ 105 103 W (raiseJ a n))))
    (hs : Hid (JAt 105 103 w (fun _ => True) s (.iface ts xs))) (hp : Hid (ProdFit (raiseJ a (n - 1)) s)) (ht : Hid (ProdFit (.fx ((N : Int) : Rat)) (prodJ (raiseJ a (n - 1)) s)))
    (hk : K = 194 ∨ K = 191) :
    Calls Tryz.prog 191 #[.agg #[.iface ta xa, .iface ts xs], .int .i64 N] w (SayJ 105 103 w (.mv (raiseJ a n) (timesJ N (prodJ (raiseJ a (n - 1)) s)))) := by
  have hmax : max (N - 1) 0 = N - 1 := by omega
  have hlt : ¬ (N - 1 < 0) := by omega
  rcases hk with rfl | rfl
  all_goals (
    go_enter Tryz.func191, Tryz.ntmps191
    go_upto_region 1 with fail
    refine wp_atJ (fun v0 => Below w.heap.size w v0 ∧ PartsAt v0 w.heap.size ta xa ts xs) ⟨below1 _ _, PartsAt.new _ _ _ _ _ _⟩ ?_
    rintro v0 ⟨hb, r0⟩
    have HB0 := Lib.hid hb
    have HQ0 := Lib.hid r0
    have c0 := r0.1.1
    clear hb r0
    go_upto_region 2 with (first
      | (go_at_call_of 194 xa; refine (h1.out _ HB0.out).mono ?_; rintro e w1 ⟨v1, rfl, j1, bb⟩; obtain ⟨t1, x1, rfl⟩ := j1.shape; have HJ1 := Lib.hid j1; have HQ1 := Lib.hid (HQ0.out.on bb); have HB1 := Lib.hid (below_on HB0.out bb); clear j1 bb)
      | (go_at_call_of 191 xa; refine (h1.out _ HB0.out).mono ?_; rintro e w1 ⟨v1, rfl, j1, bb⟩; obtain ⟨t1, x1, rfl⟩ := j1.shape; have HJ1 := Lib.hid j1; have HQ1 := Lib.hid (HQ0.out.on bb); have HB1 := Lib.hid (below_on HB0.out bb); clear j1 bb))
    clear c0
    go_region_held3 (fun wx => wx.cell? ⟨w.heap.size, 0, none⟩ = some (.iface ta xa) ∧ wx.cell? ⟨w.heap.size, 1, none⟩ = some (.iface ts xs))
      (first | exact HQ1.out.1 | exact HQ2.out.1 | exact HQ3.out.1 | exact HQ4.out.1)
      (first
        | (go_at_call_of 194 xa; refine (h2.out _ (by exact below_drewJ HB1.out)).mono ?_; rintro e w2 ⟨v2, rfl, j2, bb⟩; have bb := undrew bb; obtain ⟨t2, x2, rfl⟩ := j2.shape; have HJ2 := Lib.hid j2; have HJ1' := Lib.hid (HJ1.out.on bb); have HQ2 := Lib.hid (HQ1.out.on bb); have HB2 := Lib.hid (below_on HB1.out bb); clear j2 bb)
        | (go_at_call_of 191 xa; refine (h2.out _ (by exact below_drewJ HB1.out)).mono ?_; rintro e w2 ⟨v2, rfl, j2, bb⟩; have bb := undrew bb; obtain ⟨t2, x2, rfl⟩ := j2.shape; have HJ2 := Lib.hid j2; have HJ1' := Lib.hid (HJ1.out.on bb); have HQ2 := Lib.hid (HQ1.out.on bb); have HB2 := Lib.hid (below_on HB1.out bb); clear j2 bb)
        | (go_at_call 133; refine (productOf_any _ _ _ _ _ _ _ (by exact HJ1'.out) (by exact hs.out.on HB2.out) hp.out).mono ?_; rintro e w3 ⟨v3, rfl, j3, bb⟩; obtain ⟨t3, x3, rfl⟩ := j3.shape; have HJ3 := Lib.hid j3; have HJ2' := Lib.hid (HJ2.out.on bb); have HQ3 := Lib.hid (HQ2.out.on bb); have HB3 := Lib.hid (below_on HB2.out bb); clear j3 bb)
        | (go_at_call 132; refine (timesOf_any N _ _ _ _ (by exact HJ3.out) (by omega) (by omega) ht.out).mono ?_; rintro e w4 ⟨v4, rfl, j4, bb⟩; obtain ⟨t4, x4, rfl⟩ := j4.shape; have HJ4 := Lib.hid j4; have HJ2'' := Lib.hid (HJ2'.out.on bb); have HQ4 := Lib.hid (HQ3.out.on bb); have HB4 := Lib.hid (below_on HB3.out bb); clear j4 bb))
    go_wp2
    refine bodyPost_ret (results_tmp rfl _ _ _) rfl ?_
    exact ⟨_, rfl, ⟨_, _, rfl, HJ2''.out, HJ4.out⟩, HB4.out⟩)

set_option maxRecDepth 20000 in
set_option maxHeartbeats 1600000 in
theorem raised_zero (a s : Jt) (ta ts : TypeId) (xa xs : Value) (K : FuncId) (w : World) (ma : ∀ w, (Go.method 334 ta xa "loop.example/g00615/impl.raised").run Tryz.prog w = .ok (K, xa) w)
    (h1 : Hid (∀ W, Below w.heap.size w W → Calls Tryz.prog K #[xa, .int .i64 0] W (SayJ 105 103 W (raiseJ a 0))))
    (h2 : Hid (∀ W, Below w.heap.size w W → Calls Tryz.prog K #[xa, .int .i64 0] W (SayJ 105 103 W (raiseJ a 0))))
    (hs : Hid (JAt 105 103 w (fun _ => True) s (.iface ts xs))) (hp : Hid (ProdFit (raiseJ a 0) s)) (ht : Hid (ProdFit (.fx ((0 : Int) : Rat)) (prodJ (raiseJ a 0) s)))
    (hk : K = 194 ∨ K = 191) :
    Calls Tryz.prog 191 #[.agg #[.iface ta xa, .iface ts xs], .int .i64 0] w (SayJ 105 103 w (.mv (raiseJ a 0) (timesJ 0 (prodJ (raiseJ a 0) s)))) := by
  rcases hk with rfl | rfl
  all_goals (
    go_enter Tryz.func191, Tryz.ntmps191
    go_upto_region 1 with fail
    refine wp_atJ (fun v0 => Below w.heap.size w v0 ∧ PartsAt v0 w.heap.size ta xa ts xs) ⟨below1 _ _, PartsAt.new _ _ _ _ _ _⟩ ?_
    rintro v0 ⟨hb, r0⟩
    have HB0 := Lib.hid hb
    have HQ0 := Lib.hid r0
    have c0 := r0.1.1
    clear hb r0
    go_upto_region 2 with (first
      | (go_at_call_of 194 xa; refine (h1.out _ HB0.out).mono ?_; rintro e w1 ⟨v1, rfl, j1, bb⟩; obtain ⟨t1, x1, rfl⟩ := j1.shape; have HJ1 := Lib.hid j1; have HQ1 := Lib.hid (HQ0.out.on bb); have HB1 := Lib.hid (below_on HB0.out bb); clear j1 bb)
      | (go_at_call_of 191 xa; refine (h1.out _ HB0.out).mono ?_; rintro e w1 ⟨v1, rfl, j1, bb⟩; obtain ⟨t1, x1, rfl⟩ := j1.shape; have HJ1 := Lib.hid j1; have HQ1 := Lib.hid (HQ0.out.on bb); have HB1 := Lib.hid (below_on HB0.out bb); clear j1 bb))
    clear c0
    go_region_held3 (fun wx => wx.cell? ⟨w.heap.size, 0, none⟩ = some (.iface ta xa) ∧ wx.cell? ⟨w.heap.size, 1, none⟩ = some (.iface ts xs))
      (first | exact HQ1.out.1 | exact HQ2.out.1 | exact HQ3.out.1 | exact HQ4.out.1)
      (first
        | (go_at_call_of 194 xa; refine (h2.out _ (by exact below_drewJ HB1.out)).mono ?_; rintro e w2 ⟨v2, rfl, j2, bb⟩; have bb := undrew bb; obtain ⟨t2, x2, rfl⟩ := j2.shape; have HJ2 := Lib.hid j2; have HJ1' := Lib.hid (HJ1.out.on bb); have HQ2 := Lib.hid (HQ1.out.on bb); have HB2 := Lib.hid (below_on HB1.out bb); clear j2 bb)
        | (go_at_call_of 191 xa; refine (h2.out _ (by exact below_drewJ HB1.out)).mono ?_; rintro e w2 ⟨v2, rfl, j2, bb⟩; have bb := undrew bb; obtain ⟨t2, x2, rfl⟩ := j2.shape; have HJ2 := Lib.hid j2; have HJ1' := Lib.hid (HJ1.out.on bb); have HQ2 := Lib.hid (HQ1.out.on bb); have HB2 := Lib.hid (below_on HB1.out bb); clear j2 bb)
        | (go_at_call 133; refine (productOf_any _ _ _ _ _ _ _ (by exact HJ1'.out) (by exact hs.out.on HB2.out) hp.out).mono ?_; rintro e w3 ⟨v3, rfl, j3, bb⟩; obtain ⟨t3, x3, rfl⟩ := j3.shape; have HJ3 := Lib.hid j3; have HJ2' := Lib.hid (HJ2.out.on bb); have HQ3 := Lib.hid (HQ2.out.on bb); have HB3 := Lib.hid (below_on HB2.out bb); clear j3 bb)
        | (go_at_call 132; refine (timesOf_any 0 _ _ _ _ (by exact HJ3.out) (by decide) (by decide) ht.out).mono ?_; rintro e w4 ⟨v4, rfl, j4, bb⟩; obtain ⟨t4, x4, rfl⟩ := j4.shape; have HJ4 := Lib.hid j4; have HJ2'' := Lib.hid (HJ2'.out.on bb); have HQ4 := Lib.hid (HQ3.out.on bb); have HB4 := Lib.hid (below_on HB3.out bb); clear j4 bb))
    go_wp2
    refine bodyPost_ret (results_tmp rfl _ _ _) rfl ?_
    exact ⟨_, rfl, ⟨_, _, rfl, HJ2''.out, HJ4.out⟩, HB4.out⟩)

/-- a jet's power: by its own method, and what that answers -/
theorem jraised_any : ∀ (j : Jt) (n : Nat) (t : TypeId) (x : Value) (P : Nat → Prop) (w : World), n ≤ 8 → JAt 105 103 w P j (.iface t x) → RaiseFit j n →
    ∃ K, (K = 194 ∨ K = 191) ∧ (∀ w, (Go.method 334 t x "loop.example/g00615/impl.raised").run Tryz.prog w = .ok (K, x) w) ∧ ∀ W, Below w.heap.size w W → Calls Tryz.prog K #[x, .int .i64 (n : Int)] W (SayJ 105 103 W (raiseJ j n))
  | .fx q, n, t, x, P, w, hn, h, he => by
    obtain ⟨A, ca, B, cb, e, hr⟩ := h
    cases e
    exact ⟨_, .inl rfl, fun w => meth_raised_f _ w, fun W hb => raised_fx q n hn A B ca cb _ W (hr.on hb) he.1 he.2⟩
  | .mv a s, n, t, x, P, w, hn, h, he => by
    obtain ⟨va, vs, e, ha, hs⟩ := h
    obtain ⟨ta, xa, rfl⟩ := ha.shape
    obtain ⟨ts, xs, rfl⟩ := hs.shape
    cases e
    obtain ⟨e1, e2, e3, e4⟩ := he
    obtain ⟨K, k1, k2, k3⟩ := jraised_any a n ta xa P w hn ha e1
    obtain ⟨L, l1, l2, l3⟩ := jraised_any a (n - 1) ta xa P w (by omega) ha e2
    have hKL : L = K := by
      have := (l2 w).symm.trans (k2 w)
      simpa using this
    subst hKL
    refine ⟨_, .inr rfl, fun w => meth_raised_m _ w, fun W hb => ?_⟩
    rw [raiseJ]
    by_cases h0 : n = 0
    · subst h0
      exact raised_zero a s ta ts xa xs L W l2 (Lib.hid fun V hv => l3 V (below_on hb hv)) (Lib.hid fun V hv => k3 V (below_on hb hv)) (Lib.hid (hs.any.on hb)) (Lib.hid e3) (Lib.hid e4) l1
    · refine raised_step a s n (n : Int) (by omega) (by omega) ta ts xa xs L W l2 (Lib.hid fun V hv => ?_) (Lib.hid fun V hv => k3 V (below_on hb hv)) (Lib.hid (hs.any.on hb)) (Lib.hid e3) (Lib.hid e4) l1
      have := l3 V (below_on hb hv)
      rwa [show ((n - 1 : Nat) : Int) = (n : Int) - 1 by omega] at this
end Go.Proofs.YtifepoefeamboaaGreatDoor
