/-
  Products of jets: productOf and timesOf of the program.
-/
import Derived.Test.YtifepoefeamboaaGreatDoorImplJet
namespace Go.Proofs.YtifepoefeamboaaGreatDoor
open Go Go.RowKit Nt

set_option maxRecDepth 20000 in
set_option maxHeartbeats 1600000 in
theorem productOf_fx (p q : Rat) (vf vg : Value) (P P' : Nat → Prop) (w : World) (hf : JAt 105 103 w P (.fx p) vf) (hg : JAt 105 103 w P' (.fx q) vg) (lp : lim p 3600) (lq : lim q 3600) :
    Calls Tryz.prog 133 #[vf, vg] w (SayJ 105 103 w (.fx (p * q))) := by
  obtain ⟨A, ca, B, cb, rfl, hr⟩ := hf
  obtain ⟨A', ca', B', cb', rfl, hr'⟩ := hg
  have HR := Lib.hid hr
  have HR' := Lib.hid hr'
  clear hr hr'
  have HLP := Lib.hid lp
  have HLQ := Lib.hid lq
  clear lp lq
  go_enter Tryz.func133, Tryz.ntmps133
  go_upto_region 2 with (go_at_call 151; refine (bothFixed_gen _ _ true true _ _ _ _ _ _ _ _ _ _ _ _ _ _ (as_ff _) (as_ff _) _).mono ?_; rintro e w1 ⟨rfl, b1⟩; have HB1 := Lib.hid b1; clear b1)
  refine wp_atJ (fun v0 => Below w.heap.size w v0 ∧ RatAt v0 w1.heap.size 31 (isNeg p) A (D (nu p)).length ca B (D p.den).length cb ∧ RatAt v0 (w1.heap.size + 1) 31 (isNeg q) A' (D (nu q)).length ca' B' (D q.den).length cb')
    ⟨below_on HB1.out (below2 _ _ _), (RatAt.new _ _ _ _ _ _ _ _ _).alloc _, RatAt.new1 _ _ _ _ _ _ _ _ _ _⟩ ?_
  rintro v0 ⟨hb, r0, r1⟩
  have HB0 := Lib.hid hb
  have a0 := r0.c0
  have a1 := r0.c1
  have a2 := r0.c2
  have b0 := r1.c0
  have b1 := r1.c1
  have b2 := r1.c2
  clear hb r0 r1
  go_wp2_with (go_at_call 116; refine (times_any p q A B ca cb A' B' ca' cb' _ _ _ (by exact HR.out.on HB0.out) (by exact HR'.out.on HB0.out) HLP.out.1 HLP.out.2 HLQ.out.1 HLQ.out.2).mono ?_; rintro e v2 ⟨A8, c8, B8, d8, rfl, o8, bb⟩)
  exact bodyPost_ret (results_tmp rfl _ _ _) rfl ⟨_, rfl, ⟨A8, c8, B8, d8, rfl, o8⟩, below_on HB0.out bb⟩

set_option maxRecDepth 20000 in
set_option maxHeartbeats 1600000 in
theorem productOf_step (f g : Jt) (vf vg : Value) (P P' : Nat → Prop) (w : World) (hf : JAt 105 103 w P f vf) (hg : JAt 105 103 w P' g vg) (h : 0 < f.dep + g.dep)
    (h1 : Hid (∀ (va vb : Value) (W : World), JAt 105 103 W (fun _ => True) f.at_ va → JAt 105 103 W (fun _ => True) g.at_ vb → Calls Tryz.prog 133 #[va, vb] W (SayJ 105 103 W (prodJ f.at_ g.at_))))
    (h2 : Hid (∀ (va vb : Value) (W : World), JAt 105 103 W (fun _ => True) f.sl va → JAt 105 103 W (fun _ => True) g.at_ vb → Calls Tryz.prog 133 #[va, vb] W (SayJ 105 103 W (prodJ f.sl g.at_))))
    (h3 : Hid (∀ (va vb : Value) (W : World), JAt 105 103 W (fun _ => True) f.at_ va → JAt 105 103 W (fun _ => True) g.sl vb → Calls Tryz.prog 133 #[va, vb] W (SayJ 105 103 W (prodJ f.at_ g.sl))))
    (h4 : Hid (SumFit (prodJ f.sl g.at_) (prodJ f.at_ g.sl))) :
    Calls Tryz.prog 133 #[vf, vg] w (SayJ 105 103 w (prodJ f g)) := by
  rw [prodJ_halves f g h]
  obtain ⟨n, A, la, ca, B, lb, cb, x, hx, H1⟩ := as_any f vf P w hf
  obtain ⟨n', A', la', ca', B', lb', cb', y, hy, H2⟩ := as_any g vg P' w hg
  have HXY : Hid ((x && y) = false) := by
    show _ = _
    rw [hx, hy, ← Bool.decide_and]
    apply decide_eq_false; omega
  obtain ⟨tf, xf, rfl⟩ := hf.shape
  obtain ⟨tg, xg, rfl⟩ := hg.shape
  have HF := Lib.hid hf
  have HG := Lib.hid hg
  have HH1 := Lib.hid H1
  have HH2 := Lib.hid H2
  clear hf hg h hx hy H1 H2
  go_enter Tryz.func133, Tryz.ntmps133
  go_upto_region 2 with (go_at_call 151; refine (bothFixed_gen _ _ x y _ _ _ _ _ _ _ _ _ _ _ _ _ _ HH1.out HH2.out _).mono ?_; rintro e w1 ⟨rfl, b1⟩; have HB1 := Lib.hid b1; rw [HXY.out]; clear b1)
  refine wp_atJ (fun v0 => Below w.heap.size w v0) (below_on HB1.out (below2 _ _ _)) ?_
  rintro v0 hb
  have HB0 := Lib.hid hb
  clear hb
  go_upto_region 5 with (go_at_call 152; refine (halves_any f _ _ _ (HF.out.on HB0.out)).mono ?_; rintro e v1 ⟨ta, xa, ts, xs, rfl, ja, js, b2⟩; have HJA := Lib.hid ja; have HJS := Lib.hid js; have HB2 := Lib.hid (below_on HB0.out b2); clear ja js b2)
  go_upto_region 6 with (go_at_call 152; refine (halves_any g _ _ _ (HG.out.on HB2.out)).mono ?_; rintro e v2 ⟨tb, xb, tc, xc, rfl, jb, jc, b3⟩; have HJB := Lib.hid jb; have HJC := Lib.hid jc; have HJA2 := Lib.hid (HJA.out.on b3); have HJS2 := Lib.hid (HJS.out.on b3); have HB3 := Lib.hid (below_on HB2.out b3); clear jb jc b3)
  go_wp2_with (first
    | (go_at_call_of 133 xs; refine (h2.out _ _ _ (by exact HJS3.out) (by exact HJB3.out)).mono ?_; rintro e v4 ⟨v40, rfl, j40, b5⟩; obtain ⟨t40, x40, rfl⟩ := j40.shape; have HJ40 := Lib.hid j40; have HJ37' := Lib.hid (HJ37.out.on b5); have HJA4 := Lib.hid (HJA3.out.on b5); have HJC4 := Lib.hid (HJC3.out.on b5); have HB5 := Lib.hid (below_on HB4.out b5); clear j40 b5)
    | (go_at_call_of 133 xc; refine (h3.out _ _ _ (by exact HJA4.out) (by exact HJC4.out)).mono ?_; rintro e v5 ⟨v43, rfl, j43, b6⟩; obtain ⟨t43, x43, rfl⟩ := j43.shape; have HJ43 := Lib.hid j43; have HJ40' := Lib.hid (HJ40.out.on b6); have HJ37'' := Lib.hid (HJ37'.out.on b6); have HB6 := Lib.hid (below_on HB5.out b6); clear j43 b6)
    | (go_at_call_of 133 xb; refine (h1.out _ _ _ (by exact HJA2.out) (by exact HJB.out)).mono ?_; rintro e v3 ⟨v37, rfl, j37, b4⟩; obtain ⟨t37, x37, rfl⟩ := j37.shape; have HJ37 := Lib.hid j37; have HJA3 := Lib.hid (HJA2.out.on b4); have HJB3 := Lib.hid (HJB.out.on b4); have HJS3 := Lib.hid (HJS2.out.on b4); have HJC3 := Lib.hid (HJC.out.on b4); have HB4 := Lib.hid (below_on HB3.out b4); clear j37 b4)
    | (go_at_call 131; refine (sumOf_any _ _ _ _ _ _ _ (by exact HJ40'.out) (by exact HJ43.out) h4.out).mono ?_; rintro e v6 ⟨v44, rfl, j44, b7⟩; obtain ⟨t44, x44, rfl⟩ := j44.shape))
  exact bodyPost_ret (results_tmp rfl _ _ _) rfl ⟨_, rfl, ⟨_, _, rfl, HJ37''.out.on b7, j44⟩, below_on HB6.out b7⟩

/-- the product of any two jets -/
theorem productOf_any (f g : Jt) (vf vg : Value) (P P' : Nat → Prop) (w : World) (hf : JAt 105 103 w P f vf) (hg : JAt 105 103 w P' g vg) (hs : ProdFit f g) :
    Calls Tryz.prog 133 #[vf, vg] w (SayJ 105 103 w (prodJ f g)) := by
  by_cases h : 0 < f.dep + g.dep
  · have hd := dep_halves f g h
    obtain ⟨s1, s2, s3, s4⟩ := (prodFit_halves f g h).1 hs
    exact productOf_step f g vf vg P P' w hf hg h (Lib.hid fun va vb W ha hb => productOf_any f.at_ g.at_ va vb _ _ W ha hb s1) (Lib.hid fun va vb W ha hb => productOf_any f.sl g.at_ va vb _ _ W ha hb s2) (Lib.hid fun va vb W ha hb => productOf_any f.at_ g.sl va vb _ _ W ha hb s3) (Lib.hid s4)
  · obtain ⟨p, q, rfl, rfl⟩ := dep_fx h
    rw [ProdFit] at hs
    rw [prodJ_fx]
    exact productOf_fx p q vf vg P P' w hf hg hs.1 hs.2
termination_by f.dep + g.dep
decreasing_by all_goals omega

set_option maxRecDepth 20000 in
set_option maxHeartbeats 800000 in
/-- so many times a jet -/
theorem timesOf_any (n : Int) (f : Jt) (vf : Value) (P : Nat → Prop) (w : World) (hf : JAt 105 103 w P f vf) (h0 : -1000000000 ≤ n) (h1 : n ≤ 1000000000) (hs : ProdFit (.fx (n : Rat)) f) :
    Calls Tryz.prog 132 #[.int .i64 n, vf] w (SayJ 105 103 w (timesJ n f)) := by
  unfold timesJ
  obtain ⟨tf, xf, rfl⟩ := hf.shape
  have HF := Lib.hid hf
  have HS := Lib.hid hs
  clear hf hs
  go_enter Tryz.func132, Tryz.ntmps132
  go_wp2_with (first
    | (go_at_call 73; refine (whole_int n _ h0 h1).mono ?_; rintro e w1 ⟨A, ca, B, cb, rfl, o, bb⟩; have HO := Lib.hid o; have HB1 := Lib.hid bb; clear o bb)
    | (go_at_call 133; refine (productOf_any (.fx (n : Rat)) f _ _ _ _ _ ⟨_, _, _, _, rfl, by exact HO.out⟩ (by exact HF.out.on HB1.out) HS.out).mono ?_; rintro e w2 ⟨v, rfl, j, bb⟩; obtain ⟨t2, x2, rfl⟩ := j.shape))
  refine bodyPost_ret (results_tmp rfl _ _ _) rfl ?_
  exact ⟨_, rfl, j, below_on HB1.out bb⟩
end Go.Proofs.YtifepoefeamboaaGreatDoor
