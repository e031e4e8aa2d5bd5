/-
  The model's jets, by their numbers: what each operation answers, and that it fits.
-/
import Derived.Test.YtifepoefeamboaaGreatDoorSpecQuad2
namespace Nt
open Go Go.RowKit
def lims (q : Q4) (k : Nat) : Prop := lim q.f k ∧ lim q.v k ∧ lim q.w k ∧ lim q.vw k
theorem lims_mono {q : Q4} {k l : Nat} (h : lims q k) (hl : k ≤ l) : lims q l := ⟨lim_mono h.1 hl, lim_mono h.2.1 hl, lim_mono h.2.2.1 hl, lim_mono h.2.2.2 hl⟩
theorem lims_fit {q : Q4} (h : fit4 q) : lims q 40 := h
/-- a value of four rationals that can be read -/
def Q4V (w : World) (q : Q4) (v : Value) : Prop :=
  ∃ (A0 : Option Addr) (c0 : Nat) (B0 : Option Addr) (d0 : Nat) (A1 : Option Addr) (c1 : Nat) (B1 : Option Addr) (d1 : Nat) (A2 : Option Addr) (c2 : Nat) (B2 : Option Addr) (d2 : Nat) (A3 : Option Addr) (c3 : Nat) (B3 : Option Addr) (d3 : Nat),
    v = .agg #[.bool (isNeg q.f), .slice A0 (D (nu q.f)).length c0, .slice B0 (D q.f.den).length d0, .bool (isNeg q.v), .slice A1 (D (nu q.v)).length c1, .slice B1 (D q.v.den).length d1, .bool (isNeg q.w), .slice A2 (D (nu q.w)).length c2, .slice B2 (D q.w.den).length d2, .bool (isNeg q.vw), .slice A3 (D (nu q.vw)).length c3, .slice B3 (D q.vw.den).length d3] ∧
    RdR w (fun _ => True) (D (nu q.f)) (D q.f.den) A0 c0 B0 d0 ∧ RdR w (fun _ => True) (D (nu q.v)) (D q.v.den) A1 c1 B1 d1 ∧ RdR w (fun _ => True) (D (nu q.w)) (D q.w.den) A2 c2 B2 d2 ∧ RdR w (fun _ => True) (D (nu q.vw)) (D q.vw.den) A3 c3 B3 d3
theorem Q4V.on {w w' : World} {q : Q4} {v : Value} (h : Q4V w q v) (hb : Below w.heap.size w w') : Q4V w' q v := by
  obtain ⟨A0, c0, B0, d0, A1, c1, B1, d1, A2, c2, B2, d2, A3, c3, B3, d3, e, h0, h1, h2, h3⟩ := h
  exact ⟨A0, c0, B0, d0, A1, c1, B1, d1, A2, c2, B2, d2, A3, c3, B3, d3, e, h0.on hb, h1.on hb, h2.on hb, h3.on hb⟩
end Nt
namespace Go.Proofs.YtifepoefeamboaaGreatDoor
open Go Go.RowKit Nt
/-- one of the model's jets -/
def Say4 (w : World) (q : Q4) (e : Ending) (w' : World) : Prop := ∃ v, e = .returned v ∧ Q4V w' q v ∧ Below w.heap.size w w'
theorem op_int (k : Int) (h0 : -1000000000 ≤ k) (h1 : k ≤ 1000000000) : Op0 87 k (isNeg (k : Rat)) (D (nu (k : Rat))) (D (k : Rat).den) := fun W => by
  have := l02Int_any k W h0 h1
  rwa [show mkRat k 1 = (k : Rat) from Rat.mkRat_one k] at this
theorem op_add (p q : Rat) (hp : lim p 3600) (hq : lim q 3600) : Op2 118 (isNeg p) (D (nu p)) (D p.den) (isNeg q) (D (nu q)) (D q.den) (isNeg (p + q)) (D (nu (p + q))) (D (p + q).den) :=
  fun A c B d A' c' B' d' W h h' => l02Add_any p q A B c d A' B' c' d' _ _ W h h' hp.1 hp.2 hq.1 hq.2
theorem op_sub (p q : Rat) (hp : lim p 3600) (hq : lim q 3600) : Op2 122 (isNeg p) (D (nu p)) (D p.den) (isNeg q) (D (nu q)) (D q.den) (isNeg (p - q)) (D (nu (p - q))) (D (p - q).den) :=
  fun A c B d A' c' B' d' W h h' => l02Sub_any p q A B c d A' B' c' d' _ _ W h h' hp.1 hp.2 hq.1 hq.2
theorem op_mul (p q : Rat) (hp : lim p 3600) (hq : lim q 3600) : Op2 120 (isNeg p) (D (nu p)) (D p.den) (isNeg q) (D (nu q)) (D q.den) (isNeg (p * q)) (D (nu (p * q))) (D (p * q).den) :=
  fun A c B d A' c' B' d' W h h' => l02Mul_any p q A B c d A' B' c' d' _ _ W h h' hp.1 hp.2 hq.1 hq.2
theorem op_div (p q : Rat) (hp : lim p 3600) (hq : lim q 3600) (h0 : 0 < nu q) : Op2 121 (isNeg p) (D (nu p)) (D p.den) (isNeg q) (D (nu q)) (D q.den) (isNeg (p / q)) (D (nu (p / q))) (D (p / q).den) :=
  fun A c B d A' c' B' d' W h h' => l02Div_any p q A B c d A' B' c' d' _ _ W h h' hp.1 hp.2 hq.1 hq.2 h0
theorem op_neg (p : Rat) (hp : lim p 16777216) : Op1 119 (isNeg p) (D (nu p)) (D p.den) (isNeg (-p)) (D (nu (-p))) (D (-p).den) := fun A c B d W h => by
  obtain ⟨e1, e2, e3⟩ := neg_parts p
  refine (l02Neg_any (isNeg p) A B _ c _ d W hp.1).mono ?_
  rintro e w' ⟨rfl, bb⟩
  rw [e1, e2, e3]
  exact ⟨A, c, B, d, rfl, h.on bb, bb⟩

set_option maxHeartbeats 1600000 in
theorem l06Add_any (a b : Q4) (va vb : Value) (w : World) (ha : Q4V w a va) (hb : Q4V w b vb) (la : lims a 3600) (lb : lims b 3600) : Calls Tryz.prog 88 #[va, vb] w (Say4 w (add4 a b)) := by
  obtain ⟨A0, c0, B0, d0, A1, c1, B1, d1, A2, c2, B2, d2, A3, c3, B3, d3, rfl, h0, h1, h2, h3⟩ := ha
  obtain ⟨A0', c0', B0', d0', A1', c1', B1', d1', A2', c2', B2', d2', A3', c3', B3', d3', rfl, h0', h1', h2', h3'⟩ := hb
  refine (l06Add_core _ _ _ A0 B0 c0 d0 _ _ _ A1 B1 c1 d1 _ _ _ A2 B2 c2 d2 _ _ _ A3 B3 c3 d3 _ _ _ A0' B0' c0' d0' _ _ _ A1' B1' c1' d1' _ _ _ A2' B2' c2' d2' _ _ _ A3' B3' c3' d3' _ _ _ _ _ _ _ _ _ _ _ _ w h0 h1 h2 h3 h0' h1' h2' h3'
    (Lib.hid (op_add _ _ la.1 lb.1)) (Lib.hid (op_add _ _ la.2.1 lb.2.1)) (Lib.hid (op_add _ _ la.2.2.1 lb.2.2.1)) (Lib.hid (op_add _ _ la.2.2.2 lb.2.2.2))).mono ?_
  rintro e w' ⟨E0, e0, F0, f0, E1, e1, F1, f1, E2, e2, F2, f2, E3, e3, F3, f3, rfl, r0, r1, r2, r3, bb⟩
  exact ⟨_, rfl, ⟨E0, e0, F0, f0, E1, e1, F1, f1, E2, e2, F2, f2, E3, e3, F3, f3, rfl, r0, r1, r2, r3⟩, bb⟩

set_option maxHeartbeats 1600000 in
theorem l06Neg_any (a : Q4) (va : Value) (w : World) (ha : Q4V w a va) (la : lims a 16777216) : Calls Tryz.prog 89 #[va] w (Say4 w (neg4 a)) := by
  obtain ⟨A0, c0, B0, d0, A1, c1, B1, d1, A2, c2, B2, d2, A3, c3, B3, d3, rfl, h0, h1, h2, h3⟩ := ha
  refine (l06Neg_core _ _ _ A0 B0 c0 d0 _ _ _ A1 B1 c1 d1 _ _ _ A2 B2 c2 d2 _ _ _ A3 B3 c3 d3 _ _ _ _ _ _ _ _ _ _ _ _ w h0 h1 h2 h3
    (Lib.hid (op_neg _ la.1)) (Lib.hid (op_neg _ la.2.1)) (Lib.hid (op_neg _ la.2.2.1)) (Lib.hid (op_neg _ la.2.2.2))).mono ?_
  rintro e w' ⟨E0, e0, F0, f0, E1, e1, F1, f1, E2, e2, F2, f2, E3, e3, F3, f3, rfl, r0, r1, r2, r3, bb⟩
  exact ⟨_, rfl, ⟨E0, e0, F0, f0, E1, e1, F1, f1, E2, e2, F2, f2, E3, e3, F3, f3, rfl, r0, r1, r2, r3⟩, bb⟩

set_option maxHeartbeats 3200000 in
theorem l06Mul_any (a b : Q4) (va vb : Value) (w : World) (k l : Nat) (ha : Q4V w a va) (hb : Q4V w b vb) (la : lims a k) (lb : lims b l) (hk : k + l ≤ 1700) : Calls Tryz.prog 90 #[va, vb] w (Say4 w (mul4 a b)) := by
  have ma : lims a 3600 := lims_mono la (by omega)
  have mb : lims b 3600 := lims_mono lb (by omega)
  have P : ∀ {p q : Rat}, lim p k → lim q l → lim (p * q) 1700 := fun h h' => lim_mono (lim_mul h h') hk
  have P' : ∀ {p q : Rat}, lim p k → lim q l → lim (p * q) 3600 := fun h h' => lim_mono (P h h') (by decide)
  have S : ∀ {p q : Rat}, lim p 1700 → lim q 1700 → lim (p + q) 3600 := fun h h' => lim_mono (lim_add h h') (by decide)
  obtain ⟨A0, c0, B0, d0, A1, c1, B1, d1, A2, c2, B2, d2, A3, c3, B3, d3, rfl, h0, h1, h2, h3⟩ := ha
  obtain ⟨A0', c0', B0', d0', A1', c1', B1', d1', A2', c2', B2', d2', A3', c3', B3', d3', rfl, h0', h1', h2', h3'⟩ := hb
  refine (l06Mul_core _ _ _ A0 B0 c0 d0 _ _ _ A1 B1 c1 d1 _ _ _ A2 B2 c2 d2 _ _ _ A3 B3 c3 d3 _ _ _ A0' B0' c0' d0' _ _ _ A1' B1' c1' d1' _ _ _ A2' B2' c2' d2' _ _ _ A3' B3' c3' d3' _ _ _ _ _ _ _ _ _ _ _ _ _ _ _ _ _ _ _ _ _ _ _ _ _ _ _ _ _ _ _ _ _ _ _ _ _ _ _ _ _ _ w h0 h1 h2 h3 h0' h1' h2' h3'
    (Lib.hid (op_mul _ _ ma.1 mb.1)) (Lib.hid (op_mul _ _ ma.2.1 mb.1)) (Lib.hid (op_mul _ _ ma.1 mb.2.1)) (Lib.hid (op_add _ _ (P' la.2.1 lb.1) (P' la.1 lb.2.1)))
    (Lib.hid (op_mul _ _ ma.2.2.1 mb.1)) (Lib.hid (op_mul _ _ ma.1 mb.2.2.1)) (Lib.hid (op_add _ _ (P' la.2.2.1 lb.1) (P' la.1 lb.2.2.1)))
    (Lib.hid (op_mul _ _ ma.2.2.2 mb.1)) (Lib.hid (op_mul _ _ ma.1 mb.2.2.2)) (Lib.hid (op_add _ _ (P' la.2.2.2 lb.1) (P' la.1 lb.2.2.2)))
    (Lib.hid (op_mul _ _ ma.2.1 mb.2.2.1)) (Lib.hid (op_mul _ _ ma.2.2.1 mb.2.1)) (Lib.hid (op_add _ _ (P' la.2.1 lb.2.2.1) (P' la.2.2.1 lb.2.1)))
    (Lib.hid (op_add _ _ (S (P la.2.2.2 lb.1) (P la.1 lb.2.2.2)) (S (P la.2.1 lb.2.2.1) (P la.2.2.1 lb.2.1))))).mono ?_
  rintro e w' ⟨E0, e0, F0, f0, E1, e1, F1, f1, E2, e2, F2, f2, E3, e3, F3, f3, rfl, r0, r1, r2, r3, bb⟩
  exact ⟨_, rfl, ⟨E0, e0, F0, f0, E1, e1, F1, f1, E2, e2, F2, f2, E3, e3, F3, f3, rfl, r0, r1, r2, r3⟩, bb⟩

set_option maxHeartbeats 1600000 in
theorem l06Const_any (q : Rat) (A B : Option Addr) (ca cb : Nat) (P : Nat → Prop) (w : World) (hr : RdR w P (D (nu q)) (D q.den) A ca B cb) : Calls Tryz.prog 86 #[.agg #[.bool (isNeg q), .slice A (D (nu q)).length ca, .slice B (D q.den).length cb]] w (Say4 w (con4 q)) := by
  have hz : Op0 87 0 (isNeg 0) (D (nu 0)) (D (0 : Rat).den) := op_int 0 (by decide) (by decide)
  refine (l06Const_core _ _ _ A B ca cb _ _ _ _ _ _ _ _ _ w (hr.mono fun _ _ _ => trivial) (Lib.hid hz) (Lib.hid hz) (Lib.hid hz)).mono ?_
  rintro e w' ⟨E0, e0, F0, f0, E1, e1, F1, f1, E2, e2, F2, f2, E3, e3, F3, f3, rfl, r0, r1, r2, r3, bb⟩
  exact ⟨_, rfl, ⟨E0, e0, F0, f0, E1, e1, F1, f1, E2, e2, F2, f2, E3, e3, F3, f3, rfl, r0, r1, r2, r3⟩, bb⟩

set_option maxHeartbeats 3200000 in
theorem l06Over_any (a : Q4) (va : Value) (w : World) (ha : Q4V w a va) (la : lims a 40) (h0' : 0 < nu a.f) : Calls Tryz.prog 92 #[va] w (Say4 w (over4 a)) := by
  have hi : lim (1 / a.f) 40 := by rw [Rat.div_def, Rat.one_mul]; exact lim_inv la.1 (by omega)
  have hone : Op0 87 1 (isNeg 1) (D (nu 1)) (D (1 : Rat).den) := op_int 1 (by decide) (by decide)
  have htwo : Op0 87 2 (isNeg 2) (D (nu 2)) (D (2 : Rat).den) := op_int 2 (by decide) (by decide)
  have l1 : lim (1 : Rat) 3600 := lim_mono lim_one (by decide)
  have l2 : lim (2 : Rat) 3600 := lim_mono lim_two (by decide)
  have B : ∀ {p : Rat} {k : Nat}, lim p k → k ≤ 3600 → lim p 3600 := fun h hk => lim_mono h hk
  have hs := lim_mul hi hi
  have hm := lim_mul hs hi
  have ht := lim_mul lim_two hm
  have hga := lim_mul la.2.1 hs
  have hgc := lim_mul la.2.2.1 hs
  have hge := lim_mul la.2.1 la.2.2.1
  have hgf := lim_mul ht hge
  have hgg := lim_mul la.2.2.2 hs
  obtain ⟨A0, c0, B0, d0, A1, c1, B1, d1, A2, c2, B2, d2, A3, c3, B3, d3, rfl, h0, h1, h2, h3⟩ := ha
  refine (l06Over_core _ _ _ A0 B0 c0 d0 _ _ _ A1 B1 c1 d1 _ _ _ A2 B2 c2 d2 _ _ _ A3 B3 c3 d3 _ _ _ _ _ _ _ _ _ _ _ _ _ _ _ _ _ _ _ _ _ _ _ _ _ _ _ _ _ _ _ _ _ _ _ _ _ _ _ _ _ _ w h0 h1 h2 h3
    (Lib.hid hone) (Lib.hid (op_div _ _ l1 (B la.1 (by decide)) h0')) (Lib.hid (op_mul _ _ (B hi (by decide)) (B hi (by decide)))) (Lib.hid htwo) (Lib.hid (op_mul _ _ (B hs (by decide)) (B hi (by decide)))) (Lib.hid (op_mul _ _ l2 (B hm (by decide))))
    (Lib.hid (op_mul _ _ (B la.2.1 (by decide)) (B hs (by decide)))) (Lib.hid (op_neg _ (lim_mono hga (by decide)))) (Lib.hid (op_mul _ _ (B la.2.2.1 (by decide)) (B hs (by decide)))) (Lib.hid (op_neg _ (lim_mono hgc (by decide))))
    (Lib.hid (op_mul _ _ (B la.2.1 (by decide)) (B la.2.2.1 (by decide)))) (Lib.hid (op_mul _ _ (B ht (by decide)) (B hge (by decide)))) (Lib.hid (op_mul _ _ (B la.2.2.2 (by decide)) (B hs (by decide)))) (Lib.hid (op_sub _ _ (B hgf (by decide)) (B hgg (by decide))))).mono ?_
  rintro e w' ⟨E0, e0, F0, f0, E1, e1, F1, f1, E2, e2, F2, f2, E3, e3, F3, f3, rfl, r0, r1, r2, r3, bb⟩
  exact ⟨_, rfl, ⟨E0, e0, F0, f0, E1, e1, F1, f1, E2, e2, F2, f2, E3, e3, F3, f3, rfl, r0, r1, r2, r3⟩, bb⟩

set_option maxHeartbeats 3200000 in
/-- whether none of its numbers is too long -/
theorem l06Fits_any (a : Q4) (va : Value) (w : World) (ha : Q4V w a va) (la : lims a 16777216) : Calls Tryz.prog 93 #[va] w fun e w' => e = .returned (.bool (decide (fit4 a))) ∧ Below w.heap.size w w' := by
  have F : ∀ (q : Rat) (A B : Option Addr) (ca cb : Nat) (W : World), lim q 16777216 → Calls Tryz.prog 123 #[.agg #[.bool (isNeg q), .slice A (D (nu q)).length ca, .slice B (D q.den).length cb]] W fun e w' => e = .returned (.bool (decide (fitQ q))) ∧ Below W.heap.size W w' := by
    intro q A B ca cb W hl
    by_cases h : fitQ q
    · rw [decide_eq_true h]; exact l02Fits_yes _ A B _ ca _ cb W h.1 h.2
    · rw [decide_eq_false h]; exact l02Fits_no _ A B _ ca _ cb W hl.1 hl.2 (by unfold fitQ at h; omega)
  have e4 : decide (fit4 a) = (decide (fitQ a.f) && (decide (fitQ a.v) && (decide (fitQ a.w) && decide (fitQ a.vw)))) := by
    rw [Bool.eq_iff_iff]
    simp only [Bool.and_eq_true, decide_eq_true_eq]
    exact Iff.rfl
  have HE := Lib.hid e4
  obtain ⟨A0, c0, B0, d0, A1, c1, B1, d1, A2, c2, B2, d2, A3, c3, B3, d3, rfl, -, -, -, -⟩ := ha
  have G0 := Lib.hid (fun W => F a.f A0 B0 c0 d0 W la.1)
  have G1 := Lib.hid (fun W => F a.v A1 B1 c1 d1 W la.2.1)
  have G2 := Lib.hid (fun W => F a.w A2 B2 c2 d2 W la.2.2.1)
  have G3 := Lib.hid (fun W => F a.vw A3 B3 c3 d3 W la.2.2.2)
  clear F e4 la
  generalize decide (fit4 a) = R at *
  generalize decide (fitQ a.f) = p0 at *
  generalize decide (fitQ a.v) = p1 at *
  generalize decide (fitQ a.w) = p2 at *
  generalize decide (fitQ a.vw) = p3 at *
  generalize isNeg a.f = n0 at *
  generalize isNeg a.v = n1 at *
  generalize isNeg a.w = n2 at *
  generalize isNeg a.vw = n3 at *
  generalize (D (nu a.f)).length = x0 at *
  generalize (D (nu a.v)).length = x1 at *
  generalize (D (nu a.w)).length = x2 at *
  generalize (D (nu a.vw)).length = x3 at *
  generalize (D a.f.den).length = y0 at *
  generalize (D a.v.den).length = y1 at *
  generalize (D a.w.den).length = y2 at *
  generalize (D a.vw.den).length = y3 at *
  go_enter Tryz.func93, Tryz.ntmps93
  go_upto_region 1 with fail
  refine wp_at (fun v0 => Below w.heap.size w v0 ∧ Q4At v0 w.heap.size 84 (.bool n0) (.slice A0 x0 c0) (.slice B0 y0 d0) (.bool n1) (.slice A1 x1 c1) (.slice B1 y1 d1) (.bool n2) (.slice A2 x2 c2) (.slice B2 y2 d2) (.bool n3) (.slice A3 x3 c3) (.slice B3 y3 d3)) ⟨below1 _ _, Q4At.new _ _ _ _ _ _ _ _ _ _ _ _ _ _⟩ ?_
  rintro v0 ⟨hb, r0⟩
  have HB0 := Lib.hid hb
  have HQ0 := Lib.hid r0
  have a0 := r0.c0
  have a1 := r0.c1
  have a2 := r0.c2
  clear hb r0
  go_wp2_with fail
  refine (G0.out v0).mono ?_
  rintro e w1 ⟨rfl, bb⟩
  have HB1 := Lib.hid (below_on HB0.out bb)
  have HQ1 := Lib.hid (HQ0.out.on bb)
  clear bb a0 a1 a2
  cases p0 with
  | false =>
    go_wp2
    exact bodyPost_ret (results_tmp rfl _ _ _) rfl ⟨by rw [HE.out]; rfl, HB1.out⟩
  | true =>
  have a3 := HQ1.out.c3
  have a4 := HQ1.out.c4
  have a5 := HQ1.out.c5
  go_wp2_with fail
  refine (G1.out w1).mono ?_
  rintro e w2 ⟨rfl, bb⟩
  have HB2 := Lib.hid (below_on HB1.out bb)
  have HQ2 := Lib.hid (HQ1.out.on bb)
  clear bb a3 a4 a5
  cases p1 with
  | false =>
    go_wp2
    exact bodyPost_ret (results_tmp rfl _ _ _) rfl ⟨by rw [HE.out]; rfl, HB2.out⟩
  | true =>
  have a6 := HQ2.out.c6
  have a7 := HQ2.out.c7
  have a8 := HQ2.out.c8
  go_wp2_with fail
  refine (G2.out w2).mono ?_
  rintro e w3 ⟨rfl, bb⟩
  have HB3 := Lib.hid (below_on HB2.out bb)
  have HQ3 := Lib.hid (HQ2.out.on bb)
  clear bb a6 a7 a8
  cases p2 with
  | false =>
    go_wp2
    exact bodyPost_ret (results_tmp rfl _ _ _) rfl ⟨by rw [HE.out]; rfl, HB3.out⟩
  | true =>
  have a9 := HQ3.out.c9
  have aa := HQ3.out.c10
  have ab := HQ3.out.c11
  go_wp2_with fail
  refine (G3.out w3).mono ?_
  rintro e w4 ⟨rfl, bb⟩
  have HB4 := Lib.hid (below_on HB3.out bb)
  clear bb a9 aa ab
  go_wp2
  exact bodyPost_ret (results_tmp rfl _ _ _) rfl ⟨by rw [HE.out]; simp, HB4.out⟩
end Go.Proofs.YtifepoefeamboaaGreatDoor
