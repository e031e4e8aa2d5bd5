/-
  SpecQuad3 QuadRow SpecAsk ImplValueOf ImplPlaceW in one text.
-/
import Derived.Test.YtifepoefeamboaaGreatDoorSpecQuad2
import Derived.Test.YtifepoefeamboaaGreatDoorGrpE
import Derived.Test.YtifepoefeamboaaGreatDoorGrpH
import Derived.Test.YtifepoefeamboaaGreatDoorJoD
import Derived.Test.YtifepoefeamboaaGreatDoorGrpF
import Derived.Test.YtifepoefeamboaaGreatDoorJoC
import Derived.Test.YtifepoefeamboaaGreatDoorGrpD
namespace Nt
open Go Go.RowKit
def lims (q : Q4) (k : Nat) : Prop := lim q.f k ∧ lim q.v k ∧ lim q.w k ∧ lim q.vw k
theorem lims_mono {q : Q4} {k l : Nat} (h : lims q k) (hl : k ≤ l) : lims q l := ⟨lim_mono h.1 hl, lim_mono h.2.1 hl, lim_mono h.2.2.1 hl, lim_mono h.2.2.2 hl⟩
/-- a value of four rationals that can be read -/
def Q4V (w : World) (q : Q4) (v : Value) : Prop :=
  ∃ (A0 : Option Addr) (c0 : Nat) (B0 : Option Addr) (d0 : Nat) (A1 : Option Addr) (c1 : Nat) (B1 : Option Addr) (d1 : Nat) (A2 : Option Addr) (c2 : Nat) (B2 : Option Addr) (d2 : Nat) (A3 : Option Addr) (c3 : Nat) (B3 : Option Addr) (d3 : Nat),
    v = .agg #[.bool (isNeg q.f), .slice A0 (D (nu q.f)).length c0, .slice B0 (D q.f.den).length d0, .bool (isNeg q.v), .slice A1 (D (nu q.v)).length c1, .slice B1 (D q.v.den).length d1, .bool (isNeg q.w), .slice A2 (D (nu q.w)).length c2, .slice B2 (D q.w.den).length d2, .bool (isNeg q.vw), .slice A3 (D (nu q.vw)).length c3, .slice B3 (D q.vw.den).length d3] ∧
    RdR w (fun _ => True) (D (nu q.f)) (D q.f.den) A0 c0 B0 d0 ∧ RdR w (fun _ => True) (D (nu q.v)) (D q.v.den) A1 c1 B1 d1 ∧ RdR w (fun _ => True) (D (nu q.w)) (D q.w.den) A2 c2 B2 d2 ∧ RdR w (fun _ => True) (D (nu q.vw)) (D q.vw.den) A3 c3 B3 d3
theorem Q4V.on {w w' : World} {q : Q4} {v : Value} (h : Q4V w q v) (hb : Below w.heap.size w w') : Q4V w' q v := by
  obtain ⟨A0, c0, B0, d0, A1, c1, B1, d1, A2, c2, B2, d2, A3, c3, B3, d3, e, h0, h1, h2, h3⟩ := h
  exact ⟨A0, c0, B0, d0, A1, c1, B1, d1, A2, c2, B2, d2, A3, c3, B3, d3, e, h0.on hb, h1.on hb, h2.on hb, h3.on hb⟩
end Nt
namespace Go.Proofs.YtifepoefeamboaaGreatDoor
open Go Go.RowKit Nt
/-- one of the model's jets -/
def Say4 (w : World) (q : Q4) (e : Ending) (w' : World) : Prop := ∃ v, e = .returned v ∧ Q4V w' q v ∧ Below w.heap.size w w'
theorem op_int (k : Int) (h0 : -1000000000 ≤ k) (h1 : k ≤ 1000000000) : Op0 87 k (isNeg (k : Rat)) (D (nu (k : Rat))) (D (k : Rat).den) := fun W => by
  have := l02Int_any k W h0 h1
  rwa [show mkRat k 1 = (k : Rat) from Rat.mkRat_one k] at this
theorem op_add (p q : Rat) (hp : lim p 3600) (hq : lim q 3600) : Op2 118 (isNeg p) (D (nu p)) (D p.den) (isNeg q) (D (nu q)) (D q.den) (isNeg (p + q)) (D (nu (p + q))) (D (p + q).den) :=
  fun A c B d A' c' B' d' W h h' => l02Add_any p q A B c d A' B' c' d' _ _ W h h' hp.1 hp.2 hq.1 hq.2
theorem op_sub (p q : Rat) (hp : lim p 3600) (hq : lim q 3600) : Op2 122 (isNeg p) (D (nu p)) (D p.den) (isNeg q) (D (nu q)) (D q.den) (isNeg (p - q)) (D (nu (p - q))) (D (p - q).den) :=
  fun A c B d A' c' B' d' W h h' => l02Sub_any p q A B c d A' B' c' d' _ _ W h h' hp.1 hp.2 hq.1 hq.2
theorem op_mul (p q : Rat) (hp : lim p 3600) (hq : lim q 3600) : Op2 120 (isNeg p) (D (nu p)) (D p.den) (isNeg q) (D (nu q)) (D q.den) (isNeg (p * q)) (D (nu (p * q))) (D (p * q).den) :=
  fun A c B d A' c' B' d' W h h' => l02Mul_any p q A B c d A' B' c' d' _ _ W h h' hp.1 hp.2 hq.1 hq.2
theorem op_div (p q : Rat) (hp : lim p 3600) (hq : lim q 3600) (h0 : 0 < nu q) : Op2 121 (isNeg p) (D (nu p)) (D p.den) (isNeg q) (D (nu q)) (D q.den) (isNeg (p / q)) (D (nu (p / q))) (D (p / q).den) :=
  fun A c B d A' c' B' d' W h h' => l02Div_any p q A B c d A' B' c' d' _ _ W h h' hp.1 hp.2 hq.1 hq.2 h0
theorem op_neg (p : Rat) (hp : lim p 16777216) : Op1 119 (isNeg p) (D (nu p)) (D p.den) (isNeg (-p)) (D (nu (-p))) (D (-p).den) := fun A c B d W h => by
  obtain ⟨e1, e2, e3⟩ := neg_parts p
  refine (l02Neg_any (isNeg p) A B _ c _ d W hp.1).mono ?_
  rintro e w' ⟨rfl, bb⟩
  rw [e1, e2, e3]
  exact ⟨A, c, B, d, rfl, h.on bb, bb⟩

set_option maxHeartbeats 1600000 in
theorem l06Add_any (a b : Q4) (va vb : Value) (w : World) (ha : Q4V w a va) (hb : Q4V w b vb) (la : lims a 3600) (lb : lims b 3600) : Calls Tryz.prog 88 #[va, vb] w (Say4 w (add4 a b)) := by
  obtain ⟨A0, c0, B0, d0, A1, c1, B1, d1, A2, c2, B2, d2, A3, c3, B3, d3, rfl, h0, h1, h2, h3⟩ := ha
  obtain ⟨A0', c0', B0', d0', A1', c1', B1', d1', A2', c2', B2', d2', A3', c3', B3', d3', rfl, h0', h1', h2', h3'⟩ := hb
  refine (l06Add_core _ _ _ A0 B0 c0 d0 _ _ _ A1 B1 c1 d1 _ _ _ A2 B2 c2 d2 _ _ _ A3 B3 c3 d3 _ _ _ A0' B0' c0' d0' _ _ _ A1' B1' c1' d1' _ _ _ A2' B2' c2' d2' _ _ _ A3' B3' c3' d3' _ _ _ _ _ _ _ _ _ _ _ _ w h0 h1 h2 h3 h0' h1' h2' h3'
    (Lib.hid (op_add _ _ la.1 lb.1)) (Lib.hid (op_add _ _ la.2.1 lb.2.1)) (Lib.hid (op_add _ _ la.2.2.1 lb.2.2.1)) (Lib.hid (op_add _ _ la.2.2.2 lb.2.2.2))).mono ?_
  rintro e w' ⟨E0, e0, F0, f0, E1, e1, F1, f1, E2, e2, F2, f2, E3, e3, F3, f3, rfl, r0, r1, r2, r3, bb⟩
  exact ⟨_, rfl, ⟨E0, e0, F0, f0, E1, e1, F1, f1, E2, e2, F2, f2, E3, e3, F3, f3, rfl, r0, r1, r2, r3⟩, bb⟩

set_option maxHeartbeats 1600000 in
theorem l06Neg_any (a : Q4) (va : Value) (w : World) (ha : Q4V w a va) (la : lims a 16777216) : Calls Tryz.prog 89 #[va] w (Say4 w (neg4 a)) := by
  obtain ⟨A0, c0, B0, d0, A1, c1, B1, d1, A2, c2, B2, d2, A3, c3, B3, d3, rfl, h0, h1, h2, h3⟩ := ha
  refine (l06Neg_core _ _ _ A0 B0 c0 d0 _ _ _ A1 B1 c1 d1 _ _ _ A2 B2 c2 d2 _ _ _ A3 B3 c3 d3 _ _ _ _ _ _ _ _ _ _ _ _ w h0 h1 h2 h3
    (Lib.hid (op_neg _ la.1)) (Lib.hid (op_neg _ la.2.1)) (Lib.hid (op_neg _ la.2.2.1)) (Lib.hid (op_neg _ la.2.2.2))).mono ?_
  rintro e w' ⟨E0, e0, F0, f0, E1, e1, F1, f1, E2, e2, F2, f2, E3, e3, F3, f3, rfl, r0, r1, r2, r3, bb⟩
  exact ⟨_, rfl, ⟨E0, e0, F0, f0, E1, e1, F1, f1, E2, e2, F2, f2, E3, e3, F3, f3, rfl, r0, r1, r2, r3⟩, bb⟩

set_option maxHeartbeats 3200000 in
theorem l06Mul_any (a b : Q4) (va vb : Value) (w : World) (k l : Nat) (ha : Q4V w a va) (hb : Q4V w b vb) (la : lims a k) (lb : lims b l) (hk : k + l ≤ 1700) : Calls Tryz.prog 90 #[va, vb] w (Say4 w (mul4 a b)) := by
  have ma : lims a 3600 := lims_mono la (by omega)
  have mb : lims b 3600 := lims_mono lb (by omega)
  have P : ∀ {p q : Rat}, lim p k → lim q l → lim (p * q) 1700 := fun h h' => lim_mono (lim_mul h h') hk
  have P' : ∀ {p q : Rat}, lim p k → lim q l → lim (p * q) 3600 := fun h h' => lim_mono (P h h') (by decide)
  have S : ∀ {p q : Rat}, lim p 1700 → lim q 1700 → lim (p + q) 3600 := fun h h' => lim_mono (lim_add h h') (by decide)
  obtain ⟨A0, c0, B0, d0, A1, c1, B1, d1, A2, c2, B2, d2, A3, c3, B3, d3, rfl, h0, h1, h2, h3⟩ := ha
  obtain ⟨A0', c0', B0', d0', A1', c1', B1', d1', A2', c2', B2', d2', A3', c3', B3', d3', rfl, h0', h1', h2', h3'⟩ := hb
  refine (l06Mul_core _ _ _ A0 B0 c0 d0 _ _ _ A1 B1 c1 d1 _ _ _ A2 B2 c2 d2 _ _ _ A3 B3 c3 d3 _ _ _ A0' B0' c0' d0' _ _ _ A1' B1' c1' d1' _ _ _ A2' B2' c2' d2' _ _ _ A3' B3' c3' d3' _ _ _ _ _ _ _ _ _ _ _ _ _ _ _ _ _ _ _ _ _ _ _ _ _ _ _ _ _ _ _ _ _ _ _ _ _ _ _ _ _ _ w h0 h1 h2 h3 h0' h1' h2' h3'
    (Lib.hid (op_mul _ _ ma.1 mb.1)) (Lib.hid (op_mul _ _ ma.2.1 mb.1)) (Lib.hid (op_mul _ _ ma.1 mb.2.1)) (Lib.hid (op_add _ _ (P' la.2.1 lb.1) (P' la.1 lb.2.1)))
    (Lib.hid (op_mul _ _ ma.2.2.1 mb.1)) (Lib.hid (op_mul _ _ ma.1 mb.2.2.1)) (Lib.hid (op_add _ _ (P' la.2.2.1 lb.1) (P' la.1 lb.2.2.1)))
    (Lib.hid (op_mul _ _ ma.2.2.2 mb.1)) (Lib.hid (op_mul _ _ ma.1 mb.2.2.2)) (Lib.hid (op_add _ _ (P' la.2.2.2 lb.1) (P' la.1 lb.2.2.2)))
    (Lib.hid (op_mul _ _ ma.2.1 mb.2.2.1)) (Lib.hid (op_mul _ _ ma.2.2.1 mb.2.1)) (Lib.hid (op_add _ _ (P' la.2.1 lb.2.2.1) (P' la.2.2.1 lb.2.1)))
    (Lib.hid (op_add _ _ (S (P la.2.2.2 lb.1) (P la.1 lb.2.2.2)) (S (P la.2.1 lb.2.2.1) (P la.2.2.1 lb.2.1))))).mono ?_
  rintro e w' ⟨E0, e0, F0, f0, E1, e1, F1, f1, E2, e2, F2, f2, E3, e3, F3, f3, rfl, r0, r1, r2, r3, bb⟩
  exact ⟨_, rfl, ⟨E0, e0, F0, f0, E1, e1, F1, f1, E2, e2, F2, f2, E3, e3, F3, f3, rfl, r0, r1, r2, r3⟩, bb⟩

set_option maxHeartbeats 1600000 in
theorem l06Const_any (q : Rat) (A B : Option Addr) (ca cb : Nat) (P : Nat → Prop) (w : World) (hr : RdR w P (D (nu q)) (D q.den) A ca B cb) : Calls Tryz.prog 86 #[.agg #[.bool (isNeg q), .slice A (D (nu q)).length ca, .slice B (D q.den).length cb]] w (Say4 w (con4 q)) := by
  have hz : Op0 87 0 (isNeg 0) (D (nu 0)) (D (0 : Rat).den) := op_int 0 (by decide) (by decide)
  refine (l06Const_core _ _ _ A B ca cb _ _ _ _ _ _ _ _ _ w (hr.mono fun _ _ _ => trivial) (Lib.hid hz) (Lib.hid hz) (Lib.hid hz)).mono ?_
  rintro e w' ⟨E0, e0, F0, f0, E1, e1, F1, f1, E2, e2, F2, f2, E3, e3, F3, f3, rfl, r0, r1, r2, r3, bb⟩
  exact ⟨_, rfl, ⟨E0, e0, F0, f0, E1, e1, F1, f1, E2, e2, F2, f2, E3, e3, F3, f3, rfl, r0, r1, r2, r3⟩, bb⟩

set_option maxHeartbeats 3200000 in
theorem l06Over_any (a : Q4) (va : Value) (w : World) (ha : Q4V w a va) (la : lims a 40) (h0' : 0 < nu a.f) : Calls Tryz.prog 92 #[va] w (Say4 w (over4 a)) := by
  have hi : lim (1 / a.f) 40 := by rw [Rat.div_def, Rat.one_mul]; exact lim_inv la.1 (by omega)
  have hone : Op0 87 1 (isNeg 1) (D (nu 1)) (D (1 : Rat).den) := op_int 1 (by decide) (by decide)
  have htwo : Op0 87 2 (isNeg 2) (D (nu 2)) (D (2 : Rat).den) := op_int 2 (by decide) (by decide)
  have l1 : lim (1 : Rat) 3600 := lim_mono lim_one (by decide)
  have l2 : lim (2 : Rat) 3600 := lim_mono lim_two (by decide)
  have B : ∀ {p : Rat} {k : Nat}, lim p k → k ≤ 3600 → lim p 3600 := fun h hk => lim_mono h hk
  have hs := lim_mul hi hi
  have hm := lim_mul hs hi
  have ht := lim_mul lim_two hm
  have hga := lim_mul la.2.1 hs
  have hgc := lim_mul la.2.2.1 hs
  have hge := lim_mul la.2.1 la.2.2.1
  have hgf := lim_mul ht hge
  have hgg := lim_mul la.2.2.2 hs
  obtain ⟨A0, c0, B0, d0, A1, c1, B1, d1, A2, c2, B2, d2, A3, c3, B3, d3, rfl, h0, h1, h2, h3⟩ := ha
  refine (l06Over_core _ _ _ A0 B0 c0 d0 _ _ _ A1 B1 c1 d1 _ _ _ A2 B2 c2 d2 _ _ _ A3 B3 c3 d3 _ _ _ _ _ _ _ _ _ _ _ _ _ _ _ _ _ _ _ _ _ _ _ _ _ _ _ _ _ _ _ _ _ _ _ _ _ _ _ _ _ _ w h0 h1 h2 h3
    (Lib.hid hone) (Lib.hid (op_div _ _ l1 (B la.1 (by decide)) h0')) (Lib.hid (op_mul _ _ (B hi (by decide)) (B hi (by decide)))) (Lib.hid htwo) (Lib.hid (op_mul _ _ (B hs (by decide)) (B hi (by decide)))) (Lib.hid (op_mul _ _ l2 (B hm (by decide))))
    (Lib.hid (op_mul _ _ (B la.2.1 (by decide)) (B hs (by decide)))) (Lib.hid (op_neg _ (lim_mono hga (by decide)))) (Lib.hid (op_mul _ _ (B la.2.2.1 (by decide)) (B hs (by decide)))) (Lib.hid (op_neg _ (lim_mono hgc (by decide))))
    (Lib.hid (op_mul _ _ (B la.2.1 (by decide)) (B la.2.2.1 (by decide)))) (Lib.hid (op_mul _ _ (B ht (by decide)) (B hge (by decide)))) (Lib.hid (op_mul _ _ (B la.2.2.2 (by decide)) (B hs (by decide)))) (Lib.hid (op_sub _ _ (B hgf (by decide)) (B hgg (by decide))))).mono ?_
  rintro e w' ⟨E0, e0, F0, f0, E1, e1, F1, f1, E2, e2, F2, f2, E3, e3, F3, f3, rfl, r0, r1, r2, r3, bb⟩
  exact ⟨_, rfl, ⟨E0, e0, F0, f0, E1, e1, F1, f1, E2, e2, F2, f2, E3, e3, F3, f3, rfl, r0, r1, r2, r3⟩, bb⟩

set_option maxHeartbeats 3200000 in
/-- whether none of its numbers is too long -/
theorem l06Fits_any (a : Q4) (va : Value) (w : World) (ha : Q4V w a va) (la : lims a 16777216) : Calls Tryz.prog 93 #[va] w fun e w' => e = .returned (.bool (decide (fit4 a))) ∧ Below w.heap.size w w' := by
  have F : ∀ (q : Rat) (A B : Option Addr) (ca cb : Nat) (W : World), lim q 16777216 → Calls Tryz.prog 123 #[.agg #[.bool (isNeg q), .slice A (D (nu q)).length ca, .slice B (D q.den).length cb]] W fun e w' => e = .returned (.bool (decide (fitQ q))) ∧ Below W.heap.size W w' := by
    intro q A B ca cb W hl
    by_cases h : fitQ q
    · rw [decide_eq_true h]; exact l02Fits_yes _ A B _ ca _ cb W h.1 h.2
    · rw [decide_eq_false h]; exact l02Fits_no _ A B _ ca _ cb W hl.1 hl.2 (by unfold fitQ at h; omega)
  have e4 : decide (fit4 a) = (decide (fitQ a.f) && (decide (fitQ a.v) && (decide (fitQ a.w) && decide (fitQ a.vw)))) := by
    rw [Bool.eq_iff_iff]
    simp only [Bool.and_eq_true, decide_eq_true_eq]
    exact Iff.rfl
  have HE := Lib.hid e4
  obtain ⟨A0, c0, B0, d0, A1, c1, B1, d1, A2, c2, B2, d2, A3, c3, B3, d3, rfl, -, -, -, -⟩ := ha
  have G0 := Lib.hid (fun W => F a.f A0 B0 c0 d0 W la.1)
  have G1 := Lib.hid (fun W => F a.v A1 B1 c1 d1 W la.2.1)
  have G2 := Lib.hid (fun W => F a.w A2 B2 c2 d2 W la.2.2.1)
  have G3 := Lib.hid (fun W => F a.vw A3 B3 c3 d3 W la.2.2.2)
  clear F e4 la
  generalize decide (fit4 a) = R at *
  generalize decide (fitQ a.f) = p0 at *
  generalize decide (fitQ a.v) = p1 at *
  generalize decide (fitQ a.w) = p2 at *
  generalize decide (fitQ a.vw) = p3 at *
  generalize isNeg a.f = n0 at *
  generalize isNeg a.v = n1 at *
  generalize isNeg a.w = n2 at *
  generalize isNeg a.vw = n3 at *
  generalize (D (nu a.f)).length = x0 at *
  generalize (D (nu a.v)).length = x1 at *
  generalize (D (nu a.w)).length = x2 at *
  generalize (D (nu a.vw)).length = x3 at *
  generalize (D a.f.den).length = y0 at *
  generalize (D a.v.den).length = y1 at *
  generalize (D a.w.den).length = y2 at *
  generalize (D a.vw.den).length = y3 at *
  go_enter Tryz.func93, Tryz.ntmps93
  go_upto_region 1 with fail
  refine wp_at (fun v0 => Below w.heap.size w v0 ∧ Q4At v0 w.heap.size 84 (.bool n0) (.slice A0 x0 c0) (.slice B0 y0 d0) (.bool n1) (.slice A1 x1 c1) (.slice B1 y1 d1) (.bool n2) (.slice A2 x2 c2) (.slice B2 y2 d2) (.bool n3) (.slice A3 x3 c3) (.slice B3 y3 d3)) ⟨below1 _ _, Q4At.new _ _ _ _ _ _ _ _ _ _ _ _ _ _⟩ ?_
  rintro v0 ⟨hb, r0⟩
  have HB0 := Lib.hid hb
  have HQ0 := Lib.hid r0
  have a0 := r0.c0
  have a1 := r0.c1
  have a2 := r0.c2
  clear hb r0
  go_wp2_with fail
  refine (G0.out v0).mono ?_
  rintro e w1 ⟨rfl, bb⟩
  have HB1 := Lib.hid (below_on HB0.out bb)
  have HQ1 := Lib.hid (HQ0.out.on bb)
  clear bb a0 a1 a2
  cases p0 with
  | false =>
    go_wp2
    exact bodyPost_ret (results_tmp rfl _ _ _) rfl ⟨by rw [HE.out]; rfl, HB1.out⟩
  | true =>
  have a3 := HQ1.out.c3
  have a4 := HQ1.out.c4
  have a5 := HQ1.out.c5
  go_wp2_with fail
  refine (G1.out w1).mono ?_
  rintro e w2 ⟨rfl, bb⟩
  have HB2 := Lib.hid (below_on HB1.out bb)
  have HQ2 := Lib.hid (HQ1.out.on bb)
  clear bb a3 a4 a5
  cases p1 with
  | false =>
    go_wp2
    exact bodyPost_ret (results_tmp rfl _ _ _) rfl ⟨by rw [HE.out]; rfl, HB2.out⟩
  | true =>
  have a6 := HQ2.out.c6
  have a7 := HQ2.out.c7
  have a8 := HQ2.out.c8
  go_wp2_with fail
  refine (G2.out w2).mono ?_
  rintro e w3 ⟨rfl, bb⟩
  have HB3 := Lib.hid (below_on HB2.out bb)
  have HQ3 := Lib.hid (HQ2.out.on bb)
  clear bb a6 a7 a8
  cases p2 with
  | false =>
    go_wp2
    exact bodyPost_ret (results_tmp rfl _ _ _) rfl ⟨by rw [HE.out]; rfl, HB3.out⟩
  | true =>
  have a9 := HQ3.out.c9
  have aa := HQ3.out.c10
  have ab := HQ3.out.c11
  go_wp2_with fail
  refine (G3.out w3).mono ?_
  rintro e w4 ⟨rfl, bb⟩
  have HB4 := Lib.hid (below_on HB3.out bb)
  clear bb a9 aa ab
  go_wp2
  exact bodyPost_ret (results_tmp rfl _ _ _) rfl ⟨by rw [HE.out]; simp, HB4.out⟩
end Go.Proofs.YtifepoefeamboaaGreatDoor
namespace Nt
open Go Go.RowKit
/-- twelve values are a jet's, its numbers where P says -/
def Q4L (w : World) (P : Nat → Prop) (q : Q4) (l : List Value) : Prop := ∃ (A0 : Option Addr) (c0 : Nat) (B0 : Option Addr) (d0 : Nat) (A1 : Option Addr) (c1 : Nat) (B1 : Option Addr) (d1 : Nat) (A2 : Option Addr) (c2 : Nat) (B2 : Option Addr) (d2 : Nat) (A3 : Option Addr) (c3 : Nat) (B3 : Option Addr) (d3 : Nat), l = [.bool (isNeg q.f), .slice A0 (D (nu q.f)).length c0, .slice B0 (D q.f.den).length d0, .bool (isNeg q.v), .slice A1 (D (nu q.v)).length c1, .slice B1 (D q.v.den).length d1, .bool (isNeg q.w), .slice A2 (D (nu q.w)).length c2, .slice B2 (D q.w.den).length d2, .bool (isNeg q.vw), .slice A3 (D (nu q.vw)).length c3, .slice B3 (D q.vw.den).length d3] ∧ RdR w P (D (nu q.f)) (D q.f.den) A0 c0 B0 d0 ∧ RdR w P (D (nu q.v)) (D q.v.den) A1 c1 B1 d1 ∧ RdR w P (D (nu q.w)) (D q.w.den) A2 c2 B2 d2 ∧ RdR w P (D (nu q.vw)) (D q.vw.den) A3 c3 B3 d3
theorem Q4L.on {w w' : World} {P : Nat → Prop} {q : Q4} {l : List Value} (h : Q4L w P q l) (hb : Below w.heap.size w w') : Q4L w' P q l := by
  obtain ⟨A0, c0, B0, d0, A1, c1, B1, d1, A2, c2, B2, d2, A3, c3, B3, d3, e, h0, h1, h2, h3⟩ := h
  exact ⟨A0, c0, B0, d0, A1, c1, B1, d1, A2, c2, B2, d2, A3, c3, B3, d3, e, h0.on hb, h1.on hb, h2.on hb, h3.on hb⟩
theorem Q4L.len {w : World} {P : Nat → Prop} {q : Q4} {l : List Value} (h : Q4L w P q l) : l.length = 12 := by
  obtain ⟨A0, c0, B0, d0, A1, c1, B1, d1, A2, c2, B2, d2, A3, c3, B3, d3, rfl, -⟩ := h
  rfl
theorem Q4L.past {w w' : World} {P : Nat → Prop} {q : Q4} {l : List Value} {r : Nat} {cur : Array Value} {t : TypeId} {f : Nat × Nat} (h : Q4L w P q l) (hr : w.heap[r]? = some (.cells cur t f)) (hn : ∀ u ∈ cur.toList, noInt u = true) (hg : w.grownBy w' (some r)) : Q4L w' P q l := by
  obtain ⟨A0, c0, B0, d0, A1, c1, B1, d1, A2, c2, B2, d2, A3, c3, B3, d3, e, h0, h1, h2, h3⟩ := h
  exact ⟨A0, c0, B0, d0, A1, c1, B1, d1, A2, c2, B2, d2, A3, c3, B3, d3, e, h0.pastF hr hn hg, h1.pastF hr hn hg, h2.pastF hr hn hg, h3.pastF hr hn hg⟩
theorem RdR.appendedZ {w w' : World} {base k cv g tr sz : Nat} {V : Option Addr} {vs : List Value} {xs ys : List Int} {A B : Option Addr} {ca cb : Nat} (h : RdR w (fun b => V ≠ some ⟨b, 0, none⟩) xs ys A ca B cb) (ho : w.ownsRow base tr sz (.slice V k cv) k vs)
    (hg : w.grownBy w' (Value.slice V k cv).ownBlock) (hat : (Value.slice V k cv).ownBlock = some g ∨ g = w.heap.size) : RdR w' (fun b => some (⟨g, 0, none⟩ : Addr) ≠ some ⟨b, 0, none⟩) xs ys A ca B cb := by
  have h2 := h.mono (Q := fun b => V ≠ some ⟨b, 0, none⟩ ∧ some (⟨g, 0, none⟩ : Addr) ≠ some ⟨b, 0, none⟩) (fun b hb hl => ⟨hb, fun e => by
    injection e with e
    injection e with e
    subst e
    rcases hat with hat | hat
    · exact hb (row_form ho hat)
    · omega⟩)
  exact (h2.keep hg.size fun b hb hl => hg.block b hl (fun e => hb.1 (row_form ho e.symm))).mono fun b hb _ => hb.2
theorem Q4L.appended {w w' : World} {base k cv g tr sz : Nat} {V : Option Addr} {vs : List Value} {q : Q4} {l : List Value} (h : Q4L w (fun b => V ≠ some ⟨b, 0, none⟩) q l) (ho : w.ownsRow base tr sz (.slice V k cv) k vs)
    (hg : w.grownBy w' (Value.slice V k cv).ownBlock) (hat : (Value.slice V k cv).ownBlock = some g ∨ g = w.heap.size) : Q4L w' (fun b => some (⟨g, 0, none⟩ : Addr) ≠ some ⟨b, 0, none⟩) q l := by
  obtain ⟨A0, c0, B0, d0, A1, c1, B1, d1, A2, c2, B2, d2, A3, c3, B3, d3, e, h0, h1, h2, h3⟩ := h
  exact ⟨A0, c0, B0, d0, A1, c1, B1, d1, A2, c2, B2, d2, A3, c3, B3, d3, e, h0.appendedZ ho hg hat, h1.appendedZ ho hg hat, h2.appendedZ ho hg hat, h3.appendedZ ho hg hat⟩
theorem flatten_get : ∀ (L : List (List Value)), (∀ l ∈ L, l.length = 12) → ∀ i j, i < L.length → j < 12 → L.flatten[i * 12 + j]? = (L.getD i [])[j]?
  | [], _, i, j, hi, _ => by simp at hi
  | l :: L, h, 0, j, _, hj => by
    have hl : l.length = 12 := h l List.mem_cons_self
    simp [List.flatten_cons, List.getElem?_append_left, hl, hj]
  | l :: L, h, i + 1, j, hi, hj => by
    have hl : l.length = 12 := h l List.mem_cons_self
    have ih := flatten_get L (fun x hx => h x (List.mem_cons_of_mem _ hx)) i j (by simpa using hi) hj
    rw [List.flatten_cons, List.getElem?_append_right (by omega), hl, show (i + 1) * 12 + j - 12 = i * 12 + j by omega, ih]
    rfl
theorem getDL_snoc (L : List (List Value)) (l : List Value) (i : Nat) (h : i < L.length) : (L ++ [l]).getD i [] = L.getD i [] := by simp [List.getD, List.getElem?_append_left h]
theorem getDL_last (L : List (List Value)) (l : List Value) : (L ++ [l]).getD L.length [] = l := by simp [List.getD]
theorem getDQ_snoc (js : List Q4) (j : Q4) (i : Nat) (h : i < js.length) : (js ++ [j]).getD i q40 = js.getD i q40 := by simp [List.getD, List.getElem?_append_left h]
theorem getDQ_last (js : List Q4) (j : Q4) : (js ++ [j]).getD js.length q40 = j := by simp [List.getD]
/-- twelve cells of block b from o on -/
abbrev C12 (w : World) (b o : Nat) (x0 x1 x2 x3 x4 x5 x6 x7 x8 x9 x10 x11 : Value) : Prop := b < w.heap.size ∧ (w.cell? ⟨b, o, none⟩ = some x0 ∧ w.cell? ⟨b, o + 1, none⟩ = some x1 ∧ w.cell? ⟨b, o + 2, none⟩ = some x2 ∧ w.cell? ⟨b, o + 3, none⟩ = some x3 ∧ w.cell? ⟨b, o + 4, none⟩ = some x4 ∧ w.cell? ⟨b, o + 5, none⟩ = some x5 ∧ w.cell? ⟨b, o + 6, none⟩ = some x6 ∧ w.cell? ⟨b, o + 7, none⟩ = some x7 ∧ w.cell? ⟨b, o + 8, none⟩ = some x8 ∧ w.cell? ⟨b, o + 9, none⟩ = some x9 ∧ w.cell? ⟨b, o + 10, none⟩ = some x10 ∧ w.cell? ⟨b, o + 11, none⟩ = some x11)
theorem C12.keep {w w' : World} {b o : Nat} {x0 x1 x2 x3 x4 x5 x6 x7 x8 x9 x10 x11 : Value} (h : C12 w b o x0 x1 x2 x3 x4 x5 x6 x7 x8 x9 x10 x11) (hs : w.heap.size ≤ w'.heap.size) (hb : w'.heap[b]? = w.heap[b]?) : C12 w' b o x0 x1 x2 x3 x4 x5 x6 x7 x8 x9 x10 x11 := by
  obtain ⟨hl, h0, h1, h2, h3, h4, h5, h6, h7, h8, h9, h10, h11⟩ := h
  exact ⟨Nat.lt_of_lt_of_le hl hs, (World.cell?_of_block (a := ⟨b, o, none⟩) hb).trans h0, (World.cell?_of_block (a := ⟨b, o + 1, none⟩) hb).trans h1, (World.cell?_of_block (a := ⟨b, o + 2, none⟩) hb).trans h2, (World.cell?_of_block (a := ⟨b, o + 3, none⟩) hb).trans h3, (World.cell?_of_block (a := ⟨b, o + 4, none⟩) hb).trans h4, (World.cell?_of_block (a := ⟨b, o + 5, none⟩) hb).trans h5, (World.cell?_of_block (a := ⟨b, o + 6, none⟩) hb).trans h6, (World.cell?_of_block (a := ⟨b, o + 7, none⟩) hb).trans h7, (World.cell?_of_block (a := ⟨b, o + 8, none⟩) hb).trans h8, (World.cell?_of_block (a := ⟨b, o + 9, none⟩) hb).trans h9, (World.cell?_of_block (a := ⟨b, o + 10, none⟩) hb).trans h10, (World.cell?_of_block (a := ⟨b, o + 11, none⟩) hb).trans h11⟩
theorem C12.on {w w' : World} {b o : Nat} {x0 x1 x2 x3 x4 x5 x6 x7 x8 x9 x10 x11 : Value} (h : C12 w b o x0 x1 x2 x3 x4 x5 x6 x7 x8 x9 x10 x11) (hb : Below w.heap.size w w') : C12 w' b o x0 x1 x2 x3 x4 x5 x6 x7 x8 x9 x10 x11 := h.keep hb.size (hb.block b h.1)
theorem C12.past {w w' : World} {b o r : Nat} {x0 x1 x2 x3 x4 x5 x6 x7 x8 x9 x10 x11 : Value} (h : C12 w b o x0 x1 x2 x3 x4 x5 x6 x7 x8 x9 x10 x11) (hg : w.grownBy w' (some r)) (hne : b ≠ r) : C12 w' b o x0 x1 x2 x3 x4 x5 x6 x7 x8 x9 x10 x11 := h.keep hg.size (hg.block b h.1 (fun e => hne (by injection e)))
theorem NodeAt.pastZ {w w' : World} {b r : Nat} {t : TypeId} {op x y n : Int} (h : NodeAt w b t op x y n) (hg : w.grownBy w' (some r)) (hne : b ≠ r) : NodeAt w' b t op x y n := (hg.block b h.lt (fun e => hne (by injection e))).trans h
/-- what stays so while a node's jet is worked out -/
def EvSt (tQ tE : TypeId) (w v : World) (A : Option Addr) (n c : Nat) (V : Option Addr) (k cv : Nat) (L : List (List Value)) (js : List Q4) : Prop :=
  v.ownsRow (w.heap.size + 2) tQ 12 (.slice V k cv) k L.flatten ∧ (L.length = k ∧ js.length = k ∧ ∀ i, i < k → Q4L v (fun b => V ≠ some ⟨b, 0, none⟩) (js.getD i q40) (L.getD i [])) ∧ SlAt v w.heap.size tE A n c ∧ Q4At v (w.heap.size + 1) tQ (.bool false) (.slice none 0 0) (.slice none 0 0) (.bool false) (.slice none 0 0) (.slice none 0 0) (.bool false) (.slice none 0 0) (.slice none 0 0) (.bool false) (.slice none 0 0) (.slice none 0 0) ∧ Free v V ∧ Below w.heap.size w v
section
variable {tQ tE : TypeId} {w v v' : World} {A V : Option Addr} {n c k cv : Nat} {L : List (List Value)} {js : List Q4}
theorem EvSt.on (h : EvSt tQ tE w v A n c V k cv L js) (hb : Below v.heap.size v v') : EvSt tQ tE w v' A n c V k cv L js :=
  ⟨own_keep3 h.1 hb, ⟨h.2.1.1, h.2.1.2.1, fun i hi => (h.2.1.2.2 i hi).on hb⟩, h.2.2.1.on hb, h.2.2.2.1.on hb, h.2.2.2.2.1.on hb (own_ltF h.1), below_on h.2.2.2.2.2 hb⟩
theorem EvSt.set {r : Nat} {cur : Array Value} {t : TypeId} {f : Nat × Nat} (h : EvSt tQ tE w v A n c V k cv L js) (hr : v.heap[r]? = some (.cells cur t f)) (hn : ∀ u ∈ cur.toList, noInt u = true) (hg : v.grownBy v' (some r)) (h1 : w.heap.size + 1 < r) (h2 : ∀ x, V = some ⟨x, 0, none⟩ → x ≠ r) : EvSt tQ tE w v' A n c V k cv L js := by
  refine ⟨h.1.kept hg ?_, ⟨h.2.1.1, h.2.1.2.1, fun i hi => (h.2.1.2.2 i hi).past hr hn hg⟩, h.2.2.1.past hg (by omega), h.2.2.2.1.past hg (by omega), ?_, below_grow h.2.2.2.2.2 (by omega) hg⟩
  · rcases h.1.2 with ⟨e, _⟩ | ⟨x, cap, cur', e, _⟩
    · injection e with e; subst e; exact .inl rfl
    · injection e with e
      subst e
      exact .inr (fun q => h2 x rfl (by simpa [Value.ownBlock] using q))
  · intro g e cur' t' f' hc
    have hlt := own_ltF h.1 g e
    exact h.2.2.2.2.1 g e cur' t' f' ((hg.block g hlt (fun q => h2 g e (by injection q))).symm.trans hc)
theorem EvSt.lt (h : EvSt tQ tE w v A n c V k cv L js) : ∀ x, V = some ⟨x, 0, none⟩ → x < v.heap.size := own_ltF h.1
theorem EvSt.box (h : EvSt tQ tE w v A n c V k cv L js) : w.heap.size + 1 < v.heap.size := h.2.2.2.1.lt
theorem EvSt.all12 (h : EvSt tQ tE w v A n c V k cv L js) : ∀ l ∈ L, l.length = 12 := by
  intro l hl
  obtain ⟨i, hi, rfl⟩ := List.mem_iff_getElem.1 hl
  have := (h.2.1.2.2 i (by rw [← h.2.1.1]; exact hi)).len
  have e : L.getD i [] = L[i] := by simp [List.getD, hi]
  rwa [e] at this
/-- two elements of the list -/
theorem EvSt.two (h : EvSt tQ tE w v A n c V k cv L js) {i l : Nat} (hi : i < k) (hl : l < k) :
    ∃ (b o : Nat) (Ai0 : Option Addr) (ci0 : Nat) (Bi0 : Option Addr) (di0 : Nat) (Ai1 : Option Addr) (ci1 : Nat) (Bi1 : Option Addr) (di1 : Nat) (Ai2 : Option Addr) (ci2 : Nat) (Bi2 : Option Addr) (di2 : Nat) (Ai3 : Option Addr) (ci3 : Nat) (Bi3 : Option Addr) (di3 : Nat) (Al0 : Option Addr) (cl0 : Nat) (Bl0 : Option Addr) (dl0 : Nat) (Al1 : Option Addr) (cl1 : Nat) (Bl1 : Option Addr) (dl1 : Nat) (Al2 : Option Addr) (cl2 : Nat) (Bl2 : Option Addr) (dl2 : Nat) (Al3 : Option Addr) (cl3 : Nat) (Bl3 : Option Addr) (dl3 : Nat), V = some ⟨b, o, none⟩ ∧ b < v.heap.size ∧ (v.cell? ⟨b, o + i * 12, none⟩ = some (.bool (isNeg (js.getD i q40).f)) ∧ v.cell? ⟨b, o + i * 12 + 1, none⟩ = some (.slice Ai0 (D (nu (js.getD i q40).f)).length ci0) ∧ v.cell? ⟨b, o + i * 12 + 2, none⟩ = some (.slice Bi0 (D (js.getD i q40).f.den).length di0) ∧ v.cell? ⟨b, o + i * 12 + 3, none⟩ = some (.bool (isNeg (js.getD i q40).v)) ∧ v.cell? ⟨b, o + i * 12 + 4, none⟩ = some (.slice Ai1 (D (nu (js.getD i q40).v)).length ci1) ∧ v.cell? ⟨b, o + i * 12 + 5, none⟩ = some (.slice Bi1 (D (js.getD i q40).v.den).length di1) ∧ v.cell? ⟨b, o + i * 12 + 6, none⟩ = some (.bool (isNeg (js.getD i q40).w)) ∧ v.cell? ⟨b, o + i * 12 + 7, none⟩ = some (.slice Ai2 (D (nu (js.getD i q40).w)).length ci2) ∧ v.cell? ⟨b, o + i * 12 + 8, none⟩ = some (.slice Bi2 (D (js.getD i q40).w.den).length di2) ∧ v.cell? ⟨b, o + i * 12 + 9, none⟩ = some (.bool (isNeg (js.getD i q40).vw)) ∧ v.cell? ⟨b, o + i * 12 + 10, none⟩ = some (.slice Ai3 (D (nu (js.getD i q40).vw)).length ci3) ∧ v.cell? ⟨b, o + i * 12 + 11, none⟩ = some (.slice Bi3 (D (js.getD i q40).vw.den).length di3)) ∧ (v.cell? ⟨b, o + l * 12, none⟩ = some (.bool (isNeg (js.getD l q40).f)) ∧ v.cell? ⟨b, o + l * 12 + 1, none⟩ = some (.slice Al0 (D (nu (js.getD l q40).f)).length cl0) ∧ v.cell? ⟨b, o + l * 12 + 2, none⟩ = some (.slice Bl0 (D (js.getD l q40).f.den).length dl0) ∧ v.cell? ⟨b, o + l * 12 + 3, none⟩ = some (.bool (isNeg (js.getD l q40).v)) ∧ v.cell? ⟨b, o + l * 12 + 4, none⟩ = some (.slice Al1 (D (nu (js.getD l q40).v)).length cl1) ∧ v.cell? ⟨b, o + l * 12 + 5, none⟩ = some (.slice Bl1 (D (js.getD l q40).v.den).length dl1) ∧ v.cell? ⟨b, o + l * 12 + 6, none⟩ = some (.bool (isNeg (js.getD l q40).w)) ∧ v.cell? ⟨b, o + l * 12 + 7, none⟩ = some (.slice Al2 (D (nu (js.getD l q40).w)).length cl2) ∧ v.cell? ⟨b, o + l * 12 + 8, none⟩ = some (.slice Bl2 (D (js.getD l q40).w.den).length dl2) ∧ v.cell? ⟨b, o + l * 12 + 9, none⟩ = some (.bool (isNeg (js.getD l q40).vw)) ∧ v.cell? ⟨b, o + l * 12 + 10, none⟩ = some (.slice Al3 (D (nu (js.getD l q40).vw)).length cl3) ∧ v.cell? ⟨b, o + l * 12 + 11, none⟩ = some (.slice Bl3 (D (js.getD l q40).vw.den).length dl3)) ∧ (RdR v (fun _ => True) (D (nu (js.getD i q40).f)) (D (js.getD i q40).f.den) Ai0 ci0 Bi0 di0 ∧ RdR v (fun _ => True) (D (nu (js.getD i q40).v)) (D (js.getD i q40).v.den) Ai1 ci1 Bi1 di1 ∧ RdR v (fun _ => True) (D (nu (js.getD i q40).w)) (D (js.getD i q40).w.den) Ai2 ci2 Bi2 di2 ∧ RdR v (fun _ => True) (D (nu (js.getD i q40).vw)) (D (js.getD i q40).vw.den) Ai3 ci3 Bi3 di3) ∧ (RdR v (fun _ => True) (D (nu (js.getD l q40).f)) (D (js.getD l q40).f.den) Al0 cl0 Bl0 dl0 ∧ RdR v (fun _ => True) (D (nu (js.getD l q40).v)) (D (js.getD l q40).v.den) Al1 cl1 Bl1 dl1 ∧ RdR v (fun _ => True) (D (nu (js.getD l q40).w)) (D (js.getD l q40).w.den) Al2 cl2 Bl2 dl2 ∧ RdR v (fun _ => True) (D (nu (js.getD l q40).vw)) (D (js.getD l q40).vw.den) Al3 cl3 Bl3 dl3) := by
  obtain ⟨g, rfl, hb, hlt, _⟩ := row_at1 h.1 (by omega)
  have e12 := h.all12
  obtain ⟨Ai0, ci0, Bi0, di0, Ai1, ci1, Bi1, di1, Ai2, ci2, Bi2, di2, Ai3, ci3, Bi3, di3, ei, p0, p1, p2, p3⟩ := h.2.1.2.2 i hi
  obtain ⟨Al0, cl0, Bl0, dl0, Al1, cl1, Bl1, dl1, Al2, cl2, Bl2, dl2, Al3, cl3, Bl3, dl3, el, r0, r1, r2, r3⟩ := h.2.1.2.2 l hl
  have T : ∀ {P : Nat → Prop} {xs ys : List Int} {A B : Option Addr} {ca cb : Nat}, RdR v P xs ys A ca B cb → RdR v (fun _ => True) xs ys A ca B cb := fun h => h.mono fun _ _ _ => trivial
  have G : ∀ m, m < k → ∀ j, j < 12 → v.cell? ⟨g, 0 + m * 12 + j, none⟩ = (L.getD m [])[j]? := fun m hm j hj => by
    rw [Nat.zero_add, ← flatten_get L e12 m j (by rw [h.2.1.1]; exact hm) hj]
    exact h.1.cellAt (m * 12 + j) (by omega)
  refine ⟨g, 0, Ai0, ci0, Bi0, di0, Ai1, ci1, Bi1, di1, Ai2, ci2, Bi2, di2, Ai3, ci3, Bi3, di3, Al0, cl0, Bl0, dl0, Al1, cl1, Bl1, dl1, Al2, cl2, Bl2, dl2, Al3, cl3, Bl3, dl3, rfl, hlt, ?_, ?_, ⟨T p0, T p1, T p2, T p3⟩, T r0, T r1, T r2, T r3⟩
  · have H := G i hi
    rw [ei] at H
    exact ⟨H 0 (by decide), H 1 (by decide), H 2 (by decide), H 3 (by decide), H 4 (by decide), H 5 (by decide), H 6 (by decide), H 7 (by decide), H 8 (by decide), H 9 (by decide), H 10 (by decide), H 11 (by decide)⟩
  · have H := G l hl
    rw [el] at H
    exact ⟨H 0 (by decide), H 1 (by decide), H 2 (by decide), H 3 (by decide), H 4 (by decide), H 5 (by decide), H 6 (by decide), H 7 (by decide), H 8 (by decide), H 9 (by decide), H 10 (by decide), H 11 (by decide)⟩
end
theorem oneQ (n0 n1 n2 n3 : Bool) (A0 B0 A1 B1 A2 B2 A3 B3 : Option Addr) (a0 c0 b0 d0 a1 c1 b1 d1 a2 c2 b2 d2 a3 c3 b3 d3 : Nat) : ∀ u ∈ [Value.bool n0, .slice A0 a0 c0, .slice B0 b0 d0, Value.bool n1, .slice A1 a1 c1, .slice B1 b1 d1, Value.bool n2, .slice A2 a2 c2, .slice B2 b2 d2, Value.bool n3, .slice A3 a3 c3, .slice B3 b3 d3], u.oneCell' = true := by
  intro u hu
  simp at hu
  rcases hu with rfl | rfl | rfl | rfl | rfl | rfl | rfl | rfl | rfl | rfl | rfl | rfl <;> rfl
theorem Q4V.past {w w' : World} {q : Q4} {v : Value} {r : Nat} {cur : Array Value} {t : TypeId} {f : Nat × Nat} (h : Q4V w q v) (hr : w.heap[r]? = some (.cells cur t f)) (hn : ∀ u ∈ cur.toList, noInt u = true) (hg : w.grownBy w' (some r)) : Q4V w' q v := by
  obtain ⟨A0, c0, B0, d0, A1, c1, B1, d1, A2, c2, B2, d2, A3, c3, B3, d3, e, h0, h1, h2, h3⟩ := h
  exact ⟨A0, c0, B0, d0, A1, c1, B1, d1, A2, c2, B2, d2, A3, c3, B3, d3, e, h0.pastF hr hn hg, h1.pastF hr hn hg, h2.pastF hr hn hg, h3.pastF hr hn hg⟩
theorem getDL_at {L : List (List Value)} {i : Nat} (h : L.length = i) (l : List Value) : (L ++ [l]).getD i [] = l := by subst h; exact getDL_last L l
theorem getDQ_at {js : List Q4} {i : Nat} (h : js.length = i) (j : Q4) : (js ++ [j]).getD i q40 = j := by subst h; exact getDQ_last js j
theorem con_lims {q : Rat} {k : Nat} (h : lim q k) (hk : 1 ≤ k) : lims (con4 q) k := ⟨h, lim_mono lim_zero hk, lim_mono lim_zero hk, lim_mono lim_zero hk⟩
theorem add_lims {a b : Q4} {k l : Nat} (h : lims a k) (h' : lims b l) : lims (add4 a b) (k + l + 1) := ⟨lim_add h.1 h'.1, lim_add h.2.1 h'.2.1, lim_add h.2.2.1 h'.2.2.1, lim_add h.2.2.2 h'.2.2.2⟩
theorem neg_lims {a : Q4} {k : Nat} (h : lims a k) : lims (neg4 a) k := ⟨lim_neg h.1, lim_neg h.2.1, lim_neg h.2.2.1, lim_neg h.2.2.2⟩
theorem mul_lims {a b : Q4} {k l : Nat} (h : lims a k) (h' : lims b l) : lims (mul4 a b) (4 * (k + l) + 3) := by
  refine ⟨lim_mono (lim_mul h.1 h'.1) (by omega), lim_mono (lim_add (lim_mul h.2.1 h'.1) (lim_mul h.1 h'.2.1)) (by omega), lim_mono (lim_add (lim_mul h.2.2.1 h'.1) (lim_mul h.1 h'.2.2.1)) (by omega), ?_⟩
  exact lim_mono (lim_add (lim_add (lim_mul h.2.2.2 h'.1) (lim_mul h.1 h'.2.2.2)) (lim_add (lim_mul h.2.1 h'.2.2.1) (lim_mul h.2.2.1 h'.2.1))) (by omega)
theorem over_lims {a : Q4} (h : lims a 40) : lims (over4 a) 400 := by
  have i : lim (1 / a.f) 40 := by rw [Rat.div_def, Rat.one_mul]; exact lim_inv h.1 (by omega)
  refine ⟨lim_mono i (by omega), lim_mono (lim_neg (lim_mul h.2.1 (lim_mul i i))) (by omega), lim_mono (lim_neg (lim_mul h.2.2.1 (lim_mul i i))) (by omega), ?_⟩
  exact lim_mono (lim_sub (lim_mul (lim_mul lim_two (lim_mul (lim_mul i i) i)) (lim_mul h.2.1 h.2.2.1)) (lim_mul h.2.2.2 (lim_mul i i))) (by omega)
def jetQ (a : Q4) : Jt := .mv (.mv (.fx a.f) (.fx a.v)) (.mv (.fx a.w) (.fx a.vw))
theorem r4_jetQ (a : Q4) : r4 (jetQ a) = a := by simp [r4, jetQ, numJ, Jt.at_]
theorem pow_lims {a : Q4} (h : lims a 40) (t : Nat) (ht : t ≤ 8) : lims (toPow4 a t) 800 := by
  have hj : L2 (jetQ a) 40 40 40 40 := ⟨by simp [jetQ, Jt.dep], by simpa [jetQ, numJ] using h.1, by simpa [jetQ, numJ, Jt.at_] using h.2.1, by simpa [jetQ, numJ] using h.2.2.1, by simpa [jetQ, numJ] using h.2.2.2⟩
  have hr := hj.raise ht
  have e := r4_raise (jetQ a) t
  rw [r4_jetQ] at e
  rw [← e]
  exact ⟨lim_mono hr.2.1 (by omega), lim_mono hr.2.2.1 (by omega), lim_mono hr.2.2.2.1 (by omega), lim_mono hr.2.2.2.2 (by omega)⟩
theorem ev4_none {X V W : List Rat} {ns : List Nd} {k : Nat} {js : List Q4} (hk : k < ns.length) (hj : eval4 X V W (ns.take k) = (js, 0)) (hs : step4 X V W js (ns.getD k nd0) = none) : eval4 X V W ns = ([], 10) := by
  have e : eval4 X V W (ns.take (k + 1)) = ([], 10) := by rw [eval4_take X V W ns k hk, hj]; unfold estep4; rw [if_pos rfl]; dsimp only; rw [hs]
  rw [eval4_stop X V W ns (k + 1) (by rw [e]; decide), e]
theorem ev4_full {X V W : List Rat} {ns : List Nd} {k : Nat} {js : List Q4} {j : Q4} (hk : k < ns.length) (hj : eval4 X V W (ns.take k) = (js, 0)) (hs : step4 X V W js (ns.getD k nd0) = some j) (hf : ¬ fit4 j) : eval4 X V W ns = ([], 7) := by
  have e : eval4 X V W (ns.take (k + 1)) = ([], 7) := by rw [eval4_take X V W ns k hk, hj]; unfold estep4; rw [if_pos rfl]; dsimp only; rw [hs]; dsimp only; rw [if_neg hf]
  rw [eval4_stop X V W ns (k + 1) (by rw [e]; decide), e]
theorem ev4_more {X V W : List Rat} {ns : List Nd} {k : Nat} {js : List Q4} {j : Q4} (hk : k < ns.length) (hj : eval4 X V W (ns.take k) = (js, 0)) (hs : step4 X V W js (ns.getD k nd0) = some j) (hf : fit4 j) : eval4 X V W (ns.take (k + 1)) = (js ++ [j], 0) := by
  rw [eval4_take X V W ns k hk, hj]; unfold estep4; rw [if_pos rfl]; dsimp only; rw [hs]; dsimp only; rw [if_pos hf]
theorem getQ_fit {js : List Q4} (h : ∀ q ∈ js, fit4 q) (i : Nat) (hi : i < js.length) : lims (js.getD i q40) 40 := by
  have e : js.getD i q40 = js[i] := by simp [List.getD, hi]
  rw [e]; exact h _ (List.getElem_mem hi)
theorem lim_num4 (n : Int) (h0 : 0 ≤ n) (h1 : n ≤ 999999999) : lim (n : Rat) 40 := by
  constructor
  · have e : nu (n : Rat) = n.natAbs := by unfold nu; rw [Rat.num_intCast]
    rw [e]; refine (D_len_le _ 40).2 (Nat.lt_of_le_of_lt (show n.natAbs ≤ 999999999 by omega) (by decide))
  · rw [Rat.den_intCast, D_1_len]; omega
end Nt
namespace Nt
open Go Go.RowKit
theorem emptyRow (w : World) (t : TypeId) (sz : Nat) : (w.alloc (.cells #[] t)).ownsRow w.heap.size t sz (.slice (some ⟨w.heap.size, 0, none⟩) 0 0) 0 [] :=
  ⟨by simp, .inr ⟨w.heap.size, 0, #[], rfl, Nat.le_refl _, heap_alloc_new _ _, Nat.le_refl _, Nat.zero_le _, by simp, by simp⟩⟩
theorem emptyFree (w : World) (t : TypeId) : Free (w.alloc (.cells #[] t)) (some ⟨w.heap.size, 0, none⟩) := by
  intro g e cur t' f hc u hu
  injection e with e
  injection e with e
  subst e
  have := (heap_alloc_new w (.cells #[] t)).symm.trans hc
  injection this with this
  injection this with this
  subst this
  simp at hu
end Nt
namespace Go.Proofs.YtifepoefeamboaaGreatDoor
open Go Go.RowKit Nt

set_option maxRecDepth 20000 in
set_option maxHeartbeats 3200000 in
theorem l06Zeros_any (n : Nat) (hn : n ≤ 4096) (w : World) :
    Calls Tryz.prog 61 #[.int .i64 n] w fun e w' => ∃ V d, e = .returned (.slice V n d) ∧ RdS w' (fun _ => True) V n d ((noughts n).map rat3) ∧ Below w.heap.size w w' := by
  obtain ⟨i0, hi0, hz0, hz1, hz2⟩ := info_parts infoRat
  go_enter Tryz.func61, Tryz.ntmps61
  go_wp2
  go_loopw [3, 4] (fun v i wr => ∃ (k : Nat) (V : Option Addr) (cv : Nat) (L : List EV), k ≤ n ∧ i = .int .i64 k ∧ v = .slice V k cv ∧ Hid (L.map EV.v3 = (noughts k).map rat3) ∧ Hid (wr.ownsRow w.heap.size 31 3 (.slice V k cv) k (flat L)) ∧ Hid (PartsRd wr V L) ∧ Hid (Free wr V) ∧ Hid (Below w.heap.size w wr)) (fun _ i _ => n - (intOf i).toNat)
  case atStart => exact ⟨0, _, 0, [], Nat.zero_le _, rfl, rfl, Lib.hid rfl, Lib.hid (emptyRow _ _ _), Lib.hid (fun i hi => by simp at hi), Lib.hid (emptyFree _ _), Lib.hid (below1 _ _)⟩
  case round =>
    obtain ⟨k, V, cv, L, hk, rfl, rfl, HV, HO, HP, HF, HB⟩ := hrel
    by_cases hlt : k < n
    · have hkN : (k : Int) < n := by omega
      go_wp2_with fail
      refine (op_int 0 (by decide) (by decide) wr).mono ?_
      rintro e w1 ⟨A1, c1, B1, d1, rfl, o1, b1⟩
      have HO1 := Lib.hid (own_keep3 HO.out b1)
      have HF1 := Lib.hid (HF.out.on b1 (own_ltF HO.out))
      have HP1 : Hid (PartsRd w1 V (L ++ [EV.mk (isNeg ((0 : Int) : Rat)) A1 c1 B1 d1 (D (nu ((0 : Int) : Rat))) (D ((0 : Int) : Rat).den)])) := (HP.out.on b1).snoc (o1.beside HF1.out)
      have HV1 : Hid ((L ++ [EV.mk (isNeg ((0 : Int) : Rat)) A1 c1 B1 d1 (D (nu ((0 : Int) : Rat))) (D ((0 : Int) : Rat).den)]).map EV.v3 = (noughts (k + 1)).map rat3) := by
        show _ = _
        rw [List.map_append, HV.out, noughts_snoc, List.map_append]
        rfl
      have HB1 := Lib.hid (below_on HB.out b1)
      have hs1 := HB1.out.size
      clear o1 b1 HP HV HO HF HB
      generalize ((0 : Int) : Rat) = p at *
      go_wp2_with (at_builtin; refine wpList_append_free _ rfl _ _ 27 rfl w.heap.size 31 i0 _ 3 56 Tryz.underlying27 hi0 hz0 hz1 hz2 rfl (by decide) (by decide) _ k _ _ rfl (HO1.out.alloc _) ⟨w1.heap.size, 0, none⟩ 1 1 [.bool (isNeg p), .slice A1 (D (nu p)).length c1, .slice B1 (D p.den).length d1] rfl rfl (cells3 _ _ _ _ _ _ _ _ _) (one3 _ _ _ _ _ _ _) (by simp [noInt]) (by decide) (by unfold maxLen; omega) (by omega) (by simp; omega) (HF1.out.on (below1 _ _) (own_ltF HO1.out)) _ rfl ?_; intro g' cv' w2 hown hgrow hat hfree)
      have hlit := below1 w1 (.cells #[.bool (isNeg p), .slice A1 (D (nu p)).length c1, .slice B1 (D p.den).length d1] 31)
      have HO2 : Hid (w2.ownsRow w.heap.size 31 3 (.slice (some ⟨g', 0, none⟩) (k + 1) cv') (k + 1) (flat (L ++ [EV.mk (isNeg p) A1 c1 B1 d1 (D (nu p)) (D p.den)]))) := by rw [flat_snoc]; exact hown
      have HP2 : Hid (PartsRd w2 (some ⟨g', 0, none⟩) (L ++ [EV.mk (isNeg p) A1 c1 B1 d1 (D (nu p)) (D p.den)])) := (HP1.out.on hlit).appended (HO1.out.alloc _) hgrow hat
      have HF2 := Lib.hid hfree
      have HB2 := Lib.hid ((below_on HB1.out hlit).trans (rowed3_below (HO1.out.alloc _) (by simp; omega) hgrow))
      clear hown hgrow hat hfree hlit HP1 HO1 HF1 HB1
      go_wp2
      go_roundw
      case rel => exact ⟨k + 1, _, _, _, by omega, by go_num, rfl, HV1, HO2, HP2, HF2, HB2⟩
      case measure => simp [intOf]; omega
    · obtain rfl : k = n := by omega
      go_wp2
      exact bodyPost_ret (results_tmp rfl _ _ _) rfl ⟨V, cv, rfl, by have h := PartsRd.rds HP.out HO.out; rw [HV.out] at h; exact h, HB.out⟩

set_option maxHeartbeats 1600000 in
theorem l06Ask_any (A X : Option Addr) (n c m d : Nat) (ns : List Nd) (rs : List R3) (P P' : Nat → Prop) (w : World) (hr : RdN w P A n c ns) (hx : RdS w P' X m d rs) (hsm : Small rs) (hn : n ≤ 1048576) (hm : m ≤ 1048576) :
    Calls Tryz.prog 43 #[.agg #[.slice A n c], .slice X m d] w fun e w' => e = .returned (.int .i64 (ptCode (okE ns) ns m rs)) ∧ Below w.heap.size w w' := by
  have HLN : Hid (ns.length = n) := hr.len
  have HR := Lib.hid (hr.mono (Q := (· < w.heap.size)) fun _ _ h => h)
  have HX := Lib.hid hx.low
  have HS := Lib.hid hsm
  have HOK : Hid (okE ns = true → (∀ j, j < ns.length → fitN (ns.getD j nd0) = true) ∧ 1 ≤ n ∧ n ≤ 60) := fun h => by
    obtain ⟨h1, h60, hf, -⟩ := okE_out h
    have := HLN.out
    exact ⟨hf, by omega, by omega⟩
  clear hr hx hsm
  by_cases h1 : 4096 < m
  · have HC : Hid (ptCode (okE ns) ns m rs = 2) := Lib.hid (by simp [ptCode, h1])
    have z1 : decide ((4096 : Int) < m) = true := by simp; omega
    clear h1
    go_enter Tryz.func43, Tryz.ntmps43
    go_wp2
    exact bodyPost_ret (results_tmp rfl _ _ _) rfl ⟨by rw [HC.out]; rfl, below1 _ _⟩
  have z1 : decide ((4096 : Int) < m) = false := by simp; omega
  have H1 := Lib.hid h1
  clear h1
  go_enter Tryz.func43, Tryz.ntmps43
  go_upto_region 3 with fail
  refine wp_at (fun v0 => Below w.heap.size w v0 ∧ SlAt v0 w.heap.size 25 A n c) ⟨below1 _ _, SlAt.new _ _ _ _ _⟩ ?_
  rintro v0 ⟨hb, r0⟩
  have HB0 := Lib.hid hb
  have HT0 := Lib.hid r0
  have t0 := r0.c0
  clear hb r0
  go_wp2_with fail
  refine (specExprOK_any A n c ns _ v0 (HR.out.below HB0.out) hn).mono ?_
  rintro e w1 ⟨rfl, b1⟩
  have HB1 := Lib.hid (below_on HB0.out b1)
  have HT1 := Lib.hid (HT0.out.on b1)
  clear b1 HB0 HT0 t0
  cases hok : okE ns with
  | false =>
    have HC : Hid (ptCode (okE ns) ns m rs = 1) := Lib.hid (by simp [ptCode, H1.out, hok])
    clear hok HOK
    go_wp2
    exact bodyPost_ret (results_tmp rfl _ _ _) rfl ⟨by rw [HC.out]; rfl, HB1.out⟩
  | true =>
    obtain ⟨hf, hn1, hn60⟩ := HOK.out hok
    have HF := Lib.hid hf
    have HK := Lib.hid hok
    clear hok hf HOK
    go_wp2_with fail
    refine (specVecOK_any X m d rs _ w1 (HX.out.below HB1.out) HS.out hm).mono ?_
    rintro e w2 ⟨rfl, b2⟩
    have HB2 := Lib.hid (below_on HB1.out b2)
    have HT2 := Lib.hid (HT1.out.on b2)
    clear b2 HB1 HT1
    cases hv : okV rs with
    | false =>
      have HC : Hid (ptCode (okE ns) ns m rs = 1) := Lib.hid (by simp [ptCode, H1.out, hv, HK.out])
      clear hv
      go_wp2
      exact bodyPost_ret (results_tmp rfl _ _ _) rfl ⟨by rw [HC.out]; rfl, HB2.out⟩
    | true =>
      have HC : Hid (ptCode (okE ns) ns m rs = if (m : Int) < dimE ns then 8 else 0) := Lib.hid (by simp [ptCode, H1.out, hv, HK.out])
      have t0 := HT2.out.c0
      clear hv
      go_wp2_with fail
      refine (l05Dim_any A n c ns _ w2 (HR.out.below HB2.out) HF.out hn1 hn60).mono ?_
      rintro e w3 ⟨rfl, b3⟩
      have HB3 := Lib.hid (below_on HB2.out b3)
      clear b3 t0 HB2 HT2
      generalize dimE ns = D at *
      by_cases h8 : (m : Int) < D
      · have HC2 : Hid (ptCode (okE ns) ns m rs = 8) := Lib.hid (by rw [HC.out, if_pos h8])
        go_wp2
        exact bodyPost_ret (results_tmp rfl _ _ _) rfl ⟨by rw [HC2.out]; rfl, HB3.out⟩
      · have HC2 : Hid (ptCode (okE ns) ns m rs = 0) := Lib.hid (by rw [HC.out, if_neg h8])
        go_wp2
        exact bodyPost_ret (results_tmp rfl _ _ _) rfl ⟨by rw [HC2.out]; rfl, HB3.out⟩

end Go.Proofs.YtifepoefeamboaaGreatDoor
namespace Nt
open Go Go.RowKit
/-- the last step's jet, or a code -/
def SayJ1 (tF tM : TypeId) (w : World) (n : Nat) (js : List Jt) (code : Int) (e : Ending) (w' : World) : Prop :=
  ((code = 0 ∧ ∃ t x, e = .returned (.tuple #[.iface t x, .int .i64 0]) ∧ JAt tF tM w' (fun _ => True) (js.getD (n - 1) j0) (.iface t x)) ∨ (code ≠ 0 ∧ e = .returned (.tuple #[.nilIface, .int .i64 code]))) ∧ Below w.heap.size w w'
/-- the last step's number in memory of its own, or a code -/
def RetVal (t : TypeId) (w : World) (r : Rat) (code : Int) (e : Ending) (w' : World) : Prop :=
  (code = 0 ∧ RetRC t w (isNeg r) (D (nu r)) (D r.den) 0 e w') ∨ (code ≠ 0 ∧ RetRC t w false [] [] code e w')
/-- the model's jets of a place without ways, by the program's -/
theorem eval_noughts (qs : List Rat) (ns : List Nd) (m : Nat) : eval4 qs (noughts m) (noughts m) ns = ((evalJ (qs.map Jt.fx) ns).1.map r4, (evalJ (qs.map Jt.fx) ns).2) := by
  have h0 : ∀ i, (noughts m).getD i 0 = 0 := fun i => by
    by_cases h : i < m
    · simp [List.getD, h]
    · simp [List.getD, h]
  have := eval_r4 (X := qs) (V := noughts m) (W := noughts m) (vars := qs.map Jt.fx) (fun j hj => Nat.le_trans (fx_dep qs j hj) (by decide)) (fun i => by
    have e : (qs.map Jt.fx).getD i j0 = Jt.fx (qs.getD i 0) := by
      by_cases h : i < qs.length
      · simp [List.getD, h]
      · simp [List.getD, h, j0]
    rw [e, r4_fx]
    unfold varQ con4
    rw [h0]) ns ns.length (Nat.le_refl _)
  rwa [List.take_length] at this
/-- the last step's number is not too long -/
theorem last_lim {qs : List Rat} {ns : List Nd} {js : List Jt} {n : Nat} (hn : ns.length = n) (h1 : 1 ≤ n) (hR : evalJ (qs.map Jt.fx) ns = (js, 0)) : lim (numJ (js.getD (n - 1) j0) 0) 40 := by
  have := evalJ_ok (fx_dep qs) ns ns.length (Nat.le_refl _) (by rw [List.take_length, hR])
  rw [List.take_length, hR] at this
  have hl : n - 1 < js.length := by have := this.len; dsimp only at this; omega
  have e : js.getD (n - 1) j0 = js[n - 1] := by simp [List.getD, hl]
  rw [e]
  exact (L2.of_fits (Nat.le_trans (this.dep _ (List.getElem_mem hl)) (by decide)) (this.fit _ (List.getElem_mem hl))).2.1
end Nt
namespace Go.Proofs.YtifepoefeamboaaGreatDoor
open Go Go.RowKit Nt

set_option maxRecDepth 20000 in
set_option maxHeartbeats 3200000 in
/-- what stands against a place alone -/
theorem placeCode_none (A X : Option Addr) (n c m d : Nat) (ns : List Nd) (rs : List R3) (P P' : Nat → Prop) (w : World) (hr : RdN w P A n c ns) (hx : RdS w P' X m d rs) (hsm : Small rs) (hn : n ≤ 1048576) (hm : m ≤ 1048576) :
    Calls Tryz.prog 39 #[.agg #[.slice A n c], .slice X m d, .slice none 0 0] w fun e w' => e = .returned (.int .i64 (ptCode (okE ns) ns m rs)) ∧ Below w.heap.size w w' := by
  have HLN : Hid (ns.length = n) := hr.len
  have HR := Lib.hid (hr.mono (Q := (· < w.heap.size)) fun _ _ h => h)
  have HX := Lib.hid hx.low
  have HS := Lib.hid hsm
  have HOK : Hid (okE ns = true → (∀ j, j < ns.length → fitN (ns.getD j nd0) = true) ∧ 1 ≤ n ∧ n ≤ 60) := fun h => by
    obtain ⟨h1, h60, hf, -⟩ := okE_out h
    have := HLN.out
    exact ⟨hf, by omega, by omega⟩
  clear hr hx hsm
  go_enter Tryz.func39, Tryz.ntmps39
  go_upto_region 1 with fail
  refine wp_atJ (fun v0 => Below w.heap.size w v0 ∧ SlAt v0 w.heap.size 25 A n c) ⟨below1 _ _, SlAt.new _ _ _ _ _⟩ ?_
  rintro v0 ⟨hb, r0⟩
  have HB0 := Lib.hid hb
  have HT0 := Lib.hid r0
  have HC0 := Lib.hid r0.c0
  clear hb r0
  go_region_held3 (fun wx => wx.cell? ⟨w.heap.size, 0, none⟩ = some (.slice A n c))
    (first | exact HC0.out | exact HC1.out | exact HC2.out)
    (first
      | (go_at_call 70; refine (implExprOK_any A n c ns _ _ (by first | exact HR.out.below HB0.out | exact (HR.out.below HB0.out).drew) hn).mono ?_; rintro e w1 ⟨rfl, bb⟩; have bb := undrew bb; have HB1 := Lib.hid (below_on HB0.out bb); have HT1 := Lib.hid (HT0.out.on bb); have HC1 := Lib.hid HT1.out.c0; clear bb)
      | (go_at_call 69; refine (pointCode_none _ ns A X n c m d rs _ _ _ (by exact HR.out.below HB1.out) (by exact HX.out.below HB1.out) HS.out hm HOK.out).mono ?_; rintro e w2 ⟨rfl, bb⟩; have HB2 := Lib.hid (below_on HB1.out bb); have HT2 := Lib.hid (HT1.out.on bb); have HC2 := Lib.hid HT2.out.c0; clear bb))
  go_wp2
  exact bodyPost_ret (results_tmp rfl _ _ _) rfl ⟨rfl, HB2.out⟩

set_option maxRecDepth 20000 in
set_option maxHeartbeats 3200000 in
/-- the last step's jet along so many ways -/
theorem exprJetAt_any (A X : Option Addr) (n c m d : Nat) (ns : List Nd) (qs : List Rat) (vs : Nat → List Rat) (G : Option Addr) (N cG : Nat) (Aw : Nat → Option Addr) (cw : Nat → Nat) (P P' : Nat → Prop) (w : World) (ad : Addr) (hE : ErrAt 195 w ad) (hr : RdN w P A n c ns) (hx : RdS w P' X m d (qs.map rat3)) (hw : WaysAt w G N m Aw cw vs)
    (hd : ∀ j ∈ varsJ qs vs N m, j.dep ≤ 2) (hL : ∀ j ∈ varsJ qs vs N m, L2 j 40 40 40 40) (hg : ∀ k, k < n → fitN (ns.getD k nd0) = true ∧ behind (ns.getD k nd0) k = true ∧ ((ns.getD k nd0).1 = 2 → (ns.getD k nd0).2.2.2 < m)) (hn1 : 1 ≤ n) (hn : n ≤ 60) (hN : N ≤ 2) (hm : m ≤ 100) (js : List Jt) (code : Int) (hR : evalJ (varsJ qs vs N m) ns = (js, code)) :
    Calls Tryz.prog 40 #[.agg #[.slice A n c], .slice X m d, .slice G N cG] w (SayJ1 105 103 w n js code) := by
  have HLN : Hid (ns.length = n) := hr.len
  have HR := Lib.hid (hr.mono (Q := (· < w.heap.size)) fun _ _ h => h)
  have HX := Lib.hid hx.low
  have HW := Lib.hid hw
  have HE := Lib.hid hE
  have HD := Lib.hid hd
  have HL := Lib.hid hL
  have HG := Lib.hid hg
  have HY1 : Hid ((evalJ (varsJ qs vs N m) ns).1 = js) := Lib.hid (by rw [hR])
  have HY2 : Hid ((evalJ (varsJ qs vs N m) ns).2 = code) := Lib.hid (by rw [hR])
  have HJL : Hid (code = 0 → js.length = n) := fun h => by
    have e := HLN.out
    have := (evalJ_ok hd ns ns.length (Nat.le_refl _) (by rw [List.take_length, hR]; exact h)).len
    rw [List.take_length, hR] at this
    rw [← e]; exact this
  clear hr hx hw hE hd hL hg hR
  go_enter Tryz.func40, Tryz.ntmps40
  go_upto_region 1 with fail
  refine wp_atJ (fun v0 => Below w.heap.size w v0 ∧ SlAt v0 w.heap.size 25 A n c) ⟨below1 _ _, SlAt.new _ _ _ _ _⟩ ?_
  rintro v0 ⟨hb, r0⟩
  have HB0 := Lib.hid hb
  have HT0 := Lib.hid r0
  have HC0 := Lib.hid r0.c0
  have HW0 := Lib.hid (HW.out.on hb)
  clear hb r0
  go_region_held3 (fun wx => wx.cell? ⟨w.heap.size, 0, none⟩ = some (.slice A n c))
    (first | exact HC0.out | exact HC1.out | exact HC2.out)
    (first
      | (go_at_call 72; refine (jetsAlong_any qs vs X m d G N cG Aw cw _ _ (by first | exact HX.out.below HB0.out | exact (HX.out.below HB0.out).on (below_drewJ (Below.refl _ _))) (by first | exact HW0.out | exact HW0.out.on (below_drewJ (Below.refl _ _))) hN hm).mono ?_; rintro e w1 ⟨V, cv, rfl, hj, bb⟩; have bb := undrew bb; have HJ := Lib.hid hj; have HB1 := Lib.hid (below_on HB0.out bb); have HT1 := Lib.hid (HT0.out.on bb); have HC1 := Lib.hid HT1.out.c0; clear bb hj)
      | (go_at_call 71; refine (jetsOf_fits ns (varsJ qs vs N m) A V n c m cv _ _ ad (HE.out.on HB1.out) (by exact HR.out.below HB1.out) (by exact HJ.out) HD.out HL.out HG.out hn).mono ?_; rintro e w2 ⟨V4, c4, rfl, hj, bb⟩; rw [HY1.out] at hj; rw [HY1.out, HY2.out]; have HJ4 := Lib.hid hj; have HB2 := Lib.hid (below_on HB1.out bb); have HT2 := Lib.hid (HT1.out.on bb); have HC2 := Lib.hid HT2.out.c0; clear bb hj))
  all_goals
    clear HC0 HC1 HT0 HT1 HB0 HB1 HJ HW0
    by_cases h0 : code = 0
    · subst h0
      have hl := HJL.out rfl
      obtain ⟨q, rfl⟩ : ∃ q, n = q + 1 := ⟨n - 1, by omega⟩
      obtain ⟨gb, go, t, x, rfl, hgl, hcell, hj⟩ := HJ4.out.at_ (i := q) (by omega)
      have HK := Lib.hid hj
      rw [hl]
      clear hj HJ4 HJL HY1 HY2 hl hgl
      go_wp2
      exact bodyPost_ret (results_tmp2 rfl _ _ _) rfl ⟨.inl ⟨rfl, t, x, rfl, by rw [Nat.add_sub_cancel]; exact HK.out⟩, HB2.out⟩
    · have hb : (code != 0) = true := by simpa using h0
      have H0 := Lib.hid h0
      clear h0
      go_wp2
      exact bodyPost_ret (results_tmp2 rfl _ _ _) rfl ⟨.inr ⟨H0.out, rfl⟩, HB2.out⟩
set_option maxRecDepth 20000 in
set_option maxHeartbeats 3200000 in
/-- a value, or what stopped it -/
theorem implValueOf_ok (A X : Option Addr) (n c m d : Nat) (ns : List Nd) (qs : List Rat) (P P' : Nat → Prop) (w : World) (ad : Addr) (hE : ErrAt 195 w ad) (hr : RdN w P A n c ns) (hx : RdS w P' X m d (qs.map rat3)) (hf : Fine qs) (hn : n ≤ 1048576) (hm : m ≤ 1048576) (hcode : ptCode (okE ns) ns m (qs.map rat3) = 0) (js : List Jt) (code : Int) (hR : evalJ (qs.map Jt.fx) ns = (js, code)) :
    Calls Tryz.prog 11 #[.agg #[.slice A n c], .slice X m d] w (RetVal 3 w (numJ (js.getD (n - 1) j0) 0) code) := by
  obtain ⟨h4, hright, hok, hdim⟩ := ptCode_zero hcode
  have hln : ns.length = n := hr.len
  have hql : qs.length = m := by have := hx.len; rw [List.length_map] at this; exact this
  obtain ⟨hg, hn1, hn60⟩ := okE_at hln hright hdim
  have hm4 : m ≤ 100 := by have := (okV_out hok).2.1; rw [List.length_map] at this; omega
  have hvj : varsJ qs (fun _ => []) 0 m = qs.map Jt.fx := hql ▸ varsJ_zero qs _
  have HP := Lib.hid (fun W (hw : Below w.heap.size w W) => placeCode_none A X n c m d ns (qs.map rat3) _ _ W (hr.on hw) (hx.on hw) (small_fine hf) hn hm)
  rw [hcode] at HP
  have HJ := Lib.hid (fun W (hw : Below w.heap.size w W) => exprJetAt_any A X n c m d ns qs (fun _ => []) none 0 0 (fun _ => none) (fun _ => 0) _ _ W ad (hE.on hw) (hr.on hw) (hx.on hw) (WaysAt.nil _ _ _ _ _ _) (by rw [hvj]; exact fun j hj => Nat.le_trans (fx_dep qs j hj) (by decide)) (by rw [hvj]; exact fx_L2 hf) hg hn1 hn60 (by omega) hm4 js code (by rw [hvj]; exact hR))
  have HFIT : Hid (code = 0 → lim (numJ (js.getD (n - 1) j0) 0) 40) := fun h => by
    have := evalJ_ok (fx_dep qs) ns ns.length (Nat.le_refl _) (by rw [List.take_length, hR]; exact h)
    rw [List.take_length, hR] at this
    have hl : n - 1 < js.length := by have := this.len; dsimp only at this; omega
    have e : js.getD (n - 1) j0 = js[n - 1] := by simp [List.getD, hl]
    rw [e]
    exact (L2.of_fits (Nat.le_trans (this.dep _ (List.getElem_mem hl)) (by decide)) (this.fit _ (List.getElem_mem hl))).2.1
  clear h4 hright hok hdim hln hql hg hn1 hn60 hm4 hvj hE hr hx hf hcode hR
  go_enter Tryz.func11, Tryz.ntmps11
  go_wp2_with fail
  refine calls_at (fun W => Below w.heap.size w W ∧ SlAt W w.heap.size 25 A n c ∧ RatAt W (w.heap.size + 1) 31 false none 0 0 none 0 0) ⟨below2 _ _ _, (SlAt.new _ _ _ _ _).on (below1 _ _), by
    have := RatAt.new (w.alloc (.cells #[.slice A n c] 25)) 31 false none none 0 0 0 0
    rwa [World.size_alloc] at this⟩ ?_
  rintro W ⟨hw, s0, r0⟩
  refine (HP.out W hw).mono ?_
  rintro e w1 ⟨rfl, b1⟩
  have HB1 := Lib.hid (below_on hw b1)
  have HS1 := Lib.hid (s0.on b1)
  have HT1 := Lib.hid (r0.on b1)
  have t0 := HS1.out.c0
  clear hw s0 r0 b1
  go_wp2_with fail
  refine (HJ.out w1 HB1.out).mono ?_
  rintro e w2 ⟨h2, b2⟩
  have HB2 := Lib.hid (below_on HB1.out b2)
  have HT2 := Lib.hid (HT1.out.on b2)
  clear b2 t0 HB1 HS1 HT1
  rcases h2 with ⟨h0, t, x, rfl, hj⟩ | ⟨h0, rfl⟩
  · have hfit := HFIT.out h0
    subst h0
    have HA := Lib.hid (along_any (js.getD (n - 1) j0) 0 (.iface t x) _ w2 (by omega) hj)
    generalize numJ (js.getD (n - 1) j0) 0 = r at *
    have hs2 := HT2.out.lt
    clear hj HFIT HJ HP
    go_wp2_with fail
    refine HA.out.mono ?_
    rintro e w3 ⟨A5, c5, B5, d5, rfl, o5, b3⟩
    have HB3 := Lib.hid (below_on HB2.out b3)
    have HT3 := Lib.hid (HT2.out.on b3)
    have HO5 := Lib.hid o5
    clear o5 b3
    go_wp2_with fail
    refine (fitted_yes (isNeg r) A5 B5 c5 d5 (D (nu r)) (D r.den) _ w3 HO5.out hfit.1 hfit.2).mono ?_
    rintro e w4 ⟨A1, d1, A2, d2, rfl, o3, b4⟩
    have HB4 := Lib.hid (below_on HB3.out b4)
    have HT4 := Lib.hid (HT3.out.on b4)
    have HO3 := Lib.hid o3
    have hs3 := HT3.out.lt
    have hs4 := b4.size
    clear o3 b4
    have f0 := HT4.out.fz 0
    have f1 := HT4.out.fz 1
    have f2 := HT4.out.fz 2
    have y0 := HT4.out.c0
    have y1 := HT4.out.c1
    have y2 := HT4.out.c2
    go_wp2
    have g2 := fun b u v => setAll_grown w4 (w.heap.size + 1) (.bool b) u v
    refine bodyPost_ret (retRC rfl _ _ _ rfl (HT4.out.setAll _ _ _ _ _ _ _)) rfl ?_
    exact .inl ⟨rfl, A1, d1, A2, d2, rfl, ⟨own_mono (own_gone HO3.out.1 (g2 _ _ _) (fun k hk => by have := own_block HO3.out.1 hk; omega)) (by have := HB3.out.size; omega), own_mono (own_gone HO3.out.2.1 (g2 _ _ _) (fun k hk => by have := own_block HO3.out.2.1 hk; omega)) (by have := HB3.out.size; omega), HO3.out.2.2⟩, below_grow HB4.out (by omega) (g2 _ _ _)⟩
  · have hb : (code != 0) = true := by simpa using h0
    have H0 := Lib.hid h0
    clear h0 HFIT HJ HP
    have f0 := HT2.out.fz 0
    have f1 := HT2.out.fz 1
    have f2 := HT2.out.fz 2
    have y0 := HT2.out.c0
    have y1 := HT2.out.c1
    have y2 := HT2.out.c2
    go_wp2
    have g2 := fun b u v => setAll_grown w2 (w.heap.size + 1) (.bool b) u v
    refine bodyPost_ret (retRC rfl _ _ _ rfl (HT2.out.setAll _ _ _ _ _ _ _)) rfl ?_
    exact .inr ⟨H0.out, none, 0, none, 0, rfl, ⟨World.ownsRow_nil _ _ _ _, World.ownsRow_nil _ _ _ _, fun g h e => by cases e⟩, below_grow HB2.out (by omega) (g2 _ _ _)⟩
end Go.Proofs.YtifepoefeamboaaGreatDoor
namespace Go.Proofs.YtifepoefeamboaaGreatDoor
open Go Go.RowKit Nt

set_option maxHeartbeats 3200000 in
/-- what is asked of a point and one way -/
theorem pointCode_one (right : Bool) (ns : List Nd) (A X Y : Option Addr) (g n c m d mv dv : Nat) (rs sv : List R3) (P P' P2 : Nat → Prop) (w : World) (hr : RdN w P A n c ns) (hx : RdS w P' X m d rs) (hy : RdS w P2 Y mv dv sv) (hsm : Small rs) (hsv : Small sv) (hm : m ≤ 1048576) (hmv : mv ≤ 1048576)
    (hg : g < w.heap.size) (hc : w.cell? ⟨g, 0, none⟩ = some (.slice Y mv dv))
    (hok : right = true → (∀ j, j < ns.length → fitN (ns.getD j nd0) = true) ∧ 1 ≤ n ∧ n ≤ 60) :
    Calls Tryz.prog 69 #[.bool right, .slice A n c, .slice X m d, .slice (some ⟨g, 0, none⟩) 1 1] w fun e w' => e = .returned (.int .i64 (ptCode1 right ns m mv rs sv)) ∧ Below w.heap.size w w' := by
  have HR := Lib.hid (hr.mono (Q := (· < w.heap.size)) fun _ _ h => h)
  have HX := Lib.hid hx.low
  have HY := Lib.hid hy.low
  have HS := Lib.hid hsm
  have HSV := Lib.hid hsv
  have HK := Lib.hid hok
  have HC0 := Lib.hid hc
  clear hr hx hy hsm hsv hok hc
  go_enter Tryz.func69, Tryz.ntmps69
  go_wp2_with fail
  refine calls_at (fun W => Below w.heap.size w W ∧ W.cell? ⟨w.heap.size, 0, none⟩ = some (.slice X m d)) ⟨below1 _ _, by rw [cell_of_row _ _ 0 _ _ (0, 0) (heap_alloc_new w _)]; rfl⟩ ?_
  rintro W ⟨bW, cW⟩
  have HB := Lib.hid bW
  refine (anyLongRat_any w.heap.size 1 (fun _ => X) (fun _ => m) (fun _ => d) W (by omega) (at0 (p := fun i => W.cell? ⟨w.heap.size, i, none⟩ = some (.slice X m d)) cW) (fun _ _ => hm)).mono ?_
  rintro e w1 ⟨rfl, rfl⟩
  have e1 : ((List.range 1).any fun _ => decide (4096 < m)) = decide (4096 < m) := by simp [List.range_succ]
  rw [e1]
  clear cW e1 bW
  by_cases h1 : 4096 < m
  · rw [decide_eq_true h1]
    go_wp2
    refine bodyPost_ret (results_tmp rfl _ _ _) rfl ⟨by simp [ptCode1, h1], HB.out⟩
  rw [decide_eq_false h1]
  have H1 := Lib.hid h1
  clear h1
  have e1 : ((List.range 1).any fun _ => decide (4096 < mv)) = decide (4096 < mv) := by simp [List.range_succ]
  have HL := Lib.hid (anyLongRat_any g 1 (fun _ => Y) (fun _ => mv) (fun _ => dv) W (by omega) (at0 (p := fun i => W.cell? ⟨g, i, none⟩ = some (.slice Y mv dv)) ((HB.out.cell (p := ⟨g, 0, none⟩) hg).trans HC0.out)) (fun _ _ => hmv))
  rw [e1] at HL
  clear e1
  by_cases h2 : 4096 < mv
  · have HC : Hid (ptCode1 right ns m mv rs sv = 2) := Lib.hid (by simp [ptCode1, h2])
    rw [decide_eq_true h2] at HL
    clear h2
    go_wp2_with (go_at_call 98; refine HL.out.mono ?_; rintro e w2 ⟨rfl, rfl⟩)
    refine bodyPost_ret (results_tmp rfl _ _ _) rfl ⟨by rw [HC.out]; rfl, HB.out⟩
  rw [decide_eq_false h2] at HL
  have H2 := Lib.hid h2
  clear h2
  go_upto_region 3 with (go_at_call 98; refine HL.out.mono ?_; rintro e w2 ⟨rfl, rfl⟩)
  clear HL
  cases right with
  | false =>
    have HC : Hid (ptCode1 false ns m mv rs sv = 1) := Lib.hid (by simp [ptCode1, H1.out, H2.out])
    go_wp2
    refine bodyPost_ret (results_tmp rfl _ _ _) rfl ⟨by rw [HC.out]; rfl, HB.out⟩
  | true =>
    obtain ⟨hf, hn1, hn60⟩ := HK.out rfl
    go_wp2_with fail
    refine (implVecOK_any X m d rs _ _ (HX.out.below HB.out) HS.out hm).mono ?_
    rintro e w2 ⟨rfl, b2⟩
    have HB2 := Lib.hid (below_on HB.out b2)
    clear b2
    cases hv : okV rs with
    | false =>
      have HC : Hid (ptCode1 true ns m mv rs sv = 1) := Lib.hid (by simp [ptCode1, H1.out, H2.out, hv])
      clear hv
      go_wp2
      refine bodyPost_ret (results_tmp rfl _ _ _) rfl ⟨by rw [HC.out]; rfl, HB2.out⟩
    | true =>
      have HC : Hid (ptCode1 true ns m mv rs sv = if (m : Int) < dimE ns then 8 else askV m mv rs sv) := Lib.hid (by simp [ptCode1, H1.out, H2.out, hv])
      clear hv
      go_wp2_with fail
      refine (axesOf_any A n c ns _ w2 (HR.out.below HB2.out) hf hn1 hn60).mono ?_
      rintro e w3 ⟨rfl, b3⟩
      have HB3 := Lib.hid (below_on HB2.out b3)
      clear b3
      generalize dimE ns = D at *
      by_cases h8 : (m : Int) < D
      · have HC2 : Hid (ptCode1 true ns m mv rs sv = 8) := Lib.hid (by rw [HC.out, if_pos h8])
        go_wp2
        refine bodyPost_ret (results_tmp rfl _ _ _) rfl ⟨by rw [HC2.out]; rfl, HB3.out⟩
      · have HC2 : Hid (ptCode1 true ns m mv rs sv = askV m mv rs sv) := Lib.hid (by rw [HC.out, if_neg h8])
        clear HC
        have c0 := (HB3.out.cell (p := ⟨g, 0, none⟩) hg).trans HC0.out
        have HX3 := Lib.hid (HX.out.below HB3.out)
        have HY3 := Lib.hid (HY.out.below HB3.out)
        have HV := Lib.hid (vecCode_any w3.heap.size 2 (fun i => if i = 0 then X else Y) (fun i => if i = 0 then m else mv) (fun i => if i = 0 then d else dv) (fun i => if i = 0 then rs else sv) (w3.alloc (.cells #[.slice X m d, .slice Y mv dv] 27)) (by omega) (by omega) (by simp)
          (fun i hi => by
            rw [two_cellsW w3 27 (.slice X m d) (.slice Y mv dv) i hi]
            by_cases e : i = 0 <;> simp [e])
          (fun i hi => by
            by_cases e : i = 0
            · simp only [e, if_true]; exact (HX3.out.on (below1 _ _)).low
            · simp only [e, if_false]; exact (HY3.out.on (below1 _ _)).low)
          (fun i hi => by
            by_cases e : i = 0
            · simp only [e, if_true]; exact HS.out
            · simp only [e, if_false]; exact HSV.out)
          (fun i hi => by by_cases e : i = 0 <;> simp only [e, if_true, if_false] <;> assumption))
        rw [vcode2W] at HV
        generalize hq : askV m mv rs sv = code at *
        have HQ := Lib.hid hq
        clear hq HX3 HY3
        go_wp2
        refine wp_loop_rounds 2 ?_
        rw [rounds_succ]
        by_cases h0 : code = 0
        · subst h0
          go_wp2_with fail
          refine HV.out.mono ?_
          rintro e w4 ⟨rfl, b4⟩
          have HB4 := Lib.hid (below_on (below_on HB3.out (below1 _ _)) b4)
          clear b4 c0
          go_wp2
          rw [rounds_succ]
          go_wp2
          refine bodyPost_ret (results_tmp rfl _ _ _) rfl ⟨by rw [HC2.out]; rfl, HB4.out⟩
        · have hb : (code != 0) = true := by simpa using h0
          clear h0
          go_wp2_with fail
          refine HV.out.mono ?_
          rintro e w4 ⟨rfl, b4⟩
          have HB4 := Lib.hid (below_on (below_on HB3.out (below1 _ _)) b4)
          clear b4 c0
          go_wp2
          refine bodyPost_ret (results_tmp rfl _ _ _) rfl ⟨by rw [HC2.out]; rfl, HB4.out⟩

set_option maxRecDepth 20000 in
set_option maxHeartbeats 3200000 in
/-- what stands against a place and one way -/
theorem placeCode_one (A X Y : Option Addr) (g n c m d mv dv : Nat) (ns : List Nd) (rs sv : List R3) (P P' P2 : Nat → Prop) (w : World) (hr : RdN w P A n c ns) (hx : RdS w P' X m d rs) (hy : RdS w P2 Y mv dv sv) (hsm : Small rs) (hsv : Small sv) (hn : n ≤ 1048576) (hm : m ≤ 1048576) (hmv : mv ≤ 1048576)
    (hg : g < w.heap.size) (hc : w.cell? ⟨g, 0, none⟩ = some (.slice Y mv dv)) :
    Calls Tryz.prog 39 #[.agg #[.slice A n c], .slice X m d, .slice (some ⟨g, 0, none⟩) 1 1] w fun e w' => e = .returned (.int .i64 (ptCode1 (okE ns) ns m mv rs sv)) ∧ Below w.heap.size w w' := by
  have HLN : Hid (ns.length = n) := hr.len
  have HR := Lib.hid (hr.mono (Q := (· < w.heap.size)) fun _ _ h => h)
  have HX := Lib.hid hx.low
  have HY := Lib.hid hy.low
  have HS := Lib.hid hsm
  have HSV := Lib.hid hsv
  have HCC := Lib.hid hc
  have HOK : Hid (okE ns = true → (∀ j, j < ns.length → fitN (ns.getD j nd0) = true) ∧ 1 ≤ n ∧ n ≤ 60) := fun h => by
    obtain ⟨h1, h60, hf, -⟩ := okE_out h
    have := HLN.out
    exact ⟨hf, by omega, by omega⟩
  clear hr hx hy hsm hsv hc
  go_enter Tryz.func39, Tryz.ntmps39
  go_upto_region 1 with fail
  refine wp_atJ (fun v0 => Below w.heap.size w v0 ∧ SlAt v0 w.heap.size 25 A n c) ⟨below1 _ _, SlAt.new _ _ _ _ _⟩ ?_
  rintro v0 ⟨hb, r0⟩
  have HB0 := Lib.hid hb
  have HT0 := Lib.hid r0
  have HC0 := Lib.hid r0.c0
  clear hb r0
  go_region_held3 (fun wx => wx.cell? ⟨w.heap.size, 0, none⟩ = some (.slice A n c))
    (first | exact HC0.out | exact HC1.out | exact HC2.out)
    (first
      | (go_at_call 70; refine (implExprOK_any A n c ns _ _ (by first | exact HR.out.below HB0.out | exact (HR.out.below HB0.out).drew) hn).mono ?_; rintro e w1 ⟨rfl, bb⟩; have bb := undrew bb; have HB1 := Lib.hid (below_on HB0.out bb); have HT1 := Lib.hid (HT0.out.on bb); have HC1 := Lib.hid HT1.out.c0; clear bb)
      | (go_at_call 69; refine (pointCode_one _ ns A X Y g n c m d mv dv rs sv _ _ _ _ (by exact HR.out.below HB1.out) (by exact HX.out.below HB1.out) (by exact HY.out.below HB1.out) HS.out HSV.out hm hmv (by exact Nat.lt_of_lt_of_le hg HB1.out.size) (by exact (HB1.out.cell (p := ⟨g, 0, none⟩) hg).trans HCC.out) HOK.out).mono ?_; rintro e w2 ⟨rfl, bb⟩; have HB2 := Lib.hid (below_on HB1.out bb); have HT2 := Lib.hid (HT1.out.on bb); have HC2 := Lib.hid HT2.out.c0; clear bb))
  go_wp2
  exact bodyPost_ret (results_tmp rfl _ _ _) rfl ⟨rfl, HB2.out⟩
end Go.Proofs.YtifepoefeamboaaGreatDoor
