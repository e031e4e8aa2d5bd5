/-
  One over a jet: inverse of the program, of any jet.
-/
import Derived.Test.YtifepoefeamboaaGreatDoorImplJetI
import Derived.Test.YtifepoefeamboaaGreatDoorImplJetR
namespace Go.Proofs.YtifepoefeamboaaGreatDoor
open Go Go.RowKit Nt

theorem meth_inverse_f (v : Value) (w : World) : (Go.method 334 105 v "loop.example/g00615/impl.inverse").run Tryz.prog w = .ok (193, v) w := by kernel_rfl
theorem meth_inverse_m (v : Value) (w : World) : (Go.method 334 103 v "loop.example/g00615/impl.inverse").run Tryz.prog w = .ok (190, v) w := by kernel_rfl

/-- a jet, and no error -/
def SayJE (tF tM : TypeId) (w : World) (j : Jt) (e : Ending) (w' : World) : Prop :=
  ∃ t x, e = .returned (.tuple #[.iface t x, .nilIface]) ∧ JAt tF tM w' (fun _ => True) j (.iface t x) ∧ Below w.heap.size w w'
/-- the error that stands for what is over 0 -/
def SayE (tE : TypeId) (ad : Addr) (w : World) (e : Ending) (w' : World) : Prop :=
  ∃ v, e = .returned (.tuple #[v, .iface tE (.pointer (some ad))]) ∧ Below w.heap.size w w'

set_option maxRecDepth 20000 in
set_option maxHeartbeats 1600000 in
theorem inv_fx_ok (q : Rat) (A B : Option Addr) (ca cb : Nat) (P : Nat → Prop) (w : World) (hr : RdR w P (D (nu q)) (D q.den) A ca B cb) (hl : lim q 3600) (h0 : 0 < nu q) :
    Calls Tryz.prog 193 #[.agg #[.bool (isNeg q), .slice A (D (nu q)).length ca, .slice B (D q.den).length cb]] w (SayJE 105 103 w (invJ (.fx q))) := by
  have e1 : (1 : Rat) / q = q⁻¹ := by rw [Rat.div_def, Rat.one_mul]
  have ho := inv_fx_core (isNeg q⁻¹) (D (nu q⁻¹)) (D q⁻¹.den) (D 1) .nilIface (isNeg q) A B (D (nu q)).length ca (D q.den).length cb w
    (Lib.hid fun W => by have := wholeRat_pos 1 W (by decide); exact this)
    (Lib.hid fun A1 c1 B1 d1 W h1 hb => by
      have l1 : (D (nu (1 : Rat))).length ≤ 3600 := by decide
      have l2 : (D (1 : Rat).den).length ≤ 3600 := by decide
      have := over_ok 1 q A1 B1 c1 d1 A B ca cb _ _ W (by rw [one_parts.1, one_parts.2.1]; exact h1) (hr.on hb) l1 l2 hl.1 hl.2 h0
      rw [e1, one_parts.1, one_parts.2.1, one_parts.2.2] at this
      exact this)
  refine ho.mono ?_
  rintro e w' ⟨A5, c5, B5, d5, rfl, o, bb⟩
  rw [invJ]
  exact ⟨_, _, rfl, ⟨A5, c5, B5, d5, rfl, o⟩, bb⟩

theorem rdr_none (w : World) (P : Nat → Prop) : RdR w P [] [] none 0 none 0 := ⟨⟨rfl, Nat.le_refl _, fun _ => rfl, fun h => absurd h (Nat.lt_irrefl _)⟩, ⟨rfl, Nat.le_refl _, fun _ => rfl, fun h => absurd h (Nat.lt_irrefl _)⟩⟩

set_option maxRecDepth 20000 in
set_option maxHeartbeats 1600000 in
theorem inv_fx_zero (q : Rat) (A B : Option Addr) (ca cb : Nat) (w : World) (ad : Addr) (hE : ErrAt 195 w ad) (h0 : nu q = 0) :
    Calls Tryz.prog 193 #[.agg #[.bool (isNeg q), .slice A (D (nu q)).length ca, .slice B (D q.den).length cb]] w (SayE 195 ad w) := by
  have hz : (D (nu q)).length = 0 := by rw [h0, D_zero]; rfl
  rw [hz]
  have ho := inv_fx_core false [] [] (D 1) (.iface 195 (.pointer (some ad))) (isNeg q) A B 0 ca (D q.den).length cb w
    (Lib.hid fun W => by have := wholeRat_pos 1 W (by decide); exact this)
    (Lib.hid fun A1 c1 B1 d1 W h1 hb => (over_zero false (isNeg q) A1 B1 (D 1).length c1 (D 1).length d1 A B ca (D q.den).length cb ad W (hE.on hb)).mono (by
      rintro e w' ⟨rfl, bb⟩
      exact ⟨none, 0, none, 0, rfl, rdr_none _ _, bb⟩))
  refine ho.mono ?_
  rintro e w' ⟨A5, c5, B5, d5, rfl, o, bb⟩
  exact ⟨_, rfl, bb⟩

set_option maxRecDepth 20000 in
set_option maxHeartbeats 1600000 in
theorem inv_step (a s : Jt) (ta ts : TypeId) (xa xs : Value) (K : FuncId) (w : World) (ma : ∀ w, (Go.method 334 ta xa "loop.example/g00615/impl.inverse").run Tryz.prog w = .ok (K, xa) w)
    (h1 : Hid (∀ W, Below w.heap.size w W → Calls Tryz.prog K #[xa] W (SayJE 105 103 W (invJ a))))
    (hs : Hid (JAt 105 103 w (fun _ => True) s (.iface ts xs))) (hp : Hid (ProdFit (invJ a) (invJ a))) (hq : Hid (ProdFit s (prodJ (invJ a) (invJ a)))) (ht : Hid (ProdFit (.fx ((-1 : Int) : Rat)) (prodJ s (prodJ (invJ a) (invJ a)))))
    (hk : K = 193 ∨ K = 190) :
    Calls Tryz.prog 190 #[.agg #[.iface ta xa, .iface ts xs]] w (SayJE 105 103 w (invJ (.mv a s))) := by
  rw [invJ]
  generalize invJ a = ia at *
  rcases hk with rfl | rfl
  all_goals (
    go_enter Tryz.func190, Tryz.ntmps190
    go_upto_region 1 with fail
    refine wp_atJ (fun v0 => Below w.heap.size w v0 ∧ PartsAt v0 w.heap.size ta xa ts xs) ⟨below1 _ _, PartsAt.new _ _ _ _ _ _⟩ ?_
    rintro v0 ⟨hb, r0⟩
    have HB0 := Lib.hid hb
    have HQ0 := Lib.hid r0
    have c0 := r0.1.1
    clear hb r0
    go_upto_region 4 with (first
      | (go_at_call_of 193 xa; refine (h1.out _ HB0.out).mono ?_; rintro e w1 ⟨t1, x1, rfl, j1, bb⟩; have HJ1 := Lib.hid j1; have HQ1 := Lib.hid (HQ0.out.on bb); have HB1 := Lib.hid (below_on HB0.out bb); clear j1 bb)
      | (go_at_call_of 190 xa; refine (h1.out _ HB0.out).mono ?_; rintro e w1 ⟨t1, x1, rfl, j1, bb⟩; have HJ1 := Lib.hid j1; have HQ1 := Lib.hid (HQ0.out.on bb); have HB1 := Lib.hid (below_on HB0.out bb); clear j1 bb))
    clear c0
    go_region_held3 (fun wx => wx.cell? ⟨w.heap.size, 0, none⟩ = some (.iface ta xa) ∧ wx.cell? ⟨w.heap.size, 1, none⟩ = some (.iface ts xs))
      (first | exact HQ1.out.1 | exact HQ2.out.1 | exact HQ3.out.1 | exact HQ4.out.1)
      (first
        | (go_at_call_of 133 xs; refine (productOf_any _ _ _ _ _ _ _ (by exact hs.out.on HB2.out) (by exact HJ2.out) hq.out).mono ?_; rintro e w3 ⟨v3, rfl, j3, bb⟩; obtain ⟨t3, x3, rfl⟩ := j3.shape; have HJ3 := Lib.hid j3; have HJ1'' := Lib.hid (HJ1'.out.on bb); have HQ3 := Lib.hid (HQ2.out.on bb); have HB3 := Lib.hid (below_on HB2.out bb); clear j3 bb)
        | (go_at_call_of 133 x1; refine (productOf_any _ _ _ _ _ _ _ (by first | exact HJ1.out | exact HJ1.out.on (below_drewJ (Below.refl _ _))) (by first | exact HJ1.out | exact HJ1.out.on (below_drewJ (Below.refl _ _))) hp.out).mono ?_; rintro e w2 ⟨v2, rfl, j2, bb⟩; have bb := undrew bb; obtain ⟨t2, x2, rfl⟩ := j2.shape; have HJ2 := Lib.hid j2; have HJ1' := Lib.hid (HJ1.out.on bb); have HQ2 := Lib.hid (HQ1.out.on bb); have HB2 := Lib.hid (below_on HB1.out bb); clear j2 bb)
        | (go_at_call 132; refine (timesOf_any (-1) _ _ _ _ (by exact HJ3.out) (by decide) (by decide) ht.out).mono ?_; rintro e w4 ⟨v4, rfl, j4, bb⟩; obtain ⟨t4, x4, rfl⟩ := j4.shape; have HJ4 := Lib.hid j4; have HJ1''' := Lib.hid (HJ1''.out.on bb); have HQ4 := Lib.hid (HQ3.out.on bb); have HB4 := Lib.hid (below_on HB3.out bb); clear j4 bb))
    go_wp2
    refine bodyPost_ret (results_tmp2 rfl _ _ _) rfl ?_
    exact ⟨_, _, rfl, ⟨_, _, rfl, HJ1'''.out, HJ4.out⟩, HB4.out⟩)

set_option maxRecDepth 20000 in
set_option maxHeartbeats 1600000 in
theorem inv_none (ta ts : TypeId) (xa xs : Value) (K : FuncId) (w : World) (ad : Addr) (ma : ∀ w, (Go.method 334 ta xa "loop.example/g00615/impl.inverse").run Tryz.prog w = .ok (K, xa) w)
    (h1 : Hid (∀ W, Below w.heap.size w W → Calls Tryz.prog K #[xa] W (SayE 195 ad W)))
    (hk : K = 193 ∨ K = 190) :
    Calls Tryz.prog 190 #[.agg #[.iface ta xa, .iface ts xs]] w (SayE 195 ad w) := by
  rcases hk with rfl | rfl
  all_goals (
    go_enter Tryz.func190, Tryz.ntmps190
    go_upto_region 1 with fail
    refine wp_atJ (fun v0 => Below w.heap.size w v0 ∧ PartsAt v0 w.heap.size ta xa ts xs) ⟨below1 _ _, PartsAt.new _ _ _ _ _ _⟩ ?_
    rintro v0 ⟨hb, r0⟩
    have HB0 := Lib.hid hb
    have c0 := r0.1.1
    clear hb r0
    go_wp2_with (first
      | (go_at_call_of 193 xa; refine (h1.out _ HB0.out).mono ?_; rintro e w1 ⟨v1, rfl, bb⟩; have HB1 := Lib.hid (below_on HB0.out bb); clear bb)
      | (go_at_call_of 190 xa; refine (h1.out _ HB0.out).mono ?_; rintro e w1 ⟨v1, rfl, bb⟩; have HB1 := Lib.hid (below_on HB0.out bb); clear bb))
    refine bodyPost_ret (results_tmp2 rfl _ _ _) rfl ?_
    exact ⟨_, rfl, HB1.out⟩)

/-- one over a jet: by its own method, and what that answers -/
theorem jinv_any : ∀ (j : Jt) (t : TypeId) (x : Value) (P : Nat → Prop) (w : World) (ad : Addr), ErrAt 195 w ad → JAt 105 103 w P j (.iface t x) → InvFit j →
    ∃ K, (K = 193 ∨ K = 190) ∧ (∀ w, (Go.method 334 t x "loop.example/g00615/impl.inverse").run Tryz.prog w = .ok (K, x) w) ∧ ∀ W, Below w.heap.size w W → (0 < nu (numJ j 0) → Calls Tryz.prog K #[x] W (SayJE 105 103 W (invJ j))) ∧ (nu (numJ j 0) = 0 → Calls Tryz.prog K #[x] W (SayE 195 ad W))
  | .fx q, t, x, P, w, ad, hE, h, he => by
    obtain ⟨A, ca, B, cb, e, hr⟩ := h
    cases e
    refine ⟨_, .inl rfl, fun w => meth_inverse_f _ w, fun W hb => ⟨fun h0 => ?_, fun h0 => ?_⟩⟩
    · rw [numJ] at h0; exact inv_fx_ok q A B ca cb _ W (hr.on hb) he h0
    · rw [numJ] at h0; exact inv_fx_zero q A B ca cb W ad (hE.on hb) h0
  | .mv a s, t, x, P, w, ad, hE, h, he => by
    obtain ⟨va, vs, e, ha, hs⟩ := h
    obtain ⟨ta, xa, rfl⟩ := ha.shape
    obtain ⟨ts, xs, rfl⟩ := hs.shape
    cases e
    obtain ⟨e1, e2, e3, e4⟩ := he
    obtain ⟨K, k1, k2, k3⟩ := jinv_any a ta xa P w ad hE ha e1
    refine ⟨_, .inr rfl, fun w => meth_inverse_m _ w, fun W hb => ⟨fun h0 => ?_, fun h0 => ?_⟩⟩
    · rw [numJ] at h0
      exact inv_step a s ta ts xa xs K W k2 (Lib.hid fun V hv => (k3 V (below_on hb hv)).1 h0) (Lib.hid (hs.any.on hb)) (Lib.hid e2) (Lib.hid e3) (Lib.hid e4) k1
    · rw [numJ] at h0
      exact inv_none ta ts xa xs K W ad k2 (Lib.hid fun V hv => (k3 V (below_on hb hv)).2 h0) k1
end Go.Proofs.YtifepoefeamboaaGreatDoor
