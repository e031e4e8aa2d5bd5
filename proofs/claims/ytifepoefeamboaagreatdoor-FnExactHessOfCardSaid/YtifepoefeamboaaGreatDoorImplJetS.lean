/-
  Powers of jets that move.
-/
import Derived.Test.YtifepoefeamboaaGreatDoorImplJetR
namespace Go.Proofs.YtifepoefeamboaaGreatDoor
open Go Go.RowKit Nt

set_option maxRecDepth 20000 in
set_option maxHeartbeats 1600000 in
theorem raised_step (a s : Jt) (n : Nat) (N : Int) (hn0 : 1 ≤ N) (hn : N ≤ 8) (ta ts : TypeId) (xa xs : Value) (K : FuncId) (w : World) (ma : ∀ w, (Go.method 334 ta xa "loop.example/g00615/impl.raised").run Tryz.prog w = .ok (K, xa) w)
    (h1 : Hid (∀ W, Below w.heap.size w W → Calls Tryz.prog K #[xa, .int .i64 (N - 1)] W (SayJ 105 103 W (raiseJ a (n - 1)))))
    (h2 : Hid (∀ W, Below w.heap.size w W → Calls Tryz.prog K #[xa, .int .i64 N] W (SayJ 105 103 W (raiseJ a n))))
    (hs : Hid (JAt 105 103 w (fun _ => True) s (.iface ts xs))) (hp : Hid (ProdFit (raiseJ a (n - 1)) s)) (ht : Hid (ProdFit (.fx ((N : Int) : Rat)) (prodJ (raiseJ a (n - 1)) s)))
    (hk : K = 194 ∨ K = 191) :
    Calls Tryz.prog 191 #[.agg #[.iface ta xa, .iface ts xs], .int .i64 N] w (SayJ 105 103 w (.mv (raiseJ a n) (timesJ N (prodJ (raiseJ a (n - 1)) s)))) := by
  have hmax : max (N - 1) 0 = N - 1 := by omega
  have hlt : ¬ (N - 1 < 0) := by omega
  rcases hk with rfl | rfl
  all_goals (
    go_enter Tryz.func191, Tryz.ntmps191
    go_upto_region 1 with fail
    refine wp_atJ (fun v0 => Below w.heap.size w v0 ∧ PartsAt v0 w.heap.size ta xa ts xs) ⟨below1 _ _, PartsAt.new _ _ _ _ _ _⟩ ?_
    rintro v0 ⟨hb, r0⟩
    have HB0 := Lib.hid hb
    have HQ0 := Lib.hid r0
    have c0 := r0.1.1
    clear hb r0
    go_upto_region 2 with (first
      | (go_at_call_of 194 xa; refine (h1.out _ HB0.out).mono ?_; rintro e w1 ⟨v1, rfl, j1, bb⟩; obtain ⟨t1, x1, rfl⟩ := j1.shape; have HJ1 := Lib.hid j1; have HQ1 := Lib.hid (HQ0.out.on bb); have HB1 := Lib.hid (below_on HB0.out bb); clear j1 bb)
      | (go_at_call_of 191 xa; refine (h1.out _ HB0.out).mono ?_; rintro e w1 ⟨v1, rfl, j1, bb⟩; obtain ⟨t1, x1, rfl⟩ := j1.shape; have HJ1 := Lib.hid j1; have HQ1 := Lib.hid (HQ0.out.on bb); have HB1 := Lib.hid (below_on HB0.out bb); clear j1 bb))
    clear c0
    go_region_held3 (fun wx => wx.cell? ⟨w.heap.size, 0, none⟩ = some (.iface ta xa) ∧ wx.cell? ⟨w.heap.size, 1, none⟩ = some (.iface ts xs))
      (first | exact HQ1.out.1 | exact HQ2.out.1 | exact HQ3.out.1 | exact HQ4.out.1)
      (first
        | (go_at_call_of 194 xa; refine (h2.out _ (by exact below_drewJ HB1.out)).mono ?_; rintro e w2 ⟨v2, rfl, j2, bb⟩; have bb := undrew bb; obtain ⟨t2, x2, rfl⟩ := j2.shape; have HJ2 := Lib.hid j2; have HJ1' := Lib.hid (HJ1.out.on bb); have HQ2 := Lib.hid (HQ1.out.on bb); have HB2 := Lib.hid (below_on HB1.out bb); clear j2 bb)
        | (go_at_call_of 191 xa; refine (h2.out _ (by exact below_drewJ HB1.out)).mono ?_; rintro e w2 ⟨v2, rfl, j2, bb⟩; have bb := undrew bb; obtain ⟨t2, x2, rfl⟩ := j2.shape; have HJ2 := Lib.hid j2; have HJ1' := Lib.hid (HJ1.out.on bb); have HQ2 := Lib.hid (HQ1.out.on bb); have HB2 := Lib.hid (below_on HB1.out bb); clear j2 bb)
        | (go_at_call 133; refine (productOf_any _ _ _ _ _ _ _ (by exact HJ1'.out) (by exact hs.out.on HB2.out) hp.out).mono ?_; rintro e w3 ⟨v3, rfl, j3, bb⟩; obtain ⟨t3, x3, rfl⟩ := j3.shape; have HJ3 := Lib.hid j3; have HJ2' := Lib.hid (HJ2.out.on bb); have HQ3 := Lib.hid (HQ2.out.on bb); have HB3 := Lib.hid (below_on HB2.out bb); clear j3 bb)
        | (go_at_call 132; refine (timesOf_any N _ _ _ _ (by exact HJ3.out) (by omega) (by omega) ht.out).mono ?_; rintro e w4 ⟨v4, rfl, j4, bb⟩; obtain ⟨t4, x4, rfl⟩ := j4.shape; have HJ4 := Lib.hid j4; have HJ2'' := Lib.hid (HJ2'.out.on bb); have HQ4 := Lib.hid (HQ3.out.on bb); have HB4 := Lib.hid (below_on HB3.out bb); clear j4 bb))
    go_wp2
    refine bodyPost_ret (results_tmp rfl _ _ _) rfl ?_
    exact ⟨_, rfl, ⟨_, _, rfl, HJ2''.out, HJ4.out⟩, HB4.out⟩)

set_option maxRecDepth 20000 in
set_option maxHeartbeats 1600000 in
theorem raised_zero (a s : Jt) (ta ts : TypeId) (xa xs : Value) (K : FuncId) (w : World) (ma : ∀ w, (Go.method 334 ta xa "loop.example/g00615/impl.raised").run Tryz.prog w = .ok (K, xa) w)
    (h1 : Hid (∀ W, Below w.heap.size w W → Calls Tryz.prog K #[xa, .int .i64 0] W (SayJ 105 103 W (raiseJ a 0))))
    (h2 : Hid (∀ W, Below w.heap.size w W → Calls Tryz.prog K #[xa, .int .i64 0] W (SayJ 105 103 W (raiseJ a 0))))
    (hs : Hid (JAt 105 103 w (fun _ => True) s (.iface ts xs))) (hp : Hid (ProdFit (raiseJ a 0) s)) (ht : Hid (ProdFit (.fx ((0 : Int) : Rat)) (prodJ (raiseJ a 0) s)))
    (hk : K = 194 ∨ K = 191) :
    Calls Tryz.prog 191 #[.agg #[.iface ta xa, .iface ts xs], .int .i64 0] w (SayJ 105 103 w (.mv (raiseJ a 0) (timesJ 0 (prodJ (raiseJ a 0) s)))) := by
  rcases hk with rfl | rfl
  all_goals (
    go_enter Tryz.func191, Tryz.ntmps191
    go_upto_region 1 with fail
    refine wp_atJ (fun v0 => Below w.heap.size w v0 ∧ PartsAt v0 w.heap.size ta xa ts xs) ⟨below1 _ _, PartsAt.new _ _ _ _ _ _⟩ ?_
    rintro v0 ⟨hb, r0⟩
    have HB0 := Lib.hid hb
    have HQ0 := Lib.hid r0
    have c0 := r0.1.1
    clear hb r0
    go_upto_region 2 with (first
      | (go_at_call_of 194 xa; refine (h1.out _ HB0.out).mono ?_; rintro e w1 ⟨v1, rfl, j1, bb⟩; obtain ⟨t1, x1, rfl⟩ := j1.shape; have HJ1 := Lib.hid j1; have HQ1 := Lib.hid (HQ0.out.on bb); have HB1 := Lib.hid (below_on HB0.out bb); clear j1 bb)
      | (go_at_call_of 191 xa; refine (h1.out _ HB0.out).mono ?_; rintro e w1 ⟨v1, rfl, j1, bb⟩; obtain ⟨t1, x1, rfl⟩ := j1.shape; have HJ1 := Lib.hid j1; have HQ1 := Lib.hid (HQ0.out.on bb); have HB1 := Lib.hid (below_on HB0.out bb); clear j1 bb))
    clear c0
    go_region_held3 (fun wx => wx.cell? ⟨w.heap.size, 0, none⟩ = some (.iface ta xa) ∧ wx.cell? ⟨w.heap.size, 1, none⟩ = some (.iface ts xs))
      (first | exact HQ1.out.1 | exact HQ2.out.1 | exact HQ3.out.1 | exact HQ4.out.1)
      (first
        | (go_at_call_of 194 xa; refine (h2.out _ (by exact below_drewJ HB1.out)).mono ?_; rintro e w2 ⟨v2, rfl, j2, bb⟩; have bb := undrew bb; obtain ⟨t2, x2, rfl⟩ := j2.shape; have HJ2 := Lib.hid j2; have HJ1' := Lib.hid (HJ1.out.on bb); have HQ2 := Lib.hid (HQ1.out.on bb); have HB2 := Lib.hid (below_on HB1.out bb); clear j2 bb)
        | (go_at_call_of 191 xa; refine (h2.out _ (by exact below_drewJ HB1.out)).mono ?_; rintro e w2 ⟨v2, rfl, j2, bb⟩; have bb := undrew bb; obtain ⟨t2, x2, rfl⟩ := j2.shape; have HJ2 := Lib.hid j2; have HJ1' := Lib.hid (HJ1.out.on bb); have HQ2 := Lib.hid (HQ1.out.on bb); have HB2 := Lib.hid (below_on HB1.out bb); clear j2 bb)
        | (go_at_call 133; refine (productOf_any _ _ _ _ _ _ _ (by exact HJ1'.out) (by exact hs.out.on HB2.out) hp.out).mono ?_; rintro e w3 ⟨v3, rfl, j3, bb⟩; obtain ⟨t3, x3, rfl⟩ := j3.shape; have HJ3 := Lib.hid j3; have HJ2' := Lib.hid (HJ2.out.on bb); have HQ3 := Lib.hid (HQ2.out.on bb); have HB3 := Lib.hid (below_on HB2.out bb); clear j3 bb)
        | (go_at_call 132; refine (timesOf_any 0 _ _ _ _ (by exact HJ3.out) (by decide) (by decide) ht.out).mono ?_; rintro e w4 ⟨v4, rfl, j4, bb⟩; obtain ⟨t4, x4, rfl⟩ := j4.shape; have HJ4 := Lib.hid j4; have HJ2'' := Lib.hid (HJ2'.out.on bb); have HQ4 := Lib.hid (HQ3.out.on bb); have HB4 := Lib.hid (below_on HB3.out bb); clear j4 bb))
    go_wp2
    refine bodyPost_ret (results_tmp rfl _ _ _) rfl ?_
    exact ⟨_, rfl, ⟨_, _, rfl, HJ2''.out, HJ4.out⟩, HB4.out⟩)

/-- a jet's power: by its own method, and what that answers -/
theorem jraised_any : ∀ (j : Jt) (n : Nat) (t : TypeId) (x : Value) (P : Nat → Prop) (w : World), n ≤ 8 → JAt 105 103 w P j (.iface t x) → RaiseFit j n →
    ∃ K, (K = 194 ∨ K = 191) ∧ (∀ w, (Go.method 334 t x "loop.example/g00615/impl.raised").run Tryz.prog w = .ok (K, x) w) ∧ ∀ W, Below w.heap.size w W → Calls Tryz.prog K #[x, .int .i64 (n : Int)] W (SayJ 105 103 W (raiseJ j n))
  | .fx q, n, t, x, P, w, hn, h, he => by
    obtain ⟨A, ca, B, cb, e, hr⟩ := h
    cases e
    exact ⟨_, .inl rfl, fun w => meth_raised_f _ w, fun W hb => raised_fx q n hn A B ca cb _ W (hr.on hb) he.1 he.2⟩
  | .mv a s, n, t, x, P, w, hn, h, he => by
    obtain ⟨va, vs, e, ha, hs⟩ := h
    obtain ⟨ta, xa, rfl⟩ := ha.shape
    obtain ⟨ts, xs, rfl⟩ := hs.shape
    cases e
    obtain ⟨e1, e2, e3, e4⟩ := he
    obtain ⟨K, k1, k2, k3⟩ := jraised_any a n ta xa P w hn ha e1
    obtain ⟨L, l1, l2, l3⟩ := jraised_any a (n - 1) ta xa P w (by omega) ha e2
    have hKL : L = K := by
      have := (l2 w).symm.trans (k2 w)
      simpa using this
    subst hKL
    refine ⟨_, .inr rfl, fun w => meth_raised_m _ w, fun W hb => ?_⟩
    rw [raiseJ]
    by_cases h0 : n = 0
    · subst h0
      exact raised_zero a s ta ts xa xs L W l2 (Lib.hid fun V hv => l3 V (below_on hb hv)) (Lib.hid fun V hv => k3 V (below_on hb hv)) (Lib.hid (hs.any.on hb)) (Lib.hid e3) (Lib.hid e4) l1
    · refine raised_step a s n (n : Int) (by omega) (by omega) ta ts xa xs L W l2 (Lib.hid fun V hv => ?_) (Lib.hid fun V hv => k3 V (below_on hb hv)) (Lib.hid (hs.any.on hb)) (Lib.hid e3) (Lib.hid e4) l1
      have := l3 V (below_on hb hv)
      rwa [show ((n - 1 : Nat) : Int) = (n : Int) - 1 by omega] at this
end Go.Proofs.YtifepoefeamboaaGreatDoor
