/-
  What an expression is worth at a place: l06Value, ValueOf of the model.
-/
import Derived.Test.YtifepoefeamboaaGreatDoorSpecEval
import Derived.Test.YtifepoefeamboaaGreatDoorJoE
namespace Nt
open Go Go.RowKit
/-- the last node's number, or a code -/
def SayVal (w : World) (n : Nat) (js : List Q4) (code : Int) (e : Ending) (w' : World) : Prop :=
  (code = 0 ∧ SayRC' w (isNeg (js.getD (n - 1) q40).f) (D (nu (js.getD (n - 1) q40).f)) (D (js.getD (n - 1) q40).f.den) 0 e w') ∨ (code ≠ 0 ∧ SayRC' w false [] [] code e w')
end Nt
namespace Go.Proofs.YtifepoefeamboaaGreatDoor
open Go Go.RowKit Nt

set_option maxHeartbeats 3200000 in
theorem l06Value_any (A X : Option Addr) (n c m d : Nat) (ns : List Nd) (qs : List Rat) (js : List Q4) (code : Int) (P P' : Nat → Prop) (w : World) (hr : RdN w P A n c ns) (hx : RdS w P' X m d (qs.map rat3)) (hf : Fine qs)
    (hg : ∀ k, k < n → fitN (ns.getD k nd0) = true ∧ behind (ns.getD k nd0) k = true ∧ ((ns.getD k nd0).1 = 2 → (ns.getD k nd0).2.2.2 < m)) (hn1 : 1 ≤ n) (hn : n ≤ 60) (hm : m ≤ 4096) (hR : eval4 qs (noughts m) (noughts m) ns = (js, code)) :
    Calls Tryz.prog 44 #[.agg #[.slice A n c], .slice X m d] w (SayVal w n js code) := by
  have HLN : Hid (ns.length = n) := hr.len
  have HR := Lib.hid (hr.mono (Q := (· < w.heap.size)) fun _ _ h => h)
  have HX := Lib.hid hx.low
  have HFIT : Hid (code = 0 → lims (js.getD (n - 1) q40) 40) := fun h => by
    have e := HLN.out
    have := eval4_ok qs (noughts m) (noughts m) ns ns.length (Nat.le_refl _) (by rw [List.take_length, hR]; exact h)
    rw [List.take_length, hR] at this
    exact getQ_fit this.2 (n - 1) (by rw [this.1]; omega)
  have HE := Lib.hid (fun (Z : Option Addr) (dz : Nat) (W : World) (hb : Below w.heap.size w W) (hz : RdS W (fun _ => True) Z m dz ((noughts m).map rat3)) => l06Eval_any A X Z Z n c m d dz dz ns qs (noughts m) (noughts m) _ _ _ _ W (HR.out.below hb) (HX.out.below hb) hz hz hf (fine_noughts m) (fine_noughts m) hg hn1 hn)
  rw [hR] at HE
  clear hr hx hf hg hR
  go_enter Tryz.func44, Tryz.ntmps44
  go_wp2_with fail
  refine calls_at (fun W => Below w.heap.size w W ∧ SlAt W w.heap.size 25 A n c ∧ RatAt W (w.heap.size + 1) 31 false none 0 0 none 0 0) ⟨below2 _ _ _, (SlAt.new _ _ _ _ _).on (below1 _ _), by
    have := RatAt.new (w.alloc (.cells #[.slice A n c] 25)) 31 false none none 0 0 0 0
    rwa [World.size_alloc] at this⟩ ?_
  rintro W ⟨hb, s0, r0⟩
  refine (l06Zeros_any m hm W).mono ?_
  rintro e w1 ⟨Z, dz, rfl, hz, b1⟩
  have HB1 := Lib.hid (below_on hb b1)
  have HS1 := Lib.hid (s0.on b1)
  have HR1 := Lib.hid (r0.on b1)
  have HZ1 := Lib.hid hz
  have t0 := HS1.out.c0
  clear hb s0 r0 hz b1
  go_wp2_with fail
  refine (HE.out Z dz w1 HB1.out HZ1.out).mono ?_
  rintro e w2 h2
  unfold SayE4 at h2
  dsimp only at h2
  rcases h2 with ⟨h0, v, rfl, qv, b2⟩ | ⟨h0, rfl, b2⟩
  · have hfit := HFIT.out h0
    generalize hqq : js.getD (n - 1) q40 = q at *
    obtain ⟨Af0, cf0, Bf0, df0, Af1, cf1, Bf1, df1, Af2, cf2, Bf2, df2, Af3, cf3, Bf3, df3, rfl, q0, -⟩ := qv
    have HB2 := Lib.hid (below_on HB1.out b2)
    have HR2 := Lib.hid (HR1.out.on b2)
    have HQ := Lib.hid q0
    have hl1 : (D (nu q.f)).length ≤ 16777216 := Nat.le_trans hfit.1.1 (by decide)
    have hl2 : (D q.f.den).length ≤ 16777216 := Nat.le_trans hfit.1.2 (by decide)
    have hs := HB2.out.size
    subst h0
    clear q0 b2 t0 HS1 HR1 HB1 HZ1 HE HFIT hfit
    go_upto_region 3 with fail
    refine wp_at (fun v0 => Below w2.heap.size w2 v0 ∧ ∃ x3 x4 x5 x6 x7 x8 x9 xa xb, Q4At v0 w2.heap.size 84 (.bool (isNeg q.f)) (.slice Af0 (D (nu q.f)).length cf0) (.slice Bf0 (D q.f.den).length df0) x3 x4 x5 x6 x7 x8 x9 xa xb) ⟨below1 _ _, _, _, _, _, _, _, _, _, _, Q4At.new _ _ _ _ _ _ _ _ _ _ _ _ _ _⟩ ?_
    rintro v0 ⟨b0, x3, x4, x5, x6, x7, x8, x9, xa, xb, j0⟩
    have HB3 := Lib.hid (below_on HB2.out b0)
    have HR3 := Lib.hid (HR2.out.on b0)
    have HQ3 := Lib.hid (HQ.out.on b0)
    have c0 := j0.c0
    have c1 := j0.c1
    have c2 := j0.c2
    clear b0 j0 HB2 HR2 HQ
    go_wp2_with fail
    refine (l02Own_any (isNeg q.f) Af0 Bf0 cf0 df0 (D (nu q.f)) (D q.f.den) _ v0 HQ3.out hl1 hl2).mono ?_
    rintro e w3 ⟨A1, d1, A2, d2, rfl, o3, b3⟩
    have HB4 := Lib.hid (below_on HB3.out b3)
    have HT3 := Lib.hid (HR3.out.on b3)
    have HO3 := Lib.hid o3
    clear o3 b3 c0 c1 c2 HB3 HR3 HQ3
    have f0 := HT3.out.fz 0
    have f1 := HT3.out.fz 1
    have f2 := HT3.out.fz 2
    have y0 := HT3.out.c0
    have y1 := HT3.out.c1
    have y2 := HT3.out.c2
    go_wp2
    have g2 := fun b u v => setAll_grown w3 (w.heap.size + 1) (.bool b) u v
    refine bodyPost_ret (retRC rfl _ _ _ rfl (HT3.out.setAll _ _ _ _ _ _ _)) rfl ?_
    unfold SayVal
    rw [hqq]
    exact .inl ⟨rfl, A1, d1, A2, d2, rfl, ⟨HO3.out.1.past HT3.out (g2 _ _ _), HO3.out.2.past HT3.out (g2 _ _ _)⟩, below_grow HB4.out (by omega) (g2 _ _ _)⟩
  · have hb : (code != 0) = true := by simpa using h0
    have H0 := Lib.hid h0
    have HB2 := Lib.hid (below_on HB1.out b2)
    have HR2 := Lib.hid (HR1.out.on b2)
    clear h0 b2 t0 HS1 HR1 HB1 HZ1 HE HFIT
    go_upto_region 3 with fail
    refine wp_at (fun v0 => Below w2.heap.size w2 v0) (below1 _ _) ?_
    rintro w3 b0
    have HB3 := Lib.hid (below_on HB2.out b0)
    have HT3 := Lib.hid (HR2.out.on b0)
    clear b0 HB2 HR2
    have f0 := HT3.out.fz 0
    have f1 := HT3.out.fz 1
    have f2 := HT3.out.fz 2
    have y0 := HT3.out.c0
    have y1 := HT3.out.c1
    have y2 := HT3.out.c2
    go_wp2
    have g2 := fun b u v => setAll_grown w3 (w.heap.size + 1) (.bool b) u v
    refine bodyPost_ret (retRC rfl _ _ _ rfl (HT3.out.setAll _ _ _ _ _ _ _)) rfl ?_
    exact .inr ⟨H0.out, none, 0, none, 0, rfl, ⟨Rd.nil_ _ _ _ _ (fun _ => rfl), Rd.nil_ _ _ _ _ (fun _ => rfl)⟩, below_grow HB3.out (by omega) (g2 _ _ _)⟩
set_option maxHeartbeats 3200000 in
theorem specValueOf_ok (A X : Option Addr) (n c m d : Nat) (ns : List Nd) (qs : List Rat) (P P' : Nat → Prop) (w : World) (hr : RdN w P A n c ns) (hx : RdS w P' X m d (qs.map rat3)) (hf : Fine qs) (hn : n ≤ 1048576) (hm : m ≤ 1048576) (hcode : ptCode (okE ns) ns m (qs.map rat3) = 0) (js : List Q4) (code : Int) (hR : eval4 qs (noughts m) (noughts m) ns = (js, code)) :
    Calls Tryz.prog 12 #[.agg #[.slice A n c], .slice X m d] w (SayVal w n js code) := by
  obtain ⟨h4, hright, hok, hdim⟩ := ptCode_zero hcode
  have hln : ns.length = n := hr.len
  obtain ⟨hg, hn1, hn60⟩ := okE_at hln hright hdim
  have z1 : decide ((4096 : Int) < m) = false := by simp; omega
  have HA := Lib.hid (fun W (hw : Below w.heap.size w W) => l06Ask_any A X n c m d ns (qs.map rat3) _ _ W (hr.on hw) (hx.on hw) (small_fine hf) hn hm)
  rw [hcode] at HA
  have HV := Lib.hid (fun W (hw : Below w.heap.size w W) => l06Value_any A X n c m d ns qs js code _ _ W (hr.on hw) (hx.on hw) hf hg hn1 hn60 h4 hR)
  clear h4 hright hok hdim hln hg hn1 hn60 hr hx hf hcode hR
  go_enter Tryz.func12, Tryz.ntmps12
  go_upto_region 3 with fail
  refine wp_at (fun W => Below w.heap.size w W ∧ SlAt W w.heap.size 25 A n c ∧ RatAt W (w.heap.size + 1) 31 false none 0 0 none 0 0) ⟨below2 _ _ _, (SlAt.new _ _ _ _ _).on (below1 _ _), by
    have := RatAt.new (w.alloc (.cells #[.slice A n c] 25)) 31 false none none 0 0 0 0
    rwa [World.size_alloc] at this⟩ ?_
  rintro W ⟨hw, s0, r0⟩
  have t0 := s0.c0
  go_wp2_with fail
  refine (HA.out W hw).mono ?_
  rintro e w1 ⟨rfl, b1⟩
  have HB1 := Lib.hid (below_on hw b1)
  have HS1 := Lib.hid (s0.on b1)
  have HT1 := Lib.hid (r0.on b1)
  have t1 := HS1.out.c0
  clear hw s0 r0 b1 t0
  go_wp2_with fail
  refine (HV.out w1 HB1.out).mono ?_
  rintro e w2 h2
  rcases h2 with ⟨h0, Av, cv, Bv, dv, rfl, o2, b2⟩ | ⟨h0, Av, cv, Bv, dv, rfl, o2, b2⟩
  all_goals
    have H0 := Lib.hid h0
    have HO2 := Lib.hid o2
    have HB2 := Lib.hid (below_on HB1.out b2)
    have HT2 := Lib.hid (HT1.out.on b2)
    clear h0 o2 b2 t1 HB1 HS1 HT1 HA HV
    have f0 := HT2.out.fz 0
    have f1 := HT2.out.fz 1
    have f2 := HT2.out.fz 2
    have y0 := HT2.out.c0
    have y1 := HT2.out.c1
    have y2 := HT2.out.c2
    go_wp2
    have g2 := fun b u v => setAll_grown w2 (w.heap.size + 1) (.bool b) u v
    refine bodyPost_ret (retRC rfl _ _ _ rfl (HT2.out.setAll _ _ _ _ _ _ _)) rfl ?_
  · exact .inl ⟨H0.out, Av, cv, Bv, dv, rfl, ⟨HO2.out.1.past HT2.out (g2 _ _ _), HO2.out.2.past HT2.out (g2 _ _ _)⟩, below_grow HB2.out (by omega) (g2 _ _ _)⟩
  · exact .inr ⟨H0.out, Av, cv, Bv, dv, rfl, ⟨HO2.out.1.past HT2.out (g2 _ _ _), HO2.out.2.past HT2.out (g2 _ _ _)⟩, below_grow HB2.out (by omega) (g2 _ _ _)⟩
end Go.Proofs.YtifepoefeamboaaGreatDoor
