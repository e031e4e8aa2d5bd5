/-
  The law FnExactMatOK: whatever the arguments, MatOK answers as its model, and writes into no argument. No condition.
-/
import Derived.Test.YtliefhkllpmlmaaMatOk
import Derived.ProofKit
import Derived.OpenShut
import Derived.ShutString
import Derived.ChangeOld
namespace Go.Proofs.Ytliefhkllpmlmaa
open Go Go.RowKit Nt
open Go.ChangeShapes Go.WideShapes Go.ChangeAt
open Go.ChangeMaps (open_string shut_string)

set_option maxHeartbeats 3200000 in
theorem lawMatOK_any (A0 : Option Addr) (n0 c0 : Nat) (r0 : List R3) (k0 : Int) (w : World) (hr0 : RdS w (· < w.heap.size) A0 n0 c0 r0) (hs0 : Short r0) (hn0 : n0 ≤ 9223372036854775807) (_hk0 : (Lit.int .i64 k0).wf = true) :
    Calls Try.prog 4 #[.slice A0 n0 c0, .int .i64 k0] w fun e w' => e = .returned (.bool true) ∧ Below w.heap.size w w' := by
  have HR0 := Lib.hid hr0
  have HS0 := Lib.hid hs0
  have HL0 := Lib.hid hr0.len
  clear hr0 hs0
  go_enter Try.func4, Try.ntmps4
  go_wp2_with fail
  refine (szRatS_any A0 n0 c0 r0 (1048576) w HR0.out HS0.out hn0 (by omega) (by omega)).mono ?_
  rintro e s0 ⟨rfl, bb⟩
  have HB0 := Lib.hid (bb)
  clear bb
  by_cases hf0 : (1048576 : Int) < r0.length + tot r0
  · rw [szS_big hf0]
    go_wp2
    go_ret
    exact ⟨rfl, HB0.out⟩
  rw [szS_fit hf0]
  have hp0 : 0 ≤ 1048576 - (r0.length : Int) - (tot r0 : Int) := by omega
  have HM0 := Lib.hid (small_tot (rs := r0) (by omega))
  have hc0 : n0 ≤ 1048576 := by have := HL0.out; omega
  go_wp2_with fail
  refine (toRatS_any A0 n0 c0 r0 s0 ((HR0.out.below HB0.out).mono (Q := (· < s0.heap.size)) fun _ h _ => Nat.lt_of_lt_of_le h HB0.out.size) HM0.out hc0).mono ?_
  rintro e v1 ⟨B0, d0, rfl, oo, bb⟩
  have HBv1 := Lib.hid (below_on HB0.out bb)
  have HT0 := Lib.hid oo.all
  clear oo bb
  go_wp2_with fail
  refine (specMatOK_any B0 n0 d0 r0 k0 (fun _ => True) v1 HT0.out HM0.out hc0).mono ?_
  rintro e v2 ⟨rfl, bb⟩
  have HBv2 := Lib.hid (below_on HBv1.out bb)
  have HT0v2 := Lib.hid (HT0.out.on bb)
  clear bb HT0 HT0v2
  go_wp2_with fail
  refine (toRatS_any A0 n0 c0 r0 v2 ((HR0.out.below HBv2.out).mono (Q := (· < v2.heap.size)) fun _ h _ => Nat.lt_of_lt_of_le h HBv2.out.size) HM0.out hc0).mono ?_
  rintro e v3 ⟨X0, x0, rfl, oo, bb⟩
  have HBv3 := Lib.hid (below_on HBv2.out bb)
  have HX0 := Lib.hid oo.all
  clear oo bb
  go_wp2_with fail
  refine (implMatOK_any X0 n0 x0 r0 k0 (fun _ => True) v3 HX0.out HM0.out hc0).mono ?_
  rintro e v4 ⟨rfl, bb⟩
  have HBv4 := Lib.hid (below_on HBv3.out bb)
  have HX0v4 := Lib.hid (HX0.out.on bb)
  clear bb
  have hne : (okM k0 r0 != okM k0 r0) = false := by simp
  generalize okM k0 r0 = J at *
  go_wp2_with fail
  refine (toRatS_any A0 n0 c0 r0 v4 ((HR0.out.below HBv4.out).mono (Q := (· < v4.heap.size)) fun _ h _ => Nat.lt_of_lt_of_le h HBv4.out.size) HM0.out hc0).mono ?_
  rintro e v5 ⟨Y0, y0, rfl, oo, bb⟩
  have HBv5 := Lib.hid (below_on HBv4.out bb)
  have HX0v4v5 := Lib.hid (HX0v4.out.on bb)
  have HY0 := Lib.hid oo.all
  clear oo bb
  go_wp2_with fail
  refine (eqRatS_same X0 Y0 n0 x0 y0 r0 _ _ v5 HX0v4v5.out HY0.out HM0.out hc0).mono ?_
  rintro e v6 ⟨rfl, bb⟩
  have HBv6 := Lib.hid (below_on HBv5.out bb)
  have HX0v4v5v6 := Lib.hid (HX0v4v5.out.on bb)
  clear bb HY0
  go_wp2
  go_ret
  exact ⟨rfl, HBv6.out⟩

theorem own_fnExactMatOK : ownKnob Try.prog.godebug = none := by kernel_rfl
theorem laidOut_fnExactMatOK : laidOutB Try.prog = true := by kernel_rfl
set_option maxRecDepth 100000 in
set_option linter.unusedVariables false in
theorem fnExactMatOK_lifted (os : Os) (started : os.Started) (H : Type) (enc : TypeId × Value → H) :
    ReturnsInHanded {} Try.checked os 4 .any (Rows.fnExactMatOKSpec.pre6 enc Try.prog Try.f4 Rows.fnExactMatOKRow.domain false) (Rows.fnExactMatOKSpec.post enc Try.prog Try.f4 false true false false) := by
  refine returnsInHanded_of_change (C := Try.checked) own_fnExactMatOK started (by kernel_rfl) Try.func4
    (ChangeSpec.witness6 (enc := enc) (C := Try.checked) false ⟨#[], #[.slice none 0 0, .int .i64 0], []⟩ 8 (by kernel_rfl) (by kernel_rfl) (by kernel_rfl) (by kernel_rfl)) ?_
  intro W base args ds gs before hval0 hW hcnd _
  have hval : ∀ (j : Nat) t v, Try.f4.params[j]? = some t → args[j]? = some v → Value.okWide Try.prog W .any base t v := hval0
  have hW' := hW
  obtain ⟨p, q, hA0, hV, rfl, hfz, hnd⟩ := hW
  have hA : DataW.TrodAll enc Try.prog W 0 (fun _ => true) true Try.f4.params.toList args.toList ds p := hA0
  rw [Try.params4] at hA hval
  obtain ⟨v0, vs0, d0, ds0, p0, q0, hargs, rfl, rfl, h0, r0⟩ := trodAll_cons hA
  obtain ⟨v1, vs1, d1, ds1, p1, q1, rfl, rfl, rfl, h1, r1⟩ := trodAll_cons r0
  obtain ⟨rfl, rfl, rfl⟩ := trodAll_nil r1
  obtain rfl : args = #[v0, v1] := by cases args; simp_all
  obtain ⟨rfl, rfl⟩ := trodVars_none hV
  obtain ⟨a0, len0, cap0, rfl⟩ := okWide_slice Try.underlying25 (hval 0 25 v0 rfl rfl)
  have k0 := h0
  have lt0 : ∀ x ∈ p0, x.block < W.heap.size := by obtain ⟨m, hm⟩ := k0; exact DataW.trod_lt m _ _ _ hm
  obtain ⟨z0, w0, u0, l0⟩ : ∃ rs, RdS W (· < W.heap.size) a0 len0 cap0 rs ∧ Short rs ∧ len0 ≤ 9223372036854775807 := by
    obtain ⟨fuel, hf⟩ := h0
    exact open_rats Try.underlying25 Try.underlying24 (by kernel_rfl) (by kernel_rfl) Try.underlying4 Try.underlying22 Try.underlying22 Try.underlying3 (by kernel_rfl) hf
  obtain ⟨x1, rfl, rfl, rfl, w1⟩ := open_int Try.underlying3 (hval 1 3 v1 rfl rfl) h1
  clear hA0 hval0
  refine (lawMatOK_any a0 len0 cap0 z0 x1 W w0 u0 l0 w1).mono fun e W' ⟨he, bel⟩ => ?_
  subst he
  exact ⟨_, rfl, _, _, _, [], _, [], hW', trodAll_mk1 (shut_bool Try.underlying4 _), (trodAll_cons_mk (Below.trod laidOut_fnExactMatOK (by kernel_rfl) (of_decide_eq_true (by kernel_rfl)) k0 bel lt0) (trodAll_cons_mk (shut_int Try.underlying3 w1) trodAll_mk0)), rfl, bel.frame _, fun h => by cases h⟩

theorem fnExactMatOK_over : Rows.fnExactMatOKRow.holds Try.pinned (OpenSpec.ofChange Rows.fnExactMatOKSpec) :=
  OpenClaim.holds_of_wide 4 Try.f4 rfl rfl rfl rfl rfl rfl rfl ⟨rfl, rfl, rfl, rfl, rfl⟩ rfl rfl rfl rfl rfl (by kernel_rfl) Try.func4 (by kernel_rfl)
    (of_decide_eq_true (by kernel_rfl)) (by unfold Func.isWrapper; first | (rw [if_pos (by decide +kernel)]; kernel_rfl) | (rw [if_neg (by decide +kernel)]; exact ⟨rfl, rfl⟩))
    (fun os started H enc _ => fnExactMatOK_lifted os started H enc)

theorem fnExactMatOK_holds : Rows.FnExactMatOKSaid := fnExactMatOK_over

end Go.Proofs.Ytliefhkllpmlmaa
