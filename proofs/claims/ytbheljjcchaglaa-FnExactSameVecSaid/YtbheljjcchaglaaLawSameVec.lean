/-
  The law FnExactSameVec: whatever the arguments, SameVec answers as its model, and writes into no argument. No condition.
-/
import Derived.Test.YtbheljjcchaglaaSameVec
import Derived.ProofKit
import Derived.OpenShut
import Derived.ShutString
import Derived.ChangeOld
namespace Go.Proofs.Ytbheljjcchaglaa
open Go Go.RowKit Nt
open Go.ChangeShapes Go.WideShapes Go.ChangeAt
open Go.ChangeMaps (open_string shut_string)

set_option maxHeartbeats 3200000 in
theorem lawSameVec_any (A0 : Option Addr) (n0 c0 : Nat) (r0 : List R3) (A1 : Option Addr) (n1 c1 : Nat) (r1 : List R3) (w : World) (hr0 : RdS w (· < w.heap.size) A0 n0 c0 r0) (hs0 : Short r0) (hn0 : n0 ≤ 9223372036854775807) (hr1 : RdS w (· < w.heap.size) A1 n1 c1 r1) (hs1 : Short r1) (hn1 : n1 ≤ 9223372036854775807) :
    Calls Try.prog 5 #[.slice A0 n0 c0, .slice A1 n1 c1] w fun e w' => e = .returned (.bool true) ∧ Below w.heap.size w w' := by
  have HR0 := Lib.hid hr0
  have HS0 := Lib.hid hs0
  have HL0 := Lib.hid hr0.len
  clear hr0 hs0
  have HR1 := Lib.hid hr1
  have HS1 := Lib.hid hs1
  have HL1 := Lib.hid hr1.len
  clear hr1 hs1
  go_enter Try.func5, Try.ntmps5
  go_wp2_with fail
  refine (szRatS_any A0 n0 c0 r0 (1048576) w HR0.out HS0.out hn0 (by omega) (by omega)).mono ?_
  rintro e s0 ⟨rfl, bb⟩
  have HB0 := Lib.hid (bb)
  clear bb
  by_cases hf0 : (1048576 : Int) < r0.length + tot r0
  · rw [szS_big hf0]
    go_wp2
    go_ret
    exact ⟨rfl, HB0.out⟩
  rw [szS_fit hf0]
  have hp0 : 0 ≤ 1048576 - (r0.length : Int) - (tot r0 : Int) := by omega
  have HM0 := Lib.hid (small_tot (rs := r0) (by omega))
  have hc0 : n0 ≤ 1048576 := by have := HL0.out; omega
  go_wp2_with fail
  refine (szRatS_any A1 n1 c1 r1 (1048576 - (r0.length : Int) - (tot r0 : Int)) s0 ((HR1.out.below HB0.out).mono (Q := (· < s0.heap.size)) fun _ h _ => Nat.lt_of_lt_of_le h HB0.out.size) HS1.out hn1 (by omega) (by omega)).mono ?_
  rintro e s1 ⟨rfl, bb⟩
  have HB1 := Lib.hid (below_on HB0.out bb)
  clear bb
  by_cases hf1 : (1048576 - (r0.length : Int) - (tot r0 : Int) : Int) < r1.length + tot r1
  · rw [szS_big hf1]
    go_wp2
    go_ret
    exact ⟨rfl, HB1.out⟩
  rw [szS_fit hf1]
  have hp1 : 0 ≤ 1048576 - (r0.length : Int) - (tot r0 : Int) - (r1.length : Int) - (tot r1 : Int) := by omega
  have HM1 := Lib.hid (small_tot (rs := r1) (by omega))
  have hc1 : n1 ≤ 1048576 := by have := HL1.out; omega
  go_wp2_with fail
  refine (toRatS_any A0 n0 c0 r0 s1 ((HR0.out.below HB1.out).mono (Q := (· < s1.heap.size)) fun _ h _ => Nat.lt_of_lt_of_le h HB1.out.size) HM0.out hc0).mono ?_
  rintro e v1 ⟨B0, d0, rfl, oo, bb⟩
  have HBv1 := Lib.hid (below_on HB1.out bb)
  have HT0 := Lib.hid oo.all
  clear oo bb
  go_wp2_with fail
  refine (toRatS_any A1 n1 c1 r1 v1 ((HR1.out.below HBv1.out).mono (Q := (· < v1.heap.size)) fun _ h _ => Nat.lt_of_lt_of_le h HBv1.out.size) HM1.out hc1).mono ?_
  rintro e v2 ⟨B1, d1, rfl, oo, bb⟩
  have HBv2 := Lib.hid (below_on HBv1.out bb)
  have HT0v2 := Lib.hid (HT0.out.on bb)
  have HT1 := Lib.hid oo.all
  clear oo bb
  go_wp2_with fail
  refine (specSameVec_any B0 n0 d0 r0 B1 n1 d1 r1 (fun _ => True) (fun _ => True) v2 HT0v2.out HT1.out HM0.out hc0 HM1.out hc1).mono ?_
  rintro e v3 ⟨rfl, bb⟩
  have HBv3 := Lib.hid (below_on HBv2.out bb)
  have HT0v2v3 := Lib.hid (HT0v2.out.on bb)
  have HT1v3 := Lib.hid (HT1.out.on bb)
  clear bb HT0v2 HT1 HT0v2v3 HT1v3
  go_wp2_with fail
  refine (toRatS_any A0 n0 c0 r0 v3 ((HR0.out.below HBv3.out).mono (Q := (· < v3.heap.size)) fun _ h _ => Nat.lt_of_lt_of_le h HBv3.out.size) HM0.out hc0).mono ?_
  rintro e v4 ⟨X0, x0, rfl, oo, bb⟩
  have HBv4 := Lib.hid (below_on HBv3.out bb)
  have HX0 := Lib.hid oo.all
  clear oo bb
  go_wp2_with fail
  refine (toRatS_any A1 n1 c1 r1 v4 ((HR1.out.below HBv4.out).mono (Q := (· < v4.heap.size)) fun _ h _ => Nat.lt_of_lt_of_le h HBv4.out.size) HM1.out hc1).mono ?_
  rintro e v5 ⟨X1, x1, rfl, oo, bb⟩
  have HBv5 := Lib.hid (below_on HBv4.out bb)
  have HX0v5 := Lib.hid (HX0.out.on bb)
  have HX1 := Lib.hid oo.all
  clear oo bb
  go_wp2_with fail
  refine (implSameVec_any X0 n0 x0 r0 X1 n1 x1 r1 (fun _ => True) (fun _ => True) v5 HX0v5.out HX1.out HM0.out hc0 HM1.out hc1).mono ?_
  rintro e v6 ⟨rfl, bb⟩
  have HBv6 := Lib.hid (below_on HBv5.out bb)
  have HX0v5v6 := Lib.hid (HX0v5.out.on bb)
  have HX1v6 := Lib.hid (HX1.out.on bb)
  clear bb
  have hne : (sameVV r0 r1 != sameVV r0 r1) = false := by simp
  generalize sameVV r0 r1 = J at *
  go_wp2_with fail
  refine (toRatS_any A0 n0 c0 r0 v6 ((HR0.out.below HBv6.out).mono (Q := (· < v6.heap.size)) fun _ h _ => Nat.lt_of_lt_of_le h HBv6.out.size) HM0.out hc0).mono ?_
  rintro e v7 ⟨Y0, y0, rfl, oo, bb⟩
  have HBv7 := Lib.hid (below_on HBv6.out bb)
  have HX0v5v6v7 := Lib.hid (HX0v5v6.out.on bb)
  have HX1v6v7 := Lib.hid (HX1v6.out.on bb)
  have HY0 := Lib.hid oo.all
  clear oo bb
  go_wp2_with fail
  refine (eqRatS_same X0 Y0 n0 x0 y0 r0 _ _ v7 HX0v5v6v7.out HY0.out HM0.out hc0).mono ?_
  rintro e v8 ⟨rfl, bb⟩
  have HBv8 := Lib.hid (below_on HBv7.out bb)
  have HX0v5v6v7v8 := Lib.hid (HX0v5v6v7.out.on bb)
  have HX1v6v7v8 := Lib.hid (HX1v6v7.out.on bb)
  clear bb HY0
  go_wp2_with fail
  refine (toRatS_any A1 n1 c1 r1 v8 ((HR1.out.below HBv8.out).mono (Q := (· < v8.heap.size)) fun _ h _ => Nat.lt_of_lt_of_le h HBv8.out.size) HM1.out hc1).mono ?_
  rintro e v9 ⟨Y1, y1, rfl, oo, bb⟩
  have HBv9 := Lib.hid (below_on HBv8.out bb)
  have HX0v5v6v7v8v9 := Lib.hid (HX0v5v6v7v8.out.on bb)
  have HX1v6v7v8v9 := Lib.hid (HX1v6v7v8.out.on bb)
  have HY1 := Lib.hid oo.all
  clear oo bb
  go_wp2_with fail
  refine (eqRatS_same X1 Y1 n1 x1 y1 r1 _ _ v9 HX1v6v7v8v9.out HY1.out HM1.out hc1).mono ?_
  rintro e v10 ⟨rfl, bb⟩
  have HBv10 := Lib.hid (below_on HBv9.out bb)
  have HX0v5v6v7v8v9v10 := Lib.hid (HX0v5v6v7v8v9.out.on bb)
  have HX1v6v7v8v9v10 := Lib.hid (HX1v6v7v8v9.out.on bb)
  clear bb HY1
  go_wp2
  go_ret
  exact ⟨rfl, HBv10.out⟩

theorem own_fnExactSameVec : ownKnob Try.prog.godebug = none := by kernel_rfl
theorem laidOut_fnExactSameVec : laidOutB Try.prog = true := by kernel_rfl
set_option maxRecDepth 100000 in
set_option linter.unusedVariables false in
theorem fnExactSameVec_lifted (os : Os) (started : os.Started) (H : Type) (enc : TypeId × Value → H) :
    ReturnsInHanded {} Try.checked os 5 .any (Rows.fnExactSameVecSpec.pre6 enc Try.prog Try.f5 Rows.fnExactSameVecRow.domain false) (Rows.fnExactSameVecSpec.post enc Try.prog Try.f5 false true false false) := by
  refine returnsInHanded_of_change (C := Try.checked) own_fnExactSameVec started (by kernel_rfl) Try.func5
    (ChangeSpec.witness6 (enc := enc) (C := Try.checked) false ⟨#[], #[.slice none 0 0, .slice none 0 0], []⟩ 8 (by kernel_rfl) (by kernel_rfl) (by kernel_rfl) (by kernel_rfl)) ?_
  intro W base args ds gs before hval0 hW hcnd _
  have hval : ∀ (j : Nat) t v, Try.f5.params[j]? = some t → args[j]? = some v → Value.okWide Try.prog W .any base t v := hval0
  have hW' := hW
  obtain ⟨p, q, hA0, hV, rfl, hfz, hnd⟩ := hW
  have hA : DataW.TrodAll enc Try.prog W 0 (fun _ => true) true Try.f5.params.toList args.toList ds p := hA0
  rw [Try.params5] at hA hval
  obtain ⟨v0, vs0, d0, ds0, p0, q0, hargs, rfl, rfl, h0, r0⟩ := trodAll_cons hA
  obtain ⟨v1, vs1, d1, ds1, p1, q1, rfl, rfl, rfl, h1, r1⟩ := trodAll_cons r0
  obtain ⟨rfl, rfl, rfl⟩ := trodAll_nil r1
  obtain rfl : args = #[v0, v1] := by cases args; simp_all
  obtain ⟨rfl, rfl⟩ := trodVars_none hV
  obtain ⟨a0, len0, cap0, rfl⟩ := okWide_slice Try.underlying29 (hval 0 29 v0 rfl rfl)
  have k0 := h0
  have lt0 : ∀ x ∈ p0, x.block < W.heap.size := by obtain ⟨m, hm⟩ := k0; exact DataW.trod_lt m _ _ _ hm
  obtain ⟨z0, w0, u0, l0⟩ : ∃ rs, RdS W (· < W.heap.size) a0 len0 cap0 rs ∧ Short rs ∧ len0 ≤ 9223372036854775807 := by
    obtain ⟨fuel, hf⟩ := h0
    exact open_rats Try.underlying29 Try.underlying39 (by kernel_rfl) (by kernel_rfl) Try.underlying4 Try.underlying37 Try.underlying37 Try.underlying3 (by kernel_rfl) hf
  obtain ⟨a1, len1, cap1, rfl⟩ := okWide_slice Try.underlying29 (hval 1 29 v1 rfl rfl)
  have k1 := h1
  have lt1 : ∀ x ∈ p1, x.block < W.heap.size := by obtain ⟨m, hm⟩ := k1; exact DataW.trod_lt m _ _ _ hm
  obtain ⟨z1, w1, u1, l1⟩ : ∃ rs, RdS W (· < W.heap.size) a1 len1 cap1 rs ∧ Short rs ∧ len1 ≤ 9223372036854775807 := by
    obtain ⟨fuel, hf⟩ := h1
    exact open_rats Try.underlying29 Try.underlying39 (by kernel_rfl) (by kernel_rfl) Try.underlying4 Try.underlying37 Try.underlying37 Try.underlying3 (by kernel_rfl) hf
  clear hA0 hval0
  refine (lawSameVec_any a0 len0 cap0 z0 a1 len1 cap1 z1 W w0 u0 l0 w1 u1 l1).mono fun e W' ⟨he, bel⟩ => ?_
  subst he
  exact ⟨_, rfl, _, _, _, [], _, [], hW', trodAll_mk1 (shut_bool Try.underlying4 _), (trodAll_cons_mk (Below.trod laidOut_fnExactSameVec (by kernel_rfl) (of_decide_eq_true (by kernel_rfl)) k0 bel lt0) (trodAll_cons_mk (Below.trod laidOut_fnExactSameVec (by kernel_rfl) (of_decide_eq_true (by kernel_rfl)) k1 bel lt1) trodAll_mk0)), rfl, bel.frame _, fun h => by cases h⟩

theorem fnExactSameVec_over : Rows.fnExactSameVecRow.holds Try.pinned (OpenSpec.ofChange Rows.fnExactSameVecSpec) :=
  OpenClaim.holds_of_wide 5 Try.f5 rfl rfl rfl rfl rfl rfl rfl ⟨rfl, rfl, rfl, rfl, rfl⟩ rfl rfl rfl rfl rfl (by kernel_rfl) Try.func5 (by kernel_rfl)
    (of_decide_eq_true (by kernel_rfl)) (by unfold Func.isWrapper; first | (rw [if_pos (by decide +kernel)]; kernel_rfl) | (rw [if_neg (by decide +kernel)]; exact ⟨rfl, rfl⟩))
    (fun os started H enc _ => fnExactSameVec_lifted os started H enc)

theorem fnExactSameVec_holds : Rows.FnExactSameVecSaid := fnExactSameVec_over

end Go.Proofs.Ytbheljjcchaglaa
