/-
  The law FnExactTapeOK: whatever the tape, TapeOK answers as its model, and writes into no argument. No condition.
-/
import Derived.Test.YtlphcpkhclfkaaaSpecTapeOK
import Derived.Test.YtlphcpkhclfkaaaImplTape
import Derived.Test.YtlphcpkhclfkaaaTapeCopy
import Derived.ProofKit
import Derived.OpenShut
import Derived.ShutString
import Derived.ChangeOld
namespace Go.Proofs.Ytlphcpkhclfkaaa
open Go Go.RowKit Nt
open Go.ChangeShapes Go.WideShapes Go.ChangeAt
open Go.ChangeMaps (open_string shut_string)

set_option maxHeartbeats 3200000 in
theorem lawTapeOK_any (A0 : Option Addr) (n c : Nat) (ns : List Nd) (o0 : Int) (w : World) (hr0 : RdN w (· < w.heap.size) A0 n c ns) (hn0 : n ≤ 9223372036854775807) :
    Calls Try.prog 7 #[.agg #[.slice A0 n c, .int .i64 o0]] w fun e w' => e = .returned (.bool true) ∧ Below w.heap.size w w' := by
  have HR := Lib.hid hr0
  clear hr0
  go_enter Try.func7, Try.ntmps7
  go_wp2_with fail
  refine calls_atN (fun v => TpAt v w.heap.size 57 A0 n c o0 ∧ Below w.heap.size w v) ⟨TpAt.new _ _ _ _ _ _, below_one _ _⟩ ?_
  rintro v0 ⟨pS, pB⟩
  have HS := Lib.hid pS
  have HB := Lib.hid pB
  clear pS pB
  refine (szTape_any A0 n c o0 1048576 v0 hn0 (by omega) (by omega)).mono ?_
  rintro e v1 ⟨rfl, bb⟩
  replace HS := Lib.hid (HS.out.on bb)
  replace HB := Lib.hid (belowN_on HB.out bb)
  clear bb
  by_cases hf : (1048576 : Int) < n
  · rw [show szN 1048576 n = -1 from if_pos hf]
    clear hf
    go_wp2
    go_ret
    exact ⟨rfl, HB.out⟩
  rw [show szN 1048576 n = 1048576 - (n : Int) from if_neg hf]
  have hp : 0 ≤ 1048576 - (n : Int) := by omega
  have hc : n ≤ 1048576 := by omega
  have s0 := HS.out.c0
  have s1 := HS.out.c1
  go_wp2_with fail
  clear s0 s1
  refine (toTape_any A0 n c ns o0 v1 ((HR.out.below HB.out).mono fun _ h _ => Nat.lt_of_lt_of_le h HB.out.size) hc).mono ?_
  rintro e v2 ⟨B, d, rfl, oo, bb⟩
  replace HS := Lib.hid (HS.out.on bb)
  replace HB := Lib.hid (belowN_on HB.out bb)
  have HT := Lib.hid oo.all
  clear oo bb
  go_wp2_with fail
  refine (specTapeOK_any B n d ns o0 _ v2 HT.out hc).mono ?_
  rintro e v3 ⟨rfl, bb⟩
  replace HS := Lib.hid (HS.out.on bb)
  replace HB := Lib.hid (belowN_on HB.out bb)
  clear bb HT
  have s0 := HS.out.c0
  have s1 := HS.out.c1
  go_wp2_with fail
  clear s0 s1
  refine (toTape_any A0 n c ns o0 v3 ((HR.out.below HB.out).mono fun _ h _ => Nat.lt_of_lt_of_le h HB.out.size) hc).mono ?_
  rintro e v4 ⟨X, x, rfl, oo, bb⟩
  replace HS := Lib.hid (HS.out.on bb)
  replace HB := Lib.hid (belowN_on HB.out bb)
  have HX := Lib.hid oo.all
  clear oo bb
  go_wp2_with fail
  refine calls_atN (fun v => TpAt v w.heap.size 57 A0 n c o0 ∧ TpAt v v4.heap.size 61 X n x o0 ∧ RdN v (fun _ => True) X n x ns ∧ Below w.heap.size w v) ⟨HS.out.on (below_one _ _), TpAt.new _ _ _ _ _ _, HX.out.on (below_one _ _), belowN_on HB.out (below_one _ _)⟩ ?_
  rintro v5 ⟨pS, pY, pX, pB⟩
  replace HS := Lib.hid pS
  have HY := Lib.hid pY
  replace HX := Lib.hid pX
  replace HB := Lib.hid pB
  clear pS pY pX pB
  refine (implTapeOK_any X n x ns o0 _ v5 HX.out hc).mono ?_
  rintro e v6 ⟨rfl, bb⟩
  replace HS := Lib.hid (HS.out.on bb)
  replace HY := Lib.hid (HY.out.on bb)
  replace HX := Lib.hid (HX.out.on bb)
  replace HB := Lib.hid (belowN_on HB.out bb)
  clear bb
  have hne : (okTp ns o0 != okTp ns o0) = false := by simp
  generalize okTp ns o0 = J at *
  have s0 := HS.out.c0
  have s1 := HS.out.c1
  have y0 := HY.out.c0
  have y1 := HY.out.c1
  go_wp2_with fail
  have HC := Lib.hid (show _ ∧ _ ∧ _ ∧ _ from ⟨s0, s1, y0, y1⟩)
  clear s0 s1 y0 y1
  go_region_held3 (fun wx => wx.cell? ⟨w.heap.size, 0, none⟩ = some (.slice A0 n c) ∧ wx.cell? ⟨w.heap.size, 1, none⟩ = some (.int .i64 o0) ∧ wx.cell? ⟨v4.heap.size, 0, none⟩ = some (.slice X n x) ∧ wx.cell? ⟨v4.heap.size, 1, none⟩ = some (.int .i64 o0))
    (first | exact HC.out | exact HC1.out | exact HC2.out)
    (first
      | (go_at_call 33; refine (toTape_any A0 n c ns o0 _ (by exact ((HR.out.below HB.out).mono (Q := (· < v6.heap.size)) fun _ h _ => Nat.lt_of_lt_of_le h HB.out.size).drew) hc).mono ?_; rintro e v7 ⟨Y, y, rfl, oo, bb⟩; have bb := undrewN bb; have HS7 := Lib.hid (HS.out.on bb); have HY7 := Lib.hid (HY.out.on bb); have HX7 := Lib.hid (HX.out.on bb); have HB7 := Lib.hid (belowN_on HB.out bb); have HZ7 := Lib.hid oo.all; have HC1 := Lib.hid (show _ ∧ _ ∧ _ ∧ _ from ⟨HS7.out.c0, HS7.out.c1, HY7.out.c0, HY7.out.c1⟩); clear oo bb)
      | (go_at_call 35; refine (eqTape_same X Y n x y ns o0 _ _ _ (by exact HX7.out) (by exact HZ7.out) hc).mono ?_; rintro e v8 ⟨rfl, bb⟩; have HB8 := Lib.hid (belowN_on HB7.out bb); have HC2 := Lib.hid (show _ ∧ _ ∧ _ ∧ _ from ⟨(HS7.out.on bb).c0, (HS7.out.on bb).c1, (HY7.out.on bb).c0, (HY7.out.on bb).c1⟩); clear bb))
  go_wp2
  go_ret
  exact ⟨rfl, HB8.out⟩

theorem own_fnExactTapeOK : ownKnob Try.prog.godebug = none := by kernel_rfl
theorem laidOut_fnExactTapeOK : laidOutB Try.prog = true := by kernel_rfl
set_option maxRecDepth 100000 in
set_option linter.unusedVariables false in
theorem fnExactTapeOK_lifted (os : Os) (started : os.Started) (H : Type) (enc : TypeId × Value → H) :
    ReturnsInHanded {} Try.checked os 7 .any (Rows.fnExactTapeOKSpec.pre6 enc Try.prog Try.f7 Rows.fnExactTapeOKRow.domain false) (Rows.fnExactTapeOKSpec.post enc Try.prog Try.f7 false true false false) := by
  refine returnsInHanded_of_change (C := Try.checked) own_fnExactTapeOK started (by kernel_rfl) Try.func7
    (ChangeSpec.witness6 (enc := enc) (C := Try.checked) false ⟨#[], #[.agg #[.slice none 0 0, .int .i64 0]], []⟩ 8 (by kernel_rfl) (by kernel_rfl) (by kernel_rfl) (by kernel_rfl)) ?_
  intro W base args ds gs before hval0 hW hcnd _
  have hval : ∀ (j : Nat) t v, Try.f7.params[j]? = some t → args[j]? = some v → Value.okWide Try.prog W .any base t v := hval0
  have hW' := hW
  obtain ⟨p, q, hA0, hV, rfl, hfz, hnd⟩ := hW
  have hA : DataW.TrodAll enc Try.prog W 0 (fun _ => true) true Try.f7.params.toList args.toList ds p := hA0
  rw [Try.params7] at hA hval
  obtain ⟨v0, vs0, d0, ds0, p0, q0, hargs, rfl, rfl, h0, r0⟩ := trodAll_cons hA
  obtain ⟨rfl, rfl, rfl⟩ := trodAll_nil r0
  obtain rfl : args = #[v0] := by cases args; simp_all
  obtain ⟨rfl, rfl⟩ := trodVars_none hV
  have k0 := h0
  have lt0 : ∀ x ∈ p0, x.block < W.heap.size := by obtain ⟨m, hm⟩ := k0; exact DataW.trod_lt m _ _ _ hm
  obtain ⟨a0, len0, cap0, z0, o0, rfl, w0, l0⟩ := open_tape Try.underlying57 (by kernel_rfl) (by kernel_rfl) Try.underlying49 Try.underlying3 Try.underlying160 (by kernel_rfl) (by kernel_rfl) Try.underlying3 Try.underlying3 Try.underlying3 Try.underlying3 (hval 0 57 v0 rfl rfl) h0
  clear hA0 hval0
  refine (lawTapeOK_any a0 len0 cap0 z0 o0 W w0 l0).mono fun e W' ⟨he, bel⟩ => ?_
  subst he
  exact ⟨_, rfl, _, _, _, [], _, [], hW', trodAll_mk1 (shut_bool Try.underlying4 _), (trodAll_cons_mk (Below.trod laidOut_fnExactTapeOK (by kernel_rfl) (of_decide_eq_true (by kernel_rfl)) k0 bel lt0) trodAll_mk0), rfl, bel.frame _, fun h => by cases h⟩

theorem fnExactTapeOK_over : Rows.fnExactTapeOKRow.holds Try.pinned (OpenSpec.ofChange Rows.fnExactTapeOKSpec) :=
  OpenClaim.holds_of_wide 7 Try.f7 rfl rfl rfl rfl rfl rfl rfl ⟨rfl, rfl, rfl, rfl, rfl⟩ rfl rfl rfl rfl rfl (by kernel_rfl) Try.func7 (by kernel_rfl)
    (of_decide_eq_true (by kernel_rfl)) (by unfold Func.isWrapper; first | (rw [if_pos (by decide +kernel)]; kernel_rfl) | (rw [if_neg (by decide +kernel)]; exact ⟨rfl, rfl⟩))
    (fun os started H enc _ => fnExactTapeOK_lifted os started H enc)

theorem fnExactTapeOK_holds : Rows.FnExactTapeOKSaid := fnExactTapeOK_over

end Go.Proofs.Ytlphcpkhclfkaaa
