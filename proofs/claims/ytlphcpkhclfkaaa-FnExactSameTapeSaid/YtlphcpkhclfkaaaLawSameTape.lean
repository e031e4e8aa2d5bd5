/-
  The law FnExactSameTape: whatever the tapes, SameTape answers as its model, and writes into no argument. No condition.
-/
import Derived.Test.YtlphcpkhclfkaaaTapeSame
import Derived.Test.YtlphcpkhclfkaaaTapeCopy
import Derived.ProofKit
import Derived.OpenShut
import Derived.ShutString
import Derived.ChangeOld
namespace Go.Proofs.Ytlphcpkhclfkaaa
open Go Go.RowKit Nt
open Go.ChangeShapes Go.WideShapes Go.ChangeAt
open Go.ChangeMaps (open_string shut_string)

set_option maxRecDepth 20000 in
set_option maxHeartbeats 6400000 in
theorem lawSameTape_any (A0 : Option Addr) (n c : Nat) (ns : List Nd) (o0 : Int) (A1 : Option Addr) (m d : Nat) (ms : List Nd) (o1 : Int) (w : World) (hr0 : RdN w (· < w.heap.size) A0 n c ns) (hn0 : n ≤ 9223372036854775807) (hr1 : RdN w (· < w.heap.size) A1 m d ms) (hm0 : m ≤ 9223372036854775807) :
    Calls Try.prog 6 #[.agg #[.slice A0 n c, .int .i64 o0], .agg #[.slice A1 m d, .int .i64 o1]] w fun e w' => e = .returned (.bool true) ∧ Below w.heap.size w w' := by
  have HR := Lib.hid hr0
  have HQ := Lib.hid hr1
  clear hr0 hr1
  go_enter Try.func6, Try.ntmps6
  go_wp2_with fail
  refine calls_atN (fun v => TpAt v w.heap.size 57 A0 n c o0 ∧ TpAt v (w.heap.size + 1) 57 A1 m d o1 ∧ Below w.heap.size w v) ⟨(TpAt.new _ _ _ _ _ _).on (below_one _ _), by have h := TpAt.new (w.alloc (.cells #[.slice A0 n c, .int .i64 o0] 57)) 57 A1 m d o1; rwa [World.size_alloc] at h, ((Below.refl _ _).alloc (Nat.le_refl _) _).alloc (by simp) _⟩ ?_
  rintro v0 ⟨pa, pb, pB⟩
  have HS := Lib.hid pa
  have HU := Lib.hid pb
  have HB := Lib.hid pB
  clear pa pb pB
  refine (szTape_any A0 n c o0 1048576 v0 hn0 (by omega) (by omega)).mono ?_
  rintro e v1 ⟨rfl, bb⟩
  replace HS := Lib.hid (HS.out.on bb)
  replace HU := Lib.hid (HU.out.on bb)
  replace HB := Lib.hid (belowN_on HB.out bb)
  clear bb
  by_cases hf : (1048576 : Int) < n
  · rw [show szN 1048576 n = -1 from if_pos hf]
    clear hf
    go_wp2
    go_ret
    exact ⟨rfl, HB.out⟩
  rw [show szN 1048576 n = 1048576 - (n : Int) from if_neg hf]
  have hp : 0 ≤ 1048576 - (n : Int) := by omega
  have hcn : n ≤ 1048576 := by omega
  have u0 := HU.out.c0
  have u0' := HU.out.c1
  go_wp2_with fail
  clear u0 u0'
  refine (szTape_any A1 m d o1 (1048576 - (n : Int)) v1 hm0 (by omega) (by omega)).mono ?_
  rintro e v2 ⟨rfl, bb⟩
  replace HS := Lib.hid (HS.out.on bb)
  replace HU := Lib.hid (HU.out.on bb)
  replace HB := Lib.hid (belowN_on HB.out bb)
  clear bb
  by_cases hg : (1048576 - (n : Int) : Int) < m
  · rw [show szN (1048576 - (n : Int)) m = -1 from if_pos hg]
    clear hg
    go_wp2
    go_ret
    exact ⟨rfl, HB.out⟩
  rw [show szN (1048576 - (n : Int)) m = 1048576 - (n : Int) - (m : Int) from if_neg hg]
  have hp2 : 0 ≤ 1048576 - (n : Int) - (m : Int) := by omega
  have hcm : m ≤ 1048576 := by omega
  have s0 := HS.out.c0
  have u0 := HU.out.c0
  have s0' := HS.out.c1
  have u0' := HU.out.c1
  go_wp2_with fail
  have HC := Lib.hid (show _ ∧ _ ∧ _ ∧ _ from ⟨s0, s0', u0, u0'⟩)
  clear s0 u0 s0' u0' hf hg hp hp2
  go_region_held3 (fun wx => wx.cell? ⟨w.heap.size, 0, none⟩ = some (.slice A0 n c) ∧ wx.cell? ⟨w.heap.size, 1, none⟩ = some (.int .i64 o0) ∧ wx.cell? ⟨w.heap.size + 1, 0, none⟩ = some (.slice A1 m d) ∧ wx.cell? ⟨w.heap.size + 1, 1, none⟩ = some (.int .i64 o1))
    (first | exact HC.out | exact HC1.out | exact HC2.out | exact HC3.out)
    (first
      | (go_at_call_of 33 A0; refine (toTape_any A0 n c ns o0 _ (by exact ((HR.out.below HB.out).mono (Q := (· < v2.heap.size)) fun _ h _ => Nat.lt_of_lt_of_le h HB.out.size).drew) hcn).mono ?_; rintro e v3 ⟨Ba, da, rfl, oo, bb⟩; have bb := undrewN bb; have HS1 := Lib.hid (HS.out.on bb); have HU1 := Lib.hid (HU.out.on bb); have HB1 := Lib.hid (belowN_on HB.out bb); have HTa := Lib.hid oo.all; have HC1 := Lib.hid (show _ ∧ _ ∧ _ ∧ _ from ⟨HS1.out.c0, HS1.out.c1, HU1.out.c0, HU1.out.c1⟩); clear oo bb)
      | (go_at_call_of 33 A1; refine (toTape_any A1 m d ms o1 _ (by exact (HQ.out.below HB1.out).mono (Q := (· < v3.heap.size)) fun _ h _ => Nat.lt_of_lt_of_le h HB1.out.size) hcm).mono ?_; rintro e v4 ⟨Bb, db, rfl, oo, bb⟩; have HS2 := Lib.hid (HS1.out.on bb); have HU2 := Lib.hid (HU1.out.on bb); have HB2 := Lib.hid (belowN_on HB1.out bb); have HTa2 := Lib.hid (HTa.out.on bb); have HTb := Lib.hid oo.all; have HC2 := Lib.hid (show _ ∧ _ ∧ _ ∧ _ from ⟨HS2.out.c0, HS2.out.c1, HU2.out.c0, HU2.out.c1⟩); clear oo bb)
      | (go_at_call 32; refine (specSameTape_any Ba Bb n da m db ns ms o0 o1 _ _ _ (by exact HTa2.out) (by exact HTb.out) hcn hcm).mono ?_; rintro e v5 ⟨rfl, bb⟩; have HS3 := Lib.hid (HS2.out.on bb); have HU3 := Lib.hid (HU2.out.on bb); have HB3 := Lib.hid (belowN_on HB2.out bb); have HC3 := Lib.hid (show _ ∧ _ ∧ _ ∧ _ from ⟨HS3.out.c0, HS3.out.c1, HU3.out.c0, HU3.out.c1⟩); clear bb))
  clear HS HU HB HC HS1 HU1 HB1 HC1 HTa HS2 HU2 HB2 HC2 HTa2 HTb HC3
  have s0 := HS3.out.c0
  have s0' := HS3.out.c1
  go_wp2_with fail
  clear s0 s0'
  refine (toTape_any A0 n c ns o0 v5 ((HR.out.below HB3.out).mono fun _ h _ => Nat.lt_of_lt_of_le h HB3.out.size) hcn).mono ?_
  rintro e v6 ⟨X, x, rfl, oo, bb⟩
  replace HS3 := Lib.hid (HS3.out.on bb)
  replace HU3 := Lib.hid (HU3.out.on bb)
  replace HB3 := Lib.hid (belowN_on HB3.out bb)
  have HX := Lib.hid oo.all
  clear oo bb
  have u0 := HU3.out.c0
  have u0' := HU3.out.c1
  have hul := HU3.out.lt
  go_wp2_with fail
  clear u0 u0' hul
  refine calls_atN (fun v => TpAt v w.heap.size 57 A0 n c o0 ∧ TpAt v (w.heap.size + 1) 57 A1 m d o1 ∧ TpAt v v6.heap.size 61 X n x o0 ∧ RdN v (fun _ => True) X n x ns ∧ Below w.heap.size w v) ⟨HS3.out.on (below_one _ _), HU3.out.on (below_one _ _), TpAt.new _ _ _ _ _ _, HX.out.on (below_one _ _), belowN_on HB3.out (below_one _ _)⟩ ?_
  rintro v7 ⟨pS, pU, pY, pX, pB⟩
  refine (toTape_any A1 m d ms o1 v7 ((HQ.out.below pB).mono fun _ h _ => Nat.lt_of_lt_of_le h pB.size) hcm).mono ?_
  rintro e v8 ⟨Y, y, rfl, oo, bb⟩
  have HS := Lib.hid (pS.on bb)
  have HU := Lib.hid (pU.on bb)
  have HG := Lib.hid (pY.on bb)
  replace HX := Lib.hid (pX.on bb)
  have HB := Lib.hid (belowN_on pB bb)
  have HY := Lib.hid oo.all
  clear oo bb pS pU pY pX pB HS3 HU3 HB3
  have g0 := HG.out.c0
  have g0' := HG.out.c1
  have hgl := HG.out.lt
  go_wp2_with fail
  clear g0 g0' hgl
  refine calls_atN (fun v => TpAt v w.heap.size 57 A0 n c o0 ∧ TpAt v (w.heap.size + 1) 57 A1 m d o1 ∧ TpAt v v6.heap.size 61 X n x o0 ∧ TpAt v v8.heap.size 61 Y m y o1 ∧ RdN v (fun _ => True) X n x ns ∧ RdN v (fun _ => True) Y m y ms ∧ Below w.heap.size w v) ⟨HS.out.on (below_one _ _), HU.out.on (below_one _ _), HG.out.on (below_one _ _), TpAt.new _ _ _ _ _ _, HX.out.on (below_one _ _), HY.out.on (below_one _ _), belowN_on HB.out (below_one _ _)⟩ ?_
  rintro v9 ⟨pS, pU, pG, pH, pX, pY, pB⟩
  refine (implSameTape_any X Y n x m y ns ms o0 o1 _ _ v9 pX pY hcn hcm).mono ?_
  rintro e v10 ⟨rfl, bb⟩
  replace HS := Lib.hid (pS.on bb)
  replace HU := Lib.hid (pU.on bb)
  replace HG := Lib.hid (pG.on bb)
  have HH := Lib.hid (pH.on bb)
  replace HX := Lib.hid (pX.on bb)
  replace HY := Lib.hid (pY.on bb)
  replace HB := Lib.hid (belowN_on pB bb)
  clear bb pS pU pG pH pX pY pB
  have hne : (sameTp ns ms o0 o1 != sameTp ns ms o0 o1) = false := by simp
  generalize sameTp ns ms o0 o1 = J at *
  have s0 := HS.out.c0
  have g0 := HG.out.c0
  have s0' := HS.out.c1
  have g0' := HG.out.c1
  go_wp2_with fail
  have HC := Lib.hid (show _ ∧ _ ∧ _ ∧ _ from ⟨s0, s0', g0, g0'⟩)
  clear s0 g0 s0' g0'
  go_region_held3 (fun wx => wx.cell? ⟨w.heap.size, 0, none⟩ = some (.slice A0 n c) ∧ wx.cell? ⟨w.heap.size, 1, none⟩ = some (.int .i64 o0) ∧ wx.cell? ⟨v6.heap.size, 0, none⟩ = some (.slice X n x) ∧ wx.cell? ⟨v6.heap.size, 1, none⟩ = some (.int .i64 o0))
    (first | exact HC.out | exact HC1.out | exact HC2.out)
    (first
      | (go_at_call 33; refine (toTape_any A0 n c ns o0 _ (by exact ((HR.out.below HB.out).mono (Q := (· < v10.heap.size)) fun _ h _ => Nat.lt_of_lt_of_le h HB.out.size).drew) hcn).mono ?_; rintro e v11 ⟨Z, z, rfl, oo, bb⟩; have bb := undrewN bb; have HS1 := Lib.hid (HS.out.on bb); have HU1 := Lib.hid (HU.out.on bb); have HG1 := Lib.hid (HG.out.on bb); have HH1 := Lib.hid (HH.out.on bb); have HX1 := Lib.hid (HX.out.on bb); have HY1 := Lib.hid (HY.out.on bb); have HB1 := Lib.hid (belowN_on HB.out bb); have HZ1 := Lib.hid oo.all; have HC1 := Lib.hid (show _ ∧ _ ∧ _ ∧ _ from ⟨HS1.out.c0, HS1.out.c1, HG1.out.c0, HG1.out.c1⟩); clear oo bb)
      | (go_at_call 35; refine (eqTape_same X Z n x z ns o0 _ _ _ (by exact HX1.out) (by exact HZ1.out) hcn).mono ?_; rintro e v12 ⟨rfl, bb⟩; have HB2 := Lib.hid (belowN_on HB1.out bb); have HU2 := Lib.hid (HU1.out.on bb); have HH2 := Lib.hid (HH1.out.on bb); have HY2 := Lib.hid (HY1.out.on bb); have HC2 := Lib.hid (show _ ∧ _ ∧ _ ∧ _ from ⟨(HS1.out.on bb).c0, (HS1.out.on bb).c1, (HG1.out.on bb).c0, (HG1.out.on bb).c1⟩); clear bb))
  clear HC HC1 HC2 HS HU HG HH HX HY HB HS1 HU1 HG1 HH1 HX1 HY1 HB1 HZ1
  have u0 := HU2.out.c0
  have h0 := HH2.out.c0
  have u0' := HU2.out.c1
  have h0' := HH2.out.c1
  go_wp2_with fail
  have HC := Lib.hid (show _ ∧ _ ∧ _ ∧ _ from ⟨u0, u0', h0, h0'⟩)
  clear u0 h0 u0' h0'
  go_region_held3 (fun wx => wx.cell? ⟨w.heap.size + 1, 0, none⟩ = some (.slice A1 m d) ∧ wx.cell? ⟨w.heap.size + 1, 1, none⟩ = some (.int .i64 o1) ∧ wx.cell? ⟨v8.heap.size, 0, none⟩ = some (.slice Y m y) ∧ wx.cell? ⟨v8.heap.size, 1, none⟩ = some (.int .i64 o1))
    (first | exact HC.out | exact HC1.out | exact HC2.out)
    (first
      | (go_at_call 33; refine (toTape_any A1 m d ms o1 _ (by exact ((HQ.out.below HB2.out).mono (Q := (· < v12.heap.size)) fun _ h _ => Nat.lt_of_lt_of_le h HB2.out.size).drew) hcm).mono ?_; rintro e v13 ⟨Z', z', rfl, oo, bb⟩; have bb := undrewN bb; have HU3 := Lib.hid (HU2.out.on bb); have HH3 := Lib.hid (HH2.out.on bb); have HY3 := Lib.hid (HY2.out.on bb); have HB3 := Lib.hid (belowN_on HB2.out bb); have HZ3 := Lib.hid oo.all; have HC1 := Lib.hid (show _ ∧ _ ∧ _ ∧ _ from ⟨HU3.out.c0, HU3.out.c1, HH3.out.c0, HH3.out.c1⟩); clear oo bb)
      | (go_at_call 35; refine (eqTape_same Y Z' m y z' ms o1 _ _ _ (by exact HY3.out) (by exact HZ3.out) hcm).mono ?_; rintro e v14 ⟨rfl, bb⟩; have HB4 := Lib.hid (belowN_on HB3.out bb); have HC2 := Lib.hid (show _ ∧ _ ∧ _ ∧ _ from ⟨(HU3.out.on bb).c0, (HU3.out.on bb).c1, (HH3.out.on bb).c0, (HH3.out.on bb).c1⟩); clear bb))
  go_wp2
  go_ret
  exact ⟨rfl, HB4.out⟩

theorem own_fnExactSameTape : ownKnob Try.prog.godebug = none := by kernel_rfl
theorem laidOut_fnExactSameTape : laidOutB Try.prog = true := by kernel_rfl
set_option maxRecDepth 100000 in
set_option linter.unusedVariables false in
theorem fnExactSameTape_lifted (os : Os) (started : os.Started) (H : Type) (enc : TypeId × Value → H) :
    ReturnsInHanded {} Try.checked os 6 .any (Rows.fnExactSameTapeSpec.pre6 enc Try.prog Try.f6 Rows.fnExactSameTapeRow.domain false) (Rows.fnExactSameTapeSpec.post enc Try.prog Try.f6 false true false false) := by
  refine returnsInHanded_of_change (C := Try.checked) own_fnExactSameTape started (by kernel_rfl) Try.func6
    (ChangeSpec.witness6 (enc := enc) (C := Try.checked) false ⟨#[], #[.agg #[.slice none 0 0, .int .i64 0], .agg #[.slice none 0 0, .int .i64 0]], []⟩ 8 (by kernel_rfl) (by kernel_rfl) (by kernel_rfl) (by kernel_rfl)) ?_
  intro W base args ds gs before hval0 hW hcnd _
  have hval : ∀ (j : Nat) t v, Try.f6.params[j]? = some t → args[j]? = some v → Value.okWide Try.prog W .any base t v := hval0
  have hW' := hW
  obtain ⟨p, q, hA0, hV, rfl, hfz, hnd⟩ := hW
  have hA : DataW.TrodAll enc Try.prog W 0 (fun _ => true) true Try.f6.params.toList args.toList ds p := hA0
  rw [Try.params6] at hA hval
  obtain ⟨v0, vs0, d0, ds0, p0, q0, hargs, rfl, rfl, h0, r0⟩ := trodAll_cons hA
  obtain ⟨v1, vs1, d1, ds1, p1, q1, rfl, rfl, rfl, h1, r1⟩ := trodAll_cons r0
  obtain ⟨rfl, rfl, rfl⟩ := trodAll_nil r1
  obtain rfl : args = #[v0, v1] := by cases args; simp_all
  obtain ⟨rfl, rfl⟩ := trodVars_none hV
  have k0 := h0
  have lt0 : ∀ x ∈ p0, x.block < W.heap.size := by obtain ⟨m, hm⟩ := k0; exact DataW.trod_lt m _ _ _ hm
  obtain ⟨a0, len0, cap0, z0, o0, rfl, w0, l0⟩ := open_tape Try.underlying57 (by kernel_rfl) (by kernel_rfl) Try.underlying49 Try.underlying3 Try.underlying160 (by kernel_rfl) (by kernel_rfl) Try.underlying3 Try.underlying3 Try.underlying3 Try.underlying3 (hval 0 57 v0 rfl rfl) h0
  have k1 := h1
  have lt1 : ∀ x ∈ p1, x.block < W.heap.size := by obtain ⟨m, hm⟩ := k1; exact DataW.trod_lt m _ _ _ hm
  obtain ⟨a1, len1, cap1, z1, o1, rfl, w1, l1⟩ := open_tape Try.underlying57 (by kernel_rfl) (by kernel_rfl) Try.underlying49 Try.underlying3 Try.underlying160 (by kernel_rfl) (by kernel_rfl) Try.underlying3 Try.underlying3 Try.underlying3 Try.underlying3 (hval 1 57 v1 rfl rfl) h1
  clear hA0 hval0
  refine (lawSameTape_any a0 len0 cap0 z0 o0 a1 len1 cap1 z1 o1 W w0 l0 w1 l1).mono fun e W' ⟨he, bel⟩ => ?_
  subst he
  exact ⟨_, rfl, _, _, _, [], _, [], hW', trodAll_mk1 (shut_bool Try.underlying4 _), (trodAll_cons_mk (Below.trod laidOut_fnExactSameTape (by kernel_rfl) (of_decide_eq_true (by kernel_rfl)) k0 bel lt0) (trodAll_cons_mk (Below.trod laidOut_fnExactSameTape (by kernel_rfl) (of_decide_eq_true (by kernel_rfl)) k1 bel lt1) trodAll_mk0)), rfl, bel.frame _, fun h => by cases h⟩

theorem fnExactSameTape_over : Rows.fnExactSameTapeRow.holds Try.pinned (OpenSpec.ofChange Rows.fnExactSameTapeSpec) :=
  OpenClaim.holds_of_wide 6 Try.f6 rfl rfl rfl rfl rfl rfl rfl ⟨rfl, rfl, rfl, rfl, rfl⟩ rfl rfl rfl rfl rfl (by kernel_rfl) Try.func6 (by kernel_rfl)
    (of_decide_eq_true (by kernel_rfl)) (by unfold Func.isWrapper; first | (rw [if_pos (by decide +kernel)]; kernel_rfl) | (rw [if_neg (by decide +kernel)]; exact ⟨rfl, rfl⟩))
    (fun os started H enc _ => fnExactSameTape_lifted os started H enc)

theorem fnExactSameTape_holds : Rows.FnExactSameTapeSaid := fnExactSameTape_over

end Go.Proofs.Ytlphcpkhclfkaaa
