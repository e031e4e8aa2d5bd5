/-
  The law FnExactNatOK: for every list NatOK answers as its model, and writes into no argument. No condition.
-/
import Derived.Test.YtnagmhmjhhfmcaaOk
import Derived.ProofKit
import Derived.OpenShut
import Derived.ShutString
import Derived.ChangeOld
namespace Go.Proofs.Ytnagmhmjhhfmcaa
open Go Go.RowKit Nt
open Go.ChangeShapes Go.WideShapes Go.ChangeAt
open Go.ChangeMaps (open_string shut_string)

set_option maxHeartbeats 400000 in
theorem lawNatOK_any (A : Option Addr) (n c : Nat) (xs : List Int) (w : World) (hr : Rd w (· < w.heap.size) A n c xs) (hn : n ≤ 9223372036854775807) :
    Calls Try.prog 5 #[.slice A n c] w fun e w' => e = .returned (.bool true) ∧ Below w.heap.size w w' := by
  by_cases hbig : 1048576 < n
  · go_enter Try.func5, Try.ntmps5
    go_wp2
    go_ret
    exact ⟨rfl, Below.refl _ _⟩
  · have hn' : n ≤ 1048576 := by omega
    have hbig' : (n : Int) ≤ 1048576 := by omega
    go_enter Try.func5, Try.ntmps5
    go_wp2_with fail
    refine (toIntS_any A n c xs _ w hr hn').mono ?_
    rintro e w1 ⟨rfl, ha1, hb1⟩
    go_wp2_with fail
    refine (specNatOK_any _ n n xs (fun _ => True) w1 (ha1.rd_all _ trivial n n hr.len.symm (Nat.le_refl _)) (by omega)).mono ?_
    rintro e w2 ⟨rfl, rfl⟩
    clear ha1
    have hr1 := hr.below hb1
    go_wp2_with fail
    refine (toIntS_any A n c xs _ w1 hr1 hn').mono ?_
    rintro e w2 ⟨rfl, ha2, hb2⟩
    go_wp2_with fail
    refine (implNatOK_any _ n n xs (fun _ => True) w2 (ha2.rd_all _ trivial n n hr.len.symm (Nat.le_refl _)) (by omega)).mono ?_
    rintro e w3 ⟨rfl, rfl⟩
    have hs1 := hb1.size
    have hs2 := hb2.size
    have hr2 := hr1.below (hb2.mono hs1)
    have hne : (okL xs != okL xs) = false := by simp
    generalize okL xs = ok at *
    go_wp2_with fail
    refine (toIntS_any A n c xs _ w2 hr2 hn').mono ?_
    rintro e w3 ⟨rfl, ha3, hb3⟩
    go_wp2_with fail
    refine (eqIntS_same _ _ n n n n xs (fun _ => True) (fun _ => True) w3 ((ha2.keep (hb3.block _ ha2.lt)).rd_all _ trivial n n hr.len.symm (Nat.le_refl _)) (ha3.rd_all _ trivial n n hr.len.symm (Nat.le_refl _)) (by omega)).mono ?_
    rintro e w4 ⟨rfl, hd4⟩
    have HB := Lib.hid (((hb1.trans (hb2.mono hs1)).trans (hb3.mono (Nat.le_trans hs1 hs2))).trans (hd4.below _))
    clear hd4
    clear ha2 ha3 hb1 hb2 hb3 hr hr1 hr2
    go_wp2
    go_ret
    exact ⟨rfl, HB.out⟩


theorem own_fnExactNatOK : ownKnob Try.prog.godebug = none := by kernel_rfl
theorem laidOut_fnExactNatOK : laidOutB Try.prog = true := by kernel_rfl
set_option maxRecDepth 100000 in
set_option linter.unusedVariables false in
theorem fnExactNatOK_lifted (os : Os) (started : os.Started) (H : Type) (enc : TypeId × Value → H) :
    ReturnsInHanded {} Try.checked os 5 .any (Rows.fnExactNatOKSpec.pre6 enc Try.prog Try.f5 Rows.fnExactNatOKRow.domain false) (Rows.fnExactNatOKSpec.post enc Try.prog Try.f5 false true false false) := by
  refine returnsInHanded_of_change (C := Try.checked) own_fnExactNatOK started (by kernel_rfl) Try.func5
    (ChangeSpec.witness6 (enc := enc) (C := Try.checked) false ⟨#[], #[.slice none 0 0], []⟩ 8 (by kernel_rfl) (by kernel_rfl) (by kernel_rfl) (by kernel_rfl)) ?_
  intro W base args ds gs before hval0 hW hcnd _
  have hval : ∀ (j : Nat) t v, Try.f5.params[j]? = some t → args[j]? = some v → Value.okWide Try.prog W .any base t v := hval0
  have hW' := hW
  obtain ⟨p, q, hA0, hV, rfl, hfz, hnd⟩ := hW
  have hA : DataW.TrodAll enc Try.prog W 0 (fun _ => true) true Try.f5.params.toList args.toList ds p := hA0
  rw [Try.params5] at hA hval
  obtain ⟨v0, vs0, d0, ds0, p0, q0, hargs, rfl, rfl, h0, r0⟩ := trodAll_cons hA
  obtain ⟨rfl, rfl, rfl⟩ := trodAll_nil r0
  obtain rfl : args = #[v0] := by cases args; simp_all
  obtain ⟨rfl, rfl⟩ := trodVars_none hV
  obtain ⟨a0, len0, cap0, rfl⟩ := okWide_slice Try.underlying24 (hval 0 24 v0 rfl rfl)
  have k0 := h0
  have lt0 : ∀ x ∈ p0, x.block < W.heap.size := by obtain ⟨m, hm⟩ := k0; exact DataW.trod_lt m _ _ _ hm
  obtain ⟨z0, w0⟩ : ∃ zs, IsRow .i64 W a0 len0 cap0 zs := by
    obtain ⟨fuel, hf⟩ := h0
    rcases open_ints Try.underlying24 Try.underlying3 (by kernel_rfl) hf with ⟨hcs, _⟩ | ⟨x, l, c, zs, hcs, _, hl, hm, hz, _, hcell, hwz⟩
    · simp [Value.cells] at hcs
      obtain ⟨rfl, rfl, rfl⟩ := hcs
      exact ⟨[], .inl ⟨rfl, rfl, rfl, rfl⟩⟩
    · simp [Value.cells] at hcs
      obtain ⟨rfl, rfl, rfl⟩ := hcs
      exact ⟨zs, .inr ⟨_, rfl, hl, hm, by simpa using hz, hcell, hwz⟩⟩
  clear hA0 hval0
  refine (lawNatOK_any a0 len0 cap0 _ W w0.rd w0.le).mono fun e W' ⟨he, bel⟩ => ?_
  subst he
  exact ⟨_, rfl, _, _, _, [], _, [], hW', trodAll_mk1 (shut_bool Try.underlying4 _), (trodAll_cons_mk (Below.trod laidOut_fnExactNatOK (by kernel_rfl) (of_decide_eq_true (by kernel_rfl)) k0 bel lt0) trodAll_mk0), rfl, bel.frame _, fun h => by cases h⟩

theorem fnExactNatOK_over : Rows.fnExactNatOKRow.holds Try.pinned (OpenSpec.ofChange Rows.fnExactNatOKSpec) :=
  OpenClaim.holds_of_wide 5 Try.f5 rfl rfl rfl rfl rfl rfl rfl ⟨rfl, rfl, rfl, rfl, rfl⟩ rfl rfl rfl rfl rfl (by kernel_rfl) Try.func5 (by kernel_rfl)
    (of_decide_eq_true (by kernel_rfl)) (by unfold Func.isWrapper; first | (rw [if_pos (by decide +kernel)]; kernel_rfl) | (rw [if_neg (by decide +kernel)]; exact ⟨rfl, rfl⟩))
    (fun os started H enc _ => fnExactNatOK_lifted os started H enc)

theorem fnExactNatOK_holds : Rows.FnExactNatOKSaid := fnExactNatOK_over

end Go.Proofs.Ytnagmhmjhhfmcaa
