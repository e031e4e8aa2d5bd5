/-
  The law FnExactJoinTokens: its tied card: whatever the tokens, JoinTokens answers as its model, and writes into no argument, where the library's tables lie as its text lays them. No other condition.
-/
import Derived.Test.YtliefhkllpmlmabDoorTokRow
import Derived.Test.YtliefhkllpmlmabDoorSpecJoin
import Derived.Test.YtliefhkllpmlmabDoorTabLaid
namespace Go.Proofs.YtliefhkllpmlmabDoor
open Go Go.RowKit Nt
open Go.ChangeShapes Go.WideShapes Go.ChangeAt
open Go.ChangeMaps (open_string shut_string)

set_option maxRecDepth 20000 in
set_option maxHeartbeats 1600000 in
theorem lawJoinTokens_any (A : Option Addr) (n c : Nat) (ks : List Tk) (w : World) (hr : RdT w (· < w.heap.size) A n c ks) (hs : ShortT ks) (hn : n ≤ 9223372036854775807) (ht : Pow10 w) :
    Calls Tryd.prog 7 #[.slice A n c] w fun e w' => e = .returned (.bool true) ∧ Below w.heap.size w w' := by
  have HR := Lib.hid hr
  have HL := Lib.hid hr.1
  have HT := Lib.hid ht
  have HSZ := Lib.hid (szTokenS_any A n c ks 1048576 w hr hs hn (by omega) (by omega))
  clear hr hs ht
  by_cases hb : (1048576 : Int) < ks.length + totT ks
  · rw [szT_big hb] at HSZ
    clear hb
    go_enter Tryd.func7, Tryd.ntmps7
    go_wp2_with fail
    refine HSZ.out.mono ?_
    rintro e w1 ⟨rfl, b1⟩
    have HB1 := Lib.hid b1
    clear b1
    go_wp2
    go_ret
    exact ⟨rfl, HB1.out⟩
  rw [szT_fit hb] at HSZ
  have hsm : SmallT ks := smallT_tot (by omega)
  have hn' : n ≤ 1048576 := by have := HL.out; omega
  have hq : 0 ≤ 1048576 - (ks.length : Int) - (totT ks : Int) := by omega
  have HSP := Lib.hid (fun (W : World) (B : Option Addr) (d : Nat) (P : Nat → Prop) (h : RdT W P B n d ks) => specJoinTokens_any B n d ks P W h hsm hn')
  have HIM := Lib.hid (fun (W : World) (B : Option Addr) (d : Nat) (P : Nat → Prop) (h : RdT W P B n d ks) (k : Pow10 W) => implJoinTokens_any B n d ks P W h hsm hn' k)
  have hcE : (codeJ ks != codeJ ks) = false := by simp
  generalize txtJ ks = tx at *
  generalize codeJ ks = cd at *
  generalize 1048576 - (ks.length : Int) - (totT ks : Int) = lf at *
  clear hb hsm
  go_enter Tryd.func7, Tryd.ntmps7
  go_wp2_with fail
  refine HSZ.out.mono ?_
  rintro e w1 ⟨rfl, b1⟩
  have HB1 := Lib.hid b1
  clear b1 HSZ
  go_wp2_with fail
  refine (toTokenS_any A n c ks w1 ((HR.out.below HB1.out).mono (Q := (· < w1.heap.size)) fun _ h _ => Nat.lt_of_lt_of_le h HB1.out.size) hn').mono ?_
  rintro e w2 ⟨B2, d2, rfl, r2, b2⟩
  have HB2 := Lib.hid (HB1.out.trans (b2.mono HB1.out.size))
  have HR2 := Lib.hid r2
  clear b2 r2 HB1
  go_wp2_with fail
  refine (HSP.out w2 B2 d2 _ HR2.out).mono ?_
  rintro e w3 ⟨rfl, b3⟩
  have HB3 := Lib.hid (HB2.out.trans (b3.mono HB2.out.size))
  clear b3 HR2 HB2
  go_wp2_with fail
  refine (toTokenS_any A n c ks w3 ((HR.out.below HB3.out).mono (Q := (· < w3.heap.size)) fun _ h _ => Nat.lt_of_lt_of_le h HB3.out.size) hn').mono ?_
  rintro e w4 ⟨B4, d4, rfl, r4, b4⟩
  have HB4 := Lib.hid (HB3.out.trans (b4.mono HB3.out.size))
  have HR4 := Lib.hid (r4.mono (Q := fun _ => True) fun _ _ _ => trivial)
  clear b4 r4 HB3
  go_wp2_with fail
  refine (HIM.out w4 B4 d4 _ HR4.out (pow10_on HT.out HB4.out)).mono ?_
  rintro e w5 ⟨rfl, b5⟩
  have HB5 := Lib.hid (HB4.out.trans (b5.mono HB4.out.size))
  have HR5 := Lib.hid (HR4.out.keep b5.size fun b _ hl => b5.block b hl)
  clear b5 HR4 HB4
  go_wp2_with fail
  refine (toTokenS_any A n c ks w5 ((HR.out.below HB5.out).mono (Q := (· < w5.heap.size)) fun _ h _ => Nat.lt_of_lt_of_le h HB5.out.size) hn').mono ?_
  rintro e w6 ⟨B6, d6, rfl, r6, b6⟩
  have HB6 := Lib.hid (HB5.out.trans (b6.mono HB5.out.size))
  have HR6 := Lib.hid (HR5.out.keep b6.size fun b _ hl => b6.block b hl)
  have HZ6 := Lib.hid (r6.mono (Q := fun _ => True) fun _ _ _ => trivial)
  clear b6 r6 HR5 HB5
  go_wp2_with fail
  refine (eqTokenS_same B4 B6 n d4 d6 ks _ _ w6 HR6.out HZ6.out hn').mono ?_
  rintro e w7 ⟨rfl, b7⟩
  have HB7 := Lib.hid (HB6.out.trans (b7.mono HB6.out.size))
  clear b7
  go_wp2
  go_ret
  exact ⟨rfl, HB7.out⟩


theorem own_fnExactJoinTokens : ownKnob Tryd.prog.godebug = none := by kernel_rfl
theorem laidOut_fnExactJoinTokens : laidOutB Tryd.prog = true := by kernel_rfl
theorem laidMet_fnExactJoinTokens (os : Os) : laidMet Tryd.prog Rows.fnExactJoinTokensRow.laid ((tabWorld os).forCall (fun _ _ => 0) ⟨#[], #[.slice none 0 0], []⟩).memory :=
  laidMet_of_run' 8 (by kernel_rfl) (by kernel_rfl)
set_option maxRecDepth 100000 in
set_option linter.unusedVariables false in
theorem contract_fnExactJoinTokens (H : Type) (enc : TypeId × Value → H) (W : World) (base : Nat) (args : Array Value) (ds gs : List (DataW H)) (before : List MemPlace)
    (hval0 : ∀ (j : Nat) t v, Tryd.f7.params[j]? = some t → args[j]? = some v → Value.okWide Tryd.prog W .any base t v)
    (hW : DataW.Whole enc Tryd.prog Tryd.f7.params.toList Rows.fnExactJoinTokensSpec.vars false W args.toList ds gs before) (hL : laidMetH Tryd.prog Rows.fnExactJoinTokensRow.laid W) :
    Calls Tryd.prog 7 args W fun e W' => ∃ v, e = .returned v ∧ Rows.fnExactJoinTokensSpec.post enc Tryd.prog Tryd.f7 false true false false W args v W' := by
  have hval := hval0
  have hW' := hW
  obtain ⟨p, q, hA0, hV0, rfl, hfz, hnd⟩ := hW
  have hA : DataW.TrodAll enc Tryd.prog W 0 (fun _ => true) true Tryd.f7.params.toList args.toList ds p := hA0
  rw [Tryd.params7] at hA hval
  have hpow : Pow10 W := pow10_of_laid (W := W) hL
  obtain ⟨rfl, rfl⟩ := trodVars_none hV0
  obtain ⟨v0, vs0, d0, ds0, p0, q0, hargs, rfl, rfl, h0, r0⟩ := trodAll_cons hA
  obtain ⟨rfl, rfl, rfl⟩ := trodAll_nil r0
  obtain rfl : args = #[v0] := by cases args; simp_all
  obtain ⟨a0, len0, cap0, rfl⟩ := okWide_slice Tryd.underlying48 (hval 0 48 v0 rfl rfl)
  have k0 := h0
  have lt0 : ∀ x ∈ p0, x.block < W.heap.size := by obtain ⟨m, hm⟩ := k0; exact DataW.trod_lt m _ _ _ hm
  obtain ⟨z0, w0, u0, l0⟩ : ∃ ks, RdT W (· < W.heap.size) a0 len0 cap0 ks ∧ ShortT ks ∧ len0 ≤ 9223372036854775807 := by
    obtain ⟨fuel, hf⟩ := h0
    exact open_toks Tryd.underlying48 Tryd.underlying42 (by kernel_rfl) (by kernel_rfl) Tryd.underlying3 Tryd.underlying3 Tryd.underlying9 hf
  clear hA0 hval0
  refine (lawJoinTokens_any a0 len0 cap0 z0 W w0 u0 l0 hpow).mono fun e W' ⟨he, bel⟩ => ?_
  subst he
  exact ⟨_, rfl, _, _, _, [], _, [], hW', trodAll_mk1 (shut_bool Tryd.underlying4 _), (trodAll_cons_mk (Below.trod laidOut_fnExactJoinTokens (by kernel_rfl) (of_decide_eq_true (by kernel_rfl)) k0 bel lt0) trodAll_mk0), rfl, bel.frame _, fun h => by cases h⟩

set_option maxRecDepth 100000 in
theorem lifted_fnExactJoinTokens (os : Os) (started : os.Started) (H : Type) (enc : TypeId × Value → H) (F : Stop.Interp) :
    ReturnsInHanded {} Tryd.checked os 7 .any ((OpenSpec.ofChange Rows.fnExactJoinTokensSpec).preRow enc Tryd.prog Tryd.f7 Rows.fnExactJoinTokensRow.domain false Rows.fnExactJoinTokensRow.laid) (((OpenSpec.ofChange Rows.fnExactJoinTokensSpec).at F).post enc Tryd.prog Tryd.f7 false true false false) := by
  have hsome : (DataW.whole enc Tryd.prog ((tabWorld os).forCall (fun _ _ => 0) ⟨#[], #[.slice none 0 0], []⟩).memory Tryd.f7.params.toList Rows.fnExactJoinTokensSpec.vars false (#[.slice none 0 0] : Array Value).toList 8).isSome = true := by kernel_rfl
  obtain ⟨x, hx⟩ := Option.isSome_iff_exists.1 hsome
  refine returnsInHanded_of_row (C := Tryd.checked) (s := OpenSpec.ofChange Rows.fnExactJoinTokensSpec) own_fnExactJoinTokens started (by kernel_rfl) Tryd.func7
    (witness_row_at (enc := enc) (C := Tryd.checked) false (tabWorld os) #[.slice none 0 0] rfl (by kernel_rfl) (by kernel_rfl) (by kernel_rfl)
      (OpenSpec.preRow_of_cond 8 hx (by kernel_rfl) (fun k hk => by cases hk) (by kernel_rfl) (laidMet_fnExactJoinTokens os))) ?_
  intro W base args ds gs before hval hW _ _ _ hL _ _
  exact contract_fnExactJoinTokens H enc W base args ds gs before hval hW hL

theorem said_fnExactJoinTokens : Rows.FnExactJoinTokensSaid :=
  OpenClaim.holds_of_cond 7 Tryd.f7 rfl rfl rfl rfl rfl rfl rfl ⟨rfl, rfl, rfl, rfl, rfl⟩ rfl rfl rfl rfl rfl (by kernel_rfl) Tryd.func7 (by kernel_rfl)
    (of_decide_eq_true (by kernel_rfl)) (by unfold Func.isWrapper; first | (rw [if_pos (by decide +kernel)]; kernel_rfl) | (rw [if_neg (by decide +kernel)]; exact ⟨rfl, rfl⟩))
    (fun os started H enc _ F => by rw [OpenClaim.pre_eq_preRow]; exact lifted_fnExactJoinTokens os started H enc F)

theorem plain_fnExactJoinTokens (f : FuncId) (fn : Func) (hf : Tryd.pinned.checked.prog.funcNamed "loop.example/g00615/laws.FnExactJoinTokens" = some f) (hfn : Tryd.pinned.checked.prog.funcs[f]? = some fn) :
    false = Tryd.pinned.checked.prog.looks [] ∧ ∀ (j : Nat) t, fn.params[j]? = some t → Tryd.pinned.checked.prog.wantsStandIn t = false := by
  obtain rfl : f = 7 := Option.some.inj ((show Tryd.prog.funcNamed "loop.example/g00615/laws.FnExactJoinTokens" = some 7 by kernel_rfl).symm.trans hf) |>.symm
  obtain rfl : fn = Tryd.f7 := (Option.some.inj (Tryd.func7.symm.trans hfn)).symm
  refine ⟨by kernel_rfl, fun j t ht => ?_⟩
  rw [Tryd.params7] at ht
  obtain rfl : t = 48 := by simpa using Array.mem_of_getElem? ht
  exact (show Tryd.prog.wantsStandIn 48 = false by kernel_rfl)

theorem fnExactJoinTokens_card : Rows.FnExactJoinTokensCardSaid :=
  Claim7.holds_tied_plain_at .later [] _ _ _ _ said_fnExactJoinTokens (fun _ h => by cases h) (by kernel_rfl) (fun _ h => by cases h) fnExactJoinTokens_row_tie rfl ⟨rfl, rfl⟩ (by kernel_rfl) rfl plain_fnExactJoinTokens (by kernel_rfl)

end Go.Proofs.YtliefhkllpmlmabDoor
