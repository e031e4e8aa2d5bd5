/-
  The law FnExactNatText: its tied card: whatever the list, NatText answers as its model, and writes into no argument, where the library's tables lie as its text lays them. No other condition.
-/
import Derived.Test.YtliefhkllpmlmabDoorNatText
import Derived.Test.YtliefhkllpmlmabDoorTabLaid
import Derived.Test.YtliefhkllpmlmabDoorGrpA
namespace Go.Proofs.YtliefhkllpmlmabDoor
open Go Go.RowKit Nt
open Go.ChangeShapes Go.WideShapes Go.ChangeAt
open Go.ChangeMaps (open_string shut_string)

set_option maxRecDepth 20000 in
set_option maxHeartbeats 1600000 in
theorem lawNatText_any (A : Option Addr) (n c : Nat) (xs : List Int) (w : World) (hr : Rd w (· < w.heap.size) A n c xs) (hn : n ≤ 9223372036854775807) (ht : Pow10 w) :
    Calls Tryd.prog 3 #[.slice A n c] w fun e w' => e = .returned (.bool true) ∧ Below w.heap.size w w' := by
  by_cases hbig : 1048576 < n
  · clear ht
    go_enter Tryd.func3, Tryd.ntmps3
    go_wp2
    go_ret
    exact ⟨rfl, Below.refl _ _⟩
  have hn' : n ≤ 1048576 := by omega
  have hbig' : (n : Int) ≤ 1048576 := by omega
  have HT := Lib.hid ht
  have HLEN := Lib.hid hr.len.symm
  have HR := Lib.hid hr
  have hcE : (codeL [xs] != codeL [xs]) = false := by simp
  clear ht hr
  have HSP := Lib.hid (fun (W : World) (B : Option Addr) (d : Nat) (h : Rd W (fun _ => True) B n d xs) => specNatText_any B n d xs _ W h hn')
  have HIM := Lib.hid (fun (W : World) (B : Option Addr) (d : Nat) (h : Rd W (fun _ => True) B n d xs) (k : Pow10 W) => implNatText_any B n d xs _ W h hn' k)
  generalize txtC (codeL [xs]) (txtN xs) = tx at *
  generalize codeL [xs] = cd at *
  go_enter Tryd.func3, Tryd.ntmps3
  go_wp2_with fail
  refine (toIntS_any A n c xs _ w HR.out hn').mono ?_
  rintro e w1 ⟨rfl, ha1, hb1⟩
  have HA1 := Lib.hid (ha1.rd_all (fun _ => True) trivial n n HLEN.out (Nat.le_refl _))
  have HB1 := Lib.hid hb1
  clear ha1 hb1
  go_wp2_with fail
  refine (HSP.out w1 _ _ HA1.out).mono ?_
  rintro e w2 ⟨rfl, b2⟩
  have HB2 := Lib.hid (HB1.out.trans (b2.mono HB1.out.size))
  clear b2 HA1 HB1
  go_wp2_with fail
  refine (toIntS_any A n c xs _ w2 (HR.out.below HB2.out) hn').mono ?_
  rintro e w3 ⟨rfl, ha3, hb3⟩
  have HA3 := Lib.hid (ha3.rd_all (fun _ => True) trivial n n HLEN.out (Nat.le_refl _))
  have HB3 := Lib.hid (HB2.out.trans (hb3.mono HB2.out.size))
  clear ha3 hb3 HB2
  go_wp2_with fail
  refine (HIM.out w3 _ _ HA3.out (pow10_on HT.out HB3.out)).mono ?_
  rintro e w4 ⟨rfl, b4⟩
  have HA4 := Lib.hid (HA3.out.keep b4.size fun b _ hl => b4.block b hl)
  have HB4 := Lib.hid (HB3.out.trans (b4.mono HB3.out.size))
  clear b4 HA3 HB3
  go_wp2_with fail
  refine (toIntS_any A n c xs _ w4 (HR.out.below HB4.out) hn').mono ?_
  rintro e w5 ⟨rfl, ha5, hb5⟩
  have HA5 := Lib.hid (HA4.out.keep hb5.size fun b _ hl => hb5.block b hl)
  have HZ5 := Lib.hid (ha5.rd_all (fun _ => True) trivial n n HLEN.out (Nat.le_refl _))
  have HB5 := Lib.hid (HB4.out.trans (hb5.mono HB4.out.size))
  clear ha5 hb5 HB4 HA4
  go_wp2_with fail
  refine (eqIntS_same _ _ n n n n xs (fun _ => True) (fun _ => True) w5 HA5.out HZ5.out (by omega)).mono ?_
  rintro e w6 ⟨rfl, hd6⟩
  have HB6 := Lib.hid (HB5.out.trans (hd6.below _))
  clear hd6
  go_wp2
  go_ret
  exact ⟨rfl, HB6.out⟩


theorem own_fnExactNatText : ownKnob Tryd.prog.godebug = none := by kernel_rfl
theorem laidOut_fnExactNatText : laidOutB Tryd.prog = true := by kernel_rfl
theorem laidMet_fnExactNatText (os : Os) : laidMet Tryd.prog Rows.fnExactNatTextRow.laid ((tabWorld os).forCall (fun _ _ => 0) ⟨#[], #[.slice none 0 0], []⟩).memory :=
  laidMet_of_run' 8 (by kernel_rfl) (by kernel_rfl)
set_option maxRecDepth 100000 in
set_option linter.unusedVariables false in
theorem contract_fnExactNatText (H : Type) (enc : TypeId × Value → H) (W : World) (base : Nat) (args : Array Value) (ds gs : List (DataW H)) (before : List MemPlace)
    (hval0 : ∀ (j : Nat) t v, Tryd.f3.params[j]? = some t → args[j]? = some v → Value.okWide Tryd.prog W .any base t v)
    (hW : DataW.Whole enc Tryd.prog Tryd.f3.params.toList Rows.fnExactNatTextSpec.vars false W args.toList ds gs before) (hL : laidMetH Tryd.prog Rows.fnExactNatTextRow.laid W) :
    Calls Tryd.prog 3 args W fun e W' => ∃ v, e = .returned v ∧ Rows.fnExactNatTextSpec.post enc Tryd.prog Tryd.f3 false true false false W args v W' := by
  have hval := hval0
  have hW' := hW
  obtain ⟨p, q, hA0, hV0, rfl, hfz, hnd⟩ := hW
  have hA : DataW.TrodAll enc Tryd.prog W 0 (fun _ => true) true Tryd.f3.params.toList args.toList ds p := hA0
  rw [Tryd.params3] at hA hval
  have hpow : Pow10 W := pow10_of_laid (W := W) hL
  obtain ⟨rfl, rfl⟩ := trodVars_none hV0
  obtain ⟨v0, vs0, d0, ds0, p0, q0, hargs, rfl, rfl, h0, r0⟩ := trodAll_cons hA
  obtain ⟨rfl, rfl, rfl⟩ := trodAll_nil r0
  obtain rfl : args = #[v0] := by cases args; simp_all
  obtain ⟨a0, len0, cap0, rfl⟩ := okWide_slice Tryd.underlying22 (hval 0 22 v0 rfl rfl)
  have k0 := h0
  have lt0 : ∀ x ∈ p0, x.block < W.heap.size := by obtain ⟨m, hm⟩ := k0; exact DataW.trod_lt m _ _ _ hm
  obtain ⟨z0, w0⟩ : ∃ zs, IsRow .i64 W a0 len0 cap0 zs := by
    obtain ⟨fuel, hf⟩ := h0
    rcases open_ints Tryd.underlying22 Tryd.underlying3 (by kernel_rfl) hf with ⟨hcs, _⟩ | ⟨x, l, c, zs, hcs, _, hl, hm, hz, _, hcell, hwz⟩
    · simp [Value.cells] at hcs
      obtain ⟨rfl, rfl, rfl⟩ := hcs
      exact ⟨[], .inl ⟨rfl, rfl, rfl, rfl⟩⟩
    · simp [Value.cells] at hcs
      obtain ⟨rfl, rfl, rfl⟩ := hcs
      exact ⟨zs, .inr ⟨_, rfl, hl, hm, by simpa using hz, hcell, hwz⟩⟩
  clear hA0 hval0
  refine (lawNatText_any a0 len0 cap0 _ W w0.rd w0.le hpow).mono fun e W' ⟨he, bel⟩ => ?_
  subst he
  exact ⟨_, rfl, _, _, _, [], _, [], hW', trodAll_mk1 (shut_bool Tryd.underlying4 _), (trodAll_cons_mk (Below.trod laidOut_fnExactNatText (by kernel_rfl) (of_decide_eq_true (by kernel_rfl)) k0 bel lt0) trodAll_mk0), rfl, bel.frame _, fun h => by cases h⟩

set_option maxRecDepth 100000 in
theorem lifted_fnExactNatText (os : Os) (started : os.Started) (H : Type) (enc : TypeId × Value → H) (F : Stop.Interp) :
    ReturnsInHanded {} Tryd.checked os 3 .any ((OpenSpec.ofChange Rows.fnExactNatTextSpec).preRow enc Tryd.prog Tryd.f3 Rows.fnExactNatTextRow.domain false Rows.fnExactNatTextRow.laid) (((OpenSpec.ofChange Rows.fnExactNatTextSpec).at F).post enc Tryd.prog Tryd.f3 false true false false) := by
  have hsome : (DataW.whole enc Tryd.prog ((tabWorld os).forCall (fun _ _ => 0) ⟨#[], #[.slice none 0 0], []⟩).memory Tryd.f3.params.toList Rows.fnExactNatTextSpec.vars false (#[.slice none 0 0] : Array Value).toList 8).isSome = true := by kernel_rfl
  obtain ⟨x, hx⟩ := Option.isSome_iff_exists.1 hsome
  refine returnsInHanded_of_row (C := Tryd.checked) (s := OpenSpec.ofChange Rows.fnExactNatTextSpec) own_fnExactNatText started (by kernel_rfl) Tryd.func3
    (witness_row_at (enc := enc) (C := Tryd.checked) false (tabWorld os) #[.slice none 0 0] rfl (by kernel_rfl) (by kernel_rfl) (by kernel_rfl)
      (OpenSpec.preRow_of_cond 8 hx (by kernel_rfl) (fun k hk => by cases hk) (by kernel_rfl) (laidMet_fnExactNatText os))) ?_
  intro W base args ds gs before hval hW _ _ _ hL _ _
  exact contract_fnExactNatText H enc W base args ds gs before hval hW hL

theorem said_fnExactNatText : Rows.FnExactNatTextSaid :=
  OpenClaim.holds_of_cond 3 Tryd.f3 rfl rfl rfl rfl rfl rfl rfl ⟨rfl, rfl, rfl, rfl, rfl⟩ rfl rfl rfl rfl rfl (by kernel_rfl) Tryd.func3 (by kernel_rfl)
    (of_decide_eq_true (by kernel_rfl)) (by unfold Func.isWrapper; first | (rw [if_pos (by decide +kernel)]; kernel_rfl) | (rw [if_neg (by decide +kernel)]; exact ⟨rfl, rfl⟩))
    (fun os started H enc _ F => by rw [OpenClaim.pre_eq_preRow]; exact lifted_fnExactNatText os started H enc F)

theorem plain_fnExactNatText (f : FuncId) (fn : Func) (hf : Tryd.pinned.checked.prog.funcNamed "loop.example/g00615/laws.FnExactNatText" = some f) (hfn : Tryd.pinned.checked.prog.funcs[f]? = some fn) :
    false = Tryd.pinned.checked.prog.looks [] ∧ ∀ (j : Nat) t, fn.params[j]? = some t → Tryd.pinned.checked.prog.wantsStandIn t = false := by
  obtain rfl : f = 3 := Option.some.inj ((show Tryd.prog.funcNamed "loop.example/g00615/laws.FnExactNatText" = some 3 by kernel_rfl).symm.trans hf) |>.symm
  obtain rfl : fn = Tryd.f3 := (Option.some.inj (Tryd.func3.symm.trans hfn)).symm
  refine ⟨by kernel_rfl, fun j t ht => ?_⟩
  rw [Tryd.params3] at ht
  obtain rfl : t = 22 := by simpa using Array.mem_of_getElem? ht
  exact (show Tryd.prog.wantsStandIn 22 = false by kernel_rfl)

theorem fnExactNatText_card : Rows.FnExactNatTextCardSaid :=
  Claim7.holds_tied_plain_at .later [] _ _ _ _ said_fnExactNatText (fun _ h => by cases h) (by kernel_rfl) (fun _ h => by cases h) fnExactNatText_row_tie rfl ⟨rfl, rfl⟩ (by kernel_rfl) rfl plain_fnExactNatText (by kernel_rfl)

end Go.Proofs.YtliefhkllpmlmabDoor
