/-
  The law FnExactPrintExpr: its tied card: whatever the expression, PrintExpr answers as its model, where the tables lie as the texts lay them. No other condition.
-/
import Derived.Test.YtifepoefeamboaaDoorPrintLaw
import Derived.Test.YtifepoefeamboaaDoorSignLaid
namespace Go.Proofs.YtifepoefeamboaaDoor
open Go Go.RowKit Nt
open Go.ChangeShapes Go.WideShapes Go.ChangeAt
open Go.ChangeMaps (open_string shut_string)

theorem own_fnExactPrintExpr : ownKnob Tryd.prog.godebug = none := by kernel_rfl
theorem laidOut_fnExactPrintExpr : laidOutB Tryd.prog = true := by kernel_rfl
theorem laidMet_fnExactPrintExpr (os : Os) : laidMet Tryd.prog Rows.fnExactPrintExprRow.laid ((signWorld os).forCall (fun _ _ => 0) ⟨#[], #[.agg #[.slice none 0 0]], []⟩).memory :=
  laidMet_of_run' 8 (by kernel_rfl) (by kernel_rfl)
set_option maxRecDepth 100000 in
set_option linter.unusedVariables false in
theorem contract_fnExactPrintExpr (H : Type) (enc : TypeId × Value → H) (W : World) (base : Nat) (args : Array Value) (ds gs : List (DataW H)) (before : List MemPlace)
    (hval0 : ∀ (j : Nat) t v, Tryd.f5.params[j]? = some t → args[j]? = some v → Value.okWide Tryd.prog W .any base t v)
    (hW : DataW.Whole enc Tryd.prog Tryd.f5.params.toList Rows.fnExactPrintExprSpec.vars false W args.toList ds gs before) (hL : laidMetH Tryd.prog Rows.fnExactPrintExprRow.laid W) :
    Calls Tryd.prog 5 args W fun e W' => ∃ v, e = .returned v ∧ Rows.fnExactPrintExprSpec.post enc Tryd.prog Tryd.f5 false true false false W args v W' := by
  have hval := hval0
  have hW' := hW
  obtain ⟨p, q, hA0, hV0, rfl, hfz, hnd⟩ := hW
  have hA : DataW.TrodAll enc Tryd.prog W 0 (fun _ => true) true Tryd.f5.params.toList args.toList ds p := hA0
  rw [Tryd.params5] at hA hval
  have hpow : Pow10 W := pow10_of_laid (W := W) hL
  have hV : DataW.TrodVars enc Tryd.prog W (fun _ => true) ["loop.example/g00615/impl.opSigns"] gs q := hV0
  obtain ⟨g, t, cs, fuel, d, p', rfl, hg, ht, hvar, hd, rfl⟩ := trodVars_one hV
  obtain rfl := Option.some.inj (gSigns.symm.trans hg)
  obtain rfl := Option.some.inj (gSignsType.symm.trans ht)
  have hlaid := signs_of_laid (W := W) (rest := []) hL
  obtain rfl : cs = signCells := Option.some.inj (hvar.symm.trans hlaid)
  obtain ⟨rfl, rfl⟩ := DataW.Trod.unique (v := .agg signCells) ⟨fuel, hd⟩ ⟨3, reads_signs enc W _⟩
  obtain ⟨v0, vs0, d0, ds0, p0, q0, hargs, rfl, rfl, h0, r0⟩ := trodAll_cons hA
  obtain ⟨rfl, rfl, rfl⟩ := trodAll_nil r0
  obtain rfl : args = #[v0] := by cases args; simp_all
  have k0 := h0
  have lt0 : ∀ x ∈ p0, x.block < W.heap.size := by obtain ⟨m, hm⟩ := k0; exact DataW.trod_lt m _ _ _ hm
  obtain ⟨a0, len0, cap0, z0, rfl, w0, l0⟩ := open_expr Tryd.underlying42 (by kernel_rfl) (by kernel_rfl) Tryd.underlying25 Tryd.underlying68 (by kernel_rfl) (by kernel_rfl) Tryd.underlying3 Tryd.underlying3 Tryd.underlying3 Tryd.underlying3 (hval 0 42 v0 rfl rfl) h0
  clear hA0 hval0 hV0 hV
  refine (lawPrintExpr_any a0 len0 cap0 z0 W w0 l0 hpow (signs_var hvar)).mono fun e W' ⟨he, bel⟩ => ?_
  subst he
  exact ⟨_, rfl, _, _, _, [], _, _, hW', trodAll_mk1 (shut_bool Tryd.underlying4 _), (trodAll_cons_mk (Below.trod laidOut_fnExactPrintExpr (by kernel_rfl) (of_decide_eq_true (by kernel_rfl)) k0 bel lt0) trodAll_mk0), ⟨2, 109, signCells, 3, [], [], hg, ht, signs_keep hvar bel, reads_signs enc W' _, rfl, rfl⟩, bel.frame _, fun h => by cases h⟩

set_option maxRecDepth 100000 in
theorem lifted_fnExactPrintExpr (os : Os) (started : os.Started) (H : Type) (enc : TypeId × Value → H) (F : Stop.Interp) :
    ReturnsInHanded {} Tryd.checked os 5 .any ((OpenSpec.ofChange Rows.fnExactPrintExprSpec).preRow enc Tryd.prog Tryd.f5 Rows.fnExactPrintExprRow.domain false Rows.fnExactPrintExprRow.laid) (((OpenSpec.ofChange Rows.fnExactPrintExprSpec).at F).post enc Tryd.prog Tryd.f5 false true false false) := by
  have hsome : (DataW.whole enc Tryd.prog ((signWorld os).forCall (fun _ _ => 0) ⟨#[], #[.agg #[.slice none 0 0]], []⟩).memory Tryd.f5.params.toList Rows.fnExactPrintExprSpec.vars false (#[.agg #[.slice none 0 0]] : Array Value).toList 8).isSome = true := by kernel_rfl
  obtain ⟨x, hx⟩ := Option.isSome_iff_exists.1 hsome
  refine returnsInHanded_of_row (C := Tryd.checked) (s := OpenSpec.ofChange Rows.fnExactPrintExprSpec) own_fnExactPrintExpr started (by kernel_rfl) Tryd.func5
    (witness_row_at (enc := enc) (C := Tryd.checked) false (signWorld os) #[.agg #[.slice none 0 0]] rfl (by kernel_rfl) (by kernel_rfl) (by kernel_rfl)
      (OpenSpec.preRow_of_cond 8 hx (by kernel_rfl) (fun k hk => by cases hk) (by kernel_rfl) (laidMet_fnExactPrintExpr os))) ?_
  intro W base args ds gs before hval hW _ _ _ hL _ _
  exact contract_fnExactPrintExpr H enc W base args ds gs before hval hW hL

theorem said_fnExactPrintExpr : Rows.FnExactPrintExprSaid :=
  OpenClaim.holds_of_cond 5 Tryd.f5 rfl rfl rfl rfl rfl rfl rfl ⟨rfl, rfl, rfl, rfl, rfl⟩ rfl rfl rfl rfl rfl (by kernel_rfl) Tryd.func5 (by kernel_rfl)
    (of_decide_eq_true (by kernel_rfl)) (by unfold Func.isWrapper; first | (rw [if_pos (by decide +kernel)]; kernel_rfl) | (rw [if_neg (by decide +kernel)]; exact ⟨rfl, rfl⟩))
    (fun os started H enc _ F => by rw [OpenClaim.pre_eq_preRow]; exact lifted_fnExactPrintExpr os started H enc F)

theorem plain_fnExactPrintExpr (f : FuncId) (fn : Func) (hf : Tryd.pinned.checked.prog.funcNamed "loop.example/g00615/laws.FnExactPrintExpr" = some f) (hfn : Tryd.pinned.checked.prog.funcs[f]? = some fn) :
    false = Tryd.pinned.checked.prog.looks [] ∧ ∀ (j : Nat) t, fn.params[j]? = some t → Tryd.pinned.checked.prog.wantsStandIn t = false := by
  obtain rfl : f = 5 := Option.some.inj ((show Tryd.prog.funcNamed "loop.example/g00615/laws.FnExactPrintExpr" = some 5 by kernel_rfl).symm.trans hf) |>.symm
  obtain rfl : fn = Tryd.f5 := (Option.some.inj (Tryd.func5.symm.trans hfn)).symm
  refine ⟨by kernel_rfl, fun j t ht => ?_⟩
  rw [Tryd.params5] at ht
  obtain rfl : t = 42 := by simpa using Array.mem_of_getElem? ht
  exact (show Tryd.prog.wantsStandIn 42 = false by kernel_rfl)

theorem fnExactPrintExpr_card : Rows.FnExactPrintExprCardSaid :=
  Claim7.holds_tied_plain_at .later [] _ _ _ _ said_fnExactPrintExpr (fun _ h => by cases h) (by kernel_rfl) (fun _ h => by cases h) fnExactPrintExpr_row_tie rfl ⟨rfl, rfl⟩ (by kernel_rfl) rfl plain_fnExactPrintExpr (by kernel_rfl)

end Go.Proofs.YtifepoefeamboaaDoor
