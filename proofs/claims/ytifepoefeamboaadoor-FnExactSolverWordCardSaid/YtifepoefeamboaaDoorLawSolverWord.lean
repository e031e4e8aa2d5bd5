/-
  The law FnExactSolverWord: its tied card.
-/
import Derived.Test.YtifepoefeamboaaDoorSolvTab
namespace Go.Proofs.YtifepoefeamboaaDoor
open Go Go.RowKit Nt
open Go.ChangeShapes Go.WideShapes Go.ChangeAt
open Go.ChangeMaps (open_string shut_string)

theorem own_fnExactSolverWord : ownKnob Tryd.prog.godebug = none := by kernel_rfl
theorem laid_met_fnExactSolverWord (os : Os) : laidMet Tryd.prog Rows.fnExactSolverWordRow.laid ((solvWorld os).forCall (fun _ _ => 0) ⟨#[], #[.int .i64 0], []⟩).memory :=
  laidMet_of_run' 8 (by kernel_rfl) (by kernel_rfl)

set_option maxRecDepth 20000 in
theorem contract_fnExactSolverWord (H : Type) (enc : TypeId × Value → H) (W : World) (base : Nat) (args : Array Value) (ds gs : List (DataW H)) (before : List MemPlace)
    (hval : ∀ (j : Nat) t v, Tryd.f3.params[j]? = some t → args[j]? = some v → Value.okWide Tryd.prog W .any base t v)
    (hW : DataW.Whole enc Tryd.prog Tryd.f3.params.toList Rows.fnExactSolverWordSpec.vars false W args.toList ds gs before) (hL : laidMetH Tryd.prog Rows.fnExactSolverWordRow.laid W) :
    Calls Tryd.prog 3 args W fun e W' => ∃ v, e = .returned v ∧ Rows.fnExactSolverWordSpec.post enc Tryd.prog Tryd.f3 false true false false W args v W' := by
  have hW' := hW
  obtain ⟨p, q, hA0, hV0, rfl, hfz, hnd⟩ := hW
  have hA : DataW.TrodAll enc Tryd.prog W 0 (fun _ => true) true Tryd.f3.params.toList args.toList ds p := hA0
  have hV : DataW.TrodVars enc Tryd.prog W (fun _ => true) ["loop.example/g00615/impl.solverWords"] gs q := hV0
  rw [Tryd.params3] at hA hval
  obtain ⟨v0, d0, rfl, rfl, h0⟩ := trodAll_one hA
  obtain ⟨x0, rfl, rfl, rfl, w0⟩ := open_int Tryd.underlying3 (hval 0 3 v0 rfl rfl) h0
  obtain ⟨g, t, cs, fuel, d, p', rfl, hg, ht, hvar, hd, rfl⟩ := trodVars_one hV
  obtain rfl := Option.some.inj (gSolv.symm.trans hg)
  obtain rfl := Option.some.inj (gSolvType.symm.trans ht)
  have hlaid := solvs_of_laid (W := W) (rest := []) hL
  obtain rfl : cs = solvCells := Option.some.inj (hvar.symm.trans hlaid)
  obtain ⟨rfl, rfl⟩ := DataW.Trod.unique (v := .agg solvCells) ⟨fuel, hd⟩ ⟨3, reads_solvs enc W _⟩
  clear hA0 hV0
  refine (lawSolverWord_any x0 W (solvs_lt hvar) (fun k hk => solvs_cell hvar k hk)).mono fun e W' ⟨he, bel⟩ => ?_
  subst he
  exact ⟨_, rfl, _, _, _, [], [], _, hW', trodAll_mk1 (shut_bool Tryd.underlying4 _), trodAll_mk1 (shut_int Tryd.underlying3 w0), ⟨0, 52, solvCells, 3, [], [], hg, ht, solvs_keep hvar bel, reads_solvs enc W' _, rfl, rfl⟩, bel.frame _, fun h => by cases h⟩

theorem reads_fnExactSolverWord (os : Os) {H : Type} (enc : TypeId × Value → H) : ∃ places, DataW.whole enc Tryd.prog ((solvWorld os).forCall (fun _ _ => 0) ⟨#[], #[.int .i64 0], []⟩).memory Tryd.f3.params.toList Rows.fnExactSolverWordSpec.vars false #[Value.int .i64 0].toList 8 = some ([.lit (.int .i64 0)], [strData solvBytes], places) :=
  ⟨MemPlace.row ⟨0, 0, none⟩ 5, by kernel_rfl⟩

set_option maxRecDepth 100000 in
theorem lifted_fnExactSolverWord (os : Os) (started : os.Started) (H : Type) (enc : TypeId × Value → H) (F : Stop.Interp) :
    ReturnsInHanded {} Tryd.checked os 3 .any ((OpenSpec.ofChange Rows.fnExactSolverWordSpec).preRow enc Tryd.prog Tryd.f3 Rows.fnExactSolverWordRow.domain false Rows.fnExactSolverWordRow.laid) (((OpenSpec.ofChange Rows.fnExactSolverWordSpec).at F).post enc Tryd.prog Tryd.f3 false true false false) := by
  obtain ⟨places, hx⟩ := reads_fnExactSolverWord os enc
  refine returnsInHanded_of_row (C := Tryd.checked) (s := OpenSpec.ofChange Rows.fnExactSolverWordSpec) own_fnExactSolverWord started (by kernel_rfl) Tryd.func3
    (witness_row_at (enc := enc) (C := Tryd.checked) false (solvWorld os) #[.int .i64 0] rfl (by kernel_rfl) (by kernel_rfl) (by kernel_rfl)
      (OpenSpec.preRow_of_cond 8 hx (by kernel_rfl) (fun k hk => by cases hk) (by kernel_rfl) (laid_met_fnExactSolverWord os))) ?_
  intro W base args ds gs before hval hW _ _ _ hL _ _
  exact contract_fnExactSolverWord H enc W base args ds gs before hval hW hL

theorem said_fnExactSolverWord : Rows.FnExactSolverWordSaid :=
  OpenClaim.holds_of_cond 3 Tryd.f3 rfl rfl rfl rfl rfl rfl rfl ⟨rfl, rfl, rfl, rfl, rfl⟩ rfl rfl rfl rfl rfl (by kernel_rfl) Tryd.func3 (by kernel_rfl)
    (of_decide_eq_true (by kernel_rfl)) (by unfold Func.isWrapper; first | (rw [if_pos (by decide +kernel)]; kernel_rfl) | (rw [if_neg (by decide +kernel)]; exact ⟨rfl, rfl⟩))
    (fun os started H enc _ F => by rw [OpenClaim.pre_eq_preRow]; exact lifted_fnExactSolverWord os started H enc F)

theorem plain_fnExactSolverWord (f : FuncId) (fn : Func) (hf : Tryd.pinned.checked.prog.funcNamed "loop.example/g00615/laws.FnExactSolverWord" = some f) (hfn : Tryd.pinned.checked.prog.funcs[f]? = some fn) :
    false = Tryd.pinned.checked.prog.looks [] ∧ ∀ (j : Nat) t, fn.params[j]? = some t → Tryd.pinned.checked.prog.wantsStandIn t = false := by
  obtain rfl : f = 3 := Option.some.inj ((show Tryd.prog.funcNamed "loop.example/g00615/laws.FnExactSolverWord" = some 3 by kernel_rfl).symm.trans hf) |>.symm
  obtain rfl : fn = Tryd.f3 := (Option.some.inj (Tryd.func3.symm.trans hfn)).symm
  refine ⟨by kernel_rfl, fun j t ht => ?_⟩
  rw [Tryd.params3] at ht
  obtain rfl : t = 3 := by simpa using Array.mem_of_getElem? ht
  exact (show Tryd.prog.wantsStandIn 3 = false by kernel_rfl)

theorem fnExactSolverWord_card : Rows.FnExactSolverWordCardSaid :=
  Claim7.holds_tied_plain_at .later [] _ _ _ _ said_fnExactSolverWord (fun _ h => by cases h) (by kernel_rfl) (fun _ h => by cases h) fnExactSolverWord_row_tie rfl ⟨rfl, rfl⟩ (by kernel_rfl) rfl plain_fnExactSolverWord (by kernel_rfl)
end Go.Proofs.YtifepoefeamboaaDoor
