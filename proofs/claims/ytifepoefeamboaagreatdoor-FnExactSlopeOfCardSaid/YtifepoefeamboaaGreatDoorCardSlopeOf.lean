/-
  The law FnExactSlopeOf, its card: whatever the expression, the point and the way, SlopeOf answers as its model, writes into no argument, and what it answers is memory of its own. Condition: the variable errOverZero holds what the program's text lays.
-/
import Derived.Test.YtifepoefeamboaaGreatDoorLawSlopeOf
import Derived.Test.YtifepoefeamboaaGreatDoorErrLaid
namespace Go.Proofs.YtifepoefeamboaaGreatDoor
open Go Go.RowKit Nt
open Go.ChangeShapes Go.WideShapes Go.ChangeAt
open Go.ChangeMaps (open_string shut_string)

theorem own_fnExactSlopeOf : ownKnob Tryz.prog.godebug = none := by kernel_rfl
theorem laidOut_fnExactSlopeOf : laidOutB Tryz.prog = true := by kernel_rfl
theorem laidMet_fnExactSlopeOf (os : Os) : laidMet Tryz.prog Rows.fnExactSlopeOfRow.laid ((errWorld os).forCall (fun _ _ => 0) ⟨#[], #[.agg #[.slice none 0 0], .slice none 0 0, .slice none 0 0], []⟩).memory :=
  laidMet_of_run' 8 (by kernel_rfl) (by kernel_rfl)
set_option maxRecDepth 100000 in
set_option linter.unusedVariables false in
theorem contract_fnExactSlopeOf (H : Type) (enc : TypeId × Value → H) (W : World) (base : Nat) (args : Array Value) (ds gs : List (DataW H)) (before : List MemPlace)
    (hval0 : ∀ (j : Nat) t v, Tryz.f5.params[j]? = some t → args[j]? = some v → Value.okWide Tryz.prog W .any base t v)
    (hW : DataW.Whole enc Tryz.prog Tryz.f5.params.toList Rows.fnExactSlopeOfSpec.vars false W args.toList ds gs before) (hL : laidMetH Tryz.prog Rows.fnExactSlopeOfRow.laid W) :
    Calls Tryz.prog 5 args W fun e W' => ∃ v, e = .returned v ∧ Rows.fnExactSlopeOfSpec.post enc Tryz.prog Tryz.f5 false true false false W args v W' := by
  have hval := hval0
  have hW' := hW
  obtain ⟨p, q, hA0, hV0, rfl, hfz, hnd⟩ := hW
  have hA : DataW.TrodAll enc Tryz.prog W 0 (fun _ => true) true Tryz.f5.params.toList args.toList ds p := hA0
  have hV : DataW.TrodVars enc Tryz.prog W (fun _ => true) ["loop.example/g00615/impl.errOverZero"] gs q := hV0
  rw [Tryz.params5] at hA hval
  obtain ⟨ad, hvar⟩ := err_of_laid (W := W) (rest := []) hL
  obtain ⟨rfl, rfl⟩ := hV.unique (err_read enc hvar trivial _)
  obtain ⟨v0, vs0, d0, ds0, p0, q0, hargs, rfl, rfl, h0, r0⟩ := trodAll_cons hA
  obtain ⟨v1, vs1, d1, ds1, p1, q1, rfl, rfl, rfl, h1, r1⟩ := trodAll_cons r0
  obtain ⟨v2, vs2, d2, ds2, p2, q2, rfl, rfl, rfl, h2, r2⟩ := trodAll_cons r1
  obtain ⟨rfl, rfl, rfl⟩ := trodAll_nil r2
  obtain rfl : args = #[v0, v1, v2] := by cases args; simp_all
  have k0 := h0
  have lt0 : ∀ x ∈ p0, x.block < W.heap.size := by obtain ⟨m, hm⟩ := k0; exact DataW.trod_lt m _ _ _ hm
  obtain ⟨a0, len0, cap0, z0, rfl, w0, l0⟩ := open_expr Tryz.underlying45 (by kernel_rfl) (by kernel_rfl) Tryz.underlying43 Tryz.underlying116 (by kernel_rfl) (by kernel_rfl) Tryz.underlying3 Tryz.underlying3 Tryz.underlying3 Tryz.underlying3 (hval 0 45 v0 rfl rfl) h0
  obtain ⟨a1, len1, cap1, rfl⟩ := okWide_slice Tryz.underlying46 (hval 1 46 v1 rfl rfl)
  have k1 := h1
  have lt1 : ∀ x ∈ p1, x.block < W.heap.size := by obtain ⟨m, hm⟩ := k1; exact DataW.trod_lt m _ _ _ hm
  obtain ⟨z1, w1, u1, l1⟩ : ∃ rs, RdS W (· < W.heap.size) a1 len1 cap1 rs ∧ Short rs ∧ len1 ≤ 9223372036854775807 := by
    obtain ⟨fuel, hf⟩ := h1
    exact open_rats Tryz.underlying46 Tryz.underlying76 (by kernel_rfl) (by kernel_rfl) Tryz.underlying4 Tryz.underlying29 Tryz.underlying29 Tryz.underlying3 (by kernel_rfl) hf
  obtain ⟨a2, len2, cap2, rfl⟩ := okWide_slice Tryz.underlying46 (hval 2 46 v2 rfl rfl)
  have k2 := h2
  have lt2 : ∀ x ∈ p2, x.block < W.heap.size := by obtain ⟨m, hm⟩ := k2; exact DataW.trod_lt m _ _ _ hm
  obtain ⟨z2, w2, u2, l2⟩ : ∃ rs, RdS W (· < W.heap.size) a2 len2 cap2 rs ∧ Short rs ∧ len2 ≤ 9223372036854775807 := by
    obtain ⟨fuel, hf⟩ := h2
    exact open_rats Tryz.underlying46 Tryz.underlying76 (by kernel_rfl) (by kernel_rfl) Tryz.underlying4 Tryz.underlying29 Tryz.underlying29 Tryz.underlying3 (by kernel_rfl) hf
  clear hA0 hV0 hval0
  refine (lawSlopeOf_any a0 len0 cap0 z0 a1 len1 cap1 z1 a2 len2 cap2 z2 W w0 l0 w1 u1 l1 w2 u2 l2 ad (err_at hvar)).mono fun e W' ⟨he, bel⟩ => ?_
  subst he
  exact ⟨_, rfl, _, _, _, [], _, [.cell 0 0], hW', trodAll_mk1 (shut_bool Tryz.underlying4 _), (trodAll_cons_mk (Below.trod laidOut_fnExactSlopeOf (by kernel_rfl) (of_decide_eq_true (by kernel_rfl)) k0 bel lt0) (trodAll_cons_mk (Below.trod laidOut_fnExactSlopeOf (by kernel_rfl) (of_decide_eq_true (by kernel_rfl)) k1 bel lt1) (trodAll_cons_mk (Below.trod laidOut_fnExactSlopeOf (by kernel_rfl) (of_decide_eq_true (by kernel_rfl)) k2 bel lt2) trodAll_mk0))), err_read enc (err_keep hvar bel) trivial _, bel.frame _, fun h => by cases h⟩

set_option maxRecDepth 100000 in
theorem lifted_fnExactSlopeOf (os : Os) (started : os.Started) (H : Type) (enc : TypeId × Value → H) (F : Stop.Interp) :
    ReturnsInHanded {} Tryz.checked os 5 .any ((OpenSpec.ofChange Rows.fnExactSlopeOfSpec).preRow enc Tryz.prog Tryz.f5 Rows.fnExactSlopeOfRow.domain false Rows.fnExactSlopeOfRow.laid) (((OpenSpec.ofChange Rows.fnExactSlopeOfSpec).at F).post enc Tryz.prog Tryz.f5 false true false false) := by
  have hsome : (DataW.whole enc Tryz.prog ((errWorld os).forCall (fun _ _ => 0) ⟨#[], #[.agg #[.slice none 0 0], .slice none 0 0, .slice none 0 0], []⟩).memory Tryz.f5.params.toList Rows.fnExactSlopeOfSpec.vars false (#[.agg #[.slice none 0 0], .slice none 0 0, .slice none 0 0] : Array Value).toList 8).isSome = true := by kernel_rfl
  obtain ⟨x, hx⟩ := Option.isSome_iff_exists.1 hsome
  refine returnsInHanded_of_row (C := Tryz.checked) (s := OpenSpec.ofChange Rows.fnExactSlopeOfSpec) own_fnExactSlopeOf started (by kernel_rfl) Tryz.func5
    (witness_row_at (enc := enc) (C := Tryz.checked) false (errWorld os) #[.agg #[.slice none 0 0], .slice none 0 0, .slice none 0 0] rfl (by kernel_rfl) (by kernel_rfl) (by kernel_rfl)
      (OpenSpec.preRow_of_cond 8 hx (by kernel_rfl) (fun k hk => by cases hk) (by kernel_rfl) (laidMet_fnExactSlopeOf os))) ?_
  intro W base args ds gs before hval hW _ _ _ hL _ _
  exact contract_fnExactSlopeOf H enc W base args ds gs before hval hW hL

theorem said_fnExactSlopeOf : Rows.FnExactSlopeOfSaid :=
  OpenClaim.holds_of_cond 5 Tryz.f5 rfl rfl rfl rfl rfl rfl rfl ⟨rfl, rfl, rfl, rfl, rfl⟩ rfl rfl rfl rfl rfl (by kernel_rfl) Tryz.func5 (by kernel_rfl)
    (of_decide_eq_true (by kernel_rfl)) (by unfold Func.isWrapper; first | (rw [if_pos (by decide +kernel)]; kernel_rfl) | (rw [if_neg (by decide +kernel)]; exact ⟨rfl, rfl⟩))
    (fun os started H enc _ F => by rw [OpenClaim.pre_eq_preRow]; exact lifted_fnExactSlopeOf os started H enc F)

theorem plain_fnExactSlopeOf (f : FuncId) (fn : Func) (hf : Tryz.pinned.checked.prog.funcNamed "loop.example/g00615/laws.FnExactSlopeOf" = some f) (hfn : Tryz.pinned.checked.prog.funcs[f]? = some fn) :
    true = Tryz.pinned.checked.prog.looks [] ∧ ∀ (j : Nat) t, fn.params[j]? = some t → Tryz.pinned.checked.prog.wantsStandIn t = false := by
  obtain rfl : f = 5 := Option.some.inj ((show Tryz.prog.funcNamed "loop.example/g00615/laws.FnExactSlopeOf" = some 5 by kernel_rfl).symm.trans hf) |>.symm
  obtain rfl : fn = Tryz.f5 := (Option.some.inj (Tryz.func5.symm.trans hfn)).symm
  refine ⟨by kernel_rfl, fun j t ht => ?_⟩
  rw [Tryz.params5] at ht
  have hin := Array.mem_of_getElem? ht
  simp at hin
  rcases hin with rfl | rfl
  · exact (show Tryz.prog.wantsStandIn 45 = false by kernel_rfl)
  · exact (show Tryz.prog.wantsStandIn 46 = false by kernel_rfl)

theorem fnExactSlopeOf_card : Rows.FnExactSlopeOfCardSaid :=
  Claim7.holds_tied_plain_at .later [] _ _ _ _ said_fnExactSlopeOf (fun _ h => by cases h) (by kernel_rfl) (fun _ h => by cases h) fnExactSlopeOf_row_tie rfl ⟨rfl, rfl⟩ (by kernel_rfl) rfl plain_fnExactSlopeOf (by kernel_rfl)

end Go.Proofs.YtifepoefeamboaaGreatDoor
