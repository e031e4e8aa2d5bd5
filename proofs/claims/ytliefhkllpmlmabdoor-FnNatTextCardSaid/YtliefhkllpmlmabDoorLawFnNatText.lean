/-
  The law FnNatText: its tied card: a drawn natural's text is the model's, reads back as the natural, and is told if a nought stands ahead, where the library's tables lie as its text lays them. No other condition.
-/
import Derived.Test.YtliefhkllpmlmabDoorNatText
import Derived.Test.YtliefhkllpmlmabDoorReadBack
import Derived.Test.YtliefhkllpmlmabDoorRead
import Derived.Test.YtliefhkllpmlmabDoorBytesD
import Derived.Test.YtliefhkllpmlmabDoorTabLaid
namespace Go.Proofs.YtliefhkllpmlmabDoor
open Go Go.RowKit Nt
open Go.ChangeShapes Go.WideShapes Go.ChangeAt
open Go.ChangeMaps (open_string shut_string)
theorem code_D {m : Nat} (hm : m < Top) : codeL [D m] = 0 := by
  have h1 := (D_len_le m 40).2 hm
  have h3 := okL_D m hm
  unfold codeL
  rw [if_pos (by simp; omega), if_pos (by simp [h3])]

set_option maxRecDepth 20000 in
set_option maxHeartbeats 1600000 in
theorem lawFnNatText_any (A : Option Addr) (n c : Nat) (w : World) (hp : RdB w (· < w.heap.size) A n) (hle : n ≤ 9223372036854775807) (ht : Pow10 w) :
    Calls Tryd.prog 4 #[.slice A n c] w fun e w' => e = .returned (.bool true) ∧ Below w.heap.size w w' := by
  have HR := Lib.hid hp
  have HT := Lib.hid ht
  clear hp ht
  by_cases hbig : 1048576 < n
  · have hbig' : (1048576 : Int) < n := by omega
    go_enter Tryd.func4, Tryd.ntmps4
    go_wp2
    go_ret
    exact ⟨rfl, Below.refl _ _⟩
  have hsm : (n : Int) ≤ 1048576 := by omega
  go_enter Tryd.func4, Tryd.ntmps4
  go_wp2_with fail
  refine (natDrawn_any A n c w HR.out (by omega)).mono ?_
  rintro e w1 ⟨m, hm, B1, c1, rfl, o1, b1⟩
  have hmT : m < Top := Nat.lt_of_lt_of_le hm (Nat.pow_le_pow_right (by decide) (by decide))
  have HN1 : Hid (Rd w1 (fun _ => True) B1 (D m).length c1 (D m)) := (own_rd' o1).mono fun _ _ _ => trivial
  have HB1 := Lib.hid b1
  have hl40 := (D_len_le m 40).2 hmT
  obtain ⟨r1, r2, r3, r4⟩ := read_txt hmT
  obtain ⟨n1, n2⟩ := read_nought r4 r3
  have HRD := Lib.hid (fun (W : World) => implReadNat_any ⟨(txtN (D m)).toArray⟩ W (by show (txtN (D m)).length ≤ _; omega))
  have HRN := Lib.hid (fun (W : World) => implReadNat_any ⟨(48 :: txtN (D m)).toArray⟩ W (by show (48 :: txtN (D m)).length ≤ _; simp; omega))
  rw [r1, r2] at HRD
  rw [n1, n2] at HRN
  have HI := Lib.hid (fun (W : World) (h : Rd W (fun _ => True) B1 (D m).length c1 (D m)) (k : Pow10 W) => implNatText_any B1 _ c1 (D m) _ W h (by omega) k)
  have HS := Lib.hid (fun (W : World) (h : Rd W (fun _ => True) B1 (D m).length c1 (D m)) => specNatText_any B1 _ c1 (D m) _ W h (by omega))
  rw [code_D hmT, show txtC 0 (txtN (D m)) = txtN (D m) from rfl] at HI HS
  have hs1 : ¬ 9223372036854775807 < 1 + (txtN (D m)).length := by omega
  have HAP : Hid ((⟨#[48]⟩ ++ ⟨(txtN (D m)).toArray⟩ : ByteArray) = ⟨(48 :: txtN (D m)).toArray⟩) := str_app [48] (txtN (D m))
  generalize txtN (D m) = tx at *
  clear o1 b1 r1 r2 n1 n2 hm
  go_wp2_with fail
  refine (HI.out w1 HN1.out (pow10_on HT.out HB1.out)).mono ?_
  rintro e w2 ⟨rfl, b2⟩
  have HB2 := Lib.hid (HB1.out.trans (b2.mono HB1.out.size))
  have HN2 := Lib.hid (HN1.out.keep b2.size fun b _ hl => b2.block b hl)
  clear b2 HB1 HN1
  go_wp2_with fail
  refine (HS.out w2 HN2.out).mono ?_
  rintro e w3 ⟨rfl, b3⟩
  have HB3 := Lib.hid (HB2.out.trans (b3.mono HB2.out.size))
  have HN3 := Lib.hid (HN2.out.keep b3.size fun b _ hl => b3.block b hl)
  clear b3 HB2 HN2
  go_wp2_with fail
  refine (HRD.out w3).mono ?_
  rintro e w4 ⟨B4, c4, rfl, o4, b4⟩
  have HB4 := Lib.hid (HB3.out.trans (b4.mono HB3.out.size))
  have HN4 := Lib.hid (HN3.out.keep b4.size fun b _ hl => b4.block b hl)
  have HX4 : Hid (Rd w4 (fun _ => True) B4 (D m).length c4 (D m)) := (own_rd' o4).mono fun _ _ _ => trivial
  clear b4 o4 HB3 HN3
  go_wp2_with fail
  rw [HAP.out]
  refine (HRN.out w4).mono ?_
  rintro e w5 ⟨B5, c5, rfl, o5, b5⟩
  have HB5 := Lib.hid (HB4.out.trans (b5.mono HB4.out.size))
  have HN5 := Lib.hid (HN4.out.keep b5.size fun b _ hl => b5.block b hl)
  have HX5 := Lib.hid (HX4.out.keep b5.size fun b _ hl => b5.block b hl)
  clear b5 o5 HB4 HN4 HX4
  go_wp2_with fail
  refine (sameInts_same B4 B1 _ c4 _ c1 (D m) _ _ w5 HX5.out HN5.out (by omega)).mono ?_
  rintro e w6 ⟨rfl, d6⟩
  have HB6 := Lib.hid (HB5.out.trans (d6.below w.heap.size))
  clear d6
  go_wp2
  go_ret
  exact ⟨rfl, HB6.out⟩


theorem own_fnNatText : ownKnob Tryd.prog.godebug = none := by kernel_rfl
theorem laidOut_fnNatText : laidOutB Tryd.prog = true := by kernel_rfl
theorem laidMet_fnNatText (os : Os) : laidMet Tryd.prog Rows.fnNatTextRow.laid ((tabWorld os).forCall (fun _ _ => 0) ⟨#[], #[.slice none 0 0], []⟩).memory :=
  laidMet_of_run' 8 (by kernel_rfl) (by kernel_rfl)
set_option maxRecDepth 100000 in
set_option linter.unusedVariables false in
theorem contract_fnNatText (H : Type) (enc : TypeId × Value → H) (W : World) (base : Nat) (args : Array Value) (ds gs : List (DataW H)) (before : List MemPlace)
    (hval0 : ∀ (j : Nat) t v, Tryd.f4.params[j]? = some t → args[j]? = some v → Value.okWide Tryd.prog W .any base t v)
    (hW : DataW.Whole enc Tryd.prog Tryd.f4.params.toList Rows.fnNatTextSpec.vars false W args.toList ds gs before) (hL : laidMetH Tryd.prog Rows.fnNatTextRow.laid W) :
    Calls Tryd.prog 4 args W fun e W' => ∃ v, e = .returned v ∧ Rows.fnNatTextSpec.post enc Tryd.prog Tryd.f4 false true false false W args v W' := by
  have hval := hval0
  have hW' := hW
  obtain ⟨p, q, hA0, hV0, rfl, hfz, hnd⟩ := hW
  have hA : DataW.TrodAll enc Tryd.prog W 0 (fun _ => true) true Tryd.f4.params.toList args.toList ds p := hA0
  rw [Tryd.params4] at hA hval
  have hpow : Pow10 W := pow10_of_laid (W := W) hL
  obtain ⟨rfl, rfl⟩ := trodVars_none hV0
  obtain ⟨v0, vs0, d0, ds0, p0, q0, hargs, rfl, rfl, h0, r0⟩ := trodAll_cons hA
  obtain ⟨rfl, rfl, rfl⟩ := trodAll_nil r0
  obtain rfl : args = #[v0] := by cases args; simp_all
  obtain ⟨a0, len0, cap0, rfl⟩ := okWide_slice Tryd.underlying28 (hval 0 28 v0 rfl rfl)
  have k0 := h0
  have lt0 : ∀ x ∈ p0, x.block < W.heap.size := by obtain ⟨m, hm⟩ := k0; exact DataW.trod_lt m _ _ _ hm
  obtain ⟨z0, w0⟩ : ∃ zs, IsRow .u8 W a0 len0 cap0 zs := by
    obtain ⟨fuel, hf⟩ := h0
    rcases open_ints Tryd.underlying28 Tryd.underlying5 (by kernel_rfl) hf with ⟨hcs, _⟩ | ⟨x, l, c, zs, hcs, _, hl, hm, hz, _, hcell, hwz⟩
    · simp [Value.cells] at hcs
      obtain ⟨rfl, rfl, rfl⟩ := hcs
      exact ⟨[], .inl ⟨rfl, rfl, rfl, rfl⟩⟩
    · simp [Value.cells] at hcs
      obtain ⟨rfl, rfl, rfl⟩ := hcs
      exact ⟨zs, .inr ⟨_, rfl, hl, hm, by simpa using hz, hcell, hwz⟩⟩
  clear hA0 hval0
  refine (lawFnNatText_any a0 len0 cap0 W w0.rdb w0.le hpow).mono fun e W' ⟨he, bel⟩ => ?_
  subst he
  exact ⟨_, rfl, _, _, _, [], _, [], hW', trodAll_mk1 (shut_bool Tryd.underlying4 _), (trodAll_cons_mk (Below.trod laidOut_fnNatText (by kernel_rfl) (of_decide_eq_true (by kernel_rfl)) k0 bel lt0) trodAll_mk0), rfl, bel.frame _, fun h => by cases h⟩

set_option maxRecDepth 100000 in
theorem lifted_fnNatText (os : Os) (started : os.Started) (H : Type) (enc : TypeId × Value → H) (F : Stop.Interp) :
    ReturnsInHanded {} Tryd.checked os 4 .any ((OpenSpec.ofChange Rows.fnNatTextSpec).preRow enc Tryd.prog Tryd.f4 Rows.fnNatTextRow.domain false Rows.fnNatTextRow.laid) (((OpenSpec.ofChange Rows.fnNatTextSpec).at F).post enc Tryd.prog Tryd.f4 false true false false) := by
  have hsome : (DataW.whole enc Tryd.prog ((tabWorld os).forCall (fun _ _ => 0) ⟨#[], #[.slice none 0 0], []⟩).memory Tryd.f4.params.toList Rows.fnNatTextSpec.vars false (#[.slice none 0 0] : Array Value).toList 8).isSome = true := by kernel_rfl
  obtain ⟨x, hx⟩ := Option.isSome_iff_exists.1 hsome
  refine returnsInHanded_of_row (C := Tryd.checked) (s := OpenSpec.ofChange Rows.fnNatTextSpec) own_fnNatText started (by kernel_rfl) Tryd.func4
    (witness_row_at (enc := enc) (C := Tryd.checked) false (tabWorld os) #[.slice none 0 0] rfl (by kernel_rfl) (by kernel_rfl) (by kernel_rfl)
      (OpenSpec.preRow_of_cond 8 hx (by kernel_rfl) (fun k hk => by cases hk) (by kernel_rfl) (laidMet_fnNatText os))) ?_
  intro W base args ds gs before hval hW _ _ _ hL _ _
  exact contract_fnNatText H enc W base args ds gs before hval hW hL

theorem said_fnNatText : Rows.FnNatTextSaid :=
  OpenClaim.holds_of_cond 4 Tryd.f4 rfl rfl rfl rfl rfl rfl rfl ⟨rfl, rfl, rfl, rfl, rfl⟩ rfl rfl rfl rfl rfl (by kernel_rfl) Tryd.func4 (by kernel_rfl)
    (of_decide_eq_true (by kernel_rfl)) (by unfold Func.isWrapper; first | (rw [if_pos (by decide +kernel)]; kernel_rfl) | (rw [if_neg (by decide +kernel)]; exact ⟨rfl, rfl⟩))
    (fun os started H enc _ F => by rw [OpenClaim.pre_eq_preRow]; exact lifted_fnNatText os started H enc F)

theorem plain_fnNatText (f : FuncId) (fn : Func) (hf : Tryd.pinned.checked.prog.funcNamed "loop.example/g00615/laws.FnNatText" = some f) (hfn : Tryd.pinned.checked.prog.funcs[f]? = some fn) :
    false = Tryd.pinned.checked.prog.looks [] ∧ ∀ (j : Nat) t, fn.params[j]? = some t → Tryd.pinned.checked.prog.wantsStandIn t = false := by
  obtain rfl : f = 4 := Option.some.inj ((show Tryd.prog.funcNamed "loop.example/g00615/laws.FnNatText" = some 4 by kernel_rfl).symm.trans hf) |>.symm
  obtain rfl : fn = Tryd.f4 := (Option.some.inj (Tryd.func4.symm.trans hfn)).symm
  refine ⟨by kernel_rfl, fun j t ht => ?_⟩
  rw [Tryd.params4] at ht
  obtain rfl : t = 28 := by simpa using Array.mem_of_getElem? ht
  exact (show Tryd.prog.wantsStandIn 28 = false by kernel_rfl)

theorem fnNatText_card : Rows.FnNatTextCardSaid :=
  Claim7.holds_tied_plain_at .later [] _ _ _ _ said_fnNatText (fun _ h => by cases h) (by kernel_rfl) (fun _ h => by cases h) fnNatText_row_tie rfl ⟨rfl, rfl⟩ (by kernel_rfl) rfl plain_fnNatText (by kernel_rfl)

end Go.Proofs.YtliefhkllpmlmabDoor
