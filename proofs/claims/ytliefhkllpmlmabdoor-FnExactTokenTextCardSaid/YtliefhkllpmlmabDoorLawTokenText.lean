/-
  The law FnExactTokenText: its tied card: whatever the token, TokenText answers as its model, where the library's tables lie as its text lays them. No other condition.
-/
import Derived.Test.YtliefhkllpmlmabDoorTokTxt
import Derived.Test.YtliefhkllpmlmabDoorTabLaid
import Derived.Test.YtliefhkllpmlmabDoorTokLaw
namespace Nt
open Go Go.RowKit
def oneT (x : Tk) : List UInt8 := if tkB x = true then tokT x else []
def oneK (x : Tk) : Int := if tkB x = true then 0 else 1
theorem codeJ_one (x : Tk) : codeJ [x] = oneK x := by
  unfold codeJ oneK
  rw [if_neg (by simp), if_neg (by simp)]
  simp
theorem txtJ_one (x : Tk) : txtJ [x] = oneT x := by
  unfold txtJ oneT
  rw [codeJ_one]
  unfold oneK
  by_cases h : tkB x = true
  · rw [if_pos h, if_pos rfl, if_pos h]
    simp [jK]
  · rw [if_neg h, if_neg (by decide), if_neg h]
end Nt
namespace Go.Proofs.YtliefhkllpmlmabDoor
open Go Go.RowKit Nt
open Go.ChangeShapes Go.WideShapes Go.ChangeAt
open Go.ChangeMaps (open_string shut_string)

theorem rdt_one (w : World) (t : TypeId) (k n : Int) (s : ByteArray) (N : Nat) (hN : w.heap.size = N) : RdT (w.alloc (.cells #[.int .i64 k, .int .i64 n, .string s] t)) (fun _ => True) (some ⟨N, 0, none⟩) 1 1 [(k, n, s)] := by
  subst hN
  refine ⟨rfl, Nat.le_refl _, (fun h => by cases h), fun _ => ⟨w.heap.size, 0, rfl, trivial, by simp, fun i hi => ?_⟩⟩
  obtain rfl : i = 0 := by omega
  have h := TokAt.new w t k n s
  exact ⟨h.c0, h.c1, h.c2⟩

set_option maxHeartbeats 1600000 in
theorem implTokenText_any (k n : Int) (s : ByteArray) (w : World) (hs : s.size ≤ 1048576) (ht : Pow10 w) :
    Calls Tryd.prog 24 #[.agg #[.int .i64 k, .int .i64 n, .string s]] w fun e w' => e = .returned (.tuple #[.string ⟨(oneT (k, n, s)).toArray⟩, .int .i64 (oneK (k, n, s))]) ∧ Below w.heap.size w w' := by
  have HB0 := Lib.hid (tok_below1 w (.cells #[.int .i64 k, .int .i64 n, .string s] 45))
  have HQ0 := Lib.hid (TokAt.new w 45 k n s)
  have HB1 : Hid (Below w.heap.size w ((w.alloc (.cells #[.int .i64 k, .int .i64 n, .string s] 45)).alloc (.cells #[.int .i64 k, .int .i64 n, .string s] 45))) := HB0.out.alloc HB0.out.size _
  have hj := implJoinTokens_any (some ⟨w.heap.size + 1, 0, none⟩) 1 1 [(k, n, s)] _ _ (rdt_one (w.alloc (.cells #[.int .i64 k, .int .i64 n, .string s] 45)) 45 k n s (w.heap.size + 1) (by simp)) (fun x hx => by rw [List.mem_singleton.1 hx]; exact hs) (by omega) (pow10_on ht HB1.out)
  rw [codeJ_one, txtJ_one] at hj
  have HJ := Lib.hid hj
  have c0 := HQ0.out.c0
  have c1 := HQ0.out.c1
  have c2 := HQ0.out.c2
  have HV : Hid (∀ t c, oneT (k, n, s) = t → oneK (k, n, s) = c → True) := fun _ _ _ _ => trivial
  obtain ⟨tx, htx⟩ : ∃ tx, oneT (k, n, s) = tx := ⟨_, rfl⟩
  obtain ⟨cd, hcd⟩ : ∃ cd, oneK (k, n, s) = cd := ⟨_, rfl⟩
  rw [htx, hcd] at HJ
  have HTX := Lib.hid htx
  have HCD := Lib.hid hcd
  clear hj ht htx hcd HV
  go_enter Tryd.func24, Tryd.ntmps24
  go_wp2_with fail
  refine HJ.out.mono ?_
  rintro e w2 ⟨rfl, b2⟩
  have HB2 := Lib.hid (HB1.out.trans (b2.mono HB1.out.size))
  clear b2 HJ c0 c1 c2
  go_wp2
  go_ret2
  exact ⟨by rw [HTX.out, HCD.out]; rfl, HB2.out⟩

set_option maxHeartbeats 1600000 in
theorem specTokenText_any (k n : Int) (s : ByteArray) (w : World) (hs : s.size ≤ 1048576) :
    Calls Tryd.prog 22 #[.agg #[.int .i64 k, .int .i64 n, .string s]] w fun e w' => e = .returned (.tuple #[.string ⟨(oneT (k, n, s)).toArray⟩, .int .i64 (oneK (k, n, s))]) ∧ Below w.heap.size w w' := by
  by_cases hok : tokB k n s = true
  · have HV : Hid (oneT (k, n, s) = tokT (k, n, s) ∧ oneK (k, n, s) = 0) := by
      unfold oneT oneK
      have h : tkB (k, n, s) = true := hok
      rw [if_pos h, if_pos h]
      exact ⟨rfl, rfl⟩
    have HX := Lib.hid (fun W : World => l04Text_any k n s W hok)
    have HOK := Lib.hid hok
    clear hok
    go_enter Tryd.func22, Tryd.ntmps22
    go_wp2_with fail
    refine calls_atT (fun V => Below w.heap.size w V ∧ TokAt V w.heap.size 45 k n s) ⟨tok_below1 _ _, TokAt.new _ _ _ _ _⟩ ?_
    rintro v1 ⟨b1, t1⟩
    refine (specTokenOK_any k n s v1 hs).mono ?_
    rintro e v2 ⟨rfl, b2⟩
    rw [HOK.out]
    have HB2 := Lib.hid (b1.trans (b2.mono b1.size))
    have HT2 := Lib.hid (t1.on b2)
    clear b1 t1 b2
    have c0 := HT2.out.c0
    have c1 := HT2.out.c1
    have c2 := HT2.out.c2
    go_wp2_with fail
    refine (HX.out v2).mono ?_
    rintro e v3 ⟨rfl, b3⟩
    have HB3 := Lib.hid (HB2.out.trans (b3.mono HB2.out.size))
    clear b3 c0 c1 c2
    go_wp2
    go_ret2
    exact ⟨by rw [HV.out.1, HV.out.2]; rfl, HB3.out⟩
  · have hno := (Bool.not_eq_true _).mp hok
    have HV : Hid (oneT (k, n, s) = [] ∧ oneK (k, n, s) = 1) := by
      unfold oneT oneK
      have h : ¬ tkB (k, n, s) = true := hok
      rw [if_neg h, if_neg h]
      exact ⟨rfl, rfl⟩
    have HOK := Lib.hid hno
    clear hok hno
    go_enter Tryd.func22, Tryd.ntmps22
    go_wp2_with fail
    refine calls_atT (fun V => Below w.heap.size w V) (tok_below1 _ _) ?_
    rintro v1 b1
    refine (specTokenOK_any k n s v1 hs).mono ?_
    rintro e v2 ⟨rfl, b2⟩
    rw [HOK.out]
    have HB2 := Lib.hid (b1.trans (b2.mono b1.size))
    clear b1 b2
    go_wp2
    go_ret2
    exact ⟨by rw [HV.out.1, HV.out.2]; rfl, HB2.out⟩

set_option maxRecDepth 20000 in
set_option maxHeartbeats 1600000 in
theorem lawTokenText_any (k n : Int) (s : ByteArray) (w : World) (hk : (Lit.int .i64 k).wf = true) (hn : (Lit.int .i64 n).wf = true) (hs : s.size ≤ maxLen) (ht : Pow10 w) :
    Calls Tryd.prog 6 #[.agg #[.int .i64 k, .int .i64 n, .string s]] w fun e w' => e = .returned (.bool true) ∧ Below w.heap.size w w' := by
  clear hk hn
  have HPW := Lib.hid ht
  clear ht
  by_cases hb : (1048576 : Int) < s.size
  · go_enter Tryd.func6, Tryd.ntmps6
    go_wp2_with fail
    refine calls_atT (fun V => Below w.heap.size w V) (tok_below1 _ _) ?_
    intro v1 hb1
    refine (szToken_big k n s v1 hs hb).mono ?_
    rintro e v2 ⟨rfl, b2⟩
    have HB2 := Lib.hid (hb1.trans (b2.mono hb1.size))
    clear hb1 b2
    go_wp2
    go_ret
    exact ⟨rfl, HB2.out⟩
  have hs' : s.size ≤ 1048576 := by omega
  have HBN := Lib.hid hb
  have HSP := Lib.hid (fun W : World => specTokenText_any k n s W hs')
  have HIM := Lib.hid (fun (W : World) (h : Pow10 W) => implTokenText_any k n s W hs' h)
  have hcE : (oneK (k, n, s) != oneK (k, n, s)) = false := by simp
  generalize oneT (k, n, s) = tx at *
  generalize oneK (k, n, s) = cd at *
  clear hb hs
  go_enter Tryd.func6, Tryd.ntmps6
  go_wp2_with fail
  refine calls_atT (fun V => Below w.heap.size w V ∧ TokAt V w.heap.size 42 k n s) ⟨tok_below1 _ _, TokAt.new _ _ _ _ _⟩ ?_
  rintro v1 ⟨b1, t1⟩
  refine (szToken_fit k n s v1 (by omega)).mono ?_
  rintro e v2 ⟨rfl, b2⟩
  have HB2 := Lib.hid (b1.trans (b2.mono b1.size))
  have HT2 := Lib.hid (t1.on b2)
  clear b1 t1 b2
  have c0 := HT2.out.c0
  have c1 := HT2.out.c1
  have c2 := HT2.out.c2
  have hd : 0 ≤ 1048576 - (s.size : Int) := by omega
  go_wp2_with fail
  refine (toToken_any k n s v2).mono ?_
  rintro e v3 ⟨rfl, b3⟩
  have HB3 := Lib.hid (HB2.out.trans (b3.mono HB2.out.size))
  have HT3 := Lib.hid (HT2.out.on b3)
  clear HB2 HT2 b3 c0 c1 c2
  go_wp2_with fail
  refine (HSP.out v3).mono ?_
  rintro e v4 ⟨rfl, b4⟩
  have HB4 := Lib.hid (HB3.out.trans (b4.mono HB3.out.size))
  have HT4 := Lib.hid (HT3.out.on b4)
  clear HB3 HT3 b4
  have c0 := HT4.out.c0
  have c1 := HT4.out.c1
  have c2 := HT4.out.c2
  go_wp2_with fail
  refine (toToken_any k n s v4).mono ?_
  rintro e v5 ⟨rfl, b5⟩
  have HB5 := Lib.hid (HB4.out.trans (b5.mono HB4.out.size))
  clear HB4 HT4 b5 c0 c1 c2
  go_wp2_with fail
  refine (HIM.out v5 (pow10_on HPW.out HB5.out)).mono ?_
  rintro e v6 ⟨rfl, b6⟩
  have HB6 := Lib.hid (HB5.out.trans (b6.mono HB5.out.size))
  clear HB5 b6
  go_wp2
  go_ret
  exact ⟨rfl, HB6.out⟩

theorem own_fnExactTokenText : ownKnob Tryd.prog.godebug = none := by kernel_rfl
theorem laidOut_fnExactTokenText : laidOutB Tryd.prog = true := by kernel_rfl
theorem laidMet_fnExactTokenText (os : Os) : laidMet Tryd.prog Rows.fnExactTokenTextRow.laid ((tabWorld os).forCall (fun _ _ => 0) ⟨#[], #[.agg #[.int .i64 0, .int .i64 0, .string ByteArray.empty]], []⟩).memory :=
  laidMet_of_run' 8 (by kernel_rfl) (by kernel_rfl)
set_option maxRecDepth 100000 in
set_option linter.unusedVariables false in
theorem contract_fnExactTokenText (H : Type) (enc : TypeId × Value → H) (W : World) (base : Nat) (args : Array Value) (ds gs : List (DataW H)) (before : List MemPlace)
    (hval0 : ∀ (j : Nat) t v, Tryd.f6.params[j]? = some t → args[j]? = some v → Value.okWide Tryd.prog W .any base t v)
    (hW : DataW.Whole enc Tryd.prog Tryd.f6.params.toList Rows.fnExactTokenTextSpec.vars false W args.toList ds gs before) (hL : laidMetH Tryd.prog Rows.fnExactTokenTextRow.laid W) :
    Calls Tryd.prog 6 args W fun e W' => ∃ v, e = .returned v ∧ Rows.fnExactTokenTextSpec.post enc Tryd.prog Tryd.f6 false true false false W args v W' := by
  have hval := hval0
  have hW' := hW
  obtain ⟨p, q, hA0, hV0, rfl, hfz, hnd⟩ := hW
  have hA : DataW.TrodAll enc Tryd.prog W 0 (fun _ => true) true Tryd.f6.params.toList args.toList ds p := hA0
  rw [Tryd.params6] at hA hval
  have hpow : Pow10 W := pow10_of_laid (W := W) hL
  obtain ⟨rfl, rfl⟩ := trodVars_none hV0
  obtain ⟨v0, vs0, d0, ds0, p0, q0, hargs, rfl, rfl, h0, r0⟩ := trodAll_cons hA
  obtain ⟨rfl, rfl, rfl⟩ := trodAll_nil r0
  obtain rfl : args = #[v0] := by cases args; simp_all
  have k0 := h0
  have lt0 : ∀ x ∈ p0, x.block < W.heap.size := by obtain ⟨m, hm⟩ := k0; exact DataW.trod_lt m _ _ _ hm
  obtain ⟨ca0, cb0, cc0, ya0, yb0, yc0, mf0, rfl, ed0, ep0, ta0, tb0, tc0⟩ := Joins.open_agg3 Tryd.underlying42 (by kernel_rfl) (by kernel_rfl) (hval 0 42 v0 rfl rfl) h0
  obtain ⟨x0, ea0, _, wa0⟩ := DataW.trod_int Tryd.underlying3 ta0
  obtain ⟨y0, eb0, _, wb0⟩ := DataW.trod_int Tryd.underlying3 tb0
  obtain ⟨s0, ec0, _, wc0⟩ := DataW.trod_string Tryd.underlying9 tc0
  simp at ea0 eb0 ec0
  subst ea0 eb0 ec0
  clear hA0 hval0
  refine (lawTokenText_any x0 y0 s0 W wa0 wb0 wc0 hpow).mono fun e W' ⟨he, bel⟩ => ?_
  subst he
  exact ⟨_, rfl, _, _, _, [], _, [], hW', trodAll_mk1 (shut_bool Tryd.underlying4 _), (trodAll_cons_mk (Below.trod laidOut_fnExactTokenText (by kernel_rfl) (of_decide_eq_true (by kernel_rfl)) k0 bel lt0) trodAll_mk0), rfl, bel.frame _, fun h => by cases h⟩

set_option maxRecDepth 100000 in
theorem lifted_fnExactTokenText (os : Os) (started : os.Started) (H : Type) (enc : TypeId × Value → H) (F : Stop.Interp) :
    ReturnsInHanded {} Tryd.checked os 6 .any ((OpenSpec.ofChange Rows.fnExactTokenTextSpec).preRow enc Tryd.prog Tryd.f6 Rows.fnExactTokenTextRow.domain false Rows.fnExactTokenTextRow.laid) (((OpenSpec.ofChange Rows.fnExactTokenTextSpec).at F).post enc Tryd.prog Tryd.f6 false true false false) := by
  have hsome : (DataW.whole enc Tryd.prog ((tabWorld os).forCall (fun _ _ => 0) ⟨#[], #[.agg #[.int .i64 0, .int .i64 0, .string ByteArray.empty]], []⟩).memory Tryd.f6.params.toList Rows.fnExactTokenTextSpec.vars false (#[.agg #[.int .i64 0, .int .i64 0, .string ByteArray.empty]] : Array Value).toList 8).isSome = true := by kernel_rfl
  obtain ⟨x, hx⟩ := Option.isSome_iff_exists.1 hsome
  refine returnsInHanded_of_row (C := Tryd.checked) (s := OpenSpec.ofChange Rows.fnExactTokenTextSpec) own_fnExactTokenText started (by kernel_rfl) Tryd.func6
    (witness_row_at (enc := enc) (C := Tryd.checked) false (tabWorld os) #[.agg #[.int .i64 0, .int .i64 0, .string ByteArray.empty]] rfl (by kernel_rfl) (by kernel_rfl) (by kernel_rfl)
      (OpenSpec.preRow_of_cond 8 hx (by kernel_rfl) (fun k hk => by cases hk) (by kernel_rfl) (laidMet_fnExactTokenText os))) ?_
  intro W base args ds gs before hval hW _ _ _ hL _ _
  exact contract_fnExactTokenText H enc W base args ds gs before hval hW hL

theorem said_fnExactTokenText : Rows.FnExactTokenTextSaid :=
  OpenClaim.holds_of_cond 6 Tryd.f6 rfl rfl rfl rfl rfl rfl rfl ⟨rfl, rfl, rfl, rfl, rfl⟩ rfl rfl rfl rfl rfl (by kernel_rfl) Tryd.func6 (by kernel_rfl)
    (of_decide_eq_true (by kernel_rfl)) (by unfold Func.isWrapper; first | (rw [if_pos (by decide +kernel)]; kernel_rfl) | (rw [if_neg (by decide +kernel)]; exact ⟨rfl, rfl⟩))
    (fun os started H enc _ F => by rw [OpenClaim.pre_eq_preRow]; exact lifted_fnExactTokenText os started H enc F)

theorem plain_fnExactTokenText (f : FuncId) (fn : Func) (hf : Tryd.pinned.checked.prog.funcNamed "loop.example/g00615/laws.FnExactTokenText" = some f) (hfn : Tryd.pinned.checked.prog.funcs[f]? = some fn) :
    false = Tryd.pinned.checked.prog.looks [] ∧ ∀ (j : Nat) t, fn.params[j]? = some t → Tryd.pinned.checked.prog.wantsStandIn t = false := by
  obtain rfl : f = 6 := Option.some.inj ((show Tryd.prog.funcNamed "loop.example/g00615/laws.FnExactTokenText" = some 6 by kernel_rfl).symm.trans hf) |>.symm
  obtain rfl : fn = Tryd.f6 := (Option.some.inj (Tryd.func6.symm.trans hfn)).symm
  refine ⟨by kernel_rfl, fun j t ht => ?_⟩
  rw [Tryd.params6] at ht
  obtain rfl : t = 42 := by simpa using Array.mem_of_getElem? ht
  exact (show Tryd.prog.wantsStandIn 42 = false by kernel_rfl)

theorem fnExactTokenText_card : Rows.FnExactTokenTextCardSaid :=
  Claim7.holds_tied_plain_at .later [] _ _ _ _ said_fnExactTokenText (fun _ h => by cases h) (by kernel_rfl) (fun _ h => by cases h) fnExactTokenText_row_tie rfl ⟨rfl, rfl⟩ (by kernel_rfl) rfl plain_fnExactTokenText (by kernel_rfl)

end Go.Proofs.YtliefhkllpmlmabDoor
