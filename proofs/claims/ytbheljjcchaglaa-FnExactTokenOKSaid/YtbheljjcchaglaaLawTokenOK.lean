/-
  The law FnExactTokenOK: whatever the token, TokenOK answers as its model. No condition.
-/
import Derived.Test.YtbheljjcchaglaaTokOk
import Derived.ProofKit
import Derived.OpenShut
import Derived.ShutString
import Derived.ChangeOld
import Derived.Lib.SmallJoins
import Derived.Laws.ResultCell
namespace Go.Proofs.Ytbheljjcchaglaa
open Go Go.RowKit Nt
open Go.ChangeShapes Go.WideShapes Go.ChangeAt
open Go.ChangeMaps (open_string shut_string)

theorem retTok {fn : Func} {p : Tmp} {k n : Int} {s : ByteArray} (h : fn.results = #[.cell p 26]) (tmps : Array Value) (w : World) (b : Nat) (hp : tmps.getD p undef = .pointer (some ⟨b, 0, none⟩)) (hr : TokAt w b 26 k n s) :
    (results fn tmps).run Try.prog w = .ok (.agg #[.int .i64 k, .int .i64 n, .string s]) w := results_cell_row h tmps w b _ _ _ _ hp hr Try.underlying26 rfl (by kernel_rfl)
theorem calls_atT {P : Program} {f : FuncId} {args : Array Value} {W : World} {post : Ending → World → Prop} (F : World → Prop) (hF : F W) (h : ∀ W, F W → Calls P f args W post) : Calls P f args W post := h W hF
set_option maxHeartbeats 800000 in
theorem toToken_any (k n : Int) (s : ByteArray) (w : World) :
    Calls Try.prog 13 #[.agg #[.int .i64 k, .int .i64 n, .string s]] w fun e w' => e = .returned (.agg #[.int .i64 k, .int .i64 n, .string s]) ∧ Below w.heap.size w w' := by
  go_enter Try.func13, Try.ntmps13
  go_wp2
  refine bodyPost_ret (retTok (k := k) (n := n) (s := s) rfl _ _ (w.heap.size + 1) rfl ?_) rfl ⟨rfl, (((Below.refl _ _).alloc (Nat.le_refl _) _).alloc (by simp) _).alloc (by simp; omega) _⟩
  have h1 := TokAt.new (w.alloc (.cells #[.int .i64 k, .int .i64 n, .string s] 23)) 26 k n s
  rw [World.size_alloc] at h1
  exact h1.on (tok_below1 _ _)

theorem szToken_big (k n : Int) (s : ByteArray) (w : World) (hs : s.size ≤ maxLen) (hb : (1048576 : Int) < s.size) :
    Calls Try.prog 11 #[.agg #[.int .i64 k, .int .i64 n, .string s], .int .i64 1048576] w fun e w' => e = .returned (.int .i64 (-1)) ∧ Below w.heap.size w w' := by
  unfold maxLen at hs
  have HB := Lib.hid (tok_below1 w (.cells #[.int .i64 k, .int .i64 n, .string s] 23))
  have hd : 1048576 - (s.size : Int) < 0 := by omega
  go_enter Try.func11, Try.ntmps11
  go_wp2
  go_ret
  exact ⟨rfl, HB.out⟩
theorem szToken_fit (k n : Int) (s : ByteArray) (w : World) (hb : (s.size : Int) ≤ 1048576) :
    Calls Try.prog 11 #[.agg #[.int .i64 k, .int .i64 n, .string s], .int .i64 1048576] w fun e w' => e = .returned (.int .i64 (1048576 - s.size)) ∧ Below w.heap.size w w' := by
  have HB := Lib.hid (tok_below1 w (.cells #[.int .i64 k, .int .i64 n, .string s] 23))
  have hd : 0 ≤ 1048576 - (s.size : Int) := by omega
  go_enter Try.func11, Try.ntmps11
  go_wp2
  go_ret
  exact ⟨rfl, HB.out⟩

set_option maxHeartbeats 800000 in
theorem lawTokenOK_any (k n : Int) (s : ByteArray) (w : World) (hk : (Lit.int .i64 k).wf = true) (hn : (Lit.int .i64 n).wf = true) (hs : s.size ≤ maxLen) :
    Calls Try.prog 3 #[.agg #[.int .i64 k, .int .i64 n, .string s]] w fun e w' => e = .returned (.bool true) ∧ Below w.heap.size w w' := by
  clear hk hn
  by_cases hb : (1048576 : Int) < s.size
  · go_enter Try.func3, Try.ntmps3
    go_wp2_with fail
    refine calls_atT (fun V => Below w.heap.size w V) (tok_below1 _ _) ?_
    intro v1 hb1
    refine (szToken_big k n s v1 hs hb).mono ?_
    rintro e v2 ⟨rfl, b2⟩
    have HB2 := Lib.hid (hb1.trans (b2.mono hb1.size))
    clear hb1 b2
    go_wp2
    go_ret
    exact ⟨rfl, HB2.out⟩
  have hs' : s.size ≤ 1048576 := by omega
  have HBN := Lib.hid hb
  clear hb hs
  go_enter Try.func3, Try.ntmps3
  go_wp2_with fail
  refine calls_atT (fun V => Below w.heap.size w V ∧ TokAt V w.heap.size 23 k n s) ⟨tok_below1 _ _, TokAt.new _ _ _ _ _⟩ ?_
  rintro v1 ⟨b1, t1⟩
  refine (szToken_fit k n s v1 (by omega)).mono ?_
  rintro e v2 ⟨rfl, b2⟩
  have HB2 := Lib.hid (b1.trans (b2.mono b1.size))
  have HT2 := Lib.hid (t1.on b2)
  clear b1 t1 b2
  have c0 := HT2.out.c0
  have c1 := HT2.out.c1
  have c2 := HT2.out.c2
  have hd : 0 ≤ 1048576 - (s.size : Int) := by omega
  go_wp2_with fail
  refine (toToken_any k n s v2).mono ?_
  rintro e v3 ⟨rfl, b3⟩
  have HB3 := Lib.hid (HB2.out.trans (b3.mono HB2.out.size))
  have HT3 := Lib.hid (HT2.out.on b3)
  clear HB2 HT2 b3 c0 c1 c2
  go_wp2_with fail
  refine (specTokenOK_any k n s v3 hs').mono ?_
  rintro e v4 ⟨rfl, b4⟩
  have HB4 := Lib.hid (HB3.out.trans (b4.mono HB3.out.size))
  have HT4 := Lib.hid (HT3.out.on b4)
  clear HB3 HT3 b4
  have c0 := HT4.out.c0
  have c1 := HT4.out.c1
  have c2 := HT4.out.c2
  go_wp2_with fail
  refine (toToken_any k n s v4).mono ?_
  rintro e v5 ⟨rfl, b5⟩
  have HB5 := Lib.hid (HB4.out.trans (b5.mono HB4.out.size))
  clear HB4 HT4 b5 c0 c1 c2
  go_wp2_with fail
  refine (implTokenOK_any k n s v5 hs').mono ?_
  rintro e v6 ⟨rfl, b6⟩
  have HB6 := Lib.hid (HB5.out.trans (b6.mono HB5.out.size))
  clear HB5 b6
  have hne : (tokB k n s != tokB k n s) = false := by simp
  generalize tokB k n s = x at *
  go_wp2
  go_ret
  exact ⟨rfl, HB6.out⟩

theorem own_fnExactTokenOK : ownKnob Try.prog.godebug = none := by kernel_rfl
theorem laidOut_fnExactTokenOK : laidOutB Try.prog = true := by kernel_rfl
set_option maxRecDepth 100000 in
set_option linter.unusedVariables false in
theorem fnExactTokenOK_lifted (os : Os) (started : os.Started) (H : Type) (enc : TypeId × Value → H) :
    ReturnsInHanded {} Try.checked os 3 .any (Rows.fnExactTokenOKSpec.pre6 enc Try.prog Try.f3 Rows.fnExactTokenOKRow.domain false) (Rows.fnExactTokenOKSpec.post enc Try.prog Try.f3 false true false false) := by
  refine returnsInHanded_of_change (C := Try.checked) own_fnExactTokenOK started (by kernel_rfl) Try.func3
    (ChangeSpec.witness6 (enc := enc) (C := Try.checked) false ⟨#[], #[.agg #[.int .i64 0, .int .i64 0, .string ByteArray.empty]], []⟩ 8 (by kernel_rfl) (by kernel_rfl) (by kernel_rfl) (by kernel_rfl)) ?_
  intro W base args ds gs before hval0 hW hcnd _
  have hval : ∀ (j : Nat) t v, Try.f3.params[j]? = some t → args[j]? = some v → Value.okWide Try.prog W .any base t v := hval0
  have hW' := hW
  obtain ⟨p, q, hA0, hV, rfl, hfz, hnd⟩ := hW
  have hA : DataW.TrodAll enc Try.prog W 0 (fun _ => true) true Try.f3.params.toList args.toList ds p := hA0
  rw [Try.params3] at hA hval
  obtain ⟨v0, vs0, d0, ds0, p0, q0, hargs, rfl, rfl, h0, r0⟩ := trodAll_cons hA
  obtain ⟨rfl, rfl, rfl⟩ := trodAll_nil r0
  obtain rfl : args = #[v0] := by cases args; simp_all
  obtain ⟨rfl, rfl⟩ := trodVars_none hV
  have k0 := h0
  have lt0 : ∀ x ∈ p0, x.block < W.heap.size := by obtain ⟨m, hm⟩ := k0; exact DataW.trod_lt m _ _ _ hm
  obtain ⟨ca0, cb0, cc0, ya0, yb0, yc0, mf0, rfl, ed0, ep0, ta0, tb0, tc0⟩ := Joins.open_agg3 Try.underlying23 (by kernel_rfl) (by kernel_rfl) (hval 0 23 v0 rfl rfl) h0
  obtain ⟨x0, ea0, _, wa0⟩ := DataW.trod_int Try.underlying3 ta0
  obtain ⟨y0, eb0, _, wb0⟩ := DataW.trod_int Try.underlying3 tb0
  obtain ⟨s0, ec0, _, wc0⟩ := DataW.trod_string Try.underlying9 tc0
  simp at ea0 eb0 ec0
  subst ea0 eb0 ec0
  clear hA0 hval0
  refine (lawTokenOK_any x0 y0 s0 W wa0 wb0 wc0).mono fun e W' ⟨he, bel⟩ => ?_
  subst he
  exact ⟨_, rfl, _, _, _, [], _, [], hW', trodAll_mk1 (shut_bool Try.underlying4 _), (trodAll_cons_mk (Below.trod laidOut_fnExactTokenOK (by kernel_rfl) (of_decide_eq_true (by kernel_rfl)) k0 bel lt0) trodAll_mk0), rfl, bel.frame _, fun h => by cases h⟩

theorem fnExactTokenOK_over : Rows.fnExactTokenOKRow.holds Try.pinned (OpenSpec.ofChange Rows.fnExactTokenOKSpec) :=
  OpenClaim.holds_of_wide 3 Try.f3 rfl rfl rfl rfl rfl rfl rfl ⟨rfl, rfl, rfl, rfl, rfl⟩ rfl rfl rfl rfl rfl (by kernel_rfl) Try.func3 (by kernel_rfl)
    (of_decide_eq_true (by kernel_rfl)) (by unfold Func.isWrapper; first | (rw [if_pos (by decide +kernel)]; kernel_rfl) | (rw [if_neg (by decide +kernel)]; exact ⟨rfl, rfl⟩))
    (fun os started H enc _ => fnExactTokenOK_lifted os started H enc)

theorem fnExactTokenOK_holds : Rows.FnExactTokenOKSaid := fnExactTokenOK_over

end Go.Proofs.Ytbheljjcchaglaa
