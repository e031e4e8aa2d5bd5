/-
  The law FnExactRatText: whatever the arguments, RatText answers as its model, and writes into no argument, where the library's tables lie as its text lays them: its tied card. No other condition.
-/
import Derived.Test.YtliefhkllpmlmabDoorRatTxt
import Derived.Test.YtliefhkllpmlmabDoorTabLaid
import Derived.ProofKit
import Derived.OpenShut
import Derived.ShutString
import Derived.ChangeOld
import Derived.Lib.SmallJoins
import Derived.Deep.RegionHeld3
namespace Go.Proofs.YtliefhkllpmlmabDoor
open Go Go.RowKit Nt
open Go.ChangeShapes Go.WideShapes Go.ChangeAt
open Go.ChangeMaps (open_string shut_string)

set_option maxRecDepth 20000 in
set_option maxHeartbeats 3200000 in
theorem lawRatText_core (T : List UInt8) (K : Int) (n0 : Bool) (A0 : Option Addr) (la0 ca0 : Nat) (B0 : Option Addr) (lb0 cb0 : Nat) (x0 y0 : List Int) (w : World)
    (hS : ∀ (a0 : Option Addr) (c0 : Nat) (b0 : Option Addr) (d0 : Nat) (W : World), RdR W (fun _ => True) x0 y0 a0 c0 b0 d0 → Calls Tryd.prog 17 #[.agg #[.bool n0, .slice a0 x0.length c0, .slice b0 y0.length d0]] W (fun e w' => e = .returned (.tuple #[.string ⟨T.toArray⟩, .int .i64 K]) ∧ Below W.heap.size W w'))
    (hI : ∀ (a0 : Option Addr) (c0 : Nat) (b0 : Option Addr) (d0 : Nat) (W : World), RdR W (fun _ => True) x0 y0 a0 c0 b0 d0 → Pow10 W → Calls Tryd.prog 19 #[.agg #[.bool n0, .slice a0 x0.length c0, .slice b0 y0.length d0]] W (fun e w' => e = .returned (.tuple #[.string ⟨T.toArray⟩, .int .i64 K]) ∧ Below W.heap.size W w'))
    (hx0 : Rd w (· < w.heap.size) A0 la0 ca0 x0) (hy0 : Rd w (· < w.heap.size) B0 lb0 cb0 y0) (hsz : la0 + lb0 ≤ 1048576) (hpw : Pow10 w) :
    Calls Tryd.prog 5 #[.agg #[.bool n0, .slice A0 la0 ca0, .slice B0 lb0 cb0]] w fun e w' => e = .returned (.bool true) ∧ Below w.heap.size w w' := by
  have HS := Lib.hid hS
  have HI := Lib.hid hI
  clear hS hI
  have HXk0 := Lib.hid hx0
  have HYk0 := Lib.hid hy0
  have hxl0 := hx0.len
  have hyl0 := hy0.len
  clear hx0 hy0
  subst hxl0 hyl0
  have hK : (K != K) = false := by simp
  have HPW := Lib.hid hpw
  clear hpw
  go_enter Tryd.func5, Tryd.ntmps5
  go_wp2_with fail
  refine calls_at (fun V => (Below w.heap.size w V) ∧ (RatAt V w.heap.size 34 n0 A0 x0.length ca0 B0 y0.length cb0))
    ⟨below1 _ _, RatAt.new _ _ _ _ _ _ _ _ _⟩ ?_
  rintro v1 ⟨pB, pR0⟩
  have sv1 : w.heap.size ≤ v1.heap.size := pB.size
  have HB1 := Lib.hid pB
  have HR01 := Lib.hid pR0
  clear pB pR0
  refine (szRat_fit n0 A0 B0 _ ca0 _ cb0 (1048576) v1 (by omega) (by omega) (by omega)).mono ?_
  rintro e v2 ⟨rfl, bb⟩
  have sv2 : v1.heap.size ≤ v2.heap.size := bb.size
  have HB2 := Lib.hid (below_on HB1.out bb)
  clear HB1
  have HR02 := Lib.hid (HR01.out.on bb)
  clear HR01
  clear bb
  have hle0 : 0 ≤ 1048576 - (x0.length : Int) - (y0.length : Int) := by omega
  have qR00 := HR02.out.c0
  have qR01 := HR02.out.c1
  have qR02 := HR02.out.c2
  go_wp2_with fail
  clear qR00 qR01 qR02
  refine (toRat_any n0 A0 B0 _ ca0 _ cb0 x0 y0 v2 (((HXk0.out.below HB2.out).mono (Q := (· < (v2).heap.size)) fun _ h _ => Nat.lt_of_lt_of_le h (HB2.out).size)) (((HYk0.out.below HB2.out).mono (Q := (· < (v2).heap.size)) fun _ h _ => Nat.lt_of_lt_of_le h (HB2.out).size)) (by omega) (by omega)).mono ?_
  rintro e v3 ⟨sA0, sc0, sB0, sd0, rfl, oo, bb⟩
  have sv3 : v2.heap.size ≤ v3.heap.size := bb.size
  have HB3 := Lib.hid (below_on HB2.out bb)
  clear HB2
  have HR03 := Lib.hid (HR02.out.on bb)
  clear HR02
  have HT03 := Lib.hid (oo.rdt)
  clear bb
  clear oo
  go_wp2_with fail
  refine (HS.out sA0 sc0 sB0 sd0 v3 HT03.out).mono ?_
  rintro e v4 ⟨rfl, bb⟩
  have sv4 : v3.heap.size ≤ v4.heap.size := bb.size
  clear HT03
  have HB4 := Lib.hid (below_on HB3.out bb)
  clear HB3
  have HR04 := Lib.hid (HR03.out.on bb)
  clear HR03
  clear bb
  have qR00 := HR04.out.c0
  have qR01 := HR04.out.c1
  have qR02 := HR04.out.c2
  go_wp2_with fail
  clear qR00 qR01 qR02
  refine (toRat_any n0 A0 B0 _ ca0 _ cb0 x0 y0 v4 (((HXk0.out.below HB4.out).mono (Q := (· < (v4).heap.size)) fun _ h _ => Nat.lt_of_lt_of_le h (HB4.out).size)) (((HYk0.out.below HB4.out).mono (Q := (· < (v4).heap.size)) fun _ h _ => Nat.lt_of_lt_of_le h (HB4.out).size)) (by omega) (by omega)).mono ?_
  rintro e v5 ⟨xA0, xc0, xB0, xd0, rfl, oo, bb⟩
  have sv5 : v4.heap.size ≤ v5.heap.size := bb.size
  have HB5 := Lib.hid (below_on HB4.out bb)
  clear HB4
  have HR05 := Lib.hid (HR04.out.on bb)
  clear HR04
  have HX05 := Lib.hid (oo)
  clear bb
  clear oo
  go_wp2_with fail
  refine calls_at (fun V => (v5.heap.size ≤ V.heap.size) ∧ (Below w.heap.size w V) ∧ (RatAt V w.heap.size 34 n0 A0 x0.length ca0 B0 y0.length cb0) ∧ (OwnR 3 V v4.heap.size x0 y0 xA0 xc0 xB0 xd0) ∧ (RatAt V v5.heap.size 37 n0 xA0 x0.length xc0 xB0 y0.length xd0))
    ⟨(below1 _ _).size, below_on HB5.out (below1 _ _), HR05.out.on (below1 _ _), HX05.out.on (below1 _ _), RatAt.new _ _ _ _ _ _ _ _ _⟩ ?_
  rintro v6 ⟨sv6, pB, pR0, pX0, pXv0⟩
  have HB6 := Lib.hid pB
  clear pB HB5
  have HR06 := Lib.hid pR0
  clear pR0 HR05
  have HX06 := Lib.hid pX0
  clear pX0 HX05
  have HXv06 := Lib.hid pXv0
  clear pXv0
  have HLX0 := Lib.hid HX06.out.lt
  refine (HI.out xA0 xc0 xB0 xd0 v6 HX06.out.rdt (pow10_on HPW.out HB6.out)).mono ?_
  rintro e v7 ⟨rfl, bb⟩
  have sv7 : v6.heap.size ≤ v7.heap.size := bb.size
  have HB7 := Lib.hid (below_on HB6.out bb)
  clear HB6
  have HR07 := Lib.hid (HR06.out.on bb)
  clear HR06
  have HX07 := Lib.hid (HX06.out.on bb)
  clear HX06
  have HXv07 := Lib.hid (HXv06.out.on bb)
  clear HXv06
  clear bb
  go_wp2_with fail
  go_region_held3 (fun wx => wx.cell? ⟨v5.heap.size, 0, none⟩ = some (.bool n0) ∧ wx.cell? ⟨v5.heap.size, 1, none⟩ = some (.slice xA0 x0.length xc0) ∧ wx.cell? ⟨v5.heap.size, 2, none⟩ = some (.slice xB0 y0.length xd0) ∧ wx.cell? ⟨w.heap.size, 0, none⟩ = some (.bool n0) ∧ wx.cell? ⟨w.heap.size, 1, none⟩ = some (.slice A0 x0.length ca0) ∧ wx.cell? ⟨w.heap.size, 2, none⟩ = some (.slice B0 y0.length cb0))
    (first | exact ⟨HXv07.out.c0, HXv07.out.c1, HXv07.out.c2, HR07.out.c0, HR07.out.c1, HR07.out.c2⟩ | exact ⟨HXv08.out.c0, HXv08.out.c1, HXv08.out.c2, HR08.out.c0, HR08.out.c1, HR08.out.c2⟩ | exact ⟨HXv09.out.c0, HXv09.out.c1, HXv09.out.c2, HR09.out.c0, HR09.out.c1, HR09.out.c2⟩)
    (first
      | (go_at_call 18; refine (toRat_any n0 A0 B0 _ ca0 _ cb0 x0 y0 _ (by exact ((HXk0.out.below HB7.out).mono fun _ h _ => Nat.lt_of_lt_of_le h (HB7.out).size)) (by exact ((HYk0.out.below HB7.out).mono fun _ h _ => Nat.lt_of_lt_of_le h (HB7.out).size)) (by omega) (by omega)).mono ?_; rintro e v8 ⟨zA0, zc0, zB0, zd0, rfl, oo, bb⟩; have bb := undrew bb; have sv8 : v7.heap.size ≤ v8.heap.size := bb.size; have HB8 := Lib.hid (below_on HB7.out bb); have HR08 := Lib.hid (HR07.out.on bb); have HX08 := Lib.hid (HX07.out.on bb); have HXv08 := Lib.hid (HXv07.out.on bb); have HZ08 : Hid (RdR v8 (fun _ => True) x0 y0 zA0 zc0 zB0 zd0) := (Lib.hid oo.rdt))
      | (go_at_call 20; refine (eqRat_same n0 xA0 xB0 zA0 zB0 xc0 xd0 zc0 zd0 x0 y0 _ _ _ (by exact HX08.out.rdt) (by exact HZ08.out) (by omega) (by omega)).mono ?_; rintro e v9 ⟨rfl, bb⟩; have sv9 : v8.heap.size ≤ v9.heap.size := bb.size; have HB9 := Lib.hid (below_on HB8.out bb); have HR09 := Lib.hid (HR08.out.on bb); have HX09 := Lib.hid (HX08.out.on bb); have HXv09 := Lib.hid (HXv08.out.on bb)))
  go_wp2
  go_ret
  exact ⟨rfl, HB9.out⟩

set_option maxHeartbeats 800000 in
theorem lawRatText_any (n0 : Bool) (A0 : Option Addr) (la0 ca0 : Nat) (x0 : List Int) (B0 : Option Addr) (lb0 cb0 : Nat) (y0 : List Int) (w : World) (hx0 : Rd w (· < w.heap.size) A0 la0 ca0 x0) (hla0 : la0 ≤ 9223372036854775807) (hy0 : Rd w (· < w.heap.size) B0 lb0 cb0 y0) (hlb0 : lb0 ≤ 9223372036854775807) (hpw : Pow10 w) :
    Calls Tryd.prog 5 #[.agg #[.bool n0, .slice A0 la0 ca0, .slice B0 lb0 cb0]] w fun e w' => e = .returned (.bool true) ∧ Below w.heap.size w w' := by
  by_cases hb0 : 1048576 < la0 + lb0
  · clear hx0 hy0 hpw
    go_enter Tryd.func5, Tryd.ntmps5
    go_wp2_with fail
    refine calls_at (fun V => Below w.heap.size w V) (below1 _ _) ?_
    intro v1 hb1
    refine (szRat_big n0 A0 B0 la0 ca0 lb0 cb0 1048576 v1 (by omega) (by omega) hla0 hlb0 (by omega)).mono ?_
    rintro e v2 ⟨rfl, b2⟩
    have HB2 := Lib.hid (below_on hb1 b2)
    clear hb1 b2
    go_wp2
    go_ret
    exact ⟨rfl, HB2.out⟩
  have hlen : x0.length = la0 ∧ y0.length = lb0 ∧ True := ⟨hx0.len, hy0.len, trivial⟩
  exact lawRatText_core (ratT n0 x0 y0) (ratK n0 x0 y0) n0 A0 la0 ca0 B0 lb0 cb0 x0 y0 w (fun a c b d W h => specRatText_any n0 x0 y0 a b c d _ W h (by omega) (by omega)) (fun a c b d W h k => implRatText_any n0 x0 y0 a b c d _ W h (by omega) (by omega) k) hx0 hy0 (by omega) hpw

theorem own_fnExactRatText : ownKnob Tryd.prog.godebug = none := by kernel_rfl
theorem laidOut_fnExactRatText : laidOutB Tryd.prog = true := by kernel_rfl
theorem laidMet_fnExactRatText (os : Os) : laidMet Tryd.prog Rows.fnExactRatTextRow.laid ((tabWorld os).forCall (fun _ _ => 0) ⟨#[], #[.agg #[.bool false, .slice none 0 0, .slice none 0 0]], []⟩).memory :=
  laidMet_of_run' 8 (by kernel_rfl) (by kernel_rfl)
set_option maxRecDepth 100000 in
set_option linter.unusedVariables false in
theorem contract_fnExactRatText (H : Type) (enc : TypeId × Value → H) (W : World) (base : Nat) (args : Array Value) (ds gs : List (DataW H)) (before : List MemPlace)
    (hval0 : ∀ (j : Nat) t v, Tryd.f5.params[j]? = some t → args[j]? = some v → Value.okWide Tryd.prog W .any base t v)
    (hW : DataW.Whole enc Tryd.prog Tryd.f5.params.toList Rows.fnExactRatTextSpec.vars false W args.toList ds gs before) (hL : laidMetH Tryd.prog Rows.fnExactRatTextRow.laid W) :
    Calls Tryd.prog 5 args W fun e W' => ∃ v, e = .returned v ∧ Rows.fnExactRatTextSpec.post enc Tryd.prog Tryd.f5 false true false false W args v W' := by
  have hval := hval0
  have hW' := hW
  obtain ⟨p, q, hA0, hV0, rfl, hfz, hnd⟩ := hW
  have hA : DataW.TrodAll enc Tryd.prog W 0 (fun _ => true) true Tryd.f5.params.toList args.toList ds p := hA0
  rw [Tryd.params5] at hA hval
  have hpow : Pow10 W := pow10_of_laid (W := W) hL
  obtain ⟨rfl, rfl⟩ := trodVars_none hV0
  obtain ⟨v0, vs0, d0, ds0, p0, q0, hargs, rfl, rfl, h0, r0⟩ := trodAll_cons hA
  obtain ⟨rfl, rfl, rfl⟩ := trodAll_nil r0
  obtain rfl : args = #[v0] := by cases args; simp_all
  have k0 := h0
  have lt0 : ∀ x ∈ p0, x.block < W.heap.size := by obtain ⟨m, hm⟩ := k0; exact DataW.trod_lt m _ _ _ hm
  obtain ⟨ca0, cb0, cc0, ya0, yb0, yc0, mf0, rfl, ed0, ep0, ta0, tb0, tc0⟩ := Joins.open_agg3 Tryd.underlying34 (by kernel_rfl) (by kernel_rfl) (hval 0 34 v0 rfl rfl) h0
  obtain ⟨bv0, eb0, _⟩ := DataW.trod_bool Tryd.underlying4 ta0
  simp at eb0
  subst eb0
  obtain ⟨a0x0, len0x0, cap0x0, z0x0, ec0x0, w0x0⟩ : ∃ a l c zs, cb0 = .slice a l c ∧ IsRow .i64 W a l c zs := by
    rcases open_ints Tryd.underlying22 Tryd.underlying3 (by kernel_rfl) tb0 with ⟨hcs, _⟩ | ⟨x, l, c, zs, hcs, _, hl, hm, hz, _, hcell, hwz⟩
    · simp at hcs
      exact ⟨none, 0, 0, [], hcs, .inl ⟨rfl, rfl, rfl, rfl⟩⟩
    · simp at hcs
      exact ⟨_, l, c, zs, hcs, .inr ⟨_, rfl, hl, hm, by simpa using hz, hcell, hwz⟩⟩
  subst ec0x0
  obtain ⟨a0x1, len0x1, cap0x1, z0x1, ec0x1, w0x1⟩ : ∃ a l c zs, cc0 = .slice a l c ∧ IsRow .i64 W a l c zs := by
    rcases open_ints Tryd.underlying22 Tryd.underlying3 (by kernel_rfl) tc0 with ⟨hcs, _⟩ | ⟨x, l, c, zs, hcs, _, hl, hm, hz, _, hcell, hwz⟩
    · simp at hcs
      exact ⟨none, 0, 0, [], hcs, .inl ⟨rfl, rfl, rfl, rfl⟩⟩
    · simp at hcs
      exact ⟨_, l, c, zs, hcs, .inr ⟨_, rfl, hl, hm, by simpa using hz, hcell, hwz⟩⟩
  subst ec0x1
  clear hA0 hval0
  refine (lawRatText_any bv0 a0x0 len0x0 cap0x0 _ a0x1 len0x1 cap0x1 _ W w0x0.rd w0x0.le w0x1.rd w0x1.le hpow).mono fun e W' ⟨he, bel⟩ => ?_
  subst he
  exact ⟨_, rfl, _, _, _, [], _, [], hW', trodAll_mk1 (shut_bool Tryd.underlying4 _), (trodAll_cons_mk (Below.trod laidOut_fnExactRatText (by kernel_rfl) (of_decide_eq_true (by kernel_rfl)) k0 bel lt0) trodAll_mk0), rfl, bel.frame _, fun h => by cases h⟩

set_option maxRecDepth 100000 in
theorem lifted_fnExactRatText (os : Os) (started : os.Started) (H : Type) (enc : TypeId × Value → H) (F : Stop.Interp) :
    ReturnsInHanded {} Tryd.checked os 5 .any ((OpenSpec.ofChange Rows.fnExactRatTextSpec).preRow enc Tryd.prog Tryd.f5 Rows.fnExactRatTextRow.domain false Rows.fnExactRatTextRow.laid) (((OpenSpec.ofChange Rows.fnExactRatTextSpec).at F).post enc Tryd.prog Tryd.f5 false true false false) := by
  have hsome : (DataW.whole enc Tryd.prog ((tabWorld os).forCall (fun _ _ => 0) ⟨#[], #[.agg #[.bool false, .slice none 0 0, .slice none 0 0]], []⟩).memory Tryd.f5.params.toList Rows.fnExactRatTextSpec.vars false (#[.agg #[.bool false, .slice none 0 0, .slice none 0 0]] : Array Value).toList 8).isSome = true := by kernel_rfl
  obtain ⟨x, hx⟩ := Option.isSome_iff_exists.1 hsome
  refine returnsInHanded_of_row (C := Tryd.checked) (s := OpenSpec.ofChange Rows.fnExactRatTextSpec) own_fnExactRatText started (by kernel_rfl) Tryd.func5
    (witness_row_at (enc := enc) (C := Tryd.checked) false (tabWorld os) #[.agg #[.bool false, .slice none 0 0, .slice none 0 0]] rfl (by kernel_rfl) (by kernel_rfl) (by kernel_rfl)
      (OpenSpec.preRow_of_cond 8 hx (by kernel_rfl) (fun k hk => by cases hk) (by kernel_rfl) (laidMet_fnExactRatText os))) ?_
  intro W base args ds gs before hval hW _ _ _ hL _ _
  exact contract_fnExactRatText H enc W base args ds gs before hval hW hL

theorem said_fnExactRatText : Rows.FnExactRatTextSaid :=
  OpenClaim.holds_of_cond 5 Tryd.f5 rfl rfl rfl rfl rfl rfl rfl ⟨rfl, rfl, rfl, rfl, rfl⟩ rfl rfl rfl rfl rfl (by kernel_rfl) Tryd.func5 (by kernel_rfl)
    (of_decide_eq_true (by kernel_rfl)) (by unfold Func.isWrapper; first | (rw [if_pos (by decide +kernel)]; kernel_rfl) | (rw [if_neg (by decide +kernel)]; exact ⟨rfl, rfl⟩))
    (fun os started H enc _ F => by rw [OpenClaim.pre_eq_preRow]; exact lifted_fnExactRatText os started H enc F)

theorem plain_fnExactRatText (f : FuncId) (fn : Func) (hf : Tryd.pinned.checked.prog.funcNamed "loop.example/g00615/laws.FnExactRatText" = some f) (hfn : Tryd.pinned.checked.prog.funcs[f]? = some fn) :
    false = Tryd.pinned.checked.prog.looks [] ∧ ∀ (j : Nat) t, fn.params[j]? = some t → Tryd.pinned.checked.prog.wantsStandIn t = false := by
  obtain rfl : f = 5 := Option.some.inj ((show Tryd.prog.funcNamed "loop.example/g00615/laws.FnExactRatText" = some 5 by kernel_rfl).symm.trans hf) |>.symm
  obtain rfl : fn = Tryd.f5 := (Option.some.inj (Tryd.func5.symm.trans hfn)).symm
  refine ⟨by kernel_rfl, fun j t ht => ?_⟩
  rw [Tryd.params5] at ht
  obtain rfl : t = 34 := by simpa using Array.mem_of_getElem? ht
  exact (show Tryd.prog.wantsStandIn 34 = false by kernel_rfl)

theorem fnExactRatText_card : Rows.FnExactRatTextCardSaid :=
  Claim7.holds_tied_plain_at .later [] _ _ _ _ said_fnExactRatText (fun _ h => by cases h) (by kernel_rfl) (fun _ h => by cases h) fnExactRatText_row_tie rfl ⟨rfl, rfl⟩ (by kernel_rfl) rfl plain_fnExactRatText (by kernel_rfl)

end Go.Proofs.YtliefhkllpmlmabDoor
