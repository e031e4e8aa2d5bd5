/-
  The law FnRoot. No condition but the length of the codes.
-/
import Derived.Test.YtgeijojkfojfbabNatOps
import Derived.ProofKit
import Derived.OpenShut
import Derived.ShutString
import Derived.ChangeOld
namespace Go.Proofs.Ytgeijojkfojfbab
open Go Go.RowKit Nt
open Go.ChangeShapes Go.WideShapes Go.ChangeAt
open Go.ChangeMaps (open_string shut_string)

theorem root_facts (a : Nat) (h : a < 10000000000000000) : rt a < 10000000000000000 ∧ rt a * rt a < 10000000000000000 ∧ (rt a + 1) * (rt a + 1) < Top ∧ cmpI ((rt a + 1) * (rt a + 1)) a = 1 ∧ -1 ≤ cmpI (rt a * rt a) a ∧ cmpI (rt a * rt a) a ≤ 0 := by
  have h1 := rt_le a
  have h2 := rt_gt a
  have h3 : rt a < 10000000000000000 := rt_lt (Nat.lt_of_lt_of_le h (by decide))
  have h4 := cmpI_le h1
  refine ⟨h3, by omega, ?_, ?_, h4⟩
  · exact Nat.lt_of_le_of_lt (Nat.mul_le_mul (show rt a + 1 ≤ 10000000000000000 from h3) (show rt a + 1 ≤ 10000000000000000 from h3)) (by unfold Top; decide)
  · unfold cmpI
    rw [if_neg (by omega), if_neg (by omega)]

set_option maxHeartbeats 25600000 in
theorem lawRoot_any (pA : Option Addr) (pn pc : Nat) (w : World) (hp : RdB w (· < w.heap.size) pA pn) (ple : pn ≤ 9223372036854775807) :
    Calls Try.prog 7 #[.slice pA pn pc] w fun e w' => e = .returned (.bool true) ∧ Below w.heap.size w w' := by
  have Rp := Lib.hid hp
  clear hp
  by_cases bigp : 1048576 < pn
  · have bigp' : (1048576 : Int) < pn := by omega
    go_enter Try.func7, Try.ntmps7
    go_wp2
    go_ret
    exact ⟨rfl, Below.refl _ _⟩
  have smp : (pn : Int) ≤ 1048576 := by omega
  go_enter Try.func7, Try.ntmps7
  go_wp2_with fail
  refine (drawN pc pn Rp.out (by omega)).mono ?_
  rintro e w1 ⟨a, ha, Aa, ca, rfl, na, b⟩
  have B1 := Lib.hid b
  have Na := Lib.hid na
  clear na
  clear b
  have ta : a < Top := small_top 4 (by decide) ha
  have sa : a < 10000000000000000 := ha
  clear ha
  obtain ⟨f1, f2, f3, f4, f5, f6⟩ := root_facts a sa
  have tr : rt a < Top := small_top 4 (by decide) f1
  have ts : rt a * rt a < Top := small_top 4 (by decide) f2
  have tn : rt a + 1 < Top := small_top 5 (by decide) (Nat.lt_of_le_of_lt (show rt a + 1 ≤ 10000000000000000 from f1) (by decide))
  have F4 := Lib.hid f4
  clear f4
  go_wp2_with fail
  refine (rootN Na.out ta ).mono ?_
  rintro e w2 ⟨Ar, cr, rfl, nr, b⟩
  have B2 := Lib.hid (B1.out.trans (b.mono B1.out.size))
  replace Na := Lib.hid (Na.out.on b)
  have Nr := Lib.hid nr
  clear nr
  clear b
  go_wp2_with fail
  refine (rootS Na.out ta ).mono ?_
  rintro e w3 ⟨Av, cv, rfl, nv, b⟩
  have B3 := Lib.hid (B2.out.trans (b.mono B2.out.size))
  replace Na := Lib.hid (Na.out.on b)
  replace Nr := Lib.hid (Nr.out.on b)
  have Nv := Lib.hid nv
  clear nv
  clear b
  go_wp2_with fail
  refine (mulN Nr.out Nr.out tr tr ts).mono ?_
  rintro e w4 ⟨As, cs, rfl, ns, b⟩
  have B4 := Lib.hid (B3.out.trans (b.mono B3.out.size))
  replace Na := Lib.hid (Na.out.on b)
  replace Nr := Lib.hid (Nr.out.on b)
  replace Nv := Lib.hid (Nv.out.on b)
  have Ns := Lib.hid ns
  clear ns
  clear b
  go_wp2_with fail
  refine (cmpN Ns.out Na.out ts ta).mono ?_
  rintro e w5 ⟨rfl, b⟩
  have B5 := Lib.hid (B4.out.trans (b.mono B4.out.size))
  replace Na := Lib.hid (Na.out.on b)
  replace Nr := Lib.hid (Nr.out.on b)
  replace Nv := Lib.hid (Nv.out.on b)
  replace Ns := Lib.hid (Ns.out.on b)
  clear b
  generalize cmpI (rt a * rt a) a = k at *
  have t1 : 1 < Top := by decide
  go_wp2_with fail
  have N1 := Lib.hid (Nm.lit w5 3)
  have b : Below w5.heap.size w5 (w5.alloc (.cells #[.int .i64 1] 3)) := (Below.refl _ _).alloc (Nat.le_refl _) _
  have B50 := Lib.hid (B5.out.trans (b.mono B5.out.size))
  replace Na := Lib.hid (Na.out.on b)
  replace Nr := Lib.hid (Nr.out.on b)
  replace Nv := Lib.hid (Nv.out.on b)
  replace Ns := Lib.hid (Ns.out.on b)
  clear b
  refine (addN Nr.out N1.out tr t1 tn).mono ?_
  rintro e w6 ⟨An, cn, rfl, nn, b⟩
  have B6 := Lib.hid (B50.out.trans (b.mono B50.out.size))
  replace Na := Lib.hid (Na.out.on b)
  replace Nr := Lib.hid (Nr.out.on b)
  replace Nv := Lib.hid (Nv.out.on b)
  replace Ns := Lib.hid (Ns.out.on b)
  have Nn := Lib.hid nn
  clear nn
  clear b
  go_wp2_with fail
  refine (mulN Nn.out Nn.out tn tn f3).mono ?_
  rintro e w7 ⟨At, ct, rfl, nt, b⟩
  have B7 := Lib.hid (B6.out.trans (b.mono B6.out.size))
  replace Na := Lib.hid (Na.out.on b)
  replace Nr := Lib.hid (Nr.out.on b)
  replace Nv := Lib.hid (Nv.out.on b)
  replace Ns := Lib.hid (Ns.out.on b)
  replace Nn := Lib.hid (Nn.out.on b)
  have Nt := Lib.hid nt
  clear nt
  clear b
  have tt := f3
  go_wp2_with fail
  have hk := cmpN Nt.out Na.out tt ta
  rw [F4.out] at hk
  refine hk.mono ?_
  clear hk
  rintro e w8 ⟨rfl, b⟩
  have B8 := Lib.hid (B7.out.trans (b.mono B7.out.size))
  replace Na := Lib.hid (Na.out.on b)
  replace Nr := Lib.hid (Nr.out.on b)
  replace Nv := Lib.hid (Nv.out.on b)
  replace Ns := Lib.hid (Ns.out.on b)
  replace Nn := Lib.hid (Nn.out.on b)
  replace Nt := Lib.hid (Nt.out.on b)
  clear b
  go_wp2_with fail
  refine (sameN Nr.out Nv.out tr).mono ?_
  rintro e w9 ⟨rfl, b⟩
  have B9 := Lib.hid (B8.out.trans (b.below _))
  replace Na := Lib.hid (Na.out.drawn b)
  replace Nr := Lib.hid (Nr.out.drawn b)
  replace Nv := Lib.hid (Nv.out.drawn b)
  replace Ns := Lib.hid (Ns.out.drawn b)
  replace Nn := Lib.hid (Nn.out.drawn b)
  replace Nt := Lib.hid (Nt.out.drawn b)
  clear b
  go_wp2
  go_ret
  exact ⟨rfl, B9.out⟩


theorem own_fnRoot : ownKnob Try.prog.godebug = none := by kernel_rfl
theorem laidOut_fnRoot : laidOutB Try.prog = true := by kernel_rfl
set_option maxRecDepth 100000 in
set_option linter.unusedVariables false in
theorem fnRoot_lifted (os : Os) (started : os.Started) (H : Type) (enc : TypeId × Value → H) :
    ReturnsInHanded {} Try.checked os 7 .any (Rows.fnRootSpec.pre6 enc Try.prog Try.f7 Rows.fnRootRow.domain false) (Rows.fnRootSpec.post enc Try.prog Try.f7 false true false false) := by
  refine returnsInHanded_of_change (C := Try.checked) own_fnRoot started (by kernel_rfl) Try.func7
    (ChangeSpec.witness6 (enc := enc) (C := Try.checked) false ⟨#[], #[.slice none 0 0], []⟩ 8 (by kernel_rfl) (by kernel_rfl) (by kernel_rfl) (by kernel_rfl)) ?_
  intro W base args ds gs before hval0 hW hcnd _
  have hval : ∀ (j : Nat) t v, Try.f7.params[j]? = some t → args[j]? = some v → Value.okWide Try.prog W .any base t v := hval0
  have hW' := hW
  obtain ⟨p, q, hA0, hV, rfl, hfz, hnd⟩ := hW
  have hA : DataW.TrodAll enc Try.prog W 0 (fun _ => true) true Try.f7.params.toList args.toList ds p := hA0
  rw [Try.params7] at hA hval
  obtain ⟨v0, vs0, d0, ds0, p0, q0, hargs, rfl, rfl, h0, r0⟩ := trodAll_cons hA
  obtain ⟨rfl, rfl, rfl⟩ := trodAll_nil r0
  obtain rfl : args = #[v0] := by cases args; simp_all
  obtain ⟨rfl, rfl⟩ := trodVars_none hV
  obtain ⟨a0, len0, cap0, rfl⟩ := okWide_slice Try.underlying22 (hval 0 22 v0 rfl rfl)
  have k0 := h0
  have lt0 : ∀ x ∈ p0, x.block < W.heap.size := by obtain ⟨m, hm⟩ := k0; exact DataW.trod_lt m _ _ _ hm
  obtain ⟨z0, w0⟩ : ∃ zs, IsRow .u8 W a0 len0 cap0 zs := by
    obtain ⟨fuel, hf⟩ := h0
    rcases open_ints Try.underlying22 Try.underlying5 (by kernel_rfl) hf with ⟨hcs, _⟩ | ⟨x, l, c, zs, hcs, _, hl, hm, hz, _, hcell, hwz⟩
    · simp [Value.cells] at hcs
      obtain ⟨rfl, rfl, rfl⟩ := hcs
      exact ⟨[], .inl ⟨rfl, rfl, rfl, rfl⟩⟩
    · simp [Value.cells] at hcs
      obtain ⟨rfl, rfl, rfl⟩ := hcs
      exact ⟨zs, .inr ⟨_, rfl, hl, hm, by simpa using hz, hcell, hwz⟩⟩
  clear hA0 hval0
  refine (lawRoot_any a0 len0 cap0 W w0.rdb w0.le).mono fun e W' ⟨he, bel⟩ => ?_
  subst he
  exact ⟨_, rfl, _, _, _, [], _, [], hW', trodAll_mk1 (shut_bool Try.underlying4 _), (trodAll_cons_mk (Below.trod laidOut_fnRoot (by kernel_rfl) (of_decide_eq_true (by kernel_rfl)) k0 bel lt0) trodAll_mk0), rfl, bel.frame _, fun h => by cases h⟩

theorem fnRoot_over : Rows.fnRootRow.holds Try.pinned (OpenSpec.ofChange Rows.fnRootSpec) :=
  OpenClaim.holds_of_wide 7 Try.f7 rfl rfl rfl rfl rfl rfl rfl ⟨rfl, rfl, rfl, rfl, rfl⟩ rfl rfl rfl rfl rfl (by kernel_rfl) Try.func7 (by kernel_rfl)
    (of_decide_eq_true (by kernel_rfl)) (by unfold Func.isWrapper; first | (rw [if_pos (by decide +kernel)]; kernel_rfl) | (rw [if_neg (by decide +kernel)]; exact ⟨rfl, rfl⟩))
    (fun os started H enc _ => fnRoot_lifted os started H enc)

theorem fnRoot_holds : Rows.FnRootSaid := fnRoot_over

end Go.Proofs.Ytgeijojkfojfbab
