/-
  The law FnGcd. No condition but the length of the codes.
-/
import Derived.Test.YtgeijojkfojfbabNatOps
import Derived.ProofKit
import Derived.OpenShut
import Derived.ShutString
import Derived.ChangeOld
namespace Go.Proofs.Ytgeijojkfojfbab
open Go Go.RowKit Nt
open Go.ChangeShapes Go.WideShapes Go.ChangeAt
open Go.ChangeMaps (open_string shut_string)

theorem gcd_facts (a b : Nat) (ha : a < 10000000000000000) (hb : b < 10000000000000000) : Nat.gcd a b < Top ∧ ((a = 0 ∧ b = 0 ∧ Nat.gcd a b = 0) ∨ ((0 < a ∨ 0 < b) ∧ 0 < Nat.gcd a b ∧ a / Nat.gcd a b < Top ∧ b / Nat.gcd a b < Top ∧ a % Nat.gcd a b = 0 ∧ b % Nat.gcd a b = 0 ∧ Nat.gcd (a / Nat.gcd a b) (b / Nat.gcd a b) = 1)) := by
  have h1 := Nat.div_le_self a (Nat.gcd a b)
  have h2 := Nat.div_le_self b (Nat.gcd a b)
  have h3 := Nat.mod_eq_zero_of_dvd (Nat.gcd_dvd_left a b)
  have h4 := Nat.mod_eq_zero_of_dvd (Nat.gcd_dvd_right a b)
  have t (x : Nat) (hx : x < 10000000000000000) : x < Top := small_top 4 (by decide) hx
  by_cases hz : a = 0 ∧ b = 0
  · obtain ⟨rfl, rfl⟩ := hz
    exact ⟨by decide, .inl ⟨rfl, rfl, rfl⟩⟩
  · have hp : 0 < Nat.gcd a b := by
      rcases Nat.eq_zero_or_pos (Nat.gcd a b) with h | h
      · exact absurd (Nat.gcd_eq_zero_iff.1 h) hz
      · exact h
    refine ⟨t _ ?_, .inr ⟨by omega, hp, t _ (by omega), t _ (by omega), h3, h4, ?_⟩⟩
    · by_cases h0 : a = 0
      · have := Nat.gcd_le_right a (show 0 < b from by omega); omega
      · have := Nat.gcd_le_left b (show 0 < a from by omega); omega
    · rw [Nat.gcd_div (Nat.gcd_dvd_left a b) (Nat.gcd_dvd_right a b), Nat.div_self hp]

set_option maxHeartbeats 25600000 in
theorem lawGcd_any (pA : Option Addr) (pn pc : Nat) (qA : Option Addr) (qn qc : Nat) (w : World) (hp : RdB w (· < w.heap.size) pA pn) (ple : pn ≤ 9223372036854775807) (hq : RdB w (· < w.heap.size) qA qn) (qle : qn ≤ 9223372036854775807) :
    Calls Try.prog 6 #[.slice pA pn pc, .slice qA qn qc] w fun e w' => e = .returned (.bool true) ∧ Below w.heap.size w w' := by
  have Rp := Lib.hid hp
  clear hp
  have Rq := Lib.hid hq
  clear hq
  by_cases bigp : 1048576 < pn
  · have bigp' : (1048576 : Int) < pn := by omega
    go_enter Try.func6, Try.ntmps6
    go_wp2
    go_ret
    exact ⟨rfl, Below.refl _ _⟩
  have smp : (pn : Int) ≤ 1048576 := by omega
  by_cases bigq : 1048576 < qn
  · have bigq' : (1048576 : Int) < qn := by omega
    go_enter Try.func6, Try.ntmps6
    go_wp2
    go_ret
    exact ⟨rfl, Below.refl _ _⟩
  have smq : (qn : Int) ≤ 1048576 := by omega
  go_enter Try.func6, Try.ntmps6
  go_wp2_with fail
  refine (drawN pc pn Rp.out (by omega)).mono ?_
  rintro e w1 ⟨a, ha, Aa, ca, rfl, na, b⟩
  have B1 := Lib.hid b
  have Na := Lib.hid na
  clear na
  clear b
  have ta : a < Top := small_top 4 (by decide) ha
  have sa : a < 10000000000000000 := ha
  clear ha
  go_wp2_with fail
  refine (drawN qc qn (Rq.out.below B1.out |>.mono fun _ _ h => h) (by omega)).mono ?_
  rintro e w2 ⟨b, hb, Ab, cb, rfl, nb, b⟩
  have B2 := Lib.hid (B1.out.trans (b.mono B1.out.size))
  replace Na := Lib.hid (Na.out.on b)
  have Nb := Lib.hid nb
  clear nb
  clear b
  have tb : b < Top := small_top 4 (by decide) hb
  have sb : b < 10000000000000000 := hb
  clear hb
  obtain ⟨tx, hfacts⟩ := gcd_facts a b sa sb
  have HF := Lib.hid hfacts
  clear hfacts
  go_wp2_with fail
  refine (gcdN Na.out Nb.out ta tb ).mono ?_
  rintro e w3 ⟨Ax, cx, rfl, nx, b⟩
  have B3 := Lib.hid (B2.out.trans (b.mono B2.out.size))
  replace Na := Lib.hid (Na.out.on b)
  replace Nb := Lib.hid (Nb.out.on b)
  have Nx := Lib.hid nx
  clear nx
  clear b
  go_wp2_with fail
  refine (gcdS Na.out Nb.out ta tb ).mono ?_
  rintro e w4 ⟨Av, cv, rfl, nv, b⟩
  have B4 := Lib.hid (B3.out.trans (b.mono B3.out.size))
  replace Na := Lib.hid (Na.out.on b)
  replace Nb := Lib.hid (Nb.out.on b)
  replace Nx := Lib.hid (Nx.out.on b)
  have Nv := Lib.hid nv
  clear nv
  clear b
  go_wp2_with fail
  refine (sameN Nx.out Nv.out tx).mono ?_
  rintro e w5 ⟨rfl, b⟩
  have B5 := Lib.hid (B4.out.trans (b.below _))
  replace Na := Lib.hid (Na.out.drawn b)
  replace Nb := Lib.hid (Nb.out.drawn b)
  replace Nx := Lib.hid (Nx.out.drawn b)
  replace Nv := Lib.hid (Nv.out.drawn b)
  clear b
  rcases HF.out with ⟨hz1, hz2, hz3⟩ | ⟨hnz, hp, ti, tn, f1, f2, f3⟩
  · have hl1 : (D a).length = 0 := by rw [hz1]; rfl
    have hl2 : (D b).length = 0 := by rw [hz2]; rfl
    have hl3 : (D (Nat.gcd a b)).length = 0 := by rw [hz3]; rfl
    clear HF hz1 hz2 hz3
    go_wp2
    go_ret
    exact ⟨rfl, B5.out⟩
  have hl : 0 < (D a).length ∨ ((D a).length = 0 ∧ 0 < (D b).length) := by
    rcases Nat.eq_zero_or_pos a with h | h
    · exact .inr ⟨by rw [h]; rfl, len_pos (by omega)⟩
    · exact .inl (len_pos h)
  have F1 := Lib.hid f1
  have F2 := Lib.hid f2
  have F3 := Lib.hid f3
  clear f1 f2 f3 HF hnz
  generalize Nat.gcd a b = gg at *
  have hl0 : (D 0).length = 0 := rfl
  have t1 : 1 < Top := by decide
  rcases hl with hl | ⟨hl, hl'⟩
  · skip
    have hq : (((D a).length : Int) == 0) = false := beq_eq_false_iff_ne.2 (by omega)
    go_wp2_with fail
    have hk := divN Na.out Nx.out ta tx hp
    rw [F1.out] at hk
    refine hk.mono ?_
    clear hk
    rintro e w6 ⟨Ai, ci, Ar, cr, rfl, ni, nr, b⟩
    have B6 := Lib.hid (B5.out.trans (b.mono B5.out.size))
    replace Na := Lib.hid (Na.out.on b)
    replace Nb := Lib.hid (Nb.out.on b)
    replace Nx := Lib.hid (Nx.out.on b)
    replace Nv := Lib.hid (Nv.out.on b)
    have Ni := Lib.hid ni
    clear ni
    have Nr := Lib.hid nr
    clear nr
    clear b
    go_wp2_with fail
    have hk := divN Nb.out Nx.out tb tx hp
    rw [F2.out] at hk
    refine hk.mono ?_
    clear hk
    rintro e w7 ⟨An, cn, As, cs, rfl, nn, ns, b⟩
    have B7 := Lib.hid (B6.out.trans (b.mono B6.out.size))
    replace Na := Lib.hid (Na.out.on b)
    replace Nb := Lib.hid (Nb.out.on b)
    replace Nx := Lib.hid (Nx.out.on b)
    replace Nv := Lib.hid (Nv.out.on b)
    replace Ni := Lib.hid (Ni.out.on b)
    replace Nr := Lib.hid (Nr.out.on b)
    have Nn := Lib.hid nn
    clear nn
    have Ns := Lib.hid ns
    clear ns
    clear b
    go_wp2_with fail
    have hk := gcdN Ni.out Nn.out ti tn
    rw [F3.out] at hk
    refine hk.mono ?_
    clear hk
    rintro e w8 ⟨Ao, co, rfl, no, b⟩
    have B8 := Lib.hid (B7.out.trans (b.mono B7.out.size))
    replace Na := Lib.hid (Na.out.on b)
    replace Nb := Lib.hid (Nb.out.on b)
    replace Nx := Lib.hid (Nx.out.on b)
    replace Nv := Lib.hid (Nv.out.on b)
    replace Ni := Lib.hid (Ni.out.on b)
    replace Nr := Lib.hid (Nr.out.on b)
    replace Nn := Lib.hid (Nn.out.on b)
    replace Ns := Lib.hid (Ns.out.on b)
    have No := Lib.hid no
    clear no
    clear b
    go_wp2_with fail
    have N1 := Lib.hid (Nm.lit w8 3)
    have b : Below w8.heap.size w8 (w8.alloc (.cells #[.int .i64 1] 3)) := (Below.refl _ _).alloc (Nat.le_refl _) _
    have B90 := Lib.hid (B8.out.trans (b.mono B8.out.size))
    replace Na := Lib.hid (Na.out.on b)
    replace Nb := Lib.hid (Nb.out.on b)
    replace Nx := Lib.hid (Nx.out.on b)
    replace Nv := Lib.hid (Nv.out.on b)
    replace Ni := Lib.hid (Ni.out.on b)
    replace Nr := Lib.hid (Nr.out.on b)
    replace Nn := Lib.hid (Nn.out.on b)
    replace Ns := Lib.hid (Ns.out.on b)
    replace No := Lib.hid (No.out.on b)
    clear b
    refine (sameN No.out N1.out t1).mono ?_
    rintro e w9 ⟨rfl, b⟩
    have B9 := Lib.hid (B90.out.trans (b.below _))
    replace Na := Lib.hid (Na.out.drawn b)
    replace Nb := Lib.hid (Nb.out.drawn b)
    replace Nx := Lib.hid (Nx.out.drawn b)
    replace Nv := Lib.hid (Nv.out.drawn b)
    replace Ni := Lib.hid (Ni.out.drawn b)
    replace Nr := Lib.hid (Nr.out.drawn b)
    replace Nn := Lib.hid (Nn.out.drawn b)
    replace Ns := Lib.hid (Ns.out.drawn b)
    replace No := Lib.hid (No.out.drawn b)
    replace N1 := Lib.hid (N1.out.drawn b)
    clear b
    go_wp2
    go_ret
    exact ⟨rfl, B9.out⟩
  · skip
    have hq : (((D b).length : Int) == 0) = false := beq_eq_false_iff_ne.2 (by omega)
    have hq1 : (((D a).length : Int) == 0) = true := by rw [hl]; rfl
    clear hl
    go_wp2_with fail
    have hk := divN Na.out Nx.out ta tx hp
    rw [F1.out] at hk
    refine hk.mono ?_
    clear hk
    rintro e w6 ⟨Ai, ci, Ar, cr, rfl, ni, nr, b⟩
    have B6 := Lib.hid (B5.out.trans (b.mono B5.out.size))
    replace Na := Lib.hid (Na.out.on b)
    replace Nb := Lib.hid (Nb.out.on b)
    replace Nx := Lib.hid (Nx.out.on b)
    replace Nv := Lib.hid (Nv.out.on b)
    have Ni := Lib.hid ni
    clear ni
    have Nr := Lib.hid nr
    clear nr
    clear b
    go_wp2_with fail
    have hk := divN Nb.out Nx.out tb tx hp
    rw [F2.out] at hk
    refine hk.mono ?_
    clear hk
    rintro e w7 ⟨An, cn, As, cs, rfl, nn, ns, b⟩
    have B7 := Lib.hid (B6.out.trans (b.mono B6.out.size))
    replace Na := Lib.hid (Na.out.on b)
    replace Nb := Lib.hid (Nb.out.on b)
    replace Nx := Lib.hid (Nx.out.on b)
    replace Nv := Lib.hid (Nv.out.on b)
    replace Ni := Lib.hid (Ni.out.on b)
    replace Nr := Lib.hid (Nr.out.on b)
    have Nn := Lib.hid nn
    clear nn
    have Ns := Lib.hid ns
    clear ns
    clear b
    go_wp2_with fail
    have hk := gcdN Ni.out Nn.out ti tn
    rw [F3.out] at hk
    refine hk.mono ?_
    clear hk
    rintro e w8 ⟨Ao, co, rfl, no, b⟩
    have B8 := Lib.hid (B7.out.trans (b.mono B7.out.size))
    replace Na := Lib.hid (Na.out.on b)
    replace Nb := Lib.hid (Nb.out.on b)
    replace Nx := Lib.hid (Nx.out.on b)
    replace Nv := Lib.hid (Nv.out.on b)
    replace Ni := Lib.hid (Ni.out.on b)
    replace Nr := Lib.hid (Nr.out.on b)
    replace Nn := Lib.hid (Nn.out.on b)
    replace Ns := Lib.hid (Ns.out.on b)
    have No := Lib.hid no
    clear no
    clear b
    go_wp2_with fail
    have N1 := Lib.hid (Nm.lit w8 3)
    have b : Below w8.heap.size w8 (w8.alloc (.cells #[.int .i64 1] 3)) := (Below.refl _ _).alloc (Nat.le_refl _) _
    have B90 := Lib.hid (B8.out.trans (b.mono B8.out.size))
    replace Na := Lib.hid (Na.out.on b)
    replace Nb := Lib.hid (Nb.out.on b)
    replace Nx := Lib.hid (Nx.out.on b)
    replace Nv := Lib.hid (Nv.out.on b)
    replace Ni := Lib.hid (Ni.out.on b)
    replace Nr := Lib.hid (Nr.out.on b)
    replace Nn := Lib.hid (Nn.out.on b)
    replace Ns := Lib.hid (Ns.out.on b)
    replace No := Lib.hid (No.out.on b)
    clear b
    refine (sameN No.out N1.out t1).mono ?_
    rintro e w9 ⟨rfl, b⟩
    have B9 := Lib.hid (B90.out.trans (b.below _))
    replace Na := Lib.hid (Na.out.drawn b)
    replace Nb := Lib.hid (Nb.out.drawn b)
    replace Nx := Lib.hid (Nx.out.drawn b)
    replace Nv := Lib.hid (Nv.out.drawn b)
    replace Ni := Lib.hid (Ni.out.drawn b)
    replace Nr := Lib.hid (Nr.out.drawn b)
    replace Nn := Lib.hid (Nn.out.drawn b)
    replace Ns := Lib.hid (Ns.out.drawn b)
    replace No := Lib.hid (No.out.drawn b)
    replace N1 := Lib.hid (N1.out.drawn b)
    clear b
    go_wp2
    go_ret
    exact ⟨rfl, B9.out⟩


theorem own_fnGcd : ownKnob Try.prog.godebug = none := by kernel_rfl
theorem laidOut_fnGcd : laidOutB Try.prog = true := by kernel_rfl
set_option maxRecDepth 100000 in
set_option linter.unusedVariables false in
theorem fnGcd_lifted (os : Os) (started : os.Started) (H : Type) (enc : TypeId × Value → H) :
    ReturnsInHanded {} Try.checked os 6 .any (Rows.fnGcdSpec.pre6 enc Try.prog Try.f6 Rows.fnGcdRow.domain false) (Rows.fnGcdSpec.post enc Try.prog Try.f6 false true false false) := by
  refine returnsInHanded_of_change (C := Try.checked) own_fnGcd started (by kernel_rfl) Try.func6
    (ChangeSpec.witness6 (enc := enc) (C := Try.checked) false ⟨#[], #[.slice none 0 0, .slice none 0 0], []⟩ 8 (by kernel_rfl) (by kernel_rfl) (by kernel_rfl) (by kernel_rfl)) ?_
  intro W base args ds gs before hval0 hW hcnd _
  have hval : ∀ (j : Nat) t v, Try.f6.params[j]? = some t → args[j]? = some v → Value.okWide Try.prog W .any base t v := hval0
  have hW' := hW
  obtain ⟨p, q, hA0, hV, rfl, hfz, hnd⟩ := hW
  have hA : DataW.TrodAll enc Try.prog W 0 (fun _ => true) true Try.f6.params.toList args.toList ds p := hA0
  rw [Try.params6] at hA hval
  obtain ⟨v0, vs0, d0, ds0, p0, q0, hargs, rfl, rfl, h0, r0⟩ := trodAll_cons hA
  obtain ⟨v1, vs1, d1, ds1, p1, q1, rfl, rfl, rfl, h1, r1⟩ := trodAll_cons r0
  obtain ⟨rfl, rfl, rfl⟩ := trodAll_nil r1
  obtain rfl : args = #[v0, v1] := by cases args; simp_all
  obtain ⟨rfl, rfl⟩ := trodVars_none hV
  obtain ⟨a0, len0, cap0, rfl⟩ := okWide_slice Try.underlying22 (hval 0 22 v0 rfl rfl)
  have k0 := h0
  have lt0 : ∀ x ∈ p0, x.block < W.heap.size := by obtain ⟨m, hm⟩ := k0; exact DataW.trod_lt m _ _ _ hm
  obtain ⟨z0, w0⟩ : ∃ zs, IsRow .u8 W a0 len0 cap0 zs := by
    obtain ⟨fuel, hf⟩ := h0
    rcases open_ints Try.underlying22 Try.underlying5 (by kernel_rfl) hf with ⟨hcs, _⟩ | ⟨x, l, c, zs, hcs, _, hl, hm, hz, _, hcell, hwz⟩
    · simp [Value.cells] at hcs
      obtain ⟨rfl, rfl, rfl⟩ := hcs
      exact ⟨[], .inl ⟨rfl, rfl, rfl, rfl⟩⟩
    · simp [Value.cells] at hcs
      obtain ⟨rfl, rfl, rfl⟩ := hcs
      exact ⟨zs, .inr ⟨_, rfl, hl, hm, by simpa using hz, hcell, hwz⟩⟩
  obtain ⟨a1, len1, cap1, rfl⟩ := okWide_slice Try.underlying22 (hval 1 22 v1 rfl rfl)
  have k1 := h1
  have lt1 : ∀ x ∈ p1, x.block < W.heap.size := by obtain ⟨m, hm⟩ := k1; exact DataW.trod_lt m _ _ _ hm
  obtain ⟨z1, w1⟩ : ∃ zs, IsRow .u8 W a1 len1 cap1 zs := by
    obtain ⟨fuel, hf⟩ := h1
    rcases open_ints Try.underlying22 Try.underlying5 (by kernel_rfl) hf with ⟨hcs, _⟩ | ⟨x, l, c, zs, hcs, _, hl, hm, hz, _, hcell, hwz⟩
    · simp [Value.cells] at hcs
      obtain ⟨rfl, rfl, rfl⟩ := hcs
      exact ⟨[], .inl ⟨rfl, rfl, rfl, rfl⟩⟩
    · simp [Value.cells] at hcs
      obtain ⟨rfl, rfl, rfl⟩ := hcs
      exact ⟨zs, .inr ⟨_, rfl, hl, hm, by simpa using hz, hcell, hwz⟩⟩
  clear hA0 hval0
  refine (lawGcd_any a0 len0 cap0 a1 len1 cap1 W w0.rdb w0.le w1.rdb w1.le).mono fun e W' ⟨he, bel⟩ => ?_
  subst he
  exact ⟨_, rfl, _, _, _, [], _, [], hW', trodAll_mk1 (shut_bool Try.underlying4 _), (trodAll_cons_mk (Below.trod laidOut_fnGcd (by kernel_rfl) (of_decide_eq_true (by kernel_rfl)) k0 bel lt0) (trodAll_cons_mk (Below.trod laidOut_fnGcd (by kernel_rfl) (of_decide_eq_true (by kernel_rfl)) k1 bel lt1) trodAll_mk0)), rfl, bel.frame _, fun h => by cases h⟩

theorem fnGcd_over : Rows.fnGcdRow.holds Try.pinned (OpenSpec.ofChange Rows.fnGcdSpec) :=
  OpenClaim.holds_of_wide 6 Try.f6 rfl rfl rfl rfl rfl rfl rfl ⟨rfl, rfl, rfl, rfl, rfl⟩ rfl rfl rfl rfl rfl (by kernel_rfl) Try.func6 (by kernel_rfl)
    (of_decide_eq_true (by kernel_rfl)) (by unfold Func.isWrapper; first | (rw [if_pos (by decide +kernel)]; kernel_rfl) | (rw [if_neg (by decide +kernel)]; exact ⟨rfl, rfl⟩))
    (fun os started H enc _ => fnGcd_lifted os started H enc)

theorem fnGcd_holds : Rows.FnGcdSaid := fnGcd_over

end Go.Proofs.Ytgeijojkfojfbab
