/-
  The law FnMul. No condition but the length of the codes.
-/
import Derived.Test.YtgeijojkfojfbabBytes
import Derived.ProofKit
import Derived.OpenShut
import Derived.ShutString
import Derived.ChangeOld
namespace Go.Proofs.Ytgeijojkfojfbab
open Go Go.RowKit Nt
open Go.ChangeShapes Go.WideShapes Go.ChangeAt
open Go.ChangeMaps (open_string shut_string)

theorem mul_facts (a b c : Nat) (ha : a < 10000000000000000) (hb : b < 10000000000000000) (hc : c < 10000000000000000) : b + c < Top ∧ a * (b + c) < Top ∧ a * b < Top ∧ c * a < Top ∧ a * b + c * a = a * (b + c) := by
  have h (x y : Nat) (hx : x ≤ 20000000000000000) (hy : y ≤ 20000000000000000) : x * y < Top := Nat.lt_of_le_of_lt (Nat.mul_le_mul hx hy) (by unfold Top; decide)
  refine ⟨small_top 5 (by decide) (Nat.lt_of_lt_of_le (Nat.add_lt_add hb hc) (by decide)), h _ _ (by omega) (by omega), h _ _ (by omega) (by omega), h _ _ (by omega) (by omega), ?_⟩
  rw [Nat.mul_add, Nat.mul_comm c a]

set_option maxHeartbeats 25600000 in
theorem lawMul_any (pA : Option Addr) (pn pc : Nat) (qA : Option Addr) (qn qc : Nat) (w : World) (hp : RdB w (· < w.heap.size) pA pn) (ple : pn ≤ 9223372036854775807) (hq : RdB w (· < w.heap.size) qA qn) (qle : qn ≤ 9223372036854775807) (qnil : qA = none → qn = 0 ∧ qc = 0) :
    Calls Try.prog 4 #[.slice pA pn pc, .slice qA qn qc] w fun e w' => e = .returned (.bool true) ∧ Below w.heap.size w w' := by
  have Rp := Lib.hid hp
  clear hp
  have Rq := Lib.hid hq
  clear hq
  by_cases bigp : 1048576 < pn
  · have bigp' : (1048576 : Int) < pn := by omega
    go_enter Try.func4, Try.ntmps4
    go_wp2
    go_ret
    exact ⟨rfl, Below.refl _ _⟩
  have smp : (pn : Int) ≤ 1048576 := by omega
  by_cases bigq : 1048576 < qn
  · have bigq' : (1048576 : Int) < qn := by omega
    go_enter Try.func4, Try.ntmps4
    go_wp2
    go_ret
    exact ⟨rfl, Below.refl _ _⟩
  have smq : (qn : Int) ≤ 1048576 := by omega
  go_enter Try.func4, Try.ntmps4
  go_wp2_with fail
  refine (drawN pc pn Rp.out (by omega)).mono ?_
  rintro e w1 ⟨a, ha, Aa, ca, rfl, na, b⟩
  have B1 := Lib.hid b
  have Na := Lib.hid na
  clear na
  clear b
  have ta : a < Top := small_top 4 (by decide) ha
  have sa : a < 10000000000000000 := ha
  clear ha
  go_wp2_with fail
  refine (drawN qc qn (Rq.out.below B1.out |>.mono fun _ _ h => h) (by omega)).mono ?_
  rintro e w2 ⟨b, hb, Ab, cb, rfl, nb, b⟩
  have B2 := Lib.hid (B1.out.trans (b.mono B1.out.size))
  replace Na := Lib.hid (Na.out.on b)
  have Nb := Lib.hid nb
  clear nb
  clear b
  have tb : b < Top := small_top 4 (by decide) hb
  have sb : b < 10000000000000000 := hb
  clear hb
  have RQ := Lib.hid (Rq.out.below (B2.out.trans (((Below.refl w2.heap.size w2).alloc (Nat.le_refl _) (.cells #[.int .u8 7] 5)).mono B2.out.size)))
  have O7 := Lib.hid (World.ownsRow_lit (e := 5) (size := 1) w2 #[.int .u8 7] 1 (Nat.le_refl _) (by decide) rfl)
  go_wp2_with (at_builtin; refine wpList_append_bytes _ rfl _ _ 22 rfl w2.heap.size 5 Try.underlying22 infoByte (some ⟨w2.heap.size, 0, none⟩) 1 1 [7] rfl O7.out (by simp) (· < w.heap.size) qA qn qc rfl qnil RQ.out (by omega) (by simp) ?_; intro V' c' w3 hr hg; have RV := Lib.hid (hr.mono (Q := (· < w3.heap.size)) fun _ _ h => h); have hg2 := Lib.hid hg; clear hr hg)
  have b : Below w2.heap.size w2 w3 := ((Below.refl w2.heap.size w2).alloc (Nat.le_refl _) (.cells #[.int .u8 7] 5)).trans (grown_below (g := w2.heap.size) hg2.out (by simp) (Nat.le_refl _))
  have B3 := Lib.hid (B2.out.trans (b.mono B2.out.size))
  replace Na := Lib.hid (Na.out.on b)
  replace Nb := Lib.hid (Nb.out.on b)
  clear b hg2
  refine (drawN c' (1 + qn) RV.out (by omega)).mono ?_
  rintro e w4 ⟨d, hd, Ad, cd, rfl, nd, b⟩
  have B4 := Lib.hid (B3.out.trans (b.mono B3.out.size))
  replace Na := Lib.hid (Na.out.on b)
  replace Nb := Lib.hid (Nb.out.on b)
  have Nd := Lib.hid nd
  clear nd
  clear b
  have td : d < Top := small_top 4 (by decide) hd
  have sd : d < 10000000000000000 := hd
  clear hd
  obtain ⟨ts, tx, tp, tq, f5⟩ := mul_facts a b d sa sb sd
  have F5 := Lib.hid f5
  clear f5
  go_wp2_with fail
  refine (addN Nb.out Nd.out tb td ts).mono ?_
  rintro e w5 ⟨As, cs, rfl, ns, b⟩
  have B5 := Lib.hid (B4.out.trans (b.mono B4.out.size))
  replace Na := Lib.hid (Na.out.on b)
  replace Nb := Lib.hid (Nb.out.on b)
  replace Nd := Lib.hid (Nd.out.on b)
  have Ns := Lib.hid ns
  clear ns
  clear b
  go_wp2_with fail
  refine (mulN Na.out Ns.out ta ts tx).mono ?_
  rintro e w6 ⟨Ax, cx, rfl, nx, b⟩
  have B6 := Lib.hid (B5.out.trans (b.mono B5.out.size))
  replace Na := Lib.hid (Na.out.on b)
  replace Nb := Lib.hid (Nb.out.on b)
  replace Nd := Lib.hid (Nd.out.on b)
  replace Ns := Lib.hid (Ns.out.on b)
  have Nx := Lib.hid nx
  clear nx
  clear b
  go_wp2_with fail
  refine (mulN Na.out Nb.out ta tb tp).mono ?_
  rintro e w7 ⟨Ap, cp, rfl, np, b⟩
  have B7 := Lib.hid (B6.out.trans (b.mono B6.out.size))
  replace Na := Lib.hid (Na.out.on b)
  replace Nb := Lib.hid (Nb.out.on b)
  replace Nd := Lib.hid (Nd.out.on b)
  replace Ns := Lib.hid (Ns.out.on b)
  replace Nx := Lib.hid (Nx.out.on b)
  have Np := Lib.hid np
  clear np
  clear b
  go_wp2_with fail
  refine (mulS Na.out Nb.out ta tb tp).mono ?_
  rintro e w8 ⟨Av, cv, rfl, nv, b⟩
  have B8 := Lib.hid (B7.out.trans (b.mono B7.out.size))
  replace Na := Lib.hid (Na.out.on b)
  replace Nb := Lib.hid (Nb.out.on b)
  replace Nd := Lib.hid (Nd.out.on b)
  replace Ns := Lib.hid (Ns.out.on b)
  replace Nx := Lib.hid (Nx.out.on b)
  replace Np := Lib.hid (Np.out.on b)
  have Nv := Lib.hid nv
  clear nv
  clear b
  go_wp2_with fail
  refine (mulN Nd.out Na.out td ta tq).mono ?_
  rintro e w9 ⟨Aq, cq, rfl, nq, b⟩
  have B9 := Lib.hid (B8.out.trans (b.mono B8.out.size))
  replace Na := Lib.hid (Na.out.on b)
  replace Nb := Lib.hid (Nb.out.on b)
  replace Nd := Lib.hid (Nd.out.on b)
  replace Ns := Lib.hid (Ns.out.on b)
  replace Nx := Lib.hid (Nx.out.on b)
  replace Np := Lib.hid (Np.out.on b)
  replace Nv := Lib.hid (Nv.out.on b)
  have Nq := Lib.hid nq
  clear nq
  clear b
  go_wp2_with fail
  have hk := addN Np.out Nq.out tp tq (by rw [F5.out]; exact tx)
  rw [F5.out] at hk
  refine hk.mono ?_
  clear hk
  rintro e w10 ⟨Ay, cy, rfl, ny, b⟩
  have B10 := Lib.hid (B9.out.trans (b.mono B9.out.size))
  replace Na := Lib.hid (Na.out.on b)
  replace Nb := Lib.hid (Nb.out.on b)
  replace Nd := Lib.hid (Nd.out.on b)
  replace Ns := Lib.hid (Ns.out.on b)
  replace Nx := Lib.hid (Nx.out.on b)
  replace Np := Lib.hid (Np.out.on b)
  replace Nv := Lib.hid (Nv.out.on b)
  replace Nq := Lib.hid (Nq.out.on b)
  have Ny := Lib.hid ny
  clear ny
  clear b
  go_wp2_with fail
  refine (sameN Np.out Nv.out tp).mono ?_
  rintro e w11 ⟨rfl, b⟩
  have B11 := Lib.hid (B10.out.trans (b.below _))
  replace Na := Lib.hid (Na.out.drawn b)
  replace Nb := Lib.hid (Nb.out.drawn b)
  replace Nd := Lib.hid (Nd.out.drawn b)
  replace Ns := Lib.hid (Ns.out.drawn b)
  replace Nx := Lib.hid (Nx.out.drawn b)
  replace Np := Lib.hid (Np.out.drawn b)
  replace Nv := Lib.hid (Nv.out.drawn b)
  replace Nq := Lib.hid (Nq.out.drawn b)
  replace Ny := Lib.hid (Ny.out.drawn b)
  clear b
  go_wp2_with fail
  refine (sameN Nx.out Ny.out tx).mono ?_
  rintro e w12 ⟨rfl, b⟩
  have B12 := Lib.hid (B11.out.trans (b.below _))
  replace Na := Lib.hid (Na.out.drawn b)
  replace Nb := Lib.hid (Nb.out.drawn b)
  replace Nd := Lib.hid (Nd.out.drawn b)
  replace Ns := Lib.hid (Ns.out.drawn b)
  replace Nx := Lib.hid (Nx.out.drawn b)
  replace Np := Lib.hid (Np.out.drawn b)
  replace Nv := Lib.hid (Nv.out.drawn b)
  replace Nq := Lib.hid (Nq.out.drawn b)
  replace Ny := Lib.hid (Ny.out.drawn b)
  clear b
  go_wp2_with fail
  refine (okN Nx.out tx).mono ?_
  rintro e wz ⟨rfl, rfl⟩
  go_wp2
  go_ret
  exact ⟨rfl, B12.out⟩


theorem own_fnMul : ownKnob Try.prog.godebug = none := by kernel_rfl
theorem laidOut_fnMul : laidOutB Try.prog = true := by kernel_rfl
set_option maxRecDepth 100000 in
set_option linter.unusedVariables false in
theorem fnMul_lifted (os : Os) (started : os.Started) (H : Type) (enc : TypeId × Value → H) :
    ReturnsInHanded {} Try.checked os 4 .any (Rows.fnMulSpec.pre6 enc Try.prog Try.f4 Rows.fnMulRow.domain false) (Rows.fnMulSpec.post enc Try.prog Try.f4 false true false false) := by
  refine returnsInHanded_of_change (C := Try.checked) own_fnMul started (by kernel_rfl) Try.func4
    (ChangeSpec.witness6 (enc := enc) (C := Try.checked) false ⟨#[], #[.slice none 0 0, .slice none 0 0], []⟩ 8 (by kernel_rfl) (by kernel_rfl) (by kernel_rfl) (by kernel_rfl)) ?_
  intro W base args ds gs before hval0 hW hcnd _
  have hval : ∀ (j : Nat) t v, Try.f4.params[j]? = some t → args[j]? = some v → Value.okWide Try.prog W .any base t v := hval0
  have hW' := hW
  obtain ⟨p, q, hA0, hV, rfl, hfz, hnd⟩ := hW
  have hA : DataW.TrodAll enc Try.prog W 0 (fun _ => true) true Try.f4.params.toList args.toList ds p := hA0
  rw [Try.params4] at hA hval
  obtain ⟨v0, vs0, d0, ds0, p0, q0, hargs, rfl, rfl, h0, r0⟩ := trodAll_cons hA
  obtain ⟨v1, vs1, d1, ds1, p1, q1, rfl, rfl, rfl, h1, r1⟩ := trodAll_cons r0
  obtain ⟨rfl, rfl, rfl⟩ := trodAll_nil r1
  obtain rfl : args = #[v0, v1] := by cases args; simp_all
  obtain ⟨rfl, rfl⟩ := trodVars_none hV
  obtain ⟨a0, len0, cap0, rfl⟩ := okWide_slice Try.underlying22 (hval 0 22 v0 rfl rfl)
  have k0 := h0
  have lt0 : ∀ x ∈ p0, x.block < W.heap.size := by obtain ⟨m, hm⟩ := k0; exact DataW.trod_lt m _ _ _ hm
  obtain ⟨z0, w0⟩ : ∃ zs, IsRow .u8 W a0 len0 cap0 zs := by
    obtain ⟨fuel, hf⟩ := h0
    rcases open_ints Try.underlying22 Try.underlying5 (by kernel_rfl) hf with ⟨hcs, _⟩ | ⟨x, l, c, zs, hcs, _, hl, hm, hz, _, hcell, hwz⟩
    · simp [Value.cells] at hcs
      obtain ⟨rfl, rfl, rfl⟩ := hcs
      exact ⟨[], .inl ⟨rfl, rfl, rfl, rfl⟩⟩
    · simp [Value.cells] at hcs
      obtain ⟨rfl, rfl, rfl⟩ := hcs
      exact ⟨zs, .inr ⟨_, rfl, hl, hm, by simpa using hz, hcell, hwz⟩⟩
  obtain ⟨a1, len1, cap1, rfl⟩ := okWide_slice Try.underlying22 (hval 1 22 v1 rfl rfl)
  have k1 := h1
  have lt1 : ∀ x ∈ p1, x.block < W.heap.size := by obtain ⟨m, hm⟩ := k1; exact DataW.trod_lt m _ _ _ hm
  obtain ⟨z1, w1⟩ : ∃ zs, IsRow .u8 W a1 len1 cap1 zs := by
    obtain ⟨fuel, hf⟩ := h1
    rcases open_ints Try.underlying22 Try.underlying5 (by kernel_rfl) hf with ⟨hcs, _⟩ | ⟨x, l, c, zs, hcs, _, hl, hm, hz, _, hcell, hwz⟩
    · simp [Value.cells] at hcs
      obtain ⟨rfl, rfl, rfl⟩ := hcs
      exact ⟨[], .inl ⟨rfl, rfl, rfl, rfl⟩⟩
    · simp [Value.cells] at hcs
      obtain ⟨rfl, rfl, rfl⟩ := hcs
      exact ⟨zs, .inr ⟨_, rfl, hl, hm, by simpa using hz, hcell, hwz⟩⟩
  clear hA0 hval0
  refine (lawMul_any a0 len0 cap0 a1 len1 cap1 W w0.rdb w0.le w1.rdb w1.le w1.none_).mono fun e W' ⟨he, bel⟩ => ?_
  subst he
  exact ⟨_, rfl, _, _, _, [], _, [], hW', trodAll_mk1 (shut_bool Try.underlying4 _), (trodAll_cons_mk (Below.trod laidOut_fnMul (by kernel_rfl) (of_decide_eq_true (by kernel_rfl)) k0 bel lt0) (trodAll_cons_mk (Below.trod laidOut_fnMul (by kernel_rfl) (of_decide_eq_true (by kernel_rfl)) k1 bel lt1) trodAll_mk0)), rfl, bel.frame _, fun h => by cases h⟩

theorem fnMul_over : Rows.fnMulRow.holds Try.pinned (OpenSpec.ofChange Rows.fnMulSpec) :=
  OpenClaim.holds_of_wide 4 Try.f4 rfl rfl rfl rfl rfl rfl rfl ⟨rfl, rfl, rfl, rfl, rfl⟩ rfl rfl rfl rfl rfl (by kernel_rfl) Try.func4 (by kernel_rfl)
    (of_decide_eq_true (by kernel_rfl)) (by unfold Func.isWrapper; first | (rw [if_pos (by decide +kernel)]; kernel_rfl) | (rw [if_neg (by decide +kernel)]; exact ⟨rfl, rfl⟩))
    (fun os started H enc _ => fnMul_lifted os started H enc)

theorem fnMul_holds : Rows.FnMulSaid := fnMul_over

end Go.Proofs.Ytgeijojkfojfbab
