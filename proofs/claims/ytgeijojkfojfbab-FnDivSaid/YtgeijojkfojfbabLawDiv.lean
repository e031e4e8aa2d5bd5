/-
  The law FnDiv. No condition but the length of the codes.
-/
import Derived.Test.YtgeijojkfojfbabNatOps
import Derived.ProofKit
import Derived.OpenShut
import Derived.ShutString
import Derived.ChangeOld
namespace Go.Proofs.Ytgeijojkfojfbab
open Go Go.RowKit Nt
open Go.ChangeShapes Go.WideShapes Go.ChangeAt
open Go.ChangeMaps (open_string shut_string)

theorem div_facts (a b : Nat) (ha : a < 10000000000000000) (hb : 0 < b) (hb2 : b < 10000000000000000) : a / b < Top ∧ a % b < Top ∧ a / b * b < Top ∧ a / b * b + a % b = a ∧ cmpI (a % b) b = -1 := by
  have h1 := Nat.div_le_self a b
  have h2 := Nat.mod_lt a hb
  have h3 := Nat.div_add_mod' a b
  refine ⟨small_top 4 (by decide) (show a / b < 10000000000000000 from by omega), small_top 4 (by decide) (show a % b < 10000000000000000 from by omega), small_top 4 (by decide) (show a / b * b < 10000000000000000 from by omega), h3, cmpI_lt h2⟩

set_option maxHeartbeats 25600000 in
theorem lawDiv_any (pA : Option Addr) (pn pc : Nat) (qA : Option Addr) (qn qc : Nat) (w : World) (hp : RdB w (· < w.heap.size) pA pn) (ple : pn ≤ 9223372036854775807) (hq : RdB w (· < w.heap.size) qA qn) (qle : qn ≤ 9223372036854775807) :
    Calls Try.prog 5 #[.slice pA pn pc, .slice qA qn qc] w fun e w' => e = .returned (.bool true) ∧ Below w.heap.size w w' := by
  have Rp := Lib.hid hp
  clear hp
  have Rq := Lib.hid hq
  clear hq
  by_cases bigp : 1048576 < pn
  · have bigp' : (1048576 : Int) < pn := by omega
    go_enter Try.func5, Try.ntmps5
    go_wp2
    go_ret
    exact ⟨rfl, Below.refl _ _⟩
  have smp : (pn : Int) ≤ 1048576 := by omega
  by_cases bigq : 1048576 < qn
  · have bigq' : (1048576 : Int) < qn := by omega
    go_enter Try.func5, Try.ntmps5
    go_wp2
    go_ret
    exact ⟨rfl, Below.refl _ _⟩
  have smq : (qn : Int) ≤ 1048576 := by omega
  go_enter Try.func5, Try.ntmps5
  go_wp2_with fail
  refine (drawN pc pn Rp.out (by omega)).mono ?_
  rintro e w1 ⟨a, ha, Aa, ca, rfl, na, b⟩
  have B1 := Lib.hid b
  have Na := Lib.hid na
  clear na
  clear b
  have ta : a < Top := small_top 4 (by decide) ha
  have sa : a < 10000000000000000 := ha
  clear ha
  go_wp2_with fail
  refine (drawN qc qn (Rq.out.below B1.out |>.mono fun _ _ h => h) (by omega)).mono ?_
  rintro e w2 ⟨b, hb, Ab, cb, rfl, nb, b⟩
  have B2 := Lib.hid (B1.out.trans (b.mono B1.out.size))
  replace Na := Lib.hid (Na.out.on b)
  have Nb := Lib.hid nb
  clear nb
  clear b
  have tb : b < Top := small_top 4 (by decide) hb
  have sb : b < 10000000000000000 := hb
  clear hb
  rcases Nat.eq_zero_or_pos b with hz | hz
  · subst hz
    have hl0 : (D 0).length = 0 := rfl
    go_wp2_with fail
    refine (divN0 Na.out Nb.out ta).mono ?_
    rintro e w3 ⟨Ax, cx, Ay, cy, rfl, nx, ny, b⟩
    have B3 := Lib.hid (B2.out.trans (b.mono B2.out.size))
    replace Na := Lib.hid (Na.out.on b)
    replace Nb := Lib.hid (Nb.out.on b)
    clear b
    go_wp2
    go_ret
    exact ⟨rfl, B3.out⟩
  have hlp : 0 < (D b).length := len_pos hz
  obtain ⟨tx, ty, f3, f4, f5⟩ := div_facts a b sa hz sb
  have F4 := Lib.hid f4
  have F5 := Lib.hid f5
  clear f4 f5
  go_wp2_with fail
  refine (divN Na.out Nb.out ta tb hz).mono ?_
  rintro e w3 ⟨Ax, cx, Ay, cy, rfl, nx, ny, b⟩
  have B3 := Lib.hid (B2.out.trans (b.mono B2.out.size))
  replace Na := Lib.hid (Na.out.on b)
  replace Nb := Lib.hid (Nb.out.on b)
  have Nx := Lib.hid nx
  clear nx
  have Ny := Lib.hid ny
  clear ny
  clear b
  go_wp2_with fail
  refine (mulN Nx.out Nb.out tx tb f3).mono ?_
  rintro e w4 ⟨Am, cm, rfl, nm, b⟩
  have B4 := Lib.hid (B3.out.trans (b.mono B3.out.size))
  replace Na := Lib.hid (Na.out.on b)
  replace Nb := Lib.hid (Nb.out.on b)
  replace Nx := Lib.hid (Nx.out.on b)
  replace Ny := Lib.hid (Ny.out.on b)
  have Nm := Lib.hid nm
  clear nm
  clear b
  go_wp2_with fail
  have hk := addN Nm.out Ny.out f3 ty (by rw [F4.out]; exact ta)
  rw [F4.out] at hk
  refine hk.mono ?_
  clear hk
  rintro e w5 ⟨Az, cz, rfl, nz, b⟩
  have B5 := Lib.hid (B4.out.trans (b.mono B4.out.size))
  replace Na := Lib.hid (Na.out.on b)
  replace Nb := Lib.hid (Nb.out.on b)
  replace Nx := Lib.hid (Nx.out.on b)
  replace Ny := Lib.hid (Ny.out.on b)
  replace Nm := Lib.hid (Nm.out.on b)
  have Nz := Lib.hid nz
  clear nz
  clear b
  go_wp2_with fail
  have hk := cmpN Ny.out Nb.out ty tb
  rw [F5.out] at hk
  refine hk.mono ?_
  clear hk
  rintro e w6 ⟨rfl, b⟩
  have B6 := Lib.hid (B5.out.trans (b.mono B5.out.size))
  replace Na := Lib.hid (Na.out.on b)
  replace Nb := Lib.hid (Nb.out.on b)
  replace Nx := Lib.hid (Nx.out.on b)
  replace Ny := Lib.hid (Ny.out.on b)
  replace Nm := Lib.hid (Nm.out.on b)
  replace Nz := Lib.hid (Nz.out.on b)
  clear b
  go_wp2_with fail
  refine (divS Na.out Nb.out ta tb hz).mono ?_
  rintro e w7 ⟨Au, cu, Av, cv, rfl, nu, nv, b⟩
  have B7 := Lib.hid (B6.out.trans (b.mono B6.out.size))
  replace Na := Lib.hid (Na.out.on b)
  replace Nb := Lib.hid (Nb.out.on b)
  replace Nx := Lib.hid (Nx.out.on b)
  replace Ny := Lib.hid (Ny.out.on b)
  replace Nm := Lib.hid (Nm.out.on b)
  replace Nz := Lib.hid (Nz.out.on b)
  have Nu := Lib.hid nu
  clear nu
  have Nv := Lib.hid nv
  clear nv
  clear b
  go_wp2_with fail
  refine (sameN Nz.out Na.out ta).mono ?_
  rintro e w8 ⟨rfl, b⟩
  have B8 := Lib.hid (B7.out.trans (b.below _))
  replace Na := Lib.hid (Na.out.drawn b)
  replace Nb := Lib.hid (Nb.out.drawn b)
  replace Nx := Lib.hid (Nx.out.drawn b)
  replace Ny := Lib.hid (Ny.out.drawn b)
  replace Nm := Lib.hid (Nm.out.drawn b)
  replace Nz := Lib.hid (Nz.out.drawn b)
  replace Nu := Lib.hid (Nu.out.drawn b)
  replace Nv := Lib.hid (Nv.out.drawn b)
  clear b
  go_wp2_with fail
  refine (sameN Nx.out Nu.out tx).mono ?_
  rintro e w9 ⟨rfl, b⟩
  have B9 := Lib.hid (B8.out.trans (b.below _))
  replace Na := Lib.hid (Na.out.drawn b)
  replace Nb := Lib.hid (Nb.out.drawn b)
  replace Nx := Lib.hid (Nx.out.drawn b)
  replace Ny := Lib.hid (Ny.out.drawn b)
  replace Nm := Lib.hid (Nm.out.drawn b)
  replace Nz := Lib.hid (Nz.out.drawn b)
  replace Nu := Lib.hid (Nu.out.drawn b)
  replace Nv := Lib.hid (Nv.out.drawn b)
  clear b
  go_wp2_with fail
  refine (sameN Ny.out Nv.out ty).mono ?_
  rintro e w10 ⟨rfl, b⟩
  have B10 := Lib.hid (B9.out.trans (b.below _))
  replace Na := Lib.hid (Na.out.drawn b)
  replace Nb := Lib.hid (Nb.out.drawn b)
  replace Nx := Lib.hid (Nx.out.drawn b)
  replace Ny := Lib.hid (Ny.out.drawn b)
  replace Nm := Lib.hid (Nm.out.drawn b)
  replace Nz := Lib.hid (Nz.out.drawn b)
  replace Nu := Lib.hid (Nu.out.drawn b)
  replace Nv := Lib.hid (Nv.out.drawn b)
  clear b
  go_wp2
  go_ret
  exact ⟨rfl, B10.out⟩


theorem own_fnDiv : ownKnob Try.prog.godebug = none := by kernel_rfl
theorem laidOut_fnDiv : laidOutB Try.prog = true := by kernel_rfl
set_option maxRecDepth 100000 in
set_option linter.unusedVariables false in
theorem fnDiv_lifted (os : Os) (started : os.Started) (H : Type) (enc : TypeId × Value → H) :
    ReturnsInHanded {} Try.checked os 5 .any (Rows.fnDivSpec.pre6 enc Try.prog Try.f5 Rows.fnDivRow.domain false) (Rows.fnDivSpec.post enc Try.prog Try.f5 false true false false) := by
  refine returnsInHanded_of_change (C := Try.checked) own_fnDiv started (by kernel_rfl) Try.func5
    (ChangeSpec.witness6 (enc := enc) (C := Try.checked) false ⟨#[], #[.slice none 0 0, .slice none 0 0], []⟩ 8 (by kernel_rfl) (by kernel_rfl) (by kernel_rfl) (by kernel_rfl)) ?_
  intro W base args ds gs before hval0 hW hcnd _
  have hval : ∀ (j : Nat) t v, Try.f5.params[j]? = some t → args[j]? = some v → Value.okWide Try.prog W .any base t v := hval0
  have hW' := hW
  obtain ⟨p, q, hA0, hV, rfl, hfz, hnd⟩ := hW
  have hA : DataW.TrodAll enc Try.prog W 0 (fun _ => true) true Try.f5.params.toList args.toList ds p := hA0
  rw [Try.params5] at hA hval
  obtain ⟨v0, vs0, d0, ds0, p0, q0, hargs, rfl, rfl, h0, r0⟩ := trodAll_cons hA
  obtain ⟨v1, vs1, d1, ds1, p1, q1, rfl, rfl, rfl, h1, r1⟩ := trodAll_cons r0
  obtain ⟨rfl, rfl, rfl⟩ := trodAll_nil r1
  obtain rfl : args = #[v0, v1] := by cases args; simp_all
  obtain ⟨rfl, rfl⟩ := trodVars_none hV
  obtain ⟨a0, len0, cap0, rfl⟩ := okWide_slice Try.underlying22 (hval 0 22 v0 rfl rfl)
  have k0 := h0
  have lt0 : ∀ x ∈ p0, x.block < W.heap.size := by obtain ⟨m, hm⟩ := k0; exact DataW.trod_lt m _ _ _ hm
  obtain ⟨z0, w0⟩ : ∃ zs, IsRow .u8 W a0 len0 cap0 zs := by
    obtain ⟨fuel, hf⟩ := h0
    rcases open_ints Try.underlying22 Try.underlying5 (by kernel_rfl) hf with ⟨hcs, _⟩ | ⟨x, l, c, zs, hcs, _, hl, hm, hz, _, hcell, hwz⟩
    · simp [Value.cells] at hcs
      obtain ⟨rfl, rfl, rfl⟩ := hcs
      exact ⟨[], .inl ⟨rfl, rfl, rfl, rfl⟩⟩
    · simp [Value.cells] at hcs
      obtain ⟨rfl, rfl, rfl⟩ := hcs
      exact ⟨zs, .inr ⟨_, rfl, hl, hm, by simpa using hz, hcell, hwz⟩⟩
  obtain ⟨a1, len1, cap1, rfl⟩ := okWide_slice Try.underlying22 (hval 1 22 v1 rfl rfl)
  have k1 := h1
  have lt1 : ∀ x ∈ p1, x.block < W.heap.size := by obtain ⟨m, hm⟩ := k1; exact DataW.trod_lt m _ _ _ hm
  obtain ⟨z1, w1⟩ : ∃ zs, IsRow .u8 W a1 len1 cap1 zs := by
    obtain ⟨fuel, hf⟩ := h1
    rcases open_ints Try.underlying22 Try.underlying5 (by kernel_rfl) hf with ⟨hcs, _⟩ | ⟨x, l, c, zs, hcs, _, hl, hm, hz, _, hcell, hwz⟩
    · simp [Value.cells] at hcs
      obtain ⟨rfl, rfl, rfl⟩ := hcs
      exact ⟨[], .inl ⟨rfl, rfl, rfl, rfl⟩⟩
    · simp [Value.cells] at hcs
      obtain ⟨rfl, rfl, rfl⟩ := hcs
      exact ⟨zs, .inr ⟨_, rfl, hl, hm, by simpa using hz, hcell, hwz⟩⟩
  clear hA0 hval0
  refine (lawDiv_any a0 len0 cap0 a1 len1 cap1 W w0.rdb w0.le w1.rdb w1.le).mono fun e W' ⟨he, bel⟩ => ?_
  subst he
  exact ⟨_, rfl, _, _, _, [], _, [], hW', trodAll_mk1 (shut_bool Try.underlying4 _), (trodAll_cons_mk (Below.trod laidOut_fnDiv (by kernel_rfl) (of_decide_eq_true (by kernel_rfl)) k0 bel lt0) (trodAll_cons_mk (Below.trod laidOut_fnDiv (by kernel_rfl) (of_decide_eq_true (by kernel_rfl)) k1 bel lt1) trodAll_mk0)), rfl, bel.frame _, fun h => by cases h⟩

theorem fnDiv_over : Rows.fnDivRow.holds Try.pinned (OpenSpec.ofChange Rows.fnDivSpec) :=
  OpenClaim.holds_of_wide 5 Try.f5 rfl rfl rfl rfl rfl rfl rfl ⟨rfl, rfl, rfl, rfl, rfl⟩ rfl rfl rfl rfl rfl (by kernel_rfl) Try.func5 (by kernel_rfl)
    (of_decide_eq_true (by kernel_rfl)) (by unfold Func.isWrapper; first | (rw [if_pos (by decide +kernel)]; kernel_rfl) | (rw [if_neg (by decide +kernel)]; exact ⟨rfl, rfl⟩))
    (fun os started H enc _ => fnDiv_lifted os started H enc)

theorem fnDiv_holds : Rows.FnDivSaid := fnDiv_over

end Go.Proofs.Ytgeijojkfojfbab
