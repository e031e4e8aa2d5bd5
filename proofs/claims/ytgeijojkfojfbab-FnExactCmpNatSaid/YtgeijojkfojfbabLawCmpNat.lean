/-
  The law FnExactCmpNat: for every two lists CmpNat answers as its model, and writes into no argument. No condition.
-/
import Derived.Test.YtgeijojkfojfbabCmpNat
import Derived.ProofKit
import Derived.OpenShut
import Derived.ShutString
import Derived.ChangeOld
namespace Go.Proofs.Ytgeijojkfojfbab
open Go Go.RowKit Nt
open Go.ChangeShapes Go.WideShapes Go.ChangeAt
open Go.ChangeMaps (open_string shut_string)

set_option maxHeartbeats 800000 in
theorem lawCmpNat_any (A : Option Addr) (n c : Nat) (xs : List Int) (B : Option Addr) (m d : Nat) (ys : List Int) (w : World) (hx : Rd w (· < w.heap.size) A n c xs) (hn : n ≤ 9223372036854775807) (hy : Rd w (· < w.heap.size) B m d ys) (hm : m ≤ 9223372036854775807) :
    Calls Try.prog 8 #[.slice A n c, .slice B m d] w fun e w' => e = .returned (.bool true) ∧ Below w.heap.size w w' := by
  by_cases hbig : 1048576 < n
  · go_enter Try.func8, Try.ntmps8
    go_wp2
    go_ret
    exact ⟨rfl, Below.refl _ _⟩
  by_cases hbig2 : 1048576 < m
  · have hbig' : (n : Int) ≤ 1048576 := by omega
    go_enter Try.func8, Try.ntmps8
    go_wp2
    go_ret
    exact ⟨rfl, Below.refl _ _⟩
  have hn' : n ≤ 1048576 := by omega
  have hm' : m ≤ 1048576 := by omega
  have hbig' : (n : Int) ≤ 1048576 := by omega
  have hbig2' : (m : Int) ≤ 1048576 := by omega
  have hxl := hx.len
  have hyl := hy.len
  have HXL := Lib.hid hxl.symm
  have HYL := Lib.hid hyl.symm
  clear hxl hyl hbig hbig2
  go_enter Try.func8, Try.ntmps8
  go_wp2_with fail
  refine (toIntS_any A n c xs _ w hx hn').mono ?_
  rintro e w1 ⟨rfl, a1, b1⟩
  have s1 := b1.size
  have y1 := hy.below b1
  go_wp2_with fail
  refine (toIntS_any B m d ys _ w1 y1 hm').mono ?_
  rintro e w2 ⟨rfl, a2, b2⟩
  have s2 := b2.size
  have B2 := b1.trans (b2.mono s1)
  go_wp2_with fail
  refine (specCmpNat_any _ _ _ _ _ _ xs ys (fun _ => True) (fun _ => True) w2 ((a1.keep (b2.block _ a1.lt)).rd_all _ trivial n n HXL.out (Nat.le_refl _)) (a2.rd_all _ trivial m m HYL.out (Nat.le_refl _)) (by omega) (by omega)).mono ?_
  rintro e w3 ⟨rfl, d3⟩
  have B3 := B2.trans (d3.below _)
  clear a1 a2 b1 b2 s1 s2 y1 B2 d3
  generalize hk : codeL [xs, ys] = k at *
  have HK := Lib.hid hk
  generalize hr : cmpR xs ys = r at *
  have HR := Lib.hid hr
  clear hk hr
  have hx3 := hx.below B3
  have hy3 := hy.below B3
  go_wp2_with fail
  refine (toIntS_any A n c xs _ w3 hx3 hn').mono ?_
  rintro e w4 ⟨rfl, a4, b4⟩
  have s3 := B3.size
  have s4 := b4.size
  have B4 := B3.trans (b4.mono s3)
  have y4 := hy.below B4
  go_wp2_with fail
  refine (toIntS_any B m d ys _ w4 y4 hm').mono ?_
  rintro e w5 ⟨rfl, a5, b5⟩
  have s5 := b5.size
  have B5 := B4.trans (b5.mono (by omega))
  have a4' := a4.keep (b5.block _ a4.lt)
  clear a4 b4 b5 B4 B3 y4 hx3 hy3
  go_wp2_with fail
  refine (implCmpNat_any _ _ _ _ _ _ xs ys (fun _ => True) w5 (a4'.rd_all _ trivial n n HXL.out (Nat.le_refl _)) (a5.rd_all _ trivial m m HYL.out (Nat.le_refl _)) (by omega) (by omega)).mono ?_
  rintro e w6 ⟨rfl, b6⟩
  rw [HK.out, HR.out]
  have s6 := b6.size
  have B6 := B5.trans (b6.mono (by omega))
  have a4'' := a4'.keep (b6.block _ a4'.lt)
  have a5'' := a5.keep (b6.block _ a5.lt)
  clear a4' a5 b6 B5
  have hne1 : (r != r) = false := by simp
  have hne2 : (k != k) = false := by simp
  have hx6 := hx.below B6
  go_wp2_with fail
  refine (toIntS_any A n c xs _ w6 hx6 hn').mono ?_
  rintro e w7 ⟨rfl, a7, b7⟩
  have s7 := b7.size
  have B7 := B6.trans (b7.mono (by omega))
  have a5''' := a5''.keep (b7.block _ a5''.lt)
  go_wp2_with fail
  refine (eqIntS_same _ _ n n n n xs (fun _ => True) (fun _ => True) w7 ((a4''.keep (b7.block _ a4''.lt)).rd_all _ trivial n n HXL.out (Nat.le_refl _)) (a7.rd_all _ trivial n n HXL.out (Nat.le_refl _)) (by omega)).mono ?_
  rintro e w8 ⟨rfl, d8⟩
  have B8 := B7.trans (d8.below _)
  have a8 := d8.arr a5'''
  have hs8 : w8.heap.size = w7.heap.size := by rw [d8.heap]
  have HS8 := Lib.hid hs8
  clear a4'' a7 b7 B6 B7 d8 a5''' a5'' hx6 hs8
  have hy8 := hy.below B8
  go_wp2_with fail
  refine (toIntS_any B m d ys _ w8 hy8 hm').mono ?_
  rintro e w9 ⟨rfl, a9, b9⟩
  have B9 := B8.trans (b9.mono (by have := HS8.out; omega))
  have a8' := a8.keep (b9.block _ a8.lt)
  go_wp2_with fail
  refine (eqIntS_same _ _ m m m m ys (fun _ => True) (fun _ => True) w9 (a8'.rd_all _ trivial m m HYL.out (Nat.le_refl _)) (a9.rd_all _ trivial m m HYL.out (Nat.le_refl _)) (by omega)).mono ?_
  rintro e wa ⟨rfl, da⟩
  have HB := Lib.hid (B9.trans (da.below _))
  clear a8 a8' a9 b9 B8 B9 da hy8 hx hy
  go_wp2
  go_ret
  exact ⟨rfl, HB.out⟩


theorem own_fnExactCmpNat : ownKnob Try.prog.godebug = none := by kernel_rfl
theorem laidOut_fnExactCmpNat : laidOutB Try.prog = true := by kernel_rfl
set_option maxRecDepth 100000 in
set_option linter.unusedVariables false in
theorem fnExactCmpNat_lifted (os : Os) (started : os.Started) (H : Type) (enc : TypeId × Value → H) :
    ReturnsInHanded {} Try.checked os 8 .any (Rows.fnExactCmpNatSpec.pre6 enc Try.prog Try.f8 Rows.fnExactCmpNatRow.domain false) (Rows.fnExactCmpNatSpec.post enc Try.prog Try.f8 false true false false) := by
  refine returnsInHanded_of_change (C := Try.checked) own_fnExactCmpNat started (by kernel_rfl) Try.func8
    (ChangeSpec.witness6 (enc := enc) (C := Try.checked) false ⟨#[], #[.slice none 0 0, .slice none 0 0], []⟩ 8 (by kernel_rfl) (by kernel_rfl) (by kernel_rfl) (by kernel_rfl)) ?_
  intro W base args ds gs before hval0 hW hcnd _
  have hval : ∀ (j : Nat) t v, Try.f8.params[j]? = some t → args[j]? = some v → Value.okWide Try.prog W .any base t v := hval0
  have hW' := hW
  obtain ⟨p, q, hA0, hV, rfl, hfz, hnd⟩ := hW
  have hA : DataW.TrodAll enc Try.prog W 0 (fun _ => true) true Try.f8.params.toList args.toList ds p := hA0
  rw [Try.params8] at hA hval
  obtain ⟨v0, vs0, d0, ds0, p0, q0, hargs, rfl, rfl, h0, r0⟩ := trodAll_cons hA
  obtain ⟨v1, vs1, d1, ds1, p1, q1, rfl, rfl, rfl, h1, r1⟩ := trodAll_cons r0
  obtain ⟨rfl, rfl, rfl⟩ := trodAll_nil r1
  obtain rfl : args = #[v0, v1] := by cases args; simp_all
  obtain ⟨rfl, rfl⟩ := trodVars_none hV
  obtain ⟨a0, len0, cap0, rfl⟩ := okWide_slice Try.underlying23 (hval 0 23 v0 rfl rfl)
  have k0 := h0
  have lt0 : ∀ x ∈ p0, x.block < W.heap.size := by obtain ⟨m, hm⟩ := k0; exact DataW.trod_lt m _ _ _ hm
  obtain ⟨z0, w0⟩ : ∃ zs, IsRow .i64 W a0 len0 cap0 zs := by
    obtain ⟨fuel, hf⟩ := h0
    rcases open_ints Try.underlying23 Try.underlying3 (by kernel_rfl) hf with ⟨hcs, _⟩ | ⟨x, l, c, zs, hcs, _, hl, hm, hz, _, hcell, hwz⟩
    · simp [Value.cells] at hcs
      obtain ⟨rfl, rfl, rfl⟩ := hcs
      exact ⟨[], .inl ⟨rfl, rfl, rfl, rfl⟩⟩
    · simp [Value.cells] at hcs
      obtain ⟨rfl, rfl, rfl⟩ := hcs
      exact ⟨zs, .inr ⟨_, rfl, hl, hm, by simpa using hz, hcell, hwz⟩⟩
  obtain ⟨a1, len1, cap1, rfl⟩ := okWide_slice Try.underlying23 (hval 1 23 v1 rfl rfl)
  have k1 := h1
  have lt1 : ∀ x ∈ p1, x.block < W.heap.size := by obtain ⟨m, hm⟩ := k1; exact DataW.trod_lt m _ _ _ hm
  obtain ⟨z1, w1⟩ : ∃ zs, IsRow .i64 W a1 len1 cap1 zs := by
    obtain ⟨fuel, hf⟩ := h1
    rcases open_ints Try.underlying23 Try.underlying3 (by kernel_rfl) hf with ⟨hcs, _⟩ | ⟨x, l, c, zs, hcs, _, hl, hm, hz, _, hcell, hwz⟩
    · simp [Value.cells] at hcs
      obtain ⟨rfl, rfl, rfl⟩ := hcs
      exact ⟨[], .inl ⟨rfl, rfl, rfl, rfl⟩⟩
    · simp [Value.cells] at hcs
      obtain ⟨rfl, rfl, rfl⟩ := hcs
      exact ⟨zs, .inr ⟨_, rfl, hl, hm, by simpa using hz, hcell, hwz⟩⟩
  clear hA0 hval0
  refine (lawCmpNat_any a0 len0 cap0 _ a1 len1 cap1 _ W w0.rd w0.le w1.rd w1.le).mono fun e W' ⟨he, bel⟩ => ?_
  subst he
  exact ⟨_, rfl, _, _, _, [], _, [], hW', trodAll_mk1 (shut_bool Try.underlying4 _), (trodAll_cons_mk (Below.trod laidOut_fnExactCmpNat (by kernel_rfl) (of_decide_eq_true (by kernel_rfl)) k0 bel lt0) (trodAll_cons_mk (Below.trod laidOut_fnExactCmpNat (by kernel_rfl) (of_decide_eq_true (by kernel_rfl)) k1 bel lt1) trodAll_mk0)), rfl, bel.frame _, fun h => by cases h⟩

theorem fnExactCmpNat_over : Rows.fnExactCmpNatRow.holds Try.pinned (OpenSpec.ofChange Rows.fnExactCmpNatSpec) :=
  OpenClaim.holds_of_wide 8 Try.f8 rfl rfl rfl rfl rfl rfl rfl ⟨rfl, rfl, rfl, rfl, rfl⟩ rfl rfl rfl rfl rfl (by kernel_rfl) Try.func8 (by kernel_rfl)
    (of_decide_eq_true (by kernel_rfl)) (by unfold Func.isWrapper; first | (rw [if_pos (by decide +kernel)]; kernel_rfl) | (rw [if_neg (by decide +kernel)]; exact ⟨rfl, rfl⟩))
    (fun os started H enc _ => fnExactCmpNat_lifted os started H enc)

theorem fnExactCmpNat_holds : Rows.FnExactCmpNatSaid := fnExactCmpNat_over

end Go.Proofs.Ytgeijojkfojfbab
