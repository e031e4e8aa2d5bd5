/-
  The law FnExactRootNat: for every list RootNat answers as its model, writes into no argument, and its answer is memory of its own. No condition.
-/
import Derived.Test.YtgeijojkfojfbabSpecRoot
import Derived.ProofKit
import Derived.OpenShut
import Derived.ShutString
import Derived.ChangeOld
namespace Go.Proofs.Ytgeijojkfojfbab
open Go Go.RowKit Nt
open Go.ChangeShapes Go.WideShapes Go.ChangeAt
open Go.ChangeMaps (open_string shut_string)

set_option maxHeartbeats 3200000 in
theorem lawRootNat_core (R : List Int) (K : Int) (A : Option Addr) (n c : Nat) (xs : List Int) (w : World) (hRl : R.length ≤ 1000)
    (hS : ∀ (la ca : Nat) (A : Option Addr) (P : Nat → Prop) (W : World), Rd W P A la ca xs → la ≤ 16777216 → Calls Try.prog 29 #[.slice A la ca] W (RetCode 3 W R K))
    (hI : ∀ (la ca : Nat) (A : Option Addr) (P : Nat → Prop) (W : World), Rd W P A la ca xs → la ≤ 16777216 → Calls Try.prog 28 #[.slice A la ca] W (RetCode 3 W R K))
    (hx : Rd w (· < w.heap.size) A n c xs) (hn' : n ≤ 1048576) :
    Calls Try.prog 14 #[.slice A n c] w fun e w' => e = .returned (.bool true) ∧ Below w.heap.size w w' := by
  have HS := Lib.hid hS
  have HI := Lib.hid hI
  have HX := Lib.hid hx
  have HXL := Lib.hid hx.len.symm
  clear hS hI hx
  have hbig' : (n : Int) ≤ 1048576 := by omega
  have hR16 : R.length ≤ 16777216 := by omega
  have hK : (K != K) = false := by simp
  go_enter Try.func14, Try.ntmps14
  go_wp2_with fail
  refine (toIntS_any A n c xs _ w HX.out hn').mono ?_
  rintro e w1 ⟨rfl, a1, b1⟩
  have s1 := b1.size
  have HA1 := Lib.hid a1
  have HB1 := Lib.hid b1
  clear a1 b1
  go_wp2_with fail
  refine (HS.out n n _ (fun _ => True) w1 (HA1.out.rd_all _ trivial n n HXL.out (Nat.le_refl _)) (by omega)).mono ?_
  rintro e w3 ⟨As, cs, rfl, o3, b3⟩
  have s3 := b3.size
  have HW3 := Lib.hid ((own_rd' o3).mono (Q := (· < w3.heap.size)) fun _ _ h => h)
  have HB3 := Lib.hid (HB1.out.trans (b3.mono (by omega)))
  clear o3 b3 HA1 HB1
  go_wp2_with fail
  refine (toIntS_any A n c xs _ w3 (HX.out.below HB3.out) hn').mono ?_
  rintro e w4 ⟨rfl, a4, b4⟩
  have s4 := b4.size
  have HA4 := Lib.hid a4
  have HL4 := Lib.hid a4.lt
  have HB4 := Lib.hid (HB3.out.trans (b4.mono (by omega)))
  have HC4 := Lib.hid b4
  clear a4 b4 HB3
  go_wp2_with fail
  refine (HI.out n n _ (fun _ => True) w4 (HA4.out.rd_all _ trivial n n HXL.out (Nat.le_refl _)) (by omega)).mono ?_
  rintro e w6 ⟨Ag, cg, rfl, o6, b6⟩
  have s6 := b6.size
  have HG6 := Lib.hid o6
  have HA6 := Lib.hid (HA4.out.keep (b6.block _ HA4.out.lt))
  have HB6 := Lib.hid (HB4.out.trans (b6.mono (by omega)))
  have HC6 := Lib.hid (HC4.out.trans (b6.mono (by omega)))
  clear o6 b6 HA4 HB4 HC4
  go_wp2_with fail
  refine (eqIntS_same _ _ _ _ _ _ R _ _ w6 (own_rd' HG6.out) (HW3.out.below HC6.out) hR16).mono ?_
  rintro e w7 ⟨rfl, d7⟩
  have HG7 := Lib.hid (own_keep HG6.out (d7.below _))
  have HA7 := Lib.hid (d7.arr HA6.out)
  have HB7 := Lib.hid (HB6.out.trans (d7.below _))
  have HC7 := Lib.hid (HC6.out.trans (d7.below _))
  have s7 : w6.heap.size ≤ w7.heap.size := (d7.below 0).size
  clear d7 HG6 HA6 HB6 HC6
  go_wp2_with fail
  refine (toIntS_any A n c xs _ w7 (HX.out.below HB7.out) hn').mono ?_
  rintro e w8 ⟨rfl, a8, b8⟩
  have s8 := b8.size
  have HA8 := Lib.hid a8
  have HG8 := Lib.hid (own_keep HG7.out b8)
  have HX8 := Lib.hid (HA7.out.keep (b8.block _ HA7.out.lt))
  have HB8 := Lib.hid (HB7.out.trans (b8.mono (by omega)))
  have HC8 := Lib.hid (HC7.out.trans (b8.mono (by omega)))
  clear a8 b8 HG7 HA7 HB7 HC7
  go_wp2_with fail
  refine (eqIntS_same _ _ n n n n xs (fun _ => True) (fun _ => True) w8 (HX8.out.rd_all _ trivial n n HXL.out (Nat.le_refl _)) (HA8.out.rd_all _ trivial n n HXL.out (Nat.le_refl _)) (by omega)).mono ?_
  rintro e w9 ⟨rfl, d9⟩
  have HG9 := Lib.hid (own_keep HG8.out (d9.below _))
  have HX9 := Lib.hid (d9.arr HX8.out)
  have HB9 := Lib.hid (HB8.out.trans (d9.below _))
  have HC9 := Lib.hid (HC8.out.trans (d9.below _))
  have s9 : w8.heap.size ≤ w9.heap.size := (d9.below 0).size
  clear d9 HG8 HX8 HB8 HC8 HA8
  have hml : n ≤ maxLen := by unfold maxLen; omega
  go_wp2_with fail
  refine (markIntS_any _ n n xs 1 w3.heap.size w9 (HX9.out.own w3.heap.size (Nat.le_refl _) n n HXL.out rfl hml) (by omega) (by omega) (by omega)).mono ?_
  rintro e wc ⟨rfl, oc, gc0⟩
  have gc : w9.grownBy wc (some w3.heap.size) := gc0
  clear gc0
  have sc := gc.size
  have HGd := Lib.hid (own_other HG9.out gc (by have := HL4.out; omega))
  have HBd := Lib.hid (HB9.out.trans (grown_below gc (by omega) (by omega)))
  have HCd := Lib.hid (HC9.out.trans (grown_below gc (by omega) (Nat.le_refl _)))
  clear oc gc HG9 HX9 HB9 HC9
  have hk0 : decide ((1 + (n : Int)) < 0) = false := by simp; omega
  go_wp2_with fail
  refine (eqIntS_same _ _ _ _ _ _ R _ _ wc (own_rd' HGd.out) (HW3.out.below HCd.out) hR16).mono ?_
  rintro e we ⟨rfl, de⟩
  have HGe := Lib.hid (own_keep HGd.out (de.below _))
  have HBe := Lib.hid (HBd.out.trans (de.below _))
  have HCe := Lib.hid (HCd.out.trans (de.below _))
  have se : wc.heap.size ≤ we.heap.size := (de.below 0).size
  clear de HGd HBd HCd hk0
  go_wp2_with fail
  refine (markIntS_any _ R.length cg R 1 w4.heap.size we HGe.out hR16 (by omega) (by omega)).mono ?_
  rintro e wf ⟨rfl, of, gf⟩
  have sf := gf.size
  have HGf := Lib.hid of
  have HBf := Lib.hid (HBe.out.grown gf (by omega) (fun k hk => by have := (own_lt HGe.out k hk).1; omega))
  have HCf := Lib.hid (HCe.out.grown gf (by omega) (fun k hk => by have := (own_lt HGe.out k hk).1; omega))
  clear of gf HGe HBe HCe
  go_wp2_with fail
  refine (heldIntS_any _ R.length cg 1 _ wf (own_rd' HGf.out) hR16 (by omega) (by omega)).mono ?_
  rintro e wg ⟨rfl, rfl⟩
  have hq1 : decide ((1 + (R.length : Int)) < 0) = false := by simp; omega
  have hq2 : ((1 + (R.length : Int)) != (1 + (R.length : Int))) = false := by simp
  go_wp2_with fail
  refine (toIntS_any A n c xs _ wf (HX.out.below HBf.out) hn').mono ?_
  rintro e wh ⟨rfl, ah, bh⟩
  have sh := bh.size
  have HAh := Lib.hid ah
  have HGh := Lib.hid (own_keep HGf.out bh)
  have HBh := Lib.hid (HBf.out.trans (bh.mono (by omega)))
  have HCh := Lib.hid (HCf.out.trans (bh.mono (by omega)))
  clear ah bh HGf HBf HCf
  go_wp2_with fail
  refine (HI.out n n _ (fun _ => True) wh (HAh.out.rd_all _ trivial n n HXL.out (Nat.le_refl _)) (by omega)).mono ?_
  rintro e wj ⟨Ah, ch, rfl, oj, bj⟩
  have sj := bj.size
  have HOj := Lib.hid oj
  have HGj := Lib.hid (own_keep HGh.out bj)
  have HBj := Lib.hid (HBh.out.trans (bj.mono (by omega)))
  have HCj := Lib.hid (HCh.out.trans (bj.mono (by omega)))
  clear oj bj HAh HGh HBh HCh
  go_wp2_with fail
  refine (eqIntS_same _ _ _ _ _ _ R _ _ wj (own_rd' HOj.out) (HW3.out.below HCj.out) hR16).mono ?_
  rintro e wk ⟨rfl, dk⟩
  have HGk := Lib.hid (own_keep HGj.out (dk.below _))
  have HBk := Lib.hid (HBj.out.trans (dk.below _))
  clear dk HGj HBj HCj HOj
  go_wp2_with fail
  refine (heldIntS_any _ R.length cg 1 _ wk (own_rd' HGk.out) hR16 (by omega) (by omega)).mono ?_
  rintro e wl ⟨rfl, rfl⟩
  clear HGk HX HXL HS HI HW3
  go_wp2
  go_ret
  exact ⟨rfl, HBk.out⟩

theorem lawRootNat_any (A : Option Addr) (n c : Nat) (xs : List Int) (w : World) (hx : Rd w (· < w.heap.size) A n c xs) (hn : n ≤ 9223372036854775807) :
    Calls Try.prog 14 #[.slice A n c] w fun e w' => e = .returned (.bool true) ∧ Below w.heap.size w w' := by
  by_cases hbig : 1048576 < n
  · go_enter Try.func14, Try.ntmps14
    go_wp2
    go_ret
    exact ⟨rfl, Below.refl _ _⟩
  exact lawRootNat_core _ _ A n c xs w (by have := root_len xs; omega) (fun la ca A P W h1 h2 => specRootNat_any la ca A xs P W h1 h2) (fun la ca A P W h1 h2 => implRootNat_any la ca A xs P W h1 h2) hx (by omega)


theorem own_fnExactRootNat : ownKnob Try.prog.godebug = none := by kernel_rfl
theorem laidOut_fnExactRootNat : laidOutB Try.prog = true := by kernel_rfl
set_option maxRecDepth 100000 in
set_option linter.unusedVariables false in
theorem fnExactRootNat_lifted (os : Os) (started : os.Started) (H : Type) (enc : TypeId × Value → H) :
    ReturnsInHanded {} Try.checked os 14 .any (Rows.fnExactRootNatSpec.pre6 enc Try.prog Try.f14 Rows.fnExactRootNatRow.domain false) (Rows.fnExactRootNatSpec.post enc Try.prog Try.f14 false true false false) := by
  refine returnsInHanded_of_change (C := Try.checked) own_fnExactRootNat started (by kernel_rfl) Try.func14
    (ChangeSpec.witness6 (enc := enc) (C := Try.checked) false ⟨#[], #[.slice none 0 0], []⟩ 8 (by kernel_rfl) (by kernel_rfl) (by kernel_rfl) (by kernel_rfl)) ?_
  intro W base args ds gs before hval0 hW hcnd _
  have hval : ∀ (j : Nat) t v, Try.f14.params[j]? = some t → args[j]? = some v → Value.okWide Try.prog W .any base t v := hval0
  have hW' := hW
  obtain ⟨p, q, hA0, hV, rfl, hfz, hnd⟩ := hW
  have hA : DataW.TrodAll enc Try.prog W 0 (fun _ => true) true Try.f14.params.toList args.toList ds p := hA0
  rw [Try.params14] at hA hval
  obtain ⟨v0, vs0, d0, ds0, p0, q0, hargs, rfl, rfl, h0, r0⟩ := trodAll_cons hA
  obtain ⟨rfl, rfl, rfl⟩ := trodAll_nil r0
  obtain rfl : args = #[v0] := by cases args; simp_all
  obtain ⟨rfl, rfl⟩ := trodVars_none hV
  obtain ⟨a0, len0, cap0, rfl⟩ := okWide_slice Try.underlying23 (hval 0 23 v0 rfl rfl)
  have k0 := h0
  have lt0 : ∀ x ∈ p0, x.block < W.heap.size := by obtain ⟨m, hm⟩ := k0; exact DataW.trod_lt m _ _ _ hm
  obtain ⟨z0, w0⟩ : ∃ zs, IsRow .i64 W a0 len0 cap0 zs := by
    obtain ⟨fuel, hf⟩ := h0
    rcases open_ints Try.underlying23 Try.underlying3 (by kernel_rfl) hf with ⟨hcs, _⟩ | ⟨x, l, c, zs, hcs, _, hl, hm, hz, _, hcell, hwz⟩
    · simp [Value.cells] at hcs
      obtain ⟨rfl, rfl, rfl⟩ := hcs
      exact ⟨[], .inl ⟨rfl, rfl, rfl, rfl⟩⟩
    · simp [Value.cells] at hcs
      obtain ⟨rfl, rfl, rfl⟩ := hcs
      exact ⟨zs, .inr ⟨_, rfl, hl, hm, by simpa using hz, hcell, hwz⟩⟩
  clear hA0 hval0
  refine (lawRootNat_any a0 len0 cap0 _ W w0.rd w0.le).mono fun e W' ⟨he, bel⟩ => ?_
  subst he
  exact ⟨_, rfl, _, _, _, [], _, [], hW', trodAll_mk1 (shut_bool Try.underlying4 _), (trodAll_cons_mk (Below.trod laidOut_fnExactRootNat (by kernel_rfl) (of_decide_eq_true (by kernel_rfl)) k0 bel lt0) trodAll_mk0), rfl, bel.frame _, fun h => by cases h⟩

theorem fnExactRootNat_over : Rows.fnExactRootNatRow.holds Try.pinned (OpenSpec.ofChange Rows.fnExactRootNatSpec) :=
  OpenClaim.holds_of_wide 14 Try.f14 rfl rfl rfl rfl rfl rfl rfl ⟨rfl, rfl, rfl, rfl, rfl⟩ rfl rfl rfl rfl rfl (by kernel_rfl) Try.func14 (by kernel_rfl)
    (of_decide_eq_true (by kernel_rfl)) (by unfold Func.isWrapper; first | (rw [if_pos (by decide +kernel)]; kernel_rfl) | (rw [if_neg (by decide +kernel)]; exact ⟨rfl, rfl⟩))
    (fun os started H enc _ => fnExactRootNat_lifted os started H enc)

theorem fnExactRootNat_holds : Rows.FnExactRootNatSaid := fnExactRootNat_over

end Go.Proofs.Ytgeijojkfojfbab
