/-
  The law FnExactGcdNat: for every two lists GcdNat answers as its model, writes into no argument, and its answer is memory of its own. No condition.
-/
import Derived.Test.YtgeijojkfojfbabGcd
import Derived.Test.YtgeijojkfojfbabCommon
import Derived.ProofKit
import Derived.OpenShut
import Derived.ShutString
import Derived.ChangeOld
namespace Go.Proofs.Ytgeijojkfojfbab
open Go Go.RowKit Nt
open Go.ChangeShapes Go.WideShapes Go.ChangeAt
open Go.ChangeMaps (open_string shut_string)

set_option maxHeartbeats 3200000 in
theorem lawGcdNat_core (R : List Int) (K : Int) (A : Option Addr) (n c : Nat) (xs : List Int) (B : Option Addr) (m d : Nat) (ys : List Int) (w : World) (hRl : R.length ≤ 1000)
    (hS : ∀ (la ca lb cb : Nat) (A B : Option Addr) (P Q : Nat → Prop) (W : World), Rd W P A la ca xs → Rd W Q B lb cb ys → la ≤ 16777216 → lb ≤ 16777216 → Calls Try.prog 27 #[.slice A la ca, .slice B lb cb] W (RetCode 3 W R K))
    (hI : ∀ (la ca lb cb : Nat) (A B : Option Addr) (P : Nat → Prop) (W : World), Rd W P A la ca xs → Rd W P B lb cb ys → la ≤ 16777216 → lb ≤ 16777216 → Calls Try.prog 26 #[.slice A la ca, .slice B lb cb] W (RetCode 3 W R K))
    (hx : Rd w (· < w.heap.size) A n c xs) (hn' : n ≤ 1048576) (hy : Rd w (· < w.heap.size) B m d ys) (hm' : m ≤ 1048576) :
    Calls Try.prog 13 #[.slice A n c, .slice B m d] w fun e w' => e = .returned (.bool true) ∧ Below w.heap.size w w' := by
  have HS := Lib.hid hS
  have HI := Lib.hid hI
  have HX := Lib.hid hx
  have HY := Lib.hid hy
  have HXL := Lib.hid hx.len.symm
  have HYL := Lib.hid hy.len.symm
  clear hS hI hx hy
  have hbig' : (n : Int) ≤ 1048576 := by omega
  have hbig2' : (m : Int) ≤ 1048576 := by omega
  have hR16 : R.length ≤ 16777216 := by omega
  have hK : (K != K) = false := by simp
  go_enter Try.func13, Try.ntmps13
  go_wp2_with fail
  refine (toIntS_any A n c xs _ w HX.out hn').mono ?_
  rintro e w1 ⟨rfl, a1, b1⟩
  have s1 := b1.size
  have HA1 := Lib.hid a1
  have HB1 := Lib.hid b1
  clear a1 b1
  go_wp2_with fail
  refine (toIntS_any B m d ys _ w1 (HY.out.below HB1.out) hm').mono ?_
  rintro e w2 ⟨rfl, a2, b2⟩
  have s2 := b2.size
  have HA1' := Lib.hid (HA1.out.keep (b2.block _ HA1.out.lt))
  have HA2 := Lib.hid a2
  have HB2 := Lib.hid (HB1.out.trans (b2.mono s1))
  clear a2 b2 HA1 HB1
  go_wp2_with fail
  refine (HS.out n n m m _ _ (fun _ => True) (fun _ => True) w2 (HA1'.out.rd_all _ trivial n n HXL.out (Nat.le_refl _)) (HA2.out.rd_all _ trivial m m HYL.out (Nat.le_refl _)) (by omega) (by omega)).mono ?_
  rintro e w3 ⟨As, cs, rfl, o3, b3⟩
  have s3 := b3.size
  have HW3 := Lib.hid ((own_rd' o3).mono (Q := (· < w3.heap.size)) fun _ _ h => h)
  have HB3 := Lib.hid (HB2.out.trans (b3.mono (by omega)))
  clear o3 b3 HA1' HA2 HB2
  go_wp2_with fail
  refine (toIntS_any A n c xs _ w3 (HX.out.below HB3.out) hn').mono ?_
  rintro e w4 ⟨rfl, a4, b4⟩
  have s4 := b4.size
  have HA4 := Lib.hid a4
  have HL4 := Lib.hid a4.lt
  have HB4 := Lib.hid (HB3.out.trans (b4.mono (by omega)))
  have HC4 := Lib.hid b4
  clear a4 b4 HB3
  go_wp2_with fail
  refine (toIntS_any B m d ys _ w4 (HY.out.below HB4.out) hm').mono ?_
  rintro e w5 ⟨rfl, a5, b5⟩
  have s5 := b5.size
  have HA4' := Lib.hid (HA4.out.keep (b5.block _ HA4.out.lt))
  have HA5 := Lib.hid a5
  have HB5 := Lib.hid (HB4.out.trans (b5.mono (by omega)))
  have HC5 := Lib.hid (HC4.out.trans (b5.mono s4))
  clear a5 b5 HA4 HB4 HC4
  go_wp2_with fail
  refine (HI.out n n m m _ _ (fun _ => True) w5 (HA4'.out.rd_all _ trivial n n HXL.out (Nat.le_refl _)) (HA5.out.rd_all _ trivial m m HYL.out (Nat.le_refl _)) (by omega) (by omega)).mono ?_
  rintro e w6 ⟨Ag, cg, rfl, o6, b6⟩
  have s6 := b6.size
  have HG6 := Lib.hid o6
  have HA6 := Lib.hid (HA4'.out.keep (b6.block _ HA4'.out.lt))
  have HA6' := Lib.hid (HA5.out.keep (b6.block _ HA5.out.lt))
  have HL5 := Lib.hid HA5.out.lt
  have HB6 := Lib.hid (HB5.out.trans (b6.mono (by omega)))
  have HC6 := Lib.hid (HC5.out.trans (b6.mono (by omega)))
  clear o6 b6 HA4' HA5 HB5 HC5
  go_wp2_with fail
  refine (eqIntS_same _ _ _ _ _ _ R _ _ w6 (own_rd' HG6.out) (HW3.out.below HC6.out) hR16).mono ?_
  rintro e w7 ⟨rfl, d7⟩
  have HG7 := Lib.hid (own_keep HG6.out (d7.below _))
  have HA7 := Lib.hid (d7.arr HA6.out)
  have HA7' := Lib.hid (d7.arr HA6'.out)
  have HB7 := Lib.hid (HB6.out.trans (d7.below _))
  have HC7 := Lib.hid (HC6.out.trans (d7.below _))
  have s7 : w6.heap.size ≤ w7.heap.size := (d7.below 0).size
  clear d7 HG6 HA6 HA6' HB6 HC6
  go_wp2_with fail
  refine (toIntS_any A n c xs _ w7 (HX.out.below HB7.out) hn').mono ?_
  rintro e w8 ⟨rfl, a8, b8⟩
  have s8 := b8.size
  have HA8 := Lib.hid a8
  have HG8 := Lib.hid (own_keep HG7.out b8)
  have HX8 := Lib.hid (HA7.out.keep (b8.block _ HA7.out.lt))
  have HY8 := Lib.hid (HA7'.out.keep (b8.block _ HA7'.out.lt))
  have HB8 := Lib.hid (HB7.out.trans (b8.mono (by omega)))
  have HC8 := Lib.hid (HC7.out.trans (b8.mono (by omega)))
  clear a8 b8 HG7 HA7 HA7' HB7 HC7
  go_wp2_with fail
  refine (eqIntS_same _ _ n n n n xs (fun _ => True) (fun _ => True) w8 (HX8.out.rd_all _ trivial n n HXL.out (Nat.le_refl _)) (HA8.out.rd_all _ trivial n n HXL.out (Nat.le_refl _)) (by omega)).mono ?_
  rintro e w9 ⟨rfl, d9⟩
  have HG9 := Lib.hid (own_keep HG8.out (d9.below _))
  have HX9 := Lib.hid (d9.arr HX8.out)
  have HY9 := Lib.hid (d9.arr HY8.out)
  have HB9 := Lib.hid (HB8.out.trans (d9.below _))
  have HC9 := Lib.hid (HC8.out.trans (d9.below _))
  have s9 : w8.heap.size ≤ w9.heap.size := (d9.below 0).size
  clear d9 HG8 HX8 HY8 HB8 HC8 HA8
  go_wp2_with fail
  refine (toIntS_any B m d ys _ w9 (HY.out.below HB9.out) hm').mono ?_
  rintro e wa ⟨rfl, aa, ba⟩
  have sa := ba.size
  have HAa := Lib.hid aa
  have HGa := Lib.hid (own_keep HG9.out ba)
  have HXa := Lib.hid (HX9.out.keep (ba.block _ HX9.out.lt))
  have HYa := Lib.hid (HY9.out.keep (ba.block _ HY9.out.lt))
  have HBa := Lib.hid (HB9.out.trans (ba.mono (by omega)))
  have HCa := Lib.hid (HC9.out.trans (ba.mono (by omega)))
  clear aa ba HG9 HX9 HY9 HB9 HC9
  go_wp2_with fail
  refine (eqIntS_same _ _ m m m m ys (fun _ => True) (fun _ => True) wa (HYa.out.rd_all _ trivial m m HYL.out (Nat.le_refl _)) (HAa.out.rd_all _ trivial m m HYL.out (Nat.le_refl _)) (by omega)).mono ?_
  rintro e wb ⟨rfl, db⟩
  have HGb := Lib.hid (own_keep HGa.out (db.below _))
  have HXb := Lib.hid (db.arr HXa.out)
  have HYb := Lib.hid (db.arr HYa.out)
  have HBb := Lib.hid (HBa.out.trans (db.below _))
  have HCb := Lib.hid (HCa.out.trans (db.below _))
  have sb : wa.heap.size ≤ wb.heap.size := (db.below 0).size
  clear db HGa HXa HYa HBa HCa HAa
  have hml : n ≤ maxLen := by unfold maxLen; omega
  have hml2 : m ≤ maxLen := by unfold maxLen; omega
  go_wp2_with fail
  refine (markIntS_any _ n n xs 1 w3.heap.size wb (HXb.out.own w3.heap.size (Nat.le_refl _) n n HXL.out rfl hml) (by omega) (by omega) (by omega)).mono ?_
  rintro e wc ⟨rfl, oc, gc0⟩
  have gc : wb.grownBy wc (some w3.heap.size) := gc0
  clear gc0
  have sc := gc.size
  have HGc := Lib.hid (own_other HGb.out gc (by have := HL4.out; omega))
  have HYc := Lib.hid (HYb.out.keep (gc.block _ HYb.out.lt (fun e => by injection e with e; have := HL4.out; omega)))
  have HBc := Lib.hid (HBb.out.trans (grown_below gc (by omega) (by omega)))
  have HCc := Lib.hid (HCb.out.trans (grown_below gc (by omega) (Nat.le_refl _)))
  clear oc gc HGb HXb HYb HBb HCb
  go_wp2_with fail
  refine (markIntS_any _ m m ys (1 + n) w4.heap.size wc (HYc.out.own w4.heap.size (Nat.le_refl _) m m HYL.out rfl hml2) (by omega) (by omega) (by omega)).mono ?_
  rintro e wd ⟨rfl, od, gd0⟩
  have gd : wc.grownBy wd (some w4.heap.size) := gd0
  clear gd0
  have sd := gd.size
  have HGd := Lib.hid (own_other HGc.out gd (by have := HL5.out; omega))
  have HBd := Lib.hid (HBc.out.trans (grown_below gd (by omega) (by omega)))
  have HCd := Lib.hid (HCc.out.trans (grown_below gd (by omega) (by omega)))
  clear od gd HGc HYc HBc HCc
  have hk0 : decide ((1 + (n : Int) + (m : Int)) < 0) = false := by simp; omega
  go_wp2_with fail
  refine (eqIntS_same _ _ _ _ _ _ R _ _ wd (own_rd' HGd.out) (HW3.out.below HCd.out) hR16).mono ?_
  rintro e we ⟨rfl, de⟩
  have HGe := Lib.hid (own_keep HGd.out (de.below _))
  have HBe := Lib.hid (HBd.out.trans (de.below _))
  have HCe := Lib.hid (HCd.out.trans (de.below _))
  have se : wd.heap.size ≤ we.heap.size := (de.below 0).size
  clear de HGd HBd HCd hk0
  go_wp2_with fail
  refine (markIntS_any _ R.length cg R 1 w5.heap.size we HGe.out hR16 (by omega) (by omega)).mono ?_
  rintro e wf ⟨rfl, of, gf⟩
  have sf := gf.size
  have HGf := Lib.hid of
  have HBf := Lib.hid (HBe.out.grown gf (by omega) (fun k hk => by have := (own_lt HGe.out k hk).1; omega))
  have HCf := Lib.hid (HCe.out.grown gf (by omega) (fun k hk => by have := (own_lt HGe.out k hk).1; omega))
  clear of gf HGe HBe HCe
  go_wp2_with fail
  refine (heldIntS_any _ R.length cg 1 _ wf (own_rd' HGf.out) hR16 (by omega) (by omega)).mono ?_
  rintro e wg ⟨rfl, rfl⟩
  have hq1 : decide ((1 + (R.length : Int)) < 0) = false := by simp; omega
  have hq2 : ((1 + (R.length : Int)) != (1 + (R.length : Int))) = false := by simp
  go_wp2_with fail
  refine (toIntS_any A n c xs _ wf (HX.out.below HBf.out) hn').mono ?_
  rintro e wh ⟨rfl, ah, bh⟩
  have sh := bh.size
  have HAh := Lib.hid ah
  have HGh := Lib.hid (own_keep HGf.out bh)
  have HBh := Lib.hid (HBf.out.trans (bh.mono (by omega)))
  have HCh := Lib.hid (HCf.out.trans (bh.mono (by omega)))
  clear ah bh HGf HBf HCf
  go_wp2_with fail
  refine (toIntS_any B m d ys _ wh (HY.out.below HBh.out) hm').mono ?_
  rintro e wi ⟨rfl, ai, bi⟩
  have si := bi.size
  have HAh' := Lib.hid (HAh.out.keep (bi.block _ HAh.out.lt))
  have HAi := Lib.hid ai
  have HGi := Lib.hid (own_keep HGh.out bi)
  have HBi := Lib.hid (HBh.out.trans (bi.mono (by omega)))
  have HCi := Lib.hid (HCh.out.trans (bi.mono (by omega)))
  clear ai bi HAh HGh HBh HCh
  go_wp2_with fail
  refine (HI.out n n m m _ _ (fun _ => True) wi (HAh'.out.rd_all _ trivial n n HXL.out (Nat.le_refl _)) (HAi.out.rd_all _ trivial m m HYL.out (Nat.le_refl _)) (by omega) (by omega)).mono ?_
  rintro e wj ⟨Ah, ch, rfl, oj, bj⟩
  have sj := bj.size
  have HOj := Lib.hid oj
  have HGj := Lib.hid (own_keep HGi.out bj)
  have HBj := Lib.hid (HBi.out.trans (bj.mono (by omega)))
  have HCj := Lib.hid (HCi.out.trans (bj.mono (by omega)))
  clear oj bj HAh' HAi HGi HBi HCi
  go_wp2_with fail
  refine (eqIntS_same _ _ _ _ _ _ R _ _ wj (own_rd' HOj.out) (HW3.out.below HCj.out) hR16).mono ?_
  rintro e wk ⟨rfl, dk⟩
  have HGk := Lib.hid (own_keep HGj.out (dk.below _))
  have HBk := Lib.hid (HBj.out.trans (dk.below _))
  clear dk HGj HBj HCj HOj
  go_wp2_with fail
  refine (heldIntS_any _ R.length cg 1 _ wk (own_rd' HGk.out) hR16 (by omega) (by omega)).mono ?_
  rintro e wl ⟨rfl, rfl⟩
  clear HGk HX HY HXL HYL HS HI HW3
  go_wp2
  go_ret
  exact ⟨rfl, HBk.out⟩

theorem lawGcdNat_any (A : Option Addr) (n c : Nat) (xs : List Int) (B : Option Addr) (m d : Nat) (ys : List Int) (w : World) (hx : Rd w (· < w.heap.size) A n c xs) (hn : n ≤ 9223372036854775807) (hy : Rd w (· < w.heap.size) B m d ys) (hm : m ≤ 9223372036854775807) :
    Calls Try.prog 13 #[.slice A n c, .slice B m d] w fun e w' => e = .returned (.bool true) ∧ Below w.heap.size w w' := by
  by_cases hbig : 1048576 < n
  · go_enter Try.func13, Try.ntmps13
    go_wp2
    go_ret
    exact ⟨rfl, Below.refl _ _⟩
  by_cases hbig2 : 1048576 < m
  · have hbig' : (n : Int) ≤ 1048576 := by omega
    go_enter Try.func13, Try.ntmps13
    go_wp2
    go_ret
    exact ⟨rfl, Below.refl _ _⟩
  exact lawGcdNat_core _ _ A n c xs B m d ys w (by have := gcd_len xs ys; omega) (fun la ca lb cb A B P Q W h1 h2 h3 h4 => specGcdNat_any la ca lb cb A B xs ys P Q W h1 h2 h3 h4) (fun la ca lb cb A B P W h1 h2 h3 h4 => implGcdNat_any la ca lb cb A B xs ys P W h1 h2 h3 h4) hx (by omega) hy (by omega)


theorem own_fnExactGcdNat : ownKnob Try.prog.godebug = none := by kernel_rfl
theorem laidOut_fnExactGcdNat : laidOutB Try.prog = true := by kernel_rfl
set_option maxRecDepth 100000 in
set_option linter.unusedVariables false in
theorem fnExactGcdNat_lifted (os : Os) (started : os.Started) (H : Type) (enc : TypeId × Value → H) :
    ReturnsInHanded {} Try.checked os 13 .any (Rows.fnExactGcdNatSpec.pre6 enc Try.prog Try.f13 Rows.fnExactGcdNatRow.domain false) (Rows.fnExactGcdNatSpec.post enc Try.prog Try.f13 false true false false) := by
  refine returnsInHanded_of_change (C := Try.checked) own_fnExactGcdNat started (by kernel_rfl) Try.func13
    (ChangeSpec.witness6 (enc := enc) (C := Try.checked) false ⟨#[], #[.slice none 0 0, .slice none 0 0], []⟩ 8 (by kernel_rfl) (by kernel_rfl) (by kernel_rfl) (by kernel_rfl)) ?_
  intro W base args ds gs before hval0 hW hcnd _
  have hval : ∀ (j : Nat) t v, Try.f13.params[j]? = some t → args[j]? = some v → Value.okWide Try.prog W .any base t v := hval0
  have hW' := hW
  obtain ⟨p, q, hA0, hV, rfl, hfz, hnd⟩ := hW
  have hA : DataW.TrodAll enc Try.prog W 0 (fun _ => true) true Try.f13.params.toList args.toList ds p := hA0
  rw [Try.params13] at hA hval
  obtain ⟨v0, vs0, d0, ds0, p0, q0, hargs, rfl, rfl, h0, r0⟩ := trodAll_cons hA
  obtain ⟨v1, vs1, d1, ds1, p1, q1, rfl, rfl, rfl, h1, r1⟩ := trodAll_cons r0
  obtain ⟨rfl, rfl, rfl⟩ := trodAll_nil r1
  obtain rfl : args = #[v0, v1] := by cases args; simp_all
  obtain ⟨rfl, rfl⟩ := trodVars_none hV
  obtain ⟨a0, len0, cap0, rfl⟩ := okWide_slice Try.underlying23 (hval 0 23 v0 rfl rfl)
  have k0 := h0
  have lt0 : ∀ x ∈ p0, x.block < W.heap.size := by obtain ⟨m, hm⟩ := k0; exact DataW.trod_lt m _ _ _ hm
  obtain ⟨z0, w0⟩ : ∃ zs, IsRow .i64 W a0 len0 cap0 zs := by
    obtain ⟨fuel, hf⟩ := h0
    rcases open_ints Try.underlying23 Try.underlying3 (by kernel_rfl) hf with ⟨hcs, _⟩ | ⟨x, l, c, zs, hcs, _, hl, hm, hz, _, hcell, hwz⟩
    · simp [Value.cells] at hcs
      obtain ⟨rfl, rfl, rfl⟩ := hcs
      exact ⟨[], .inl ⟨rfl, rfl, rfl, rfl⟩⟩
    · simp [Value.cells] at hcs
      obtain ⟨rfl, rfl, rfl⟩ := hcs
      exact ⟨zs, .inr ⟨_, rfl, hl, hm, by simpa using hz, hcell, hwz⟩⟩
  obtain ⟨a1, len1, cap1, rfl⟩ := okWide_slice Try.underlying23 (hval 1 23 v1 rfl rfl)
  have k1 := h1
  have lt1 : ∀ x ∈ p1, x.block < W.heap.size := by obtain ⟨m, hm⟩ := k1; exact DataW.trod_lt m _ _ _ hm
  obtain ⟨z1, w1⟩ : ∃ zs, IsRow .i64 W a1 len1 cap1 zs := by
    obtain ⟨fuel, hf⟩ := h1
    rcases open_ints Try.underlying23 Try.underlying3 (by kernel_rfl) hf with ⟨hcs, _⟩ | ⟨x, l, c, zs, hcs, _, hl, hm, hz, _, hcell, hwz⟩
    · simp [Value.cells] at hcs
      obtain ⟨rfl, rfl, rfl⟩ := hcs
      exact ⟨[], .inl ⟨rfl, rfl, rfl, rfl⟩⟩
    · simp [Value.cells] at hcs
      obtain ⟨rfl, rfl, rfl⟩ := hcs
      exact ⟨zs, .inr ⟨_, rfl, hl, hm, by simpa using hz, hcell, hwz⟩⟩
  clear hA0 hval0
  refine (lawGcdNat_any a0 len0 cap0 _ a1 len1 cap1 _ W w0.rd w0.le w1.rd w1.le).mono fun e W' ⟨he, bel⟩ => ?_
  subst he
  exact ⟨_, rfl, _, _, _, [], _, [], hW', trodAll_mk1 (shut_bool Try.underlying4 _), (trodAll_cons_mk (Below.trod laidOut_fnExactGcdNat (by kernel_rfl) (of_decide_eq_true (by kernel_rfl)) k0 bel lt0) (trodAll_cons_mk (Below.trod laidOut_fnExactGcdNat (by kernel_rfl) (of_decide_eq_true (by kernel_rfl)) k1 bel lt1) trodAll_mk0)), rfl, bel.frame _, fun h => by cases h⟩

theorem fnExactGcdNat_over : Rows.fnExactGcdNatRow.holds Try.pinned (OpenSpec.ofChange Rows.fnExactGcdNatSpec) :=
  OpenClaim.holds_of_wide 13 Try.f13 rfl rfl rfl rfl rfl rfl rfl ⟨rfl, rfl, rfl, rfl, rfl⟩ rfl rfl rfl rfl rfl (by kernel_rfl) Try.func13 (by kernel_rfl)
    (of_decide_eq_true (by kernel_rfl)) (by unfold Func.isWrapper; first | (rw [if_pos (by decide +kernel)]; kernel_rfl) | (rw [if_neg (by decide +kernel)]; exact ⟨rfl, rfl⟩))
    (fun os started H enc _ => fnExactGcdNat_lifted os started H enc)

theorem fnExactGcdNat_holds : Rows.FnExactGcdNatSaid := fnExactGcdNat_over

end Go.Proofs.Ytgeijojkfojfbab
