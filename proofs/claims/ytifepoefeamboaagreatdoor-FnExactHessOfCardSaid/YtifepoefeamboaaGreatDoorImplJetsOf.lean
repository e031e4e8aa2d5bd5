/-
  All nodes' jets: valueFits, jetsOf of the program.
-/
import Derived.Test.YtifepoefeamboaaGreatDoorImplJetE
import Derived.Test.YtifepoefeamboaaGreatDoorImplJetF
import Derived.Test.YtifepoefeamboaaGreatDoorImplJetN
import Derived.Test.YtifepoefeamboaaGreatDoorAppendFree
import Derived.Test.YtifepoefeamboaaGreatDoorGrpG
namespace Nt
open Go Go.RowKit
theorem getD_L2 {acc : List Jt} (h : ∀ j ∈ acc, L2 j 40 40 40 40) (i : Nat) : L2 (acc.getD i j0) 40 40 40 40 := by
  by_cases hi : i < acc.length
  · exact h _ (getD_mem hi)
  · have : acc.getD i j0 = j0 := by simp [List.getD, Nat.le_of_not_lt hi]
    rw [this]; exact (L2.fx lim_zero).mono (by omega) (by omega) (by omega) (by omega)
theorem lim_big (n : Int) (h0 : 0 ≤ n) (h1 : n ≤ 999999999) : lim (n : Rat) 40 := by
  constructor
  · have e : nu (n : Rat) = n.natAbs := by unfold nu; rw [Rat.num_intCast]
    rw [e]; refine (D_len_le _ 40).2 (Nat.lt_of_le_of_lt (show n.natAbs ≤ 999999999 by omega) (by decide))
  · rw [Rat.den_intCast, D_1_len]; omega
/-- no number of a node's jet is longer than this -/
theorem step_L2 {vars acc : List Jt} {x : Nd} {j : Jt} (hf : fitN x = true) (hv : ∀ j ∈ vars, L2 j 40 40 40 40) (ha : ∀ j ∈ acc, L2 j 40 40 40 40) (h : stepJ vars acc x = some j) : L2 j 3600 3600 3600 3600 := by
  have hA := getD_L2 ha x.2.1.toNat
  have hB := getD_L2 ha x.2.2.1.toNat
  have hV := getD_L2 hv x.2.2.2.toNat
  unfold fitN mostN at hf
  simp only [Bool.and_eq_true, decide_eq_true_eq] at hf
  obtain ⟨⟨⟨⟨⟨f1, f2⟩, f3⟩, f4⟩, -⟩, -⟩ := hf
  unfold stepJ at h
  generalize acc.getD x.2.1.toNat j0 = f at *
  generalize acc.getD x.2.2.1.toNat j0 = g at *
  split at h
  · rename_i e; cases h
    rw [if_pos e] at f4
    exact (L2.fx (lim_big _ f3 f4)).mono (by omega) (by omega) (by omega) (by omega)
  split at h
  · cases h; exact hV.mono (by omega) (by omega) (by omega) (by omega)
  split at h
  · cases h; exact (hA.sum hB).mono (by omega) (by omega) (by omega) (by omega)
  split at h
  · cases h; exact (hA.sum hB.neg).mono (by omega) (by omega) (by omega) (by omega)
  split at h
  · cases h; exact (hA.prod hB).mono (by omega) (by omega) (by omega) (by omega)
  split at h
  · split at h
    · cases h
    · cases h; exact (hA.prod (hB.inv (by omega))).mono (by omega) (by omega) (by omega) (by omega)
  split at h
  · cases h; exact hA.neg.mono (by omega) (by omega) (by omega) (by omega)
  · cases h
    have : x.2.2.2.toNat ≤ 8 := by
      rename_i e1 e2 e3 e4 e5 e6 e7
      have e8 : x.1 = 8 := by omega
      rw [if_neg e1, if_neg e2, if_pos e8] at f4
      omega
    exact (hA.raise this).mono (by omega) (by omega) (by omega) (by omega)
/-- jets that can be read, and a code -/
def SayJs (tF tM : TypeId) (w : World) (js : List Jt) (code : Int) (e : Ending) (w' : World) : Prop :=
  ∃ V cv, e = .returned (.tuple #[.slice V js.length cv, .int .i64 code]) ∧ RdJ tF tM w' V js.length cv js ∧ Below w.heap.size w w'
theorem rdj_nil (tF tM : TypeId) (w : World) (A : Option Addr) (c : Nat) : RdJ tF tM w A 0 c [] := ⟨rfl, Nat.zero_le _, fun h => absurd h (Nat.lt_irrefl _)⟩
theorem js_none {vars : List Jt} {ns : List Nd} {k : Nat} {js : List Jt} (hk : k < ns.length) (hj : evalJ vars (ns.take k) = (js, 0)) (hs : stepJ vars js (ns.getD k nd0) = none) : evalJ vars ns = ([], 10) := by
  have e : evalJ vars (ns.take (k + 1)) = ([], 10) := by rw [evalJ_take vars ns k hk, hj]; unfold estep; rw [if_pos rfl]; dsimp only; rw [hs]
  rw [evalJ_stop vars ns (k + 1) (by rw [e]; decide), e]
theorem js_full {vars : List Jt} {ns : List Nd} {k : Nat} {js : List Jt} {j : Jt} (hk : k < ns.length) (hj : evalJ vars (ns.take k) = (js, 0)) (hs : stepJ vars js (ns.getD k nd0) = some j) (hf : fitsJ j = false) : evalJ vars ns = ([], 7) := by
  have e : evalJ vars (ns.take (k + 1)) = ([], 7) := by rw [evalJ_take vars ns k hk, hj]; unfold estep; rw [if_pos rfl]; dsimp only; rw [hs]; dsimp only; rw [if_neg (by rw [hf]; decide)]
  rw [evalJ_stop vars ns (k + 1) (by rw [e]; decide), e]
theorem js_more {vars : List Jt} {ns : List Nd} {k : Nat} {js : List Jt} {j : Jt} (hk : k < ns.length) (hj : evalJ vars (ns.take k) = (js, 0)) (hs : stepJ vars js (ns.getD k nd0) = some j) (hf : fitsJ j = true) : evalJ vars (ns.take (k + 1)) = (js ++ [j], 0) := by
  rw [evalJ_take vars ns k hk, hj]; unfold estep; rw [if_pos rfl]; dsimp only; rw [hs]; dsimp only; rw [if_pos hf]
theorem js_L2 {d : Nat} (hd : d ≤ 2) {vars : List Jt} {ns : List Nd} {k : Nat} {js : List Jt} (hv : ∀ j ∈ vars, j.dep ≤ d) (hk : k ≤ ns.length) (hj : evalJ vars (ns.take k) = (js, 0)) : js.length = k ∧ ∀ j ∈ js, L2 j 40 40 40 40 := by
  have ok := evalJ_ok hv ns k hk (by rw [hj])
  rw [hj] at ok
  exact ⟨ok.len, fun j h => L2.of_fits (Nat.le_trans (ok.dep j h) hd) (ok.fit j h)⟩
theorem js_dep {d : Nat} {vars : List Jt} {ns : List Nd} {k : Nat} {js : List Jt} {x : Nd} {j : Jt} (hv : ∀ j ∈ vars, j.dep ≤ d) (hk : k ≤ ns.length) (hj : evalJ vars (ns.take k) = (js, 0)) (hs : stepJ vars js x = some j) : j.dep ≤ d := by
  have ok := evalJ_ok hv ns k hk (by rw [hj])
  rw [hj] at ok
  exact stepJ_dep hv ok.dep hs
end Nt
namespace Go.Proofs.YtifepoefeamboaaGreatDoor
open Go Go.RowKit Nt

theorem infoJet : (Tryz.prog.info? 64).map (fun i => (i.zero, i.size, i.bytes)) = some (some .nilIface, 1, 16) := by kernel_rfl



set_option maxRecDepth 40000 in
set_option maxHeartbeats 6400000 in
/-- all nodes' jets: the first at fault gives the code -/
theorem jetsOf_fits (ns : List Nd) (vars : List Jt) (A X : Option Addr) (n c mx dx : Nat) (P : Nat → Prop) (w : World) (ad : Addr) (hE : ErrAt 195 w ad) (hr : RdN w P A n c ns) (hv : RdJ 105 103 w X mx dx vars) (hd : ∀ j ∈ vars, j.dep ≤ 2) (hL : ∀ j ∈ vars, L2 j 40 40 40 40)
    (hg : ∀ k, k < n → fitN (ns.getD k nd0) = true ∧ behind (ns.getD k nd0) k = true ∧ ((ns.getD k nd0).1 = 2 → (ns.getD k nd0).2.2.2 < mx)) (hn : n ≤ 60) :
    Calls Tryz.prog 71 #[.slice A n c, .slice X mx dx, .func (.methodOf 64 "loop.example/g00615/impl.fits") #[] #[]] w (SayJs 105 103 w (evalJ vars ns).1 (evalJ vars ns).2) := by
  have HLN : Hid (ns.length = n) := hr.len
  have HR := Lib.hid (hr.mono (Q := (· < w.heap.size)) fun _ _ h => h)
  have HV := Lib.hid hv
  have HD := Lib.hid hd
  have HL := Lib.hid hL
  have HG := Lib.hid hg
  have HE := Lib.hid hE
  have hg0 := hE.2
  clear hr hv hd hL hg hE
  obtain ⟨i0, hi0, hz⟩ := Option.map_eq_some_iff.1 infoJet
  simp only [Prod.mk.injEq] at hz
  obtain ⟨hz0, hz1, hz2⟩ := hz
  go_enter Tryz.func71, Tryz.ntmps71
  go_wp2
  go_loopw [8, 15] (fun v i wr => ∃ (k : Nat) (V : Option Addr) (cv : Nat) (js : List Jt) (vs : List Value), k ≤ n ∧ i = .int .i64 k ∧ v = .slice V k cv ∧ Hid (evalJ vars (ns.take k) = (js, 0)) ∧ Hid (wr.ownsRow w.heap.size 64 1 (.slice V k cv) k vs) ∧ Hid (PartsJ 105 103 wr V js vs) ∧ Hid (Free wr V) ∧ Hid (Below w.heap.size w wr)) (fun _ i _ => n - (intOf i).toNat)
  case atStart => exact ⟨0, none, 0, [], [], Nat.zero_le _, rfl, rfl, Lib.hid rfl, Lib.hid (World.ownsRow_nil _ _ _ _), Lib.hid (PartsJ.nil _ _ _ _), Lib.hid (Free.nil _), Lib.hid (Below.refl _ _)⟩
  case round =>
    obtain ⟨k, V, cv, js, vs, hk, rfl, rfl, HEV, HO, HP, HF, HB⟩ := hrel
    by_cases hlt : k < n
    · obtain ⟨b, o, rfl, _, hP, hc⟩ := HR.out.at_ (by omega)
      obtain ⟨q0, q1, q2, q3⟩ := hc k hlt
      have hkN : (k : Int) < n := by omega
      have hkl : k < ns.length := by rw [HLN.out]; exact hlt
      have HGK := Lib.hid (HG.out k hlt)
      have HL2 := Lib.hid (js_L2 (by decide : 2 ≤ 2) HD.out (by omega) HEV.out)
      have HNO := Lib.hid (fun h => js_none hkl HEV.out h)
      have HFU := Lib.hid (fun j h h' => js_full (j := j) hkl HEV.out h h')
      have HMO := Lib.hid (fun j h h' => js_more (j := j) hkl HEV.out h h')
      have HDP := Lib.hid (fun x j h => js_dep (x := x) (j := j) HD.out (by omega) HEV.out h)
      have hbs := HB.out.size
      obtain ⟨x, hx⟩ : ∃ x, ns.getD k nd0 = x := ⟨_, rfl⟩
      rw [hx] at q0 q1 q2 q3 HGK HNO HFU HMO
      have q0 := (HB.out.cell (p := ⟨b, o + k * 4, none⟩) hP).trans q0
      have q1 := (HB.out.cell (p := ⟨b, o + k * 4 + 1, none⟩) hP).trans q1
      have q2 := (HB.out.cell (p := ⟨b, o + k * 4 + 2, none⟩) hP).trans q2
      have q3 := (HB.out.cell (p := ⟨b, o + k * 4 + 3, none⟩) hP).trans q3
      clear hx hc hkl HEV
      obtain ⟨op, xa, xb, xn⟩ := x
      dsimp only at q0 q1 q2 q3
      go_wp2_with fail
      refine calls_at (fun W => Below wr.heap.size wr W) (below1 _ _) ?_
      rintro W bW
      have HBW := Lib.hid (below_on HB.out bW)
      have hja := jet_any (op, xa, xb, xn) vars js X V mx dx k cv W ad (HE.out.on HBW.out) (HV.out.on HBW.out) ((HP.out.rdj HO.out).on bW) HGK.out HL2.out.2
      cases hs : stepJ vars js (op, xa, xb, xn) with
      | none =>
        refine (hja.2 hs).mono ?_
        rintro e w1 ⟨v1, rfl, b1⟩
        have HB1 := Lib.hid (below_on HBW.out b1)
        have HRES := Lib.hid (HNO.out hs)
        have hgl := (HE.out.on HB1.out).1
        clear b1 bW hja hs HP HO HF HNO HFU HMO q0 q1 q2 q3
        go_wp2_with (go_at_call 106; refine (isErr_same ad _).mono ?_; rintro e w2 ⟨rfl, rfl⟩)
        refine bodyPost_ret (results_tmp2 rfl _ _ _) rfl ?_
        rw [HRES.out]
        exact ⟨none, 0, rfl, rdj_nil _ _ _ _ _, HB1.out⟩
      | some j =>
        refine (hja.1 j hs).mono ?_
        rintro e w1 ⟨t1, x1, rfl, j1, b1⟩
        have bWw := below_on bW b1
        have HB1 := Lib.hid (below_on HBW.out b1)
        have HJ1 := Lib.hid j1
        have HO1 := Lib.hid (own_keep3 HO.out bWw)
        have HP1 := Lib.hid (HP.out.on bWw)
        have HF1 := Lib.hid (HF.out.on bWw (own_ltF HO.out))
        have HLJ := Lib.hid (step_L2 HGK.out.1 HL.out HL2.out.2 hs)
        have hdj := HDP.out _ j hs
        have HFUL := Lib.hid (fun h => HFU.out j hs h)
        have HMOR := Lib.hid (fun h => HMO.out j hs h)
        have hgl := (HE.out.on HB1.out).1
        have hs1 : wr.heap.size ≤ w1.heap.size := bWw.size
        clear b1 bW bWw hja hs HP HO HF HNO HFU HMO HDP HL2 HGK q0 q1 q2 q3 j1
        go_upto_region 8 with (go_at_call 106; refine (isErr_nil ad _).mono ?_; rintro e w2 ⟨rfl, rfl⟩)
        clear hgl
        obtain ⟨K, k1, k2, k3⟩ := fits_any j t1 x1 _ _ HJ1.out (HLJ.out.each (by omega) (by omega) (by omega) (by omega))
        rcases k1 with rfl | rfl
        all_goals (
          generalize hfj : fitsJ j = fj at *
          cases fj
          · go_wp2_with (first | (go_at_call_of 192 x1; refine (k3 _ (Below.refl _ _)).mono ?_; rintro e w2 ⟨rfl, bf⟩; have HB2 := Lib.hid (below_on HB1.out bf)) | (go_at_call_of 189 x1; refine (k3 _ (Below.refl _ _)).mono ?_; rintro e w2 ⟨rfl, bf⟩; have HB2 := Lib.hid (below_on HB1.out bf)))
            refine bodyPost_ret (results_tmp2 rfl _ _ _) rfl ?_
            rw [HFUL.out (by simp)]
            exact ⟨none, 0, rfl, rdj_nil _ _ _ _ _, HB2.out⟩
          · go_upto_region 10 with (first | (go_at_call_of 192 x1; refine (k3 _ (Below.refl _ _)).mono ?_; rintro e w2 ⟨rfl, bf⟩; have HB2 := Lib.hid (below_on HB1.out bf)) | (go_at_call_of 189 x1; refine (k3 _ (Below.refl _ _)).mono ?_; rintro e w2 ⟨rfl, bf⟩; have HB2 := Lib.hid (below_on HB1.out bf)))
            have HJ2 := Lib.hid (HJ1.out.on bf)
            have HO2 := Lib.hid (own_keep3 HO1.out bf)
            have HF2 := Lib.hid (HF1.out.on bf (own_ltF HO1.out))
            have HP2 := Lib.hid ((HP1.out.on bf).snoc (HJ2.out.beside HF2.out))
            have hs2 := bf.size
            clear bf HJ1 HO1 HF1 HP1 HJ2 HB1
            go_wp2_with (at_builtin; refine wpList_append_free _ rfl _ _ 96 rfl w.heap.size 64 i0 _ 1 16 Tryz.underlying96 hi0 hz0 hz1 hz2 rfl (by decide) (by decide) _ k _ vs rfl (HO2.out.alloc _) ⟨w2.heap.size, 0, none⟩ 1 1 [.iface t1 x1] rfl rfl (cellJ _ _ _) (oneJ _ _) (by simp [noInt]) (by decide) (by unfold maxLen; omega) (by omega) (by simp; omega) (HF2.out.on (below1 _ _) (own_ltF HO2.out)) _ rfl ?_; intro g' cv' w3 hown hgrow hat hfree)
            have hlit := below1 w2 (.cells #[.iface t1 x1] 64)
            have HO3 : Hid (w3.ownsRow w.heap.size 64 1 (.slice (some ⟨g', 0, none⟩) (k + 1) cv') (k + 1) (vs ++ [.iface t1 x1])) := hown
            have HP3 := Lib.hid ((HP2.out.on hlit).appended (HO2.out.alloc _) hgrow hat)
            have HF3 := Lib.hid hfree
            have HB3 := Lib.hid ((below_on HB2.out hlit).trans (row1_below (HO2.out.alloc _) (by simp; omega) hgrow))
            clear hown hgrow hat hfree hlit HP2 HO2 HF2 HB2
            go_wp2
            go_roundw
            case rel => exact ⟨k + 1, _, _, _, _, by omega, by go_num, rfl, Lib.hid (HMOR.out (by simp)), HO3, HP3, HF3, HB3⟩
            case measure => simp [intOf]; omega)
    · obtain rfl : k = n := by omega
      have HT : Hid (evalJ vars ns = (js, 0)) := by
        show _ = _
        rw [← HEV.out, List.take_of_length_le (by rw [HLN.out]; exact Nat.le_refl _)]
      have hjl : js.length = k := by rw [HP.out.1]; have := HO.out.1; omega
      have HJ := Lib.hid (HP.out.rdj HO.out)
      clear HEV HP HO HF
      go_wp2
      refine bodyPost_ret (results_tmp2 rfl _ _ _) rfl ?_
      rw [HT.out, SayJs]
      dsimp only
      rw [hjl]
      exact ⟨V, cv, rfl, HJ.out, HB.out⟩
end Go.Proofs.YtifepoefeamboaaGreatDoor
