/-
  Vectors of the model: l03Ask, l03Fit, ScaleVec.
-/
import Derived.Test.YtlphcpkhclfkaaaScaleVec
import Derived.Test.YtlphcpkhclfkaaaSpecVecA
namespace Go.Proofs.Ytlphcpkhclfkaaa
open Go Go.RowKit Nt

set_option maxHeartbeats 3200000 in
theorem l03Fit_any (ps : List Rat) (X : Option Addr) (n c : Nat) (P' : Nat → Prop) (w : World) (hx : RdS w P' X n c (ps.map rat3)) (hl : ∀ p ∈ ps, (D (nu p)).length ≤ 16777216 ∧ (D p.den).length ≤ 16777216) (hn : n ≤ 100) :
    Calls Try.prog 67 #[.slice X n c] w (SayVC w (fV ps) (fVK ps)) := by
  have HX := Lib.hid hx.low
  have HQ := Lib.hid hl
  have HL : Hid (ps.length = n) := by have := hx.len; rw [List.length_map] at this; exact this
  clear hx hl
  go_enter Try.func67, Try.ntmps67
  go_wp2
  go_loopw [4, 5] (fun v i wr => ∃ (k : Nat) (V : Option Addr) (cv : Nat) (L : List EV), k ≤ n ∧ i = .int .i64 k ∧ v = .slice V k cv ∧ Hid (∀ j, j < k → fitQ (ps.getD j 0)) ∧ Hid (L.map EV.v3 = (ps.take k).map rat3) ∧ Hid (wr.ownsRow w.heap.size 28 3 (.slice V k cv) k (flat L)) ∧ Hid (PartsRd wr V L) ∧ Hid (Below w.heap.size w wr)) (fun _ i _ => n - (intOf i).toNat)
  case atStart => exact ⟨0, _, 0, [], Nat.zero_le _, rfl, rfl, Lib.hid (fun j hj => by omega), Lib.hid rfl, Lib.hid (World.ownsRow_lit _ #[] 0 (Nat.le_refl _) (by decide) rfl), Lib.hid (fun i hi => by simp at hi), Lib.hid ((Below.refl _ _).alloc (Nat.le_refl _) _)⟩
  case round =>
    obtain ⟨k, V, cv, L, hk, rfl, rfl, HFt, HV, HO, HP, HB⟩ := hrel
    by_cases hlt : k < n
    · obtain ⟨b, o, rfl, hP, _, hc⟩ := HX.out.at_ (by omega)
      obtain ⟨Ai, da, Bi, db, q0, q1, q2, hrd⟩ := hc k hlt
      have hkq : k < ps.length := by rw [HL.out]; exact hlt
      rw [getD_rat ps k hkq] at q0 q1 q2 hrd
      have c0 := (HB.out.cell (p := ⟨b, o + k * 3, none⟩) hP).trans q0
      have c1 := (HB.out.cell (p := ⟨b, o + k * 3 + 1, none⟩) hP).trans q1
      have c2 := (HB.out.cell (p := ⟨b, o + k * 3 + 2, none⟩) hP).trans q2
      have HTK := Lib.hid (take_map_snoc ps rat3 k hkq)
      have hfin : (D (nu (ps.getD k 0))).length ≤ 16777216 ∧ (D (ps.getD k 0).den).length ≤ 16777216 := HQ.out _ (by rw [show ps.getD k 0 = ps[k] from by simp [List.getD, hkq]]; exact List.getElem_mem hkq)
      have HRD := Lib.hid hrd
      have hkN : (k : Int) < n := by omega
      have HYES : Hid (fitQ (ps.getD k 0) → ∀ j, j < k + 1 → fitQ (ps.getD j 0)) := fun h j hj => by
        by_cases e : j = k
        · subst e; exact h
        · exact HFt.out j (by omega)
      have HNO : Hid (¬ fitQ (ps.getD k 0) → fV ps = [] ∧ fVK ps = 7) := fun h => fV_no hkq h
      clear q0 q1 q2 hc hrd hkq
      generalize ps.getD k 0 = p at *
      simp only [rat3] at c0 c1 c2
      have hbs := HB.out.size
      go_wp2_with fail
      by_cases hf : fitQ p
      · have HFt1 := Lib.hid (HYES.out hf)
        have hf2 : (D (nu p)).length ≤ 40 ∧ (D p.den).length ≤ 40 := hf
        refine (l02Fits_yes (isNeg p) Ai Bi _ da _ db wr hf2.1 hf2.2).mono ?_
        rintro e w1 ⟨rfl, b1⟩
        have HB1 := Lib.hid (below_on HB.out b1)
        have HO1 := Lib.hid (own_keep3 HO.out b1)
        have HP1 := Lib.hid (HP.out.on b1)
        have c0 := (b1.cell (p := ⟨b, o + k * 3, none⟩) (by show b < _; omega)).trans c0
        have c1 := (b1.cell (p := ⟨b, o + k * 3 + 1, none⟩) (by show b < _; omega)).trans c1
        have c2 := (b1.cell (p := ⟨b, o + k * 3 + 2, none⟩) (by show b < _; omega)).trans c2
        have hs1 := b1.size
        clear b1 HYES HNO HFt HO HP HB
        go_wp2_with fail
        refine (l02Own_new (isNeg p) Ai Bi da db (D (nu p)) (D p.den) _ w1 (RdR.below HRD.out HB1.out) hfin.1 hfin.2).mono ?_
        rintro e w2 ⟨A1, c1', B1, d1, rfl, o1, b2⟩
        have HB2 := Lib.hid (below_on HB1.out b2)
        have HO2 := Lib.hid (own_keep3 HO1.out b2)
        have HN2 : Hid (RdR w2 (fun b => V ≠ some ⟨b, 0, none⟩) (D (nu p)) (D p.den) A1 c1' B1 d1) := o1.mono fun b h _ => row_ne HO1.out (Nat.le_refl _) b h
        have HP2 : Hid (PartsRd w2 V (L ++ [EV.mk (isNeg p) A1 c1' B1 d1 (D (nu p)) (D p.den)])) := (HP1.out.on b2).snoc HN2.out
        have HV2 : Hid ((L ++ [EV.mk (isNeg p) A1 c1' B1 d1 (D (nu p)) (D p.den)]).map EV.v3 = (ps.take (k + 1)).map rat3) := by
          show _ = _
          rw [List.map_append, HV.out, HTK.out]
          rfl
        have hs2 := b2.size
        clear o1 b2 HB1 HO1 HP1 HN2 HV HTK c0 c1 c2 HRD hf hf2
        obtain ⟨i0, hi0, hz0, hz1, hz2⟩ := info_parts infoRat
        go_wp2_with (at_builtin; refine wpList_append_lies _ rfl _ _ 24 rfl w.heap.size 28 i0 _ 3 56 Try.underlying24 hi0 hz0 hz1 hz2 rfl (by decide) _ k _ rfl (HO2.out.alloc _) ⟨w2.heap.size, 0, none⟩ 1 1 [.bool (isNeg p), .slice A1 (D (nu p)).length c1', .slice B1 (D p.den).length d1] rfl rfl (cells3 _ _ _ _ _ _ _ _ _) (one3 _ _ _ _ _ _ _) (by decide) (by unfold maxLen; omega) (by omega) (by simp; omega) _ rfl ?_; intro g' cv' w3 hown hgrow hat hlt2)
        have hlit := below1 w2 (.cells #[.bool (isNeg p), .slice A1 (D (nu p)).length c1', .slice B1 (D p.den).length d1] 28)
        have HO3 : Hid (w3.ownsRow w.heap.size 28 3 (.slice (some ⟨g', 0, none⟩) (k + 1) cv') (k + 1) (flat (L ++ [EV.mk (isNeg p) A1 c1' B1 d1 (D (nu p)) (D p.den)]))) := by rw [flat_snoc]; exact hown
        have HP3 : Hid (PartsRd w3 (some ⟨g', 0, none⟩) (L ++ [EV.mk (isNeg p) A1 c1' B1 d1 (D (nu p)) (D p.den)])) := (HP2.out.on hlit).appended (HO2.out.alloc _) hgrow hat
        have HB3 := Lib.hid ((below_on HB2.out hlit).trans (rowed3_below (HO2.out.alloc _) (by simp; omega) hgrow))
        clear hown hgrow hat hlt2 hlit HP2 HO2 HB2
        go_wp2
        go_roundw
        case rel => exact ⟨k + 1, _, _, _, by omega, by go_num, rfl, HFt1, HV2, HO3, HP3, HB3⟩
        case measure => simp [intOf]; omega
      · have HE := Lib.hid (HNO.out hf)
        have hf2 : 40 < (D (nu p)).length ∨ 40 < (D p.den).length := by unfold fitQ at hf; omega
        refine (l02Fits_no (isNeg p) Ai Bi _ da _ db wr hfin.1 hfin.2 hf2).mono ?_
        rintro e w1 ⟨rfl, b1⟩
        have HB1 := Lib.hid (below_on (below_on HB.out b1) (below1 w1 (.cells #[] 28)))
        clear b1 HYES HNO HFt HO HP HB HV HTK c0 c1 c2 HRD hf hf2
        go_wp2
        go_ret2
        rw [HE.out.1, HE.out.2]
        exact ⟨_, 0, rfl, ⟨rfl, Nat.le_refl _, (fun h => by cases h), fun h => absurd h (Nat.lt_irrefl _)⟩, HB1.out⟩
    · obtain rfl : k = n := by omega
      have HF : Hid (fV ps = ps.map rat3 ∧ fVK ps = 0) := fV_yes fun j hj => HFt.out j (by have := HL.out; omega)
      have HV' : Hid (RdS wr (fun _ => True) V k cv (ps.map rat3)) := by
        have := HP.out.rds HO.out
        rw [HV.out, List.take_of_length_le (by rw [HL.out]; exact Nat.le_refl _)] at this
        exact this
      clear HV HFt
      go_wp2
      go_ret2
      rw [HF.out.1, HF.out.2]
      refine ⟨V, cv, ?_, ?_, HB.out⟩
      · rw [List.length_map, HL.out]; rfl
      · rw [List.length_map, HL.out]; exact HV'.out
end Go.Proofs.Ytlphcpkhclfkaaa
