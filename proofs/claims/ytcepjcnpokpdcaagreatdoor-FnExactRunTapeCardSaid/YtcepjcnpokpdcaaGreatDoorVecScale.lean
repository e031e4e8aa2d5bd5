/-
  A vector times a number: scaled of the program; and what of a vector is not too long: fittedVec of the program, l03Fit of the model.
-/
import Derived.Test.YtcepjcnpokpdcaaGreatDoorVecOps
import Derived.Test.YtcepjcnpokpdcaaGreatDoorNewArith
import Derived.Test.YtcepjcnpokpdcaaGreatDoorGrpD
import Derived.Deep.AppendLies
namespace Nt
open Go Go.RowKit
theorem take_map_snoc (qs : List Rat) (f : Rat → R3) (k : Nat) (h : k < qs.length) : (qs.take (k + 1)).map f = (qs.take k).map f ++ [f (qs.getD k 0)] := by
  rw [List.take_succ_eq_append_getElem h, List.map_append]
  simp [List.getD, h]
theorem cells3 (w : World) (t : TypeId) (x : Bool) (A : Option Addr) (n c : Nat) (B : Option Addr) (m d : Nat) : ∀ j u, [Value.bool x, .slice A n c, .slice B m d][j]? = some u → (w.alloc (.cells #[.bool x, .slice A n c, .slice B m d] t)).cell? ((⟨w.heap.size, 0, none⟩ : Addr).add j) = some u := by
  intro j u hj
  have h := RatAt.new w t x A B n c m d
  rw [add_none]
  match j, hj with
  | 0, hj => simp at hj; subst hj; exact h.c0
  | 1, hj => simp at hj; subst hj; exact h.c1
  | 2, hj => simp at hj; subst hj; exact h.c2
  | (k + 3), hj => simp at hj
theorem cells3b (w : World) (t : TypeId) (x : Bool) (A : Option Addr) (n c : Nat) (B : Option Addr) (m d H : Nat) (hH : w.heap.size = H) : ∀ j u, [Value.bool x, .slice A n c, .slice B m d][j]? = some u → (w.alloc (.cells #[.bool x, .slice A n c, .slice B m d] t)).cell? ((⟨H, 0, none⟩ : Addr).add j) = some u := by
  subst hH
  exact cells3 w t x A n c B m d
/-- a vector's answer: what is too long is told -/
def fV (ps : List Rat) : List R3 := if ps.all (fun p => decide (fitQ p)) then ps.map rat3 else []
def fVK (ps : List Rat) : Int := if ps.all (fun p => decide (fitQ p)) then 0 else 7
theorem fV_no {ps : List Rat} {k : Nat} (hk : k < ps.length) (h : ¬ fitQ (ps.getD k 0)) : fV ps = [] ∧ fVK ps = 7 := by
  have e : ps.all (fun p => decide (fitQ p)) = false := by
    rw [Bool.eq_false_iff]
    intro ha
    rw [List.all_eq_true] at ha
    have e : ps.getD k 0 = ps[k] := by simp [List.getD, hk]
    rw [e] at h
    exact h (of_decide_eq_true (ha _ (List.getElem_mem hk)))
  unfold fV fVK
  rw [e]
  exact ⟨rfl, rfl⟩
theorem fV_yes {ps : List Rat} (h : ∀ j, j < ps.length → fitQ (ps.getD j 0)) : fV ps = ps.map rat3 ∧ fVK ps = 0 := by
  have e : ps.all (fun p => decide (fitQ p)) = true := by
    rw [List.all_eq_true]
    intro p hp
    obtain ⟨i, hi, rfl⟩ := List.mem_iff_getElem.1 hp
    have := h i hi
    rw [show ps.getD i 0 = ps[i] from by simp [List.getD, hi]] at this
    exact decide_eq_true this
  unfold fV fVK
  rw [e]
  exact ⟨rfl, rfl⟩
/-- a vector of the call's own, and a code -/
def RetVC (tr ti : TypeId) (w : World) (rs : List R3) (code : Int) (e : Ending) (w' : World) : Prop :=
  ∃ V d L, e = .returned (.tuple #[.slice V rs.length d, .int .i64 code]) ∧ OwnV tr ti w' w.heap.size V rs.length d L ∧ L.map EV.v3 = rs ∧ Below w.heap.size w w'
/-- a vector that can be read, and a code -/
def SayVC (w : World) (rs : List R3) (code : Int) (e : Ending) (w' : World) : Prop :=
  ∃ V d, e = .returned (.tuple #[.slice V rs.length d, .int .i64 code]) ∧ RdS w' (fun _ => True) V rs.length d rs ∧ Below w.heap.size w w'
theorem one3 (x : Bool) (A : Option Addr) (n c : Nat) (B : Option Addr) (m d : Nat) : ∀ u ∈ [Value.bool x, .slice A n c, .slice B m d], u.oneCell' = true := by
  intro u hu
  simp at hu
  rcases hu with rfl | rfl | rfl <;> rfl
/-- elements that can be read beside a row of the call's own -/
def PartsRd (w : World) (V : Option Addr) (L : List EV) : Prop := ∀ i, i < L.length → RdR w (fun b => V ≠ some ⟨b, 0, none⟩) (L.getD i e0).xs (L.getD i e0).ys (L.getD i e0).A (L.getD i e0).ca (L.getD i e0).B (L.getD i e0).cb
theorem PartsRd.on {w w' : World} {V : Option Addr} {L : List EV} (h : PartsRd w V L) (hb : Below w.heap.size w w') : PartsRd w' V L := fun i hi => (h i hi).on hb
theorem PartsRd.snoc {w : World} {V : Option Addr} {L : List EV} {r : EV} (h : PartsRd w V L) (hr : RdR w (fun b => V ≠ some ⟨b, 0, none⟩) r.xs r.ys r.A r.ca r.B r.cb) : PartsRd w V (L ++ [r]) := by
  intro i hi
  by_cases e : i < L.length
  · rw [getD_snoc_lt L r i e]; exact h i e
  · obtain rfl : i = L.length := by simp at hi; omega
    rw [getD_snoc_eq]; exact hr
theorem PartsRd.appended {w w' : World} {base k cv g tr : Nat} {V : Option Addr} {vs : List Value} {L : List EV} (h : PartsRd w V L) (ho : w.ownsRow base tr 3 (.slice V k cv) k vs) (hg : w.grownBy w' (Value.slice V k cv).ownBlock) (hat : (Value.slice V k cv).ownBlock = some g ∨ g = w.heap.size) : PartsRd w' (some ⟨g, 0, none⟩) L :=
  fun i hi => (h i hi).appended ho hg hat
theorem row_ne {w : World} {base k cv tr N : Nat} {V : Option Addr} {vs : List Value} (ho : w.ownsRow base tr 3 (.slice V k cv) k vs) (hN : w.heap.size ≤ N) : ∀ b, N ≤ b → V ≠ some ⟨b, 0, none⟩ := by
  rintro b hb rfl
  have := (ho.lt b rfl).2
  omega
theorem PartsRd.rds {w : World} {base n c tr : Nat} {V : Option Addr} {L : List EV} (h : PartsRd w V L) (ho : w.ownsRow base tr 3 (.slice V n c) n (flat L)) : RdS w (fun _ => True) V n c (L.map EV.v3) :=
  rds_of ho _ (fun _ _ => trivial) fun i hi => (h i hi).mono fun _ _ _ => trivial
end Nt
namespace Go.Proofs.YtcepjcnpokpdcaaGreatDoor
open Go Go.RowKit Nt

set_option maxHeartbeats 3200000 in
theorem fittedVec_any (ps : List Rat) (X : Option Addr) (n c : Nat) (P' : Nat → Prop) (w : World) (hx : RdS w P' X n c (ps.map rat3)) (hl : ∀ p ∈ ps, (D (nu p)).length ≤ 16777216 ∧ (D p.den).length ≤ 16777216) (hn : n ≤ 100) :
    Calls Tryz.prog 89 #[.slice X n c] w (RetVC 31 3 w (fV ps) (fVK ps)) := by
  have HX := Lib.hid hx.low
  have HQ := Lib.hid hl
  have HL : Hid (ps.length = n) := by have := hx.len; rw [List.length_map] at this; exact this
  clear hx hl
  go_enter Tryz.func89, Tryz.ntmps89
  go_wp2
  go_loopw [4, 11] (fun v i wr => ∃ (k : Nat) (V : Option Addr) (cv : Nat) (L : List EV), k ≤ n ∧ i = .int .i64 k ∧ v = .slice V k cv ∧ Hid (∀ j, j < k → fitQ (ps.getD j 0)) ∧ Hid (L.map EV.v3 = (ps.take k).map rat3) ∧ Hid (wr.ownsRow w.heap.size 31 3 (.slice V k cv) k (flat L)) ∧ Hid (Parts 3 wr w.heap.size L) ∧ Hid (Below w.heap.size w wr)) (fun _ i _ => n - (intOf i).toNat)
  case atStart => exact ⟨0, none, 0, [], Nat.zero_le _, rfl, rfl, Lib.hid (fun j hj => by omega), Lib.hid rfl, Lib.hid (World.ownsRow_nil _ _ _ _), Lib.hid ⟨fun i hi => by simp at hi, fun i j _ hj => by simp at hj⟩, Lib.hid (Below.refl _ _)⟩
  case round =>
    obtain ⟨k, V, cv, L, hk, rfl, rfl, HFt, HV, HO, HP, HB⟩ := hrel
    by_cases hlt : k < n
    · obtain ⟨b, o, rfl, hP, _, hc⟩ := HX.out.at_ (by omega)
      obtain ⟨Ai, da, Bi, db, q0, q1, q2, hrd⟩ := hc k hlt
      have hkq : k < ps.length := by rw [HL.out]; exact hlt
      rw [getD_rat ps k hkq] at q0 q1 q2 hrd
      have c0 := (HB.out.cell (p := ⟨b, o + k * 3, none⟩) hP).trans q0
      have c1 := (HB.out.cell (p := ⟨b, o + k * 3 + 1, none⟩) hP).trans q1
      have c2 := (HB.out.cell (p := ⟨b, o + k * 3 + 2, none⟩) hP).trans q2
      have HTK := Lib.hid (take_map_snoc ps rat3 k hkq)
      have hfin : (D (nu (ps.getD k 0))).length ≤ 16777216 ∧ (D (ps.getD k 0).den).length ≤ 16777216 := HQ.out _ (by rw [show ps.getD k 0 = ps[k] from by simp [List.getD, hkq]]; exact List.getElem_mem hkq)
      have HRD := Lib.hid hrd
      have hkN : (k : Int) < n := by omega
      have HYES : Hid (fitQ (ps.getD k 0) → ∀ j, j < k + 1 → fitQ (ps.getD j 0)) := fun h j hj => by
        by_cases e : j = k
        · subst e; exact h
        · exact HFt.out j (by omega)
      have HNO : Hid (¬ fitQ (ps.getD k 0) → fV ps = [] ∧ fVK ps = 7) := fun h => fV_no hkq h
      clear q0 q1 q2 hc hrd hkq
      generalize ps.getD k 0 = p at *
      simp only [rat3] at c0 c1 c2
      have hbs := HB.out.size
      go_wp2_with fail
      refine calls_at (fun W => Below wr.heap.size wr W ∧ W.heap.size = wr.heap.size + 1) ⟨below1 _ _, by simp⟩ ?_
      rintro W ⟨bW, sW⟩
      have HBW1 := Lib.hid (below_on HB.out bW)
      refine (fitted_any p Ai Bi da db _ W (RdR.below HRD.out HBW1.out) hfin.1 hfin.2).mono ?_
      rintro e w1 ⟨A1, c1', B1, d1, rfl, o1, b1⟩
      have bWw := below_on bW b1
      have HB1 := Lib.hid (below_on HBW1.out b1)
      have hs1 : wr.heap.size + 1 ≤ w1.heap.size := by have := b1.size; omega
      by_cases hf : fitQ p
      · have e1 : fN p = isNeg p := by unfold fN; rw [if_pos hf]
        have e2 : fX p = D (nu p) := by unfold fX; rw [if_pos hf]
        have e3 : fY p = D p.den := by unfold fY; rw [if_pos hf]
        have e4 : fK p = 0 := by unfold fK; rw [if_pos hf]
        rw [e2, e3] at o1
        rw [e1, e2, e3, e4]
        have HO1 := Lib.hid (own_keep3 HO.out bWw)
        have HN1 : Hid (OwnE 3 w1 W.heap.size (EV.mk (isNeg p) A1 c1' B1 d1 (D (nu p)) (D p.den))) := o1
        have HP1 : Hid (Parts 3 w1 w.heap.size (L ++ [EV.mk (isNeg p) A1 c1' B1 d1 (D (nu p)) (D p.den)])) :=
          parts_snoc (fun i hi => (HP.out.1 i hi).on bWw) HP.out.2 (fun i hi g hg => by have := OwnR.lt (HP.out.1 i hi) g hg; omega) HN1.out (by omega)
        have HV1 : Hid ((L ++ [EV.mk (isNeg p) A1 c1' B1 d1 (D (nu p)) (D p.den)]).map EV.v3 = (ps.take (k + 1)).map rat3) := by
          show _ = _
          rw [List.map_append, HV.out, HTK.out]
          rfl
        have HFt1 := Lib.hid (HYES.out hf)
        clear o1 b1 bW bWw HBW1 HN1 HP HV HTK HO c0 c1 c2 HRD HYES HNO HFt e1 e2 e3 e4 hf
        obtain ⟨i0, hi0, hz0, hz1, hz2⟩ := info_parts infoRat
        go_wp2_with (at_builtin; refine wpList_append_lies _ rfl _ _ 27 rfl w.heap.size 31 i0 _ 3 56 Tryz.underlying27 hi0 hz0 hz1 hz2 rfl (by decide) _ k _ rfl ((HO1.out.alloc _).alloc _) ⟨w1.heap.size + 1, 0, none⟩ 1 1 [.bool (isNeg p), .slice A1 (D (nu p)).length c1', .slice B1 (D p.den).length d1] rfl rfl (cells3b _ _ _ _ _ _ _ _ _ _ (by simp)) (one3 _ _ _ _ _ _ _) (by decide) (by unfold maxLen; omega) (by omega) (by simp; omega) _ rfl ?_; intro g' cv' w2 hown hgrow hat hlt2)
        have hlit := below_on (below1 w1 (.cells #[.bool (isNeg p), .slice A1 (D (nu p)).length c1', .slice B1 (D p.den).length d1] 31)) (below1 _ (.cells #[.bool (isNeg p), .slice A1 (D (nu p)).length c1', .slice B1 (D p.den).length d1] 31))
        have HO2 : Hid (w2.ownsRow w.heap.size 31 3 (.slice (some ⟨g', 0, none⟩) (k + 1) cv') (k + 1) (flat (L ++ [EV.mk (isNeg p) A1 c1' B1 d1 (D (nu p)) (D p.den)]))) := by rw [flat_snoc]; exact hown
        have HP2 : Hid (Parts 3 w2 w.heap.size (L ++ [EV.mk (isNeg p) A1 c1' B1 d1 (D (nu p)) (D p.den)])) := ⟨fun i hi => ((HP1.out.1 i hi).on hlit).appended (by decide) ((HO1.out.alloc _).alloc _) hgrow, HP1.out.2⟩
        have HB2 := Lib.hid ((below_on HB1.out hlit).trans (rowed3_below ((HO1.out.alloc _).alloc _) (by simp; omega) hgrow))
        clear hown hgrow hat hlt2 hlit HP1 HO1 HB1
        go_wp2
        go_roundw
        case rel => exact ⟨k + 1, _, _, _, by omega, by go_num, rfl, HFt1, HV1, HO2, HP2, HB2⟩
        case measure => simp [intOf]; omega
      · have e4 : fK p = 7 := by unfold fK; rw [if_neg hf]
        rw [e4]
        have HE := Lib.hid (HNO.out hf)
        generalize fX p = xs' at *
        generalize fY p = ys' at *
        generalize fN p = n' at *
        have HBL := Lib.hid (below_on HB1.out (below1 w1 (.cells #[.bool n', .slice A1 xs'.length c1', .slice B1 ys'.length d1] 31)))
        clear o1 b1 bW bWw HBW1 HP HV HTK HO c0 c1 c2 HRD HYES HNO HFt e4 hf HB1
        go_wp2
        go_ret2
        rw [HE.out.1, HE.out.2]
        exact ⟨none, 0, [], rfl, ⟨World.ownsRow_nil _ _ _ _, fun i hi => by simp at hi, fun i j _ hj => by simp at hj⟩, rfl, HBL.out⟩
    · obtain rfl : k = n := by omega
      have HF : Hid (fV ps = ps.map rat3 ∧ fVK ps = 0) := fV_yes fun j hj => HFt.out j (by have := HL.out; omega)
      have HV' : Hid (L.map EV.v3 = ps.map rat3) := by
        show _ = _
        rw [HV.out, List.take_of_length_le (by rw [HL.out]; exact Nat.le_refl _)]
      clear HV HFt
      go_wp2
      go_ret2
      rw [HF.out.1, HF.out.2]
      refine ⟨V, cv, L, ?_, ?_, HV'.out, HB.out⟩
      · rw [List.length_map, HL.out]; rfl
      · rw [List.length_map, HL.out]; exact ⟨HO.out, HP.out.1, HP.out.2⟩
end Go.Proofs.YtcepjcnpokpdcaaGreatDoor
