/-
  SameVec of the program and of the model.
-/
import Derived.Test.YtbheljjcchaglaaVecSame
import Derived.Deep.RegionHeld3
namespace Nt
open Go Go.RowKit
def sameVV (rs ss : List R3) : Bool := okV rs && okV ss && decide (rs = ss)
theorem vcode2 (n m : Nat) (rs ss : List R3) : vcode 2 (fun i => if i = 0 then n else m) (fun i => if i = 0 then rs else ss) = askV n m rs ss := by
  unfold vcode askV
  simp only [List.range_succ, List.range_zero, List.nil_append, List.cons_append, List.any_cons, List.any_nil, Bool.or_false, if_true, Nat.succ_ne_zero, if_false]
  by_cases h : 4096 < n ∨ 4096 < m
  · rw [if_pos h, if_pos]
    simp only [Bool.or_eq_true, decide_eq_true_eq]
    exact h
  · rw [if_neg h, if_neg (by simp only [Bool.or_eq_true, decide_eq_true_eq]; exact h)]
    cases h1 : okV rs <;> cases h2 : okV ss <;> simp
    by_cases e : n = m
    · simp [e]
    · simp [e, Ne.symm e]
theorem sameVV_no {n m : Nat} {rs ss : List R3} (h1 : rs.length = n) (h2 : ss.length = m) (h : askV n m rs ss ≠ 0) : sameVV rs ss = false := by
  unfold sameVV
  unfold askV at h
  cases hr : okV rs
  · simp
  · cases hs : okV ss
    · simp
    · have l1 := (okV_out hr).2.1
      have l2 := (okV_out hs).2.1
      rw [if_neg (by omega), hr, hs] at h
      have hne : n ≠ m := by
        intro e
        rw [if_pos (by decide), if_neg (by omega)] at h
        exact h rfl
      simp
      intro e
      exact hne (by rw [← h1, ← h2, e])
theorem sameVV_yes {n m : Nat} {rs ss : List R3} (h : askV n m rs ss = 0) : okV rs = true ∧ okV ss = true ∧ n = m ∧ sameVV rs ss = decide (rs = ss) := by
  unfold askV at h
  by_cases hb : 4096 < n ∨ 4096 < m
  · rw [if_pos hb] at h; cases h
  · rw [if_neg hb] at h
    cases hr : okV rs
    · rw [hr] at h; simp at h
    · cases hs : okV ss
      · rw [hr, hs] at h; simp at h
      · rw [hr, hs] at h
        by_cases e : n = m
        · exact ⟨rfl, rfl, e, by unfold sameVV; rw [hr, hs]; rfl⟩
        · rw [if_pos (by decide), if_pos e] at h; cases h
theorem two_cells (w : World) (t : TypeId) (x y : Value) : ∀ i, i < 2 → (w.alloc (.cells #[x, y] t)).cell? ⟨w.heap.size, i, none⟩ = some (if i = 0 then x else y) := by
  intro i hi
  rw [cell_of_row _ _ _ _ t (0, 0) (heap_alloc_new w _)]
  match i, hi with
  | 0, _ => rfl
  | 1, _ => rfl
end Nt
namespace Go.Proofs.Ytbheljjcchaglaa
open Go Go.RowKit Nt

theorem alike_any (X : Option Addr) (Y : Option Addr) (N cx cy : Nat) (rs ss : List R3) (P P' : Nat → Prop) (w : World) (hx : RdS w P X N cx rs) (hy : RdS w P' Y N cy ss) (hrs : rs.all ok3 = true) (hss : ss.all ok3 = true) (h0 : 0 < N) (hN : N ≤ 100) :
    Calls Try.prog 52 #[.slice X N cx, .slice Y N cy] w fun e w' => e = .returned (.bool (decide (rs = ss))) ∧ Below w.heap.size w w' := by
  have HF := Lib.hid (foldSame_in X Y N cx cy rs ss w hx.low hy.low hrs hss h0 hN)
  clear hx hy hrs hss
  go_enter Try.func52, Try.ntmps52
  go_wp2_with fail
  refine HF.out.mono ?_
  rintro e w1 ⟨rfl, b1⟩
  have HB := Lib.hid b1
  clear b1 HF
  go_wp2
  go_ret
  exact ⟨rfl, HB.out⟩

set_option maxHeartbeats 1600000 in
theorem implSameVec_any (X : Option Addr) (n c : Nat) (rs : List R3) (Y : Option Addr) (m d : Nat) (ss : List R3) (P P' : Nat → Prop) (w : World) (hx : RdS w P X n c rs) (hy : RdS w P' Y m d ss) (hs : Small rs) (hn : n ≤ 1048576) (hs' : Small ss) (hm : m ≤ 1048576) :
    Calls Try.prog 21 #[.slice X n c, .slice Y m d] w fun e w' => e = .returned (.bool (sameVV rs ss)) ∧ Below w.heap.size w w' := by
  have HX := Lib.hid hx.low
  have HY := Lib.hid hy.low
  have hlx := hx.len
  have hly := hy.len
  have HC := Lib.hid (vecCode_any w.heap.size 2 (fun i => if i = 0 then X else Y) (fun i => if i = 0 then n else m) (fun i => if i = 0 then c else d) (fun i => if i = 0 then rs else ss) (w.alloc (.cells #[.slice X n c, .slice Y m d] 32)) (by omega) (by omega) (by simp)
    (fun i hi => by
      have := two_cells w 32 (.slice X n c) (.slice Y m d) i hi
      rw [this]
      by_cases e : i = 0 <;> simp [e])
    (fun i hi => by
      by_cases e : i = 0
      · simp only [e, if_true]; exact (hx.low.below (below1 _ _)).low
      · simp only [e, if_false]; exact (hy.low.below (below1 _ _)).low)
    (fun i hi => by by_cases e : i = 0 <;> simp only [e, if_true, if_false] <;> assumption)
    (fun i hi => by by_cases e : i = 0 <;> simp only [e, if_true, if_false] <;> assumption))
  rw [vcode2] at HC
  have HBW := Lib.hid (below1 w (.cells #[.slice X n c, .slice Y m d] 32))
  clear hx hy hs hs'
  go_enter Try.func21, Try.ntmps21
  go_wp2_with fail
  refine HC.out.mono ?_
  rintro e w1 ⟨rfl, b1⟩
  have HB1 := Lib.hid (below_on HBW.out b1)
  clear b1 HC HBW
  by_cases ha : askV n m rs ss = 0
  · obtain ⟨o1, o2, rfl, e4⟩ := sameVV_yes ha
    have HV := Lib.hid e4
    have q1 := okV_out o1
    have HA1 : Hid (rs.all ok3 = true) := by unfold okV at o1; simp only [Bool.and_eq_true] at o1; exact o1.2
    have HA2 : Hid (ss.all ok3 = true) := by unfold okV at o2; simp only [Bool.and_eq_true] at o2; exact o2.2
    have HAL := Lib.hid (alike_any X Y n c d rs ss _ _ w1 (HX.out.below HB1.out) (HY.out.below HB1.out) HA1.out HA2.out (by omega) (by omega))
    rw [ha]
    clear ha e4 o1 o2 q1 HA1 HA2 hlx hly
    go_wp2_with fail
    refine HAL.out.mono ?_
    rintro e w2 ⟨rfl, b2⟩
    rw [← HV.out]
    have HB2 := Lib.hid (below_on HB1.out b2)
    clear b2 HAL
    clear HV
    go_wp2
    go_ret
    exact ⟨rfl, HB2.out⟩
  · have HV := Lib.hid (sameVV_no hlx hly ha)
    have hz : (askV n m rs ss == 0) = false := by simpa using ha
    generalize askV n m rs ss = z at *
    clear ha
    go_wp2
    go_ret
    exact ⟨ret_bool HV.out.symm, HB1.out⟩

set_option maxRecDepth 20000 in
set_option maxHeartbeats 1600000 in
theorem l03Same_any (X : Option Addr) (n c : Nat) (rs : List R3) (Y : Option Addr) (m d : Nat) (ss : List R3) (P P' : Nat → Prop) (w : World) (hx : RdS w P X n c rs) (hy : RdS w P' Y m d ss) (hrs : rs.all ok3 = true) (hss : ss.all ok3 = true) (hn : n ≤ 100) (hm : m ≤ 100) :
    Calls Try.prog 50 #[.slice X n c, .slice Y m d] w fun e w' => e = .returned (.bool (decide (rs = ss))) ∧ Below w.heap.size w w' := by
  have HLX := Lib.hid hx.len
  have HLY := Lib.hid hy.len
  by_cases he : n = m
  · subst he
    have hbe : ((n : Int) != (n : Int)) = false := by simp
    obtain ⟨ps, rfl, hfp⟩ := all_out hrs
    obtain ⟨qs, rfl, hfq⟩ := all_out hss
    have HX := Lib.hid hx.low
    have HY := Lib.hid hy.low
    have HFP := Lib.hid hfp
    have HFQ := Lib.hid hfq
    have HLP : Hid (ps.length = n) := by have := HLX.out; rw [List.length_map] at this; exact this
    have HLQ : Hid (qs.length = n) := by have := HLY.out; rw [List.length_map] at this; exact this
    clear hx hy hrs hss hfp hfq HLX HLY
    go_enter Try.func50, Try.ntmps50
    go_wp2
    go_loopw [5] (fun i wr => ∃ k : Nat, k ≤ n ∧ i = .int .i64 k ∧ Hid (∀ j, j < k → rat3 (ps.getD j 0) = rat3 (qs.getD j 0)) ∧ Hid (Below w.heap.size w wr)) (fun i _ => n - (intOf i).toNat)
    case atStart => exact ⟨0, Nat.zero_le _, rfl, Lib.hid (fun j hj => by omega), Lib.hid (Below.refl _ _)⟩
    case round =>
      obtain ⟨k, hk, rfl, HS, HB⟩ := hrel
      by_cases hlt : k < n
      · obtain ⟨b, o, rfl, hP, _, hc⟩ := HX.out.at_ (by omega)
        obtain ⟨b', o', rfl, hP', _, hc'⟩ := HY.out.at_ (by omega)
        obtain ⟨Ai, ca, Bi, cb, q0, q1, q2, hrd⟩ := hc k hlt
        obtain ⟨Ai', ca', Bi', cb', q0', q1', q2', hrd'⟩ := hc' k hlt
        have hkp : k < ps.length := by rw [HLP.out]; exact hlt
        have hkq : k < qs.length := by rw [HLQ.out]; exact hlt
        rw [getD_rat ps k hkp] at q0 q1 q2 hrd
        rw [getD_rat qs k hkq] at q0' q1' q2' hrd'
        have HC0 : Hid (C3 wr b (o + k * 3) (isNeg (ps.getD k 0)) Ai (D (nu (ps.getD k 0))).length ca Bi (D (ps.getD k 0).den).length cb) := C3.below (w := w) ⟨q0, q1, q2⟩ hP HB.out
        have HC0' : Hid (C3 wr b' (o' + k * 3) (isNeg (qs.getD k 0)) Ai' (D (nu (qs.getD k 0))).length ca' Bi' (D (qs.getD k 0).den).length cb') := C3.below (w := w) ⟨q0', q1', q2'⟩ hP' HB.out
        have hl1 := (D_len_le _ 40).2 (HFP.out.at_ k hkp).1
        have hl2 := (D_len_le _ 40).2 (HFP.out.at_ k hkp).2
        have hl3 := (D_len_le _ 40).2 (HFQ.out.at_ k hkq).1
        have hl4 := (D_len_le _ 40).2 (HFQ.out.at_ k hkq).2
        have H1 := Lib.hid (RdR.below hrd HB.out)
        have H2 := Lib.hid (RdR.below hrd' HB.out)
        have hkN : (k : Int) < n := by omega
        have HYES : Hid (rat3 (ps.getD k 0) = rat3 (qs.getD k 0) → ∀ j, j < k + 1 → rat3 (ps.getD j 0) = rat3 (qs.getD j 0)) := fun h j hj => by
          by_cases e : j = k
          · subst e; exact h
          · exact HS.out j (by omega)
        have HNO : Hid (rat3 (ps.getD k 0) ≠ rat3 (qs.getD k 0) → decide (ps.map rat3 = qs.map rat3) = false) := fun h => decide_eq_false fun e => h (by
          have := congrArg (fun l => List.getD l k r3) e
          simp only [getD_rat ps k hkp, getD_rat qs k hkq] at this
          exact this)
        have HCMP := Lib.hid (fun (W : World) (h0 : RdR W (· < w.heap.size) (D (nu (ps.getD k 0))) (D (ps.getD k 0).den) Ai ca Bi cb) (h1 : RdR W (· < w.heap.size) (D (nu (qs.getD k 0))) (D (qs.getD k 0).den) Ai' ca' Bi' cb') => l02Cmp_any (ps.getD k 0) (qs.getD k 0) Ai Bi ca cb Ai' Bi' ca' cb' _ _ W h0 h1 (by omega) (by omega) (by omega) (by omega))
        have HZ := Lib.hid (cmpQ_zero (ps.getD k 0) (qs.getD k 0))
        have hbl : b < wr.heap.size := Nat.lt_of_lt_of_le hP HB.out.size
        have hbl' : b' < wr.heap.size := Nat.lt_of_lt_of_le hP' HB.out.size
        clear q0 q1 q2 hc hrd q0' q1' q2' hc' hrd' hkp hkq
        generalize ps.getD k 0 = p at *
        generalize qs.getD k 0 = q at *
        generalize cmpQ p q = z at *
        go_wp2_with fail
        go_region_held3 (fun wx => (wx.cell? ⟨b, o + k * 3, none⟩ = some (.bool (isNeg p)) ∧ wx.cell? ⟨b, o + k * 3 + 1, none⟩ = some (.slice Ai (D (nu p)).length ca) ∧ wx.cell? ⟨b, o + k * 3 + 2, none⟩ = some (.slice Bi (D p.den).length cb)) ∧ (wx.cell? ⟨b', o' + k * 3, none⟩ = some (.bool (isNeg q)) ∧ wx.cell? ⟨b', o' + k * 3 + 1, none⟩ = some (.slice Ai' (D (nu q)).length ca') ∧ wx.cell? ⟨b', o' + k * 3 + 2, none⟩ = some (.slice Bi' (D q.den).length cb')))
          (first | exact ⟨HC0.out, HC0'.out⟩ | exact ⟨HC1.out, HC1'.out⟩)
          (first
            | (go_at_call 77; refine (HCMP.out _ (by exact H1.out) (by exact H2.out)).mono ?_; rintro e w1 ⟨rfl, bb⟩; have bb := undrew bb; have HB1 := Lib.hid (below_on HB.out bb); have HC1 := Lib.hid (HC0.out.on hbl bb); have HC1' := Lib.hid (HC0'.out.on hbl' bb)))
        by_cases hz : rat3 p = rat3 q
        · have HO := Lib.hid (HYES.out hz)
          have hzz : z = 0 := by have := HZ.out; rw [decide_eq_true hz] at this; simpa using this
          subst hzz
          clear HYES HNO HZ hz
          go_wp2
          go_roundw
          case rel => exact ⟨k + 1, by omega, by go_num, HO, HB1⟩
          case measure => simp [intOf]; omega
        · have HO := Lib.hid (HNO.out hz)
          have hzz : (z != 0) = true := by have := HZ.out; rw [decide_eq_false hz] at this; simpa using this
          clear HYES HNO HZ hz
          go_wp2
          go_ret
          exact ⟨ret_bool HO.out.symm, HB1.out⟩
      · have HF : Hid (decide (ps.map rat3 = qs.map rat3) = true) := decide_eq_true (by
          refine List.ext_getElem (by rw [List.length_map, List.length_map, HLP.out, HLQ.out]) fun i h1 h2 => ?_
          rw [List.length_map] at h1 h2
          have := HS.out i (by have := HLP.out; omega)
          simp only [List.getElem_map]
          simpa [List.getD, h1, h2] using this)
        clear HS
        go_wp2
        go_ret
        exact ⟨ret_bool HF.out.symm, HB.out⟩
  · have hbe : ((n : Int) != (m : Int)) = true := by simp; omega
    have HF : Hid (decide (rs = ss) = false) := decide_eq_false fun e => he (by rw [← HLX.out, ← HLY.out, e])
    clear hx hy hrs hss he
    go_enter Try.func50, Try.ntmps50
    go_wp2
    go_ret
    exact ⟨ret_bool HF.out.symm, Below.refl _ _⟩

set_option maxHeartbeats 1600000 in
theorem specSameVec_any (X : Option Addr) (n c : Nat) (rs : List R3) (Y : Option Addr) (m d : Nat) (ss : List R3) (P P' : Nat → Prop) (w : World) (hx : RdS w P X n c rs) (hy : RdS w P' Y m d ss) (hs : Small rs) (hn : n ≤ 1048576) (hs' : Small ss) (hm : m ≤ 1048576) :
    Calls Try.prog 20 #[.slice X n c, .slice Y m d] w fun e w' => e = .returned (.bool (sameVV rs ss)) ∧ Below w.heap.size w w' := by
  have HX := Lib.hid hx.low
  have HY := Lib.hid hy.low
  have HS := Lib.hid hs
  have HS' := Lib.hid hs'
  have hlx := hx.len
  have hly := hy.len
  clear hx hy hs hs'
  have big : ∀ (l : List R3), 4096 < l.length → okV l = false := by
    intro l hl
    unfold okV
    rw [decide_eq_false (show ¬ l.length ≤ 4 by omega)]
    simp
  by_cases h1 : 4096 < n
  · have HV : Hid (sameVV rs ss = false) := by show _ = _; unfold sameVV; rw [big rs (by omega)]; rfl
    have z1 : decide ((4096 : Int) < n) = true := by simp; omega
    clear big hlx hly
    go_enter Try.func20, Try.ntmps20
    go_wp2
    go_ret
    exact ⟨ret_bool HV.out.symm, Below.refl _ _⟩
  have z1 : decide ((4096 : Int) < n) = false := by simp; omega
  by_cases h2 : 4096 < m
  · have HV : Hid (sameVV rs ss = false) := by show _ = _; unfold sameVV; rw [big ss (by omega)]; simp
    have z2 : decide ((4096 : Int) < m) = true := by simp; omega
    clear big hlx hly
    go_enter Try.func20, Try.ntmps20
    go_wp2
    go_ret
    exact ⟨ret_bool HV.out.symm, Below.refl _ _⟩
  have z2 : decide ((4096 : Int) < m) = false := by simp; omega
  clear big h1 h2
  go_enter Try.func20, Try.ntmps20
  go_wp2_with fail
  refine (specVecOK_any X n c rs _ w HX.out HS.out hn).mono ?_
  rintro e w1 ⟨rfl, b1⟩
  have HB1 := Lib.hid b1
  clear b1
  by_cases ho : okV rs = true
  · have q1 := okV_out ho
    have HA1 : Hid (rs.all ok3 = true) := by have o1 := ho; unfold okV at o1; simp only [Bool.and_eq_true] at o1; exact o1.2
    have HV1 : Hid (sameVV rs ss = (okV ss && decide (rs = ss))) := by show _ = _; unfold sameVV; rw [ho]; simp
    rw [ho]
    clear ho
    go_wp2_with fail
    refine (specVecOK_any Y m d ss _ w1 (HY.out.below HB1.out) HS'.out hm).mono ?_
    rintro e w2 ⟨rfl, b2⟩
    have HB2 := Lib.hid (below_on HB1.out b2)
    clear b2
    by_cases ho : okV ss = true
    · have q2 := okV_out ho
      have HA2 : Hid (ss.all ok3 = true) := by have o1 := ho; unfold okV at o1; simp only [Bool.and_eq_true] at o1; exact o1.2
      have HV2 : Hid (sameVV rs ss = decide (rs = ss)) := by show _ = _; rw [HV1.out, ho, Bool.true_and]
      have HL := Lib.hid (l03Same_any X n c rs Y m d ss _ _ w2 (HX.out.below HB2.out) (HY.out.below HB2.out) HA1.out HA2.out (by omega) (by omega))
      rw [ho]
      clear ho HV1 q1 q2 HA1 HA2 hlx hly
      go_wp2_with fail
      refine HL.out.mono ?_
      rintro e w3 ⟨rfl, b3⟩
      rw [← HV2.out]
      have HB3 := Lib.hid (below_on HB2.out b3)
      clear b3 HL HV2
      go_wp2
      go_ret
      exact ⟨rfl, HB3.out⟩
    · have ho' := (Bool.not_eq_true _).mp ho
      have HV2 : Hid (sameVV rs ss = false) := by show _ = _; rw [HV1.out, ho', Bool.false_and]
      rw [ho']
      clear ho ho' HV1
      go_wp2
      go_ret
      exact ⟨ret_bool HV2.out.symm, HB2.out⟩
  · have ho' := (Bool.not_eq_true _).mp ho
    have HV2 : Hid (sameVV rs ss = false) := by show _ = _; unfold sameVV; rw [ho']; rfl
    rw [ho']
    clear ho ho'
    go_wp2
    go_ret
    exact ⟨ret_bool HV2.out.symm, HB1.out⟩
end Go.Proofs.Ytbheljjcchaglaa
