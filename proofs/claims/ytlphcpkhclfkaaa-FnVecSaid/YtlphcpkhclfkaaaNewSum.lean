/-
  Sums of rationals of the program and of the model: what they answer lies in memory of their own.
-/
import Derived.Test.YtlphcpkhclfkaaaNewArith
namespace Nt
open Go Go.RowKit
/-- a quotient in new blocks, and a rest -/
def RetQN (w : World) (q r : Nat) (e : Ending) (w' : World) : Prop :=
  ∃ A1 c1 A2 c2, e = .returned (.tuple #[.slice A1 (D q).length c1, .slice A2 (D r).length c2]) ∧ Nf w.heap.size w' A1 c1 q ∧ Nm w' A2 c2 r ∧ Below w.heap.size w w'
end Nt
namespace Go.Proofs.Ytlphcpkhclfkaaa
open Go Go.RowKit Nt

set_option maxHeartbeats 400000 in
theorem dividedLimbs_new (A B : Option Addr) (la ca lb cb m n : Nat) (P Q : Nat → Prop) (w : World) (hx0 : Rd w P A la ca (D m)) (hy0 : Rd w Q B lb cb (D n)) (hla : la ≤ 9000) (hlb : lb ≤ 9000) (hn : 0 < n) :
    Calls Try.prog 172 #[.slice A la ca, .slice B lb cb] w (RetQN w (m / n) (m % n)) := by
  have HX := Lib.hid (hx0.mono (Q := (· < w.heap.size)) fun _ _ h => h)
  have HY := Lib.hid (hy0.mono (Q := (· < w.heap.size)) fun _ _ h => h)
  have hl := hx0.len
  have hlb0 : 0 < lb := by
    rw [← hy0.len, List.length_pos_iff]
    intro e
    have := (D_nil_iff n).1 e
    omega
  subst hl
  clear hx0 hy0
  have hmk := mk_ints (D m).length (by omega)
  go_enter Try.func172, Try.ntmps172
  have HX0 := Lib.hid (HX.out.below ((Below.refl w.heap.size w).alloc (Nat.le_refl _) (.cells (cellsOf (zeros (D m).length)) 3)))
  go_upto_region 1 with fail
  go_cut [6, 7] (fun s6 s7 wx => ∃ (gq : Nat) (A1 : Option Addr) (c1 : Nat), s6 = .slice (some ⟨gq, 0, none⟩) (D m).length (D m).length ∧ s7 = .slice A1 (D m).length c1 ∧ w.heap.size ≤ gq ∧ Arr wx gq 3 (zeros (D m).length) ∧ wx.ownsRow w.heap.size 3 1 (.slice A1 (D m).length c1) (D m).length ((D m).map (Value.int .i64)) ∧ (∀ g, A1 = some ⟨g, 0, none⟩ → g ≠ gq) ∧ Below w.heap.size w wx)
  case first =>
    go_region_with (first
      | (go_at_call 162; refine (fresh_any A _ ca (D m) (· < w.heap.size) _ (by first | exact HX.out | exact HX0.out) (by omega)).mono ?_; rintro e w1 ⟨A1, c1, rfl, ho, hb⟩; have HO := Lib.hid ho; have HB := Lib.hid hb; clear ho hb))
    all_goals
      go_wp2_with fail
      go_meet
    case rel => obtain ⟨h1, h2, h3, h4⟩ := mk_first HO.out HB.out; exact ⟨_, _, _, rfl, rfl, Nat.le_refl _, h1, h2, h3, h4⟩
    case rel => obtain ⟨h1, h2, h3, h4, h5⟩ := mk_last (k := (D m).length) HO.out HB.out; exact ⟨_, _, _, rfl, rfl, h5, h1, h2, h3, h4⟩
  case rest =>
    obtain ⟨gq, A1, c1, rfl, rfl, hgq, ha, ho, hsep, hb⟩ := hcut
    have hs1 := hb.size
    have HB1 := Lib.hid hb
    have HA1 := Lib.hid ha
    have HO := Lib.hid ho
    clear ha ho hb hmk HX0
    generalize wc = w1 at *
    by_cases h0 : m = 0
    · subst h0
      have hd0 : (D 0).length = 0 := rfl
      go_wp2_with fail
      refine (divideRest_nil _ A1 B 0 c1 lb cb w1 hlb0 hlb).mono ?_
      rintro e w2 ⟨rfl, rfl⟩
      go_wp2_with fail
      refine (trimmed_any _ 0 0 [] (fun _ => True) w1 (Rd.nil_ _ _ _ _ (fun h => by cases h)) limbs_nil (by omega)).mono ?_
      rintro e w2 ⟨rfl, rfl⟩
      go_wp2_with fail
      refine (trimmed_any A1 0 c1 [] (fun _ => True) w1 ((own_rd' HO.out).mono fun _ _ _ => trivial) limbs_nil (by omega)).mono ?_
      rintro e w2 ⟨rfl, rfl⟩
      go_wp2
      go_ret2
      rw [Nat.zero_div, Nat.zero_mod]
      exact ⟨_, _, _, _, rfl, Rd.nil_ _ _ _ _ (fun h => by cases h), (own_rd' HO.out).mono fun _ _ _ => trivial, HB1.out⟩
    · have hpos : 0 < (D m).length := by
        rw [List.length_pos_iff]
        intro e
        exact h0 ((D_nil_iff m).1 e)
      obtain ⟨g, rfl, hg, hnc, hmx, hax⟩ := own_arx HO.out hpos
      have HAX := Lib.hid hax
      clear hax
      go_wp2_with fail
      refine (divideRest_x gq g (D m).length (D m).length (D m).length c1 0 (c1 - (D m).length) 3 3 (zeros (D m).length) [] (D m) [] B lb cb n w1 (by simpa using HA1.out.arx) (zeros_len _) (by simpa using HAX.out) rfl (limbs_D m) hnc ((HY.out.below HB1.out).mono fun b hb _ => by omega) hn (fun e => hsep g rfl e.symm) (Nat.le_refl _) hpos hla hlb).mono ?_
      rintro e w2 ⟨rfl, qs, rs, hql, hqm, hqv, hqa, hrl, hrm, hrv, hra, htw⟩
      rw [List.append_nil] at hqa hra
      rw [val_D] at hqv hrv
      have HNQ : Hid (natOf qs = m / n) := natOf_div hqm hqv
      have HNR : Hid (natOf rs = m % n) := natOf_mod hrm hrv
      have HB2 := Lib.hid (HB1.out.trans (htw.below (B := w.heap.size) hs1 hgq hg))
      have HRQ : Hid (Rd w2 (w.heap.size ≤ ·) (some ⟨gq, 0, none⟩) (D m).length (D m).length qs) := by
        have := hqa.rd (w.heap.size ≤ ·) hgq 0 (D m).length (D m).length (by omega) (Nat.le_refl _)
        rwa [List.drop_zero, List.take_of_length_le (by omega)] at this
      have HRR : Hid (Rd w2 (fun _ => True) (some ⟨g, 0, none⟩) (D m).length c1 rs) := by
        have := hra.rd (fun _ => True) trivial 0 (D m).length c1 (by omega) hnc
        rwa [List.drop_zero, List.take_of_length_le (by omega)] at this
      have HQM := Lib.hid hqm
      have HRM := Lib.hid hrm
      clear hql hqm hqv hqa hrl hrm hrv hra htw
      go_wp2_with fail
      refine (trimmed_any _ _ _ qs (w.heap.size ≤ ·) w2 HRQ.out HQM.out (by omega)).mono ?_
      rintro e w3 ⟨rfl, rfl⟩
      go_wp2_with fail
      refine (trimmed_any _ _ _ rs (fun _ => True) w2 HRR.out HRM.out (by omega)).mono ?_
      rintro e w3 ⟨rfl, rfl⟩
      go_wp2
      go_ret2
      rw [← HNQ.out, ← HNR.out]
      exact ⟨_, _, _, _, rfl, trim_fresh_rd HRQ.out HQM.out, trim_fresh_rd HRR.out HRM.out, HB2.out⟩


set_option maxHeartbeats 400000 in
theorem quotientLimbs_new (A B : Option Addr) (la ca lb cb m n : Nat) (P Q : Nat → Prop) (w : World) (hx0 : Rd w P A la ca (D m)) (hy0 : Rd w Q B lb cb (D n)) (hla : la ≤ 9000) (hlb : lb ≤ 9000) (hn : 0 < n) (N : Nat) (hN : N ≤ w.heap.size) :
    Calls Try.prog 116 #[.slice A la ca, .slice B lb cb] w (fun e w' => ∃ A c, e = .returned (.slice A (D (m / n)).length c) ∧ Nf N w' A c (m / n) ∧ Below w.heap.size w w') := by
  have HX := Lib.hid hx0
  have HY := Lib.hid hy0
  clear hx0 hy0
  go_enter Try.func116, Try.ntmps116
  go_wp2_with fail
  refine (dividedLimbs_new A B la ca lb cb m n _ _ w HX.out HY.out hla hlb hn).mono ?_
  rintro e w1 ⟨A1, c1, A2, c2, rfl, h1, h2, hb⟩
  have H1 : Hid (Nf N w1 A1 c1 (m / n)) := h1.mono fun _ h _ => Nat.le_trans hN h
  have HB := Lib.hid hb
  clear h1 h2 hb
  go_wp2
  go_ret
  exact ⟨A1, c1, rfl, H1.out, HB.out⟩


set_option maxRecDepth 20000 in
set_option maxHeartbeats 6400000 in
theorem plus_newc (na nb : Bool) (x y x' y' sh mi ot fi se : Nat) (ng : Bool) (nm lf qa qb dn : Nat) (hsh : Nat.gcd y y' = sh) (hmi : y / sh = mi) (hot : y' / sh = ot) (hfi : x * ot = fi) (hse : x' * mi = se) (hng : sumNeg na fi nb se = ng) (hnm : sumAbs na fi nb se = nm) (hlf : Nat.gcd nm sh = lf) (hqa : nm / lf = qa) (hqb : y' / lf = qb) (hdn : mi * qb = dn) (g0 : 0 < sh) (h0 : 0 < lf)
    (A B : Option Addr) (ca cb : Nat) (A' B' : Option Addr) (ca' cb' : Nat) (P P' : Nat → Prop) (w : World) (k0 : RdR w P (D x) (D y) A ca B cb) (k1 : RdR w P' (D x') (D y') A' ca' B' cb')
    (l1 : (D x).length ≤ 3600) (l2 : (D y).length ≤ 3600) (l3 : (D x').length ≤ 3600) (l4 : (D y').length ≤ 3600) (l5 : (D sh).length ≤ 3600) (l6 : (D mi).length ≤ 3600) (l7 : (D ot).length ≤ 3600) (l8 : (D fi).length ≤ 7200) (l9 : (D se).length ≤ 7200) (l10 : (D nm).length ≤ 7201) (l11 : (D lf).length ≤ 7201) (l12 : (D qa).length ≤ 7201) (l13 : (D qb).length ≤ 3600) :
    Calls Try.prog 64 #[.agg #[.bool na, .slice A (D x).length ca, .slice B (D y).length cb], .agg #[.bool nb, .slice A' (D x').length ca', .slice B' (D y').length cb']] w (SayN w (ng && decide (0 < (D qa).length)) (D qa) (D dn)) := by
  have H0 := Lib.hid (k0.mono (Q := (· < w.heap.size)) fun _ _ h => h)
  have H1 := Lib.hid (k1.mono (Q := (· < w.heap.size)) fun _ _ h => h)
  have HSh := Lib.hid hsh
  have HMi := Lib.hid hmi
  have HOt := Lib.hid hot
  have HFi := Lib.hid hfi
  have HSe := Lib.hid hse
  have HNg := Lib.hid hng
  have HNm := Lib.hid hnm
  have HLf := Lib.hid hlf
  have HQa := Lib.hid hqa
  have HQb := Lib.hid hqb
  have HDn := Lib.hid hdn
  clear k0 k1 hsh hmi hot hfi hse hng hnm hlf hqa hqb hdn
  go_enter Try.func64, Try.ntmps64
  go_wp2_with fail
  refine calls_at (fun v0 => Below w.heap.size w v0 ∧ RatAt v0 w.heap.size 28 na A (D x).length ca B (D y).length cb ∧ RatAt v0 (w.heap.size + 1) 28 nb A' (D x').length ca' B' (D y').length cb' ∧ RatAt v0 (w.heap.size + 1 + 1) 28 false none 0 0 none 0 0)
    ⟨below3 _ _ _ _, ((RatAt.new _ _ _ _ _ _ _ _ _).alloc _).alloc _, (RatAt.new1 _ _ _ _ _ _ _ _ _ _).alloc _, RatAt.new2 _ _ _ _ _ _ _ _ _ _ _⟩ ?_
  rintro v0 ⟨hb, r0, r1, r2⟩
  have HB0 := Lib.hid hb
  have HR0 := Lib.hid r0
  have HS0 := Lib.hid r1
  have HT0 := Lib.hid r2
  clear hb r0 r1 r2
  refine (commonLimbs_any B B' _ cb _ cb' y y' _ _ v0 (H0.out.below HB0.out).2 (H1.out.below HB0.out).2 (by omega) (by omega)).mono ?_
  rintro e v1 hnew
  rw [HSh.out] at hnew
  obtain ⟨V1, d1, rfl, p1, bb⟩ := new_of hnew
  have HB1 := Lib.hid (below_on HB0.out bb)
  have HR1 := Lib.hid (HR0.out.on bb)
  have HS1 := Lib.hid (HS0.out.on bb)
  have HT1 := Lib.hid (HT0.out.on bb)
  have HN11 := Lib.hid p1
  clear hnew p1 bb HB0 HR0 HS0 HT0
  go_upto_region 2 with fail
  go_region_held3 (fun wx => wx.cell? ⟨w.heap.size, 0, none⟩ = some (.bool na) ∧ wx.cell? ⟨w.heap.size, 1, none⟩ = some (.slice A (D x).length ca) ∧ wx.cell? ⟨w.heap.size, 2, none⟩ = some (.slice B (D y).length cb) ∧ wx.cell? ⟨w.heap.size + 1, 0, none⟩ = some (.bool nb) ∧ wx.cell? ⟨w.heap.size + 1, 1, none⟩ = some (.slice A' (D x').length ca') ∧ wx.cell? ⟨w.heap.size + 1, 2, none⟩ = some (.slice B' (D y').length cb'))
    (first | exact ⟨(HR1.out).c0, (HR1.out).c1, (HR1.out).c2, (HS1.out).c0, (HS1.out).c1, (HS1.out).c2⟩ | exact ⟨(HR2.out).c0, (HR2.out).c1, (HR2.out).c2, (HS2.out).c0, (HS2.out).c1, (HS2.out).c2⟩ | exact ⟨(HR3.out).c0, (HR3.out).c1, (HR3.out).c2, (HS3.out).c0, (HS3.out).c1, (HS3.out).c2⟩)
    (first
      | (go_at_call_of 116 B'; refine (quotientLimbs_any B' V1 _ cb' _ d1 y' sh _ _ _ (by exact (H1.out.below HB2.out).2) (by first | exact HN12.out | exact Rd.drew HN12.out) (by omega) (by omega) g0).mono ?_; rintro e v3 hnew; rw [HOt.out] at hnew; obtain ⟨V3, d3, rfl, p3, bb⟩ := hnew; have sv3 := bb.size; have HB3 := Lib.hid (below_on HB2.out bb); have HR3 := Lib.hid (HR2.out.on bb); have HS3 := Lib.hid (HS2.out.on bb); have HT3 := Lib.hid (HT2.out.on bb); have HN13 := Lib.hid (HN12.out.on bb); have HN23 := Lib.hid (HN22.out.on bb); have HN33 := Lib.hid p3; clear p3 bb)
      | (go_at_call_of 116 B; refine (quotientLimbs_any B V1 _ cb _ d1 y sh _ _ _ (by exact (H0.out.below HB1.out).2) (by first | exact HN11.out | exact Rd.drew HN11.out) (by omega) (by omega) g0).mono ?_; rintro e v2 hnew; rw [HMi.out] at hnew; obtain ⟨V2, d2, rfl, p2, bb⟩ := hnew; have bb := undrew bb; have sv2 := bb.size; have HB2 := Lib.hid (below_on HB1.out bb); have HR2 := Lib.hid (HR1.out.on bb); have HS2 := Lib.hid (HS1.out.on bb); have HT2 := Lib.hid (HT1.out.on bb); have HN12 := Lib.hid (HN11.out.on bb); have HN22 := Lib.hid p2; clear p2 bb))
  go_upto_region 3 with fail
  go_region_held3 (fun wx => wx.cell? ⟨w.heap.size, 0, none⟩ = some (.bool na) ∧ wx.cell? ⟨w.heap.size, 1, none⟩ = some (.slice A (D x).length ca) ∧ wx.cell? ⟨w.heap.size, 2, none⟩ = some (.slice B (D y).length cb) ∧ wx.cell? ⟨w.heap.size + 1, 0, none⟩ = some (.bool nb) ∧ wx.cell? ⟨w.heap.size + 1, 1, none⟩ = some (.slice A' (D x').length ca') ∧ wx.cell? ⟨w.heap.size + 1, 2, none⟩ = some (.slice B' (D y').length cb'))
    (first | exact ⟨(HR3.out).c0, (HR3.out).c1, (HR3.out).c2, (HS3.out).c0, (HS3.out).c1, (HS3.out).c2⟩ | exact ⟨(HR4.out).c0, (HR4.out).c1, (HR4.out).c2, (HS4.out).c0, (HS4.out).c1, (HS4.out).c2⟩ | exact ⟨(HR5.out).c0, (HR5.out).c1, (HR5.out).c2, (HS5.out).c0, (HS5.out).c1, (HS5.out).c2⟩)
    (first
      | (go_at_call_of 115 A'; refine (productLimbs_any A' V2 _ ca' _ d2 x' mi _ _ _ (by exact (H1.out.below HB4.out).1) (by first | exact HN24.out | exact Rd.drew HN24.out) (by omega) (by omega)).mono ?_; rintro e v5 hnew; rw [HSe.out] at hnew; obtain ⟨V5, d5, rfl, p5, bb⟩ := new_of hnew; have sv5 := bb.size; have HB5 := Lib.hid (below_on HB4.out bb); have HR5 := Lib.hid (HR4.out.on bb); have HS5 := Lib.hid (HS4.out.on bb); have HT5 := Lib.hid (HT4.out.on bb); have HN15 := Lib.hid (HN14.out.on bb); have HN25 := Lib.hid (HN24.out.on bb); have HN35 := Lib.hid (HN34.out.on bb); have HN45 := Lib.hid (HN44.out.on bb); have HN55 := Lib.hid p5; clear hnew p5 bb)
      | (go_at_call_of 115 A; refine (productLimbs_any A V3 _ ca _ d3 x ot _ _ _ (by exact (H0.out.below HB3.out).1) (by first | exact HN33.out | exact Rd.drew HN33.out) (by omega) (by omega)).mono ?_; rintro e v4 hnew; rw [HFi.out] at hnew; obtain ⟨V4, d4, rfl, p4, bb⟩ := new_of hnew; have bb := undrew bb; have sv4 := bb.size; have HB4 := Lib.hid (below_on HB3.out bb); have HR4 := Lib.hid (HR3.out.on bb); have HS4 := Lib.hid (HS3.out.on bb); have HT4 := Lib.hid (HT3.out.on bb); have HN14 := Lib.hid (HN13.out.on bb); have HN24 := Lib.hid (HN23.out.on bb); have HN34 := Lib.hid (HN33.out.on bb); have HN44 := Lib.hid p4; clear hnew p4 bb))
  have qR0 := HR5.out.c0
  have qR1 := HR5.out.c1
  have qR2 := HR5.out.c2
  have qS0 := HS5.out.c0
  have qS1 := HS5.out.c1
  have qS2 := HS5.out.c2
  go_wp2_with fail
  clear qR0 qR1 qR2 qS0 qS1 qS2
  refine (signedSum_any na nb V4 V5 _ d4 _ d5 fi se _ _ v5 HN45.out HN55.out (by omega) (by omega)).mono ?_
  rintro e v6 hnew
  rw [HNg.out] at hnew
  rw [HNm.out] at hnew
  obtain ⟨V6, d6, rfl, p6, bb⟩ := hnew
  have sv6 := bb.size
  have HB6 := Lib.hid (below_on HB5.out bb)
  have HR6 := Lib.hid (HR5.out.on bb)
  have HS6 := Lib.hid (HS5.out.on bb)
  have HT6 := Lib.hid (HT5.out.on bb)
  have HN16 := Lib.hid (HN15.out.on bb)
  have HN26 := Lib.hid (HN25.out.on bb)
  have HN36 := Lib.hid (HN35.out.on bb)
  have HN46 := Lib.hid (HN45.out.on bb)
  have HN56 := Lib.hid (HN55.out.on bb)
  clear HB5 HR5 HS5 HT5 HN15 HN25 HN35 HN45 HN55
  have HN66 := Lib.hid p6
  clear p6 bb
  go_wp2_with fail
  refine (commonLimbs_any V6 V1 _ d6 _ d1 nm sh _ _ v6 HN66.out HN16.out (by omega) (by omega)).mono ?_
  rintro e v7 hnew
  rw [HLf.out] at hnew
  obtain ⟨V7, d7, rfl, p7, bb⟩ := new_of hnew
  have sv7 := bb.size
  have HB7 := Lib.hid (below_on HB6.out bb)
  have HR7 := Lib.hid (HR6.out.on bb)
  have HS7 := Lib.hid (HS6.out.on bb)
  have HT7 := Lib.hid (HT6.out.on bb)
  have HN17 := Lib.hid (HN16.out.on bb)
  have HN27 := Lib.hid (HN26.out.on bb)
  have HN37 := Lib.hid (HN36.out.on bb)
  have HN47 := Lib.hid (HN46.out.on bb)
  have HN57 := Lib.hid (HN56.out.on bb)
  have HN67 := Lib.hid (HN66.out.on bb)
  clear HB6 HR6 HS6 HT6 HN16 HN26 HN36 HN46 HN56 HN66
  have HN77 := Lib.hid p7
  clear hnew p7 bb
  go_upto_region 6 with fail
  go_region_held3 (fun wx => wx.cell? ⟨w.heap.size + 1, 0, none⟩ = some (.bool nb) ∧ wx.cell? ⟨w.heap.size + 1, 1, none⟩ = some (.slice A' (D x').length ca') ∧ wx.cell? ⟨w.heap.size + 1, 2, none⟩ = some (.slice B' (D y').length cb'))
    (first | exact ⟨(HS7.out).c0, (HS7.out).c1, (HS7.out).c2⟩ | exact ⟨(HS8.out).c0, (HS8.out).c1, (HS8.out).c2⟩ | exact ⟨(HS9.out).c0, (HS9.out).c1, (HS9.out).c2⟩ | exact ⟨(HS10.out).c0, (HS10.out).c1, (HS10.out).c2⟩ | exact ⟨(HS11.out).c0, (HS11.out).c1, (HS11.out).c2⟩ | exact ⟨(HS11.out.grown (setAll_grown _ _ _ _ _) (by omega)).c0, (HS11.out.grown (setAll_grown _ _ _ _ _) (by omega)).c1, (HS11.out.grown (setAll_grown _ _ _ _ _) (by omega)).c2⟩)
    (first
      | (go_at_call 117; refine (ratOf_any _ V8 V10 _ d8 _ d10 _ (by omega)).mono ?_; rintro e v11 ⟨rfl, bb⟩; have sv11 := bb.size; have HB11 := Lib.hid (below_on HB10.out bb); have HR11 := Lib.hid (HR10.out.on bb); have HS11 := Lib.hid (HS10.out.on bb); have HT11 := Lib.hid (HT10.out.on bb); have HN111 := Lib.hid (HN110.out.on bb); have HN211 := Lib.hid (HN210.out.on bb); have HN311 := Lib.hid (HN310.out.on bb); have HN411 := Lib.hid (HN410.out.on bb); have HN511 := Lib.hid (HN510.out.on bb); have HN611 := Lib.hid (HN610.out.on bb); have HN711 := Lib.hid (HN710.out.on bb); have HN811 := Lib.hid (HN810.out.on bb); have HN911 := Lib.hid (HN910.out.on bb); have HN1011 := Lib.hid (HN1010.out.on bb); have f0 := HT11.out.fz 0; have f1 := HT11.out.fz 1; have f2 := HT11.out.fz 2; have y0 := HT11.out.c0; have y1 := HT11.out.c1; have y2 := HT11.out.c2; clear bb)
      | (go_at_call 115; refine (productLimbs_any V2 V9 _ d2 _ d9 mi qb _ _ _ (by first | exact HN29.out | exact Rd.drew HN29.out) (by first | exact HN99.out | exact Rd.drew HN99.out) (by omega) (by omega)).mono ?_; rintro e v10 hnew; rw [HDn.out] at hnew; obtain ⟨V10, d10, rfl, p10, bb⟩ := new_far (N := w.heap.size) (HB9.out.size) hnew; have sv10 := bb.size; have HB10 := Lib.hid (below_on HB9.out bb); have HR10 := Lib.hid (HR9.out.on bb); have HS10 := Lib.hid (HS9.out.on bb); have HT10 := Lib.hid (HT9.out.on bb); have HN110 := Lib.hid (HN19.out.on bb); have HN210 := Lib.hid (HN29.out.on bb); have HN310 := Lib.hid (HN39.out.on bb); have HN410 := Lib.hid (HN49.out.on bb); have HN510 := Lib.hid (HN59.out.on bb); have HN610 := Lib.hid (HN69.out.on bb); have HN710 := Lib.hid (HN79.out.on bb); have HN810 := Lib.hid (HN89.out.on bb); have HN910 := Lib.hid (HN99.out.on bb); have HN1010 := Lib.hid p10; clear hnew p10 bb)
      | (go_at_call_of 116 B'; refine (quotientLimbs_any B' V7 _ cb' _ d7 y' lf _ _ _ (by exact (H1.out.below HB8.out).2) (by first | exact HN78.out | exact Rd.drew HN78.out) (by omega) (by omega) h0).mono ?_; rintro e v9 hnew; rw [HQb.out] at hnew; obtain ⟨V9, d9, rfl, p9, bb⟩ := hnew; have sv9 := bb.size; have HB9 := Lib.hid (below_on HB8.out bb); have HR9 := Lib.hid (HR8.out.on bb); have HS9 := Lib.hid (HS8.out.on bb); have HT9 := Lib.hid (HT8.out.on bb); have HN19 := Lib.hid (HN18.out.on bb); have HN29 := Lib.hid (HN28.out.on bb); have HN39 := Lib.hid (HN38.out.on bb); have HN49 := Lib.hid (HN48.out.on bb); have HN59 := Lib.hid (HN58.out.on bb); have HN69 := Lib.hid (HN68.out.on bb); have HN79 := Lib.hid (HN78.out.on bb); have HN89 := Lib.hid (HN88.out.on bb); have HN99 := Lib.hid p9; clear p9 bb)
      | (go_at_call_of 116 V6; refine (quotientLimbs_new V6 V7 _ d6 _ d7 nm lf _ _ _ (by first | exact HN67.out | exact Rd.drew HN67.out) (by first | exact HN77.out | exact Rd.drew HN77.out) (by omega) (by omega) h0 w.heap.size (by exact HB7.out.size)).mono ?_; rintro e v8 hnew; rw [HQa.out] at hnew; obtain ⟨V8, d8, rfl, p8, bb⟩ := hnew; have bb := undrew bb; have sv8 := bb.size; have HB8 := Lib.hid (below_on HB7.out bb); have HR8 := Lib.hid (HR7.out.on bb); have HS8 := Lib.hid (HS7.out.on bb); have HT8 := Lib.hid (HT7.out.on bb); have HN18 := Lib.hid (HN17.out.on bb); have HN28 := Lib.hid (HN27.out.on bb); have HN38 := Lib.hid (HN37.out.on bb); have HN48 := Lib.hid (HN47.out.on bb); have HN58 := Lib.hid (HN57.out.on bb); have HN68 := Lib.hid (HN67.out.on bb); have HN78 := Lib.hid (HN77.out.on bb); have HN88 := Lib.hid p8; clear p8 bb))
  go_wp2
  have g2 := fun b u v => setAll_grown v11 (w.heap.size + 1 + 1) (.bool b) u v
  refine bodyPost_ret (retR rfl _ _ _ rfl (HT11.out.setAll _ _ _ _ _ _ _)) rfl ?_
  exact ⟨V8, d8, V10, d10, rfl, ⟨Rd.past HN811.out HT11.out (g2 _ _ _), Rd.past HN1011.out HT11.out (g2 _ _ _)⟩, below_grow HB11.out (by omega) (g2 _ _ _)⟩

theorem plus_new (a b : Rat) (A B : Option Addr) (ca cb : Nat) (A' B' : Option Addr) (ca' cb' : Nat) (P P' : Nat → Prop) (w : World) (h0 : RdR w P (D (nu a)) (D a.den) A ca B cb) (h1 : RdR w P' (D (nu b)) (D b.den) A' ca' B' cb') (l1 : (D (nu a)).length ≤ 3600) (l2 : (D a.den).length ≤ 3600) (l3 : (D (nu b)).length ≤ 3600) (l4 : (D b.den).length ≤ 3600) :
    Calls Try.prog 64 #[.agg #[.bool (isNeg a), .slice A (D (nu a)).length ca, .slice B (D a.den).length cb], .agg #[.bool (isNeg b), .slice A' (D (nu b)).length ca', .slice B' (D b.den).length cb']] w (SayN w (isNeg (a + b)) (D (nu (a + b))) (D (a + b).den)) := by
  obtain ⟨e1, e2, e3⟩ := plus_parts a b
  rw [e3, e2, e1, ← D_pos_len]
  have z1 := D_len_gcd a.den b.den_pos
  have z2 := D_len_div a.den (Nat.gcd a.den b.den)
  have z3 := D_len_div b.den (Nat.gcd a.den b.den)
  have z4 := D_len_mul (nu a) (b.den / Nat.gcd a.den b.den)
  have z5 := D_len_mul (nu b) (a.den / Nat.gcd a.den b.den)
  have z6 := D_len_up (sum_le (isNeg a) (nu a * (b.den / Nat.gcd a.den b.den)) (isNeg b) (nu b * (a.den / Nat.gcd a.den b.den)))
  have z7 := D_len_add (nu a * (b.den / Nat.gcd a.den b.den)) (nu b * (a.den / Nat.gcd a.den b.den))
  have hg : 0 < Nat.gcd a.den b.den := Nat.gcd_pos_of_pos_right _ b.den_pos
  have z8 := D_len_gcd (plusAbs a b) hg
  have z9 := D_len_div (plusAbs a b) (Nat.gcd (plusAbs a b) (Nat.gcd a.den b.den))
  have z10 := D_len_div b.den (Nat.gcd (plusAbs a b) (Nat.gcd a.den b.den))
  have z11 : (D (plusAbs a b)).length ≤ 7201 := by unfold plusAbs; omega
  exact plus_newc _ _ (nu a) a.den (nu b) b.den _ _ _ _ _ (plusNeg a b) (plusAbs a b) _ _ _ _ rfl rfl rfl rfl rfl rfl rfl rfl rfl rfl rfl hg (Nat.gcd_pos_of_pos_right _ hg) A B ca cb A' B' ca' cb' P P' w h0 h1 l1 l2 l3 l4 (by omega) (by omega) (by omega) (by omega) (by omega) (by omega) (by omega) (by omega) (by omega)

set_option maxRecDepth 20000 in
set_option maxHeartbeats 6400000 in
theorem l02Add_newc (na nb : Bool) (x y x' y' s t d : Nat) (hs : x * y' = s) (ht : x' * y = t) (hd : y * y' = d) (nn : Bool) (X Y : List Int) (A B : Option Addr) (ca cb : Nat) (A' B' : Option Addr) (ca' cb' : Nat) (P P' : Nat → Prop) (w : World) (h0 : RdR w P (D x) (D y) A ca B cb) (h1 : RdR w P' (D x') (D y') A' ca' B' cb')
    (l1 : (D x).length ≤ 3600) (l2 : (D y).length ≤ 3600) (l3 : (D x').length ≤ 3600) (l4 : (D y').length ≤ 3600) (m1 : (D s).length ≤ 7200) (m2 : (D t).length ≤ 7200) (_m3 : (D d).length ≤ 7200)
    (hm1 : na = nb → MkN na (s + t) d nn X Y) (hm2 : na ≠ nb → t ≤ s → MkN na (s - t) d nn X Y) (hm3 : na ≠ nb → s < t → MkN nb (t - s) d nn X Y) :
    Calls Try.prog 125 #[.agg #[.bool na, .slice A (D x).length ca, .slice B (D y).length cb], .agg #[.bool nb, .slice A' (D x').length ca', .slice B' (D y').length cb']] w (SayN w nn X Y) := by
  have H0 := Lib.hid (h0.mono (Q := (· < w.heap.size)) fun _ _ h => h)
  have H1 := Lib.hid (h1.mono (Q := (· < w.heap.size)) fun _ _ h => h)
  have HM1 := Lib.hid hm1
  have HM2 := Lib.hid hm2
  have HM3 := Lib.hid hm3
  have HSs := Lib.hid hs
  have HTt := Lib.hid ht
  have HDd := Lib.hid hd
  clear h0 h1 hm1 hm2 hm3 hs ht hd
  go_enter Try.func125, Try.ntmps125
  go_wp2_with fail
  refine calls_at (fun W => Below w.heap.size w W ∧ RatAt W w.heap.size 28 na A (D x).length ca B (D y).length cb ∧ RatAt W (w.heap.size + 1) 28 nb A' (D x').length ca' B' (D y').length cb' ∧ RatAt W (w.heap.size + 1 + 1) 28 false none 0 0 none 0 0)
    ⟨below3 _ _ _ _, ((RatAt.new _ _ _ _ _ _ _ _ _).alloc _).alloc _, (RatAt.new1 _ _ _ _ _ _ _ _ _ _).alloc _, RatAt.new2 _ _ _ _ _ _ _ _ _ _ _⟩ ?_
  rintro W ⟨hb, r0, r1, r2⟩
  refine (l01Mul_any A B' _ ca _ cb' x y' _ _ W (H0.out.below hb).1 (H1.out.below hb).2 (by omega) (by omega)).mono ?_
  rintro e w1 hnew
  rw [HSs.out] at hnew
  obtain ⟨V1, d1, rfl, p1, b1⟩ := new_of hnew
  have HB1 := Lib.hid (below_on hb b1)
  have HR1 := Lib.hid (r0.on b1)
  have HS1 := Lib.hid (r1.on b1)
  have HT1 := Lib.hid (r2.on b1)
  have HP1 := Lib.hid p1
  clear hnew hb r0 r1 r2 p1 b1
  have c11 := HS1.out.c1
  have c02 := HR1.out.c2
  go_wp2_with fail
  clear c11 c02
  refine (l01Mul_any A' B _ ca' _ cb x' y _ _ w1 (H1.out.below HB1.out).1 (H0.out.below HB1.out).2 (by omega) (by omega)).mono ?_
  rintro e w2 hnew
  rw [HTt.out] at hnew
  obtain ⟨V2, d2, rfl, p2, b2⟩ := new_of hnew
  have HB2 := Lib.hid (below_on HB1.out b2)
  have HR2 := Lib.hid (HR1.out.on b2)
  have HS2 := Lib.hid (HS1.out.on b2)
  have HT2 := Lib.hid (HT1.out.on b2)
  have HP2 := Lib.hid (HP1.out.on b2)
  have HQ2 := Lib.hid p2
  clear hnew p2 b2 HB1 HR1 HS1 HT1 HP1
  have c12 := HS2.out.c2
  have c02 := HR2.out.c2
  go_wp2_with fail
  clear c12 c02
  refine (l01Mul_any B B' _ cb _ cb' y y' _ _ w2 (H0.out.below HB2.out).2 (H1.out.below HB2.out).2 (by omega) (by omega)).mono ?_
  rintro e w3 hnew
  rw [HDd.out] at hnew
  obtain ⟨V3, d3, rfl, p3, b3⟩ := new_of hnew
  have HB := Lib.hid (below_on HB2.out b3)
  have HR0 := Lib.hid (HR2.out.on b3)
  have HS0 := Lib.hid (HS2.out.on b3)
  have HT := Lib.hid (HT2.out.on b3)
  have HP := Lib.hid (HP2.out.on b3)
  have HQ := Lib.hid (HQ2.out.on b3)
  have HD := Lib.hid p3
  clear hnew p3 b3 HB2 HR2 HS2 HT2 HP2 HQ2
  have c00 := HR0.out.c0
  have c10 := HS0.out.c0
  by_cases hn : na = nb
  · subst hn
    have hnb : (na == na) = true := by simp
    go_upto_region 5 with fail
    clear c00 c10 hnb
    obtain ⟨u, hu⟩ : ∃ u, s + t = u := ⟨_, rfl⟩
    have HC1 : Hid (Calls Try.prog 178 #[.slice V1 (D s).length d1, .slice V2 (D t).length d2] w3.drew (RetNew 3 w3.drew (D u))) := Lib.hid (by rw [← hu]; exact l01Add_any V1 V2 _ d1 _ d2 s t _ _ w3.drew (Rd.drew HP.out) (Rd.drew HQ.out) (by omega) (by omega))
    have HMK := HM1.out (by first | rfl | trivial)
    rw [hu] at HMK
    have HMK2 := Lib.hid HMK
    clear HMK hu
    go_region_held3 (fun wx => wx.cell? ⟨w.heap.size, 0, none⟩ = some (.bool na))
      (first | exact HR0.out.c0 | exact HRa.out.c0 | exact HRb.out.c0 | exact (HRb.out.grown (setAll_grown _ _ _ _ _) (by omega)).c0)
      (first
        | (go_at_call 178; refine HC1.out.mono ?_; rintro e v1 hnew; obtain ⟨A7, c7, rfl, m7, bb⟩ := new_of hnew; have bb := undrew bb; have HM7 := Lib.hid m7; have HRa := Lib.hid (HR0.out.on bb); have HT7 := Lib.hid (HT.out.on bb); have HD7 := Lib.hid (HD.out.on bb); have HB7 := Lib.hid (below_on HB.out bb); clear hnew m7 bb)
        | (go_at_call 167; refine (HMK2.out A7 c7 V3 d3 v1 HM7.out HD7.out).mono ?_; rintro e v2 ⟨A8, c8, B8, d8, rfl, o8, bb⟩; have HO8 := Lib.hid (o8.mono (Q := (w.heap.size ≤ ·)) fun _ h _ => Nat.le_trans HB7.out.size h); have HRb := Lib.hid (HRa.out.on bb); have HT8 := Lib.hid (HT7.out.on bb); have HB8 := Lib.hid (below_on HB7.out bb); have f0 := HT8.out.fz 0; have f1 := HT8.out.fz 1; have f2 := HT8.out.fz 2; have y0 := HT8.out.c0; have y1 := HT8.out.c1; have y2 := HT8.out.c2; clear o8 bb))
    go_wp2
    have g2 := fun b u v => setAll_grown v2 (w.heap.size + 1 + 1) (.bool b) u v
    refine bodyPost_ret (retR rfl _ _ _ rfl (HT8.out.setAll _ _ _ _ _ _ _)) rfl ?_
    exact ⟨A8, c8, B8, d8, rfl, ⟨HO8.out.1.past HT8.out (g2 _ _ _), HO8.out.2.past HT8.out (g2 _ _ _)⟩, below_grow HB8.out (by omega) (g2 _ _ _)⟩
  · have hnb : (na == nb) = false := by simpa using hn
    go_wp2_with fail
    clear c00 c10 hnb
    refine (l01Cmp_any V1 V2 _ d1 _ d2 s t _ _ w3 HP.out HQ.out (by omega) (by omega)).mono ?_
    rintro e w4 ⟨rfl, dd⟩
    have b4 := dd.below w3.heap.size
    have HB' := Lib.hid (below_on HB.out b4)
    have HR0' := Lib.hid (HR0.out.on b4)
    have HS0' := Lib.hid (HS0.out.on b4)
    have HT' := Lib.hid (HT.out.on b4)
    have HP' := Lib.hid (HP.out.on b4)
    have HQ' := Lib.hid (HQ.out.on b4)
    have HD' := Lib.hid (HD.out.on b4)
    clear dd b4 HB HR0 HS0 HT HP HQ HD
    by_cases hcmp : t ≤ s
    · obtain ⟨hc0, hc1⟩ := cmpI_ge (m := s) (n := t) (by omega)
      generalize cmpI s t = cc at *
      go_upto_region 7 with fail
      obtain ⟨u, hu⟩ : ∃ u, s - t = u := ⟨_, rfl⟩
      have HC1 : Hid (Calls Try.prog 179 #[.slice V1 (D s).length d1, .slice V2 (D t).length d2] w4.drew (RetNew 3 w4.drew (D u))) := Lib.hid (by rw [← hu]; exact l01Sub_any V1 V2 _ d1 _ d2 s t _ _ w4.drew (Rd.drew HP'.out) (Rd.drew HQ'.out) (by omega) (by omega) hcmp)
      have HMK := HM2.out hn hcmp
      rw [hu] at HMK
      have HMK2 := Lib.hid HMK
      clear HMK hu
      go_region_held3 (fun wx => wx.cell? ⟨w.heap.size, 0, none⟩ = some (.bool na))
        (first | exact HR0'.out.c0 | exact HRa.out.c0 | exact HRb.out.c0 | exact (HRb.out.grown (setAll_grown _ _ _ _ _) (by omega)).c0)
        (first
          | (go_at_call 179; refine HC1.out.mono ?_; rintro e v1 hnew; obtain ⟨A7, c7, rfl, m7, bb⟩ := new_of hnew; have bb := undrew bb; have HM7 := Lib.hid m7; have HRa := Lib.hid (HR0'.out.on bb); have HT7 := Lib.hid (HT'.out.on bb); have HD7 := Lib.hid (HD'.out.on bb); have HB7 := Lib.hid (below_on HB'.out bb); clear hnew m7 bb)
          | (go_at_call 167; refine (HMK2.out A7 c7 V3 d3 v1 HM7.out HD7.out).mono ?_; rintro e v2 ⟨A8, c8, B8, d8, rfl, o8, bb⟩; have HO8 := Lib.hid (o8.mono (Q := (w.heap.size ≤ ·)) fun _ h _ => Nat.le_trans HB7.out.size h); have HRb := Lib.hid (HRa.out.on bb); have HT8 := Lib.hid (HT7.out.on bb); have HB8 := Lib.hid (below_on HB7.out bb); have f0 := HT8.out.fz 0; have f1 := HT8.out.fz 1; have f2 := HT8.out.fz 2; have y0 := HT8.out.c0; have y1 := HT8.out.c1; have y2 := HT8.out.c2; clear o8 bb))
      go_wp2
      have g2 := fun b u v => setAll_grown v2 (w.heap.size + 1 + 1) (.bool b) u v
      refine bodyPost_ret (retR rfl _ _ _ rfl (HT8.out.setAll _ _ _ _ _ _ _)) rfl ?_
      exact ⟨A8, c8, B8, d8, rfl, ⟨HO8.out.1.past HT8.out (g2 _ _ _), HO8.out.2.past HT8.out (g2 _ _ _)⟩, below_grow HB8.out (by omega) (g2 _ _ _)⟩
    · rw [cmpI_lt (by omega)]
      go_upto_region 8 with fail
      obtain ⟨u, hu⟩ : ∃ u, t - s = u := ⟨_, rfl⟩
      have HC1 : Hid (Calls Try.prog 179 #[.slice V2 (D t).length d2, .slice V1 (D s).length d1] w4.drew (RetNew 3 w4.drew (D u))) := Lib.hid (by rw [← hu]; exact l01Sub_any V2 V1 _ d2 _ d1 t s _ _ w4.drew (Rd.drew HQ'.out) (Rd.drew HP'.out) (by omega) (by omega) (by omega))
      have HMK := HM3.out hn (by omega)
      rw [hu] at HMK
      have HMK2 := Lib.hid HMK
      clear HMK hu
      go_region_held3 (fun wx => wx.cell? ⟨(w.heap.size + 1), 0, none⟩ = some (.bool nb))
        (first | exact HS0'.out.c0 | exact HRa.out.c0 | exact HRb.out.c0 | exact (HRb.out.grown (setAll_grown _ _ _ _ _) (by omega)).c0)
        (first
          | (go_at_call 179; refine HC1.out.mono ?_; rintro e v1 hnew; obtain ⟨A7, c7, rfl, m7, bb⟩ := new_of hnew; have bb := undrew bb; have HM7 := Lib.hid m7; have HRa := Lib.hid (HS0'.out.on bb); have HT7 := Lib.hid (HT'.out.on bb); have HD7 := Lib.hid (HD'.out.on bb); have HB7 := Lib.hid (below_on HB'.out bb); clear hnew m7 bb)
          | (go_at_call 167; refine (HMK2.out A7 c7 V3 d3 v1 HM7.out HD7.out).mono ?_; rintro e v2 ⟨A8, c8, B8, d8, rfl, o8, bb⟩; have HO8 := Lib.hid (o8.mono (Q := (w.heap.size ≤ ·)) fun _ h _ => Nat.le_trans HB7.out.size h); have HRb := Lib.hid (HRa.out.on bb); have HT8 := Lib.hid (HT7.out.on bb); have HB8 := Lib.hid (below_on HB7.out bb); have f0 := HT8.out.fz 0; have f1 := HT8.out.fz 1; have f2 := HT8.out.fz 2; have y0 := HT8.out.c0; have y1 := HT8.out.c1; have y2 := HT8.out.c2; clear o8 bb))
      go_wp2
      have g2 := fun b u v => setAll_grown v2 (w.heap.size + 1 + 1) (.bool b) u v
      refine bodyPost_ret (retR rfl _ _ _ rfl (HT8.out.setAll _ _ _ _ _ _ _)) rfl ?_
      exact ⟨A8, c8, B8, d8, rfl, ⟨HO8.out.1.past HT8.out (g2 _ _ _), HO8.out.2.past HT8.out (g2 _ _ _)⟩, below_grow HB8.out (by omega) (g2 _ _ _)⟩

theorem l02Add_new (a b : Rat) (A B : Option Addr) (ca cb : Nat) (A' B' : Option Addr) (ca' cb' : Nat) (P P' : Nat → Prop) (w : World) (h0 : RdR w P (D (nu a)) (D a.den) A ca B cb) (h1 : RdR w P' (D (nu b)) (D b.den) A' ca' B' cb')
    (l1 : (D (nu a)).length ≤ 3600) (l2 : (D a.den).length ≤ 3600) (l3 : (D (nu b)).length ≤ 3600) (l4 : (D b.den).length ≤ 3600) :
    Calls Try.prog 125 #[.agg #[.bool (isNeg a), .slice A (D (nu a)).length ca, .slice B (D a.den).length cb], .agg #[.bool (isNeg b), .slice A' (D (nu b)).length ca', .slice B' (D b.den).length cb']] w (SayN w (isNeg (a + b)) (D (nu (a + b))) (D (a + b).den)) := by
  have m1 : (D (nu a * b.den)).length ≤ 7200 := by have := D_len_mul (nu a) b.den; omega
  have m2 : (D (nu b * a.den)).length ≤ 7200 := by have := D_len_mul (nu b) a.den; omega
  have m3 : (D (a.den * b.den)).length ≤ 7200 := by have := D_len_mul a.den b.den; omega
  refine l02Add_newc (isNeg a) (isNeg b) (nu a) a.den (nu b) b.den _ _ _ rfl rfl rfl _ _ _ A B ca cb A' B' ca' cb' P P' w h0 h1 l1 l2 l3 l4 m1 m2 m3 (fun h => ?_) (fun h h2 => ?_) (fun h h2 => ?_)
  · exact mkN _ _ _ _ (add_same h) (add_pos_den a b) (by have := D_len_add (nu a * b.den) (nu b * a.den); omega) (by omega)
  · exact mkN _ _ _ _ (add_ge h h2) (add_pos_den a b) (by have := D_len_sub (nu a * b.den) (nu b * a.den); omega) (by omega)
  · exact mkN _ _ _ _ (add_lt h h2) (add_pos_den a b) (by have := D_len_sub (nu b * a.den) (nu a * b.den); omega) (by omega)

end Go.Proofs.Ytlphcpkhclfkaaa
