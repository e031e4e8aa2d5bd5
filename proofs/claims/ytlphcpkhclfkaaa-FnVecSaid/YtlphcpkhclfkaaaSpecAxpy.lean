/-
  Axpy of the model.
-/
import Derived.Test.YtlphcpkhclfkaaaSpecScale
import Derived.Test.YtlphcpkhclfkaaaAxpyVec
namespace Go.Proofs.Ytlphcpkhclfkaaa
open Go Go.RowKit Nt

set_option maxHeartbeats 1600000 in
theorem specAxpy_code (ng : Bool) (Aa Ba : Option Addr) (la ca lb cb : Nat) (X : Option Addr) (n c : Nat) (rs : List R3) (Y : Option Addr) (m d : Nat) (ss : List R3) (P P' : Nat → Prop) (w : World) (hx : RdS w P X n c rs) (hy : RdS w P' Y m d ss) (hs : Small rs) (hs' : Small ss) (hn : n ≤ 1048576) (hm : m ≤ 1048576) (code : Int) (hcode : askV n m rs ss = code) (hc0 : code ≠ 0) :
    Calls Try.prog 15 #[.agg #[.bool ng, .slice Aa la ca, .slice Ba lb cb], .slice X n c, .slice Y m d] w (SayVC w [] code) := by
  have HX := Lib.hid hx.low
  have HY := Lib.hid hy.low
  have HS := Lib.hid hs
  have HS' := Lib.hid hs'
  have hbc : (code != 0) = true := by simpa using hc0
  have HC := Lib.hid hcode
  clear hx hy hs hs' hcode hc0
  have HB := Lib.hid (below2 w (.cells #[.bool ng, .slice Aa la ca, .slice Ba lb cb] 28) (.cells #[] 28))
  by_cases h1 : 4096 < n
  · have he : code = 2 := by rw [← HC.out]; unfold askV; rw [if_pos (.inl h1)]
    subst he
    have z1 : decide ((4096 : Int) < n) = true := by simp; omega
    go_enter Try.func15, Try.ntmps15
    go_wp2
    go_ret2
    exact nilV _ _ 0 _ _ HB.out
  have z1 : decide ((4096 : Int) < n) = false := by simp; omega
  by_cases h2 : 4096 < m
  · have he : code = 2 := by rw [← HC.out]; unfold askV; rw [if_pos (.inr h2)]
    subst he
    have z2 : decide ((4096 : Int) < m) = true := by simp; omega
    go_enter Try.func15, Try.ntmps15
    go_wp2
    go_ret2
    exact nilV _ _ 0 _ _ HB.out
  have z2 : decide ((4096 : Int) < m) = false := by simp; omega
  clear h1 h2 HB
  go_enter Try.func15, Try.ntmps15
  go_wp2_with fail
  refine calls_at (fun W => Below w.heap.size w W) (below1 _ _) ?_
  intro W bW
  refine (l03Ask_any X n c rs Y m d ss _ _ W (HX.out.below bW) (HY.out.below bW) HS.out HS'.out hn hm).mono ?_
  rintro e w1 ⟨rfl, b1⟩
  rw [HC.out]
  have HB1 := Lib.hid (below_on (below_on bW b1) (below1 w1 (.cells #[] 28)))
  clear bW b1
  go_wp2
  go_ret2
  exact nilV _ _ 0 _ _ HB1.out

set_option maxHeartbeats 1600000 in
theorem specAxpy_bad (ng : Bool) (xs ys : List Int) (Aa Ba : Option Addr) (ca cb : Nat) (X : Option Addr) (n c : Nat) (rs : List R3) (Y : Option Addr) (d : Nat) (ss : List R3) (P P' P'' : Nat → Prop) (w : World) (ha : RdR w P xs ys Aa ca Ba cb) (hx : RdS w P' X n c rs) (hy : RdS w P'' Y n d ss) (hs : Small rs) (hs' : Small ss) (hl1 : xs.length ≤ 1048576) (hl2 : ys.length ≤ 1048576) (hn : n ≤ 1048576) (hask : askV n n rs ss = 0) (hbad : okR ng xs ys = false) :
    Calls Try.prog 15 #[.agg #[.bool ng, .slice Aa xs.length ca, .slice Ba ys.length cb], .slice X n c, .slice Y n d] w (SayVC w [] 1) := by
  have HA := Lib.hid (ha.mono (Q := (· < w.heap.size)) fun _ _ h => h)
  have HX := Lib.hid hx.low
  have HY := Lib.hid hy.low
  have HS := Lib.hid hs
  have HS' := Lib.hid hs'
  have hn4 : n ≤ 4096 := by
    rcases Nat.lt_or_ge 4096 n with h | h
    · unfold askV at hask; rw [if_pos (.inl h)] at hask; cases hask
    · exact h
  have z1 : decide ((4096 : Int) < n) = false := by simp; omega
  have HC := Lib.hid hask
  have HBAD := Lib.hid hbad
  clear ha hx hy hs hs' hask hbad
  go_enter Try.func15, Try.ntmps15
  go_wp2_with fail
  refine calls_at (fun W => Below w.heap.size w W ∧ RatAt W w.heap.size 28 ng Aa xs.length ca Ba ys.length cb) ⟨below1 _ _, RatAt.new _ _ _ _ _ _ _ _ _⟩ ?_
  rintro W ⟨bW, rW⟩
  refine (l03Ask_any X n c rs Y n d ss _ _ W (HX.out.below bW) (HY.out.below bW) HS.out HS'.out hn hn).mono ?_
  rintro e w1 ⟨rfl, b1⟩
  rw [HC.out]
  have HB1 := Lib.hid (below_on bW b1)
  have HR1 := Lib.hid (rW.on b1)
  clear bW rW b1
  have q0 := HR1.out.c0
  have q1 := HR1.out.c1
  have q2 := HR1.out.c2
  go_wp2_with fail
  have hr := HA.out.below HB1.out
  refine (specRatOK_any ng Aa Ba _ ca _ cb xs ys _ _ w1 hr.1 hr.2 (by omega) (by omega)).mono ?_
  rintro e w2 ⟨rfl, b2⟩
  rw [HBAD.out]
  have HB2 := Lib.hid (below_on (below_on HB1.out b2) (below1 w2 (.cells #[] 28)))
  clear hr b2 q0 q1 q2
  go_wp2
  go_ret2
  exact nilV _ _ 0 _ _ HB2.out

set_option maxRecDepth 20000 in
set_option maxHeartbeats 3200000 in
theorem l03Axpy_any (a : Rat) (ps qs : List Rat) (Aa Ba : Option Addr) (ca cb : Nat) (X Y : Option Addr) (n c d : Nat) (P P' P'' : Nat → Prop) (w : World) (ha : RdR w P (D (nu a)) (D a.den) Aa ca Ba cb) (hx : RdS w P' X n c (ps.map rat3)) (hy : RdS w P'' Y n d (qs.map rat3)) (l1 : (D (nu a)).length ≤ 40) (l2 : (D a.den).length ≤ 40) (hp : Fine ps) (hq : Fine qs) (hn : n ≤ 4) :
    Calls Try.prog 68 #[.agg #[.bool (isNeg a), .slice Aa (D (nu a)).length ca, .slice Ba (D a.den).length cb], .slice X n c, .slice Y n d] w fun e w' => ∃ V d, e = .returned (.slice V n d) ∧ RdS w' (fun _ => True) V n d ((axL a ps qs).map rat3) ∧ Below w.heap.size w w' := by
  have HA := Lib.hid (ha.mono (Q := (· < w.heap.size)) fun _ _ h => h)
  have HX := Lib.hid hx.low
  have HY := Lib.hid hy.low
  have HFP := Lib.hid hp
  have HFQ := Lib.hid hq
  have HLP : Hid (ps.length = n) := by have := hx.len; rw [List.length_map] at this; exact this
  have HLQ : Hid (qs.length = n) := by have := hy.len; rw [List.length_map] at this; exact this
  have HLR : Hid ((axL a ps qs).length = n) := by show _ = _; rw [axL_len a (by rw [HLP.out, HLQ.out]), HLP.out]
  have HGET := Lib.hid (fun k (h1 : k < ps.length) (h2 : k < qs.length) => axL_get a (ps := ps) (qs := qs) (k := k) h1 h2)
  have HBW := Lib.hid (below2 w (.cells #[.bool (isNeg a), .slice Aa (D (nu a)).length ca, .slice Ba (D a.den).length cb] 28) (.cells #[] 28))
  have HW := Lib.hid ((RatAt.new w 28 (isNeg a) Aa Ba (D (nu a)).length ca (D a.den).length cb).alloc (.cells #[] 28))
  clear ha hx hy hp hq
  generalize axL a ps qs = zs at *
  go_enter Try.func68, Try.ntmps68
  go_wp2
  go_loopw [7, 8] (fun v i wr => ∃ (k : Nat) (V : Option Addr) (cv : Nat) (L : List EV), k ≤ n ∧ i = .int .i64 k ∧ v = .slice V k cv ∧ Hid (L.map EV.v3 = (zs.take k).map rat3) ∧ Hid (wr.ownsRow (w.heap.size + 1) 28 3 (.slice V k cv) k (flat L)) ∧ Hid (PartsRd wr V L) ∧ Hid (RatAt wr w.heap.size 28 (isNeg a) Aa (D (nu a)).length ca Ba (D a.den).length cb) ∧ Hid (Below w.heap.size w wr)) (fun _ i _ => n - (intOf i).toNat)
  case atStart => exact ⟨0, _, 0, [], Nat.zero_le _, rfl, rfl, Lib.hid rfl, Lib.hid (by have := World.ownsRow_lit (w.alloc (.cells #[.bool (isNeg a), .slice Aa (D (nu a)).length ca, .slice Ba (D a.den).length cb] 28)) (base := w.heap.size + 1) (e := 28) (size := 3) #[] 0 (by simp) (by decide) rfl; rwa [World.size_alloc] at this), Lib.hid (fun i hi => by simp at hi), HW, HBW⟩
  case round =>
    obtain ⟨k, V, cv, L, hk, rfl, rfl, HV, HO, HP, HR, HB⟩ := hrel
    by_cases hlt : k < n
    · obtain ⟨b, o, rfl, hP, _, hc⟩ := HX.out.at_ (by omega)
      obtain ⟨b', o', rfl, hP', _, hc'⟩ := HY.out.at_ (by omega)
      obtain ⟨Ai, da, Bi, db, q0, q1, q2, hrd⟩ := hc k hlt
      obtain ⟨Ai', da', Bi', db', q0', q1', q2', hrd'⟩ := hc' k hlt
      have hkp : k < ps.length := by rw [HLP.out]; exact hlt
      have hkq : k < qs.length := by rw [HLQ.out]; exact hlt
      have hkz : k < zs.length := by rw [HLR.out]; exact hlt
      rw [getD_rat ps k hkp] at q0 q1 q2 hrd
      rw [getD_rat qs k hkq] at q0' q1' q2' hrd'
      have HTK := Lib.hid (take_map_snoc zs rat3 k hkz)
      have hz := HGET.out k hkp hkq
      have hfin := HFP.out.at_ k hkp
      have hfin' := HFQ.out.at_ k hkq
      have hl3 := (D_len_le (nu (ps.getD k 0)) 40).2 hfin.1
      have hl4 := (D_len_le (ps.getD k 0).den 40).2 hfin.2
      have hl5 := (D_len_le (nu (qs.getD k 0)) 40).2 hfin'.1
      have hl6 := (D_len_le (qs.getD k 0).den 40).2 hfin'.2
      have hml := mul_lens a (ps.getD k 0)
      have HRD := Lib.hid (RdR.below hrd HB.out)
      have HRD' := Lib.hid (RdR.below hrd' HB.out)
      have HAR := Lib.hid (HA.out.below HB.out)
      have hkN : (k : Int) < n := by omega
      have HX0 : Hid (C3 wr b (o + k * 3) (isNeg (ps.getD k 0)) Ai (D (nu (ps.getD k 0))).length da Bi (D (ps.getD k 0).den).length db) := C3.below (w := w) ⟨q0, q1, q2⟩ hP HB.out
      have HY0 : Hid (C3 wr b' (o' + k * 3) (isNeg (qs.getD k 0)) Ai' (D (nu (qs.getD k 0))).length da' Bi' (D (qs.getD k 0).den).length db') := C3.below (w := w) ⟨q0', q1', q2'⟩ hP' HB.out
      clear q0 q1 q2 hc hrd hkp hkq hfin hfin' q0' q1' q2' hc' hrd' hkz
      generalize ps.getD k 0 = p at *
      generalize qs.getD k 0 = q at *
      have hrl := HR.out.lt
      have hbl : b < wr.heap.size := Nat.lt_of_lt_of_le hP HB.out.size
      have hbl' : b' < wr.heap.size := Nat.lt_of_lt_of_le hP' HB.out.size
      obtain ⟨i0, hi0, hz0, hz1, hz2⟩ := info_parts infoRat
      have HMUL := Lib.hid (fun (W : World) (h0 : RdR W (· < w.heap.size) (D (nu a)) (D a.den) Aa ca Ba cb) (h1 : RdR W (· < w.heap.size) (D (nu p)) (D p.den) Ai da Bi db) => l02Mul_any a p Aa Ba ca cb Ai Bi da db _ _ W h0 h1 (by omega) (by omega) (by omega) (by omega))
      have HADD := Lib.hid (fun (W : World) (Am Bm : Option Addr) (cm dm : Nat) (h0 : RdR W (fun _ => True) (D (nu (a * p))) (D (a * p).den) Am cm Bm dm) (h1 : RdR W (· < w.heap.size) (D (nu q)) (D q.den) Ai' da' Bi' db') => l02Add_new (a * p) q Am Bm cm dm Ai' Bi' da' db' _ _ W h0 h1 (by omega) (by omega) (by omega) (by omega))
      rw [← hz] at HADD
      have HVV : Hid (∀ A1 c1 B1 d1, (L ++ [EV.mk (isNeg (zs.getD k 0)) A1 c1 B1 d1 (D (nu (zs.getD k 0))) (D (zs.getD k 0).den)]).map EV.v3 = (zs.take (k + 1)).map rat3) := by
        intro A1 c1 B1 d1
        rw [List.map_append, HV.out, HTK.out]
        rfl
      clear hz hml
      generalize zs.getD k 0 = z at *
      generalize a * p = m at *
      clear HV HTK
      go_wp2_with fail
      go_region_held3 (fun wx => (wx.cell? ⟨w.heap.size, 0, none⟩ = some (.bool (isNeg a)) ∧ wx.cell? ⟨w.heap.size, 1, none⟩ = some (.slice Aa (D (nu a)).length ca) ∧ wx.cell? ⟨w.heap.size, 2, none⟩ = some (.slice Ba (D a.den).length cb)) ∧ (wx.cell? ⟨b, o + k * 3, none⟩ = some (.bool (isNeg p)) ∧ wx.cell? ⟨b, o + k * 3 + 1, none⟩ = some (.slice Ai (D (nu p)).length da) ∧ wx.cell? ⟨b, o + k * 3 + 2, none⟩ = some (.slice Bi (D p.den).length db)) ∧ (wx.cell? ⟨b', o' + k * 3, none⟩ = some (.bool (isNeg q)) ∧ wx.cell? ⟨b', o' + k * 3 + 1, none⟩ = some (.slice Ai' (D (nu q)).length da') ∧ wx.cell? ⟨b', o' + k * 3 + 2, none⟩ = some (.slice Bi' (D q.den).length db')))
        (first | with_reducible exact ⟨⟨HR.out.c0, HR.out.c1, HR.out.c2⟩, HX0.out, HY0.out⟩ | exact ⟨⟨HR.out.c0, HR.out.c1, HR.out.c2⟩, HX0.out, HY0.out⟩ | exact ⟨⟨HR3.out.c0, HR3.out.c1, HR3.out.c2⟩, HX3.out, HY3.out⟩ | exact ⟨⟨HRL.out.c0, HRL.out.c1, HRL.out.c2⟩, HXL.out, HYL.out⟩ | exact ⟨⟨HR1.out.c0, HR1.out.c1, HR1.out.c2⟩, HX1.out, HY1.out⟩ | exact ⟨⟨HR2.out.c0, HR2.out.c1, HR2.out.c2⟩, HX2.out, HY2.out⟩)
        (first
          | (refine step_append_lies _ rfl (.tmp 16) (.tmp 28) 24 rfl (w.heap.size + 1) 28 i0 _ 3 56 Try.underlying24 hi0 hz0 hz1 hz2 rfl (by decide) _ k _ rfl (HO2.out.alloc _) ⟨w2.heap.size, 0, none⟩ 1 1 [.bool (isNeg z), .slice A2 (D (nu z)).length c2', .slice B2 (D z.den).length d2] rfl rfl (cells3 _ _ _ _ _ _ _ _ _) (one3 _ _ _ _ _ _ _) (by decide) (by unfold maxLen; omega) (by omega) (by simp; omega) _ rfl ?_; intro g' cv' w3 hown hgrow hat hlt2; have HO3 : Hid (w3.ownsRow (w.heap.size + 1) 28 3 (.slice (some ⟨g', 0, none⟩) (k + 1) cv') (k + 1) (flat (L ++ [EV.mk (isNeg z) A2 c2' B2 d2 (D (nu z)) (D z.den)]))) := (by rw [flat_snoc]; exact hown); have HP3 : Hid (PartsRd w3 (some ⟨g', 0, none⟩) (L ++ [EV.mk (isNeg z) A2 c2' B2 d2 (D (nu z)) (D z.den)])) := (HP2.out.on HLT.out).appended (HO2.out.alloc _) hgrow hat; have HR3 := Lib.hid (HRL.out.rowed3 (HO2.out.alloc _) (Nat.lt_succ_self _) hgrow); have hgb := rowed3_below (HO2.out.alloc _) (by simp; omega) hgrow; have HB3 := Lib.hid ((below_on HB2.out HLT.out).trans (hgb.mono (Nat.le_succ _))); have HX3 := Lib.hid (HXL.out.below (Nat.lt_succ_of_lt hP) hgb); have HY3 := Lib.hid (HYL.out.below (Nat.lt_succ_of_lt hP') hgb); clear hown hgrow hat hlt2 hgb)
          | (go_at_call 125; refine (HADD.out _ A1 B1 c1' d1 (by exact HM1.out) (by exact HRD1.out)).mono ?_; rintro e w2 ⟨A2, c2', B2, d2, rfl, o2, b2⟩; have HLT := Lib.hid (below1 w2 (.cells #[.bool (isNeg z), .slice A2 (D (nu z)).length c2', .slice B2 (D z.den).length d2] 28)); have HB2 := Lib.hid (below_on HB1.out b2); have HO2 := Lib.hid (own_keep3 HO1.out b2); have HP2 : Hid (PartsRd w2 V (L ++ [EV.mk (isNeg z) A2 c2' B2 d2 (D (nu z)) (D z.den)])) := (HP1.out.on b2).snoc (o2.mono fun b h _ => row_ne HO1.out (Nat.le_refl _) b h); have HR2 := Lib.hid (HR1.out.on b2); have HX2 := Lib.hid (HX1.out.on (Nat.lt_of_lt_of_le hbl hs1) b2); have HY2 := Lib.hid (HY1.out.on (Nat.lt_of_lt_of_le hbl' hs1) b2); have hs2 := b2.size; have HRL := Lib.hid (HR2.out.on HLT.out); have HXL := Lib.hid (HX2.out.on (Nat.lt_of_lt_of_le hbl (Nat.le_trans hs1 hs2)) HLT.out); have HYL := Lib.hid (HY2.out.on (Nat.lt_of_lt_of_le hbl' (Nat.le_trans hs1 hs2)) HLT.out); clear o2 b2)
          | (go_at_call 126; refine (HMUL.out _ (by exact HAR.out) (by exact HRD.out)).mono ?_; rintro e w1 ⟨A1, c1', B1, d1, rfl, o1, b1⟩; have b1 := undrew b1; have HB1 := Lib.hid (below_on HB.out b1); have HO1 := Lib.hid (own_keep3 HO.out b1); have HP1 := Lib.hid (HP.out.on b1); have HR1 := Lib.hid (HR.out.on b1); have HX1 := Lib.hid (HX0.out.on hbl b1); have HY1 := Lib.hid (HY0.out.on hbl' b1); have hs1 := b1.size; have HM1 := Lib.hid o1; have HRD1 := Lib.hid (HRD'.out.on b1); clear o1 b1))
      go_wp2
      go_roundw
      case rel => exact ⟨k + 1, _, _, _, by omega, by go_num, rfl, Lib.hid (HVV.out _ _ _ _), HO3, HP3, HR3, HB3⟩
      case measure => simp [intOf]; omega
    · obtain rfl : k = n := by omega
      have HF : Hid (RdS wr (fun _ => True) V k cv (zs.map rat3)) := by
        have := HP.out.rds HO.out
        rw [HV.out, List.take_of_length_le (by rw [HLR.out]; exact Nat.le_refl _)] at this
        exact this
      clear HV HP HO
      go_wp2
      go_ret
      exact ⟨V, cv, rfl, HF.out, HB.out⟩

set_option maxHeartbeats 1600000 in
theorem specAxpy_ok (a : Rat) (ps qs : List Rat) (Aa Ba : Option Addr) (ca cb : Nat) (X Y : Option Addr) (n c d : Nat) (P P' P'' : Nat → Prop) (w : World) (ha : RdR w P (D (nu a)) (D a.den) Aa ca Ba cb) (hx : RdS w P' X n c (ps.map rat3)) (hy : RdS w P'' Y n d (qs.map rat3)) (h1 : nu a < Top) (h2 : a.den < Top) (hp : Fine ps) (hq : Fine qs) (hask : askV n n (ps.map rat3) (qs.map rat3) = 0) :
    Calls Try.prog 15 #[.agg #[.bool (isNeg a), .slice Aa (D (nu a)).length ca, .slice Ba (D a.den).length cb], .slice X n c, .slice Y n d] w (SayVC w (fV (axL a ps qs)) (fVK (axL a ps qs))) := by
  obtain ⟨o1, o2, _, _⟩ := sameVV_yes hask
  have q3 := (okV_out o1).2.1
  have hlp : ps.length = n := by have := hx.len; rw [List.length_map] at this; exact this
  rw [List.length_map] at q3
  have HA := Lib.hid (ha.mono (Q := (· < w.heap.size)) fun _ _ h => h)
  have HX := Lib.hid hx.low
  have HY := Lib.hid hy.low
  have HP := Lib.hid hp
  have HQ := Lib.hid hq
  have l1 := (D_len_le (nu a) 40).2 h1
  have l2 := (D_len_le a.den 40).2 h2
  have hn4 : n ≤ 4 := by omega
  have z1 : decide ((4096 : Int) < n) = false := by simp; omega
  have HC := Lib.hid hask
  have HOKA := Lib.hid (okR_rat a h1 h2)
  have HLEN : Hid (∀ p ∈ axL a ps qs, (D (nu p)).length ≤ 16777216 ∧ (D p.den).length ≤ 16777216) := fun r hr => by have := axL_mem ⟨l1, l2⟩ hp hq r hr; omega
  have HAX := Lib.hid (fun (W : World) (h0 : RdR W (· < w.heap.size) (D (nu a)) (D a.den) Aa ca Ba cb) (h1 : RdS W (· < w.heap.size) X n c (ps.map rat3)) (h2 : RdS W (· < w.heap.size) Y n d (qs.map rat3)) => l03Axpy_any a ps qs Aa Ba ca cb X Y n c d _ _ _ W h0 h1 h2 l1 l2 hp hq hn4)
  clear ha hx hy hask h1 h2 hp hq o1 o2 q3 hlp
  generalize axL a ps qs = zs at *
  go_enter Try.func15, Try.ntmps15
  go_wp2_with fail
  refine calls_at (fun W => Below w.heap.size w W ∧ RatAt W w.heap.size 28 (isNeg a) Aa (D (nu a)).length ca Ba (D a.den).length cb) ⟨below1 _ _, RatAt.new _ _ _ _ _ _ _ _ _⟩ ?_
  rintro W ⟨bW, rW⟩
  refine (l03Ask_any X n c _ Y n d _ _ _ W (HX.out.below bW) (HY.out.below bW) (small_fine HP.out) (small_fine HQ.out) (by omega) (by omega)).mono ?_
  rintro e w1 ⟨rfl, b1⟩
  rw [HC.out]
  have HB1 := Lib.hid (below_on bW b1)
  have HR1 := Lib.hid (rW.on b1)
  clear bW rW b1
  have q0 := HR1.out.c0
  have q1 := HR1.out.c1
  have q2 := HR1.out.c2
  go_wp2_with fail
  have hr := HA.out.below HB1.out
  refine (specRatOK_any (isNeg a) Aa Ba _ ca _ cb _ _ _ _ w1 hr.1 hr.2 (by omega) (by omega)).mono ?_
  rintro e w2 ⟨rfl, b2⟩
  rw [HOKA.out]
  have HB2 := Lib.hid (below_on HB1.out b2)
  have HR2 := Lib.hid (HR1.out.on b2)
  clear hr b2 q0 q1 q2 HB1 HR1
  have q0 := HR2.out.c0
  have q1 := HR2.out.c1
  have q2 := HR2.out.c2
  go_wp2_with fail
  refine (HAX.out w2 (HA.out.below HB2.out) (HX.out.below HB2.out) (HY.out.below HB2.out)).mono ?_
  rintro e w3 ⟨V, d3, rfl, r3', b3⟩
  have HB3 := Lib.hid (below_on HB2.out b3)
  have HV3 := Lib.hid r3'
  clear b3 r3' q0 q1 q2 HB2 HR2
  go_wp2_with fail
  refine (l03Fit_any zs V n d3 _ w3 HV3.out HLEN.out (by omega)).mono ?_
  rintro e w4 ⟨V4, d4, rfl, o4, b4⟩
  have HO4 := Lib.hid o4
  have HB4 := Lib.hid (below_on HB3.out b4)
  clear o4 b4
  go_wp2
  go_ret2
  exact ⟨V4, d4, rfl, HO4.out, HB4.out⟩
end Go.Proofs.Ytlphcpkhclfkaaa
