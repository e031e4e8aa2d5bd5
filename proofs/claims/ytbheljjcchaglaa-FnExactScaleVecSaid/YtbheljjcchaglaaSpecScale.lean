/-
  ScaleVec of the model.
-/
import Derived.Test.YtbheljjcchaglaaSpecVec
namespace Nt
open Go Go.RowKit
/-- a struct's three cells -/
def C3 (w : World) (b k : Nat) (ng : Bool) (A : Option Addr) (la ca : Nat) (B : Option Addr) (lb cb : Nat) : Prop :=
  w.cell? ⟨b, k, none⟩ = some (.bool ng) ∧ w.cell? ⟨b, k + 1, none⟩ = some (.slice A la ca) ∧ w.cell? ⟨b, k + 2, none⟩ = some (.slice B lb cb)
theorem C3.on {w w' : World} {b k : Nat} {ng : Bool} {A : Option Addr} {la ca : Nat} {B : Option Addr} {lb cb : Nat} (h : C3 w b k ng A la ca B lb cb) (hb : b < w.heap.size) (hw : Below w.heap.size w w') : C3 w' b k ng A la ca B lb cb :=
  ⟨(hw.cell (p := ⟨b, k, none⟩) hb).trans h.1, (hw.cell (p := ⟨b, k + 1, none⟩) hb).trans h.2.1, (hw.cell (p := ⟨b, k + 2, none⟩) hb).trans h.2.2⟩
theorem C3.below {w w' : World} {N b k : Nat} {ng : Bool} {A : Option Addr} {la ca : Nat} {B : Option Addr} {lb cb : Nat} (h : C3 w b k ng A la ca B lb cb) (hb : b < N) (hw : Below N w w') : C3 w' b k ng A la ca B lb cb :=
  ⟨(hw.cell (p := ⟨b, k, none⟩) hb).trans h.1, (hw.cell (p := ⟨b, k + 1, none⟩) hb).trans h.2.1, (hw.cell (p := ⟨b, k + 2, none⟩) hb).trans h.2.2⟩
theorem nilV (w w' : World) (g code : Int) (b : Nat) (hB : Below w.heap.size w w') : SayVC w [] code (.returned (.tuple #[.slice (some ⟨b, 0, none⟩) 0 0, .int .i64 code])) w' :=
  ⟨_, 0, rfl, ⟨rfl, Nat.le_refl _, (fun h => by cases h), fun h => absurd h (Nat.lt_irrefl _)⟩, hB⟩
theorem ask_self (n : Nat) (rs : List R3) (h : ¬ 4096 < n) : askV n n rs rs = if okV rs then 0 else 1 := by
  unfold askV
  rw [if_neg (by omega), Bool.and_self, if_neg (show ¬ n ≠ n by omega)]
end Nt
namespace Go.Proofs.Ytbheljjcchaglaa
open Go Go.RowKit Nt

set_option maxHeartbeats 1600000 in
theorem specScaleVec_code (ng : Bool) (Aa Ba : Option Addr) (la ca lb cb : Nat) (X : Option Addr) (n c : Nat) (rs : List R3) (P' : Nat → Prop) (w : World) (hx : RdS w P' X n c rs) (hs : Small rs) (hn : n ≤ 1048576) (code : Int) (hcode : (if 4096 < n then 2 else if okV rs then 0 else 1) = code) (hc0 : code ≠ 0) :
    Calls Try.prog 23 #[.agg #[.bool ng, .slice Aa la ca, .slice Ba lb cb], .slice X n c] w (SayVC w [] code) := by
  have HX := Lib.hid hx.low
  have HS := Lib.hid hs
  have hbc : (code != 0) = true := by simpa using hc0
  clear hx hs
  by_cases h1 : 4096 < n
  · rw [if_pos h1] at hcode
    subst hcode
    have z1 : decide ((4096 : Int) < n) = true := by simp; omega
    have HB := Lib.hid (below2 w (.cells #[.bool ng, .slice Aa la ca, .slice Ba lb cb] 43) (.cells #[] 43))
    go_enter Try.func23, Try.ntmps23
    go_wp2
    go_ret2
    exact nilV _ _ 0 _ _ HB.out
  have z1 : decide ((4096 : Int) < n) = false := by simp; omega
  have HC : Hid (askV n n rs rs = code) := by show _ = _; rw [ask_self n rs h1, ← hcode, if_neg h1]
  clear hcode h1
  go_enter Try.func23, Try.ntmps23
  go_wp2_with fail
  refine calls_at (fun W => Below w.heap.size w W) (below1 _ _) ?_
  intro W bW
  refine (l03Ask_any X n c rs X n c rs _ _ W (HX.out.below bW) (HX.out.below bW) HS.out HS.out hn hn).mono ?_
  rintro e w1 ⟨rfl, b1⟩
  rw [HC.out]
  have HB1 := Lib.hid (below_on (below_on bW b1) (below1 w1 (.cells #[] 43)))
  clear bW b1
  go_wp2
  go_ret2
  exact nilV _ _ 0 _ _ HB1.out

set_option maxHeartbeats 1600000 in
theorem specScaleVec_bad (ng : Bool) (xs ys : List Int) (Aa Ba : Option Addr) (ca cb : Nat) (X : Option Addr) (n c : Nat) (rs : List R3) (P P' : Nat → Prop) (w : World) (ha : RdR w P xs ys Aa ca Ba cb) (hx : RdS w P' X n c rs) (hs : Small rs) (hl1 : xs.length ≤ 1048576) (hl2 : ys.length ≤ 1048576) (hn : n ≤ 4096) (hok : okV rs = true) (hbad : okR ng xs ys = false) :
    Calls Try.prog 23 #[.agg #[.bool ng, .slice Aa xs.length ca, .slice Ba ys.length cb], .slice X n c] w (SayVC w [] 1) := by
  have HA := Lib.hid (ha.mono (Q := (· < w.heap.size)) fun _ _ h => h)
  have HX := Lib.hid hx.low
  have HS := Lib.hid hs
  have z1 : decide ((4096 : Int) < n) = false := by simp; omega
  have HC : Hid (askV n n rs rs = 0) := by show _ = _; rw [ask_self n rs (by omega), if_pos hok]
  have HBAD := Lib.hid hbad
  clear ha hx hs hok hbad
  go_enter Try.func23, Try.ntmps23
  go_wp2_with fail
  refine calls_at (fun W => Below w.heap.size w W ∧ RatAt W w.heap.size 43 ng Aa xs.length ca Ba ys.length cb) ⟨below1 _ _, RatAt.new _ _ _ _ _ _ _ _ _⟩ ?_
  rintro W ⟨bW, rW⟩
  refine (l03Ask_any X n c rs X n c rs _ _ W (HX.out.below bW) (HX.out.below bW) HS.out HS.out (by omega) (by omega)).mono ?_
  rintro e w1 ⟨rfl, b1⟩
  rw [HC.out]
  have HB1 := Lib.hid (below_on bW b1)
  have HR1 := Lib.hid (rW.on b1)
  clear bW rW b1
  have q0 := HR1.out.c0
  have q1 := HR1.out.c1
  have q2 := HR1.out.c2
  go_wp2_with fail
  have hr := HA.out.below HB1.out
  refine (specRatOK_any ng Aa Ba _ ca _ cb xs ys _ _ w1 hr.1 hr.2 (by omega) (by omega)).mono ?_
  rintro e w2 ⟨rfl, b2⟩
  rw [HBAD.out]
  have HB2 := Lib.hid (below_on (below_on HB1.out b2) (below1 w2 (.cells #[] 43)))
  clear hr b2 q0 q1 q2
  go_wp2
  go_ret2
  exact nilV _ _ 0 _ _ HB2.out

set_option maxRecDepth 20000 in
set_option maxHeartbeats 3200000 in
theorem specScaleVec_ok (a : Rat) (qs : List Rat) (Aa Ba : Option Addr) (ca cb : Nat) (X : Option Addr) (n c : Nat) (P P' : Nat → Prop) (w : World) (ha : RdR w P (D (nu a)) (D a.den) Aa ca Ba cb) (hx : RdS w P' X n c (qs.map rat3)) (h1 : nu a < Top) (h2 : a.den < Top) (hq : Fine qs) (hn : n ≤ 4) (hok : okV (qs.map rat3) = true) :
    Calls Try.prog 23 #[.agg #[.bool (isNeg a), .slice Aa (D (nu a)).length ca, .slice Ba (D a.den).length cb], .slice X n c] w (SayVC w (fV (qs.map fun q => a * q)) (fVK (qs.map fun q => a * q))) := by
  have HA := Lib.hid (ha.mono (Q := (· < w.heap.size)) fun _ _ h => h)
  have HX := Lib.hid hx.low
  have HQ := Lib.hid hq
  have HL : Hid (qs.length = n) := by have := hx.len; rw [List.length_map] at this; exact this
  have l1 := (D_len_le (nu a) 40).2 h1
  have l2 := (D_len_le a.den 40).2 h2
  have z1 : decide ((4096 : Int) < n) = false := by simp; omega
  have HC : Hid (askV n n (qs.map rat3) (qs.map rat3) = 0) := by show _ = _; rw [ask_self n _ (by omega), if_pos hok]
  have HOKA := Lib.hid (okR_rat a h1 h2)
  have HLEN : Hid (∀ p ∈ (qs.map fun q => a * q), (D (nu p)).length ≤ 16777216 ∧ (D p.den).length ≤ 16777216) := by
    intro p hp
    obtain ⟨q, hq', rfl⟩ := List.mem_map.1 hp
    have k1 := (D_len_le (nu q) 40).2 (hq q hq').1
    have k2 := (D_len_le q.den 40).2 (hq q hq').2
    have := mul_lens a q
    omega
  clear ha hx hok h1 h2 hq
  go_enter Try.func23, Try.ntmps23
  go_wp2_with fail
  refine calls_at (fun W => Below w.heap.size w W ∧ RatAt W w.heap.size 43 (isNeg a) Aa (D (nu a)).length ca Ba (D a.den).length cb) ⟨below1 _ _, RatAt.new _ _ _ _ _ _ _ _ _⟩ ?_
  rintro W ⟨bW, rW⟩
  refine (l03Ask_any X n c _ X n c _ _ _ W (HX.out.below bW) (HX.out.below bW) (small_fine HQ.out) (small_fine HQ.out) (by omega) (by omega)).mono ?_
  rintro e w1 ⟨rfl, b1⟩
  rw [HC.out]
  have HB1 := Lib.hid (below_on bW b1)
  have HR1 := Lib.hid (rW.on b1)
  clear bW rW b1
  have q0 := HR1.out.c0
  have q1 := HR1.out.c1
  have q2 := HR1.out.c2
  go_wp2_with fail
  have hr := HA.out.below HB1.out
  refine (specRatOK_any (isNeg a) Aa Ba _ ca _ cb _ _ _ _ w1 hr.1 hr.2 (by omega) (by omega)).mono ?_
  rintro e w2 ⟨rfl, b2⟩
  rw [HOKA.out]
  have HBW := Lib.hid (below_on (below_on HB1.out b2) (below1 w2 (.cells #[] 43)))
  have HW := Lib.hid ((HR1.out.on b2).on (below1 w2 (.cells #[] 43)))
  have hwl : w.heap.size + 1 ≤ w2.heap.size := (HR1.out.on b2).lt
  clear hr b2 q0 q1 q2 HB1 HR1
  go_wp2
  go_loopw [7, 8] (fun v i wr => ∃ (k : Nat) (V : Option Addr) (cv : Nat) (L : List EV), k ≤ n ∧ i = .int .i64 k ∧ v = .slice V k cv ∧ Hid (L.map EV.v3 = (qs.take k).map fun q => rat3 (a * q)) ∧ Hid (wr.ownsRow (w.heap.size + 1) 43 3 (.slice V k cv) k (flat L)) ∧ Hid (PartsRd wr V L) ∧ Hid (RatAt wr w.heap.size 43 (isNeg a) Aa (D (nu a)).length ca Ba (D a.den).length cb) ∧ Hid (Below w.heap.size w wr)) (fun _ i _ => n - (intOf i).toNat)
  case atStart => exact ⟨0, _, 0, [], Nat.zero_le _, rfl, rfl, Lib.hid rfl, Lib.hid (World.ownsRow_lit _ #[] 0 hwl (by decide) rfl), Lib.hid (fun i hi => by simp at hi), HW, HBW⟩
  case round =>
    obtain ⟨k, V, cv, L, hk, rfl, rfl, HV, HO, HP, HR, HB⟩ := hrel
    by_cases hlt : k < n
    · obtain ⟨b, o, rfl, hP, _, hc⟩ := HX.out.at_ (by omega)
      obtain ⟨Ai, da, Bi, db, q0, q1, q2, hrd⟩ := hc k hlt
      have hkq : k < qs.length := by rw [HL.out]; exact hlt
      rw [getD_rat qs k hkq] at q0 q1 q2 hrd
      have HTK := Lib.hid (take_map_snoc qs (fun q => rat3 (a * q)) k hkq)
      have hfin := HQ.out.at_ k hkq
      have hl3 := (D_len_le (nu (qs.getD k 0)) 40).2 hfin.1
      have hl4 := (D_len_le (qs.getD k 0).den 40).2 hfin.2
      have HRD := Lib.hid (RdR.below hrd HB.out)
      have HAR := Lib.hid (HA.out.below HB.out)
      have hkN : (k : Int) < n := by omega
      have HC3 : Hid (C3 w b (o + k * 3) (isNeg (qs.getD k 0)) Ai (D (nu (qs.getD k 0))).length da Bi (D (qs.getD k 0).den).length db) := ⟨q0, q1, q2⟩
      clear q0 q1 q2 hc hrd hkq hfin
      generalize qs.getD k 0 = q at *
      have HX0 := Lib.hid (HC3.out.below hP HB.out)
      have hrl := HR.out.lt
      have hbl : b < wr.heap.size := Nat.lt_of_lt_of_le hP HB.out.size
      obtain ⟨i0, hi0, hz0, hz1, hz2⟩ := info_parts infoRat
      have HMUL := Lib.hid (fun (W : World) (h0 : RdR W (· < w.heap.size) (D (nu a)) (D a.den) Aa ca Ba cb) (h1 : RdR W (· < w.heap.size) (D (nu q)) (D q.den) Ai da Bi db) => l02Mul_new a q Aa Ba ca cb Ai Bi da db _ _ W h0 h1 (by omega) (by omega) (by omega) (by omega))
      have HVV : Hid (∀ A1 c1 B1 d1, (L ++ [EV.mk (isNeg (a * q)) A1 c1 B1 d1 (D (nu (a * q))) (D (a * q).den)]).map EV.v3 = (qs.take (k + 1)).map fun q => rat3 (a * q)) := by
        intro A1 c1 B1 d1
        rw [List.map_append, HV.out, HTK.out]
        rfl
      generalize a * q = p at *
      clear HV HTK HC3
      go_wp2_with fail
      go_region_held3 (fun wx => (wx.cell? ⟨w.heap.size, 0, none⟩ = some (.bool (isNeg a)) ∧ wx.cell? ⟨w.heap.size, 1, none⟩ = some (.slice Aa (D (nu a)).length ca) ∧ wx.cell? ⟨w.heap.size, 2, none⟩ = some (.slice Ba (D a.den).length cb)) ∧ (wx.cell? ⟨b, o + k * 3, none⟩ = some (.bool (isNeg q)) ∧ wx.cell? ⟨b, o + k * 3 + 1, none⟩ = some (.slice Ai (D (nu q)).length da) ∧ wx.cell? ⟨b, o + k * 3 + 2, none⟩ = some (.slice Bi (D q.den).length db)))
        (first | with_reducible exact ⟨⟨HR.out.c0, HR.out.c1, HR.out.c2⟩, HX0.out⟩ | exact ⟨⟨HR.out.c0, HR.out.c1, HR.out.c2⟩, HX0.out⟩ | exact ⟨⟨HR3.out.c0, HR3.out.c1, HR3.out.c2⟩, HX3.out⟩ | exact ⟨⟨HRL.out.c0, HRL.out.c1, HRL.out.c2⟩, HXL.out⟩ | exact ⟨⟨HR1.out.c0, HR1.out.c1, HR1.out.c2⟩, HX1.out⟩)
        (first
          | (refine step_append_lies _ rfl (.tmp 31) (.tmp 38) 32 rfl (w.heap.size + 1) 43 i0 _ 3 56 Try.underlying32 hi0 hz0 hz1 hz2 rfl (by decide) _ k _ rfl (HO1.out.alloc _) ⟨w1.heap.size, 0, none⟩ 1 1 [.bool (isNeg p), .slice A1 (D (nu p)).length c1', .slice B1 (D p.den).length d1] rfl rfl (cells3 _ _ _ _ _ _ _ _ _) (one3 _ _ _ _ _ _ _) (by decide) (by unfold maxLen; omega) (by omega) (by simp; omega) _ rfl ?_; intro g' cv' w3 hown hgrow hat hlt2; have HO3 : Hid (w3.ownsRow (w.heap.size + 1) 43 3 (.slice (some ⟨g', 0, none⟩) (k + 1) cv') (k + 1) (flat (L ++ [EV.mk (isNeg p) A1 c1' B1 d1 (D (nu p)) (D p.den)]))) := (by rw [flat_snoc]; exact hown); have HP3 : Hid (PartsRd w3 (some ⟨g', 0, none⟩) (L ++ [EV.mk (isNeg p) A1 c1' B1 d1 (D (nu p)) (D p.den)])) := (HP1.out.on HLT.out).appended (HO1.out.alloc _) hgrow hat; have HR3 := Lib.hid (HRL.out.rowed3 (HO1.out.alloc _) (Nat.lt_succ_self _) hgrow); have hgb := rowed3_below (HO1.out.alloc _) (by simp; omega) hgrow; have HB3 := Lib.hid ((below_on HB1.out HLT.out).trans (hgb.mono (Nat.le_succ _))); have HX3 := Lib.hid (HXL.out.below (Nat.lt_succ_of_lt hP) hgb); clear hown hgrow hat hlt2 hgb)
          | (go_at_call 55; refine (HMUL.out _ (by exact HAR.out) (by exact HRD.out)).mono ?_; rintro e w1 ⟨A1, c1', B1, d1, rfl, o1, b1⟩; have b1 := undrew b1; have HLT := Lib.hid (below1 w1 (.cells #[.bool (isNeg p), .slice A1 (D (nu p)).length c1', .slice B1 (D p.den).length d1] 43)); have HB1 := Lib.hid (below_on HB.out b1); have HO1 := Lib.hid (own_keep3 HO.out b1); have HP1 : Hid (PartsRd w1 V (L ++ [EV.mk (isNeg p) A1 c1' B1 d1 (D (nu p)) (D p.den)])) := (HP.out.on b1).snoc (o1.mono fun b h _ => row_ne HO.out (Nat.le_refl _) b h); have HR1 := Lib.hid (HR.out.on b1); have HX1 := Lib.hid (HX0.out.on hbl b1); have hs1 := b1.size; have HRL := Lib.hid (HR1.out.on HLT.out); have HXL := Lib.hid (HX1.out.on (Nat.lt_of_lt_of_le hbl hs1) HLT.out); clear o1 b1))
      go_wp2
      go_roundw
      case rel => exact ⟨k + 1, _, _, _, by omega, by go_num, rfl, Lib.hid (HVV.out _ _ _ _), HO3, HP3, HR3, HB3⟩
      case measure => simp [intOf]; omega
    · obtain rfl : k = n := by omega
      have HF : Hid (RdS wr (fun _ => True) V k cv ((qs.map fun q => a * q).map rat3)) := by
        have := HP.out.rds HO.out
        rw [HV.out, List.take_of_length_le (by rw [HL.out]; exact Nat.le_refl _)] at this
        show RdS _ _ _ _ _ _
        rw [List.map_map]
        exact this
      clear HV HP HO
      go_wp2_with fail
      refine (l03Fit_any (qs.map fun q => a * q) V k cv _ wr HF.out HLEN.out (by omega)).mono ?_
      rintro e w4 ⟨V4, d4, rfl, o4, b4⟩
      have HO4 := Lib.hid o4
      have HB4 := Lib.hid (below_on HB.out b4)
      clear o4 b4
      go_wp2
      go_ret2
      exact ⟨V4, d4, rfl, HO4.out, HB4.out⟩
end Go.Proofs.Ytbheljjcchaglaa
