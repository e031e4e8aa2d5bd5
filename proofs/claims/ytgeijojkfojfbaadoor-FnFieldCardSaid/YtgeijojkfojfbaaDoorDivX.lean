/-
  What is divided, in place: divideRest, in blocks whose first cells are known.
-/
import Derived.Test.YtgeijojkfojfbaaDoorHigh
import Derived.Lib.SliceRun
import Derived.Deep.LoopGhost
namespace Nt
open Go Go.RowKit
/-- only the blocks a and b may have turned, and what is new -/
def Two (a b : Nat) (w w' : World) : Prop :=
  w'.os = w.os ∧ w'.tape = w.tape ∧ w'.output = w.output ∧ w.heap.size ≤ w'.heap.size ∧ ∀ k, k < w.heap.size → k ≠ a → k ≠ b → w'.heap[k]? = w.heap[k]?
theorem Two.refl (a b : Nat) (w : World) : Two a b w w := ⟨rfl, rfl, rfl, Nat.le_refl _, fun _ _ _ _ => rfl⟩
theorem Two.size {a b : Nat} {w w' : World} (h : Two a b w w') : w.heap.size ≤ w'.heap.size := h.2.2.2.1
theorem Two.block {a b : Nat} {w w' : World} (h : Two a b w w') : ∀ k, k < w.heap.size → k ≠ a → k ≠ b → w'.heap[k]? = w.heap[k]? := h.2.2.2.2
theorem Two.trans {a b : Nat} {u v w : World} (h : Two a b u v) (k : Two a b v w) : Two a b u w :=
  ⟨k.1.trans h.1, k.2.1.trans h.2.1, k.2.2.1.trans h.2.2.1, Nat.le_trans h.size k.size, fun i hi h1 h2 => (k.block i (Nat.lt_of_lt_of_le hi h.size) h1 h2).trans (h.block i hi h1 h2)⟩
theorem Two.left {a b : Nat} {w w' : World} (h : w.grownBy w' (some a)) : Two a b w w' := ⟨h.os, h.tape, h.output, h.size, fun k hk h1 _ => h.block k hk (fun e => h1 (by injection e))⟩
theorem Two.right {a b : Nat} {w w' : World} (h : w.grownBy w' (some b)) : Two a b w w' := ⟨h.os, h.tape, h.output, h.size, fun k hk _ h2 => h.block k hk (fun e => h2 (by injection e))⟩
theorem Two.drawn {a b : Nat} {w w' : World} (h : Drawn w w') : Two a b w w' := Two.left (h.grown _)
theorem Two.below {a b B : Nat} {w w' : World} (h : Two a b w w') (hB : B ≤ w.heap.size) (ha : B ≤ a) (hb : B ≤ b) : Below B w w' :=
  ⟨h.1, h.2.1, h.2.2.1, h.size, fun k hk => h.block k (by omega) (by omega) (by omega)⟩
theorem Rd.two {w w' : World} {a b : Nat} {A : Option Addr} {n c : Nat} {xs : List Int} (h : Rd w (fun k => k ≠ a ∧ k ≠ b) A n c xs) (ht : Two a b w w') : Rd w' (fun k => k ≠ a ∧ k ≠ b) A n c xs :=
  h.keep ht.size fun k hp hk => ht.block k hk hp.1 hp.2
theorem arx_setCells (g : Nat) (t : TypeId) (kx : Nat) (post : List Int) : ∀ (ys : List Int) (o : Nat) (w : World) (pre xs : List Int), Arx w g t kx (pre ++ (xs ++ post)) → pre.length = o → xs.length = ys.length →
    Arx (w.setCells g o (ys.map (Value.int .i64))) g t kx (pre ++ (ys ++ post)) ∧ w.grownBy (w.setCells g o (ys.map (Value.int .i64))) (some g)
  | [], o, w, pre, xs, h, _, hx => by
    have : xs = [] := List.eq_nil_of_length_eq_zero (by simpa using hx)
    subst this
    exact ⟨h, World.grownBy.refl _ _⟩
  | y :: ys, o, w, pre, xs, h, ho, hx => by
    obtain ⟨x, xs, rfl⟩ : ∃ x r, xs = x :: r := by
      cases xs with
      | nil => simp at hx
      | cons x r => exact ⟨x, r, rfl⟩
    have h1 := h.set_ o y
    have e : (pre ++ (x :: xs ++ post)).set o y = (pre ++ [y]) ++ (xs ++ post) := by subst ho; simp
    rw [e] at h1
    obtain ⟨h2, h3⟩ := arx_setCells g t kx post ys (o + 1) _ (pre ++ [y]) xs h1 (by simp [ho]) (by simpa using hx)
    have e2 : pre ++ (y :: ys ++ post) = (pre ++ [y]) ++ (ys ++ post) := by simp
    rw [e2]
    exact ⟨h2, grown_trans (grown_set (World.grownBy.refl _ _) _) h3⟩
/-- clear of the first cells of a block -/
theorem run_clear_x {P : Program} (w : World) (t e : TypeId) (ht : P.underlying t = some (.slice e)) (hz : ∀ w, (zeroValue e).run P w = .ok (.int .i64 0) w) (g N c : Nat) (tb : TypeId) (kx : Nat) (full post : List Int) (hf : Arx w g tb kx (full ++ post)) (hl : full.length = N) (hN : 0 < N) :
    ∃ w', (∀ ty, (Builtin.clear_ #[t] ty #[.slice (some ⟨g, 0, none⟩) N c]).run P w = .ok (.tuple #[]) w') ∧ Arx w' g tb kx (zeros N ++ post) ∧ w.grownBy w' (some g) := by
  have h0 : List.replicate N (Value.int .i64 0) = (zeros N).map (Value.int .i64) := by simp [zeros]
  have hs := arx_setCells g tb kx post (zeros N) 0 w [] full (by simpa using hf) rfl (by rw [zeros_len]; exact hl)
  rw [← h0] at hs
  refine ⟨_, fun ty => Lib.run_clear_slice (P := P) w t e ty (.int .i64 0) ht hz rfl rfl g 0 N c hN (fun j hj => ?_) (fun j hj => ?_), ?_, ?_⟩
  · rw [Nat.zero_add, hf.cell j (by simp; omega)]; rfl
  · rw [Nat.zero_add]; exact hf.frozen j
  · simpa using hs.1
  · exact hs.2
/-- what a division leaves: the quotient in block gq, the rest in block gr, ahead of post -/
def DividedX (tq tr : TypeId) (kq kr : Nat) (w : World) (gq gr NQ nr : Nat) (pq post : List Int) (m n : Int) (w' : World) : Prop :=
  ∃ qs rs : List Int, qs.length = NQ ∧ Limbs qs ∧ val qs = m / n ∧ Arx w' gq tq kq (qs ++ pq) ∧ rs.length = nr ∧ Limbs rs ∧ val rs = m % n ∧ Arx w' gr tr kr (rs ++ post) ∧ Two gq gr w w'
end Nt
namespace Go.Proofs.YtgeijojkfojfbaaDoor
open Go Go.RowKit Nt

theorem zeroInt (w : World) : (zeroValue 3).run Tryd.prog w = .ok (.int .i64 0) w := by kernel_rfl

set_option maxHeartbeats 3200000 in
theorem divideRest_x (gq gr NQ cq nr cr kq kr : Nat) (tq tr : TypeId) (full pq xs post : List Int) (B : Option Addr) (lb cb n : Nat) (w : World)
    (hq : Arx w gq tq kq (full ++ pq)) (hql : full.length = NQ) (hrr : Arx w gr tr kr (xs ++ post)) (hxl : xs.length = nr) (hl : Limbs xs) (hcr : nr ≤ cr) (hb : Rd w (fun k => k ≠ gq ∧ k ≠ gr) B lb cb (D n)) (hn : 0 < n)
    (hne : gq ≠ gr) (hNQ : nr ≤ NQ) (hNQ0 : 0 < NQ) (hN : NQ ≤ 1000) (hlb : lb ≤ 1000) :
    Calls Tryd.prog 60 #[.slice (some ⟨gq, 0, none⟩) NQ cq, .slice (some ⟨gr, 0, none⟩) nr cr, .slice B lb cb] w fun e w' => e = .returned (.tuple #[]) ∧ DividedX tq tr kq kr w gq gr NQ nr pq post (val xs) n w' := by
  obtain ⟨wc, hclr, haq, hgq⟩ := run_clear_x (P := Tryd.prog) w 23 3 Tryd.underlying23 zeroInt gq NQ cq tq kq full pq hq hql hNQ0
  have HAQ := Lib.hid haq
  have HAR := Lib.hid (hrr.keep (hgq.block _ hrr.lt (fun e => hne (by injection e with e; exact e.symm))))
  have HTW : Hid (Two gq gr w wc) := Two.left hgq
  have HXL := Lib.hid hxl
  have HL := Lib.hid hl
  have HB := Lib.hid hb
  have HBL := Lib.hid hb.len
  have HD := Lib.hid (D_top n hn)
  have HDB := Lib.hid (D_bound n)
  clear hq hql hrr hxl hl hb haq hgq
  by_cases hsmall : nr < lb
  · have HLT : Hid (val xs < n) := by
      show _ < _
      have h1 := val_lt HL.out
      have h2 := HD.out
      have h3 := pow_mono (show xs.length ≤ (D n).length - 1 by have := HXL.out; have := HBL.out; omega)
      omega
    go_enter Tryd.func60, Tryd.ntmps60
    go_wp2
    go_step3
    go_wp2
    go_step3
    go_wp2
    refine wp_loop_rounds 1 ?_
    rw [rounds_succ]
    go_wp2
    rw [Exit.noGoto_normal]
    go_end0
    have h0 := val_nonneg HL.out
    obtain ⟨e1, e2⟩ := div_done (q := 0) (M := val xs) h0 HLT.out (by simp)
    exact ⟨rfl, zeros NQ, xs, zeros_len _, zeros_limbs _, by rw [zeros_val]; exact e1, HAQ.out, HXL.out, HL.out, e2, HAR.out, HTW.out⟩
  · go_enter Tryd.func60, Tryd.ntmps60
    go_wp2
    go_step3
    go_wp2
    go_step3
    go_wp2
    clear hclr
    go_loopg [6] (nr + 1 - lb) (fun k p wr => ∃ (rs qs : List Int), k + lb ≤ nr + 1 ∧ p = .int .i64 ((k : Int) - 1) ∧ rs.length = nr ∧ Limbs rs ∧ qs.length = NQ ∧ Limbs qs ∧ (∀ j, j < k → qs.getD j 0 = 0) ∧ val rs + n * val qs = val xs ∧ vd rs k < n ∧ Arx wr gr tr kr (rs ++ post) ∧ Arx wr gq tq kq (qs ++ pq) ∧ Two gq gr w wr)
    case atStart =>
      refine ⟨xs, zeros NQ, by omega, by congr 1; omega, HXL.out, HL.out, zeros_len _, zeros_limbs _, fun j _ => zeros_getD _ j, by rw [zeros_val]; simp, ?_, HAR.out, HAQ.out, HTW.out⟩
      have h1 := vd_lt HL.out (nr + 1 - lb)
      have h2 := HD.out
      have h3 := pow_mono (show xs.length - (nr + 1 - lb) ≤ (D n).length - 1 by have := HXL.out; have := HBL.out; omega)
      omega
    case round =>
      obtain ⟨rs, qs, hk, rfl, hrl, hrlim, hqn, hqlim, hqz, hM, hv, har, haq, htw⟩ := hrel
      have HRL := Lib.hid hrl
      have HRM := Lib.hid hrlim
      have HQL := Lib.hid hqn
      have HQM := Lib.hid hqlim
      have HQZ := Lib.hid hqz
      have HM := Lib.hid hM
      have HV := Lib.hid hv
      have HA := Lib.hid har
      have HQ := Lib.hid haq
      have HT := Lib.hid htw
      clear hrl hrlim hqn hqlim hqz hM hv har haq htw HAQ HAR HTW
      by_cases hk0 : 0 < gk
      · obtain ⟨p, rfl⟩ : ∃ p, gk = p + 1 := ⟨gk - 1, by omega⟩
        rw [show ((p + 1 : Nat) : Int) - 1 = (p : Int) from by omega]
        have hlb0 : 0 < lb := by
          have h1 : (D n).length ≠ 0 := by
            intro e
            have := (D_nil_iff n).1 (List.eq_nil_of_length_eq_zero e)
            omega
          have := HBL.out
          omega
        obtain ⟨nw, hnw1, hnw2, hnw3, hnw4, hnw5⟩ : ∃ nw, lb ≤ nw ∧ nw ≤ lb + 1 ∧ p + nw ≤ nr ∧ (nw = (D n).length + 1 ∨ p + nw = rs.length) ∧ ((p + lb + 1 ≤ nr ∧ nw = lb + 1) ∨ (nr < p + lb + 1 ∧ p + nw = nr)) := by
          have hb := HBL.out
          have hr := HRL.out
          by_cases hcut : p + lb + 1 ≤ nr
          · exact ⟨lb + 1, by omega, by omega, by omega, by omega, by omega⟩
          · exact ⟨lb, by omega, by omega, by omega, by omega, by omega⟩
        obtain ⟨hw0, hw1, hw2⟩ := div_window HRM.out n p nw (by have := HRL.out; omega) HV.out hnw4
        have HPART := Lib.hid (div_parts rs p nw)
        have HWL : Hid (((rs.drop p).take nw).length = nw) := by show _ = _; have := HRL.out; simp; omega
        have HPL : Hid ((rs.take p).length = p) := by show _ = _; have := HRL.out; simp; omega
        have HWM := Lib.hid (limbs_take (limbs_drop HRM.out p) nw)
        have HW0 := Lib.hid hw0
        have HW2 : Hid (val ((rs.drop p).take nw) < 10000 * n) := by show _ < _; omega
        have HAW : Hid (Arx wr gr tr kr (rs.take p ++ (rs.drop p).take nw ++ (rs.drop (p + nw) ++ post))) := by
          show Arx _ _ _ _ _
          rw [← List.append_assoc, ← HPART.out]
          exact HA.out
        have H5 := Lib.hid hnw5
        clear hw0 hw1 hw2 hnw4 hnw5 HA HPART
        have hpc : (p : Int) < cr := by omega
        by_cases hcut : p + lb + 1 ≤ nr
        all_goals
          go_wp2_with fail
          first
            | rw [show ((p : Int) + lb + 1).toNat - p = nw from by have := H5.out; omega]
            | rw [show p + lb + 1 - p = nw from by have := H5.out; omega]
            | rw [show nr - p = nw from by have := H5.out; omega]
          generalize hws : (rs.drop p).take nw = ws at *
          generalize hpre : rs.take p = pre at *
          generalize hpo : rs.drop (p + nw) = po at *
          have HWS := Lib.hid hws
          have HPRE := Lib.hid hpre
          have HPO := Lib.hid hpo
          clear hws hpre hpo
          have hcpn : nw ≤ cr - p := by omega
          have hrd : Rd wr (fun _ => True) (some ⟨gr, p, none⟩) nw (cr - p) ws := by
            have h := HAW.out.rd (fun _ => True) trivial p nw (cr - p) (by have := HPL.out; have := HWL.out; simp; omega) hcpn
            have e : ((pre ++ ws ++ (po ++ post)).drop p).take nw = ws := by
              have h1 := HPL.out
              have h2 := HWL.out
              rw [List.append_assoc, List.drop_append_of_le_length (by omega), List.drop_of_length_le (by omega), List.nil_append, List.take_append_of_le_length (by omega), List.take_of_length_le (by omega)]
            rw [e] at h
            exact h
          refine (guessTimes_any (some ⟨gr, p, none⟩) B nw (cr - p) lb cb n ws (fun _ => True) _ wr hrd (HB.out.two HT.out) HWM.out hn hnw1 hnw2 hlb HW2.out).mono ?_
          rintro e w1 ⟨⟨t0, ht0, ht1, ht2, rfl⟩, rfl⟩
          clear hrd
          have HT2 := Lib.hid ht2
          clear ht2
          go_wp2_with fail
          refine (takeTimes_x gr p nw (cr - p) kr tr pre ws (po ++ post) B lb cb n t0 wr HAW.out HPL.out HWL.out ((HB.out.two HT.out).mono (fun b h _ => h.2)) HWM.out ht0 (by omega) HT2.out (by omega) (by omega) (by omega)).mono ?_
          rintro e w1 ⟨rfl, ws1, hl1, hm1, hv1, ha1, hg1⟩
          have HL1 := Lib.hid hl1
          have HM1 := Lib.hid hm1
          have HV1 := Lib.hid hv1
          have HA1 := Lib.hid ha1
          have HQ1 := Lib.hid (HQ.out.keep (hg1.block _ HQ.out.lt (fun e => hne (by injection e))))
          have HT1 := Lib.hid (HT.out.trans (Two.right hg1))
          clear hl1 hm1 hv1 ha1 hg1 HAW HQ HT
          go_wp2
          go_loopg [8] (10000 - t0.toNat) (fun gt tv wr => ∃ (t : Int) (ws' : List Int), (gt : Int) + t = 10000 ∧ 0 ≤ t ∧ t ≤ 9999 ∧ tv = .int .i64 t ∧ ws'.length = nw ∧ Limbs ws' ∧ val ws' + n * t = val ws ∧ Arx wr gr tr kr (pre ++ ws' ++ (po ++ post)) ∧ Arx wr gq tq kq (qs ++ pq) ∧ Two gq gr w wr)
          case atStart => exact ⟨t0, ws1, by omega, ht0, ht1, rfl, HL1.out, HM1.out, by rw [HV1.out]; omega, HA1.out, HQ1.out, HT1.out⟩
          case round =>
            obtain ⟨t, ws', hgt, ht0', ht1', rfl, hl', hm', hv', ha', hq', htw'⟩ := hrel
            have HL' := Lib.hid hl'
            have HM' := Lib.hid hm'
            have HV' := Lib.hid hv'
            have HA' := Lib.hid ha'
            have HQ' := Lib.hid hq'
            have HT' := Lib.hid htw'
            clear hl' hm' hv' ha' hq' htw' HL1 HM1 HV1 HA1 HQ1 HT1 HT2
            have HGT := Lib.hid hgt
            clear hgt
            have hrd : Rd wr (fun _ => True) (some ⟨gr, p, none⟩) nw (cr - p) ws' := by
              have h := HA'.out.rd (fun _ => True) trivial p nw (cr - p) (by have := HPL.out; have := HL'.out; simp; omega) hcpn
              have e : ((pre ++ ws' ++ (po ++ post)).drop p).take nw = ws' := by
                have h1 := HPL.out
                have h2 := HL'.out
                rw [List.append_assoc, List.drop_append_of_le_length (by omega), List.drop_of_length_le (by omega), List.nil_append, List.take_append_of_le_length (by omega), List.take_of_length_le (by omega)]
              rw [e] at h
              exact h
            have HRD := Lib.hid hrd
            clear hrd
            go_wp2_with fail
            refine (trimmed_any _ nw (cr - p) ws' (fun _ => True) wr HRD.out HM'.out (by omega)).mono ?_
            rintro e w2 ⟨rfl, rfl⟩
            have hle := trim_len_le HM'.out
            have hrd2 := HRD.out.cut (D (natOf ws')).length (by have := HL'.out; omega)
            rw [take_trim HM'.out] at hrd2
            have HR2 := Lib.hid hrd2
            have hle2 : (D (natOf ws')).length ≤ 16777216 := by have := HL'.out; omega
            clear hrd2 hle
            go_wp2_with fail
            refine (compareLimbs_any _ B _ (cr - p) lb cb (natOf ws') n (fun _ => True) _ wr HR2.out (HB.out.two HT'.out) hle2 (by omega)).mono ?_
            rintro e w2 ⟨rfl, hd2⟩
            have HA2 := Lib.hid (hd2.arx HA'.out)
            have HQ2 := Lib.hid (hd2.arx HQ'.out)
            have HT2 := Lib.hid (HT'.out.trans (Two.drawn hd2))
            clear hd2 HA' HQ' HT' HR2 HRD hle2
            by_cases hlt : natOf ws' < n
            · rw [cmpI_lt hlt]
              have hfz := HQ2.out.frozen p
              have hcc := HQ2.out.cell p (by have := HQL.out; simp; omega)
              have hst := HQ2.out.set_ p t
              rw [List.set_append_left _ _ (by have := HQL.out; omega)] at hst
              have HST := Lib.hid hst
              have hgs : w2.grownBy (w2.setCell ⟨gq, p, none⟩ (.int .i64 t)) (some gq) := grown_set (World.grownBy.refl _ _) _
              have HAS := Lib.hid (HA2.out.keep (hgs.block _ HA2.out.lt (fun e => hne (by injection e with e; exact e.symm))))
              have HTS := Lib.hid (HT2.out.trans (Two.left hgs))
              clear hst hgs HQ2 HA2 HT2
              generalize (qs ++ pq).getD p 0 = old at hcc
              have hpq : (p : Int) < NQ := by omega
              go_wp2
              go_roundg p
              case measure => omega
              case rel =>
                have hv1 := HV'.out
                rw [← HWS.out] at hv1
                obtain ⟨e1, e2⟩ := div_next (by have := HRL.out; omega) HL'.out HW0.out hv1 (HQZ.out p (by omega)) (by have := HQL.out; omega) HM.out
                rw [HPRE.out, HPO.out] at e1 e2
                refine ⟨pre ++ ws' ++ po, qs.set p t, by omega, rfl, ?_, ?_, by rw [List.length_set]; exact HQL.out, limbs_set HQM.out p t ht0' (by omega), ?_, e1, ?_, ?_, HST.out, HTS.out⟩
                · have h1 := HPL.out
                  have h2 := HL'.out
                  have h3 : po.length = nr - (p + nw) := by rw [← HPO.out, List.length_drop, HRL.out]
                  simp only [List.length_append]
                  omega
                · refine limbs_append.2 ⟨limbs_append.2 ⟨?_, HM'.out⟩, ?_⟩
                  · rw [← HPRE.out]; exact limbs_take HRM.out p
                  · rw [← HPO.out]; exact limbs_drop HRM.out _
                · intro j hj
                  have hz := HQZ.out j (by omega)
                  simp only [List.getD, List.getElem?_set, if_neg (show ¬ p = j from by omega)] at hz ⊢
                  exact hz
                · rw [e2]
                  have := natOf_val HM'.out
                  omega
                · have := HAS.out
                  rwa [← List.append_assoc] at this
            · obtain ⟨hc0, hc1⟩ := cmpI_ge hlt
              generalize cmpI (natOf ws') n = cc at *
              have hge : (n : Int) * 1 ≤ val ws' := by have := natOf_val HM'.out; omega
              have HGE := Lib.hid hge
              clear hge
              go_wp2_with fail
              refine (takeTimes_x gr p nw (cr - p) kr tr pre ws' (po ++ post) B lb cb n 1 w2 HA2.out HPL.out HL'.out ((HB.out.two HT2.out).mono (fun b h _ => h.2)) HM'.out (by omega) (by omega) HGE.out (by omega) (by omega) (by omega)).mono ?_
              rintro e w3 ⟨rfl, ws2, hl2, hm2, hv2, ha2, hg2⟩
              have HL2 := Lib.hid hl2
              have HM2 := Lib.hid hm2
              have HV2 : Hid (val ws2 + n * (t + 1) = val ws) := by show _ = _; have := HV'.out; rw [Int.mul_add]; omega
              have HA3 := Lib.hid ha2
              have HQ3 := Lib.hid (HQ2.out.keep (hg2.block _ HQ2.out.lt (fun e => hne (by injection e))))
              have HT3 := Lib.hid (HT2.out.trans (Two.right hg2))
              have ht9 : t + 1 ≤ 9999 := guess_lt (v := val ws) (by have := HV2.out; have := val_nonneg hm2; omega) HW2.out
              clear hl2 hm2 hv2 ha2 hg2 HA2 HQ2 HT2 HV' HM' HL'
              go_wp2
              go_roundg (gk - 1)
              case measure => have := HGT.out; omega
              case rel => exact ⟨t + 1, ws2, by have := HGT.out; omega, by omega, ht9, rfl, HL2.out, HM2.out, HV2.out, HA3.out, HQ3.out, HT3.out⟩
      · obtain rfl : gk = 0 := by omega
        go_wp2
        rw [Exit.noGoto_normal]
        go_end0
        have h0 := val_nonneg HRM.out
        obtain ⟨e1, e2⟩ := div_done (r := val rs) (q := val qs) (M := val xs) h0 HV.out HM.out
        exact ⟨rfl, qs, rs, HQL.out, HQM.out, e1, HQ.out, HRL.out, HRM.out, e2, HA.out, HT.out⟩
end Go.Proofs.YtgeijojkfojfbaaDoor
