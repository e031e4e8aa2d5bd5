/-
  Roots of the program: halved, RootNat.
-/
import Derived.Test.YtgeijojkfojfbabGcd
import Derived.Test.YtgeijojkfojfbabRootMath
import Derived.Deep.RegionHeld3
import Derived.Deep.RegionWith
namespace Go.Proofs.Ytgeijojkfojfbab
open Go Go.RowKit Nt

set_option maxHeartbeats 800000 in
theorem halved_any (g N v : Nat) (t : TypeId) (post : List Int) (w : World) (hf : Arr w g t (D v ++ post)) (hN : (D v ++ post).length = N) (hN2 : N ≤ 1000) :
    Calls Try.prog 54 #[.slice (some ⟨g, 0, none⟩) (D v).length N] w fun e w' => e = .returned (.slice (some ⟨g, 0, none⟩) (D (v / 2)).length N) ∧ Put t w g N (D (v / 2)) w' := by
  have HF := Lib.hid hf
  have HN := Lib.hid hN
  have hlN : (D v).length ≤ N := by rw [← hN]; simp
  clear hf hN
  obtain ⟨n, hn⟩ : ∃ n, n = (D v).length := ⟨_, rfl⟩
  have HNL := Lib.hid hn
  rw [← hn] at hlN ⊢
  clear hn
  go_enter Try.func54, Try.ntmps54
  go_wp2
  go_loopw [3, 4] (fun q p wr => ∃ (k : Nat) (c : Int) (ys : List Int), k ≤ n ∧ p = .int .i64 ((k : Int) - 1) ∧ q = .int .i64 c ∧ 0 ≤ c ∧ c ≤ 1 ∧ c = vd (D v) k % 2 ∧ ys.length = n - k ∧ Limbs ys ∧ val ys = vd (D v) k / 2 ∧ Arr wr g t ((D v).take k ++ ys ++ post) ∧ w.grownBy wr (some g)) (fun _ p _ => (intOf p + 1).toNat)
  case atStart =>
    refine ⟨n, 0, [], Nat.le_refl _, rfl, rfl, by omega, by omega, ?_, by simp, limbs_nil, ?_, ?_, World.grownBy.refl _ _⟩
    · rw [vd_end (D v) n (by have := HNL.out; omega)]; rfl
    · rw [vd_end (D v) n (by have := HNL.out; omega)]; rfl
    · rw [List.take_of_length_le (by have := HNL.out; omega), List.append_nil]; exact HF.out
  case round =>
    obtain ⟨k, c, ys, hk, rfl, rfl, hc0, hc1, hcv, hyl, hym, hyv, har, hgr⟩ := hrel
    have HCV := Lib.hid hcv
    have HYL := Lib.hid hyl
    have HYM := Lib.hid hym
    have HYV := Lib.hid hyv
    have HA := Lib.hid har
    have HG := Lib.hid hgr
    clear hcv hyl hym hyv har hgr
    by_cases h0 : 0 < k
    · obtain ⟨p, rfl⟩ : ∃ p, k = p + 1 := ⟨k - 1, by omega⟩
      rw [show ((p + 1 : Nat) : Int) - 1 = (p : Int) from by omega]
      have hbx := limbs_getD (limbs_D v) p
      have hsp : (D v).take (p + 1) ++ ys ++ post = (D v).take p ++ ([(D v).getD p 0] ++ (ys ++ post)) := by
        rw [take_snoc (D v) p (by have := HNL.out; omega)]; simp
      have hpl : ((D v).take p).length = p := by rw [List.length_take]; have := HNL.out; omega
      have ha := HA.out
      rw [hsp] at ha
      have hfz := ha.frozen p
      have hcc := ha.cell p (by rw [List.length_append, hpl]; simp)
      have hge : ((D v).take p ++ ([(D v).getD p 0] ++ (ys ++ post))).getD p 0 = (D v).getD p 0 := by
        conv => lhs; arg 2; rw [← hpl]
        simp [List.getD]
      rw [hge] at hcc
      have hst := ha.set_ p ((c * 10000 + (D v).getD p 0) / 2)
      have hse : ((D v).take p ++ ([(D v).getD p 0] ++ (ys ++ post))).set p ((c * 10000 + (D v).getD p 0) / 2) = (D v).take p ++ (((c * 10000 + (D v).getD p 0) / 2) :: ys) ++ post := by
        conv => lhs; arg 2; rw [← hpl]
        simp
      rw [hse] at hst
      have hhs := half_step (x := (D v).getD p 0) HYV.out HCV.out
      rw [← vd_step] at hhs
      have HST := Lib.hid hst
      have HHS := Lib.hid hhs
      clear hsp hpl ha hge hst hse hhs HA
      generalize (D v).getD p 0 = x at *
      have hv0 : 0 ≤ c * 10000 + x := by omega
      have HLM := Lib.hid (limbs_cons.2 ⟨(show 0 ≤ (c * 10000 + x) / 2 ∧ (c * 10000 + x) / 2 < 10000 from by omega), HYM.out⟩)
      have hpn : (p : Int) < n := by omega
      go_wp2
      go_roundw
      case rel => exact ⟨p, (c * 10000 + x) % 2, ((c * 10000 + x) / 2) :: ys, by omega, rfl, rfl, by omega, by omega, HHS.out.2, by have := HYL.out; simp; omega, HLM.out, by rw [val]; exact HHS.out.1, HST.out, grown_set HG.out _⟩
      case measure => simp [intOf]
    · obtain rfl : k = 0 := by omega
      have hyv := HYV.out
      rw [vd_zero, val_D] at hyv
      have HNT : Hid (natOf ys = v / 2) := by
        show _ = _
        have := natOf_val HYM.out
        omega
      have HA' : Hid (Arr wr g t (ys ++ post)) := by
        have := HA.out
        rw [List.take_zero, List.nil_append] at this
        exact this
      have HRD : Hid (Rd wr (fun _ => True) (some ⟨g, 0, none⟩) n N ys) := by
        have h1 := HYL.out
        have := HA'.out.rd (fun _ => True) trivial 0 n N (by simp; omega) hlN
        rwa [List.drop_zero, List.take_append_of_le_length (by omega), List.take_of_length_le (by omega)] at this
      clear hyv HA
      go_wp2_with fail
      refine (trimmed_any _ n N ys (fun _ => True) wr HRD.out HYM.out (by omega)).mono ?_
      rintro e w2 ⟨rfl, rfl⟩
      go_wp2
      go_ret
      have hle := trim_len_le HYM.out
      have htt := take_trim HYM.out
      rw [HNT.out] at hle htt ⊢
      have hyl := HYL.out
      have hnl := HNL.out
      have hNN := HN.out
      refine ⟨rfl, ys ++ post, ?_, HA'.out, ?_, by omega, HG.out⟩
      · rw [← HN.out, List.length_append, List.length_append]; omega
      · rw [List.take_append_of_le_length hle]; exact htt

theorem zero42 (w : World) : (zeroValue 52).run Try.prog w = .ok (.agg (cellsOf (zeros 42))) w := by kernel_rfl
theorem rd_head {w : World} {g N : Nat} {t : TypeId} {xs post : List Int} (h : Arr w g t (xs ++ post)) (P : Nat → Prop) (hP : P g) (hN : xs.length ≤ N) : Rd w P (some ⟨g, 0, none⟩) xs.length N xs := by
  have := h.rd P hP 0 xs.length N (by simp) hN
  rwa [List.drop_zero, List.take_append_of_le_length (Nat.le_refl _), List.take_length] at this
theorem put_arr {t : TypeId} {w w' : World} {g N : Nat} {xs : List Int} (h : Put t w g N xs w') : ∃ post, Arr w' g t (xs ++ post) ∧ (xs ++ post).length = N := by
  obtain ⟨full, h1, h2, h3, h4, _⟩ := h
  refine ⟨full.drop xs.length, ?_, ?_⟩
  · have : xs ++ full.drop xs.length = full := by
      conv => lhs; lhs; rw [← h3]
      exact List.take_append_drop _ _
    rw [this]; exact h2
  · rw [List.length_append, List.length_drop]; omega
theorem put_grown {t : TypeId} {w w' : World} {g N : Nat} {xs : List Int} (h : Put t w g N xs w') : w.grownBy w' (some g) := by
  obtain ⟨full, h1, h2, h3, h4, h5⟩ := h
  exact h5

set_option maxHeartbeats 3200000 in
theorem implRootNat_any (la ca : Nat) (A : Option Addr) (xs : List Int) (P : Nat → Prop) (w : World) (hx0 : Rd w P A la ca xs) (hla : la ≤ 16777216) :
    Calls Try.prog 28 #[.slice A la ca] w (RetCode 3 w (resL (codeL [xs]) (D (rt (natOf xs)))) (codeL [xs])) := by
  have hx : Rd w (· < w.heap.size) A la ca xs := hx0.mono fun _ _ h => h
  have HX := Lib.hid hx
  clear hx0 hx
  go_enter Try.func28, Try.ntmps28
  go_wp2_with fail
  have hb : Below w.heap.size w (w.alloc (.cells #[.slice A la ca] 23)) := (Below.refl _ _).alloc (Nat.le_refl _) _
  refine (natCode1 w.heap.size la ca A xs (· < w.heap.size) _ (by simp [World.cell?_alloc_at]) (HX.out.below hb) hla).mono ?_
  rintro e w1 ⟨rfl, rfl⟩
  have HB := Lib.hid hb
  have hs1 := hb.size
  clear hb
  generalize w.alloc (.cells #[.slice A la ca] 23) = W1 at *
  by_cases hcode : codeL [xs] = 0
  · obtain ⟨m, hm, rfl⟩ := codeL1_ok hcode
    have HC := Lib.hid hcode
    rw [hcode]
    clear hcode
    have hla' : la ≤ 40 := by rw [← HX.out.len]; exact (D_len_le m 40).2 hm
    by_cases hm0 : m = 0
    · subst hm0
      obtain rfl : la = 0 := by rw [← HX.out.len]; rfl
      go_wp2
      go_ret2
      rw [HC.out, natOf_D]
      exact ⟨none, 0, rfl, World.ownsRow_nil _ _ _ _, HB.out⟩
    · have hla0 : 0 < la := by
        rw [← HX.out.len]
        rw [List.length_pos_iff]
        intro e
        exact hm0 ((D_nil_iff m).1 e)
      have hne0 : ((la : Int) == 0) = false := by simp; omega
      have hz := zero42
      have hsl := fun w => run_cut_arr (P := Try.prog) 52 3 42 Try.underlying52 infoInt W1.heap.size ((la + 1) / 2 + 1) (by omega) w
      rw [show (((la + 1) / 2 + 1 : Nat) : Int) = ((la : Int) + 1) / 2 + 1 from by omega] at hsl
      have hcell : (cellsOf (zeros 42))[(la + 1) / 2]? = some (.int .i64 0) := by rw [cellsOf_get _ _ (by rw [zeros_len]; omega), zeros_getD]
      go_wp2
      clear hz hsl hcell
      have hsm : (D (10000 ^ ((la + 1) / 2))).length = (la + 1) / 2 + 1 := by rw [D_pow]; simp
      have hroot : (cellsOf (zeros 42)).setIfInBounds ((la + 1) / 2) (Value.int .i64 1) = cellsOf (D (10000 ^ ((la + 1) / 2)) ++ zeros (41 - (la + 1) / 2)) := by
        have e1 : (cellsOf (zeros 42)).setIfInBounds ((la + 1) / 2) (Value.int .i64 1) = cellsOf ((zeros 42).set ((la + 1) / 2) 1) := by simp [cellsOf, List.map_set]
        have e2 : (zeros 42).set ((la + 1) / 2) 1 = D (10000 ^ ((la + 1) / 2)) ++ zeros (41 - (la + 1) / 2) := by
          have e3 : zeros 42 = zeros ((la + 1) / 2) ++ zeros (42 - (la + 1) / 2) := by
            unfold zeros; rw [List.replicate_append_replicate]; congr 1; omega
          rw [e3, set_zeros _ _ _ _ (zeros_len _) (by omega), D_pow]
          rw [show 42 - (la + 1) / 2 - 1 = 41 - (la + 1) / 2 from by omega]
          rfl
        rw [e1, e2]
      have HSTART : Hid (rt m ≤ 10000 ^ ((la + 1) / 2)) := root_start ((D_len_le m la).1 (by have := HX.out.len; omega))
      rw [← hsm, hroot]
      have hlen21 : (D (10000 ^ ((la + 1) / 2))).length ≤ 21 := by omega
      have HL42 : Hid ((D (10000 ^ ((la + 1) / 2)) ++ zeros (41 - (la + 1) / 2)).length = 42) := by show _ = _; rw [List.length_append, zeros_len]; omega
      have HA5 : Hid (Arr ((((W1.alloc (.cells (cellsOf (D (10000 ^ ((la + 1) / 2)) ++ zeros (41 - (la + 1) / 2))) 52)).alloc (.cells (cellsOf (zeros 42)) 52)).alloc (.cells (cellsOf (zeros 42)) 52)).alloc (.cells (cellsOf (zeros 42)) 52)) W1.heap.size 52 (D (10000 ^ ((la + 1) / 2)) ++ zeros (41 - (la + 1) / 2))) :=
        (Below.heap_alloc _ _ _ (by simp; omega)).trans ((Below.heap_alloc _ _ _ (by simp; omega)).trans (heap_alloc2_old W1 _ _))
      have HA6 : Hid (Arr ((((W1.alloc (.cells (cellsOf (D (10000 ^ ((la + 1) / 2)) ++ zeros (41 - (la + 1) / 2))) 52)).alloc (.cells (cellsOf (zeros 42)) 52)).alloc (.cells (cellsOf (zeros 42)) 52)).alloc (.cells (cellsOf (zeros 42)) 52)) (W1.heap.size + 1) 52 (zeros 42)) :=
        (Below.heap_alloc _ _ _ (by simp <;> omega)).trans ((Below.heap_alloc _ _ _ (by simp)).trans (heap_alloc2_new W1 _ _))
      have HA7 : Hid (Arr ((((W1.alloc (.cells (cellsOf (D (10000 ^ ((la + 1) / 2)) ++ zeros (41 - (la + 1) / 2))) 52)).alloc (.cells (cellsOf (zeros 42)) 52)).alloc (.cells (cellsOf (zeros 42)) 52)).alloc (.cells (cellsOf (zeros 42)) 52)) (W1.heap.size + 1 + 1) 52 (zeros 42)) := by
        have := heap_alloc2_new (W1.alloc (.cells (cellsOf (D (10000 ^ ((la + 1) / 2)) ++ zeros (41 - (la + 1) / 2))) 52)) (.cells (cellsOf (zeros 42)) 52) (.cells (cellsOf (zeros 42)) 52)
        rw [World.size_alloc] at this
        exact (Below.heap_alloc _ _ _ (by simp)).trans this
      have HA8 : Hid (Arr ((((W1.alloc (.cells (cellsOf (D (10000 ^ ((la + 1) / 2)) ++ zeros (41 - (la + 1) / 2))) 52)).alloc (.cells (cellsOf (zeros 42)) 52)).alloc (.cells (cellsOf (zeros 42)) 52)).alloc (.cells (cellsOf (zeros 42)) 52)) (W1.heap.size + 1 + 1 + 1) 52 (zeros 42)) := by
        have := heap_alloc2_new ((W1.alloc (.cells (cellsOf (D (10000 ^ ((la + 1) / 2)) ++ zeros (41 - (la + 1) / 2))) 52)).alloc (.cells (cellsOf (zeros 42)) 52)) (.cells (cellsOf (zeros 42)) 52) (.cells (cellsOf (zeros 42)) 52)
        rw [World.size_alloc, World.size_alloc] at this
        exact this
      have HB5 := Lib.hid ((((HB.out.alloc hs1 (.cells (cellsOf (D (10000 ^ ((la + 1) / 2)) ++ zeros (41 - (la + 1) / 2))) 52)).alloc (by simp; omega) (.cells (cellsOf (zeros 42)) 52)).alloc (by simp; omega) (.cells (cellsOf (zeros 42)) 52)).alloc (by simp; omega) (.cells (cellsOf (zeros 42)) 52))
      clear hroot hsm
      generalize (((W1.alloc (.cells (cellsOf (D (10000 ^ ((la + 1) / 2)) ++ zeros (41 - (la + 1) / 2))) 52)).alloc (.cells (cellsOf (zeros 42)) 52)).alloc (.cells (cellsOf (zeros 42)) 52)).alloc (.cells (cellsOf (zeros 42)) 52) = W5 at *
      generalize zeros (41 - (la + 1) / 2) = f0 at *
      obtain ⟨r0, hr0⟩ : ∃ r0, r0 = 10000 ^ ((la + 1) / 2) := ⟨_, rfl⟩
      rw [← hr0] at HSTART hlen21 HL42 HA5 ⊢
      clear hr0
      have hsl7 := fun w => run_cut_arr (P := Try.prog) 52 3 42 Try.underlying52 infoInt (W1.heap.size + 1 + 1) la (by omega) w
      go_loopg [10] r0 (fun r v wr => ∃ (f5 qs rs ss : List Int), v = .slice (some ⟨W1.heap.size, 0, none⟩) (D r).length 42 ∧ rt m ≤ r ∧ (D r).length ≤ 21 ∧ Arr wr W1.heap.size 52 (D r ++ f5) ∧ (D r ++ f5).length = 42 ∧ Arr wr (W1.heap.size + 1) 52 qs ∧ qs.length = 42 ∧ Arr wr (W1.heap.size + 1 + 1) 52 rs ∧ rs.length = 42 ∧ Arr wr (W1.heap.size + 1 + 1 + 1) 52 ss ∧ ss.length = 42 ∧ Below w.heap.size w wr)
      case atStart => exact ⟨f0, zeros 42, zeros 42, zeros 42, rfl, HSTART.out, hlen21, HA5.out, HL42.out, HA6.out, zeros_len _, HA7.out, zeros_len _, HA8.out, zeros_len _, HB5.out⟩
      case round =>
        obtain ⟨f5, qs, rs, ss, rfl, hrt, hl21, h5, hl5, h6, hl6, h7, hl7, h8, hl8, hb⟩ := hrel
        have H5 := Lib.hid h5
        have HL5 := Lib.hid hl5
        have H6 := Lib.hid h6
        have HL6 := Lib.hid hl6
        have H7 := Lib.hid h7
        have HL7 := Lib.hid hl7
        have H8 := Lib.hid h8
        have HL8 := Lib.hid hl8
        have HBR := Lib.hid hb
        clear h5 hl5 h6 hl6 h7 hl7 h8 hl8 hb HSTART hlen21 HL42 HA5 HA6 HA7 HA8 HB5
        have hsz := HBR.out.size
        have hr0 : 0 < gk := by
          have := rt_gt m
          rcases Nat.eq_zero_or_pos (rt m) with h | h
          · rw [h] at this; omega
          · omega
        have HRX := Lib.hid (HX.out.below HBR.out)
        go_wp2_with (first | ((with_reducible show wpList _ _ _ (⟨some 33, _, _, _, _, _⟩ :: _) _ _); refine wpList_copy_ints _ rfl (.tmp 31) (.tmp 32) 23 rfl 3 Try.underlying23 infoInt (W1.heap.size + 1 + 1) 42 42 52 rs rfl (by exact H7.out) (by rw [HL7.out]; exact Nat.le_refl _) _ A la ca (D m) rfl (by exact HRX.out) (by omega) ?_; intro w3 hcp hgr; have HC7 := Lib.hid hcp; have H53 := Lib.hid (H5.out.keep (hgr.block _ H5.out.lt (fun e => by injection e with e; omega))); have H63 := Lib.hid (H6.out.keep (hgr.block _ H6.out.lt (fun e => by injection e with e; omega))); have H83 := Lib.hid (H8.out.keep (hgr.block _ H8.out.lt (fun e => by injection e with e; omega))); have HB3 := Lib.hid (HBR.out.trans (grown_below (B := w.heap.size) hgr hsz (by omega))); clear hcp hgr) | fail)
        clear H5 H6 H7 H8 HBR HRX
        have HLA := Lib.hid HX.out.len
        have hs3 := HB3.out.size
        refine (divideRest_any (W1.heap.size + 1) (W1.heap.size + 1 + 1) 42 42 la 42 52 52 qs (D m) (rs.drop la) (some ⟨W1.heap.size, 0, none⟩) (D gk).length 42 gk w3 H63.out HL6.out HC7.out HLA.out (limbs_D m) (by omega) (rd_head H53.out _ (by constructor <;> omega) (by omega)) hr0 (by omega) (by omega) (by omega) (by omega) (by omega)).mono ?_
        rintro e w4 ⟨rfl, qs2, rs2, hql, hqm, hqv, hqa, hrl, hrm, hrv, hra, htw⟩
        rw [val_D] at hqv
        have HNQ := Lib.hid (natOf_div hqm hqv)
        have H64 := Lib.hid hqa
        have HL64 := Lib.hid hql
        have HQM := Lib.hid hqm
        have H74 := Lib.hid hra
        have HL74 : Hid ((rs2 ++ rs.drop la).length = 42) := by show _ = _; have := HL7.out; rw [List.length_append, List.length_drop, hrl]; omega
        have H54 := Lib.hid (H53.out.keep (htw.block _ H53.out.lt (by omega) (by omega)))
        have H84 := Lib.hid (H83.out.keep (htw.block _ H83.out.lt (by omega) (by omega)))
        have HB4 := Lib.hid (HB3.out.trans (htw.below hs3 (by omega) (by omega)))
        clear hql hqm hqv hqa hrl hrm hrv hra htw H53 H63 H83 HC7 HB3
        have hq40 : (D (m / gk)).length ≤ 40 := (D_len_le _ 40).2 (by have := Nat.div_le_self m gk; unfold Top at hm; omega)
        have HRQ := Lib.hid (H64.out.rd_all (fun _ => True) trivial 42 42 HL64.out.symm (Nat.le_refl _))
        have hr6 : Rd w4 (· ≠ W1.heap.size + 1 + 1 + 1) (some ⟨W1.heap.size + 1, 0, none⟩) (D (m / gk)).length 42 (D (m / gk)) := by
          have := trim_fresh_rd (H64.out.rd_all (· ≠ W1.heap.size + 1 + 1 + 1) (by omega) 42 42 HL64.out.symm (Nat.le_refl _)) HQM.out
          rwa [HNQ.out] at this
        have HR6 := Lib.hid hr6
        have HR5 := Lib.hid (rd_head H54.out (· ≠ W1.heap.size + 1 + 1 + 1) (by omega) (show (D gk).length ≤ 42 by omega))
        clear hr6
        go_wp2
        go_region_held3 (fun _ => True) (trivial) (first
          | (go_at_call 46; refine (trimmed_any _ 42 42 qs2 (fun _ => True) _ (by exact HRQ.out) HQM.out (by omega)).mono ?_; rintro e wq ⟨rfl, rfl⟩; rw [HNQ.out])
          | (go_at_call 40; refine (addInto_any (W1.heap.size + 1 + 1 + 1) 42 52 ss (some ⟨W1.heap.size, 0, none⟩) (some ⟨W1.heap.size + 1, 0, none⟩) (D gk).length 42 (D (m / gk)).length 42 gk (m / gk) _ (by exact H84.out) HL8.out (by exact HR5.out) (by exact HR6.out) (by omega) (by omega) (by omega)).mono ?_; rintro e w5 ⟨rfl, hput⟩; have HP := Lib.hid hput; obtain ⟨post, ha, hl⟩ := put_arr hput; have HPA := Lib.hid ha; have HPL := Lib.hid hl; clear hput ha hl)
          | (go_at_call 54; refine (halved_any (W1.heap.size + 1 + 1 + 1) 42 (gk + m / gk) 52 post _ (by exact HPA.out) HPL.out (by omega)).mono ?_; rintro e w6 ⟨rfl, hput2⟩; have HP2 := Lib.hid hput2; clear hput2))
        clear HRQ HR5 HR6
        obtain ⟨nx, hnx⟩ : ∃ nx, nx = (gk + m / gk) / 2 := ⟨_, rfl⟩
        have HGE := Lib.hid (newton_ge hrt hr0)
        have HEND : Hid (gk ≤ (gk + m / gk) / 2 → gk = rt m) := newton_end hrt
        rw [← hnx] at HP2 HGE HEND ⊢
        clear hnx
        obtain ⟨post2, ha2, hl2⟩ := put_arr HP2.out
        have hg1 : w4.grownBy w5 (some (W1.heap.size + 1 + 1 + 1)) := grown_trans ((Drawn.refl w4).drew.grown _) (put_grown HP.out)
        have hg2 : w5.grownBy w6 (some (W1.heap.size + 1 + 1 + 1)) := put_grown HP2.out
        have hg := grown_trans hg1 hg2
        have H56 := Lib.hid (H54.out.keep (hg.block _ H54.out.lt (fun e => by injection e with e; omega)))
        have H66 := Lib.hid (H64.out.keep (hg.block _ H64.out.lt (fun e => by injection e with e; omega)))
        have H76 := Lib.hid (H74.out.keep (hg.block _ H74.out.lt (fun e => by injection e with e; omega)))
        have hs4 := HB4.out.size
        have HB6 := Lib.hid (HB4.out.trans (grown_below hg hs4 (by omega)))
        have H86 := Lib.hid ha2
        have HL86 := Lib.hid hl2
        have hn42 : (D nx).length ≤ 42 := by have := hl2; rw [List.length_append] at this; omega
        clear ha2 hl2 hg1 hg2 hg H54 H64 H74 H84 HB4 HP HP2 HPA HPL
        go_wp2_with fail
        refine (compareLimbs_any _ _ (D nx).length 42 (D gk).length 42 nx gk (fun _ => True) (fun _ => True) w6 (rd_head H86.out _ trivial hn42) (rd_head H56.out _ trivial (by omega)) (by omega) (by omega)).mono ?_
        rintro e w7 ⟨rfl, hd7⟩
        have H57 := Lib.hid (hd7.arr H56.out)
        have H67 := Lib.hid (hd7.arr H66.out)
        have H77 := Lib.hid (hd7.arr H76.out)
        have H87 := Lib.hid (hd7.arr H86.out)
        have HB7 := Lib.hid (HB6.out.trans (hd7.below _))
        have hs7 := HB7.out.size
        clear hd7 H56 H66 H76 H86 HB6
        by_cases hlt : nx < gk
        · rw [cmpI_lt hlt]
          have hnl : (D nx).length ≤ (D gk).length := by
            rw [D_len_le]
            have := (D_len_le gk (D gk).length).1 (Nat.le_refl _)
            omega
          have HRN := Lib.hid (rd_head H87.out (fun _ => True) trivial hn42)
          go_wp2_with (first | ((with_reducible show wpList _ _ _ (⟨some 54, _, _, _, _, _⟩ :: _) _ _); refine wpList_copy_ints _ rfl (.tmp 52) (.tmp 53) 23 rfl 3 Try.underlying23 infoInt W1.heap.size (D gk).length 42 52 (D gk ++ f5) rfl (by exact H57.out) (by rw [List.length_append]; omega) _ (some ⟨W1.heap.size + 1 + 1 + 1, 0, none⟩) (D nx).length 42 (D nx) rfl (by exact HRN.out) (by omega) ?_; intro w8 hcp hgr; have H58 := Lib.hid hcp; have H68 := Lib.hid (H67.out.keep (hgr.block _ H67.out.lt (fun e => by injection e with e; omega))); have H78 := Lib.hid (H77.out.keep (hgr.block _ H77.out.lt (fun e => by injection e with e; omega))); have H88 := Lib.hid (H87.out.keep (hgr.block _ H87.out.lt (fun e => by injection e with e; omega))); have HB8 := Lib.hid (HB7.out.trans (grown_below (B := w.heap.size) hgr hs7 (by omega))); clear hcp hgr) | fail)
          go_roundg nx
          case measure => exact hlt
          case rel => exact ⟨_, qs2, _, _, rfl, HGE.out, by omega, H58.out, by have := HL5.out; rw [List.length_append] at this ⊢; rw [List.length_drop, List.length_append]; omega, H68.out, HL64.out, H78.out, HL74.out, H88.out, HL86.out, HB8.out⟩
        · obtain ⟨hc0, hc1⟩ := cmpI_ge hlt
          have HRT := Lib.hid (HEND.out (by omega))
          generalize cmpI nx gk = cc at *
          go_wp2_with fail
          refine (fresh_any _ _ 42 (D gk) (fun _ => True) w7 (rd_head H57.out _ trivial (by omega)) (by omega)).mono ?_
          rintro e w8 ⟨A1, c1, rfl, ho1, hb1⟩
          have HO1 := Lib.hid (own_mono ho1 hs7)
          have HB8 := Lib.hid (HB7.out.trans (hb1.mono hs7))
          clear ho1 hb1
          go_wp2
          go_ret2
          rw [HC.out, natOf_D, ← HRT.out]
          exact ⟨A1, c1, rfl, HO1.out, HB8.out⟩
  · have HC := Lib.hid hcode
    have hne : (codeL [xs] != 0) = true := by simpa using hcode
    generalize hc : codeL [xs] = c at *
    clear hcode hc
    go_wp2
    go_ret2
    obtain ⟨e1, e2⟩ := res_bad HC.out (D (rt (natOf xs))) 0
    rw [e1]
    exact ⟨none, 0, rfl, World.ownsRow_nil _ _ _ _, HB.out⟩
end Go.Proofs.Ytgeijojkfojfbab
