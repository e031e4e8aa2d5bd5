/-
  SubNat of the model.
-/
import Derived.Test.YtgeijojkfojfbaaDoorSubNat
namespace Go.Proofs.YtgeijojkfojfbaaDoor
open Go Go.RowKit Nt

set_option maxHeartbeats 1600000 in
theorem l01Sub_any (A B : Option Addr) (la ca lb cb m n : Nat) (P Q : Nat → Prop) (w : World) (hx0 : Rd w P A la ca (D m)) (hy0 : Rd w Q B lb cb (D n)) (hla : la ≤ 10000) (hlb : lb ≤ 10000) (hmn : n ≤ m) :
    Calls Tryd.prog 85 #[.slice A la ca, .slice B lb cb] w (RetNew 3 w (D (m - n))) := by
  have hx : Rd w (· < w.heap.size) A la ca (D m) := hx0.mono fun _ _ h => h
  have hy : Rd w (· < w.heap.size) B lb cb (D n) := hy0.mono fun _ _ h => h
  have HX := Lib.hid hx
  have HY := Lib.hid hy
  have HLA := Lib.hid hx.len
  have HLB := Lib.hid hy.len
  clear hx0 hy0 hx hy
  go_enter Tryd.func85, Tryd.ntmps85
  go_wp2
  go_loopw [5, 6, 7] (fun v b i wr => ∃ (k : Nat) (q : Int) (out : List Int) (V : Option Addr) (cv : Nat), k ≤ la ∧ i = .int .i64 k ∧ b = .int .i64 q ∧ v = .slice V k cv ∧ 0 ≤ q ∧ q ≤ 1 ∧ out.length = k ∧ Limbs out ∧ val out + 10000 ^ k * (vd (D m) k - q - vd (D n) k * 1) = (m : Int) - n ∧ wr.ownsRow w.heap.size 3 1 (.slice V k cv) k (out.map (Value.int .i64)) ∧ Below w.heap.size w wr) (fun _ _ i _ => la - (intOf i).toNat)
  case atStart => exact ⟨0, 0, [], _, _, by omega, rfl, rfl, rfl, by omega, by omega, rfl, limbs_nil, by simp [vd_zero, val_D, val], World.ownsRow_lit _ #[] 0 (Nat.le_refl _) (by decide) rfl, (Below.refl _ _).alloc (Nat.le_refl _) _⟩
  case round =>
    obtain ⟨k, q, out, V, cv, hk, rfl, rfl, rfl, hq0, hq1, hol, hlim, hval, hown, hb⟩ := hrel
    have HOL := Lib.hid hol
    have HLM := Lib.hid hlim
    have HV := Lib.hid hval
    have HO := Lib.hid hown
    have HB := Lib.hid hb
    clear hol hlim hval hown hb
    by_cases hlt : k < la
    · obtain ⟨b1, o1, rfl, hP1, hl1, hcc1⟩ := HX.out.at_ (by omega)
      have hcx : wr.cell? ⟨b1, o1 + k, none⟩ = some (.int .i64 ((D m).getD k 0)) := (HB.out.cell (p := ⟨b1, o1 + k, none⟩) hP1).trans (hcc1 k hlt)
      have hbx := limbs_getD (limbs_D m) k
      generalize hxk : (D m).getD k 0 = x at *
      have HXK := Lib.hid hxk
      clear hxk hcc1
      by_cases hlt2 : k < lb
      · obtain ⟨b2, o2, rfl, hP2, hl2, hcc2⟩ := HY.out.at_ (by omega)
        have hcy : wr.cell? ⟨b2, o2 + k, none⟩ = some (.int .i64 ((D n).getD k 0)) := (HB.out.cell (p := ⟨b2, o2 + k, none⟩) hP2).trans (hcc2 k hlt2)
        have hby := limbs_getD (limbs_D n) k
        generalize hyk : (D n).getD k 0 = y at *
        have HYK := Lib.hid hyk
        clear hyk hcc2
        by_cases hneg : x - q - y < 0
        · have HSTEP := Lib.hid (take_step (D m) (D n) out k q 1 (x - q - y + 10000) 1 HOL.out (by rw [HXK.out, HYK.out]; omega))
          have HLM' := Lib.hid (limbs_append.2 ⟨HLM.out, limbs_cons.2 ⟨(show 0 ≤ x - q - y + 10000 ∧ x - q - y + 10000 < 10000 from by omega), limbs_nil⟩⟩)
          go_wp2_with (first | (go_at_call 83; refine (l01Bit_any _ _).mono ?_; rintro e w' ⟨rfl, rfl⟩; rw [show bitZ true = 1 from rfl]) | (at_builtin; refine wpList_append_ints _ rfl _ _ 23 rfl w.heap.size 3 Tryd.underlying23 infoInt V k cv out rfl (HO.out.alloc _) _ (some ⟨wr.heap.size, 0, none⟩) 1 1 [x - q - y + 10000] rfl (rd_one _ _ _) (by omega) (by have := HB.out.size; simp; omega) ?_; intro V' c' w1 hown hg; have HO' := Lib.hid hown; have HB' := Lib.hid (below_app HB.out HO.out hg); clear hown hg))
          go_roundw
          case rel => exact ⟨k + 1, 1, out ++ [x - q - y + 10000], V', c', by omega, by go_num, by go_num, rfl, by omega, by omega, by simp [HOL.out], HLM'.out, HSTEP.out.trans HV.out, HO'.out, HB'.out⟩
          case measure => simp [intOf]; omega
        · have HSTEP := Lib.hid (take_step (D m) (D n) out k q 1 (x - q - y) 0 HOL.out (by rw [HXK.out, HYK.out]; omega))
          have HLM' := Lib.hid (limbs_append.2 ⟨HLM.out, limbs_cons.2 ⟨(show 0 ≤ x - q - y ∧ x - q - y < 10000 from by omega), limbs_nil⟩⟩)
          go_wp2_with (first | (go_at_call 83; refine (l01Bit_any _ _).mono ?_; rintro e w' ⟨rfl, rfl⟩; rw [show bitZ false = 0 from rfl]) | (at_builtin; refine wpList_append_ints _ rfl _ _ 23 rfl w.heap.size 3 Tryd.underlying23 infoInt V k cv out rfl (HO.out.alloc _) _ (some ⟨wr.heap.size, 0, none⟩) 1 1 [x - q - y] rfl (rd_one _ _ _) (by omega) (by have := HB.out.size; simp; omega) ?_; intro V' c' w1 hown hg; have HO' := Lib.hid hown; have HB' := Lib.hid (below_app HB.out HO.out hg); clear hown hg))
          go_roundw
          case rel => exact ⟨k + 1, 0, out ++ [x - q - y], V', c', by omega, by go_num, by go_num, rfl, by omega, by omega, by simp [HOL.out], HLM'.out, HSTEP.out.trans HV.out, HO'.out, HB'.out⟩
          case measure => simp [intOf]; omega
      · have hy0 : (D n).getD k 0 = 0 := by simp [List.getD, HLB.out, show lb ≤ k from by omega]
        have HYK := Lib.hid hy0
        clear hy0
        by_cases hneg : x - q < 0
        · have HSTEP := Lib.hid (take_step (D m) (D n) out k q 1 (x - q + 10000) 1 HOL.out (by rw [HXK.out, HYK.out]; omega))
          have HLM' := Lib.hid (limbs_append.2 ⟨HLM.out, limbs_cons.2 ⟨(show 0 ≤ x - q + 10000 ∧ x - q + 10000 < 10000 from by omega), limbs_nil⟩⟩)
          go_wp2_with (first | (go_at_call 83; refine (l01Bit_any _ _).mono ?_; rintro e w' ⟨rfl, rfl⟩; rw [show bitZ true = 1 from rfl]) | (at_builtin; refine wpList_append_ints _ rfl _ _ 23 rfl w.heap.size 3 Tryd.underlying23 infoInt V k cv out rfl (HO.out.alloc _) _ (some ⟨wr.heap.size, 0, none⟩) 1 1 [x - q + 10000] rfl (rd_one _ _ _) (by omega) (by have := HB.out.size; simp; omega) ?_; intro V' c' w1 hown hg; have HO' := Lib.hid hown; have HB' := Lib.hid (below_app HB.out HO.out hg); clear hown hg))
          go_roundw
          case rel => exact ⟨k + 1, 1, out ++ [x - q + 10000], V', c', by omega, by go_num, by go_num, rfl, by omega, by omega, by simp [HOL.out], HLM'.out, HSTEP.out.trans HV.out, HO'.out, HB'.out⟩
          case measure => simp [intOf]; omega
        · have HSTEP := Lib.hid (take_step (D m) (D n) out k q 1 (x - q) 0 HOL.out (by rw [HXK.out, HYK.out]; omega))
          have HLM' := Lib.hid (limbs_append.2 ⟨HLM.out, limbs_cons.2 ⟨(show 0 ≤ x - q ∧ x - q < 10000 from by omega), limbs_nil⟩⟩)
          go_wp2_with (first | (go_at_call 83; refine (l01Bit_any _ _).mono ?_; rintro e w' ⟨rfl, rfl⟩; rw [show bitZ false = 0 from rfl]) | (at_builtin; refine wpList_append_ints _ rfl _ _ 23 rfl w.heap.size 3 Tryd.underlying23 infoInt V k cv out rfl (HO.out.alloc _) _ (some ⟨wr.heap.size, 0, none⟩) 1 1 [x - q] rfl (rd_one _ _ _) (by omega) (by have := HB.out.size; simp; omega) ?_; intro V' c' w1 hown hg; have HO' := Lib.hid hown; have HB' := Lib.hid (below_app HB.out HO.out hg); clear hown hg))
          go_roundw
          case rel => exact ⟨k + 1, 0, out ++ [x - q], V', c', by omega, by go_num, by go_num, rfl, by omega, by omega, by simp [HOL.out], HLM'.out, HSTEP.out.trans HV.out, HO'.out, HB'.out⟩
          case measure => simp [intOf]; omega
    · obtain rfl : k = la := by omega
      have HFIN : Hid (natOf out = m - n) := by
        show _ = _
        have h1 := HV.out
        rw [vd_end (D m) k (by have := HLA.out; omega)] at h1
        have h2 := vd_nonneg (limbs_D n) k
        have h3 := val_lt HLM.out
        rw [HOL.out] at h3
        have h4 := take_end h3 (pow_pos' k) (show 0 ≤ q + vd (D n) k * 1 from by omega) (show 0 ≤ (m : Int) - n from by omega)
          (by rw [← h1]; congr 2; omega)
        rw [show (0 : Int) - q - vd (D n) k * 1 = 0 from by omega, Int.mul_zero, Int.add_zero] at h1
        have := natOf_val HLM.out
        omega
      have HRD := Lib.hid (own_rd' HO.out)
      go_wp2_with fail
      refine (l01Trim_any _ k _ out _ wr HRD.out HLM.out (by omega)).mono ?_
      rintro e w1 ⟨A1, c1, rfl, ho, hb1⟩
      rw [HFIN.out] at ho ⊢
      have HO1 := Lib.hid (own_mono ho HB.out.size)
      have HB1 := Lib.hid (HB.out.trans (hb1.mono HB.out.size))
      clear ho hb1
      go_wp2
      go_ret
      exact ⟨A1, c1, rfl, HO1.out, HB1.out⟩

theorem sub_len (xs ys : List Int) : (resL (codeL [xs, ys]) (subL (natOf xs) (natOf ys))).length ≤ 40 := by
  by_cases h : codeL [xs, ys] = 0
  · obtain ⟨m, n, hm, hn, rfl, rfl⟩ := codeL2_ok h
    rw [h, natOf_D, natOf_D]
    exact subL_len hm
  · rw [(res_bad h _ 0).1]; simp
end Go.Proofs.YtgeijojkfojfbaaDoor
