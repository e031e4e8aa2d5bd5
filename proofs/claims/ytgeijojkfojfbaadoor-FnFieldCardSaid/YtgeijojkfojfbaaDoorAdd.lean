/-
  Sums of the program: addInto, AddNat.
-/
import Derived.Test.YtgeijojkfojfbaaDoorFresh
namespace Nt
open Go Go.RowKit
/-- block g, of N numbers, now begins with xs; nothing else that was there has turned -/
def Put (t : TypeId) (w : World) (g N : Nat) (xs : List Int) (w' : World) : Prop :=
  ∃ full : List Int, full.length = N ∧ Arr w' g t full ∧ full.take xs.length = xs ∧ xs.length ≤ N ∧ w.grownBy w' (some g)
end Nt
namespace Go.Proofs.YtgeijojkfojfbaaDoor
open Go Go.RowKit Nt

set_option maxHeartbeats 1600000 in
theorem addInto_any (g N : Nat) (t : TypeId) (full : List Int) (A B : Option Addr) (la ca lb cb m n : Nat) (w : World)
    (hf : Arr w g t full) (hfl : full.length = N) (hx : Rd w (· ≠ g) A la ca (D m)) (hy : Rd w (· ≠ g) B lb cb (D n)) (hNa : la < N) (hNb : lb < N) (hN : N ≤ 10000) :
    Calls Tryd.prog 82 #[.slice (some ⟨g, 0, none⟩) N N, .slice A la ca, .slice B lb cb] w fun e w' => e = .returned (.slice (some ⟨g, 0, none⟩) (D (m + n)).length N) ∧ Put t w g N (D (m + n)) w' := by
  have HX := Lib.hid hx
  have HY := Lib.hid hy
  have HFA := Lib.hid hf
  have HFL := Lib.hid hfl
  clear hx hy hf hfl
  by_cases hsw : la < lb
  · have hsw' : (la : Int) < (lb : Int) := by omega
    have HM := Lib.hid (HY.out.len)
    have hxc := HY.out.cap
    have hlen := HFL.out
    go_enter Tryd.func82, Tryd.ntmps82
    go_wp2
    go_loopw [7, 20] (fun q i wr => ∃ (k : Nat) (c : Int) (out : List Int), k ≤ lb ∧ i = .int .i64 k ∧ q = .int .i64 c ∧ 0 ≤ c ∧ c ≤ 1 ∧ out.length = k ∧ Limbs out ∧ val out + 10000 ^ k * (c + vd (D n) k + vd (D m) k) = (m + n : Nat) ∧ Arr wr g t (out ++ full.drop k) ∧ w.grownBy wr (some g)) (fun _ i _ => lb - (intOf i).toNat)
    case atStart => exact ⟨0, 0, [], Nat.zero_le _, rfl, rfl, by omega, by omega, rfl, limbs_nil, by simp [vd_zero, val_D, val] <;> omega, by simpa using HFA.out, World.grownBy.refl _ _⟩
    case round =>
      obtain ⟨k, c, out, hk, rfl, rfl, hc0, hc1, hol, hlim, hval, harr, hgr⟩ := hrel
      have HOL := Lib.hid hol
      have HLM := Lib.hid hlim
      have HV := Lib.hid hval
      have HA := Lib.hid harr
      have HG := Lib.hid hgr
      clear hol hlim hval harr hgr
      by_cases hlt : k < lb
      · obtain ⟨b1, o1, eA, hP1, hb1, hcc1⟩ := HY.out.at_ (by omega)
        subst eA
        have hcx : wr.cell? ⟨b1, o1 + k, none⟩ = some (.int .i64 ((D n).getD k 0)) := (World.cell?_of_block (a := ⟨b1, o1 + k, none⟩) (HG.out.block b1 hb1 (fun e => hP1 (by injection e)))).trans (hcc1 k hlt)
        have hbd := limbs_getD (limbs_D n) k
        have hbd2 := limbs_getD (limbs_D m) k
        have hfz := HA.out.frozen k
        have hold := HA.out.cell k (by simp [HOL.out]; omega)
        have hst := HA.out.set_ k (((D n).getD k 0 + c + (D m).getD k 0) % 10000)
        have hlist : (out ++ full.drop k).set k (((D n).getD k 0 + c + (D m).getD k 0) % 10000) = (out ++ [((D n).getD k 0 + c + (D m).getD k 0) % 10000]) ++ full.drop (k + 1) := by
          rw [List.set_append_right _ _ (by have := HOL.out; omega), HOL.out, Nat.sub_self, drop_cons full k (by omega), List.set_cons_zero]
          simp
        rw [hlist] at hst
        have HST := Lib.hid hst
        have HSTEP := Lib.hid (add_step (D n) (D m) out k c HOL.out)
        have HLM' := Lib.hid (limbs_append.2 ⟨HLM.out, limbs_cons.2 ⟨(show 0 ≤ ((D n).getD k 0 + c + (D m).getD k 0) % 10000 ∧ ((D n).getD k 0 + c + (D m).getD k 0) % 10000 < 10000 from by omega), limbs_nil⟩⟩)
        have HYK := Lib.hid (HX.out.len)
        by_cases hlt2 : k < la
        · obtain ⟨b2, o2, eB, hP2, hb2, hcc2⟩ := HX.out.at_ (by omega)
          subst eB
          have hcy : wr.cell? ⟨b2, o2 + k, none⟩ = some (.int .i64 ((D m).getD k 0)) := (World.cell?_of_block (a := ⟨b2, o2 + k, none⟩) (HG.out.block b2 hb2 (fun e => hP2 (by injection e)))).trans (hcc2 k hlt2)
          clear hcc1 hcc2 hst hlist HFA HA HLM
          generalize (out ++ full.drop k).getD k 0 = old at *
          generalize (D n).getD k 0 = x at *
          generalize (D m).getD k 0 = y at *
          have hs0 : 0 ≤ x + c + y := by omega
          go_wp2
          go_roundw
          case rel => exact ⟨k + 1, (x + c + y) / 10000, out ++ [(x + c + y) % 10000], by omega, by go_num, by go_num, by omega, by omega, by simp [HOL.out], HLM'.out, HSTEP.out.trans HV.out, HST.out, grown_set HG.out _⟩
          case measure => simp [intOf]; omega
        · have hy0 : (D m).getD k 0 = 0 := by simp [List.getD, HYK.out, show la ≤ k from by omega]
          clear hcc1 hst hlist HFA HA HLM
          rw [hy0] at HST HSTEP HLM' hbd2
          simp only [Int.add_zero] at HST HSTEP HLM'
          clear hy0 hbd2
          generalize (out ++ full.drop k).getD k 0 = old at *
          generalize (D n).getD k 0 = x at *
          have hs0 : 0 ≤ x + c := by omega
          go_wp2
          go_roundw
          case rel => exact ⟨k + 1, (x + c) / 10000, out ++ [(x + c) % 10000], by omega, by go_num, by go_num, by omega, by omega, by simp [HOL.out], HLM'.out, HSTEP.out.trans HV.out, HST.out, grown_set HG.out _⟩
          case measure => simp [intOf]; omega
      · obtain rfl : k = lb := by omega
        have hfz := HA.out.frozen k
        have hold := HA.out.cell k (by simp [HOL.out]; omega)
        have hst := HA.out.set_ k c
        have hlist : (out ++ full.drop k).set k c = (out ++ [c]) ++ full.drop (k + 1) := by
          rw [List.set_append_right _ _ (by have := HOL.out; omega), HOL.out, Nat.sub_self, drop_cons full k (by omega), List.set_cons_zero]
          simp
        rw [hlist] at hst
        have hvv : val (out ++ [c]) = (m + n : Nat) := by
          rw [val_snoc, HOL.out]
          have := HV.out
          rw [vd_end _ k (by have := HM.out; omega), vd_end _ k (by have := HX.out.len; omega)] at this
          simpa using this
        have hll : Limbs (out ++ [c]) := limbs_append.2 ⟨HLM.out, limbs_cons.2 ⟨by omega, limbs_nil⟩⟩
        have hnat : natOf (out ++ [c]) = m + n := by have := natOf_val hll; omega
        have hrd := (hst.rd (fun _ => True) trivial 0 (k + 1) N (by simp [HOL.out] <;> omega) (by omega))
        have htk : ((out ++ [c] ++ full.drop (k + 1)).drop 0).take (k + 1) = out ++ [c] := by
          rw [List.drop_zero, List.take_append_of_le_length (by simp [HOL.out])]
          exact List.take_of_length_le (by simp [HOL.out])
        rw [htk] at hrd
        have HR := Lib.hid hrd
        have HLL := Lib.hid hll
        have HNT := Lib.hid hnat
        have HST := Lib.hid hst
        clear hlist hvv hll hnat hrd htk hst HFA HA HLM
        generalize (out ++ full.drop k).getD k 0 = old at *
        go_wp2_with fail
        refine (trimmed_any _ (k + 1) N (out ++ [c]) (fun _ => True) _ HR.out HLL.out (by omega)).mono ?_
        rintro e w2 ⟨rfl, rfl⟩
        go_wp2
        go_ret
        have hle := trim_len_le HLL.out
        have htt := take_trim HLL.out
        rw [HNT.out] at hle htt ⊢
        refine ⟨rfl, _, ?_, HST.out, ?_, ?_, grown_set HG.out _⟩
        · simp [HOL.out]; omega
        · rw [List.take_append_of_le_length hle]; exact htt
        · have : (out ++ [c]).length = k + 1 := by simp [HOL.out]
          omega
  · have hsw' : (lb : Int) ≤ (la : Int) := by omega
    have HM := Lib.hid (HX.out.len)
    have hxc := HX.out.cap
    have hlen := HFL.out
    go_enter Tryd.func82, Tryd.ntmps82
    go_wp2
    go_loopw [7, 20] (fun q i wr => ∃ (k : Nat) (c : Int) (out : List Int), k ≤ la ∧ i = .int .i64 k ∧ q = .int .i64 c ∧ 0 ≤ c ∧ c ≤ 1 ∧ out.length = k ∧ Limbs out ∧ val out + 10000 ^ k * (c + vd (D m) k + vd (D n) k) = (m + n : Nat) ∧ Arr wr g t (out ++ full.drop k) ∧ w.grownBy wr (some g)) (fun _ i _ => la - (intOf i).toNat)
    case atStart => exact ⟨0, 0, [], Nat.zero_le _, rfl, rfl, by omega, by omega, rfl, limbs_nil, by simp [vd_zero, val_D, val] <;> omega, by simpa using HFA.out, World.grownBy.refl _ _⟩
    case round =>
      obtain ⟨k, c, out, hk, rfl, rfl, hc0, hc1, hol, hlim, hval, harr, hgr⟩ := hrel
      have HOL := Lib.hid hol
      have HLM := Lib.hid hlim
      have HV := Lib.hid hval
      have HA := Lib.hid harr
      have HG := Lib.hid hgr
      clear hol hlim hval harr hgr
      by_cases hlt : k < la
      · obtain ⟨b1, o1, eA, hP1, hb1, hcc1⟩ := HX.out.at_ (by omega)
        subst eA
        have hcx : wr.cell? ⟨b1, o1 + k, none⟩ = some (.int .i64 ((D m).getD k 0)) := (World.cell?_of_block (a := ⟨b1, o1 + k, none⟩) (HG.out.block b1 hb1 (fun e => hP1 (by injection e)))).trans (hcc1 k hlt)
        have hbd := limbs_getD (limbs_D m) k
        have hbd2 := limbs_getD (limbs_D n) k
        have hfz := HA.out.frozen k
        have hold := HA.out.cell k (by simp [HOL.out]; omega)
        have hst := HA.out.set_ k (((D m).getD k 0 + c + (D n).getD k 0) % 10000)
        have hlist : (out ++ full.drop k).set k (((D m).getD k 0 + c + (D n).getD k 0) % 10000) = (out ++ [((D m).getD k 0 + c + (D n).getD k 0) % 10000]) ++ full.drop (k + 1) := by
          rw [List.set_append_right _ _ (by have := HOL.out; omega), HOL.out, Nat.sub_self, drop_cons full k (by omega), List.set_cons_zero]
          simp
        rw [hlist] at hst
        have HST := Lib.hid hst
        have HSTEP := Lib.hid (add_step (D m) (D n) out k c HOL.out)
        have HLM' := Lib.hid (limbs_append.2 ⟨HLM.out, limbs_cons.2 ⟨(show 0 ≤ ((D m).getD k 0 + c + (D n).getD k 0) % 10000 ∧ ((D m).getD k 0 + c + (D n).getD k 0) % 10000 < 10000 from by omega), limbs_nil⟩⟩)
        have HYK := Lib.hid (HY.out.len)
        by_cases hlt2 : k < lb
        · obtain ⟨b2, o2, eB, hP2, hb2, hcc2⟩ := HY.out.at_ (by omega)
          subst eB
          have hcy : wr.cell? ⟨b2, o2 + k, none⟩ = some (.int .i64 ((D n).getD k 0)) := (World.cell?_of_block (a := ⟨b2, o2 + k, none⟩) (HG.out.block b2 hb2 (fun e => hP2 (by injection e)))).trans (hcc2 k hlt2)
          clear hcc1 hcc2 hst hlist HFA HA HLM
          generalize (out ++ full.drop k).getD k 0 = old at *
          generalize (D m).getD k 0 = x at *
          generalize (D n).getD k 0 = y at *
          have hs0 : 0 ≤ x + c + y := by omega
          go_wp2
          go_roundw
          case rel => exact ⟨k + 1, (x + c + y) / 10000, out ++ [(x + c + y) % 10000], by omega, by go_num, by go_num, by omega, by omega, by simp [HOL.out], HLM'.out, HSTEP.out.trans HV.out, HST.out, grown_set HG.out _⟩
          case measure => simp [intOf]; omega
        · have hy0 : (D n).getD k 0 = 0 := by simp [List.getD, HYK.out, show lb ≤ k from by omega]
          clear hcc1 hst hlist HFA HA HLM
          rw [hy0] at HST HSTEP HLM' hbd2
          simp only [Int.add_zero] at HST HSTEP HLM'
          clear hy0 hbd2
          generalize (out ++ full.drop k).getD k 0 = old at *
          generalize (D m).getD k 0 = x at *
          have hs0 : 0 ≤ x + c := by omega
          go_wp2
          go_roundw
          case rel => exact ⟨k + 1, (x + c) / 10000, out ++ [(x + c) % 10000], by omega, by go_num, by go_num, by omega, by omega, by simp [HOL.out], HLM'.out, HSTEP.out.trans HV.out, HST.out, grown_set HG.out _⟩
          case measure => simp [intOf]; omega
      · obtain rfl : k = la := by omega
        have hfz := HA.out.frozen k
        have hold := HA.out.cell k (by simp [HOL.out]; omega)
        have hst := HA.out.set_ k c
        have hlist : (out ++ full.drop k).set k c = (out ++ [c]) ++ full.drop (k + 1) := by
          rw [List.set_append_right _ _ (by have := HOL.out; omega), HOL.out, Nat.sub_self, drop_cons full k (by omega), List.set_cons_zero]
          simp
        rw [hlist] at hst
        have hvv : val (out ++ [c]) = (m + n : Nat) := by
          rw [val_snoc, HOL.out]
          have := HV.out
          rw [vd_end _ k (by have := HM.out; omega), vd_end _ k (by have := HY.out.len; omega)] at this
          simpa using this
        have hll : Limbs (out ++ [c]) := limbs_append.2 ⟨HLM.out, limbs_cons.2 ⟨by omega, limbs_nil⟩⟩
        have hnat : natOf (out ++ [c]) = m + n := by have := natOf_val hll; omega
        have hrd := (hst.rd (fun _ => True) trivial 0 (k + 1) N (by simp [HOL.out] <;> omega) (by omega))
        have htk : ((out ++ [c] ++ full.drop (k + 1)).drop 0).take (k + 1) = out ++ [c] := by
          rw [List.drop_zero, List.take_append_of_le_length (by simp [HOL.out])]
          exact List.take_of_length_le (by simp [HOL.out])
        rw [htk] at hrd
        have HR := Lib.hid hrd
        have HLL := Lib.hid hll
        have HNT := Lib.hid hnat
        have HST := Lib.hid hst
        clear hlist hvv hll hnat hrd htk hst HFA HA HLM
        generalize (out ++ full.drop k).getD k 0 = old at *
        go_wp2_with fail
        refine (trimmed_any _ (k + 1) N (out ++ [c]) (fun _ => True) _ HR.out HLL.out (by omega)).mono ?_
        rintro e w2 ⟨rfl, rfl⟩
        go_wp2
        go_ret
        have hle := trim_len_le HLL.out
        have htt := take_trim HLL.out
        rw [HNT.out] at hle htt ⊢
        refine ⟨rfl, _, ?_, HST.out, ?_, ?_, grown_set HG.out _⟩
        · simp [HOL.out]; omega
        · rw [List.take_append_of_le_length hle]; exact htt
        · have : (out ++ [c]).length = k + 1 := by simp [HOL.out]
          omega
end Go.Proofs.YtgeijojkfojfbaaDoor
