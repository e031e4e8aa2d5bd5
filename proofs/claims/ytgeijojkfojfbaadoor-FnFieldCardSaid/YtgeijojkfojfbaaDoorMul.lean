/-
  Products of the program: mulInto, MulNat.
-/
import Derived.Test.YtgeijojkfojfbaaDoorAddNat
import Derived.Test.YtgeijojkfojfbaaDoorMulMath
namespace Go.Proofs.YtgeijojkfojfbaaDoor
open Go Go.RowKit Nt

set_option maxHeartbeats 1600000 in
theorem mulInto_any (g N : Nat) (t : TypeId) (A B : Option Addr) (la ca lb cb m n : Nat) (w : World)
    (hf : Arr w g t (zeros N)) (hx : Rd w (· ≠ g) A la ca (D m)) (hy : Rd w (· ≠ g) B lb cb (D n)) (hN0 : la + lb ≤ N) (hN : N ≤ 10000) :
    Calls Tryd.prog 78 #[.slice (some ⟨g, 0, none⟩) N N, .slice A la ca, .slice B lb cb] w fun e w' => e = .returned (.slice (some ⟨g, 0, none⟩) (D (m * n)).length N) ∧ Put t w g N (D (m * n)) w' := by
  have HX := Lib.hid hx
  have HY := Lib.hid hy
  have HLA := Lib.hid hx.len
  have HLB := Lib.hid hy.len
  have HFA := Lib.hid hf
  clear hx hy hf
  go_enter Tryd.func78, Tryd.ntmps78
  go_wp2
  go_loopw [15] (fun v wr => ∃ (i : Nat) (out : List Int), i ≤ la ∧ v = .int .i64 i ∧ out.length = i + lb ∧ Limbs out ∧ val out = val ((D m).take i) * n ∧ Arr wr g t (out ++ zeros (N - (i + lb))) ∧ w.grownBy wr (some g)) (fun v _ => la - (intOf v).toNat)
  case atStart =>
    refine ⟨0, zeros lb, Nat.zero_le _, rfl, by simp [zeros_len], zeros_limbs _, by simp [zeros_val, val], ?_, World.grownBy.refl _ _⟩
    have e : zeros lb ++ zeros (N - (0 + lb)) = zeros N := by
      unfold zeros; rw [List.replicate_append_replicate]; congr 1; omega
    rw [e]; exact HFA.out
  case round =>
    obtain ⟨i, out, hi, rfl, hol, hlim, hval, harr, hgr⟩ := hrel
    have HOL := Lib.hid hol
    have HLM := Lib.hid hlim
    have HV := Lib.hid hval
    have HA := Lib.hid harr
    have HG := Lib.hid hgr
    clear hol hlim hval harr hgr
    by_cases hlt : i < la
    · obtain ⟨b1, o1, rfl, hP1, hl1, hcc1⟩ := HX.out.at_ (by omega)
      have hcx : wr.cell? ⟨b1, o1 + i, none⟩ = some (.int .i64 ((D m).getD i 0)) := (World.cell?_of_block (a := ⟨b1, o1 + i, none⟩) (HG.out.block b1 hl1 (fun e => hP1 (by injection e)))).trans (hcc1 i hlt)
      have hbx := limbs_getD (limbs_D m) i
      have HOUT := Lib.hid (mul_outer (D m) i n (by have := HLA.out; omega))
      generalize hxk : (D m).getD i 0 = x at *
      clear hxk hcc1
      obtain ⟨hx0, hx1⟩ := hbx
      go_wp2
      go_loopw [9, 22] (fun c v wr => ∃ (j : Nat) (q : Int) (P : List Int), j ≤ lb ∧ v = .int .i64 j ∧ c = .int .i64 q ∧ 0 ≤ q ∧ q ≤ 9999 ∧ P.length = i + j ∧ Limbs P ∧ val P + 10000 ^ (i + j) * (q + vd out (i + j) + x * vd (D n) j) = val out + 10000 ^ i * (x * n) ∧ Arr wr g t (P ++ (out ++ zeros (N - (i + lb))).drop (i + j)) ∧ w.grownBy wr (some g)) (fun _ v _ => lb - (intOf v).toNat)
      case atStart =>
        refine ⟨0, 0, out.take i, Nat.zero_le _, rfl, rfl, by omega, by omega, by have := HOL.out; simp; omega, limbs_take HLM.out i, ?_, ?_, HG.out⟩
        · rw [Nat.add_zero, vd_zero, val_D]; exact mul_start out i _ (by have := HOL.out; omega)
        · have e : out.take i ++ (out ++ zeros (N - (i + lb))).drop (i + 0) = out ++ zeros (N - (i + lb)) := by
            rw [Nat.add_zero, List.drop_append_of_le_length (by have := HOL.out; omega), ← List.append_assoc, List.take_append_drop]
          rw [e]; exact HA.out
      case round =>
        obtain ⟨j, q, P, hj, rfl, rfl, hq0, hq1, hpl, hplim, hpval, hparr, hpg⟩ := hrel
        have HPL := Lib.hid hpl
        have HPM := Lib.hid hplim
        have HPV := Lib.hid hpval
        have HPA := Lib.hid hparr
        have HPG := Lib.hid hpg
        clear hpl hplim hpval hparr hpg
        have HLEN : Hid ((out ++ zeros (N - (i + lb))).length = N) := by show _ = _; have := HOL.out; simp [zeros_len]; omega
        by_cases hlt2 : j < lb
        · obtain ⟨b2, o2, rfl, hP2, hl2, hcc2⟩ := HY.out.at_ (by omega)
          have hcy : wr.cell? ⟨b2, o2 + j, none⟩ = some (.int .i64 ((D n).getD j 0)) := (World.cell?_of_block (a := ⟨b2, o2 + j, none⟩) (HPG.out.block b2 hl2 (fun e => hP2 (by injection e)))).trans (hcc2 j hlt2)
          have hfz := HPA.out.frozen (i + j)
          have hcc := HPA.out.cell (i + j) (by have := HLEN.out; have := HPL.out; simp only [List.length_append, List.length_drop]; simp only [List.length_append] at *; omega)
          rw [getD_at _ _ _ HPL.out (by have := HLEN.out; omega), get_left _ _ _ (by have := HOL.out; omega)] at hcc
          have HSTEP := Lib.hid (mul_step out (D n) P (i + j) j x q HPL.out)
          have hbc := limbs_getD HLM.out (i + j)
          have hby := limbs_getD (limbs_D n) j
          have hst := HPA.out.set_ (i + j) ((out.getD (i + j) 0 + x * (D n).getD j 0 + q) % 10000)
          rw [set_at _ _ _ _ HPL.out (by have := HLEN.out; omega)] at hst
          have HST := Lib.hid hst
          clear hst hcc2
          generalize out.getD (i + j) 0 = c at *
          generalize (D n).getD j 0 = y at *
          obtain ⟨hm0, hm1⟩ := limb_prod hx0 hx1 hby.1 hby.2
          have HPM' := Lib.hid (limbs_append.2 ⟨HPM.out, limbs_cons.2 ⟨(show 0 ≤ (c + x * y + q) % 10000 ∧ (c + x * y + q) % 10000 < 10000 from by omega), limbs_nil⟩⟩)
          have hs0 : 0 ≤ c + x * y + q := by omega
          clear HA HOUT HPA
          go_wp2
          go_roundw
          case rel => exact ⟨j + 1, (c + x * y + q) / 10000, P ++ [(c + x * y + q) % 10000], by omega, by go_num, by go_num, by omega, by omega, by have := HPL.out; simp; omega, HPM'.out, HSTEP.out.trans HPV.out, HST.out, grown_set HPG.out _⟩
          case measure => simp [intOf]; omega
        · obtain rfl : j = lb := by omega
          have hpa := HPA.out
          rw [List.drop_append_of_le_length (by have := HOL.out; omega), drop_end out (i + j) (by have := HOL.out; omega), List.nil_append] at hpa
          have hfz := hpa.frozen (i + j)
          have hcc := hpa.cell (i + j) (by have := HPL.out; simp [zeros_len]; omega)
          have hst := hpa.set_ (i + j) q
          rw [set_zeros _ _ _ _ HPL.out (by omega)] at hst
          have HST := Lib.hid hst
          have HVAL : Hid (val (P ++ [q]) = val ((D m).take (i + 1)) * n) := by
            show _ = _
            have h1 := HPV.out
            rw [vd_end out (i + j) (by have := HOL.out; omega), vd_end (D n) j (by have := HLB.out; omega), HV.out, HOUT.out] at h1
            rw [val_snoc, HPL.out]
            simpa using h1
          have HLM' := Lib.hid (limbs_append.2 ⟨HPM.out, limbs_cons.2 ⟨(show 0 ≤ q ∧ q < 10000 from by omega), limbs_nil⟩⟩)
          generalize (P ++ zeros (N - (i + j))).getD (i + j) 0 = old at *
          clear hpa hst HA HOUT HPA HPV
          go_wp2
          go_roundw
          case rel => exact ⟨i + 1, P ++ [q], by omega, by go_num, by have := HPL.out; simp; omega, HLM'.out, HVAL.out, by have := HST.out; rwa [Nat.sub_sub, show i + j + 1 = i + 1 + j from by omega] at this, grown_set HPG.out _⟩
          case measure => simp [intOf]; omega
    · obtain rfl : i = la := by omega
      have hnat : natOf out = m * n := by
        have h1 := natOf_val HLM.out
        rw [HV.out, take_all_val _ _ (by have := HLA.out; omega), val_D, ← Int.natCast_mul] at h1
        omega
      have hrd := (HA.out.rd (fun _ => True) trivial 0 (i + lb) N (by have := HOL.out; simp [zeros_len]; omega) hN0)
      have htk : ((out ++ zeros (N - (i + lb))).drop 0).take (i + lb) = out := by
        rw [List.drop_zero, List.take_append_of_le_length (by have := HOL.out; omega)]
        exact List.take_of_length_le (by have := HOL.out; omega)
      rw [htk] at hrd
      have HR := Lib.hid hrd
      have HNT := Lib.hid hnat
      clear hnat hrd htk
      go_wp2_with fail
      refine (trimmed_any _ (i + lb) N out (fun _ => True) _ HR.out HLM.out (by omega)).mono ?_
      rintro e w2 ⟨rfl, rfl⟩
      go_wp2
      go_ret
      have hle := trim_len_le HLM.out
      have htt := take_trim HLM.out
      rw [HNT.out] at hle htt ⊢
      refine ⟨rfl, _, ?_, HA.out, ?_, ?_, HG.out⟩
      · have := HOL.out; simp [zeros_len]; omega
      · rw [List.take_append_of_le_length hle]; exact htt
      · have := HOL.out; omega

end Go.Proofs.YtgeijojkfojfbaaDoor
