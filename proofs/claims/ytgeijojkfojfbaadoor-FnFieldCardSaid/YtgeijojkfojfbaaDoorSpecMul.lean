/-
  Products of the model: l01Mul, MulNat.
-/
import Derived.Test.YtgeijojkfojfbaaDoorMul
import Derived.Test.YtgeijojkfojfbaaDoorSpecAdd
namespace Go.Proofs.YtgeijojkfojfbaaDoor
open Go Go.RowKit Nt

set_option maxHeartbeats 3200000 in
theorem l01Mul_any (A B : Option Addr) (la ca lb cb m n : Nat) (P Q : Nat → Prop) (w : World) (hx0 : Rd w P A la ca (D m)) (hy0 : Rd w Q B lb cb (D n)) (hla : la ≤ 10000) (hlb : lb ≤ 10000) :
    Calls Tryd.prog 57 #[.slice A la ca, .slice B lb cb] w (RetNew 3 w (D (m * n))) := by
  have hx : Rd w (· < w.heap.size) A la ca (D m) := hx0.mono fun _ _ h => h
  have hy : Rd w (· < w.heap.size) B lb cb (D n) := hy0.mono fun _ _ h => h
  have HX := Lib.hid hx
  have HY := Lib.hid hy
  have HLA := Lib.hid hx.len
  have HLB := Lib.hid hy.len
  clear hx0 hy0 hx hy
  have hmk := mk_ints (la + lb + 1) (by omega)
  rw [show ((la + lb + 1 : Nat) : Int) = (la : Int) + lb + 1 from by omega] at hmk
  go_enter Tryd.func57, Tryd.ntmps57
  go_wp2
  clear hmk
  go_loopw [6] (fun v wr => ∃ (i : Nat) (T : List Int), i ≤ la ∧ v = .int .i64 i ∧ T.length = la + lb + 1 ∧ Limbs T ∧ (∀ k, i + lb ≤ k → T.getD k 0 = 0) ∧ val T = val ((D m).take i) * n ∧ Arr wr w.heap.size 3 T ∧ Below w.heap.size w wr) (fun v _ => la - (intOf v).toNat)
  case atStart => exact ⟨0, zeros (la + lb + 1), Nat.zero_le _, rfl, zeros_len _, zeros_limbs _, fun k _ => zeros_getD _ k, by simp [zeros_val, val], Arr.new _ _ _, (Below.refl _ _).alloc (Nat.le_refl _) _⟩
  case round =>
    obtain ⟨i, T, hi, rfl, htl, hlim, hz, hval, harr, hb⟩ := hrel
    have HTL := Lib.hid htl
    have HLM := Lib.hid hlim
    have HZ := Lib.hid hz
    have HV := Lib.hid hval
    have HA := Lib.hid harr
    have HB := Lib.hid hb
    clear htl hlim hz hval harr hb
    by_cases hlt : i < la
    · obtain ⟨b1, o1, rfl, hP1, hl1, hcc1⟩ := HX.out.at_ (by omega)
      have hcx0 := hcc1 i hlt
      have hbx := limbs_getD (limbs_D m) i
      have HOUT := Lib.hid (mul_outer (D m) i n (by have := HLA.out; omega))
      generalize hxk : (D m).getD i 0 = x at *
      clear hxk hcc1
      obtain ⟨hx0, hx1⟩ := hbx
      have HCX := Lib.hid hcx0
      clear hcx0
      go_wp2
      go_loopw [7, 8] (fun c v wr => ∃ (j : Nat) (q : Int) (P : List Int), j ≤ lb + 1 ∧ (j ≤ lb ∨ q = 0) ∧ v = .int .i64 j ∧ c = .int .i64 q ∧ 0 ≤ q ∧ q ≤ 9999 ∧ P.length = i + j ∧ Limbs P ∧ val P + 10000 ^ (i + j) * (q + vd T (i + j) + x * vd (D n) j) = val T + 10000 ^ i * (x * n) ∧ Arr wr w.heap.size 3 (P ++ T.drop (i + j)) ∧ Below w.heap.size w wr) (fun _ v _ => lb + 1 - (intOf v).toNat)
      case atStart =>
        refine ⟨0, 0, T.take i, by omega, by omega, rfl, rfl, by omega, by omega, by have := HTL.out; simp; omega, limbs_take HLM.out i, ?_, ?_, HB.out⟩
        · rw [Nat.add_zero, vd_zero, val_D]; exact mul_start T i _ (by have := HTL.out; omega)
        · rw [Nat.add_zero, List.take_append_drop]; exact HA.out
      case round =>
        obtain ⟨j, q, P, hj, hjq, rfl, rfl, hq0, hq1, hpl, hplim, hpval, hparr, hpb⟩ := hrel
        have HPL := Lib.hid hpl
        have HPM := Lib.hid hplim
        have HPV := Lib.hid hpval
        have HPA := Lib.hid hparr
        have HPB := Lib.hid hpb
        clear hpl hplim hpval hparr hpb
        by_cases hlt2 : j < lb
        · have hd : decide ((j : Int) < lb) = true := by simp; omega
          obtain ⟨b2, o2, rfl, hP2, hl2, hcc2⟩ := HY.out.at_ (by omega)
          have hcx : wr.cell? ⟨b1, o1 + i, none⟩ = some (.int .i64 x) := (HPB.out.cell (p := ⟨b1, o1 + i, none⟩) hP1).trans HCX.out
          have hcy : wr.cell? ⟨b2, o2 + j, none⟩ = some (.int .i64 ((D n).getD j 0)) := (HPB.out.cell (p := ⟨b2, o2 + j, none⟩) hP2).trans (hcc2 j hlt2)
          have hfz := HPA.out.frozen (i + j)
          have hcc := HPA.out.cell (i + j) (by have := HTL.out; have := HPL.out; simp only [List.length_append, List.length_drop]; omega)
          rw [getD_at _ _ _ HPL.out (by have := HTL.out; omega)] at hcc
          have HSTEP := Lib.hid (mul_step' T (D n) P (i + j) j x q HPL.out)
          have hbc := limbs_getD HLM.out (i + j)
          have hby := limbs_getD (limbs_D n) j
          have hst := HPA.out.set_ (i + j) ((T.getD (i + j) 0 + q + x * (D n).getD j 0) % 10000)
          rw [set_at _ _ _ _ HPL.out (by have := HTL.out; omega)] at hst
          have HST := Lib.hid hst
          clear hst hcc2
          generalize T.getD (i + j) 0 = c at *
          generalize (D n).getD j 0 = y at *
          obtain ⟨hm0, hm1⟩ := limb_prod hx0 hx1 hby.1 hby.2
          have HPM' := Lib.hid (limbs_append.2 ⟨HPM.out, limbs_cons.2 ⟨(show 0 ≤ (c + q + x * y) % 10000 ∧ (c + q + x * y) % 10000 < 10000 from by omega), limbs_nil⟩⟩)
          have hs0 : 0 ≤ c + q + x * y := by omega
          have hw1 : IntKind.i64.wrap (x * y) = x * y := IntWalk.i64_in _ (by omega)
          have hw2 : IntKind.i64.wrap (c + q + x * y) = c + q + x * y := IntWalk.i64_in _ (by omega)
          have hil : (i : Int) < la := by omega
          have hjl : (j : Int) < lb := by omega
          clear HA HOUT HPA
          go_wp2
          go_quiet (fail)
          clear hw1 hw2
          go_wp2
          go_roundw
          case rel => exact ⟨j + 1, (c + q + x * y) / 10000, P ++ [(c + q + x * y) % 10000], by omega, by omega, by go_num, by go_num, by omega, by omega, by have := HPL.out; simp; omega, HPM'.out, HSTEP.out.trans HPV.out, HST.out, (below_drewN HPB.out _).setCell (p := ⟨w.heap.size, _, none⟩) (Nat.le_refl _) _⟩
          case measure => simp [intOf]; omega
        · have hd : decide ((j : Int) < lb) = false := by simp; omega
          have hy0 : (D n).getD j 0 = 0 := by simp [List.getD, HLB.out, show lb ≤ j from by omega]
          by_cases hqz : q = 0
          · subst hqz
            have HT' : Hid (val (P ++ T.drop (i + j)) = val ((D m).take (i + 1)) * n) := by
              show _ = _
              have h1 := HPV.out
              rw [vd_zeros T (i + j) (fun k hk => HZ.out k (by omega)), vd_end (D n) j (by have := HLB.out; omega), HV.out, HOUT.out] at h1
              rw [val_append, HPL.out, show val (T.drop (i + j)) = vd T (i + j) from rfl, vd_zeros T (i + j) (fun k hk => HZ.out k (by omega))]
              simpa using h1
            have HZ' : Hid (∀ k, i + 1 + lb ≤ k → (P ++ T.drop (i + j)).getD k 0 = 0) := by
              intro k hk
              rw [getD_right P T (i + j) k HPL.out (by omega)]
              exact HZ.out k (by omega)
            clear HA HOUT
            go_wp2
            go_roundw
            case rel => exact ⟨i + 1, P ++ T.drop (i + j), by omega, by go_num, by have := HPL.out; have := HTL.out; simp; omega, limbs_append.2 ⟨HPM.out, limbs_drop HLM.out _⟩, HZ'.out, HT'.out, HPA.out, HPB.out⟩
            case measure => simp [intOf]; omega
          · have hjlb : j = lb := by omega
            have hq2 : 0 < q := by omega
            have hd2 : decide ((0 : Int) < q) = true := by simp; omega
            have hfz := HPA.out.frozen (i + j)
            have hcc := HPA.out.cell (i + j) (by have := HTL.out; have := HPL.out; simp only [List.length_append, List.length_drop]; omega)
            rw [getD_at _ _ _ HPL.out (by have := HTL.out; omega), HZ.out (i + j) (by omega)] at hcc
            have hstep := mul_step' T (D n) P (i + j) j x q HPL.out
            rw [HZ.out (i + j) (by omega), hy0, Int.mul_zero, Int.add_zero, Int.zero_add, Int.emod_eq_of_lt hq0 (by omega), Int.ediv_eq_zero_of_lt hq0 (by omega)] at hstep
            have HSTEP := Lib.hid hstep
            have hst := HPA.out.set_ (i + j) q
            rw [set_at _ _ _ _ HPL.out (by have := HTL.out; omega)] at hst
            have HST := Lib.hid hst
            have HPM' := Lib.hid (limbs_append.2 ⟨HPM.out, limbs_cons.2 ⟨(show 0 ≤ q ∧ q < 10000 from by omega), limbs_nil⟩⟩)
            have hw3 : q % 10000 = q := Int.emod_eq_of_lt hq0 (by omega)
            have hw4 : q / 10000 = 0 := Int.ediv_eq_zero_of_lt hq0 (by omega)
            have HJ := Lib.hid hjlb
            clear hst hstep hqz HA HOUT HPA hy0 hjlb
            go_wp2
            go_roundw
            case rel => exact ⟨j + 1, 0, P ++ [q], by have := HJ.out; omega, by omega, by go_num, by go_num, by omega, by omega, by have := HPL.out; simp; omega, HPM'.out, HSTEP.out.trans HPV.out, HST.out, HPB.out.setCell (p := ⟨w.heap.size, _, none⟩) (Nat.le_refl _) _⟩
            case measure => have := HJ.out; simp [intOf]; omega
    · obtain rfl : i = la := by omega
      have hnat : natOf T = m * n := by
        have h1 := natOf_val HLM.out
        rw [HV.out, take_all_val _ _ (by have := HLA.out; omega), val_D, ← Int.natCast_mul] at h1
        omega
      have HRD := Lib.hid (HA.out.rd_all (fun _ => True) trivial (i + lb + 1) (i + lb + 1) HTL.out.symm (Nat.le_refl _))
      have HNT := Lib.hid hnat
      clear hnat
      go_wp2_with fail
      refine (l01Trim_any _ (i + lb + 1) (i + lb + 1) T (fun _ => True) wr HRD.out HLM.out (by omega)).mono ?_
      rintro e w1 ⟨A1, c1, rfl, ho, hb1⟩
      rw [HNT.out] at ho ⊢
      have HO1 := Lib.hid (own_mono ho HB.out.size)
      have HB1 := Lib.hid (HB.out.trans (hb1.mono HB.out.size))
      clear ho hb1
      go_wp2
      go_ret
      exact ⟨A1, c1, rfl, HO1.out, HB1.out⟩

end Go.Proofs.YtgeijojkfojfbaaDoor
