/-
  MatOK of the program and of the model.
-/
import Derived.Test.YtliefhkllpmlmaaVecRow
namespace Nt
open Go Go.RowKit
/-- n rows of n rationals -/
def okM (k : Int) (rs : List R3) : Bool := decide (1 ≤ k) && decide (k ≤ 4) && decide ((rs.length : Int) = k * k) && rs.all ok3
theorem okM_in {k : Int} (h1 : 1 ≤ k) (h2 : k ≤ 4) : k = 1 ∨ k = 2 ∨ k = 3 ∨ k = 4 := by omega
end Nt
namespace Go.Proofs.Ytliefhkllpmlmaa
open Go Go.RowKit Nt

set_option maxHeartbeats 1600000 in
theorem implMatOK_any (A : Option Addr) (n c : Nat) (rs : List R3) (k : Int) (P : Nat → Prop) (w : World) (hr : RdS w P A n c rs) (hsm : Small rs) (hn : n ≤ 1048576) :
    Calls Try.prog 20 #[.slice A n c, .int .i64 k] w fun e w' => e = .returned (.bool (okM k rs)) ∧ Below w.heap.size w w' := by
  have HR := Lib.hid hr
  have HS := Lib.hid hsm
  have hl := hr.len
  clear hr hsm
  by_cases h1 : 1 ≤ k
  case neg =>
    have HV : Hid (okM k rs = false) := by show _ = _; unfold okM; rw [decide_eq_false h1]; rfl
    have z1 : decide ((1 : Int) ≤ k) = false := decide_eq_false h1
    clear hl
    go_enter Try.func20, Try.ntmps20
    go_wp2
    go_ret
    exact ⟨ret_bool HV.out.symm, Below.refl _ _⟩
  by_cases h4 : k ≤ 4
  case neg =>
    have HV : Hid (okM k rs = false) := by show _ = _; unfold okM; rw [decide_eq_false h4]; simp
    have z1 : decide ((1 : Int) ≤ k) = true := decide_eq_true h1
    have z4 : decide (k ≤ (4 : Int)) = false := decide_eq_false h4
    clear hl
    go_enter Try.func20, Try.ntmps20
    go_wp2
    go_ret
    exact ⟨ret_bool HV.out.symm, Below.refl _ _⟩
  have key : ∀ s : Nat, (s : Int) = k * k → okM k rs = (decide (n = s) && rs.all ok3) := by
    intro s hs
    unfold okM
    rw [decide_eq_true h1, decide_eq_true h4, hl, ← hs, Bool.true_and, Bool.true_and]
    congr 1
    rw [decide_eq_decide]
    omega
  rcases okM_in h1 h4 with rfl | rfl | rfl | rfl
  all_goals
    first
      | (have HV := Lib.hid (key 1 rfl); by_cases hs : n = 1)
      | (have HV := Lib.hid (key 4 rfl); by_cases hs : n = 4)
      | (have HV := Lib.hid (key 9 rfl); by_cases hs : n = 9)
      | (have HV := Lib.hid (key 16 rfl); by_cases hs : n = 16)
    · subst hs
      clear key h1 h4
      go_enter Try.func20, Try.ntmps20
      go_wp2_with fail
      refine (ratCodeS_any A _ c rs P w HR.out HS.out (by omega)).mono ?_
      rintro e w1 ⟨rfl, b1⟩
      have HB1 := Lib.hid b1
      clear b1
      by_cases ha : rs.all ok3 = true
      · have hcv : codeV rs = 0 := by unfold codeV; rw [if_pos ha]
        rw [hcv]
        have HA := Lib.hid ha
        clear ha hcv
        go_wp2
        go_ret
        exact ⟨ret_bool (by rw [HV.out, HA.out]; rfl), HB1.out⟩
      · have hcv : codeV rs = 1 := by unfold codeV; rw [if_neg ha]
        rw [hcv]
        have HA : Hid (rs.all ok3 = false) := (Bool.not_eq_true _).mp ha
        clear ha hcv
        go_wp2
        go_ret
        exact ⟨ret_bool (by rw [HV.out, HA.out]; rfl), HB1.out⟩
    · have HW : Hid (okM _ rs = false) := HV.out.trans (by rw [decide_eq_false hs]; rfl)
      have zn : ∀ s : Int, (s = 1 ∨ s = 4 ∨ s = 9 ∨ s = 16) → n ≠ s.toNat → ((n : Int) == s) = false := fun s h h2 => by simp; omega
      clear key h1 h4 HV
      go_enter Try.func20, Try.ntmps20
      have z16 := zn 16
      have z9 := zn 9
      have z4 := zn 4
      have z1 := zn 1
      simp only [Int.reduceToNat, hs, ne_eq, not_false_eq_true, or_true, true_or, reduceCtorEq, forall_const] at z1 z4 z9 z16
      go_wp2
      go_ret
      exact ⟨ret_bool HW.out.symm, Below.refl _ _⟩

set_option maxHeartbeats 1600000 in
theorem specMatOK_any (A : Option Addr) (n c : Nat) (rs : List R3) (k : Int) (P : Nat → Prop) (w : World) (hr : RdS w P A n c rs) (hsm : Small rs) (hn : n ≤ 1048576) :
    Calls Try.prog 19 #[.slice A n c, .int .i64 k] w fun e w' => e = .returned (.bool (okM k rs)) ∧ Below w.heap.size w w' := by
  have HR := Lib.hid hr.low
  have HS := Lib.hid hsm
  have HL := Lib.hid hr.len
  clear hr hsm
  by_cases h4 : 4096 < n
  · have HV : Hid (okM k rs = false) := by
      show _ = _
      unfold okM
      have e := HL.out
      by_cases h1 : 1 ≤ k
      · by_cases h2 : k ≤ 4
        · have : ¬ (rs.length : Int) = k * k := by
            rcases okM_in h1 h2 with rfl | rfl | rfl | rfl <;> omega
          rw [decide_eq_false this]; simp
        · rw [decide_eq_false h2]; simp
      · rw [decide_eq_false h1]; rfl
    have hz4 : decide ((4096 : Int) < n) = true := by simp; omega
    go_enter Try.func19, Try.ntmps19
    go_wp2
    go_ret
    exact ⟨ret_bool HV.out.symm, Below.refl _ _⟩
  have hz4 : decide ((4096 : Int) < n) = false := by simp; omega
  by_cases hin : (decide ((1 : Int) ≤ k) && decide (k ≤ (4 : Int))) = true
  case neg =>
    have hin' := (Bool.not_eq_true _).mp hin
    have HV : Hid (okM k rs = false) := by show _ = _; unfold okM; rw [hin']; rfl
    go_enter Try.func19, Try.ntmps19
    go_wp2_with (go_at_call 53; refine (l01In_any _ _ _ _).mono ?_; rintro e w1 ⟨rfl, rfl⟩; rw [hin'])
    go_ret
    exact ⟨ret_bool HV.out.symm, Below.refl _ _⟩
  have HIN := Lib.hid hin
  rw [Bool.and_eq_true, decide_eq_true_eq, decide_eq_true_eq] at hin
  have hk := okM_in hin.1 hin.2
  by_cases hs : (n : Int) = k * k
  case neg =>
    have HV : Hid (okM k rs = false) := by show _ = _; unfold okM; rw [HL.out, decide_eq_false hs]; simp
    have zs : ((n : Int) != k * k) = true := by simpa using hs
    rcases hk with rfl | rfl | rfl | rfl
    all_goals
      simp only [Int.reduceMul] at zs hs
      clear hs hin
      go_enter Try.func19, Try.ntmps19
      go_wp2_with (go_at_call 53; refine (l01In_any _ _ _ _).mono ?_; rintro e w1 ⟨rfl, rfl⟩; rw [HIN.out])
      go_ret
      exact ⟨ret_bool HV.out.symm, Below.refl _ _⟩
  have HV : Hid (okM k rs = rs.all ok3) := by show _ = _; unfold okM; rw [HL.out, decide_eq_true hs, decide_eq_true hin.1, decide_eq_true hin.2]; simp
  have zs : ((n : Int) != k * k) = false := by simpa using hs
  have hn16 : n ≤ 16 := by rcases hk with rfl | rfl | rfl | rfl <;> omega
  rcases hk with rfl | rfl | rfl | rfl
  all_goals
    simp only [Int.reduceMul] at zs hs
    clear hs hin
    go_enter Try.func19, Try.ntmps19
    go_wp2_with (go_at_call 53; refine (l01In_any _ _ _ _).mono ?_; rintro e w1 ⟨rfl, rfl⟩; rw [HIN.out])
    go_loopw [5] (fun i wr => ∃ k : Nat, k ≤ n ∧ i = .int .i64 k ∧ Hid (∀ j, j < k → ok3 (rs.getD j r3) = true) ∧ Hid (Below w.heap.size w wr)) (fun i _ => n - (intOf i).toNat)
    case atStart => exact ⟨0, Nat.zero_le _, rfl, Lib.hid (fun j hj => by omega), Lib.hid (Below.refl _ _)⟩
    case round =>
      obtain ⟨k, hk, rfl, HOK, HB⟩ := hrel
      by_cases hlt : k < n
      · obtain ⟨b, o, rfl, hP, _, hc⟩ := HR.out.at_ (by omega)
        obtain ⟨Ai, ca, Bi, cb, q0, q1, q2, hrd⟩ := hc k hlt
        have c0 := (HB.out.cell (p := ⟨b, o + k * 3, none⟩) hP).trans q0
        have c1 := (HB.out.cell (p := ⟨b, o + k * 3 + 1, none⟩) hP).trans q1
        have c2 := (HB.out.cell (p := ⟨b, o + k * 3 + 2, none⟩) hP).trans q2
        have hkn : (k : Int) < n := by omega
        have hss := HS.out.at_ k (by rw [HL.out]; exact hlt)
        have HNO := Lib.hid (fun h => all_no (rs := rs) (k := k) (by rw [HL.out]; exact hlt) h)
        have HYES : Hid (ok3 (rs.getD k r3) = true → ∀ j, j < k + 1 → ok3 (rs.getD j r3) = true) := fun h j hj => by
          by_cases e : j = k
          · subst e; exact h
          · exact HOK.out j (by omega)
        have HRD := Lib.hid hrd
        generalize rs.getD k r3 = r at *
        obtain ⟨ng, xs, ys⟩ := r
        dsimp only at *
        clear q0 q1 q2 hc hrd
        go_wp2_with fail
        have hr1 : RdR _ (· < w.heap.size) xs ys Ai ca Bi cb := HRD.out.below HB.out
        refine (specRatOK_any ng Ai Bi _ ca _ cb xs ys _ _ _ hr1.1 hr1.2 (by omega) (by omega)).mono ?_
        rintro e w1 ⟨rfl, b1⟩
        have HB1 := Lib.hid (below_on HB.out b1)
        clear hr1 b1 c0 c1 c2
        by_cases ho : okR ng xs ys = true
        · rw [ho]
          have HO := Lib.hid (HYES.out ho)
          clear ho HYES HNO
          go_wp2
          go_roundw
          case rel => exact ⟨k + 1, by omega, by go_num, HO, HB1⟩
          case measure => simp [intOf]; omega
        · have ho' : okR ng xs ys = false := by simpa using ho
          rw [ho']
          have HC : Hid (rs.all ok3 = false) := HNO.out ho'
          clear ho ho' HYES HNO
          go_wp2
          go_ret
          exact ⟨ret_bool (HV.out.trans HC.out).symm, HB1.out⟩
      · have HA : Hid (rs.all ok3 = true) := all_yes (fun j hj => HOK.out j (by have := HL.out; omega))
        clear HOK
        go_wp2
        go_ret
        exact ⟨ret_bool (HV.out.trans HA.out).symm, HB.out⟩
end Go.Proofs.Ytliefhkllpmlmaa
