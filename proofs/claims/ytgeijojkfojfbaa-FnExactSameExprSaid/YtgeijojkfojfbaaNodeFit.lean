/-
  Which nodes fit, wherever they stand: of the program.
-/
import Derived.Test.YtgeijojkfojfbaaNodeOk
namespace Go.Proofs.Ytgeijojkfojfbaa
open Go Go.RowKit Nt

set_option maxHeartbeats 1600000 in
theorem implFits_any (op a b n : Int) (w : World) : Calls Try.prog 67 #[.agg #[.int .i64 op, .int .i64 a, .int .i64 b, .int .i64 n]] w fun e w' => e = .returned (.bool (fitN (op, a, b, n))) ∧ Below w.heap.size w w' := by
  have hF : fitN (op, a, b, n) = (decide (1 ≤ op) && decide (op ≤ 8) && decide (0 ≤ n) && decide (n ≤ mostN op) && (two op || one op || decide (a = 0)) && (two op || decide (b = 0))) := rfl
  have HB1 := Lib.hid (below_one w (.cells #[.int .i64 op, .int .i64 a, .int .i64 b, .int .i64 n] 39))
  have HT := Lib.hid (NodeAt.new w 39 op a b n)
  have HC := Lib.hid HT.out.four
  obtain ⟨m, hm⟩ : ∃ m, mostN op = m := ⟨_, rfl⟩
  have HM := Lib.hid hm
  by_cases c0 : op < 1
  · have d0 : decide (op < 1) = true := decide_eq_true c0
    have HV : Hid (fitN (op, a, b, n) = false) := by show _ = _; rw [hF]; simp; omega
    clear hF
    go_enter Try.func67, Try.ntmps67
    go_wp2_with fail
    go_quiet (fail)
    go_wp2
    go_ret
    exact ⟨ret_bool HV.out.symm, below_drewN HB1.out _⟩
  have d0 : decide (op < 1) = false := decide_eq_false c0
  by_cases c1 : 8 < op
  · have d1 : decide (8 < op) = true := decide_eq_true c1
    have HV : Hid (fitN (op, a, b, n) = false) := by show _ = _; rw [hF]; simp; omega
    clear hF
    go_enter Try.func67, Try.ntmps67
    go_wp2_with fail
    go_quiet (fail)
    go_wp2
    go_ret
    exact ⟨ret_bool HV.out.symm, below_drewN HB1.out _⟩
  have d1 : decide (8 < op) = false := decide_eq_false c1
  by_cases c2 : n < 0
  · have d2 : decide (n < 0) = true := decide_eq_true c2
    have HV : Hid (fitN (op, a, b, n) = false) := by show _ = _; rw [hF]; simp; omega
    clear hF
    go_enter Try.func67, Try.ntmps67
    go_wp2_with fail
    go_quiet (fail)
    go_wp2
    go_ret
    exact ⟨ret_bool HV.out.symm, below_drewN HB1.out _⟩
  have d2 : decide (n < 0) = false := decide_eq_false c2
  have HS : Hid (fitN (op, a, b, n) = (decide (n ≤ mostN op) && (two op || one op || decide (a = 0)) && (two op || decide (b = 0)))) := by
    show _ = _
    rw [hF, decide_eq_true (show 1 ≤ op by omega), decide_eq_true (show op ≤ 8 by omega), decide_eq_true (show 0 ≤ n by omega)]
    simp
  rw [hm] at HS
  by_cases c3 : m < n
  · have d3 : decide (m < n) = true := decide_eq_true c3
    have HV : Hid (fitN (op, a, b, n) = false) := by show _ = _; rw [HS.out, decide_eq_false (show ¬ n ≤ m by omega)]; simp
    clear hF
    go_enter Try.func67, Try.ntmps67
    go_wp2_with fail
    go_region_with (first
        | (go_at_call 112; refine (implMost_any op a b n _).mono ?_; rintro e w1 ⟨rfl, bb⟩; have bb := undrewN bb; have HB2 := Lib.hid (HB1.out.trans (bb.mono HB1.out.size)); have HT1 := Lib.hid (HT.out.on bb); obtain ⟨t0, t1, t2, t3⟩ := HT1.out.four; rw [HM.out]))
    all_goals
      go_wp2
      go_ret
      exact ⟨ret_bool HV.out.symm, HB2.out⟩
  have d3 : decide (m < n) = false := decide_eq_false c3
  have HS2 : Hid (fitN (op, a, b, n) = ((two op || one op || decide (a = 0)) && (two op || decide (b = 0)))) := by show _ = _; rw [HS.out, decide_eq_true (show n ≤ m by omega)]; simp
  clear c0 c1 c2 c3 HS hm
  cases h2 : two op with
  | true =>
    have har : arityN op = 2 := by unfold arityN; rw [if_pos h2]
    have HV : Hid (fitN (op, a, b, n) = true) := by show _ = _; rw [HS2.out, h2]; simp
    clear hF
    go_enter Try.func67, Try.ntmps67
    go_wp2_with fail
    go_region_with (first
        | (go_at_call 112; refine (implMost_any op a b n _).mono ?_; rintro e w1 ⟨rfl, bb⟩; have bb := undrewN bb; have HB2 := Lib.hid (HB1.out.trans (bb.mono HB1.out.size)); have HT1 := Lib.hid (HT.out.on bb); obtain ⟨t0, t1, t2, t3⟩ := HT1.out.four; rw [HM.out]))
    all_goals
      go_wp2_with (first
          | (go_at_call 113; refine (implArity_any op a b n _).mono ?_; rintro e w2 ⟨rfl, bb⟩; have HB3 := Lib.hid (HB2.out.trans (bb.mono HB2.out.size)); have HT2 := Lib.hid (HT1.out.on bb); obtain ⟨t0, t1, t2, t3⟩ := HT2.out.four; rw [har])
          | (go_at_call 113; refine (implArity_any op a b n _).mono ?_; rintro e w3 ⟨rfl, bb⟩; have HB4 := Lib.hid (HB3.out.trans (bb.mono HB3.out.size)); have HT3 := Lib.hid (HT2.out.on bb); obtain ⟨t0, t1, t2, t3⟩ := HT3.out.four; rw [har]))
      go_ret
      exact ⟨ret_bool HV.out.symm, HB4.out⟩
  | false =>
    cases h1 : one op with
    | true =>
      have har : arityN op = 1 := by unfold arityN; rw [if_neg (by rw [h2]; exact Bool.false_ne_true), if_pos h1]
      have HV : Hid (fitN (op, a, b, n) = (b == 0)) := by show _ = _; rw [HS2.out, h2, h1]; by_cases hb : b = 0 <;> simp [hb]
      clear hF
      go_enter Try.func67, Try.ntmps67
      go_wp2_with fail
      go_region_with (first
          | (go_at_call 112; refine (implMost_any op a b n _).mono ?_; rintro e w1 ⟨rfl, bb⟩; have bb := undrewN bb; have HB2 := Lib.hid (HB1.out.trans (bb.mono HB1.out.size)); have HT1 := Lib.hid (HT.out.on bb); obtain ⟨t0, t1, t2, t3⟩ := HT1.out.four; rw [HM.out]))
      all_goals
        go_wp2_with (first
            | (go_at_call 113; refine (implArity_any op a b n _).mono ?_; rintro e w2 ⟨rfl, bb⟩; have HB3 := Lib.hid (HB2.out.trans (bb.mono HB2.out.size)); have HT2 := Lib.hid (HT1.out.on bb); obtain ⟨t0, t1, t2, t3⟩ := HT2.out.four; rw [har])
            | (go_at_call 113; refine (implArity_any op a b n _).mono ?_; rintro e w3 ⟨rfl, bb⟩; have HB4 := Lib.hid (HB3.out.trans (bb.mono HB3.out.size)); have HT3 := Lib.hid (HT2.out.on bb); obtain ⟨t0, t1, t2, t3⟩ := HT3.out.four; rw [har]))
        go_ret
        exact ⟨ret_bool HV.out.symm, HB4.out⟩
    | false =>
      have har : arityN op = 0 := by unfold arityN; rw [if_neg (by rw [h2]; exact Bool.false_ne_true), if_neg (by rw [h1]; exact Bool.false_ne_true)]
      by_cases q : a = 0
      · have e0 : (a == 0) = true := by simpa using q
        have HV : Hid (fitN (op, a, b, n) = (b == 0)) := by show _ = _; rw [HS2.out, h2, h1, decide_eq_true q]; by_cases hb : b = 0 <;> simp [hb]
        clear hF q
        go_enter Try.func67, Try.ntmps67
        go_wp2_with fail
        go_region_with (first
            | (go_at_call 112; refine (implMost_any op a b n _).mono ?_; rintro e w1 ⟨rfl, bb⟩; have bb := undrewN bb; have HB2 := Lib.hid (HB1.out.trans (bb.mono HB1.out.size)); have HT1 := Lib.hid (HT.out.on bb); obtain ⟨t0, t1, t2, t3⟩ := HT1.out.four; rw [HM.out]))
        all_goals
          go_wp2_with (first
              | (go_at_call 113; refine (implArity_any op a b n _).mono ?_; rintro e w2 ⟨rfl, bb⟩; have HB3 := Lib.hid (HB2.out.trans (bb.mono HB2.out.size)); have HT2 := Lib.hid (HT1.out.on bb); obtain ⟨t0, t1, t2, t3⟩ := HT2.out.four; rw [har])
              | (go_at_call 113; refine (implArity_any op a b n _).mono ?_; rintro e w3 ⟨rfl, bb⟩; have HB4 := Lib.hid (HB3.out.trans (bb.mono HB3.out.size)); have HT3 := Lib.hid (HT2.out.on bb); obtain ⟨t0, t1, t2, t3⟩ := HT3.out.four; rw [har]))
          go_ret
          exact ⟨ret_bool HV.out.symm, HB4.out⟩
      · have e0 : (a == 0) = false := by simpa using q
        have HV : Hid (fitN (op, a, b, n) = false) := by show _ = _; rw [HS2.out, h2, h1, decide_eq_false q]; simp
        clear hF q
        go_enter Try.func67, Try.ntmps67
        go_wp2_with fail
        go_region_with (first
            | (go_at_call 112; refine (implMost_any op a b n _).mono ?_; rintro e w1 ⟨rfl, bb⟩; have bb := undrewN bb; have HB2 := Lib.hid (HB1.out.trans (bb.mono HB1.out.size)); have HT1 := Lib.hid (HT.out.on bb); obtain ⟨t0, t1, t2, t3⟩ := HT1.out.four; rw [HM.out]))
        all_goals
          go_wp2_with (first
              | (go_at_call 113; refine (implArity_any op a b n _).mono ?_; rintro e w2 ⟨rfl, bb⟩; have HB3 := Lib.hid (HB2.out.trans (bb.mono HB2.out.size)); have HT2 := Lib.hid (HT1.out.on bb); obtain ⟨t0, t1, t2, t3⟩ := HT2.out.four; rw [har]))
          go_ret
          exact ⟨ret_bool HV.out.symm, HB3.out⟩

set_option maxHeartbeats 800000 in
theorem exprOK1_any (op a b n : Int) (w : World) : Calls Try.prog 66 #[.agg #[.int .i64 op, .int .i64 a, .int .i64 b, .int .i64 n]] w fun e w' => e = .returned (.bool (!fitN (op, a, b, n))) ∧ Below w.heap.size w w' := by
  have HB1 := Lib.hid (below_one w (.cells #[.int .i64 op, .int .i64 a, .int .i64 b, .int .i64 n] 39))
  go_enter Try.func66, Try.ntmps66
  go_wp2_with fail
  refine calls_atN (fun V => Below w.heap.size w V) HB1.out ?_
  intro v1 hb1
  refine (implFits_any op a b n v1).mono ?_
  rintro e v2 ⟨rfl, b2⟩
  have HB2 := Lib.hid (hb1.trans (b2.mono hb1.size))
  clear b2 hb1
  obtain ⟨f, hf⟩ : ∃ f, fitN (op, a, b, n) = f := ⟨_, rfl⟩
  have HF := Lib.hid hf
  rw [hf]
  clear hf
  go_wp2
  go_ret
  exact ⟨by rw [HF.out]; rfl, HB2.out⟩
end Go.Proofs.Ytgeijojkfojfbaa
