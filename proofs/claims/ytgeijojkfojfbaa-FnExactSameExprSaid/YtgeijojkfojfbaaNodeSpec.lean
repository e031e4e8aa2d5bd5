/-
  Which nodes are right: l05Node of the model.
-/
import Derived.Test.YtgeijojkfojfbaaNodeOk
namespace Go.Proofs.Ytgeijojkfojfbaa
open Go Go.RowKit Nt

set_option maxHeartbeats 8000000 in
theorem specNode_any (op a b n i : Int) (w : World) (h0 : 0 ≤ i) (h60 : i ≤ 60) : Calls Try.prog 60 #[.agg #[.int .i64 op, .int .i64 a, .int .i64 b, .int .i64 n], .int .i64 i] w fun e w' => e = .returned (.bool (nodeS (op, a, b, n) i)) ∧ Below w.heap.size w w' := by
  have HB1 := Lib.hid (below_one w (.cells #[.int .i64 op, .int .i64 a, .int .i64 b, .int .i64 n] 39))
  have hwr : IntKind.i64.wrap (i - 1) = i - 1 := IntWalk.i64_in _ (by omega)
  cases hin : (decide (1 ≤ op) && decide (op ≤ 8)) with
  | false =>
    have HV : Hid (nodeS (op, a, b, n) i = false) := by show _ = _; unfold nodeS; rw [if_pos hin]
    go_enter Try.func60, Try.ntmps60
    go_wp2_with (first | (go_at_call 59; refine (l01In_any _ _ _ _).mono ?_; rintro e w1 ⟨rfl, rfl⟩; first | rw [hin] | rw [hA] | rw [hB] | skip) | (go_at_call 61; refine (specTwo_any _ _).mono ?_; rintro e w1 ⟨rfl, rfl⟩; rw [h2]) | (go_at_call 63; refine (specOne_any _ _).mono ?_; rintro e w1 ⟨rfl, rfl⟩; rw [h1]) | (go_at_call 109; refine (l01Bit_any _ _).mono ?_; rintro e w1 ⟨rfl, rfl⟩; rw [hbit]))
    go_ret
    exact ⟨ret_bool HV.out.symm, HB1.out⟩
  | true =>
  have hnin : ¬ (decide (1 ≤ op) && decide (op ≤ 8)) = false := by rw [hin]; exact fun h => by cases h
  cases h2 : two op with
  | true =>
    have hV0 : nodeS (op, a, b, n) i = ((decide (0 ≤ a) && decide (a ≤ i - 1)) && (decide (a + 1 ≤ b) && decide (b ≤ i - 1)) && (n == 0)) := by unfold nodeS; rw [if_neg hnin, if_pos h2]
    cases hA : (decide (0 ≤ a) && decide (a ≤ i - 1)) with
    | false =>
      have HV : Hid (nodeS (op, a, b, n) i = false) := by show _ = _; rw [hV0, hA]; rfl
      go_enter Try.func60, Try.ntmps60
      go_wp2_with (first | (go_at_call 59; refine (l01In_any _ _ _ _).mono ?_; rintro e w1 ⟨rfl, rfl⟩; first | rw [hin] | rw [hA] | rw [hB] | skip) | (go_at_call 61; refine (specTwo_any _ _).mono ?_; rintro e w1 ⟨rfl, rfl⟩; rw [h2]) | (go_at_call 63; refine (specOne_any _ _).mono ?_; rintro e w1 ⟨rfl, rfl⟩; rw [h1]) | (go_at_call 109; refine (l01Bit_any _ _).mono ?_; rintro e w1 ⟨rfl, rfl⟩; rw [hbit]))
      go_ret
      exact ⟨ret_bool HV.out.symm, HB1.out⟩
    | true =>
      obtain ⟨ha0, ha1⟩ : 0 ≤ a ∧ a ≤ i - 1 := by simpa using hA
      cases hB : (decide (a + 1 ≤ b) && decide (b ≤ i - 1)) with
      | false =>
        have HV : Hid (nodeS (op, a, b, n) i = false) := by show _ = _; rw [hV0, hA, hB]; rfl
        go_enter Try.func60, Try.ntmps60
        go_wp2_with (first | (go_at_call 59; refine (l01In_any _ _ _ _).mono ?_; rintro e w1 ⟨rfl, rfl⟩; first | rw [hin] | rw [hA] | rw [hB] | skip) | (go_at_call 61; refine (specTwo_any _ _).mono ?_; rintro e w1 ⟨rfl, rfl⟩; rw [h2]) | (go_at_call 63; refine (specOne_any _ _).mono ?_; rintro e w1 ⟨rfl, rfl⟩; rw [h1]) | (go_at_call 109; refine (l01Bit_any _ _).mono ?_; rintro e w1 ⟨rfl, rfl⟩; rw [hbit]))
        go_ret
        exact ⟨ret_bool HV.out.symm, HB1.out⟩
      | true =>
        have HV : Hid (nodeS (op, a, b, n) i = (n == 0)) := by show _ = _; rw [hV0, hA, hB]; rfl
        go_enter Try.func60, Try.ntmps60
        go_wp2_with (first | (go_at_call 59; refine (l01In_any _ _ _ _).mono ?_; rintro e w1 ⟨rfl, rfl⟩; first | rw [hin] | rw [hA] | rw [hB] | skip) | (go_at_call 61; refine (specTwo_any _ _).mono ?_; rintro e w1 ⟨rfl, rfl⟩; rw [h2]) | (go_at_call 63; refine (specOne_any _ _).mono ?_; rintro e w1 ⟨rfl, rfl⟩; rw [h1]) | (go_at_call 109; refine (l01Bit_any _ _).mono ?_; rintro e w1 ⟨rfl, rfl⟩; rw [hbit]))
        go_ret
        exact ⟨ret_bool HV.out.symm, HB1.out⟩
  | false =>
    by_cases hq7 : op = 7
    · subst hq7
      have HC := Lib.hid (NodeAt.new w 39 7 a b n).four
      have h1 : one 7 = true := rfl
      have hbit : bitZ false = 0 := rfl
      have hV0 : nodeS (7, a, b, n) i = ((a == i - 1) && decide (0 < i) && (b == 0) && (decide (0 ≤ n) && decide (n ≤ 0))) := rfl
      by_cases q0 : a = i - 1
      · have e0 : (a == i - 1) = true := by simpa using q0
        have f0 : (a == IntKind.i64.wrap (i - 1)) = true := by rw [hwr]; exact e0
        clear q0
        by_cases q1 : 0 < i
        · have e1 : decide (0 < i) = true := by simpa using q1
          clear q1
          by_cases q2 : b = 0
          · have e2 : (b == 0) = true := by simpa using q2
            clear q2
            have HV : Hid (nodeS (7, a, b, n) i = (decide (0 ≤ n) && decide (n ≤ 0))) := by show _ = _; rw [hV0, e0, e1, e2]; rfl
            go_enter Try.func60, Try.ntmps60
            go_wp2_with (first | (go_at_call 59; refine (l01In_any _ _ _ _).mono ?_; rintro e w1 ⟨rfl, rfl⟩; first | rw [hin] | rw [hA] | rw [hB] | skip) | (go_at_call 61; refine (specTwo_any _ _).mono ?_; rintro e w1 ⟨rfl, rfl⟩; rw [h2]) | (go_at_call 63; refine (specOne_any _ _).mono ?_; rintro e w1 ⟨rfl, rfl⟩; rw [h1]) | (go_at_call 109; refine (l01Bit_any _ _).mono ?_; rintro e w1 ⟨rfl, rfl⟩; rw [hbit]))
            go_region_with (first
                | (go_at_call 109; refine (l01Bit_any _ _).mono ?_; rintro e w1 ⟨rfl, rfl⟩; first | rw [hbit] | skip)
                | (go_at_call 59; refine (l01In_any _ _ _ _).mono ?_; rintro e w1 ⟨rfl, rfl⟩))
            all_goals
              go_wp2
              go_ret
              exact ⟨ret_bool HV.out.symm, below_drewN HB1.out 1⟩
          · have e2 : (b == 0) = false := by simpa using q2
            clear q2
            have HV : Hid (nodeS (7, a, b, n) i = false) := by show _ = _; rw [hV0, e0, e1, e2]; simp
            go_enter Try.func60, Try.ntmps60
            go_wp2_with (first | (go_at_call 59; refine (l01In_any _ _ _ _).mono ?_; rintro e w1 ⟨rfl, rfl⟩; first | rw [hin] | rw [hA] | rw [hB] | skip) | (go_at_call 61; refine (specTwo_any _ _).mono ?_; rintro e w1 ⟨rfl, rfl⟩; rw [h2]) | (go_at_call 63; refine (specOne_any _ _).mono ?_; rintro e w1 ⟨rfl, rfl⟩; rw [h1]) | (go_at_call 109; refine (l01Bit_any _ _).mono ?_; rintro e w1 ⟨rfl, rfl⟩; rw [hbit]))
            go_quiet (fail)
            go_wp2
            go_ret
            exact ⟨ret_bool HV.out.symm, below_drewN HB1.out _⟩
        · have e1 : decide (0 < i) = false := by simpa using q1
          clear q1
          have HV : Hid (nodeS (7, a, b, n) i = false) := by show _ = _; rw [hV0, e0, e1]; simp
          go_enter Try.func60, Try.ntmps60
          go_wp2_with (first | (go_at_call 59; refine (l01In_any _ _ _ _).mono ?_; rintro e w1 ⟨rfl, rfl⟩; first | rw [hin] | rw [hA] | rw [hB] | skip) | (go_at_call 61; refine (specTwo_any _ _).mono ?_; rintro e w1 ⟨rfl, rfl⟩; rw [h2]) | (go_at_call 63; refine (specOne_any _ _).mono ?_; rintro e w1 ⟨rfl, rfl⟩; rw [h1]) | (go_at_call 109; refine (l01Bit_any _ _).mono ?_; rintro e w1 ⟨rfl, rfl⟩; rw [hbit]))
          go_quiet (fail)
          go_wp2
          go_ret
          exact ⟨ret_bool HV.out.symm, below_drewN HB1.out _⟩
      · have e0 : (a == i - 1) = false := by simpa using q0
        have f0 : (a == IntKind.i64.wrap (i - 1)) = false := by rw [hwr]; exact e0
        clear q0
        have HV : Hid (nodeS (7, a, b, n) i = false) := by show _ = _; rw [hV0, e0]; simp
        go_enter Try.func60, Try.ntmps60
        go_wp2_with (first | (go_at_call 59; refine (l01In_any _ _ _ _).mono ?_; rintro e w1 ⟨rfl, rfl⟩; first | rw [hin] | rw [hA] | rw [hB] | skip) | (go_at_call 61; refine (specTwo_any _ _).mono ?_; rintro e w1 ⟨rfl, rfl⟩; rw [h2]) | (go_at_call 63; refine (specOne_any _ _).mono ?_; rintro e w1 ⟨rfl, rfl⟩; rw [h1]) | (go_at_call 109; refine (l01Bit_any _ _).mono ?_; rintro e w1 ⟨rfl, rfl⟩; rw [hbit]))
        go_quiet (fail)
        go_wp2
        go_ret
        exact ⟨ret_bool HV.out.symm, below_drewN HB1.out _⟩
    by_cases hq8 : op = 8
    · subst hq8
      have HC := Lib.hid (NodeAt.new w 39 8 a b n).four
      have h1 : one 8 = true := rfl
      have hbit : bitZ true = 1 := rfl
      have hV0 : nodeS (8, a, b, n) i = ((a == i - 1) && decide (0 < i) && (b == 0) && (decide (0 ≤ n) && decide (n ≤ 8))) := rfl
      by_cases q0 : a = i - 1
      · have e0 : (a == i - 1) = true := by simpa using q0
        have f0 : (a == IntKind.i64.wrap (i - 1)) = true := by rw [hwr]; exact e0
        clear q0
        by_cases q1 : 0 < i
        · have e1 : decide (0 < i) = true := by simpa using q1
          clear q1
          by_cases q2 : b = 0
          · have e2 : (b == 0) = true := by simpa using q2
            clear q2
            have HV : Hid (nodeS (8, a, b, n) i = (decide (0 ≤ n) && decide (n ≤ 8))) := by show _ = _; rw [hV0, e0, e1, e2]; rfl
            go_enter Try.func60, Try.ntmps60
            go_wp2_with (first | (go_at_call 59; refine (l01In_any _ _ _ _).mono ?_; rintro e w1 ⟨rfl, rfl⟩; first | rw [hin] | rw [hA] | rw [hB] | skip) | (go_at_call 61; refine (specTwo_any _ _).mono ?_; rintro e w1 ⟨rfl, rfl⟩; rw [h2]) | (go_at_call 63; refine (specOne_any _ _).mono ?_; rintro e w1 ⟨rfl, rfl⟩; rw [h1]) | (go_at_call 109; refine (l01Bit_any _ _).mono ?_; rintro e w1 ⟨rfl, rfl⟩; rw [hbit]))
            go_region_with (first
                | (go_at_call 109; refine (l01Bit_any _ _).mono ?_; rintro e w1 ⟨rfl, rfl⟩; first | rw [hbit] | skip)
                | (go_at_call 59; refine (l01In_any _ _ _ _).mono ?_; rintro e w1 ⟨rfl, rfl⟩))
            all_goals
              go_wp2
              go_ret
              exact ⟨ret_bool HV.out.symm, below_drewN HB1.out 1⟩
          · have e2 : (b == 0) = false := by simpa using q2
            clear q2
            have HV : Hid (nodeS (8, a, b, n) i = false) := by show _ = _; rw [hV0, e0, e1, e2]; simp
            go_enter Try.func60, Try.ntmps60
            go_wp2_with (first | (go_at_call 59; refine (l01In_any _ _ _ _).mono ?_; rintro e w1 ⟨rfl, rfl⟩; first | rw [hin] | rw [hA] | rw [hB] | skip) | (go_at_call 61; refine (specTwo_any _ _).mono ?_; rintro e w1 ⟨rfl, rfl⟩; rw [h2]) | (go_at_call 63; refine (specOne_any _ _).mono ?_; rintro e w1 ⟨rfl, rfl⟩; rw [h1]) | (go_at_call 109; refine (l01Bit_any _ _).mono ?_; rintro e w1 ⟨rfl, rfl⟩; rw [hbit]))
            go_quiet (fail)
            go_wp2
            go_ret
            exact ⟨ret_bool HV.out.symm, below_drewN HB1.out _⟩
        · have e1 : decide (0 < i) = false := by simpa using q1
          clear q1
          have HV : Hid (nodeS (8, a, b, n) i = false) := by show _ = _; rw [hV0, e0, e1]; simp
          go_enter Try.func60, Try.ntmps60
          go_wp2_with (first | (go_at_call 59; refine (l01In_any _ _ _ _).mono ?_; rintro e w1 ⟨rfl, rfl⟩; first | rw [hin] | rw [hA] | rw [hB] | skip) | (go_at_call 61; refine (specTwo_any _ _).mono ?_; rintro e w1 ⟨rfl, rfl⟩; rw [h2]) | (go_at_call 63; refine (specOne_any _ _).mono ?_; rintro e w1 ⟨rfl, rfl⟩; rw [h1]) | (go_at_call 109; refine (l01Bit_any _ _).mono ?_; rintro e w1 ⟨rfl, rfl⟩; rw [hbit]))
          go_quiet (fail)
          go_wp2
          go_ret
          exact ⟨ret_bool HV.out.symm, below_drewN HB1.out _⟩
      · have e0 : (a == i - 1) = false := by simpa using q0
        have f0 : (a == IntKind.i64.wrap (i - 1)) = false := by rw [hwr]; exact e0
        clear q0
        have HV : Hid (nodeS (8, a, b, n) i = false) := by show _ = _; rw [hV0, e0]; simp
        go_enter Try.func60, Try.ntmps60
        go_wp2_with (first | (go_at_call 59; refine (l01In_any _ _ _ _).mono ?_; rintro e w1 ⟨rfl, rfl⟩; first | rw [hin] | rw [hA] | rw [hB] | skip) | (go_at_call 61; refine (specTwo_any _ _).mono ?_; rintro e w1 ⟨rfl, rfl⟩; rw [h2]) | (go_at_call 63; refine (specOne_any _ _).mono ?_; rintro e w1 ⟨rfl, rfl⟩; rw [h1]) | (go_at_call 109; refine (l01Bit_any _ _).mono ?_; rintro e w1 ⟨rfl, rfl⟩; rw [hbit]))
        go_quiet (fail)
        go_wp2
        go_ret
        exact ⟨ret_bool HV.out.symm, below_drewN HB1.out _⟩
    by_cases hq2 : op = 2
    · subst hq2
      have HC := Lib.hid (NodeAt.new w 39 2 a b n).four
      have h1 : one 2 = false := rfl
      have hV0 : nodeS (2, a, b, n) i = ((a == 0) && (b == 0) && (decide (0 ≤ n) && decide (n ≤ 3))) := rfl
      by_cases q0 : a = 0
      · have e0 : (a == 0) = true := by simpa using q0
        clear q0
        by_cases q1 : b = 0
        · have e1 : (b == 0) = true := by simpa using q1
          clear q1
          have HV : Hid (nodeS (2, a, b, n) i = (decide (0 ≤ n) && decide (n ≤ 3))) := by show _ = _; rw [hV0, e0, e1]; rfl
          go_enter Try.func60, Try.ntmps60
          go_wp2_with (first | (go_at_call 59; refine (l01In_any _ _ _ _).mono ?_; rintro e w1 ⟨rfl, rfl⟩; first | rw [hin] | rw [hA] | rw [hB] | skip) | (go_at_call 61; refine (specTwo_any _ _).mono ?_; rintro e w1 ⟨rfl, rfl⟩; rw [h2]) | (go_at_call 63; refine (specOne_any _ _).mono ?_; rintro e w1 ⟨rfl, rfl⟩; rw [h1]) | (go_at_call 109; refine (l01Bit_any _ _).mono ?_; rintro e w1 ⟨rfl, rfl⟩; rw [hbit]))
          go_ret
          exact ⟨ret_bool HV.out.symm, HB1.out⟩
        · have e1 : (b == 0) = false := by simpa using q1
          clear q1
          have HV : Hid (nodeS (2, a, b, n) i = false) := by show _ = _; rw [hV0, e0, e1]; simp
          go_enter Try.func60, Try.ntmps60
          go_wp2_with (first | (go_at_call 59; refine (l01In_any _ _ _ _).mono ?_; rintro e w1 ⟨rfl, rfl⟩; first | rw [hin] | rw [hA] | rw [hB] | skip) | (go_at_call 61; refine (specTwo_any _ _).mono ?_; rintro e w1 ⟨rfl, rfl⟩; rw [h2]) | (go_at_call 63; refine (specOne_any _ _).mono ?_; rintro e w1 ⟨rfl, rfl⟩; rw [h1]) | (go_at_call 109; refine (l01Bit_any _ _).mono ?_; rintro e w1 ⟨rfl, rfl⟩; rw [hbit]))
          go_ret
          exact ⟨ret_bool HV.out.symm, HB1.out⟩
      · have e0 : (a == 0) = false := by simpa using q0
        clear q0
        have HV : Hid (nodeS (2, a, b, n) i = false) := by show _ = _; rw [hV0, e0]; simp
        go_enter Try.func60, Try.ntmps60
        go_wp2_with (first | (go_at_call 59; refine (l01In_any _ _ _ _).mono ?_; rintro e w1 ⟨rfl, rfl⟩; first | rw [hin] | rw [hA] | rw [hB] | skip) | (go_at_call 61; refine (specTwo_any _ _).mono ?_; rintro e w1 ⟨rfl, rfl⟩; rw [h2]) | (go_at_call 63; refine (specOne_any _ _).mono ?_; rintro e w1 ⟨rfl, rfl⟩; rw [h1]) | (go_at_call 109; refine (l01Bit_any _ _).mono ?_; rintro e w1 ⟨rfl, rfl⟩; rw [hbit]))
        go_ret
        exact ⟨ret_bool HV.out.symm, HB1.out⟩
    obtain rfl : op = 1 := by
      have := two_no h2
      simp at hin
      omega
    have h1 : one 1 = false := rfl
    have hV0 : nodeS (1, a, b, n) i = ((a == 0) && (b == 0) && (decide (0 ≤ n) && decide (n ≤ 999999999))) := rfl
    by_cases q0 : a = 0
    · have e0 : (a == 0) = true := by simpa using q0
      clear q0
      by_cases q1 : b = 0
      · have e1 : (b == 0) = true := by simpa using q1
        clear q1
        have HV : Hid (nodeS (1, a, b, n) i = (decide (0 ≤ n) && decide (n ≤ 999999999))) := by show _ = _; rw [hV0, e0, e1]; rfl
        go_enter Try.func60, Try.ntmps60
        go_wp2_with (first | (go_at_call 59; refine (l01In_any _ _ _ _).mono ?_; rintro e w1 ⟨rfl, rfl⟩; first | rw [hin] | rw [hA] | rw [hB] | skip) | (go_at_call 61; refine (specTwo_any _ _).mono ?_; rintro e w1 ⟨rfl, rfl⟩; rw [h2]) | (go_at_call 63; refine (specOne_any _ _).mono ?_; rintro e w1 ⟨rfl, rfl⟩; rw [h1]) | (go_at_call 109; refine (l01Bit_any _ _).mono ?_; rintro e w1 ⟨rfl, rfl⟩; rw [hbit]))
        go_ret
        exact ⟨ret_bool HV.out.symm, HB1.out⟩
      · have e1 : (b == 0) = false := by simpa using q1
        clear q1
        have HV : Hid (nodeS (1, a, b, n) i = false) := by show _ = _; rw [hV0, e0, e1]; simp
        go_enter Try.func60, Try.ntmps60
        go_wp2_with (first | (go_at_call 59; refine (l01In_any _ _ _ _).mono ?_; rintro e w1 ⟨rfl, rfl⟩; first | rw [hin] | rw [hA] | rw [hB] | skip) | (go_at_call 61; refine (specTwo_any _ _).mono ?_; rintro e w1 ⟨rfl, rfl⟩; rw [h2]) | (go_at_call 63; refine (specOne_any _ _).mono ?_; rintro e w1 ⟨rfl, rfl⟩; rw [h1]) | (go_at_call 109; refine (l01Bit_any _ _).mono ?_; rintro e w1 ⟨rfl, rfl⟩; rw [hbit]))
        go_ret
        exact ⟨ret_bool HV.out.symm, HB1.out⟩
    · have e0 : (a == 0) = false := by simpa using q0
      clear q0
      have HV : Hid (nodeS (1, a, b, n) i = false) := by show _ = _; rw [hV0, e0]; simp
      go_enter Try.func60, Try.ntmps60
      go_wp2_with (first | (go_at_call 59; refine (l01In_any _ _ _ _).mono ?_; rintro e w1 ⟨rfl, rfl⟩; first | rw [hin] | rw [hA] | rw [hB] | skip) | (go_at_call 61; refine (specTwo_any _ _).mono ?_; rintro e w1 ⟨rfl, rfl⟩; rw [h2]) | (go_at_call 63; refine (specOne_any _ _).mono ?_; rintro e w1 ⟨rfl, rfl⟩; rw [h1]) | (go_at_call 109; refine (l01Bit_any _ _).mono ?_; rintro e w1 ⟨rfl, rfl⟩; rw [hbit]))
      go_ret
      exact ⟨ret_bool HV.out.symm, HB1.out⟩

end Go.Proofs.Ytgeijojkfojfbaa
