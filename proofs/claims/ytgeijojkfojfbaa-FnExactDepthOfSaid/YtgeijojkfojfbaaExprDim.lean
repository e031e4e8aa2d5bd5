/-
  How many axes an expression has: DimOf of the program and of the model.
-/
import Derived.Test.YtgeijojkfojfbaaSpecExpr
import Derived.Test.YtgeijojkfojfbaaImplExpr
namespace Nt
open Go Go.RowKit
def codE (ns : List Nd) : Int := if okE ns = true then 0 else 1
def dimA (ns : List Nd) : Int := if okE ns = true then dimE ns else 0
def depA (ns : List Nd) : Int := if okE ns = true then deepE ns else 0
theorem fit_var {x : Nd} (h : fitN x = true) (h2 : x.1 = 2) : 0 ≤ x.2.2.2 ∧ x.2.2.2 ≤ 3 := by
  unfold fitN mostN at h
  simp only [Bool.and_eq_true, decide_eq_true_eq] at h
  rw [h2] at h
  have := h.1.1.2
  simp at this
  omega
theorem dim_bd {ns : List Nd} (hf : ∀ j, j < ns.length → fitN (ns.getD j nd0) = true) : ∀ k, k ≤ ns.length → 0 ≤ (ns.take k).foldl dimOne 0 ∧ (ns.take k).foldl dimOne 0 ≤ 4
  | 0, _ => by simp
  | k + 1, hk => by
    have ih := dim_bd hf k (by omega)
    rw [dim_take ns k (by omega)]
    generalize (ns.take k).foldl dimOne 0 = D at ih ⊢
    unfold dimOne
    split
    · rename_i h2
      have := fit_var (hf k (by omega)) h2
      omega
    · exact ih
end Nt
namespace Go.Proofs.Ytgeijojkfojfbaa
open Go Go.RowKit Nt

set_option maxHeartbeats 1600000 in
theorem l05Dim_any (A : Option Addr) (n c : Nat) (ns : List Nd) (P : Nat → Prop) (w : World) (hr : RdN w P A n c ns) (hf : ∀ j, j < ns.length → fitN (ns.getD j nd0) = true) (h1 : 1 ≤ n) (hn : n ≤ 60) :
    Calls Try.prog 72 #[.agg #[.slice A n c]] w fun e w' => e = .returned (.int .i64 (dimE ns)) ∧ Below w.heap.size w w' := by
  obtain ⟨b, o, rfl, _, hP, hc⟩ := hr.at_ (by omega)
  have HL := Lib.hid hr.len
  have HC := Lib.hid hc
  have HF := Lib.hid hf
  have HB0 := Lib.hid (below_one w (.cells #[.slice (some ⟨b, o, none⟩) n c] 29))
  clear hr hc hf
  go_enter Try.func72, Try.ntmps72
  go_wp2
  go_loop [3, 4] (fun d i => ∃ (k : Nat) (D : Int), k ≤ n ∧ i = .int .i64 k ∧ d = .int .i64 D ∧ Hid (D = (ns.take k).foldl dimOne 0)) (fun _ i => n - (intOf i).toNat)
  case atStart => exact ⟨0, 0, Nat.zero_le _, rfl, rfl, Lib.hid rfl⟩
  case round =>
    obtain ⟨k, D, hk, rfl, rfl, HD⟩ := hrel
    by_cases hlt : k < n
    · obtain ⟨q0, q1, q2, q3⟩ := HC.out k hlt
      have hbd := dim_bd HF.out k (by have := HL.out; omega)
      rw [← HD.out] at hbd
      have HN : Hid (dimOne D (ns.getD k nd0) = (ns.take (k + 1)).foldl dimOne 0) := by
        show _ = _
        rw [dim_take ns k (by rw [HL.out]; exact hlt), ← HD.out]
      have HV := Lib.hid (fun h2 => fit_var (HF.out k (by rw [HL.out]; exact hlt)) h2)
      obtain ⟨x, hx⟩ : ∃ x, ns.getD k nd0 = x := ⟨_, rfl⟩
      rw [hx] at q0 q1 q2 q3 HN HV
      clear hx HD
      obtain ⟨op, xa, xb, xn⟩ := x
      dsimp only at q0 q1 q2 q3 HV
      obtain ⟨hD0, hD1⟩ := hbd
      have hkn : (k : Int) < n := by omega
      by_cases h2 : op = 2
      · have hv := HV.out h2
        subst h2
        obtain ⟨hv0, hv1⟩ := hv
        obtain ⟨m, hm⟩ : ∃ m, max D (xn + 1) = m := ⟨_, rfl⟩
        have hmx : (if D < xn + 1 then xn + 1 else D) = m := by rw [← hm]; split <;> omega
        have HM : Hid (m = (ns.take (k + 1)).foldl dimOne 0) := by
          show _ = _
          rw [← HN.out, ← hm]
          rfl
        clear hm HN HV
        go_wp2
        go_round
        case rel => exact ⟨k + 1, m, by omega, by go_num, (by first | rfl | rw [hmx]), HM⟩
        case measure => simp [intOf]; omega
      · have e2 : (op == 2) = false := by simpa using h2
        have HM : Hid (D = (ns.take (k + 1)).foldl dimOne 0) := by
          show _ = _
          rw [← HN.out]
          unfold dimOne
          rw [if_neg h2]
        clear HN HV h2
        go_wp2
        go_round
        case rel => exact ⟨k + 1, D, by omega, by go_num, rfl, HM⟩
        case measure => simp [intOf]; omega
    · have HV : Hid (dimE ns = D) := by
        have e := HD.out
        rw [List.take_of_length_le (by have := HL.out; omega)] at e
        exact e.symm
      clear HD
      go_wp2
      go_ret
      exact ⟨ret_int HV.out.symm, HB0.out⟩

theorem specDimOf_any (A : Option Addr) (n c : Nat) (ns : List Nd) (P : Nat → Prop) (w : World) (hr : RdN w P A n c ns) (hn : n ≤ 1048576) :
    Calls Try.prog 20 #[.agg #[.slice A n c]] w fun e w' => e = .returned (.tuple #[.int .i64 (dimA ns), .int .i64 (codE ns)]) ∧ Below w.heap.size w w' := by
  have HL := Lib.hid hr.len
  have HR := Lib.hid hr.low
  have HB0 := Lib.hid (below_one w (.cells #[.slice A n c] 29))
  clear hr
  go_enter Try.func20, Try.ntmps20
  go_wp2_with fail
  refine calls_atN (fun v => SlAt v w.heap.size 29 A n c ∧ Below w.heap.size w v) ⟨SlAt.new _ _ _ _ _, HB0.out⟩ ?_
  rintro v1 ⟨pS, pB⟩
  refine (specExprOK_any A n c ns _ v1 (HR.out.below pB) hn).mono ?_
  rintro e v2 ⟨rfl, bb⟩
  have HS := Lib.hid (pS.on bb)
  have HB := Lib.hid (belowN_on pB bb)
  clear pS pB bb HB0
  cases hok : okE ns with
  | false =>
    have H1 : Hid (dimA ns = 0) := by show _ = _; unfold dimA; rw [hok]; rfl
    have H2 : Hid (codE ns = 1) := by show _ = _; unfold codE; rw [hok]; rfl
    clear hok
    go_wp2
    go_ret2
    exact ⟨by rw [H1.out, H2.out]; rfl, HB.out⟩
  | true =>
    have H1 : Hid (dimA ns = dimE ns) := by show _ = _; unfold dimA; rw [hok]; rfl
    have H2 : Hid (codE ns = 0) := by show _ = _; unfold codE; rw [hok]; rfl
    obtain ⟨q1, q2, q3, _⟩ := okE_out hok
    have e := HL.out
    have s0 := HS.out.c0
    have h1 : 1 ≤ n := by omega
    have h60 : n ≤ 60 := by omega
    have HQ := Lib.hid q3
    clear hok q1 q2 q3 e
    go_wp2_with fail
    clear s0
    refine (l05Dim_any A n c ns _ v2 (HR.out.below HB.out) HQ.out h1 h60).mono ?_
    rintro e v3 ⟨rfl, bb⟩
    have HB3 := Lib.hid (belowN_on HB.out bb)
    clear bb
    go_wp2
    go_ret2
    exact ⟨by rw [H1.out, H2.out]; rfl, HB3.out⟩

set_option maxHeartbeats 1600000 in
theorem implDimOf_any (A : Option Addr) (n c : Nat) (ns : List Nd) (P : Nat → Prop) (w : World) (hr : RdN w P A n c ns) (hn : n ≤ 1048576) :
    Calls Try.prog 21 #[.agg #[.slice A n c]] w fun e w' => e = .returned (.tuple #[.int .i64 (dimA ns), .int .i64 (codE ns)]) ∧ Below w.heap.size w w' := by
  have HL := Lib.hid hr.len
  have HR := Lib.hid hr.low
  have HB0 := Lib.hid (below_one w (.cells #[.slice A n c] 29))
  clear hr
  go_enter Try.func21, Try.ntmps21
  go_wp2_with fail
  refine calls_atN (fun v => SlAt v w.heap.size 29 A n c ∧ Below w.heap.size w v) ⟨SlAt.new _ _ _ _ _, HB0.out⟩ ?_
  rintro v1 ⟨pS, pB⟩
  refine (implExprOK_any A n c ns _ v1 (HR.out.below pB) hn).mono ?_
  rintro e v2 ⟨rfl, bb⟩
  have HS := Lib.hid (pS.on bb)
  have HB := Lib.hid (belowN_on pB bb)
  clear pS pB bb HB0
  cases hok : okE ns with
  | false =>
    have H1 : Hid (dimA ns = 0) := by show _ = _; unfold dimA; rw [hok]; rfl
    have H2 : Hid (codE ns = 1) := by show _ = _; unfold codE; rw [hok]; rfl
    clear hok
    go_wp2
    go_ret2
    exact ⟨by rw [H1.out, H2.out]; rfl, HB.out⟩
  | true =>
    have H1 : Hid (dimA ns = dimE ns) := by show _ = _; unfold dimA; rw [hok]; rfl
    have H2 : Hid (codE ns = 0) := by show _ = _; unfold codE; rw [hok]; rfl
    obtain ⟨q1, q2, q3, _⟩ := okE_out hok
    have e := HL.out
    have s0 := HS.out.c0
    have h1 : 1 ≤ n := by omega
    have h60 : n ≤ 60 := by omega
    have HF := Lib.hid q3
    obtain ⟨b, o, rfl, hP, _, hc⟩ := HR.out.at_ (by omega)
    have HC := Lib.hid hc
    clear hok q1 q2 q3 e hc
    go_wp2
    clear s0
    have HB1 := HB
    clear HB
    go_loopw [4, 13] (fun d i wr => ∃ (k : Nat) (D : Int), k ≤ n ∧ i = .int .i64 k ∧ d = .int .i64 D ∧ Hid (D = (ns.take k).foldl dimOne 0) ∧ Hid (Below w.heap.size w wr)) (fun _ i _ => n - (intOf i).toNat)
    case atStart => exact ⟨0, 0, Nat.zero_le _, rfl, rfl, Lib.hid rfl, HB1⟩
    case round =>
      obtain ⟨k, D, hk, rfl, rfl, HD, HB⟩ := hrel
      by_cases hlt : k < n
      · obtain ⟨q0, q1, q2, q3⟩ := (HC.out k hlt).keep (HB.out.block b hP)
        have hbd := dim_bd HF.out k (by have := HL.out; omega)
        rw [← HD.out] at hbd
        have HN : Hid (dimOne D (ns.getD k nd0) = (ns.take (k + 1)).foldl dimOne 0) := by
          show _ = _
          rw [dim_take ns k (by rw [HL.out]; exact hlt), ← HD.out]
        have HV := Lib.hid (fun h2 => fit_var (HF.out k (by rw [HL.out]; exact hlt)) h2)
        obtain ⟨x, hx⟩ : ∃ x, ns.getD k nd0 = x := ⟨_, rfl⟩
        rw [hx] at q0 q1 q2 q3 HN HV
        clear hx HD
        obtain ⟨op, xa, xb, xn⟩ := x
        dsimp only at q0 q1 q2 q3 HV
        obtain ⟨hD0, hD1⟩ := hbd
        have hkn : (k : Int) < n := by omega
        have HB2 : Hid (∀ o : Obj, Below w.heap.size w (wr.alloc o)) := fun o => belowN_on HB.out (below_one _ _)
        by_cases h2 : op = 2
        · have hv := HV.out h2
          subst h2
          obtain ⟨hv0, hv1⟩ := hv
          obtain ⟨m, hm⟩ : ∃ m, max D (xn + 1) = m := ⟨_, rfl⟩
          have hmx : (if D < xn + 1 then xn + 1 else D) = m := by rw [← hm]; split <;> omega
          have HM : Hid (m = (ns.take (k + 1)).foldl dimOne 0) := by
            show _ = _
            rw [← HN.out, ← hm]
            rfl
          clear hm HN HV
          go_wp2
          go_roundw
          case rel => exact ⟨k + 1, m, by omega, by go_num, (by first | rfl | rw [hmx]), HM, Lib.hid (HB2.out _)⟩
          case measure => simp [intOf]; omega
        · have e2 : (op == 2) = false := by simpa using h2
          have HM : Hid (D = (ns.take (k + 1)).foldl dimOne 0) := by
            show _ = _
            rw [← HN.out]
            unfold dimOne
            rw [if_neg h2]
          clear HN HV h2
          go_wp2
          go_roundw
          case rel => exact ⟨k + 1, D, by omega, by go_num, rfl, HM, Lib.hid (HB2.out _)⟩
          case measure => simp [intOf]; omega
      · have HV : Hid (dimE ns = D) := by
          have e := HD.out
          rw [List.take_of_length_le (by have := HL.out; omega)] at e
          exact e.symm
        clear HD
        go_wp2
        go_ret2
        exact ⟨by rw [H1.out, H2.out, HV.out]; rfl, HB.out⟩
end Go.Proofs.Ytgeijojkfojfbaa
