/-
  Which tapes are right: TapeOK of the model.
-/
import Derived.Test.YtcepjcnpokpdcaaGreatDoorTapeMath
import Derived.Test.YtcepjcnpokpdcaaGreatDoorTapeSame
import Derived.Deep.RegionWith
namespace Nt
open Go Go.RowKit
theorem stepN_two {op a b n i : Int} (h : two op = true) : stepN (op, a, b, n) i = ((decide (0 ≤ a) && decide (a ≤ i - 1)) && (decide (0 ≤ b) && decide (b ≤ i - 1)) && (n == 0)) := by
  obtain ⟨h3, h6⟩ := two_range h
  have h1 : one op = false := by unfold one; simp; omega
  have hm : mostN op = 0 := by unfold mostN; rw [if_neg (by omega), if_neg (by omega), if_neg (by omega)]
  unfold stepN fitN behind
  dsimp only
  rw [h, h1, hm, Bool.eq_iff_iff]
  simp
  omega
theorem stepN_one {op a b n i : Int} (h : two op = false) (h1 : one op = true) : stepN (op, a, b, n) i = ((decide (0 ≤ a) && decide (a ≤ i - 1)) && (b == 0) && (decide (0 ≤ n) && decide (n ≤ mostN op))) := by
  have hop : op = 7 ∨ op = 8 := by unfold one at h1; simpa using h1
  unfold stepN fitN behind
  dsimp only
  rw [h, h1, Bool.eq_iff_iff]
  simp
  omega
theorem stepN_none {op a b n i : Int} (h : two op = false) (h1 : one op = false) : stepN (op, a, b, n) i = nodeS (op, a, b, n) i := by
  have e2 := two_no h
  have e1 := one_no h1
  unfold stepN fitN behind nodeS mostN
  dsimp only
  rw [h, h1, Bool.eq_iff_iff]
  by_cases q : op = 1 ∨ op = 2
  · rcases q with rfl | rfl <;> simp <;> omega
  · simp [e1.1, e1.2]
    constructor
    · intro hx; exact absurd hx (by omega)
    · intro hx; exact absurd hx (by omega)
theorem RdN.first {w : World} {P : Nat → Prop} {A : Option Addr} {n c k : Nat} {ns : List Nd} (h : RdN w P A n c ns) (hk : k ≤ n) : RdN w P A k c (ns.take k) := by
  refine ⟨by have := h.1; simp; omega, Nat.le_trans hk h.2.1, h.2.2.1, fun h0 => ?_⟩
  obtain ⟨b, o, e, hp, hl, hc⟩ := h.2.2.2 (by omega)
  refine ⟨b, o, e, hp, hl, fun i hi => ?_⟩
  rw [getDN_take ns k i hi]
  exact hc i (by omega)
theorem lone_more {ns : List Nd} {k : Nat} (h : Lone ns k) (hn : ∀ j, j < k → ns.getD j nd0 ≠ ns.getD k nd0) : Lone ns (k + 1) := fun i hi j hj => by
  by_cases e : i = k
  · subst e; exact hn j hj
  · exact h i (by omega) j hj
theorem allSt_more {ns : List Nd} {k : Nat} (h : AllSt ns k) (hn : stepN (ns.getD k nd0) k = true) : AllSt ns (k + 1) := fun i hi => by
  by_cases e : i = k
  · subst e; exact hn
  · exact h i (by omega)
end Nt
namespace Go.Proofs.YtcepjcnpokpdcaaGreatDoor
open Go Go.RowKit Nt

set_option maxHeartbeats 8000000 in
theorem l07Step_any (op a b n i : Int) (w : World) (h0 : 0 ≤ i) (h60 : i ≤ 60) : Calls Tryz.prog 140 #[.agg #[.int .i64 op, .int .i64 a, .int .i64 b, .int .i64 n], .int .i64 i] w fun e w' => e = .returned (.bool (stepN (op, a, b, n) i)) ∧ Below w.heap.size w w' := by
  have HB1 := Lib.hid (below_one w (.cells #[.int .i64 op, .int .i64 a, .int .i64 b, .int .i64 n] 127))
  have hwr : IntKind.i64.wrap (i - 1) = i - 1 := IntWalk.i64_in _ (by omega)
  cases h2 : two op with
  | true =>
    have hV0 := stepN_two (a := a) (b := b) (n := n) (i := i) h2
    cases hA : (decide (0 ≤ a) && decide (a ≤ i - 1)) with
    | false =>
      have HV : Hid (stepN (op, a, b, n) i = false) := by show _ = _; rw [hV0, hA]; rfl
      clear hV0
      go_enter Tryz.func140, Tryz.ntmps140
      go_wp2_with (first | (go_at_call 129; refine (l01In_any _ _ _ _).mono ?_; rintro e w1 ⟨rfl, rfl⟩; first | rw [hA] | skip) | (go_at_call 131; refine (specTwo_any _ _).mono ?_; rintro e w1 ⟨rfl, rfl⟩; rw [h2]))
      go_ret
      exact ⟨ret_bool HV.out.symm, HB1.out⟩
    | true =>
      cases hB : (decide (0 ≤ b) && decide (b ≤ i - 1)) with
      | false =>
        have HV : Hid (stepN (op, a, b, n) i = false) := by show _ = _; rw [hV0, hA, hB]; rfl
        clear hV0
        go_enter Tryz.func140, Tryz.ntmps140
        go_wp2_with (first | (go_at_call_of 129 a; refine (l01In_any _ _ _ _).mono ?_; rintro e w1 ⟨rfl, rfl⟩; rw [hA]) | (go_at_call 129; refine (l01In_any _ _ _ _).mono ?_; rintro e w1 ⟨rfl, rfl⟩; first | rw [hB] | rw [hA]) | (go_at_call 131; refine (specTwo_any _ _).mono ?_; rintro e w1 ⟨rfl, rfl⟩; rw [h2]))
        go_ret
        exact ⟨ret_bool HV.out.symm, HB1.out⟩
      | true =>
        have HV : Hid (stepN (op, a, b, n) i = (n == 0)) := by show _ = _; rw [hV0, hA, hB]; rfl
        clear hV0
        go_enter Tryz.func140, Tryz.ntmps140
        go_wp2_with (first | (go_at_call_of 129 a; refine (l01In_any _ _ _ _).mono ?_; rintro e w1 ⟨rfl, rfl⟩; rw [hA]) | (go_at_call 129; refine (l01In_any _ _ _ _).mono ?_; rintro e w1 ⟨rfl, rfl⟩; first | rw [hB] | rw [hA]) | (go_at_call 131; refine (specTwo_any _ _).mono ?_; rintro e w1 ⟨rfl, rfl⟩; rw [h2]))
        go_ret
        exact ⟨ret_bool HV.out.symm, HB1.out⟩
  | false =>
    cases h1 : one op with
    | true =>
      have hV0 := stepN_one (a := a) (b := b) (n := n) (i := i) h2 h1
      have hop : op = 7 ∨ op = 8 := by unfold one at h1; simpa using h1
      have HC := Lib.hid (NodeAt.new w 127 op a b n).four
      have HLI := Lib.hid (fun (W : World) (v : Bool) (h : (decide (0 ≤ a) && decide (a ≤ i - 1)) = v) => (show Calls Tryz.prog 129 #[.int .i64 a, .int .i64 0, .int .i64 (i - 1)] W fun e w' => e = .returned (.bool v) ∧ W = w' from h ▸ l01In_any a 0 (i - 1) W))
      cases hA : (decide (0 ≤ a) && decide (a ≤ i - 1)) with
      | false =>
        have HV : Hid (stepN (op, a, b, n) i = false) := by show _ = _; rw [hV0, hA]; rfl
        clear hV0 hop
        go_enter Tryz.func140, Tryz.ntmps140
        go_wp2_with (first | (go_at_call 131; refine (specTwo_any _ _).mono ?_; rintro e w1 ⟨rfl, rfl⟩; rw [h2]) | (go_at_call 133; refine (specOne_any _ _).mono ?_; rintro e w1 ⟨rfl, rfl⟩; rw [h1]))
        obtain ⟨c0, c1, c2, c3⟩ := HC.out
        have HIN := Lib.hid (fun W => HLI.out W _ hA)
        clear HLI hA
        go_quiet ((go_at_call 129; (first | exact quiet_left (HIN.out _) | exact quiet_add_left (HIN.out _))))
        go_wp2
        go_ret
        exact ⟨ret_bool HV.out.symm, below_drewN HB1.out _⟩
      | true =>
        by_cases qb : b = 0
        · subst qb
          have HV : Hid (stepN (op, a, 0, n) i = (decide (0 ≤ n) && decide (n ≤ mostN op))) := by show _ = _; rw [hV0, hA]; rfl
          clear hV0
          rcases hop with rfl | rfl
          · have hbit : bitZ false = 0 := rfl
            replace HV : Hid (stepN (7, a, 0, n) i = (decide (0 ≤ n) && decide (n ≤ 0))) := HV.out
            go_enter Tryz.func140, Tryz.ntmps140
            go_wp2_with (first | (go_at_call 131; refine (specTwo_any _ _).mono ?_; rintro e w1 ⟨rfl, rfl⟩; rw [h2]) | (go_at_call 133; refine (specOne_any _ _).mono ?_; rintro e w1 ⟨rfl, rfl⟩; rw [h1]))
            obtain ⟨c0, c1, c2, c3⟩ := HC.out
            have HIN := Lib.hid (fun W => HLI.out W _ hA)
            clear HLI hA
            go_quiet ((first | (go_at_call 117; (first | exact quiet_left (l01Bit_any _ _) | exact quiet_add_left (l01Bit_any _ _))) | (go_at_call_of 129 a; (first | exact quiet_left (HIN.out _) | exact quiet_add_left (HIN.out _))) | (go_at_call 129; (first | exact quiet_left (l01In_any _ _ _ _) | exact quiet_add_left (l01In_any _ _ _ _)))))
            go_wp2
            go_ret
            exact ⟨ret_bool HV.out.symm, below_drewN HB1.out _⟩
          · have hbit : bitZ true = 1 := rfl
            replace HV : Hid (stepN (8, a, 0, n) i = (decide (0 ≤ n) && decide (n ≤ 8))) := HV.out
            go_enter Tryz.func140, Tryz.ntmps140
            go_wp2_with (first | (go_at_call 131; refine (specTwo_any _ _).mono ?_; rintro e w1 ⟨rfl, rfl⟩; rw [h2]) | (go_at_call 133; refine (specOne_any _ _).mono ?_; rintro e w1 ⟨rfl, rfl⟩; rw [h1]))
            obtain ⟨c0, c1, c2, c3⟩ := HC.out
            have HIN := Lib.hid (fun W => HLI.out W _ hA)
            clear HLI hA
            go_quiet ((first | (go_at_call 117; (first | exact quiet_left (l01Bit_any _ _) | exact quiet_add_left (l01Bit_any _ _))) | (go_at_call_of 129 a; (first | exact quiet_left (HIN.out _) | exact quiet_add_left (HIN.out _))) | (go_at_call 129; (first | exact quiet_left (l01In_any _ _ _ _) | exact quiet_add_left (l01In_any _ _ _ _)))))
            go_wp2
            go_ret
            exact ⟨ret_bool HV.out.symm, below_drewN HB1.out _⟩
        · have eb : (b == 0) = false := by simpa using qb
          have HV : Hid (stepN (op, a, b, n) i = false) := by show _ = _; rw [hV0, hA, eb]; rfl
          clear hV0 qb hop
          go_enter Tryz.func140, Tryz.ntmps140
          go_wp2_with (first | (go_at_call 131; refine (specTwo_any _ _).mono ?_; rintro e w1 ⟨rfl, rfl⟩; rw [h2]) | (go_at_call 133; refine (specOne_any _ _).mono ?_; rintro e w1 ⟨rfl, rfl⟩; rw [h1]))
          obtain ⟨c0, c1, c2, c3⟩ := HC.out
          have HIN := Lib.hid (fun W => HLI.out W _ hA)
          clear HLI hA
          go_quiet ((go_at_call_of 129 a; (first | exact quiet_left (HIN.out _) | exact quiet_add_left (HIN.out _))))
          go_wp2
          go_ret
          exact ⟨ret_bool HV.out.symm, below_drewN HB1.out _⟩
    | false =>
      have HV := Lib.hid (stepN_none (a := a) (b := b) (n := n) (i := i) h2 h1)
      go_enter Tryz.func140, Tryz.ntmps140
      go_wp2_with (first | (go_at_call 131; refine (specTwo_any _ _).mono ?_; rintro e w1 ⟨rfl, rfl⟩; rw [h2]) | (go_at_call 133; refine (specOne_any _ _).mono ?_; rintro e w1 ⟨rfl, rfl⟩; rw [h1]))
      refine (specNode_any op a b n i _ h0 h60).mono ?_
      rintro e w1 ⟨rfl, bb⟩
      have HB2 := Lib.hid (belowN_on HB1.out bb)
      clear bb
      rw [HV.out.symm]
      obtain ⟨J, hJ⟩ : ∃ J, stepN (op, a, b, n) i = J := ⟨_, rfl⟩
      have HJ := Lib.hid hJ
      rw [hJ]
      clear HV hJ
      go_wp2
      go_ret
      exact ⟨ret_bool HJ.out.symm, HB2.out⟩

set_option maxHeartbeats 3200000 in
theorem l07Find_any (A : Option Addr) (n c : Nat) (ns : List Nd) (op xa xb xn : Int) (P : Nat → Prop) (w : World) (hr : RdN w P A n c ns) (hn : n ≤ 60) :
    Calls Tryz.prog 141 #[.slice A n c, .agg #[.int .i64 op, .int .i64 xa, .int .i64 xb, .int .i64 xn]] w fun e w' => e = .returned (.int .i64 (findN ns (op, xa, xb, xn) n)) ∧ Below w.heap.size w w' := by
  have HL := Lib.hid hr.len
  have HR := Lib.hid hr.low
  have HX := Lib.hid (NodeAt.new w 127 op xa xb xn)
  have HB0 := Lib.hid (below_one w (.cells #[.int .i64 op, .int .i64 xa, .int .i64 xb, .int .i64 xn] 127))
  clear hr
  go_enter Tryz.func141, Tryz.ntmps141
  go_wp2
  go_loopw [5] (fun i wr => ∃ k : Nat, k ≤ n ∧ i = .int .i64 k ∧ Hid (∀ j, j < k → ns.getD j nd0 ≠ (op, xa, xb, xn)) ∧ Hid (NodeAt wr w.heap.size 127 op xa xb xn) ∧ Hid (Below w.heap.size w wr)) (fun i _ => n - (intOf i).toNat)
  case atStart => exact ⟨0, Nat.zero_le _, rfl, Lib.hid (fun j hj => by omega), HX, HB0⟩
  case round =>
    clear HX HB0
    obtain ⟨k, hk, rfl, HK, HX, HB⟩ := hrel
    by_cases hlt : k < n
    · obtain ⟨b, o, rfl, hP, _, hc⟩ := HR.out.at_ (by omega)
      have e1 := (hc k hlt).keep (HB.out.block b hP)
      have HNO : Hid (ns.getD k nd0 ≠ (op, xa, xb, xn) → ∀ j, j < k + 1 → ns.getD j nd0 ≠ (op, xa, xb, xn)) := fun h j hj => by
        by_cases e : j = k
        · subst e; exact h
        · exact HK.out j (by omega)
      have HYES : Hid (ns.getD k nd0 = (op, xa, xb, xn) → findN ns (op, xa, xb, xn) n = (k : Int)) := fun h => findN_hit h HK.out n hlt
      obtain ⟨x, hx⟩ : ∃ x, ns.getD k nd0 = x := ⟨_, rfl⟩
      rw [hx] at e1 HNO HYES
      have d0 := HX.out.c0
      have d1 := HX.out.c1
      have d2 := HX.out.c2
      have d3 := HX.out.c3
      have hkn : (k : Int) < n := by omega
      clear hx hc HK
      by_cases hxy : x = (op, xa, xb, xn)
      · have HF := Lib.hid (HYES.out hxy)
        subst hxy
        clear HYES HNO
        obtain ⟨c0, c1, c2, c3⟩ := e1
        dsimp only at c0 c1 c2 c3
        go_wp2_with fail
        go_quiet (fail)
        go_wp2
        go_ret
        exact ⟨ret_int HF.out.symm, below_drewN HB.out _⟩
      · have HF := Lib.hid (HNO.out hxy)
        have hcm := nd_cases hxy
        clear HYES HNO hxy
        obtain ⟨op', xa', xb', xn'⟩ := x
        obtain ⟨c0, c1, c2, c3⟩ := e1
        dsimp only at c0 c1 c2 c3 hcm
        rcases hcm with ⟨h, hq⟩ | ⟨rfl, h, hq⟩ | ⟨rfl, rfl, h, hq⟩ | ⟨rfl, rfl, rfl, h, hq⟩
        all_goals
          go_wp2_with fail
          go_quiet (fail)
          go_wp2
          go_roundw
          case rel => exact ⟨k + 1, by omega, by go_num, HF, Lib.hid (show NodeAt (wr.drewN nq) _ _ _ _ _ _ from HX.out), Lib.hid (below_drewN HB.out _)⟩
          case measure => simp [intOf]; omega
    · have HF : Hid (findN ns (op, xa, xb, xn) n = -1) := findN_miss n fun j hj => HK.out j (by omega)
      clear HK
      go_wp2
      go_ret
      exact ⟨ret_int HF.out.symm, HB.out⟩
end Go.Proofs.YtcepjcnpokpdcaaGreatDoor
