/-
  Which expressions are right: of the program (ExprOK).
-/
import Derived.Test.YtgeijojkfojfbaaTrees
import Derived.Test.YtgeijojkfojfbaaNodeFit
namespace Nt
open Go Go.RowKit
theorem fit_any {ns : List Nd} {k : Nat} (hk : k < ns.length) (h : fitN (ns.getD k nd0) = false) : ns.all fitN = false := by
  rw [Bool.eq_false_iff]
  intro ha
  rw [fit_all ha k hk] at h
  cases h
end Nt
namespace Go.Proofs.Ytgeijojkfojfbaa
open Go Go.RowKit Nt

set_option maxHeartbeats 1600000 in
theorem indexUnfit_any (A : Option Addr) (n c : Nat) (ns : List Nd) (P : Nat → Prop) (w : World) (hr : RdN w P A n c ns) (hn : n ≤ 1048576) :
    Calls Try.prog 111 #[.slice A n c, .func (.func 66) #[] #[]] w fun e w' => ∃ r : Int, e = .returned (.int .i64 r) ∧ decide (0 ≤ r) = (!ns.all fitN) ∧ Below w.heap.size w w' := by
  have HR := Lib.hid hr.low
  have HL := Lib.hid hr.len
  clear hr
  go_enter Try.func111, Try.ntmps111
  go_wp2
  go_loopw [8] (fun i wr => ∃ k : Nat, k ≤ n ∧ i = .int .i64 k ∧ Hid (∀ j, j < k → fitN (ns.getD j nd0) = true) ∧ Hid (Below w.heap.size w wr)) (fun i _ => n - (intOf i).toNat)
  case atStart => exact ⟨0, Nat.zero_le _, rfl, Lib.hid (fun j hj => by omega), Lib.hid (Below.refl _ _)⟩
  case round =>
    obtain ⟨k, hk, rfl, HK, HB⟩ := hrel
    by_cases hlt : k < n
    · obtain ⟨b, o, rfl, hP, _, hc⟩ := HR.out.at_ (by omega)
      have e4 := (hc k hlt).keep (HB.out.block b hP)
      have HNO : Hid (fitN (ns.getD k nd0) = false → decide (0 ≤ (k : Int)) = (!ns.all fitN)) := fun h => by rw [fit_any (by rw [HL.out]; exact hlt) h]; simp
      have HYES : Hid (fitN (ns.getD k nd0) = true → ∀ j, j < k + 1 → fitN (ns.getD j nd0) = true) := fun h j hj => by
        by_cases e : j = k
        · subst e; exact h
        · exact HK.out j (by omega)
      obtain ⟨x, hx⟩ : ∃ x, ns.getD k nd0 = x := ⟨_, rfl⟩
      rw [hx] at e4 HNO HYES
      clear hx hc
      obtain ⟨op, xa, xb, xn⟩ := x
      obtain ⟨q0, q1, q2, q3⟩ := e4
      dsimp only at q0 q1 q2 q3
      have hkn : (k : Int) < n := by omega
      go_wp2_with fail
      refine (exprOK1_any op xa xb xn wr).mono ?_
      rintro e w1 ⟨rfl, bb⟩
      have HB1 := Lib.hid (belowN_on HB.out bb)
      clear bb q0 q1 q2 q3
      cases hf : fitN (op, xa, xb, xn) with
      | true =>
        have HF := Lib.hid (HYES.out hf)
        clear HYES HNO hf
        go_wp2
        go_roundw
        case rel => exact ⟨k + 1, by omega, by go_num, HF, HB1⟩
        case measure => simp [intOf]; omega
      | false =>
        have HF := Lib.hid (HNO.out hf)
        clear HYES HNO hf
        go_wp2
        go_ret
        exact ⟨k, rfl, HF.out, HB1.out⟩
    · have HF : Hid (decide (0 ≤ (-1 : Int)) = (!ns.all fitN)) := by
        show _ = _
        rw [all_fit fun j hj => HK.out j (by have := HL.out; omega)]
        rfl
      clear HK
      go_wp2
      go_ret
      exact ⟨-1, rfl, HF.out, HB.out⟩
theorem containsUnfit_any (A : Option Addr) (n c : Nat) (ns : List Nd) (P : Nat → Prop) (w : World) (hr : RdN w P A n c ns) (hn : n ≤ 1048576) :
    Calls Try.prog 65 #[.slice A n c, .func (.func 66) #[] #[]] w fun e w' => e = .returned (.bool (!ns.all fitN)) ∧ Below w.heap.size w w' := by
  have HR := Lib.hid hr
  clear hr
  go_enter Try.func65, Try.ntmps65
  go_wp2_with fail
  refine (indexUnfit_any A n c ns P w HR.out hn).mono ?_
  rintro e w1 ⟨r, rfl, hd, bb⟩
  have HD := Lib.hid hd
  have HB := Lib.hid bb
  clear bb hd
  go_wp2
  go_ret
  exact ⟨ret_bool HD.out, HB.out⟩

set_option maxHeartbeats 3200000 in
theorem implExprOK_any (A : Option Addr) (n c : Nat) (ns : List Nd) (P : Nat → Prop) (w : World) (hr : RdN w P A n c ns) (hn : n ≤ 1048576) :
    Calls Try.prog 16 #[.agg #[.slice A n c]] w fun e w' => e = .returned (.bool (okE ns)) ∧ Below w.heap.size w w' := by
  have HL := Lib.hid hr.len
  have HR := Lib.hid hr.low
  have HB0 := Lib.hid (below_one w (.cells #[.slice A n c] 29))
  clear hr
  by_cases h0 : n < 1
  · have HV : Hid (okE ns = false) := by have := HL.out; exact okE_len0 (by omega)
    have d0 : decide ((n : Int) < 1) = true := by simp; omega
    go_enter Try.func16, Try.ntmps16
    go_wp2
    go_ret
    exact ⟨ret_bool HV.out.symm, HB0.out⟩
  have d0 : decide ((n : Int) < 1) = false := by simp; omega
  by_cases h60 : 60 < n
  · have HV : Hid (okE ns = false) := by have := HL.out; exact okE_long (by omega)
    have d6 : decide ((60 : Int) < n) = true := by simp; omega
    go_enter Try.func16, Try.ntmps16
    go_wp2
    go_ret
    exact ⟨ret_bool HV.out.symm, HB0.out⟩
  have d6 : decide ((60 : Int) < n) = false := by simp; omega
  have hVok : ∀ ts, ns.all fitN = true → trees ns = some ts → okE ns = (decide ((ts.getD (n - 1) tr0).1 = 0) && decide ((ts.getD (n - 1) tr0).2 ≤ 12)) := by
    intro ts h1 h2
    have e := HL.out
    unfold okE
    rw [h1, h2, e, decide_eq_true (show 1 ≤ n by omega), decide_eq_true (show n ≤ 60 by omega)]
    rfl
  have HVok := Lib.hid hVok
  have hVno : ns.all fitN = false → okE ns = false := fun h => by unfold okE; rw [h]; simp
  have HVno := Lib.hid hVno
  clear hVok hVno
  go_enter Try.func16, Try.ntmps16
  go_wp2_with fail
  refine calls_atN (fun v => SlAt v w.heap.size 29 A n c ∧ Below w.heap.size w v) ⟨SlAt.new _ _ _ _ _, HB0.out⟩ ?_
  rintro v1 ⟨pS, pB⟩
  have HS := Lib.hid pS
  have HB := Lib.hid pB
  clear pS pB HB0
  refine (containsUnfit_any A n c ns _ v1 (HR.out.below HB.out) hn).mono ?_
  rintro e v2 ⟨rfl, bb⟩
  replace HS := Lib.hid (HS.out.on bb)
  replace HB := Lib.hid (belowN_on HB.out bb)
  clear bb
  cases hfit : ns.all fitN with
  | false =>
    have HV := Lib.hid (HVno.out hfit)
    clear hfit
    go_wp2
    go_ret
    exact ⟨ret_bool HV.out.symm, HB.out⟩
  | true =>
  have s0 := HS.out.c0
  have HVk := Lib.hid (fun ts h => HVok.out ts hfit h)
  clear hfit HVno HVok
  go_wp2_with fail
  clear s0
  refine (treesOf_any A n c ns v2 ((HR.out.below HB.out).mono fun _ h _ => Nat.lt_of_lt_of_le h HB.out.size) (by omega) (by omega)).mono ?_
  rintro e v3 ⟨bb, hT⟩
  replace HS := Lib.hid (HS.out.on bb)
  replace HB := Lib.hid (belowN_on HB.out bb)
  clear bb
  rcases hT with ⟨hno, rfl⟩ | ⟨ts, V, d, hts, rfl, hrd⟩
  · have HV := Lib.hid (okE_torn hno)
    clear hno
    go_wp2
    go_ret
    exact ⟨ret_bool HV.out.symm, HB.out⟩
  · obtain ⟨g, rfl, hg, hc⟩ := hrd
    obtain ⟨y0, y1⟩ := hc (n - 1) (by omega)
    have HV := Lib.hid (HVk.out ts hts)
    obtain ⟨F, hF⟩ : ∃ F, (ts.getD (n - 1) tr0).1 = F := ⟨_, rfl⟩
    obtain ⟨Dp, hD⟩ : ∃ D, (ts.getD (n - 1) tr0).2 = D := ⟨_, rfl⟩
    rw [hF, hD] at HV
    rw [hF] at y0
    rw [hD] at y1
    have hk1 : IntKind.i64.wrap ((n : Int) - 1) = ((n - 1 : Nat) : Int) := by rw [IntWalk.i64_in _ (by omega)]; omega
    have hn1 : ((n - 1 : Nat) : Int) < n := by omega
    have HBA : Hid (∀ (o : Obj), Below w.heap.size w (v3.alloc o)) := fun o => belowN_on HB.out (below_one _ _)
    clear hF hD hc hts HVk
    generalize n - 1 = m at *
    by_cases hz : F = 0
    · subst hz
      have HV2 : Hid (okE ns = decide (Dp ≤ 12)) := by show _ = _; rw [HV.out]; simp
      clear HV
      go_wp2
      go_ret
      exact ⟨ret_bool HV2.out.symm, HBA.out _⟩
    · have HV2 : Hid (okE ns = false) := by show _ = _; rw [HV.out, decide_eq_false hz]; rfl
      have e0 : (F == 0) = false := by simpa using hz
      clear HV hz
      go_wp2
      go_ret
      exact ⟨ret_bool HV2.out.symm, HBA.out _⟩
end Go.Proofs.Ytgeijojkfojfbaa
