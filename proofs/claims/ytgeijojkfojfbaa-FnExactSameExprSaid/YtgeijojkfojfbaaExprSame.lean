/-
  Expressions that are alike: SameExpr of the program and of the model.
-/
import Derived.Test.YtgeijojkfojfbaaSpecExpr
import Derived.Test.YtgeijojkfojfbaaImplExpr
import Derived.BigQuiet
namespace Nt
open Go Go.RowKit
theorem getN_ne {ns ms : List Nd} {k : Nat} (h : ns.getD k nd0 ≠ ms.getD k nd0) : ns ≠ ms := fun e => h (by rw [e])
theorem getN_eq {ns ms : List Nd} (hl : ns.length = ms.length) (h : ∀ k, k < ns.length → ns.getD k nd0 = ms.getD k nd0) : ns = ms := by
  refine List.ext_getElem hl fun i h1 h2 => ?_
  have := h i h1
  simpa [List.getD, h1, h2] using this
def sameE (ns ms : List Nd) : Bool := okE ns && okE ms && decide (ns = ms)
theorem nd_cases {a b : Nd} (h : a ≠ b) : (a.1 ≠ b.1 ∧ (a.1 == b.1) = false) ∨ (a.1 = b.1 ∧ a.2.1 ≠ b.2.1 ∧ (a.2.1 == b.2.1) = false) ∨ (a.1 = b.1 ∧ a.2.1 = b.2.1 ∧ a.2.2.1 ≠ b.2.2.1 ∧ (a.2.2.1 == b.2.2.1) = false) ∨ (a.1 = b.1 ∧ a.2.1 = b.2.1 ∧ a.2.2.1 = b.2.2.1 ∧ a.2.2.2 ≠ b.2.2.2 ∧ (a.2.2.2 == b.2.2.2) = false) := by
  by_cases h1 : a.1 = b.1
  · by_cases h2 : a.2.1 = b.2.1
    · by_cases h3 : a.2.2.1 = b.2.2.1
      · have h4 : a.2.2.2 ≠ b.2.2.2 := fun h4 => h (Prod.ext h1 (Prod.ext h2 (Prod.ext h3 h4)))
        exact .inr (.inr (.inr ⟨h1, h2, h3, h4, by simpa using h4⟩))
      · exact .inr (.inr (.inl ⟨h1, h2, h3, by simpa using h3⟩))
    · exact .inr (.inl ⟨h1, h2, by simpa using h2⟩)
  · exact .inl ⟨h1, by simpa using h1⟩
end Nt
namespace Go.Proofs.Ytgeijojkfojfbaa
open Go Go.RowKit Nt

set_option maxHeartbeats 3200000 in
theorem equalNodes_any (A B : Option Addr) (n c m d : Nat) (ns ms : List Nd) (P Q : Nat → Prop) (w : World) (hr : RdN w P A n c ns) (hr' : RdN w Q B m d ms) (hn : n ≤ 1048576) (hm : m ≤ 1048576) :
    Calls Try.prog 74 #[.slice A n c, .slice B m d] w fun e w' => e = .returned (.bool (decide (ns = ms))) ∧ Below w.heap.size w w' := by
  have HL := Lib.hid hr.len
  have HM := Lib.hid hr'.len
  by_cases hnm : n = m
  · subst hnm
    have HR := Lib.hid hr.low
    have HR' := Lib.hid hr'.low
    have hne : ((n : Int) != (n : Int)) = false := by simp
    clear hr hr' hm
    go_enter Try.func74, Try.ntmps74
    go_wp2
    go_loopw [13] (fun i wr => ∃ k : Nat, k ≤ n ∧ i = .int .i64 k ∧ Hid (∀ j, j < k → ns.getD j nd0 = ms.getD j nd0) ∧ Hid (Below w.heap.size w wr)) (fun i _ => n - (intOf i).toNat)
    case atStart => exact ⟨0, Nat.zero_le _, rfl, Lib.hid (fun j hj => by omega), Lib.hid (Below.refl _ _)⟩
    case round =>
      obtain ⟨k, hk, rfl, HK, HB⟩ := hrel
      by_cases hlt : k < n
      · obtain ⟨b, o, rfl, hP, _, hc⟩ := HR.out.at_ (by omega)
        obtain ⟨b', o', rfl, hP', _, hc'⟩ := HR'.out.at_ (by omega)
        have e1 := (hc k hlt).keep (HB.out.block b hP)
        have e2 := (hc' k hlt).keep (HB.out.block b' hP')
        have HNO : Hid (ns.getD k nd0 ≠ ms.getD k nd0 → decide (ns = ms) = false) := fun h => decide_eq_false (getN_ne h)
        have HYES : Hid (ns.getD k nd0 = ms.getD k nd0 → ∀ j, j < k + 1 → ns.getD j nd0 = ms.getD j nd0) := fun h j hj => by
          by_cases e : j = k
          · subst e; exact h
          · exact HK.out j (by omega)
        have hkn : (k : Int) < n := by omega
        obtain ⟨x, hx⟩ : ∃ x, ns.getD k nd0 = x := ⟨_, rfl⟩
        obtain ⟨y, hy⟩ : ∃ y, ms.getD k nd0 = y := ⟨_, rfl⟩
        rw [hx] at e1 HNO HYES
        rw [hy] at e2 HNO HYES
        clear hx hy hc hc' HK
        by_cases hxy : x = y
        · subst hxy
          have HF := Lib.hid (HYES.out rfl)
          clear HYES HNO
          obtain ⟨op, xa, xb, xn⟩ := x
          obtain ⟨c0, c1, c2, c3⟩ := e1
          obtain ⟨d0, d1, d2, d3⟩ := e2
          dsimp only at c0 c1 c2 c3 d0 d1 d2 d3
          go_wp2_with fail
          go_quiet (fail)
          go_wp2
          go_roundw
          case rel => exact ⟨k + 1, by omega, by go_num, HF, Lib.hid (below_drewN HB.out _)⟩
          case measure => simp [intOf]; omega
        · have HF := Lib.hid (HNO.out hxy)
          have hcm := nd_cases hxy
          clear HYES HNO hxy
          obtain ⟨op, xa, xb, xn⟩ := x
          obtain ⟨op', xa', xb', xn'⟩ := y
          obtain ⟨c0, c1, c2, c3⟩ := e1
          obtain ⟨d0, d1, d2, d3⟩ := e2
          dsimp only at c0 c1 c2 c3 d0 d1 d2 d3 hcm
          rcases hcm with ⟨h, hq⟩ | ⟨rfl, h, hq⟩ | ⟨rfl, rfl, h, hq⟩ | ⟨rfl, rfl, rfl, h, hq⟩
          all_goals
            go_wp2_with fail
            go_quiet (fail)
            go_wp2
            go_ret
            exact ⟨ret_bool HF.out.symm, below_drewN HB.out _⟩
      · have HF : Hid (decide (ns = ms) = true) := by
          have e1 := HL.out
          have e2 := HM.out
          exact decide_eq_true (getN_eq (by omega) fun j hj => HK.out j (by omega))
        clear HK
        go_wp2
        go_ret
        exact ⟨ret_bool HF.out.symm, HB.out⟩
  · have HF : Hid (decide (ns = ms) = false) := by
      have e1 := HL.out
      have e2 := HM.out
      refine decide_eq_false fun e => hnm ?_
      rw [← e1, ← e2, e]
    have hne : ((n : Int) != (m : Int)) = true := by simp; omega
    clear hr hr' hnm
    go_enter Try.func74, Try.ntmps74
    go_wp2
    go_ret
    exact ⟨ret_bool HF.out.symm, Below.refl _ _⟩

set_option maxHeartbeats 3200000 in
theorem l05Same_any (A B : Option Addr) (n c m d : Nat) (ns ms : List Nd) (P Q : Nat → Prop) (w : World) (hr : RdN w P A n c ns) (hr' : RdN w Q B m d ms) (hn : n ≤ 1048576) (hm : m ≤ 1048576) :
    Calls Try.prog 73 #[.agg #[.slice A n c], .agg #[.slice B m d]] w fun e w' => e = .returned (.bool (decide (ns = ms))) ∧ Below w.heap.size w w' := by
  have HL := Lib.hid hr.len
  have HM := Lib.hid hr'.len
  have HB0 : Hid (Below w.heap.size w ((w.alloc (.cells #[.slice A n c] 29)).alloc (.cells #[.slice B m d] 29))) := ((Below.refl _ _).alloc (Nat.le_refl _) _).alloc (by simp) _
  by_cases hnm : n = m
  · subst hnm
    have HR := Lib.hid hr.low
    have HR' := Lib.hid hr'.low
    have hne : ((n : Int) != (n : Int)) = false := by simp
    have HSa : Hid (SlAt ((w.alloc (.cells #[.slice A n c] 29)).alloc (.cells #[.slice B n d] 29)) w.heap.size 29 A n c) := (SlAt.new _ _ _ _ _).on (below_one _ _)
    have HSb : Hid (SlAt ((w.alloc (.cells #[.slice A n c] 29)).alloc (.cells #[.slice B n d] 29)) (w.heap.size + 1) 29 B n d) := by
      have h := SlAt.new (w.alloc (.cells #[.slice A n c] 29)) 29 B n d
      rwa [World.size_alloc] at h
    clear hr hr' hm
    go_enter Try.func73, Try.ntmps73
    go_wp2
    go_loopw [5] (fun i wr => ∃ k : Nat, k ≤ n ∧ i = .int .i64 k ∧ Hid (∀ j, j < k → ns.getD j nd0 = ms.getD j nd0) ∧ Hid (SlAt wr w.heap.size 29 A n c) ∧ Hid (SlAt wr (w.heap.size + 1) 29 B n d) ∧ Hid (Below w.heap.size w wr)) (fun i _ => n - (intOf i).toNat)
    case atStart => exact ⟨0, Nat.zero_le _, rfl, Lib.hid (fun j hj => by omega), HSa, HSb, HB0⟩
    case round =>
      clear HSa HSb HB0
      obtain ⟨k, hk, rfl, HK, HSa, HSb, HB⟩ := hrel
      have s0 := HSa.out.c0
      have s1 := HSb.out.c0
      by_cases hlt : k < n
      · obtain ⟨b, o, rfl, hP, _, hc⟩ := HR.out.at_ (by omega)
        obtain ⟨b', o', rfl, hP', _, hc'⟩ := HR'.out.at_ (by omega)
        have e1 := (hc k hlt).keep (HB.out.block b hP)
        have e2 := (hc' k hlt).keep (HB.out.block b' hP')
        have HNO : Hid (ns.getD k nd0 ≠ ms.getD k nd0 → decide (ns = ms) = false) := fun h => decide_eq_false (getN_ne h)
        have HYES : Hid (ns.getD k nd0 = ms.getD k nd0 → ∀ j, j < k + 1 → ns.getD j nd0 = ms.getD j nd0) := fun h j hj => by
          by_cases e : j = k
          · subst e; exact h
          · exact HK.out j (by omega)
        have hkn : (k : Int) < n := by omega
        obtain ⟨x, hx⟩ : ∃ x, ns.getD k nd0 = x := ⟨_, rfl⟩
        obtain ⟨y, hy⟩ : ∃ y, ms.getD k nd0 = y := ⟨_, rfl⟩
        rw [hx] at e1 HNO HYES
        rw [hy] at e2 HNO HYES
        clear hx hy hc hc' HK
        by_cases hxy : x = y
        · subst hxy
          have HF := Lib.hid (HYES.out rfl)
          clear HYES HNO
          obtain ⟨op, xa, xb, xn⟩ := x
          obtain ⟨c0, c1, c2, c3⟩ := e1
          obtain ⟨d0, d1, d2, d3⟩ := e2
          dsimp only at c0 c1 c2 c3 d0 d1 d2 d3
          go_wp2_with fail
          go_quiet (fail)
          go_wp2
          go_roundw
          case rel => exact ⟨k + 1, by omega, by go_num, HF, Lib.hid (show SlAt (wr.drewN nq) _ _ _ _ _ from HSa.out), Lib.hid (show SlAt (wr.drewN nq) _ _ _ _ _ from HSb.out), Lib.hid (below_drewN HB.out _)⟩
          case measure => simp [intOf]; omega
        · have HF := Lib.hid (HNO.out hxy)
          have hcm := nd_cases hxy
          clear HYES HNO hxy
          obtain ⟨op, xa, xb, xn⟩ := x
          obtain ⟨op', xa', xb', xn'⟩ := y
          obtain ⟨c0, c1, c2, c3⟩ := e1
          obtain ⟨d0, d1, d2, d3⟩ := e2
          dsimp only at c0 c1 c2 c3 d0 d1 d2 d3 hcm
          rcases hcm with ⟨h, hq⟩ | ⟨rfl, h, hq⟩ | ⟨rfl, rfl, h, hq⟩ | ⟨rfl, rfl, rfl, h, hq⟩
          all_goals
            go_wp2_with fail
            go_quiet (fail)
            go_wp2
            go_ret
            exact ⟨ret_bool HF.out.symm, below_drewN HB.out _⟩
      · have HF : Hid (decide (ns = ms) = true) := by
          have e1 := HL.out
          have e2 := HM.out
          exact decide_eq_true (getN_eq (by omega) fun j hj => HK.out j (by omega))
        clear HK
        go_wp2
        go_ret
        exact ⟨ret_bool HF.out.symm, HB.out⟩
  · have HF : Hid (decide (ns = ms) = false) := by
      have e1 := HL.out
      have e2 := HM.out
      refine decide_eq_false fun e => hnm ?_
      rw [← e1, ← e2, e]
    have hne : ((n : Int) != (m : Int)) = true := by simp; omega
    clear hr hr' hnm
    go_enter Try.func73, Try.ntmps73
    go_wp2
    go_ret
    exact ⟨ret_bool HF.out.symm, HB0.out⟩

set_option maxHeartbeats 1600000 in
theorem specSameExpr_any (A B : Option Addr) (n c m d : Nat) (ns ms : List Nd) (P Q : Nat → Prop) (w : World) (hr : RdN w P A n c ns) (hr' : RdN w Q B m d ms) (hn : n ≤ 1048576) (hm : m ≤ 1048576) :
    Calls Try.prog 22 #[.agg #[.slice A n c], .agg #[.slice B m d]] w fun e w' => e = .returned (.bool (sameE ns ms)) ∧ Below w.heap.size w w' := by
  have HR := Lib.hid hr.low
  have HR' := Lib.hid hr'.low
  clear hr hr'
  go_enter Try.func22, Try.ntmps22
  go_wp2_with fail
  refine calls_atN (fun v => SlAt v w.heap.size 29 A n c ∧ SlAt v (w.heap.size + 1) 29 B m d ∧ Below w.heap.size w v) ⟨(SlAt.new _ _ _ _ _).on (below_one _ _), by have h := SlAt.new (w.alloc (.cells #[.slice A n c] 29)) 29 B m d; rwa [World.size_alloc] at h, ((Below.refl _ _).alloc (Nat.le_refl _) _).alloc (by simp) _⟩ ?_
  rintro v1 ⟨pa, pb, pB⟩
  refine (specExprOK_any A n c ns _ v1 (HR.out.below pB) hn).mono ?_
  rintro e v2 ⟨rfl, bb⟩
  have HSa := Lib.hid (pa.on bb)
  have HSb := Lib.hid (pb.on bb)
  have HB := Lib.hid (belowN_on pB bb)
  clear pa pb pB bb
  cases h1 : okE ns with
  | false =>
    have HV : Hid (sameE ns ms = false) := by show _ = _; unfold sameE; rw [h1]; rfl
    clear h1
    go_wp2
    go_ret
    exact ⟨ret_bool HV.out.symm, HB.out⟩
  | true =>
  have s0 := HSa.out.c0
  have s1 := HSb.out.c0
  go_wp2_with fail
  clear s0 s1
  refine (specExprOK_any B m d ms _ v2 (HR'.out.below HB.out) hm).mono ?_
  rintro e v3 ⟨rfl, bb⟩
  replace HSa := Lib.hid (HSa.out.on bb)
  replace HSb := Lib.hid (HSb.out.on bb)
  replace HB := Lib.hid (belowN_on HB.out bb)
  clear bb
  cases h2 : okE ms with
  | false =>
    have HV : Hid (sameE ns ms = false) := by show _ = _; unfold sameE; rw [h1, h2]; rfl
    clear h1 h2
    go_wp2
    go_ret
    exact ⟨ret_bool HV.out.symm, HB.out⟩
  | true =>
  have HV : Hid (sameE ns ms = decide (ns = ms)) := by show _ = _; unfold sameE; rw [h1, h2]; rfl
  have s0 := HSa.out.c0
  have s1 := HSb.out.c0
  clear h1 h2
  go_wp2_with fail
  clear s0 s1
  refine (l05Same_any A B n c m d ns ms _ _ v3 (HR.out.below HB.out) (HR'.out.below HB.out) hn hm).mono ?_
  rintro e v4 ⟨rfl, bb⟩
  replace HB := Lib.hid (belowN_on HB.out bb)
  clear bb
  obtain ⟨J, hJ⟩ : ∃ J, decide (ns = ms) = J := ⟨_, rfl⟩
  rw [hJ] at HV ⊢
  clear hJ
  go_wp2
  go_ret
  exact ⟨ret_bool HV.out.symm, HB.out⟩

set_option maxHeartbeats 1600000 in
theorem implSameExpr_any (A B : Option Addr) (n c m d : Nat) (ns ms : List Nd) (P Q : Nat → Prop) (w : World) (hr : RdN w P A n c ns) (hr' : RdN w Q B m d ms) (hn : n ≤ 1048576) (hm : m ≤ 1048576) :
    Calls Try.prog 23 #[.agg #[.slice A n c], .agg #[.slice B m d]] w fun e w' => e = .returned (.bool (sameE ns ms)) ∧ Below w.heap.size w w' := by
  have HR := Lib.hid hr.low
  have HR' := Lib.hid hr'.low
  clear hr hr'
  go_enter Try.func23, Try.ntmps23
  go_wp2_with fail
  refine calls_atN (fun v => SlAt v w.heap.size 29 A n c ∧ SlAt v (w.heap.size + 1) 29 B m d ∧ Below w.heap.size w v) ⟨(SlAt.new _ _ _ _ _).on (below_one _ _), by have h := SlAt.new (w.alloc (.cells #[.slice A n c] 29)) 29 B m d; rwa [World.size_alloc] at h, ((Below.refl _ _).alloc (Nat.le_refl _) _).alloc (by simp) _⟩ ?_
  rintro v1 ⟨pa, pb, pB⟩
  refine (implExprOK_any A n c ns _ v1 (HR.out.below pB) hn).mono ?_
  rintro e v2 ⟨rfl, bb⟩
  have HSa := Lib.hid (pa.on bb)
  have HSb := Lib.hid (pb.on bb)
  have HB := Lib.hid (belowN_on pB bb)
  clear pa pb pB bb
  cases h1 : okE ns with
  | false =>
    have HV : Hid (sameE ns ms = false) := by show _ = _; unfold sameE; rw [h1]; rfl
    clear h1
    go_wp2
    go_ret
    exact ⟨ret_bool HV.out.symm, HB.out⟩
  | true =>
  have s0 := HSa.out.c0
  have s1 := HSb.out.c0
  go_wp2_with fail
  clear s0 s1
  refine (implExprOK_any B m d ms _ v2 (HR'.out.below HB.out) hm).mono ?_
  rintro e v3 ⟨rfl, bb⟩
  replace HSa := Lib.hid (HSa.out.on bb)
  replace HSb := Lib.hid (HSb.out.on bb)
  replace HB := Lib.hid (belowN_on HB.out bb)
  clear bb
  cases h2 : okE ms with
  | false =>
    have HV : Hid (sameE ns ms = false) := by show _ = _; unfold sameE; rw [h1, h2]; rfl
    clear h1 h2
    go_wp2
    go_ret
    exact ⟨ret_bool HV.out.symm, HB.out⟩
  | true =>
  have HV : Hid (sameE ns ms = decide (ns = ms)) := by show _ = _; unfold sameE; rw [h1, h2]; rfl
  have s0 := HSa.out.c0
  have s1 := HSb.out.c0
  clear h1 h2
  go_wp2_with fail
  clear s0 s1
  refine (equalNodes_any A B n c m d ns ms _ _ v3 (HR.out.below HB.out) (HR'.out.below HB.out) hn hm).mono ?_
  rintro e v4 ⟨rfl, bb⟩
  replace HB := Lib.hid (belowN_on HB.out bb)
  clear bb
  obtain ⟨J, hJ⟩ : ∃ J, decide (ns = ms) = J := ⟨_, rfl⟩
  rw [hJ] at HV ⊢
  clear hJ
  go_wp2
  go_ret
  exact ⟨ret_bool HV.out.symm, HB.out⟩
end Go.Proofs.Ytgeijojkfojfbaa
