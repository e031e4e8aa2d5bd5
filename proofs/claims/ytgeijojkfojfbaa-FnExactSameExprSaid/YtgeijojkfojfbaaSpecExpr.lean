/-
  Which expressions are right: of the model (l05First, ExprOK).
-/
import Derived.Test.YtgeijojkfojfbaaNodeSpec
import Derived.Test.YtgeijojkfojfbaaNodeCopy
import Derived.Deep.RegionWith
namespace Nt
open Go Go.RowKit
theorem wp_atN {P : Program} {c : Code} {Q : Exit → Act → World → Prop} {a : Act} {W : World} (F : World → Prop) (hF : F W) (h : ∀ W, F W → c.wp P Q a W) : c.wp P Q a W := h W hF
theorem NodeAt.fz {w : World} {b : Nat} {t : TypeId} {op x y n : Int} (h : NodeAt w b t op x y n) (i : Nat) : w.frozen? ⟨b, i, none⟩ = false := frozen_of_row w b i _ t h
theorem NodeAt.set4 {w : World} {b : Nat} {t : TypeId} {op x y n : Int} (h : NodeAt w b t op x y n) (z : Nd) : NodeAt (set4 w b 0 z) b t z.1 z.2.1 z.2.2.1 z.2.2.2 := by
  have := set4_row (k := 0) h z
  unfold NodeAt
  rw [this]
  rfl
theorem SlAt.other {w w' : World} {b g : Nat} {t : TypeId} {A : Option Addr} {n c : Nat} (h : SlAt w b t A n c) (hg : w.grownBy w' (some g)) (hne : b ≠ g) : SlAt w' b t A n c :=
  (hg.block b h.lt (fun e => hne (by injection e))).trans h
theorem SlAt.app {wr w1 : World} {o : Obj} {V A : Option Addr} {n c b n' c' base : Nat} {e t : TypeId} {xs : List Value} (h : SlAt wr b t A n' c') (ho : wr.ownsRow base e 1 (.slice V n c) n xs) (hb : b < base) (hg : (wr.alloc o).grownBy w1 (Value.slice V n c).ownBlock) : SlAt w1 b t A n' c' :=
  (hg.block b (by have := h.lt; simp; omega) (fun e => by have := (ho.lt b e.symm).1; omega)).trans (h.on (below_one _ _))
theorem belowN_app {w wr w1 : World} {o : Obj} {V : Option Addr} {n c base : Nat} {e : TypeId} {xs : List Value} (h : Below w.heap.size w wr) (ho : wr.ownsRow base e 1 (.slice V n c) n xs) (hb : w.heap.size ≤ base)
    (hg : (wr.alloc o).grownBy w1 (Value.slice V n c).ownBlock) : Below w.heap.size w w1 :=
  (h.alloc h.size o).grown hg (by have := h.size; simp; omega) (fun k hk => Nat.le_trans hb (ho.lt k hk).1)
theorem node_fit {x : Nd} {i : Int} (h : nodeS x i = true) : fitN x = true := by
  obtain ⟨op, a, b, n⟩ := x
  unfold nodeS at h
  dsimp only at h
  unfold fitN mostN
  dsimp only
  by_cases h0 : (decide (1 ≤ op) && decide (op ≤ 8)) = false
  · rw [if_pos h0] at h; cases h
  rw [if_neg h0] at h
  have h0' := (Bool.not_eq_false _).mp h0
  rw [h0']
  simp only [Bool.and_eq_true, decide_eq_true_eq] at h0'
  by_cases h2 : two op = true
  · rw [if_pos h2] at h
    have r := two_range h2
    simp only [Bool.and_eq_true, decide_eq_true_eq, beq_iff_eq] at h
    obtain ⟨_, rfl⟩ := h
    rw [h2, if_neg (by omega), if_neg (by omega), if_neg (by omega)]
    rfl
  rw [if_neg h2] at h
  have h2' := (Bool.not_eq_true _).mp h2
  have r := two_no h2'
  rw [h2']
  by_cases h7 : op = 7
  · subst h7
    rw [if_pos rfl] at h
    simp only [Bool.and_eq_true, decide_eq_true_eq, beq_iff_eq] at h
    obtain ⟨⟨_, rfl⟩, h3, h4⟩ := h
    simp [one]
    omega
  rw [if_neg h7] at h
  by_cases h8 : op = 8
  · subst h8
    rw [if_pos rfl] at h
    simp only [Bool.and_eq_true, decide_eq_true_eq, beq_iff_eq] at h
    obtain ⟨⟨_, rfl⟩, h3, h4⟩ := h
    simp [one]
    omega
  rw [if_neg h8] at h
  by_cases hq : op = 2
  · subst hq
    rw [if_pos rfl] at h
    simp only [Bool.and_eq_true, decide_eq_true_eq, beq_iff_eq] at h
    obtain ⟨⟨rfl, rfl⟩, h3, h4⟩ := h
    simp [one]
    omega
  rw [if_neg hq] at h
  obtain rfl : op = 1 := by omega
  simp only [Bool.and_eq_true, decide_eq_true_eq, beq_iff_eq] at h
  obtain ⟨⟨rfl, rfl⟩, h3, h4⟩ := h
  simp [one]
  omega
section
variable {ns : List Nd} {ts : List Tr} {k : Nat}
/-- a node that fits, and whose tree grows, is right -/
theorem node_of {x : Nd} (hN : Nest ts) (hf : fitN x = true) (hg : (growT ts x).isSome = true) : nodeS x ts.length = true := by
  obtain ⟨t, ht⟩ := Option.isSome_iff_exists.1 hg
  obtain ⟨g2, g1, g0⟩ := growT_out hN ht
  obtain ⟨op, a, b, n⟩ := x
  dsimp only at g2 g1 g0
  unfold fitN mostN at hf
  simp only [Bool.and_eq_true, decide_eq_true_eq, Bool.or_eq_true] at hf
  obtain ⟨⟨⟨⟨⟨f1, f2⟩, f3⟩, f4⟩, f5⟩, f6⟩ := hf
  unfold nodeS
  dsimp only
  rw [if_neg (by simp; omega)]
  by_cases h2 : two op = true
  · obtain ⟨a', b', rfl, rfl, q1, q2, q3, _⟩ := g2 h2
    have r := two_range h2
    rw [if_neg (by omega), if_neg (by omega), if_neg (by omega)] at f4
    rw [if_pos h2]
    simp only [Bool.and_eq_true, decide_eq_true_eq, beq_iff_eq]
    omega
  rw [if_neg h2]
  have h2' := (Bool.not_eq_true _).mp h2
  have r := two_no h2'
  have hb : b = 0 := by rcases f6 with f6 | f6; exact absurd f6 h2; exact f6
  by_cases h1 : one op = true
  · obtain ⟨a', rfl, q1, _⟩ := g1 h2' h1
    have h78 : op = 7 ∨ op = 8 := by unfold one at h1; simpa using h1
    rcases h78 with rfl | rfl
    · rw [if_pos rfl]
      simp only [Bool.and_eq_true, decide_eq_true_eq, beq_iff_eq]
      simp at f4
      omega
    · rw [if_neg (by decide), if_pos rfl]
      simp only [Bool.and_eq_true, decide_eq_true_eq, beq_iff_eq]
      simp at f4
      omega
  have h1' := (Bool.not_eq_true _).mp h1
  have r1 := one_no h1'
  have ha : a = 0 := by
    rcases f5 with (f5 | f5) | f5
    · exact absurd f5 h2
    · exact absurd f5 h1
    · exact f5
  rw [if_neg r1.1, if_neg r1.2]
  by_cases hq : op = 2
  · subst hq
    rw [if_pos rfl]
    simp only [Bool.and_eq_true, decide_eq_true_eq, beq_iff_eq]
    simp at f4
    omega
  rw [if_neg hq]
  obtain rfl : op = 1 := by omega
  simp only [Bool.and_eq_true, decide_eq_true_eq, beq_iff_eq]
  simp at f4
  omega
theorem step_no (hk : k < ns.length) (ht : trees (ns.take k) = some ts) (h : nodeS (ns.getD k nd0) k = false) : okE ns = false := by
  obtain ⟨hN, _, hl⟩ := trees_good ns k ts (by omega) ht
  cases hf : fitN (ns.getD k nd0) with
  | false => exact okE_unfit hk hf
  | true =>
    cases hg : growT ts (ns.getD k nd0) with
    | none => exact okE_cut hk ht hg
    | some t =>
      have := node_of hN hf (by rw [hg]; rfl)
      rw [hl] at this
      rw [this] at h
      cases h
theorem step_two (hk : k < ns.length) (ht : trees (ns.take k) = some ts) (h2 : two (ns.getD k nd0).1 = true) (h : nodeS (ns.getD k nd0) k = true) :
    ∃ a b : Nat, (ns.getD k nd0).2.1 = a ∧ (ns.getD k nd0).2.2.1 = b ∧ a < b ∧ b < k ∧ (b + 1 ≠ k → okE ns = false) ∧ (b + 1 = k → (ts.getD b tr0).1 ≠ (a : Int) + 1 → okE ns = false) ∧
      (b + 1 = k → (ts.getD b tr0).1 = (a : Int) + 1 → growT ts (ns.getD k nd0) = some ((ts.getD a tr0).1, 1 + max (ts.getD a tr0).2 (ts.getD b tr0).2)) := by
  obtain ⟨hN, _, hl⟩ := trees_good ns k ts (by omega) ht
  have hcut : growT ts (ns.getD k nd0) = none → okE ns = false := fun hg => okE_cut hk ht hg
  generalize ns.getD k nd0 = x at *
  obtain ⟨op, a, b, n⟩ := x
  unfold nodeS at h
  dsimp only at h h2 ⊢
  have r := two_range h2
  rw [if_neg (by simp; omega), if_pos h2] at h
  simp only [Bool.and_eq_true, decide_eq_true_eq, beq_iff_eq] at h
  obtain ⟨⟨⟨a0, a1⟩, b0, b1⟩, rfl⟩ := h
  obtain ⟨a', rfl⟩ : ∃ a' : Nat, a = a' := ⟨a.toNat, by omega⟩
  obtain ⟨b', rfl⟩ : ∃ b' : Nat, b = b' := ⟨b.toNat, by omega⟩
  have e : growT ts (op, (a' : Int), (b' : Int), 0) = if 0 ≤ (b' : Int) ∧ (b' : Int) = (ts.length : Int) - 1 then
      if 0 ≤ (a' : Int) ∧ (a' : Int) = (ts.getD b' tr0).1 - 1 then some ((ts.getD a' tr0).1, max (max 1 ((ts.getD b' tr0).2 + 1)) ((ts.getD a' tr0).2 + 1)) else none else none := by
    unfold growT
    rw [if_pos h2]
    simp only [Int.toNat_natCast]
  refine ⟨a', b', rfl, rfl, by omega, by omega, fun hne => hcut ?_, fun he hne => hcut ?_, fun he hf => ?_⟩
  · rw [e, if_neg (by omega)]
  · rw [e, if_pos (by omega), if_neg (by omega)]
  · rw [e, if_pos (by omega), if_pos (by omega)]
    have n1 := hN b' (by omega)
    have n2 := hN a' (by omega)
    exact congrArg some (Prod.ext rfl (by show max _ _ = _; omega))
theorem step_one (hk : k < ns.length) (ht : trees (ns.take k) = some ts) (h2 : two (ns.getD k nd0).1 = false) (h1 : one (ns.getD k nd0).1 = true) (h : nodeS (ns.getD k nd0) k = true) :
    ∃ a : Nat, (ns.getD k nd0).2.1 = a ∧ a + 1 = k ∧ growT ts (ns.getD k nd0) = some ((ts.getD a tr0).1, 1 + (ts.getD a tr0).2) := by
  obtain ⟨hN, _, hl⟩ := trees_good ns k ts (by omega) ht
  generalize ns.getD k nd0 = x at *
  obtain ⟨op, a, b, n⟩ := x
  dsimp only at h h1 h2 ⊢
  have h78 : op = 7 ∨ op = 8 := by unfold one at h1; simpa using h1
  have hh : a = (k : Int) - 1 ∧ 0 < (k : Int) := by
    rcases h78 with rfl | rfl
    · have h : ((a == (k : Int) - 1) && decide (0 < (k : Int)) && (b == 0) && (decide (0 ≤ n) && decide (n ≤ 0))) = true := h
      simp only [Bool.and_eq_true, decide_eq_true_eq, beq_iff_eq] at h
      omega
    · have h : ((a == (k : Int) - 1) && decide (0 < (k : Int)) && (b == 0) && (decide (0 ≤ n) && decide (n ≤ 8))) = true := h
      simp only [Bool.and_eq_true, decide_eq_true_eq, beq_iff_eq] at h
      omega
  obtain ⟨a', rfl⟩ : ∃ a' : Nat, a = a' := ⟨a.toNat, by omega⟩
  refine ⟨a', rfl, by omega, ?_⟩
  unfold growT
  rw [if_neg (by rw [h2]; exact Bool.false_ne_true), if_pos h1]
  simp only [Int.toNat_natCast]
  rw [if_pos (by omega)]
  have n2 := hN a' (by omega)
  exact congrArg some (Prod.ext rfl (by show max _ _ = _; omega))
theorem step_leaf (hk : k < ns.length) (ht : trees (ns.take k) = some ts) (h2 : two (ns.getD k nd0).1 = false) (h1 : one (ns.getD k nd0).1 = false) : growT ts (ns.getD k nd0) = some ((k : Int), 1) := by
  obtain ⟨_, _, hl⟩ := trees_good ns k ts (by omega) ht
  unfold growT
  rw [if_neg (by rw [h2]; exact Bool.false_ne_true), if_neg (by rw [h1]; exact Bool.false_ne_true), hl]
/-- at the end -/
theorem okE_end (h0 : 1 ≤ ns.length) (h60 : ns.length ≤ 60) (ht : trees (ns.take ns.length) = some ts) (hf : ∀ j, j < ns.length → fitN (ns.getD j nd0) = true ∧ (ts.getD j tr0).2 ≤ 12) : okE ns = ((ts.getD (ns.length - 1) tr0).1 == 0) := by
  rw [List.take_length] at ht
  unfold okE
  rw [ht, all_fit fun j hj => (hf j hj).1, decide_eq_true h0, decide_eq_true h60]
  show (true && true && true && (decide ((ts.getD (ns.length - 1) tr0).1 = 0) && decide ((ts.getD (ns.length - 1) tr0).2 ≤ 12))) = _
  rw [decide_eq_true (hf (ns.length - 1) (by omega)).2]
  generalize (ts.getD (ns.length - 1) tr0).1 = z
  by_cases h : z = 0
  · subst h; rfl
  · rw [decide_eq_false h, beq_eq_false_iff_ne.2 h]; rfl
theorem deep_at (ts : List Tr) (i : Nat) (h : i < ts.length) : (ts.map Prod.snd).getD i 0 = (ts.getD i tr0).2 := by simp [List.getD, h]
theorem deeps_more {t : Tr} (hl : ts.length = k) (ht : t.2 ≤ 12) (hx : fitN (ns.getD k nd0) = true) (hf : ∀ j, j < k → fitN (ns.getD j nd0) = true ∧ (ts.getD j tr0).2 ≤ 12) : ∀ j, j < k + 1 → fitN (ns.getD j nd0) = true ∧ ((ts ++ [t]).getD j tr0).2 ≤ 12 := by
  intro j hj
  by_cases e : j = k
  · subst e
    refine ⟨hx, ?_⟩
    rw [← hl, getD_last]
    exact ht
  · refine ⟨(hf j (by omega)).1, ?_⟩
    rw [getD_snoc ts t j (by omega)]
    exact (hf j (by omega)).2
end
end Nt
namespace Go.Proofs.Ytgeijojkfojfbaa
open Go Go.RowKit Nt

set_option maxHeartbeats 3200000 in
theorem l05First_any (A : Option Addr) (n c k : Nat) (ns : List Nd) (ts : List Tr) (P : Nat → Prop) (w : World) (hr : RdN w P A n c ns) (hT : Tied ns ts) (hk : k < ts.length) (hl : ts.length ≤ n) (hn : n ≤ 60) :
    Calls Try.prog 62 #[.agg #[.slice A n c], .int .i64 (k : Int)] w fun e w' => e = .returned (.int .i64 (ts.getD k tr0).1) ∧ Below w.heap.size w w' := by
  obtain ⟨b, o, rfl, _, hP, hc⟩ := hr.at_ (by omega)
  have HC := Lib.hid hc
  have HT := Lib.hid hT
  obtain ⟨q0, q1, q2, q3⟩ := hc k (by omega)
  have HN : Hid (NodeAt ((w.alloc (.cells #[.slice (some ⟨b, o, none⟩) n c] 29)).alloc (.cells #[.int .i64 (ns.getD k nd0).1, .int .i64 (ns.getD k nd0).2.1, .int .i64 (ns.getD k nd0).2.2.1, .int .i64 (ns.getD k nd0).2.2.2] 39)) (w.heap.size + 1) 39 (ns.getD k nd0).1 (ns.getD k nd0).2.1 (ns.getD k nd0).2.2.1 (ns.getD k nd0).2.2.2) := by
    have := NodeAt.new (w.alloc (.cells #[.slice (some ⟨b, o, none⟩) n c] 29)) 39 (ns.getD k nd0).1 (ns.getD k nd0).2.1 (ns.getD k nd0).2.2.1 (ns.getD k nd0).2.2.2
    rwa [World.size_alloc] at this
  have HS : Hid (SlAt ((w.alloc (.cells #[.slice (some ⟨b, o, none⟩) n c] 29)).alloc (.cells #[.int .i64 (ns.getD k nd0).1, .int .i64 (ns.getD k nd0).2.1, .int .i64 (ns.getD k nd0).2.2.1, .int .i64 (ns.getD k nd0).2.2.2] 39)) w.heap.size 29 (some ⟨b, o, none⟩) n c) := (SlAt.new _ _ _ _ _).on (below_one _ _)
  have hkn : (k : Int) < n := by omega
  clear hr hT hc
  go_enter Try.func62, Try.ntmps62
  go_wp2
  clear q0 q1 q2 q3 hkn
  go_loopw [1] (fun i wr => ∃ j : Nat, i = .int .i64 j ∧ j < ts.length ∧ Hid (NodeAt wr (w.heap.size + 1) 39 (ns.getD j nd0).1 (ns.getD j nd0).2.1 (ns.getD j nd0).2.2.1 (ns.getD j nd0).2.2.2) ∧ Hid (SlAt wr w.heap.size 29 (some ⟨b, o, none⟩) n c) ∧ Hid ((ts.getD j tr0).1 = (ts.getD k tr0).1) ∧ Hid (Below w.heap.size w wr)) (fun i _ => (intOf i).toNat)
  case atStart => exact ⟨k, rfl, hk, HN, HS, Lib.hid rfl, Lib.hid (((Below.refl _ _).alloc (Nat.le_refl _) _).alloc (by simp) _)⟩
  case round =>
    clear HN HS
    obtain ⟨j, rfl, hj, HN, HS, HE, HB⟩ := hrel
    have t0 := HN.out.c0
    have t1 := HN.out.c1
    cases h2 : two (ns.getD j nd0).1 with
    | true =>
      obtain ⟨a, _, ea, _, haj, _, ef, _⟩ := (HT.out j hj).1 h2
      rw [ea] at t1
      have HE2 : Hid ((ts.getD a tr0).1 = (ts.getD k tr0).1) := ef.symm.trans HE.out
      have e4 := (HC.out a (by omega)).keep (HB.out.block b hP)
      obtain ⟨q0, q1, q2, q3⟩ := e4
      have t2 := HN.out.c2
      have t3 := HN.out.c3
      have f0 := HN.out.fz 0
      have f1 := HN.out.fz 1
      have f2 := HN.out.fz 2
      have f3 := HN.out.fz 3
      have s0 := HS.out.c0
      have hs1 := HN.out.lt
      have HG := Lib.hid (set4_grown wr (w.heap.size + 1) 0 (ns.getD a nd0))
      have HN2 := Lib.hid (HN.out.set4 (ns.getD a nd0))
      have HS2 := Lib.hid (HS.out.other HG.out (by omega))
      have HB2 := Lib.hid (belowN_grow HB.out (by omega) HG.out)
      have haN : (a : Int) < n := by omega
      clear ef ea
      generalize (ns.getD j nd0).1 = op at *
      generalize (ns.getD j nd0).2.2.1 = ob at *
      generalize (ns.getD j nd0).2.2.2 = on at *
      obtain ⟨r, hr⟩ : ∃ r, ns.getD a nd0 = r := ⟨_, rfl⟩
      have HRr := Lib.hid hr
      rw [hr] at q0 q1 q2 q3 HN2 HS2 HB2
      clear hr HG
      go_wp2_with (first | (go_at_call 61; refine (specTwo_any _ _).mono ?_; rintro e w1 ⟨rfl, rfl⟩; rw [h2]))
      go_roundw
      case rel => exact ⟨a, rfl, by omega, by rw [HRr.out]; exact HN2, HS2, HE2, HB2⟩
      case measure => simp [intOf]; omega
    | false =>
      cases h1 : one (ns.getD j nd0).1 with
      | true =>
        obtain ⟨a, ea, haj, ef, _⟩ := (HT.out j hj).2.1 h2 h1
        rw [ea] at t1
        have HE2 : Hid ((ts.getD a tr0).1 = (ts.getD k tr0).1) := ef.symm.trans HE.out
        have e4 := (HC.out a (by omega)).keep (HB.out.block b hP)
        obtain ⟨q0, q1, q2, q3⟩ := e4
        have t2 := HN.out.c2
        have t3 := HN.out.c3
        have f0 := HN.out.fz 0
        have f1 := HN.out.fz 1
        have f2 := HN.out.fz 2
        have f3 := HN.out.fz 3
        have s0 := HS.out.c0
        have hs1 := HN.out.lt
        have HG := Lib.hid (set4_grown wr (w.heap.size + 1) 0 (ns.getD a nd0))
        have HN2 := Lib.hid (HN.out.set4 (ns.getD a nd0))
        have HS2 := Lib.hid (HS.out.other HG.out (by omega))
        have HB2 := Lib.hid (belowN_grow HB.out (by omega) HG.out)
        have haN : (a : Int) < n := by omega
        clear ef ea
        generalize (ns.getD j nd0).1 = op at *
        generalize (ns.getD j nd0).2.2.1 = ob at *
        generalize (ns.getD j nd0).2.2.2 = on at *
        obtain ⟨r, hr⟩ : ∃ r, ns.getD a nd0 = r := ⟨_, rfl⟩
        have HRr := Lib.hid hr
        rw [hr] at q0 q1 q2 q3 HN2 HS2 HB2
        clear hr HG
        go_wp2_with (first | (go_at_call 61; refine (specTwo_any _ _).mono ?_; rintro e w1 ⟨rfl, rfl⟩; rw [h2]) | (go_at_call 63; refine (specOne_any _ _).mono ?_; rintro e w1 ⟨rfl, rfl⟩; rw [h1]))
        go_roundw
        case rel => exact ⟨a, rfl, by omega, by rw [HRr.out]; exact HN2, HS2, HE2, HB2⟩
        case measure => simp [intOf]; omega
      | false =>
        have HV : Hid ((j : Int) = (ts.getD k tr0).1) := ((HT.out j hj).2.2 h2 h1).1.symm.trans HE.out
        generalize (ns.getD j nd0).1 = op at *
        go_wp2_with (first | (go_at_call 61; refine (specTwo_any _ _).mono ?_; rintro e w1 ⟨rfl, rfl⟩; rw [h2]) | (go_at_call 63; refine (specOne_any _ _).mono ?_; rintro e w1 ⟨rfl, rfl⟩; rw [h1]))
        go_ret
        exact ⟨ret_int HV.out, HB.out⟩

set_option maxHeartbeats 6400000 in
theorem specExprOK_any (A : Option Addr) (n c : Nat) (ns : List Nd) (P : Nat → Prop) (w : World) (hr : RdN w P A n c ns) (hn : n ≤ 1048576) :
    Calls Try.prog 14 #[.agg #[.slice A n c]] w fun e w' => e = .returned (.bool (okE ns)) ∧ Below w.heap.size w w' := by
  have HL := Lib.hid hr.len
  have HB0 := Lib.hid (below_one w (.cells #[.slice A n c] 29))
  cases hin : (decide (1 ≤ (n : Int)) && decide ((n : Int) ≤ 60)) with
  | false =>
    have HV : Hid (okE ns = false) := by
      have e := HL.out
      simp at hin
      rcases Nat.eq_zero_or_pos n with h | h
      · exact okE_len0 (by omega)
      · exact okE_long (by have := hin (by omega); omega)
    clear hr
    go_enter Try.func14, Try.ntmps14
    go_wp2_with (go_at_call 59; refine (l01In_any _ _ _ _).mono ?_; rintro e w1 ⟨rfl, rfl⟩; rw [hin])
    go_ret
    exact ⟨ret_bool HV.out.symm, HB0.out⟩
  | true =>
  obtain ⟨h1, h60⟩ : 1 ≤ n ∧ n ≤ 60 := by
    simp at hin
    omega
  obtain ⟨b, o, rfl, _, hP, hc⟩ := hr.at_ (by omega)
  have HR := Lib.hid hr
  have HC := Lib.hid hc
  clear hr hc
  have HS0 : Hid (SlAt ((w.alloc (.cells #[.slice (some ⟨b, o, none⟩) n c] 29)).alloc (.cells #[] 3)) w.heap.size 29 (some ⟨b, o, none⟩) n c) := (SlAt.new _ _ _ _ _).on (below_one _ _)
  go_enter Try.func14, Try.ntmps14
  go_wp2_with (go_at_call 59; refine (l01In_any _ _ _ _).mono ?_; rintro e w1 ⟨rfl, rfl⟩; rw [hin])
  go_loopw [3, 4] (fun v i wr => ∃ (k : Nat) (ts : List Tr) (V : Option Addr) (cv : Nat), k ≤ n ∧ i = .int .i64 k ∧ v = .slice V k cv ∧ Hid (trees (ns.take k) = some ts) ∧ Hid (∀ j, j < k → fitN (ns.getD j nd0) = true ∧ (ts.getD j tr0).2 ≤ 12) ∧ Hid (wr.ownsRow (w.heap.size + 1) 3 1 (.slice V k cv) k ((ts.map Prod.snd).map (Value.int .i64))) ∧ Hid (SlAt wr w.heap.size 29 (some ⟨b, o, none⟩) n c) ∧ Hid (Below w.heap.size w wr)) (fun _ i _ => n - (intOf i).toNat)
  case atStart => exact ⟨0, [], _, _, Nat.zero_le _, rfl, rfl, Lib.hid trees_nil, Lib.hid (fun j hj => by omega), Lib.hid (by have h := World.ownsRow_lit (size := 1) (w.alloc (.cells #[.slice (some ⟨b, o, none⟩) n c] 29)) (e := 3) #[] 0 (Nat.le_refl _) (by decide) rfl; rw [World.size_alloc] at h; exact h), HS0, Lib.hid (((Below.refl _ _).alloc (Nat.le_refl _) _).alloc (by simp) _)⟩
  case round =>
    clear HS0 HB0 hin
    obtain ⟨k, ts, V, cv, hk, rfl, rfl, HT, HF, HO, HS, HB⟩ := hrel
    have s0 := HS.out.c0
    by_cases hlt : k < n
    · obtain ⟨hN, hTi, hTl⟩ := trees_good ns k ts (by have := HL.out; omega) HT.out
      have HTi := Lib.hid hTi
      have HTl := Lib.hid hTl
      have HNe := Lib.hid hN
      clear hN hTi hTl
      have e4 := (HC.out k hlt).keep (HB.out.block b hP)
      have HNO : Hid (nodeS (ns.getD k nd0) k = false → okE ns = false) := fun h => step_no (by rw [HL.out]; exact hlt) HT.out h
      have HFIT : Hid (nodeS (ns.getD k nd0) k = true → fitN (ns.getD k nd0) = true) := fun h => node_fit h
      have HTWO := Lib.hid (fun h2 h => step_two (ns := ns) (ts := ts) (k := k) (by rw [HL.out]; exact hlt) HT.out h2 h)
      have HONE := Lib.hid (fun h2 h1 h => step_one (ns := ns) (ts := ts) (k := k) (by rw [HL.out]; exact hlt) HT.out h2 h1 h)
      have HLEAF := Lib.hid (fun h2 h1 => step_leaf (ns := ns) (ts := ts) (k := k) (by rw [HL.out]; exact hlt) HT.out h2 h1)
      have HDEEP : Hid (∀ t, growT ts (ns.getD k nd0) = some t → 12 < t.2 → okE ns = false) := fun t hg hd => okE_deep (by rw [HL.out]; exact hlt) HT.out hg hd
      have HMORE : Hid (∀ t, fitN (ns.getD k nd0) = true → growT ts (ns.getD k nd0) = some t → t.2 ≤ 12 → trees (ns.take (k + 1)) = some (ts ++ [t]) ∧ ∀ j, j < k + 1 → fitN (ns.getD j nd0) = true ∧ ((ts ++ [t]).getD j tr0).2 ≤ 12) := fun t hf hg hd => ⟨trees_more (by rw [HL.out]; exact hlt) HT.out hg, deeps_more HTl.out hd hf HF.out⟩
      obtain ⟨x, hx⟩ : ∃ x, ns.getD k nd0 = x := ⟨_, rfl⟩
      rw [hx] at e4 HNO HFIT HTWO HONE HLEAF HDEEP HMORE
      clear hx
      obtain ⟨op, xa, xb, xn⟩ := x
      dsimp only at e4 HNO HFIT HTWO HONE HLEAF HDEEP HMORE
      obtain ⟨q0, q1, q2, q3⟩ := e4
      dsimp only at q0 q1 q2 q3
      have hkn : (k : Int) < n := by omega
      have hwr : IntKind.i64.wrap ((k : Int) - 1) = (k : Int) - 1 := IntWalk.i64_in _ (by omega)
      have HBW := Lib.hid HB.out.size
      go_wp2_with fail
      clear q0 q1 q2 q3 s0
      refine calls_atN (fun v => NodeAt v wr.heap.size 39 op xa xb xn ∧ SlAt v w.heap.size 29 (some ⟨b, o, none⟩) n c ∧ v.ownsRow (w.heap.size + 1) 3 1 (.slice V k cv) k ((ts.map Prod.snd).map (Value.int .i64)) ∧ Below w.heap.size w v) ⟨NodeAt.new _ _ _ _ _ _, HS.out.on (below_one _ _), own_keep HO.out (below_one _ _), belowN_on HB.out (below_one _ _)⟩ ?_
      rintro v1 ⟨pN, pS, pO, pB⟩
      have HN := Lib.hid pN
      replace HS := Lib.hid pS
      replace HO := Lib.hid pO
      replace HB := Lib.hid pB
      clear pN pS pO pB
      refine (specNode_any op xa xb xn k v1 (by omega) (by omega)).mono ?_
      rintro e v2 ⟨rfl, bb⟩
      replace HB := Lib.hid (belowN_on HB.out bb)
      replace HN := Lib.hid (HN.out.on bb)
      replace HS := Lib.hid (HS.out.on bb)
      replace HO := Lib.hid (own_keep HO.out bb)
      clear bb
      cases hnd : nodeS (op, xa, xb, xn) k with
      | false =>
        have HV := Lib.hid (HNO.out hnd)
        go_wp2
        go_ret
        exact ⟨ret_bool HV.out.symm, HB.out⟩
      | true =>
      have HFI := Lib.hid (HFIT.out hnd)
      have t0 := HN.out.c0
      go_wp2_with fail
      clear t0
      refine (specTwo_any op v2).mono ?_
      rintro e v3 ⟨rfl, rfl⟩
      cases h2 : two op with
      | true =>
        obtain ⟨a, b', rfl, rfl, hab, hbk, z1, z2, z3⟩ := HTWO.out h2 hnd
        have h1 : one op = false := by have := two_range h2; unfold one; simp; omega
        clear HTWO HONE HLEAF HNO HFIT hnd
        by_cases hb1 : b' + 1 = k
        · have HZ2 := Lib.hid (z2 hb1)
          have HZ3 := Lib.hid (z3 hb1)
          have hne : ((b' : Int) != (k : Int) - 1) = false := by simp; omega
          have hne2 : ((b' : Int) != IntKind.i64.wrap ((k : Int) - 1)) = false := by rw [hwr]; exact hne
          have hwa : IntKind.i64.wrap ((a : Int) + 1) = (a : Int) + 1 := IntWalk.i64_in _ (by omega)
          have hbl : b' < k := hbk
          obtain ⟨F, hF⟩ : ∃ F, (ts.getD b' tr0).1 = F := ⟨_, rfl⟩
          have HFq := Lib.hid hF
          rw [hF] at HZ2 HZ3
          clear hF z1 z2 z3 hb1
          have t0 := HN.out.c0
          have t1 := HN.out.c1
          have t2 := HN.out.c2
          have t3 := HN.out.c3
          have s0 := HS.out.c0
          go_wp2_with fail
          have HC4 := Lib.hid (show _ ∧ _ ∧ _ ∧ _ ∧ _ from ⟨t0, t1, t2, t3, s0⟩)
          clear t0 t1 t2 t3 s0
          go_region_held3 (fun wx => wx.cell? ⟨wr.heap.size, 0, none⟩ = some (.int .i64 op) ∧ wx.cell? ⟨wr.heap.size, 1, none⟩ = some (.int .i64 (a : Int)) ∧ wx.cell? ⟨wr.heap.size, 2, none⟩ = some (.int .i64 (b' : Int)) ∧ wx.cell? ⟨wr.heap.size, 3, none⟩ = some (.int .i64 xn) ∧ wx.cell? ⟨w.heap.size, 0, none⟩ = some (.slice (some ⟨b, o, none⟩) n c))
            (first | exact HC4.out | exact HC5.out)
            (first
            | (go_at_call 62; refine (l05First_any (some ⟨b, o, none⟩) n c b' ns ts _ _ (by exact (HR.out.low.below HB.out).drew) HTi.out (by rw [HTl.out]; exact hbl) (by rw [HTl.out]; omega) h60).mono ?_; rintro e v3 ⟨rfl, bb⟩; have bb := undrewN bb; rw [HFq.out]; have HB3 := Lib.hid (belowN_on HB.out bb); have HN3 := Lib.hid (HN.out.on bb); have HS3 := Lib.hid (HS.out.on bb); have HO3 := Lib.hid (own_keep HO.out bb); have HC5 := Lib.hid (show _ ∧ _ ∧ _ ∧ _ ∧ _ from ⟨HN3.out.c0, HN3.out.c1, HN3.out.c2, HN3.out.c3, HS3.out.c0⟩); clear bb))
          · clear HB HN HS HO HC4 HC5
            have HB := HB3
            have HN := HN3
            have HS := HS3
            have HO := HO3
            clear HB3 HN3 HS3 HO3
            by_cases hFa : F = (a : Int) + 1
            · have hcm : (F != (a : Int) + 1) = false := by simpa using hFa
              have hcm2 : (F != IntKind.i64.wrap ((a : Int) + 1)) = false := by rw [hwa]; exact hcm
              have HG0 := Lib.hid (HZ3.out hFa)
              have HA := Lib.hid (deep_at ts a (by rw [HTl.out]; omega))
              have HBd := Lib.hid (deep_at ts b' (by rw [HTl.out]; omega))
              have nA := HNe.out a (by rw [HTl.out]; omega)
              have nB := HNe.out b' (by rw [HTl.out]; omega)
              obtain ⟨dA, hdA⟩ : ∃ z, (ts.getD a tr0).2 = z := ⟨_, rfl⟩
              obtain ⟨dB, hdB⟩ : ∃ z, (ts.getD b' tr0).2 = z := ⟨_, rfl⟩
              obtain ⟨Fa, hFa'⟩ : ∃ z, (ts.getD a tr0).1 = z := ⟨_, rfl⟩
              rw [hdA] at HA nA HG0
              rw [hdB] at HBd nB HG0
              rw [hFa'] at HG0
              have dA1 : 1 ≤ dA := nA.1.2.2.1
              have dA2 : dA ≤ 60 := by have := nA.1.2.2.2; omega
              have dB1 : 1 ≤ dB := nB.1.2.2.1
              have dB2 : dB ≤ 60 := by have := nB.1.2.2.2; omega
              obtain ⟨m, hm⟩ : ∃ m, max dA dB = m := ⟨_, rfl⟩
              have hmx : (if dA < dB then dB else dA) = m := by rw [← hm]; split <;> omega
              have hm1 : 1 ≤ m := by omega
              have hw1m : IntKind.i64.wrap (1 + m) = 1 + m := IntWalk.i64_in _ (by omega)
              have hm2 : m ≤ 60 := by omega
              have HGR : Hid (growT ts (op, (a : Int), (b' : Int), xn) = some (Fa, 1 + m)) := by rw [← hm]; exact HG0.out
              obtain ⟨g, og, rfl, _, hgl, hcc⟩ := (own_rd' HO.out).at_ (by omega)
              have cA := hcc a (by omega)
              have cB := hcc b' (by omega)
              rw [HA.out] at cA
              rw [HBd.out] at cB
              have haI : (a : Int) < k := by omega
              have hbI : (b' : Int) < k := by omega
              clear hm hcc hFa nA nB hdA hdB hFa' HG0 HZ2 HZ3 HA HBd hab hbk hbl
              have t1 := HN.out.c1
              have t2 := HN.out.c2
              go_wp2_with fail
              have HC6 := Lib.hid (show _ ∧ _ ∧ _ ∧ _ from ⟨t1, t2, cA, cB⟩)
              clear t1 t2 cA cB
              go_region_held3 (fun wx => wx.cell? ⟨wr.heap.size, 1, none⟩ = some (.int .i64 (a : Int)) ∧ wx.cell? ⟨wr.heap.size, 2, none⟩ = some (.int .i64 (b' : Int)) ∧ wx.cell? ⟨g, og + a, none⟩ = some (.int .i64 dA) ∧ wx.cell? ⟨g, og + b', none⟩ = some (.int .i64 dB))
                (first | exact HC6.out)
                (fail)
              · clear hmx hw1m
                have t0 := HN.out.c0
                go_wp2_with fail
                clear t0
                refine calls_atN (fun v => NodeAt v wr.heap.size 39 op (a : Int) (b' : Int) xn ∧ SlAt v w.heap.size 29 (some ⟨b, o, none⟩) n c ∧ v.ownsRow (w.heap.size + 1) 3 1 (.slice (some ⟨g, og, none⟩) k cv) k ((ts.map Prod.snd).map (Value.int .i64)) ∧ Below w.heap.size w v) ⟨HN.out, HS.out, HO.out, below_drewN HB.out 1⟩ ?_
                rintro v4 ⟨pN, pS, pO, pB⟩
                clear HN HS HO HB HC6
                have HN := Lib.hid pN
                have HS := Lib.hid pS
                have HO := Lib.hid pO
                have HB := Lib.hid pB
                clear pN pS pO pB
                refine (specOne_any op v4).mono ?_
                rintro e v5 ⟨rfl, rfl⟩
                rw [h1]
                have s0 := HS.out.c0
                by_cases h12 : 12 < (1 + m)
                · have HV := Lib.hid (HDEEP.out _ HGR.out h12)
                  have d12 : decide ((12 : Int) < (1 + m)) = true := decide_eq_true h12
                  clear h12
                  go_wp2_with (first | (go_at_call 63; refine (specOne_any _ _).mono ?_; rintro e w1 ⟨rfl, rfl⟩; rw [h1]))
                  go_ret
                  exact ⟨ret_bool HV.out.symm, HB.out⟩
                · have HM := Lib.hid (HMORE.out _ HFI.out HGR.out (by show (1 + m) ≤ 12; omega))
                  have d12 : decide ((12 : Int) < (1 + m)) = false := decide_eq_false h12
                  have hkM : k + 1 ≤ 1000 := by omega
                  clear h12
                  go_wp2_with (first | (go_at_call 63; refine (specOne_any _ _).mono ?_; rintro e w1 ⟨rfl, rfl⟩; rw [h1]) | (at_builtin; refine wpList_append_ints _ rfl _ _ 41 rfl (w.heap.size + 1) 3 Try.underlying41 infoInt (some ⟨g, og, none⟩) k cv (ts.map Prod.snd) rfl (HO.out.alloc _) _ (some ⟨v4.heap.size, 0, none⟩) 1 1 [(1 + m)] rfl (rd_one _ _ _) (by omega) (by have := HN.out.lt; have := HBW.out; simp; omega) ?_; intro V' c' w9 hown hg; have HO' := Lib.hid hown; have HB' := Lib.hid (belowN_app HB.out HO.out (by omega) hg); have HS' := Lib.hid (HS.out.app HO.out (by omega) hg); clear hown hg))
                  go_roundw
                  case rel => exact ⟨k + 1, ts ++ [(Fa, 1 + m)], V', c', by omega, by go_num, rfl, Lib.hid HM.out.1, Lib.hid HM.out.2, Lib.hid (by simpa using HO'.out), HS', HB'⟩
                  case measure => simp [intOf]; omega
            · have hcm : (F != (a : Int) + 1) = true := by simpa using hFa
              have hcm2 : (F != IntKind.i64.wrap ((a : Int) + 1)) = true := by rw [hwa]; exact hcm
              have HV := Lib.hid (HZ2.out hFa)
              clear hFa HZ2 HZ3
              go_wp2
              go_ret
              exact ⟨ret_bool HV.out.symm, HB.out⟩
        · have HV := Lib.hid (z1 hb1)
          have hne : ((b' : Int) != (k : Int) - 1) = true := by simp; omega
          have hne2 : ((b' : Int) != IntKind.i64.wrap ((k : Int) - 1)) = true := by rw [hwr]; exact hne
          clear hb1 z1 z2 z3
          have t0 := HN.out.c0
          have t1 := HN.out.c1
          have t2 := HN.out.c2
          have t3 := HN.out.c3
          have s0 := HS.out.c0
          go_wp2_with fail
          go_quiet (fail)
          go_wp2
          go_ret
          exact ⟨ret_bool HV.out.symm, below_drewN HB.out _⟩
      | false =>
        cases h1 : one op with
        | true =>
          obtain ⟨a, rfl, hak, hg⟩ := HONE.out h2 h1 hnd
          have HA := Lib.hid (deep_at ts a (by rw [HTl.out]; omega))
          have nA := HNe.out a (by rw [HTl.out]; omega)
          obtain ⟨dA, hdA⟩ : ∃ z, (ts.getD a tr0).2 = z := ⟨_, rfl⟩
          obtain ⟨Fa, hFa'⟩ : ∃ z, (ts.getD a tr0).1 = z := ⟨_, rfl⟩
          rw [hdA] at HA nA hg
          rw [hFa'] at hg
          have HGR := Lib.hid hg
          have dA1 : 1 ≤ dA := nA.1.2.2.1
          have dA2 : dA ≤ 60 := by have := nA.1.2.2.2; omega
          obtain ⟨g, og, rfl, _, hgl, hcc⟩ := (own_rd' HO.out).at_ (by omega)
          have cA := hcc a (by omega)
          rw [HA.out] at cA
          have haI : (a : Int) < k := by omega
          clear hcc nA hdA hFa' HA hak hg HTWO HONE HLEAF HNO HFIT hnd
          have t0 := HN.out.c0
          have t1 := HN.out.c1
          have t2 := HN.out.c2
          have t3 := HN.out.c3
          have s0 := HS.out.c0
          by_cases h12 : 12 < (1 + dA)
          · have HV := Lib.hid (HDEEP.out _ HGR.out h12)
            have d12 : decide ((12 : Int) < (1 + dA)) = true := decide_eq_true h12
            clear h12
            go_wp2_with (first | (go_at_call 63; refine (specOne_any _ _).mono ?_; rintro e w1 ⟨rfl, rfl⟩; rw [h1]))
            go_ret
            exact ⟨ret_bool HV.out.symm, HB.out⟩
          · have HM := Lib.hid (HMORE.out _ HFI.out HGR.out (by show (1 + dA) ≤ 12; omega))
            have d12 : decide ((12 : Int) < (1 + dA)) = false := decide_eq_false h12
            have hkM : k + 1 ≤ 1000 := by omega
            clear h12
            go_wp2_with (first | (go_at_call 63; refine (specOne_any _ _).mono ?_; rintro e w1 ⟨rfl, rfl⟩; rw [h1]) | (at_builtin; refine wpList_append_ints _ rfl _ _ 41 rfl (w.heap.size + 1) 3 Try.underlying41 infoInt (some ⟨g, og, none⟩) k cv (ts.map Prod.snd) rfl (HO.out.alloc _) _ (some ⟨v2.heap.size, 0, none⟩) 1 1 [(1 + dA)] rfl (rd_one _ _ _) (by omega) (by have := HN.out.lt; have := HBW.out; simp; omega) ?_; intro V' c' w9 hown hg; have HO' := Lib.hid hown; have HB' := Lib.hid (belowN_app HB.out HO.out (by omega) hg); have HS' := Lib.hid (HS.out.app HO.out (by omega) hg); clear hown hg))
            go_roundw
            case rel => exact ⟨k + 1, ts ++ [(Fa, 1 + dA)], V', c', by omega, by go_num, rfl, Lib.hid HM.out.1, Lib.hid HM.out.2, Lib.hid (by simpa using HO'.out), HS', HB'⟩
            case measure => simp [intOf]; omega
        | false =>
          have HGR := Lib.hid (HLEAF.out h2 h1)
          clear HTWO HONE HLEAF HNO HFIT hnd
          have t0 := HN.out.c0
          have t1 := HN.out.c1
          have t2 := HN.out.c2
          have t3 := HN.out.c3
          have s0 := HS.out.c0
          · have HM := Lib.hid (HMORE.out _ HFI.out HGR.out (by show (1 : Int) ≤ 12; omega))
            have d12 : decide ((12 : Int) < (1 : Int)) = false := by decide
            have hkM : k + 1 ≤ 1000 := by omega
            skip
            go_wp2_with (first | (go_at_call 63; refine (specOne_any _ _).mono ?_; rintro e w1 ⟨rfl, rfl⟩; rw [h1]) | (at_builtin; refine wpList_append_ints _ rfl _ _ 41 rfl (w.heap.size + 1) 3 Try.underlying41 infoInt V k cv (ts.map Prod.snd) rfl (HO.out.alloc _) _ (some ⟨v2.heap.size, 0, none⟩) 1 1 [(1 : Int)] rfl (rd_one _ _ _) (by omega) (by have := HN.out.lt; have := HBW.out; simp; omega) ?_; intro V' c' w9 hown hg; have HO' := Lib.hid hown; have HB' := Lib.hid (belowN_app HB.out HO.out (by omega) hg); have HS' := Lib.hid (HS.out.app HO.out (by omega) hg); clear hown hg))
            go_roundw
            case rel => exact ⟨k + 1, ts ++ [((k : Int), 1)], V', c', by omega, by go_num, rfl, Lib.hid HM.out.1, Lib.hid HM.out.2, Lib.hid (by simpa using HO'.out), HS', HB'⟩
            case measure => simp [intOf]; omega
    · obtain rfl : k = n := by omega
      have HV : Hid (okE ns = ((ts.getD (k - 1) tr0).1 == 0)) := by
        have e := HL.out
        have h := okE_end (ns := ns) (ts := ts) (by omega) (by omega) (by rw [e]; exact HT.out) (by rw [e]; exact HF.out)
        rw [e] at h
        exact h
      obtain ⟨_, hTi, hTl⟩ := trees_good ns k ts (by have := HL.out; omega) HT.out
      obtain ⟨F, hF⟩ : ∃ F, (ts.getD (k - 1) tr0).1 = F := ⟨_, rfl⟩
      have HFq := Lib.hid hF
      rw [hF] at HV
      have hk1 : IntKind.i64.wrap ((k : Int) - 1) = ((k - 1 : Nat) : Int) := by rw [IntWalk.i64_in _ (by omega)]; omega
      have HTi := Lib.hid hTi
      have hTk : k - 1 < ts.length := by omega
      have hTk2 : ts.length ≤ k := by omega
      have hd0 : decide ((k : Int) < k) = false := by simp
      clear hF hTi hTl hlt
      go_wp2_with fail
      refine (l05First_any (some ⟨b, o, none⟩) k c (k - 1) ns ts _ wr (HR.out.low.below HB.out) HTi.out hTk hTk2 h60).mono ?_
      rintro e v3 ⟨rfl, bb⟩
      rw [HFq.out]
      have HB3 := Lib.hid (belowN_on HB.out bb)
      clear bb s0
      go_wp2
      go_ret
      exact ⟨ret_bool HV.out.symm, HB3.out⟩
end Go.Proofs.Ytgeijojkfojfbaa
