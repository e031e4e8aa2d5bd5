/-
  Rationals of two numbers: wholeRat, MakeRat of the program; l02Int, MakeRat of the model.
-/
import Derived.Test.YtcepjcnpokpdcaaGreatDoorDivRat
namespace Nt
open Go Go.RowKit
theorem RatAt.rowed {w w' : World} {b base : Nat} {t te : TypeId} {neg : Bool} {A B : Option Addr} {la ca lb cb : Nat} {V : Option Addr} {n c : Nat} {xs : List Value} (h : RatAt w b t neg A la ca B lb cb) (ho : w.ownsRow base te 1 (.slice V n c) n xs) (hb : b < base) (hg : w.grownBy w' (Value.slice V n c).ownBlock) : RatAt w' b t neg A la ca B lb cb :=
  (hg.block b h.lt (fun e => by have := (ho.lt _ e.symm).1; omega)).trans h
end Nt
namespace Go.Proofs.YtcepjcnpokpdcaaGreatDoor
open Go Go.RowKit Nt

set_option maxHeartbeats 800000 in
theorem wholeRat_pos (m : Nat) (w : World) (hm : m ≤ 1000000000) :
    Calls Tryz.prog 84 #[.int .i64 ((m : Int))] w (SayR w false (D m) (D 1)) := by
  have HN5 := Lib.hid (small_len (n := m) (by omega))
  have hmax : max (m : Int) (-(m : Int)) = m := by omega
  have hle : -(m : Int) ≤ (m : Int) := by omega
  have hng : decide ((m : Int) < 0) = false := decide_eq_false (by omega)
  go_enter Tryz.func84, Tryz.ntmps84
  go_wp2
  go_loopw [3, 4] (fun v q wr => ∃ (j l : Nat) (out : List Int) (V : Option Addr) (cv : Nat), j ≤ m ∧ q = .int .i64 j ∧ v = .slice V l cv ∧ Hid (out.length = l) ∧ Hid (D m = out ++ D j) ∧ Hid (wr.ownsRow (w.heap.size + 1) 3 1 (.slice V l cv) l (out.map (Value.int .i64))) ∧ Hid (RatAt wr w.heap.size 31 false none 0 0 none 0 0) ∧ Hid (Below w.heap.size w wr)) (fun _ q _ => (intOf q).toNat)
  case atStart => exact ⟨m, 0, [], _, _, Nat.le_refl _, rfl, rfl, Lib.hid rfl, Lib.hid rfl, Lib.hid ⟨rfl, .inl ⟨rfl, rfl⟩⟩, Lib.hid (RatAt.new _ _ _ _ _ _ _ _ _), Lib.hid (below1 _ _)⟩
  case round =>
    obtain ⟨j, l, out, V, cv, hj, rfl, rfl, HOL, HD, HO, HT, HB⟩ := hrel
    have hl5 : l ≤ 5 := by
      have := congrArg List.length HD.out
      rw [List.length_append, HOL.out] at this
      have := HN5.out
      omega
    have hsz := HT.out.lt
    by_cases h0 : 0 < j
    · have hj0 : (0 : Int) < j := by omega
      have HD' : Hid (D m = (out ++ [((j % 10000 : Nat) : Int)]) ++ D (j / 10000)) := by
        show _ = _
        rw [HD.out, D_pos j h0]; simp
      clear HD
      go_wp2_with (at_builtin; refine wpList_append_ints _ rfl _ _ 29 rfl (w.heap.size + 1) 3 Tryz.underlying29 infoInt V l cv out rfl (HO.out.alloc _) _ (some ⟨wr.heap.size, 0, none⟩) 1 1 [(j : Int) % 10000] rfl (rd_one _ _ _) (by omega) (by simp; omega) ?_; intro V' c' w1 hown hg; have HO' := Lib.hid hown; have HT' := Lib.hid ((HT.out.alloc _).rowed (HO.out.alloc _) (Nat.lt_succ_self _) hg); have HB' := Lib.hid (below_app HB.out (own_mono HO.out (Nat.le_succ _)) hg); clear hown hg)
      go_roundw
      case rel => exact ⟨j / 10000, l + 1, out ++ [((j % 10000 : Nat) : Int)], V', c', by omega, by congr 1, rfl, Lib.hid (by simp [HOL.out]), HD', HO', HT', HB'⟩
      case measure => simp [intOf]; omega
    · obtain rfl : j = 0 := by omega
      have HD' : Hid (D m = out) := by show _ = _; rw [HD.out, D_zero, List.append_nil]
      clear HD
      have HT1 := Lib.hid (HT.out.alloc (.cells #[.int .i64 1] 3))
      have HL1 := Lib.hid (Nm.lit wr 3)
      have HM1 : Hid (Nm (wr.alloc (.cells #[.int .i64 1] 3)) V cv m) := by
        have h := (own_rd' HO.out).mono (Q := fun _ => True) fun _ _ _ => trivial
        have h2 : Nm wr V cv m := by show Rd wr _ V (D m).length cv (D m); rw [HD'.out, HOL.out]; exact h
        exact h2.on (below1 _ _)
      have HB1 := Lib.hid (below_on HB.out (below1 wr (.cells #[.int .i64 1] 3)))
      have HLEN : Hid ((D m).length = l) := by show _ = _; rw [HD'.out]; exact HOL.out
      have f0 := HT1.out.fz 0
      have f1 := HT1.out.fz 1
      have f2 := HT1.out.fz 2
      have y0 := HT1.out.c0
      have y1 := HT1.out.c1
      have y2 := HT1.out.c2
      clear HO HD' HOL hsz
      go_wp2
      have g2 := fun b u v => setAll_grown (wr.alloc (.cells #[.int .i64 1] 3)) w.heap.size (.bool b) u v
      refine bodyPost_ret (retR rfl _ _ _ rfl (HT1.out.setAll _ _ _ _ _ _ _)) rfl ?_
      exact ⟨V, cv, _, 1, by rw [HLEN.out]; rfl, ⟨Rd.past HM1.out HT1.out (g2 _ _ _), Rd.past HL1.out HT1.out (g2 _ _ _)⟩, below_grow HB1.out (by omega) (g2 _ _ _)⟩

set_option maxHeartbeats 800000 in
theorem wholeRat_neg (m : Nat) (w : World) (hm : m ≤ 1000000000) (hm0 : 0 < m) :
    Calls Tryz.prog 84 #[.int .i64 (-(m : Int))] w (SayR w true (D m) (D 1)) := by
  have HN5 := Lib.hid (small_len (n := m) (by omega))
  have hmax : max (-(m : Int)) (m : Int) = m := by omega
  have hle : -(m : Int) ≤ (m : Int) := by omega
  have hng : decide (-(m : Int) < 0) = true := decide_eq_true (by omega)
  go_enter Tryz.func84, Tryz.ntmps84
  go_wp2
  go_loopw [3, 4] (fun v q wr => ∃ (j l : Nat) (out : List Int) (V : Option Addr) (cv : Nat), j ≤ m ∧ q = .int .i64 j ∧ v = .slice V l cv ∧ Hid (out.length = l) ∧ Hid (D m = out ++ D j) ∧ Hid (wr.ownsRow (w.heap.size + 1) 3 1 (.slice V l cv) l (out.map (Value.int .i64))) ∧ Hid (RatAt wr w.heap.size 31 false none 0 0 none 0 0) ∧ Hid (Below w.heap.size w wr)) (fun _ q _ => (intOf q).toNat)
  case atStart => exact ⟨m, 0, [], _, _, Nat.le_refl _, rfl, rfl, Lib.hid rfl, Lib.hid rfl, Lib.hid ⟨rfl, .inl ⟨rfl, rfl⟩⟩, Lib.hid (RatAt.new _ _ _ _ _ _ _ _ _), Lib.hid (below1 _ _)⟩
  case round =>
    obtain ⟨j, l, out, V, cv, hj, rfl, rfl, HOL, HD, HO, HT, HB⟩ := hrel
    have hl5 : l ≤ 5 := by
      have := congrArg List.length HD.out
      rw [List.length_append, HOL.out] at this
      have := HN5.out
      omega
    have hsz := HT.out.lt
    by_cases h0 : 0 < j
    · have hj0 : (0 : Int) < j := by omega
      have HD' : Hid (D m = (out ++ [((j % 10000 : Nat) : Int)]) ++ D (j / 10000)) := by
        show _ = _
        rw [HD.out, D_pos j h0]; simp
      clear HD
      go_wp2_with (at_builtin; refine wpList_append_ints _ rfl _ _ 29 rfl (w.heap.size + 1) 3 Tryz.underlying29 infoInt V l cv out rfl (HO.out.alloc _) _ (some ⟨wr.heap.size, 0, none⟩) 1 1 [(j : Int) % 10000] rfl (rd_one _ _ _) (by omega) (by simp; omega) ?_; intro V' c' w1 hown hg; have HO' := Lib.hid hown; have HT' := Lib.hid ((HT.out.alloc _).rowed (HO.out.alloc _) (Nat.lt_succ_self _) hg); have HB' := Lib.hid (below_app HB.out (own_mono HO.out (Nat.le_succ _)) hg); clear hown hg)
      go_roundw
      case rel => exact ⟨j / 10000, l + 1, out ++ [((j % 10000 : Nat) : Int)], V', c', by omega, by congr 1, rfl, Lib.hid (by simp [HOL.out]), HD', HO', HT', HB'⟩
      case measure => simp [intOf]; omega
    · obtain rfl : j = 0 := by omega
      have HD' : Hid (D m = out) := by show _ = _; rw [HD.out, D_zero, List.append_nil]
      clear HD
      have HT1 := Lib.hid (HT.out.alloc (.cells #[.int .i64 1] 3))
      have HL1 := Lib.hid (Nm.lit wr 3)
      have HM1 : Hid (Nm (wr.alloc (.cells #[.int .i64 1] 3)) V cv m) := by
        have h := (own_rd' HO.out).mono (Q := fun _ => True) fun _ _ _ => trivial
        have h2 : Nm wr V cv m := by show Rd wr _ V (D m).length cv (D m); rw [HD'.out, HOL.out]; exact h
        exact h2.on (below1 _ _)
      have HB1 := Lib.hid (below_on HB.out (below1 wr (.cells #[.int .i64 1] 3)))
      have HLEN : Hid ((D m).length = l) := by show _ = _; rw [HD'.out]; exact HOL.out
      have f0 := HT1.out.fz 0
      have f1 := HT1.out.fz 1
      have f2 := HT1.out.fz 2
      have y0 := HT1.out.c0
      have y1 := HT1.out.c1
      have y2 := HT1.out.c2
      clear HO HD' HOL hsz
      go_wp2
      have g2 := fun b u v => setAll_grown (wr.alloc (.cells #[.int .i64 1] 3)) w.heap.size (.bool b) u v
      refine bodyPost_ret (retR rfl _ _ _ rfl (HT1.out.setAll _ _ _ _ _ _ _)) rfl ?_
      exact ⟨V, cv, _, 1, by rw [HLEN.out]; rfl, ⟨Rd.past HM1.out HT1.out (g2 _ _ _), Rd.past HL1.out HT1.out (g2 _ _ _)⟩, below_grow HB1.out (by omega) (g2 _ _ _)⟩


/-- of any number -/
theorem whole_any (n : Int) (w : World) (h0 : -1000000000 ≤ n) (h1 : n ≤ 1000000000) :
    Calls Tryz.prog 84 #[.int .i64 n] w (SayR w (isNeg (mkRat n 1)) (D (nu (mkRat n 1))) (D (mkRat n 1).den)) := by
  by_cases h : 0 ≤ n
  · obtain ⟨m, rfl⟩ : ∃ m : Nat, n = m := ⟨n.toNat, by omega⟩
    obtain ⟨e1, e2, e3⟩ := low_parts false m 1 (by decide) (Nat.gcd_one_right m)
    have : (sg false m) = (m : Int) := rfl
    rw [this] at e1 e2 e3
    rw [e1, e2, e3]
    exact wholeRat_pos m w (by omega)
  · obtain ⟨m, rfl⟩ : ∃ m : Nat, n = -(m : Int) := ⟨(-n).toNat, by omega⟩
    obtain ⟨e1, e2, e3⟩ := low_parts true m 1 (by decide) (Nat.gcd_one_right m)
    have : (sg true m) = -(m : Int) := rfl
    rw [this] at e1 e2 e3
    rw [e1, e2, e3, decide_eq_true (by omega)]
    exact wholeRat_neg m w (by omega) (by omega)
theorem whole_len (n : Int) (h0 : -1000000000 ≤ n) (h1 : n ≤ 1000000000) : nu (mkRat n 1) ≤ 1000000000 ∧ (mkRat n 1).den = 1 ∧ nu (mkRat n 1) = n.natAbs ∧ isNeg (mkRat n 1) = decide (n < 0) := by
  by_cases h : 0 ≤ n
  · obtain ⟨m, rfl⟩ : ∃ m : Nat, n = m := ⟨n.toNat, by omega⟩
    obtain ⟨e1, e2, e3⟩ := low_parts false m 1 (by decide) (Nat.gcd_one_right m)
    have : (sg false m) = (m : Int) := rfl
    rw [this] at e1 e2 e3
    exact ⟨by omega, e2, by omega, by rw [e3, decide_eq_false (show ¬ ((m : Int) < 0) by omega)]; rfl⟩
  · obtain ⟨m, rfl⟩ : ∃ m : Nat, n = -(m : Int) := ⟨(-n).toNat, by omega⟩
    obtain ⟨e1, e2, e3⟩ := low_parts true m 1 (by decide) (Nat.gcd_one_right m)
    have : (sg true m) = -(m : Int) := rfl
    rw [this] at e1 e2 e3
    exact ⟨by omega, e2, by omega, by rw [e3, decide_eq_true (show 0 < m by omega), decide_eq_true (show -(m : Int) < 0 by omega)]; rfl⟩
theorem small_top {m : Nat} (h : m ≤ 1000000000) : m < Top := (D_len_le m 40).1 (by have := small_len (n := m) (by omega); omega)


set_option maxHeartbeats 800000 in
theorem l02Int_pos (m : Nat) (w : World) (hm : m ≤ 1000000000000) :
    Calls Tryz.prog 98 #[.int .i64 (m : Int)] w (SayR w false (D m) (D 1)) := by
  have hge : decide ((m : Int) < 0) = false := decide_eq_false (by omega)
  go_enter Tryz.func98, Tryz.ntmps98
  go_wp2_with fail
  refine calls_at (fun W => Below w.heap.size w W ∧ RatAt W w.heap.size 31 false none 0 0 none 0 0) ⟨below1 _ _, RatAt.new _ _ _ _ _ _ _ _ _⟩ ?_
  rintro W ⟨hb, r0⟩
  refine (l01Small_any m W (by omega)).mono ?_
  rintro e w1 hnew
  obtain ⟨A1, c1, rfl, m1, b1⟩ := new_of hnew
  have HB1 := Lib.hid (below_on (below_on hb b1) (below1 w1 (.cells #[.int .i64 1] 3)))
  have HT1 := Lib.hid ((r0.on b1).alloc (.cells #[.int .i64 1] 3))
  have HM1 := Lib.hid (m1.on (below1 w1 (.cells #[.int .i64 1] 3)))
  have HL1 := Lib.hid (Nm.lit w1 3)
  clear hnew hb r0 m1 b1
  have f0 := HT1.out.fz 0
  have f1 := HT1.out.fz 1
  have f2 := HT1.out.fz 2
  have y0 := HT1.out.c0
  have y1 := HT1.out.c1
  have y2 := HT1.out.c2
  go_wp2
  have g2 := fun b u v => setAll_grown (w1.alloc (.cells #[.int .i64 1] 3)) w.heap.size (.bool b) u v
  refine bodyPost_ret (retR rfl _ _ _ rfl (HT1.out.setAll _ _ _ _ _ _ _)) rfl ?_
  exact ⟨A1, c1, _, 1, rfl, ⟨Rd.past HM1.out HT1.out (g2 _ _ _), Rd.past HL1.out HT1.out (g2 _ _ _)⟩, below_grow HB1.out (by omega) (g2 _ _ _)⟩

set_option maxHeartbeats 800000 in
theorem l02Int_neg (m : Nat) (w : World) (hm : m ≤ 1000000000000) (hm0 : 0 < m) :
    Calls Tryz.prog 98 #[.int .i64 (-(m : Int))] w (SayR w true (D m) (D 1)) := by
  have hge : -(m : Int) < 0 := by omega
  go_enter Tryz.func98, Tryz.ntmps98
  go_wp2_with fail
  refine calls_at (fun W => Below w.heap.size w W ∧ RatAt W w.heap.size 31 false none 0 0 none 0 0) ⟨below1 _ _, RatAt.new _ _ _ _ _ _ _ _ _⟩ ?_
  rintro W ⟨hb, r0⟩
  refine (l01Small_any m W (by omega)).mono ?_
  rintro e w1 hnew
  obtain ⟨A1, c1, rfl, m1, b1⟩ := new_of hnew
  have HB1 := Lib.hid (below_on (below_on hb b1) (below1 w1 (.cells #[.int .i64 1] 3)))
  have HT1 := Lib.hid ((r0.on b1).alloc (.cells #[.int .i64 1] 3))
  have HM1 := Lib.hid (m1.on (below1 w1 (.cells #[.int .i64 1] 3)))
  have HL1 := Lib.hid (Nm.lit w1 3)
  clear hnew hb r0 m1 b1
  have f0 := HT1.out.fz 0
  have f1 := HT1.out.fz 1
  have f2 := HT1.out.fz 2
  have y0 := HT1.out.c0
  have y1 := HT1.out.c1
  have y2 := HT1.out.c2
  go_wp2
  have g2 := fun b u v => setAll_grown (w1.alloc (.cells #[.int .i64 1] 3)) w.heap.size (.bool b) u v
  refine bodyPost_ret (retR rfl _ _ _ rfl (HT1.out.setAll _ _ _ _ _ _ _)) rfl ?_
  exact ⟨A1, c1, _, 1, rfl, ⟨Rd.past HM1.out HT1.out (g2 _ _ _), Rd.past HL1.out HT1.out (g2 _ _ _)⟩, below_grow HB1.out (by omega) (g2 _ _ _)⟩


theorem l02Int_any (n : Int) (w : World) (h0 : -1000000000 ≤ n) (h1 : n ≤ 1000000000) :
    Calls Tryz.prog 98 #[.int .i64 n] w (SayR w (isNeg (mkRat n 1)) (D (nu (mkRat n 1))) (D (mkRat n 1).den)) := by
  by_cases h : 0 ≤ n
  · obtain ⟨m, rfl⟩ : ∃ m : Nat, n = m := ⟨n.toNat, by omega⟩
    obtain ⟨e1, e2, e3⟩ := low_parts false m 1 (by decide) (Nat.gcd_one_right m)
    have : (sg false m) = (m : Int) := rfl
    rw [this] at e1 e2 e3
    rw [e1, e2, e3]
    exact l02Int_pos m w (by omega)
  · obtain ⟨m, rfl⟩ : ∃ m : Nat, n = -(m : Int) := ⟨(-n).toNat, by omega⟩
    obtain ⟨e1, e2, e3⟩ := low_parts true m 1 (by decide) (Nat.gcd_one_right m)
    have : (sg true m) = -(m : Int) := rfl
    rw [this] at e1 e2 e3
    rw [e1, e2, e3, decide_eq_true (by omega)]
    exact l02Int_neg m w (by omega) (by omega)


set_option maxHeartbeats 800000 in
theorem specMakeRat_range (n d : Int) (w : World) (h : ¬ (-1000000000 ≤ n ∧ n ≤ 1000000000 ∧ -1000000000 ≤ d ∧ d ≤ 1000000000)) :
    Calls Tryz.prog 119 #[.int .i64 n, .int .i64 d] w (SayRC' w false [] [] 4) := by
  by_cases h1 : -1000000000 ≤ n ∧ n ≤ 1000000000
  · have e1 : (decide (-1000000000 ≤ n) && decide (n ≤ 1000000000)) = true := by simpa using h1
    have e2 : (decide (-1000000000 ≤ d) && decide (d ≤ 1000000000)) = false := by rw [Bool.and_eq_false_iff, decide_eq_false_iff_not, decide_eq_false_iff_not]; omega
    clear h h1
    go_enter Tryz.func119, Tryz.ntmps119
    go_wp2_with fail
    refine (l01In_any _ _ _ _).mono ?_
    rintro e w1 ⟨rfl, rfl⟩
    rw [e1]
    go_wp2_with fail
    refine (l01In_any _ _ _ _).mono ?_
    rintro e w1 ⟨rfl, rfl⟩
    rw [e2]
    go_wp2
    refine bodyPost_ret (retRC rfl _ _ _ rfl (RatAt.new _ _ _ _ _ _ _ _ _)) rfl ?_
    exact ⟨none, 0, none, 0, rfl, ⟨Rd.nil_ _ _ _ _ (fun _ => rfl), Rd.nil_ _ _ _ _ (fun _ => rfl)⟩, below1 _ _⟩
  · have e1 : (decide (-1000000000 ≤ n) && decide (n ≤ 1000000000)) = false := by rw [Bool.and_eq_false_iff, decide_eq_false_iff_not, decide_eq_false_iff_not]; omega
    clear h h1
    go_enter Tryz.func119, Tryz.ntmps119
    go_wp2_with fail
    refine (l01In_any _ _ _ _).mono ?_
    rintro e w1 ⟨rfl, rfl⟩
    rw [e1]
    go_wp2
    refine bodyPost_ret (retRC rfl _ _ _ rfl (RatAt.new _ _ _ _ _ _ _ _ _)) rfl ?_
    exact ⟨none, 0, none, 0, rfl, ⟨Rd.nil_ _ _ _ _ (fun _ => rfl), Rd.nil_ _ _ _ _ (fun _ => rfl)⟩, below1 _ _⟩


set_option maxHeartbeats 800000 in
theorem specMakeRat_zero (n d : Int) (w : World) (h1 : -1000000000 ≤ n) (h2 : n ≤ 1000000000) (h3 : -1000000000 ≤ d) (h4 : d ≤ 1000000000) (hd : d = 0) :
    Calls Tryz.prog 119 #[.int .i64 n, .int .i64 d] w (SayRC' w false [] [] 9) := by
  subst hd
  have e1 : (decide (-1000000000 ≤ n) && decide (n ≤ 1000000000)) = true := by simp; omega
  have e2 : (decide (-1000000000 ≤ (0 : Int)) && decide ((0 : Int) ≤ 1000000000)) = true := by decide
  clear h1 h2 h3 h4
  go_enter Tryz.func119, Tryz.ntmps119
  go_wp2_with fail
  refine (l01In_any _ _ _ _).mono ?_
  rintro e w1 ⟨rfl, rfl⟩
  rw [e1]
  go_wp2_with fail
  refine (l01In_any _ _ _ _).mono ?_
  rintro e w1 ⟨rfl, rfl⟩
  rw [e2]
  go_wp2
  refine bodyPost_ret (retRC rfl _ _ _ rfl (RatAt.new _ _ _ _ _ _ _ _ _)) rfl ?_
  exact ⟨none, 0, none, 0, rfl, ⟨Rd.nil_ _ _ _ _ (fun _ => rfl), Rd.nil_ _ _ _ _ (fun _ => rfl)⟩, below1 _ _⟩

set_option maxHeartbeats 1600000 in
theorem specMakeRat_ok (n d : Int) (w : World) (h1 : -1000000000 ≤ n) (h2 : n ≤ 1000000000) (h3 : -1000000000 ≤ d) (h4 : d ≤ 1000000000) (hd : d ≠ 0) :
    Calls Tryz.prog 119 #[.int .i64 n, .int .i64 d] w (SayRC' w (fN (mkRat n 1 / mkRat d 1)) (fX (mkRat n 1 / mkRat d 1)) (fY (mkRat n 1 / mkRat d 1)) (fK (mkRat n 1 / mkRat d 1))) := by
  obtain ⟨a1, a2, a3, a4⟩ := whole_len n h1 h2
  obtain ⟨b1, b2, b3, b4⟩ := whole_len d h3 h4
  have hb0 : 0 < nu (mkRat d 1) := by omega
  have k1 := small_len (n := nu (mkRat n 1)) (by omega)
  have k2 := small_len (n := nu (mkRat d 1)) (by omega)
  have HQ : Hid (mkRat (sg (isNeg (mkRat n 1) != isNeg (mkRat d 1)) (nu (mkRat n 1))) (nu (mkRat d 1)) = mkRat n 1 / mkRat d 1) := by
    show _ = _
    rw [div_make _ _ hb0, a2, b2, Nat.mul_one, Nat.one_mul]
  have hfit : fitQ (mkRat n 1 / mkRat d 1) := by
    have hl := div_lens (mkRat n 1) (mkRat d 1) hb0
    have k3 : (D (mkRat n 1).den).length ≤ 5 := by rw [a2]; decide
    have k4 : (D (mkRat d 1).den).length ≤ 5 := by rw [b2]; decide
    exact ⟨by omega, by omega⟩
  have HF : Hid (fN (mkRat n 1 / mkRat d 1) = isNeg (mkRat n 1 / mkRat d 1) ∧ fX (mkRat n 1 / mkRat d 1) = D (nu (mkRat n 1 / mkRat d 1)) ∧ fY (mkRat n 1 / mkRat d 1) = D (mkRat n 1 / mkRat d 1).den ∧ fK (mkRat n 1 / mkRat d 1) = 0) := by
    refine ⟨?_, ?_, ?_, ?_⟩
    · unfold fN; rw [if_pos hfit]
    · unfold fX; rw [if_pos hfit]
    · unfold fY; rw [if_pos hfit]
    · unfold fK; rw [if_pos hfit]
  have HA := Lib.hid (l02Int_any n · h1 h2)
  have HC := Lib.hid (l02Int_any d · h3 h4)
  have e1 : (decide (-1000000000 ≤ n) && decide (n ≤ 1000000000)) = true := by simp; omega
  have e2 : (decide (-1000000000 ≤ d) && decide (d ≤ 1000000000)) = true := by simp; omega
  have hdz : (d == 0) = false := by simpa using hd
  clear h1 h2 h3 h4 a1 a2 a3 a4 b1 b2 b3 b4 hd hfit
  generalize mkRat n 1 = a at *
  generalize mkRat d 1 = b at *
  go_enter Tryz.func119, Tryz.ntmps119
  go_wp2_with fail
  refine (l01In_any _ _ _ _).mono ?_
  rintro e w1 ⟨rfl, rfl⟩
  rw [e1]
  go_wp2_with fail
  refine (l01In_any _ _ _ _).mono ?_
  rintro e w1 ⟨rfl, rfl⟩
  rw [e2]
  clear e1 e2
  go_wp2_with fail
  refine calls_at (fun W => Below w.heap.size w W ∧ RatAt W w.heap.size 31 false none 0 0 none 0 0) ⟨below1 _ _, RatAt.new _ _ _ _ _ _ _ _ _⟩ ?_
  rintro W ⟨hb, r0⟩
  refine (HA.out W).mono ?_
  rintro e w1 ⟨A1, c1, B1, d1, rfl, o1, b1⟩
  have HB1 := Lib.hid (below_on hb b1)
  have HT1 := Lib.hid (r0.on b1)
  have HO1 := Lib.hid o1
  clear hb r0 o1 b1
  go_wp2_with fail
  refine calls_at (fun V => Below w.heap.size w V ∧ RatAt V w.heap.size 31 false none 0 0 none 0 0 ∧ RatAt V w1.heap.size 31 (isNeg a) A1 (D (nu a)).length c1 B1 (D a.den).length d1 ∧ RdR V (fun _ => True) (D (nu a)) (D a.den) A1 c1 B1 d1) ⟨below_on HB1.out (below1 _ _), HT1.out.on (below1 _ _), RatAt.new _ _ _ _ _ _ _ _ _, HO1.out.on (below1 _ _)⟩ ?_
  rintro V ⟨hb, r0, r1, o1⟩
  clear HB1 HT1 HO1
  refine (HC.out V).mono ?_
  rintro e w2 ⟨A2, c2, B2, d2, rfl, o2, b2⟩
  have HB2 := Lib.hid (below_on hb b2)
  have HT2 := Lib.hid (r0.on b2)
  have HR2 := Lib.hid (r1.on b2)
  have HO12 := Lib.hid (o1.on b2)
  have HO2 := Lib.hid o2
  have hs1 := r1.lt
  have hs2 := b2.size
  clear o2 b2 hb r0 r1 o1
  have q0 := HR2.out.c0
  have q1 := HR2.out.c1
  have hs12 : w1.heap.size < w2.heap.size := by omega
  have hsne : ¬ w1.heap.size = w2.heap.size := by omega
  go_wp2_with fail
  clear q0 q1
  have HBX := Lib.hid (below1 w2 (.cells #[.bool (isNeg b), .slice A2 (D (nu b)).length c2, .slice B2 (D b.den).length d2] 31))
  refine (l02Make_any (isNeg a != isNeg b) A1 A2 _ c1 _ c2 (nu a) (nu b) _ _ _ (HO12.out.on HBX.out).1 (HO2.out.on HBX.out).1 (by omega) (by omega) hb0).mono ?_
  rintro e w3 ⟨A3, c3, B3, d3, rfl, o3, b3⟩
  rw [HQ.out] at o3 ⊢
  have HB3 := Lib.hid (below_on (below_on HB2.out HBX.out) b3)
  have HT3 := Lib.hid ((HT2.out.on HBX.out).on b3)
  have HO3 := Lib.hid o3
  have hs3 := HT2.out.lt
  clear o3 b3 HB2 HT2 HO12 HO2 HR2
  generalize a / b = q at *
  have f0 := HT3.out.fz 0
  have f1 := HT3.out.fz 1
  have f2 := HT3.out.fz 2
  have y0 := HT3.out.c0
  have y1 := HT3.out.c1
  have y2 := HT3.out.c2
  go_wp2
  have g2 := fun b u v => setAll_grown w3 w.heap.size (.bool b) u v
  refine bodyPost_ret (retRC rfl _ _ _ rfl (HT3.out.setAll _ _ _ _ _ _ _)) rfl ?_
  rw [HF.out.1, HF.out.2.1, HF.out.2.2.1, HF.out.2.2.2]
  exact ⟨A3, c3, B3, d3, rfl, ⟨HO3.out.1.past HT3.out (g2 _ _ _), HO3.out.2.past HT3.out (g2 _ _ _)⟩, below_grow HB3.out (by omega) (g2 _ _ _)⟩

end Go.Proofs.YtcepjcnpokpdcaaGreatDoor
