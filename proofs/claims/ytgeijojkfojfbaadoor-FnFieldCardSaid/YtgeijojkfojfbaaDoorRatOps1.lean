/-
  The exported functions of one rational, of the program: where it is not right, and NegRat, AbsRat.
-/
import Derived.Test.YtgeijojkfojfbaaDoorRatNeg
namespace Nt
open Go Go.RowKit
/-- two slices of these lengths that read as xs and ys -/
def RdR' (w : World) (P : Nat → Prop) (A : Option Addr) (la ca : Nat) (xs : List Int) (B : Option Addr) (lb cb : Nat) (ys : List Int) : Prop := Rd w P A la ca xs ∧ Rd w P B lb cb ys
theorem RdR'.below {w w' : World} {N : Nat} {A B : Option Addr} {la ca lb cb : Nat} {xs ys : List Int} (h : RdR' w (· < N) A la ca xs B lb cb ys) (hb : Below N w w') : RdR' w' (· < N) A la ca xs B lb cb ys := ⟨h.1.below hb, h.2.below hb⟩
theorem RdR'.mono {w : World} {P Q : Nat → Prop} {A B : Option Addr} {la ca lb cb : Nat} {xs ys : List Int} (h : RdR' w P A la ca xs B lb cb ys) (hpq : ∀ b, P b → b < w.heap.size → Q b) : RdR' w Q A la ca xs B lb cb ys := ⟨h.1.mono hpq, h.2.mono hpq⟩
theorem neg_parts (r : Rat) : nu (-r) = nu r ∧ (-r).den = r.den ∧ isNeg (-r) = (!isNeg r && decide (0 < (D (nu r)).length)) := by
  refine ⟨by unfold nu; rw [Rat.neg_num]; omega, Rat.neg_den r, ?_⟩
  have e : decide (0 < (D (nu r)).length) = decide (0 < nu r) := by
    rcases Nat.eq_zero_or_pos (nu r) with h | h
    · rw [h]; rfl
    · rw [decide_eq_true h, decide_eq_true (D_len_pos h)]
  rw [e]
  unfold isNeg nu
  rw [Rat.neg_num, Bool.eq_iff_iff]
  simp only [decide_eq_true_eq, Bool.and_eq_true, Bool.not_eq_true', decide_eq_false_iff_not]
  omega
/-- the same with no sign -/
def absQ (r : Rat) : Rat := if isNeg r then -r else r
theorem abs_parts (r : Rat) : nu (absQ r) = nu r ∧ (absQ r).den = r.den ∧ isNeg (absQ r) = false := by
  unfold absQ
  cases h : isNeg r
  · exact ⟨rfl, rfl, h⟩
  · obtain ⟨h1, h2, h3⟩ := neg_parts r
    exact ⟨h1, h2, by rw [if_pos rfl, h3, h]; rfl⟩
end Nt
namespace Go.Proofs.YtgeijojkfojfbaaDoor
open Go Go.RowKit Nt

set_option maxHeartbeats 400000 in
theorem implNegRat_bad (neg : Bool) (A B : Option Addr) (la ca lb cb : Nat) (xs ys : List Int) (w : World) (hr : RdR' w (· < w.heap.size) A la ca xs B lb cb ys) (hla : la ≤ 16777216) (hlb : lb ≤ 16777216) (hok : okR neg xs ys = false) :
    Calls Tryd.prog 14 #[.agg #[.bool neg, .slice A la ca, .slice B lb cb]] w (RetRC 3 w false [] [] 1) := by
  have H := Lib.hid hr
  have HC : Hid ((1 : Int) = if okR neg xs ys = true then 0 else 1) := Lib.hid (by rw [hok]; rfl)
  clear hr hok
  go_enter Tryd.func14, Tryd.ntmps14
  go_wp2_with fail
  have hb := below2 w (.cells #[.bool neg, .slice A la ca, .slice B lb cb] 25) (.cells #[.bool false, .slice none 0 0, .slice none 0 0] 25)
  have r1 := RatAt.new1 w (.cells #[.bool neg, .slice A la ca, .slice B lb cb] 25) 25 false none none 0 0 0 0
  have HW : Hid (w.heap.size + 1 + 1 = ((w.alloc (.cells #[.bool neg, .slice A la ca, .slice B lb cb] 25)).alloc (.cells #[.bool false, .slice none 0 0, .slice none 0 0] 25)).heap.size) := Lib.hid (by simp)
  generalize (w.alloc (.cells #[.bool neg, .slice A la ca, .slice B lb cb] 25)).alloc (.cells #[.bool false, .slice none 0 0, .slice none 0 0] 25) = W at *
  refine (code1 neg A la ca B lb cb xs ys _ W _ HW.out (H.out.below hb).1 (H.out.below hb).2 hla hlb 1 HC.out).mono ?_
  rintro e w1 ⟨rfl, b1⟩
  have HB1 := Lib.hid (below_on hb b1)
  have HR1 := Lib.hid (r1.on b1)
  clear hb r1 b1
  have f0 := HR1.out.fz 0
  have f1 := HR1.out.fz 1
  have f2 := HR1.out.fz 2
  have y0 := HR1.out.c0
  have y1 := HR1.out.c1
  have y2 := HR1.out.c2
  go_wp2
  have g2 := setAll_grown w1 (w.heap.size + 1) (.bool false) (.slice none 0 0) (.slice none 0 0)
  refine bodyPost_ret (retRC rfl _ _ _ rfl (HR1.out.setAll _ _ _ _ _ _ _)) rfl ?_
  exact ⟨none, 0, none, 0, rfl, ⟨World.ownsRow_nil _ _ _ _, World.ownsRow_nil _ _ _ _, fun g h e => by cases e⟩, below_grow HB1.out (by omega) g2⟩


set_option maxHeartbeats 400000 in
theorem implFloorRat_bad (neg : Bool) (A B : Option Addr) (la ca lb cb : Nat) (xs ys : List Int) (w : World) (hr : RdR' w (· < w.heap.size) A la ca xs B lb cb ys) (hla : la ≤ 16777216) (hlb : lb ≤ 16777216) (hok : okR neg xs ys = false) :
    Calls Tryd.prog 15 #[.agg #[.bool neg, .slice A la ca, .slice B lb cb]] w (RetRC 3 w false [] [] 1) := by
  have H := Lib.hid hr
  have HC : Hid ((1 : Int) = if okR neg xs ys = true then 0 else 1) := Lib.hid (by rw [hok]; rfl)
  clear hr hok
  go_enter Tryd.func15, Tryd.ntmps15
  go_wp2_with fail
  have hb := below2 w (.cells #[.bool neg, .slice A la ca, .slice B lb cb] 25) (.cells #[.bool false, .slice none 0 0, .slice none 0 0] 25)
  have r1 := RatAt.new1 w (.cells #[.bool neg, .slice A la ca, .slice B lb cb] 25) 25 false none none 0 0 0 0
  have HW : Hid (w.heap.size + 1 + 1 = ((w.alloc (.cells #[.bool neg, .slice A la ca, .slice B lb cb] 25)).alloc (.cells #[.bool false, .slice none 0 0, .slice none 0 0] 25)).heap.size) := Lib.hid (by simp)
  generalize (w.alloc (.cells #[.bool neg, .slice A la ca, .slice B lb cb] 25)).alloc (.cells #[.bool false, .slice none 0 0, .slice none 0 0] 25) = W at *
  refine (code1 neg A la ca B lb cb xs ys _ W _ HW.out (H.out.below hb).1 (H.out.below hb).2 hla hlb 1 HC.out).mono ?_
  rintro e w1 ⟨rfl, b1⟩
  have HB1 := Lib.hid (below_on hb b1)
  have HR1 := Lib.hid (r1.on b1)
  clear hb r1 b1
  have f0 := HR1.out.fz 0
  have f1 := HR1.out.fz 1
  have f2 := HR1.out.fz 2
  have y0 := HR1.out.c0
  have y1 := HR1.out.c1
  have y2 := HR1.out.c2
  go_wp2
  have g2 := setAll_grown w1 (w.heap.size + 1) (.bool false) (.slice none 0 0) (.slice none 0 0)
  refine bodyPost_ret (retRC rfl _ _ _ rfl (HR1.out.setAll _ _ _ _ _ _ _)) rfl ?_
  exact ⟨none, 0, none, 0, rfl, ⟨World.ownsRow_nil _ _ _ _, World.ownsRow_nil _ _ _ _, fun g h e => by cases e⟩, below_grow HB1.out (by omega) g2⟩

set_option maxHeartbeats 400000 in
theorem implPowRat_bad (neg : Bool) (A B : Option Addr) (la ca lb cb : Nat) (xs ys : List Int) (n : Int) (w : World) (hr : RdR' w (· < w.heap.size) A la ca xs B lb cb ys) (hla : la ≤ 16777216) (hlb : lb ≤ 16777216) (hok : okR neg xs ys = false) :
    Calls Tryd.prog 20 #[.agg #[.bool neg, .slice A la ca, .slice B lb cb], .int .i64 n] w (RetRC 3 w false [] [] 1) := by
  have H := Lib.hid hr
  have HC : Hid ((1 : Int) = if okR neg xs ys = true then 0 else 1) := Lib.hid (by rw [hok]; rfl)
  clear hr hok
  go_enter Tryd.func20, Tryd.ntmps20
  go_wp2_with fail
  have hb := below2 w (.cells #[.bool neg, .slice A la ca, .slice B lb cb] 25) (.cells #[.bool false, .slice none 0 0, .slice none 0 0] 25)
  have r1 := RatAt.new1 w (.cells #[.bool neg, .slice A la ca, .slice B lb cb] 25) 25 false none none 0 0 0 0
  have HW : Hid (w.heap.size + 1 + 1 = ((w.alloc (.cells #[.bool neg, .slice A la ca, .slice B lb cb] 25)).alloc (.cells #[.bool false, .slice none 0 0, .slice none 0 0] 25)).heap.size) := Lib.hid (by simp)
  generalize (w.alloc (.cells #[.bool neg, .slice A la ca, .slice B lb cb] 25)).alloc (.cells #[.bool false, .slice none 0 0, .slice none 0 0] 25) = W at *
  refine (code1 neg A la ca B lb cb xs ys _ W _ HW.out (H.out.below hb).1 (H.out.below hb).2 hla hlb 1 HC.out).mono ?_
  rintro e w1 ⟨rfl, b1⟩
  have HB1 := Lib.hid (below_on hb b1)
  have HR1 := Lib.hid (r1.on b1)
  clear hb r1 b1
  have f0 := HR1.out.fz 0
  have f1 := HR1.out.fz 1
  have f2 := HR1.out.fz 2
  have y0 := HR1.out.c0
  have y1 := HR1.out.c1
  have y2 := HR1.out.c2
  go_wp2
  have g2 := setAll_grown w1 (w.heap.size + 1) (.bool false) (.slice none 0 0) (.slice none 0 0)
  refine bodyPost_ret (retRC rfl _ _ _ rfl (HR1.out.setAll _ _ _ _ _ _ _)) rfl ?_
  exact ⟨none, 0, none, 0, rfl, ⟨World.ownsRow_nil _ _ _ _, World.ownsRow_nil _ _ _ _, fun g h e => by cases e⟩, below_grow HB1.out (by omega) g2⟩

set_option maxHeartbeats 400000 in
theorem implNegRat_ok (r : Rat) (A B : Option Addr) (ca cb : Nat) (w : World) (hr : RdR w (· < w.heap.size) (D (nu r)) (D r.den) A ca B cb) (h1 : nu r < Top) (h2 : r.den < Top) :
    Calls Tryd.prog 14 #[.agg #[.bool (isNeg r), .slice A (D (nu r)).length ca, .slice B (D r.den).length cb]] w (RetRC 3 w (isNeg (-r)) (D (nu (-r))) (D (-r).den) 0) := by
  have H := Lib.hid hr
  have hl1 := (D_len_le (nu r) 40).2 h1
  have hl2 := (D_len_le r.den 40).2 h2
  have HC : Hid ((0 : Int) = if okR (isNeg r) (D (nu r)) (D r.den) = true then 0 else 1) := Lib.hid (by rw [if_pos (okR_rat r h1 h2)])
  clear hr
  go_enter Tryd.func14, Tryd.ntmps14
  go_wp2_with fail
  have hb := below2 w (.cells #[.bool (isNeg r), .slice A (D (nu r)).length ca, .slice B (D r.den).length cb] 25) (.cells #[.bool false, .slice none 0 0, .slice none 0 0] 25)
  have r0 := (RatAt.new w 25 (isNeg r) A B (D (nu r)).length ca (D r.den).length cb).alloc (.cells #[.bool false, .slice none 0 0, .slice none 0 0] 25)
  have r1 := RatAt.new1 w (.cells #[.bool (isNeg r), .slice A (D (nu r)).length ca, .slice B (D r.den).length cb] 25) 25 false none none 0 0 0 0
  have HW : Hid (w.heap.size + 1 + 1 = ((w.alloc (.cells #[.bool (isNeg r), .slice A (D (nu r)).length ca, .slice B (D r.den).length cb] 25)).alloc (.cells #[.bool false, .slice none 0 0, .slice none 0 0] 25)).heap.size) := Lib.hid (by simp)
  generalize (w.alloc (.cells #[.bool (isNeg r), .slice A (D (nu r)).length ca, .slice B (D r.den).length cb] 25)).alloc (.cells #[.bool false, .slice none 0 0, .slice none 0 0] 25) = W at *
  refine (code1 (isNeg r) A (D (nu r)).length ca B (D r.den).length cb (D (nu r)) (D r.den) _ W _ HW.out (H.out.below hb).1 (H.out.below hb).2 (by omega) (by omega) 0 HC.out).mono ?_
  rintro e w1 ⟨rfl, b1⟩
  have HB1 := Lib.hid (below_on hb b1)
  have HR0 := Lib.hid (r0.on b1)
  have HR1 := Lib.hid (r1.on b1)
  clear hb r0 r1 b1
  have c0 := HR0.out.c0
  have c1 := HR0.out.c1
  have c2 := HR0.out.c2
  go_wp2_with fail
  refine (turned_any (isNeg r) A B ca cb (D (nu r)) (D r.den) _ w1 (H.out.below HB1.out) (by omega) (by omega)).mono ?_
  rintro e w2 ⟨A1, d1, A2, d2, rfl, o2, b2⟩
  have HB2 := Lib.hid (below_on HB1.out b2)
  have HR2 := Lib.hid (HR1.out.on b2)
  have HO2 := Lib.hid o2
  have hs1 := HR1.out.lt
  have hs2 := b2.size
  clear o2 b2 c0 c1 c2
  have f0 := HR2.out.fz 0
  have f1 := HR2.out.fz 1
  have f2 := HR2.out.fz 2
  have y0 := HR2.out.c0
  have y1 := HR2.out.c1
  have y2 := HR2.out.c2
  go_wp2
  have g2 := setAll_grown w2 (w.heap.size + 1) (.bool (!isNeg r && decide (0 < (D (nu r)).length))) (.slice A1 (D (nu r)).length d1) (.slice A2 (D r.den).length d2)
  refine bodyPost_ret (retRC rfl _ _ _ rfl (HR2.out.setAll _ _ _ _ _ _ _)) rfl ?_
  obtain ⟨e1, e2, e3⟩ := neg_parts r
  rw [e1, e2, e3]
  exact ⟨A1, d1, A2, d2, rfl, ⟨own_mono (own_gone HO2.out.1 g2 (fun k hk => by have := own_block HO2.out.1 hk; omega)) (by omega), own_mono (own_gone HO2.out.2.1 g2 (fun k hk => by have := own_block HO2.out.2.1 hk; omega)) (by omega), HO2.out.2.2⟩, below_grow HB2.out (by omega) g2⟩

end Go.Proofs.YtgeijojkfojfbaaDoor
