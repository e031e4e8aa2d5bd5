/-
  Lowest terms of the model: l02Make.
-/
import Derived.Test.YtgeijojkfojfbaaDoorSpecOps1
namespace Nt
open Go Go.RowKit
theorem D_len_up {m n : Nat} (h : m ≤ n) : (D m).length ≤ (D n).length :=
  (D_len_le m (D n).length).2 (Nat.lt_of_le_of_lt h ((D_len_le n (D n).length).1 (Nat.le_refl _)))
theorem D_len_mul (m n : Nat) : (D (m * n)).length ≤ (D m).length + (D n).length := by
  have h1 := (D_len_le m (D m).length).1 (Nat.le_refl _)
  have h2 := (D_len_le n (D n).length).1 (Nat.le_refl _)
  refine (D_len_le (m * n) _).2 ?_
  rw [Nat.pow_add]
  exact Nat.mul_lt_mul'' h1 h2
theorem D_len_add (m n : Nat) : (D (m + n)).length ≤ max (D m).length (D n).length + 1 := by
  have h1 := (D_len_le m (D m).length).1 (Nat.le_refl _)
  have h2 := (D_len_le n (D n).length).1 (Nat.le_refl _)
  have k1 : 10000 ^ (D m).length ≤ 10000 ^ (max (D m).length (D n).length) := Nat.pow_le_pow_right (by decide) (by omega)
  have k2 : 10000 ^ (D n).length ≤ 10000 ^ (max (D m).length (D n).length) := Nat.pow_le_pow_right (by decide) (by omega)
  refine (D_len_le (m + n) _).2 ?_
  rw [Nat.pow_succ]
  omega
theorem D_len_sub (m n : Nat) : (D (m - n)).length ≤ (D m).length := D_len_up (Nat.sub_le _ _)
theorem D_len_div (m n : Nat) : (D (m / n)).length ≤ (D m).length := D_len_up (Nat.div_le_self _ _)
theorem D_len_gcd (m : Nat) {n : Nat} (h : 0 < n) : (D (Nat.gcd m n)).length ≤ (D n).length := D_len_up (Nat.gcd_le_right m h)
theorem add_pos_den (a b : Rat) : 0 < a.den * b.den := Nat.mul_pos a.den_pos b.den_pos
theorem rat_len (p q : Nat) (neg : Bool) (h : 0 < q) : (D (nu (mkRat (sg neg p) q))).length ≤ (D p).length ∧ (D (mkRat (sg neg p) q).den).length ≤ (D q).length := by
  obtain ⟨e1, e2, _⟩ := mk_parts neg p q h
  rw [e1, e2]
  exact ⟨D_len_div _ _, D_len_div _ _⟩
theorem add_same {a b : Rat} (h : isNeg a = isNeg b) : a + b = mkRat (sg (isNeg a) (nu a * b.den + nu b * a.den)) (a.den * b.den) := by
  rw [add_make]; unfold sumNeg sumAbs; rw [if_pos h, if_pos h]
theorem add_ge {a b : Rat} (h : isNeg a ≠ isNeg b) (hle : nu b * a.den ≤ nu a * b.den) : a + b = mkRat (sg (isNeg a) (nu a * b.den - nu b * a.den)) (a.den * b.den) := by
  rw [add_make]; unfold sumNeg sumAbs; rw [if_neg h, if_neg h, if_pos hle, if_pos hle]
theorem add_lt {a b : Rat} (h : isNeg a ≠ isNeg b) (hlt : nu a * b.den < nu b * a.den) : a + b = mkRat (sg (isNeg b) (nu b * a.den - nu a * b.den)) (a.den * b.den) := by
  rw [add_make]; unfold sumNeg sumAbs; rw [if_neg h, if_neg h, if_neg (by omega), if_neg (by omega)]
end Nt
namespace Go.Proofs.YtgeijojkfojfbaaDoor
open Go Go.RowKit Nt

set_option maxHeartbeats 800000 in
theorem l02Make_any (neg : Bool) (A B : Option Addr) (la ca lb cb p q : Nat) (P Q : Nat → Prop) (w : World) (hx0 : Rd w P A la ca (D p)) (hy0 : Rd w Q B lb cb (D q)) (hla : la ≤ 1000) (hlb : lb ≤ 1000) (hq : 0 < q) :
    Calls Tryd.prog 46 #[.bool neg, .slice A la ca, .slice B lb cb] w (SayR w (isNeg (mkRat (sg neg p) q)) (D (nu (mkRat (sg neg p) q))) (D (mkRat (sg neg p) q).den)) := by
  have HX := Lib.hid (hx0.mono (Q := (· < w.heap.size)) fun _ _ h => h)
  have HY := Lib.hid (hy0.mono (Q := (· < w.heap.size)) fun _ _ h => h)
  have hyl := hy0.len
  have hg0 : 0 < Nat.gcd p q := Nat.gcd_pos_of_pos_right _ hq
  have hgl : (D (Nat.gcd p q)).length ≤ 1000 := by have := D_len_gcd p hq; omega
  clear hx0 hy0 hyl
  go_enter Tryd.func46, Tryd.ntmps46
  go_wp2_with fail
  refine calls_at (fun W => Below w.heap.size w W ∧ RatAt W w.heap.size 25 false none 0 0 none 0 0) ⟨below1 _ _, RatAt.new _ _ _ _ _ _ _ _ _⟩ ?_
  rintro W ⟨hb, r0⟩
  refine (l01Gcd_any A B la ca lb cb p q _ _ W (HX.out.below hb) (HY.out.below hb) hla hlb).mono ?_
  rintro e w1 hnew
  obtain ⟨A1, c1, rfl, m1, b1⟩ := new_of hnew
  have HB1 := Lib.hid (below_on hb b1)
  have HR1 := Lib.hid (r0.on b1)
  have HM1 := Lib.hid m1
  clear hnew hb r0 m1 b1
  go_wp2_with fail
  refine (l01Div_any A A1 la ca _ c1 p (Nat.gcd p q) _ _ w1 (HX.out.below HB1.out) HM1.out hla hgl hg0).mono ?_
  rintro e w2 ⟨A2, c2, A3, c3, rfl, o2, r2, b2⟩
  have HP : Hid (Nm w2 A2 c2 (p / Nat.gcd p q)) := (own_rd' o2).mono fun _ _ _ => trivial
  have HB2 := Lib.hid (below_on HB1.out b2)
  have HR2 := Lib.hid (HR1.out.on b2)
  have HM2 := Lib.hid (HM1.out.on b2)
  clear o2 r2 b2 HB1 HR1 HM1
  go_wp2_with fail
  refine (l01Div_any B A1 lb cb _ c1 q (Nat.gcd p q) _ _ w2 (HY.out.below HB2.out) HM2.out hlb hgl hg0).mono ?_
  rintro e w3 ⟨A4, c4, A5, c5, rfl, o3, r3, b3⟩
  have HQ3 : Hid (Nm w3 A4 c4 (q / Nat.gcd p q)) := (own_rd' o3).mono fun _ _ _ => trivial
  have HP3 := Lib.hid (HP.out.on b3)
  have HB3 := Lib.hid (below_on HB2.out b3)
  have HR3 := Lib.hid (HR2.out.on b3)
  clear o3 r3 b3 HB2 HR2 HM2 HP
  have f0 := HR3.out.fz 0
  have f1 := HR3.out.fz 1
  have f2 := HR3.out.fz 2
  have y0 := HR3.out.c0
  have y1 := HR3.out.c1
  have y2 := HR3.out.c2
  cases neg with
  | false =>
    have HE : Hid ((false && decide (0 < p / Nat.gcd p q)) = false) := Lib.hid rfl
    go_wp2
    have g2 := fun b => setAll_grown w3 w.heap.size (.bool b) (.slice A2 (D (p / Nat.gcd p q)).length c2) (.slice A4 (D (q / Nat.gcd p q)).length c4)
    refine bodyPost_ret (retR rfl _ _ _ rfl (HR3.out.setAll _ _ _ _ _ _ _)) rfl ?_
    obtain ⟨e1, e2, e3⟩ := mk_parts false p q hq
    rw [e1, e2, e3]
    exact ⟨A2, c2, A4, c4, by rw [HE.out], ⟨Rd.past HP3.out HR3.out (g2 _), Rd.past HQ3.out HR3.out (g2 _)⟩, below_grow HB3.out (Nat.le_refl _) (g2 _)⟩
  | true =>
    have HE : Hid ((true && decide (0 < p / Nat.gcd p q)) = decide (0 < (D (p / Nat.gcd p q)).length)) := by
      show _ = _
      rw [Bool.true_and]
      rcases Nat.eq_zero_or_pos (p / Nat.gcd p q) with h | h
      · rw [h]; rfl
      · rw [decide_eq_true h, decide_eq_true (D_len_pos h)]
    go_wp2
    have g2 := fun b => setAll_grown w3 w.heap.size (.bool b) (.slice A2 (D (p / Nat.gcd p q)).length c2) (.slice A4 (D (q / Nat.gcd p q)).length c4)
    refine bodyPost_ret (retR rfl _ _ _ rfl (HR3.out.setAll _ _ _ _ _ _ _)) rfl ?_
    obtain ⟨e1, e2, e3⟩ := mk_parts true p q hq
    rw [e1, e2, e3]
    exact ⟨A2, c2, A4, c4, by rw [HE.out], ⟨Rd.past HP3.out HR3.out (g2 _), Rd.past HQ3.out HR3.out (g2 _)⟩, below_grow HB3.out (Nat.le_refl _) (g2 _)⟩
end Go.Proofs.YtgeijojkfojfbaaDoor
