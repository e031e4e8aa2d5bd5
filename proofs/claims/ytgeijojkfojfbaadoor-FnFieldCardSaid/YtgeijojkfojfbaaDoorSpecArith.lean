/-
  Products of the model, and what is answered: l02Mul, l02Fits, l02Fit.
-/
import Derived.Test.YtgeijojkfojfbaaDoorRatArith
namespace Nt
open Go Go.RowKit
theorem mul_lens (a b : Rat) : (D (nu (a * b))).length ≤ (D (nu a)).length + (D (nu b)).length ∧ (D (a * b).den).length ≤ (D a.den).length + (D b.den).length := by
  rw [mul_make]
  obtain ⟨h1, h2⟩ := rat_len (nu a * nu b) (a.den * b.den) (isNeg a != isNeg b) (add_pos_den a b)
  have := D_len_mul (nu a) (nu b)
  have := D_len_mul a.den b.den
  omega
theorem add_lens (a b : Rat) : (D (nu (a + b))).length ≤ max ((D (nu a)).length + (D b.den).length) ((D (nu b)).length + (D a.den).length) + 1 ∧ (D (a + b).den).length ≤ (D a.den).length + (D b.den).length := by
  rw [add_make]
  obtain ⟨h1, h2⟩ := rat_len (sumAbs (isNeg a) (nu a * b.den) (isNeg b) (nu b * a.den)) (a.den * b.den) (sumNeg (isNeg a) (nu a * b.den) (isNeg b) (nu b * a.den)) (add_pos_den a b)
  have := D_len_up (sum_le (isNeg a) (nu a * b.den) (isNeg b) (nu b * a.den))
  have := D_len_add (nu a * b.den) (nu b * a.den)
  have := D_len_mul (nu a) b.den
  have := D_len_mul (nu b) a.den
  have := D_len_mul a.den b.den
  omega
theorem sub_lens (a b : Rat) : (D (nu (a - b))).length ≤ max ((D (nu a)).length + (D b.den).length) ((D (nu b)).length + (D a.den).length) + 1 ∧ (D (a - b).den).length ≤ (D a.den).length + (D b.den).length := by
  have h := add_lens a (-b)
  obtain ⟨e1, e2, _⟩ := neg_parts b
  rw [e1, e2, ← Rat.sub_eq_add_neg] at h
  exact h
end Nt
namespace Go.Proofs.YtgeijojkfojfbaaDoor
open Go Go.RowKit Nt

set_option maxRecDepth 20000 in
set_option maxHeartbeats 3200000 in
theorem l02Mul_core (na nb : Bool) (x y x' y' p q : Nat) (hp : x * x' = p) (hq : y * y' = q) (nn : Bool) (X Y : List Int)
    (A B : Option Addr) (ca cb : Nat) (A' B' : Option Addr) (ca' cb' : Nat) (P P' : Nat → Prop) (w : World) (k0 : RdR w P (D x) (D y) A ca B cb) (k1 : RdR w P' (D x') (D y') A' ca' B' cb')
    (l1 : (D x).length ≤ 400) (l2 : (D y).length ≤ 400) (l3 : (D x').length ≤ 400) (l4 : (D y').length ≤ 400) (hm : MkAt (na != nb) p q nn X Y) :
    Calls Tryd.prog 32 #[.agg #[.bool na, .slice A (D x).length ca, .slice B (D y).length cb], .agg #[.bool nb, .slice A' (D x').length ca', .slice B' (D y').length cb']] w (SayR w nn X Y) := by
  have H0 := Lib.hid (k0.mono (Q := (· < w.heap.size)) fun _ _ h => h)
  have H1 := Lib.hid (k1.mono (Q := (· < w.heap.size)) fun _ _ h => h)
  have HPp := Lib.hid hp
  have HQq := Lib.hid hq
  have HM := Lib.hid hm
  clear k0 k1 hp hq hm
  go_enter Tryd.func32, Tryd.ntmps32
  go_upto_region 1 with fail
  refine wp_at (fun v0 => Below w.heap.size w v0 ∧ RatAt v0 w.heap.size 25 na A (D x).length ca B (D y).length cb ∧ RatAt v0 (w.heap.size + 1) 25 nb A' (D x').length ca' B' (D y').length cb' ∧ RatAt v0 (w.heap.size + 1 + 1) 25 false none 0 0 none 0 0)
    ⟨below3 _ _ _ _, ((RatAt.new _ _ _ _ _ _ _ _ _).alloc _).alloc _, (RatAt.new1 _ _ _ _ _ _ _ _ _ _).alloc _, RatAt.new2 _ _ _ _ _ _ _ _ _ _ _⟩ ?_
  rintro v0 ⟨hb, r0, r1, r2⟩
  have HB0 := Lib.hid hb
  have HR0 := Lib.hid r0
  have HS0 := Lib.hid r1
  have HT0 := Lib.hid r2
  clear hb r0 r1 r2
  go_region_held3 (fun wx => wx.cell? ⟨w.heap.size, 0, none⟩ = some (.bool na) ∧ wx.cell? ⟨w.heap.size, 1, none⟩ = some (.slice A (D x).length ca) ∧ wx.cell? ⟨w.heap.size, 2, none⟩ = some (.slice B (D y).length cb) ∧ wx.cell? ⟨w.heap.size + 1, 0, none⟩ = some (.bool nb) ∧ wx.cell? ⟨w.heap.size + 1, 1, none⟩ = some (.slice A' (D x').length ca') ∧ wx.cell? ⟨w.heap.size + 1, 2, none⟩ = some (.slice B' (D y').length cb'))
    (first | exact ⟨(HR0.out).c0, (HR0.out).c1, (HR0.out).c2, (HS0.out).c0, (HS0.out).c1, (HS0.out).c2⟩ | exact ⟨(HR1.out).c0, (HR1.out).c1, (HR1.out).c2, (HS1.out).c0, (HS1.out).c1, (HS1.out).c2⟩ | exact ⟨(HR2.out).c0, (HR2.out).c1, (HR2.out).c2, (HS2.out).c0, (HS2.out).c1, (HS2.out).c2⟩ | exact ⟨(HR3.out).c0, (HR3.out).c1, (HR3.out).c2, (HS3.out).c0, (HS3.out).c1, (HS3.out).c2⟩ | exact ⟨(HR3.out.grown (setAll_grown _ _ _ _ _) (by omega)).c0, (HR3.out.grown (setAll_grown _ _ _ _ _) (by omega)).c1, (HR3.out.grown (setAll_grown _ _ _ _ _) (by omega)).c2, (HS3.out.grown (setAll_grown _ _ _ _ _) (by omega)).c0, (HS3.out.grown (setAll_grown _ _ _ _ _) (by omega)).c1, (HS3.out.grown (setAll_grown _ _ _ _ _) (by omega)).c2⟩)
    (first
      | (go_at_call 46; refine (HM.out V1 d1 V2 d2 _ (by first | exact HN12.out | exact Rd.drew HN12.out) (by first | exact HN22.out | exact Rd.drew HN22.out)).mono ?_; rintro e v3 ⟨A8, c8, B8, d8, rfl, o8, bb⟩; have sv3 := bb.size; have HB3 := Lib.hid (below_on HB2.out bb); have HR3 := Lib.hid (HR2.out.on bb); have HS3 := Lib.hid (HS2.out.on bb); have HT3 := Lib.hid (HT2.out.on bb); have HN13 := Lib.hid (HN12.out.on bb); have HN23 := Lib.hid (HN22.out.on bb); have f0 := HT3.out.fz 0; have f1 := HT3.out.fz 1; have f2 := HT3.out.fz 2; have y0 := HT3.out.c0; have y1 := HT3.out.c1; have y2 := HT3.out.c2; have HO8 := Lib.hid o8; clear bb o8)
      | (go_at_call_of 57 B; refine (l01Mul_any B B' _ cb _ cb' y y' _ _ _ (by exact (H0.out.below HB1.out).2) (by exact (H1.out.below HB1.out).2) (by omega) (by omega)).mono ?_; rintro e v2 hnew; rw [HQq.out] at hnew; obtain ⟨V2, d2, rfl, p2, bb⟩ := new_of hnew; have sv2 := bb.size; have HB2 := Lib.hid (below_on HB1.out bb); have HR2 := Lib.hid (HR1.out.on bb); have HS2 := Lib.hid (HS1.out.on bb); have HT2 := Lib.hid (HT1.out.on bb); have HN12 := Lib.hid (HN11.out.on bb); have HN22 := Lib.hid p2; clear hnew p2 bb)
      | (go_at_call_of 57 A; refine (l01Mul_any A A' _ ca _ ca' x x' _ _ _ (by exact (H0.out.below HB0.out).1) (by exact (H1.out.below HB0.out).1) (by omega) (by omega)).mono ?_; rintro e v1 hnew; rw [HPp.out] at hnew; obtain ⟨V1, d1, rfl, p1, bb⟩ := new_of hnew; have bb := undrew bb; have sv1 := bb.size; have HB1 := Lib.hid (below_on HB0.out bb); have HR1 := Lib.hid (HR0.out.on bb); have HS1 := Lib.hid (HS0.out.on bb); have HT1 := Lib.hid (HT0.out.on bb); have HN11 := Lib.hid p1; clear hnew p1 bb))
  go_wp2
  have g2 := fun b u v => setAll_grown v3 (w.heap.size + 1 + 1) (.bool b) u v
  refine bodyPost_ret (retR rfl _ _ _ rfl (HT3.out.setAll _ _ _ _ _ _ _)) rfl ?_
  exact ⟨A8, c8, B8, d8, rfl, ⟨HO8.out.1.past HT3.out (g2 _ _ _), HO8.out.2.past HT3.out (g2 _ _ _)⟩, below_grow HB3.out (by omega) (g2 _ _ _)⟩

theorem l02Mul_any (a b : Rat) (A B : Option Addr) (ca cb : Nat) (A' B' : Option Addr) (ca' cb' : Nat) (P P' : Nat → Prop) (w : World) (h0 : RdR w P (D (nu a)) (D a.den) A ca B cb) (h1 : RdR w P' (D (nu b)) (D b.den) A' ca' B' cb') (l1 : (D (nu a)).length ≤ 400) (l2 : (D a.den).length ≤ 400) (l3 : (D (nu b)).length ≤ 400) (l4 : (D b.den).length ≤ 400) :
    Calls Tryd.prog 32 #[.agg #[.bool (isNeg a), .slice A (D (nu a)).length ca, .slice B (D a.den).length cb], .agg #[.bool (isNeg b), .slice A' (D (nu b)).length ca', .slice B' (D b.den).length cb']] w (SayR w (isNeg (a * b)) (D (nu (a * b))) (D (a * b).den)) :=
  l02Mul_core (isNeg a) (isNeg b) (nu a) a.den (nu b) b.den _ _ rfl rfl _ _ _ A B ca cb A' B' ca' cb' P P' w h0 h1 l1 l2 l3 l4 (mkAt _ _ _ _ (mul_make a b) (add_pos_den a b) (by have := D_len_mul (nu a) (nu b); omega) (by have := D_len_mul a.den b.den; omega))

set_option maxHeartbeats 400000 in
theorem l02Fits_yes (n : Bool) (A B : Option Addr) (la ca lb cb : Nat) (w : World) (hla : la ≤ 40) (hlb : lb ≤ 40) :
    Calls Tryd.prog 55 #[.agg #[.bool n, .slice A la ca, .slice B lb cb]] w fun e w' => e = .returned (.bool true) ∧ Below w.heap.size w w' := by
  have h1 : (la : Int) ≤ 40 := by omega
  have h2 : (lb : Int) ≤ 40 := by omega
  go_enter Tryd.func55, Tryd.ntmps55
  go_wp2
  go_ret
  exact ⟨rfl, below1 _ _⟩

set_option maxHeartbeats 400000 in
theorem l02Fits_no (n : Bool) (A B : Option Addr) (la ca lb cb : Nat) (w : World) (hla : la ≤ 16777216) (hlb : lb ≤ 16777216) (h : 40 < la ∨ 40 < lb) :
    Calls Tryd.prog 55 #[.agg #[.bool n, .slice A la ca, .slice B lb cb]] w fun e w' => e = .returned (.bool false) ∧ Below w.heap.size w w' := by
  by_cases h1 : 40 < la
  · have h1' : decide ((la : Int) ≤ 40) = false := decide_eq_false (by omega)
    have h1'' : decide (la ≤ 40) = false := decide_eq_false (by omega)
    clear h
    go_enter Tryd.func55, Tryd.ntmps55
    go_wp2
    go_ret
    exact ⟨rfl, below1 _ _⟩
  · have h1' : (la : Int) ≤ 40 := by omega
    have h2'' : decide (lb ≤ 40) = false := decide_eq_false (by omega)
    clear h
    go_enter Tryd.func55, Tryd.ntmps55
    go_wp2
    go_ret
    refine ⟨?_, below1 _ _⟩
    have h2 : decide ((lb : Int) ≤ 40) = false := decide_eq_false (by have := of_decide_eq_false h2''; omega)
    first | rfl | (rw [h2]; rfl) | (rw [h2'']; rfl)

set_option maxHeartbeats 400000 in
theorem l02Fit_yes (n : Bool) (A B : Option Addr) (ca cb : Nat) (xs ys : List Int) (P : Nat → Prop) (w : World) (h0 : RdR w P xs ys A ca B cb) (hx : xs.length ≤ 40) (hy : ys.length ≤ 40) :
    Calls Tryd.prog 31 #[.agg #[.bool n, .slice A xs.length ca, .slice B ys.length cb]] w (SayRC' w n xs ys 0) := by
  have H := Lib.hid (h0.mono (Q := (· < w.heap.size)) fun _ _ h => h)
  clear h0
  go_enter Tryd.func31, Tryd.ntmps31
  go_wp2_with fail
  refine calls_at (fun W => Below w.heap.size w W ∧ RatAt W w.heap.size 25 n A xs.length ca B ys.length cb ∧ RatAt W (w.heap.size + 1) 25 false none 0 0 none 0 0)
    ⟨below2 _ _ _, (RatAt.new _ _ _ _ _ _ _ _ _).alloc _, RatAt.new1 _ _ _ _ _ _ _ _ _ _⟩ ?_
  rintro W ⟨hb, r0, r1⟩
  refine (l02Fits_yes n A B _ ca _ cb W hx hy).mono ?_
  rintro e w1 ⟨rfl, b1⟩
  have HB2 := Lib.hid (below_on hb b1)
  have HR0 := Lib.hid (r0.on b1)
  have HR2 := Lib.hid (r1.on b1)
  clear hb r0 r1 b1
  have c0 := HR0.out.c0
  have c1 := HR0.out.c1
  have c2 := HR0.out.c2
  go_wp2_with fail
  clear c0 c1 c2
  refine (l02Own_any n A B ca cb xs ys _ w1 (H.out.below HB2.out) (by omega) (by omega)).mono ?_
  rintro e w3 ⟨A1, d1, A2, d2, rfl, o3, b3⟩
  have HB3 := Lib.hid (below_on HB2.out b3)
  have HR3 := Lib.hid (HR2.out.on b3)
  have HO3 := Lib.hid o3
  clear o3 b3
  have f0 := HR3.out.fz 0
  have f1 := HR3.out.fz 1
  have f2 := HR3.out.fz 2
  have y0 := HR3.out.c0
  have y1 := HR3.out.c1
  have y2 := HR3.out.c2
  go_wp2
  have g2 := fun b u v => setAll_grown w3 (w.heap.size + 1) (.bool b) u v
  refine bodyPost_ret (retRC rfl _ _ _ rfl (HR3.out.setAll _ _ _ _ _ _ _)) rfl ?_
  exact ⟨A1, d1, A2, d2, rfl, ⟨HO3.out.1.past HR3.out (g2 _ _ _), HO3.out.2.past HR3.out (g2 _ _ _)⟩, below_grow HB3.out (by omega) (g2 _ _ _)⟩

set_option maxHeartbeats 400000 in
theorem l02Fit_no (n : Bool) (A B : Option Addr) (la ca lb cb : Nat) (w : World) (hla : la ≤ 16777216) (hlb : lb ≤ 16777216) (h : 40 < la ∨ 40 < lb) :
    Calls Tryd.prog 31 #[.agg #[.bool n, .slice A la ca, .slice B lb cb]] w (SayRC' w false [] [] 7) := by
  go_enter Tryd.func31, Tryd.ntmps31
  go_wp2_with fail
  refine calls_at (fun W => Below w.heap.size w W ∧ RatAt W (w.heap.size + 1) 25 false none 0 0 none 0 0)
    ⟨below2 _ _ _, RatAt.new1 _ _ _ _ _ _ _ _ _ _⟩ ?_
  rintro W ⟨hb, r1⟩
  refine (l02Fits_no n A B _ ca _ cb W hla hlb h).mono ?_
  rintro e w1 ⟨rfl, b1⟩
  have HB2 := Lib.hid (below_on hb b1)
  have HR3 := Lib.hid (r1.on b1)
  clear hb r1 b1
  have f0 := HR3.out.fz 0
  have f1 := HR3.out.fz 1
  have f2 := HR3.out.fz 2
  have y0 := HR3.out.c0
  have y1 := HR3.out.c1
  have y2 := HR3.out.c2
  go_wp2
  have g2 := fun b u v => setAll_grown w1 (w.heap.size + 1) (.bool b) u v
  refine bodyPost_ret (retRC rfl _ _ _ rfl (HR3.out.setAll _ _ _ _ _ _ _)) rfl ?_
  exact ⟨none, 0, none, 0, rfl, ⟨Rd.nil_ _ _ _ _ (fun _ => rfl), Rd.nil_ _ _ _ _ (fun _ => rfl)⟩, below_grow HB2.out (by omega) (g2 _ _ _)⟩

theorem l02Fit_any (r : Rat) (A B : Option Addr) (ca cb : Nat) (P : Nat → Prop) (w : World) (h0 : RdR w P (D (nu r)) (D r.den) A ca B cb) (l1 : (D (nu r)).length ≤ 16777216) (l2 : (D r.den).length ≤ 16777216) :
    Calls Tryd.prog 31 #[.agg #[.bool (isNeg r), .slice A (D (nu r)).length ca, .slice B (D r.den).length cb]] w (SayRC' w (fN r) (fX r) (fY r) (fK r)) := by
  unfold fN fX fY fK
  by_cases h : fitQ r
  · rw [if_pos h, if_pos h, if_pos h, if_pos h]
    exact l02Fit_yes _ A B ca cb _ _ P w h0 h.1 h.2
  · rw [if_neg h, if_neg h, if_neg h, if_neg h]
    exact l02Fit_no _ A B _ ca _ cb w l1 l2 (by unfold fitQ at h; omega)
end Go.Proofs.YtgeijojkfojfbaaDoor
