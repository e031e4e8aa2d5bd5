/-
  NegRat, AbsRat of the model; what its functions of one rational answer where it is not right.
-/
import Derived.Test.YtojjopielekpdaaSpecOwn
namespace Nt
open Go Go.RowKit
/-- a rational that can be read, and a code -/
def SayRC' (w : World) (neg : Bool) (xs ys : List Int) (code : Int) (e : Ending) (w' : World) : Prop :=
  ∃ A ca B cb, e = .returned (.tuple #[.agg #[.bool neg, .slice A xs.length ca, .slice B ys.length cb], .int .i64 code]) ∧ RdR w' (fun _ => True) xs ys A ca B cb ∧ Below w.heap.size w w'
end Nt
namespace Go.Proofs.Ytojjopielekpdaa
open Go Go.RowKit Nt

set_option maxHeartbeats 400000 in
theorem l02Neg_any (neg : Bool) (A B : Option Addr) (la ca lb cb : Nat) (w : World) (hla : la ≤ 16777216) :
    Calls Try.prog 44 #[.agg #[.bool neg, .slice A la ca, .slice B lb cb]] w fun e w' => e = .returned (.agg #[.bool (!neg && decide (0 < la)), .slice A la ca, .slice B lb cb]) ∧ Below w.heap.size w w' := by
  cases neg with
  | true =>
    go_enter Try.func44, Try.ntmps44
    go_wp2
    refine bodyPost_ret (retR rfl _ _ _ rfl (RatAt.new1 _ _ _ _ _ _ _ _ _ _)) rfl ⟨rfl, below2 _ _ _⟩
  | false =>
    by_cases hp : 0 < la
    · have HE : Hid ((!false && decide (0 < la)) = true) := Lib.hid (by simpa using hp)
      have hp' : (0 : Int) < la := by omega
      go_enter Try.func44, Try.ntmps44
      go_wp2
      refine bodyPost_ret (retR rfl _ _ _ rfl (RatAt.new1 _ _ _ _ _ _ _ _ _ _)) rfl ⟨by rw [HE.out], below2 _ _ _⟩
    · have HE : Hid ((!false && decide (0 < la)) = false) := Lib.hid (by simpa using hp)
      have hp' : decide ((0 : Int) < la) = false := decide_eq_false (by omega)
      go_enter Try.func44, Try.ntmps44
      go_wp2
      refine bodyPost_ret (retR rfl _ _ _ rfl (RatAt.new1 _ _ _ _ _ _ _ _ _ _)) rfl ⟨by rw [HE.out], below2 _ _ _⟩

set_option maxHeartbeats 400000 in
theorem specNegRat_bad (neg : Bool) (A B : Option Addr) (la ca lb cb : Nat) (xs ys : List Int) (P Q : Nat → Prop) (w : World) (hx : Rd w P A la ca xs) (hy : Rd w Q B lb cb ys) (hla : la ≤ 16777216) (hlb : lb ≤ 16777216) (hok : okR neg xs ys = false) :
    Calls Try.prog 22 #[.agg #[.bool neg, .slice A la ca, .slice B lb cb]] w (SayRC' w false [] [] 1) := by
  have HX := Lib.hid (hx.mono (Q := (· < w.heap.size)) fun _ _ h => h)
  have HY := Lib.hid (hy.mono (Q := (· < w.heap.size)) fun _ _ h => h)
  have HC := Lib.hid hok
  clear hx hy hok
  go_enter Try.func22, Try.ntmps22
  go_wp2_with fail
  refine calls_at (fun W => Below w.heap.size w W ∧ RatAt W w.heap.size 32 neg A la ca B lb cb ∧ RatAt W (w.heap.size + 1) 32 false none 0 0 none 0 0)
    ⟨below2 _ _ _, (RatAt.new _ _ _ _ _ _ _ _ _).alloc _, RatAt.new1 _ _ _ _ _ _ _ _ _ _⟩ ?_
  rintro W ⟨hb, r0, r1⟩
  refine (specRatOK_any neg A B la ca lb cb xs ys _ _ W (HX.out.below hb) (HY.out.below hb) hla hlb).mono ?_
  rintro e w1 ⟨rfl, b1⟩
  rw [HC.out]
  have HB1 := Lib.hid (below_on hb b1)
  have HR1 := Lib.hid (r1.on b1)
  clear hb r0 r1 b1
  have f0 := HR1.out.fz 0
  have f1 := HR1.out.fz 1
  have f2 := HR1.out.fz 2
  have y0 := HR1.out.c0
  have y1 := HR1.out.c1
  have y2 := HR1.out.c2
  go_wp2
  have g2 := setAll_grown w1 (w.heap.size + 1) (.bool false) (.slice none 0 0) (.slice none 0 0)
  refine bodyPost_ret (retRC rfl _ _ _ rfl (HR1.out.setAll _ _ _ _ _ _ _)) rfl ?_
  exact ⟨none, 0, none, 0, rfl, ⟨Rd.nil_ _ _ _ _ (fun _ => rfl), Rd.nil_ _ _ _ _ (fun _ => rfl)⟩, below_grow HB1.out (by omega) g2⟩

set_option maxHeartbeats 400000 in
theorem specAbsRat_bad (neg : Bool) (A B : Option Addr) (la ca lb cb : Nat) (xs ys : List Int) (P Q : Nat → Prop) (w : World) (hx : Rd w P A la ca xs) (hy : Rd w Q B lb cb ys) (hla : la ≤ 16777216) (hlb : lb ≤ 16777216) (hok : okR neg xs ys = false) :
    Calls Try.prog 26 #[.agg #[.bool neg, .slice A la ca, .slice B lb cb]] w (SayRC' w false [] [] 1) := by
  have HX := Lib.hid (hx.mono (Q := (· < w.heap.size)) fun _ _ h => h)
  have HY := Lib.hid (hy.mono (Q := (· < w.heap.size)) fun _ _ h => h)
  have HC := Lib.hid hok
  clear hx hy hok
  go_enter Try.func26, Try.ntmps26
  go_wp2_with fail
  refine calls_at (fun W => Below w.heap.size w W ∧ RatAt W w.heap.size 32 neg A la ca B lb cb ∧ RatAt W (w.heap.size + 1) 32 false none 0 0 none 0 0)
    ⟨below2 _ _ _, (RatAt.new _ _ _ _ _ _ _ _ _).alloc _, RatAt.new1 _ _ _ _ _ _ _ _ _ _⟩ ?_
  rintro W ⟨hb, r0, r1⟩
  refine (specRatOK_any neg A B la ca lb cb xs ys _ _ W (HX.out.below hb) (HY.out.below hb) hla hlb).mono ?_
  rintro e w1 ⟨rfl, b1⟩
  rw [HC.out]
  have HB1 := Lib.hid (below_on hb b1)
  have HR1 := Lib.hid (r1.on b1)
  clear hb r0 r1 b1
  have f0 := HR1.out.fz 0
  have f1 := HR1.out.fz 1
  have f2 := HR1.out.fz 2
  have y0 := HR1.out.c0
  have y1 := HR1.out.c1
  have y2 := HR1.out.c2
  go_wp2
  have g2 := setAll_grown w1 (w.heap.size + 1) (.bool false) (.slice none 0 0) (.slice none 0 0)
  refine bodyPost_ret (retRC rfl _ _ _ rfl (HR1.out.setAll _ _ _ _ _ _ _)) rfl ?_
  exact ⟨none, 0, none, 0, rfl, ⟨Rd.nil_ _ _ _ _ (fun _ => rfl), Rd.nil_ _ _ _ _ (fun _ => rfl)⟩, below_grow HB1.out (by omega) g2⟩

set_option maxHeartbeats 400000 in
theorem specFloorRat_bad (neg : Bool) (A B : Option Addr) (la ca lb cb : Nat) (xs ys : List Int) (P Q : Nat → Prop) (w : World) (hx : Rd w P A la ca xs) (hy : Rd w Q B lb cb ys) (hla : la ≤ 16777216) (hlb : lb ≤ 16777216) (hok : okR neg xs ys = false) :
    Calls Try.prog 28 #[.agg #[.bool neg, .slice A la ca, .slice B lb cb]] w (SayRC' w false [] [] 1) := by
  have HX := Lib.hid (hx.mono (Q := (· < w.heap.size)) fun _ _ h => h)
  have HY := Lib.hid (hy.mono (Q := (· < w.heap.size)) fun _ _ h => h)
  have HC := Lib.hid hok
  clear hx hy hok
  go_enter Try.func28, Try.ntmps28
  go_wp2_with fail
  refine calls_at (fun W => Below w.heap.size w W ∧ RatAt W w.heap.size 32 neg A la ca B lb cb ∧ RatAt W (w.heap.size + 1) 32 false none 0 0 none 0 0)
    ⟨below2 _ _ _, (RatAt.new _ _ _ _ _ _ _ _ _).alloc _, RatAt.new1 _ _ _ _ _ _ _ _ _ _⟩ ?_
  rintro W ⟨hb, r0, r1⟩
  refine (specRatOK_any neg A B la ca lb cb xs ys _ _ W (HX.out.below hb) (HY.out.below hb) hla hlb).mono ?_
  rintro e w1 ⟨rfl, b1⟩
  rw [HC.out]
  have HB1 := Lib.hid (below_on hb b1)
  have HR1 := Lib.hid (r1.on b1)
  clear hb r0 r1 b1
  have f0 := HR1.out.fz 0
  have f1 := HR1.out.fz 1
  have f2 := HR1.out.fz 2
  have y0 := HR1.out.c0
  have y1 := HR1.out.c1
  have y2 := HR1.out.c2
  go_wp2
  have g2 := setAll_grown w1 (w.heap.size + 1) (.bool false) (.slice none 0 0) (.slice none 0 0)
  refine bodyPost_ret (retRC rfl _ _ _ rfl (HR1.out.setAll _ _ _ _ _ _ _)) rfl ?_
  exact ⟨none, 0, none, 0, rfl, ⟨Rd.nil_ _ _ _ _ (fun _ => rfl), Rd.nil_ _ _ _ _ (fun _ => rfl)⟩, below_grow HB1.out (by omega) g2⟩


set_option maxHeartbeats 400000 in
theorem specNegRat_ok (r : Rat) (A B : Option Addr) (ca cb : Nat) (P : Nat → Prop) (w : World) (hr : RdR w P (D (nu r)) (D r.den) A ca B cb) (h1 : nu r < Top) (h2 : r.den < Top) :
    Calls Try.prog 22 #[.agg #[.bool (isNeg r), .slice A (D (nu r)).length ca, .slice B (D r.den).length cb]] w (SayRC' w (isNeg (-r)) (D (nu (-r))) (D (-r).den) 0) := by
  have H := Lib.hid (hr.mono (Q := (· < w.heap.size)) fun _ _ h => h)
  have hl1 := (D_len_le (nu r) 40).2 h1
  have hl2 := (D_len_le r.den 40).2 h2
  have HC := Lib.hid (okR_rat r h1 h2)
  clear hr
  go_enter Try.func22, Try.ntmps22
  go_wp2_with fail
  refine calls_at (fun W => Below w.heap.size w W ∧ RatAt W w.heap.size 32 (isNeg r) A (D (nu r)).length ca B (D r.den).length cb ∧ RatAt W (w.heap.size + 1) 32 false none 0 0 none 0 0)
    ⟨below2 _ _ _, (RatAt.new _ _ _ _ _ _ _ _ _).alloc _, RatAt.new1 _ _ _ _ _ _ _ _ _ _⟩ ?_
  rintro W ⟨hb, r0, r1⟩
  refine (specRatOK_any (isNeg r) A B _ ca _ cb (D (nu r)) (D r.den) _ _ W (H.out.below hb).1 (H.out.below hb).2 (by omega) (by omega)).mono ?_
  rintro e w1 ⟨rfl, b1⟩
  rw [HC.out]
  have HB1 := Lib.hid (below_on hb b1)
  have HR0 := Lib.hid (r0.on b1)
  have HR1 := Lib.hid (r1.on b1)
  clear hb r0 r1 b1
  have c0 := HR0.out.c0
  have c1 := HR0.out.c1
  have c2 := HR0.out.c2
  have hs1 := HR1.out.lt
  go_wp2_with fail
  refine (l02Neg_any (isNeg r) A B _ ca _ cb w1 (by omega)).mono ?_
  rintro e w2 ⟨rfl, b2⟩
  have HB2 := Lib.hid (below_on HB1.out b2)
  have HR2 := Lib.hid (HR1.out.on b2)
  clear b2 c0 c1 c2
  go_wp2_with fail
  refine (l02Own_any _ A B ca cb (D (nu r)) (D r.den) _ w2 (H.out.below HB2.out) (by omega) (by omega)).mono ?_
  rintro e w3 ⟨A1, d1, A2, d2, rfl, o3, b3⟩
  have HB3 := Lib.hid (below_on HB2.out b3)
  have HR3 := Lib.hid (HR2.out.on b3)
  have HO3 := Lib.hid o3
  clear o3 b3
  have f0 := HR3.out.fz 0
  have f1 := HR3.out.fz 1
  have f2 := HR3.out.fz 2
  have y0 := HR3.out.c0
  have y1 := HR3.out.c1
  have y2 := HR3.out.c2
  go_wp2
  have g2 := fun b u v => setAll_grown w3 (w.heap.size + 1) (.bool b) u v
  refine bodyPost_ret (retRC rfl _ _ _ rfl (HR3.out.setAll _ _ _ _ _ _ _)) rfl ?_
  obtain ⟨e1, e2, e3⟩ := neg_parts r
  rw [e1, e2, e3]
  exact ⟨A1, d1, A2, d2, rfl, ⟨HO3.out.1.past HR3.out (g2 _ _ _), HO3.out.2.past HR3.out (g2 _ _ _)⟩, below_grow HB3.out (by omega) (g2 _ _ _)⟩

set_option maxHeartbeats 400000 in
theorem specAbsRat_ok (r : Rat) (A B : Option Addr) (ca cb : Nat) (P : Nat → Prop) (w : World) (hr : RdR w P (D (nu r)) (D r.den) A ca B cb) (h1 : nu r < Top) (h2 : r.den < Top) :
    Calls Try.prog 26 #[.agg #[.bool (isNeg r), .slice A (D (nu r)).length ca, .slice B (D r.den).length cb]] w (SayRC' w (isNeg (absQ r)) (D (nu (absQ r))) (D (absQ r).den) 0) := by
  have H := Lib.hid (hr.mono (Q := (· < w.heap.size)) fun _ _ h => h)
  have hl1 := (D_len_le (nu r) 40).2 h1
  have hl2 := (D_len_le r.den 40).2 h2
  have HC := Lib.hid (okR_rat r h1 h2)
  clear hr
  go_enter Try.func26, Try.ntmps26
  go_wp2_with fail
  refine calls_at (fun W => Below w.heap.size w W ∧ RatAt W w.heap.size 32 (isNeg r) A (D (nu r)).length ca B (D r.den).length cb ∧ RatAt W (w.heap.size + 1) 32 false none 0 0 none 0 0)
    ⟨below2 _ _ _, (RatAt.new _ _ _ _ _ _ _ _ _).alloc _, RatAt.new1 _ _ _ _ _ _ _ _ _ _⟩ ?_
  rintro W ⟨hb, r0, r1⟩
  refine (specRatOK_any (isNeg r) A B _ ca _ cb (D (nu r)) (D r.den) _ _ W (H.out.below hb).1 (H.out.below hb).2 (by omega) (by omega)).mono ?_
  rintro e w1 ⟨rfl, b1⟩
  rw [HC.out]
  have HB1 := Lib.hid (below_on hb b1)
  have HR0 := Lib.hid (r0.on b1)
  have HR1 := Lib.hid (r1.on b1)
  clear hb r0 r1 b1
  have c0 := HR0.out.c0
  have c1 := HR0.out.c1
  have c2 := HR0.out.c2
  have hs1 := HR1.out.lt
  have f00 := HR0.out.fz 0
  go_wp2_with fail
  refine calls_at (fun V => Below w.heap.size w V ∧ RatAt V (w.heap.size + 1) 32 false none 0 0 none 0 0)
    ⟨below_set HB1.out (Nat.le_refl _) _ _, HR1.out.grown (set_grown _ _ _ _) (by omega)⟩ ?_
  rintro w2 ⟨b2, r2⟩
  have HB2 := Lib.hid b2
  have HR2 := Lib.hid r2
  clear b2 r2 c0 c1 c2 f00
  refine (l02Own_any _ A B ca cb (D (nu r)) (D r.den) _ w2 (H.out.below HB2.out) (by omega) (by omega)).mono ?_
  rintro e w3 ⟨A1, d1, A2, d2, rfl, o3, b3⟩
  have HB3 := Lib.hid (below_on HB2.out b3)
  have HR3 := Lib.hid (HR2.out.on b3)
  have HO3 := Lib.hid o3
  clear o3 b3
  have f0 := HR3.out.fz 0
  have f1 := HR3.out.fz 1
  have f2 := HR3.out.fz 2
  have y0 := HR3.out.c0
  have y1 := HR3.out.c1
  have y2 := HR3.out.c2
  go_wp2
  have g2 := fun b u v => setAll_grown w3 (w.heap.size + 1) (.bool b) u v
  refine bodyPost_ret (retRC rfl _ _ _ rfl (HR3.out.setAll _ _ _ _ _ _ _)) rfl ?_
  obtain ⟨e1, e2, e3⟩ := abs_parts r
  rw [e1, e2, e3]
  exact ⟨A1, d1, A2, d2, rfl, ⟨HO3.out.1.past HR3.out (g2 _ _ _), HO3.out.2.past HR3.out (g2 _ _ _)⟩, below_grow HB3.out (by omega) (g2 _ _ _)⟩
end Go.Proofs.Ytojjopielekpdaa
