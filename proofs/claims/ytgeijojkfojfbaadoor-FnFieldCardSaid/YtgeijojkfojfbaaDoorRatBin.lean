/-
  Sums, differences, products: AddRat, SubRat, MulRat of the program and of the model.
-/
import Derived.Test.YtgeijojkfojfbaaDoorSpecArith
namespace Go.Proofs.YtgeijojkfojfbaaDoor
open Go Go.RowKit Nt

set_option maxHeartbeats 400000 in
theorem implMulRat_bad (n : Bool) (A B : Option Addr) (la ca lb cb : Nat) (xs ys : List Int) (n' : Bool) (A' B' : Option Addr) (la' ca' lb' cb' : Nat) (xs' ys' : List Int) (P P' : Nat → Prop) (w : World) (hx : Rd w P A la ca xs) (hy : Rd w P B lb cb ys) (hx' : Rd w P' A' la' ca' xs') (hy' : Rd w P' B' lb' cb' ys') (hla : la ≤ 16777216) (hlb : lb ≤ 16777216) (hla' : la' ≤ 16777216) (hlb' : lb' ≤ 16777216) (hok : (okR n xs ys && okR n' xs' ys') = false) :
    Calls Tryd.prog 8 #[.agg #[.bool n, .slice A la ca, .slice B lb cb], .agg #[.bool n', .slice A' la' ca', .slice B' lb' cb']] w (RetRC 3 w false [] [] 1) := by
  have HC : Hid ((1 : Int) = if okR n xs ys = true ∧ okR n' xs' ys' = true then 0 else 1) := Lib.hid (by rw [if_neg]; intro h; rw [h.1, h.2] at hok; cases hok)
  clear hok
  have HX := Lib.hid (hx.mono (Q := (· < w.heap.size)) fun _ _ h => h)
  have HY := Lib.hid (hy.mono (Q := (· < w.heap.size)) fun _ _ h => h)
  have HX' := Lib.hid (hx'.mono (Q := (· < w.heap.size)) fun _ _ h => h)
  have HY' := Lib.hid (hy'.mono (Q := (· < w.heap.size)) fun _ _ h => h)
  clear hx hy hx' hy'
  go_enter Tryd.func8, Tryd.ntmps8
  go_wp2_with fail
  have hb := below3 w (.cells #[.bool n, .slice A la ca, .slice B lb cb] 25) (.cells #[.bool n', .slice A' la' ca', .slice B' lb' cb'] 25) (.cells #[.bool false, .slice none 0 0, .slice none 0 0] 25)
  have r2 := RatAt.new2 w (.cells #[.bool n, .slice A la ca, .slice B lb cb] 25) (.cells #[.bool n', .slice A' la' ca', .slice B' lb' cb'] 25) 25 false none none 0 0 0 0
  have HW : Hid (w.heap.size + 1 + 1 + 1 = (((w.alloc (.cells #[.bool n, .slice A la ca, .slice B lb cb] 25)).alloc (.cells #[.bool n', .slice A' la' ca', .slice B' lb' cb'] 25)).alloc (.cells #[.bool false, .slice none 0 0, .slice none 0 0] 25)).heap.size) := Lib.hid (by simp)
  generalize ((w.alloc (.cells #[.bool n, .slice A la ca, .slice B lb cb] 25)).alloc (.cells #[.bool n', .slice A' la' ca', .slice B' lb' cb'] 25)).alloc (.cells #[.bool false, .slice none 0 0, .slice none 0 0] 25) = W at *
  refine (code2 n A la ca B lb cb xs ys n' A' la' ca' B' lb' cb' xs' ys' _ _ W _ HW.out (HX.out.below hb) (HY.out.below hb) (HX'.out.below hb) (HY'.out.below hb) hla hlb hla' hlb' 1 HC.out).mono ?_
  rintro e w1 ⟨rfl, b1⟩
  have HB1 := Lib.hid (below_on hb b1)
  have HT1 := Lib.hid (r2.on b1)
  clear hb r2 b1
  have f0 := HT1.out.fz 0
  have f1 := HT1.out.fz 1
  have f2 := HT1.out.fz 2
  have y0 := HT1.out.c0
  have y1 := HT1.out.c1
  have y2 := HT1.out.c2
  go_wp2
  have g2 := fun b u v => setAll_grown w1 (w.heap.size + 1 + 1) (.bool b) u v
  refine bodyPost_ret (retRC rfl _ _ _ rfl (HT1.out.setAll _ _ _ _ _ _ _)) rfl ?_
  exact ⟨none, 0, none, 0, rfl, ⟨World.ownsRow_nil _ _ _ _, World.ownsRow_nil _ _ _ _, fun g h e => by cases e⟩, below_grow HB1.out (by omega) (g2 _ _ _)⟩

set_option maxHeartbeats 400000 in
theorem implMulRat_ok (a b : Rat) (A B : Option Addr) (ca cb : Nat) (A' B' : Option Addr) (ca' cb' : Nat) (P P' : Nat → Prop) (w : World) (h0 : RdR w P (D (nu a)) (D a.den) A ca B cb) (h1 : RdR w P' (D (nu b)) (D b.den) A' ca' B' cb') (l1 : (D (nu a)).length ≤ 400) (l2 : (D a.den).length ≤ 400) (l3 : (D (nu b)).length ≤ 400) (l4 : (D b.den).length ≤ 400) (t1 : nu a < Top) (t2 : a.den < Top) (t3 : nu b < Top) (t4 : b.den < Top) :
    Calls Tryd.prog 8 #[.agg #[.bool (isNeg a), .slice A (D (nu a)).length ca, .slice B (D a.den).length cb], .agg #[.bool (isNeg b), .slice A' (D (nu b)).length ca', .slice B' (D b.den).length cb']] w (RetRC 3 w (fN (a * b)) (fX (a * b)) (fY (a * b)) (fK (a * b))) := by
  have H0 := Lib.hid (h0.mono (Q := (· < w.heap.size)) fun _ _ h => h)
  have H1 := Lib.hid (h1.mono (Q := (· < w.heap.size)) fun _ _ h => h)
  have HC : Hid ((0 : Int) = if okR (isNeg a) (D (nu a)) (D a.den) = true ∧ okR (isNeg b) (D (nu b)) (D b.den) = true then 0 else 1) := Lib.hid (by rw [if_pos ⟨okR_rat a t1 t2, okR_rat b t3 t4⟩])
  have ln := mul_lens a b
  have ln1 : (D (nu (a * b))).length ≤ 16777216 := by omega
  have ln2 : (D (a * b).den).length ≤ 16777216 := by omega
  clear h0 h1 ln
  go_enter Tryd.func8, Tryd.ntmps8
  go_wp2_with fail
  have hb := below3 w (.cells #[.bool (isNeg a), .slice A (D (nu a)).length ca, .slice B (D a.den).length cb] 25) (.cells #[.bool (isNeg b), .slice A' (D (nu b)).length ca', .slice B' (D b.den).length cb'] 25) (.cells #[.bool false, .slice none 0 0, .slice none 0 0] 25)
  have r0 := ((RatAt.new w 25 (isNeg a) A B (D (nu a)).length ca (D a.den).length cb).alloc (.cells #[.bool (isNeg b), .slice A' (D (nu b)).length ca', .slice B' (D b.den).length cb'] 25)).alloc (.cells #[.bool false, .slice none 0 0, .slice none 0 0] 25)
  have r1 := (RatAt.new1 w (.cells #[.bool (isNeg a), .slice A (D (nu a)).length ca, .slice B (D a.den).length cb] 25) 25 (isNeg b) A' B' (D (nu b)).length ca' (D b.den).length cb').alloc (.cells #[.bool false, .slice none 0 0, .slice none 0 0] 25)
  have r2 := RatAt.new2 w (.cells #[.bool (isNeg a), .slice A (D (nu a)).length ca, .slice B (D a.den).length cb] 25) (.cells #[.bool (isNeg b), .slice A' (D (nu b)).length ca', .slice B' (D b.den).length cb'] 25) 25 false none none 0 0 0 0
  have HW : Hid (w.heap.size + 1 + 1 + 1 = (((w.alloc (.cells #[.bool (isNeg a), .slice A (D (nu a)).length ca, .slice B (D a.den).length cb] 25)).alloc (.cells #[.bool (isNeg b), .slice A' (D (nu b)).length ca', .slice B' (D b.den).length cb'] 25)).alloc (.cells #[.bool false, .slice none 0 0, .slice none 0 0] 25)).heap.size) := Lib.hid (by simp)
  generalize ((w.alloc (.cells #[.bool (isNeg a), .slice A (D (nu a)).length ca, .slice B (D a.den).length cb] 25)).alloc (.cells #[.bool (isNeg b), .slice A' (D (nu b)).length ca', .slice B' (D b.den).length cb'] 25)).alloc (.cells #[.bool false, .slice none 0 0, .slice none 0 0] 25) = W at *
  refine (code2 (isNeg a) A _ ca B _ cb (D (nu a)) (D a.den) (isNeg b) A' _ ca' B' _ cb' (D (nu b)) (D b.den) _ _ W _ HW.out (H0.out.below hb).1 (H0.out.below hb).2 (H1.out.below hb).1 (H1.out.below hb).2 (by omega) (by omega) (by omega) (by omega) 0 HC.out).mono ?_
  rintro e w1 ⟨rfl, b1⟩
  have HB1 := Lib.hid (below_on hb b1)
  have HR1 := Lib.hid (r0.on b1)
  have HS1 := Lib.hid (r1.on b1)
  have HT1 := Lib.hid (r2.on b1)
  clear hb r0 r1 r2 b1
  have c00 := HR1.out.c0
  have c01 := HR1.out.c1
  have c02 := HR1.out.c2
  have c10 := HS1.out.c0
  have c11 := HS1.out.c1
  have c12 := HS1.out.c2
  go_wp2_with fail
  clear c00 c01 c02 c10 c11 c12
  refine (times_any a b A B ca cb A' B' ca' cb' _ _ w1 (H0.out.below HB1.out) (H1.out.below HB1.out) l1 l2 l3 l4).mono ?_
  rintro e w2 ⟨A5, c5, B5, d5, rfl, o5, b2⟩
  have HB2 := Lib.hid (below_on HB1.out b2)
  have HT2 := Lib.hid (HT1.out.on b2)
  have HO5 := Lib.hid o5
  clear b2 o5
  go_wp2_with fail
  refine (fitted_any (a * b) A5 B5 c5 d5 _ w2 HO5.out ln1 ln2).mono ?_
  rintro e w3 ⟨A1, d1, A2, d2, rfl, o3, b3⟩
  have HB3 := Lib.hid (below_on HB2.out b3)
  have HT3 := Lib.hid (HT2.out.on b3)
  have HO3 := Lib.hid o3
  have hs2 := HT2.out.lt
  have hs3 := b3.size
  clear o3 b3
  have f0 := HT3.out.fz 0
  have f1 := HT3.out.fz 1
  have f2 := HT3.out.fz 2
  have y0 := HT3.out.c0
  have y1 := HT3.out.c1
  have y2 := HT3.out.c2
  go_wp2
  have g2 := fun b u v => setAll_grown w3 (w.heap.size + 1 + 1) (.bool b) u v
  refine bodyPost_ret (retRC rfl _ _ _ rfl (HT3.out.setAll _ _ _ _ _ _ _)) rfl ?_
  exact ⟨A1, d1, A2, d2, rfl, ⟨own_mono (own_gone HO3.out.1 (g2 _ _ _) (fun k hk => by have := own_block HO3.out.1 hk; omega)) (by have := HB2.out.size; omega), own_mono (own_gone HO3.out.2.1 (g2 _ _ _) (fun k hk => by have := own_block HO3.out.2.1 hk; omega)) (by have := HB2.out.size; omega), HO3.out.2.2⟩, below_grow HB3.out (by omega) (g2 _ _ _)⟩

set_option maxHeartbeats 400000 in
theorem specMulRat_bad (n : Bool) (A B : Option Addr) (la ca lb cb : Nat) (xs ys : List Int) (n' : Bool) (A' B' : Option Addr) (la' ca' lb' cb' : Nat) (xs' ys' : List Int) (P P' : Nat → Prop) (w : World) (hx : Rd w P A la ca xs) (hy : Rd w P B lb cb ys) (hx' : Rd w P' A' la' ca' xs') (hy' : Rd w P' B' lb' cb' ys') (hla : la ≤ 16777216) (hlb : lb ≤ 16777216) (hla' : la' ≤ 16777216) (hlb' : lb' ≤ 16777216) (hok : (okR n xs ys && okR n' xs' ys') = false) :
    Calls Tryd.prog 10 #[.agg #[.bool n, .slice A la ca, .slice B lb cb], .agg #[.bool n', .slice A' la' ca', .slice B' lb' cb']] w (SayRC' w false [] [] 1) := by
  have HOK := Lib.hid hok
  clear hok
  have HX := Lib.hid (hx.mono (Q := (· < w.heap.size)) fun _ _ h => h)
  have HY := Lib.hid (hy.mono (Q := (· < w.heap.size)) fun _ _ h => h)
  have HX' := Lib.hid (hx'.mono (Q := (· < w.heap.size)) fun _ _ h => h)
  have HY' := Lib.hid (hy'.mono (Q := (· < w.heap.size)) fun _ _ h => h)
  clear hx hy hx' hy'
  go_enter Tryd.func10, Tryd.ntmps10
  go_wp2_with fail
  refine calls_at (fun W => Below w.heap.size w W ∧ RatAt W w.heap.size 25 n A la ca B lb cb ∧ RatAt W (w.heap.size + 1) 25 n' A' la' ca' B' lb' cb' ∧ RatAt W (w.heap.size + 1 + 1) 25 false none 0 0 none 0 0)
    ⟨below3 _ _ _ _, ((RatAt.new _ _ _ _ _ _ _ _ _).alloc _).alloc _, (RatAt.new1 _ _ _ _ _ _ _ _ _ _).alloc _, RatAt.new2 _ _ _ _ _ _ _ _ _ _ _⟩ ?_
  rintro W ⟨hb, r0, r1, r2⟩
  refine (l02Ask_any n A B la ca lb cb xs ys n' A' B' la' ca' lb' cb' xs' ys' _ _ W (HX.out.below hb) (HY.out.below hb) (HX'.out.below hb) (HY'.out.below hb) hla hlb hla' hlb').mono ?_
  rintro e w1 ⟨rfl, b1⟩
  rw [HOK.out]
  have HB1 := Lib.hid (below_on hb b1)
  have HT1 := Lib.hid (r2.on b1)
  clear hb r0 r1 r2 b1
  have f0 := HT1.out.fz 0
  have f1 := HT1.out.fz 1
  have f2 := HT1.out.fz 2
  have y0 := HT1.out.c0
  have y1 := HT1.out.c1
  have y2 := HT1.out.c2
  go_wp2
  have g2 := fun b u v => setAll_grown w1 (w.heap.size + 1 + 1) (.bool b) u v
  refine bodyPost_ret (retRC rfl _ _ _ rfl (HT1.out.setAll _ _ _ _ _ _ _)) rfl ?_
  exact ⟨none, 0, none, 0, rfl, ⟨Rd.nil_ _ _ _ _ (fun _ => rfl), Rd.nil_ _ _ _ _ (fun _ => rfl)⟩, below_grow HB1.out (by omega) (g2 _ _ _)⟩

set_option maxHeartbeats 400000 in
theorem specMulRat_ok (a b : Rat) (A B : Option Addr) (ca cb : Nat) (A' B' : Option Addr) (ca' cb' : Nat) (P P' : Nat → Prop) (w : World) (h0 : RdR w P (D (nu a)) (D a.den) A ca B cb) (h1 : RdR w P' (D (nu b)) (D b.den) A' ca' B' cb') (l1 : (D (nu a)).length ≤ 400) (l2 : (D a.den).length ≤ 400) (l3 : (D (nu b)).length ≤ 400) (l4 : (D b.den).length ≤ 400) (t1 : nu a < Top) (t2 : a.den < Top) (t3 : nu b < Top) (t4 : b.den < Top) :
    Calls Tryd.prog 10 #[.agg #[.bool (isNeg a), .slice A (D (nu a)).length ca, .slice B (D a.den).length cb], .agg #[.bool (isNeg b), .slice A' (D (nu b)).length ca', .slice B' (D b.den).length cb']] w (SayRC' w (fN (a * b)) (fX (a * b)) (fY (a * b)) (fK (a * b))) := by
  have H0 := Lib.hid (h0.mono (Q := (· < w.heap.size)) fun _ _ h => h)
  have H1 := Lib.hid (h1.mono (Q := (· < w.heap.size)) fun _ _ h => h)
  have HOK : Hid ((okR (isNeg a) (D (nu a)) (D a.den) && okR (isNeg b) (D (nu b)) (D b.den)) = true) := Lib.hid (by rw [okR_rat a t1 t2, okR_rat b t3 t4]; rfl)
  have ln := mul_lens a b
  have ln1 : (D (nu (a * b))).length ≤ 16777216 := by omega
  have ln2 : (D (a * b).den).length ≤ 16777216 := by omega
  clear h0 h1 ln
  go_enter Tryd.func10, Tryd.ntmps10
  go_wp2_with fail
  refine calls_at (fun W => Below w.heap.size w W ∧ RatAt W w.heap.size 25 (isNeg a) A (D (nu a)).length ca B (D a.den).length cb ∧ RatAt W (w.heap.size + 1) 25 (isNeg b) A' (D (nu b)).length ca' B' (D b.den).length cb' ∧ RatAt W (w.heap.size + 1 + 1) 25 false none 0 0 none 0 0)
    ⟨below3 _ _ _ _, ((RatAt.new _ _ _ _ _ _ _ _ _).alloc _).alloc _, (RatAt.new1 _ _ _ _ _ _ _ _ _ _).alloc _, RatAt.new2 _ _ _ _ _ _ _ _ _ _ _⟩ ?_
  rintro W ⟨hb, r0, r1, r2⟩
  refine (l02Ask_any (isNeg a) A B _ ca _ cb (D (nu a)) (D a.den) (isNeg b) A' B' _ ca' _ cb' (D (nu b)) (D b.den) _ _ W (H0.out.below hb).1 (H0.out.below hb).2 (H1.out.below hb).1 (H1.out.below hb).2 (by omega) (by omega) (by omega) (by omega)).mono ?_
  rintro e w1 ⟨rfl, b1⟩
  rw [HOK.out]
  have HB1 := Lib.hid (below_on hb b1)
  have HR1 := Lib.hid (r0.on b1)
  have HS1 := Lib.hid (r1.on b1)
  have HT1 := Lib.hid (r2.on b1)
  clear hb r0 r1 r2 b1
  have c00 := HR1.out.c0
  have c01 := HR1.out.c1
  have c02 := HR1.out.c2
  have c10 := HS1.out.c0
  have c11 := HS1.out.c1
  have c12 := HS1.out.c2
  go_wp2_with fail
  clear c00 c01 c02 c10 c11 c12
  refine (l02Mul_any a b A B ca cb A' B' ca' cb' _ _ w1 (H0.out.below HB1.out) (H1.out.below HB1.out) l1 l2 l3 l4).mono ?_
  rintro e w2 ⟨A5, c5, B5, d5, rfl, o5, b2⟩
  have HB2 := Lib.hid (below_on HB1.out b2)
  have HT2 := Lib.hid (HT1.out.on b2)
  have HO5 := Lib.hid o5
  clear b2 o5
  go_wp2_with fail
  refine (l02Fit_any (a * b) A5 B5 c5 d5 _ w2 HO5.out ln1 ln2).mono ?_
  rintro e w3 ⟨A1, d1, A2, d2, rfl, o3, b3⟩
  have HB3 := Lib.hid (below_on HB2.out b3)
  have HT3 := Lib.hid (HT2.out.on b3)
  have HO3 := Lib.hid o3
  clear o3 b3
  have f0 := HT3.out.fz 0
  have f1 := HT3.out.fz 1
  have f2 := HT3.out.fz 2
  have y0 := HT3.out.c0
  have y1 := HT3.out.c1
  have y2 := HT3.out.c2
  go_wp2
  have g2 := fun b u v => setAll_grown w3 (w.heap.size + 1 + 1) (.bool b) u v
  refine bodyPost_ret (retRC rfl _ _ _ rfl (HT3.out.setAll _ _ _ _ _ _ _)) rfl ?_
  exact ⟨A1, d1, A2, d2, rfl, ⟨HO3.out.1.past HT3.out (g2 _ _ _), HO3.out.2.past HT3.out (g2 _ _ _)⟩, below_grow HB3.out (by omega) (g2 _ _ _)⟩

set_option maxHeartbeats 400000 in
theorem implAddRat_bad (n : Bool) (A B : Option Addr) (la ca lb cb : Nat) (xs ys : List Int) (n' : Bool) (A' B' : Option Addr) (la' ca' lb' cb' : Nat) (xs' ys' : List Int) (P P' : Nat → Prop) (w : World) (hx : Rd w P A la ca xs) (hy : Rd w P B lb cb ys) (hx' : Rd w P' A' la' ca' xs') (hy' : Rd w P' B' lb' cb' ys') (hla : la ≤ 16777216) (hlb : lb ≤ 16777216) (hla' : la' ≤ 16777216) (hlb' : lb' ≤ 16777216) (hok : (okR n xs ys && okR n' xs' ys') = false) :
    Calls Tryd.prog 7 #[.agg #[.bool n, .slice A la ca, .slice B lb cb], .agg #[.bool n', .slice A' la' ca', .slice B' lb' cb']] w (RetRC 3 w false [] [] 1) := by
  have HC : Hid ((1 : Int) = if okR n xs ys = true ∧ okR n' xs' ys' = true then 0 else 1) := Lib.hid (by rw [if_neg]; intro h; rw [h.1, h.2] at hok; cases hok)
  clear hok
  have HX := Lib.hid (hx.mono (Q := (· < w.heap.size)) fun _ _ h => h)
  have HY := Lib.hid (hy.mono (Q := (· < w.heap.size)) fun _ _ h => h)
  have HX' := Lib.hid (hx'.mono (Q := (· < w.heap.size)) fun _ _ h => h)
  have HY' := Lib.hid (hy'.mono (Q := (· < w.heap.size)) fun _ _ h => h)
  clear hx hy hx' hy'
  go_enter Tryd.func7, Tryd.ntmps7
  go_wp2_with fail
  have hb := below3 w (.cells #[.bool n, .slice A la ca, .slice B lb cb] 25) (.cells #[.bool n', .slice A' la' ca', .slice B' lb' cb'] 25) (.cells #[.bool false, .slice none 0 0, .slice none 0 0] 25)
  have r2 := RatAt.new2 w (.cells #[.bool n, .slice A la ca, .slice B lb cb] 25) (.cells #[.bool n', .slice A' la' ca', .slice B' lb' cb'] 25) 25 false none none 0 0 0 0
  have HW : Hid (w.heap.size + 1 + 1 + 1 = (((w.alloc (.cells #[.bool n, .slice A la ca, .slice B lb cb] 25)).alloc (.cells #[.bool n', .slice A' la' ca', .slice B' lb' cb'] 25)).alloc (.cells #[.bool false, .slice none 0 0, .slice none 0 0] 25)).heap.size) := Lib.hid (by simp)
  generalize ((w.alloc (.cells #[.bool n, .slice A la ca, .slice B lb cb] 25)).alloc (.cells #[.bool n', .slice A' la' ca', .slice B' lb' cb'] 25)).alloc (.cells #[.bool false, .slice none 0 0, .slice none 0 0] 25) = W at *
  refine (code2 n A la ca B lb cb xs ys n' A' la' ca' B' lb' cb' xs' ys' _ _ W _ HW.out (HX.out.below hb) (HY.out.below hb) (HX'.out.below hb) (HY'.out.below hb) hla hlb hla' hlb' 1 HC.out).mono ?_
  rintro e w1 ⟨rfl, b1⟩
  have HB1 := Lib.hid (below_on hb b1)
  have HT1 := Lib.hid (r2.on b1)
  clear hb r2 b1
  have f0 := HT1.out.fz 0
  have f1 := HT1.out.fz 1
  have f2 := HT1.out.fz 2
  have y0 := HT1.out.c0
  have y1 := HT1.out.c1
  have y2 := HT1.out.c2
  go_wp2
  have g2 := fun b u v => setAll_grown w1 (w.heap.size + 1 + 1) (.bool b) u v
  refine bodyPost_ret (retRC rfl _ _ _ rfl (HT1.out.setAll _ _ _ _ _ _ _)) rfl ?_
  exact ⟨none, 0, none, 0, rfl, ⟨World.ownsRow_nil _ _ _ _, World.ownsRow_nil _ _ _ _, fun g h e => by cases e⟩, below_grow HB1.out (by omega) (g2 _ _ _)⟩

set_option maxHeartbeats 400000 in
theorem implAddRat_ok (a b : Rat) (A B : Option Addr) (ca cb : Nat) (A' B' : Option Addr) (ca' cb' : Nat) (P P' : Nat → Prop) (w : World) (h0 : RdR w P (D (nu a)) (D a.den) A ca B cb) (h1 : RdR w P' (D (nu b)) (D b.den) A' ca' B' cb') (l1 : (D (nu a)).length ≤ 400) (l2 : (D a.den).length ≤ 400) (l3 : (D (nu b)).length ≤ 400) (l4 : (D b.den).length ≤ 400) (t1 : nu a < Top) (t2 : a.den < Top) (t3 : nu b < Top) (t4 : b.den < Top) :
    Calls Tryd.prog 7 #[.agg #[.bool (isNeg a), .slice A (D (nu a)).length ca, .slice B (D a.den).length cb], .agg #[.bool (isNeg b), .slice A' (D (nu b)).length ca', .slice B' (D b.den).length cb']] w (RetRC 3 w (fN (a + b)) (fX (a + b)) (fY (a + b)) (fK (a + b))) := by
  have H0 := Lib.hid (h0.mono (Q := (· < w.heap.size)) fun _ _ h => h)
  have H1 := Lib.hid (h1.mono (Q := (· < w.heap.size)) fun _ _ h => h)
  have HC : Hid ((0 : Int) = if okR (isNeg a) (D (nu a)) (D a.den) = true ∧ okR (isNeg b) (D (nu b)) (D b.den) = true then 0 else 1) := Lib.hid (by rw [if_pos ⟨okR_rat a t1 t2, okR_rat b t3 t4⟩])
  have ln := add_lens a b
  have ln1 : (D (nu (a + b))).length ≤ 16777216 := by omega
  have ln2 : (D (a + b).den).length ≤ 16777216 := by omega
  clear h0 h1 ln
  go_enter Tryd.func7, Tryd.ntmps7
  go_wp2_with fail
  have hb := below3 w (.cells #[.bool (isNeg a), .slice A (D (nu a)).length ca, .slice B (D a.den).length cb] 25) (.cells #[.bool (isNeg b), .slice A' (D (nu b)).length ca', .slice B' (D b.den).length cb'] 25) (.cells #[.bool false, .slice none 0 0, .slice none 0 0] 25)
  have r0 := ((RatAt.new w 25 (isNeg a) A B (D (nu a)).length ca (D a.den).length cb).alloc (.cells #[.bool (isNeg b), .slice A' (D (nu b)).length ca', .slice B' (D b.den).length cb'] 25)).alloc (.cells #[.bool false, .slice none 0 0, .slice none 0 0] 25)
  have r1 := (RatAt.new1 w (.cells #[.bool (isNeg a), .slice A (D (nu a)).length ca, .slice B (D a.den).length cb] 25) 25 (isNeg b) A' B' (D (nu b)).length ca' (D b.den).length cb').alloc (.cells #[.bool false, .slice none 0 0, .slice none 0 0] 25)
  have r2 := RatAt.new2 w (.cells #[.bool (isNeg a), .slice A (D (nu a)).length ca, .slice B (D a.den).length cb] 25) (.cells #[.bool (isNeg b), .slice A' (D (nu b)).length ca', .slice B' (D b.den).length cb'] 25) 25 false none none 0 0 0 0
  have HW : Hid (w.heap.size + 1 + 1 + 1 = (((w.alloc (.cells #[.bool (isNeg a), .slice A (D (nu a)).length ca, .slice B (D a.den).length cb] 25)).alloc (.cells #[.bool (isNeg b), .slice A' (D (nu b)).length ca', .slice B' (D b.den).length cb'] 25)).alloc (.cells #[.bool false, .slice none 0 0, .slice none 0 0] 25)).heap.size) := Lib.hid (by simp)
  generalize ((w.alloc (.cells #[.bool (isNeg a), .slice A (D (nu a)).length ca, .slice B (D a.den).length cb] 25)).alloc (.cells #[.bool (isNeg b), .slice A' (D (nu b)).length ca', .slice B' (D b.den).length cb'] 25)).alloc (.cells #[.bool false, .slice none 0 0, .slice none 0 0] 25) = W at *
  refine (code2 (isNeg a) A _ ca B _ cb (D (nu a)) (D a.den) (isNeg b) A' _ ca' B' _ cb' (D (nu b)) (D b.den) _ _ W _ HW.out (H0.out.below hb).1 (H0.out.below hb).2 (H1.out.below hb).1 (H1.out.below hb).2 (by omega) (by omega) (by omega) (by omega) 0 HC.out).mono ?_
  rintro e w1 ⟨rfl, b1⟩
  have HB1 := Lib.hid (below_on hb b1)
  have HR1 := Lib.hid (r0.on b1)
  have HS1 := Lib.hid (r1.on b1)
  have HT1 := Lib.hid (r2.on b1)
  clear hb r0 r1 r2 b1
  have c00 := HR1.out.c0
  have c01 := HR1.out.c1
  have c02 := HR1.out.c2
  have c10 := HS1.out.c0
  have c11 := HS1.out.c1
  have c12 := HS1.out.c2
  go_wp2_with fail
  clear c00 c01 c02 c10 c11 c12
  refine (plus_any a b A B ca cb A' B' ca' cb' _ _ w1 (H0.out.below HB1.out) (H1.out.below HB1.out) l1 l2 l3 l4).mono ?_
  rintro e w2 ⟨A5, c5, B5, d5, rfl, o5, b2⟩
  have HB2 := Lib.hid (below_on HB1.out b2)
  have HT2 := Lib.hid (HT1.out.on b2)
  have HO5 := Lib.hid o5
  clear b2 o5
  go_wp2_with fail
  refine (fitted_any (a + b) A5 B5 c5 d5 _ w2 HO5.out ln1 ln2).mono ?_
  rintro e w3 ⟨A1, d1, A2, d2, rfl, o3, b3⟩
  have HB3 := Lib.hid (below_on HB2.out b3)
  have HT3 := Lib.hid (HT2.out.on b3)
  have HO3 := Lib.hid o3
  have hs2 := HT2.out.lt
  have hs3 := b3.size
  clear o3 b3
  have f0 := HT3.out.fz 0
  have f1 := HT3.out.fz 1
  have f2 := HT3.out.fz 2
  have y0 := HT3.out.c0
  have y1 := HT3.out.c1
  have y2 := HT3.out.c2
  go_wp2
  have g2 := fun b u v => setAll_grown w3 (w.heap.size + 1 + 1) (.bool b) u v
  refine bodyPost_ret (retRC rfl _ _ _ rfl (HT3.out.setAll _ _ _ _ _ _ _)) rfl ?_
  exact ⟨A1, d1, A2, d2, rfl, ⟨own_mono (own_gone HO3.out.1 (g2 _ _ _) (fun k hk => by have := own_block HO3.out.1 hk; omega)) (by have := HB2.out.size; omega), own_mono (own_gone HO3.out.2.1 (g2 _ _ _) (fun k hk => by have := own_block HO3.out.2.1 hk; omega)) (by have := HB2.out.size; omega), HO3.out.2.2⟩, below_grow HB3.out (by omega) (g2 _ _ _)⟩

set_option maxHeartbeats 400000 in
theorem implSubRat_bad (n : Bool) (A B : Option Addr) (la ca lb cb : Nat) (xs ys : List Int) (n' : Bool) (A' B' : Option Addr) (la' ca' lb' cb' : Nat) (xs' ys' : List Int) (P P' : Nat → Prop) (w : World) (hx : Rd w P A la ca xs) (hy : Rd w P B lb cb ys) (hx' : Rd w P' A' la' ca' xs') (hy' : Rd w P' B' lb' cb' ys') (hla : la ≤ 16777216) (hlb : lb ≤ 16777216) (hla' : la' ≤ 16777216) (hlb' : lb' ≤ 16777216) (hok : (okR n xs ys && okR n' xs' ys') = false) :
    Calls Tryd.prog 9 #[.agg #[.bool n, .slice A la ca, .slice B lb cb], .agg #[.bool n', .slice A' la' ca', .slice B' lb' cb']] w (RetRC 3 w false [] [] 1) := by
  have HC : Hid ((1 : Int) = if okR n xs ys = true ∧ okR n' xs' ys' = true then 0 else 1) := Lib.hid (by rw [if_neg]; intro h; rw [h.1, h.2] at hok; cases hok)
  clear hok
  have HX := Lib.hid (hx.mono (Q := (· < w.heap.size)) fun _ _ h => h)
  have HY := Lib.hid (hy.mono (Q := (· < w.heap.size)) fun _ _ h => h)
  have HX' := Lib.hid (hx'.mono (Q := (· < w.heap.size)) fun _ _ h => h)
  have HY' := Lib.hid (hy'.mono (Q := (· < w.heap.size)) fun _ _ h => h)
  clear hx hy hx' hy'
  go_enter Tryd.func9, Tryd.ntmps9
  go_wp2_with fail
  have hb := below3 w (.cells #[.bool n, .slice A la ca, .slice B lb cb] 25) (.cells #[.bool n', .slice A' la' ca', .slice B' lb' cb'] 25) (.cells #[.bool false, .slice none 0 0, .slice none 0 0] 25)
  have r2 := RatAt.new2 w (.cells #[.bool n, .slice A la ca, .slice B lb cb] 25) (.cells #[.bool n', .slice A' la' ca', .slice B' lb' cb'] 25) 25 false none none 0 0 0 0
  have HW : Hid (w.heap.size + 1 + 1 + 1 = (((w.alloc (.cells #[.bool n, .slice A la ca, .slice B lb cb] 25)).alloc (.cells #[.bool n', .slice A' la' ca', .slice B' lb' cb'] 25)).alloc (.cells #[.bool false, .slice none 0 0, .slice none 0 0] 25)).heap.size) := Lib.hid (by simp)
  generalize ((w.alloc (.cells #[.bool n, .slice A la ca, .slice B lb cb] 25)).alloc (.cells #[.bool n', .slice A' la' ca', .slice B' lb' cb'] 25)).alloc (.cells #[.bool false, .slice none 0 0, .slice none 0 0] 25) = W at *
  refine (code2 n A la ca B lb cb xs ys n' A' la' ca' B' lb' cb' xs' ys' _ _ W _ HW.out (HX.out.below hb) (HY.out.below hb) (HX'.out.below hb) (HY'.out.below hb) hla hlb hla' hlb' 1 HC.out).mono ?_
  rintro e w1 ⟨rfl, b1⟩
  have HB1 := Lib.hid (below_on hb b1)
  have HT1 := Lib.hid (r2.on b1)
  clear hb r2 b1
  have f0 := HT1.out.fz 0
  have f1 := HT1.out.fz 1
  have f2 := HT1.out.fz 2
  have y0 := HT1.out.c0
  have y1 := HT1.out.c1
  have y2 := HT1.out.c2
  go_wp2
  have g2 := fun b u v => setAll_grown w1 (w.heap.size + 1 + 1) (.bool b) u v
  refine bodyPost_ret (retRC rfl _ _ _ rfl (HT1.out.setAll _ _ _ _ _ _ _)) rfl ?_
  exact ⟨none, 0, none, 0, rfl, ⟨World.ownsRow_nil _ _ _ _, World.ownsRow_nil _ _ _ _, fun g h e => by cases e⟩, below_grow HB1.out (by omega) (g2 _ _ _)⟩

set_option maxHeartbeats 400000 in
theorem implSubRat_ok (a b : Rat) (A B : Option Addr) (ca cb : Nat) (A' B' : Option Addr) (ca' cb' : Nat) (P P' : Nat → Prop) (w : World) (h0 : RdR w P (D (nu a)) (D a.den) A ca B cb) (h1 : RdR w P' (D (nu b)) (D b.den) A' ca' B' cb') (l1 : (D (nu a)).length ≤ 400) (l2 : (D a.den).length ≤ 400) (l3 : (D (nu b)).length ≤ 400) (l4 : (D b.den).length ≤ 400) (t1 : nu a < Top) (t2 : a.den < Top) (t3 : nu b < Top) (t4 : b.den < Top) :
    Calls Tryd.prog 9 #[.agg #[.bool (isNeg a), .slice A (D (nu a)).length ca, .slice B (D a.den).length cb], .agg #[.bool (isNeg b), .slice A' (D (nu b)).length ca', .slice B' (D b.den).length cb']] w (RetRC 3 w (fN (a - b)) (fX (a - b)) (fY (a - b)) (fK (a - b))) := by
  have H0 := Lib.hid (h0.mono (Q := (· < w.heap.size)) fun _ _ h => h)
  have H1 := Lib.hid (h1.mono (Q := (· < w.heap.size)) fun _ _ h => h)
  have HC : Hid ((0 : Int) = if okR (isNeg a) (D (nu a)) (D a.den) = true ∧ okR (isNeg b) (D (nu b)) (D b.den) = true then 0 else 1) := Lib.hid (by rw [if_pos ⟨okR_rat a t1 t2, okR_rat b t3 t4⟩])
  have ln := sub_lens a b
  have ln1 : (D (nu (a - b))).length ≤ 16777216 := by omega
  have ln2 : (D (a - b).den).length ≤ 16777216 := by omega
  clear h0 h1 ln
  go_enter Tryd.func9, Tryd.ntmps9
  go_wp2_with fail
  have hb := below3 w (.cells #[.bool (isNeg a), .slice A (D (nu a)).length ca, .slice B (D a.den).length cb] 25) (.cells #[.bool (isNeg b), .slice A' (D (nu b)).length ca', .slice B' (D b.den).length cb'] 25) (.cells #[.bool false, .slice none 0 0, .slice none 0 0] 25)
  have r0 := ((RatAt.new w 25 (isNeg a) A B (D (nu a)).length ca (D a.den).length cb).alloc (.cells #[.bool (isNeg b), .slice A' (D (nu b)).length ca', .slice B' (D b.den).length cb'] 25)).alloc (.cells #[.bool false, .slice none 0 0, .slice none 0 0] 25)
  have r1 := (RatAt.new1 w (.cells #[.bool (isNeg a), .slice A (D (nu a)).length ca, .slice B (D a.den).length cb] 25) 25 (isNeg b) A' B' (D (nu b)).length ca' (D b.den).length cb').alloc (.cells #[.bool false, .slice none 0 0, .slice none 0 0] 25)
  have r2 := RatAt.new2 w (.cells #[.bool (isNeg a), .slice A (D (nu a)).length ca, .slice B (D a.den).length cb] 25) (.cells #[.bool (isNeg b), .slice A' (D (nu b)).length ca', .slice B' (D b.den).length cb'] 25) 25 false none none 0 0 0 0
  have HW : Hid (w.heap.size + 1 + 1 + 1 = (((w.alloc (.cells #[.bool (isNeg a), .slice A (D (nu a)).length ca, .slice B (D a.den).length cb] 25)).alloc (.cells #[.bool (isNeg b), .slice A' (D (nu b)).length ca', .slice B' (D b.den).length cb'] 25)).alloc (.cells #[.bool false, .slice none 0 0, .slice none 0 0] 25)).heap.size) := Lib.hid (by simp)
  generalize ((w.alloc (.cells #[.bool (isNeg a), .slice A (D (nu a)).length ca, .slice B (D a.den).length cb] 25)).alloc (.cells #[.bool (isNeg b), .slice A' (D (nu b)).length ca', .slice B' (D b.den).length cb'] 25)).alloc (.cells #[.bool false, .slice none 0 0, .slice none 0 0] 25) = W at *
  refine (code2 (isNeg a) A _ ca B _ cb (D (nu a)) (D a.den) (isNeg b) A' _ ca' B' _ cb' (D (nu b)) (D b.den) _ _ W _ HW.out (H0.out.below hb).1 (H0.out.below hb).2 (H1.out.below hb).1 (H1.out.below hb).2 (by omega) (by omega) (by omega) (by omega) 0 HC.out).mono ?_
  rintro e w1 ⟨rfl, b1⟩
  have HB1 := Lib.hid (below_on hb b1)
  have HR1 := Lib.hid (r0.on b1)
  have HS1 := Lib.hid (r1.on b1)
  have HT1 := Lib.hid (r2.on b1)
  clear hb r0 r1 r2 b1
  have c00 := HR1.out.c0
  have c01 := HR1.out.c1
  have c02 := HR1.out.c2
  have c10 := HS1.out.c0
  have c11 := HS1.out.c1
  have c12 := HS1.out.c2
  go_wp2_with fail
  clear c00 c01 c02 c10 c11 c12
  refine (minus_any a b A B ca cb A' B' ca' cb' _ _ w1 (H0.out.below HB1.out) (H1.out.below HB1.out) l1 l2 l3 l4).mono ?_
  rintro e w2 ⟨A5, c5, B5, d5, rfl, o5, b2⟩
  have HB2 := Lib.hid (below_on HB1.out b2)
  have HT2 := Lib.hid (HT1.out.on b2)
  have HO5 := Lib.hid o5
  clear b2 o5
  go_wp2_with fail
  refine (fitted_any (a - b) A5 B5 c5 d5 _ w2 HO5.out ln1 ln2).mono ?_
  rintro e w3 ⟨A1, d1, A2, d2, rfl, o3, b3⟩
  have HB3 := Lib.hid (below_on HB2.out b3)
  have HT3 := Lib.hid (HT2.out.on b3)
  have HO3 := Lib.hid o3
  have hs2 := HT2.out.lt
  have hs3 := b3.size
  clear o3 b3
  have f0 := HT3.out.fz 0
  have f1 := HT3.out.fz 1
  have f2 := HT3.out.fz 2
  have y0 := HT3.out.c0
  have y1 := HT3.out.c1
  have y2 := HT3.out.c2
  go_wp2
  have g2 := fun b u v => setAll_grown w3 (w.heap.size + 1 + 1) (.bool b) u v
  refine bodyPost_ret (retRC rfl _ _ _ rfl (HT3.out.setAll _ _ _ _ _ _ _)) rfl ?_
  exact ⟨A1, d1, A2, d2, rfl, ⟨own_mono (own_gone HO3.out.1 (g2 _ _ _) (fun k hk => by have := own_block HO3.out.1 hk; omega)) (by have := HB2.out.size; omega), own_mono (own_gone HO3.out.2.1 (g2 _ _ _) (fun k hk => by have := own_block HO3.out.2.1 hk; omega)) (by have := HB2.out.size; omega), HO3.out.2.2⟩, below_grow HB3.out (by omega) (g2 _ _ _)⟩

end Go.Proofs.YtgeijojkfojfbaaDoor
