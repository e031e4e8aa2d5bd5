/-
  CmpRat of the program and of the model.
-/
import Derived.Test.YtgeijojkfojfbaaRatCmp
namespace Go.Proofs.Ytgeijojkfojfbaa
open Go Go.RowKit Nt

set_option maxHeartbeats 400000 in
theorem l02Ask_any (n : Bool) (A B : Option Addr) (la ca lb cb : Nat) (xs ys : List Int) (n' : Bool) (A' B' : Option Addr) (la' ca' lb' cb' : Nat) (xs' ys' : List Int) (P P' : Nat → Prop) (w : World) (hx : Rd w P A la ca xs) (hy : Rd w P B lb cb ys) (hx' : Rd w P' A' la' ca' xs') (hy' : Rd w P' B' lb' cb' ys') (hla : la ≤ 16777216) (hlb : lb ≤ 16777216) (hla' : la' ≤ 16777216) (hlb' : lb' ≤ 16777216) :
    Calls Try.prog 81 #[.agg #[.bool n, .slice A la ca, .slice B lb cb], .agg #[.bool n', .slice A' la' ca', .slice B' lb' cb']] w fun e w' => e = .returned (.bool (okR n xs ys && okR n' xs' ys')) ∧ Below w.heap.size w w' := by
  have HX := Lib.hid (hx.mono (Q := (· < w.heap.size)) fun _ _ h => h)
  have HY := Lib.hid (hy.mono (Q := (· < w.heap.size)) fun _ _ h => h)
  have HX' := Lib.hid (hx'.mono (Q := (· < w.heap.size)) fun _ _ h => h)
  have HY' := Lib.hid (hy'.mono (Q := (· < w.heap.size)) fun _ _ h => h)
  clear hx hy hx' hy'
  go_enter Try.func81, Try.ntmps81
  go_wp2_with fail
  refine calls_at (fun W => Below w.heap.size w W ∧ RatAt W w.heap.size 43 n A la ca B lb cb ∧ RatAt W (w.heap.size + 1) 43 n' A' la' ca' B' lb' cb')
    ⟨below2 _ _ _, (RatAt.new _ _ _ _ _ _ _ _ _).alloc _, RatAt.new1 _ _ _ _ _ _ _ _ _ _⟩ ?_
  rintro W ⟨hb, r0, r1⟩
  refine (specRatOK_any n A B la ca lb cb xs ys _ _ W (HX.out.below hb) (HY.out.below hb) hla hlb).mono ?_
  rintro e w1 ⟨rfl, b1⟩
  have HB1 := Lib.hid (below_on hb b1)
  have HR1 := Lib.hid (r1.on b1)
  clear hb r0 r1 b1
  cases h1 : okR n xs ys with
  | false =>
    have HE := Lib.hid h1
    clear h1
    go_wp2
    go_ret
    exact ⟨by rw [HE.out]; rfl, HB1.out⟩
  | true =>
    have HE := Lib.hid h1
    clear h1
    have c0 := HR1.out.c0
    have c1 := HR1.out.c1
    have c2 := HR1.out.c2
    go_wp2_with fail
    clear c0 c1 c2
    refine (specRatOK_any n' A' B' la' ca' lb' cb' xs' ys' _ _ w1 (HX'.out.below HB1.out) (HY'.out.below HB1.out) hla' hlb').mono ?_
    rintro e w2 ⟨rfl, b2⟩
    have HB2 := Lib.hid (below_on HB1.out b2)
    clear b2
    go_wp2
    go_ret
    exact ⟨by rw [HE.out]; rfl, HB2.out⟩

set_option maxHeartbeats 400000 in
theorem l02Cmp_any (a b : Rat) (A B : Option Addr) (ca cb : Nat) (A' B' : Option Addr) (ca' cb' : Nat) (P P' : Nat → Prop) (w : World) (h0 : RdR w P (D (nu a)) (D a.den) A ca B cb) (h1 : RdR w P' (D (nu b)) (D b.den) A' ca' B' cb') (l1 : (D (nu a)).length ≤ 400) (l2 : (D a.den).length ≤ 400) (l3 : (D (nu b)).length ≤ 400) (l4 : (D b.den).length ≤ 400) :
    Calls Try.prog 82 #[.agg #[.bool (isNeg a), .slice A (D (nu a)).length ca, .slice B (D a.den).length cb], .agg #[.bool (isNeg b), .slice A' (D (nu b)).length ca', .slice B' (D b.den).length cb']] w fun e w' => e = .returned (.int .i64 (cmpQ a b)) ∧ Below w.heap.size w w' := by
  have H0 := Lib.hid (h0.mono (Q := (· < w.heap.size)) fun _ _ h => h)
  have H1 := Lib.hid (h1.mono (Q := (· < w.heap.size)) fun _ _ h => h)
  clear h0 h1
  go_enter Try.func82, Try.ntmps82
  go_wp2_with fail
  refine calls_at (fun W => Below w.heap.size w W ∧ RatAt W w.heap.size 43 (isNeg a) A (D (nu a)).length ca B (D a.den).length cb ∧ RatAt W (w.heap.size + 1) 43 (isNeg b) A' (D (nu b)).length ca' B' (D b.den).length cb')
    ⟨below2 _ _ _, (RatAt.new _ _ _ _ _ _ _ _ _).alloc _, RatAt.new1 _ _ _ _ _ _ _ _ _ _⟩ ?_
  rintro W ⟨hb, r0, r1⟩
  refine (l02Sub_any a b A B ca cb A' B' ca' cb' _ _ W (H0.out.below hb) (H1.out.below hb) l1 l2 l3 l4).mono ?_
  rintro e w1 ⟨A8, c8, B8, d8, rfl, o8, b1⟩
  have HB1 := Lib.hid (below_on hb b1)
  have hl : (D (nu (a - b))).length ≤ 16777216 := by
    have e : a - b = mkRat (a.num * b.den - b.num * a.den) (a.den * b.den) := Rat.sub_def' a b
    have hd := add_pos_den a b
    have h3 := Rat.num_mkRat (a.num * b.den - b.num * a.den) (a.den * b.den)
    rw [if_neg (by omega), ← e] at h3
    have h4 : nu (a - b) ≤ nu a * b.den + nu b * a.den := by
      unfold nu
      rw [h3]
      refine Nat.le_trans (Int.natAbs_ediv_le_natAbs _ _) ?_
      refine Nat.le_trans (Int.natAbs_sub_le _ _) ?_
      rw [Int.natAbs_mul, Int.natAbs_mul]
      simp
    have h5 := D_len_up h4
    have h6 := D_len_add (nu a * b.den) (nu b * a.den)
    have h7 := D_len_mul (nu a) b.den
    have h8 := D_len_mul (nu b) a.den
    omega
  clear hb r0 r1 b1 o8
  go_wp2_with fail
  refine (l02Sign_any (a - b) A8 B8 _ c8 _ d8 w1 rfl hl).mono ?_
  rintro e w2 ⟨rfl, b2⟩
  have HB2 := Lib.hid (below_on HB1.out b2)
  clear b2
  go_wp2
  go_ret
  exact ⟨rfl, HB2.out⟩

set_option maxHeartbeats 400000 in
theorem specCmpRat_bad (n : Bool) (A B : Option Addr) (la ca lb cb : Nat) (xs ys : List Int) (n' : Bool) (A' B' : Option Addr) (la' ca' lb' cb' : Nat) (xs' ys' : List Int) (P P' : Nat → Prop) (w : World) (hx : Rd w P A la ca xs) (hy : Rd w P B lb cb ys) (hx' : Rd w P' A' la' ca' xs') (hy' : Rd w P' B' lb' cb' ys') (hla : la ≤ 16777216) (hlb : lb ≤ 16777216) (hla' : la' ≤ 16777216) (hlb' : lb' ≤ 16777216) (hok : (okR n xs ys && okR n' xs' ys') = false) :
    Calls Try.prog 28 #[.agg #[.bool n, .slice A la ca, .slice B lb cb], .agg #[.bool n', .slice A' la' ca', .slice B' lb' cb']] w fun e w' => e = .returned (.tuple #[.int .i64 0, .int .i64 1]) ∧ Below w.heap.size w w' := by
  have HOK := Lib.hid hok
  clear hok
  have HX := Lib.hid (hx.mono (Q := (· < w.heap.size)) fun _ _ h => h)
  have HY := Lib.hid (hy.mono (Q := (· < w.heap.size)) fun _ _ h => h)
  have HX' := Lib.hid (hx'.mono (Q := (· < w.heap.size)) fun _ _ h => h)
  have HY' := Lib.hid (hy'.mono (Q := (· < w.heap.size)) fun _ _ h => h)
  clear hx hy hx' hy'
  go_enter Try.func28, Try.ntmps28
  go_wp2_with fail
  refine calls_at (fun W => Below w.heap.size w W ∧ RatAt W w.heap.size 43 n A la ca B lb cb ∧ RatAt W (w.heap.size + 1) 43 n' A' la' ca' B' lb' cb')
    ⟨below2 _ _ _, (RatAt.new _ _ _ _ _ _ _ _ _).alloc _, RatAt.new1 _ _ _ _ _ _ _ _ _ _⟩ ?_
  rintro W ⟨hb, r0, r1⟩
  refine (l02Ask_any n A B la ca lb cb xs ys n' A' B' la' ca' lb' cb' xs' ys' _ _ W (HX.out.below hb) (HY.out.below hb) (HX'.out.below hb) (HY'.out.below hb) hla hlb hla' hlb').mono ?_
  rintro e w1 ⟨rfl, b1⟩
  rw [HOK.out]
  have HB1 := Lib.hid (below_on hb b1)
  clear hb r0 r1 b1
  go_wp2
  go_ret2
  exact ⟨rfl, HB1.out⟩

set_option maxHeartbeats 400000 in
theorem specCmpRat_ok (a b : Rat) (A B : Option Addr) (ca cb : Nat) (A' B' : Option Addr) (ca' cb' : Nat) (P P' : Nat → Prop) (w : World) (h0 : RdR w P (D (nu a)) (D a.den) A ca B cb) (h1 : RdR w P' (D (nu b)) (D b.den) A' ca' B' cb') (l1 : (D (nu a)).length ≤ 400) (l2 : (D a.den).length ≤ 400) (l3 : (D (nu b)).length ≤ 400) (l4 : (D b.den).length ≤ 400) (t1 : nu a < Top) (t2 : a.den < Top) (t3 : nu b < Top) (t4 : b.den < Top) :
    Calls Try.prog 28 #[.agg #[.bool (isNeg a), .slice A (D (nu a)).length ca, .slice B (D a.den).length cb], .agg #[.bool (isNeg b), .slice A' (D (nu b)).length ca', .slice B' (D b.den).length cb']] w fun e w' => e = .returned (.tuple #[.int .i64 (cmpQ a b), .int .i64 0]) ∧ Below w.heap.size w w' := by
  have H0 := Lib.hid (h0.mono (Q := (· < w.heap.size)) fun _ _ h => h)
  have H1 := Lib.hid (h1.mono (Q := (· < w.heap.size)) fun _ _ h => h)
  have HOK : Hid ((okR (isNeg a) (D (nu a)) (D a.den) && okR (isNeg b) (D (nu b)) (D b.den)) = true) := Lib.hid (by rw [okR_rat a t1 t2, okR_rat b t3 t4]; rfl)
  clear h0 h1
  go_enter Try.func28, Try.ntmps28
  go_wp2_with fail
  refine calls_at (fun W => Below w.heap.size w W ∧ RatAt W w.heap.size 43 (isNeg a) A (D (nu a)).length ca B (D a.den).length cb ∧ RatAt W (w.heap.size + 1) 43 (isNeg b) A' (D (nu b)).length ca' B' (D b.den).length cb')
    ⟨below2 _ _ _, (RatAt.new _ _ _ _ _ _ _ _ _).alloc _, RatAt.new1 _ _ _ _ _ _ _ _ _ _⟩ ?_
  rintro W ⟨hb, r0, r1⟩
  refine (l02Ask_any (isNeg a) A B _ ca _ cb (D (nu a)) (D a.den) (isNeg b) A' B' _ ca' _ cb' (D (nu b)) (D b.den) _ _ W (H0.out.below hb).1 (H0.out.below hb).2 (H1.out.below hb).1 (H1.out.below hb).2 (by omega) (by omega) (by omega) (by omega)).mono ?_
  rintro e w1 ⟨rfl, b1⟩
  rw [HOK.out]
  have HB1 := Lib.hid (below_on hb b1)
  have HR1 := Lib.hid (r0.on b1)
  have HS1 := Lib.hid (r1.on b1)
  clear hb r0 r1 b1
  have c00 := HR1.out.c0
  have c01 := HR1.out.c1
  have c02 := HR1.out.c2
  have c10 := HS1.out.c0
  have c11 := HS1.out.c1
  have c12 := HS1.out.c2
  go_wp2_with fail
  clear c00 c01 c02 c10 c11 c12
  refine (l02Cmp_any a b A B ca cb A' B' ca' cb' _ _ w1 (H0.out.below HB1.out) (H1.out.below HB1.out) l1 l2 l3 l4).mono ?_
  rintro e w2 ⟨rfl, b2⟩
  have HB2 := Lib.hid (below_on HB1.out b2)
  clear b2
  go_wp2
  go_ret2
  exact ⟨rfl, HB2.out⟩

set_option maxHeartbeats 400000 in
theorem implCmpRat_bad (n : Bool) (A B : Option Addr) (la ca lb cb : Nat) (xs ys : List Int) (n' : Bool) (A' B' : Option Addr) (la' ca' lb' cb' : Nat) (xs' ys' : List Int) (P P' : Nat → Prop) (w : World) (hx : Rd w P A la ca xs) (hy : Rd w P B lb cb ys) (hx' : Rd w P' A' la' ca' xs') (hy' : Rd w P' B' lb' cb' ys') (hla : la ≤ 16777216) (hlb : lb ≤ 16777216) (hla' : la' ≤ 16777216) (hlb' : lb' ≤ 16777216) (hok : (okR n xs ys && okR n' xs' ys') = false) :
    Calls Try.prog 27 #[.agg #[.bool n, .slice A la ca, .slice B lb cb], .agg #[.bool n', .slice A' la' ca', .slice B' lb' cb']] w fun e w' => e = .returned (.tuple #[.int .i64 0, .int .i64 1]) ∧ Below w.heap.size w w' := by
  have HC : Hid ((1 : Int) = if okR n xs ys = true ∧ okR n' xs' ys' = true then 0 else 1) := Lib.hid (by rw [if_neg]; intro h; rw [h.1, h.2] at hok; cases hok)
  clear hok
  have HX := Lib.hid (hx.mono (Q := (· < w.heap.size)) fun _ _ h => h)
  have HY := Lib.hid (hy.mono (Q := (· < w.heap.size)) fun _ _ h => h)
  have HX' := Lib.hid (hx'.mono (Q := (· < w.heap.size)) fun _ _ h => h)
  have HY' := Lib.hid (hy'.mono (Q := (· < w.heap.size)) fun _ _ h => h)
  clear hx hy hx' hy'
  go_enter Try.func27, Try.ntmps27
  go_wp2_with fail
  have hb := below2 w (.cells #[.bool n, .slice A la ca, .slice B lb cb] 43) (.cells #[.bool n', .slice A' la' ca', .slice B' lb' cb'] 43)
  have HW : Hid (w.heap.size + 1 + 1 = ((w.alloc (.cells #[.bool n, .slice A la ca, .slice B lb cb] 43)).alloc (.cells #[.bool n', .slice A' la' ca', .slice B' lb' cb'] 43)).heap.size) := Lib.hid (by simp)
  generalize (w.alloc (.cells #[.bool n, .slice A la ca, .slice B lb cb] 43)).alloc (.cells #[.bool n', .slice A' la' ca', .slice B' lb' cb'] 43) = W at *
  refine (code2 n A la ca B lb cb xs ys n' A' la' ca' B' lb' cb' xs' ys' _ _ W _ HW.out (HX.out.below hb) (HY.out.below hb) (HX'.out.below hb) (HY'.out.below hb) hla hlb hla' hlb' 1 HC.out).mono ?_
  rintro e w1 ⟨rfl, b1⟩
  have HB1 := Lib.hid (below_on hb b1)
  clear hb b1
  go_wp2
  go_ret2
  exact ⟨rfl, HB1.out⟩

set_option maxHeartbeats 400000 in
theorem implCmpRat_ok (a b : Rat) (A B : Option Addr) (ca cb : Nat) (A' B' : Option Addr) (ca' cb' : Nat) (P P' : Nat → Prop) (w : World) (h0 : RdR w P (D (nu a)) (D a.den) A ca B cb) (h1 : RdR w P' (D (nu b)) (D b.den) A' ca' B' cb') (l1 : (D (nu a)).length ≤ 400) (l2 : (D a.den).length ≤ 400) (l3 : (D (nu b)).length ≤ 400) (l4 : (D b.den).length ≤ 400) (t1 : nu a < Top) (t2 : a.den < Top) (t3 : nu b < Top) (t4 : b.den < Top) :
    Calls Try.prog 27 #[.agg #[.bool (isNeg a), .slice A (D (nu a)).length ca, .slice B (D a.den).length cb], .agg #[.bool (isNeg b), .slice A' (D (nu b)).length ca', .slice B' (D b.den).length cb']] w fun e w' => e = .returned (.tuple #[.int .i64 (cmpQ a b), .int .i64 0]) ∧ Below w.heap.size w w' := by
  have H0 := Lib.hid (h0.mono (Q := (· < w.heap.size)) fun _ _ h => h)
  have H1 := Lib.hid (h1.mono (Q := (· < w.heap.size)) fun _ _ h => h)
  have HC : Hid ((0 : Int) = if okR (isNeg a) (D (nu a)) (D a.den) = true ∧ okR (isNeg b) (D (nu b)) (D b.den) = true then 0 else 1) := Lib.hid (by rw [if_pos ⟨okR_rat a t1 t2, okR_rat b t3 t4⟩])
  clear h0 h1
  go_enter Try.func27, Try.ntmps27
  go_wp2_with fail
  have hb := below2 w (.cells #[.bool (isNeg a), .slice A (D (nu a)).length ca, .slice B (D a.den).length cb] 43) (.cells #[.bool (isNeg b), .slice A' (D (nu b)).length ca', .slice B' (D b.den).length cb'] 43)
  have r0 := (RatAt.new w 43 (isNeg a) A B (D (nu a)).length ca (D a.den).length cb).alloc (.cells #[.bool (isNeg b), .slice A' (D (nu b)).length ca', .slice B' (D b.den).length cb'] 43)
  have r1 := RatAt.new1 w (.cells #[.bool (isNeg a), .slice A (D (nu a)).length ca, .slice B (D a.den).length cb] 43) 43 (isNeg b) A' B' (D (nu b)).length ca' (D b.den).length cb'
  have HW : Hid (w.heap.size + 1 + 1 = ((w.alloc (.cells #[.bool (isNeg a), .slice A (D (nu a)).length ca, .slice B (D a.den).length cb] 43)).alloc (.cells #[.bool (isNeg b), .slice A' (D (nu b)).length ca', .slice B' (D b.den).length cb'] 43)).heap.size) := Lib.hid (by simp)
  generalize (w.alloc (.cells #[.bool (isNeg a), .slice A (D (nu a)).length ca, .slice B (D a.den).length cb] 43)).alloc (.cells #[.bool (isNeg b), .slice A' (D (nu b)).length ca', .slice B' (D b.den).length cb'] 43) = W at *
  refine (code2 (isNeg a) A _ ca B _ cb (D (nu a)) (D a.den) (isNeg b) A' _ ca' B' _ cb' (D (nu b)) (D b.den) _ _ W _ HW.out (H0.out.below hb).1 (H0.out.below hb).2 (H1.out.below hb).1 (H1.out.below hb).2 (by omega) (by omega) (by omega) (by omega) 0 HC.out).mono ?_
  rintro e w1 ⟨rfl, b1⟩
  have HB1 := Lib.hid (below_on hb b1)
  have HR1 := Lib.hid (r0.on b1)
  have HS1 := Lib.hid (r1.on b1)
  clear hb r0 r1 b1
  have c00 := HR1.out.c0
  have c01 := HR1.out.c1
  have c02 := HR1.out.c2
  have c10 := HS1.out.c0
  have c11 := HS1.out.c1
  have c12 := HS1.out.c2
  go_wp2_with fail
  clear c00 c01 c02 c10 c11 c12
  refine (compareQ_any a b A B ca cb A' B' ca' cb' _ _ w1 (H0.out.below HB1.out) (H1.out.below HB1.out) l1 l2 l3 l4).mono ?_
  rintro e w2 ⟨rfl, b2⟩
  have HB2 := Lib.hid (below_on HB1.out b2)
  clear b2
  go_wp2
  go_ret2
  exact ⟨rfl, HB2.out⟩
end Go.Proofs.Ytgeijojkfojfbaa
