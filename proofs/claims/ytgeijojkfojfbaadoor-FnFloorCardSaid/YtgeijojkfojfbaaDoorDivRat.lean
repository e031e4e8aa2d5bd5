/-
  Quotients: over and DivRat of the program, l02Div and DivRat of the model.
-/
import Derived.Test.YtgeijojkfojfbaaDoorGrpD
import Derived.Test.YtgeijojkfojfbaaDoorErrIs
namespace Nt
open Go Go.RowKit
theorem div_lens (a b : Rat) (h : 0 < nu b) : (D (nu (a / b))).length ≤ (D (nu a)).length + (D b.den).length ∧ (D (a / b).den).length ≤ (D a.den).length + (D (nu b)).length := by
  obtain ⟨e1, e2, e3⟩ := inv_parts h
  have := mul_lens a b⁻¹
  rw [e1, e2, ← Rat.div_def] at this
  exact this
end Nt
namespace Go.Proofs.YtgeijojkfojfbaaDoor
open Go Go.RowKit Nt

set_option maxHeartbeats 800000 in
theorem over_zero (na nb : Bool) (A B : Option Addr) (la ca lb cb : Nat) (A' B' : Option Addr) (ca' lb' cb' : Nat) (ad : Addr) (w : World) (hE : ErrAt 93 w ad) :
    Calls Tryd.prog 36 #[.agg #[.bool na, .slice A la ca, .slice B lb cb], .agg #[.bool nb, .slice A' 0 ca', .slice B' lb' cb']] w (fun e w' => e = .returned (.tuple #[.agg #[.bool false, .slice none 0 0, .slice none 0 0], .iface 93 (.pointer (some ad))]) ∧ Below w.heap.size w w') := by
  have HE := Lib.hid hE
  clear hE
  go_enter Tryd.func36, Tryd.ntmps36
  go_upto_region 2 with fail
  refine wp_at (fun v0 => Below w.heap.size w v0 ∧ RatAt v0 (w.heap.size + 1 + 1) 25 false none 0 0 none 0 0)
    ⟨below3 _ _ _ _, RatAt.new2 _ _ _ _ _ _ _ _ _ _ _⟩ ?_
  rintro v0 ⟨hb, r2⟩
  have HB := Lib.hid hb
  have HT := Lib.hid r2
  have HG := Lib.hid (HE.out.on hb)
  have hsz := HE.out.2
  clear hb r2
  have f0 := HT.out.fz 0
  have f1 := HT.out.fz 1
  have f2 := HT.out.fz 2
  have y0 := HT.out.c0
  have y1 := HT.out.c1
  have y2 := HT.out.c2
  have hgl := HG.out.1
  go_region_held3 (fun wx => wx.cell? ⟨0, 0, none⟩ = some (.iface 93 (.pointer (some ad))))
    (first | exact HG.out.1 | exact (World.cell?_of_block (a := ⟨0, 0, none⟩) ((setAll_grown _ _ _ _ _).block 0 HG.out.2 (by intro e; injection e with e; omega))).trans HG.out.1) (fail)
  go_wp2
  refine bodyPost_ret (retRC rfl _ _ _ rfl (HT.out.setAll _ _ _ _ _ _ _)) rfl ?_
  exact ⟨rfl, below_drewN (below_grow HB.out (by omega) (setAll_grown v0 (w.heap.size + 1 + 1) _ _ _)) 1⟩

set_option maxHeartbeats 800000 in
theorem over_ok' (a b : Rat) (A B : Option Addr) (ca cb : Nat) (A' B' : Option Addr) (ca' cb' : Nat) (P P' : Nat → Prop) (w : World) (h0 : RdR w P (D (nu a)) (D a.den) A ca B cb) (h1 : RdR w P' (D (nu b)) (D b.den) A' ca' B' cb') (l1 : (D (nu a)).length ≤ 400) (l2 : (D a.den).length ≤ 400) (l3 : (D (nu b)).length ≤ 400) (l4 : (D b.den).length ≤ 400) (hb0 : 0 < nu b) (i q : Rat) (en1 : nu i = b.den) (en2 : i.den = nu b) (en3 : isNeg i = isNeg b) (hq : a * i = q) :
    Calls Tryd.prog 36 #[.agg #[.bool (isNeg a), .slice A (D (nu a)).length ca, .slice B (D a.den).length cb], .agg #[.bool (isNeg b), .slice A' (D (nu b)).length ca', .slice B' (D b.den).length cb']] w (fun e w' => ∃ A5 c5 B5 d5, e = .returned (.tuple #[.agg #[.bool (isNeg q), .slice A5 (D (nu q)).length c5, .slice B5 (D q.den).length d5], .nilIface]) ∧ RdR w' (fun _ => True) (D (nu q)) (D q.den) A5 c5 B5 d5 ∧ Below w.heap.size w w') := by
  have H0 := Lib.hid (h0.mono (Q := (· < w.heap.size)) fun _ _ h => h)
  have H1 := Lib.hid (h1.mono (Q := (· < w.heap.size)) fun _ _ h => h)
  have HQ := Lib.hid hq
  clear hq
  have EN1 := Lib.hid en1
  have EN2 := Lib.hid en2
  have EN3 := Lib.hid en3
  have hz : (((D (nu b)).length : Int) == 0) = false := by rw [beq_eq_false_iff_ne]; have := D_len_pos hb0; omega
  clear h0 h1 en1 en2 en3
  go_enter Tryd.func36, Tryd.ntmps36
  go_wp2_with fail
  rw [← EN3.out, ← EN1.out, ← EN2.out]
  refine calls_at (fun W => Below w.heap.size w W ∧ RatAt W w.heap.size 25 (isNeg a) A (D (nu a)).length ca B (D a.den).length cb ∧ RatAt W (w.heap.size + 1) 25 _ A' _ ca' B' _ cb' ∧ RatAt W (w.heap.size + 1 + 1) 25 false none 0 0 none 0 0)
    ⟨below3 _ _ _ _, ((RatAt.new _ _ _ _ _ _ _ _ _).alloc _).alloc _, (RatAt.new1 _ _ _ _ _ _ _ _ _ _).alloc _, RatAt.new2 _ _ _ _ _ _ _ _ _ _ _⟩ ?_
  rintro W ⟨hb, r0, r1, r2⟩
  refine (times_any a i A B ca cb B' A' cb' ca' _ (· < w.heap.size) W (H0.out.below hb) (by rw [EN1.out, EN2.out]; exact ⟨(H1.out.below hb).2, (H1.out.below hb).1⟩) l1 l2 (by rw [EN1.out]; exact l4) (by rw [EN2.out]; exact l3)).mono ?_
  rintro e w2 hnew
  rw [HQ.out] at hnew
  obtain ⟨A5, c5, B5, d5, rfl, o5, b2⟩ := hnew
  have HB2 := Lib.hid (below_on hb b2)
  have HT2 := Lib.hid (r2.on b2)
  have HO5 := Lib.hid o5
  clear b2 o5 hb r0 r1 r2
  have f0 := HT2.out.fz 0
  have f1 := HT2.out.fz 1
  have f2 := HT2.out.fz 2
  have y0 := HT2.out.c0
  have y1 := HT2.out.c1
  have y2 := HT2.out.c2
  go_wp2
  have g2 := fun b u v => setAll_grown w2 (w.heap.size + 1 + 1) (.bool b) u v
  refine bodyPost_ret (retRC rfl _ _ _ rfl (HT2.out.setAll _ _ _ _ _ _ _)) rfl ?_
  exact ⟨A5, c5, B5, d5, rfl, ⟨HO5.out.1.past HT2.out (g2 _ _ _), HO5.out.2.past HT2.out (g2 _ _ _)⟩, below_grow HB2.out (by omega) (g2 _ _ _)⟩

theorem over_ok (a b : Rat) (A B : Option Addr) (ca cb : Nat) (A' B' : Option Addr) (ca' cb' : Nat) (P P' : Nat → Prop) (w : World) (h0 : RdR w P (D (nu a)) (D a.den) A ca B cb) (h1 : RdR w P' (D (nu b)) (D b.den) A' ca' B' cb') (l1 : (D (nu a)).length ≤ 400) (l2 : (D a.den).length ≤ 400) (l3 : (D (nu b)).length ≤ 400) (l4 : (D b.den).length ≤ 400) (hb0 : 0 < nu b) :
    Calls Tryd.prog 36 #[.agg #[.bool (isNeg a), .slice A (D (nu a)).length ca, .slice B (D a.den).length cb], .agg #[.bool (isNeg b), .slice A' (D (nu b)).length ca', .slice B' (D b.den).length cb']] w (fun e w' => ∃ A5 c5 B5 d5, e = .returned (.tuple #[.agg #[.bool (isNeg (a / b)), .slice A5 (D (nu (a / b))).length c5, .slice B5 (D (a / b).den).length d5], .nilIface]) ∧ RdR w' (fun _ => True) (D (nu (a / b))) (D (a / b).den) A5 c5 B5 d5 ∧ Below w.heap.size w w') :=
  over_ok' a b A B ca cb A' B' ca' cb' P P' w h0 h1 l1 l2 l3 l4 hb0 b⁻¹ _ (inv_parts hb0).1 (inv_parts hb0).2.1 (inv_parts hb0).2.2 (Rat.div_def a b).symm

set_option maxHeartbeats 800000 in
theorem implDivRat_ok (a b : Rat) (A B : Option Addr) (ca cb : Nat) (A' B' : Option Addr) (ca' cb' : Nat) (P P' : Nat → Prop) (w : World) (h0 : RdR w P (D (nu a)) (D a.den) A ca B cb) (h1 : RdR w P' (D (nu b)) (D b.den) A' ca' B' cb') (l1 : (D (nu a)).length ≤ 400) (l2 : (D a.den).length ≤ 400) (l3 : (D (nu b)).length ≤ 400) (l4 : (D b.den).length ≤ 400) (t1 : nu a < Top) (t2 : a.den < Top) (t3 : nu b < Top) (t4 : b.den < Top) (ad : Addr) (hE : ErrAt 93 w ad) (hb0 : 0 < nu b) :
    Calls Tryd.prog 13 #[.agg #[.bool (isNeg a), .slice A (D (nu a)).length ca, .slice B (D a.den).length cb], .agg #[.bool (isNeg b), .slice A' (D (nu b)).length ca', .slice B' (D b.den).length cb']] w (RetRC 3 w (fN (a / b)) (fX (a / b)) (fY (a / b)) (fK (a / b))) := by
  have H0 := Lib.hid (h0.mono (Q := (· < w.heap.size)) fun _ _ h => h)
  have H1 := Lib.hid (h1.mono (Q := (· < w.heap.size)) fun _ _ h => h)
  have HC : Hid ((0 : Int) = if okR (isNeg a) (D (nu a)) (D a.den) = true ∧ okR (isNeg b) (D (nu b)) (D b.den) = true then 0 else 1) := Lib.hid (by rw [if_pos ⟨okR_rat a t1 t2, okR_rat b t3 t4⟩])
  have ln := div_lens a b hb0
  have ln1 : (D (nu (a / b))).length ≤ 16777216 := by omega
  have ln2 : (D (a / b).den).length ≤ 16777216 := by omega
  clear ln
  have HE := Lib.hid hE
  clear h0 h1 hE
  go_enter Tryd.func13, Tryd.ntmps13
  go_wp2_with fail
  have hb := below3 w (.cells #[.bool (isNeg a), .slice A (D (nu a)).length ca, .slice B (D a.den).length cb] 25) (.cells #[.bool (isNeg b), .slice A' (D (nu b)).length ca', .slice B' (D b.den).length cb'] 25) (.cells #[.bool false, .slice none 0 0, .slice none 0 0] 25)
  have r0 := ((RatAt.new w 25 (isNeg a) A B (D (nu a)).length ca (D a.den).length cb).alloc (.cells #[.bool (isNeg b), .slice A' (D (nu b)).length ca', .slice B' (D b.den).length cb'] 25)).alloc (.cells #[.bool false, .slice none 0 0, .slice none 0 0] 25)
  have r1 := (RatAt.new1 w (.cells #[.bool (isNeg a), .slice A (D (nu a)).length ca, .slice B (D a.den).length cb] 25) 25 (isNeg b) A' B' (D (nu b)).length ca' (D b.den).length cb').alloc (.cells #[.bool false, .slice none 0 0, .slice none 0 0] 25)
  have r2 := RatAt.new2 w (.cells #[.bool (isNeg a), .slice A (D (nu a)).length ca, .slice B (D a.den).length cb] 25) (.cells #[.bool (isNeg b), .slice A' (D (nu b)).length ca', .slice B' (D b.den).length cb'] 25) 25 false none none 0 0 0 0
  have HW : Hid (w.heap.size + 1 + 1 + 1 = (((w.alloc (.cells #[.bool (isNeg a), .slice A (D (nu a)).length ca, .slice B (D a.den).length cb] 25)).alloc (.cells #[.bool (isNeg b), .slice A' (D (nu b)).length ca', .slice B' (D b.den).length cb'] 25)).alloc (.cells #[.bool false, .slice none 0 0, .slice none 0 0] 25)).heap.size) := Lib.hid (by simp)
  generalize ((w.alloc (.cells #[.bool (isNeg a), .slice A (D (nu a)).length ca, .slice B (D a.den).length cb] 25)).alloc (.cells #[.bool (isNeg b), .slice A' (D (nu b)).length ca', .slice B' (D b.den).length cb'] 25)).alloc (.cells #[.bool false, .slice none 0 0, .slice none 0 0] 25) = W at *
  refine (code2 (isNeg a) A _ ca B _ cb (D (nu a)) (D a.den) (isNeg b) A' _ ca' B' _ cb' (D (nu b)) (D b.den) _ _ W _ HW.out (H0.out.below hb).1 (H0.out.below hb).2 (H1.out.below hb).1 (H1.out.below hb).2 (by omega) (by omega) (by omega) (by omega) 0 HC.out).mono ?_
  rintro e w1 ⟨rfl, b1⟩
  have HB1 := Lib.hid (below_on hb b1)
  have HR1 := Lib.hid (r0.on b1)
  have HS1 := Lib.hid (r1.on b1)
  have HT1 := Lib.hid (r2.on b1)
  clear hb r0 r1 r2 b1
  have c00 := HR1.out.c0
  have c01 := HR1.out.c1
  have c02 := HR1.out.c2
  have c10 := HS1.out.c0
  have c11 := HS1.out.c1
  have c12 := HS1.out.c2
  go_wp2_with fail
  clear c00 c01 c02 c10 c11 c12
  refine (over_ok a b A B ca cb A' B' ca' cb' _ _ w1 (H0.out.below HB1.out) (H1.out.below HB1.out) l1 l2 l3 l4 hb0).mono ?_
  rintro e w2 ⟨A5, c5, B5, d5, rfl, o5, b2⟩
  have HB2 := Lib.hid (below_on HB1.out b2)
  have HT2 := Lib.hid (HT1.out.on b2)
  have HO5 := Lib.hid o5
  clear b2 o5
  have hgl := ((HE.out.on HB2.out).on (below1 w2 (.cells #[.bool (isNeg (a / b)), .slice A5 (D (nu (a / b))).length c5, .slice B5 (D (a / b).den).length d5] 25))).1
  go_wp2_with fail
  clear hgl
  refine calls_at (fun V => Below w.heap.size w V ∧ RatAt V (w.heap.size + 1 + 1) 25 false none 0 0 none 0 0 ∧ RatAt V w2.heap.size 25 (isNeg (a / b)) A5 (D (nu (a / b))).length c5 B5 (D (a / b).den).length d5 ∧ RdR V (fun _ => True) (D (nu (a / b))) (D (a / b).den) A5 c5 B5 d5)
    ⟨below_on HB2.out (below1 _ _), HT2.out.alloc _, RatAt.new _ _ _ _ _ _ _ _ _, HO5.out.on (below1 _ _)⟩ ?_
  rintro v3 ⟨pB, pT, pQ, pO⟩
  have HB3 := Lib.hid pB
  have HT3 := Lib.hid pT
  have HQ3 := Lib.hid pQ
  have HO3 := Lib.hid pO
  clear pB pT pQ pO HB2 HT2 HO5
  refine (isErr_nil ad v3).mono ?_
  rintro e v4 ⟨rfl, rfl⟩
  have c0 := HQ3.out.c0
  have c1 := HQ3.out.c1
  have c2 := HQ3.out.c2
  go_wp2_with fail
  clear c0 c1 c2
  refine (fitted_any (a / b) A5 B5 c5 d5 _ v4 HO3.out ln1 ln2).mono ?_
  rintro e w3 ⟨A1, d1, A2, d2, rfl, o3, b3⟩
  have HB4 := Lib.hid (below_on HB3.out b3)
  have HT4 := Lib.hid (HT3.out.on b3)
  have HO4 := Lib.hid o3
  have hs2 := HT3.out.lt
  have hs3 := b3.size
  clear o3 b3
  have f0 := HT4.out.fz 0
  have f1 := HT4.out.fz 1
  have f2 := HT4.out.fz 2
  have y0 := HT4.out.c0
  have y1 := HT4.out.c1
  have y2 := HT4.out.c2
  go_wp2
  have g2 := fun b u v => setAll_grown w3 (w.heap.size + 1 + 1) (.bool b) u v
  refine bodyPost_ret (retRC rfl _ _ _ rfl (HT4.out.setAll _ _ _ _ _ _ _)) rfl ?_
  exact ⟨A1, d1, A2, d2, rfl, ⟨own_mono (own_gone HO4.out.1 (g2 _ _ _) (fun k hk => by have := own_block HO4.out.1 hk; omega)) (by have := HB3.out.size; omega), own_mono (own_gone HO4.out.2.1 (g2 _ _ _) (fun k hk => by have := own_block HO4.out.2.1 hk; omega)) (by have := HB3.out.size; omega), HO4.out.2.2⟩, below_grow HB4.out (by omega) (g2 _ _ _)⟩

set_option maxHeartbeats 800000 in
theorem implDivRat_zero (a b : Rat) (A B : Option Addr) (ca cb : Nat) (A' B' : Option Addr) (ca' cb' : Nat) (P P' : Nat → Prop) (w : World) (h0 : RdR w P (D (nu a)) (D a.den) A ca B cb) (h1 : RdR w P' (D (nu b)) (D b.den) A' ca' B' cb') (l1 : (D (nu a)).length ≤ 400) (l2 : (D a.den).length ≤ 400) (l3 : (D (nu b)).length ≤ 400) (l4 : (D b.den).length ≤ 400) (t1 : nu a < Top) (t2 : a.den < Top) (t3 : nu b < Top) (t4 : b.den < Top) (ad : Addr) (hE : ErrAt 93 w ad) (hb0 : nu b = 0) :
    Calls Tryd.prog 13 #[.agg #[.bool (isNeg a), .slice A (D (nu a)).length ca, .slice B (D a.den).length cb], .agg #[.bool (isNeg b), .slice A' (D (nu b)).length ca', .slice B' (D b.den).length cb']] w (RetRC 3 w false [] [] 9) := by
  have HZ0 : Hid ((D (nu b)).length = 0) := Lib.hid (by rw [hb0]; rfl)
  clear hb0
  have H0 := Lib.hid (h0.mono (Q := (· < w.heap.size)) fun _ _ h => h)
  have H1 := Lib.hid (h1.mono (Q := (· < w.heap.size)) fun _ _ h => h)
  have HC : Hid ((0 : Int) = if okR (isNeg a) (D (nu a)) (D a.den) = true ∧ okR (isNeg b) (D (nu b)) (D b.den) = true then 0 else 1) := Lib.hid (by rw [if_pos ⟨okR_rat a t1 t2, okR_rat b t3 t4⟩])
  have HE := Lib.hid hE
  clear h0 h1 hE
  go_enter Tryd.func13, Tryd.ntmps13
  go_wp2_with fail
  have hb := below3 w (.cells #[.bool (isNeg a), .slice A (D (nu a)).length ca, .slice B (D a.den).length cb] 25) (.cells #[.bool (isNeg b), .slice A' (D (nu b)).length ca', .slice B' (D b.den).length cb'] 25) (.cells #[.bool false, .slice none 0 0, .slice none 0 0] 25)
  have r0 := ((RatAt.new w 25 (isNeg a) A B (D (nu a)).length ca (D a.den).length cb).alloc (.cells #[.bool (isNeg b), .slice A' (D (nu b)).length ca', .slice B' (D b.den).length cb'] 25)).alloc (.cells #[.bool false, .slice none 0 0, .slice none 0 0] 25)
  have r1 := (RatAt.new1 w (.cells #[.bool (isNeg a), .slice A (D (nu a)).length ca, .slice B (D a.den).length cb] 25) 25 (isNeg b) A' B' (D (nu b)).length ca' (D b.den).length cb').alloc (.cells #[.bool false, .slice none 0 0, .slice none 0 0] 25)
  have r2 := RatAt.new2 w (.cells #[.bool (isNeg a), .slice A (D (nu a)).length ca, .slice B (D a.den).length cb] 25) (.cells #[.bool (isNeg b), .slice A' (D (nu b)).length ca', .slice B' (D b.den).length cb'] 25) 25 false none none 0 0 0 0
  have HW : Hid (w.heap.size + 1 + 1 + 1 = (((w.alloc (.cells #[.bool (isNeg a), .slice A (D (nu a)).length ca, .slice B (D a.den).length cb] 25)).alloc (.cells #[.bool (isNeg b), .slice A' (D (nu b)).length ca', .slice B' (D b.den).length cb'] 25)).alloc (.cells #[.bool false, .slice none 0 0, .slice none 0 0] 25)).heap.size) := Lib.hid (by simp)
  generalize ((w.alloc (.cells #[.bool (isNeg a), .slice A (D (nu a)).length ca, .slice B (D a.den).length cb] 25)).alloc (.cells #[.bool (isNeg b), .slice A' (D (nu b)).length ca', .slice B' (D b.den).length cb'] 25)).alloc (.cells #[.bool false, .slice none 0 0, .slice none 0 0] 25) = W at *
  refine (code2 (isNeg a) A _ ca B _ cb (D (nu a)) (D a.den) (isNeg b) A' _ ca' B' _ cb' (D (nu b)) (D b.den) _ _ W _ HW.out (H0.out.below hb).1 (H0.out.below hb).2 (H1.out.below hb).1 (H1.out.below hb).2 (by omega) (by omega) (by omega) (by omega) 0 HC.out).mono ?_
  rintro e w1 ⟨rfl, b1⟩
  have HB1 := Lib.hid (below_on hb b1)
  have HR1 := Lib.hid (r0.on b1)
  have HS1 := Lib.hid (r1.on b1)
  have HT1 := Lib.hid (r2.on b1)
  clear hb r0 r1 r2 b1
  have c00 := HR1.out.c0
  have c01 := HR1.out.c1
  have c02 := HR1.out.c2
  have c10 := HS1.out.c0
  have c11 := HS1.out.c1
  have c12 := HS1.out.c2
  go_wp2_with fail
  clear c00 c01 c02 c10 c11 c12
  rw [HZ0.out]
  refine (over_zero (isNeg a) (isNeg b) A B _ ca _ cb A' B' ca' _ cb' ad w1 (HE.out.on HB1.out)).mono ?_
  rintro e w2 ⟨rfl, b2⟩
  have HB2 := Lib.hid (below_on HB1.out b2)
  have HT2 := Lib.hid (HT1.out.on b2)
  clear b2
  have hgl := ((HE.out.on HB2.out).on (below1 w2 (.cells #[.bool false, .slice none 0 0, .slice none 0 0] 25))).1
  go_wp2_with fail
  clear hgl
  refine calls_at (fun V => Below w.heap.size w V ∧ RatAt V (w.heap.size + 1 + 1) 25 false none 0 0 none 0 0)
    ⟨below_on HB2.out (below1 _ _), HT2.out.alloc _⟩ ?_
  rintro v3 ⟨pB, pT⟩
  have HB3 := Lib.hid pB
  have HT3 := Lib.hid pT
  clear pB pT HB2 HT2
  refine (isErr_same ad v3).mono ?_
  rintro e v4 ⟨rfl, rfl⟩
  have f0 := HT3.out.fz 0
  have f1 := HT3.out.fz 1
  have f2 := HT3.out.fz 2
  have y0 := HT3.out.c0
  have y1 := HT3.out.c1
  have y2 := HT3.out.c2
  go_wp2
  have g2 := fun b u v => setAll_grown v4 (w.heap.size + 1 + 1) (.bool b) u v
  refine bodyPost_ret (retRC rfl _ _ _ rfl (HT3.out.setAll _ _ _ _ _ _ _)) rfl ?_
  exact ⟨none, 0, none, 0, rfl, ⟨World.ownsRow_nil _ _ _ _, World.ownsRow_nil _ _ _ _, fun g h e => by cases e⟩, below_grow HB3.out (by omega) (g2 _ _ _)⟩

set_option maxHeartbeats 400000 in
theorem implDivRat_bad (n : Bool) (A B : Option Addr) (la ca lb cb : Nat) (xs ys : List Int) (n' : Bool) (A' B' : Option Addr) (la' ca' lb' cb' : Nat) (xs' ys' : List Int) (P P' : Nat → Prop) (w : World) (hx : Rd w P A la ca xs) (hy : Rd w P B lb cb ys) (hx' : Rd w P' A' la' ca' xs') (hy' : Rd w P' B' lb' cb' ys') (hla : la ≤ 16777216) (hlb : lb ≤ 16777216) (hla' : la' ≤ 16777216) (hlb' : lb' ≤ 16777216) (hok : (okR n xs ys && okR n' xs' ys') = false) :
    Calls Tryd.prog 13 #[.agg #[.bool n, .slice A la ca, .slice B lb cb], .agg #[.bool n', .slice A' la' ca', .slice B' lb' cb']] w (RetRC 3 w false [] [] 1) := by
  have HC : Hid ((1 : Int) = if okR n xs ys = true ∧ okR n' xs' ys' = true then 0 else 1) := Lib.hid (by rw [if_neg]; intro h; rw [h.1, h.2] at hok; cases hok)
  clear hok
  have HX := Lib.hid (hx.mono (Q := (· < w.heap.size)) fun _ _ h => h)
  have HY := Lib.hid (hy.mono (Q := (· < w.heap.size)) fun _ _ h => h)
  have HX' := Lib.hid (hx'.mono (Q := (· < w.heap.size)) fun _ _ h => h)
  have HY' := Lib.hid (hy'.mono (Q := (· < w.heap.size)) fun _ _ h => h)
  clear hx hy hx' hy'
  go_enter Tryd.func13, Tryd.ntmps13
  go_wp2_with fail
  have hb := below3 w (.cells #[.bool n, .slice A la ca, .slice B lb cb] 25) (.cells #[.bool n', .slice A' la' ca', .slice B' lb' cb'] 25) (.cells #[.bool false, .slice none 0 0, .slice none 0 0] 25)
  have r2 := RatAt.new2 w (.cells #[.bool n, .slice A la ca, .slice B lb cb] 25) (.cells #[.bool n', .slice A' la' ca', .slice B' lb' cb'] 25) 25 false none none 0 0 0 0
  have HW : Hid (w.heap.size + 1 + 1 + 1 = (((w.alloc (.cells #[.bool n, .slice A la ca, .slice B lb cb] 25)).alloc (.cells #[.bool n', .slice A' la' ca', .slice B' lb' cb'] 25)).alloc (.cells #[.bool false, .slice none 0 0, .slice none 0 0] 25)).heap.size) := Lib.hid (by simp)
  generalize ((w.alloc (.cells #[.bool n, .slice A la ca, .slice B lb cb] 25)).alloc (.cells #[.bool n', .slice A' la' ca', .slice B' lb' cb'] 25)).alloc (.cells #[.bool false, .slice none 0 0, .slice none 0 0] 25) = W at *
  refine (code2 n A la ca B lb cb xs ys n' A' la' ca' B' lb' cb' xs' ys' _ _ W _ HW.out (HX.out.below hb) (HY.out.below hb) (HX'.out.below hb) (HY'.out.below hb) hla hlb hla' hlb' 1 HC.out).mono ?_
  rintro e w1 ⟨rfl, b1⟩
  have HB1 := Lib.hid (below_on hb b1)
  have HT1 := Lib.hid (r2.on b1)
  clear hb r2 b1
  have f0 := HT1.out.fz 0
  have f1 := HT1.out.fz 1
  have f2 := HT1.out.fz 2
  have y0 := HT1.out.c0
  have y1 := HT1.out.c1
  have y2 := HT1.out.c2
  go_wp2
  have g2 := fun b u v => setAll_grown w1 (w.heap.size + 1 + 1) (.bool b) u v
  refine bodyPost_ret (retRC rfl _ _ _ rfl (HT1.out.setAll _ _ _ _ _ _ _)) rfl ?_
  exact ⟨none, 0, none, 0, rfl, ⟨World.ownsRow_nil _ _ _ _, World.ownsRow_nil _ _ _ _, fun g h e => by cases e⟩, below_grow HB1.out (by omega) (g2 _ _ _)⟩

end Go.Proofs.YtgeijojkfojfbaaDoor
