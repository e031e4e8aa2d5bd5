/-
  Powers: PowRat of the program and of the model.
-/
import Derived.Test.YtgeijojkfojfbaaDoorRatPow
namespace Go.Proofs.YtgeijojkfojfbaaDoor
open Go Go.RowKit Nt

set_option maxHeartbeats 400000 in
theorem l01In_yes (n lo hi : Int) (w : World) (h1 : lo ≤ n) (h2 : n ≤ hi) :
    Calls Tryd.prog 75 #[.int .i64 n, .int .i64 lo, .int .i64 hi] w fun e w' => e = .returned (.bool true) ∧ w = w' := by
  go_enter Tryd.func75, Tryd.ntmps75
  go_wp2
  go_ret
  exact ⟨rfl, rfl⟩
set_option maxHeartbeats 400000 in
theorem l01In_no (n lo hi : Int) (w : World) (h : n < lo ∨ hi < n) :
    Calls Tryd.prog 75 #[.int .i64 n, .int .i64 lo, .int .i64 hi] w fun e w' => e = .returned (.bool false) ∧ w = w' := by
  by_cases h1 : lo ≤ n
  · have h2 : decide (n ≤ hi) = false := decide_eq_false (by omega)
    clear h
    go_enter Tryd.func75, Tryd.ntmps75
    go_wp2
    go_ret
    refine ⟨?_, rfl⟩
    first | rfl | (rw [h2]; rfl)
  · have h2 : decide (lo ≤ n) = false := decide_eq_false h1
    clear h
    go_enter Tryd.func75, Tryd.ntmps75
    go_wp2
    go_ret
    exact ⟨rfl, rfl⟩

set_option maxHeartbeats 400000 in
theorem implPowRat_ok (r : Rat) (n : Nat) (hn : n ≤ 8) (A B : Option Addr) (ca cb : Nat) (w : World) (hr : RdR w (· < w.heap.size) (D (nu r)) (D r.den) A ca B cb) (h1 : nu r < Top) (h2 : r.den < Top) :
    Calls Tryd.prog 20 #[.agg #[.bool (isNeg r), .slice A (D (nu r)).length ca, .slice B (D r.den).length cb], .int .i64 (n : Int)] w (RetRC 3 w (fN (r ^ n)) (fX (r ^ n)) (fY (r ^ n)) (fK (r ^ n))) := by
  have H := Lib.hid hr
  have hl1 := (D_len_le (nu r) 40).2 h1
  have hl2 := (D_len_le r.den 40).2 h2
  have HC : Hid ((0 : Int) = if okR (isNeg r) (D (nu r)) (D r.den) = true then 0 else 1) := Lib.hid (by rw [if_pos (okR_rat r h1 h2)])
  clear hr
  go_enter Tryd.func20, Tryd.ntmps20
  go_wp2_with fail
  have hb := below2 w (.cells #[.bool (isNeg r), .slice A (D (nu r)).length ca, .slice B (D r.den).length cb] 25) (.cells #[.bool false, .slice none 0 0, .slice none 0 0] 25)
  have r0 := (RatAt.new w 25 (isNeg r) A B (D (nu r)).length ca (D r.den).length cb).alloc (.cells #[.bool false, .slice none 0 0, .slice none 0 0] 25)
  have r1 := RatAt.new1 w (.cells #[.bool (isNeg r), .slice A (D (nu r)).length ca, .slice B (D r.den).length cb] 25) 25 false none none 0 0 0 0
  have HW : Hid (w.heap.size + 1 + 1 = ((w.alloc (.cells #[.bool (isNeg r), .slice A (D (nu r)).length ca, .slice B (D r.den).length cb] 25)).alloc (.cells #[.bool false, .slice none 0 0, .slice none 0 0] 25)).heap.size) := Lib.hid (by simp)
  generalize (w.alloc (.cells #[.bool (isNeg r), .slice A (D (nu r)).length ca, .slice B (D r.den).length cb] 25)).alloc (.cells #[.bool false, .slice none 0 0, .slice none 0 0] 25) = W at *
  refine (code1 (isNeg r) A (D (nu r)).length ca B (D r.den).length cb (D (nu r)) (D r.den) _ W _ HW.out (H.out.below hb).1 (H.out.below hb).2 (by omega) (by omega) 0 HC.out).mono ?_
  rintro e w1 ⟨rfl, b1⟩
  have HB1 := Lib.hid (below_on hb b1)
  have HR0 := Lib.hid (r0.on b1)
  have HR1 := Lib.hid (r1.on b1)
  clear hb r0 r1 b1
  have c0 := HR0.out.c0
  have c1 := HR0.out.c1
  have c2 := HR0.out.c2
  have h3 : (n : Int) ≤ 8 := by omega
  have h4 : (0 : Int) ≤ n := by omega
  have ln := pow_lens r n hl1 hl2 hn
  have ln1 : (D (nu (r ^ n))).length ≤ 16777216 := by omega
  have ln2 : (D (r ^ n).den).length ≤ 16777216 := by omega
  clear ln
  go_wp2_with fail
  clear c0 c1 c2
  refine (raised_any r n hn A B ca cb _ w1 (H.out.below HB1.out) hl1 hl2).mono ?_
  rintro e w2 ⟨A5, c5, B5, d5, rfl, o5, b2⟩
  have HB2 := Lib.hid (below_on HB1.out b2)
  have HT2 := Lib.hid (HR1.out.on b2)
  have HO5 := Lib.hid o5
  clear b2 o5
  go_wp2_with fail
  refine (fitted_any (r ^ n) A5 B5 c5 d5 _ w2 HO5.out ln1 ln2).mono ?_
  rintro e w3 ⟨A1, d1, A2, d2, rfl, o3, b3⟩
  have HB3 := Lib.hid (below_on HB2.out b3)
  have HT3 := Lib.hid (HT2.out.on b3)
  have HO3 := Lib.hid o3
  have hs2 := HT2.out.lt
  have hs3 := b3.size
  clear o3 b3
  have f0 := HT3.out.fz 0
  have f1 := HT3.out.fz 1
  have f2 := HT3.out.fz 2
  have y0 := HT3.out.c0
  have y1 := HT3.out.c1
  have y2 := HT3.out.c2
  go_wp2
  have g2 := fun b u v => setAll_grown w3 (w.heap.size + 1) (.bool b) u v
  refine bodyPost_ret (retRC rfl _ _ _ rfl (HT3.out.setAll _ _ _ _ _ _ _)) rfl ?_
  exact ⟨A1, d1, A2, d2, rfl, ⟨own_mono (own_gone HO3.out.1 (g2 _ _ _) (fun k hk => by have := own_block HO3.out.1 hk; omega)) (by have := HB2.out.size; omega), own_mono (own_gone HO3.out.2.1 (g2 _ _ _) (fun k hk => by have := own_block HO3.out.2.1 hk; omega)) (by have := HB2.out.size; omega), HO3.out.2.2⟩, below_grow HB3.out (by omega) (g2 _ _ _)⟩

set_option maxHeartbeats 400000 in
theorem implPowRat_range (r : Rat) (n : Int) (hn : n < 0 ∨ 8 < n) (A B : Option Addr) (ca cb : Nat) (w : World) (hr : RdR w (· < w.heap.size) (D (nu r)) (D r.den) A ca B cb) (h1 : nu r < Top) (h2 : r.den < Top) :
    Calls Tryd.prog 20 #[.agg #[.bool (isNeg r), .slice A (D (nu r)).length ca, .slice B (D r.den).length cb], .int .i64 n] w (RetRC 3 w false [] [] 4) := by
  have H := Lib.hid hr
  have hl1 := (D_len_le (nu r) 40).2 h1
  have hl2 := (D_len_le r.den 40).2 h2
  have HC : Hid ((0 : Int) = if okR (isNeg r) (D (nu r)) (D r.den) = true then 0 else 1) := Lib.hid (by rw [if_pos (okR_rat r h1 h2)])
  clear hr
  go_enter Tryd.func20, Tryd.ntmps20
  go_wp2_with fail
  have hb := below2 w (.cells #[.bool (isNeg r), .slice A (D (nu r)).length ca, .slice B (D r.den).length cb] 25) (.cells #[.bool false, .slice none 0 0, .slice none 0 0] 25)
  have r0 := (RatAt.new w 25 (isNeg r) A B (D (nu r)).length ca (D r.den).length cb).alloc (.cells #[.bool false, .slice none 0 0, .slice none 0 0] 25)
  have r1 := RatAt.new1 w (.cells #[.bool (isNeg r), .slice A (D (nu r)).length ca, .slice B (D r.den).length cb] 25) 25 false none none 0 0 0 0
  have HW : Hid (w.heap.size + 1 + 1 = ((w.alloc (.cells #[.bool (isNeg r), .slice A (D (nu r)).length ca, .slice B (D r.den).length cb] 25)).alloc (.cells #[.bool false, .slice none 0 0, .slice none 0 0] 25)).heap.size) := Lib.hid (by simp)
  generalize (w.alloc (.cells #[.bool (isNeg r), .slice A (D (nu r)).length ca, .slice B (D r.den).length cb] 25)).alloc (.cells #[.bool false, .slice none 0 0, .slice none 0 0] 25) = W at *
  refine (code1 (isNeg r) A (D (nu r)).length ca B (D r.den).length cb (D (nu r)) (D r.den) _ W _ HW.out (H.out.below hb).1 (H.out.below hb).2 (by omega) (by omega) 0 HC.out).mono ?_
  rintro e w1 ⟨rfl, b1⟩
  have HB1 := Lib.hid (below_on hb b1)
  have HR0 := Lib.hid (r0.on b1)
  have HR1 := Lib.hid (r1.on b1)
  clear hb r0 r1 b1
  have c0 := HR0.out.c0
  have c1 := HR0.out.c1
  have c2 := HR0.out.c2
  clear c0 c1 c2
  by_cases h3 : n < 0
  · clear hn
    have f0 := HR1.out.fz 0
    have f1 := HR1.out.fz 1
    have f2 := HR1.out.fz 2
    have y0 := HR1.out.c0
    have y1 := HR1.out.c1
    have y2 := HR1.out.c2
    go_wp2
    have g2 := fun b u v => setAll_grown w1 (w.heap.size + 1) (.bool b) u v
    refine bodyPost_ret (retRC rfl _ _ _ rfl (HR1.out.setAll _ _ _ _ _ _ _)) rfl ?_
    exact ⟨none, 0, none, 0, rfl, ⟨World.ownsRow_nil _ _ _ _, World.ownsRow_nil _ _ _ _, fun g h e => by cases e⟩, below_grow HB1.out (by omega) (g2 _ _ _)⟩
  · have h4 : decide (n < 0) = false := decide_eq_false h3
    have h5 : 8 < n := by omega
    clear hn h3
    have f0 := HR1.out.fz 0
    have f1 := HR1.out.fz 1
    have f2 := HR1.out.fz 2
    have y0 := HR1.out.c0
    have y1 := HR1.out.c1
    have y2 := HR1.out.c2
    go_wp2
    have g2 := fun b u v => setAll_grown w1 (w.heap.size + 1) (.bool b) u v
    refine bodyPost_ret (retRC rfl _ _ _ rfl (HR1.out.setAll _ _ _ _ _ _ _)) rfl ?_
    exact ⟨none, 0, none, 0, rfl, ⟨World.ownsRow_nil _ _ _ _, World.ownsRow_nil _ _ _ _, fun g h e => by cases e⟩, below_grow HB1.out (by omega) (g2 _ _ _)⟩


end Go.Proofs.YtgeijojkfojfbaaDoor
