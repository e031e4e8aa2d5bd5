/-
  FloorRat of the program and of the model.
-/
import Derived.Test.YtgeijojkfojfbaaDoorFloor
namespace Nt
open Go Go.RowKit
theorem fl_le (r : Rat) : flAbs r ≤ nu r := by
  unfold flAbs
  by_cases h : isNeg r = true ∧ 0 < nu r % r.den
  · rw [if_pos h]
    have hp := nu_pos h.1
    have h2 : 1 < r.den := by
      rcases Nat.lt_or_ge 1 r.den with h3 | h3
      · exact h3
      · have hd := r.den_pos
        have : r.den = 1 := by omega
        rw [this, Nat.mod_one] at h
        omega
    have := Nat.div_lt_self hp h2
    omega
  · rw [if_neg h]
    exact Nat.div_le_self _ _
end Nt
namespace Go.Proofs.YtgeijojkfojfbaaDoor
open Go Go.RowKit Nt

theorem floor_any (r : Rat) (A B : Option Addr) (ca cb : Nat) (P : Nat → Prop) (w : World) (h0 : RdR w P (D (nu r)) (D r.den) A ca B cb) (l1 : (D (nu r)).length ≤ 400) (l2 : (D r.den).length ≤ 400) :
    Calls Tryd.prog 39 #[.agg #[.bool (isNeg r), .slice A (D (nu r)).length ca, .slice B (D r.den).length cb]] w (RetR 3 w (isNeg (flQ r)) (D (nu (flQ r))) (D (flQ r).den)) := by
  obtain ⟨e1, e2, e3⟩ := fl_parts r
  rw [e1, e2, e3]
  exact floor_core (isNeg r) (nu r) r.den (flAbs r) _ _ _ r.den_pos rfl rfl rfl (fun h => by unfold flAbs; rw [if_pos h]) (fun h => by unfold flAbs; rw [if_neg h]) A B ca cb P w h0 l1 l2
theorem l02Floor_any (r : Rat) (A B : Option Addr) (ca cb : Nat) (P : Nat → Prop) (w : World) (h0 : RdR w P (D (nu r)) (D r.den) A ca B cb) (l1 : (D (nu r)).length ≤ 400) (l2 : (D r.den).length ≤ 400) :
    Calls Tryd.prog 41 #[.agg #[.bool (isNeg r), .slice A (D (nu r)).length ca, .slice B (D r.den).length cb]] w (SayR w (isNeg (flQ r)) (D (nu (flQ r))) (D (flQ r).den)) :=
  l02Floor_core (isNeg r) (nu r) r.den (flAbs r) _ _ _ r.den_pos rfl rfl rfl (fun h => by unfold flAbs; rw [if_pos h]) (fun h => by unfold flAbs; rw [if_neg h]) A B ca cb P w h0 l1 l2


set_option maxHeartbeats 400000 in
theorem implFloorRat_ok (r : Rat) (A B : Option Addr) (ca cb : Nat) (w : World) (hr : RdR w (· < w.heap.size) (D (nu r)) (D r.den) A ca B cb) (h1 : nu r < Top) (h2 : r.den < Top) :
    Calls Tryd.prog 15 #[.agg #[.bool (isNeg r), .slice A (D (nu r)).length ca, .slice B (D r.den).length cb]] w (RetRC 3 w (isNeg (flQ r)) (D (nu (flQ r))) (D (flQ r).den) 0) := by
  have H := Lib.hid hr
  have hl1 := (D_len_le (nu r) 40).2 h1
  have hl2 := (D_len_le r.den 40).2 h2
  have HC : Hid ((0 : Int) = if okR (isNeg r) (D (nu r)) (D r.den) = true then 0 else 1) := Lib.hid (by rw [if_pos (okR_rat r h1 h2)])
  clear hr
  go_enter Tryd.func15, Tryd.ntmps15
  go_wp2_with fail
  have hb := below2 w (.cells #[.bool (isNeg r), .slice A (D (nu r)).length ca, .slice B (D r.den).length cb] 25) (.cells #[.bool false, .slice none 0 0, .slice none 0 0] 25)
  have r0 := (RatAt.new w 25 (isNeg r) A B (D (nu r)).length ca (D r.den).length cb).alloc (.cells #[.bool false, .slice none 0 0, .slice none 0 0] 25)
  have r1 := RatAt.new1 w (.cells #[.bool (isNeg r), .slice A (D (nu r)).length ca, .slice B (D r.den).length cb] 25) 25 false none none 0 0 0 0
  have HW : Hid (w.heap.size + 1 + 1 = ((w.alloc (.cells #[.bool (isNeg r), .slice A (D (nu r)).length ca, .slice B (D r.den).length cb] 25)).alloc (.cells #[.bool false, .slice none 0 0, .slice none 0 0] 25)).heap.size) := Lib.hid (by simp)
  generalize (w.alloc (.cells #[.bool (isNeg r), .slice A (D (nu r)).length ca, .slice B (D r.den).length cb] 25)).alloc (.cells #[.bool false, .slice none 0 0, .slice none 0 0] 25) = W at *
  refine (code1 (isNeg r) A (D (nu r)).length ca B (D r.den).length cb (D (nu r)) (D r.den) _ W _ HW.out (H.out.below hb).1 (H.out.below hb).2 (by omega) (by omega) 0 HC.out).mono ?_
  rintro e w1 ⟨rfl, b1⟩
  have HB1 := Lib.hid (below_on hb b1)
  have HR0 := Lib.hid (r0.on b1)
  have HR1 := Lib.hid (r1.on b1)
  clear hb r0 r1 b1
  have c0 := HR0.out.c0
  have c1 := HR0.out.c1
  have c2 := HR0.out.c2
  go_wp2_with fail
  refine (floor_any r A B ca cb _ w1 (H.out.below HB1.out) (by omega) (by omega)).mono ?_
  rintro e w2 ⟨A1, d1, A2, d2, rfl, o2, b2⟩
  have HB2 := Lib.hid (below_on HB1.out b2)
  have HR2 := Lib.hid (HR1.out.on b2)
  have HO2 := Lib.hid o2
  have hs1 := HR1.out.lt
  have hs2 := b2.size
  clear o2 b2 c0 c1 c2
  have f0 := HR2.out.fz 0
  have f1 := HR2.out.fz 1
  have f2 := HR2.out.fz 2
  have y0 := HR2.out.c0
  have y1 := HR2.out.c1
  have y2 := HR2.out.c2
  go_wp2
  have g2 := fun b u v => setAll_grown w2 (w.heap.size + 1) (.bool b) u v
  refine bodyPost_ret (retRC rfl _ _ _ rfl (HR2.out.setAll _ _ _ _ _ _ _)) rfl ?_
  exact ⟨A1, d1, A2, d2, rfl, ⟨own_mono (own_gone HO2.out.1 (g2 _ _ _) (fun k hk => by have := own_block HO2.out.1 hk; omega)) (by omega), own_mono (own_gone HO2.out.2.1 (g2 _ _ _) (fun k hk => by have := own_block HO2.out.2.1 hk; omega)) (by omega), HO2.out.2.2⟩, below_grow HB2.out (by omega) (g2 _ _ _)⟩

set_option maxHeartbeats 400000 in
theorem specFloorRat_ok (r : Rat) (A B : Option Addr) (ca cb : Nat) (P : Nat → Prop) (w : World) (hr : RdR w P (D (nu r)) (D r.den) A ca B cb) (h1 : nu r < Top) (h2 : r.den < Top) :
    Calls Tryd.prog 16 #[.agg #[.bool (isNeg r), .slice A (D (nu r)).length ca, .slice B (D r.den).length cb]] w (SayRC' w (isNeg (flQ r)) (D (nu (flQ r))) (D (flQ r).den) 0) := by
  have H := Lib.hid (hr.mono (Q := (· < w.heap.size)) fun _ _ h => h)
  have hl1 := (D_len_le (nu r) 40).2 h1
  have hl2 := (D_len_le r.den 40).2 h2
  have HC := Lib.hid (okR_rat r h1 h2)
  clear hr
  go_enter Tryd.func16, Tryd.ntmps16
  go_wp2_with fail
  refine calls_at (fun W => Below w.heap.size w W ∧ RatAt W w.heap.size 25 (isNeg r) A (D (nu r)).length ca B (D r.den).length cb ∧ RatAt W (w.heap.size + 1) 25 false none 0 0 none 0 0)
    ⟨below2 _ _ _, (RatAt.new _ _ _ _ _ _ _ _ _).alloc _, RatAt.new1 _ _ _ _ _ _ _ _ _ _⟩ ?_
  rintro W ⟨hb, r0, r1⟩
  refine (specRatOK_any (isNeg r) A B _ ca _ cb (D (nu r)) (D r.den) _ _ W (H.out.below hb).1 (H.out.below hb).2 (by omega) (by omega)).mono ?_
  rintro e w1 ⟨rfl, b1⟩
  rw [HC.out]
  have HB1 := Lib.hid (below_on hb b1)
  have HR0 := Lib.hid (r0.on b1)
  have HR1 := Lib.hid (r1.on b1)
  clear hb r0 r1 b1
  have c0 := HR0.out.c0
  have c1 := HR0.out.c1
  have c2 := HR0.out.c2
  have hs1 := HR1.out.lt
  have q1 : (D (nu (flQ r))).length ≤ 40 := by rw [(fl_parts r).1]; have := D_len_up (fl_le r); omega
  have q2 : (D (flQ r).den).length ≤ 40 := by rw [(fl_parts r).2.1]; decide
  go_wp2_with fail
  refine (l02Floor_any r A B ca cb _ w1 (H.out.below HB1.out) (by omega) (by omega)).mono ?_
  rintro e w2 ⟨A5, c5, B5, d5, rfl, o5, b2⟩
  have HB2 := Lib.hid (below_on HB1.out b2)
  have HR2 := Lib.hid (HR1.out.on b2)
  have HO5 := Lib.hid o5
  clear b2 o5 c0 c1 c2
  go_wp2_with fail
  refine (l02Fit_yes (isNeg (flQ r)) A5 B5 c5 d5 (D (nu (flQ r))) (D (flQ r).den) _ w2 HO5.out q1 q2).mono ?_
  rintro e w3 ⟨A1, d1, A2, d2, rfl, o3, b3⟩
  have HB3 := Lib.hid (below_on HB2.out b3)
  have HR3 := Lib.hid (HR2.out.on b3)
  have HO3 := Lib.hid o3
  clear o3 b3
  have f0 := HR3.out.fz 0
  have f1 := HR3.out.fz 1
  have f2 := HR3.out.fz 2
  have y0 := HR3.out.c0
  have y1 := HR3.out.c1
  have y2 := HR3.out.c2
  go_wp2
  have g2 := fun b u v => setAll_grown w3 (w.heap.size + 1) (.bool b) u v
  refine bodyPost_ret (retRC rfl _ _ _ rfl (HR3.out.setAll _ _ _ _ _ _ _)) rfl ?_
  exact ⟨A1, d1, A2, d2, rfl, ⟨HO3.out.1.past HR3.out (g2 _ _ _), HO3.out.2.past HR3.out (g2 _ _ _)⟩, below_grow HB3.out (by omega) (g2 _ _ _)⟩
end Go.Proofs.YtgeijojkfojfbaaDoor
