/-
  The other sign: apart, turned, NegRat, AbsRat of the program and of the model.
-/
import Derived.Test.YtgeijojkfojfbaaDoorRatCode
import Derived.Deep.RegionHeld3
namespace Go.Proofs.YtgeijojkfojfbaaDoor
open Go Go.RowKit Nt

set_option maxRecDepth 20000 in
set_option maxHeartbeats 800000 in
theorem apart_any (neg : Bool) (A B : Option Addr) (ca cb : Nat) (xs ys : List Int) (P : Nat → Prop) (w : World) (h0 : RdR w P xs ys A ca B cb) (hx : xs.length ≤ 16777216) (hy : ys.length ≤ 16777216) :
    Calls Tryd.prog 54 #[.agg #[.bool neg, .slice A xs.length ca, .slice B ys.length cb]] w (RetR 3 w neg xs ys) := by
  have H := Lib.hid (h0.mono (Q := (· < w.heap.size)) fun _ _ h => h)
  clear h0
  go_enter Tryd.func54, Tryd.ntmps54
  go_upto_region 1 with fail
  have HB0 : Hid (Below w.heap.size w ((w.alloc (.cells #[.bool neg, .slice A xs.length ca, .slice B ys.length cb] 25)).alloc (.cells #[.bool false, .slice none 0 0, .slice none 0 0] 25))) := below2 _ _ _
  have HR0 : Hid (RatAt ((w.alloc (.cells #[.bool neg, .slice A xs.length ca, .slice B ys.length cb] 25)).alloc (.cells #[.bool false, .slice none 0 0, .slice none 0 0] 25)) w.heap.size 25 neg A xs.length ca B ys.length cb) := (RatAt.new _ _ _ _ _ _ _ _ _).alloc _
  have HR1 : Hid (RatAt ((w.alloc (.cells #[.bool neg, .slice A xs.length ca, .slice B ys.length cb] 25)).alloc (.cells #[.bool false, .slice none 0 0, .slice none 0 0] 25)) (w.heap.size + 1) 25 false none 0 0 none 0 0) := RatAt.new1 _ _ _ _ _ _ _ _ _ _
  generalize (w.alloc (.cells #[.bool neg, .slice A xs.length ca, .slice B ys.length cb] 25)).alloc (.cells #[.bool false, .slice none 0 0, .slice none 0 0] 25) = W at *
  have hs := HR1.out.lt
  have HRX := Lib.hid (H.out.below HB0.out)
  go_region_held3 (fun wx => wx.cell? ⟨w.heap.size, 0, none⟩ = some (.bool neg) ∧ wx.cell? ⟨w.heap.size, 1, none⟩ = some (.slice A xs.length ca) ∧ wx.cell? ⟨w.heap.size, 2, none⟩ = some (.slice B ys.length cb))
    (first | exact ⟨HR0.out.c0, HR0.out.c1, HR0.out.c2⟩ | exact ⟨HQ0.out.c0, HQ0.out.c1, HQ0.out.c2⟩ | exact ⟨HS0.out.c0, HS0.out.c1, HS0.out.c2⟩ | exact ⟨(HS0.out.grown (setAll_grown _ _ _ _ _) (by omega)).c0, (HS0.out.grown (setAll_grown _ _ _ _ _) (by omega)).c1, (HS0.out.grown (setAll_grown _ _ _ _ _) (by omega)).c2⟩)
    (first
      | (go_at_call 59; refine (fresh_any A _ ca xs (· < w.heap.size) _ (by exact HRX.out.1) hx).mono ?_; rintro e w1 ⟨A1, c1, rfl, o1, b1⟩; have b1 := undrew b1; have HO1 : Hid (w1.ownsRow W.heap.size 3 1 (.slice A1 xs.length c1) xs.length (xs.map (Value.int .i64))) := o1; have HQ0 := Lib.hid (HR0.out.on b1); have HQ1 := Lib.hid (HR1.out.on b1); have HB1 := Lib.hid (below_on HB0.out b1); have HS1 := Lib.hid b1.size; clear o1 b1)
      | (go_at_call 59; refine (fresh_any B _ cb ys (· < w.heap.size) _ (by exact (H.out.below HB1.out).2) hy).mono ?_; rintro e w2 ⟨A2, c2, rfl, o2, b2⟩; have HO2 := Lib.hid o2; have HO1' := Lib.hid (own_keep HO1.out b2); have HS0 := Lib.hid (HQ0.out.on b2); have HT1 := Lib.hid (HQ1.out.on b2); have HB2 := Lib.hid (below_on HB1.out b2); have f0 := HT1.out.fz 0; have f1 := HT1.out.fz 1; have f2 := HT1.out.fz 2; have y0 := HT1.out.c0; have y1 := HT1.out.c1; have y2 := HT1.out.c2; clear o2 b2))
  go_wp2
  have g2 := setAll_grown w2 (w.heap.size + 1) (.bool neg) (.slice A1 xs.length c1) (.slice A2 ys.length c2)
  refine bodyPost_ret (retR rfl _ _ _ rfl (HT1.out.setAll _ _ _ _ _ _ _)) rfl ?_
  have s1 := HS1.out
  exact ⟨_, _, _, _, rfl, ⟨own_mono (own_gone HO1'.out g2 (fun k hk => by have := own_block HO1'.out hk; omega)) (by omega), own_mono (own_gone HO2.out g2 (fun k hk => by have := own_block HO2.out hk; omega)) (by omega), fun g h e1 e2 => by have := own_block HO1.out e1; have := own_block HO2.out e2; omega⟩, below_grow HB2.out (by omega) g2⟩

set_option maxHeartbeats 800000 in
theorem turned_any (neg : Bool) (A B : Option Addr) (ca cb : Nat) (xs ys : List Int) (P : Nat → Prop) (w : World) (h0 : RdR w P xs ys A ca B cb) (hx : xs.length ≤ 16777216) (hy : ys.length ≤ 16777216) :
    Calls Tryd.prog 38 #[.agg #[.bool neg, .slice A xs.length ca, .slice B ys.length cb]] w (RetR 3 w (!neg && decide (0 < xs.length)) xs ys) := by
  have H := Lib.hid (h0.mono (Q := (· < w.heap.size)) fun _ _ h => h)
  clear h0
  go_enter Tryd.func38, Tryd.ntmps38
  go_wp2_with fail
  refine calls_at (fun W => Below w.heap.size w W ∧ RatAt W w.heap.size 25 neg A xs.length ca B ys.length cb ∧ RatAt W (w.heap.size + 1) 25 false none 0 0 none 0 0)
    ⟨below2 _ _ _, (RatAt.new _ _ _ _ _ _ _ _ _).alloc _, RatAt.new1 _ _ _ _ _ _ _ _ _ _⟩ ?_
  rintro W ⟨hb, r0, r1⟩
  refine (apart_any neg A B ca cb xs ys _ W (H.out.below hb) hx hy).mono ?_
  rintro e w1 ⟨A1, c1, A2, c2, rfl, o1, b1⟩
  have hs := r1.lt
  have hs1 := b1.size
  have HB1 := Lib.hid (below_on hb b1)
  have HR0 := Lib.hid (r0.on b1)
  have HR1 := Lib.hid (r1.on b1)
  have HO1 := Lib.hid o1
  clear hb r0 r1 o1 b1
  have q0 := (HR0.out.alloc (.cells #[.bool neg, .slice A1 xs.length c1, .slice A2 ys.length c2] 25)).c0
  have q1 := (HR0.out.alloc (.cells #[.bool neg, .slice A1 xs.length c1, .slice A2 ys.length c2] 25)).c1
  cases neg with
  | true =>
    have HE : Hid ((!true && decide (0 < xs.length)) = false) := Lib.hid rfl
    have HT := Lib.hid (HR1.out.alloc (.cells #[.bool false, .slice A1 xs.length c1, .slice A2 ys.length c2] 25))
    have HU := Lib.hid (HO1.out.on (below1 w1 (.cells #[.bool false, .slice A1 xs.length c1, .slice A2 ys.length c2] 25)))
    have HV := Lib.hid (below_on HB1.out (below1 w1 (.cells #[.bool false, .slice A1 xs.length c1, .slice A2 ys.length c2] 25)))
    have f0 := HT.out.fz 0
    have f1 := HT.out.fz 1
    have f2 := HT.out.fz 2
    have y0 := HT.out.c0
    have y1 := HT.out.c1
    have y2 := HT.out.c2
    go_wp2
    have g2 := setAll_grown (w1.alloc (.cells #[.bool false, .slice A1 xs.length c1, .slice A2 ys.length c2] 25)) (w.heap.size + 1) (.bool false) (.slice A1 xs.length c1) (.slice A2 ys.length c2)
    refine bodyPost_ret (retR rfl _ _ _ rfl (HT.out.setAll _ _ _ _ _ _ _)) rfl ?_
    exact ⟨_, _, _, _, by rw [HE.out], ⟨own_mono (own_gone HU.out.1 g2 (fun k hk => by have := own_block HU.out.1 hk; omega)) (by omega), own_mono (own_gone HU.out.2.1 g2 (fun k hk => by have := own_block HU.out.2.1 hk; omega)) (by omega), HU.out.2.2⟩, below_grow HV.out (by omega) g2⟩
  | false =>
    by_cases hp : 0 < xs.length
    · have HE : Hid ((!false && decide (0 < xs.length)) = true) := Lib.hid (by simpa using hp)
      have hp' : (0 : Int) < xs.length := by omega
      have HT := Lib.hid (HR1.out.alloc (.cells #[.bool true, .slice A1 xs.length c1, .slice A2 ys.length c2] 25))
      have HU := Lib.hid (HO1.out.on (below1 w1 (.cells #[.bool true, .slice A1 xs.length c1, .slice A2 ys.length c2] 25)))
      have HV := Lib.hid (below_on HB1.out (below1 w1 (.cells #[.bool true, .slice A1 xs.length c1, .slice A2 ys.length c2] 25)))
      have f0 := HT.out.fz 0
      have f1 := HT.out.fz 1
      have f2 := HT.out.fz 2
      have y0 := HT.out.c0
      have y1 := HT.out.c1
      have y2 := HT.out.c2
      go_wp2
      have g2 := setAll_grown (w1.alloc (.cells #[.bool true, .slice A1 xs.length c1, .slice A2 ys.length c2] 25)) (w.heap.size + 1) (.bool true) (.slice A1 xs.length c1) (.slice A2 ys.length c2)
      refine bodyPost_ret (retR rfl _ _ _ rfl (HT.out.setAll _ _ _ _ _ _ _)) rfl ?_
      exact ⟨_, _, _, _, by rw [HE.out], ⟨own_mono (own_gone HU.out.1 g2 (fun k hk => by have := own_block HU.out.1 hk; omega)) (by omega), own_mono (own_gone HU.out.2.1 g2 (fun k hk => by have := own_block HU.out.2.1 hk; omega)) (by omega), HU.out.2.2⟩, below_grow HV.out (by omega) g2⟩
    · have HE : Hid ((!false && decide (0 < xs.length)) = false) := Lib.hid (by simpa using hp)
      have hp' : decide ((0 : Int) < xs.length) = false := decide_eq_false (by omega)
      have HT := Lib.hid (HR1.out.alloc (.cells #[.bool false, .slice A1 xs.length c1, .slice A2 ys.length c2] 25))
      have HU := Lib.hid (HO1.out.on (below1 w1 (.cells #[.bool false, .slice A1 xs.length c1, .slice A2 ys.length c2] 25)))
      have HV := Lib.hid (below_on HB1.out (below1 w1 (.cells #[.bool false, .slice A1 xs.length c1, .slice A2 ys.length c2] 25)))
      have f0 := HT.out.fz 0
      have f1 := HT.out.fz 1
      have f2 := HT.out.fz 2
      have y0 := HT.out.c0
      have y1 := HT.out.c1
      have y2 := HT.out.c2
      go_wp2
      have g2 := setAll_grown (w1.alloc (.cells #[.bool false, .slice A1 xs.length c1, .slice A2 ys.length c2] 25)) (w.heap.size + 1) (.bool false) (.slice A1 xs.length c1) (.slice A2 ys.length c2)
      refine bodyPost_ret (retR rfl _ _ _ rfl (HT.out.setAll _ _ _ _ _ _ _)) rfl ?_
      exact ⟨_, _, _, _, by rw [HE.out], ⟨own_mono (own_gone HU.out.1 g2 (fun k hk => by have := own_block HU.out.1 hk; omega)) (by omega), own_mono (own_gone HU.out.2.1 g2 (fun k hk => by have := own_block HU.out.2.1 hk; omega)) (by omega), HU.out.2.2⟩, below_grow HV.out (by omega) g2⟩
end Go.Proofs.YtgeijojkfojfbaaDoor
