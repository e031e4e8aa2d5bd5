/-
  Sums of the model: l02Add.
-/
import Derived.Test.YtgeijojkfojfbaaSpecMake
namespace Go.Proofs.Ytgeijojkfojfbaa
open Go Go.RowKit Nt
def MkAt (neg : Bool) (m d : Nat) (nn : Bool) (X Y : List Int) : Prop :=
  ∀ (A7 : Option Addr) (c7 : Nat) (B7 : Option Addr) (d7 : Nat) (W : World), Nm W A7 c7 m → Nm W B7 d7 d → Calls Try.prog 121 #[.bool neg, .slice A7 (D m).length c7, .slice B7 (D d).length d7] W (SayR W nn X Y)

set_option maxRecDepth 20000 in
set_option maxHeartbeats 6400000 in
theorem l02Add_core (na nb : Bool) (x y x' y' s t d : Nat) (hs : x * y' = s) (ht : x' * y = t) (hd : y * y' = d) (nn : Bool) (X Y : List Int) (A B : Option Addr) (ca cb : Nat) (A' B' : Option Addr) (ca' cb' : Nat) (P P' : Nat → Prop) (w : World) (h0 : RdR w P (D x) (D y) A ca B cb) (h1 : RdR w P' (D x') (D y') A' ca' B' cb')
    (l1 : (D x).length ≤ 400) (l2 : (D y).length ≤ 400) (l3 : (D x').length ≤ 400) (l4 : (D y').length ≤ 400) (m1 : (D s).length ≤ 800) (m2 : (D t).length ≤ 800) (_m3 : (D d).length ≤ 800)
    (hm1 : na = nb → MkAt na (s + t) d nn X Y) (hm2 : na ≠ nb → t ≤ s → MkAt na (s - t) d nn X Y) (hm3 : na ≠ nb → s < t → MkAt nb (t - s) d nn X Y) :
    Calls Try.prog 140 #[.agg #[.bool na, .slice A (D x).length ca, .slice B (D y).length cb], .agg #[.bool nb, .slice A' (D x').length ca', .slice B' (D y').length cb']] w (SayR w nn X Y) := by
  have H0 := Lib.hid (h0.mono (Q := (· < w.heap.size)) fun _ _ h => h)
  have H1 := Lib.hid (h1.mono (Q := (· < w.heap.size)) fun _ _ h => h)
  have HM1 := Lib.hid hm1
  have HM2 := Lib.hid hm2
  have HM3 := Lib.hid hm3
  have HSs := Lib.hid hs
  have HTt := Lib.hid ht
  have HDd := Lib.hid hd
  clear h0 h1 hm1 hm2 hm3 hs ht hd
  go_enter Try.func140, Try.ntmps140
  go_wp2_with fail
  refine calls_at (fun W => Below w.heap.size w W ∧ RatAt W w.heap.size 43 na A (D x).length ca B (D y).length cb ∧ RatAt W (w.heap.size + 1) 43 nb A' (D x').length ca' B' (D y').length cb' ∧ RatAt W (w.heap.size + 1 + 1) 43 false none 0 0 none 0 0)
    ⟨below3 _ _ _ _, ((RatAt.new _ _ _ _ _ _ _ _ _).alloc _).alloc _, (RatAt.new1 _ _ _ _ _ _ _ _ _ _).alloc _, RatAt.new2 _ _ _ _ _ _ _ _ _ _ _⟩ ?_
  rintro W ⟨hb, r0, r1, r2⟩
  refine (l01Mul_any A B' _ ca _ cb' x y' _ _ W (H0.out.below hb).1 (H1.out.below hb).2 (by omega) (by omega)).mono ?_
  rintro e w1 hnew
  rw [HSs.out] at hnew
  obtain ⟨V1, d1, rfl, p1, b1⟩ := new_of hnew
  have HB1 := Lib.hid (below_on hb b1)
  have HR1 := Lib.hid (r0.on b1)
  have HS1 := Lib.hid (r1.on b1)
  have HT1 := Lib.hid (r2.on b1)
  have HP1 := Lib.hid p1
  clear hnew hb r0 r1 r2 p1 b1
  have c11 := HS1.out.c1
  have c02 := HR1.out.c2
  go_wp2_with fail
  clear c11 c02
  refine (l01Mul_any A' B _ ca' _ cb x' y _ _ w1 (H1.out.below HB1.out).1 (H0.out.below HB1.out).2 (by omega) (by omega)).mono ?_
  rintro e w2 hnew
  rw [HTt.out] at hnew
  obtain ⟨V2, d2, rfl, p2, b2⟩ := new_of hnew
  have HB2 := Lib.hid (below_on HB1.out b2)
  have HR2 := Lib.hid (HR1.out.on b2)
  have HS2 := Lib.hid (HS1.out.on b2)
  have HT2 := Lib.hid (HT1.out.on b2)
  have HP2 := Lib.hid (HP1.out.on b2)
  have HQ2 := Lib.hid p2
  clear hnew p2 b2 HB1 HR1 HS1 HT1 HP1
  have c12 := HS2.out.c2
  have c02 := HR2.out.c2
  go_wp2_with fail
  clear c12 c02
  refine (l01Mul_any B B' _ cb _ cb' y y' _ _ w2 (H0.out.below HB2.out).2 (H1.out.below HB2.out).2 (by omega) (by omega)).mono ?_
  rintro e w3 hnew
  rw [HDd.out] at hnew
  obtain ⟨V3, d3, rfl, p3, b3⟩ := new_of hnew
  have HB := Lib.hid (below_on HB2.out b3)
  have HR0 := Lib.hid (HR2.out.on b3)
  have HS0 := Lib.hid (HS2.out.on b3)
  have HT := Lib.hid (HT2.out.on b3)
  have HP := Lib.hid (HP2.out.on b3)
  have HQ := Lib.hid (HQ2.out.on b3)
  have HD := Lib.hid p3
  clear hnew p3 b3 HB2 HR2 HS2 HT2 HP2 HQ2
  have c00 := HR0.out.c0
  have c10 := HS0.out.c0
  by_cases hn : na = nb
  · subst hn
    have hnb : (na == na) = true := by simp
    go_upto_region 5 with fail
    clear c00 c10 hnb
    obtain ⟨u, hu⟩ : ∃ u, s + t = u := ⟨_, rfl⟩
    have HC1 : Hid (Calls Try.prog 169 #[.slice V1 (D s).length d1, .slice V2 (D t).length d2] w3.drew (RetNew 3 w3.drew (D u))) := Lib.hid (by rw [← hu]; exact l01Add_any V1 V2 _ d1 _ d2 s t _ _ w3.drew (Rd.drew HP.out) (Rd.drew HQ.out) (by omega) (by omega))
    have HMK := HM1.out (by first | rfl | trivial)
    rw [hu] at HMK
    have HMK2 := Lib.hid HMK
    clear HMK hu
    go_region_held3 (fun wx => wx.cell? ⟨w.heap.size, 0, none⟩ = some (.bool na))
      (first | exact HR0.out.c0 | exact HRa.out.c0 | exact HRb.out.c0 | exact (HRb.out.grown (setAll_grown _ _ _ _ _) (by omega)).c0)
      (first
        | (go_at_call 169; refine HC1.out.mono ?_; rintro e v1 hnew; obtain ⟨A7, c7, rfl, m7, bb⟩ := new_of hnew; have bb := undrew bb; have HM7 := Lib.hid m7; have HRa := Lib.hid (HR0.out.on bb); have HT7 := Lib.hid (HT.out.on bb); have HD7 := Lib.hid (HD.out.on bb); have HB7 := Lib.hid (below_on HB.out bb); clear hnew m7 bb)
        | (go_at_call 121; refine (HMK2.out A7 c7 V3 d3 v1 HM7.out HD7.out).mono ?_; rintro e v2 ⟨A8, c8, B8, d8, rfl, o8, bb⟩; have HO8 := Lib.hid o8; have HRb := Lib.hid (HRa.out.on bb); have HT8 := Lib.hid (HT7.out.on bb); have HB8 := Lib.hid (below_on HB7.out bb); have f0 := HT8.out.fz 0; have f1 := HT8.out.fz 1; have f2 := HT8.out.fz 2; have y0 := HT8.out.c0; have y1 := HT8.out.c1; have y2 := HT8.out.c2; clear o8 bb))
    go_wp2
    have g2 := fun b u v => setAll_grown v2 (w.heap.size + 1 + 1) (.bool b) u v
    refine bodyPost_ret (retR rfl _ _ _ rfl (HT8.out.setAll _ _ _ _ _ _ _)) rfl ?_
    exact ⟨A8, c8, B8, d8, rfl, ⟨HO8.out.1.past HT8.out (g2 _ _ _), HO8.out.2.past HT8.out (g2 _ _ _)⟩, below_grow HB8.out (by omega) (g2 _ _ _)⟩
  · have hnb : (na == nb) = false := by simpa using hn
    go_wp2_with fail
    clear c00 c10 hnb
    refine (l01Cmp_any V1 V2 _ d1 _ d2 s t _ _ w3 HP.out HQ.out (by omega) (by omega)).mono ?_
    rintro e w4 ⟨rfl, dd⟩
    have b4 := dd.below w3.heap.size
    have HB' := Lib.hid (below_on HB.out b4)
    have HR0' := Lib.hid (HR0.out.on b4)
    have HS0' := Lib.hid (HS0.out.on b4)
    have HT' := Lib.hid (HT.out.on b4)
    have HP' := Lib.hid (HP.out.on b4)
    have HQ' := Lib.hid (HQ.out.on b4)
    have HD' := Lib.hid (HD.out.on b4)
    clear dd b4 HB HR0 HS0 HT HP HQ HD
    by_cases hcmp : t ≤ s
    · obtain ⟨hc0, hc1⟩ := cmpI_ge (m := s) (n := t) (by omega)
      generalize cmpI s t = cc at *
      go_upto_region 7 with fail
      obtain ⟨u, hu⟩ : ∃ u, s - t = u := ⟨_, rfl⟩
      have HC1 : Hid (Calls Try.prog 170 #[.slice V1 (D s).length d1, .slice V2 (D t).length d2] w4.drew (RetNew 3 w4.drew (D u))) := Lib.hid (by rw [← hu]; exact l01Sub_any V1 V2 _ d1 _ d2 s t _ _ w4.drew (Rd.drew HP'.out) (Rd.drew HQ'.out) (by omega) (by omega) hcmp)
      have HMK := HM2.out hn hcmp
      rw [hu] at HMK
      have HMK2 := Lib.hid HMK
      clear HMK hu
      go_region_held3 (fun wx => wx.cell? ⟨w.heap.size, 0, none⟩ = some (.bool na))
        (first | exact HR0'.out.c0 | exact HRa.out.c0 | exact HRb.out.c0 | exact (HRb.out.grown (setAll_grown _ _ _ _ _) (by omega)).c0)
        (first
          | (go_at_call 170; refine HC1.out.mono ?_; rintro e v1 hnew; obtain ⟨A7, c7, rfl, m7, bb⟩ := new_of hnew; have bb := undrew bb; have HM7 := Lib.hid m7; have HRa := Lib.hid (HR0'.out.on bb); have HT7 := Lib.hid (HT'.out.on bb); have HD7 := Lib.hid (HD'.out.on bb); have HB7 := Lib.hid (below_on HB'.out bb); clear hnew m7 bb)
          | (go_at_call 121; refine (HMK2.out A7 c7 V3 d3 v1 HM7.out HD7.out).mono ?_; rintro e v2 ⟨A8, c8, B8, d8, rfl, o8, bb⟩; have HO8 := Lib.hid o8; have HRb := Lib.hid (HRa.out.on bb); have HT8 := Lib.hid (HT7.out.on bb); have HB8 := Lib.hid (below_on HB7.out bb); have f0 := HT8.out.fz 0; have f1 := HT8.out.fz 1; have f2 := HT8.out.fz 2; have y0 := HT8.out.c0; have y1 := HT8.out.c1; have y2 := HT8.out.c2; clear o8 bb))
      go_wp2
      have g2 := fun b u v => setAll_grown v2 (w.heap.size + 1 + 1) (.bool b) u v
      refine bodyPost_ret (retR rfl _ _ _ rfl (HT8.out.setAll _ _ _ _ _ _ _)) rfl ?_
      exact ⟨A8, c8, B8, d8, rfl, ⟨HO8.out.1.past HT8.out (g2 _ _ _), HO8.out.2.past HT8.out (g2 _ _ _)⟩, below_grow HB8.out (by omega) (g2 _ _ _)⟩
    · rw [cmpI_lt (by omega)]
      go_upto_region 8 with fail
      obtain ⟨u, hu⟩ : ∃ u, t - s = u := ⟨_, rfl⟩
      have HC1 : Hid (Calls Try.prog 170 #[.slice V2 (D t).length d2, .slice V1 (D s).length d1] w4.drew (RetNew 3 w4.drew (D u))) := Lib.hid (by rw [← hu]; exact l01Sub_any V2 V1 _ d2 _ d1 t s _ _ w4.drew (Rd.drew HQ'.out) (Rd.drew HP'.out) (by omega) (by omega) (by omega))
      have HMK := HM3.out hn (by omega)
      rw [hu] at HMK
      have HMK2 := Lib.hid HMK
      clear HMK hu
      go_region_held3 (fun wx => wx.cell? ⟨(w.heap.size + 1), 0, none⟩ = some (.bool nb))
        (first | exact HS0'.out.c0 | exact HRa.out.c0 | exact HRb.out.c0 | exact (HRb.out.grown (setAll_grown _ _ _ _ _) (by omega)).c0)
        (first
          | (go_at_call 170; refine HC1.out.mono ?_; rintro e v1 hnew; obtain ⟨A7, c7, rfl, m7, bb⟩ := new_of hnew; have bb := undrew bb; have HM7 := Lib.hid m7; have HRa := Lib.hid (HS0'.out.on bb); have HT7 := Lib.hid (HT'.out.on bb); have HD7 := Lib.hid (HD'.out.on bb); have HB7 := Lib.hid (below_on HB'.out bb); clear hnew m7 bb)
          | (go_at_call 121; refine (HMK2.out A7 c7 V3 d3 v1 HM7.out HD7.out).mono ?_; rintro e v2 ⟨A8, c8, B8, d8, rfl, o8, bb⟩; have HO8 := Lib.hid o8; have HRb := Lib.hid (HRa.out.on bb); have HT8 := Lib.hid (HT7.out.on bb); have HB8 := Lib.hid (below_on HB7.out bb); have f0 := HT8.out.fz 0; have f1 := HT8.out.fz 1; have f2 := HT8.out.fz 2; have y0 := HT8.out.c0; have y1 := HT8.out.c1; have y2 := HT8.out.c2; clear o8 bb))
      go_wp2
      have g2 := fun b u v => setAll_grown v2 (w.heap.size + 1 + 1) (.bool b) u v
      refine bodyPost_ret (retR rfl _ _ _ rfl (HT8.out.setAll _ _ _ _ _ _ _)) rfl ?_
      exact ⟨A8, c8, B8, d8, rfl, ⟨HO8.out.1.past HT8.out (g2 _ _ _), HO8.out.2.past HT8.out (g2 _ _ _)⟩, below_grow HB8.out (by omega) (g2 _ _ _)⟩

theorem mkAt (neg : Bool) (m d : Nat) (r : Rat) (hr : r = mkRat (sg neg m) d) (hd : 0 < d) (l1 : (D m).length ≤ 1000) (l2 : (D d).length ≤ 1000) : MkAt neg m d (isNeg r) (D (nu r)) (D r.den) := by
  subst hr
  intro A7 c7 B7 d7 W h1 h2
  exact l02Make_any neg A7 B7 _ c7 _ d7 m d _ _ W h1 h2 l1 l2 hd
theorem l02Add_any (a b : Rat) (A B : Option Addr) (ca cb : Nat) (A' B' : Option Addr) (ca' cb' : Nat) (P P' : Nat → Prop) (w : World) (h0 : RdR w P (D (nu a)) (D a.den) A ca B cb) (h1 : RdR w P' (D (nu b)) (D b.den) A' ca' B' cb')
    (l1 : (D (nu a)).length ≤ 400) (l2 : (D a.den).length ≤ 400) (l3 : (D (nu b)).length ≤ 400) (l4 : (D b.den).length ≤ 400) :
    Calls Try.prog 140 #[.agg #[.bool (isNeg a), .slice A (D (nu a)).length ca, .slice B (D a.den).length cb], .agg #[.bool (isNeg b), .slice A' (D (nu b)).length ca', .slice B' (D b.den).length cb']] w (SayR w (isNeg (a + b)) (D (nu (a + b))) (D (a + b).den)) := by
  have m1 : (D (nu a * b.den)).length ≤ 800 := by have := D_len_mul (nu a) b.den; omega
  have m2 : (D (nu b * a.den)).length ≤ 800 := by have := D_len_mul (nu b) a.den; omega
  have m3 : (D (a.den * b.den)).length ≤ 800 := by have := D_len_mul a.den b.den; omega
  refine l02Add_core (isNeg a) (isNeg b) (nu a) a.den (nu b) b.den _ _ _ rfl rfl rfl _ _ _ A B ca cb A' B' ca' cb' P P' w h0 h1 l1 l2 l3 l4 m1 m2 m3 (fun h => ?_) (fun h h2 => ?_) (fun h h2 => ?_)
  · exact mkAt _ _ _ _ (add_same h) (add_pos_den a b) (by have := D_len_add (nu a * b.den) (nu b * a.den); omega) (by omega)
  · exact mkAt _ _ _ _ (add_ge h h2) (add_pos_den a b) (by have := D_len_sub (nu a * b.den) (nu b * a.den); omega) (by omega)
  · exact mkAt _ _ _ _ (add_lt h h2) (add_pos_den a b) (by have := D_len_sub (nu b * a.den) (nu a * b.den); omega) (by omega)
end Go.Proofs.Ytgeijojkfojfbaa
