/-
  Quotients: over and DivRat of the program, l02Div and DivRat of the model.
-/
import Derived.Test.YtcepjcnpokpdcaaGreatDoorGrpD
import Derived.Test.YtcepjcnpokpdcaaGreatDoorErrIs
namespace Nt
open Go Go.RowKit
theorem div_lens (a b : Rat) (h : 0 < nu b) : (D (nu (a / b))).length ≤ (D (nu a)).length + (D b.den).length ∧ (D (a / b).den).length ≤ (D a.den).length + (D (nu b)).length := by
  obtain ⟨e1, e2, e3⟩ := inv_parts h
  have := mul_lens a b⁻¹
  rw [e1, e2, ← Rat.div_def] at this
  exact this
end Nt
namespace Go.Proofs.YtcepjcnpokpdcaaGreatDoor
open Go Go.RowKit Nt

set_option maxRecDepth 20000 in
set_option maxHeartbeats 3200000 in
theorem l02Div_core (na nb : Bool) (x y x' y' p q : Nat) (hp : x * y' = p) (hq : y * x' = q) (nn : Bool) (X Y : List Int)
    (A B : Option Addr) (ca cb : Nat) (A' B' : Option Addr) (ca' cb' : Nat) (P P' : Nat → Prop) (w : World) (k0 : RdR w P (D x) (D y) A ca B cb) (k1 : RdR w P' (D x') (D y') A' ca' B' cb')
    (l1 : (D x).length ≤ 3600) (l2 : (D y).length ≤ 3600) (l3 : (D x').length ≤ 3600) (l4 : (D y').length ≤ 3600) (hm : MkAt (na != nb) p q nn X Y) :
    Calls Tryz.prog 110 #[.agg #[.bool na, .slice A (D x).length ca, .slice B (D y).length cb], .agg #[.bool nb, .slice A' (D x').length ca', .slice B' (D y').length cb']] w (SayR w nn X Y) := by
  have H0 := Lib.hid (k0.mono (Q := (· < w.heap.size)) fun _ _ h => h)
  have H1 := Lib.hid (k1.mono (Q := (· < w.heap.size)) fun _ _ h => h)
  have HPp := Lib.hid hp
  have HQq := Lib.hid hq
  have HM := Lib.hid hm
  clear k0 k1 hp hq hm
  go_enter Tryz.func110, Tryz.ntmps110
  go_upto_region 1 with fail
  refine wp_at (fun v0 => Below w.heap.size w v0 ∧ RatAt v0 w.heap.size 31 na A (D x).length ca B (D y).length cb ∧ RatAt v0 (w.heap.size + 1) 31 nb A' (D x').length ca' B' (D y').length cb' ∧ RatAt v0 (w.heap.size + 1 + 1) 31 false none 0 0 none 0 0)
    ⟨below3 _ _ _ _, ((RatAt.new _ _ _ _ _ _ _ _ _).alloc _).alloc _, (RatAt.new1 _ _ _ _ _ _ _ _ _ _).alloc _, RatAt.new2 _ _ _ _ _ _ _ _ _ _ _⟩ ?_
  rintro v0 ⟨hb, r0, r1, r2⟩
  have HB0 := Lib.hid hb
  have HR0 := Lib.hid r0
  have HS0 := Lib.hid r1
  have HT0 := Lib.hid r2
  clear hb r0 r1 r2
  go_region_held3 (fun wx => wx.cell? ⟨w.heap.size, 0, none⟩ = some (.bool na) ∧ wx.cell? ⟨w.heap.size, 1, none⟩ = some (.slice A (D x).length ca) ∧ wx.cell? ⟨w.heap.size, 2, none⟩ = some (.slice B (D y).length cb) ∧ wx.cell? ⟨w.heap.size + 1, 0, none⟩ = some (.bool nb) ∧ wx.cell? ⟨w.heap.size + 1, 1, none⟩ = some (.slice A' (D x').length ca') ∧ wx.cell? ⟨w.heap.size + 1, 2, none⟩ = some (.slice B' (D y').length cb'))
    (first | exact ⟨(HR0.out).c0, (HR0.out).c1, (HR0.out).c2, (HS0.out).c0, (HS0.out).c1, (HS0.out).c2⟩ | exact ⟨(HR1.out).c0, (HR1.out).c1, (HR1.out).c2, (HS1.out).c0, (HS1.out).c1, (HS1.out).c2⟩ | exact ⟨(HR2.out).c0, (HR2.out).c1, (HR2.out).c2, (HS2.out).c0, (HS2.out).c1, (HS2.out).c2⟩ | exact ⟨(HR3.out).c0, (HR3.out).c1, (HR3.out).c2, (HS3.out).c0, (HS3.out).c1, (HS3.out).c2⟩ | exact ⟨(HR3.out.grown (setAll_grown _ _ _ _ _) (by omega)).c0, (HR3.out.grown (setAll_grown _ _ _ _ _) (by omega)).c1, (HR3.out.grown (setAll_grown _ _ _ _ _) (by omega)).c2, (HS3.out.grown (setAll_grown _ _ _ _ _) (by omega)).c0, (HS3.out.grown (setAll_grown _ _ _ _ _) (by omega)).c1, (HS3.out.grown (setAll_grown _ _ _ _ _) (by omega)).c2⟩)
    (first
      | (go_at_call 143; refine (HM.out V1 d1 V2 d2 _ (by first | exact HN12.out | exact Rd.drew HN12.out) (by first | exact HN22.out | exact Rd.drew HN22.out)).mono ?_; rintro e v3 ⟨A8, c8, B8, d8, rfl, o8, bb⟩; have sv3 := bb.size; have HB3 := Lib.hid (below_on HB2.out bb); have HR3 := Lib.hid (HR2.out.on bb); have HS3 := Lib.hid (HS2.out.on bb); have HT3 := Lib.hid (HT2.out.on bb); have HN13 := Lib.hid (HN12.out.on bb); have HN23 := Lib.hid (HN22.out.on bb); have f0 := HT3.out.fz 0; have f1 := HT3.out.fz 1; have f2 := HT3.out.fz 2; have y0 := HT3.out.c0; have y1 := HT3.out.c1; have y2 := HT3.out.c2; have HO8 := Lib.hid o8; clear bb o8)
      | (go_at_call_of 142 B; refine (l01Mul_any B A' _ cb _ ca' y x' _ _ _ (by exact (H0.out.below HB1.out).2) (by exact (H1.out.below HB1.out).1) (by omega) (by omega)).mono ?_; rintro e v2 hnew; rw [HQq.out] at hnew; obtain ⟨V2, d2, rfl, p2, bb⟩ := new_of hnew; have sv2 := bb.size; have HB2 := Lib.hid (below_on HB1.out bb); have HR2 := Lib.hid (HR1.out.on bb); have HS2 := Lib.hid (HS1.out.on bb); have HT2 := Lib.hid (HT1.out.on bb); have HN12 := Lib.hid (HN11.out.on bb); have HN22 := Lib.hid p2; clear hnew p2 bb)
      | (go_at_call_of 142 A; refine (l01Mul_any A B' _ ca _ cb' x y' _ _ _ (by exact (H0.out.below HB0.out).1) (by exact (H1.out.below HB0.out).2) (by omega) (by omega)).mono ?_; rintro e v1 hnew; rw [HPp.out] at hnew; obtain ⟨V1, d1, rfl, p1, bb⟩ := new_of hnew; have bb := undrew bb; have sv1 := bb.size; have HB1 := Lib.hid (below_on HB0.out bb); have HR1 := Lib.hid (HR0.out.on bb); have HS1 := Lib.hid (HS0.out.on bb); have HT1 := Lib.hid (HT0.out.on bb); have HN11 := Lib.hid p1; clear hnew p1 bb))
  go_wp2
  have g2 := fun b u v => setAll_grown v3 (w.heap.size + 1 + 1) (.bool b) u v
  refine bodyPost_ret (retR rfl _ _ _ rfl (HT3.out.setAll _ _ _ _ _ _ _)) rfl ?_
  exact ⟨A8, c8, B8, d8, rfl, ⟨HO8.out.1.past HT3.out (g2 _ _ _), HO8.out.2.past HT3.out (g2 _ _ _)⟩, below_grow HB3.out (by omega) (g2 _ _ _)⟩

theorem l02Div_any (a b : Rat) (A B : Option Addr) (ca cb : Nat) (A' B' : Option Addr) (ca' cb' : Nat) (P P' : Nat → Prop) (w : World) (h0 : RdR w P (D (nu a)) (D a.den) A ca B cb) (h1 : RdR w P' (D (nu b)) (D b.den) A' ca' B' cb') (l1 : (D (nu a)).length ≤ 3600) (l2 : (D a.den).length ≤ 3600) (l3 : (D (nu b)).length ≤ 3600) (l4 : (D b.den).length ≤ 3600) (hb : 0 < nu b) :
    Calls Tryz.prog 110 #[.agg #[.bool (isNeg a), .slice A (D (nu a)).length ca, .slice B (D a.den).length cb], .agg #[.bool (isNeg b), .slice A' (D (nu b)).length ca', .slice B' (D b.den).length cb']] w (SayR w (isNeg (a / b)) (D (nu (a / b))) (D (a / b).den)) :=
  l02Div_core (isNeg a) (isNeg b) (nu a) a.den (nu b) b.den _ _ rfl rfl _ _ _ A B ca cb A' B' ca' cb' P P' w h0 h1 l1 l2 l3 l4 (mkAt _ _ _ _ (div_make a b hb) (Nat.mul_pos a.den_pos hb) (by have := D_len_mul (nu a) b.den; omega) (by have := D_len_mul a.den (nu b); omega))

set_option maxHeartbeats 800000 in
theorem over_zero (na nb : Bool) (A B : Option Addr) (la ca lb cb : Nat) (A' B' : Option Addr) (ca' lb' cb' : Nat) (ad : Addr) (w : World) (hE : ErrAt 221 w ad) :
    Calls Tryz.prog 221 #[.agg #[.bool na, .slice A la ca, .slice B lb cb], .agg #[.bool nb, .slice A' 0 ca', .slice B' lb' cb']] w (fun e w' => e = .returned (.tuple #[.agg #[.bool false, .slice none 0 0, .slice none 0 0], .iface 221 (.pointer (some ad))]) ∧ Below w.heap.size w w') := by
  have HE := Lib.hid hE
  clear hE
  go_enter Tryz.func221, Tryz.ntmps221
  go_upto_region 2 with fail
  refine wp_at (fun v0 => Below w.heap.size w v0 ∧ RatAt v0 (w.heap.size + 1 + 1) 31 false none 0 0 none 0 0)
    ⟨below3 _ _ _ _, RatAt.new2 _ _ _ _ _ _ _ _ _ _ _⟩ ?_
  rintro v0 ⟨hb, r2⟩
  have HB := Lib.hid hb
  have HT := Lib.hid r2
  have HG := Lib.hid (HE.out.on hb)
  have hsz := HE.out.2
  clear hb r2
  have f0 := HT.out.fz 0
  have f1 := HT.out.fz 1
  have f2 := HT.out.fz 2
  have y0 := HT.out.c0
  have y1 := HT.out.c1
  have y2 := HT.out.c2
  have hgl := HG.out.1
  go_region_held3 (fun wx => wx.cell? ⟨0, 0, none⟩ = some (.iface 221 (.pointer (some ad))))
    (first | exact HG.out.1 | exact (World.cell?_of_block (a := ⟨0, 0, none⟩) ((setAll_grown _ _ _ _ _).block 0 HG.out.2 (by intro e; injection e with e; omega))).trans HG.out.1) (fail)
  go_wp2
  refine bodyPost_ret (retRC rfl _ _ _ rfl (HT.out.setAll _ _ _ _ _ _ _)) rfl ?_
  exact ⟨rfl, below_drewN (below_grow HB.out (by omega) (setAll_grown v0 (w.heap.size + 1 + 1) _ _ _)) 1⟩

set_option maxHeartbeats 800000 in
theorem over_ok' (a b : Rat) (A B : Option Addr) (ca cb : Nat) (A' B' : Option Addr) (ca' cb' : Nat) (P P' : Nat → Prop) (w : World) (h0 : RdR w P (D (nu a)) (D a.den) A ca B cb) (h1 : RdR w P' (D (nu b)) (D b.den) A' ca' B' cb') (l1 : (D (nu a)).length ≤ 3600) (l2 : (D a.den).length ≤ 3600) (l3 : (D (nu b)).length ≤ 3600) (l4 : (D b.den).length ≤ 3600) (hb0 : 0 < nu b) (i q : Rat) (en1 : nu i = b.den) (en2 : i.den = nu b) (en3 : isNeg i = isNeg b) (hq : a * i = q) :
    Calls Tryz.prog 221 #[.agg #[.bool (isNeg a), .slice A (D (nu a)).length ca, .slice B (D a.den).length cb], .agg #[.bool (isNeg b), .slice A' (D (nu b)).length ca', .slice B' (D b.den).length cb']] w (fun e w' => ∃ A5 c5 B5 d5, e = .returned (.tuple #[.agg #[.bool (isNeg q), .slice A5 (D (nu q)).length c5, .slice B5 (D q.den).length d5], .nilIface]) ∧ RdR w' (fun _ => True) (D (nu q)) (D q.den) A5 c5 B5 d5 ∧ Below w.heap.size w w') := by
  have H0 := Lib.hid (h0.mono (Q := (· < w.heap.size)) fun _ _ h => h)
  have H1 := Lib.hid (h1.mono (Q := (· < w.heap.size)) fun _ _ h => h)
  have HQ := Lib.hid hq
  clear hq
  have EN1 := Lib.hid en1
  have EN2 := Lib.hid en2
  have EN3 := Lib.hid en3
  have hz : (((D (nu b)).length : Int) == 0) = false := by rw [beq_eq_false_iff_ne]; have := D_len_pos hb0; omega
  clear h0 h1 en1 en2 en3
  go_enter Tryz.func221, Tryz.ntmps221
  go_wp2_with fail
  rw [← EN3.out, ← EN1.out, ← EN2.out]
  refine calls_at (fun W => Below w.heap.size w W ∧ RatAt W w.heap.size 31 (isNeg a) A (D (nu a)).length ca B (D a.den).length cb ∧ RatAt W (w.heap.size + 1) 31 _ A' _ ca' B' _ cb' ∧ RatAt W (w.heap.size + 1 + 1) 31 false none 0 0 none 0 0)
    ⟨below3 _ _ _ _, ((RatAt.new _ _ _ _ _ _ _ _ _).alloc _).alloc _, (RatAt.new1 _ _ _ _ _ _ _ _ _ _).alloc _, RatAt.new2 _ _ _ _ _ _ _ _ _ _ _⟩ ?_
  rintro W ⟨hb, r0, r1, r2⟩
  refine (times_any a i A B ca cb B' A' cb' ca' _ (· < w.heap.size) W (H0.out.below hb) (by rw [EN1.out, EN2.out]; exact ⟨(H1.out.below hb).2, (H1.out.below hb).1⟩) l1 l2 (by rw [EN1.out]; exact l4) (by rw [EN2.out]; exact l3)).mono ?_
  rintro e w2 hnew
  rw [HQ.out] at hnew
  obtain ⟨A5, c5, B5, d5, rfl, o5, b2⟩ := hnew
  have HB2 := Lib.hid (below_on hb b2)
  have HT2 := Lib.hid (r2.on b2)
  have HO5 := Lib.hid o5
  clear b2 o5 hb r0 r1 r2
  have f0 := HT2.out.fz 0
  have f1 := HT2.out.fz 1
  have f2 := HT2.out.fz 2
  have y0 := HT2.out.c0
  have y1 := HT2.out.c1
  have y2 := HT2.out.c2
  go_wp2
  have g2 := fun b u v => setAll_grown w2 (w.heap.size + 1 + 1) (.bool b) u v
  refine bodyPost_ret (retRC rfl _ _ _ rfl (HT2.out.setAll _ _ _ _ _ _ _)) rfl ?_
  exact ⟨A5, c5, B5, d5, rfl, ⟨HO5.out.1.past HT2.out (g2 _ _ _), HO5.out.2.past HT2.out (g2 _ _ _)⟩, below_grow HB2.out (by omega) (g2 _ _ _)⟩

theorem over_ok (a b : Rat) (A B : Option Addr) (ca cb : Nat) (A' B' : Option Addr) (ca' cb' : Nat) (P P' : Nat → Prop) (w : World) (h0 : RdR w P (D (nu a)) (D a.den) A ca B cb) (h1 : RdR w P' (D (nu b)) (D b.den) A' ca' B' cb') (l1 : (D (nu a)).length ≤ 3600) (l2 : (D a.den).length ≤ 3600) (l3 : (D (nu b)).length ≤ 3600) (l4 : (D b.den).length ≤ 3600) (hb0 : 0 < nu b) :
    Calls Tryz.prog 221 #[.agg #[.bool (isNeg a), .slice A (D (nu a)).length ca, .slice B (D a.den).length cb], .agg #[.bool (isNeg b), .slice A' (D (nu b)).length ca', .slice B' (D b.den).length cb']] w (fun e w' => ∃ A5 c5 B5 d5, e = .returned (.tuple #[.agg #[.bool (isNeg (a / b)), .slice A5 (D (nu (a / b))).length c5, .slice B5 (D (a / b).den).length d5], .nilIface]) ∧ RdR w' (fun _ => True) (D (nu (a / b))) (D (a / b).den) A5 c5 B5 d5 ∧ Below w.heap.size w w') :=
  over_ok' a b A B ca cb A' B' ca' cb' P P' w h0 h1 l1 l2 l3 l4 hb0 b⁻¹ _ (inv_parts hb0).1 (inv_parts hb0).2.1 (inv_parts hb0).2.2 (Rat.div_def a b).symm

end Go.Proofs.YtcepjcnpokpdcaaGreatDoor
