/-
  Products of rationals of the program and of the model: what they answer lies in memory of their own.
-/
import Derived.Test.YtcepjcnpokpdcaaGreatDoorGrpD
namespace Nt
open Go Go.RowKit
/-- a rational that can be read, in blocks that are new -/
def SayN (w : World) (neg : Bool) (xs ys : List Int) (e : Ending) (w' : World) : Prop :=
  ∃ A ca B cb, e = .returned (.agg #[.bool neg, .slice A xs.length ca, .slice B ys.length cb]) ∧ RdR w' (w.heap.size ≤ ·) xs ys A ca B cb ∧ Below w.heap.size w w'
/-- a natural in blocks from N on -/
def Nf (N : Nat) (w : World) (A : Option Addr) (c m : Nat) : Prop := Rd w (N ≤ ·) A (D m).length c (D m)
theorem Nf.on {N : Nat} {w w' : World} {A : Option Addr} {c m : Nat} (h : Nf N w A c m) (hb : Below w.heap.size w w') : Nf N w' A c m := Rd.keep h hb.size fun b _ hl => hb.block b hl
theorem new_far {N : Nat} {t : TypeId} {w w' : World} {m : Nat} {e : Ending} (hN : N ≤ w.heap.size) (h : RetNew t w (D m) e w') : ∃ A c, e = .returned (.slice A (D m).length c) ∧ Nf N w' A c m ∧ Below w.heap.size w w' := by
  obtain ⟨A, c, rfl, ho, hb⟩ := h
  exact ⟨A, c, rfl, (own_rd' ho).mono fun _ h _ => Nat.le_trans hN h, hb⟩
end Nt
namespace Go.Proofs.YtcepjcnpokpdcaaGreatDoor
open Go Go.RowKit Nt

set_option maxRecDepth 20000 in
set_option maxHeartbeats 3200000 in
theorem times_newc (na nb : Bool) (x y x' y' g h u u' v v' p q : Nat) (hg : Nat.gcd x y' = g) (hh : Nat.gcd x' y = h) (hu : x / g = u) (hu' : x' / h = u') (hv : y / h = v) (hv' : y' / g = v') (hp : u * u' = p) (hq : v * v' = q) (g0 : 0 < g) (h0 : 0 < h)
    (A B : Option Addr) (ca cb : Nat) (A' B' : Option Addr) (ca' cb' : Nat) (P P' : Nat → Prop) (w : World) (k0 : RdR w P (D x) (D y) A ca B cb) (k1 : RdR w P' (D x') (D y') A' ca' B' cb')
    (l1 : (D x).length ≤ 3600) (l2 : (D y).length ≤ 3600) (l3 : (D x').length ≤ 3600) (l4 : (D y').length ≤ 3600) (l5 : (D g).length ≤ 3600) (l6 : (D h).length ≤ 3600) (l7 : (D u).length ≤ 3600) (l8 : (D u').length ≤ 3600) (l9 : (D v).length ≤ 3600) (l10 : (D v').length ≤ 3600) (l11 : (D p).length ≤ 7200) :
    Calls Tryz.prog 138 #[.agg #[.bool na, .slice A (D x).length ca, .slice B (D y).length cb], .agg #[.bool nb, .slice A' (D x').length ca', .slice B' (D y').length cb']] w (SayN w ((na != nb) && decide (0 < (D p).length)) (D p) (D q)) := by
  have H0 := Lib.hid (k0.mono (Q := (· < w.heap.size)) fun _ _ h => h)
  have H1 := Lib.hid (k1.mono (Q := (· < w.heap.size)) fun _ _ h => h)
  have HG := Lib.hid hg
  have HH := Lib.hid hh
  have HU := Lib.hid hu
  have HU' := Lib.hid hu'
  have HV := Lib.hid hv
  have HV' := Lib.hid hv'
  have HPp := Lib.hid hp
  have HQq := Lib.hid hq
  clear k0 k1 hg hh hu hu' hv hv' hp hq
  go_enter Tryz.func138, Tryz.ntmps138
  go_upto_region 1 with fail
  refine wp_at (fun v0 => Below w.heap.size w v0 ∧ RatAt v0 w.heap.size 31 na A (D x).length ca B (D y).length cb ∧ RatAt v0 (w.heap.size + 1) 31 nb A' (D x').length ca' B' (D y').length cb' ∧ RatAt v0 (w.heap.size + 1 + 1) 31 false none 0 0 none 0 0)
    ⟨below3 _ _ _ _, ((RatAt.new _ _ _ _ _ _ _ _ _).alloc _).alloc _, (RatAt.new1 _ _ _ _ _ _ _ _ _ _).alloc _, RatAt.new2 _ _ _ _ _ _ _ _ _ _ _⟩ ?_
  rintro v0 ⟨hb, r0, r1, r2⟩
  have HB0 := Lib.hid hb
  have HR0 := Lib.hid r0
  have HS0 := Lib.hid r1
  have HT0 := Lib.hid r2
  clear hb r0 r1 r2
  go_region_held3 (fun wx => wx.cell? ⟨w.heap.size, 0, none⟩ = some (.bool na) ∧ wx.cell? ⟨w.heap.size, 1, none⟩ = some (.slice A (D x).length ca) ∧ wx.cell? ⟨w.heap.size, 2, none⟩ = some (.slice B (D y).length cb) ∧ wx.cell? ⟨w.heap.size + 1, 0, none⟩ = some (.bool nb) ∧ wx.cell? ⟨w.heap.size + 1, 1, none⟩ = some (.slice A' (D x').length ca') ∧ wx.cell? ⟨w.heap.size + 1, 2, none⟩ = some (.slice B' (D y').length cb'))
    (first | exact ⟨(HR0.out).c0, (HR0.out).c1, (HR0.out).c2, (HS0.out).c0, (HS0.out).c1, (HS0.out).c2⟩ | exact ⟨(HR1.out).c0, (HR1.out).c1, (HR1.out).c2, (HS1.out).c0, (HS1.out).c1, (HS1.out).c2⟩ | exact ⟨(HR2.out).c0, (HR2.out).c1, (HR2.out).c2, (HS2.out).c0, (HS2.out).c1, (HS2.out).c2⟩)
    (first
      | (go_at_call_of 163 A'; refine (commonLimbs_any A' B _ ca' _ cb x' y _ _ _ (by exact (H1.out.below HB1.out).1) (by exact (H0.out.below HB1.out).2) (by omega) (by omega)).mono ?_; rintro e v2 hnew; rw [HH.out] at hnew; obtain ⟨V2, d2, rfl, p2, bb⟩ := new_of hnew; have sv2 := bb.size; have HB2 := Lib.hid (below_on HB1.out bb); have HR2 := Lib.hid (HR1.out.on bb); have HS2 := Lib.hid (HS1.out.on bb); have HT2 := Lib.hid (HT1.out.on bb); have HN12 := Lib.hid (HN11.out.on bb); have HN22 := Lib.hid p2; clear hnew p2 bb)
      | (go_at_call_of 163 A; refine (commonLimbs_any A B' _ ca _ cb' x y' _ _ _ (by exact (H0.out.below HB0.out).1) (by exact (H1.out.below HB0.out).2) (by omega) (by omega)).mono ?_; rintro e v1 hnew; rw [HG.out] at hnew; obtain ⟨V1, d1, rfl, p1, bb⟩ := new_of hnew; have bb := undrew bb; have sv1 := bb.size; have HB1 := Lib.hid (below_on HB0.out bb); have HR1 := Lib.hid (HR0.out.on bb); have HS1 := Lib.hid (HS0.out.on bb); have HT1 := Lib.hid (HT0.out.on bb); have HN11 := Lib.hid p1; clear hnew p1 bb))
  go_upto_region 2 with fail
  go_region_held3 (fun wx => wx.cell? ⟨w.heap.size, 0, none⟩ = some (.bool na) ∧ wx.cell? ⟨w.heap.size, 1, none⟩ = some (.slice A (D x).length ca) ∧ wx.cell? ⟨w.heap.size, 2, none⟩ = some (.slice B (D y).length cb) ∧ wx.cell? ⟨w.heap.size + 1, 0, none⟩ = some (.bool nb) ∧ wx.cell? ⟨w.heap.size + 1, 1, none⟩ = some (.slice A' (D x').length ca') ∧ wx.cell? ⟨w.heap.size + 1, 2, none⟩ = some (.slice B' (D y').length cb'))
    (first | exact ⟨(HR2.out).c0, (HR2.out).c1, (HR2.out).c2, (HS2.out).c0, (HS2.out).c1, (HS2.out).c2⟩ | exact ⟨(HR3.out).c0, (HR3.out).c1, (HR3.out).c2, (HS3.out).c0, (HS3.out).c1, (HS3.out).c2⟩ | exact ⟨(HR4.out).c0, (HR4.out).c1, (HR4.out).c2, (HS4.out).c0, (HS4.out).c1, (HS4.out).c2⟩ | exact ⟨(HR5.out).c0, (HR5.out).c1, (HR5.out).c2, (HS5.out).c0, (HS5.out).c1, (HS5.out).c2⟩)
    (first
      | (go_at_call 165; refine (productLimbs_any V3 V4 _ d3 _ d4 u u' _ _ _ (by first | exact HN34.out | exact Rd.drew HN34.out) (by first | exact HN44.out | exact Rd.drew HN44.out) (by omega) (by omega)).mono ?_; rintro e v5 hnew; rw [HPp.out] at hnew; obtain ⟨V5, d5, rfl, p5, bb⟩ := new_far (N := w.heap.size) (HB4.out.size) hnew; have sv5 := bb.size; have HB5 := Lib.hid (below_on HB4.out bb); have HR5 := Lib.hid (HR4.out.on bb); have HS5 := Lib.hid (HS4.out.on bb); have HT5 := Lib.hid (HT4.out.on bb); have HN15 := Lib.hid (HN14.out.on bb); have HN25 := Lib.hid (HN24.out.on bb); have HN35 := Lib.hid (HN34.out.on bb); have HN45 := Lib.hid (HN44.out.on bb); have HN55 := Lib.hid p5; clear hnew p5 bb)
      | (go_at_call_of 164 A'; refine (quotientLimbs_any A' V2 _ ca' _ d2 x' h _ _ _ (by exact (H1.out.below HB3.out).1) (by first | exact HN23.out | exact Rd.drew HN23.out) (by omega) (by omega) h0).mono ?_; rintro e v4 hnew; rw [HU'.out] at hnew; obtain ⟨V4, d4, rfl, p4, bb⟩ := hnew; have sv4 := bb.size; have HB4 := Lib.hid (below_on HB3.out bb); have HR4 := Lib.hid (HR3.out.on bb); have HS4 := Lib.hid (HS3.out.on bb); have HT4 := Lib.hid (HT3.out.on bb); have HN14 := Lib.hid (HN13.out.on bb); have HN24 := Lib.hid (HN23.out.on bb); have HN34 := Lib.hid (HN33.out.on bb); have HN44 := Lib.hid p4; clear p4 bb)
      | (go_at_call_of 164 A; refine (quotientLimbs_any A V1 _ ca _ d1 x g _ _ _ (by exact (H0.out.below HB2.out).1) (by first | exact HN12.out | exact Rd.drew HN12.out) (by omega) (by omega) g0).mono ?_; rintro e v3 hnew; rw [HU.out] at hnew; obtain ⟨V3, d3, rfl, p3, bb⟩ := hnew; have bb := undrew bb; have sv3 := bb.size; have HB3 := Lib.hid (below_on HB2.out bb); have HR3 := Lib.hid (HR2.out.on bb); have HS3 := Lib.hid (HS2.out.on bb); have HT3 := Lib.hid (HT2.out.on bb); have HN13 := Lib.hid (HN12.out.on bb); have HN23 := Lib.hid (HN22.out.on bb); have HN33 := Lib.hid p3; clear p3 bb))
  go_upto_region 3 with fail
  go_region_held3 (fun wx => wx.cell? ⟨w.heap.size, 0, none⟩ = some (.bool na) ∧ wx.cell? ⟨w.heap.size, 1, none⟩ = some (.slice A (D x).length ca) ∧ wx.cell? ⟨w.heap.size, 2, none⟩ = some (.slice B (D y).length cb) ∧ wx.cell? ⟨w.heap.size + 1, 0, none⟩ = some (.bool nb) ∧ wx.cell? ⟨w.heap.size + 1, 1, none⟩ = some (.slice A' (D x').length ca') ∧ wx.cell? ⟨w.heap.size + 1, 2, none⟩ = some (.slice B' (D y').length cb'))
    (first | exact ⟨(HR5.out).c0, (HR5.out).c1, (HR5.out).c2, (HS5.out).c0, (HS5.out).c1, (HS5.out).c2⟩ | exact ⟨(HR6.out).c0, (HR6.out).c1, (HR6.out).c2, (HS6.out).c0, (HS6.out).c1, (HS6.out).c2⟩ | exact ⟨(HR7.out).c0, (HR7.out).c1, (HR7.out).c2, (HS7.out).c0, (HS7.out).c1, (HS7.out).c2⟩ | exact ⟨(HR8.out).c0, (HR8.out).c1, (HR8.out).c2, (HS8.out).c0, (HS8.out).c1, (HS8.out).c2⟩)
    (first
      | (go_at_call 165; refine (productLimbs_any V6 V7 _ d6 _ d7 v v' _ _ _ (by first | exact HN67.out | exact Rd.drew HN67.out) (by first | exact HN77.out | exact Rd.drew HN77.out) (by omega) (by omega)).mono ?_; rintro e v8 hnew; rw [HQq.out] at hnew; obtain ⟨V8, d8, rfl, p8, bb⟩ := new_far (N := w.heap.size) (HB7.out.size) hnew; have sv8 := bb.size; have HB8 := Lib.hid (below_on HB7.out bb); have HR8 := Lib.hid (HR7.out.on bb); have HS8 := Lib.hid (HS7.out.on bb); have HT8 := Lib.hid (HT7.out.on bb); have HN18 := Lib.hid (HN17.out.on bb); have HN28 := Lib.hid (HN27.out.on bb); have HN38 := Lib.hid (HN37.out.on bb); have HN48 := Lib.hid (HN47.out.on bb); have HN58 := Lib.hid (HN57.out.on bb); have HN68 := Lib.hid (HN67.out.on bb); have HN78 := Lib.hid (HN77.out.on bb); have HN88 := Lib.hid p8; clear hnew p8 bb)
      | (go_at_call_of 164 B'; refine (quotientLimbs_any B' V1 _ cb' _ d1 y' g _ _ _ (by exact (H1.out.below HB6.out).2) (by first | exact HN16.out | exact Rd.drew HN16.out) (by omega) (by omega) g0).mono ?_; rintro e v7 hnew; rw [HV'.out] at hnew; obtain ⟨V7, d7, rfl, p7, bb⟩ := hnew; have sv7 := bb.size; have HB7 := Lib.hid (below_on HB6.out bb); have HR7 := Lib.hid (HR6.out.on bb); have HS7 := Lib.hid (HS6.out.on bb); have HT7 := Lib.hid (HT6.out.on bb); have HN17 := Lib.hid (HN16.out.on bb); have HN27 := Lib.hid (HN26.out.on bb); have HN37 := Lib.hid (HN36.out.on bb); have HN47 := Lib.hid (HN46.out.on bb); have HN57 := Lib.hid (HN56.out.on bb); have HN67 := Lib.hid (HN66.out.on bb); have HN77 := Lib.hid p7; clear p7 bb)
      | (go_at_call_of 164 B; refine (quotientLimbs_any B V2 _ cb _ d2 y h _ _ _ (by exact (H0.out.below HB5.out).2) (by first | exact HN25.out | exact Rd.drew HN25.out) (by omega) (by omega) h0).mono ?_; rintro e v6 hnew; rw [HV.out] at hnew; obtain ⟨V6, d6, rfl, p6, bb⟩ := hnew; have bb := undrew bb; have sv6 := bb.size; have HB6 := Lib.hid (below_on HB5.out bb); have HR6 := Lib.hid (HR5.out.on bb); have HS6 := Lib.hid (HS5.out.on bb); have HT6 := Lib.hid (HT5.out.on bb); have HN16 := Lib.hid (HN15.out.on bb); have HN26 := Lib.hid (HN25.out.on bb); have HN36 := Lib.hid (HN35.out.on bb); have HN46 := Lib.hid (HN45.out.on bb); have HN56 := Lib.hid (HN55.out.on bb); have HN66 := Lib.hid p6; clear p6 bb))
  have qR0 := HR8.out.c0
  have qR1 := HR8.out.c1
  have qR2 := HR8.out.c2
  have qS0 := HS8.out.c0
  have qS1 := HS8.out.c1
  have qS2 := HS8.out.c2
  go_wp2_with fail
  clear qR0 qR1 qR2 qS0 qS1 qS2
  refine (ratOf_any _ V5 V8 _ d5 _ d8 v8 (by omega)).mono ?_
  rintro e v9 ⟨rfl, bb⟩
  have sv9 := bb.size
  have HB9 := Lib.hid (below_on HB8.out bb)
  have HR9 := Lib.hid (HR8.out.on bb)
  have HS9 := Lib.hid (HS8.out.on bb)
  have HT9 := Lib.hid (HT8.out.on bb)
  have HN19 := Lib.hid (HN18.out.on bb)
  have HN29 := Lib.hid (HN28.out.on bb)
  have HN39 := Lib.hid (HN38.out.on bb)
  have HN49 := Lib.hid (HN48.out.on bb)
  have HN59 := Lib.hid (HN58.out.on bb)
  have HN69 := Lib.hid (HN68.out.on bb)
  have HN79 := Lib.hid (HN78.out.on bb)
  have HN89 := Lib.hid (HN88.out.on bb)
  clear HB8 HR8 HS8 HT8 HN18 HN28 HN38 HN48 HN58 HN68 HN78 HN88
  have f0 := HT9.out.fz 0
  have f1 := HT9.out.fz 1
  have f2 := HT9.out.fz 2
  have y0 := HT9.out.c0
  have y1 := HT9.out.c1
  have y2 := HT9.out.c2
  clear bb
  go_wp2
  have g2 := fun b u v => setAll_grown v9 (w.heap.size + 1 + 1) (.bool b) u v
  refine bodyPost_ret (retR rfl _ _ _ rfl (HT9.out.setAll _ _ _ _ _ _ _)) rfl ?_
  exact ⟨V5, d5, V8, d8, rfl, ⟨Rd.past HN59.out HT9.out (g2 _ _ _), Rd.past HN89.out HT9.out (g2 _ _ _)⟩, below_grow HB9.out (by omega) (g2 _ _ _)⟩

theorem times_new (a b : Rat) (A B : Option Addr) (ca cb : Nat) (A' B' : Option Addr) (ca' cb' : Nat) (P P' : Nat → Prop) (w : World) (h0 : RdR w P (D (nu a)) (D a.den) A ca B cb) (h1 : RdR w P' (D (nu b)) (D b.den) A' ca' B' cb') (l1 : (D (nu a)).length ≤ 3600) (l2 : (D a.den).length ≤ 3600) (l3 : (D (nu b)).length ≤ 3600) (l4 : (D b.den).length ≤ 3600) :
    Calls Tryz.prog 138 #[.agg #[.bool (isNeg a), .slice A (D (nu a)).length ca, .slice B (D a.den).length cb], .agg #[.bool (isNeg b), .slice A' (D (nu b)).length ca', .slice B' (D b.den).length cb']] w (SayN w (isNeg (a * b)) (D (nu (a * b))) (D (a * b).den)) := by
  obtain ⟨e1, e2, e3⟩ := times_parts a b
  rw [e3, e2, e1, ← D_pos_len]
  have z1 := D_len_gcd (nu a) b.den_pos
  have z2 := D_len_gcd (nu b) a.den_pos
  have z3 := D_len_div (nu a) (Nat.gcd (nu a) b.den)
  have z4 := D_len_div (nu b) (Nat.gcd (nu b) a.den)
  have z5 := D_len_div a.den (Nat.gcd (nu b) a.den)
  have z6 := D_len_div b.den (Nat.gcd (nu a) b.den)
  have z7 := D_len_mul (nu a / Nat.gcd (nu a) b.den) (nu b / Nat.gcd (nu b) a.den)
  exact times_newc _ _ (nu a) a.den (nu b) b.den _ _ _ _ _ _ _ _ rfl rfl rfl rfl rfl rfl rfl rfl (Nat.gcd_pos_of_pos_right _ b.den_pos) (Nat.gcd_pos_of_pos_right _ a.den_pos) A B ca cb A' B' ca' cb' P P' w h0 h1 l1 l2 l3 l4 (by omega) (by omega) (by omega) (by omega) (by omega) (by omega) (by omega)

set_option maxHeartbeats 800000 in
theorem l02Make_new (neg : Bool) (A B : Option Addr) (la ca lb cb p q : Nat) (P Q : Nat → Prop) (w : World) (hx0 : Rd w P A la ca (D p)) (hy0 : Rd w Q B lb cb (D q)) (hla : la ≤ 9000) (hlb : lb ≤ 9000) (hq : 0 < q) :
    Calls Tryz.prog 143 #[.bool neg, .slice A la ca, .slice B lb cb] w (SayN w (isNeg (mkRat (sg neg p) q)) (D (nu (mkRat (sg neg p) q))) (D (mkRat (sg neg p) q).den)) := by
  have HX := Lib.hid (hx0.mono (Q := (· < w.heap.size)) fun _ _ h => h)
  have HY := Lib.hid (hy0.mono (Q := (· < w.heap.size)) fun _ _ h => h)
  have hyl := hy0.len
  have hg0 : 0 < Nat.gcd p q := Nat.gcd_pos_of_pos_right _ hq
  have hgl : (D (Nat.gcd p q)).length ≤ 9000 := by have := D_len_gcd p hq; omega
  clear hx0 hy0 hyl
  go_enter Tryz.func143, Tryz.ntmps143
  go_wp2_with fail
  refine calls_at (fun W => Below w.heap.size w W ∧ RatAt W w.heap.size 31 false none 0 0 none 0 0) ⟨below1 _ _, RatAt.new _ _ _ _ _ _ _ _ _⟩ ?_
  rintro W ⟨hb, r0⟩
  refine (l01Gcd_any A B la ca lb cb p q _ _ W (HX.out.below hb) (HY.out.below hb) hla hlb).mono ?_
  rintro e w1 hnew
  obtain ⟨A1, c1, rfl, m1, b1⟩ := new_of hnew
  have HB1 := Lib.hid (below_on hb b1)
  have HR1 := Lib.hid (r0.on b1)
  have HM1 := Lib.hid m1
  clear hnew hb r0 m1 b1
  go_wp2_with fail
  refine (l01Div_any A A1 la ca _ c1 p (Nat.gcd p q) _ _ w1 (HX.out.below HB1.out) HM1.out hla hgl hg0).mono ?_
  rintro e w2 ⟨A2, c2, A3, c3, rfl, o2, r2, b2⟩
  have HP : Hid (Nf w.heap.size w2 A2 c2 (p / Nat.gcd p q)) := (own_rd' o2).mono fun _ h _ => Nat.le_trans HB1.out.size h
  have HB2 := Lib.hid (below_on HB1.out b2)
  have HR2 := Lib.hid (HR1.out.on b2)
  have HM2 := Lib.hid (HM1.out.on b2)
  clear o2 r2 b2 HB1 HR1 HM1
  go_wp2_with fail
  refine (l01Div_any B A1 lb cb _ c1 q (Nat.gcd p q) _ _ w2 (HY.out.below HB2.out) HM2.out hlb hgl hg0).mono ?_
  rintro e w3 ⟨A4, c4, A5, c5, rfl, o3, r3, b3⟩
  have HQ3 : Hid (Nf w.heap.size w3 A4 c4 (q / Nat.gcd p q)) := (own_rd' o3).mono fun _ h _ => Nat.le_trans HB2.out.size h
  have HP3 := Lib.hid (HP.out.on b3)
  have HB3 := Lib.hid (below_on HB2.out b3)
  have HR3 := Lib.hid (HR2.out.on b3)
  clear o3 r3 b3 HB2 HR2 HM2 HP
  have f0 := HR3.out.fz 0
  have f1 := HR3.out.fz 1
  have f2 := HR3.out.fz 2
  have y0 := HR3.out.c0
  have y1 := HR3.out.c1
  have y2 := HR3.out.c2
  cases neg with
  | false =>
    have HE : Hid ((false && decide (0 < p / Nat.gcd p q)) = false) := Lib.hid rfl
    go_wp2
    have g2 := fun b => setAll_grown w3 w.heap.size (.bool b) (.slice A2 (D (p / Nat.gcd p q)).length c2) (.slice A4 (D (q / Nat.gcd p q)).length c4)
    refine bodyPost_ret (retR rfl _ _ _ rfl (HR3.out.setAll _ _ _ _ _ _ _)) rfl ?_
    obtain ⟨e1, e2, e3⟩ := mk_parts false p q hq
    rw [e1, e2, e3]
    exact ⟨A2, c2, A4, c4, by rw [HE.out], ⟨Rd.past HP3.out HR3.out (g2 _), Rd.past HQ3.out HR3.out (g2 _)⟩, below_grow HB3.out (Nat.le_refl _) (g2 _)⟩
  | true =>
    have HE : Hid ((true && decide (0 < p / Nat.gcd p q)) = decide (0 < (D (p / Nat.gcd p q)).length)) := by
      show _ = _
      rw [Bool.true_and]
      rcases Nat.eq_zero_or_pos (p / Nat.gcd p q) with h | h
      · rw [h]; rfl
      · rw [decide_eq_true h, decide_eq_true (D_len_pos h)]
    go_wp2
    have g2 := fun b => setAll_grown w3 w.heap.size (.bool b) (.slice A2 (D (p / Nat.gcd p q)).length c2) (.slice A4 (D (q / Nat.gcd p q)).length c4)
    refine bodyPost_ret (retR rfl _ _ _ rfl (HR3.out.setAll _ _ _ _ _ _ _)) rfl ?_
    obtain ⟨e1, e2, e3⟩ := mk_parts true p q hq
    rw [e1, e2, e3]
    exact ⟨A2, c2, A4, c4, by rw [HE.out], ⟨Rd.past HP3.out HR3.out (g2 _), Rd.past HQ3.out HR3.out (g2 _)⟩, below_grow HB3.out (Nat.le_refl _) (g2 _)⟩

/-- l02Make answers so, in new blocks -/
def MkN (neg : Bool) (m d : Nat) (nn : Bool) (X Y : List Int) : Prop :=
  ∀ (A7 : Option Addr) (c7 : Nat) (B7 : Option Addr) (d7 : Nat) (W : World), Nm W A7 c7 m → Nm W B7 d7 d → Calls Tryz.prog 143 #[.bool neg, .slice A7 (D m).length c7, .slice B7 (D d).length d7] W (SayN W nn X Y)

theorem mkN (neg : Bool) (m d : Nat) (r : Rat) (hr : r = mkRat (sg neg m) d) (hd : 0 < d) (l1 : (D m).length ≤ 9000) (l2 : (D d).length ≤ 9000) : MkN neg m d (isNeg r) (D (nu r)) (D r.den) := by
  subst hr
  intro A7 c7 B7 d7 W h1 h2
  exact l02Make_new neg A7 B7 _ c7 _ d7 m d _ _ W h1 h2 l1 l2 hd

set_option maxRecDepth 20000 in
set_option maxHeartbeats 3200000 in
theorem l02Mul_newc (na nb : Bool) (x y x' y' p q : Nat) (hp : x * x' = p) (hq : y * y' = q) (nn : Bool) (X Y : List Int)
    (A B : Option Addr) (ca cb : Nat) (A' B' : Option Addr) (ca' cb' : Nat) (P P' : Nat → Prop) (w : World) (k0 : RdR w P (D x) (D y) A ca B cb) (k1 : RdR w P' (D x') (D y') A' ca' B' cb')
    (l1 : (D x).length ≤ 3600) (l2 : (D y).length ≤ 3600) (l3 : (D x').length ≤ 3600) (l4 : (D y').length ≤ 3600) (hm : MkN (na != nb) p q nn X Y) :
    Calls Tryz.prog 109 #[.agg #[.bool na, .slice A (D x).length ca, .slice B (D y).length cb], .agg #[.bool nb, .slice A' (D x').length ca', .slice B' (D y').length cb']] w (SayN w nn X Y) := by
  have H0 := Lib.hid (k0.mono (Q := (· < w.heap.size)) fun _ _ h => h)
  have H1 := Lib.hid (k1.mono (Q := (· < w.heap.size)) fun _ _ h => h)
  have HPp := Lib.hid hp
  have HQq := Lib.hid hq
  have HM := Lib.hid hm
  clear k0 k1 hp hq hm
  go_enter Tryz.func109, Tryz.ntmps109
  go_upto_region 1 with fail
  refine wp_at (fun v0 => Below w.heap.size w v0 ∧ RatAt v0 w.heap.size 31 na A (D x).length ca B (D y).length cb ∧ RatAt v0 (w.heap.size + 1) 31 nb A' (D x').length ca' B' (D y').length cb' ∧ RatAt v0 (w.heap.size + 1 + 1) 31 false none 0 0 none 0 0)
    ⟨below3 _ _ _ _, ((RatAt.new _ _ _ _ _ _ _ _ _).alloc _).alloc _, (RatAt.new1 _ _ _ _ _ _ _ _ _ _).alloc _, RatAt.new2 _ _ _ _ _ _ _ _ _ _ _⟩ ?_
  rintro v0 ⟨hb, r0, r1, r2⟩
  have HB0 := Lib.hid hb
  have HR0 := Lib.hid r0
  have HS0 := Lib.hid r1
  have HT0 := Lib.hid r2
  clear hb r0 r1 r2
  go_region_held3 (fun wx => wx.cell? ⟨w.heap.size, 0, none⟩ = some (.bool na) ∧ wx.cell? ⟨w.heap.size, 1, none⟩ = some (.slice A (D x).length ca) ∧ wx.cell? ⟨w.heap.size, 2, none⟩ = some (.slice B (D y).length cb) ∧ wx.cell? ⟨w.heap.size + 1, 0, none⟩ = some (.bool nb) ∧ wx.cell? ⟨w.heap.size + 1, 1, none⟩ = some (.slice A' (D x').length ca') ∧ wx.cell? ⟨w.heap.size + 1, 2, none⟩ = some (.slice B' (D y').length cb'))
    (first | exact ⟨(HR0.out).c0, (HR0.out).c1, (HR0.out).c2, (HS0.out).c0, (HS0.out).c1, (HS0.out).c2⟩ | exact ⟨(HR1.out).c0, (HR1.out).c1, (HR1.out).c2, (HS1.out).c0, (HS1.out).c1, (HS1.out).c2⟩ | exact ⟨(HR2.out).c0, (HR2.out).c1, (HR2.out).c2, (HS2.out).c0, (HS2.out).c1, (HS2.out).c2⟩ | exact ⟨(HR3.out).c0, (HR3.out).c1, (HR3.out).c2, (HS3.out).c0, (HS3.out).c1, (HS3.out).c2⟩ | exact ⟨(HR3.out.grown (setAll_grown _ _ _ _ _) (by omega)).c0, (HR3.out.grown (setAll_grown _ _ _ _ _) (by omega)).c1, (HR3.out.grown (setAll_grown _ _ _ _ _) (by omega)).c2, (HS3.out.grown (setAll_grown _ _ _ _ _) (by omega)).c0, (HS3.out.grown (setAll_grown _ _ _ _ _) (by omega)).c1, (HS3.out.grown (setAll_grown _ _ _ _ _) (by omega)).c2⟩)
    (first
      | (go_at_call 143; refine (HM.out V1 d1 V2 d2 _ (by first | exact HN12.out | exact Rd.drew HN12.out) (by first | exact HN22.out | exact Rd.drew HN22.out)).mono ?_; rintro e v3 ⟨A8, c8, B8, d8, rfl, o8, bb⟩; have sv3 := bb.size; have HB3 := Lib.hid (below_on HB2.out bb); have HR3 := Lib.hid (HR2.out.on bb); have HS3 := Lib.hid (HS2.out.on bb); have HT3 := Lib.hid (HT2.out.on bb); have HN13 := Lib.hid (HN12.out.on bb); have HN23 := Lib.hid (HN22.out.on bb); have f0 := HT3.out.fz 0; have f1 := HT3.out.fz 1; have f2 := HT3.out.fz 2; have y0 := HT3.out.c0; have y1 := HT3.out.c1; have y2 := HT3.out.c2; have HO8 := Lib.hid (o8.mono (Q := (w.heap.size ≤ ·)) fun _ h _ => Nat.le_trans HB2.out.size h); clear bb o8)
      | (go_at_call_of 142 B; refine (l01Mul_any B B' _ cb _ cb' y y' _ _ _ (by exact (H0.out.below HB1.out).2) (by exact (H1.out.below HB1.out).2) (by omega) (by omega)).mono ?_; rintro e v2 hnew; rw [HQq.out] at hnew; obtain ⟨V2, d2, rfl, p2, bb⟩ := new_of hnew; have sv2 := bb.size; have HB2 := Lib.hid (below_on HB1.out bb); have HR2 := Lib.hid (HR1.out.on bb); have HS2 := Lib.hid (HS1.out.on bb); have HT2 := Lib.hid (HT1.out.on bb); have HN12 := Lib.hid (HN11.out.on bb); have HN22 := Lib.hid p2; clear hnew p2 bb)
      | (go_at_call_of 142 A; refine (l01Mul_any A A' _ ca _ ca' x x' _ _ _ (by exact (H0.out.below HB0.out).1) (by exact (H1.out.below HB0.out).1) (by omega) (by omega)).mono ?_; rintro e v1 hnew; rw [HPp.out] at hnew; obtain ⟨V1, d1, rfl, p1, bb⟩ := new_of hnew; have bb := undrew bb; have sv1 := bb.size; have HB1 := Lib.hid (below_on HB0.out bb); have HR1 := Lib.hid (HR0.out.on bb); have HS1 := Lib.hid (HS0.out.on bb); have HT1 := Lib.hid (HT0.out.on bb); have HN11 := Lib.hid p1; clear hnew p1 bb))
  go_wp2
  have g2 := fun b u v => setAll_grown v3 (w.heap.size + 1 + 1) (.bool b) u v
  refine bodyPost_ret (retR rfl _ _ _ rfl (HT3.out.setAll _ _ _ _ _ _ _)) rfl ?_
  exact ⟨A8, c8, B8, d8, rfl, ⟨HO8.out.1.past HT3.out (g2 _ _ _), HO8.out.2.past HT3.out (g2 _ _ _)⟩, below_grow HB3.out (by omega) (g2 _ _ _)⟩

theorem l02Mul_new (a b : Rat) (A B : Option Addr) (ca cb : Nat) (A' B' : Option Addr) (ca' cb' : Nat) (P P' : Nat → Prop) (w : World) (h0 : RdR w P (D (nu a)) (D a.den) A ca B cb) (h1 : RdR w P' (D (nu b)) (D b.den) A' ca' B' cb') (l1 : (D (nu a)).length ≤ 3600) (l2 : (D a.den).length ≤ 3600) (l3 : (D (nu b)).length ≤ 3600) (l4 : (D b.den).length ≤ 3600) :
    Calls Tryz.prog 109 #[.agg #[.bool (isNeg a), .slice A (D (nu a)).length ca, .slice B (D a.den).length cb], .agg #[.bool (isNeg b), .slice A' (D (nu b)).length ca', .slice B' (D b.den).length cb']] w (SayN w (isNeg (a * b)) (D (nu (a * b))) (D (a * b).den)) :=
  l02Mul_newc (isNeg a) (isNeg b) (nu a) a.den (nu b) b.den _ _ rfl rfl _ _ _ A B ca cb A' B' ca' cb' P P' w h0 h1 l1 l2 l3 l4 (mkN _ _ _ _ (mul_make a b) (add_pos_den a b) (by have := D_len_mul (nu a) (nu b); omega) (by have := D_len_mul a.den b.den; omega))

end Go.Proofs.YtcepjcnpokpdcaaGreatDoor
namespace Nt
open Go Go.RowKit
/-- append of numbers onto an empty literal, as one step of a region that draws -/
theorem step_append_litN {P : Program} {ops : Array Oper} {o : Oper} {a : Act} {w : World} {K : Act → World → Prop} {Q : Exit → Act → World → Prop} {E : Prop} (N : Nat)
    (hg : o.guard = none) (s x : Operand) (t : TypeId) (hop : o.op = .call { callee := .builtin .append, args := #[s, x], argTypes := #[t, t] })
    (e : TypeId) (ht : P.underlying t = some (.slice e)) (hinfo : (P.info? e).map (fun i => (i.zero, i.size, i.bytes)) = some (some (.int .i64 0), 1, 8))
    (g : Nat) (hs : a.eval s = .slice (some ⟨g, 0, none⟩) 0 0) (hgN : N ≤ g) (hempty : w.heap[g]? = some (.cells #[] e (0, 0)))
    (R : Nat → Prop) (A : Option Addr) (m c : Nat) (ys : List Int) (hx : a.eval x = .slice A m c) (hr : Rd w R A m c ys) (hm : m ≤ 16777216) (hNw : N ≤ w.heap.size)
    (h : ∀ V' c' w', Rd w' (N ≤ ·) V' m c' ys → Grew N w w' → w.grownBy w' (some g) → K (a.put o.dst (.slice V' m c')) w') :
    if Region.wanted o (yielded ops a.tmps) = true then Oper.wp P o a w K Q else E := by
  have hw : Region.wanted o (yielded ops a.tmps) = true := by simp [Region.wanted, hg]
  rw [if_pos hw]
  obtain ⟨i, h1, h2, h3, h4⟩ := info_parts hinfo
  have hown : w.ownsRow N e 1 (.slice (some ⟨g, 0, none⟩) 0 0) 0 ((([] : List Int)).map (Value.int .i64)) := ⟨rfl, .inr ⟨g, 0, #[], rfl, hgN, hempty, Nat.le_refl _, Nat.zero_le _, rfl, rfl⟩⟩
  cases A with
  | none =>
    have hc0 := hr.2.2.1 rfl
    have hm0 : m = 0 := by have := hr.cap; omega
    subst hc0 hm0
    have hrun := run_append_owned_none (P := P) (w := w) N t o.type e i 1 ht h1 _ 0 _ hown
    unfold Oper.wp
    simp [execOp, hop, resolve, invoke, builtin, hs, hx, hrun, Result.andThen]
    have hy : ys = [] := List.eq_nil_of_length_eq_zero hr.len
    subst hy
    exact h _ _ _ (Rd.nil_ _ _ _ _ (fun h => by cases h)) (Grew.refl _ _) (World.grownBy.refl _ _)
  | some ad =>
    refine wp_append_own w s x t hop N e i _ 1 8 ht h1 h2 h3 h4 rfl (by decide) _ 0 _ hs hown ad m c (ys.map (Value.int .i64)) hx (by simpa using hr.len) ?_ (ints_oneCell _ _) (by unfold maxLen; omega) (by omega) hNw ?_
    · intro j u hj
      rw [List.getElem?_map] at hj
      have hlt : j < ys.length := by
        rcases Nat.lt_or_ge j ys.length with h | h
        · exact h
        · rw [List.getElem?_eq_none h] at hj; cases hj
      obtain ⟨b, o', e', _, _, hc⟩ := hr.at_ (by have := hr.len; omega)
      injection e' with e'
      subst e'
      have := hc j (by have := hr.len; omega)
      rw [List.getElem?_eq_getElem hlt] at hj
      simp only [Option.map_some, Option.some.injEq] at hj
      rw [← hj]
      have e2 : ys.getD j 0 = ys[j] := by simp [List.getD, hlt]
      rw [e2] at this
      rw [← this]
      unfold Addr.add
      by_cases hj0 : j = 0 <;> simp [hj0]
    · intro v' w' h5 h6 _
      rw [← List.map_append, List.nil_append, Nat.zero_add] at h5
      obtain ⟨A', c', rfl, hrd⟩ := own_rd h5
      have h6' : w.grownBy w' (some g) := h6
      refine h A' c' w' hrd ⟨grown_below h6' hNw hgN, fun k hk => ?_⟩ h6'
      by_cases hkg : k = g
      · subst hkg; exact .inr ⟨e, hempty⟩
      · exact .inl (h6'.block k hk (fun e => hkg (by injection e)))
end Nt
namespace Go.Proofs.YtcepjcnpokpdcaaGreatDoor
open Go Go.RowKit Nt

set_option maxRecDepth 20000 in
set_option maxHeartbeats 1600000 in
theorem l02Own_new (neg : Bool) (A B : Option Addr) (ca cb : Nat) (xs ys : List Int) (P : Nat → Prop) (w : World) (h0 : RdR w P xs ys A ca B cb) (hx : xs.length ≤ 16777216) (hy : ys.length ≤ 16777216) :
    Calls Tryz.prog 69 #[.agg #[.bool neg, .slice A xs.length ca, .slice B ys.length cb]] w (SayN w neg xs ys) := by
  have H := Lib.hid (h0.mono (Q := (· < w.heap.size)) fun _ _ h => h)
  clear h0
  go_enter Tryz.func69, Tryz.ntmps69
  go_upto_region 1 with fail
  have HB0 : Hid (Below w.heap.size w ((w.alloc (.cells #[.bool neg, .slice A xs.length ca, .slice B ys.length cb] 31)).alloc (.cells #[.bool false, .slice none 0 0, .slice none 0 0] 31))) := below2 _ _ _
  have HR0 : Hid (RatAt ((w.alloc (.cells #[.bool neg, .slice A xs.length ca, .slice B ys.length cb] 31)).alloc (.cells #[.bool false, .slice none 0 0, .slice none 0 0] 31)) w.heap.size 31 neg A xs.length ca B ys.length cb) := (RatAt.new _ _ _ _ _ _ _ _ _).alloc _
  have HR1 : Hid (RatAt ((w.alloc (.cells #[.bool neg, .slice A xs.length ca, .slice B ys.length cb] 31)).alloc (.cells #[.bool false, .slice none 0 0, .slice none 0 0] 31)) (w.heap.size + 1) 31 false none 0 0 none 0 0) := RatAt.new1 _ _ _ _ _ _ _ _ _ _
  generalize (w.alloc (.cells #[.bool neg, .slice A xs.length ca, .slice B ys.length cb] 31)).alloc (.cells #[.bool false, .slice none 0 0, .slice none 0 0] 31) = W at *
  have hs := HR1.out.lt
  have HRX := Lib.hid (H.out.below HB0.out)
  go_region_held3 (fun wx => wx.cell? ⟨w.heap.size, 0, none⟩ = some (.bool neg) ∧ wx.cell? ⟨w.heap.size, 1, none⟩ = some (.slice A xs.length ca) ∧ wx.cell? ⟨w.heap.size, 2, none⟩ = some (.slice B ys.length cb))
    (first | exact ⟨(HR0.out).c0, (HR0.out).c1, (HR0.out).c2⟩ | exact ⟨(HR0.out.alloc (.cells #[] 3)).c0, (HR0.out.alloc (.cells #[] 3)).c1, (HR0.out.alloc (.cells #[] 3)).c2⟩ | exact ⟨((HR0.out.alloc (.cells #[] 3)).alloc (.cells #[] 3)).c0, ((HR0.out.alloc (.cells #[] 3)).alloc (.cells #[] 3)).c1, ((HR0.out.alloc (.cells #[] 3)).alloc (.cells #[] 3)).c2⟩ | exact ⟨(HQ0.out).c0, (HQ0.out).c1, (HQ0.out).c2⟩ | exact ⟨(HQ0.out.alloc (.cells #[] 3)).c0, (HQ0.out.alloc (.cells #[] 3)).c1, (HQ0.out.alloc (.cells #[] 3)).c2⟩ | exact ⟨(HS0.out).c0, (HS0.out).c1, (HS0.out).c2⟩ | exact ⟨(HS0.out.grown (setAll_grown _ _ _ _ _) (by omega)).c0, (HS0.out.grown (setAll_grown _ _ _ _ _) (by omega)).c1, (HS0.out.grown (setAll_grown _ _ _ _ _) (by omega)).c2⟩)
    (first
      | (refine step_append_litN W.heap.size rfl (.tmp 5) (.tmp 7) 29 rfl 3 Tryz.underlying29 infoInt _ rfl (by first | exact HG1.out.1.size | exact Nat.le_refl _ | exact Nat.le_succ _) (by first | exact heap_alloc_new w1 _ | exact two_kept HGR.out _ (.inl rfl) (by simp) | exact two_kept HGR.out _ (.inr rfl) (by simp)) (· < w.heap.size) A _ ca xs rfl (by first | exact HRX.out.1.grew HG1.out | exact HRX.out.1.grew (HG1.out.alloc (Nat.le_refl _) (.cells #[] 3))) hx (by first | exact HG1.out.1.size | exact (HG1.out.alloc (Nat.le_refl _) (.cells #[] 3)).1.size) ?_; intro V2 d2 w2 rr2 gg2 gr2; have HFX := Lib.hid rr2; have HG2 : Hid (Grew W.heap.size W w2) := (by first | exact HG1.out.trans gg2 | exact (HG1.out.alloc (Nat.le_refl _) (.cells #[] 3)).trans gg2); have HFO := (by first | exact Lib.hid (HFY.out.grew gg2) | exact Lib.hid ((HFY.out.grew ((Grew.refl W.heap.size w1).alloc HG1.out.1.size (.cells #[] 3))).grew gg2)); have HS0 := Lib.hid (HR0.out.grew HG2.out); have HT1 := Lib.hid (HR1.out.grew HG2.out); have f0 := HT1.out.fz 0; have f1 := HT1.out.fz 1; have f2 := HT1.out.fz 2; have y0 := HT1.out.c0; have y1 := HT1.out.c1; have y2 := HT1.out.c2; clear rr2 gg2 gr2)
      | (refine step_append_litN W.heap.size rfl (.tmp 9) (.tmp 11) 29 rfl 3 Tryz.underlying29 infoInt _ rfl (by first | exact HG1.out.1.size | exact Nat.le_refl _ | exact Nat.le_succ _) (by first | exact heap_alloc_new w1 _ | exact two_kept HGR.out _ (.inl rfl) (by simp) | exact two_kept HGR.out _ (.inr rfl) (by simp)) (· < w.heap.size) B _ cb ys rfl (by first | exact HRX.out.2.grew HG1.out | exact HRX.out.2.grew (HG1.out.alloc (Nat.le_refl _) (.cells #[] 3))) hy (by first | exact HG1.out.1.size | exact (HG1.out.alloc (Nat.le_refl _) (.cells #[] 3)).1.size) ?_; intro V2 d2 w2 rr2 gg2 gr2; have HFY := Lib.hid rr2; have HG2 : Hid (Grew W.heap.size W w2) := (by first | exact HG1.out.trans gg2 | exact (HG1.out.alloc (Nat.le_refl _) (.cells #[] 3)).trans gg2); have HFO := (by first | exact Lib.hid (HFX.out.grew gg2) | exact Lib.hid ((HFX.out.grew ((Grew.refl W.heap.size w1).alloc HG1.out.1.size (.cells #[] 3))).grew gg2)); have HS0 := Lib.hid (HR0.out.grew HG2.out); have HT1 := Lib.hid (HR1.out.grew HG2.out); have f0 := HT1.out.fz 0; have f1 := HT1.out.fz 1; have f2 := HT1.out.fz 2; have y0 := HT1.out.c0; have y1 := HT1.out.c1; have y2 := HT1.out.c2; clear rr2 gg2 gr2)
      | (refine step_append_litN W.heap.size rfl (.tmp 5) (.tmp 7) 29 rfl 3 Tryz.underlying29 infoInt _ rfl (by first | exact Nat.le_refl _ | exact Nat.le_succ _) (by first | exact heap_alloc_new W.drew _ | exact two_empty W _ _ (.inl rfl) | exact two_empty W _ _ (.inr rfl)) (· < w.heap.size) A _ ca xs rfl (by first | exact HRX.out.1.grew (grew1 W W.heap.size (Nat.le_refl _) (.cells #[] 3)) | exact HRX.out.1.grew (grew2 W W.heap.size (Nat.le_refl _) (.cells #[] 3) (.cells #[] 3))) hx (by first | exact (grew1 W W.heap.size (Nat.le_refl _) (.cells #[] 3)).1.size | exact (grew2 W W.heap.size (Nat.le_refl _) (.cells #[] 3) (.cells #[] 3)).1.size) ?_; intro V1 d1 w1 rr1 gg1 gr1; have HFX := Lib.hid rr1; have HGR := Lib.hid gr1; have HG1 : Hid (Grew W.heap.size W w1) := (by first | exact (grew1 W W.heap.size (Nat.le_refl _) (.cells #[] 3)).trans gg1 | exact (grew2 W W.heap.size (Nat.le_refl _) (.cells #[] 3) (.cells #[] 3)).trans gg1); have HQ0 := Lib.hid (HR0.out.grew HG1.out); clear rr1 gg1 gr1)
      | (refine step_append_litN W.heap.size rfl (.tmp 9) (.tmp 11) 29 rfl 3 Tryz.underlying29 infoInt _ rfl (by first | exact Nat.le_refl _ | exact Nat.le_succ _) (by first | exact heap_alloc_new W.drew _ | exact two_empty W _ _ (.inl rfl) | exact two_empty W _ _ (.inr rfl)) (· < w.heap.size) B _ cb ys rfl (by first | exact HRX.out.2.grew (grew1 W W.heap.size (Nat.le_refl _) (.cells #[] 3)) | exact HRX.out.2.grew (grew2 W W.heap.size (Nat.le_refl _) (.cells #[] 3) (.cells #[] 3))) hy (by first | exact (grew1 W W.heap.size (Nat.le_refl _) (.cells #[] 3)).1.size | exact (grew2 W W.heap.size (Nat.le_refl _) (.cells #[] 3) (.cells #[] 3)).1.size) ?_; intro V1 d1 w1 rr1 gg1 gr1; have HFY := Lib.hid rr1; have HGR := Lib.hid gr1; have HG1 : Hid (Grew W.heap.size W w1) := (by first | exact (grew1 W W.heap.size (Nat.le_refl _) (.cells #[] 3)).trans gg1 | exact (grew2 W W.heap.size (Nat.le_refl _) (.cells #[] 3) (.cells #[] 3)).trans gg1); have HQ0 := Lib.hid (HR0.out.grew HG1.out); clear rr1 gg1 gr1))
  all_goals
    go_wp2
    have g2 := setAll_grown w2 (w.heap.size + 1) (.bool neg)
    refine bodyPost_ret (retR rfl _ _ _ rfl (HT1.out.setAll _ _ _ _ _ _ _)) rfl ?_
    refine ⟨_, _, _, _, rfl, ⟨?_, ?_⟩, below_grow (HB0.out.trans (HG2.out.1.mono HB0.out.size)) (by omega) (g2 _ _)⟩
    · first | exact (HFO.out.past HT1.out (g2 _ _)).mono fun _ h _ => Nat.le_trans HB0.out.size h | exact (HFX.out.past HT1.out (g2 _ _)).mono fun _ h _ => Nat.le_trans HB0.out.size h
    · first | exact (HFY.out.past HT1.out (g2 _ _)).mono fun _ h _ => Nat.le_trans HB0.out.size h | exact (HFO.out.past HT1.out (g2 _ _)).mono fun _ h _ => Nat.le_trans HB0.out.size h

end Go.Proofs.YtcepjcnpokpdcaaGreatDoor
