/-
  CmpMath RatCmp CmpRat RatArith SpecArith RatBin in one text.
-/
import Derived.Test.YtifepoefeamboaaGreatDoorGrpC
import Derived.Test.YtifepoefeamboaaGreatDoorGrpA
namespace Nt
end Nt
namespace Nt
open Go Go.RowKit
theorem wp_at {P : Program} {c : Code} {Q : Exit → Act → World → Prop} {a : Act} {W : World} (F : World → Prop) (hF : F W) (h : ∀ W, F W → c.wp P Q a W) : c.wp P Q a W := h W hF
end Nt
namespace Go.Proofs.YtifepoefeamboaaGreatDoor
open Go Go.RowKit Nt

set_option maxHeartbeats 400000 in
theorem l02Zero_any (neg : Bool) (A B : Option Addr) (la ca lb cb : Nat) (w : World) (_hla : la ≤ 16777216) :
    Calls Tryz.prog 91 #[.agg #[.bool neg, .slice A la ca, .slice B lb cb]] w fun e w' => e = .returned (.bool ((la : Int) == 0)) ∧ Below w.heap.size w w' := by
  go_enter Tryz.func91, Tryz.ntmps91
  go_wp2
  go_ret
  exact ⟨rfl, below1 _ _⟩

set_option maxRecDepth 20000 in
set_option maxHeartbeats 800000 in
theorem l02Sub_any (a b : Rat) (A B : Option Addr) (ca cb : Nat) (A' B' : Option Addr) (ca' cb' : Nat) (P P' : Nat → Prop) (w : World) (h0 : RdR w P (D (nu a)) (D a.den) A ca B cb) (h1 : RdR w P' (D (nu b)) (D b.den) A' ca' B' cb') (l1 : (D (nu a)).length ≤ 3600) (l2 : (D a.den).length ≤ 3600) (l3 : (D (nu b)).length ≤ 3600) (l4 : (D b.den).length ≤ 3600) :
    Calls Tryz.prog 122 #[.agg #[.bool (isNeg a), .slice A (D (nu a)).length ca, .slice B (D a.den).length cb], .agg #[.bool (isNeg b), .slice A' (D (nu b)).length ca', .slice B' (D b.den).length cb']] w (SayR w (isNeg (a - b)) (D (nu (a - b))) (D (a - b).den)) := by
  have H0 := Lib.hid (h0.mono (Q := (· < w.heap.size)) fun _ _ h => h)
  have H1 := Lib.hid (h1.mono (Q := (· < w.heap.size)) fun _ _ h => h)
  obtain ⟨en1, en2, en3⟩ := neg_parts b
  have EN1 := Lib.hid en1
  have EN2 := Lib.hid en2
  have EN3 := Lib.hid en3
  clear h0 h1 en1 en2 en3
  go_enter Tryz.func122, Tryz.ntmps122
  go_upto_region 1 with fail
  refine wp_at (fun v0 => Below w.heap.size w v0 ∧ RatAt v0 w.heap.size 31 (isNeg a) A (D (nu a)).length ca B (D a.den).length cb ∧ RatAt v0 (w.heap.size + 1) 31 (isNeg b) A' (D (nu b)).length ca' B' (D b.den).length cb' ∧ RatAt v0 (w.heap.size + 1 + 1) 31 false none 0 0 none 0 0)
    ⟨below3 _ _ _ _, ((RatAt.new _ _ _ _ _ _ _ _ _).alloc _).alloc _, (RatAt.new1 _ _ _ _ _ _ _ _ _ _).alloc _, RatAt.new2 _ _ _ _ _ _ _ _ _ _ _⟩ ?_
  rintro v0 ⟨hb, r0, r1, r2⟩
  have HB0 := Lib.hid hb
  have HR0 := Lib.hid r0
  have HS0 := Lib.hid r1
  have HT0 := Lib.hid r2
  clear hb r0 r1 r2
  go_region_held3 (fun wx => wx.cell? ⟨w.heap.size, 0, none⟩ = some (.bool (isNeg a)) ∧ wx.cell? ⟨w.heap.size, 1, none⟩ = some (.slice A (D (nu a)).length ca) ∧ wx.cell? ⟨w.heap.size, 2, none⟩ = some (.slice B (D a.den).length cb) ∧ wx.cell? ⟨w.heap.size + 1, 0, none⟩ = some (.bool (isNeg b)) ∧ wx.cell? ⟨w.heap.size + 1, 1, none⟩ = some (.slice A' (D (nu b)).length ca') ∧ wx.cell? ⟨w.heap.size + 1, 2, none⟩ = some (.slice B' (D b.den).length cb'))
    (first | exact ⟨HR0.out.c0, HR0.out.c1, HR0.out.c2, HS0.out.c0, HS0.out.c1, HS0.out.c2⟩ | exact ⟨HR1.out.c0, HR1.out.c1, HR1.out.c2, HS1.out.c0, HS1.out.c1, HS1.out.c2⟩ | exact ⟨HR2.out.c0, HR2.out.c1, HR2.out.c2, HS2.out.c0, HS2.out.c1, HS2.out.c2⟩ | exact ⟨(HR2.out.grown (setAll_grown _ _ _ _ _) (by omega)).c0, (HR2.out.grown (setAll_grown _ _ _ _ _) (by omega)).c1, (HR2.out.grown (setAll_grown _ _ _ _ _) (by omega)).c2, (HS2.out.grown (setAll_grown _ _ _ _ _) (by omega)).c0, (HS2.out.grown (setAll_grown _ _ _ _ _) (by omega)).c1, (HS2.out.grown (setAll_grown _ _ _ _ _) (by omega)).c2⟩)
    (first
      | (go_at_call 118; refine (l02Add_any a (-b) A B ca cb A' B' ca' cb' _ _ _ (by exact H0.out.below HB1.out) (by rw [EN1.out, EN2.out]; exact H1.out.below HB1.out) l1 l2 (by rw [EN1.out]; exact l3) (by rw [EN2.out]; exact l4)).mono ?_; rintro e v2 ⟨A8, c8, B8, d8, rfl, o8, bb⟩; have HO8 := Lib.hid o8; have HT2 := Lib.hid (HT1.out.on bb); have HR2 := Lib.hid (HR1.out.on bb); have HS2 := Lib.hid (HS1.out.on bb); have HB2 := Lib.hid (below_on HB1.out bb); clear bb; have f0 := HT2.out.fz 0; have f1 := HT2.out.fz 1; have f2 := HT2.out.fz 2; have y0 := HT2.out.c0; have y1 := HT2.out.c1; have y2 := HT2.out.c2; clear o8)
      | (go_at_call 119; refine (l02Neg_any (isNeg b) A' B' _ ca' _ cb' _ (by omega)).mono ?_; rintro e v1 ⟨rfl, bb⟩; rw [← EN3.out, ← EN1.out, ← EN2.out]; have bb := undrew bb; have HT1 := Lib.hid (HT0.out.on bb); have HR1 := Lib.hid (HR0.out.on bb); have HS1 := Lib.hid (HS0.out.on bb); have HB1 := Lib.hid (below_on HB0.out bb); clear bb))
  go_wp2
  have g2 := fun b u v => setAll_grown v2 (w.heap.size + 1 + 1) (.bool b) u v
  refine bodyPost_ret (retR rfl _ _ _ rfl (HT2.out.setAll _ _ _ _ _ _ _)) rfl ?_
  rw [Rat.sub_eq_add_neg]
  exact ⟨A8, c8, B8, d8, rfl, ⟨HO8.out.1.past HT2.out (g2 _ _ _), HO8.out.2.past HT2.out (g2 _ _ _)⟩, below_grow HB2.out (by omega) (g2 _ _ _)⟩
end Go.Proofs.YtifepoefeamboaaGreatDoor
namespace Go.Proofs.YtifepoefeamboaaGreatDoor
open Go Go.RowKit Nt

end Go.Proofs.YtifepoefeamboaaGreatDoor
namespace Nt
open Go Go.RowKit
/-- is it answered, or too long -/
def fitQ (r : Rat) : Prop := (D (nu r)).length ≤ 40 ∧ (D r.den).length ≤ 40
instance (r : Rat) : Decidable (fitQ r) := by unfold fitQ; exact inferInstance
def fN (r : Rat) : Bool := if fitQ r then isNeg r else false
def fX (r : Rat) : List Int := if fitQ r then D (nu r) else []
def fY (r : Rat) : List Int := if fitQ r then D r.den else []
def fK (r : Rat) : Int := if fitQ r then 0 else 7
theorem D_pos_len (p : Nat) : decide (0 < (D p).length) = decide (0 < p) := by
  rcases Nat.eq_zero_or_pos p with h | h
  · rw [h]; rfl
  · rw [decide_eq_true h, decide_eq_true (D_len_pos h)]
end Nt
namespace Go.Proofs.YtifepoefeamboaaGreatDoor
open Go Go.RowKit Nt

set_option maxHeartbeats 400000 in
theorem ratOf_any (n : Bool) (A B : Option Addr) (la ca lb cb : Nat) (w : World) (hla : la ≤ 16777216) :
    Calls Tryz.prog 144 #[.bool n, .slice A la ca, .slice B lb cb] w fun e w' => e = .returned (.agg #[.bool (n && decide (0 < la)), .slice A la ca, .slice B lb cb]) ∧ Below w.heap.size w w' := by
  cases n with
  | false =>
    go_enter Tryz.func144, Tryz.ntmps144
    go_wp2
    refine bodyPost_ret (retR rfl _ _ _ rfl (RatAt.new _ _ _ _ _ _ _ _ _)) rfl ⟨rfl, below1 _ _⟩
  | true =>
    by_cases hp : 0 < la
    · have HE : Hid ((true && decide (0 < la)) = true) := Lib.hid (by simpa using hp)
      have hp' : (0 : Int) < la := by omega
      go_enter Tryz.func144, Tryz.ntmps144
      go_wp2
      refine bodyPost_ret (retR rfl _ _ _ rfl (RatAt.new _ _ _ _ _ _ _ _ _)) rfl ⟨by rw [HE.out], below1 _ _⟩
    · have HE : Hid ((true && decide (0 < la)) = false) := Lib.hid (by simpa using hp)
      have hp' : decide ((0 : Int) < la) = false := decide_eq_false (by omega)
      go_enter Tryz.func144, Tryz.ntmps144
      go_wp2
      refine bodyPost_ret (retR rfl _ _ _ rfl (RatAt.new _ _ _ _ _ _ _ _ _)) rfl ⟨by rw [HE.out], below1 _ _⟩

set_option maxHeartbeats 400000 in
theorem fitted_yes (n : Bool) (A B : Option Addr) (ca cb : Nat) (xs ys : List Int) (P : Nat → Prop) (w : World) (h0 : RdR w P xs ys A ca B cb) (hx : xs.length ≤ 40) (hy : ys.length ≤ 40) :
    Calls Tryz.prog 42 #[.agg #[.bool n, .slice A xs.length ca, .slice B ys.length cb]] w (RetRC 3 w n xs ys 0) := by
  have H := Lib.hid (h0.mono (Q := (· < w.heap.size)) fun _ _ h => h)
  clear h0
  have hx' : (xs.length : Int) ≤ 40 := by omega
  have hy' : (ys.length : Int) ≤ 40 := by omega
  go_enter Tryz.func42, Tryz.ntmps42
  go_wp2_with fail
  refine calls_at (fun W => Below w.heap.size w W ∧ RatAt W (w.heap.size + 1) 31 false none 0 0 none 0 0)
    ⟨below2 _ _ _, RatAt.new1 _ _ _ _ _ _ _ _ _ _⟩ ?_
  rintro W ⟨hb, r1⟩
  refine (apart_any n A B ca cb xs ys _ W (H.out.below hb) (by omega) (by omega)).mono ?_
  rintro e w2 ⟨A1, d1, A2, d2, rfl, o2, b2⟩
  have HB2 := Lib.hid (below_on hb b2)
  have HR2 := Lib.hid (r1.on b2)
  have HO2 := Lib.hid o2
  have hs1 := r1.lt
  have hs2 := b2.size
  clear o2 b2 hb r1
  have f0 := HR2.out.fz 0
  have f1 := HR2.out.fz 1
  have f2 := HR2.out.fz 2
  have y0 := HR2.out.c0
  have y1 := HR2.out.c1
  have y2 := HR2.out.c2
  go_wp2
  have g2 := fun b u v => setAll_grown w2 (w.heap.size + 1) (.bool b) u v
  refine bodyPost_ret (retRC rfl _ _ _ rfl (HR2.out.setAll _ _ _ _ _ _ _)) rfl ?_
  exact ⟨A1, d1, A2, d2, rfl, ⟨own_mono (own_gone HO2.out.1 (g2 _ _ _) (fun k hk => by have := own_block HO2.out.1 hk; omega)) (by omega), own_mono (own_gone HO2.out.2.1 (g2 _ _ _) (fun k hk => by have := own_block HO2.out.2.1 hk; omega)) (by omega), HO2.out.2.2⟩, below_grow HB2.out (by omega) (g2 _ _ _)⟩

set_option maxHeartbeats 400000 in
theorem fitted_no (n : Bool) (A B : Option Addr) (la ca lb cb : Nat) (w : World) (hla : la ≤ 16777216) (hlb : lb ≤ 16777216) (h : 40 < la ∨ 40 < lb) :
    Calls Tryz.prog 42 #[.agg #[.bool n, .slice A la ca, .slice B lb cb]] w (RetRC 3 w false [] [] 7) := by
  by_cases h1 : 40 < la
  · have h1' : (40 : Int) < la := by omega
    go_enter Tryz.func42, Tryz.ntmps42
    go_wp2
    refine bodyPost_ret (retRC rfl _ _ _ rfl (RatAt.new1 _ _ _ _ _ _ _ _ _ _)) rfl ?_
    exact ⟨none, 0, none, 0, rfl, ⟨World.ownsRow_nil _ _ _ _, World.ownsRow_nil _ _ _ _, fun g h e => by cases e⟩, below2 _ _ _⟩
  · have h1' : decide ((40 : Int) < la) = false := decide_eq_false (by omega)
    have h2' : (40 : Int) < lb := by omega
    go_enter Tryz.func42, Tryz.ntmps42
    go_wp2
    refine bodyPost_ret (retRC rfl _ _ _ rfl (RatAt.new1 _ _ _ _ _ _ _ _ _ _)) rfl ?_
    exact ⟨none, 0, none, 0, rfl, ⟨World.ownsRow_nil _ _ _ _, World.ownsRow_nil _ _ _ _, fun g h e => by cases e⟩, below2 _ _ _⟩

theorem fitted_any (r : Rat) (A B : Option Addr) (ca cb : Nat) (P : Nat → Prop) (w : World) (h0 : RdR w P (D (nu r)) (D r.den) A ca B cb) (l1 : (D (nu r)).length ≤ 16777216) (l2 : (D r.den).length ≤ 16777216) :
    Calls Tryz.prog 42 #[.agg #[.bool (isNeg r), .slice A (D (nu r)).length ca, .slice B (D r.den).length cb]] w (RetRC 3 w (fN r) (fX r) (fY r) (fK r)) := by
  unfold fN fX fY fK
  by_cases h : fitQ r
  · rw [if_pos h, if_pos h, if_pos h, if_pos h]
    exact fitted_yes _ A B ca cb _ _ P w h0 h.1 h.2
  · rw [if_neg h, if_neg h, if_neg h, if_neg h]
    exact fitted_no _ A B _ ca _ cb w l1 l2 (by unfold fitQ at h; omega)

set_option maxRecDepth 20000 in
set_option maxHeartbeats 3200000 in
theorem times_core (na nb : Bool) (x y x' y' g h u u' v v' p q : Nat) (hg : Nat.gcd x y' = g) (hh : Nat.gcd x' y = h) (hu : x / g = u) (hu' : x' / h = u') (hv : y / h = v) (hv' : y' / g = v') (hp : u * u' = p) (hq : v * v' = q) (g0 : 0 < g) (h0 : 0 < h)
    (A B : Option Addr) (ca cb : Nat) (A' B' : Option Addr) (ca' cb' : Nat) (P P' : Nat → Prop) (w : World) (k0 : RdR w P (D x) (D y) A ca B cb) (k1 : RdR w P' (D x') (D y') A' ca' B' cb')
    (l1 : (D x).length ≤ 3600) (l2 : (D y).length ≤ 3600) (l3 : (D x').length ≤ 3600) (l4 : (D y').length ≤ 3600) (l5 : (D g).length ≤ 3600) (l6 : (D h).length ≤ 3600) (l7 : (D u).length ≤ 3600) (l8 : (D u').length ≤ 3600) (l9 : (D v).length ≤ 3600) (l10 : (D v').length ≤ 3600) (l11 : (D p).length ≤ 7200) :
    Calls Tryz.prog 116 #[.agg #[.bool na, .slice A (D x).length ca, .slice B (D y).length cb], .agg #[.bool nb, .slice A' (D x').length ca', .slice B' (D y').length cb']] w (SayR w ((na != nb) && decide (0 < (D p).length)) (D p) (D q)) := by
  have H0 := Lib.hid (k0.mono (Q := (· < w.heap.size)) fun _ _ h => h)
  have H1 := Lib.hid (k1.mono (Q := (· < w.heap.size)) fun _ _ h => h)
  have HG := Lib.hid hg
  have HH := Lib.hid hh
  have HU := Lib.hid hu
  have HU' := Lib.hid hu'
  have HV := Lib.hid hv
  have HV' := Lib.hid hv'
  have HPp := Lib.hid hp
  have HQq := Lib.hid hq
  clear k0 k1 hg hh hu hu' hv hv' hp hq
  go_enter Tryz.func116, Tryz.ntmps116
  go_upto_region 1 with fail
  refine wp_at (fun v0 => Below w.heap.size w v0 ∧ RatAt v0 w.heap.size 31 na A (D x).length ca B (D y).length cb ∧ RatAt v0 (w.heap.size + 1) 31 nb A' (D x').length ca' B' (D y').length cb' ∧ RatAt v0 (w.heap.size + 1 + 1) 31 false none 0 0 none 0 0)
    ⟨below3 _ _ _ _, ((RatAt.new _ _ _ _ _ _ _ _ _).alloc _).alloc _, (RatAt.new1 _ _ _ _ _ _ _ _ _ _).alloc _, RatAt.new2 _ _ _ _ _ _ _ _ _ _ _⟩ ?_
  rintro v0 ⟨hb, r0, r1, r2⟩
  have HB0 := Lib.hid hb
  have HR0 := Lib.hid r0
  have HS0 := Lib.hid r1
  have HT0 := Lib.hid r2
  clear hb r0 r1 r2
  go_region_held3 (fun wx => wx.cell? ⟨w.heap.size, 0, none⟩ = some (.bool na) ∧ wx.cell? ⟨w.heap.size, 1, none⟩ = some (.slice A (D x).length ca) ∧ wx.cell? ⟨w.heap.size, 2, none⟩ = some (.slice B (D y).length cb) ∧ wx.cell? ⟨w.heap.size + 1, 0, none⟩ = some (.bool nb) ∧ wx.cell? ⟨w.heap.size + 1, 1, none⟩ = some (.slice A' (D x').length ca') ∧ wx.cell? ⟨w.heap.size + 1, 2, none⟩ = some (.slice B' (D y').length cb'))
    (first | exact ⟨(HR0.out).c0, (HR0.out).c1, (HR0.out).c2, (HS0.out).c0, (HS0.out).c1, (HS0.out).c2⟩ | exact ⟨(HR1.out).c0, (HR1.out).c1, (HR1.out).c2, (HS1.out).c0, (HS1.out).c1, (HS1.out).c2⟩ | exact ⟨(HR2.out).c0, (HR2.out).c1, (HR2.out).c2, (HS2.out).c0, (HS2.out).c1, (HS2.out).c2⟩)
    (first
      | (go_at_call_of 140 A'; refine (commonLimbs_any A' B _ ca' _ cb x' y _ _ _ (by exact (H1.out.below HB1.out).1) (by exact (H0.out.below HB1.out).2) (by omega) (by omega)).mono ?_; rintro e v2 hnew; rw [HH.out] at hnew; obtain ⟨V2, d2, rfl, p2, bb⟩ := new_of hnew; have sv2 := bb.size; have HB2 := Lib.hid (below_on HB1.out bb); have HR2 := Lib.hid (HR1.out.on bb); have HS2 := Lib.hid (HS1.out.on bb); have HT2 := Lib.hid (HT1.out.on bb); have HN12 := Lib.hid (HN11.out.on bb); have HN22 := Lib.hid p2; clear hnew p2 bb)
      | (go_at_call_of 140 A; refine (commonLimbs_any A B' _ ca _ cb' x y' _ _ _ (by exact (H0.out.below HB0.out).1) (by exact (H1.out.below HB0.out).2) (by omega) (by omega)).mono ?_; rintro e v1 hnew; rw [HG.out] at hnew; obtain ⟨V1, d1, rfl, p1, bb⟩ := new_of hnew; have bb := undrew bb; have sv1 := bb.size; have HB1 := Lib.hid (below_on HB0.out bb); have HR1 := Lib.hid (HR0.out.on bb); have HS1 := Lib.hid (HS0.out.on bb); have HT1 := Lib.hid (HT0.out.on bb); have HN11 := Lib.hid p1; clear hnew p1 bb))
  go_upto_region 2 with fail
  go_region_held3 (fun wx => wx.cell? ⟨w.heap.size, 0, none⟩ = some (.bool na) ∧ wx.cell? ⟨w.heap.size, 1, none⟩ = some (.slice A (D x).length ca) ∧ wx.cell? ⟨w.heap.size, 2, none⟩ = some (.slice B (D y).length cb) ∧ wx.cell? ⟨w.heap.size + 1, 0, none⟩ = some (.bool nb) ∧ wx.cell? ⟨w.heap.size + 1, 1, none⟩ = some (.slice A' (D x').length ca') ∧ wx.cell? ⟨w.heap.size + 1, 2, none⟩ = some (.slice B' (D y').length cb'))
    (first | exact ⟨(HR2.out).c0, (HR2.out).c1, (HR2.out).c2, (HS2.out).c0, (HS2.out).c1, (HS2.out).c2⟩ | exact ⟨(HR3.out).c0, (HR3.out).c1, (HR3.out).c2, (HS3.out).c0, (HS3.out).c1, (HS3.out).c2⟩ | exact ⟨(HR4.out).c0, (HR4.out).c1, (HR4.out).c2, (HS4.out).c0, (HS4.out).c1, (HS4.out).c2⟩ | exact ⟨(HR5.out).c0, (HR5.out).c1, (HR5.out).c2, (HS5.out).c0, (HS5.out).c1, (HS5.out).c2⟩)
    (first
      | (go_at_call 142; refine (productLimbs_any V3 V4 _ d3 _ d4 u u' _ _ _ (by first | exact HN34.out | exact Rd.drew HN34.out) (by first | exact HN44.out | exact Rd.drew HN44.out) (by omega) (by omega)).mono ?_; rintro e v5 hnew; rw [HPp.out] at hnew; obtain ⟨V5, d5, rfl, p5, bb⟩ := new_of hnew; have sv5 := bb.size; have HB5 := Lib.hid (below_on HB4.out bb); have HR5 := Lib.hid (HR4.out.on bb); have HS5 := Lib.hid (HS4.out.on bb); have HT5 := Lib.hid (HT4.out.on bb); have HN15 := Lib.hid (HN14.out.on bb); have HN25 := Lib.hid (HN24.out.on bb); have HN35 := Lib.hid (HN34.out.on bb); have HN45 := Lib.hid (HN44.out.on bb); have HN55 := Lib.hid p5; clear hnew p5 bb)
      | (go_at_call_of 141 A'; refine (quotientLimbs_any A' V2 _ ca' _ d2 x' h _ _ _ (by exact (H1.out.below HB3.out).1) (by first | exact HN23.out | exact Rd.drew HN23.out) (by omega) (by omega) h0).mono ?_; rintro e v4 hnew; rw [HU'.out] at hnew; obtain ⟨V4, d4, rfl, p4, bb⟩ := hnew; have sv4 := bb.size; have HB4 := Lib.hid (below_on HB3.out bb); have HR4 := Lib.hid (HR3.out.on bb); have HS4 := Lib.hid (HS3.out.on bb); have HT4 := Lib.hid (HT3.out.on bb); have HN14 := Lib.hid (HN13.out.on bb); have HN24 := Lib.hid (HN23.out.on bb); have HN34 := Lib.hid (HN33.out.on bb); have HN44 := Lib.hid p4; clear p4 bb)
      | (go_at_call_of 141 A; refine (quotientLimbs_any A V1 _ ca _ d1 x g _ _ _ (by exact (H0.out.below HB2.out).1) (by first | exact HN12.out | exact Rd.drew HN12.out) (by omega) (by omega) g0).mono ?_; rintro e v3 hnew; rw [HU.out] at hnew; obtain ⟨V3, d3, rfl, p3, bb⟩ := hnew; have bb := undrew bb; have sv3 := bb.size; have HB3 := Lib.hid (below_on HB2.out bb); have HR3 := Lib.hid (HR2.out.on bb); have HS3 := Lib.hid (HS2.out.on bb); have HT3 := Lib.hid (HT2.out.on bb); have HN13 := Lib.hid (HN12.out.on bb); have HN23 := Lib.hid (HN22.out.on bb); have HN33 := Lib.hid p3; clear p3 bb))
  go_upto_region 3 with fail
  go_region_held3 (fun wx => wx.cell? ⟨w.heap.size, 0, none⟩ = some (.bool na) ∧ wx.cell? ⟨w.heap.size, 1, none⟩ = some (.slice A (D x).length ca) ∧ wx.cell? ⟨w.heap.size, 2, none⟩ = some (.slice B (D y).length cb) ∧ wx.cell? ⟨w.heap.size + 1, 0, none⟩ = some (.bool nb) ∧ wx.cell? ⟨w.heap.size + 1, 1, none⟩ = some (.slice A' (D x').length ca') ∧ wx.cell? ⟨w.heap.size + 1, 2, none⟩ = some (.slice B' (D y').length cb'))
    (first | exact ⟨(HR5.out).c0, (HR5.out).c1, (HR5.out).c2, (HS5.out).c0, (HS5.out).c1, (HS5.out).c2⟩ | exact ⟨(HR6.out).c0, (HR6.out).c1, (HR6.out).c2, (HS6.out).c0, (HS6.out).c1, (HS6.out).c2⟩ | exact ⟨(HR7.out).c0, (HR7.out).c1, (HR7.out).c2, (HS7.out).c0, (HS7.out).c1, (HS7.out).c2⟩ | exact ⟨(HR8.out).c0, (HR8.out).c1, (HR8.out).c2, (HS8.out).c0, (HS8.out).c1, (HS8.out).c2⟩)
    (first
      | (go_at_call 142; refine (productLimbs_any V6 V7 _ d6 _ d7 v v' _ _ _ (by first | exact HN67.out | exact Rd.drew HN67.out) (by first | exact HN77.out | exact Rd.drew HN77.out) (by omega) (by omega)).mono ?_; rintro e v8 hnew; rw [HQq.out] at hnew; obtain ⟨V8, d8, rfl, p8, bb⟩ := new_of hnew; have sv8 := bb.size; have HB8 := Lib.hid (below_on HB7.out bb); have HR8 := Lib.hid (HR7.out.on bb); have HS8 := Lib.hid (HS7.out.on bb); have HT8 := Lib.hid (HT7.out.on bb); have HN18 := Lib.hid (HN17.out.on bb); have HN28 := Lib.hid (HN27.out.on bb); have HN38 := Lib.hid (HN37.out.on bb); have HN48 := Lib.hid (HN47.out.on bb); have HN58 := Lib.hid (HN57.out.on bb); have HN68 := Lib.hid (HN67.out.on bb); have HN78 := Lib.hid (HN77.out.on bb); have HN88 := Lib.hid p8; clear hnew p8 bb)
      | (go_at_call_of 141 B'; refine (quotientLimbs_any B' V1 _ cb' _ d1 y' g _ _ _ (by exact (H1.out.below HB6.out).2) (by first | exact HN16.out | exact Rd.drew HN16.out) (by omega) (by omega) g0).mono ?_; rintro e v7 hnew; rw [HV'.out] at hnew; obtain ⟨V7, d7, rfl, p7, bb⟩ := hnew; have sv7 := bb.size; have HB7 := Lib.hid (below_on HB6.out bb); have HR7 := Lib.hid (HR6.out.on bb); have HS7 := Lib.hid (HS6.out.on bb); have HT7 := Lib.hid (HT6.out.on bb); have HN17 := Lib.hid (HN16.out.on bb); have HN27 := Lib.hid (HN26.out.on bb); have HN37 := Lib.hid (HN36.out.on bb); have HN47 := Lib.hid (HN46.out.on bb); have HN57 := Lib.hid (HN56.out.on bb); have HN67 := Lib.hid (HN66.out.on bb); have HN77 := Lib.hid p7; clear p7 bb)
      | (go_at_call_of 141 B; refine (quotientLimbs_any B V2 _ cb _ d2 y h _ _ _ (by exact (H0.out.below HB5.out).2) (by first | exact HN25.out | exact Rd.drew HN25.out) (by omega) (by omega) h0).mono ?_; rintro e v6 hnew; rw [HV.out] at hnew; obtain ⟨V6, d6, rfl, p6, bb⟩ := hnew; have bb := undrew bb; have sv6 := bb.size; have HB6 := Lib.hid (below_on HB5.out bb); have HR6 := Lib.hid (HR5.out.on bb); have HS6 := Lib.hid (HS5.out.on bb); have HT6 := Lib.hid (HT5.out.on bb); have HN16 := Lib.hid (HN15.out.on bb); have HN26 := Lib.hid (HN25.out.on bb); have HN36 := Lib.hid (HN35.out.on bb); have HN46 := Lib.hid (HN45.out.on bb); have HN56 := Lib.hid (HN55.out.on bb); have HN66 := Lib.hid p6; clear p6 bb))
  have qR0 := HR8.out.c0
  have qR1 := HR8.out.c1
  have qR2 := HR8.out.c2
  have qS0 := HS8.out.c0
  have qS1 := HS8.out.c1
  have qS2 := HS8.out.c2
  go_wp2_with fail
  clear qR0 qR1 qR2 qS0 qS1 qS2
  refine (ratOf_any _ V5 V8 _ d5 _ d8 v8 (by omega)).mono ?_
  rintro e v9 ⟨rfl, bb⟩
  have sv9 := bb.size
  have HB9 := Lib.hid (below_on HB8.out bb)
  have HR9 := Lib.hid (HR8.out.on bb)
  have HS9 := Lib.hid (HS8.out.on bb)
  have HT9 := Lib.hid (HT8.out.on bb)
  have HN19 := Lib.hid (HN18.out.on bb)
  have HN29 := Lib.hid (HN28.out.on bb)
  have HN39 := Lib.hid (HN38.out.on bb)
  have HN49 := Lib.hid (HN48.out.on bb)
  have HN59 := Lib.hid (HN58.out.on bb)
  have HN69 := Lib.hid (HN68.out.on bb)
  have HN79 := Lib.hid (HN78.out.on bb)
  have HN89 := Lib.hid (HN88.out.on bb)
  clear HB8 HR8 HS8 HT8 HN18 HN28 HN38 HN48 HN58 HN68 HN78 HN88
  have f0 := HT9.out.fz 0
  have f1 := HT9.out.fz 1
  have f2 := HT9.out.fz 2
  have y0 := HT9.out.c0
  have y1 := HT9.out.c1
  have y2 := HT9.out.c2
  clear bb
  go_wp2
  have g2 := fun b u v => setAll_grown v9 (w.heap.size + 1 + 1) (.bool b) u v
  refine bodyPost_ret (retR rfl _ _ _ rfl (HT9.out.setAll _ _ _ _ _ _ _)) rfl ?_
  exact ⟨V5, d5, V8, d8, rfl, ⟨Rd.past HN59.out HT9.out (g2 _ _ _), Rd.past HN89.out HT9.out (g2 _ _ _)⟩, below_grow HB9.out (by omega) (g2 _ _ _)⟩

theorem times_any (a b : Rat) (A B : Option Addr) (ca cb : Nat) (A' B' : Option Addr) (ca' cb' : Nat) (P P' : Nat → Prop) (w : World) (h0 : RdR w P (D (nu a)) (D a.den) A ca B cb) (h1 : RdR w P' (D (nu b)) (D b.den) A' ca' B' cb') (l1 : (D (nu a)).length ≤ 3600) (l2 : (D a.den).length ≤ 3600) (l3 : (D (nu b)).length ≤ 3600) (l4 : (D b.den).length ≤ 3600) :
    Calls Tryz.prog 116 #[.agg #[.bool (isNeg a), .slice A (D (nu a)).length ca, .slice B (D a.den).length cb], .agg #[.bool (isNeg b), .slice A' (D (nu b)).length ca', .slice B' (D b.den).length cb']] w (SayR w (isNeg (a * b)) (D (nu (a * b))) (D (a * b).den)) := by
  obtain ⟨e1, e2, e3⟩ := times_parts a b
  rw [e3, e2, e1, ← D_pos_len]
  have z1 := D_len_gcd (nu a) b.den_pos
  have z2 := D_len_gcd (nu b) a.den_pos
  have z3 := D_len_div (nu a) (Nat.gcd (nu a) b.den)
  have z4 := D_len_div (nu b) (Nat.gcd (nu b) a.den)
  have z5 := D_len_div a.den (Nat.gcd (nu b) a.den)
  have z6 := D_len_div b.den (Nat.gcd (nu a) b.den)
  have z7 := D_len_mul (nu a / Nat.gcd (nu a) b.den) (nu b / Nat.gcd (nu b) a.den)
  exact times_core _ _ (nu a) a.den (nu b) b.den _ _ _ _ _ _ _ _ rfl rfl rfl rfl rfl rfl rfl rfl (Nat.gcd_pos_of_pos_right _ b.den_pos) (Nat.gcd_pos_of_pos_right _ a.den_pos) A B ca cb A' B' ca' cb' P P' w h0 h1 l1 l2 l3 l4 (by omega) (by omega) (by omega) (by omega) (by omega) (by omega) (by omega)

set_option maxHeartbeats 400000 in
theorem signedSum_any (n1 n2 : Bool) (A B : Option Addr) (la ca lb cb m k : Nat) (P Q : Nat → Prop) (w : World) (hx0 : Rd w P A la ca (D m)) (hy0 : Rd w Q B lb cb (D k)) (hla : la ≤ 9000) (hlb : lb ≤ 9000) :
    Calls Tryz.prog 143 #[.bool n1, .slice A la ca, .bool n2, .slice B lb cb] w (fun e w' => ∃ V d, e = .returned (.tuple #[.bool (sumNeg n1 m n2 k), .slice V (D (sumAbs n1 m n2 k)).length d]) ∧ Nm w' V d (sumAbs n1 m n2 k) ∧ Below w.heap.size w w') := by
  have HX := Lib.hid hx0
  have HY := Lib.hid hy0
  clear hx0 hy0
  by_cases hn : n1 = n2
  · have HNG : Hid (sumNeg n1 m n2 k = n1) := Lib.hid (by unfold sumNeg; rw [if_pos hn])
    have HSA : Hid (sumAbs n1 m n2 k = m + k) := Lib.hid (by unfold sumAbs; rw [if_pos hn])
    have hnb : (n1 == n2) = true := by simpa using hn
    clear hn
    go_enter Tryz.func143, Tryz.ntmps143
    go_wp2_with fail
    refine (sumLimbs_any A B la ca lb cb m k _ _ w HX.out HY.out hla hlb).mono ?_
    rintro e w6 hnew
    obtain ⟨V, d, rfl, pv, bb⟩ := new_of hnew
    have HV := Lib.hid pv
    have HB := Lib.hid (bb)
    clear hnew pv bb
    go_wp2
    go_ret2
    rw [HNG.out, HSA.out]
    exact ⟨V, d, rfl, HV.out, HB.out⟩
  · have hnb : (n1 == n2) = false := by simpa using hn
    have HN := Lib.hid hn
    clear hn
    go_enter Tryz.func143, Tryz.ntmps143
    go_wp2_with fail
    refine (compareLimbs_any A B _ ca _ cb m k _ _ w HX.out HY.out (by omega) (by omega)).mono ?_
    rintro e w1 ⟨rfl, dd⟩
    have hb := dd.below w.heap.size
    have HB1 := Lib.hid hb
    have HX1 := Lib.hid ((HX.out.mono (Q := (· < w.heap.size)) fun _ _ h => h).below hb)
    have HY1 := Lib.hid ((HY.out.mono (Q := (· < w.heap.size)) fun _ _ h => h).below hb)
    clear dd hb
    by_cases hcmp : k ≤ m
    · have HNG : Hid (sumNeg n1 m n2 k = n1) := Lib.hid (by unfold sumNeg; rw [if_neg HN.out, if_pos hcmp])
      have HSA : Hid (sumAbs n1 m n2 k = m - k) := Lib.hid (by unfold sumAbs; rw [if_neg HN.out, if_pos hcmp])
      obtain ⟨hc0, hc1⟩ := cmpI_ge (m := m) (n := k) (by omega)
      generalize cmpI m k = cc at *
      go_wp2_with fail
      refine (lessLimbs_any A B la ca lb cb m k _ _ w1 HX1.out HY1.out hla hlb hcmp).mono ?_
      rintro e w6 hnew
      obtain ⟨V, d, rfl, pv, bb⟩ := new_of hnew
      have HV := Lib.hid pv
      have HB := Lib.hid (below_on HB1.out bb)
      clear hnew pv bb
      go_wp2
      go_ret2
      rw [HNG.out, HSA.out]
      exact ⟨V, d, rfl, HV.out, HB.out⟩
    · have HNG : Hid (sumNeg n1 m n2 k = n2) := Lib.hid (by unfold sumNeg; rw [if_neg HN.out, if_neg hcmp])
      have HSA : Hid (sumAbs n1 m n2 k = k - m) := Lib.hid (by unfold sumAbs; rw [if_neg HN.out, if_neg hcmp])
      rw [cmpI_lt (by omega)]
      go_wp2_with fail
      refine (lessLimbs_any B A lb cb la ca k m _ _ w1 HY1.out HX1.out hlb hla (by omega)).mono ?_
      rintro e w6 hnew
      obtain ⟨V, d, rfl, pv, bb⟩ := new_of hnew
      have HV := Lib.hid pv
      have HB := Lib.hid (below_on HB1.out bb)
      clear hnew pv bb
      go_wp2
      go_ret2
      rw [HNG.out, HSA.out]
      exact ⟨V, d, rfl, HV.out, HB.out⟩

set_option maxRecDepth 20000 in
set_option maxHeartbeats 6400000 in
theorem plus_core (na nb : Bool) (x y x' y' sh mi ot fi se : Nat) (ng : Bool) (nm lf qa qb dn : Nat) (hsh : Nat.gcd y y' = sh) (hmi : y / sh = mi) (hot : y' / sh = ot) (hfi : x * ot = fi) (hse : x' * mi = se) (hng : sumNeg na fi nb se = ng) (hnm : sumAbs na fi nb se = nm) (hlf : Nat.gcd nm sh = lf) (hqa : nm / lf = qa) (hqb : y' / lf = qb) (hdn : mi * qb = dn) (g0 : 0 < sh) (h0 : 0 < lf)
    (A B : Option Addr) (ca cb : Nat) (A' B' : Option Addr) (ca' cb' : Nat) (P P' : Nat → Prop) (w : World) (k0 : RdR w P (D x) (D y) A ca B cb) (k1 : RdR w P' (D x') (D y') A' ca' B' cb')
    (l1 : (D x).length ≤ 3600) (l2 : (D y).length ≤ 3600) (l3 : (D x').length ≤ 3600) (l4 : (D y').length ≤ 3600) (l5 : (D sh).length ≤ 3600) (l6 : (D mi).length ≤ 3600) (l7 : (D ot).length ≤ 3600) (l8 : (D fi).length ≤ 7200) (l9 : (D se).length ≤ 7200) (l10 : (D nm).length ≤ 7201) (l11 : (D lf).length ≤ 7201) (l12 : (D qa).length ≤ 7201) (l13 : (D qb).length ≤ 3600) :
    Calls Tryz.prog 115 #[.agg #[.bool na, .slice A (D x).length ca, .slice B (D y).length cb], .agg #[.bool nb, .slice A' (D x').length ca', .slice B' (D y').length cb']] w (SayR w (ng && decide (0 < (D qa).length)) (D qa) (D dn)) := by
  have H0 := Lib.hid (k0.mono (Q := (· < w.heap.size)) fun _ _ h => h)
  have H1 := Lib.hid (k1.mono (Q := (· < w.heap.size)) fun _ _ h => h)
  have HSh := Lib.hid hsh
  have HMi := Lib.hid hmi
  have HOt := Lib.hid hot
  have HFi := Lib.hid hfi
  have HSe := Lib.hid hse
  have HNg := Lib.hid hng
  have HNm := Lib.hid hnm
  have HLf := Lib.hid hlf
  have HQa := Lib.hid hqa
  have HQb := Lib.hid hqb
  have HDn := Lib.hid hdn
  clear k0 k1 hsh hmi hot hfi hse hng hnm hlf hqa hqb hdn
  go_enter Tryz.func115, Tryz.ntmps115
  go_wp2_with fail
  refine calls_at (fun v0 => Below w.heap.size w v0 ∧ RatAt v0 w.heap.size 31 na A (D x).length ca B (D y).length cb ∧ RatAt v0 (w.heap.size + 1) 31 nb A' (D x').length ca' B' (D y').length cb' ∧ RatAt v0 (w.heap.size + 1 + 1) 31 false none 0 0 none 0 0)
    ⟨below3 _ _ _ _, ((RatAt.new _ _ _ _ _ _ _ _ _).alloc _).alloc _, (RatAt.new1 _ _ _ _ _ _ _ _ _ _).alloc _, RatAt.new2 _ _ _ _ _ _ _ _ _ _ _⟩ ?_
  rintro v0 ⟨hb, r0, r1, r2⟩
  have HB0 := Lib.hid hb
  have HR0 := Lib.hid r0
  have HS0 := Lib.hid r1
  have HT0 := Lib.hid r2
  clear hb r0 r1 r2
  refine (commonLimbs_any B B' _ cb _ cb' y y' _ _ v0 (H0.out.below HB0.out).2 (H1.out.below HB0.out).2 (by omega) (by omega)).mono ?_
  rintro e v1 hnew
  rw [HSh.out] at hnew
  obtain ⟨V1, d1, rfl, p1, bb⟩ := new_of hnew
  have HB1 := Lib.hid (below_on HB0.out bb)
  have HR1 := Lib.hid (HR0.out.on bb)
  have HS1 := Lib.hid (HS0.out.on bb)
  have HT1 := Lib.hid (HT0.out.on bb)
  have HN11 := Lib.hid p1
  clear hnew p1 bb HB0 HR0 HS0 HT0
  go_upto_region 2 with fail
  go_region_held3 (fun wx => wx.cell? ⟨w.heap.size, 0, none⟩ = some (.bool na) ∧ wx.cell? ⟨w.heap.size, 1, none⟩ = some (.slice A (D x).length ca) ∧ wx.cell? ⟨w.heap.size, 2, none⟩ = some (.slice B (D y).length cb) ∧ wx.cell? ⟨w.heap.size + 1, 0, none⟩ = some (.bool nb) ∧ wx.cell? ⟨w.heap.size + 1, 1, none⟩ = some (.slice A' (D x').length ca') ∧ wx.cell? ⟨w.heap.size + 1, 2, none⟩ = some (.slice B' (D y').length cb'))
    (first | exact ⟨(HR1.out).c0, (HR1.out).c1, (HR1.out).c2, (HS1.out).c0, (HS1.out).c1, (HS1.out).c2⟩ | exact ⟨(HR2.out).c0, (HR2.out).c1, (HR2.out).c2, (HS2.out).c0, (HS2.out).c1, (HS2.out).c2⟩ | exact ⟨(HR3.out).c0, (HR3.out).c1, (HR3.out).c2, (HS3.out).c0, (HS3.out).c1, (HS3.out).c2⟩)
    (first
      | (go_at_call_of 141 B'; refine (quotientLimbs_any B' V1 _ cb' _ d1 y' sh _ _ _ (by exact (H1.out.below HB2.out).2) (by first | exact HN12.out | exact Rd.drew HN12.out) (by omega) (by omega) g0).mono ?_; rintro e v3 hnew; rw [HOt.out] at hnew; obtain ⟨V3, d3, rfl, p3, bb⟩ := hnew; have sv3 := bb.size; have HB3 := Lib.hid (below_on HB2.out bb); have HR3 := Lib.hid (HR2.out.on bb); have HS3 := Lib.hid (HS2.out.on bb); have HT3 := Lib.hid (HT2.out.on bb); have HN13 := Lib.hid (HN12.out.on bb); have HN23 := Lib.hid (HN22.out.on bb); have HN33 := Lib.hid p3; clear p3 bb)
      | (go_at_call_of 141 B; refine (quotientLimbs_any B V1 _ cb _ d1 y sh _ _ _ (by exact (H0.out.below HB1.out).2) (by first | exact HN11.out | exact Rd.drew HN11.out) (by omega) (by omega) g0).mono ?_; rintro e v2 hnew; rw [HMi.out] at hnew; obtain ⟨V2, d2, rfl, p2, bb⟩ := hnew; have bb := undrew bb; have sv2 := bb.size; have HB2 := Lib.hid (below_on HB1.out bb); have HR2 := Lib.hid (HR1.out.on bb); have HS2 := Lib.hid (HS1.out.on bb); have HT2 := Lib.hid (HT1.out.on bb); have HN12 := Lib.hid (HN11.out.on bb); have HN22 := Lib.hid p2; clear p2 bb))
  go_upto_region 3 with fail
  go_region_held3 (fun wx => wx.cell? ⟨w.heap.size, 0, none⟩ = some (.bool na) ∧ wx.cell? ⟨w.heap.size, 1, none⟩ = some (.slice A (D x).length ca) ∧ wx.cell? ⟨w.heap.size, 2, none⟩ = some (.slice B (D y).length cb) ∧ wx.cell? ⟨w.heap.size + 1, 0, none⟩ = some (.bool nb) ∧ wx.cell? ⟨w.heap.size + 1, 1, none⟩ = some (.slice A' (D x').length ca') ∧ wx.cell? ⟨w.heap.size + 1, 2, none⟩ = some (.slice B' (D y').length cb'))
    (first | exact ⟨(HR3.out).c0, (HR3.out).c1, (HR3.out).c2, (HS3.out).c0, (HS3.out).c1, (HS3.out).c2⟩ | exact ⟨(HR4.out).c0, (HR4.out).c1, (HR4.out).c2, (HS4.out).c0, (HS4.out).c1, (HS4.out).c2⟩ | exact ⟨(HR5.out).c0, (HR5.out).c1, (HR5.out).c2, (HS5.out).c0, (HS5.out).c1, (HS5.out).c2⟩)
    (first
      | (go_at_call_of 142 A'; refine (productLimbs_any A' V2 _ ca' _ d2 x' mi _ _ _ (by exact (H1.out.below HB4.out).1) (by first | exact HN24.out | exact Rd.drew HN24.out) (by omega) (by omega)).mono ?_; rintro e v5 hnew; rw [HSe.out] at hnew; obtain ⟨V5, d5, rfl, p5, bb⟩ := new_of hnew; have sv5 := bb.size; have HB5 := Lib.hid (below_on HB4.out bb); have HR5 := Lib.hid (HR4.out.on bb); have HS5 := Lib.hid (HS4.out.on bb); have HT5 := Lib.hid (HT4.out.on bb); have HN15 := Lib.hid (HN14.out.on bb); have HN25 := Lib.hid (HN24.out.on bb); have HN35 := Lib.hid (HN34.out.on bb); have HN45 := Lib.hid (HN44.out.on bb); have HN55 := Lib.hid p5; clear hnew p5 bb)
      | (go_at_call_of 142 A; refine (productLimbs_any A V3 _ ca _ d3 x ot _ _ _ (by exact (H0.out.below HB3.out).1) (by first | exact HN33.out | exact Rd.drew HN33.out) (by omega) (by omega)).mono ?_; rintro e v4 hnew; rw [HFi.out] at hnew; obtain ⟨V4, d4, rfl, p4, bb⟩ := new_of hnew; have bb := undrew bb; have sv4 := bb.size; have HB4 := Lib.hid (below_on HB3.out bb); have HR4 := Lib.hid (HR3.out.on bb); have HS4 := Lib.hid (HS3.out.on bb); have HT4 := Lib.hid (HT3.out.on bb); have HN14 := Lib.hid (HN13.out.on bb); have HN24 := Lib.hid (HN23.out.on bb); have HN34 := Lib.hid (HN33.out.on bb); have HN44 := Lib.hid p4; clear hnew p4 bb))
  have qR0 := HR5.out.c0
  have qR1 := HR5.out.c1
  have qR2 := HR5.out.c2
  have qS0 := HS5.out.c0
  have qS1 := HS5.out.c1
  have qS2 := HS5.out.c2
  go_wp2_with fail
  clear qR0 qR1 qR2 qS0 qS1 qS2
  refine (signedSum_any na nb V4 V5 _ d4 _ d5 fi se _ _ v5 HN45.out HN55.out (by omega) (by omega)).mono ?_
  rintro e v6 hnew
  rw [HNg.out] at hnew
  rw [HNm.out] at hnew
  obtain ⟨V6, d6, rfl, p6, bb⟩ := hnew
  have sv6 := bb.size
  have HB6 := Lib.hid (below_on HB5.out bb)
  have HR6 := Lib.hid (HR5.out.on bb)
  have HS6 := Lib.hid (HS5.out.on bb)
  have HT6 := Lib.hid (HT5.out.on bb)
  have HN16 := Lib.hid (HN15.out.on bb)
  have HN26 := Lib.hid (HN25.out.on bb)
  have HN36 := Lib.hid (HN35.out.on bb)
  have HN46 := Lib.hid (HN45.out.on bb)
  have HN56 := Lib.hid (HN55.out.on bb)
  clear HB5 HR5 HS5 HT5 HN15 HN25 HN35 HN45 HN55
  have HN66 := Lib.hid p6
  clear p6 bb
  go_wp2_with fail
  refine (commonLimbs_any V6 V1 _ d6 _ d1 nm sh _ _ v6 HN66.out HN16.out (by omega) (by omega)).mono ?_
  rintro e v7 hnew
  rw [HLf.out] at hnew
  obtain ⟨V7, d7, rfl, p7, bb⟩ := new_of hnew
  have sv7 := bb.size
  have HB7 := Lib.hid (below_on HB6.out bb)
  have HR7 := Lib.hid (HR6.out.on bb)
  have HS7 := Lib.hid (HS6.out.on bb)
  have HT7 := Lib.hid (HT6.out.on bb)
  have HN17 := Lib.hid (HN16.out.on bb)
  have HN27 := Lib.hid (HN26.out.on bb)
  have HN37 := Lib.hid (HN36.out.on bb)
  have HN47 := Lib.hid (HN46.out.on bb)
  have HN57 := Lib.hid (HN56.out.on bb)
  have HN67 := Lib.hid (HN66.out.on bb)
  clear HB6 HR6 HS6 HT6 HN16 HN26 HN36 HN46 HN56 HN66
  have HN77 := Lib.hid p7
  clear hnew p7 bb
  go_upto_region 6 with fail
  go_region_held3 (fun wx => wx.cell? ⟨w.heap.size + 1, 0, none⟩ = some (.bool nb) ∧ wx.cell? ⟨w.heap.size + 1, 1, none⟩ = some (.slice A' (D x').length ca') ∧ wx.cell? ⟨w.heap.size + 1, 2, none⟩ = some (.slice B' (D y').length cb'))
    (first | exact ⟨(HS7.out).c0, (HS7.out).c1, (HS7.out).c2⟩ | exact ⟨(HS8.out).c0, (HS8.out).c1, (HS8.out).c2⟩ | exact ⟨(HS9.out).c0, (HS9.out).c1, (HS9.out).c2⟩ | exact ⟨(HS10.out).c0, (HS10.out).c1, (HS10.out).c2⟩ | exact ⟨(HS11.out).c0, (HS11.out).c1, (HS11.out).c2⟩ | exact ⟨(HS11.out.grown (setAll_grown _ _ _ _ _) (by omega)).c0, (HS11.out.grown (setAll_grown _ _ _ _ _) (by omega)).c1, (HS11.out.grown (setAll_grown _ _ _ _ _) (by omega)).c2⟩)
    (first
      | (go_at_call 144; refine (ratOf_any _ V8 V10 _ d8 _ d10 _ (by omega)).mono ?_; rintro e v11 ⟨rfl, bb⟩; have sv11 := bb.size; have HB11 := Lib.hid (below_on HB10.out bb); have HR11 := Lib.hid (HR10.out.on bb); have HS11 := Lib.hid (HS10.out.on bb); have HT11 := Lib.hid (HT10.out.on bb); have HN111 := Lib.hid (HN110.out.on bb); have HN211 := Lib.hid (HN210.out.on bb); have HN311 := Lib.hid (HN310.out.on bb); have HN411 := Lib.hid (HN410.out.on bb); have HN511 := Lib.hid (HN510.out.on bb); have HN611 := Lib.hid (HN610.out.on bb); have HN711 := Lib.hid (HN710.out.on bb); have HN811 := Lib.hid (HN810.out.on bb); have HN911 := Lib.hid (HN910.out.on bb); have HN1011 := Lib.hid (HN1010.out.on bb); have f0 := HT11.out.fz 0; have f1 := HT11.out.fz 1; have f2 := HT11.out.fz 2; have y0 := HT11.out.c0; have y1 := HT11.out.c1; have y2 := HT11.out.c2; clear bb)
      | (go_at_call 142; refine (productLimbs_any V2 V9 _ d2 _ d9 mi qb _ _ _ (by first | exact HN29.out | exact Rd.drew HN29.out) (by first | exact HN99.out | exact Rd.drew HN99.out) (by omega) (by omega)).mono ?_; rintro e v10 hnew; rw [HDn.out] at hnew; obtain ⟨V10, d10, rfl, p10, bb⟩ := new_of hnew; have sv10 := bb.size; have HB10 := Lib.hid (below_on HB9.out bb); have HR10 := Lib.hid (HR9.out.on bb); have HS10 := Lib.hid (HS9.out.on bb); have HT10 := Lib.hid (HT9.out.on bb); have HN110 := Lib.hid (HN19.out.on bb); have HN210 := Lib.hid (HN29.out.on bb); have HN310 := Lib.hid (HN39.out.on bb); have HN410 := Lib.hid (HN49.out.on bb); have HN510 := Lib.hid (HN59.out.on bb); have HN610 := Lib.hid (HN69.out.on bb); have HN710 := Lib.hid (HN79.out.on bb); have HN810 := Lib.hid (HN89.out.on bb); have HN910 := Lib.hid (HN99.out.on bb); have HN1010 := Lib.hid p10; clear hnew p10 bb)
      | (go_at_call_of 141 B'; refine (quotientLimbs_any B' V7 _ cb' _ d7 y' lf _ _ _ (by exact (H1.out.below HB8.out).2) (by first | exact HN78.out | exact Rd.drew HN78.out) (by omega) (by omega) h0).mono ?_; rintro e v9 hnew; rw [HQb.out] at hnew; obtain ⟨V9, d9, rfl, p9, bb⟩ := hnew; have sv9 := bb.size; have HB9 := Lib.hid (below_on HB8.out bb); have HR9 := Lib.hid (HR8.out.on bb); have HS9 := Lib.hid (HS8.out.on bb); have HT9 := Lib.hid (HT8.out.on bb); have HN19 := Lib.hid (HN18.out.on bb); have HN29 := Lib.hid (HN28.out.on bb); have HN39 := Lib.hid (HN38.out.on bb); have HN49 := Lib.hid (HN48.out.on bb); have HN59 := Lib.hid (HN58.out.on bb); have HN69 := Lib.hid (HN68.out.on bb); have HN79 := Lib.hid (HN78.out.on bb); have HN89 := Lib.hid (HN88.out.on bb); have HN99 := Lib.hid p9; clear p9 bb)
      | (go_at_call_of 141 V6; refine (quotientLimbs_any V6 V7 _ d6 _ d7 nm lf _ _ _ (by first | exact HN67.out | exact Rd.drew HN67.out) (by first | exact HN77.out | exact Rd.drew HN77.out) (by omega) (by omega) h0).mono ?_; rintro e v8 hnew; rw [HQa.out] at hnew; obtain ⟨V8, d8, rfl, p8, bb⟩ := hnew; have bb := undrew bb; have sv8 := bb.size; have HB8 := Lib.hid (below_on HB7.out bb); have HR8 := Lib.hid (HR7.out.on bb); have HS8 := Lib.hid (HS7.out.on bb); have HT8 := Lib.hid (HT7.out.on bb); have HN18 := Lib.hid (HN17.out.on bb); have HN28 := Lib.hid (HN27.out.on bb); have HN38 := Lib.hid (HN37.out.on bb); have HN48 := Lib.hid (HN47.out.on bb); have HN58 := Lib.hid (HN57.out.on bb); have HN68 := Lib.hid (HN67.out.on bb); have HN78 := Lib.hid (HN77.out.on bb); have HN88 := Lib.hid p8; clear p8 bb))
  go_wp2
  have g2 := fun b u v => setAll_grown v11 (w.heap.size + 1 + 1) (.bool b) u v
  refine bodyPost_ret (retR rfl _ _ _ rfl (HT11.out.setAll _ _ _ _ _ _ _)) rfl ?_
  exact ⟨V8, d8, V10, d10, rfl, ⟨Rd.past HN811.out HT11.out (g2 _ _ _), Rd.past HN1011.out HT11.out (g2 _ _ _)⟩, below_grow HB11.out (by omega) (g2 _ _ _)⟩

theorem plus_any (a b : Rat) (A B : Option Addr) (ca cb : Nat) (A' B' : Option Addr) (ca' cb' : Nat) (P P' : Nat → Prop) (w : World) (h0 : RdR w P (D (nu a)) (D a.den) A ca B cb) (h1 : RdR w P' (D (nu b)) (D b.den) A' ca' B' cb') (l1 : (D (nu a)).length ≤ 3600) (l2 : (D a.den).length ≤ 3600) (l3 : (D (nu b)).length ≤ 3600) (l4 : (D b.den).length ≤ 3600) :
    Calls Tryz.prog 115 #[.agg #[.bool (isNeg a), .slice A (D (nu a)).length ca, .slice B (D a.den).length cb], .agg #[.bool (isNeg b), .slice A' (D (nu b)).length ca', .slice B' (D b.den).length cb']] w (SayR w (isNeg (a + b)) (D (nu (a + b))) (D (a + b).den)) := by
  obtain ⟨e1, e2, e3⟩ := plus_parts a b
  rw [e3, e2, e1, ← D_pos_len]
  have z1 := D_len_gcd a.den b.den_pos
  have z2 := D_len_div a.den (Nat.gcd a.den b.den)
  have z3 := D_len_div b.den (Nat.gcd a.den b.den)
  have z4 := D_len_mul (nu a) (b.den / Nat.gcd a.den b.den)
  have z5 := D_len_mul (nu b) (a.den / Nat.gcd a.den b.den)
  have z6 := D_len_up (sum_le (isNeg a) (nu a * (b.den / Nat.gcd a.den b.den)) (isNeg b) (nu b * (a.den / Nat.gcd a.den b.den)))
  have z7 := D_len_add (nu a * (b.den / Nat.gcd a.den b.den)) (nu b * (a.den / Nat.gcd a.den b.den))
  have hg : 0 < Nat.gcd a.den b.den := Nat.gcd_pos_of_pos_right _ b.den_pos
  have z8 := D_len_gcd (plusAbs a b) hg
  have z9 := D_len_div (plusAbs a b) (Nat.gcd (plusAbs a b) (Nat.gcd a.den b.den))
  have z10 := D_len_div b.den (Nat.gcd (plusAbs a b) (Nat.gcd a.den b.den))
  have z11 : (D (plusAbs a b)).length ≤ 7201 := by unfold plusAbs; omega
  exact plus_core _ _ (nu a) a.den (nu b) b.den _ _ _ _ _ (plusNeg a b) (plusAbs a b) _ _ _ _ rfl rfl rfl rfl rfl rfl rfl rfl rfl rfl rfl hg (Nat.gcd_pos_of_pos_right _ hg) A B ca cb A' B' ca' cb' P P' w h0 h1 l1 l2 l3 l4 (by omega) (by omega) (by omega) (by omega) (by omega) (by omega) (by omega) (by omega) (by omega)

end Go.Proofs.YtifepoefeamboaaGreatDoor
namespace Nt
open Go Go.RowKit
theorem mul_lens (a b : Rat) : (D (nu (a * b))).length ≤ (D (nu a)).length + (D (nu b)).length ∧ (D (a * b).den).length ≤ (D a.den).length + (D b.den).length := by
  rw [mul_make]
  obtain ⟨h1, h2⟩ := rat_len (nu a * nu b) (a.den * b.den) (isNeg a != isNeg b) (add_pos_den a b)
  have := D_len_mul (nu a) (nu b)
  have := D_len_mul a.den b.den
  omega
theorem add_lens (a b : Rat) : (D (nu (a + b))).length ≤ max ((D (nu a)).length + (D b.den).length) ((D (nu b)).length + (D a.den).length) + 1 ∧ (D (a + b).den).length ≤ (D a.den).length + (D b.den).length := by
  rw [add_make]
  obtain ⟨h1, h2⟩ := rat_len (sumAbs (isNeg a) (nu a * b.den) (isNeg b) (nu b * a.den)) (a.den * b.den) (sumNeg (isNeg a) (nu a * b.den) (isNeg b) (nu b * a.den)) (add_pos_den a b)
  have := D_len_up (sum_le (isNeg a) (nu a * b.den) (isNeg b) (nu b * a.den))
  have := D_len_add (nu a * b.den) (nu b * a.den)
  have := D_len_mul (nu a) b.den
  have := D_len_mul (nu b) a.den
  have := D_len_mul a.den b.den
  omega
end Nt
namespace Go.Proofs.YtifepoefeamboaaGreatDoor
open Go Go.RowKit Nt

set_option maxRecDepth 20000 in
set_option maxHeartbeats 3200000 in
theorem l02Mul_core (na nb : Bool) (x y x' y' p q : Nat) (hp : x * x' = p) (hq : y * y' = q) (nn : Bool) (X Y : List Int)
    (A B : Option Addr) (ca cb : Nat) (A' B' : Option Addr) (ca' cb' : Nat) (P P' : Nat → Prop) (w : World) (k0 : RdR w P (D x) (D y) A ca B cb) (k1 : RdR w P' (D x') (D y') A' ca' B' cb')
    (l1 : (D x).length ≤ 3600) (l2 : (D y).length ≤ 3600) (l3 : (D x').length ≤ 3600) (l4 : (D y').length ≤ 3600) (hm : MkAt (na != nb) p q nn X Y) :
    Calls Tryz.prog 120 #[.agg #[.bool na, .slice A (D x).length ca, .slice B (D y).length cb], .agg #[.bool nb, .slice A' (D x').length ca', .slice B' (D y').length cb']] w (SayR w nn X Y) := by
  have H0 := Lib.hid (k0.mono (Q := (· < w.heap.size)) fun _ _ h => h)
  have H1 := Lib.hid (k1.mono (Q := (· < w.heap.size)) fun _ _ h => h)
  have HPp := Lib.hid hp
  have HQq := Lib.hid hq
  have HM := Lib.hid hm
  clear k0 k1 hp hq hm
  go_enter Tryz.func120, Tryz.ntmps120
  go_upto_region 1 with fail
  refine wp_at (fun v0 => Below w.heap.size w v0 ∧ RatAt v0 w.heap.size 31 na A (D x).length ca B (D y).length cb ∧ RatAt v0 (w.heap.size + 1) 31 nb A' (D x').length ca' B' (D y').length cb' ∧ RatAt v0 (w.heap.size + 1 + 1) 31 false none 0 0 none 0 0)
    ⟨below3 _ _ _ _, ((RatAt.new _ _ _ _ _ _ _ _ _).alloc _).alloc _, (RatAt.new1 _ _ _ _ _ _ _ _ _ _).alloc _, RatAt.new2 _ _ _ _ _ _ _ _ _ _ _⟩ ?_
  rintro v0 ⟨hb, r0, r1, r2⟩
  have HB0 := Lib.hid hb
  have HR0 := Lib.hid r0
  have HS0 := Lib.hid r1
  have HT0 := Lib.hid r2
  clear hb r0 r1 r2
  go_region_held3 (fun wx => wx.cell? ⟨w.heap.size, 0, none⟩ = some (.bool na) ∧ wx.cell? ⟨w.heap.size, 1, none⟩ = some (.slice A (D x).length ca) ∧ wx.cell? ⟨w.heap.size, 2, none⟩ = some (.slice B (D y).length cb) ∧ wx.cell? ⟨w.heap.size + 1, 0, none⟩ = some (.bool nb) ∧ wx.cell? ⟨w.heap.size + 1, 1, none⟩ = some (.slice A' (D x').length ca') ∧ wx.cell? ⟨w.heap.size + 1, 2, none⟩ = some (.slice B' (D y').length cb'))
    (first | exact ⟨(HR0.out).c0, (HR0.out).c1, (HR0.out).c2, (HS0.out).c0, (HS0.out).c1, (HS0.out).c2⟩ | exact ⟨(HR1.out).c0, (HR1.out).c1, (HR1.out).c2, (HS1.out).c0, (HS1.out).c1, (HS1.out).c2⟩ | exact ⟨(HR2.out).c0, (HR2.out).c1, (HR2.out).c2, (HS2.out).c0, (HS2.out).c1, (HS2.out).c2⟩ | exact ⟨(HR3.out).c0, (HR3.out).c1, (HR3.out).c2, (HS3.out).c0, (HS3.out).c1, (HS3.out).c2⟩ | exact ⟨(HR3.out.grown (setAll_grown _ _ _ _ _) (by omega)).c0, (HR3.out.grown (setAll_grown _ _ _ _ _) (by omega)).c1, (HR3.out.grown (setAll_grown _ _ _ _ _) (by omega)).c2, (HS3.out.grown (setAll_grown _ _ _ _ _) (by omega)).c0, (HS3.out.grown (setAll_grown _ _ _ _ _) (by omega)).c1, (HS3.out.grown (setAll_grown _ _ _ _ _) (by omega)).c2⟩)
    (first
      | (go_at_call 124; refine (HM.out V1 d1 V2 d2 _ (by first | exact HN12.out | exact Rd.drew HN12.out) (by first | exact HN22.out | exact Rd.drew HN22.out)).mono ?_; rintro e v3 ⟨A8, c8, B8, d8, rfl, o8, bb⟩; have sv3 := bb.size; have HB3 := Lib.hid (below_on HB2.out bb); have HR3 := Lib.hid (HR2.out.on bb); have HS3 := Lib.hid (HS2.out.on bb); have HT3 := Lib.hid (HT2.out.on bb); have HN13 := Lib.hid (HN12.out.on bb); have HN23 := Lib.hid (HN22.out.on bb); have f0 := HT3.out.fz 0; have f1 := HT3.out.fz 1; have f2 := HT3.out.fz 2; have y0 := HT3.out.c0; have y1 := HT3.out.c1; have y2 := HT3.out.c2; have HO8 := Lib.hid o8; clear bb o8)
      | (go_at_call_of 145 B; refine (l01Mul_any B B' _ cb _ cb' y y' _ _ _ (by exact (H0.out.below HB1.out).2) (by exact (H1.out.below HB1.out).2) (by omega) (by omega)).mono ?_; rintro e v2 hnew; rw [HQq.out] at hnew; obtain ⟨V2, d2, rfl, p2, bb⟩ := new_of hnew; have sv2 := bb.size; have HB2 := Lib.hid (below_on HB1.out bb); have HR2 := Lib.hid (HR1.out.on bb); have HS2 := Lib.hid (HS1.out.on bb); have HT2 := Lib.hid (HT1.out.on bb); have HN12 := Lib.hid (HN11.out.on bb); have HN22 := Lib.hid p2; clear hnew p2 bb)
      | (go_at_call_of 145 A; refine (l01Mul_any A A' _ ca _ ca' x x' _ _ _ (by exact (H0.out.below HB0.out).1) (by exact (H1.out.below HB0.out).1) (by omega) (by omega)).mono ?_; rintro e v1 hnew; rw [HPp.out] at hnew; obtain ⟨V1, d1, rfl, p1, bb⟩ := new_of hnew; have bb := undrew bb; have sv1 := bb.size; have HB1 := Lib.hid (below_on HB0.out bb); have HR1 := Lib.hid (HR0.out.on bb); have HS1 := Lib.hid (HS0.out.on bb); have HT1 := Lib.hid (HT0.out.on bb); have HN11 := Lib.hid p1; clear hnew p1 bb))
  go_wp2
  have g2 := fun b u v => setAll_grown v3 (w.heap.size + 1 + 1) (.bool b) u v
  refine bodyPost_ret (retR rfl _ _ _ rfl (HT3.out.setAll _ _ _ _ _ _ _)) rfl ?_
  exact ⟨A8, c8, B8, d8, rfl, ⟨HO8.out.1.past HT3.out (g2 _ _ _), HO8.out.2.past HT3.out (g2 _ _ _)⟩, below_grow HB3.out (by omega) (g2 _ _ _)⟩

theorem l02Mul_any (a b : Rat) (A B : Option Addr) (ca cb : Nat) (A' B' : Option Addr) (ca' cb' : Nat) (P P' : Nat → Prop) (w : World) (h0 : RdR w P (D (nu a)) (D a.den) A ca B cb) (h1 : RdR w P' (D (nu b)) (D b.den) A' ca' B' cb') (l1 : (D (nu a)).length ≤ 3600) (l2 : (D a.den).length ≤ 3600) (l3 : (D (nu b)).length ≤ 3600) (l4 : (D b.den).length ≤ 3600) :
    Calls Tryz.prog 120 #[.agg #[.bool (isNeg a), .slice A (D (nu a)).length ca, .slice B (D a.den).length cb], .agg #[.bool (isNeg b), .slice A' (D (nu b)).length ca', .slice B' (D b.den).length cb']] w (SayR w (isNeg (a * b)) (D (nu (a * b))) (D (a * b).den)) :=
  l02Mul_core (isNeg a) (isNeg b) (nu a) a.den (nu b) b.den _ _ rfl rfl _ _ _ A B ca cb A' B' ca' cb' P P' w h0 h1 l1 l2 l3 l4 (mkAt _ _ _ _ (mul_make a b) (add_pos_den a b) (by have := D_len_mul (nu a) (nu b); omega) (by have := D_len_mul a.den b.den; omega))

set_option maxHeartbeats 400000 in
theorem l02Fits_yes (n : Bool) (A B : Option Addr) (la ca lb cb : Nat) (w : World) (hla : la ≤ 40) (hlb : lb ≤ 40) :
    Calls Tryz.prog 123 #[.agg #[.bool n, .slice A la ca, .slice B lb cb]] w fun e w' => e = .returned (.bool true) ∧ Below w.heap.size w w' := by
  have h1 : (la : Int) ≤ 40 := by omega
  have h2 : (lb : Int) ≤ 40 := by omega
  go_enter Tryz.func123, Tryz.ntmps123
  go_wp2
  go_ret
  exact ⟨rfl, below1 _ _⟩

set_option maxHeartbeats 400000 in
theorem l02Fits_no (n : Bool) (A B : Option Addr) (la ca lb cb : Nat) (w : World) (hla : la ≤ 16777216) (hlb : lb ≤ 16777216) (h : 40 < la ∨ 40 < lb) :
    Calls Tryz.prog 123 #[.agg #[.bool n, .slice A la ca, .slice B lb cb]] w fun e w' => e = .returned (.bool false) ∧ Below w.heap.size w w' := by
  by_cases h1 : 40 < la
  · have h1' : decide ((la : Int) ≤ 40) = false := decide_eq_false (by omega)
    have h1'' : decide (la ≤ 40) = false := decide_eq_false (by omega)
    clear h
    go_enter Tryz.func123, Tryz.ntmps123
    go_wp2
    go_ret
    exact ⟨rfl, below1 _ _⟩
  · have h1' : (la : Int) ≤ 40 := by omega
    have h2'' : decide (lb ≤ 40) = false := decide_eq_false (by omega)
    clear h
    go_enter Tryz.func123, Tryz.ntmps123
    go_wp2
    go_ret
    refine ⟨?_, below1 _ _⟩
    have h2 : decide ((lb : Int) ≤ 40) = false := decide_eq_false (by have := of_decide_eq_false h2''; omega)
    first | rfl | (rw [h2]; rfl) | (rw [h2'']; rfl)

end Go.Proofs.YtifepoefeamboaaGreatDoor
namespace Go.Proofs.YtifepoefeamboaaGreatDoor
open Go Go.RowKit Nt



end Go.Proofs.YtifepoefeamboaaGreatDoor
