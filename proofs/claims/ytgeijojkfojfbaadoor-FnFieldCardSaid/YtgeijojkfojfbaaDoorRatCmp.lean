/-
  How rationals compare: sign, compare, CmpRat of the program; l02Sign, l02Sub, l02Cmp, CmpRat of the model.
-/
import Derived.Test.YtgeijojkfojfbaaDoorSpecRat
import Derived.Test.YtgeijojkfojfbaaDoorCmpMath
namespace Nt
open Go Go.RowKit
theorem wp_at {P : Program} {c : Code} {Q : Exit → Act → World → Prop} {a : Act} {W : World} (F : World → Prop) (hF : F W) (h : ∀ W, F W → c.wp P Q a W) : c.wp P Q a W := h W hF
end Nt
namespace Go.Proofs.YtgeijojkfojfbaaDoor
open Go Go.RowKit Nt

set_option maxHeartbeats 400000 in
theorem sign_any (r : Rat) (A B : Option Addr) (la ca lb cb : Nat) (w : World) (hl : la = (D (nu r)).length) (hla : la ≤ 16777216) :
    Calls Tryd.prog 71 #[.agg #[.bool (isNeg r), .slice A la ca, .slice B lb cb]] w fun e w' => e = .returned (.int .i64 r.num.sign) ∧ Below w.heap.size w w' := by
  have HP := Lib.hid (sgn_parts r)
  by_cases h0 : nu r = 0
  · have HE : Hid (r.num.sign = 0) := by show _ = _; rw [HP.out, if_pos h0]
    have hz : ((la : Int) == 0) = true := by rw [hl, h0]; rfl
    clear hl h0 HP
    go_enter Tryd.func71, Tryd.ntmps71
    go_wp2
    go_ret
    rw [HE.out]
    exact ⟨rfl, below1 _ _⟩
  · have hz : ((la : Int) == 0) = false := by rw [beq_eq_false_iff_ne]; have := D_len_pos (Nat.pos_of_ne_zero h0); omega
    cases hn : isNeg r with
    | true =>
      have HE : Hid (r.num.sign = -1) := by show _ = _; rw [HP.out, if_neg h0, if_pos hn]
      clear hl h0 HP
      go_enter Tryd.func71, Tryd.ntmps71
      go_wp2
      go_ret
      rw [HE.out]
      exact ⟨rfl, below1 _ _⟩
    | false =>
      have HE : Hid (r.num.sign = 1) := by show _ = _; rw [HP.out, if_neg h0, if_neg (by rw [hn]; decide)]
      clear hl h0 HP
      go_enter Tryd.func71, Tryd.ntmps71
      go_wp2
      go_ret
      rw [HE.out]
      exact ⟨rfl, below1 _ _⟩

set_option maxRecDepth 20000 in
set_option maxHeartbeats 1600000 in
theorem compareQ_core (na nb : Bool) (x y x' y' p q : Nat) (sa sb res : Int) (hsa : ∀ (A B : Option Addr) (ca lb cb : Nat) (W : World), Calls Tryd.prog 71 #[.agg #[.bool na, .slice A (D x).length ca, .slice B lb cb]] W fun e w' => e = .returned (.int .i64 sa) ∧ Below W.heap.size W w')
    (hsb : ∀ (A B : Option Addr) (ca lb cb : Nat) (W : World), Calls Tryd.prog 71 #[.agg #[.bool nb, .slice A (D x').length ca, .slice B lb cb]] W fun e w' => e = .returned (.int .i64 sb) ∧ Below W.heap.size W w')
    (hp : x * y' = p) (hq : x' * y = q) (hsa0 : -1 ≤ sa ∧ sa ≤ 1) (hr1 : sa = sb → res = sa * cmpI p q) (hr2 : sa ≠ sb → res = cmpZ sa sb)
    (A B : Option Addr) (ca cb : Nat) (A' B' : Option Addr) (ca' cb' : Nat) (P P' : Nat → Prop) (w : World) (h0 : RdR w P (D x) (D y) A ca B cb) (h1 : RdR w P' (D x') (D y') A' ca' B' cb') (l1 : (D x).length ≤ 400) (l2 : (D y).length ≤ 400) (l3 : (D x').length ≤ 400) (l4 : (D y').length ≤ 400) (m1 : (D p).length ≤ 800) (m2 : (D q).length ≤ 800) :
    Calls Tryd.prog 43 #[.agg #[.bool na, .slice A (D x).length ca, .slice B (D y).length cb], .agg #[.bool nb, .slice A' (D x').length ca', .slice B' (D y').length cb']] w fun e w' => e = .returned (.int .i64 res) ∧ Below w.heap.size w w' := by
  have HSA := Lib.hid hsa
  have HSB := Lib.hid hsb
  have HPp := Lib.hid hp
  have HQq := Lib.hid hq
  have HR1x := Lib.hid hr1
  have HR2x := Lib.hid hr2
  clear hsa hsb hp hq hr1 hr2
  have H0 := Lib.hid (h0.mono (Q := (· < w.heap.size)) fun _ _ h => h)
  have H1 := Lib.hid (h1.mono (Q := (· < w.heap.size)) fun _ _ h => h)
  clear h0 h1
  go_enter Tryd.func43, Tryd.ntmps43
  go_upto_region 1 with fail
  have HB0 : Hid (Below w.heap.size w ((w.alloc (.cells #[.bool na, .slice A (D x).length ca, .slice B (D y).length cb] 25)).alloc (.cells #[.bool nb, .slice A' (D x').length ca', .slice B' (D y').length cb'] 25))) := below2 _ _ _
  have HR0 : Hid (RatAt ((w.alloc (.cells #[.bool na, .slice A (D x).length ca, .slice B (D y).length cb] 25)).alloc (.cells #[.bool nb, .slice A' (D x').length ca', .slice B' (D y').length cb'] 25)) w.heap.size 25 na A (D x).length ca B (D y).length cb) := (RatAt.new _ _ _ _ _ _ _ _ _).alloc _
  have HS0 : Hid (RatAt ((w.alloc (.cells #[.bool na, .slice A (D x).length ca, .slice B (D y).length cb] 25)).alloc (.cells #[.bool nb, .slice A' (D x').length ca', .slice B' (D y').length cb'] 25)) (w.heap.size + 1) 25 nb A' (D x').length ca' B' (D y').length cb') := RatAt.new1 _ _ _ _ _ _ _ _ _ _
  generalize (w.alloc (.cells #[.bool na, .slice A (D x).length ca, .slice B (D y).length cb] 25)).alloc (.cells #[.bool nb, .slice A' (D x').length ca', .slice B' (D y').length cb'] 25) = v0 at *
  go_region_held3 (fun wx => wx.cell? ⟨w.heap.size, 0, none⟩ = some (.bool na) ∧ wx.cell? ⟨w.heap.size, 1, none⟩ = some (.slice A (D x).length ca) ∧ wx.cell? ⟨w.heap.size, 2, none⟩ = some (.slice B (D y).length cb) ∧ wx.cell? ⟨w.heap.size + 1, 0, none⟩ = some (.bool nb) ∧ wx.cell? ⟨w.heap.size + 1, 1, none⟩ = some (.slice A' (D x').length ca') ∧ wx.cell? ⟨w.heap.size + 1, 2, none⟩ = some (.slice B' (D y').length cb'))
    (first | exact ⟨HR0.out.c0, HR0.out.c1, HR0.out.c2, HS0.out.c0, HS0.out.c1, HS0.out.c2⟩ | exact ⟨HR1.out.c0, HR1.out.c1, HR1.out.c2, HS1.out.c0, HS1.out.c1, HS1.out.c2⟩ | exact ⟨HR2.out.c0, HR2.out.c1, HR2.out.c2, HS2.out.c0, HS2.out.c1, HS2.out.c2⟩)
    (first
      | (go_at_call_of 71 A'; refine (HSB.out A' B' ca' _ cb' _).mono ?_; rintro e v2 ⟨rfl, bb⟩; have HR2 := Lib.hid (HR1.out.on bb); have HS2 := Lib.hid (HS1.out.on bb); have HB2 := Lib.hid (below_on HB1.out bb); clear bb)
      | (go_at_call_of 71 A; refine (HSA.out A B ca _ cb _).mono ?_; rintro e v1 ⟨rfl, bb⟩; have bb := undrew bb; have HR1 := Lib.hid (HR0.out.on bb); have HS1 := Lib.hid (HS0.out.on bb); have HB1 := Lib.hid (below_on HB0.out bb); clear bb))
  by_cases hs : sa = sb
  · have hsb : (sa != sb) = false := by simpa using hs
    have HE := Lib.hid (HR1x.out hs)
    have hc0 : -1 ≤ cmpI p q ∧ cmpI p q ≤ 1 := by unfold cmpI; split <;> (try split) <;> omega
    have hm : -1 ≤ sa * cmpI p q ∧ sa * cmpI p q ≤ 1 := by
      rcases (show sa = -1 ∨ sa = 0 ∨ sa = 1 by omega) with h | h | h <;> rw [h] <;> omega
    have HM := Lib.hid hm
    clear hm hs
    go_upto_region 3 with fail
    go_region_held3 (fun wx => wx.cell? ⟨w.heap.size, 0, none⟩ = some (.bool na) ∧ wx.cell? ⟨w.heap.size, 1, none⟩ = some (.slice A (D x).length ca) ∧ wx.cell? ⟨w.heap.size, 2, none⟩ = some (.slice B (D y).length cb) ∧ wx.cell? ⟨w.heap.size + 1, 0, none⟩ = some (.bool nb) ∧ wx.cell? ⟨w.heap.size + 1, 1, none⟩ = some (.slice A' (D x').length ca') ∧ wx.cell? ⟨w.heap.size + 1, 2, none⟩ = some (.slice B' (D y').length cb'))
      (first | exact ⟨HR2.out.c0, HR2.out.c1, HR2.out.c2, HS2.out.c0, HS2.out.c1, HS2.out.c2⟩ | exact ⟨HR3.out.c0, HR3.out.c1, HR3.out.c2, HS3.out.c0, HS3.out.c1, HS3.out.c2⟩ | exact ⟨HR4.out.c0, HR4.out.c1, HR4.out.c2, HS4.out.c0, HS4.out.c1, HS4.out.c2⟩ | exact ⟨HR5.out.c0, HR5.out.c1, HR5.out.c2, HS5.out.c0, HS5.out.c1, HS5.out.c2⟩ | exact ⟨HR6.out.c0, HR6.out.c1, HR6.out.c2, HS6.out.c0, HS6.out.c1, HS6.out.c2⟩)
      (first
        | (go_at_call 73; refine (compareLimbs_any V4 V5 _ d4 _ d5 p q _ _ _ (by exact HP5.out) (by exact HQ5.out) (by omega) (by omega)).mono ?_; rintro e v6 ⟨rfl, dd⟩; have bb := dd.below v5.heap.size; have HR6 := Lib.hid (HR5.out.on bb); have HS6 := Lib.hid (HS5.out.on bb); have HB6 := Lib.hid (below_on HB5.out bb); clear bb; clear dd)
        | (go_at_call_of 51 A'; refine (productLimbs_any A' B _ ca' _ cb x' y _ _ _ (by exact (H1.out.below HB4.out).1) (by exact (H0.out.below HB4.out).2) (by omega) (by omega)).mono ?_; rintro e v5 hnew; rw [HQq.out] at hnew; obtain ⟨V5, d5, rfl, p5, bb⟩ := new_of hnew; have HQ5 := Lib.hid p5; have HP5 := Lib.hid (HP4.out.on bb); have HR5 := Lib.hid (HR4.out.on bb); have HS5 := Lib.hid (HS4.out.on bb); have HB5 := Lib.hid (below_on HB4.out bb); clear bb; clear hnew p5)
        | (go_at_call_of 51 A; refine (productLimbs_any A B' _ ca _ cb' x y' _ _ _ (by exact (H0.out.below HB3.out).1) (by exact (H1.out.below HB3.out).2) (by omega) (by omega)).mono ?_; rintro e v4 hnew; rw [HPp.out] at hnew; obtain ⟨V4, d4, rfl, p4, bb⟩ := new_of hnew; have HP4 := Lib.hid p4; have HR4 := Lib.hid (HR3.out.on bb); have HS4 := Lib.hid (HS3.out.on bb); have HB4 := Lib.hid (below_on HB3.out bb); clear bb; clear hnew p4)
        | (go_at_call_of 71 A; refine (HSA.out A B ca _ cb _).mono ?_; rintro e v3 ⟨rfl, bb⟩; have bb := undrew bb; have HR3 := Lib.hid (HR2.out.on bb); have HS3 := Lib.hid (HS2.out.on bb); have HB3 := Lib.hid (below_on HB2.out bb); clear bb))
    go_wp2
    go_ret
    refine ⟨?_, HB6.out⟩
    rw [HE.out]
    have hm := HM.out
    have e : IntKind.i64.wrap (sa * cmpI p q) = sa * cmpI p q := by rw [IntKind.wrap_i64]; omega
    first | rfl | (show Ending.returned (.int .i64 (IntKind.i64.wrap (sa * cmpI p q))) = _; rw [e])
  · have hsb : (sa != sb) = true := by simpa using hs
    have HE := Lib.hid (HR2x.out hs)
    clear hs
    go_upto_region 2 with fail
    go_region_held3 (fun wx => wx.cell? ⟨w.heap.size, 0, none⟩ = some (.bool na) ∧ wx.cell? ⟨w.heap.size, 1, none⟩ = some (.slice A (D x).length ca) ∧ wx.cell? ⟨w.heap.size, 2, none⟩ = some (.slice B (D y).length cb) ∧ wx.cell? ⟨w.heap.size + 1, 0, none⟩ = some (.bool nb) ∧ wx.cell? ⟨w.heap.size + 1, 1, none⟩ = some (.slice A' (D x').length ca') ∧ wx.cell? ⟨w.heap.size + 1, 2, none⟩ = some (.slice B' (D y').length cb'))
      (first | exact ⟨HR2.out.c0, HR2.out.c1, HR2.out.c2, HS2.out.c0, HS2.out.c1, HS2.out.c2⟩ | exact ⟨HR3.out.c0, HR3.out.c1, HR3.out.c2, HS3.out.c0, HS3.out.c1, HS3.out.c2⟩ | exact ⟨HR4.out.c0, HR4.out.c1, HR4.out.c2, HS4.out.c0, HS4.out.c1, HS4.out.c2⟩)
      (first
        | (go_at_call 72; refine (compare_any sa sb _).mono ?_; rintro e v5 ⟨rfl, rfl⟩)
        | (go_at_call_of 71 A'; refine (HSB.out A' B' ca' _ cb' _).mono ?_; rintro e v4 ⟨rfl, bb⟩; have HR4 := Lib.hid (HR3.out.on bb); have HS4 := Lib.hid (HS3.out.on bb); have HB4 := Lib.hid (below_on HB3.out bb); clear bb)
        | (go_at_call_of 71 A; refine (HSA.out A B ca _ cb _).mono ?_; rintro e v3 ⟨rfl, bb⟩; have bb := undrew bb; have HR3 := Lib.hid (HR2.out.on bb); have HS3 := Lib.hid (HS2.out.on bb); have HB3 := Lib.hid (below_on HB2.out bb); clear bb))
    go_wp2
    go_ret
    rw [HE.out]
    exact ⟨rfl, HB4.out⟩

theorem compareQ_any (a b : Rat) (A B : Option Addr) (ca cb : Nat) (A' B' : Option Addr) (ca' cb' : Nat) (P P' : Nat → Prop) (w : World) (h0 : RdR w P (D (nu a)) (D a.den) A ca B cb) (h1 : RdR w P' (D (nu b)) (D b.den) A' ca' B' cb') (l1 : (D (nu a)).length ≤ 400) (l2 : (D a.den).length ≤ 400) (l3 : (D (nu b)).length ≤ 400) (l4 : (D b.den).length ≤ 400) :
    Calls Tryd.prog 43 #[.agg #[.bool (isNeg a), .slice A (D (nu a)).length ca, .slice B (D a.den).length cb], .agg #[.bool (isNeg b), .slice A' (D (nu b)).length ca', .slice B' (D b.den).length cb']] w fun e w' => e = .returned (.int .i64 (cmpQ a b)) ∧ Below w.heap.size w w' :=
  compareQ_core (isNeg a) (isNeg b) (nu a) a.den (nu b) b.den _ _ a.num.sign b.num.sign (cmpQ a b) (fun A B ca lb cb W => sign_any a A B _ ca lb cb W rfl (by omega)) (fun A B ca lb cb W => sign_any b A B _ ca lb cb W rfl (by omega)) rfl rfl (by rcases sign_cases a.num with h | h | h <;> omega) (cmpQ_same a b) (cmpQ_diff a b) A B ca cb A' B' ca' cb' P P' w h0 h1 l1 l2 l3 l4 (by have := D_len_mul (nu a) b.den; omega) (by have := D_len_mul (nu b) a.den; omega)

end Go.Proofs.YtgeijojkfojfbaaDoor
