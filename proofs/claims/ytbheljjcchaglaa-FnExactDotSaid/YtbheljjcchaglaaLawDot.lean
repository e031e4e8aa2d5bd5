/-
  The law FnExactDot: whatever the arguments, Dot answers as its model, writes into no argument, and what it answers is memory of its own. No condition.
-/
import Derived.Test.YtbheljjcchaglaaDotVec
import Derived.ProofKit
import Derived.OpenShut
import Derived.ShutString
import Derived.ChangeOld
namespace Nt
open Go Go.RowKit
theorem OwnV.farQ {tr ti : TypeId} {w w' : World} {base n c : Nat} {V : Option Addr} {L : List EV} (h : OwnV tr ti w base V n c L) (hk : ∀ b, base ≤ b → b < w.heap.size → w'.heap[b]? = w.heap[b]?) : OwnV tr ti w' base V n c L := by
  refine ⟨?_, fun i hi => ?_, h.2.2⟩
  · rcases h.1 with ⟨h1, h2 | ⟨g, cap, cur, e', hb, hh, h3⟩⟩
    · exact ⟨h1, .inl h2⟩
    · have hlt : g < w.heap.size := by
        rcases Nat.lt_or_ge g w.heap.size with hlt | hge
        · exact hlt
        · rw [Array.getElem?_eq_none hge] at hh; cases hh
      exact ⟨h1, .inr ⟨g, cap, cur, e', hb, (hk g hb hlt).trans hh, h3⟩⟩
  · have ho := h.2.1 i hi
    exact ⟨own_at_block ho.1 fun g hg => hk g (own_block ho.1 hg).1 (own_block ho.1 hg).2, own_at_block ho.2.1 fun g hg => hk g (own_block ho.2.1 hg).1 (own_block ho.2.1 hg).2, ho.2.2⟩
theorem OwnR.farQ {ti : TypeId} {w w' : World} {base : Nat} {xs ys : List Int} {A B : Option Addr} {ca cb : Nat} (h : OwnR ti w base xs ys A ca B cb) (hk : ∀ b, base ≤ b → b < w.heap.size → w'.heap[b]? = w.heap[b]?) : OwnR ti w' base xs ys A ca B cb :=
  ⟨own_at_block h.1 fun g hg => hk g (own_block h.1 hg).1 (own_block h.1 hg).2, own_at_block h.2.1 fun g hg => hk g (own_block h.2.1 hg).1 (own_block h.2.1 hg).2, h.2.2⟩
theorem RatAt.underQ {w w' : World} {b N : Nat} {t : TypeId} {neg : Bool} {A B : Option Addr} {la ca lb cb : Nat} (h : RatAt w b t neg A la ca B lb cb) (hb : b < N) (hw : Below N w w') : RatAt w' b t neg A la ca B lb cb := (hw.block b hb).trans h
end Nt
namespace Go.Proofs.Ytbheljjcchaglaa
open Go Go.RowKit Nt
open Go.ChangeShapes Go.WideShapes Go.ChangeAt
open Go.ChangeMaps (open_string shut_string)

set_option maxRecDepth 20000 in
set_option maxHeartbeats 6400000 in
theorem lawDot_core (N : Bool) (X Y : List Int) (code : Int) (A0 : Option Addr) (ca0 : Nat) (r0 : List R3) (A1 : Option Addr) (ca1 : Nat) (r1 : List R3) (w : World) (hX : X.length ≤ 1000) (hY : Y.length ≤ 1000)
    (hS : ∀ (a0 : Option Addr) (c0 : Nat) (a1 : Option Addr) (c1 : Nat) (W : World), RdS W (fun _ => True) a0 r0.length c0 r0 → RdS W (fun _ => True) a1 r1.length c1 r1 → Calls Try.prog 30 #[.slice a0 r0.length c0, .slice a1 r1.length c1] W (SayRC' W N X Y code))
    (hI : ∀ (a0 : Option Addr) (c0 : Nat) (a1 : Option Addr) (c1 : Nat) (W : World), RdS W (fun _ => True) a0 r0.length c0 r0 → RdS W (fun _ => True) a1 r1.length c1 r1 → Calls Try.prog 31 #[.slice a0 r0.length c0, .slice a1 r1.length c1] W (RetRC 3 W N X Y code))
    (hr0 : RdS w (· < w.heap.size) A0 r0.length ca0 r0) (hs0 : Short r0) (hr1 : RdS w (· < w.heap.size) A1 r1.length ca1 r1) (hs1 : Short r1) (hsz : (r0.length + tot r0) + (r1.length + tot r1) ≤ 1048576) :
    Calls Try.prog 7 #[.slice A0 r0.length ca0, .slice A1 r1.length ca1] w fun e w' => e = .returned (.bool true) ∧ Below w.heap.size w w' := by
  have HS := Lib.hid hS
  have HI := Lib.hid hI
  clear hS hI
  have HRk0 := Lib.hid hr0
  have HSk0 := Lib.hid hs0
  have HMk0 := Lib.hid (small_tot (rs := r0) (by omega))
  clear hr0 hs0
  have HRk1 := Lib.hid hr1
  have HSk1 := Lib.hid hs1
  have HMk1 := Lib.hid (small_tot (rs := r1) (by omega))
  clear hr1 hs1
  have hcc : (code != code) = false := by simp
  go_enter Try.func7, Try.ntmps7
  go_wp2_with fail
  refine (szRatS_any A0 _ ca0 r0 (1048576) w HRk0.out HSk0.out (by omega) (by omega) (by omega)).mono ?_
  rintro e v1 ⟨rfl, bb⟩
  have HBv1 := Lib.hid bb
  have sv1 : w.heap.size ≤ v1.heap.size := bb.size
  clear bb
  rw [szS_fit (by omega)]
  have hle0 : 0 ≤ 1048576 - (r0.length : Int) - (tot r0 : Int) := by omega
  go_wp2_with fail
  refine (szRatS_any A1 _ ca1 r1 (1048576 - (r0.length : Int) - (tot r0 : Int)) v1 ((HRk1.out.below HBv1.out).mono (Q := (· < v1.heap.size)) fun _ h _ => Nat.lt_of_lt_of_le h HBv1.out.size) HSk1.out (by omega) (by omega) (by omega)).mono ?_
  rintro e v2 ⟨rfl, bb⟩
  have sv2 : v1.heap.size ≤ v2.heap.size := bb.size
  have HBv2 := Lib.hid (below_on HBv1.out bb)
  clear bb HBv1
  rw [szS_fit (by omega)]
  have hle1 : 0 ≤ 1048576 - (r0.length : Int) - (tot r0 : Int) - (r1.length : Int) - (tot r1 : Int) := by omega
  go_wp2_with fail
  refine (toRatS_any A0 _ ca0 r0 v2 ((HRk0.out.below HBv2.out).mono (Q := (· < v2.heap.size)) fun _ h _ => Nat.lt_of_lt_of_le h HBv2.out.size) HMk0.out (by omega)).mono ?_
  rintro e v3 ⟨sA0, sc0, rfl, oo, bb⟩
  have sv3 : v2.heap.size ≤ v3.heap.size := bb.size
  have HBv3 := Lib.hid (below_on HBv2.out bb)
  have Hs0v3 := Lib.hid oo.all
  clear oo
  clear bb HBv2
  go_wp2_with fail
  refine (toRatS_any A1 _ ca1 r1 v3 ((HRk1.out.below HBv3.out).mono (Q := (· < v3.heap.size)) fun _ h _ => Nat.lt_of_lt_of_le h HBv3.out.size) HMk1.out (by omega)).mono ?_
  rintro e v4 ⟨sA1, sc1, rfl, oo, bb⟩
  have sv4 : v3.heap.size ≤ v4.heap.size := bb.size
  have HBv4 := Lib.hid (below_on HBv3.out bb)
  have Hs0v4 := Lib.hid (Hs0v3.out.on bb)
  have Hs1v4 := Lib.hid oo.all
  clear oo
  clear bb HBv3 Hs0v3
  go_wp2_with fail
  refine (HS.out sA0 sc0 sA1 sc1 v4 Hs0v4.out Hs1v4.out).mono ?_
  rintro e v5 ⟨wA, wc, wB, wd, rfl, oo, bb⟩
  have sv5 : v4.heap.size ≤ v5.heap.size := bb.size
  have HBv5 := Lib.hid (below_on HBv4.out bb)
  have Hs0v5 := Lib.hid (Hs0v4.out.on bb)
  have Hs1v5 := Lib.hid (Hs1v4.out.on bb)
  have HWv5 := Lib.hid (oo.mono (Q := (· < v5.heap.size)) fun _ _ h => h)
  clear oo
  clear bb HBv4 Hs0v4 Hs1v4
  clear Hs0v5
  clear Hs1v5
  go_wp2_with fail
  refine calls_at (fun V => (v5.heap.size < V.heap.size) ∧ (Below w.heap.size w V) ∧ (RdR V (· < v5.heap.size) X Y wA wc wB wd) ∧ (RatAt V v5.heap.size 43 N wA X.length wc wB Y.length wd))
    ⟨by simp, below_on HBv5.out (below1 _ _), HWv5.out.on (below1 _ _), RatAt.new _ _ _ _ _ _ _ _ _⟩ ?_
  rintro v6 ⟨sv6, pB, pW, pwb⟩
  have HBv6 := Lib.hid pB
  have HWv6 := Lib.hid pW
  have Hwbv6 := Lib.hid pwb
  clear pB pW pwb HBv5 HWv5
  refine (toRatS_own A0 _ ca0 r0 v6 ((HRk0.out.below HBv6.out).mono (Q := (· < v6.heap.size)) fun _ h _ => Nat.lt_of_lt_of_le h HBv6.out.size) HMk0.out (by omega)).mono ?_
  rintro e v7 ⟨xA0, xc0, xL0, rfl, oo, ev, bb⟩
  have sv7 : v6.heap.size ≤ v7.heap.size := bb.size
  have HBv7 := Lib.hid (below_on HBv6.out bb)
  have HWv7 := Lib.hid (HWv6.out.on bb)
  have Hwbv7 := Lib.hid (Hwbv6.out.on bb)
  have Hx0v7 := Lib.hid oo
  have HEx0 := Lib.hid ev
  clear oo ev
  clear bb HBv6 HWv6 Hwbv6
  go_wp2_with fail
  have HLB0x1 := Lib.hid Hx0v7.out.lt
  refine (toRatS_own A1 _ ca1 r1 v7 ((HRk1.out.below HBv7.out).mono (Q := (· < v7.heap.size)) fun _ h _ => Nat.lt_of_lt_of_le h HBv7.out.size) HMk1.out (by omega)).mono ?_
  rintro e v8 ⟨xA1, xc1, xL1, rfl, oo, ev, bb⟩
  have sv8 : v7.heap.size ≤ v8.heap.size := bb.size
  have HBv8 := Lib.hid (below_on HBv7.out bb)
  have HWv8 := Lib.hid (HWv7.out.on bb)
  have Hwbv8 := Lib.hid (Hwbv7.out.on bb)
  have Hx0v8 := Lib.hid (Hx0v7.out.on bb)
  have Hx1v8 := Lib.hid oo
  have HEx1 := Lib.hid ev
  clear oo ev
  clear bb HBv7 HWv7 Hwbv7 Hx0v7
  go_wp2_with fail
  have HLX0 := Lib.hid Hx0v8.out.lt
  have HLX1 := Lib.hid Hx1v8.out.lt
  refine (HI.out xA0 xc0 xA1 xc1 v8 (by have h := Hx0v8.out.rd.all; rw [HEx0.out] at h; exact h) (by have h := Hx1v8.out.rd.all; rw [HEx1.out] at h; exact h)).mono ?_
  rintro e v9 ⟨gA, gc, gB, gd, rfl, oo, bb⟩
  have sv9 : v8.heap.size ≤ v9.heap.size := bb.size
  have HBv9 := Lib.hid (below_on HBv8.out bb)
  have HWv9 := Lib.hid (HWv8.out.on bb)
  have Hwbv9 := Lib.hid (Hwbv8.out.on bb)
  have Hx0v9 := Lib.hid (Hx0v8.out.on bb)
  have Hx1v9 := Lib.hid (Hx1v8.out.on bb)
  have HGv9 := Lib.hid oo
  clear oo
  clear bb HBv8 HWv8 Hwbv8 Hx0v8 Hx1v8
  have hsw : v5.heap.size < v9.heap.size := by omega
  have qwb0 := Hwbv9.out.c0
  have qwb1 := Hwbv9.out.c1
  have qwb2 := Hwbv9.out.c2
  go_wp2_with fail
  clear qwb0 qwb1 qwb2
  refine calls_at (fun V => (v9.heap.size < V.heap.size) ∧ (Below w.heap.size w V) ∧ (RdR V (· < v5.heap.size) X Y wA wc wB wd) ∧ (RatAt V v5.heap.size 43 N wA X.length wc wB Y.length wd) ∧ (OwnV 43 3 V v6.heap.size xA0 r0.length xc0 xL0) ∧ (OwnV 43 3 V v7.heap.size xA1 r1.length xc1 xL1) ∧ (OwnR 3 V v8.heap.size X Y gA gc gB gd) ∧ (RatAt V v9.heap.size 43 N gA X.length gc gB Y.length gd))
    ⟨by simp, below_on HBv9.out (below1 _ _), HWv9.out.on (below1 _ _), Hwbv9.out.on (below1 _ _), Hx0v9.out.on (below1 _ _), Hx1v9.out.on (below1 _ _), HGv9.out.on (below1 _ _), RatAt.new _ _ _ _ _ _ _ _ _⟩ ?_
  rintro v10 ⟨sv10, pB, pW, pwb, px0, px1, pG, pgb⟩
  have HBv10 := Lib.hid pB
  have HWv10 := Lib.hid pW
  have Hwbv10 := Lib.hid pwb
  have Hx0v10 := Lib.hid px0
  have Hx1v10 := Lib.hid px1
  have HGv10 := Lib.hid pG
  have Hgbv10 := Lib.hid pgb
  clear pB pW pwb px0 px1 pG pgb HBv9 HWv9 Hwbv9 Hx0v9 Hx1v9 HGv9
  refine (eqRat_same N gA gB wA wB gc gd wc wd X Y _ _ v10 HGv10.out.rdt HWv10.out (by omega) (by omega)).mono ?_
  rintro e v11 ⟨rfl, bb⟩
  have sv11 : v10.heap.size ≤ v11.heap.size := bb.size
  have HBv11 := Lib.hid (below_on HBv10.out bb)
  have HWv11 := Lib.hid (HWv10.out.on bb)
  have Hwbv11 := Lib.hid (Hwbv10.out.on bb)
  have Hx0v11 := Lib.hid (Hx0v10.out.on bb)
  have Hx1v11 := Lib.hid (Hx1v10.out.on bb)
  have HGv11 := Lib.hid (HGv10.out.on bb)
  have Hgbv11 := Lib.hid (Hgbv10.out.on bb)
  clear bb HBv10 HWv10 Hwbv10 Hx0v10 Hx1v10 HGv10 Hgbv10
  go_wp2_with fail
  refine (toRatS_any A0 _ ca0 r0 v11 ((HRk0.out.below HBv11.out).mono (Q := (· < v11.heap.size)) fun _ h _ => Nat.lt_of_lt_of_le h HBv11.out.size) HMk0.out (by omega)).mono ?_
  rintro e v12 ⟨zA0, zc0, rfl, oo, bb⟩
  have sv12 : v11.heap.size ≤ v12.heap.size := bb.size
  have HBv12 := Lib.hid (below_on HBv11.out bb)
  have HWv12 := Lib.hid (HWv11.out.on bb)
  have Hwbv12 := Lib.hid (Hwbv11.out.on bb)
  have Hx0v12 := Lib.hid (Hx0v11.out.on bb)
  have Hx1v12 := Lib.hid (Hx1v11.out.on bb)
  have HGv12 := Lib.hid (HGv11.out.on bb)
  have Hgbv12 := Lib.hid (Hgbv11.out.on bb)
  have Hz0v12 := Lib.hid oo.all
  clear oo
  clear bb HBv11 HWv11 Hwbv11 Hx0v11 Hx1v11 HGv11 Hgbv11
  go_wp2_with fail
  refine (eqRatS_same xA0 zA0 _ xc0 zc0 r0 _ _ v12 (by have h := Hx0v12.out.rd.all; rw [HEx0.out] at h; exact h) Hz0v12.out HMk0.out (by omega)).mono ?_
  rintro e v13 ⟨rfl, bb⟩
  have sv13 : v12.heap.size ≤ v13.heap.size := bb.size
  have HBv13 := Lib.hid (below_on HBv12.out bb)
  have HWv13 := Lib.hid (HWv12.out.on bb)
  have Hwbv13 := Lib.hid (Hwbv12.out.on bb)
  have Hx0v13 := Lib.hid (Hx0v12.out.on bb)
  have Hx1v13 := Lib.hid (Hx1v12.out.on bb)
  have HGv13 := Lib.hid (HGv12.out.on bb)
  have Hgbv13 := Lib.hid (Hgbv12.out.on bb)
  have Hz0v13 := Lib.hid (Hz0v12.out.on bb)
  clear bb HBv12 HWv12 Hwbv12 Hx0v12 Hx1v12 HGv12 Hgbv12 Hz0v12
  clear Hz0v13
  go_wp2_with fail
  refine (toRatS_any A1 _ ca1 r1 v13 ((HRk1.out.below HBv13.out).mono (Q := (· < v13.heap.size)) fun _ h _ => Nat.lt_of_lt_of_le h HBv13.out.size) HMk1.out (by omega)).mono ?_
  rintro e v14 ⟨zA1, zc1, rfl, oo, bb⟩
  have sv14 : v13.heap.size ≤ v14.heap.size := bb.size
  have HBv14 := Lib.hid (below_on HBv13.out bb)
  have HWv14 := Lib.hid (HWv13.out.on bb)
  have Hwbv14 := Lib.hid (Hwbv13.out.on bb)
  have Hx0v14 := Lib.hid (Hx0v13.out.on bb)
  have Hx1v14 := Lib.hid (Hx1v13.out.on bb)
  have HGv14 := Lib.hid (HGv13.out.on bb)
  have Hgbv14 := Lib.hid (Hgbv13.out.on bb)
  have Hz1v14 := Lib.hid oo.all
  clear oo
  clear bb HBv13 HWv13 Hwbv13 Hx0v13 Hx1v13 HGv13 Hgbv13
  go_wp2_with fail
  refine (eqRatS_same xA1 zA1 _ xc1 zc1 r1 _ _ v14 (by have h := Hx1v14.out.rd.all; rw [HEx1.out] at h; exact h) Hz1v14.out HMk1.out (by omega)).mono ?_
  rintro e v15 ⟨rfl, bb⟩
  have sv15 : v14.heap.size ≤ v15.heap.size := bb.size
  have HBv15 := Lib.hid (below_on HBv14.out bb)
  have HWv15 := Lib.hid (HWv14.out.on bb)
  have Hwbv15 := Lib.hid (Hwbv14.out.on bb)
  have Hx0v15 := Lib.hid (Hx0v14.out.on bb)
  have Hx1v15 := Lib.hid (Hx1v14.out.on bb)
  have HGv15 := Lib.hid (HGv14.out.on bb)
  have Hgbv15 := Lib.hid (Hgbv14.out.on bb)
  have Hz1v15 := Lib.hid (Hz1v14.out.on bb)
  clear bb HBv14 HWv14 Hwbv14 Hx0v14 Hx1v14 HGv14 Hgbv14 Hz1v14
  clear Hz1v15
  go_wp2_with fail
  refine (markRatS_any xA0 _ xc0 xL0 (1) _ v15 Hx0v15.out (by rw [HEx0.out]; omega) (by omega) (by omega)).mono ?_
  rintro e v16 ⟨rfl, oo⟩
  rw [HEx0.out]
  have bl := oo.2.below Hx0v15.out (by omega)
  have up := oo.2.beyond HLX0.out
  have sv16 : v15.heap.size ≤ v16.heap.size := bl.size
  have HBv16 := Lib.hid (HBv15.out.trans (bl.mono (by omega)))
  have HWv16 := Lib.hid (HWv15.out.below (bl.mono (by omega)))
  have Hwbv16 := Lib.hid (Hwbv15.out.underQ (by omega) bl)
  have Hx1v16 := Lib.hid (Hx1v15.out.farQ (oo.2.beyond HLB0x1.out))
  have HGv16 := Lib.hid (HGv15.out.farQ up)
  have Hgbv16 : Hid (RatAt v16 v9.heap.size 43 N gA X.length gc gB Y.length gd) := ((up _ (by omega) Hgbv15.out.lt).trans Hgbv15.out)
  clear bl up oo HBv15 HWv15 Hwbv15 Hx0v15 Hx1v15 HGv15 Hgbv15
  generalize hM0 : 1 + r0.length + tot r0 = m0
  have HMM0 := Lib.hid hM0
  have hmb0 : m0 ≤ 2000000 := by omega
  clear hM0
  go_wp2_with fail
  refine (markRatS_any xA1 _ xc1 xL1 (m0) _ v16 Hx1v16.out (by rw [HEx1.out]; omega) (by omega) (by omega)).mono ?_
  rintro e v17 ⟨rfl, oo⟩
  rw [HEx1.out]
  have bl := oo.2.below Hx1v16.out (by omega)
  have up := oo.2.beyond HLX1.out
  have sv17 : v16.heap.size ≤ v17.heap.size := bl.size
  have HBv17 := Lib.hid (HBv16.out.trans (bl.mono (by omega)))
  have HWv17 := Lib.hid (HWv16.out.below (bl.mono (by omega)))
  have Hwbv17 := Lib.hid (Hwbv16.out.underQ (by omega) bl)
  have HGv17 := Lib.hid (HGv16.out.farQ up)
  have Hgbv17 : Hid (RatAt v17 v9.heap.size 43 N gA X.length gc gB Y.length gd) := ((up _ (by omega) Hgbv16.out.lt).trans Hgbv16.out)
  clear bl up oo HBv16 HWv16 Hwbv16 Hx1v16 HGv16 Hgbv16
  generalize hM1 : m0 + r1.length + tot r1 = m1
  have HMM1 := Lib.hid hM1
  have hmb1 : m1 ≤ 4000000 := by omega
  clear hM1
  have qgb0 := Hgbv17.out.c0
  have qgb1 := Hgbv17.out.c1
  have qgb2 := Hgbv17.out.c2
  have qwb0 := Hwbv17.out.c0
  have qwb1 := Hwbv17.out.c1
  have qwb2 := Hwbv17.out.c2
  go_wp2_with fail
  clear qgb0 qgb1 qgb2 qwb0 qwb1 qwb2
  refine (eqRat_same N gA gB wA wB gc gd wc wd X Y _ _ v17 HGv17.out.rdt HWv17.out (by omega) (by omega)).mono ?_
  rintro e v18 ⟨rfl, bb⟩
  have sv18 : v17.heap.size ≤ v18.heap.size := bb.size
  have HBv18 := Lib.hid (below_on HBv17.out bb)
  have HWv18 := Lib.hid (HWv17.out.on bb)
  have Hwbv18 := Lib.hid (Hwbv17.out.on bb)
  have HGv18 := Lib.hid (HGv17.out.on bb)
  have Hgbv18 := Lib.hid (Hgbv17.out.on bb)
  clear bb HBv17 HWv17 Hwbv17 HGv17 Hgbv17
  have qgb0 := Hgbv18.out.c0
  have qgb1 := Hgbv18.out.c1
  have qgb2 := Hgbv18.out.c2
  go_wp2_with fail
  clear qgb0 qgb1 qgb2
  refine (markRat_any N gA gB gc gd X Y 1 _ v18 HGv18.out (by omega) (by omega) (by omega) (by omega)).mono ?_
  rintro e v19 ⟨rfl, oo⟩
  have bl := oo.2.below HGv18.out (by omega)
  have sv19 : v18.heap.size ≤ v19.heap.size := bl.size
  have HBv19 := Lib.hid (HBv18.out.trans (bl.mono (by omega)))
  have HWv19 := Lib.hid (HWv18.out.below (bl.mono (by omega)))
  have Hwbv19 := Lib.hid (Only.at_ (la := 0) (lb := 0) oo.2 HGv18.out (by decide) Hwbv18.out)
  have Hgbv19 := Lib.hid (Only.at_ (la := 0) (lb := 0) oo.2 HGv18.out (by decide) Hgbv18.out)
  have HMv19 := Lib.hid oo.1.rdt
  clear bl oo HBv18 HWv18 Hwbv18 HGv18 Hgbv18
  have hq0 : 0 ≤ 1 + (X.length : Int) + (Y.length : Int) := by omega
  have hqq : (1 + (X.length : Int) + (Y.length : Int) != 1 + (X.length : Int) + (Y.length : Int)) = false := by simp
  have qgb0 := Hgbv19.out.c0
  have qgb1 := Hgbv19.out.c1
  have qgb2 := Hgbv19.out.c2
  go_wp2_with fail
  clear qgb0 qgb1 qgb2
  refine (heldRat_any N gA gB gc gd _ _ 1 _ v19 HMv19.out (by omega) (by omega) (by omega) (by omega)).mono ?_
  rintro e v20 ⟨rfl, bb⟩
  have sv20 : v19.heap.size ≤ v20.heap.size := bb.size
  have HBv20 := Lib.hid (below_on HBv19.out bb)
  have HWv20 := Lib.hid (HWv19.out.on bb)
  have Hwbv20 := Lib.hid (Hwbv19.out.on bb)
  have Hgbv20 := Lib.hid (Hgbv19.out.on bb)
  have HMv20 := Lib.hid (HMv19.out.on bb)
  clear bb HBv19 HWv19 Hwbv19 Hgbv19 HMv19
  go_wp2_with fail
  refine (toRatS_any A0 _ ca0 r0 v20 ((HRk0.out.below HBv20.out).mono (Q := (· < v20.heap.size)) fun _ h _ => Nat.lt_of_lt_of_le h HBv20.out.size) HMk0.out (by omega)).mono ?_
  rintro e v21 ⟨hA0, hc0, rfl, oo, bb⟩
  have sv21 : v20.heap.size ≤ v21.heap.size := bb.size
  have HBv21 := Lib.hid (below_on HBv20.out bb)
  have HWv21 := Lib.hid (HWv20.out.on bb)
  have Hwbv21 := Lib.hid (Hwbv20.out.on bb)
  have Hgbv21 := Lib.hid (Hgbv20.out.on bb)
  have HMv21 := Lib.hid (HMv20.out.on bb)
  have Hh0v21 := Lib.hid oo.all
  clear oo
  clear bb HBv20 HWv20 Hwbv20 Hgbv20 HMv20
  go_wp2_with fail
  refine (toRatS_any A1 _ ca1 r1 v21 ((HRk1.out.below HBv21.out).mono (Q := (· < v21.heap.size)) fun _ h _ => Nat.lt_of_lt_of_le h HBv21.out.size) HMk1.out (by omega)).mono ?_
  rintro e v22 ⟨hA1, hc1, rfl, oo, bb⟩
  have sv22 : v21.heap.size ≤ v22.heap.size := bb.size
  have HBv22 := Lib.hid (below_on HBv21.out bb)
  have HWv22 := Lib.hid (HWv21.out.on bb)
  have Hwbv22 := Lib.hid (Hwbv21.out.on bb)
  have Hgbv22 := Lib.hid (Hgbv21.out.on bb)
  have HMv22 := Lib.hid (HMv21.out.on bb)
  have Hh0v22 := Lib.hid (Hh0v21.out.on bb)
  have Hh1v22 := Lib.hid oo.all
  clear oo
  clear bb HBv21 HWv21 Hwbv21 Hgbv21 HMv21 Hh0v21
  go_wp2_with fail
  refine (HI.out hA0 hc0 hA1 hc1 v22 Hh0v22.out Hh1v22.out).mono ?_
  rintro e v23 ⟨kA, kc, kB, kd, rfl, oo, bb⟩
  have sv23 : v22.heap.size ≤ v23.heap.size := bb.size
  have HBv23 := Lib.hid (below_on HBv22.out bb)
  have HWv23 := Lib.hid (HWv22.out.on bb)
  have Hwbv23 := Lib.hid (Hwbv22.out.on bb)
  have Hgbv23 := Lib.hid (Hgbv22.out.on bb)
  have HMv23 := Lib.hid (HMv22.out.on bb)
  have Hh0v23 := Lib.hid (Hh0v22.out.on bb)
  have Hh1v23 := Lib.hid (Hh1v22.out.on bb)
  have HHv23 := Lib.hid oo.rdt
  clear oo
  clear bb HBv22 HWv22 Hwbv22 Hgbv22 HMv22 Hh0v22 Hh1v22
  clear Hh0v23
  clear Hh1v23
  have hsw2 : v5.heap.size < v23.heap.size := by omega
  have qwb0 := Hwbv23.out.c0
  have qwb1 := Hwbv23.out.c1
  have qwb2 := Hwbv23.out.c2
  go_wp2_with fail
  clear qwb0 qwb1 qwb2
  refine calls_at (fun V => (v23.heap.size < V.heap.size) ∧ (Below w.heap.size w V) ∧ (RdR V (· < v5.heap.size) X Y wA wc wB wd) ∧ (RatAt V v5.heap.size 43 N wA X.length wc wB Y.length wd) ∧ (RatAt V v9.heap.size 43 N gA X.length gc gB Y.length gd) ∧ (RdR V (fun _ => True) (marks 1 X.length) (marks (1 + X.length) Y.length) gA gc gB gd) ∧ (RdR V (fun _ => True) X Y kA kc kB kd) ∧ (RatAt V v23.heap.size 43 N kA X.length kc kB Y.length kd))
    ⟨by simp, below_on HBv23.out (below1 _ _), HWv23.out.on (below1 _ _), Hwbv23.out.on (below1 _ _), Hgbv23.out.on (below1 _ _), HMv23.out.on (below1 _ _), HHv23.out.on (below1 _ _), RatAt.new _ _ _ _ _ _ _ _ _⟩ ?_
  rintro v24 ⟨sv24, pB, pW, pwb, pgb, pM, pH, phb⟩
  have HBv24 := Lib.hid pB
  have HWv24 := Lib.hid pW
  have Hwbv24 := Lib.hid pwb
  have Hgbv24 := Lib.hid pgb
  have HMv24 := Lib.hid pM
  have HHv24 := Lib.hid pH
  have Hhbv24 := Lib.hid phb
  clear pB pW pwb pgb pM pH phb HBv23 HWv23 Hwbv23 Hgbv23 HMv23 HHv23
  refine (eqRat_same N kA kB wA wB kc kd wc wd X Y _ _ v24 HHv24.out HWv24.out (by omega) (by omega)).mono ?_
  rintro e v25 ⟨rfl, bb⟩
  have sv25 : v24.heap.size ≤ v25.heap.size := bb.size
  have HBv25 := Lib.hid (below_on HBv24.out bb)
  have HWv25 := Lib.hid (HWv24.out.on bb)
  have Hwbv25 := Lib.hid (Hwbv24.out.on bb)
  have Hgbv25 := Lib.hid (Hgbv24.out.on bb)
  have HMv25 := Lib.hid (HMv24.out.on bb)
  have HHv25 := Lib.hid (HHv24.out.on bb)
  have Hhbv25 := Lib.hid (Hhbv24.out.on bb)
  clear bb HBv24 HWv24 Hwbv24 Hgbv24 HMv24 HHv24 Hhbv24
  have qgb0 := Hgbv25.out.c0
  have qgb1 := Hgbv25.out.c1
  have qgb2 := Hgbv25.out.c2
  go_wp2_with fail
  clear qgb0 qgb1 qgb2
  refine (heldRat_any N gA gB gc gd _ _ 1 _ v25 HMv25.out (by omega) (by omega) (by omega) (by omega)).mono ?_
  rintro e v26 ⟨rfl, bb⟩
  have sv26 : v25.heap.size ≤ v26.heap.size := bb.size
  have HBv26 := Lib.hid (below_on HBv25.out bb)
  have HWv26 := Lib.hid (HWv25.out.on bb)
  have Hwbv26 := Lib.hid (Hwbv25.out.on bb)
  have Hgbv26 := Lib.hid (Hgbv25.out.on bb)
  have HMv26 := Lib.hid (HMv25.out.on bb)
  have HHv26 := Lib.hid (HHv25.out.on bb)
  have Hhbv26 := Lib.hid (Hhbv25.out.on bb)
  clear bb HBv25 HWv25 Hwbv25 Hgbv25 HMv25 HHv25 Hhbv25
  go_wp2
  go_ret
  exact ⟨rfl, HBv26.out⟩

set_option maxHeartbeats 1600000 in
theorem lawDot_any (A0 : Option Addr) (la0 ca0 : Nat) (r0 : List R3) (A1 : Option Addr) (la1 ca1 : Nat) (r1 : List R3) (w : World) (hr0 : RdS w (· < w.heap.size) A0 la0 ca0 r0) (hs0 : Short r0) (hn0 : la0 ≤ 9223372036854775807) (hr1 : RdS w (· < w.heap.size) A1 la1 ca1 r1) (hs1 : Short r1) (hn1 : la1 ≤ 9223372036854775807) :
    Calls Try.prog 7 #[.slice A0 la0 ca0, .slice A1 la1 ca1] w fun e w' => e = .returned (.bool true) ∧ Below w.heap.size w w' := by
  obtain rfl := hr0.len
  obtain rfl := hr1.len
  by_cases hb0 : (1048576 : Int) < r0.length + tot r0
  · have HR := Lib.hid hr0
    have HS := Lib.hid hs0
    have HZ := Lib.hid (szS_big hb0)
    clear hr0 hs0 hr1 hs1 hb0
    go_enter Try.func7, Try.ntmps7
    go_wp2_with fail
    refine (szRatS_any A0 _ ca0 r0 1048576 w HR.out HS.out hn0 (by omega) (by omega)).mono ?_
    rintro e v2 ⟨rfl, b2⟩
    rw [HZ.out]
    have HB2 := Lib.hid b2
    clear b2
    go_wp2
    go_ret
    exact ⟨rfl, HB2.out⟩
  by_cases hb1 : (1048576 : Int) - r0.length - tot r0 < r1.length + tot r1
  · have HR := Lib.hid hr0
    have HS := Lib.hid hs0
    have HR1 := Lib.hid hr1
    have HS1 := Lib.hid hs1
    have HZ0 := Lib.hid (szS_fit hb0)
    have HZ := Lib.hid (szS_big hb1)
    have hp : 0 ≤ (1048576 : Int) - r0.length - tot r0 := by omega
    have hp2 : (1048576 : Int) - r0.length - tot r0 ≤ 1048576 := by omega
    clear hr0 hs0 hr1 hs1 hb0 hb1
    go_enter Try.func7, Try.ntmps7
    go_wp2_with fail
    refine (szRatS_any A0 _ ca0 r0 1048576 w HR.out HS.out hn0 (by omega) (by omega)).mono ?_
    rintro e v2 ⟨rfl, b2⟩
    rw [HZ0.out]
    have HB2 := Lib.hid b2
    clear b2
    go_wp2_with fail
    refine (szRatS_any A1 _ ca1 r1 _ v2 ((HR1.out.below HB2.out).mono (Q := (· < v2.heap.size)) fun _ h _ => Nat.lt_of_lt_of_le h HB2.out.size) HS1.out hn1 hp hp2).mono ?_
    rintro e v3 ⟨rfl, b3⟩
    rw [HZ.out]
    have HB3 := Lib.hid (below_on HB2.out b3)
    clear b3
    go_wp2
    go_ret
    exact ⟨rfl, HB3.out⟩
  have hsm0 : Small r0 := small_tot (by omega)
  have hsm1 : Small r1 := small_tot (by omega)
  have hsz : (r0.length + tot r0) + (r1.length + tot r1) ≤ 1048576 := by omega
  by_cases ha : askV r0.length r1.length r0 r1 = 0
  · obtain ⟨o1, o2, he, _⟩ := sameVV_yes ha
    obtain ⟨_, _, ps, rfl, hfp⟩ := okV_out o1
    obtain ⟨_, _, qs, rfl, hfq⟩ := okV_out o2
    rw [← he] at ha
    have z1 := fX_len (dotK ps qs ps.length)
    have z2 := fY_len (dotK ps qs ps.length)
    exact lawDot_core (fN (dotK ps qs ps.length)) (fX (dotK ps qs ps.length)) (fY (dotK ps qs ps.length)) (fK (dotK ps qs ps.length)) A0 ca0 _ A1 ca1 _ w (by omega) (by omega) (fun a0 c0 a1 c1 W h0 h1 => by rw [← he] at h1 ⊢; exact specDot_ok ps qs a0 a1 _ c0 c1 _ _ W h0 h1 hfp hfq ha) (fun a0 c0 a1 c1 W h0 h1 => by rw [← he] at h1 ⊢; exact implDot_ok ps qs a0 a1 _ c0 c1 _ _ W h0 h1 hfp hfq (by omega) ha) hr0 hs0 hr1 hs1 hsz
  · exact lawDot_core false [] [] (askV r0.length r1.length r0 r1) A0 ca0 r0 A1 ca1 r1 w (by decide) (by decide) (fun a0 c0 a1 c1 W h0 h1 => specDot_code a0 _ c0 r0 a1 _ c1 r1 _ _ W h0 h1 hsm0 hsm1 (by omega) (by omega) _ rfl ha) (fun a0 c0 a1 c1 W h0 h1 => implDot_code a0 _ c0 r0 a1 _ c1 r1 _ _ W h0 h1 hsm0 hsm1 (by omega) (by omega) _ rfl ha) hr0 hs0 hr1 hs1 hsz


theorem own_fnExactDot : ownKnob Try.prog.godebug = none := by kernel_rfl
theorem laidOut_fnExactDot : laidOutB Try.prog = true := by kernel_rfl
set_option maxRecDepth 100000 in
set_option linter.unusedVariables false in
theorem fnExactDot_lifted (os : Os) (started : os.Started) (H : Type) (enc : TypeId × Value → H) :
    ReturnsInHanded {} Try.checked os 7 .any (Rows.fnExactDotSpec.pre6 enc Try.prog Try.f7 Rows.fnExactDotRow.domain false) (Rows.fnExactDotSpec.post enc Try.prog Try.f7 false true false false) := by
  refine returnsInHanded_of_change (C := Try.checked) own_fnExactDot started (by kernel_rfl) Try.func7
    (ChangeSpec.witness6 (enc := enc) (C := Try.checked) false ⟨#[], #[.slice none 0 0, .slice none 0 0], []⟩ 8 (by kernel_rfl) (by kernel_rfl) (by kernel_rfl) (by kernel_rfl)) ?_
  intro W base args ds gs before hval0 hW hcnd _
  have hval : ∀ (j : Nat) t v, Try.f7.params[j]? = some t → args[j]? = some v → Value.okWide Try.prog W .any base t v := hval0
  have hW' := hW
  obtain ⟨p, q, hA0, hV, rfl, hfz, hnd⟩ := hW
  have hA : DataW.TrodAll enc Try.prog W 0 (fun _ => true) true Try.f7.params.toList args.toList ds p := hA0
  rw [Try.params7] at hA hval
  obtain ⟨v0, vs0, d0, ds0, p0, q0, hargs, rfl, rfl, h0, r0⟩ := trodAll_cons hA
  obtain ⟨v1, vs1, d1, ds1, p1, q1, rfl, rfl, rfl, h1, r1⟩ := trodAll_cons r0
  obtain ⟨rfl, rfl, rfl⟩ := trodAll_nil r1
  obtain rfl : args = #[v0, v1] := by cases args; simp_all
  obtain ⟨rfl, rfl⟩ := trodVars_none hV
  obtain ⟨a0, len0, cap0, rfl⟩ := okWide_slice Try.underlying29 (hval 0 29 v0 rfl rfl)
  have k0 := h0
  have lt0 : ∀ x ∈ p0, x.block < W.heap.size := by obtain ⟨m, hm⟩ := k0; exact DataW.trod_lt m _ _ _ hm
  obtain ⟨z0, w0, u0, l0⟩ : ∃ rs, RdS W (· < W.heap.size) a0 len0 cap0 rs ∧ Short rs ∧ len0 ≤ 9223372036854775807 := by
    obtain ⟨fuel, hf⟩ := h0
    exact open_rats Try.underlying29 Try.underlying39 (by kernel_rfl) (by kernel_rfl) Try.underlying4 Try.underlying37 Try.underlying37 Try.underlying3 (by kernel_rfl) hf
  obtain ⟨a1, len1, cap1, rfl⟩ := okWide_slice Try.underlying29 (hval 1 29 v1 rfl rfl)
  have k1 := h1
  have lt1 : ∀ x ∈ p1, x.block < W.heap.size := by obtain ⟨m, hm⟩ := k1; exact DataW.trod_lt m _ _ _ hm
  obtain ⟨z1, w1, u1, l1⟩ : ∃ rs, RdS W (· < W.heap.size) a1 len1 cap1 rs ∧ Short rs ∧ len1 ≤ 9223372036854775807 := by
    obtain ⟨fuel, hf⟩ := h1
    exact open_rats Try.underlying29 Try.underlying39 (by kernel_rfl) (by kernel_rfl) Try.underlying4 Try.underlying37 Try.underlying37 Try.underlying3 (by kernel_rfl) hf
  clear hA0 hval0
  refine (lawDot_any a0 len0 cap0 z0 a1 len1 cap1 z1 W w0 u0 l0 w1 u1 l1).mono fun e W' ⟨he, bel⟩ => ?_
  subst he
  exact ⟨_, rfl, _, _, _, [], _, [], hW', trodAll_mk1 (shut_bool Try.underlying4 _), (trodAll_cons_mk (Below.trod laidOut_fnExactDot (by kernel_rfl) (of_decide_eq_true (by kernel_rfl)) k0 bel lt0) (trodAll_cons_mk (Below.trod laidOut_fnExactDot (by kernel_rfl) (of_decide_eq_true (by kernel_rfl)) k1 bel lt1) trodAll_mk0)), rfl, bel.frame _, fun h => by cases h⟩

theorem fnExactDot_over : Rows.fnExactDotRow.holds Try.pinned (OpenSpec.ofChange Rows.fnExactDotSpec) :=
  OpenClaim.holds_of_wide 7 Try.f7 rfl rfl rfl rfl rfl rfl rfl ⟨rfl, rfl, rfl, rfl, rfl⟩ rfl rfl rfl rfl rfl (by kernel_rfl) Try.func7 (by kernel_rfl)
    (of_decide_eq_true (by kernel_rfl)) (by unfold Func.isWrapper; first | (rw [if_pos (by decide +kernel)]; kernel_rfl) | (rw [if_neg (by decide +kernel)]; exact ⟨rfl, rfl⟩))
    (fun os started H enc _ => fnExactDot_lifted os started H enc)

theorem fnExactDot_holds : Rows.FnExactDotSaid := fnExactDot_over

end Go.Proofs.Ytbheljjcchaglaa
