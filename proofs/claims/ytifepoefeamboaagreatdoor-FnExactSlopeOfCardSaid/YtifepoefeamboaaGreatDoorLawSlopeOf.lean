/-
  The law FnExactSlopeOf: whatever the arguments, SlopeOf answers as its model, writes into no argument, and what it answers is memory of its own. No condition.
-/
import Derived.Test.YtifepoefeamboaaGreatDoorImplSlopeOf
import Derived.Test.YtifepoefeamboaaGreatDoorSpecSlopeOf
import Derived.Test.YtifepoefeamboaaGreatDoorNodeMark
import Derived.Test.YtifepoefeamboaaGreatDoorTapeCopy
import Derived.Test.YtifepoefeamboaaGreatDoorGrpH
import Derived.ProofKit
import Derived.OpenShut
import Derived.ShutString
import Derived.ChangeOld
import Derived.Lib.SmallJoins
import Derived.Deep.RegionHeld3
namespace Nt
open Go Go.RowKit
theorem OwnV.farX {tr ti : TypeId} {w w' : World} {base n c : Nat} {V : Option Addr} {L : List EV} (h : OwnV tr ti w base V n c L) (hk : ∀ b, base ≤ b → b < w.heap.size → w'.heap[b]? = w.heap[b]?) : OwnV tr ti w' base V n c L := by
  refine ⟨?_, fun i hi => ?_, h.2.2⟩
  · rcases h.1 with ⟨h1, h2 | ⟨g, cap, cur, e', hb, hh, h3⟩⟩
    · exact ⟨h1, .inl h2⟩
    · have hlt : g < w.heap.size := by
        rcases Nat.lt_or_ge g w.heap.size with hlt | hge
        · exact hlt
        · rw [Array.getElem?_eq_none hge] at hh; cases hh
      exact ⟨h1, .inr ⟨g, cap, cur, e', hb, (hk g hb hlt).trans hh, h3⟩⟩
  · have ho := h.2.1 i hi
    exact ⟨own_at_block ho.1 fun g hg => hk g (own_block ho.1 hg).1 (own_block ho.1 hg).2, own_at_block ho.2.1 fun g hg => hk g (own_block ho.2.1 hg).1 (own_block ho.2.1 hg).2, ho.2.2⟩
theorem tot_ratsX : ∀ (ps : List Rat), (∀ p ∈ ps, fitQ p) → tot (ps.map rat3) ≤ 80 * ps.length
  | [], _ => Nat.le_refl _
  | p :: ps, h => by
    have ih := tot_ratsX ps fun q hq => h q (List.mem_cons_of_mem _ hq)
    have hp : (D (nu p)).length ≤ 40 ∧ (D p.den).length ≤ 40 := h p List.mem_cons_self
    rw [List.map_cons, tot_cons, List.length_cons]
    show (D (nu p)).length + (D p.den).length + _ ≤ _
    omega
theorem OwnR.farX {ti : TypeId} {w w' : World} {base : Nat} {xs ys : List Int} {A B : Option Addr} {ca cb : Nat} (h : OwnR ti w base xs ys A ca B cb) (hk : ∀ b, base ≤ b → b < w.heap.size → w'.heap[b]? = w.heap[b]?) : OwnR ti w' base xs ys A ca B cb :=
  ⟨own_at_block h.1 fun g hg => hk g (own_block h.1 hg).1 (own_block h.1 hg).2, own_at_block h.2.1 fun g hg => hk g (own_block h.2.1 hg).1 (own_block h.2.1 hg).2, h.2.2⟩
theorem OwnR.farB {ti : TypeId} {w w' : World} {base N : Nat} {xs ys : List Int} {A B : Option Addr} {ca cb : Nat} (h : OwnR ti w base xs ys A ca B cb) (hl : ∀ g, A = some ⟨g, 0, none⟩ ∨ B = some ⟨g, 0, none⟩ → g < N) (hb : Below N w w') : OwnR ti w' base xs ys A ca B cb :=
  ⟨own_at_block h.1 fun g hg => hb.block g (hl g (.inl hg)), own_at_block h.2.1 fun g hg => hb.block g (hl g (.inr hg)), h.2.2⟩
theorem RatAt.underX {w w' : World} {b N : Nat} {t : TypeId} {neg : Bool} {A B : Option Addr} {la ca lb cb : Nat} (h : RatAt w b t neg A la ca B lb cb) (hb : b < N) (hw : Below N w w') : RatAt w' b t neg A la ca B lb cb := (hw.block b hb).trans h
theorem TpAt.under {w w' : World} {b N n c : Nat} {t : TypeId} {A : Option Addr} {o : Int} (h : TpAt w b t A n c o) (hb : b < N) (hw : Below N w w') : TpAt w' b t A n c o := (hw.block b hb).trans h
theorem SlAt.under {w w' : World} {b N n c : Nat} {t : TypeId} {A : Option Addr} (h : SlAt w b t A n c) (hb : b < N) (hw : Below N w w') : SlAt w' b t A n c := (hw.block b hb).trans h
end Nt
namespace Go.Proofs.YtifepoefeamboaaGreatDoor
open Go Go.RowKit Nt
open Go.ChangeShapes Go.WideShapes Go.ChangeAt
open Go.ChangeMaps (open_string shut_string)

set_option linter.unusedSimpArgs false in
set_option maxRecDepth 20000 in
set_option maxHeartbeats 12800000 in
theorem lawSlopeOf_core (N : Bool) (X Y : List Int) (N2 : Bool) (X2 Y2 : List Int) (code : Int) (ns0 : List Nd) (A0 : Option Addr) (l0 ca0 : Nat) (A1 : Option Addr) (ca1 : Nat) (r1 : List R3) (A2 : Option Addr) (ca2 : Nat) (r2 : List R3) (w : World) (hX : X.length ≤ 1000) (hY : Y.length ≤ 1000) (hX2 : X2.length ≤ 1000) (hY2 : Y2.length ≤ 1000)
    (hS : ∀ (a0 : Option Addr) (c0 : Nat) (a1 : Option Addr) (c1 : Nat) (a2 : Option Addr) (c2 : Nat) (W : World), RdN W (fun _ => True) a0 l0 c0 ns0 → RdS W (fun _ => True) a1 r1.length c1 r1 → RdS W (fun _ => True) a2 r2.length c2 r2 → Calls Tryz.prog 30 #[.agg #[.slice a0 l0 c0], .slice a1 r1.length c1, .slice a2 r2.length c2] W (SayRRC W N X Y N2 X2 Y2 code))
    (hI : ∀ (a0 : Option Addr) (c0 : Nat) (a1 : Option Addr) (c1 : Nat) (a2 : Option Addr) (c2 : Nat) (W : World), Below w.heap.size w W → RdN W (fun _ => True) a0 l0 c0 ns0 → RdS W (fun _ => True) a1 r1.length c1 r1 → RdS W (fun _ => True) a2 r2.length c2 r2 → Calls Tryz.prog 13 #[.agg #[.slice a0 l0 c0], .slice a1 r1.length c1, .slice a2 r2.length c2] W (RetRRC 3 W N X Y N2 X2 Y2 code))
    (hr0 : RdN w (· < w.heap.size) A0 l0 ca0 ns0) (hr1 : RdS w (· < w.heap.size) A1 r1.length ca1 r1) (hs1 : Short r1) (hr2 : RdS w (· < w.heap.size) A2 r2.length ca2 r2) (hs2 : Short r2) (hsz : l0 + (r1.length + tot r1) + (r2.length + tot r2) ≤ 1048576) :
    Calls Tryz.prog 5 #[.agg #[.slice A0 l0 ca0], .slice A1 r1.length ca1, .slice A2 r2.length ca2] w fun e w' => e = .returned (.bool true) ∧ Below w.heap.size w w' := by
  have HS := Lib.hid hS
  have HI := Lib.hid hI
  clear hS hI
  have HNk := Lib.hid hr0
  clear hr0
  have hc0 : l0 ≤ 1048576 := by omega
  have HRk1 := Lib.hid hr1
  have HSk1 := Lib.hid hs1
  have HMk1 := Lib.hid (small_tot (rs := r1) (by omega))
  clear hr1 hs1
  have HRk2 := Lib.hid hr2
  have HSk2 := Lib.hid hs2
  have HMk2 := Lib.hid (small_tot (rs := r2) (by omega))
  clear hr2 hs2
  have hcc : (code != code) = false := by simp
  go_enter Tryz.func5, Tryz.ntmps5
  go_wp2_with fail
  refine calls_at (fun V => (Below w.heap.size w V) ∧ (SlAt V w.heap.size 45 A0 l0 ca0)) ⟨below1 _ _, SlAt.new _ _ _ _ _⟩ ?_
  rintro v1 ⟨pB, pR⟩
  have HBv1 := Lib.hid pB
  have HR0v1 := Lib.hid pR
  clear pB pR
  have sv1 : w.heap.size ≤ v1.heap.size := HBv1.out.size
  have hRlt : w.heap.size < v1.heap.size := HR0v1.out.lt
  refine (szExpr_any A0 l0 ca0 1048576 v1 (by omega) (by omega) (by omega)).mono ?_
  rintro e v2 ⟨rfl, bb⟩
  have sv2 : v1.heap.size ≤ v2.heap.size := bb.size
  have HBv2 := Lib.hid (below_on HBv1.out bb)
  have HR0v2 := Lib.hid (HR0v1.out.on bb)
  clear bb HBv1 HR0v1
  rw [show szN 1048576 l0 = 1048576 - (l0 : Int) from if_neg (by omega)]
  have hle0 : 0 ≤ 1048576 - (l0 : Int) := by omega
  go_wp2_with fail
  refine (szRatS_any A1 _ ca1 r1 (1048576 - (l0 : Int)) v2 ((HRk1.out.below HBv2.out).mono (Q := (· < v2.heap.size)) fun _ h _ => Nat.lt_of_lt_of_le h HBv2.out.size) HSk1.out (by omega) (by omega) (by omega)).mono ?_
  rintro e v3 ⟨rfl, bb⟩
  have sv3 : v2.heap.size ≤ v3.heap.size := bb.size
  have HBv3 := Lib.hid (below_on HBv2.out bb)
  have HR0v3 := Lib.hid (HR0v2.out.on bb)
  clear bb HBv2 HR0v2
  rw [szS_fit (by omega)]
  have hle1 : 0 ≤ 1048576 - (l0 : Int) - (r1.length : Int) - (tot r1 : Int) := by omega
  go_wp2_with fail
  refine (szRatS_any A2 _ ca2 r2 (1048576 - (l0 : Int) - (r1.length : Int) - (tot r1 : Int)) v3 ((HRk2.out.below HBv3.out).mono (Q := (· < v3.heap.size)) fun _ h _ => Nat.lt_of_lt_of_le h HBv3.out.size) HSk2.out (by omega) (by omega) (by omega)).mono ?_
  rintro e v4 ⟨rfl, bb⟩
  have sv4 : v3.heap.size ≤ v4.heap.size := bb.size
  have HBv4 := Lib.hid (below_on HBv3.out bb)
  have HR0v4 := Lib.hid (HR0v3.out.on bb)
  clear bb HBv3 HR0v3
  rw [szS_fit (by omega)]
  have hle2 : 0 ≤ 1048576 - (l0 : Int) - (r1.length : Int) - (tot r1 : Int) - (r2.length : Int) - (tot r2 : Int) := by omega
  have qR00 := HR0v4.out.c0
  go_wp2_with fail
  clear qR00
  refine (toExpr_any A0 l0 ca0 ns0 v4 ((HNk.out.below HBv4.out).mono (Q := (· < v4.heap.size)) fun _ h _ => Nat.lt_of_lt_of_le h HBv4.out.size) hc0).mono ?_
  rintro e v5 ⟨sA0, sc0, rfl, oo, bb⟩
  have sv5 : v4.heap.size ≤ v5.heap.size := bb.size
  have HBv5 := Lib.hid (below_on HBv4.out bb)
  have HR0v5 := Lib.hid (HR0v4.out.on bb)
  have Hs0v5 := Lib.hid oo.all
  clear oo
  clear bb HBv4 HR0v4
  go_wp2_with fail
  refine (toRatS_any A1 _ ca1 r1 v5 ((HRk1.out.below HBv5.out).mono (Q := (· < v5.heap.size)) fun _ h _ => Nat.lt_of_lt_of_le h HBv5.out.size) HMk1.out (by omega)).mono ?_
  rintro e v6 ⟨sA1, sc1, rfl, oo, bb⟩
  have sv6 : v5.heap.size ≤ v6.heap.size := bb.size
  have HBv6 := Lib.hid (below_on HBv5.out bb)
  have HR0v6 := Lib.hid (HR0v5.out.on bb)
  have Hs0v6 := Lib.hid (Hs0v5.out.on bb)
  have Hs1v6 := Lib.hid oo.all
  clear oo
  clear bb HBv5 HR0v5 Hs0v5
  go_wp2_with fail
  refine (toRatS_any A2 _ ca2 r2 v6 ((HRk2.out.below HBv6.out).mono (Q := (· < v6.heap.size)) fun _ h _ => Nat.lt_of_lt_of_le h HBv6.out.size) HMk2.out (by omega)).mono ?_
  rintro e v7 ⟨sA2, sc2, rfl, oo, bb⟩
  have sv7 : v6.heap.size ≤ v7.heap.size := bb.size
  have HBv7 := Lib.hid (below_on HBv6.out bb)
  have HR0v7 := Lib.hid (HR0v6.out.on bb)
  have Hs0v7 := Lib.hid (Hs0v6.out.on bb)
  have Hs1v7 := Lib.hid (Hs1v6.out.on bb)
  have Hs2v7 := Lib.hid oo.all
  clear oo
  clear bb HBv6 HR0v6 Hs0v6 Hs1v6
  go_wp2_with fail
  refine (HS.out sA0 sc0 sA1 sc1 sA2 sc2 v7 Hs0v7.out Hs1v7.out Hs2v7.out).mono ?_
  rintro e v8 ⟨wA, wc, wB, wd, vA, vc, vB, vd, rfl, oo, o2, bb⟩
  have sv8 : v7.heap.size ≤ v8.heap.size := bb.size
  have HBv8 := Lib.hid (below_on HBv7.out bb)
  have HR0v8 := Lib.hid (HR0v7.out.on bb)
  have Hs0v8 := Lib.hid (Hs0v7.out.on bb)
  have Hs1v8 := Lib.hid (Hs1v7.out.on bb)
  have Hs2v8 := Lib.hid (Hs2v7.out.on bb)
  have HWv8 := Lib.hid (oo.mono (Q := (· < v8.heap.size)) fun _ _ h => h)
  have HVv8 := Lib.hid (o2.mono (Q := (· < v8.heap.size)) fun _ _ h => h)
  clear oo o2
  clear bb HBv7 HR0v7 Hs0v7 Hs1v7 Hs2v7
  clear Hs0v8
  clear Hs1v8
  clear Hs2v8
  have hswR : w.heap.size < v8.heap.size := by omega
  have qR00 := HR0v8.out.c0
  go_wp2_with fail
  clear qR00
  refine calls_at (fun V => (v8.heap.size + 1 < V.heap.size) ∧ (Below w.heap.size w V) ∧ (SlAt V w.heap.size 45 A0 l0 ca0) ∧ (RdR V (· < v8.heap.size) X Y wA wc wB wd) ∧ (RdR V (· < v8.heap.size) X2 Y2 vA vc vB vd) ∧ (RatAt V v8.heap.size 31 N wA X.length wc wB Y.length wd) ∧ (RatAt V (v8.heap.size + 1) 31 N2 vA X2.length vc vB Y2.length vd))
    ⟨by simp, below_on HBv8.out (below2 _ _ _), HR0v8.out.on (below2 _ _ _), HWv8.out.on (below2 _ _ _), HVv8.out.on (below2 _ _ _), (RatAt.new _ _ _ _ _ _ _ _ _).alloc _, RatAt.new1 _ _ _ _ _ _ _ _ _ _⟩ ?_
  rintro v9 ⟨sv9, pB, pR0, pW, pV, pwb, pvb⟩
  have HBv9 := Lib.hid pB
  have HR0v9 := Lib.hid pR0
  have HWv9 := Lib.hid pW
  have HVv9 := Lib.hid pV
  have Hwbv9 := Lib.hid pwb
  have Hvbv9 := Lib.hid pvb
  clear pB pR0 pW pV pwb pvb HBv8 HR0v8 HWv8 HVv8
  refine (toExpr_own A0 l0 ca0 ns0 v9 ((HNk.out.below HBv9.out).mono (Q := (· < v9.heap.size)) fun _ h _ => Nat.lt_of_lt_of_le h HBv9.out.size) hc0).mono ?_
  rintro e v10 ⟨xA0, xc0, rfl, oo, bb⟩
  have sv10 : v9.heap.size ≤ v10.heap.size := bb.size
  have HBv10 := Lib.hid (below_on HBv9.out bb)
  have HR0v10 := Lib.hid (HR0v9.out.on bb)
  have HWv10 := Lib.hid (HWv9.out.on bb)
  have HVv10 := Lib.hid (HVv9.out.on bb)
  have Hwbv10 := Lib.hid (Hwbv9.out.on bb)
  have Hvbv10 := Lib.hid (Hvbv9.out.on bb)
  have Hx0v10 := Lib.hid oo
  clear oo
  clear bb HBv9 HR0v9 HWv9 HVv9 Hwbv9 Hvbv9
  have HROW0 := Lib.hid Hx0v10.out.row
  go_wp2_with fail
  refine calls_at (fun V => (v10.heap.size < V.heap.size) ∧ (Below w.heap.size w V) ∧ (SlAt V w.heap.size 45 A0 l0 ca0) ∧ (RdR V (· < v8.heap.size) X Y wA wc wB wd) ∧ (RdR V (· < v8.heap.size) X2 Y2 vA vc vB vd) ∧ (RatAt V v8.heap.size 31 N wA X.length wc wB Y.length wd) ∧ (RatAt V (v8.heap.size + 1) 31 N2 vA X2.length vc vB Y2.length vd) ∧ (MineN V v9.heap.size 114 xA0 l0 xc0 ns0) ∧ (SlAt V v10.heap.size 25 xA0 l0 xc0))
    ⟨by simp, below_on HBv10.out (below1 _ _), HR0v10.out.on (below1 _ _), HWv10.out.on (below1 _ _), HVv10.out.on (below1 _ _), Hwbv10.out.on (below1 _ _), Hvbv10.out.on (below1 _ _), Hx0v10.out.on (below1 _ _), SlAt.new _ _ _ _ _⟩ ?_
  rintro v11 ⟨sv11, pB, pR0, pW, pV, pwb, pvb, px0, pxb0⟩
  have HBv11 := Lib.hid pB
  have HR0v11 := Lib.hid pR0
  have HWv11 := Lib.hid pW
  have HVv11 := Lib.hid pV
  have Hwbv11 := Lib.hid pwb
  have Hvbv11 := Lib.hid pvb
  have Hx0v11 := Lib.hid px0
  have Hxb0v11 := Lib.hid pxb0
  clear pB pR0 pW pV pwb pvb px0 pxb0 HBv10 HR0v10 HWv10 HVv10 Hwbv10 Hvbv10 Hx0v10
  refine (toRatS_own A1 _ ca1 r1 v11 ((HRk1.out.below HBv11.out).mono (Q := (· < v11.heap.size)) fun _ h _ => Nat.lt_of_lt_of_le h HBv11.out.size) HMk1.out (by omega)).mono ?_
  rintro e v12 ⟨xA1, xc1, xL1, rfl, oo, ev, bb⟩
  have sv12 : v11.heap.size ≤ v12.heap.size := bb.size
  have HBv12 := Lib.hid (below_on HBv11.out bb)
  have HR0v12 := Lib.hid (HR0v11.out.on bb)
  have HWv12 := Lib.hid (HWv11.out.on bb)
  have HVv12 := Lib.hid (HVv11.out.on bb)
  have Hwbv12 := Lib.hid (Hwbv11.out.on bb)
  have Hvbv12 := Lib.hid (Hvbv11.out.on bb)
  have Hx0v12 := Lib.hid (Hx0v11.out.on bb)
  have Hxb0v12 := Lib.hid (Hxb0v11.out.on bb)
  have Hx1v12 := Lib.hid oo
  have HEx1 := Lib.hid ev
  clear oo ev
  clear bb HBv11 HR0v11 HWv11 HVv11 Hwbv11 Hvbv11 Hx0v11 Hxb0v11
  go_wp2_with fail
  have HLY1 := Lib.hid Hx1v12.out.lt
  refine (toRatS_own A2 _ ca2 r2 v12 ((HRk2.out.below HBv12.out).mono (Q := (· < v12.heap.size)) fun _ h _ => Nat.lt_of_lt_of_le h HBv12.out.size) HMk2.out (by omega)).mono ?_
  rintro e v13 ⟨xA2, xc2, xL2, rfl, oo, ev, bb⟩
  have sv13 : v12.heap.size ≤ v13.heap.size := bb.size
  have HBv13 := Lib.hid (below_on HBv12.out bb)
  have HR0v13 := Lib.hid (HR0v12.out.on bb)
  have HWv13 := Lib.hid (HWv12.out.on bb)
  have HVv13 := Lib.hid (HVv12.out.on bb)
  have Hwbv13 := Lib.hid (Hwbv12.out.on bb)
  have Hvbv13 := Lib.hid (Hvbv12.out.on bb)
  have Hx0v13 := Lib.hid (Hx0v12.out.on bb)
  have Hxb0v13 := Lib.hid (Hxb0v12.out.on bb)
  have Hx1v13 := Lib.hid (Hx1v12.out.on bb)
  have Hx2v13 := Lib.hid oo
  have HEx2 := Lib.hid ev
  clear oo ev
  clear bb HBv12 HR0v12 HWv12 HVv12 Hwbv12 Hvbv12 Hx0v12 Hxb0v12 Hx1v12
  have qxb00 := Hxb0v13.out.c0
  go_wp2_with fail
  clear qxb00
  have HLX1 := Lib.hid Hx1v13.out.lt
  have HLX2 := Lib.hid Hx2v13.out.lt
  refine (HI.out xA0 xc0 xA1 xc1 xA2 xc2 v13 HBv13.out Hx0v13.out.1.all (by have h := Hx1v13.out.rd.all; rw [HEx1.out] at h; exact h) (by have h := Hx2v13.out.rd.all; rw [HEx2.out] at h; exact h)).mono ?_
  rintro e v14 ⟨gA, gc, gB, gd, uA, uc, uB, ud, gM, rfl, oo, o2, ⟨hM1, hM3, hM2⟩, bb⟩
  have sv14 : v13.heap.size ≤ v14.heap.size := bb.size
  have HBv14 := Lib.hid (below_on HBv13.out bb)
  have HR0v14 := Lib.hid (HR0v13.out.on bb)
  have HWv14 := Lib.hid (HWv13.out.on bb)
  have HVv14 := Lib.hid (HVv13.out.on bb)
  have Hwbv14 := Lib.hid (Hwbv13.out.on bb)
  have Hvbv14 := Lib.hid (Hvbv13.out.on bb)
  have Hx0v14 := Lib.hid (Hx0v13.out.on bb)
  have Hxb0v14 := Lib.hid (Hxb0v13.out.on bb)
  have Hx1v14 := Lib.hid (Hx1v13.out.on bb)
  have Hx2v14 := Lib.hid (Hx2v13.out.on bb)
  have HGv14 := Lib.hid oo
  have HUv14 := Lib.hid o2
  have HM2 := Lib.hid hM2
  clear oo o2 hM2
  clear bb HBv13 HR0v13 HWv13 HVv13 Hwbv13 Hvbv13 Hx0v13 Hxb0v13 Hx1v13 Hx2v13
  have hsw : v8.heap.size + 1 < v14.heap.size := by omega
  have hsw3 : v8.heap.size < v14.heap.size := by omega
  have hsw4 : v8.heap.size < v14.heap.size + 1 := by omega
  have qwb0 := Hwbv14.out.c0
  have qwb1 := Hwbv14.out.c1
  have qwb2 := Hwbv14.out.c2
  have qvb0 := Hvbv14.out.c0
  have qvb1 := Hvbv14.out.c1
  have qvb2 := Hvbv14.out.c2
  go_wp2_with fail
  clear qwb0 qwb1 qwb2 qvb0 qvb1 qvb2
  refine calls_at (fun V => (v14.heap.size + 1 < V.heap.size) ∧ (Below w.heap.size w V) ∧ (SlAt V w.heap.size 45 A0 l0 ca0) ∧ (RdR V (· < v8.heap.size) X Y wA wc wB wd) ∧ (RdR V (· < v8.heap.size) X2 Y2 vA vc vB vd) ∧ (RatAt V v8.heap.size 31 N wA X.length wc wB Y.length wd) ∧ (RatAt V (v8.heap.size + 1) 31 N2 vA X2.length vc vB Y2.length vd) ∧ (MineN V v9.heap.size 114 xA0 l0 xc0 ns0) ∧ (SlAt V v10.heap.size 25 xA0 l0 xc0) ∧ (OwnV 31 3 V v11.heap.size xA1 r1.length xc1 xL1) ∧ (OwnV 31 3 V v12.heap.size xA2 r2.length xc2 xL2) ∧ (OwnR 3 V v13.heap.size X Y gA gc gB gd) ∧ (OwnR 3 V gM X2 Y2 uA uc uB ud) ∧ (RatAt V v14.heap.size 31 N gA X.length gc gB Y.length gd) ∧ (RatAt V (v14.heap.size + 1) 31 N2 uA X2.length uc uB Y2.length ud))
    ⟨by simp, below_on HBv14.out (below2 _ _ _), HR0v14.out.on (below2 _ _ _), HWv14.out.on (below2 _ _ _), HVv14.out.on (below2 _ _ _), Hwbv14.out.on (below2 _ _ _), Hvbv14.out.on (below2 _ _ _), Hx0v14.out.on (below2 _ _ _), Hxb0v14.out.on (below2 _ _ _), Hx1v14.out.on (below2 _ _ _), Hx2v14.out.on (below2 _ _ _), HGv14.out.on (below2 _ _ _), HUv14.out.on (below2 _ _ _), (RatAt.new _ _ _ _ _ _ _ _ _).alloc _, RatAt.new1 _ _ _ _ _ _ _ _ _ _⟩ ?_
  rintro v15 ⟨sv15, pB, pR0, pW, pV, pwb, pvb, px0, pxb0, px1, px2, pG, pU, pgb, pkb⟩
  have HBv15 := Lib.hid pB
  have HR0v15 := Lib.hid pR0
  have HWv15 := Lib.hid pW
  have HVv15 := Lib.hid pV
  have Hwbv15 := Lib.hid pwb
  have Hvbv15 := Lib.hid pvb
  have Hx0v15 := Lib.hid px0
  have Hxb0v15 := Lib.hid pxb0
  have Hx1v15 := Lib.hid px1
  have Hx2v15 := Lib.hid px2
  have HGv15 := Lib.hid pG
  have HUv15 := Lib.hid pU
  have Hgbv15 := Lib.hid pgb
  have Hkbv15 := Lib.hid pkb
  clear pB pR0 pW pV pwb pvb px0 pxb0 px1 px2 pG pU pgb pkb HBv14 HR0v14 HWv14 HVv14 Hwbv14 Hvbv14 Hx0v14 Hxb0v14 Hx1v14 Hx2v14 HGv14 HUv14
  refine (eqRat_same N gA gB wA wB gc gd wc wd X Y _ _ v15 HGv15.out.rdt HWv15.out (by omega) (by omega)).mono ?_
  rintro e v16 ⟨rfl, bb⟩
  have sv16 : v15.heap.size ≤ v16.heap.size := bb.size
  have HBv16 := Lib.hid (below_on HBv15.out bb)
  have HR0v16 := Lib.hid (HR0v15.out.on bb)
  have HWv16 := Lib.hid (HWv15.out.on bb)
  have HVv16 := Lib.hid (HVv15.out.on bb)
  have Hwbv16 := Lib.hid (Hwbv15.out.on bb)
  have Hvbv16 := Lib.hid (Hvbv15.out.on bb)
  have Hx0v16 := Lib.hid (Hx0v15.out.on bb)
  have Hxb0v16 := Lib.hid (Hxb0v15.out.on bb)
  have Hx1v16 := Lib.hid (Hx1v15.out.on bb)
  have Hx2v16 := Lib.hid (Hx2v15.out.on bb)
  have HGv16 := Lib.hid (HGv15.out.on bb)
  have HUv16 := Lib.hid (HUv15.out.on bb)
  have Hgbv16 := Lib.hid (Hgbv15.out.on bb)
  have Hkbv16 := Lib.hid (Hkbv15.out.on bb)
  clear bb HBv15 HR0v15 HWv15 HVv15 Hwbv15 Hvbv15 Hx0v15 Hxb0v15 Hx1v15 Hx2v15 HGv15 HUv15 Hgbv15 Hkbv15
  have qvb0 := Hvbv16.out.c0
  have qvb1 := Hvbv16.out.c1
  have qvb2 := Hvbv16.out.c2
  have qkb0 := Hkbv16.out.c0
  have qkb1 := Hkbv16.out.c1
  have qkb2 := Hkbv16.out.c2
  go_wp2_with fail
  clear qvb0 qvb1 qvb2 qkb0 qkb1 qkb2
  refine (eqRat_same N2 uA uB vA vB uc ud vc vd X2 Y2 _ _ v16 HUv16.out.rdt HVv16.out (by omega) (by omega)).mono ?_
  rintro e v17 ⟨rfl, bb⟩
  have sv17 : v16.heap.size ≤ v17.heap.size := bb.size
  have HBv17 := Lib.hid (below_on HBv16.out bb)
  have HR0v17 := Lib.hid (HR0v16.out.on bb)
  have HWv17 := Lib.hid (HWv16.out.on bb)
  have HVv17 := Lib.hid (HVv16.out.on bb)
  have Hwbv17 := Lib.hid (Hwbv16.out.on bb)
  have Hvbv17 := Lib.hid (Hvbv16.out.on bb)
  have Hx0v17 := Lib.hid (Hx0v16.out.on bb)
  have Hxb0v17 := Lib.hid (Hxb0v16.out.on bb)
  have Hx1v17 := Lib.hid (Hx1v16.out.on bb)
  have Hx2v17 := Lib.hid (Hx2v16.out.on bb)
  have HGv17 := Lib.hid (HGv16.out.on bb)
  have HUv17 := Lib.hid (HUv16.out.on bb)
  have Hgbv17 := Lib.hid (Hgbv16.out.on bb)
  have Hkbv17 := Lib.hid (Hkbv16.out.on bb)
  clear bb HBv16 HR0v16 HWv16 HVv16 Hwbv16 Hvbv16 Hx0v16 Hxb0v16 Hx1v16 Hx2v16 HGv16 HUv16 Hgbv16 Hkbv16
  go_wp2_with fail
  go_region_held3 (fun wx => wx.cell? ⟨v10.heap.size, 0, none⟩ = some (.slice xA0 l0 xc0) ∧ wx.cell? ⟨w.heap.size, 0, none⟩ = some (.slice A0 l0 ca0))
    (first | with_reducible exact ⟨Hxb0v17.out.c0, HR0v17.out.c0⟩ | with_reducible exact ⟨Hxb0v18.out.c0, HR0v18.out.c0⟩ | with_reducible exact ⟨Hxb0v19.out.c0, HR0v19.out.c0⟩ | exact ⟨Hxb0v17.out.c0, HR0v17.out.c0⟩ | exact ⟨Hxb0v18.out.c0, HR0v18.out.c0⟩ | exact ⟨Hxb0v19.out.c0, HR0v19.out.c0⟩)
    (first
      | (go_at_call 21; refine (toExpr_any A0 l0 ca0 ns0 _ (by exact ((HNk.out.below HBv17.out).mono (Q := (· < v17.heap.size)) fun _ h _ => Nat.lt_of_lt_of_le h HBv17.out.size).drew) hc0).mono ?_; rintro e v18 ⟨zA0, zc0, rfl, oo, bb⟩; have bb := undrew bb; have sv18 : v17.heap.size ≤ v18.heap.size := bb.size; have HBv18 := Lib.hid (below_on HBv17.out bb); have HR0v18 := Lib.hid (HR0v17.out.on bb); have HWv18 := Lib.hid (HWv17.out.on bb); have HVv18 := Lib.hid (HVv17.out.on bb); have Hwbv18 := Lib.hid (Hwbv17.out.on bb); have Hvbv18 := Lib.hid (Hvbv17.out.on bb); have Hx0v18 := Lib.hid (Hx0v17.out.on bb); have Hxb0v18 := Lib.hid (Hxb0v17.out.on bb); have Hx1v18 := Lib.hid (Hx1v17.out.on bb); have Hx2v18 := Lib.hid (Hx2v17.out.on bb); have HGv18 := Lib.hid (HGv17.out.on bb); have HUv18 := Lib.hid (HUv17.out.on bb); have Hgbv18 := Lib.hid (Hgbv17.out.on bb); have Hkbv18 := Lib.hid (Hkbv17.out.on bb); have HZ0 : Hid (RdN v18 (fun _ => True) zA0 l0 zc0 ns0) := Lib.hid oo.all; clear oo bb)
      | (go_at_call 24; refine (eqExpr_same xA0 zA0 l0 xc0 zc0 ns0 _ _ _ (by exact Hx0v18.out.1) (by exact HZ0.out) hc0).mono ?_; rintro e v19 ⟨rfl, bb⟩; have sv19 : v18.heap.size ≤ v19.heap.size := bb.size; have HBv19 := Lib.hid (below_on HBv18.out bb); have HR0v19 := Lib.hid (HR0v18.out.on bb); have HWv19 := Lib.hid (HWv18.out.on bb); have HVv19 := Lib.hid (HVv18.out.on bb); have Hwbv19 := Lib.hid (Hwbv18.out.on bb); have Hvbv19 := Lib.hid (Hvbv18.out.on bb); have Hx0v19 := Lib.hid (Hx0v18.out.on bb); have Hxb0v19 := Lib.hid (Hxb0v18.out.on bb); have Hx1v19 := Lib.hid (Hx1v18.out.on bb); have Hx2v19 := Lib.hid (Hx2v18.out.on bb); have HGv19 := Lib.hid (HGv18.out.on bb); have HUv19 := Lib.hid (HUv18.out.on bb); have Hgbv19 := Lib.hid (Hgbv18.out.on bb); have Hkbv19 := Lib.hid (Hkbv18.out.on bb); clear bb))
  go_wp2_with fail
  refine (toRatS_any A1 _ ca1 r1 v19 ((HRk1.out.below HBv19.out).mono (Q := (· < v19.heap.size)) fun _ h _ => Nat.lt_of_lt_of_le h HBv19.out.size) HMk1.out (by omega)).mono ?_
  rintro e v20 ⟨zA1, zc1, rfl, oo, bb⟩
  have sv20 : v19.heap.size ≤ v20.heap.size := bb.size
  have HBv20 := Lib.hid (below_on HBv19.out bb)
  have HR0v20 := Lib.hid (HR0v19.out.on bb)
  have HWv20 := Lib.hid (HWv19.out.on bb)
  have HVv20 := Lib.hid (HVv19.out.on bb)
  have Hwbv20 := Lib.hid (Hwbv19.out.on bb)
  have Hvbv20 := Lib.hid (Hvbv19.out.on bb)
  have Hx0v20 := Lib.hid (Hx0v19.out.on bb)
  have Hxb0v20 := Lib.hid (Hxb0v19.out.on bb)
  have Hx1v20 := Lib.hid (Hx1v19.out.on bb)
  have Hx2v20 := Lib.hid (Hx2v19.out.on bb)
  have HGv20 := Lib.hid (HGv19.out.on bb)
  have HUv20 := Lib.hid (HUv19.out.on bb)
  have Hgbv20 := Lib.hid (Hgbv19.out.on bb)
  have Hkbv20 := Lib.hid (Hkbv19.out.on bb)
  have Hz1v20 := Lib.hid oo.all
  clear oo
  clear bb HBv19 HR0v19 HWv19 HVv19 Hwbv19 Hvbv19 Hx0v19 Hxb0v19 Hx1v19 Hx2v19 HGv19 HUv19 Hgbv19 Hkbv19
  go_wp2_with fail
  refine (eqRatS_same xA1 zA1 _ xc1 zc1 r1 _ _ v20 (by have h := Hx1v20.out.rd.all; rw [HEx1.out] at h; exact h) Hz1v20.out HMk1.out (by omega)).mono ?_
  rintro e v21 ⟨rfl, bb⟩
  have sv21 : v20.heap.size ≤ v21.heap.size := bb.size
  have HBv21 := Lib.hid (below_on HBv20.out bb)
  have HR0v21 := Lib.hid (HR0v20.out.on bb)
  have HWv21 := Lib.hid (HWv20.out.on bb)
  have HVv21 := Lib.hid (HVv20.out.on bb)
  have Hwbv21 := Lib.hid (Hwbv20.out.on bb)
  have Hvbv21 := Lib.hid (Hvbv20.out.on bb)
  have Hx0v21 := Lib.hid (Hx0v20.out.on bb)
  have Hxb0v21 := Lib.hid (Hxb0v20.out.on bb)
  have Hx1v21 := Lib.hid (Hx1v20.out.on bb)
  have Hx2v21 := Lib.hid (Hx2v20.out.on bb)
  have HGv21 := Lib.hid (HGv20.out.on bb)
  have HUv21 := Lib.hid (HUv20.out.on bb)
  have Hgbv21 := Lib.hid (Hgbv20.out.on bb)
  have Hkbv21 := Lib.hid (Hkbv20.out.on bb)
  have Hz1v21 := Lib.hid (Hz1v20.out.on bb)
  clear bb HBv20 HR0v20 HWv20 HVv20 Hwbv20 Hvbv20 Hx0v20 Hxb0v20 Hx1v20 Hx2v20 HGv20 HUv20 Hgbv20 Hkbv20 Hz1v20
  clear Hz1v21
  go_wp2_with fail
  refine (toRatS_any A2 _ ca2 r2 v21 ((HRk2.out.below HBv21.out).mono (Q := (· < v21.heap.size)) fun _ h _ => Nat.lt_of_lt_of_le h HBv21.out.size) HMk2.out (by omega)).mono ?_
  rintro e v22 ⟨zA2, zc2, rfl, oo, bb⟩
  have sv22 : v21.heap.size ≤ v22.heap.size := bb.size
  have HBv22 := Lib.hid (below_on HBv21.out bb)
  have HR0v22 := Lib.hid (HR0v21.out.on bb)
  have HWv22 := Lib.hid (HWv21.out.on bb)
  have HVv22 := Lib.hid (HVv21.out.on bb)
  have Hwbv22 := Lib.hid (Hwbv21.out.on bb)
  have Hvbv22 := Lib.hid (Hvbv21.out.on bb)
  have Hx0v22 := Lib.hid (Hx0v21.out.on bb)
  have Hxb0v22 := Lib.hid (Hxb0v21.out.on bb)
  have Hx1v22 := Lib.hid (Hx1v21.out.on bb)
  have Hx2v22 := Lib.hid (Hx2v21.out.on bb)
  have HGv22 := Lib.hid (HGv21.out.on bb)
  have HUv22 := Lib.hid (HUv21.out.on bb)
  have Hgbv22 := Lib.hid (Hgbv21.out.on bb)
  have Hkbv22 := Lib.hid (Hkbv21.out.on bb)
  have Hz2v22 := Lib.hid oo.all
  clear oo
  clear bb HBv21 HR0v21 HWv21 HVv21 Hwbv21 Hvbv21 Hx0v21 Hxb0v21 Hx1v21 Hx2v21 HGv21 HUv21 Hgbv21 Hkbv21
  go_wp2_with fail
  refine (eqRatS_same xA2 zA2 _ xc2 zc2 r2 _ _ v22 (by have h := Hx2v22.out.rd.all; rw [HEx2.out] at h; exact h) Hz2v22.out HMk2.out (by omega)).mono ?_
  rintro e v23 ⟨rfl, bb⟩
  have sv23 : v22.heap.size ≤ v23.heap.size := bb.size
  have HBv23 := Lib.hid (below_on HBv22.out bb)
  have HR0v23 := Lib.hid (HR0v22.out.on bb)
  have HWv23 := Lib.hid (HWv22.out.on bb)
  have HVv23 := Lib.hid (HVv22.out.on bb)
  have Hwbv23 := Lib.hid (Hwbv22.out.on bb)
  have Hvbv23 := Lib.hid (Hvbv22.out.on bb)
  have Hx0v23 := Lib.hid (Hx0v22.out.on bb)
  have Hxb0v23 := Lib.hid (Hxb0v22.out.on bb)
  have Hx1v23 := Lib.hid (Hx1v22.out.on bb)
  have Hx2v23 := Lib.hid (Hx2v22.out.on bb)
  have HGv23 := Lib.hid (HGv22.out.on bb)
  have HUv23 := Lib.hid (HUv22.out.on bb)
  have Hgbv23 := Lib.hid (Hgbv22.out.on bb)
  have Hkbv23 := Lib.hid (Hkbv22.out.on bb)
  have Hz2v23 := Lib.hid (Hz2v22.out.on bb)
  clear bb HBv22 HR0v22 HWv22 HVv22 Hwbv22 Hvbv22 Hx0v22 Hxb0v22 Hx1v22 Hx2v22 HGv22 HUv22 Hgbv22 Hkbv22 Hz2v22
  clear Hz2v23
  have qxb00 := Hxb0v23.out.c0
  go_wp2_with fail
  clear qxb00
  refine (markExpr_any xA0 l0 xc0 ns0 1 v9.heap.size v23 Hx0v23.out hc0 (by omega)).mono ?_
  rintro e v24 ⟨rfl, -, oo⟩
  have bl := mark_below oo HROW0.out (by omega)
  have up : ∀ b, v13.heap.size ≤ b → b < v23.heap.size → v24.heap[b]? = v23.heap[b]? := fun b hN hlt => (mark_keep oo HROW0.out).2 b hlt (.inr (by omega))
  have sv24 : v23.heap.size ≤ v24.heap.size := bl.size
  have HBv24 := Lib.hid (HBv23.out.trans (bl.mono (by omega)))
  have HR0v24 := Lib.hid (HR0v23.out.under (by omega) bl)
  have HWv24 := Lib.hid (HWv23.out.below (bl.mono (by omega)))
  have HVv24 := Lib.hid (HVv23.out.below (bl.mono (by omega)))
  have Hwbv24 := Lib.hid (Hwbv23.out.underX (by omega) bl)
  have Hvbv24 := Lib.hid (Hvbv23.out.underX (by omega) bl)
  have Hx1v24 := Lib.hid (Hx1v23.out.farX fun b hN hlt => (mark_keep oo HROW0.out).2 b hlt (.inr (by omega)))
  have Hx2v24 := Lib.hid (Hx2v23.out.farX fun b hN hlt => (mark_keep oo HROW0.out).2 b hlt (.inr (by omega)))
  have HGv24 := Lib.hid (HGv23.out.farX up)
  have HUv24 := Lib.hid (HUv23.out.farX fun b hN hlt => up b (by omega) hlt)
  have Hgbv24 : Hid (RatAt v24 v14.heap.size 31 N gA X.length gc gB Y.length gd) := ((up _ (by omega) Hgbv23.out.lt).trans Hgbv23.out)
  have Hkbv24 : Hid (RatAt v24 (v14.heap.size + 1) 31 N2 uA X2.length uc uB Y2.length ud) := ((up _ (by omega) Hkbv23.out.lt).trans Hkbv23.out)
  clear bl up oo HBv23 HR0v23 HWv23 HVv23 Hwbv23 Hvbv23 Hx0v23 Hxb0v23 Hx1v23 Hx2v23 HGv23 HUv23 Hgbv23 Hkbv23
  have hkq : 0 ≤ ((1 + 4 * l0 : Nat) : Int) ∧ ((1 + 4 * l0 : Nat) : Int) ≤ 4194305 := by omega
  generalize ((1 + 4 * l0 : Nat) : Int) = kq0 at *
  obtain ⟨hkq1, hkq2⟩ := hkq
  go_wp2_with fail
  obtain ⟨mk1, hmk1⟩ : ∃ m : Nat, (m : Int) = kq0 := ⟨(kq0).toNat, by omega⟩
  rw [← hmk1]
  have HMK1 := Lib.hid hmk1
  have hmb1 : mk1 ≤ 5000000 := by omega
  clear hmk1
  refine (markRatS_any xA1 _ xc1 xL1 mk1 _ v24 Hx1v24.out (by rw [HEx1.out]; omega) (by omega) (by omega)).mono ?_
  rintro e v25 ⟨rfl, oo⟩
  have bl := oo.2.below Hx1v24.out (by omega)
  have up : ∀ b, v13.heap.size ≤ b → b < v24.heap.size → v25.heap[b]? = v24.heap[b]? := oo.2.beyond HLX1.out
  have sv25 : v24.heap.size ≤ v25.heap.size := bl.size
  have HBv25 := Lib.hid (HBv24.out.trans (bl.mono (by omega)))
  have HR0v25 := Lib.hid (HR0v24.out.under (by omega) bl)
  have HWv25 := Lib.hid (HWv24.out.below (bl.mono (by omega)))
  have HVv25 := Lib.hid (HVv24.out.below (bl.mono (by omega)))
  have Hwbv25 := Lib.hid (Hwbv24.out.underX (by omega) bl)
  have Hvbv25 := Lib.hid (Hvbv24.out.underX (by omega) bl)
  have Hx2v25 := Lib.hid (Hx2v24.out.farX (fun b hN hlt => oo.2.beyond HLY1.out b (by omega) hlt))
  have HGv25 := Lib.hid (HGv24.out.farX up)
  have HUv25 := Lib.hid (HUv24.out.farX fun b hN hlt => up b (by omega) hlt)
  have Hgbv25 : Hid (RatAt v25 v14.heap.size 31 N gA X.length gc gB Y.length gd) := ((up _ (by omega) Hgbv24.out.lt).trans Hgbv24.out)
  have Hkbv25 : Hid (RatAt v25 (v14.heap.size + 1) 31 N2 uA X2.length uc uB Y2.length ud) := ((up _ (by omega) Hkbv24.out.lt).trans Hkbv24.out)
  rw [HEx1.out]
  clear bl up oo HBv24 HR0v24 HWv24 HVv24 Hwbv24 Hvbv24 Hx1v24 Hx2v24 HGv24 HUv24 Hgbv24 Hkbv24
  have hmv1 : 0 ≤ (mk1 : Int) + (r1.length : Int) + (tot r1 : Int) := by omega
  go_wp2_with fail
  obtain ⟨mk2, hmk2⟩ : ∃ m : Nat, (m : Int) = (mk1 : Int) + (r1.length : Int) + (tot r1 : Int) := ⟨((mk1 : Int) + (r1.length : Int) + (tot r1 : Int)).toNat, by omega⟩
  rw [← hmk2]
  have HMK2 := Lib.hid hmk2
  have hmb2 : mk2 ≤ 6100000 := by omega
  clear hmk2
  refine (markRatS_any xA2 _ xc2 xL2 mk2 _ v25 Hx2v25.out (by rw [HEx2.out]; omega) (by omega) (by omega)).mono ?_
  rintro e v26 ⟨rfl, oo⟩
  have bl := oo.2.below Hx2v25.out (by omega)
  have up : ∀ b, v13.heap.size ≤ b → b < v25.heap.size → v26.heap[b]? = v25.heap[b]? := oo.2.beyond HLX2.out
  have sv26 : v25.heap.size ≤ v26.heap.size := bl.size
  have HBv26 := Lib.hid (HBv25.out.trans (bl.mono (by omega)))
  have HR0v26 := Lib.hid (HR0v25.out.under (by omega) bl)
  have HWv26 := Lib.hid (HWv25.out.below (bl.mono (by omega)))
  have HVv26 := Lib.hid (HVv25.out.below (bl.mono (by omega)))
  have Hwbv26 := Lib.hid (Hwbv25.out.underX (by omega) bl)
  have Hvbv26 := Lib.hid (Hvbv25.out.underX (by omega) bl)
  have HGv26 := Lib.hid (HGv25.out.farX up)
  have HUv26 := Lib.hid (HUv25.out.farX fun b hN hlt => up b (by omega) hlt)
  have Hgbv26 : Hid (RatAt v26 v14.heap.size 31 N gA X.length gc gB Y.length gd) := ((up _ (by omega) Hgbv25.out.lt).trans Hgbv25.out)
  have Hkbv26 : Hid (RatAt v26 (v14.heap.size + 1) 31 N2 uA X2.length uc uB Y2.length ud) := ((up _ (by omega) Hkbv25.out.lt).trans Hkbv25.out)
  rw [HEx2.out]
  clear bl up oo HBv25 HR0v25 HWv25 HVv25 Hwbv25 Hvbv25 Hx2v25 HGv25 HUv25 Hgbv25 Hkbv25
  have hmv2 : 0 ≤ (mk2 : Int) + (r2.length : Int) + (tot r2 : Int) := by omega
  have qgb0 := Hgbv26.out.c0
  have qgb1 := Hgbv26.out.c1
  have qgb2 := Hgbv26.out.c2
  have qwb0 := Hwbv26.out.c0
  have qwb1 := Hwbv26.out.c1
  have qwb2 := Hwbv26.out.c2
  have qkb0 := Hkbv26.out.c0
  have qkb1 := Hkbv26.out.c1
  have qkb2 := Hkbv26.out.c2
  have qvb0 := Hvbv26.out.c0
  have qvb1 := Hvbv26.out.c1
  have qvb2 := Hvbv26.out.c2
  go_wp2_with fail
  clear qgb0 qgb1 qgb2 qwb0 qwb1 qwb2 qkb0 qkb1 qkb2 qvb0 qvb1 qvb2
  refine (eqRat_same N gA gB wA wB gc gd wc wd X Y _ _ v26 HGv26.out.rdt HWv26.out (by omega) (by omega)).mono ?_
  rintro e v27 ⟨rfl, bb⟩
  have sv27 : v26.heap.size ≤ v27.heap.size := bb.size
  have HBv27 := Lib.hid (below_on HBv26.out bb)
  have HR0v27 := Lib.hid (HR0v26.out.on bb)
  have HWv27 := Lib.hid (HWv26.out.on bb)
  have HVv27 := Lib.hid (HVv26.out.on bb)
  have Hwbv27 := Lib.hid (Hwbv26.out.on bb)
  have Hvbv27 := Lib.hid (Hvbv26.out.on bb)
  have HGv27 := Lib.hid (HGv26.out.on bb)
  have HUv27 := Lib.hid (HUv26.out.on bb)
  have Hgbv27 := Lib.hid (Hgbv26.out.on bb)
  have Hkbv27 := Lib.hid (Hkbv26.out.on bb)
  clear bb HBv26 HR0v26 HWv26 HVv26 Hwbv26 Hvbv26 HGv26 HUv26 Hgbv26 Hkbv26
  have qvb0 := Hvbv27.out.c0
  have qvb1 := Hvbv27.out.c1
  have qvb2 := Hvbv27.out.c2
  have qkb0 := Hkbv27.out.c0
  have qkb1 := Hkbv27.out.c1
  have qkb2 := Hkbv27.out.c2
  go_wp2_with fail
  clear qvb0 qvb1 qvb2 qkb0 qkb1 qkb2
  refine (eqRat_same N2 uA uB vA vB uc ud vc vd X2 Y2 _ _ v27 HUv27.out.rdt HVv27.out (by omega) (by omega)).mono ?_
  rintro e v28 ⟨rfl, bb⟩
  have sv28 : v27.heap.size ≤ v28.heap.size := bb.size
  have HBv28 := Lib.hid (below_on HBv27.out bb)
  have HR0v28 := Lib.hid (HR0v27.out.on bb)
  have HWv28 := Lib.hid (HWv27.out.on bb)
  have HVv28 := Lib.hid (HVv27.out.on bb)
  have Hwbv28 := Lib.hid (Hwbv27.out.on bb)
  have Hvbv28 := Lib.hid (Hvbv27.out.on bb)
  have HGv28 := Lib.hid (HGv27.out.on bb)
  have HUv28 := Lib.hid (HUv27.out.on bb)
  have Hgbv28 := Lib.hid (Hgbv27.out.on bb)
  have Hkbv28 := Lib.hid (Hkbv27.out.on bb)
  clear bb HBv27 HR0v27 HWv27 HVv27 Hwbv27 Hvbv27 HGv27 HUv27 Hgbv27 Hkbv27
  have qgb0 := Hgbv28.out.c0
  have qgb1 := Hgbv28.out.c1
  have qgb2 := Hgbv28.out.c2
  go_wp2_with fail
  clear qgb0 qgb1 qgb2
  refine (markRat_any N gA gB gc gd X Y 1 _ v28 HGv28.out (by omega) (by omega) (by omega) (by omega)).mono ?_
  rintro e v29 ⟨rfl, oo⟩
  have bl := oo.2.below HGv28.out (by omega)
  have sv29 : v28.heap.size ≤ v29.heap.size := bl.size
  have HBv29 := Lib.hid (HBv28.out.trans (bl.mono (by omega)))
  have HR0v29 := Lib.hid (HR0v28.out.under (by omega) bl)
  have HWv29 := Lib.hid (HWv28.out.below (bl.mono (by omega)))
  have HVv29 := Lib.hid (HVv28.out.below (bl.mono (by omega)))
  have Hwbv29 := Lib.hid (Only.at_ oo.2 HGv28.out (by decide) Hwbv28.out)
  have Hvbv29 := Lib.hid (Only.at_ oo.2 HGv28.out (by decide) Hvbv28.out)
  have HUv29 := Lib.hid (oo.2.own HM2.out HUv28.out)
  have Hgbv29 := Lib.hid (Only.at_ oo.2 HGv28.out (by decide) Hgbv28.out)
  have Hkbv29 := Lib.hid (Only.at_ oo.2 HGv28.out (by decide) Hkbv28.out)
  have HMv29 := Lib.hid oo.1
  clear bl oo HBv28 HR0v28 HWv28 HVv28 Hwbv28 Hvbv28 HGv28 HUv28 Hgbv28 Hkbv28
  have hq0 : 0 ≤ 1 + (X.length : Int) + (Y.length : Int) := by omega
  have qkb0 := Hkbv29.out.c0
  have qkb1 := Hkbv29.out.c1
  have qkb2 := Hkbv29.out.c2
  go_wp2_with fail
  clear qkb0 qkb1 qkb2
  refine (markRat_any N2 uA uB uc ud X2 Y2 (1 + (X.length : Int) + (Y.length : Int)) _ v29 HUv29.out (by omega) (by omega) (by omega) (by omega)).mono ?_
  rintro e v30 ⟨rfl, oo⟩
  have bl := oo.2.below HUv29.out (by omega)
  have sv30 : v29.heap.size ≤ v30.heap.size := bl.size
  have HBv30 := Lib.hid (HBv29.out.trans (bl.mono (by omega)))
  have HR0v30 := Lib.hid (HR0v29.out.under (by omega) bl)
  have HWv30 := Lib.hid (HWv29.out.below (bl.mono (by omega)))
  have HVv30 := Lib.hid (HVv29.out.below (bl.mono (by omega)))
  have Hwbv30 := Lib.hid (Only.at_ oo.2 HUv29.out (by decide) Hwbv29.out)
  have Hvbv30 := Lib.hid (Only.at_ oo.2 HUv29.out (by decide) Hvbv29.out)
  have Hgbv30 := Lib.hid (Only.at_ oo.2 HUv29.out (by decide) Hgbv29.out)
  have Hkbv30 := Lib.hid (Only.at_ oo.2 HUv29.out (by decide) Hkbv29.out)
  have HMv30 := Lib.hid (HMv29.out.farB (by simpa using HM2.out) bl)
  have HLv30 := Lib.hid oo.1.rdt
  have HKv30 := Lib.hid HMv30.out.rdt
  clear HMv30
  clear bl oo HBv29 HR0v29 HWv29 HVv29 Hwbv29 Hvbv29 HUv29 Hgbv29 Hkbv29 HMv29
  have hq1 : 0 ≤ 1 + (X.length : Int) + (Y.length : Int) + (X2.length : Int) + (Y2.length : Int) := by omega
  have hqq : (1 + (X.length : Int) + (Y.length : Int) + (X2.length : Int) + (Y2.length : Int) != 1 + (X.length : Int) + (Y.length : Int) + (X2.length : Int) + (Y2.length : Int)) = false := by simp
  have qgb0 := Hgbv30.out.c0
  have qgb1 := Hgbv30.out.c1
  have qgb2 := Hgbv30.out.c2
  go_wp2_with fail
  clear qgb0 qgb1 qgb2
  refine (heldRat_any N gA gB gc gd _ _ 1 _ v30 HKv30.out (by omega) (by omega) (by omega) (by omega)).mono ?_
  rintro e v31 ⟨rfl, bb⟩
  have sv31 : v30.heap.size ≤ v31.heap.size := bb.size
  have HBv31 := Lib.hid (below_on HBv30.out bb)
  have HR0v31 := Lib.hid (HR0v30.out.on bb)
  have HWv31 := Lib.hid (HWv30.out.on bb)
  have HVv31 := Lib.hid (HVv30.out.on bb)
  have Hwbv31 := Lib.hid (Hwbv30.out.on bb)
  have Hvbv31 := Lib.hid (Hvbv30.out.on bb)
  have Hgbv31 := Lib.hid (Hgbv30.out.on bb)
  have Hkbv31 := Lib.hid (Hkbv30.out.on bb)
  have HKv31 := Lib.hid (HKv30.out.on bb)
  have HLv31 := Lib.hid (HLv30.out.on bb)
  clear bb HBv30 HR0v30 HWv30 HVv30 Hwbv30 Hvbv30 Hgbv30 Hkbv30 HKv30 HLv30
  have qkb0 := Hkbv31.out.c0
  have qkb1 := Hkbv31.out.c1
  have qkb2 := Hkbv31.out.c2
  go_wp2_with fail
  clear qkb0 qkb1 qkb2
  refine (heldRat_any N2 uA uB uc ud _ _ (1 + (X.length : Int) + (Y.length : Int)) _ v31 HLv31.out (by omega) (by omega) (by omega) (by omega)).mono ?_
  rintro e v32 ⟨rfl, bb⟩
  have sv32 : v31.heap.size ≤ v32.heap.size := bb.size
  have HBv32 := Lib.hid (below_on HBv31.out bb)
  have HR0v32 := Lib.hid (HR0v31.out.on bb)
  have HWv32 := Lib.hid (HWv31.out.on bb)
  have HVv32 := Lib.hid (HVv31.out.on bb)
  have Hwbv32 := Lib.hid (Hwbv31.out.on bb)
  have Hvbv32 := Lib.hid (Hvbv31.out.on bb)
  have Hgbv32 := Lib.hid (Hgbv31.out.on bb)
  have Hkbv32 := Lib.hid (Hkbv31.out.on bb)
  have HKv32 := Lib.hid (HKv31.out.on bb)
  have HLv32 := Lib.hid (HLv31.out.on bb)
  clear bb HBv31 HR0v31 HWv31 HVv31 Hwbv31 Hvbv31 Hgbv31 Hkbv31 HKv31 HLv31
  have qR00 := HR0v32.out.c0
  go_wp2_with fail
  clear qR00
  refine (toExpr_any A0 l0 ca0 ns0 v32 ((HNk.out.below HBv32.out).mono (Q := (· < v32.heap.size)) fun _ h _ => Nat.lt_of_lt_of_le h HBv32.out.size) hc0).mono ?_
  rintro e v33 ⟨hA0, hc0, rfl, oo, bb⟩
  have sv33 : v32.heap.size ≤ v33.heap.size := bb.size
  have HBv33 := Lib.hid (below_on HBv32.out bb)
  have HR0v33 := Lib.hid (HR0v32.out.on bb)
  have HWv33 := Lib.hid (HWv32.out.on bb)
  have HVv33 := Lib.hid (HVv32.out.on bb)
  have Hwbv33 := Lib.hid (Hwbv32.out.on bb)
  have Hvbv33 := Lib.hid (Hvbv32.out.on bb)
  have Hgbv33 := Lib.hid (Hgbv32.out.on bb)
  have Hkbv33 := Lib.hid (Hkbv32.out.on bb)
  have HKv33 := Lib.hid (HKv32.out.on bb)
  have HLv33 := Lib.hid (HLv32.out.on bb)
  have Hh0v33 := Lib.hid oo.all
  clear oo
  clear bb HBv32 HR0v32 HWv32 HVv32 Hwbv32 Hvbv32 Hgbv32 Hkbv32 HKv32 HLv32
  go_wp2_with fail
  refine (toRatS_any A1 _ ca1 r1 v33 ((HRk1.out.below HBv33.out).mono (Q := (· < v33.heap.size)) fun _ h _ => Nat.lt_of_lt_of_le h HBv33.out.size) HMk1.out (by omega)).mono ?_
  rintro e v34 ⟨hA1, hc1, rfl, oo, bb⟩
  have sv34 : v33.heap.size ≤ v34.heap.size := bb.size
  have HBv34 := Lib.hid (below_on HBv33.out bb)
  have HR0v34 := Lib.hid (HR0v33.out.on bb)
  have HWv34 := Lib.hid (HWv33.out.on bb)
  have HVv34 := Lib.hid (HVv33.out.on bb)
  have Hwbv34 := Lib.hid (Hwbv33.out.on bb)
  have Hvbv34 := Lib.hid (Hvbv33.out.on bb)
  have Hgbv34 := Lib.hid (Hgbv33.out.on bb)
  have Hkbv34 := Lib.hid (Hkbv33.out.on bb)
  have HKv34 := Lib.hid (HKv33.out.on bb)
  have HLv34 := Lib.hid (HLv33.out.on bb)
  have Hh0v34 := Lib.hid (Hh0v33.out.on bb)
  have Hh1v34 := Lib.hid oo.all
  clear oo
  clear bb HBv33 HR0v33 HWv33 HVv33 Hwbv33 Hvbv33 Hgbv33 Hkbv33 HKv33 HLv33 Hh0v33
  go_wp2_with fail
  refine (toRatS_any A2 _ ca2 r2 v34 ((HRk2.out.below HBv34.out).mono (Q := (· < v34.heap.size)) fun _ h _ => Nat.lt_of_lt_of_le h HBv34.out.size) HMk2.out (by omega)).mono ?_
  rintro e v35 ⟨hA2, hc2, rfl, oo, bb⟩
  have sv35 : v34.heap.size ≤ v35.heap.size := bb.size
  have HBv35 := Lib.hid (below_on HBv34.out bb)
  have HR0v35 := Lib.hid (HR0v34.out.on bb)
  have HWv35 := Lib.hid (HWv34.out.on bb)
  have HVv35 := Lib.hid (HVv34.out.on bb)
  have Hwbv35 := Lib.hid (Hwbv34.out.on bb)
  have Hvbv35 := Lib.hid (Hvbv34.out.on bb)
  have Hgbv35 := Lib.hid (Hgbv34.out.on bb)
  have Hkbv35 := Lib.hid (Hkbv34.out.on bb)
  have HKv35 := Lib.hid (HKv34.out.on bb)
  have HLv35 := Lib.hid (HLv34.out.on bb)
  have Hh0v35 := Lib.hid (Hh0v34.out.on bb)
  have Hh1v35 := Lib.hid (Hh1v34.out.on bb)
  have Hh2v35 := Lib.hid oo.all
  clear oo
  clear bb HBv34 HR0v34 HWv34 HVv34 Hwbv34 Hvbv34 Hgbv34 Hkbv34 HKv34 HLv34 Hh0v34 Hh1v34
  go_wp2_with fail
  refine (HI.out hA0 hc0 hA1 hc1 hA2 hc2 v35 HBv35.out Hh0v35.out Hh1v35.out Hh2v35.out).mono ?_
  rintro e v36 ⟨kA, kc, kB, kd, iA, ic, iB, ie, iM, rfl, oo, o2, -, bb⟩
  have sv36 : v35.heap.size ≤ v36.heap.size := bb.size
  have HBv36 := Lib.hid (below_on HBv35.out bb)
  have HR0v36 := Lib.hid (HR0v35.out.on bb)
  have HWv36 := Lib.hid (HWv35.out.on bb)
  have HVv36 := Lib.hid (HVv35.out.on bb)
  have Hwbv36 := Lib.hid (Hwbv35.out.on bb)
  have Hvbv36 := Lib.hid (Hvbv35.out.on bb)
  have Hgbv36 := Lib.hid (Hgbv35.out.on bb)
  have Hkbv36 := Lib.hid (Hkbv35.out.on bb)
  have HKv36 := Lib.hid (HKv35.out.on bb)
  have HLv36 := Lib.hid (HLv35.out.on bb)
  have Hh0v36 := Lib.hid (Hh0v35.out.on bb)
  have Hh1v36 := Lib.hid (Hh1v35.out.on bb)
  have Hh2v36 := Lib.hid (Hh2v35.out.on bb)
  have HHv36 := Lib.hid oo.rdt
  have HI2v36 := Lib.hid o2.rdt
  clear oo o2
  clear bb HBv35 HR0v35 HWv35 HVv35 Hwbv35 Hvbv35 Hgbv35 Hkbv35 HKv35 HLv35 Hh0v35 Hh1v35 Hh2v35
  clear Hh0v36
  clear Hh1v36
  clear Hh2v36
  have hsw2 : v8.heap.size + 1 < v36.heap.size := by omega
  have hsw5 : v8.heap.size < v36.heap.size := by omega
  have hsw6 : v8.heap.size < v36.heap.size + 1 := by omega
  have qwb0 := Hwbv36.out.c0
  have qwb1 := Hwbv36.out.c1
  have qwb2 := Hwbv36.out.c2
  have qvb0 := Hvbv36.out.c0
  have qvb1 := Hvbv36.out.c1
  have qvb2 := Hvbv36.out.c2
  go_wp2_with fail
  clear qwb0 qwb1 qwb2 qvb0 qvb1 qvb2
  refine calls_at (fun V => (v36.heap.size + 1 < V.heap.size) ∧ (Below w.heap.size w V) ∧ (SlAt V w.heap.size 45 A0 l0 ca0) ∧ (RdR V (· < v8.heap.size) X Y wA wc wB wd) ∧ (RdR V (· < v8.heap.size) X2 Y2 vA vc vB vd) ∧ (RatAt V v8.heap.size 31 N wA X.length wc wB Y.length wd) ∧ (RatAt V (v8.heap.size + 1) 31 N2 vA X2.length vc vB Y2.length vd) ∧ (RatAt V v14.heap.size 31 N gA X.length gc gB Y.length gd) ∧ (RatAt V (v14.heap.size + 1) 31 N2 uA X2.length uc uB Y2.length ud) ∧ (RdR V (fun _ => True) (marks 1 X.length) (marks (1 + X.length) Y.length) gA gc gB gd) ∧ (RdR V (fun _ => True) (marks (1 + (X.length : Int) + (Y.length : Int)) X2.length) (marks (1 + (X.length : Int) + (Y.length : Int) + X2.length) Y2.length) uA uc uB ud) ∧ (RdR V (fun _ => True) X Y kA kc kB kd) ∧ (RdR V (fun _ => True) X2 Y2 iA ic iB ie) ∧ (RatAt V v36.heap.size 31 N kA X.length kc kB Y.length kd) ∧ (RatAt V (v36.heap.size + 1) 31 N2 iA X2.length ic iB Y2.length ie))
    ⟨by simp, below_on HBv36.out (below2 _ _ _), HR0v36.out.on (below2 _ _ _), HWv36.out.on (below2 _ _ _), HVv36.out.on (below2 _ _ _), Hwbv36.out.on (below2 _ _ _), Hvbv36.out.on (below2 _ _ _), Hgbv36.out.on (below2 _ _ _), Hkbv36.out.on (below2 _ _ _), HKv36.out.on (below2 _ _ _), HLv36.out.on (below2 _ _ _), HHv36.out.on (below2 _ _ _), HI2v36.out.on (below2 _ _ _), (RatAt.new _ _ _ _ _ _ _ _ _).alloc _, RatAt.new1 _ _ _ _ _ _ _ _ _ _⟩ ?_
  rintro v37 ⟨sv37, pB, pR0, pW, pV, pwb, pvb, pgb, pkb, pK, pL, pH, pI2, phb, pib⟩
  have HBv37 := Lib.hid pB
  have HR0v37 := Lib.hid pR0
  have HWv37 := Lib.hid pW
  have HVv37 := Lib.hid pV
  have Hwbv37 := Lib.hid pwb
  have Hvbv37 := Lib.hid pvb
  have Hgbv37 := Lib.hid pgb
  have Hkbv37 := Lib.hid pkb
  have HKv37 := Lib.hid pK
  have HLv37 := Lib.hid pL
  have HHv37 := Lib.hid pH
  have HI2v37 := Lib.hid pI2
  have Hhbv37 := Lib.hid phb
  have Hibv37 := Lib.hid pib
  clear pB pR0 pW pV pwb pvb pgb pkb pK pL pH pI2 phb pib HBv36 HR0v36 HWv36 HVv36 Hwbv36 Hvbv36 Hgbv36 Hkbv36 HKv36 HLv36 HHv36 HI2v36
  refine (eqRat_same N kA kB wA wB kc kd wc wd X Y _ _ v37 HHv37.out HWv37.out (by omega) (by omega)).mono ?_
  rintro e v38 ⟨rfl, bb⟩
  have sv38 : v37.heap.size ≤ v38.heap.size := bb.size
  have HBv38 := Lib.hid (below_on HBv37.out bb)
  have HR0v38 := Lib.hid (HR0v37.out.on bb)
  have HWv38 := Lib.hid (HWv37.out.on bb)
  have HVv38 := Lib.hid (HVv37.out.on bb)
  have Hwbv38 := Lib.hid (Hwbv37.out.on bb)
  have Hvbv38 := Lib.hid (Hvbv37.out.on bb)
  have Hgbv38 := Lib.hid (Hgbv37.out.on bb)
  have Hkbv38 := Lib.hid (Hkbv37.out.on bb)
  have HKv38 := Lib.hid (HKv37.out.on bb)
  have HLv38 := Lib.hid (HLv37.out.on bb)
  have HHv38 := Lib.hid (HHv37.out.on bb)
  have HI2v38 := Lib.hid (HI2v37.out.on bb)
  have Hhbv38 := Lib.hid (Hhbv37.out.on bb)
  have Hibv38 := Lib.hid (Hibv37.out.on bb)
  clear bb HBv37 HR0v37 HWv37 HVv37 Hwbv37 Hvbv37 Hgbv37 Hkbv37 HKv37 HLv37 HHv37 HI2v37 Hhbv37 Hibv37
  have qvb0 := Hvbv38.out.c0
  have qvb1 := Hvbv38.out.c1
  have qvb2 := Hvbv38.out.c2
  have qib0 := Hibv38.out.c0
  have qib1 := Hibv38.out.c1
  have qib2 := Hibv38.out.c2
  go_wp2_with fail
  clear qvb0 qvb1 qvb2 qib0 qib1 qib2
  refine (eqRat_same N2 iA iB vA vB ic ie vc vd X2 Y2 _ _ v38 HI2v38.out HVv38.out (by omega) (by omega)).mono ?_
  rintro e v39 ⟨rfl, bb⟩
  have sv39 : v38.heap.size ≤ v39.heap.size := bb.size
  have HBv39 := Lib.hid (below_on HBv38.out bb)
  have HR0v39 := Lib.hid (HR0v38.out.on bb)
  have HWv39 := Lib.hid (HWv38.out.on bb)
  have HVv39 := Lib.hid (HVv38.out.on bb)
  have Hwbv39 := Lib.hid (Hwbv38.out.on bb)
  have Hvbv39 := Lib.hid (Hvbv38.out.on bb)
  have Hgbv39 := Lib.hid (Hgbv38.out.on bb)
  have Hkbv39 := Lib.hid (Hkbv38.out.on bb)
  have HKv39 := Lib.hid (HKv38.out.on bb)
  have HLv39 := Lib.hid (HLv38.out.on bb)
  have HHv39 := Lib.hid (HHv38.out.on bb)
  have HI2v39 := Lib.hid (HI2v38.out.on bb)
  have Hhbv39 := Lib.hid (Hhbv38.out.on bb)
  have Hibv39 := Lib.hid (Hibv38.out.on bb)
  clear bb HBv38 HR0v38 HWv38 HVv38 Hwbv38 Hvbv38 Hgbv38 Hkbv38 HKv38 HLv38 HHv38 HI2v38 Hhbv38 Hibv38
  have qgb0 := Hgbv39.out.c0
  have qgb1 := Hgbv39.out.c1
  have qgb2 := Hgbv39.out.c2
  go_wp2_with fail
  clear qgb0 qgb1 qgb2
  refine (heldRat_any N gA gB gc gd _ _ 1 _ v39 HKv39.out (by omega) (by omega) (by omega) (by omega)).mono ?_
  rintro e v40 ⟨rfl, bb⟩
  have sv40 : v39.heap.size ≤ v40.heap.size := bb.size
  have HBv40 := Lib.hid (below_on HBv39.out bb)
  have HR0v40 := Lib.hid (HR0v39.out.on bb)
  have HWv40 := Lib.hid (HWv39.out.on bb)
  have HVv40 := Lib.hid (HVv39.out.on bb)
  have Hwbv40 := Lib.hid (Hwbv39.out.on bb)
  have Hvbv40 := Lib.hid (Hvbv39.out.on bb)
  have Hgbv40 := Lib.hid (Hgbv39.out.on bb)
  have Hkbv40 := Lib.hid (Hkbv39.out.on bb)
  have HKv40 := Lib.hid (HKv39.out.on bb)
  have HLv40 := Lib.hid (HLv39.out.on bb)
  have HHv40 := Lib.hid (HHv39.out.on bb)
  have HI2v40 := Lib.hid (HI2v39.out.on bb)
  have Hhbv40 := Lib.hid (Hhbv39.out.on bb)
  have Hibv40 := Lib.hid (Hibv39.out.on bb)
  clear bb HBv39 HR0v39 HWv39 HVv39 Hwbv39 Hvbv39 Hgbv39 Hkbv39 HKv39 HLv39 HHv39 HI2v39 Hhbv39 Hibv39
  have qkb0 := Hkbv40.out.c0
  have qkb1 := Hkbv40.out.c1
  have qkb2 := Hkbv40.out.c2
  go_wp2_with fail
  clear qkb0 qkb1 qkb2
  refine (heldRat_any N2 uA uB uc ud _ _ (1 + (X.length : Int) + (Y.length : Int)) _ v40 HLv40.out (by omega) (by omega) (by omega) (by omega)).mono ?_
  rintro e v41 ⟨rfl, bb⟩
  have sv41 : v40.heap.size ≤ v41.heap.size := bb.size
  have HBv41 := Lib.hid (below_on HBv40.out bb)
  have HR0v41 := Lib.hid (HR0v40.out.on bb)
  have HWv41 := Lib.hid (HWv40.out.on bb)
  have HVv41 := Lib.hid (HVv40.out.on bb)
  have Hwbv41 := Lib.hid (Hwbv40.out.on bb)
  have Hvbv41 := Lib.hid (Hvbv40.out.on bb)
  have Hgbv41 := Lib.hid (Hgbv40.out.on bb)
  have Hkbv41 := Lib.hid (Hkbv40.out.on bb)
  have HKv41 := Lib.hid (HKv40.out.on bb)
  have HLv41 := Lib.hid (HLv40.out.on bb)
  have HHv41 := Lib.hid (HHv40.out.on bb)
  have HI2v41 := Lib.hid (HI2v40.out.on bb)
  have Hhbv41 := Lib.hid (Hhbv40.out.on bb)
  have Hibv41 := Lib.hid (Hibv40.out.on bb)
  clear bb HBv40 HR0v40 HWv40 HVv40 Hwbv40 Hvbv40 Hgbv40 Hkbv40 HKv40 HLv40 HHv40 HI2v40 Hhbv40 Hibv40
  go_wp2
  go_ret
  exact ⟨rfl, HBv41.out⟩

set_option maxRecDepth 20000 in
set_option maxHeartbeats 3200000 in
theorem lawSlopeOf_any (A0 : Option Addr) (l0 ca0 : Nat) (ns0 : List Nd) (A1 : Option Addr) (la1 ca1 : Nat) (r1 : List R3) (A2 : Option Addr) (la2 ca2 : Nat) (r2 : List R3) (w : World) (hr0 : RdN w (· < w.heap.size) A0 l0 ca0 ns0) (hn0 : l0 ≤ 9223372036854775807) (hr1 : RdS w (· < w.heap.size) A1 la1 ca1 r1) (hs1 : Short r1) (hn1 : la1 ≤ 9223372036854775807) (hr2 : RdS w (· < w.heap.size) A2 la2 ca2 r2) (hs2 : Short r2) (hn2 : la2 ≤ 9223372036854775807) (ad : Addr) (hE : ErrAt 195 w ad) :
    Calls Tryz.prog 5 #[.agg #[.slice A0 l0 ca0], .slice A1 la1 ca1, .slice A2 la2 ca2] w fun e w' => e = .returned (.bool true) ∧ Below w.heap.size w w' := by
  by_cases hb0 : (1048576 : Int) < l0
  · clear hr0 hr1 hs1 hr2 hs2 hE
    go_enter Tryz.func5, Tryz.ntmps5
    go_wp2_with fail
    refine calls_at (fun V => Below w.heap.size w V) (below1 _ _) ?_
    intro v1 hb1
    refine (szExpr_any A0 l0 ca0 1048576 v1 hn0 (by omega) (by omega)).mono ?_
    rintro e v2 ⟨rfl, b2⟩
    have HB2 := Lib.hid (below_on hb1 b2)
    rw [show szN 1048576 l0 = -1 from if_pos (by omega)]
    clear hb1 b2 hb0
    go_wp2
    go_ret
    exact ⟨rfl, HB2.out⟩
  have hc0 : l0 ≤ 1048576 := by omega
  obtain rfl := hr1.len
  obtain rfl := hr2.len
  have hlen0 : ns0.length = l0 := hr0.len
  by_cases hbv : (1048576 : Int) - l0 < r1.length + tot r1
  · have HR := Lib.hid hr1
    have HS := Lib.hid hs1
    clear hr0 hr1 hs1 hr2 hs2 hE
    have HZ := Lib.hid (szS_big hbv)
    have hp : 0 ≤ (1048576 : Int) - l0 := by omega
    have hp2 : (1048576 : Int) - l0 ≤ 1048576 := by omega
    clear hbv
    go_enter Tryz.func5, Tryz.ntmps5
    go_wp2_with fail
    refine calls_at (fun V => Below w.heap.size w V) (below1 _ _) ?_
    intro v1 hb1
    refine (szExpr_any A0 l0 ca0 1048576 v1 hn0 (by omega) (by omega)).mono ?_
    rintro e v2 ⟨rfl, b2⟩
    have HB2 := Lib.hid (below_on hb1 b2)
    rw [show szN 1048576 l0 = 1048576 - (l0 : Int) from if_neg (by omega)]
    clear hb1 b2 hb0
    go_wp2_with fail
    refine (szRatS_any A1 _ ca1 r1 _ v2 ((HR.out.below HB2.out).mono (Q := (· < v2.heap.size)) fun _ h _ => Nat.lt_of_lt_of_le h HB2.out.size) HS.out hn1 hp hp2).mono ?_
    rintro e v3 ⟨rfl, b3⟩
    rw [HZ.out]
    have HB3 := Lib.hid (below_on HB2.out b3)
    clear b3
    go_wp2
    go_ret
    exact ⟨rfl, HB3.out⟩
  by_cases hbv2 : (1048576 : Int) - l0 - r1.length - tot r1 < r2.length + tot r2
  · have HR := Lib.hid hr1
    have HS := Lib.hid hs1
    have HR' := Lib.hid hr2
    have HS' := Lib.hid hs2
    clear hr0 hr1 hs1 hr2 hs2 hE
    have HZ1 := Lib.hid (szS_fit (rs := r1) (left := (1048576 : Int) - l0) (by omega))
    have HZ := Lib.hid (szS_big hbv2)
    have hp : 0 ≤ (1048576 : Int) - l0 := by omega
    have hp2 : (1048576 : Int) - l0 ≤ 1048576 := by omega
    have hq : 0 ≤ (1048576 : Int) - l0 - r1.length - tot r1 := by omega
    have hq2 : (1048576 : Int) - l0 - r1.length - tot r1 ≤ 1048576 := by omega
    clear hbv hbv2
    go_enter Tryz.func5, Tryz.ntmps5
    go_wp2_with fail
    refine calls_at (fun V => Below w.heap.size w V) (below1 _ _) ?_
    intro v1 hb1
    refine (szExpr_any A0 l0 ca0 1048576 v1 hn0 (by omega) (by omega)).mono ?_
    rintro e v2 ⟨rfl, b2⟩
    have HB2 := Lib.hid (below_on hb1 b2)
    rw [show szN 1048576 l0 = 1048576 - (l0 : Int) from if_neg (by omega)]
    clear hb1 b2 hb0
    go_wp2_with fail
    refine (szRatS_any A1 _ ca1 r1 _ v2 ((HR.out.below HB2.out).mono (Q := (· < v2.heap.size)) fun _ h _ => Nat.lt_of_lt_of_le h HB2.out.size) HS.out hn1 hp hp2).mono ?_
    rintro e v3 ⟨rfl, b3⟩
    rw [HZ1.out]
    have HB3 := Lib.hid (below_on HB2.out b3)
    clear b3
    go_wp2_with fail
    refine (szRatS_any A2 _ ca2 r2 _ v3 ((HR'.out.below HB3.out).mono (Q := (· < v3.heap.size)) fun _ h _ => Nat.lt_of_lt_of_le h HB3.out.size) HS'.out hn2 hq hq2).mono ?_
    rintro e v4 ⟨rfl, b4⟩
    rw [HZ.out]
    have HB4 := Lib.hid (below_on HB3.out b4)
    clear b4
    go_wp2
    go_ret
    exact ⟨rfl, HB4.out⟩
  have hsm : Small r1 := small_tot (by omega)
  have hsv : Small r2 := small_tot (by omega)
  have hsz : l0 + (r1.length + tot r1) + (r2.length + tot r2) ≤ 1048576 := by omega
  have hm1 : r1.length ≤ 1048576 := by omega
  have hm2 : r2.length ≤ 1048576 := by omega
  by_cases h0 : ptCode1 (okE ns0) ns0 r1.length r2.length r1 r2 = 0
  · obtain ⟨h4, heq, hright, hok, hok', hdim⟩ := ptCode1_zero h0
    obtain ⟨_, hl4, qs, rfl, hf⟩ := okV_out hok
    obtain ⟨_, hl4', us, rfl, hfu⟩ := okV_out hok'
    have e1 : (qs.map rat3).length = qs.length := List.length_map ..
    have e2 : (us.map rat3).length = qs.length := heq.trans e1
    have hul : us.length = qs.length := by rw [List.length_map] at e2; exact e2
    obtain ⟨hg, h1, h60⟩ := okE_at hlen0 hright hdim
    obtain ⟨js, code, hR⟩ : ∃ js code, evalJ (varsJ qs (fun _ => us) 1 qs.length) ns0 = (js, code) := ⟨_, _, rfl⟩
    have hQ := eval_swap qs (noughts qs.length) us ns0
    rw [eval_one qs us ns0 hul, hR] at hQ
    dsimp only at hQ
    rw [e1, e2] at h0
    have hdep : ∀ j ∈ varsJ qs (fun _ => us) 1 qs.length, j.dep ≤ 2 := fun j hj => Nat.le_trans (varsJ_dep _ _ _ _ j hj) (by decide)
    have hq : (((js.map r4).map swap4).getD (l0 - 1) q40).f = numJ (js.getD (l0 - 1) j0) 0 ∧ (((js.map r4).map swap4).getD (l0 - 1) q40).v = numJ (js.getD (l0 - 1) j0) 1 := by
      rw [getD_swap, getD_r4]
      exact ⟨rfl, rfl⟩
    rw [e1] at hm1
    by_cases hc : code = 0
    · subst hc
      have hlim := (last_L2 hdep hlen0 h1 hR).2
      have hx1 := hlim.2.1.1
      have hx2 := hlim.2.1.2
      have hx3 := hlim.2.2.2.1.1
      have hx4 := hlim.2.2.2.1.2
      refine lawSlopeOf_core (isNeg (numJ (js.getD (l0 - 1) j0) 0)) (D (nu (numJ (js.getD (l0 - 1) j0) 0))) (D (numJ (js.getD (l0 - 1) j0) 0).den) (isNeg (numJ (js.getD (l0 - 1) j0) 1)) (D (nu (numJ (js.getD (l0 - 1) j0) 1))) (D (numJ (js.getD (l0 - 1) j0) 1).den) 0 ns0 A0 l0 ca0 A1 ca1 _ A2 ca2 _ w (by omega) (by omega) (by omega) (by omega) (fun a0 c0 a1 c1 a2 c2 W h1 h2 h3 => ?_) (fun a0 c0 a1 c1 a2 c2 W hb h1 h2 h3 => ?_) hr0 hr1 hs1 hr2 hs2 hsz
      · rw [e1] at h2 ⊢
        rw [e2] at h3 ⊢
        refine (specSlopeOf_ok a0 a1 a2 l0 c0 _ c1 c2 ns0 qs us _ _ _ W h1 h2 h3 hf hfu hc0 hm1 h0 _ _ hQ).mono fun e w' h => ?_
        rcases h with ⟨-, h⟩ | ⟨h, -⟩
        · rw [hq.1, hq.2] at h; exact h
        · exact absurd rfl h
      · rw [e1] at h2 ⊢
        rw [e2] at h3 ⊢
        refine (implSlopeOf_ok a0 a1 a2 l0 c0 _ c1 c2 ns0 qs us _ _ _ W ad (hE.on hb) h1 h2 h3 hf hfu hc0 hm1 h0 _ _ hR).mono fun e w' h => ?_
        rcases h with ⟨-, h⟩ | ⟨h, -⟩
        · exact h
        · exact absurd rfl h
    · refine lawSlopeOf_core false [] [] false [] [] code ns0 A0 l0 ca0 A1 ca1 _ A2 ca2 _ w (by decide) (by decide) (by decide) (by decide) (fun a0 c0 a1 c1 a2 c2 W h1 h2 h3 => ?_) (fun a0 c0 a1 c1 a2 c2 W hb h1 h2 h3 => ?_) hr0 hr1 hs1 hr2 hs2 hsz
      · rw [e1] at h2 ⊢
        rw [e2] at h3 ⊢
        refine (specSlopeOf_ok a0 a1 a2 l0 c0 _ c1 c2 ns0 qs us _ _ _ W h1 h2 h3 hf hfu hc0 hm1 h0 _ _ hQ).mono fun e w' h => ?_
        rcases h with ⟨h, -⟩ | ⟨-, h⟩
        · exact absurd h hc
        · exact h
      · rw [e1] at h2 ⊢
        rw [e2] at h3 ⊢
        refine (implSlopeOf_ok a0 a1 a2 l0 c0 _ c1 c2 ns0 qs us _ _ _ W ad (hE.on hb) h1 h2 h3 hf hfu hc0 hm1 h0 _ _ hR).mono fun e w' h => ?_
        rcases h with ⟨h, -⟩ | ⟨-, h⟩
        · exact absurd h hc
        · exact h
  · exact lawSlopeOf_core false [] [] false [] [] _ ns0 A0 l0 ca0 A1 ca1 r1 A2 ca2 r2 w (by decide) (by decide) (by decide) (by decide) (fun a0 c0 a1 c1 a2 c2 W h1 h2 h3 => specSlopeOf_code a0 a1 a2 l0 c0 _ c1 _ c2 ns0 r1 r2 _ _ _ W h1 h2 h3 hsm hsv hc0 hm1 hm2 _ rfl h0) (fun a0 c0 a1 c1 a2 c2 W hb h1 h2 h3 => implSlopeOf_code a0 a1 a2 l0 c0 _ c1 _ c2 ns0 r1 r2 _ _ _ W h1 h2 h3 hsm hsv hc0 hm1 hm2 _ rfl h0) hr0 hr1 hs1 hr2 hs2 hsz
end Go.Proofs.YtifepoefeamboaaGreatDoor
