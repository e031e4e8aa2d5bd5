/-
  The law FnExactValueOf: whatever the arguments, ValueOf answers as its model, writes into no argument, and what it answers is memory of its own. No condition.
-/
import Derived.Test.YtifepoefeamboaaGreatDoorImplValueOf
import Derived.Test.YtifepoefeamboaaGreatDoorSpecValue
import Derived.Test.YtifepoefeamboaaGreatDoorNodeMark
import Derived.Test.YtifepoefeamboaaGreatDoorTapeCopy
import Derived.Test.YtifepoefeamboaaGreatDoorGrpH
import Derived.ProofKit
import Derived.OpenShut
import Derived.ShutString
import Derived.ChangeOld
import Derived.Lib.SmallJoins
import Derived.Deep.RegionHeld3
namespace Nt
open Go Go.RowKit
theorem OwnV.farX {tr ti : TypeId} {w w' : World} {base n c : Nat} {V : Option Addr} {L : List EV} (h : OwnV tr ti w base V n c L) (hk : ∀ b, base ≤ b → b < w.heap.size → w'.heap[b]? = w.heap[b]?) : OwnV tr ti w' base V n c L := by
  refine ⟨?_, fun i hi => ?_, h.2.2⟩
  · rcases h.1 with ⟨h1, h2 | ⟨g, cap, cur, e', hb, hh, h3⟩⟩
    · exact ⟨h1, .inl h2⟩
    · have hlt : g < w.heap.size := by
        rcases Nat.lt_or_ge g w.heap.size with hlt | hge
        · exact hlt
        · rw [Array.getElem?_eq_none hge] at hh; cases hh
      exact ⟨h1, .inr ⟨g, cap, cur, e', hb, (hk g hb hlt).trans hh, h3⟩⟩
  · have ho := h.2.1 i hi
    exact ⟨own_at_block ho.1 fun g hg => hk g (own_block ho.1 hg).1 (own_block ho.1 hg).2, own_at_block ho.2.1 fun g hg => hk g (own_block ho.2.1 hg).1 (own_block ho.2.1 hg).2, ho.2.2⟩
theorem tot_ratsX : ∀ (ps : List Rat), (∀ p ∈ ps, fitQ p) → tot (ps.map rat3) ≤ 80 * ps.length
  | [], _ => Nat.le_refl _
  | p :: ps, h => by
    have ih := tot_ratsX ps fun q hq => h q (List.mem_cons_of_mem _ hq)
    have hp : (D (nu p)).length ≤ 40 ∧ (D p.den).length ≤ 40 := h p List.mem_cons_self
    rw [List.map_cons, tot_cons, List.length_cons]
    show (D (nu p)).length + (D p.den).length + _ ≤ _
    omega
theorem OwnR.farX {ti : TypeId} {w w' : World} {base : Nat} {xs ys : List Int} {A B : Option Addr} {ca cb : Nat} (h : OwnR ti w base xs ys A ca B cb) (hk : ∀ b, base ≤ b → b < w.heap.size → w'.heap[b]? = w.heap[b]?) : OwnR ti w' base xs ys A ca B cb :=
  ⟨own_at_block h.1 fun g hg => hk g (own_block h.1 hg).1 (own_block h.1 hg).2, own_at_block h.2.1 fun g hg => hk g (own_block h.2.1 hg).1 (own_block h.2.1 hg).2, h.2.2⟩
theorem OwnR.farB {ti : TypeId} {w w' : World} {base N : Nat} {xs ys : List Int} {A B : Option Addr} {ca cb : Nat} (h : OwnR ti w base xs ys A ca B cb) (hl : ∀ g, A = some ⟨g, 0, none⟩ ∨ B = some ⟨g, 0, none⟩ → g < N) (hb : Below N w w') : OwnR ti w' base xs ys A ca B cb :=
  ⟨own_at_block h.1 fun g hg => hb.block g (hl g (.inl hg)), own_at_block h.2.1 fun g hg => hb.block g (hl g (.inr hg)), h.2.2⟩
theorem RatAt.underX {w w' : World} {b N : Nat} {t : TypeId} {neg : Bool} {A B : Option Addr} {la ca lb cb : Nat} (h : RatAt w b t neg A la ca B lb cb) (hb : b < N) (hw : Below N w w') : RatAt w' b t neg A la ca B lb cb := (hw.block b hb).trans h
theorem TpAt.under {w w' : World} {b N n c : Nat} {t : TypeId} {A : Option Addr} {o : Int} (h : TpAt w b t A n c o) (hb : b < N) (hw : Below N w w') : TpAt w' b t A n c o := (hw.block b hb).trans h
theorem SlAt.under {w w' : World} {b N n c : Nat} {t : TypeId} {A : Option Addr} (h : SlAt w b t A n c) (hb : b < N) (hw : Below N w w') : SlAt w' b t A n c := (hw.block b hb).trans h
end Nt
namespace Go.Proofs.YtifepoefeamboaaGreatDoor
open Go Go.RowKit Nt
open Go.ChangeShapes Go.WideShapes Go.ChangeAt
open Go.ChangeMaps (open_string shut_string)

set_option linter.unusedSimpArgs false in
set_option maxRecDepth 20000 in
set_option maxHeartbeats 12800000 in
theorem lawValueOf_core (N : Bool) (X Y : List Int) (code : Int) (ns0 : List Nd) (A0 : Option Addr) (l0 ca0 : Nat) (A1 : Option Addr) (ca1 : Nat) (r1 : List R3) (w : World) (hX : X.length ≤ 1000) (hY : Y.length ≤ 1000)
    (hS : ∀ (a0 : Option Addr) (c0 : Nat) (a1 : Option Addr) (c1 : Nat) (W : World), RdN W (fun _ => True) a0 l0 c0 ns0 → RdS W (fun _ => True) a1 r1.length c1 r1 → Calls Tryz.prog 12 #[.agg #[.slice a0 l0 c0], .slice a1 r1.length c1] W (SayRC' W N X Y code))
    (hI : ∀ (a0 : Option Addr) (c0 : Nat) (a1 : Option Addr) (c1 : Nat) (W : World), Below w.heap.size w W → RdN W (fun _ => True) a0 l0 c0 ns0 → RdS W (fun _ => True) a1 r1.length c1 r1 → Calls Tryz.prog 11 #[.agg #[.slice a0 l0 c0], .slice a1 r1.length c1] W (RetRC 3 W N X Y code))
    (hr0 : RdN w (· < w.heap.size) A0 l0 ca0 ns0) (hr1 : RdS w (· < w.heap.size) A1 r1.length ca1 r1) (hs1 : Short r1) (hsz : l0 + (r1.length + tot r1) ≤ 1048576) :
    Calls Tryz.prog 4 #[.agg #[.slice A0 l0 ca0], .slice A1 r1.length ca1] w fun e w' => e = .returned (.bool true) ∧ Below w.heap.size w w' := by
  have HS := Lib.hid hS
  have HI := Lib.hid hI
  clear hS hI
  have HNk := Lib.hid hr0
  clear hr0
  have hc0 : l0 ≤ 1048576 := by omega
  have HRk1 := Lib.hid hr1
  have HSk1 := Lib.hid hs1
  have HMk1 := Lib.hid (small_tot (rs := r1) (by omega))
  clear hr1 hs1
  have hcc : (code != code) = false := by simp
  go_enter Tryz.func4, Tryz.ntmps4
  go_wp2_with fail
  refine calls_at (fun V => (Below w.heap.size w V) ∧ (SlAt V w.heap.size 45 A0 l0 ca0)) ⟨below1 _ _, SlAt.new _ _ _ _ _⟩ ?_
  rintro v1 ⟨pB, pR⟩
  have HBv1 := Lib.hid pB
  have HR0v1 := Lib.hid pR
  clear pB pR
  have sv1 : w.heap.size ≤ v1.heap.size := HBv1.out.size
  have hRlt : w.heap.size < v1.heap.size := HR0v1.out.lt
  refine (szExpr_any A0 l0 ca0 1048576 v1 (by omega) (by omega) (by omega)).mono ?_
  rintro e v2 ⟨rfl, bb⟩
  have sv2 : v1.heap.size ≤ v2.heap.size := bb.size
  have HBv2 := Lib.hid (below_on HBv1.out bb)
  have HR0v2 := Lib.hid (HR0v1.out.on bb)
  clear bb HBv1 HR0v1
  rw [show szN 1048576 l0 = 1048576 - (l0 : Int) from if_neg (by omega)]
  have hle0 : 0 ≤ 1048576 - (l0 : Int) := by omega
  go_wp2_with fail
  refine (szRatS_any A1 _ ca1 r1 (1048576 - (l0 : Int)) v2 ((HRk1.out.below HBv2.out).mono (Q := (· < v2.heap.size)) fun _ h _ => Nat.lt_of_lt_of_le h HBv2.out.size) HSk1.out (by omega) (by omega) (by omega)).mono ?_
  rintro e v3 ⟨rfl, bb⟩
  have sv3 : v2.heap.size ≤ v3.heap.size := bb.size
  have HBv3 := Lib.hid (below_on HBv2.out bb)
  have HR0v3 := Lib.hid (HR0v2.out.on bb)
  clear bb HBv2 HR0v2
  rw [szS_fit (by omega)]
  have hle1 : 0 ≤ 1048576 - (l0 : Int) - (r1.length : Int) - (tot r1 : Int) := by omega
  have qR00 := HR0v3.out.c0
  go_wp2_with fail
  clear qR00
  refine (toExpr_any A0 l0 ca0 ns0 v3 ((HNk.out.below HBv3.out).mono (Q := (· < v3.heap.size)) fun _ h _ => Nat.lt_of_lt_of_le h HBv3.out.size) hc0).mono ?_
  rintro e v4 ⟨sA0, sc0, rfl, oo, bb⟩
  have sv4 : v3.heap.size ≤ v4.heap.size := bb.size
  have HBv4 := Lib.hid (below_on HBv3.out bb)
  have HR0v4 := Lib.hid (HR0v3.out.on bb)
  have Hs0v4 := Lib.hid oo.all
  clear oo
  clear bb HBv3 HR0v3
  go_wp2_with fail
  refine (toRatS_any A1 _ ca1 r1 v4 ((HRk1.out.below HBv4.out).mono (Q := (· < v4.heap.size)) fun _ h _ => Nat.lt_of_lt_of_le h HBv4.out.size) HMk1.out (by omega)).mono ?_
  rintro e v5 ⟨sA1, sc1, rfl, oo, bb⟩
  have sv5 : v4.heap.size ≤ v5.heap.size := bb.size
  have HBv5 := Lib.hid (below_on HBv4.out bb)
  have HR0v5 := Lib.hid (HR0v4.out.on bb)
  have Hs0v5 := Lib.hid (Hs0v4.out.on bb)
  have Hs1v5 := Lib.hid oo.all
  clear oo
  clear bb HBv4 HR0v4 Hs0v4
  go_wp2_with fail
  refine (HS.out sA0 sc0 sA1 sc1 v5 Hs0v5.out Hs1v5.out).mono ?_
  rintro e v6 ⟨wA, wc, wB, wd, rfl, oo, bb⟩
  have sv6 : v5.heap.size ≤ v6.heap.size := bb.size
  have HBv6 := Lib.hid (below_on HBv5.out bb)
  have HR0v6 := Lib.hid (HR0v5.out.on bb)
  have Hs0v6 := Lib.hid (Hs0v5.out.on bb)
  have Hs1v6 := Lib.hid (Hs1v5.out.on bb)
  have HWv6 := Lib.hid (oo.mono (Q := (· < v6.heap.size)) fun _ _ h => h)
  clear oo
  clear bb HBv5 HR0v5 Hs0v5 Hs1v5
  clear Hs0v6
  clear Hs1v6
  have hswR : w.heap.size < v6.heap.size := by omega
  have qR00 := HR0v6.out.c0
  go_wp2_with fail
  clear qR00
  refine calls_at (fun V => (v6.heap.size < V.heap.size) ∧ (Below w.heap.size w V) ∧ (SlAt V w.heap.size 45 A0 l0 ca0) ∧ (RdR V (· < v6.heap.size) X Y wA wc wB wd) ∧ (RatAt V v6.heap.size 31 N wA X.length wc wB Y.length wd))
    ⟨by simp, below_on HBv6.out (below1 _ _), HR0v6.out.on (below1 _ _), HWv6.out.on (below1 _ _), RatAt.new _ _ _ _ _ _ _ _ _⟩ ?_
  rintro v7 ⟨sv7, pB, pR0, pW, pwb⟩
  have HBv7 := Lib.hid pB
  have HR0v7 := Lib.hid pR0
  have HWv7 := Lib.hid pW
  have Hwbv7 := Lib.hid pwb
  clear pB pR0 pW pwb HBv6 HR0v6 HWv6
  refine (toExpr_own A0 l0 ca0 ns0 v7 ((HNk.out.below HBv7.out).mono (Q := (· < v7.heap.size)) fun _ h _ => Nat.lt_of_lt_of_le h HBv7.out.size) hc0).mono ?_
  rintro e v8 ⟨xA0, xc0, rfl, oo, bb⟩
  have sv8 : v7.heap.size ≤ v8.heap.size := bb.size
  have HBv8 := Lib.hid (below_on HBv7.out bb)
  have HR0v8 := Lib.hid (HR0v7.out.on bb)
  have HWv8 := Lib.hid (HWv7.out.on bb)
  have Hwbv8 := Lib.hid (Hwbv7.out.on bb)
  have Hx0v8 := Lib.hid oo
  clear oo
  clear bb HBv7 HR0v7 HWv7 Hwbv7
  have HROW0 := Lib.hid Hx0v8.out.row
  go_wp2_with fail
  refine calls_at (fun V => (v8.heap.size < V.heap.size) ∧ (Below w.heap.size w V) ∧ (SlAt V w.heap.size 45 A0 l0 ca0) ∧ (RdR V (· < v6.heap.size) X Y wA wc wB wd) ∧ (RatAt V v6.heap.size 31 N wA X.length wc wB Y.length wd) ∧ (MineN V v7.heap.size 114 xA0 l0 xc0 ns0) ∧ (SlAt V v8.heap.size 25 xA0 l0 xc0))
    ⟨by simp, below_on HBv8.out (below1 _ _), HR0v8.out.on (below1 _ _), HWv8.out.on (below1 _ _), Hwbv8.out.on (below1 _ _), Hx0v8.out.on (below1 _ _), SlAt.new _ _ _ _ _⟩ ?_
  rintro v9 ⟨sv9, pB, pR0, pW, pwb, px0, pxb0⟩
  have HBv9 := Lib.hid pB
  have HR0v9 := Lib.hid pR0
  have HWv9 := Lib.hid pW
  have Hwbv9 := Lib.hid pwb
  have Hx0v9 := Lib.hid px0
  have Hxb0v9 := Lib.hid pxb0
  clear pB pR0 pW pwb px0 pxb0 HBv8 HR0v8 HWv8 Hwbv8 Hx0v8
  refine (toRatS_own A1 _ ca1 r1 v9 ((HRk1.out.below HBv9.out).mono (Q := (· < v9.heap.size)) fun _ h _ => Nat.lt_of_lt_of_le h HBv9.out.size) HMk1.out (by omega)).mono ?_
  rintro e v10 ⟨xA1, xc1, xL1, rfl, oo, ev, bb⟩
  have sv10 : v9.heap.size ≤ v10.heap.size := bb.size
  have HBv10 := Lib.hid (below_on HBv9.out bb)
  have HR0v10 := Lib.hid (HR0v9.out.on bb)
  have HWv10 := Lib.hid (HWv9.out.on bb)
  have Hwbv10 := Lib.hid (Hwbv9.out.on bb)
  have Hx0v10 := Lib.hid (Hx0v9.out.on bb)
  have Hxb0v10 := Lib.hid (Hxb0v9.out.on bb)
  have Hx1v10 := Lib.hid oo
  have HEx1 := Lib.hid ev
  clear oo ev
  clear bb HBv9 HR0v9 HWv9 Hwbv9 Hx0v9 Hxb0v9
  have qxb00 := Hxb0v10.out.c0
  go_wp2_with fail
  clear qxb00
  have HLX1 := Lib.hid Hx1v10.out.lt
  refine (HI.out xA0 xc0 xA1 xc1 v10 HBv10.out Hx0v10.out.1.all (by have h := Hx1v10.out.rd.all; rw [HEx1.out] at h; exact h)).mono ?_
  rintro e v11 ⟨gA, gc, gB, gd, rfl, oo, bb⟩
  have sv11 : v10.heap.size ≤ v11.heap.size := bb.size
  have HBv11 := Lib.hid (below_on HBv10.out bb)
  have HR0v11 := Lib.hid (HR0v10.out.on bb)
  have HWv11 := Lib.hid (HWv10.out.on bb)
  have Hwbv11 := Lib.hid (Hwbv10.out.on bb)
  have Hx0v11 := Lib.hid (Hx0v10.out.on bb)
  have Hxb0v11 := Lib.hid (Hxb0v10.out.on bb)
  have Hx1v11 := Lib.hid (Hx1v10.out.on bb)
  have HGv11 := Lib.hid oo
  clear oo
  clear bb HBv10 HR0v10 HWv10 Hwbv10 Hx0v10 Hxb0v10 Hx1v10
  have hsw : v6.heap.size < v11.heap.size := by omega
  have qwb0 := Hwbv11.out.c0
  have qwb1 := Hwbv11.out.c1
  have qwb2 := Hwbv11.out.c2
  go_wp2_with fail
  clear qwb0 qwb1 qwb2
  refine calls_at (fun V => (v11.heap.size < V.heap.size) ∧ (Below w.heap.size w V) ∧ (SlAt V w.heap.size 45 A0 l0 ca0) ∧ (RdR V (· < v6.heap.size) X Y wA wc wB wd) ∧ (RatAt V v6.heap.size 31 N wA X.length wc wB Y.length wd) ∧ (MineN V v7.heap.size 114 xA0 l0 xc0 ns0) ∧ (SlAt V v8.heap.size 25 xA0 l0 xc0) ∧ (OwnV 31 3 V v9.heap.size xA1 r1.length xc1 xL1) ∧ (OwnR 3 V v10.heap.size X Y gA gc gB gd) ∧ (RatAt V v11.heap.size 31 N gA X.length gc gB Y.length gd))
    ⟨by simp, below_on HBv11.out (below1 _ _), HR0v11.out.on (below1 _ _), HWv11.out.on (below1 _ _), Hwbv11.out.on (below1 _ _), Hx0v11.out.on (below1 _ _), Hxb0v11.out.on (below1 _ _), Hx1v11.out.on (below1 _ _), HGv11.out.on (below1 _ _), RatAt.new _ _ _ _ _ _ _ _ _⟩ ?_
  rintro v12 ⟨sv12, pB, pR0, pW, pwb, px0, pxb0, px1, pG, pgb⟩
  have HBv12 := Lib.hid pB
  have HR0v12 := Lib.hid pR0
  have HWv12 := Lib.hid pW
  have Hwbv12 := Lib.hid pwb
  have Hx0v12 := Lib.hid px0
  have Hxb0v12 := Lib.hid pxb0
  have Hx1v12 := Lib.hid px1
  have HGv12 := Lib.hid pG
  have Hgbv12 := Lib.hid pgb
  clear pB pR0 pW pwb px0 pxb0 px1 pG pgb HBv11 HR0v11 HWv11 Hwbv11 Hx0v11 Hxb0v11 Hx1v11 HGv11
  refine (eqRat_same N gA gB wA wB gc gd wc wd X Y _ _ v12 HGv12.out.rdt HWv12.out (by omega) (by omega)).mono ?_
  rintro e v13 ⟨rfl, bb⟩
  have sv13 : v12.heap.size ≤ v13.heap.size := bb.size
  have HBv13 := Lib.hid (below_on HBv12.out bb)
  have HR0v13 := Lib.hid (HR0v12.out.on bb)
  have HWv13 := Lib.hid (HWv12.out.on bb)
  have Hwbv13 := Lib.hid (Hwbv12.out.on bb)
  have Hx0v13 := Lib.hid (Hx0v12.out.on bb)
  have Hxb0v13 := Lib.hid (Hxb0v12.out.on bb)
  have Hx1v13 := Lib.hid (Hx1v12.out.on bb)
  have HGv13 := Lib.hid (HGv12.out.on bb)
  have Hgbv13 := Lib.hid (Hgbv12.out.on bb)
  clear bb HBv12 HR0v12 HWv12 Hwbv12 Hx0v12 Hxb0v12 Hx1v12 HGv12 Hgbv12
  go_wp2_with fail
  go_region_held3 (fun wx => wx.cell? ⟨v8.heap.size, 0, none⟩ = some (.slice xA0 l0 xc0) ∧ wx.cell? ⟨w.heap.size, 0, none⟩ = some (.slice A0 l0 ca0))
    (first | with_reducible exact ⟨Hxb0v13.out.c0, HR0v13.out.c0⟩ | with_reducible exact ⟨Hxb0v14.out.c0, HR0v14.out.c0⟩ | with_reducible exact ⟨Hxb0v15.out.c0, HR0v15.out.c0⟩ | exact ⟨Hxb0v13.out.c0, HR0v13.out.c0⟩ | exact ⟨Hxb0v14.out.c0, HR0v14.out.c0⟩ | exact ⟨Hxb0v15.out.c0, HR0v15.out.c0⟩)
    (first
      | (go_at_call 21; refine (toExpr_any A0 l0 ca0 ns0 _ (by exact ((HNk.out.below HBv13.out).mono (Q := (· < v13.heap.size)) fun _ h _ => Nat.lt_of_lt_of_le h HBv13.out.size).drew) hc0).mono ?_; rintro e v14 ⟨zA0, zc0, rfl, oo, bb⟩; have bb := undrew bb; have sv14 : v13.heap.size ≤ v14.heap.size := bb.size; have HBv14 := Lib.hid (below_on HBv13.out bb); have HR0v14 := Lib.hid (HR0v13.out.on bb); have HWv14 := Lib.hid (HWv13.out.on bb); have Hwbv14 := Lib.hid (Hwbv13.out.on bb); have Hx0v14 := Lib.hid (Hx0v13.out.on bb); have Hxb0v14 := Lib.hid (Hxb0v13.out.on bb); have Hx1v14 := Lib.hid (Hx1v13.out.on bb); have HGv14 := Lib.hid (HGv13.out.on bb); have Hgbv14 := Lib.hid (Hgbv13.out.on bb); have HZ0 : Hid (RdN v14 (fun _ => True) zA0 l0 zc0 ns0) := Lib.hid oo.all; clear oo bb)
      | (go_at_call 24; refine (eqExpr_same xA0 zA0 l0 xc0 zc0 ns0 _ _ _ (by exact Hx0v14.out.1) (by exact HZ0.out) hc0).mono ?_; rintro e v15 ⟨rfl, bb⟩; have sv15 : v14.heap.size ≤ v15.heap.size := bb.size; have HBv15 := Lib.hid (below_on HBv14.out bb); have HR0v15 := Lib.hid (HR0v14.out.on bb); have HWv15 := Lib.hid (HWv14.out.on bb); have Hwbv15 := Lib.hid (Hwbv14.out.on bb); have Hx0v15 := Lib.hid (Hx0v14.out.on bb); have Hxb0v15 := Lib.hid (Hxb0v14.out.on bb); have Hx1v15 := Lib.hid (Hx1v14.out.on bb); have HGv15 := Lib.hid (HGv14.out.on bb); have Hgbv15 := Lib.hid (Hgbv14.out.on bb); clear bb))
  go_wp2_with fail
  refine (toRatS_any A1 _ ca1 r1 v15 ((HRk1.out.below HBv15.out).mono (Q := (· < v15.heap.size)) fun _ h _ => Nat.lt_of_lt_of_le h HBv15.out.size) HMk1.out (by omega)).mono ?_
  rintro e v16 ⟨zA1, zc1, rfl, oo, bb⟩
  have sv16 : v15.heap.size ≤ v16.heap.size := bb.size
  have HBv16 := Lib.hid (below_on HBv15.out bb)
  have HR0v16 := Lib.hid (HR0v15.out.on bb)
  have HWv16 := Lib.hid (HWv15.out.on bb)
  have Hwbv16 := Lib.hid (Hwbv15.out.on bb)
  have Hx0v16 := Lib.hid (Hx0v15.out.on bb)
  have Hxb0v16 := Lib.hid (Hxb0v15.out.on bb)
  have Hx1v16 := Lib.hid (Hx1v15.out.on bb)
  have HGv16 := Lib.hid (HGv15.out.on bb)
  have Hgbv16 := Lib.hid (Hgbv15.out.on bb)
  have Hz1v16 := Lib.hid oo.all
  clear oo
  clear bb HBv15 HR0v15 HWv15 Hwbv15 Hx0v15 Hxb0v15 Hx1v15 HGv15 Hgbv15
  go_wp2_with fail
  refine (eqRatS_same xA1 zA1 _ xc1 zc1 r1 _ _ v16 (by have h := Hx1v16.out.rd.all; rw [HEx1.out] at h; exact h) Hz1v16.out HMk1.out (by omega)).mono ?_
  rintro e v17 ⟨rfl, bb⟩
  have sv17 : v16.heap.size ≤ v17.heap.size := bb.size
  have HBv17 := Lib.hid (below_on HBv16.out bb)
  have HR0v17 := Lib.hid (HR0v16.out.on bb)
  have HWv17 := Lib.hid (HWv16.out.on bb)
  have Hwbv17 := Lib.hid (Hwbv16.out.on bb)
  have Hx0v17 := Lib.hid (Hx0v16.out.on bb)
  have Hxb0v17 := Lib.hid (Hxb0v16.out.on bb)
  have Hx1v17 := Lib.hid (Hx1v16.out.on bb)
  have HGv17 := Lib.hid (HGv16.out.on bb)
  have Hgbv17 := Lib.hid (Hgbv16.out.on bb)
  have Hz1v17 := Lib.hid (Hz1v16.out.on bb)
  clear bb HBv16 HR0v16 HWv16 Hwbv16 Hx0v16 Hxb0v16 Hx1v16 HGv16 Hgbv16 Hz1v16
  clear Hz1v17
  have qxb00 := Hxb0v17.out.c0
  go_wp2_with fail
  clear qxb00
  refine (markExpr_any xA0 l0 xc0 ns0 1 v7.heap.size v17 Hx0v17.out hc0 (by omega)).mono ?_
  rintro e v18 ⟨rfl, -, oo⟩
  have bl := mark_below oo HROW0.out (by omega)
  have up : ∀ b, v10.heap.size ≤ b → b < v17.heap.size → v18.heap[b]? = v17.heap[b]? := fun b hN hlt => (mark_keep oo HROW0.out).2 b hlt (.inr (by omega))
  have sv18 : v17.heap.size ≤ v18.heap.size := bl.size
  have HBv18 := Lib.hid (HBv17.out.trans (bl.mono (by omega)))
  have HR0v18 := Lib.hid (HR0v17.out.under (by omega) bl)
  have HWv18 := Lib.hid (HWv17.out.below (bl.mono (by omega)))
  have Hwbv18 := Lib.hid (Hwbv17.out.underX (by omega) bl)
  have Hx1v18 := Lib.hid (Hx1v17.out.farX fun b hN hlt => (mark_keep oo HROW0.out).2 b hlt (.inr (by omega)))
  have HGv18 := Lib.hid (HGv17.out.farX up)
  have Hgbv18 : Hid (RatAt v18 v11.heap.size 31 N gA X.length gc gB Y.length gd) := ((up _ (by omega) Hgbv17.out.lt).trans Hgbv17.out)
  clear bl up oo HBv17 HR0v17 HWv17 Hwbv17 Hx0v17 Hxb0v17 Hx1v17 HGv17 Hgbv17
  have hkq : 0 ≤ ((1 + 4 * l0 : Nat) : Int) ∧ ((1 + 4 * l0 : Nat) : Int) ≤ 4194305 := by omega
  generalize ((1 + 4 * l0 : Nat) : Int) = kq0 at *
  obtain ⟨hkq1, hkq2⟩ := hkq
  go_wp2_with fail
  obtain ⟨mk1, hmk1⟩ : ∃ m : Nat, (m : Int) = kq0 := ⟨(kq0).toNat, by omega⟩
  rw [← hmk1]
  have HMK1 := Lib.hid hmk1
  have hmb1 : mk1 ≤ 5000000 := by omega
  clear hmk1
  refine (markRatS_any xA1 _ xc1 xL1 mk1 _ v18 Hx1v18.out (by rw [HEx1.out]; omega) (by omega) (by omega)).mono ?_
  rintro e v19 ⟨rfl, oo⟩
  have bl := oo.2.below Hx1v18.out (by omega)
  have up : ∀ b, v10.heap.size ≤ b → b < v18.heap.size → v19.heap[b]? = v18.heap[b]? := oo.2.beyond HLX1.out
  have sv19 : v18.heap.size ≤ v19.heap.size := bl.size
  have HBv19 := Lib.hid (HBv18.out.trans (bl.mono (by omega)))
  have HR0v19 := Lib.hid (HR0v18.out.under (by omega) bl)
  have HWv19 := Lib.hid (HWv18.out.below (bl.mono (by omega)))
  have Hwbv19 := Lib.hid (Hwbv18.out.underX (by omega) bl)
  have HGv19 := Lib.hid (HGv18.out.farX up)
  have Hgbv19 : Hid (RatAt v19 v11.heap.size 31 N gA X.length gc gB Y.length gd) := ((up _ (by omega) Hgbv18.out.lt).trans Hgbv18.out)
  rw [HEx1.out]
  clear bl up oo HBv18 HR0v18 HWv18 Hwbv18 Hx1v18 HGv18 Hgbv18
  have hmv1 : 0 ≤ (mk1 : Int) + (r1.length : Int) + (tot r1 : Int) := by omega
  have qgb0 := Hgbv19.out.c0
  have qgb1 := Hgbv19.out.c1
  have qgb2 := Hgbv19.out.c2
  have qwb0 := Hwbv19.out.c0
  have qwb1 := Hwbv19.out.c1
  have qwb2 := Hwbv19.out.c2
  go_wp2_with fail
  clear qgb0 qgb1 qgb2 qwb0 qwb1 qwb2
  refine (eqRat_same N gA gB wA wB gc gd wc wd X Y _ _ v19 HGv19.out.rdt HWv19.out (by omega) (by omega)).mono ?_
  rintro e v20 ⟨rfl, bb⟩
  have sv20 : v19.heap.size ≤ v20.heap.size := bb.size
  have HBv20 := Lib.hid (below_on HBv19.out bb)
  have HR0v20 := Lib.hid (HR0v19.out.on bb)
  have HWv20 := Lib.hid (HWv19.out.on bb)
  have Hwbv20 := Lib.hid (Hwbv19.out.on bb)
  have HGv20 := Lib.hid (HGv19.out.on bb)
  have Hgbv20 := Lib.hid (Hgbv19.out.on bb)
  clear bb HBv19 HR0v19 HWv19 Hwbv19 HGv19 Hgbv19
  have qgb0 := Hgbv20.out.c0
  have qgb1 := Hgbv20.out.c1
  have qgb2 := Hgbv20.out.c2
  go_wp2_with fail
  clear qgb0 qgb1 qgb2
  refine (markRat_any N gA gB gc gd X Y 1 _ v20 HGv20.out (by omega) (by omega) (by omega) (by omega)).mono ?_
  rintro e v21 ⟨rfl, oo⟩
  have bl := oo.2.below HGv20.out (by omega)
  have sv21 : v20.heap.size ≤ v21.heap.size := bl.size
  have HBv21 := Lib.hid (HBv20.out.trans (bl.mono (by omega)))
  have HR0v21 := Lib.hid (HR0v20.out.under (by omega) bl)
  have HWv21 := Lib.hid (HWv20.out.below (bl.mono (by omega)))
  have Hwbv21 := Lib.hid (Only.at_ oo.2 HGv20.out (by decide) Hwbv20.out)
  have Hgbv21 := Lib.hid (Only.at_ oo.2 HGv20.out (by decide) Hgbv20.out)
  have HMv21 := Lib.hid oo.1.rdt
  clear bl oo HBv20 HR0v20 HWv20 Hwbv20 HGv20 Hgbv20
  have hq0 : 0 ≤ 1 + (X.length : Int) + (Y.length : Int) := by omega
  have hqq : (1 + (X.length : Int) + (Y.length : Int) != 1 + (X.length : Int) + (Y.length : Int)) = false := by simp
  have qgb0 := Hgbv21.out.c0
  have qgb1 := Hgbv21.out.c1
  have qgb2 := Hgbv21.out.c2
  go_wp2_with fail
  clear qgb0 qgb1 qgb2
  refine (heldRat_any N gA gB gc gd _ _ 1 _ v21 HMv21.out (by omega) (by omega) (by omega) (by omega)).mono ?_
  rintro e v22 ⟨rfl, bb⟩
  have sv22 : v21.heap.size ≤ v22.heap.size := bb.size
  have HBv22 := Lib.hid (below_on HBv21.out bb)
  have HR0v22 := Lib.hid (HR0v21.out.on bb)
  have HWv22 := Lib.hid (HWv21.out.on bb)
  have Hwbv22 := Lib.hid (Hwbv21.out.on bb)
  have Hgbv22 := Lib.hid (Hgbv21.out.on bb)
  have HMv22 := Lib.hid (HMv21.out.on bb)
  clear bb HBv21 HR0v21 HWv21 Hwbv21 Hgbv21 HMv21
  have qR00 := HR0v22.out.c0
  go_wp2_with fail
  clear qR00
  refine (toExpr_any A0 l0 ca0 ns0 v22 ((HNk.out.below HBv22.out).mono (Q := (· < v22.heap.size)) fun _ h _ => Nat.lt_of_lt_of_le h HBv22.out.size) hc0).mono ?_
  rintro e v23 ⟨hA0, hc0, rfl, oo, bb⟩
  have sv23 : v22.heap.size ≤ v23.heap.size := bb.size
  have HBv23 := Lib.hid (below_on HBv22.out bb)
  have HR0v23 := Lib.hid (HR0v22.out.on bb)
  have HWv23 := Lib.hid (HWv22.out.on bb)
  have Hwbv23 := Lib.hid (Hwbv22.out.on bb)
  have Hgbv23 := Lib.hid (Hgbv22.out.on bb)
  have HMv23 := Lib.hid (HMv22.out.on bb)
  have Hh0v23 := Lib.hid oo.all
  clear oo
  clear bb HBv22 HR0v22 HWv22 Hwbv22 Hgbv22 HMv22
  go_wp2_with fail
  refine (toRatS_any A1 _ ca1 r1 v23 ((HRk1.out.below HBv23.out).mono (Q := (· < v23.heap.size)) fun _ h _ => Nat.lt_of_lt_of_le h HBv23.out.size) HMk1.out (by omega)).mono ?_
  rintro e v24 ⟨hA1, hc1, rfl, oo, bb⟩
  have sv24 : v23.heap.size ≤ v24.heap.size := bb.size
  have HBv24 := Lib.hid (below_on HBv23.out bb)
  have HR0v24 := Lib.hid (HR0v23.out.on bb)
  have HWv24 := Lib.hid (HWv23.out.on bb)
  have Hwbv24 := Lib.hid (Hwbv23.out.on bb)
  have Hgbv24 := Lib.hid (Hgbv23.out.on bb)
  have HMv24 := Lib.hid (HMv23.out.on bb)
  have Hh0v24 := Lib.hid (Hh0v23.out.on bb)
  have Hh1v24 := Lib.hid oo.all
  clear oo
  clear bb HBv23 HR0v23 HWv23 Hwbv23 Hgbv23 HMv23 Hh0v23
  go_wp2_with fail
  refine (HI.out hA0 hc0 hA1 hc1 v24 HBv24.out Hh0v24.out Hh1v24.out).mono ?_
  rintro e v25 ⟨kA, kc, kB, kd, rfl, oo, bb⟩
  have sv25 : v24.heap.size ≤ v25.heap.size := bb.size
  have HBv25 := Lib.hid (below_on HBv24.out bb)
  have HR0v25 := Lib.hid (HR0v24.out.on bb)
  have HWv25 := Lib.hid (HWv24.out.on bb)
  have Hwbv25 := Lib.hid (Hwbv24.out.on bb)
  have Hgbv25 := Lib.hid (Hgbv24.out.on bb)
  have HMv25 := Lib.hid (HMv24.out.on bb)
  have Hh0v25 := Lib.hid (Hh0v24.out.on bb)
  have Hh1v25 := Lib.hid (Hh1v24.out.on bb)
  have HHv25 := Lib.hid oo.rdt
  clear oo
  clear bb HBv24 HR0v24 HWv24 Hwbv24 Hgbv24 HMv24 Hh0v24 Hh1v24
  clear Hh0v25
  clear Hh1v25
  have hsw2 : v6.heap.size < v25.heap.size := by omega
  have qwb0 := Hwbv25.out.c0
  have qwb1 := Hwbv25.out.c1
  have qwb2 := Hwbv25.out.c2
  go_wp2_with fail
  clear qwb0 qwb1 qwb2
  refine calls_at (fun V => (v25.heap.size < V.heap.size) ∧ (Below w.heap.size w V) ∧ (SlAt V w.heap.size 45 A0 l0 ca0) ∧ (RdR V (· < v6.heap.size) X Y wA wc wB wd) ∧ (RatAt V v6.heap.size 31 N wA X.length wc wB Y.length wd) ∧ (RatAt V v11.heap.size 31 N gA X.length gc gB Y.length gd) ∧ (RdR V (fun _ => True) (marks 1 X.length) (marks (1 + X.length) Y.length) gA gc gB gd) ∧ (RdR V (fun _ => True) X Y kA kc kB kd) ∧ (RatAt V v25.heap.size 31 N kA X.length kc kB Y.length kd))
    ⟨by simp, below_on HBv25.out (below1 _ _), HR0v25.out.on (below1 _ _), HWv25.out.on (below1 _ _), Hwbv25.out.on (below1 _ _), Hgbv25.out.on (below1 _ _), HMv25.out.on (below1 _ _), HHv25.out.on (below1 _ _), RatAt.new _ _ _ _ _ _ _ _ _⟩ ?_
  rintro v26 ⟨sv26, pB, pR0, pW, pwb, pgb, pM, pH, phb⟩
  have HBv26 := Lib.hid pB
  have HR0v26 := Lib.hid pR0
  have HWv26 := Lib.hid pW
  have Hwbv26 := Lib.hid pwb
  have Hgbv26 := Lib.hid pgb
  have HMv26 := Lib.hid pM
  have HHv26 := Lib.hid pH
  have Hhbv26 := Lib.hid phb
  clear pB pR0 pW pwb pgb pM pH phb HBv25 HR0v25 HWv25 Hwbv25 Hgbv25 HMv25 HHv25
  refine (eqRat_same N kA kB wA wB kc kd wc wd X Y _ _ v26 HHv26.out HWv26.out (by omega) (by omega)).mono ?_
  rintro e v27 ⟨rfl, bb⟩
  have sv27 : v26.heap.size ≤ v27.heap.size := bb.size
  have HBv27 := Lib.hid (below_on HBv26.out bb)
  have HR0v27 := Lib.hid (HR0v26.out.on bb)
  have HWv27 := Lib.hid (HWv26.out.on bb)
  have Hwbv27 := Lib.hid (Hwbv26.out.on bb)
  have Hgbv27 := Lib.hid (Hgbv26.out.on bb)
  have HMv27 := Lib.hid (HMv26.out.on bb)
  have HHv27 := Lib.hid (HHv26.out.on bb)
  have Hhbv27 := Lib.hid (Hhbv26.out.on bb)
  clear bb HBv26 HR0v26 HWv26 Hwbv26 Hgbv26 HMv26 HHv26 Hhbv26
  have qgb0 := Hgbv27.out.c0
  have qgb1 := Hgbv27.out.c1
  have qgb2 := Hgbv27.out.c2
  go_wp2_with fail
  clear qgb0 qgb1 qgb2
  refine (heldRat_any N gA gB gc gd _ _ 1 _ v27 HMv27.out (by omega) (by omega) (by omega) (by omega)).mono ?_
  rintro e v28 ⟨rfl, bb⟩
  have sv28 : v27.heap.size ≤ v28.heap.size := bb.size
  have HBv28 := Lib.hid (below_on HBv27.out bb)
  have HR0v28 := Lib.hid (HR0v27.out.on bb)
  have HWv28 := Lib.hid (HWv27.out.on bb)
  have Hwbv28 := Lib.hid (Hwbv27.out.on bb)
  have Hgbv28 := Lib.hid (Hgbv27.out.on bb)
  have HMv28 := Lib.hid (HMv27.out.on bb)
  have HHv28 := Lib.hid (HHv27.out.on bb)
  have Hhbv28 := Lib.hid (Hhbv27.out.on bb)
  clear bb HBv27 HR0v27 HWv27 Hwbv27 Hgbv27 HMv27 HHv27 Hhbv27
  go_wp2
  go_ret
  exact ⟨rfl, HBv28.out⟩

set_option maxHeartbeats 3200000 in
theorem lawValueOf_any (A0 : Option Addr) (l0 ca0 : Nat) (ns0 : List Nd) (A1 : Option Addr) (la1 ca1 : Nat) (r1 : List R3) (w : World) (hr0 : RdN w (· < w.heap.size) A0 l0 ca0 ns0) (hn0 : l0 ≤ 9223372036854775807) (hr1 : RdS w (· < w.heap.size) A1 la1 ca1 r1) (hs1 : Short r1) (hn1 : la1 ≤ 9223372036854775807) (ad : Addr) (hE : ErrAt 195 w ad) :
    Calls Tryz.prog 4 #[.agg #[.slice A0 l0 ca0], .slice A1 la1 ca1] w fun e w' => e = .returned (.bool true) ∧ Below w.heap.size w w' := by
  by_cases hb0 : (1048576 : Int) < l0
  · clear hr0 hr1 hs1 hE
    go_enter Tryz.func4, Tryz.ntmps4
    go_wp2_with fail
    refine calls_at (fun V => Below w.heap.size w V) (below1 _ _) ?_
    intro v1 hb1
    refine (szExpr_any A0 l0 ca0 1048576 v1 hn0 (by omega) (by omega)).mono ?_
    rintro e v2 ⟨rfl, b2⟩
    have HB2 := Lib.hid (below_on hb1 b2)
    rw [show szN 1048576 l0 = -1 from if_pos (by omega)]
    clear hb1 b2 hb0
    go_wp2
    go_ret
    exact ⟨rfl, HB2.out⟩
  have hc0 : l0 ≤ 1048576 := by omega
  obtain rfl := hr1.len
  have hlen0 : ns0.length = l0 := hr0.len
  by_cases hbv : (1048576 : Int) - l0 < r1.length + tot r1
  · have HR := Lib.hid hr1
    have HS := Lib.hid hs1
    clear hr0 hr1 hs1 hE
    have HZ := Lib.hid (szS_big hbv)
    have hp : 0 ≤ (1048576 : Int) - l0 := by omega
    have hp2 : (1048576 : Int) - l0 ≤ 1048576 := by omega
    clear hbv
    go_enter Tryz.func4, Tryz.ntmps4
    go_wp2_with fail
    refine calls_at (fun V => Below w.heap.size w V) (below1 _ _) ?_
    intro v1 hb1
    refine (szExpr_any A0 l0 ca0 1048576 v1 hn0 (by omega) (by omega)).mono ?_
    rintro e v2 ⟨rfl, b2⟩
    have HB2 := Lib.hid (below_on hb1 b2)
    rw [show szN 1048576 l0 = 1048576 - (l0 : Int) from if_neg (by omega)]
    clear hb1 b2 hb0
    go_wp2_with fail
    refine (szRatS_any A1 _ ca1 r1 _ v2 ((HR.out.below HB2.out).mono (Q := (· < v2.heap.size)) fun _ h _ => Nat.lt_of_lt_of_le h HB2.out.size) HS.out hn1 hp hp2).mono ?_
    rintro e v3 ⟨rfl, b3⟩
    rw [HZ.out]
    have HB3 := Lib.hid (below_on HB2.out b3)
    clear b3
    go_wp2
    go_ret
    exact ⟨rfl, HB3.out⟩
  have hsm : Small r1 := small_tot (by omega)
  have hsz : l0 + (r1.length + tot r1) ≤ 1048576 := by omega
  by_cases h0 : ptCode (okE ns0) ns0 r1.length r1 = 0
  · obtain ⟨h4, hright, hok, hdim⟩ := ptCode_zero h0
    obtain ⟨_, hl4, qs, rfl, hf⟩ := okV_out hok
    obtain ⟨hg, h1, h60⟩ := okE_at hlen0 hright hdim
    obtain ⟨js, code, hR⟩ : ∃ js code, evalJ (qs.map Jt.fx) ns0 = (js, code) := ⟨_, _, rfl⟩
    have hQ := eval_noughts qs ns0 qs.length
    rw [hR] at hQ
    dsimp only at hQ
    by_cases hc : code = 0
    · subst hc
      have hlim := last_lim hlen0 h1 hR
      have hx1 := hlim.1
      have hx2 := hlim.2
      refine lawValueOf_core (isNeg (numJ (js.getD (l0 - 1) j0) 0)) (D (nu (numJ (js.getD (l0 - 1) j0) 0))) (D (numJ (js.getD (l0 - 1) j0) 0).den) 0 ns0 A0 l0 ca0 A1 ca1 _ w (by omega) (by omega) (fun a0 c0 a1 c1 W h1 h2 => ?_) (fun a0 c0 a1 c1 W hb h1 h2 => ?_) hr0 hr1 hs1 hsz
      · rw [List.length_map] at h2 ⊢
        refine (specValueOf_ok a0 a1 l0 c0 _ c1 ns0 qs _ _ W h1 h2 hf hc0 (by rw [List.length_map] at hsz; omega) (by rw [List.length_map] at h0; exact h0) _ _ hQ).mono fun e w' h => ?_
        rcases h with ⟨-, h⟩ | ⟨h, -⟩
        · rw [getD_r4] at h; exact h
        · exact absurd rfl h
      · rw [List.length_map] at h2 ⊢
        refine (implValueOf_ok a0 a1 l0 c0 _ c1 ns0 qs _ _ W ad (hE.on hb) h1 h2 hf hc0 (by rw [List.length_map] at hsz; omega) (by rw [List.length_map] at h0; exact h0) _ _ hR).mono fun e w' h => ?_
        rcases h with ⟨-, h⟩ | ⟨h, -⟩
        · exact h
        · exact absurd rfl h
    · refine lawValueOf_core false [] [] code ns0 A0 l0 ca0 A1 ca1 _ w (by decide) (by decide) (fun a0 c0 a1 c1 W h1 h2 => ?_) (fun a0 c0 a1 c1 W hb h1 h2 => ?_) hr0 hr1 hs1 hsz
      · rw [List.length_map] at h2 ⊢
        refine (specValueOf_ok a0 a1 l0 c0 _ c1 ns0 qs _ _ W h1 h2 hf hc0 (by rw [List.length_map] at hsz; omega) (by rw [List.length_map] at h0; exact h0) _ _ hQ).mono fun e w' h => ?_
        rcases h with ⟨h, -⟩ | ⟨-, h⟩
        · exact absurd h hc
        · exact h
      · rw [List.length_map] at h2 ⊢
        refine (implValueOf_ok a0 a1 l0 c0 _ c1 ns0 qs _ _ W ad (hE.on hb) h1 h2 hf hc0 (by rw [List.length_map] at hsz; omega) (by rw [List.length_map] at h0; exact h0) _ _ hR).mono fun e w' h => ?_
        rcases h with ⟨h, -⟩ | ⟨-, h⟩
        · exact absurd h hc
        · exact h
  · exact lawValueOf_core false [] [] _ ns0 A0 l0 ca0 A1 ca1 r1 w (by decide) (by decide) (fun a0 c0 a1 c1 W h1 h2 => specValueOf_code a0 a1 l0 c0 _ c1 ns0 r1 _ _ W h1 h2 hsm hc0 (by omega) _ rfl h0) (fun a0 c0 a1 c1 W hb h1 h2 => implValueOf_code a0 a1 l0 c0 _ c1 ns0 r1 _ _ W h1 h2 hsm hc0 (by omega) _ rfl h0) hr0 hr1 hs1 hsz
end Go.Proofs.YtifepoefeamboaaGreatDoor
