/-
  The law FnExactCurveOf: whatever the arguments, CurveOf answers as its model, writes into no argument, and what it answers is memory of its own. No condition.
-/
import Derived.Test.YtifepoefeamboaaGreatDoorGrpJ
import Derived.Test.YtifepoefeamboaaGreatDoorNodeMark
import Derived.Test.YtifepoefeamboaaGreatDoorTapeCopy
import Derived.Test.YtifepoefeamboaaGreatDoorGrpH
import Derived.ProofKit
import Derived.OpenShut
import Derived.ShutString
import Derived.ChangeOld
import Derived.Lib.SmallJoins
import Derived.Deep.RegionHeld3
namespace Nt
open Go Go.RowKit
theorem OwnV.farX {tr ti : TypeId} {w w' : World} {base n c : Nat} {V : Option Addr} {L : List EV} (h : OwnV tr ti w base V n c L) (hk : ∀ b, base ≤ b → b < w.heap.size → w'.heap[b]? = w.heap[b]?) : OwnV tr ti w' base V n c L := by
  refine ⟨?_, fun i hi => ?_, h.2.2⟩
  · rcases h.1 with ⟨h1, h2 | ⟨g, cap, cur, e', hb, hh, h3⟩⟩
    · exact ⟨h1, .inl h2⟩
    · have hlt : g < w.heap.size := by
        rcases Nat.lt_or_ge g w.heap.size with hlt | hge
        · exact hlt
        · rw [Array.getElem?_eq_none hge] at hh; cases hh
      exact ⟨h1, .inr ⟨g, cap, cur, e', hb, (hk g hb hlt).trans hh, h3⟩⟩
  · have ho := h.2.1 i hi
    exact ⟨own_at_block ho.1 fun g hg => hk g (own_block ho.1 hg).1 (own_block ho.1 hg).2, own_at_block ho.2.1 fun g hg => hk g (own_block ho.2.1 hg).1 (own_block ho.2.1 hg).2, ho.2.2⟩
theorem tot_ratsX : ∀ (ps : List Rat), (∀ p ∈ ps, fitQ p) → tot (ps.map rat3) ≤ 80 * ps.length
  | [], _ => Nat.le_refl _
  | p :: ps, h => by
    have ih := tot_ratsX ps fun q hq => h q (List.mem_cons_of_mem _ hq)
    have hp : (D (nu p)).length ≤ 40 ∧ (D p.den).length ≤ 40 := h p List.mem_cons_self
    rw [List.map_cons, tot_cons, List.length_cons]
    show (D (nu p)).length + (D p.den).length + _ ≤ _
    omega
theorem OwnR.farX {ti : TypeId} {w w' : World} {base : Nat} {xs ys : List Int} {A B : Option Addr} {ca cb : Nat} (h : OwnR ti w base xs ys A ca B cb) (hk : ∀ b, base ≤ b → b < w.heap.size → w'.heap[b]? = w.heap[b]?) : OwnR ti w' base xs ys A ca B cb :=
  ⟨own_at_block h.1 fun g hg => hk g (own_block h.1 hg).1 (own_block h.1 hg).2, own_at_block h.2.1 fun g hg => hk g (own_block h.2.1 hg).1 (own_block h.2.1 hg).2, h.2.2⟩
theorem OwnR.farB {ti : TypeId} {w w' : World} {base N : Nat} {xs ys : List Int} {A B : Option Addr} {ca cb : Nat} (h : OwnR ti w base xs ys A ca B cb) (hl : ∀ g, A = some ⟨g, 0, none⟩ ∨ B = some ⟨g, 0, none⟩ → g < N) (hb : Below N w w') : OwnR ti w' base xs ys A ca B cb :=
  ⟨own_at_block h.1 fun g hg => hb.block g (hl g (.inl hg)), own_at_block h.2.1 fun g hg => hb.block g (hl g (.inr hg)), h.2.2⟩
theorem RatAt.underX {w w' : World} {b N : Nat} {t : TypeId} {neg : Bool} {A B : Option Addr} {la ca lb cb : Nat} (h : RatAt w b t neg A la ca B lb cb) (hb : b < N) (hw : Below N w w') : RatAt w' b t neg A la ca B lb cb := (hw.block b hb).trans h
theorem TpAt.under {w w' : World} {b N n c : Nat} {t : TypeId} {A : Option Addr} {o : Int} (h : TpAt w b t A n c o) (hb : b < N) (hw : Below N w w') : TpAt w' b t A n c o := (hw.block b hb).trans h
theorem SlAt.under {w w' : World} {b N n c : Nat} {t : TypeId} {A : Option Addr} (h : SlAt w b t A n c) (hb : b < N) (hw : Below N w w') : SlAt w' b t A n c := (hw.block b hb).trans h
end Nt
namespace Go.Proofs.YtifepoefeamboaaGreatDoor
open Go Go.RowKit Nt
open Go.ChangeShapes Go.WideShapes Go.ChangeAt
open Go.ChangeMaps (open_string shut_string)

set_option linter.unusedSimpArgs false in
set_option maxRecDepth 20000 in
set_option maxHeartbeats 12800000 in
theorem lawCurveOf_core (res : List R3) (code : Int) (ns0 : List Nd) (A0 : Option Addr) (l0 ca0 : Nat) (A1 : Option Addr) (ca1 : Nat) (r1 : List R3) (A2 : Option Addr) (ca2 : Nat) (r2 : List R3) (w : World) (hres : res.length ≤ 100) (htot : tot res ≤ 100000)
    (hS : ∀ (a0 : Option Addr) (c0 : Nat) (a1 : Option Addr) (c1 : Nat) (a2 : Option Addr) (c2 : Nat) (W : World), RdN W (fun _ => True) a0 l0 c0 ns0 → RdS W (fun _ => True) a1 r1.length c1 r1 → RdS W (fun _ => True) a2 r2.length c2 r2 → Calls Tryz.prog 32 #[.agg #[.slice a0 l0 c0], .slice a1 r1.length c1, .slice a2 r2.length c2] W (SayVC W res code))
    (hI : ∀ (a0 : Option Addr) (c0 : Nat) (a1 : Option Addr) (c1 : Nat) (a2 : Option Addr) (c2 : Nat) (W : World), Below w.heap.size w W → RdN W (fun _ => True) a0 l0 c0 ns0 → RdS W (fun _ => True) a1 r1.length c1 r1 → RdS W (fun _ => True) a2 r2.length c2 r2 → Calls Tryz.prog 33 #[.agg #[.slice a0 l0 c0], .slice a1 r1.length c1, .slice a2 r2.length c2] W (RetVC 31 3 W res code))
    (hr0 : RdN w (· < w.heap.size) A0 l0 ca0 ns0) (hr1 : RdS w (· < w.heap.size) A1 r1.length ca1 r1) (hs1 : Short r1) (hr2 : RdS w (· < w.heap.size) A2 r2.length ca2 r2) (hs2 : Short r2) (hsz : l0 + (r1.length + tot r1) + (r2.length + tot r2) ≤ 1048576) :
    Calls Tryz.prog 7 #[.agg #[.slice A0 l0 ca0], .slice A1 r1.length ca1, .slice A2 r2.length ca2] w fun e w' => e = .returned (.bool true) ∧ Below w.heap.size w w' := by
  have HS := Lib.hid hS
  have HI := Lib.hid hI
  clear hS hI
  have HNk := Lib.hid hr0
  clear hr0
  have hc0 : l0 ≤ 1048576 := by omega
  have HRk1 := Lib.hid hr1
  have HSk1 := Lib.hid hs1
  have HMk1 := Lib.hid (small_tot (rs := r1) (by omega))
  clear hr1 hs1
  have HRk2 := Lib.hid hr2
  have HSk2 := Lib.hid hs2
  have HMk2 := Lib.hid (small_tot (rs := r2) (by omega))
  clear hr2 hs2
  have HRES := Lib.hid (small_tot (rs := res) (by omega))
  have hcc : (code != code) = false := by simp
  go_enter Tryz.func7, Tryz.ntmps7
  go_wp2_with fail
  refine calls_at (fun V => (Below w.heap.size w V) ∧ (SlAt V w.heap.size 45 A0 l0 ca0)) ⟨below1 _ _, SlAt.new _ _ _ _ _⟩ ?_
  rintro v1 ⟨pB, pR⟩
  have HBv1 := Lib.hid pB
  have HR0v1 := Lib.hid pR
  clear pB pR
  have sv1 : w.heap.size ≤ v1.heap.size := HBv1.out.size
  have hRlt : w.heap.size < v1.heap.size := HR0v1.out.lt
  refine (szExpr_any A0 l0 ca0 1048576 v1 (by omega) (by omega) (by omega)).mono ?_
  rintro e v2 ⟨rfl, bb⟩
  have sv2 : v1.heap.size ≤ v2.heap.size := bb.size
  have HBv2 := Lib.hid (below_on HBv1.out bb)
  have HR0v2 := Lib.hid (HR0v1.out.on bb)
  clear bb HBv1 HR0v1
  rw [show szN 1048576 l0 = 1048576 - (l0 : Int) from if_neg (by omega)]
  have hle0 : 0 ≤ 1048576 - (l0 : Int) := by omega
  go_wp2_with fail
  refine (szRatS_any A1 _ ca1 r1 (1048576 - (l0 : Int)) v2 ((HRk1.out.below HBv2.out).mono (Q := (· < v2.heap.size)) fun _ h _ => Nat.lt_of_lt_of_le h HBv2.out.size) HSk1.out (by omega) (by omega) (by omega)).mono ?_
  rintro e v3 ⟨rfl, bb⟩
  have sv3 : v2.heap.size ≤ v3.heap.size := bb.size
  have HBv3 := Lib.hid (below_on HBv2.out bb)
  have HR0v3 := Lib.hid (HR0v2.out.on bb)
  clear bb HBv2 HR0v2
  rw [szS_fit (by omega)]
  have hle1 : 0 ≤ 1048576 - (l0 : Int) - (r1.length : Int) - (tot r1 : Int) := by omega
  go_wp2_with fail
  refine (szRatS_any A2 _ ca2 r2 (1048576 - (l0 : Int) - (r1.length : Int) - (tot r1 : Int)) v3 ((HRk2.out.below HBv3.out).mono (Q := (· < v3.heap.size)) fun _ h _ => Nat.lt_of_lt_of_le h HBv3.out.size) HSk2.out (by omega) (by omega) (by omega)).mono ?_
  rintro e v4 ⟨rfl, bb⟩
  have sv4 : v3.heap.size ≤ v4.heap.size := bb.size
  have HBv4 := Lib.hid (below_on HBv3.out bb)
  have HR0v4 := Lib.hid (HR0v3.out.on bb)
  clear bb HBv3 HR0v3
  rw [szS_fit (by omega)]
  have hle2 : 0 ≤ 1048576 - (l0 : Int) - (r1.length : Int) - (tot r1 : Int) - (r2.length : Int) - (tot r2 : Int) := by omega
  have qR00 := HR0v4.out.c0
  go_wp2_with fail
  clear qR00
  refine (toExpr_any A0 l0 ca0 ns0 v4 ((HNk.out.below HBv4.out).mono (Q := (· < v4.heap.size)) fun _ h _ => Nat.lt_of_lt_of_le h HBv4.out.size) hc0).mono ?_
  rintro e v5 ⟨sA0, sc0, rfl, oo, bb⟩
  have sv5 : v4.heap.size ≤ v5.heap.size := bb.size
  have HBv5 := Lib.hid (below_on HBv4.out bb)
  have HR0v5 := Lib.hid (HR0v4.out.on bb)
  have Hs0v5 := Lib.hid oo.all
  clear oo
  clear bb HBv4 HR0v4
  go_wp2_with fail
  refine (toRatS_any A1 _ ca1 r1 v5 ((HRk1.out.below HBv5.out).mono (Q := (· < v5.heap.size)) fun _ h _ => Nat.lt_of_lt_of_le h HBv5.out.size) HMk1.out (by omega)).mono ?_
  rintro e v6 ⟨sA1, sc1, rfl, oo, bb⟩
  have sv6 : v5.heap.size ≤ v6.heap.size := bb.size
  have HBv6 := Lib.hid (below_on HBv5.out bb)
  have HR0v6 := Lib.hid (HR0v5.out.on bb)
  have Hs0v6 := Lib.hid (Hs0v5.out.on bb)
  have Hs1v6 := Lib.hid oo.all
  clear oo
  clear bb HBv5 HR0v5 Hs0v5
  go_wp2_with fail
  refine (toRatS_any A2 _ ca2 r2 v6 ((HRk2.out.below HBv6.out).mono (Q := (· < v6.heap.size)) fun _ h _ => Nat.lt_of_lt_of_le h HBv6.out.size) HMk2.out (by omega)).mono ?_
  rintro e v7 ⟨sA2, sc2, rfl, oo, bb⟩
  have sv7 : v6.heap.size ≤ v7.heap.size := bb.size
  have HBv7 := Lib.hid (below_on HBv6.out bb)
  have HR0v7 := Lib.hid (HR0v6.out.on bb)
  have Hs0v7 := Lib.hid (Hs0v6.out.on bb)
  have Hs1v7 := Lib.hid (Hs1v6.out.on bb)
  have Hs2v7 := Lib.hid oo.all
  clear oo
  clear bb HBv6 HR0v6 Hs0v6 Hs1v6
  go_wp2_with fail
  refine (HS.out sA0 sc0 sA1 sc1 sA2 sc2 v7 Hs0v7.out Hs1v7.out Hs2v7.out).mono ?_
  rintro e v8 ⟨wV, wd, rfl, oo, bb⟩
  have sv8 : v7.heap.size ≤ v8.heap.size := bb.size
  have HBv8 := Lib.hid (below_on HBv7.out bb)
  have HR0v8 := Lib.hid (HR0v7.out.on bb)
  have Hs0v8 := Lib.hid (Hs0v7.out.on bb)
  have Hs1v8 := Lib.hid (Hs1v7.out.on bb)
  have Hs2v8 := Lib.hid (Hs2v7.out.on bb)
  have HWv8 := Lib.hid oo.low
  clear oo
  clear bb HBv7 HR0v7 Hs0v7 Hs1v7 Hs2v7
  clear Hs0v8
  clear Hs1v8
  clear Hs2v8
  have qR00 := HR0v8.out.c0
  go_wp2_with fail
  clear qR00
  refine (toExpr_own A0 l0 ca0 ns0 v8 ((HNk.out.below HBv8.out).mono (Q := (· < v8.heap.size)) fun _ h _ => Nat.lt_of_lt_of_le h HBv8.out.size) hc0).mono ?_
  rintro e v9 ⟨xA0, xc0, rfl, oo, bb⟩
  have sv9 : v8.heap.size ≤ v9.heap.size := bb.size
  have HBv9 := Lib.hid (below_on HBv8.out bb)
  have HR0v9 := Lib.hid (HR0v8.out.on bb)
  have HWv9 := Lib.hid (HWv8.out.on bb)
  have Hx0v9 := Lib.hid oo
  clear oo
  clear bb HBv8 HR0v8 HWv8
  have HROW0 := Lib.hid Hx0v9.out.row
  go_wp2_with fail
  refine calls_at (fun V => (v9.heap.size ≤ V.heap.size) ∧ (Below w.heap.size w V) ∧ (SlAt V w.heap.size 45 A0 l0 ca0) ∧ (RdS V (· < v8.heap.size) wV res.length wd res) ∧ (MineN V v8.heap.size 114 xA0 l0 xc0 ns0) ∧ (SlAt V v9.heap.size 25 xA0 l0 xc0))
    ⟨(below1 _ _).size, below_on HBv9.out (below1 _ _), HR0v9.out.on (below1 _ _), HWv9.out.on (below1 _ _), Hx0v9.out.on (below1 _ _), SlAt.new _ _ _ _ _⟩ ?_
  rintro v10 ⟨sv10, pB, pR0, pW, px0, pxb0⟩
  have HBv10 := Lib.hid pB
  have HR0v10 := Lib.hid pR0
  have HWv10 := Lib.hid pW
  have Hx0v10 := Lib.hid px0
  have Hxb0v10 := Lib.hid pxb0
  clear pB pR0 pW px0 pxb0 HBv9 HR0v9 HWv9 Hx0v9
  refine (toRatS_own A1 _ ca1 r1 v10 ((HRk1.out.below HBv10.out).mono (Q := (· < v10.heap.size)) fun _ h _ => Nat.lt_of_lt_of_le h HBv10.out.size) HMk1.out (by omega)).mono ?_
  rintro e v11 ⟨xA1, xc1, xL1, rfl, oo, ev, bb⟩
  have sv11 : v10.heap.size ≤ v11.heap.size := bb.size
  have HBv11 := Lib.hid (below_on HBv10.out bb)
  have HR0v11 := Lib.hid (HR0v10.out.on bb)
  have HWv11 := Lib.hid (HWv10.out.on bb)
  have Hx0v11 := Lib.hid (Hx0v10.out.on bb)
  have Hxb0v11 := Lib.hid (Hxb0v10.out.on bb)
  have Hx1v11 := Lib.hid oo
  have HEx1 := Lib.hid ev
  clear oo ev
  clear bb HBv10 HR0v10 HWv10 Hx0v10 Hxb0v10
  go_wp2_with fail
  have HLY1 := Lib.hid Hx1v11.out.lt
  refine (toRatS_own A2 _ ca2 r2 v11 ((HRk2.out.below HBv11.out).mono (Q := (· < v11.heap.size)) fun _ h _ => Nat.lt_of_lt_of_le h HBv11.out.size) HMk2.out (by omega)).mono ?_
  rintro e v12 ⟨xA2, xc2, xL2, rfl, oo, ev, bb⟩
  have sv12 : v11.heap.size ≤ v12.heap.size := bb.size
  have HBv12 := Lib.hid (below_on HBv11.out bb)
  have HR0v12 := Lib.hid (HR0v11.out.on bb)
  have HWv12 := Lib.hid (HWv11.out.on bb)
  have Hx0v12 := Lib.hid (Hx0v11.out.on bb)
  have Hxb0v12 := Lib.hid (Hxb0v11.out.on bb)
  have Hx1v12 := Lib.hid (Hx1v11.out.on bb)
  have Hx2v12 := Lib.hid oo
  have HEx2 := Lib.hid ev
  clear oo ev
  clear bb HBv11 HR0v11 HWv11 Hx0v11 Hxb0v11 Hx1v11
  have qxb00 := Hxb0v12.out.c0
  go_wp2_with fail
  clear qxb00
  have HLX1 := Lib.hid Hx1v12.out.lt
  have HLX2 := Lib.hid Hx2v12.out.lt
  refine (HI.out xA0 xc0 xA1 xc1 xA2 xc2 v12 HBv12.out Hx0v12.out.1.all (by have h := Hx1v12.out.rd.all; rw [HEx1.out] at h; exact h) (by have h := Hx2v12.out.rd.all; rw [HEx2.out] at h; exact h)).mono ?_
  rintro e v13 ⟨gV, gd, gL, rfl, oo, ev, bb⟩
  have sv13 : v12.heap.size ≤ v13.heap.size := bb.size
  have HBv13 := Lib.hid (below_on HBv12.out bb)
  have HR0v13 := Lib.hid (HR0v12.out.on bb)
  have HWv13 := Lib.hid (HWv12.out.on bb)
  have Hx0v13 := Lib.hid (Hx0v12.out.on bb)
  have Hxb0v13 := Lib.hid (Hxb0v12.out.on bb)
  have Hx1v13 := Lib.hid (Hx1v12.out.on bb)
  have Hx2v13 := Lib.hid (Hx2v12.out.on bb)
  have HGv13 := Lib.hid oo
  have HEG := Lib.hid ev
  clear oo ev
  clear bb HBv12 HR0v12 HWv12 Hx0v12 Hxb0v12 Hx1v12 Hx2v12
  go_wp2_with fail
  refine (eqRatS_same gV wV _ gd wd res _ _ v13 (by have h := HGv13.out.rd.all; rw [HEG.out] at h; exact h) HWv13.out HRES.out (by omega)).mono ?_
  rintro e v14 ⟨rfl, bb⟩
  have sv14 : v13.heap.size ≤ v14.heap.size := bb.size
  have HBv14 := Lib.hid (below_on HBv13.out bb)
  have HR0v14 := Lib.hid (HR0v13.out.on bb)
  have HWv14 := Lib.hid (HWv13.out.on bb)
  have Hx0v14 := Lib.hid (Hx0v13.out.on bb)
  have Hxb0v14 := Lib.hid (Hxb0v13.out.on bb)
  have Hx1v14 := Lib.hid (Hx1v13.out.on bb)
  have Hx2v14 := Lib.hid (Hx2v13.out.on bb)
  have HGv14 := Lib.hid (HGv13.out.on bb)
  clear bb HBv13 HR0v13 HWv13 Hx0v13 Hxb0v13 Hx1v13 Hx2v13 HGv13
  go_wp2_with fail
  go_region_held3 (fun wx => wx.cell? ⟨v9.heap.size, 0, none⟩ = some (.slice xA0 l0 xc0) ∧ wx.cell? ⟨w.heap.size, 0, none⟩ = some (.slice A0 l0 ca0))
    (first | with_reducible exact ⟨Hxb0v14.out.c0, HR0v14.out.c0⟩ | with_reducible exact ⟨Hxb0v15.out.c0, HR0v15.out.c0⟩ | with_reducible exact ⟨Hxb0v16.out.c0, HR0v16.out.c0⟩ | exact ⟨Hxb0v14.out.c0, HR0v14.out.c0⟩ | exact ⟨Hxb0v15.out.c0, HR0v15.out.c0⟩ | exact ⟨Hxb0v16.out.c0, HR0v16.out.c0⟩)
    (first
      | (go_at_call 21; refine (toExpr_any A0 l0 ca0 ns0 _ (by exact ((HNk.out.below HBv14.out).mono (Q := (· < v14.heap.size)) fun _ h _ => Nat.lt_of_lt_of_le h HBv14.out.size).drew) hc0).mono ?_; rintro e v15 ⟨zA0, zc0, rfl, oo, bb⟩; have bb := undrew bb; have sv15 : v14.heap.size ≤ v15.heap.size := bb.size; have HBv15 := Lib.hid (below_on HBv14.out bb); have HR0v15 := Lib.hid (HR0v14.out.on bb); have HWv15 := Lib.hid (HWv14.out.on bb); have Hx0v15 := Lib.hid (Hx0v14.out.on bb); have Hxb0v15 := Lib.hid (Hxb0v14.out.on bb); have Hx1v15 := Lib.hid (Hx1v14.out.on bb); have Hx2v15 := Lib.hid (Hx2v14.out.on bb); have HGv15 := Lib.hid (HGv14.out.on bb); have HZ0 : Hid (RdN v15 (fun _ => True) zA0 l0 zc0 ns0) := Lib.hid oo.all; clear oo bb)
      | (go_at_call 24; refine (eqExpr_same xA0 zA0 l0 xc0 zc0 ns0 _ _ _ (by exact Hx0v15.out.1) (by exact HZ0.out) hc0).mono ?_; rintro e v16 ⟨rfl, bb⟩; have sv16 : v15.heap.size ≤ v16.heap.size := bb.size; have HBv16 := Lib.hid (below_on HBv15.out bb); have HR0v16 := Lib.hid (HR0v15.out.on bb); have HWv16 := Lib.hid (HWv15.out.on bb); have Hx0v16 := Lib.hid (Hx0v15.out.on bb); have Hxb0v16 := Lib.hid (Hxb0v15.out.on bb); have Hx1v16 := Lib.hid (Hx1v15.out.on bb); have Hx2v16 := Lib.hid (Hx2v15.out.on bb); have HGv16 := Lib.hid (HGv15.out.on bb); clear bb))
  go_wp2_with fail
  refine (toRatS_any A1 _ ca1 r1 v16 ((HRk1.out.below HBv16.out).mono (Q := (· < v16.heap.size)) fun _ h _ => Nat.lt_of_lt_of_le h HBv16.out.size) HMk1.out (by omega)).mono ?_
  rintro e v17 ⟨zA1, zc1, rfl, oo, bb⟩
  have sv17 : v16.heap.size ≤ v17.heap.size := bb.size
  have HBv17 := Lib.hid (below_on HBv16.out bb)
  have HR0v17 := Lib.hid (HR0v16.out.on bb)
  have HWv17 := Lib.hid (HWv16.out.on bb)
  have Hx0v17 := Lib.hid (Hx0v16.out.on bb)
  have Hxb0v17 := Lib.hid (Hxb0v16.out.on bb)
  have Hx1v17 := Lib.hid (Hx1v16.out.on bb)
  have Hx2v17 := Lib.hid (Hx2v16.out.on bb)
  have HGv17 := Lib.hid (HGv16.out.on bb)
  have Hz1v17 := Lib.hid oo.all
  clear oo
  clear bb HBv16 HR0v16 HWv16 Hx0v16 Hxb0v16 Hx1v16 Hx2v16 HGv16
  go_wp2_with fail
  refine (eqRatS_same xA1 zA1 _ xc1 zc1 r1 _ _ v17 (by have h := Hx1v17.out.rd.all; rw [HEx1.out] at h; exact h) Hz1v17.out HMk1.out (by omega)).mono ?_
  rintro e v18 ⟨rfl, bb⟩
  have sv18 : v17.heap.size ≤ v18.heap.size := bb.size
  have HBv18 := Lib.hid (below_on HBv17.out bb)
  have HR0v18 := Lib.hid (HR0v17.out.on bb)
  have HWv18 := Lib.hid (HWv17.out.on bb)
  have Hx0v18 := Lib.hid (Hx0v17.out.on bb)
  have Hxb0v18 := Lib.hid (Hxb0v17.out.on bb)
  have Hx1v18 := Lib.hid (Hx1v17.out.on bb)
  have Hx2v18 := Lib.hid (Hx2v17.out.on bb)
  have HGv18 := Lib.hid (HGv17.out.on bb)
  have Hz1v18 := Lib.hid (Hz1v17.out.on bb)
  clear bb HBv17 HR0v17 HWv17 Hx0v17 Hxb0v17 Hx1v17 Hx2v17 HGv17 Hz1v17
  clear Hz1v18
  go_wp2_with fail
  refine (toRatS_any A2 _ ca2 r2 v18 ((HRk2.out.below HBv18.out).mono (Q := (· < v18.heap.size)) fun _ h _ => Nat.lt_of_lt_of_le h HBv18.out.size) HMk2.out (by omega)).mono ?_
  rintro e v19 ⟨zA2, zc2, rfl, oo, bb⟩
  have sv19 : v18.heap.size ≤ v19.heap.size := bb.size
  have HBv19 := Lib.hid (below_on HBv18.out bb)
  have HR0v19 := Lib.hid (HR0v18.out.on bb)
  have HWv19 := Lib.hid (HWv18.out.on bb)
  have Hx0v19 := Lib.hid (Hx0v18.out.on bb)
  have Hxb0v19 := Lib.hid (Hxb0v18.out.on bb)
  have Hx1v19 := Lib.hid (Hx1v18.out.on bb)
  have Hx2v19 := Lib.hid (Hx2v18.out.on bb)
  have HGv19 := Lib.hid (HGv18.out.on bb)
  have Hz2v19 := Lib.hid oo.all
  clear oo
  clear bb HBv18 HR0v18 HWv18 Hx0v18 Hxb0v18 Hx1v18 Hx2v18 HGv18
  go_wp2_with fail
  refine (eqRatS_same xA2 zA2 _ xc2 zc2 r2 _ _ v19 (by have h := Hx2v19.out.rd.all; rw [HEx2.out] at h; exact h) Hz2v19.out HMk2.out (by omega)).mono ?_
  rintro e v20 ⟨rfl, bb⟩
  have sv20 : v19.heap.size ≤ v20.heap.size := bb.size
  have HBv20 := Lib.hid (below_on HBv19.out bb)
  have HR0v20 := Lib.hid (HR0v19.out.on bb)
  have HWv20 := Lib.hid (HWv19.out.on bb)
  have Hx0v20 := Lib.hid (Hx0v19.out.on bb)
  have Hxb0v20 := Lib.hid (Hxb0v19.out.on bb)
  have Hx1v20 := Lib.hid (Hx1v19.out.on bb)
  have Hx2v20 := Lib.hid (Hx2v19.out.on bb)
  have HGv20 := Lib.hid (HGv19.out.on bb)
  have Hz2v20 := Lib.hid (Hz2v19.out.on bb)
  clear bb HBv19 HR0v19 HWv19 Hx0v19 Hxb0v19 Hx1v19 Hx2v19 HGv19 Hz2v19
  clear Hz2v20
  have qxb00 := Hxb0v20.out.c0
  go_wp2_with fail
  clear qxb00
  refine (markExpr_any xA0 l0 xc0 ns0 1 v8.heap.size v20 Hx0v20.out hc0 (by omega)).mono ?_
  rintro e v21 ⟨rfl, -, oo⟩
  have bl := mark_below oo HROW0.out (by omega)
  have up : ∀ b, v12.heap.size ≤ b → b < v20.heap.size → v21.heap[b]? = v20.heap[b]? := fun b hN hlt => (mark_keep oo HROW0.out).2 b hlt (.inr (by omega))
  have sv21 : v20.heap.size ≤ v21.heap.size := bl.size
  have HBv21 := Lib.hid (HBv20.out.trans (bl.mono (by omega)))
  have HR0v21 := Lib.hid (HR0v20.out.under (by omega) bl)
  have HWv21 := Lib.hid (HWv20.out.below (bl.mono (by omega)))
  have Hx1v21 := Lib.hid (Hx1v20.out.farX fun b hN hlt => (mark_keep oo HROW0.out).2 b hlt (.inr (by omega)))
  have Hx2v21 := Lib.hid (Hx2v20.out.farX fun b hN hlt => (mark_keep oo HROW0.out).2 b hlt (.inr (by omega)))
  have HGv21 := Lib.hid (HGv20.out.farX up)
  clear bl up oo HBv20 HR0v20 HWv20 Hx0v20 Hxb0v20 Hx1v20 Hx2v20 HGv20
  have hkq : 0 ≤ ((1 + 4 * l0 : Nat) : Int) ∧ ((1 + 4 * l0 : Nat) : Int) ≤ 4194305 := by omega
  generalize ((1 + 4 * l0 : Nat) : Int) = kq0 at *
  obtain ⟨hkq1, hkq2⟩ := hkq
  go_wp2_with fail
  obtain ⟨mk1, hmk1⟩ : ∃ m : Nat, (m : Int) = kq0 := ⟨(kq0).toNat, by omega⟩
  rw [← hmk1]
  have HMK1 := Lib.hid hmk1
  have hmb1 : mk1 ≤ 5000000 := by omega
  clear hmk1
  refine (markRatS_any xA1 _ xc1 xL1 mk1 _ v21 Hx1v21.out (by rw [HEx1.out]; omega) (by omega) (by omega)).mono ?_
  rintro e v22 ⟨rfl, oo⟩
  have bl := oo.2.below Hx1v21.out (by omega)
  have up : ∀ b, v12.heap.size ≤ b → b < v21.heap.size → v22.heap[b]? = v21.heap[b]? := oo.2.beyond HLX1.out
  have sv22 : v21.heap.size ≤ v22.heap.size := bl.size
  have HBv22 := Lib.hid (HBv21.out.trans (bl.mono (by omega)))
  have HR0v22 := Lib.hid (HR0v21.out.under (by omega) bl)
  have HWv22 := Lib.hid (HWv21.out.below (bl.mono (by omega)))
  have Hx2v22 := Lib.hid (Hx2v21.out.farX (fun b hN hlt => oo.2.beyond HLY1.out b (by omega) hlt))
  have HGv22 := Lib.hid (HGv21.out.farX up)
  rw [HEx1.out]
  clear bl up oo HBv21 HR0v21 HWv21 Hx1v21 Hx2v21 HGv21
  have hmv1 : 0 ≤ (mk1 : Int) + (r1.length : Int) + (tot r1 : Int) := by omega
  go_wp2_with fail
  obtain ⟨mk2, hmk2⟩ : ∃ m : Nat, (m : Int) = (mk1 : Int) + (r1.length : Int) + (tot r1 : Int) := ⟨((mk1 : Int) + (r1.length : Int) + (tot r1 : Int)).toNat, by omega⟩
  rw [← hmk2]
  have HMK2 := Lib.hid hmk2
  have hmb2 : mk2 ≤ 6100000 := by omega
  clear hmk2
  refine (markRatS_any xA2 _ xc2 xL2 mk2 _ v22 Hx2v22.out (by rw [HEx2.out]; omega) (by omega) (by omega)).mono ?_
  rintro e v23 ⟨rfl, oo⟩
  have bl := oo.2.below Hx2v22.out (by omega)
  have up : ∀ b, v12.heap.size ≤ b → b < v22.heap.size → v23.heap[b]? = v22.heap[b]? := oo.2.beyond HLX2.out
  have sv23 : v22.heap.size ≤ v23.heap.size := bl.size
  have HBv23 := Lib.hid (HBv22.out.trans (bl.mono (by omega)))
  have HR0v23 := Lib.hid (HR0v22.out.under (by omega) bl)
  have HWv23 := Lib.hid (HWv22.out.below (bl.mono (by omega)))
  have HGv23 := Lib.hid (HGv22.out.farX up)
  rw [HEx2.out]
  clear bl up oo HBv22 HR0v22 HWv22 Hx2v22 HGv22
  have hmv2 : 0 ≤ (mk2 : Int) + (r2.length : Int) + (tot r2 : Int) := by omega
  go_wp2_with fail
  refine (eqRatS_same gV wV _ gd wd res _ _ v23 (by have h := HGv23.out.rd.all; rw [HEG.out] at h; exact h) HWv23.out HRES.out (by omega)).mono ?_
  rintro e v24 ⟨rfl, bb⟩
  have sv24 : v23.heap.size ≤ v24.heap.size := bb.size
  have HBv24 := Lib.hid (below_on HBv23.out bb)
  have HR0v24 := Lib.hid (HR0v23.out.on bb)
  have HWv24 := Lib.hid (HWv23.out.on bb)
  have HGv24 := Lib.hid (HGv23.out.on bb)
  clear bb HBv23 HR0v23 HWv23 HGv23
  go_wp2_with fail
  refine (markRatS_any gV _ gd gL 1 _ v24 HGv24.out (by rw [HEG.out]; omega) (by omega) (by omega)).mono ?_
  rintro e v25 ⟨rfl, oo⟩
  rw [HEG.out]
  have bl := oo.2.below HGv24.out (by omega)
  have sv25 : v24.heap.size ≤ v25.heap.size := bl.size
  have HBv25 := Lib.hid (HBv24.out.trans (bl.mono (by omega)))
  have HR0v25 := Lib.hid (HR0v24.out.under (by omega) bl)
  have HWv25 := Lib.hid (HWv24.out.below (bl.mono (by omega)))
  have HMv25 : Hid (RdS v25 (fun _ => True) gV res.length gd (mark3 1 res)) := by have h := oo.1.rd.all; rw [markL_v3, HEG.out] at h; exact h
  clear bl oo HBv24 HR0v24 HWv24 HGv24
  have hq0 : 0 ≤ ((1 + res.length + tot res : Nat) : Int) := by omega
  have hqq : (((1 + res.length + tot res : Nat) : Int) != ((1 + res.length + tot res : Nat) : Int)) = false := by simp
  generalize hQ : ((1 + res.length + tot res : Nat) : Int) = Qm at *
  have HQM := Lib.hid hQ
  clear hQ
  go_wp2_with fail
  refine (heldRatS_any gV _ gd res 1 _ v25 HMv25.out (by omega) (by omega) (by omega)).mono ?_
  rintro e vq ⟨rfl, rfl⟩
  rw [HQM.out]
  have qR00 := HR0v25.out.c0
  go_wp2_with fail
  clear qR00
  refine (toExpr_any A0 l0 ca0 ns0 v25 ((HNk.out.below HBv25.out).mono (Q := (· < v25.heap.size)) fun _ h _ => Nat.lt_of_lt_of_le h HBv25.out.size) hc0).mono ?_
  rintro e v26 ⟨hA0, hc0, rfl, oo, bb⟩
  have sv26 : v25.heap.size ≤ v26.heap.size := bb.size
  have HBv26 := Lib.hid (below_on HBv25.out bb)
  have HR0v26 := Lib.hid (HR0v25.out.on bb)
  have HWv26 := Lib.hid (HWv25.out.on bb)
  have HMv26 := Lib.hid (HMv25.out.on bb)
  have Hh0v26 := Lib.hid oo.all
  clear oo
  clear bb HBv25 HR0v25 HWv25 HMv25
  go_wp2_with fail
  refine (toRatS_any A1 _ ca1 r1 v26 ((HRk1.out.below HBv26.out).mono (Q := (· < v26.heap.size)) fun _ h _ => Nat.lt_of_lt_of_le h HBv26.out.size) HMk1.out (by omega)).mono ?_
  rintro e v27 ⟨hA1, hc1, rfl, oo, bb⟩
  have sv27 : v26.heap.size ≤ v27.heap.size := bb.size
  have HBv27 := Lib.hid (below_on HBv26.out bb)
  have HR0v27 := Lib.hid (HR0v26.out.on bb)
  have HWv27 := Lib.hid (HWv26.out.on bb)
  have HMv27 := Lib.hid (HMv26.out.on bb)
  have Hh0v27 := Lib.hid (Hh0v26.out.on bb)
  have Hh1v27 := Lib.hid oo.all
  clear oo
  clear bb HBv26 HR0v26 HWv26 HMv26 Hh0v26
  go_wp2_with fail
  refine (toRatS_any A2 _ ca2 r2 v27 ((HRk2.out.below HBv27.out).mono (Q := (· < v27.heap.size)) fun _ h _ => Nat.lt_of_lt_of_le h HBv27.out.size) HMk2.out (by omega)).mono ?_
  rintro e v28 ⟨hA2, hc2, rfl, oo, bb⟩
  have sv28 : v27.heap.size ≤ v28.heap.size := bb.size
  have HBv28 := Lib.hid (below_on HBv27.out bb)
  have HR0v28 := Lib.hid (HR0v27.out.on bb)
  have HWv28 := Lib.hid (HWv27.out.on bb)
  have HMv28 := Lib.hid (HMv27.out.on bb)
  have Hh0v28 := Lib.hid (Hh0v27.out.on bb)
  have Hh1v28 := Lib.hid (Hh1v27.out.on bb)
  have Hh2v28 := Lib.hid oo.all
  clear oo
  clear bb HBv27 HR0v27 HWv27 HMv27 Hh0v27 Hh1v27
  go_wp2_with fail
  refine (HI.out hA0 hc0 hA1 hc1 hA2 hc2 v28 HBv28.out Hh0v28.out Hh1v28.out Hh2v28.out).mono ?_
  rintro e v29 ⟨hV, hd, hL, rfl, oo, ev, bb⟩
  have sv29 : v28.heap.size ≤ v29.heap.size := bb.size
  have HBv29 := Lib.hid (below_on HBv28.out bb)
  have HR0v29 := Lib.hid (HR0v28.out.on bb)
  have HWv29 := Lib.hid (HWv28.out.on bb)
  have HMv29 := Lib.hid (HMv28.out.on bb)
  have Hh0v29 := Lib.hid (Hh0v28.out.on bb)
  have Hh1v29 := Lib.hid (Hh1v28.out.on bb)
  have Hh2v29 := Lib.hid (Hh2v28.out.on bb)
  have HHv29 : Hid (RdS v29 (fun _ => True) hV res.length hd res) := by have h := oo.rd.all; rw [ev] at h; exact h
  clear oo ev
  clear bb HBv28 HR0v28 HWv28 HMv28 Hh0v28 Hh1v28 Hh2v28
  clear Hh0v29
  clear Hh1v29
  clear Hh2v29
  go_wp2_with fail
  refine (eqRatS_same hV wV _ hd wd res _ _ v29 HHv29.out HWv29.out HRES.out (by omega)).mono ?_
  rintro e v30 ⟨rfl, bb⟩
  have sv30 : v29.heap.size ≤ v30.heap.size := bb.size
  have HBv30 := Lib.hid (below_on HBv29.out bb)
  have HR0v30 := Lib.hid (HR0v29.out.on bb)
  have HWv30 := Lib.hid (HWv29.out.on bb)
  have HMv30 := Lib.hid (HMv29.out.on bb)
  have HHv30 := Lib.hid (HHv29.out.on bb)
  clear bb HBv29 HR0v29 HWv29 HMv29 HHv29
  go_wp2_with fail
  refine (heldRatS_any gV _ gd res 1 _ v30 HMv30.out (by omega) (by omega) (by omega)).mono ?_
  rintro e vq ⟨rfl, rfl⟩
  rw [HQM.out]
  go_wp2
  go_ret
  exact ⟨rfl, HBv30.out⟩

set_option maxRecDepth 20000 in
set_option maxHeartbeats 3200000 in
theorem lawCurveOf_any (A0 : Option Addr) (l0 ca0 : Nat) (ns0 : List Nd) (A1 : Option Addr) (la1 ca1 : Nat) (r1 : List R3) (A2 : Option Addr) (la2 ca2 : Nat) (r2 : List R3) (w : World) (hr0 : RdN w (· < w.heap.size) A0 l0 ca0 ns0) (hn0 : l0 ≤ 9223372036854775807) (hr1 : RdS w (· < w.heap.size) A1 la1 ca1 r1) (hs1 : Short r1) (hn1 : la1 ≤ 9223372036854775807) (hr2 : RdS w (· < w.heap.size) A2 la2 ca2 r2) (hs2 : Short r2) (hn2 : la2 ≤ 9223372036854775807) (ad : Addr) (hE : ErrAt 195 w ad) :
    Calls Tryz.prog 7 #[.agg #[.slice A0 l0 ca0], .slice A1 la1 ca1, .slice A2 la2 ca2] w fun e w' => e = .returned (.bool true) ∧ Below w.heap.size w w' := by
  by_cases hb0 : (1048576 : Int) < l0
  · clear hr0 hr1 hs1 hr2 hs2 hE
    go_enter Tryz.func7, Tryz.ntmps7
    go_wp2_with fail
    refine calls_at (fun V => Below w.heap.size w V) (below1 _ _) ?_
    intro v1 hb1
    refine (szExpr_any A0 l0 ca0 1048576 v1 hn0 (by omega) (by omega)).mono ?_
    rintro e v2 ⟨rfl, b2⟩
    have HB2 := Lib.hid (below_on hb1 b2)
    rw [show szN 1048576 l0 = -1 from if_pos (by omega)]
    clear hb1 b2 hb0
    go_wp2
    go_ret
    exact ⟨rfl, HB2.out⟩
  have hc0 : l0 ≤ 1048576 := by omega
  obtain rfl := hr1.len
  obtain rfl := hr2.len
  have hlen0 : ns0.length = l0 := hr0.len
  by_cases hbv : (1048576 : Int) - l0 < r1.length + tot r1
  · have HR := Lib.hid hr1
    have HS := Lib.hid hs1
    clear hr0 hr1 hs1 hr2 hs2 hE
    have HZ := Lib.hid (szS_big hbv)
    have hp : 0 ≤ (1048576 : Int) - l0 := by omega
    have hp2 : (1048576 : Int) - l0 ≤ 1048576 := by omega
    clear hbv
    go_enter Tryz.func7, Tryz.ntmps7
    go_wp2_with fail
    refine calls_at (fun V => Below w.heap.size w V) (below1 _ _) ?_
    intro v1 hb1
    refine (szExpr_any A0 l0 ca0 1048576 v1 hn0 (by omega) (by omega)).mono ?_
    rintro e v2 ⟨rfl, b2⟩
    have HB2 := Lib.hid (below_on hb1 b2)
    rw [show szN 1048576 l0 = 1048576 - (l0 : Int) from if_neg (by omega)]
    clear hb1 b2 hb0
    go_wp2_with fail
    refine (szRatS_any A1 _ ca1 r1 _ v2 ((HR.out.below HB2.out).mono (Q := (· < v2.heap.size)) fun _ h _ => Nat.lt_of_lt_of_le h HB2.out.size) HS.out hn1 hp hp2).mono ?_
    rintro e v3 ⟨rfl, b3⟩
    rw [HZ.out]
    have HB3 := Lib.hid (below_on HB2.out b3)
    clear b3
    go_wp2
    go_ret
    exact ⟨rfl, HB3.out⟩
  by_cases hbv2 : (1048576 : Int) - l0 - r1.length - tot r1 < r2.length + tot r2
  · have HR := Lib.hid hr1
    have HS := Lib.hid hs1
    have HR' := Lib.hid hr2
    have HS' := Lib.hid hs2
    clear hr0 hr1 hs1 hr2 hs2 hE
    have HZ1 := Lib.hid (szS_fit (rs := r1) (left := (1048576 : Int) - l0) (by omega))
    have HZ := Lib.hid (szS_big hbv2)
    have hp : 0 ≤ (1048576 : Int) - l0 := by omega
    have hp2 : (1048576 : Int) - l0 ≤ 1048576 := by omega
    have hq : 0 ≤ (1048576 : Int) - l0 - r1.length - tot r1 := by omega
    have hq2 : (1048576 : Int) - l0 - r1.length - tot r1 ≤ 1048576 := by omega
    clear hbv hbv2
    go_enter Tryz.func7, Tryz.ntmps7
    go_wp2_with fail
    refine calls_at (fun V => Below w.heap.size w V) (below1 _ _) ?_
    intro v1 hb1
    refine (szExpr_any A0 l0 ca0 1048576 v1 hn0 (by omega) (by omega)).mono ?_
    rintro e v2 ⟨rfl, b2⟩
    have HB2 := Lib.hid (below_on hb1 b2)
    rw [show szN 1048576 l0 = 1048576 - (l0 : Int) from if_neg (by omega)]
    clear hb1 b2 hb0
    go_wp2_with fail
    refine (szRatS_any A1 _ ca1 r1 _ v2 ((HR.out.below HB2.out).mono (Q := (· < v2.heap.size)) fun _ h _ => Nat.lt_of_lt_of_le h HB2.out.size) HS.out hn1 hp hp2).mono ?_
    rintro e v3 ⟨rfl, b3⟩
    rw [HZ1.out]
    have HB3 := Lib.hid (below_on HB2.out b3)
    clear b3
    go_wp2_with fail
    refine (szRatS_any A2 _ ca2 r2 _ v3 ((HR'.out.below HB3.out).mono (Q := (· < v3.heap.size)) fun _ h _ => Nat.lt_of_lt_of_le h HB3.out.size) HS'.out hn2 hq hq2).mono ?_
    rintro e v4 ⟨rfl, b4⟩
    rw [HZ.out]
    have HB4 := Lib.hid (below_on HB3.out b4)
    clear b4
    go_wp2
    go_ret
    exact ⟨rfl, HB4.out⟩
  have hsm : Small r1 := small_tot (by omega)
  have hsv : Small r2 := small_tot (by omega)
  have hsz : l0 + (r1.length + tot r1) + (r2.length + tot r2) ≤ 1048576 := by omega
  have hm1 : r1.length ≤ 1048576 := by omega
  have hm2 : r2.length ≤ 1048576 := by omega
  by_cases h0 : ptCode1 (okE ns0) ns0 r1.length r2.length r1 r2 = 0
  · obtain ⟨h4, heq, hright, hok, hok', hdim⟩ := ptCode1_zero h0
    obtain ⟨_, hl4, qs, rfl, hf⟩ := okV_out hok
    obtain ⟨_, hl4', us, rfl, hfu⟩ := okV_out hok'
    have e1 : (qs.map rat3).length = qs.length := List.length_map ..
    have e2 : (us.map rat3).length = qs.length := heq.trans e1
    have hul : us.length = qs.length := by rw [List.length_map] at e2; exact e2
    rw [e1, e2] at h0
    rw [e1] at hm1 hl4
    obtain ⟨hg, h1, h60⟩ := okE_at hlen0 hright hdim
    have hfit := rows_fit (qs := qs) (vs := fun i t => if t = 0 then unitL qs.length i else us) (N := 2) (.inr rfl) (ns := ns0) (by omega) qs.length
    have hsh := rows_short (R := rowJ qs (fun i t => if t = 0 then unitL qs.length i else us) 2 ns0) hl4
    obtain ⟨R, kod, hR⟩ : ∃ R kod, rowsTo (rowJ qs (fun i t => if t = 0 then unitL qs.length i else us) 2 ns0) qs.length = (R, kod) := ⟨_, _, rfl⟩
    have hQ := curve_rows qs us ns0 hul
    rw [hR] at hQ hfit hsh
    dsimp only at hfit hsh
    have htt := tot_ratsX R hfit
    refine lawCurveOf_core (R.map rat3) kod ns0 A0 l0 ca0 A1 ca1 _ A2 ca2 _ w (by rw [List.length_map]; omega) (by omega) (fun a0 c0 a1 c1 a2 c2 W h1 h2 h3 => ?_) (fun a0 c0 a1 c1 a2 c2 W hb h1 h2 h3 => ?_) hr0 hr1 hs1 hr2 hs2 hsz
    · rw [e1] at h2 ⊢
      rw [e2] at h3 ⊢
      exact specCurveOf_ok a0 a1 a2 l0 c0 _ c1 c2 ns0 qs us _ _ _ W h1 h2 h3 hf hfu hc0 hm1 h0 _ _ hQ
    · rw [e1] at h2 ⊢
      rw [e2] at h3 ⊢
      exact implCurveOf_ok a0 a1 a2 l0 c0 _ c1 c2 ns0 qs us _ _ _ W ad (hE.on hb) h1 h2 h3 hf hfu hc0 hm1 h0 _ _ hR
  · exact lawCurveOf_core [] _ ns0 A0 l0 ca0 A1 ca1 r1 A2 ca2 r2 w (by simp) (by simp [tot]) (fun a0 c0 a1 c1 a2 c2 W h1 h2 h3 => specCurveOf_code a0 a1 a2 l0 c0 _ c1 _ c2 ns0 r1 r2 _ _ _ W h1 h2 h3 hsm hsv hc0 hm1 hm2 _ rfl h0) (fun a0 c0 a1 c1 a2 c2 W hb h1 h2 h3 => implCurveOf_code a0 a1 a2 l0 c0 _ c1 _ c2 ns0 r1 r2 _ _ _ W h1 h2 h3 hsm hsv hc0 hm1 hm2 _ rfl h0) hr0 hr1 hs1 hr2 hs2 hsz
end Go.Proofs.YtifepoefeamboaaGreatDoor
