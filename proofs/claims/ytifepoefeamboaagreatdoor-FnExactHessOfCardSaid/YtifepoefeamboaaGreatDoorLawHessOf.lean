/-
  The law FnExactHessOf: whatever the arguments, HessOf answers as its model, writes into no argument, and what it answers is memory of its own. No condition.
-/
import Derived.Test.YtifepoefeamboaaGreatDoorGrpK
import Derived.Test.YtifepoefeamboaaGreatDoorNodeMark
import Derived.Test.YtifepoefeamboaaGreatDoorTapeCopy
import Derived.Test.YtifepoefeamboaaGreatDoorGrpH
import Derived.ProofKit
import Derived.OpenShut
import Derived.ShutString
import Derived.ChangeOld
import Derived.Lib.SmallJoins
import Derived.Deep.RegionHeld3
namespace Nt
open Go Go.RowKit
theorem OwnV.farX {tr ti : TypeId} {w w' : World} {base n c : Nat} {V : Option Addr} {L : List EV} (h : OwnV tr ti w base V n c L) (hk : ∀ b, base ≤ b → b < w.heap.size → w'.heap[b]? = w.heap[b]?) : OwnV tr ti w' base V n c L := by
  refine ⟨?_, fun i hi => ?_, h.2.2⟩
  · rcases h.1 with ⟨h1, h2 | ⟨g, cap, cur, e', hb, hh, h3⟩⟩
    · exact ⟨h1, .inl h2⟩
    · have hlt : g < w.heap.size := by
        rcases Nat.lt_or_ge g w.heap.size with hlt | hge
        · exact hlt
        · rw [Array.getElem?_eq_none hge] at hh; cases hh
      exact ⟨h1, .inr ⟨g, cap, cur, e', hb, (hk g hb hlt).trans hh, h3⟩⟩
  · have ho := h.2.1 i hi
    exact ⟨own_at_block ho.1 fun g hg => hk g (own_block ho.1 hg).1 (own_block ho.1 hg).2, own_at_block ho.2.1 fun g hg => hk g (own_block ho.2.1 hg).1 (own_block ho.2.1 hg).2, ho.2.2⟩
theorem tot_ratsX : ∀ (ps : List Rat), (∀ p ∈ ps, fitQ p) → tot (ps.map rat3) ≤ 80 * ps.length
  | [], _ => Nat.le_refl _
  | p :: ps, h => by
    have ih := tot_ratsX ps fun q hq => h q (List.mem_cons_of_mem _ hq)
    have hp : (D (nu p)).length ≤ 40 ∧ (D p.den).length ≤ 40 := h p List.mem_cons_self
    rw [List.map_cons, tot_cons, List.length_cons]
    show (D (nu p)).length + (D p.den).length + _ ≤ _
    omega
theorem OwnR.farX {ti : TypeId} {w w' : World} {base : Nat} {xs ys : List Int} {A B : Option Addr} {ca cb : Nat} (h : OwnR ti w base xs ys A ca B cb) (hk : ∀ b, base ≤ b → b < w.heap.size → w'.heap[b]? = w.heap[b]?) : OwnR ti w' base xs ys A ca B cb :=
  ⟨own_at_block h.1 fun g hg => hk g (own_block h.1 hg).1 (own_block h.1 hg).2, own_at_block h.2.1 fun g hg => hk g (own_block h.2.1 hg).1 (own_block h.2.1 hg).2, h.2.2⟩
theorem OwnR.farB {ti : TypeId} {w w' : World} {base N : Nat} {xs ys : List Int} {A B : Option Addr} {ca cb : Nat} (h : OwnR ti w base xs ys A ca B cb) (hl : ∀ g, A = some ⟨g, 0, none⟩ ∨ B = some ⟨g, 0, none⟩ → g < N) (hb : Below N w w') : OwnR ti w' base xs ys A ca B cb :=
  ⟨own_at_block h.1 fun g hg => hb.block g (hl g (.inl hg)), own_at_block h.2.1 fun g hg => hb.block g (hl g (.inr hg)), h.2.2⟩
theorem RatAt.underX {w w' : World} {b N : Nat} {t : TypeId} {neg : Bool} {A B : Option Addr} {la ca lb cb : Nat} (h : RatAt w b t neg A la ca B lb cb) (hb : b < N) (hw : Below N w w') : RatAt w' b t neg A la ca B lb cb := (hw.block b hb).trans h
theorem TpAt.under {w w' : World} {b N n c : Nat} {t : TypeId} {A : Option Addr} {o : Int} (h : TpAt w b t A n c o) (hb : b < N) (hw : Below N w w') : TpAt w' b t A n c o := (hw.block b hb).trans h
theorem SlAt.under {w w' : World} {b N n c : Nat} {t : TypeId} {A : Option Addr} (h : SlAt w b t A n c) (hb : b < N) (hw : Below N w w') : SlAt w' b t A n c := (hw.block b hb).trans h
end Nt
namespace Go.Proofs.YtifepoefeamboaaGreatDoor
open Go Go.RowKit Nt
open Go.ChangeShapes Go.WideShapes Go.ChangeAt
open Go.ChangeMaps (open_string shut_string)

set_option linter.unusedSimpArgs false in
set_option maxRecDepth 20000 in
set_option maxHeartbeats 12800000 in
theorem lawHessOf_core (res : List R3) (code : Int) (ns0 : List Nd) (A0 : Option Addr) (l0 ca0 : Nat) (A1 : Option Addr) (ca1 : Nat) (r1 : List R3) (w : World) (hres : res.length ≤ 100) (htot : tot res ≤ 100000)
    (hS : ∀ (a0 : Option Addr) (c0 : Nat) (a1 : Option Addr) (c1 : Nat) (W : World), RdN W (fun _ => True) a0 l0 c0 ns0 → RdS W (fun _ => True) a1 r1.length c1 r1 → Calls Tryz.prog 34 #[.agg #[.slice a0 l0 c0], .slice a1 r1.length c1] W (SayVC W res code))
    (hI : ∀ (a0 : Option Addr) (c0 : Nat) (a1 : Option Addr) (c1 : Nat) (W : World), Below w.heap.size w W → RdN W (fun _ => True) a0 l0 c0 ns0 → RdS W (fun _ => True) a1 r1.length c1 r1 → Calls Tryz.prog 35 #[.agg #[.slice a0 l0 c0], .slice a1 r1.length c1] W (RetVC 31 3 W res code))
    (hr0 : RdN w (· < w.heap.size) A0 l0 ca0 ns0) (hr1 : RdS w (· < w.heap.size) A1 r1.length ca1 r1) (hs1 : Short r1) (hsz : l0 + (r1.length + tot r1) ≤ 1048576) :
    Calls Tryz.prog 8 #[.agg #[.slice A0 l0 ca0], .slice A1 r1.length ca1] w fun e w' => e = .returned (.bool true) ∧ Below w.heap.size w w' := by
  have HS := Lib.hid hS
  have HI := Lib.hid hI
  clear hS hI
  have HNk := Lib.hid hr0
  clear hr0
  have hc0 : l0 ≤ 1048576 := by omega
  have HRk1 := Lib.hid hr1
  have HSk1 := Lib.hid hs1
  have HMk1 := Lib.hid (small_tot (rs := r1) (by omega))
  clear hr1 hs1
  have HRES := Lib.hid (small_tot (rs := res) (by omega))
  have hcc : (code != code) = false := by simp
  go_enter Tryz.func8, Tryz.ntmps8
  go_wp2_with fail
  refine calls_at (fun V => (Below w.heap.size w V) ∧ (SlAt V w.heap.size 45 A0 l0 ca0)) ⟨below1 _ _, SlAt.new _ _ _ _ _⟩ ?_
  rintro v1 ⟨pB, pR⟩
  have HBv1 := Lib.hid pB
  have HR0v1 := Lib.hid pR
  clear pB pR
  have sv1 : w.heap.size ≤ v1.heap.size := HBv1.out.size
  have hRlt : w.heap.size < v1.heap.size := HR0v1.out.lt
  refine (szExpr_any A0 l0 ca0 1048576 v1 (by omega) (by omega) (by omega)).mono ?_
  rintro e v2 ⟨rfl, bb⟩
  have sv2 : v1.heap.size ≤ v2.heap.size := bb.size
  have HBv2 := Lib.hid (below_on HBv1.out bb)
  have HR0v2 := Lib.hid (HR0v1.out.on bb)
  clear bb HBv1 HR0v1
  rw [show szN 1048576 l0 = 1048576 - (l0 : Int) from if_neg (by omega)]
  have hle0 : 0 ≤ 1048576 - (l0 : Int) := by omega
  go_wp2_with fail
  refine (szRatS_any A1 _ ca1 r1 (1048576 - (l0 : Int)) v2 ((HRk1.out.below HBv2.out).mono (Q := (· < v2.heap.size)) fun _ h _ => Nat.lt_of_lt_of_le h HBv2.out.size) HSk1.out (by omega) (by omega) (by omega)).mono ?_
  rintro e v3 ⟨rfl, bb⟩
  have sv3 : v2.heap.size ≤ v3.heap.size := bb.size
  have HBv3 := Lib.hid (below_on HBv2.out bb)
  have HR0v3 := Lib.hid (HR0v2.out.on bb)
  clear bb HBv2 HR0v2
  rw [szS_fit (by omega)]
  have hle1 : 0 ≤ 1048576 - (l0 : Int) - (r1.length : Int) - (tot r1 : Int) := by omega
  have qR00 := HR0v3.out.c0
  go_wp2_with fail
  clear qR00
  refine (toExpr_any A0 l0 ca0 ns0 v3 ((HNk.out.below HBv3.out).mono (Q := (· < v3.heap.size)) fun _ h _ => Nat.lt_of_lt_of_le h HBv3.out.size) hc0).mono ?_
  rintro e v4 ⟨sA0, sc0, rfl, oo, bb⟩
  have sv4 : v3.heap.size ≤ v4.heap.size := bb.size
  have HBv4 := Lib.hid (below_on HBv3.out bb)
  have HR0v4 := Lib.hid (HR0v3.out.on bb)
  have Hs0v4 := Lib.hid oo.all
  clear oo
  clear bb HBv3 HR0v3
  go_wp2_with fail
  refine (toRatS_any A1 _ ca1 r1 v4 ((HRk1.out.below HBv4.out).mono (Q := (· < v4.heap.size)) fun _ h _ => Nat.lt_of_lt_of_le h HBv4.out.size) HMk1.out (by omega)).mono ?_
  rintro e v5 ⟨sA1, sc1, rfl, oo, bb⟩
  have sv5 : v4.heap.size ≤ v5.heap.size := bb.size
  have HBv5 := Lib.hid (below_on HBv4.out bb)
  have HR0v5 := Lib.hid (HR0v4.out.on bb)
  have Hs0v5 := Lib.hid (Hs0v4.out.on bb)
  have Hs1v5 := Lib.hid oo.all
  clear oo
  clear bb HBv4 HR0v4 Hs0v4
  go_wp2_with fail
  refine (HS.out sA0 sc0 sA1 sc1 v5 Hs0v5.out Hs1v5.out).mono ?_
  rintro e v6 ⟨wV, wd, rfl, oo, bb⟩
  have sv6 : v5.heap.size ≤ v6.heap.size := bb.size
  have HBv6 := Lib.hid (below_on HBv5.out bb)
  have HR0v6 := Lib.hid (HR0v5.out.on bb)
  have Hs0v6 := Lib.hid (Hs0v5.out.on bb)
  have Hs1v6 := Lib.hid (Hs1v5.out.on bb)
  have HWv6 := Lib.hid oo.low
  clear oo
  clear bb HBv5 HR0v5 Hs0v5 Hs1v5
  clear Hs0v6
  clear Hs1v6
  have qR00 := HR0v6.out.c0
  go_wp2_with fail
  clear qR00
  refine (toExpr_own A0 l0 ca0 ns0 v6 ((HNk.out.below HBv6.out).mono (Q := (· < v6.heap.size)) fun _ h _ => Nat.lt_of_lt_of_le h HBv6.out.size) hc0).mono ?_
  rintro e v7 ⟨xA0, xc0, rfl, oo, bb⟩
  have sv7 : v6.heap.size ≤ v7.heap.size := bb.size
  have HBv7 := Lib.hid (below_on HBv6.out bb)
  have HR0v7 := Lib.hid (HR0v6.out.on bb)
  have HWv7 := Lib.hid (HWv6.out.on bb)
  have Hx0v7 := Lib.hid oo
  clear oo
  clear bb HBv6 HR0v6 HWv6
  have HROW0 := Lib.hid Hx0v7.out.row
  go_wp2_with fail
  refine calls_at (fun V => (v7.heap.size ≤ V.heap.size) ∧ (Below w.heap.size w V) ∧ (SlAt V w.heap.size 45 A0 l0 ca0) ∧ (RdS V (· < v6.heap.size) wV res.length wd res) ∧ (MineN V v6.heap.size 114 xA0 l0 xc0 ns0) ∧ (SlAt V v7.heap.size 25 xA0 l0 xc0))
    ⟨(below1 _ _).size, below_on HBv7.out (below1 _ _), HR0v7.out.on (below1 _ _), HWv7.out.on (below1 _ _), Hx0v7.out.on (below1 _ _), SlAt.new _ _ _ _ _⟩ ?_
  rintro v8 ⟨sv8, pB, pR0, pW, px0, pxb0⟩
  have HBv8 := Lib.hid pB
  have HR0v8 := Lib.hid pR0
  have HWv8 := Lib.hid pW
  have Hx0v8 := Lib.hid px0
  have Hxb0v8 := Lib.hid pxb0
  clear pB pR0 pW px0 pxb0 HBv7 HR0v7 HWv7 Hx0v7
  refine (toRatS_own A1 _ ca1 r1 v8 ((HRk1.out.below HBv8.out).mono (Q := (· < v8.heap.size)) fun _ h _ => Nat.lt_of_lt_of_le h HBv8.out.size) HMk1.out (by omega)).mono ?_
  rintro e v9 ⟨xA1, xc1, xL1, rfl, oo, ev, bb⟩
  have sv9 : v8.heap.size ≤ v9.heap.size := bb.size
  have HBv9 := Lib.hid (below_on HBv8.out bb)
  have HR0v9 := Lib.hid (HR0v8.out.on bb)
  have HWv9 := Lib.hid (HWv8.out.on bb)
  have Hx0v9 := Lib.hid (Hx0v8.out.on bb)
  have Hxb0v9 := Lib.hid (Hxb0v8.out.on bb)
  have Hx1v9 := Lib.hid oo
  have HEx1 := Lib.hid ev
  clear oo ev
  clear bb HBv8 HR0v8 HWv8 Hx0v8 Hxb0v8
  have qxb00 := Hxb0v9.out.c0
  go_wp2_with fail
  clear qxb00
  have HLX1 := Lib.hid Hx1v9.out.lt
  refine (HI.out xA0 xc0 xA1 xc1 v9 HBv9.out Hx0v9.out.1.all (by have h := Hx1v9.out.rd.all; rw [HEx1.out] at h; exact h)).mono ?_
  rintro e v10 ⟨gV, gd, gL, rfl, oo, ev, bb⟩
  have sv10 : v9.heap.size ≤ v10.heap.size := bb.size
  have HBv10 := Lib.hid (below_on HBv9.out bb)
  have HR0v10 := Lib.hid (HR0v9.out.on bb)
  have HWv10 := Lib.hid (HWv9.out.on bb)
  have Hx0v10 := Lib.hid (Hx0v9.out.on bb)
  have Hxb0v10 := Lib.hid (Hxb0v9.out.on bb)
  have Hx1v10 := Lib.hid (Hx1v9.out.on bb)
  have HGv10 := Lib.hid oo
  have HEG := Lib.hid ev
  clear oo ev
  clear bb HBv9 HR0v9 HWv9 Hx0v9 Hxb0v9 Hx1v9
  go_wp2_with fail
  refine (eqRatS_same gV wV _ gd wd res _ _ v10 (by have h := HGv10.out.rd.all; rw [HEG.out] at h; exact h) HWv10.out HRES.out (by omega)).mono ?_
  rintro e v11 ⟨rfl, bb⟩
  have sv11 : v10.heap.size ≤ v11.heap.size := bb.size
  have HBv11 := Lib.hid (below_on HBv10.out bb)
  have HR0v11 := Lib.hid (HR0v10.out.on bb)
  have HWv11 := Lib.hid (HWv10.out.on bb)
  have Hx0v11 := Lib.hid (Hx0v10.out.on bb)
  have Hxb0v11 := Lib.hid (Hxb0v10.out.on bb)
  have Hx1v11 := Lib.hid (Hx1v10.out.on bb)
  have HGv11 := Lib.hid (HGv10.out.on bb)
  clear bb HBv10 HR0v10 HWv10 Hx0v10 Hxb0v10 Hx1v10 HGv10
  go_wp2_with fail
  go_region_held3 (fun wx => wx.cell? ⟨v7.heap.size, 0, none⟩ = some (.slice xA0 l0 xc0) ∧ wx.cell? ⟨w.heap.size, 0, none⟩ = some (.slice A0 l0 ca0))
    (first | with_reducible exact ⟨Hxb0v11.out.c0, HR0v11.out.c0⟩ | with_reducible exact ⟨Hxb0v12.out.c0, HR0v12.out.c0⟩ | with_reducible exact ⟨Hxb0v13.out.c0, HR0v13.out.c0⟩ | exact ⟨Hxb0v11.out.c0, HR0v11.out.c0⟩ | exact ⟨Hxb0v12.out.c0, HR0v12.out.c0⟩ | exact ⟨Hxb0v13.out.c0, HR0v13.out.c0⟩)
    (first
      | (go_at_call 21; refine (toExpr_any A0 l0 ca0 ns0 _ (by exact ((HNk.out.below HBv11.out).mono (Q := (· < v11.heap.size)) fun _ h _ => Nat.lt_of_lt_of_le h HBv11.out.size).drew) hc0).mono ?_; rintro e v12 ⟨zA0, zc0, rfl, oo, bb⟩; have bb := undrew bb; have sv12 : v11.heap.size ≤ v12.heap.size := bb.size; have HBv12 := Lib.hid (below_on HBv11.out bb); have HR0v12 := Lib.hid (HR0v11.out.on bb); have HWv12 := Lib.hid (HWv11.out.on bb); have Hx0v12 := Lib.hid (Hx0v11.out.on bb); have Hxb0v12 := Lib.hid (Hxb0v11.out.on bb); have Hx1v12 := Lib.hid (Hx1v11.out.on bb); have HGv12 := Lib.hid (HGv11.out.on bb); have HZ0 : Hid (RdN v12 (fun _ => True) zA0 l0 zc0 ns0) := Lib.hid oo.all; clear oo bb)
      | (go_at_call 24; refine (eqExpr_same xA0 zA0 l0 xc0 zc0 ns0 _ _ _ (by exact Hx0v12.out.1) (by exact HZ0.out) hc0).mono ?_; rintro e v13 ⟨rfl, bb⟩; have sv13 : v12.heap.size ≤ v13.heap.size := bb.size; have HBv13 := Lib.hid (below_on HBv12.out bb); have HR0v13 := Lib.hid (HR0v12.out.on bb); have HWv13 := Lib.hid (HWv12.out.on bb); have Hx0v13 := Lib.hid (Hx0v12.out.on bb); have Hxb0v13 := Lib.hid (Hxb0v12.out.on bb); have Hx1v13 := Lib.hid (Hx1v12.out.on bb); have HGv13 := Lib.hid (HGv12.out.on bb); clear bb))
  go_wp2_with fail
  refine (toRatS_any A1 _ ca1 r1 v13 ((HRk1.out.below HBv13.out).mono (Q := (· < v13.heap.size)) fun _ h _ => Nat.lt_of_lt_of_le h HBv13.out.size) HMk1.out (by omega)).mono ?_
  rintro e v14 ⟨zA1, zc1, rfl, oo, bb⟩
  have sv14 : v13.heap.size ≤ v14.heap.size := bb.size
  have HBv14 := Lib.hid (below_on HBv13.out bb)
  have HR0v14 := Lib.hid (HR0v13.out.on bb)
  have HWv14 := Lib.hid (HWv13.out.on bb)
  have Hx0v14 := Lib.hid (Hx0v13.out.on bb)
  have Hxb0v14 := Lib.hid (Hxb0v13.out.on bb)
  have Hx1v14 := Lib.hid (Hx1v13.out.on bb)
  have HGv14 := Lib.hid (HGv13.out.on bb)
  have Hz1v14 := Lib.hid oo.all
  clear oo
  clear bb HBv13 HR0v13 HWv13 Hx0v13 Hxb0v13 Hx1v13 HGv13
  go_wp2_with fail
  refine (eqRatS_same xA1 zA1 _ xc1 zc1 r1 _ _ v14 (by have h := Hx1v14.out.rd.all; rw [HEx1.out] at h; exact h) Hz1v14.out HMk1.out (by omega)).mono ?_
  rintro e v15 ⟨rfl, bb⟩
  have sv15 : v14.heap.size ≤ v15.heap.size := bb.size
  have HBv15 := Lib.hid (below_on HBv14.out bb)
  have HR0v15 := Lib.hid (HR0v14.out.on bb)
  have HWv15 := Lib.hid (HWv14.out.on bb)
  have Hx0v15 := Lib.hid (Hx0v14.out.on bb)
  have Hxb0v15 := Lib.hid (Hxb0v14.out.on bb)
  have Hx1v15 := Lib.hid (Hx1v14.out.on bb)
  have HGv15 := Lib.hid (HGv14.out.on bb)
  have Hz1v15 := Lib.hid (Hz1v14.out.on bb)
  clear bb HBv14 HR0v14 HWv14 Hx0v14 Hxb0v14 Hx1v14 HGv14 Hz1v14
  clear Hz1v15
  have qxb00 := Hxb0v15.out.c0
  go_wp2_with fail
  clear qxb00
  refine (markExpr_any xA0 l0 xc0 ns0 1 v6.heap.size v15 Hx0v15.out hc0 (by omega)).mono ?_
  rintro e v16 ⟨rfl, -, oo⟩
  have bl := mark_below oo HROW0.out (by omega)
  have up : ∀ b, v9.heap.size ≤ b → b < v15.heap.size → v16.heap[b]? = v15.heap[b]? := fun b hN hlt => (mark_keep oo HROW0.out).2 b hlt (.inr (by omega))
  have sv16 : v15.heap.size ≤ v16.heap.size := bl.size
  have HBv16 := Lib.hid (HBv15.out.trans (bl.mono (by omega)))
  have HR0v16 := Lib.hid (HR0v15.out.under (by omega) bl)
  have HWv16 := Lib.hid (HWv15.out.below (bl.mono (by omega)))
  have Hx1v16 := Lib.hid (Hx1v15.out.farX fun b hN hlt => (mark_keep oo HROW0.out).2 b hlt (.inr (by omega)))
  have HGv16 := Lib.hid (HGv15.out.farX up)
  clear bl up oo HBv15 HR0v15 HWv15 Hx0v15 Hxb0v15 Hx1v15 HGv15
  have hkq : 0 ≤ ((1 + 4 * l0 : Nat) : Int) ∧ ((1 + 4 * l0 : Nat) : Int) ≤ 4194305 := by omega
  generalize ((1 + 4 * l0 : Nat) : Int) = kq0 at *
  obtain ⟨hkq1, hkq2⟩ := hkq
  go_wp2_with fail
  obtain ⟨mk1, hmk1⟩ : ∃ m : Nat, (m : Int) = kq0 := ⟨(kq0).toNat, by omega⟩
  rw [← hmk1]
  have HMK1 := Lib.hid hmk1
  have hmb1 : mk1 ≤ 5000000 := by omega
  clear hmk1
  refine (markRatS_any xA1 _ xc1 xL1 mk1 _ v16 Hx1v16.out (by rw [HEx1.out]; omega) (by omega) (by omega)).mono ?_
  rintro e v17 ⟨rfl, oo⟩
  have bl := oo.2.below Hx1v16.out (by omega)
  have up : ∀ b, v9.heap.size ≤ b → b < v16.heap.size → v17.heap[b]? = v16.heap[b]? := oo.2.beyond HLX1.out
  have sv17 : v16.heap.size ≤ v17.heap.size := bl.size
  have HBv17 := Lib.hid (HBv16.out.trans (bl.mono (by omega)))
  have HR0v17 := Lib.hid (HR0v16.out.under (by omega) bl)
  have HWv17 := Lib.hid (HWv16.out.below (bl.mono (by omega)))
  have HGv17 := Lib.hid (HGv16.out.farX up)
  rw [HEx1.out]
  clear bl up oo HBv16 HR0v16 HWv16 Hx1v16 HGv16
  have hmv1 : 0 ≤ (mk1 : Int) + (r1.length : Int) + (tot r1 : Int) := by omega
  go_wp2_with fail
  refine (eqRatS_same gV wV _ gd wd res _ _ v17 (by have h := HGv17.out.rd.all; rw [HEG.out] at h; exact h) HWv17.out HRES.out (by omega)).mono ?_
  rintro e v18 ⟨rfl, bb⟩
  have sv18 : v17.heap.size ≤ v18.heap.size := bb.size
  have HBv18 := Lib.hid (below_on HBv17.out bb)
  have HR0v18 := Lib.hid (HR0v17.out.on bb)
  have HWv18 := Lib.hid (HWv17.out.on bb)
  have HGv18 := Lib.hid (HGv17.out.on bb)
  clear bb HBv17 HR0v17 HWv17 HGv17
  go_wp2_with fail
  refine (markRatS_any gV _ gd gL 1 _ v18 HGv18.out (by rw [HEG.out]; omega) (by omega) (by omega)).mono ?_
  rintro e v19 ⟨rfl, oo⟩
  rw [HEG.out]
  have bl := oo.2.below HGv18.out (by omega)
  have sv19 : v18.heap.size ≤ v19.heap.size := bl.size
  have HBv19 := Lib.hid (HBv18.out.trans (bl.mono (by omega)))
  have HR0v19 := Lib.hid (HR0v18.out.under (by omega) bl)
  have HWv19 := Lib.hid (HWv18.out.below (bl.mono (by omega)))
  have HMv19 : Hid (RdS v19 (fun _ => True) gV res.length gd (mark3 1 res)) := by have h := oo.1.rd.all; rw [markL_v3, HEG.out] at h; exact h
  clear bl oo HBv18 HR0v18 HWv18 HGv18
  have hq0 : 0 ≤ ((1 + res.length + tot res : Nat) : Int) := by omega
  have hqq : (((1 + res.length + tot res : Nat) : Int) != ((1 + res.length + tot res : Nat) : Int)) = false := by simp
  generalize hQ : ((1 + res.length + tot res : Nat) : Int) = Qm at *
  have HQM := Lib.hid hQ
  clear hQ
  go_wp2_with fail
  refine (heldRatS_any gV _ gd res 1 _ v19 HMv19.out (by omega) (by omega) (by omega)).mono ?_
  rintro e vq ⟨rfl, rfl⟩
  rw [HQM.out]
  have qR00 := HR0v19.out.c0
  go_wp2_with fail
  clear qR00
  refine (toExpr_any A0 l0 ca0 ns0 v19 ((HNk.out.below HBv19.out).mono (Q := (· < v19.heap.size)) fun _ h _ => Nat.lt_of_lt_of_le h HBv19.out.size) hc0).mono ?_
  rintro e v20 ⟨hA0, hc0, rfl, oo, bb⟩
  have sv20 : v19.heap.size ≤ v20.heap.size := bb.size
  have HBv20 := Lib.hid (below_on HBv19.out bb)
  have HR0v20 := Lib.hid (HR0v19.out.on bb)
  have HWv20 := Lib.hid (HWv19.out.on bb)
  have HMv20 := Lib.hid (HMv19.out.on bb)
  have Hh0v20 := Lib.hid oo.all
  clear oo
  clear bb HBv19 HR0v19 HWv19 HMv19
  go_wp2_with fail
  refine (toRatS_any A1 _ ca1 r1 v20 ((HRk1.out.below HBv20.out).mono (Q := (· < v20.heap.size)) fun _ h _ => Nat.lt_of_lt_of_le h HBv20.out.size) HMk1.out (by omega)).mono ?_
  rintro e v21 ⟨hA1, hc1, rfl, oo, bb⟩
  have sv21 : v20.heap.size ≤ v21.heap.size := bb.size
  have HBv21 := Lib.hid (below_on HBv20.out bb)
  have HR0v21 := Lib.hid (HR0v20.out.on bb)
  have HWv21 := Lib.hid (HWv20.out.on bb)
  have HMv21 := Lib.hid (HMv20.out.on bb)
  have Hh0v21 := Lib.hid (Hh0v20.out.on bb)
  have Hh1v21 := Lib.hid oo.all
  clear oo
  clear bb HBv20 HR0v20 HWv20 HMv20 Hh0v20
  go_wp2_with fail
  refine (HI.out hA0 hc0 hA1 hc1 v21 HBv21.out Hh0v21.out Hh1v21.out).mono ?_
  rintro e v22 ⟨hV, hd, hL, rfl, oo, ev, bb⟩
  have sv22 : v21.heap.size ≤ v22.heap.size := bb.size
  have HBv22 := Lib.hid (below_on HBv21.out bb)
  have HR0v22 := Lib.hid (HR0v21.out.on bb)
  have HWv22 := Lib.hid (HWv21.out.on bb)
  have HMv22 := Lib.hid (HMv21.out.on bb)
  have Hh0v22 := Lib.hid (Hh0v21.out.on bb)
  have Hh1v22 := Lib.hid (Hh1v21.out.on bb)
  have HHv22 : Hid (RdS v22 (fun _ => True) hV res.length hd res) := by have h := oo.rd.all; rw [ev] at h; exact h
  clear oo ev
  clear bb HBv21 HR0v21 HWv21 HMv21 Hh0v21 Hh1v21
  clear Hh0v22
  clear Hh1v22
  go_wp2_with fail
  refine (eqRatS_same hV wV _ hd wd res _ _ v22 HHv22.out HWv22.out HRES.out (by omega)).mono ?_
  rintro e v23 ⟨rfl, bb⟩
  have sv23 : v22.heap.size ≤ v23.heap.size := bb.size
  have HBv23 := Lib.hid (below_on HBv22.out bb)
  have HR0v23 := Lib.hid (HR0v22.out.on bb)
  have HWv23 := Lib.hid (HWv22.out.on bb)
  have HMv23 := Lib.hid (HMv22.out.on bb)
  have HHv23 := Lib.hid (HHv22.out.on bb)
  clear bb HBv22 HR0v22 HWv22 HMv22 HHv22
  go_wp2_with fail
  refine (heldRatS_any gV _ gd res 1 _ v23 HMv23.out (by omega) (by omega) (by omega)).mono ?_
  rintro e vq ⟨rfl, rfl⟩
  rw [HQM.out]
  go_wp2
  go_ret
  exact ⟨rfl, HBv23.out⟩

set_option maxHeartbeats 3200000 in
theorem lawHessOf_any (A0 : Option Addr) (l0 ca0 : Nat) (ns0 : List Nd) (A1 : Option Addr) (la1 ca1 : Nat) (r1 : List R3) (w : World) (hr0 : RdN w (· < w.heap.size) A0 l0 ca0 ns0) (hn0 : l0 ≤ 9223372036854775807) (hr1 : RdS w (· < w.heap.size) A1 la1 ca1 r1) (hs1 : Short r1) (hn1 : la1 ≤ 9223372036854775807) (ad : Addr) (hE : ErrAt 195 w ad) :
    Calls Tryz.prog 8 #[.agg #[.slice A0 l0 ca0], .slice A1 la1 ca1] w fun e w' => e = .returned (.bool true) ∧ Below w.heap.size w w' := by
  by_cases hb0 : (1048576 : Int) < l0
  · clear hr0 hr1 hs1 hE
    go_enter Tryz.func8, Tryz.ntmps8
    go_wp2_with fail
    refine calls_at (fun V => Below w.heap.size w V) (below1 _ _) ?_
    intro v1 hb1
    refine (szExpr_any A0 l0 ca0 1048576 v1 hn0 (by omega) (by omega)).mono ?_
    rintro e v2 ⟨rfl, b2⟩
    have HB2 := Lib.hid (below_on hb1 b2)
    rw [show szN 1048576 l0 = -1 from if_pos (by omega)]
    clear hb1 b2 hb0
    go_wp2
    go_ret
    exact ⟨rfl, HB2.out⟩
  have hc0 : l0 ≤ 1048576 := by omega
  obtain rfl := hr1.len
  have hlen0 : ns0.length = l0 := hr0.len
  by_cases hbv : (1048576 : Int) - l0 < r1.length + tot r1
  · have HR := Lib.hid hr1
    have HS := Lib.hid hs1
    clear hr0 hr1 hs1 hE
    have HZ := Lib.hid (szS_big hbv)
    have hp : 0 ≤ (1048576 : Int) - l0 := by omega
    have hp2 : (1048576 : Int) - l0 ≤ 1048576 := by omega
    clear hbv
    go_enter Tryz.func8, Tryz.ntmps8
    go_wp2_with fail
    refine calls_at (fun V => Below w.heap.size w V) (below1 _ _) ?_
    intro v1 hb1
    refine (szExpr_any A0 l0 ca0 1048576 v1 hn0 (by omega) (by omega)).mono ?_
    rintro e v2 ⟨rfl, b2⟩
    have HB2 := Lib.hid (below_on hb1 b2)
    rw [show szN 1048576 l0 = 1048576 - (l0 : Int) from if_neg (by omega)]
    clear hb1 b2 hb0
    go_wp2_with fail
    refine (szRatS_any A1 _ ca1 r1 _ v2 ((HR.out.below HB2.out).mono (Q := (· < v2.heap.size)) fun _ h _ => Nat.lt_of_lt_of_le h HB2.out.size) HS.out hn1 hp hp2).mono ?_
    rintro e v3 ⟨rfl, b3⟩
    rw [HZ.out]
    have HB3 := Lib.hid (below_on HB2.out b3)
    clear b3
    go_wp2
    go_ret
    exact ⟨rfl, HB3.out⟩
  have hsm : Small r1 := small_tot (by omega)
  have hsz : l0 + (r1.length + tot r1) ≤ 1048576 := by omega
  have hm1 : r1.length ≤ 1048576 := by omega
  by_cases h0 : ptCode (okE ns0) ns0 r1.length r1 = 0
  · obtain ⟨h4, hright, hok, hdim⟩ := ptCode_zero h0
    obtain ⟨_, hl4, qs, rfl, hf⟩ := okV_out hok
    have e1 : (qs.map rat3).length = qs.length := List.length_map ..
    rw [e1] at hl4 hm1 h0
    obtain ⟨hg, h1, h60⟩ := okE_at hlen0 hright hdim
    have hfit := hess_fit (qs := qs) (ns := ns0) (by omega) qs.length
    have hsh := hess_short (qs := qs) (ns := ns0) hl4
    have hQ := hess_rows qs ns0
    obtain ⟨R, kod, hR⟩ : ∃ R kod, rows2To (hessJ qs ns0) qs.length = (R, kod) := ⟨_, _, rfl⟩
    rw [hR] at hQ hfit hsh
    dsimp only at hfit hsh
    have htt := tot_ratsX R hfit
    refine lawHessOf_core (R.map rat3) kod ns0 A0 l0 ca0 A1 ca1 _ w (by rw [List.length_map]; omega) (by omega) (fun a0 c0 a1 c1 W h1 h2 => ?_) (fun a0 c0 a1 c1 W hb h1 h2 => ?_) hr0 hr1 hs1 hsz
    · rw [e1] at h2 ⊢
      exact specHessOf_ok a0 a1 l0 c0 _ c1 ns0 qs _ _ W h1 h2 hf hc0 hm1 h0 _ _ hQ
    · rw [e1] at h2 ⊢
      exact implHessOf_ok a0 a1 l0 c0 _ c1 ns0 qs _ _ W ad (hE.on hb) h1 h2 hf hc0 hm1 h0 _ _ hR
  · exact lawHessOf_core [] _ ns0 A0 l0 ca0 A1 ca1 r1 w (by simp) (by simp [tot]) (fun a0 c0 a1 c1 W h1 h2 => specHessOf_code a0 a1 l0 c0 _ c1 ns0 r1 _ _ W h1 h2 hsm hc0 hm1 _ rfl h0) (fun a0 c0 a1 c1 W hb h1 h2 => implHessOf_code a0 a1 l0 c0 _ c1 ns0 r1 _ _ W h1 h2 hsm hc0 hm1 _ rfl h0) hr0 hr1 hs1 hsz
end Go.Proofs.YtifepoefeamboaaGreatDoor
