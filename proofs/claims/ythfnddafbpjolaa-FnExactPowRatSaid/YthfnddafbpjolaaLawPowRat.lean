/-
  The law FnExactPowRat: whatever the arguments, PowRat answers as its model, writes into no argument, and what it answers is memory of its own. No condition.
-/
import Derived.Test.YthfnddafbpjolaaPowRat
import Derived.ProofKit
import Derived.OpenShut
import Derived.ShutString
import Derived.ChangeOld
import Derived.Lib.SmallJoins
import Derived.Deep.RegionHeld3
import Derived.Deep.DeepCutAuto
namespace Go.Proofs.Ythfnddafbpjolaa
open Go Go.RowKit Nt
open Go.ChangeShapes Go.WideShapes Go.ChangeAt
open Go.ChangeMaps (open_string shut_string)
theorem OwnR_past {t tr : TypeId} {w w' : World} {base b ca cb la' ca' lb' cb' : Nat} {xs ys : List Int} {A B A' B' : Option Addr} {neg : Bool} (h : OwnR t w base xs ys A ca B cb) (hne : t ≠ tr) (hr : RatAt w b tr neg A' la' ca' B' lb' cb') (hg : w.grownBy w' (some b)) : OwnR t w' base xs ys A ca B cb :=
  ⟨own_gone h.1 hg (fun k hk e => own_type h.1 hne hr (by rw [hk, e])), own_gone h.2.1 hg (fun k hk e => own_type h.2.1 hne hr (by rw [hk, e])), h.2.2⟩

set_option maxRecDepth 20000 in
set_option maxHeartbeats 16000000 in
theorem lawPowRat_core (N : Bool) (X Y : List Int) (K : Int) (n0 : Bool) (A0 : Option Addr) (la0 ca0 : Nat) (B0 : Option Addr) (lb0 cb0 : Nat) (x0 y0 : List Int) (i1 : Int) (w : World) (hX : X.length ≤ 1000) (hY : Y.length ≤ 1000)
    (hS : ∀ (a0 : Option Addr) (c0 : Nat) (b0 : Option Addr) (d0 : Nat) (W : World), RdR W (fun _ => True) x0 y0 a0 c0 b0 d0 → Calls Try.prog 28 #[.agg #[.bool n0, .slice a0 x0.length c0, .slice b0 y0.length d0], .int .i64 i1] W (SayRC' W N X Y K))
    (hI : ∀ (a0 : Option Addr) (c0 : Nat) (b0 : Option Addr) (d0 : Nat) (W : World), RdR W (fun _ => True) x0 y0 a0 c0 b0 d0 → Calls Try.prog 29 #[.agg #[.bool n0, .slice a0 x0.length c0, .slice b0 y0.length d0], .int .i64 i1] W (RetRC 3 W N X Y K))
    (hx0 : Rd w (· < w.heap.size) A0 la0 ca0 x0) (hy0 : Rd w (· < w.heap.size) B0 lb0 cb0 y0) (hsz : la0 + lb0 ≤ 1048576) :
    Calls Try.prog 7 #[.agg #[.bool n0, .slice A0 la0 ca0, .slice B0 lb0 cb0], .int .i64 i1] w fun e w' => e = .returned (.bool true) ∧ Below w.heap.size w w' := by
  have HS := Lib.hid hS
  have HI := Lib.hid hI
  clear hS hI
  have HXk0 := Lib.hid hx0
  have HYk0 := Lib.hid hy0
  have hxl0 := hx0.len
  have hyl0 := hy0.len
  clear hx0 hy0
  subst hxl0 hyl0
  have hK : (K != K) = false := by simp
  go_enter Try.func7, Try.ntmps7
  go_wp2_with fail
  refine calls_at (fun V => (Below w.heap.size w V) ∧ (RatAt V w.heap.size 24 n0 A0 x0.length ca0 B0 y0.length cb0))
    ⟨below1 _ _, RatAt.new _ _ _ _ _ _ _ _ _⟩ ?_
  rintro v1 ⟨pB, pR0⟩
  have sv1 : w.heap.size ≤ v1.heap.size := pB.size
  have HB1 := Lib.hid pB
  have HR01 := Lib.hid pR0
  clear pB pR0
  refine (szRat_fit n0 A0 B0 _ ca0 _ cb0 (1048576) v1 (by omega) (by omega) (by omega)).mono ?_
  rintro e v2 ⟨rfl, bb⟩
  have sv2 : v1.heap.size ≤ v2.heap.size := bb.size
  have HB2 := Lib.hid (below_on HB1.out bb)
  clear HB1
  have HR02 := Lib.hid (HR01.out.on bb)
  clear HR01
  clear bb
  have hle0 : 0 ≤ 1048576 - (x0.length : Int) - (y0.length : Int) := by omega
  have qR00 := HR02.out.c0
  have qR01 := HR02.out.c1
  have qR02 := HR02.out.c2
  go_wp2_with fail
  clear qR00 qR01 qR02
  refine (toRat_any n0 A0 B0 _ ca0 _ cb0 x0 y0 v2 (((HXk0.out.below HB2.out).mono (Q := (· < (v2).heap.size)) fun _ h _ => Nat.lt_of_lt_of_le h (HB2.out).size)) (((HYk0.out.below HB2.out).mono (Q := (· < (v2).heap.size)) fun _ h _ => Nat.lt_of_lt_of_le h (HB2.out).size)) (by omega) (by omega)).mono ?_
  rintro e v3 ⟨sA0, sc0, sB0, sd0, rfl, oo, bb⟩
  have sv3 : v2.heap.size ≤ v3.heap.size := bb.size
  have HB3 := Lib.hid (below_on HB2.out bb)
  clear HB2
  have HR03 := Lib.hid (HR02.out.on bb)
  clear HR02
  have HT03 := Lib.hid (oo.rdt)
  clear bb
  clear oo
  go_wp2_with fail
  refine (HS.out sA0 sc0 sB0 sd0 v3 HT03.out).mono ?_
  rintro e v4 ⟨As, cs, Bs, ds, rfl, oo, bb⟩
  have sv4 : v3.heap.size ≤ v4.heap.size := bb.size
  clear HT03
  have HB4 := Lib.hid (below_on HB3.out bb)
  clear HB3
  have HR04 := Lib.hid (HR03.out.on bb)
  clear HR03
  have HW4 := Lib.hid (oo.mono fun _ _ h => h)
  clear bb
  clear oo
  have qR00 := (HR04.out.alloc (.cells #[.bool N, .slice As X.length cs, .slice Bs Y.length ds] 26)).c0
  have qR01 := (HR04.out.alloc (.cells #[.bool N, .slice As X.length cs, .slice Bs Y.length ds] 26)).c1
  have qR02 := (HR04.out.alloc (.cells #[.bool N, .slice As X.length cs, .slice Bs Y.length ds] 26)).c2
  go_wp2_with fail
  clear qR00 qR01 qR02
  refine calls_at (fun V => (v4.heap.size ≤ V.heap.size) ∧ (Below w.heap.size w V) ∧ (RatAt V w.heap.size 24 n0 A0 x0.length ca0 B0 y0.length cb0) ∧ (RdR V (· < v4.heap.size) X Y As cs Bs ds) ∧ (RatAt V v4.heap.size 26 N As X.length cs Bs Y.length ds))
    ⟨(below1 _ _).size, below_on HB4.out (below1 _ _), HR04.out.on (below1 _ _), HW4.out.on (below1 _ _), RatAt.new _ _ _ _ _ _ _ _ _⟩ ?_
  rintro v5 ⟨sv5, pB, pR0, pW, pWv⟩
  have HB5 := Lib.hid pB
  clear pB HB4
  have HR05 := Lib.hid pR0
  clear pR0 HR04
  have HW5 := Lib.hid pW
  clear pW HW4
  have HWv5 := Lib.hid pWv
  clear pWv
  refine (toRat_any n0 A0 B0 _ ca0 _ cb0 x0 y0 v5 (((HXk0.out.below HB5.out).mono (Q := (· < (v5).heap.size)) fun _ h _ => Nat.lt_of_lt_of_le h (HB5.out).size)) (((HYk0.out.below HB5.out).mono (Q := (· < (v5).heap.size)) fun _ h _ => Nat.lt_of_lt_of_le h (HB5.out).size)) (by omega) (by omega)).mono ?_
  rintro e v6 ⟨xA0, xc0, xB0, xd0, rfl, oo, bb⟩
  have sv6 : v5.heap.size ≤ v6.heap.size := bb.size
  have HB6 := Lib.hid (below_on HB5.out bb)
  clear HB5
  have HR06 := Lib.hid (HR05.out.on bb)
  clear HR05
  have HW6 := Lib.hid (HW5.out.on bb)
  clear HW5
  have HWv6 := Lib.hid (HWv5.out.on bb)
  clear HWv5
  have HX06 := Lib.hid (oo)
  clear bb
  clear oo
  go_wp2_with fail
  refine calls_at (fun V => (v6.heap.size ≤ V.heap.size) ∧ (Below w.heap.size w V) ∧ (RatAt V w.heap.size 24 n0 A0 x0.length ca0 B0 y0.length cb0) ∧ (RdR V (· < v4.heap.size) X Y As cs Bs ds) ∧ (RatAt V v4.heap.size 26 N As X.length cs Bs Y.length ds) ∧ (OwnR 3 V v5.heap.size x0 y0 xA0 xc0 xB0 xd0) ∧ (RatAt V v6.heap.size 26 n0 xA0 x0.length xc0 xB0 y0.length xd0))
    ⟨(below1 _ _).size, below_on HB6.out (below1 _ _), HR06.out.on (below1 _ _), HW6.out.on (below1 _ _), HWv6.out.on (below1 _ _), HX06.out.on (below1 _ _), RatAt.new _ _ _ _ _ _ _ _ _⟩ ?_
  rintro v7 ⟨sv7, pB, pR0, pW, pWv, pX0, pXv0⟩
  have HB7 := Lib.hid pB
  clear pB HB6
  have HR07 := Lib.hid pR0
  clear pR0 HR06
  have HW7 := Lib.hid pW
  clear pW HW6
  have HWv7 := Lib.hid pWv
  clear pWv HWv6
  have HX07 := Lib.hid pX0
  clear pX0 HX06
  have HXv07 := Lib.hid pXv0
  clear pXv0
  have HLX0 := Lib.hid HX07.out.lt
  refine (HI.out xA0 xc0 xB0 xd0 v7 HX07.out.rdt).mono ?_
  rintro e v8 ⟨Ag, cg, Bg, dg, rfl, oo, bb⟩
  have sv8 : v7.heap.size ≤ v8.heap.size := bb.size
  have HB8 := Lib.hid (below_on HB7.out bb)
  clear HB7
  have HR08 := Lib.hid (HR07.out.on bb)
  clear HR07
  have HW8 := Lib.hid (HW7.out.on bb)
  clear HW7
  have HWv8 := Lib.hid (HWv7.out.on bb)
  clear HWv7
  have HX08 := Lib.hid (HX07.out.on bb)
  clear HX07
  have HXv08 := Lib.hid (HXv07.out.on bb)
  clear HXv07
  have HG8 := Lib.hid (oo)
  clear bb
  clear oo
  have qWv0 := (HWv8.out.alloc (.cells #[.bool N, .slice Ag X.length cg, .slice Bg Y.length dg] 26)).c0
  have qWv1 := (HWv8.out.alloc (.cells #[.bool N, .slice Ag X.length cg, .slice Bg Y.length dg] 26)).c1
  have qWv2 := (HWv8.out.alloc (.cells #[.bool N, .slice Ag X.length cg, .slice Bg Y.length dg] 26)).c2
  go_wp2_with fail
  clear qWv0 qWv1 qWv2
  refine calls_at (fun V => (v8.heap.size ≤ V.heap.size) ∧ (Below w.heap.size w V) ∧ (RatAt V w.heap.size 24 n0 A0 x0.length ca0 B0 y0.length cb0) ∧ (RdR V (· < v4.heap.size) X Y As cs Bs ds) ∧ (RatAt V v4.heap.size 26 N As X.length cs Bs Y.length ds) ∧ (OwnR 3 V v5.heap.size x0 y0 xA0 xc0 xB0 xd0) ∧ (RatAt V v6.heap.size 26 n0 xA0 x0.length xc0 xB0 y0.length xd0) ∧ (OwnR 3 V v7.heap.size X Y Ag cg Bg dg) ∧ (RatAt V v8.heap.size 26 N Ag X.length cg Bg Y.length dg))
    ⟨(below1 _ _).size, below_on HB8.out (below1 _ _), HR08.out.on (below1 _ _), HW8.out.on (below1 _ _), HWv8.out.on (below1 _ _), HX08.out.on (below1 _ _), HXv08.out.on (below1 _ _), HG8.out.on (below1 _ _), RatAt.new _ _ _ _ _ _ _ _ _⟩ ?_
  rintro v9 ⟨sv9, pB, pR0, pW, pWv, pX0, pXv0, pG, pGv⟩
  have HB9 := Lib.hid pB
  clear pB HB8
  have HR09 := Lib.hid pR0
  clear pR0 HR08
  have HW9 := Lib.hid pW
  clear pW HW8
  have HWv9 := Lib.hid pWv
  clear pWv HWv8
  have HX09 := Lib.hid pX0
  clear pX0 HX08
  have HXv09 := Lib.hid pXv0
  clear pXv0 HXv08
  have HG9 := Lib.hid pG
  clear pG HG8
  have HGv9 := Lib.hid pGv
  clear pGv
  refine (eqRat_same N Ag Bg As Bs cg dg cs ds X Y _ _ v9 HG9.out.rdt HW9.out (by omega) (by omega)).mono ?_
  rintro e v10 ⟨rfl, bb⟩
  have sv10 : v9.heap.size ≤ v10.heap.size := bb.size
  have HB10 := Lib.hid (below_on HB9.out bb)
  clear HB9
  have HR010 := Lib.hid (HR09.out.on bb)
  clear HR09
  have HW10 := Lib.hid (HW9.out.on bb)
  clear HW9
  have HWv10 := Lib.hid (HWv9.out.on bb)
  clear HWv9
  have HX010 := Lib.hid (HX09.out.on bb)
  clear HX09
  have HXv010 := Lib.hid (HXv09.out.on bb)
  clear HXv09
  have HG10 := Lib.hid (HG9.out.on bb)
  clear HG9
  have HGv10 := Lib.hid (HGv9.out.on bb)
  clear HGv9
  clear bb
  go_wp2_with fail
  go_region_held3 (fun wx => wx.cell? ⟨v6.heap.size, 0, none⟩ = some (.bool n0) ∧ wx.cell? ⟨v6.heap.size, 1, none⟩ = some (.slice xA0 x0.length xc0) ∧ wx.cell? ⟨v6.heap.size, 2, none⟩ = some (.slice xB0 y0.length xd0) ∧ wx.cell? ⟨w.heap.size, 0, none⟩ = some (.bool n0) ∧ wx.cell? ⟨w.heap.size, 1, none⟩ = some (.slice A0 x0.length ca0) ∧ wx.cell? ⟨w.heap.size, 2, none⟩ = some (.slice B0 y0.length cb0))
    (first | exact ⟨HXv010.out.c0, HXv010.out.c1, HXv010.out.c2, HR010.out.c0, HR010.out.c1, HR010.out.c2⟩ | exact ⟨HXv011.out.c0, HXv011.out.c1, HXv011.out.c2, HR011.out.c0, HR011.out.c1, HR011.out.c2⟩ | exact ⟨HXv012.out.c0, HXv012.out.c1, HXv012.out.c2, HR012.out.c0, HR012.out.c1, HR012.out.c2⟩)
    (first
      | (go_at_call 17; refine (toRat_any n0 A0 B0 _ ca0 _ cb0 x0 y0 _ (by exact ((HXk0.out.below HB10.out).mono fun _ h _ => Nat.lt_of_lt_of_le h (HB10.out).size)) (by exact ((HYk0.out.below HB10.out).mono fun _ h _ => Nat.lt_of_lt_of_le h (HB10.out).size)) (by omega) (by omega)).mono ?_; rintro e v11 ⟨zA0, zc0, zB0, zd0, rfl, oo, bb⟩; have bb := undrew bb; have sv11 : v10.heap.size ≤ v11.heap.size := bb.size; have HB11 := Lib.hid (below_on HB10.out bb); have HR011 := Lib.hid (HR010.out.on bb); have HW11 := Lib.hid (HW10.out.on bb); have HWv11 := Lib.hid (HWv10.out.on bb); have HX011 := Lib.hid (HX010.out.on bb); have HXv011 := Lib.hid (HXv010.out.on bb); have HG11 := Lib.hid (HG10.out.on bb); have HGv11 := Lib.hid (HGv10.out.on bb); have HZ011 : Hid (RdR v11 (fun _ => True) x0 y0 zA0 zc0 zB0 zd0) := (Lib.hid oo.rdt))
      | (go_at_call 19; refine (eqRat_same n0 xA0 xB0 zA0 zB0 xc0 xd0 zc0 zd0 x0 y0 _ _ _ (by exact HX011.out.rdt) (by exact HZ011.out) (by omega) (by omega)).mono ?_; rintro e v12 ⟨rfl, bb⟩; have sv12 : v11.heap.size ≤ v12.heap.size := bb.size; have HB12 := Lib.hid (below_on HB11.out bb); have HR012 := Lib.hid (HR011.out.on bb); have HW12 := Lib.hid (HW11.out.on bb); have HWv12 := Lib.hid (HWv11.out.on bb); have HX012 := Lib.hid (HX011.out.on bb); have HXv012 := Lib.hid (HXv011.out.on bb); have HG12 := Lib.hid (HG11.out.on bb); have HGv12 := Lib.hid (HGv11.out.on bb)))
  have qXv00 := HXv012.out.c0
  have qXv01 := HXv012.out.c1
  have qXv02 := HXv012.out.c2
  go_wp2_with fail
  clear qXv00 qXv01 qXv02
  refine (markRat_any n0 xA0 xB0 xc0 xd0 x0 y0 (1) v5.heap.size v12 HX012.out (by omega) (by omega) (by omega) (by omega)).mono ?_
  rintro e v13 ⟨rfl, oo, on⟩
  have sv13 : v12.heap.size ≤ v13.heap.size := on.2.2.2.1
  have bb := on.below HX012.out (by omega)
  have HB13 := Lib.hid (HB12.out.trans (bb.mono (by omega)))
  clear HB12
  have HR013 := Lib.hid (on.at_ (la := 0) (lb := 0) HX012.out (by decide) HR012.out)
  clear HR012
  have HW13 := Lib.hid (HW12.out.below (bb.mono (by omega)))
  clear HW12
  have HWv13 := Lib.hid (on.at_ (la := 0) (lb := 0) HX012.out (by decide) HWv12.out)
  clear HWv12
  have HG13 := Lib.hid (on.own HLX0.out HG12.out)
  clear HG12
  have HGv13 := Lib.hid (on.at_ (la := 0) (lb := 0) HX012.out (by decide) HGv12.out)
  clear HGv12
  clear HX012
  clear oo on bb
  have hk0 : decide ((1 + (x0.length : Int) + (y0.length : Int)) < 0) = false := decide_eq_false (by omega)
  have qWv0 := HWv13.out.c0
  have qWv1 := HWv13.out.c1
  have qWv2 := HWv13.out.c2
  have qGv0 := HGv13.out.c0
  have qGv1 := HGv13.out.c1
  have qGv2 := HGv13.out.c2
  go_wp2_with fail
  clear qWv0 qWv1 qWv2 qGv0 qGv1 qGv2
  refine (eqRat_same N Ag Bg As Bs cg dg cs ds X Y _ _ v13 HG13.out.rdt HW13.out (by omega) (by omega)).mono ?_
  rintro e v14 ⟨rfl, bb⟩
  have sv14 : v13.heap.size ≤ v14.heap.size := bb.size
  have HB14 := Lib.hid (below_on HB13.out bb)
  clear HB13
  have HR014 := Lib.hid (HR013.out.on bb)
  clear HR013
  have HW14 := Lib.hid (HW13.out.on bb)
  clear HW13
  have HWv14 := Lib.hid (HWv13.out.on bb)
  clear HWv13
  have HG14 := Lib.hid (HG13.out.on bb)
  clear HG13
  have HGv14 := Lib.hid (HGv13.out.on bb)
  clear HGv13
  clear bb
  clear hk0
  have qGv0 := HGv14.out.c0
  have qGv1 := HGv14.out.c1
  have qGv2 := HGv14.out.c2
  go_wp2_with fail
  clear qGv0 qGv1 qGv2
  refine (markRat_any N Ag Bg cg dg X Y (1) v7.heap.size v14 HG14.out (by omega) (by omega) (by omega) (by omega)).mono ?_
  rintro e v15 ⟨rfl, oo, on⟩
  have sv15 : v14.heap.size ≤ v15.heap.size := on.2.2.2.1
  have bb := on.below HG14.out (by omega)
  have HB15 := Lib.hid (HB14.out.trans (bb.mono (by omega)))
  clear HB14
  have HR015 := Lib.hid (on.at_ (la := 0) (lb := 0) HG14.out (by decide) HR014.out)
  clear HR014
  have HW15 := Lib.hid (HW14.out.below (bb.mono (by omega)))
  clear HW14
  have HWv15 := Lib.hid (on.at_ (la := 0) (lb := 0) HG14.out (by decide) HWv14.out)
  clear HWv14
  have HGv15 := Lib.hid (on.at_ (la := 0) (lb := 0) HG14.out (by decide) HGv14.out)
  clear HGv14
  have HG15 := Lib.hid oo
  clear HG14
  clear oo on bb
  have qGv0 := HGv15.out.c0
  have qGv1 := HGv15.out.c1
  have qGv2 := HGv15.out.c2
  go_wp2_with fail
  clear qGv0 qGv1 qGv2
  refine (heldRat_any N Ag Bg cg dg X.length Y.length 1 _ v15 HG15.out.rdt (by omega) (by omega) (by omega) (by omega)).mono ?_
  rintro e v16 ⟨rfl, bb⟩
  have sv16 : v15.heap.size ≤ v16.heap.size := bb.size
  have HB16 := Lib.hid (below_on HB15.out bb)
  clear HB15
  have HR016 := Lib.hid (HR015.out.on bb)
  clear HR015
  have HW16 := Lib.hid (HW15.out.on bb)
  clear HW15
  have HWv16 := Lib.hid (HWv15.out.on bb)
  clear HWv15
  have HG16 := Lib.hid (HG15.out.on bb)
  clear HG15
  have HGv16 := Lib.hid (HGv15.out.on bb)
  clear HGv15
  clear bb
  have hq1 : decide ((1 + (X.length : Int) + (Y.length : Int)) < 0) = false := decide_eq_false (by omega)
  have hq2 : ((1 + (X.length : Int) + (Y.length : Int)) != (1 + (X.length : Int) + (Y.length : Int))) = false := by simp
  have qR00 := HR016.out.c0
  have qR01 := HR016.out.c1
  have qR02 := HR016.out.c2
  go_wp2_with fail
  clear qR00 qR01 qR02
  refine (toRat_any n0 A0 B0 _ ca0 _ cb0 x0 y0 v16 (((HXk0.out.below HB16.out).mono (Q := (· < (v16).heap.size)) fun _ h _ => Nat.lt_of_lt_of_le h (HB16.out).size)) (((HYk0.out.below HB16.out).mono (Q := (· < (v16).heap.size)) fun _ h _ => Nat.lt_of_lt_of_le h (HB16.out).size)) (by omega) (by omega)).mono ?_
  rintro e v17 ⟨hA0, hc0, hB0, hd0, rfl, oo, bb⟩
  have sv17 : v16.heap.size ≤ v17.heap.size := bb.size
  have HB17 := Lib.hid (below_on HB16.out bb)
  clear HB16
  have HR017 := Lib.hid (HR016.out.on bb)
  clear HR016
  have HW17 := Lib.hid (HW16.out.on bb)
  clear HW16
  have HWv17 := Lib.hid (HWv16.out.on bb)
  clear HWv16
  have HG17 := Lib.hid (HG16.out.on bb)
  clear HG16
  have HGv17 := Lib.hid (HGv16.out.on bb)
  clear HGv16
  have HT017 := Lib.hid (oo.rdt)
  clear bb
  clear oo
  go_wp2_with fail
  refine (HI.out hA0 hc0 hB0 hd0 v17 HT017.out).mono ?_
  rintro e v18 ⟨Ah, ch, Bh, dh, rfl, oo, bb⟩
  have sv18 : v17.heap.size ≤ v18.heap.size := bb.size
  clear HT017
  have HB18 := Lib.hid (below_on HB17.out bb)
  clear HB17
  have HR018 := Lib.hid (HR017.out.on bb)
  clear HR017
  have HW18 := Lib.hid (HW17.out.on bb)
  clear HW17
  have HWv18 := Lib.hid (HWv17.out.on bb)
  clear HWv17
  have HG18 := Lib.hid (HG17.out.on bb)
  clear HG17
  have HGv18 := Lib.hid (HGv17.out.on bb)
  clear HGv17
  have HJ18 := Lib.hid (oo.rdt)
  clear bb
  clear oo
  have qWv0 := (HWv18.out.alloc (.cells #[.bool N, .slice Ah X.length ch, .slice Bh Y.length dh] 26)).c0
  have qWv1 := (HWv18.out.alloc (.cells #[.bool N, .slice Ah X.length ch, .slice Bh Y.length dh] 26)).c1
  have qWv2 := (HWv18.out.alloc (.cells #[.bool N, .slice Ah X.length ch, .slice Bh Y.length dh] 26)).c2
  go_wp2_with fail
  clear qWv0 qWv1 qWv2
  refine calls_at (fun V => (v18.heap.size ≤ V.heap.size) ∧ (Below w.heap.size w V) ∧ (RatAt V w.heap.size 24 n0 A0 x0.length ca0 B0 y0.length cb0) ∧ (RdR V (· < v4.heap.size) X Y As cs Bs ds) ∧ (RatAt V v4.heap.size 26 N As X.length cs Bs Y.length ds) ∧ (OwnR 3 V v7.heap.size (marks 1 X.length) (marks (1 + X.length) Y.length) Ag cg Bg dg) ∧ (RatAt V v8.heap.size 26 N Ag X.length cg Bg Y.length dg) ∧ (RdR V (fun _ => True) X Y Ah ch Bh dh) ∧ (RatAt V v18.heap.size 26 N Ah X.length ch Bh Y.length dh))
    ⟨(below1 _ _).size, below_on HB18.out (below1 _ _), HR018.out.on (below1 _ _), HW18.out.on (below1 _ _), HWv18.out.on (below1 _ _), HG18.out.on (below1 _ _), HGv18.out.on (below1 _ _), HJ18.out.on (below1 _ _), RatAt.new _ _ _ _ _ _ _ _ _⟩ ?_
  rintro v19 ⟨sv19, pB, pR0, pW, pWv, pG, pGv, pJ, pJv⟩
  have HB19 := Lib.hid pB
  clear pB HB18
  have HR019 := Lib.hid pR0
  clear pR0 HR018
  have HW19 := Lib.hid pW
  clear pW HW18
  have HWv19 := Lib.hid pWv
  clear pWv HWv18
  have HG19 := Lib.hid pG
  clear pG HG18
  have HGv19 := Lib.hid pGv
  clear pGv HGv18
  have HJ19 := Lib.hid pJ
  clear pJ HJ18
  have HJv19 := Lib.hid pJv
  clear pJv
  refine (eqRat_same N Ah Bh As Bs ch dh cs ds X Y _ _ v19 HJ19.out HW19.out (by omega) (by omega)).mono ?_
  rintro e v20 ⟨rfl, bb⟩
  have sv20 : v19.heap.size ≤ v20.heap.size := bb.size
  have HB20 := Lib.hid (below_on HB19.out bb)
  clear HB19
  have HR020 := Lib.hid (HR019.out.on bb)
  clear HR019
  have HW20 := Lib.hid (HW19.out.on bb)
  clear HW19
  have HWv20 := Lib.hid (HWv19.out.on bb)
  clear HWv19
  have HG20 := Lib.hid (HG19.out.on bb)
  clear HG19
  have HGv20 := Lib.hid (HGv19.out.on bb)
  clear HGv19
  have HJ20 := Lib.hid (HJ19.out.on bb)
  clear HJ19
  have HJv20 := Lib.hid (HJv19.out.on bb)
  clear HJv19
  clear bb
  have qGv0 := HGv20.out.c0
  have qGv1 := HGv20.out.c1
  have qGv2 := HGv20.out.c2
  go_wp2_with fail
  clear qGv0 qGv1 qGv2
  refine (heldRat_any N Ag Bg cg dg X.length Y.length 1 _ v20 HG20.out.rdt (by omega) (by omega) (by omega) (by omega)).mono ?_
  rintro e v21 ⟨rfl, bb⟩
  have sv21 : v20.heap.size ≤ v21.heap.size := bb.size
  have HB21 := Lib.hid (below_on HB20.out bb)
  clear HB20
  have HR021 := Lib.hid (HR020.out.on bb)
  clear HR020
  have HW21 := Lib.hid (HW20.out.on bb)
  clear HW20
  have HWv21 := Lib.hid (HWv20.out.on bb)
  clear HWv20
  have HG21 := Lib.hid (HG20.out.on bb)
  clear HG20
  have HGv21 := Lib.hid (HGv20.out.on bb)
  clear HGv20
  have HJ21 := Lib.hid (HJ20.out.on bb)
  clear HJ20
  have HJv21 := Lib.hid (HJv20.out.on bb)
  clear HJv20
  clear bb
  go_wp2
  go_ret
  exact ⟨rfl, HB21.out⟩

set_option maxHeartbeats 800000 in
theorem lawPowRat_any (n0 : Bool) (A0 : Option Addr) (la0 ca0 : Nat) (x0 : List Int) (B0 : Option Addr) (lb0 cb0 : Nat) (y0 : List Int) (i1 : Int) (w : World) (hx0 : Rd w (· < w.heap.size) A0 la0 ca0 x0) (hla0 : la0 ≤ 9223372036854775807) (hy0 : Rd w (· < w.heap.size) B0 lb0 cb0 y0) (hlb0 : lb0 ≤ 9223372036854775807) (hi1 : (Lit.int .i64 i1).wf = true) :
    Calls Try.prog 7 #[.agg #[.bool n0, .slice A0 la0 ca0, .slice B0 lb0 cb0], .int .i64 i1] w fun e w' => e = .returned (.bool true) ∧ Below w.heap.size w w' := by
  by_cases hb0 : 1048576 < la0 + lb0
  · clear hx0 hy0
    go_enter Try.func7, Try.ntmps7
    go_wp2_with fail
    refine calls_at (fun V => Below w.heap.size w V) (below1 _ _) ?_
    intro v1 hb1
    refine (szRat_big n0 A0 B0 la0 ca0 lb0 cb0 1048576 v1 (by omega) (by omega) hla0 hlb0 (by omega)).mono ?_
    rintro e v2 ⟨rfl, b2⟩
    have HB2 := Lib.hid (below_on hb1 b2)
    clear hb1 b2
    go_wp2
    go_ret
    exact ⟨rfl, HB2.out⟩
  have hlen : x0.length = la0 ∧ y0.length = lb0 ∧ True := ⟨hx0.len, hy0.len, trivial⟩
  by_cases hok : okR n0 x0 y0 = true
  · obtain ⟨r, rfl, rfl, rfl, h1, h2⟩ := okR_out hok
    by_cases hi : 0 ≤ i1 ∧ i1 ≤ 8
    · obtain ⟨n, rfl⟩ : ∃ n : Nat, i1 = (n : Int) := ⟨i1.toNat, by omega⟩
      have z1 := fX_len (r ^ n)
      have z2 := fY_len (r ^ n)
      exact lawPowRat_core (fN (r ^ n)) (fX (r ^ n)) (fY (r ^ n)) (fK (r ^ n)) _ A0 la0 ca0 B0 lb0 cb0 _ _ _ w (by omega) (by omega) (fun a c b d W h => specPowRat_ok r n (by omega) a b c d _ W h h1 h2) (fun a c b d W h => implPowRat_ok r n (by omega) a b c d W (h.mono fun _ _ h => h) h1 h2) hx0 hy0 (by omega)
    · exact lawPowRat_core false [] [] 4 _ A0 la0 ca0 B0 lb0 cb0 _ _ i1 w (by decide) (by decide) (fun a c b d W h => specPowRat_range r i1 (by omega) a b c d _ W h h1 h2) (fun a c b d W h => implPowRat_range r i1 (by omega) a b c d W (h.mono fun _ _ h => h) h1 h2) hx0 hy0 (by omega)
  · have hbad : okR n0 x0 y0 = false := by simpa using hok
    exact lawPowRat_core false [] [] 1 n0 A0 la0 ca0 B0 lb0 cb0 x0 y0 i1 w (by decide) (by decide) (fun a c b d W h => specPowRat_bad n0 a b _ c _ d x0 y0 i1 _ _ W h.1 h.2 (by omega) (by omega) hbad) (fun a c b d W h => implPowRat_bad n0 a b _ c _ d x0 y0 i1 W ⟨h.1.mono fun _ _ h => h, h.2.mono fun _ _ h => h⟩ (by omega) (by omega) hbad) hx0 hy0 (by omega)

theorem own_fnExactPowRat : ownKnob Try.prog.godebug = none := by kernel_rfl
theorem laidOut_fnExactPowRat : laidOutB Try.prog = true := by kernel_rfl
set_option maxRecDepth 100000 in
set_option linter.unusedVariables false in
theorem fnExactPowRat_lifted (os : Os) (started : os.Started) (H : Type) (enc : TypeId × Value → H) :
    ReturnsInHanded {} Try.checked os 7 .any (Rows.fnExactPowRatSpec.pre6 enc Try.prog Try.f7 Rows.fnExactPowRatRow.domain false) (Rows.fnExactPowRatSpec.post enc Try.prog Try.f7 false true false false) := by
  refine returnsInHanded_of_change (C := Try.checked) own_fnExactPowRat started (by kernel_rfl) Try.func7
    (ChangeSpec.witness6 (enc := enc) (C := Try.checked) false ⟨#[], #[.agg #[.bool false, .slice none 0 0, .slice none 0 0], .int .i64 0], []⟩ 8 (by kernel_rfl) (by kernel_rfl) (by kernel_rfl) (by kernel_rfl)) ?_
  intro W base args ds gs before hval0 hW hcnd _
  have hval : ∀ (j : Nat) t v, Try.f7.params[j]? = some t → args[j]? = some v → Value.okWide Try.prog W .any base t v := hval0
  have hW' := hW
  obtain ⟨p, q, hA0, hV, rfl, hfz, hnd⟩ := hW
  have hA : DataW.TrodAll enc Try.prog W 0 (fun _ => true) true Try.f7.params.toList args.toList ds p := hA0
  rw [Try.params7] at hA hval
  obtain ⟨v0, vs0, d0, ds0, p0, q0, hargs, rfl, rfl, h0, r0⟩ := trodAll_cons hA
  obtain ⟨v1, vs1, d1, ds1, p1, q1, rfl, rfl, rfl, h1, r1⟩ := trodAll_cons r0
  obtain ⟨rfl, rfl, rfl⟩ := trodAll_nil r1
  obtain rfl : args = #[v0, v1] := by cases args; simp_all
  obtain ⟨rfl, rfl⟩ := trodVars_none hV
  have k0 := h0
  have lt0 : ∀ x ∈ p0, x.block < W.heap.size := by obtain ⟨m, hm⟩ := k0; exact DataW.trod_lt m _ _ _ hm
  obtain ⟨ca0, cb0, cc0, ya0, yb0, yc0, mf0, rfl, ed0, ep0, ta0, tb0, tc0⟩ := Joins.open_agg3 Try.underlying24 (by kernel_rfl) (by kernel_rfl) (hval 0 24 v0 rfl rfl) h0
  obtain ⟨bv0, eb0, _⟩ := DataW.trod_bool Try.underlying4 ta0
  simp at eb0
  subst eb0
  obtain ⟨a0x0, len0x0, cap0x0, z0x0, ec0x0, w0x0⟩ : ∃ a l c zs, cb0 = .slice a l c ∧ IsRow .i64 W a l c zs := by
    rcases open_ints Try.underlying22 Try.underlying3 (by kernel_rfl) tb0 with ⟨hcs, _⟩ | ⟨x, l, c, zs, hcs, _, hl, hm, hz, _, hcell, hwz⟩
    · simp at hcs
      exact ⟨none, 0, 0, [], hcs, .inl ⟨rfl, rfl, rfl, rfl⟩⟩
    · simp at hcs
      exact ⟨_, l, c, zs, hcs, .inr ⟨_, rfl, hl, hm, by simpa using hz, hcell, hwz⟩⟩
  subst ec0x0
  obtain ⟨a0x1, len0x1, cap0x1, z0x1, ec0x1, w0x1⟩ : ∃ a l c zs, cc0 = .slice a l c ∧ IsRow .i64 W a l c zs := by
    rcases open_ints Try.underlying22 Try.underlying3 (by kernel_rfl) tc0 with ⟨hcs, _⟩ | ⟨x, l, c, zs, hcs, _, hl, hm, hz, _, hcell, hwz⟩
    · simp at hcs
      exact ⟨none, 0, 0, [], hcs, .inl ⟨rfl, rfl, rfl, rfl⟩⟩
    · simp at hcs
      exact ⟨_, l, c, zs, hcs, .inr ⟨_, rfl, hl, hm, by simpa using hz, hcell, hwz⟩⟩
  subst ec0x1
  obtain ⟨x1, rfl, rfl, rfl, w1⟩ := open_int Try.underlying3 (hval 1 3 v1 rfl rfl) h1
  clear hA0 hval0
  refine (lawPowRat_any bv0 a0x0 len0x0 cap0x0 _ a0x1 len0x1 cap0x1 _ x1 W w0x0.rd w0x0.le w0x1.rd w0x1.le w1).mono fun e W' ⟨he, bel⟩ => ?_
  subst he
  exact ⟨_, rfl, _, _, _, [], _, [], hW', trodAll_mk1 (shut_bool Try.underlying4 _), (trodAll_cons_mk (Below.trod laidOut_fnExactPowRat (by kernel_rfl) (of_decide_eq_true (by kernel_rfl)) k0 bel lt0) (trodAll_cons_mk (shut_int Try.underlying3 w1) trodAll_mk0)), rfl, bel.frame _, fun h => by cases h⟩

theorem fnExactPowRat_over : Rows.fnExactPowRatRow.holds Try.pinned (OpenSpec.ofChange Rows.fnExactPowRatSpec) :=
  OpenClaim.holds_of_wide 7 Try.f7 rfl rfl rfl rfl rfl rfl rfl ⟨rfl, rfl, rfl, rfl, rfl⟩ rfl rfl rfl rfl rfl (by kernel_rfl) Try.func7 (by kernel_rfl)
    (of_decide_eq_true (by kernel_rfl)) (by unfold Func.isWrapper; first | (rw [if_pos (by decide +kernel)]; kernel_rfl) | (rw [if_neg (by decide +kernel)]; exact ⟨rfl, rfl⟩))
    (fun os started H enc _ => fnExactPowRat_lifted os started H enc)

theorem fnExactPowRat_holds : Rows.FnExactPowRatSaid := fnExactPowRat_over

end Go.Proofs.Ythfnddafbpjolaa
