/-
  The law FnExactCmpRat: whatever the arguments, CmpRat answers as its model, writes into no argument, and what it answers is memory of its own. No condition.
-/
import Derived.Test.YtojjopielekpdaaCmpRat
import Derived.ProofKit
import Derived.OpenShut
import Derived.ShutString
import Derived.ChangeOld
import Derived.Lib.SmallJoins
import Derived.Deep.RegionHeld3
namespace Go.Proofs.Ytojjopielekpdaa
open Go Go.RowKit Nt
open Go.ChangeShapes Go.WideShapes Go.ChangeAt
open Go.ChangeMaps (open_string shut_string)

set_option maxHeartbeats 3200000 in
theorem lawCmpRat_core (J K : Int) (n0 : Bool) (A0 : Option Addr) (la0 ca0 : Nat) (B0 : Option Addr) (lb0 cb0 : Nat) (x0 y0 : List Int) (n1 : Bool) (A1 : Option Addr) (la1 ca1 : Nat) (B1 : Option Addr) (lb1 cb1 : Nat) (x1 y1 : List Int) (w : World)
    (hS : ∀ (a0 : Option Addr) (c0 : Nat) (b0 : Option Addr) (d0 : Nat) (a1 : Option Addr) (c1 : Nat) (b1 : Option Addr) (d1 : Nat) (W : World), RdR W (fun _ => True) x0 y0 a0 c0 b0 d0 → RdR W (fun _ => True) x1 y1 a1 c1 b1 d1 → Calls Try.prog 20 #[.agg #[.bool n0, .slice a0 x0.length c0, .slice b0 y0.length d0], .agg #[.bool n1, .slice a1 x1.length c1, .slice b1 y1.length d1]] W (fun e w' => e = .returned (.tuple #[.int .i64 J, .int .i64 K]) ∧ Below W.heap.size W w'))
    (hI : ∀ (a0 : Option Addr) (c0 : Nat) (b0 : Option Addr) (d0 : Nat) (a1 : Option Addr) (c1 : Nat) (b1 : Option Addr) (d1 : Nat) (W : World), RdR W (fun _ => True) x0 y0 a0 c0 b0 d0 → RdR W (fun _ => True) x1 y1 a1 c1 b1 d1 → Calls Try.prog 21 #[.agg #[.bool n0, .slice a0 x0.length c0, .slice b0 y0.length d0], .agg #[.bool n1, .slice a1 x1.length c1, .slice b1 y1.length d1]] W (fun e w' => e = .returned (.tuple #[.int .i64 J, .int .i64 K]) ∧ Below W.heap.size W w'))
    (hx0 : Rd w (· < w.heap.size) A0 la0 ca0 x0) (hy0 : Rd w (· < w.heap.size) B0 lb0 cb0 y0) (hx1 : Rd w (· < w.heap.size) A1 la1 ca1 x1) (hy1 : Rd w (· < w.heap.size) B1 lb1 cb1 y1) (hsz : la0 + lb0 + la1 + lb1 ≤ 1048576) :
    Calls Try.prog 5 #[.agg #[.bool n0, .slice A0 la0 ca0, .slice B0 lb0 cb0], .agg #[.bool n1, .slice A1 la1 ca1, .slice B1 lb1 cb1]] w fun e w' => e = .returned (.bool true) ∧ Below w.heap.size w w' := by
  have HS := Lib.hid hS
  have HI := Lib.hid hI
  clear hS hI
  have HXk0 := Lib.hid hx0
  have HYk0 := Lib.hid hy0
  have hxl0 := hx0.len
  have hyl0 := hy0.len
  clear hx0 hy0
  subst hxl0 hyl0
  have HXk1 := Lib.hid hx1
  have HYk1 := Lib.hid hy1
  have hxl1 := hx1.len
  have hyl1 := hy1.len
  clear hx1 hy1
  subst hxl1 hyl1
  have hK : (K != K) = false := by simp
  have hJ : (J != J) = false := by simp
  go_enter Try.func5, Try.ntmps5
  go_wp2_with fail
  refine calls_at (fun V => (Below w.heap.size w V) ∧ (RatAt V w.heap.size 29 n0 A0 x0.length ca0 B0 y0.length cb0) ∧ (RatAt V (w.heap.size + 1) 29 n1 A1 x1.length ca1 B1 y1.length cb1))
    ⟨below2 _ _ _, (RatAt.new _ _ _ _ _ _ _ _ _).alloc _, RatAt.new1 _ _ _ _ _ _ _ _ _ _⟩ ?_
  rintro v1 ⟨pB, pR0, pR1⟩
  have sv1 : w.heap.size ≤ v1.heap.size := pB.size
  have HB1 := Lib.hid pB
  have HR01 := Lib.hid pR0
  have HR11 := Lib.hid pR1
  clear pB pR0 pR1
  refine (szRat_fit n0 A0 B0 _ ca0 _ cb0 (1048576) v1 (by omega) (by omega) (by omega)).mono ?_
  rintro e v2 ⟨rfl, bb⟩
  have sv2 : v1.heap.size ≤ v2.heap.size := bb.size
  have HB2 := Lib.hid (below_on HB1.out bb)
  clear HB1
  have HR02 := Lib.hid (HR01.out.on bb)
  clear HR01
  have HR12 := Lib.hid (HR11.out.on bb)
  clear HR11
  clear bb
  have hle0 : 0 ≤ 1048576 - (x0.length : Int) - (y0.length : Int) := by omega
  have qR10 := HR12.out.c0
  have qR11 := HR12.out.c1
  have qR12 := HR12.out.c2
  go_wp2_with fail
  clear qR10 qR11 qR12
  refine (szRat_fit n1 A1 B1 _ ca1 _ cb1 (1048576 - (x0.length : Int) - (y0.length : Int)) v2 (by omega) (by omega) (by omega)).mono ?_
  rintro e v3 ⟨rfl, bb⟩
  have sv3 : v2.heap.size ≤ v3.heap.size := bb.size
  have HB3 := Lib.hid (below_on HB2.out bb)
  clear HB2
  have HR03 := Lib.hid (HR02.out.on bb)
  clear HR02
  have HR13 := Lib.hid (HR12.out.on bb)
  clear HR12
  clear bb
  have hle1 : 0 ≤ 1048576 - (x0.length : Int) - (y0.length : Int) - (x1.length : Int) - (y1.length : Int) := by omega
  go_wp2_with fail
  go_region_held3 (fun wx => wx.cell? ⟨w.heap.size, 0, none⟩ = some (.bool n0) ∧ wx.cell? ⟨w.heap.size, 1, none⟩ = some (.slice A0 x0.length ca0) ∧ wx.cell? ⟨w.heap.size, 2, none⟩ = some (.slice B0 y0.length cb0) ∧ wx.cell? ⟨(w.heap.size + 1), 0, none⟩ = some (.bool n1) ∧ wx.cell? ⟨(w.heap.size + 1), 1, none⟩ = some (.slice A1 x1.length ca1) ∧ wx.cell? ⟨(w.heap.size + 1), 2, none⟩ = some (.slice B1 y1.length cb1))
    (first | exact ⟨HR03.out.c0, HR03.out.c1, HR03.out.c2, HR13.out.c0, HR13.out.c1, HR13.out.c2⟩ | exact ⟨HR04.out.c0, HR04.out.c1, HR04.out.c2, HR14.out.c0, HR14.out.c1, HR14.out.c2⟩ | exact ⟨HR05.out.c0, HR05.out.c1, HR05.out.c2, HR15.out.c0, HR15.out.c1, HR15.out.c2⟩ | exact ⟨HR06.out.c0, HR06.out.c1, HR06.out.c2, HR16.out.c0, HR16.out.c1, HR16.out.c2⟩)
    (first
      | (go_at_call_of 17 A0; refine (toRat_any n0 A0 B0 _ ca0 _ cb0 x0 y0 _ (by exact ((HXk0.out.below HB3.out).mono fun _ h _ => Nat.lt_of_lt_of_le h (HB3.out).size)) (by exact ((HYk0.out.below HB3.out).mono fun _ h _ => Nat.lt_of_lt_of_le h (HB3.out).size)) (by omega) (by omega)).mono ?_; rintro e v4 ⟨sA0, sc0, sB0, sd0, rfl, oo, bb⟩; have bb := undrew bb; have sv4 : v3.heap.size ≤ v4.heap.size := bb.size; have HB4 := Lib.hid (below_on HB3.out bb); have HR04 := Lib.hid (HR03.out.on bb); have HR14 := Lib.hid (HR13.out.on bb); have HT04 : Hid (RdR v4 (fun _ => True) x0 y0 sA0 sc0 sB0 sd0) := (Lib.hid oo.rdt))
      | (go_at_call_of 17 A1; refine (toRat_any n1 A1 B1 _ ca1 _ cb1 x1 y1 _ (by exact ((HXk1.out.below HB4.out).mono fun _ h _ => Nat.lt_of_lt_of_le h (HB4.out).size)) (by exact ((HYk1.out.below HB4.out).mono fun _ h _ => Nat.lt_of_lt_of_le h (HB4.out).size)) (by omega) (by omega)).mono ?_; rintro e v5 ⟨sA1, sc1, sB1, sd1, rfl, oo, bb⟩; have sv5 : v4.heap.size ≤ v5.heap.size := bb.size; have HB5 := Lib.hid (below_on HB4.out bb); have HR05 := Lib.hid (HR04.out.on bb); have HR15 := Lib.hid (HR14.out.on bb); have HT05 := Lib.hid (HT04.out.on bb); have HT15 : Hid (RdR v5 (fun _ => True) x1 y1 sA1 sc1 sB1 sd1) := (Lib.hid oo.rdt))
      | (go_at_call 20; refine (HS.out sA0 sc0 sB0 sd0 sA1 sc1 sB1 sd1 _ (by exact HT05.out) (by exact HT15.out)).mono ?_; rintro e v6 ⟨rfl, bb⟩; have sv6 : v5.heap.size ≤ v6.heap.size := bb.size; have HB6 := Lib.hid (below_on HB5.out bb); have HR06 := Lib.hid (HR05.out.on bb); have HR16 := Lib.hid (HR15.out.on bb)))
  have qR00 := HR06.out.c0
  have qR01 := HR06.out.c1
  have qR02 := HR06.out.c2
  have qR10 := HR16.out.c0
  have qR11 := HR16.out.c1
  have qR12 := HR16.out.c2
  go_wp2_with fail
  clear qR00 qR01 qR02 qR10 qR11 qR12
  refine (toRat_any n0 A0 B0 _ ca0 _ cb0 x0 y0 v6 (((HXk0.out.below HB6.out).mono (Q := (· < (v6).heap.size)) fun _ h _ => Nat.lt_of_lt_of_le h (HB6.out).size)) (((HYk0.out.below HB6.out).mono (Q := (· < (v6).heap.size)) fun _ h _ => Nat.lt_of_lt_of_le h (HB6.out).size)) (by omega) (by omega)).mono ?_
  rintro e v7 ⟨xA0, xc0, xB0, xd0, rfl, oo, bb⟩
  have sv7 : v6.heap.size ≤ v7.heap.size := bb.size
  have HB7 := Lib.hid (below_on HB6.out bb)
  clear HB6
  have HR07 := Lib.hid (HR06.out.on bb)
  clear HR06
  have HR17 := Lib.hid (HR16.out.on bb)
  clear HR16
  have HX07 := Lib.hid (oo)
  clear bb
  clear oo
  have qR00 := (HR07.out.alloc (.cells #[.bool n0, .slice xA0 x0.length xc0, .slice xB0 y0.length xd0] 32)).c0
  have qR01 := (HR07.out.alloc (.cells #[.bool n0, .slice xA0 x0.length xc0, .slice xB0 y0.length xd0] 32)).c1
  have qR02 := (HR07.out.alloc (.cells #[.bool n0, .slice xA0 x0.length xc0, .slice xB0 y0.length xd0] 32)).c2
  have qR10 := (HR17.out.alloc (.cells #[.bool n0, .slice xA0 x0.length xc0, .slice xB0 y0.length xd0] 32)).c0
  have qR11 := (HR17.out.alloc (.cells #[.bool n0, .slice xA0 x0.length xc0, .slice xB0 y0.length xd0] 32)).c1
  have qR12 := (HR17.out.alloc (.cells #[.bool n0, .slice xA0 x0.length xc0, .slice xB0 y0.length xd0] 32)).c2
  go_wp2_with fail
  clear qR00 qR01 qR02 qR10 qR11 qR12
  refine calls_at (fun V => (v7.heap.size ≤ V.heap.size) ∧ (Below w.heap.size w V) ∧ (RatAt V w.heap.size 29 n0 A0 x0.length ca0 B0 y0.length cb0) ∧ (RatAt V (w.heap.size + 1) 29 n1 A1 x1.length ca1 B1 y1.length cb1) ∧ (OwnR 3 V v6.heap.size x0 y0 xA0 xc0 xB0 xd0) ∧ (RatAt V v7.heap.size 32 n0 xA0 x0.length xc0 xB0 y0.length xd0))
    ⟨(below1 _ _).size, below_on HB7.out (below1 _ _), HR07.out.on (below1 _ _), HR17.out.on (below1 _ _), HX07.out.on (below1 _ _), RatAt.new _ _ _ _ _ _ _ _ _⟩ ?_
  rintro v8 ⟨sv8, pB, pR0, pR1, pX0, pXv0⟩
  have HB8 := Lib.hid pB
  clear pB HB7
  have HR08 := Lib.hid pR0
  clear pR0 HR07
  have HR18 := Lib.hid pR1
  clear pR1 HR17
  have HX08 := Lib.hid pX0
  clear pX0 HX07
  have HXv08 := Lib.hid pXv0
  clear pXv0
  have HLY0 := Lib.hid HX08.out.lt
  refine (toRat_any n1 A1 B1 _ ca1 _ cb1 x1 y1 v8 (((HXk1.out.below HB8.out).mono (Q := (· < (v8).heap.size)) fun _ h _ => Nat.lt_of_lt_of_le h (HB8.out).size)) (((HYk1.out.below HB8.out).mono (Q := (· < (v8).heap.size)) fun _ h _ => Nat.lt_of_lt_of_le h (HB8.out).size)) (by omega) (by omega)).mono ?_
  rintro e v9 ⟨xA1, xc1, xB1, xd1, rfl, oo, bb⟩
  have sv9 : v8.heap.size ≤ v9.heap.size := bb.size
  have HB9 := Lib.hid (below_on HB8.out bb)
  clear HB8
  have HR09 := Lib.hid (HR08.out.on bb)
  clear HR08
  have HR19 := Lib.hid (HR18.out.on bb)
  clear HR18
  have HX09 := Lib.hid (HX08.out.on bb)
  clear HX08
  have HXv09 := Lib.hid (HXv08.out.on bb)
  clear HXv08
  have HX19 := Lib.hid (oo)
  clear bb
  clear oo
  have qXv00 := (HXv09.out.alloc (.cells #[.bool n1, .slice xA1 x1.length xc1, .slice xB1 y1.length xd1] 32)).c0
  have qXv01 := (HXv09.out.alloc (.cells #[.bool n1, .slice xA1 x1.length xc1, .slice xB1 y1.length xd1] 32)).c1
  have qXv02 := (HXv09.out.alloc (.cells #[.bool n1, .slice xA1 x1.length xc1, .slice xB1 y1.length xd1] 32)).c2
  go_wp2_with fail
  clear qXv00 qXv01 qXv02
  refine calls_at (fun V => (v9.heap.size ≤ V.heap.size) ∧ (Below w.heap.size w V) ∧ (RatAt V w.heap.size 29 n0 A0 x0.length ca0 B0 y0.length cb0) ∧ (RatAt V (w.heap.size + 1) 29 n1 A1 x1.length ca1 B1 y1.length cb1) ∧ (OwnR 3 V v6.heap.size x0 y0 xA0 xc0 xB0 xd0) ∧ (RatAt V v7.heap.size 32 n0 xA0 x0.length xc0 xB0 y0.length xd0) ∧ (OwnR 3 V v8.heap.size x1 y1 xA1 xc1 xB1 xd1) ∧ (RatAt V v9.heap.size 32 n1 xA1 x1.length xc1 xB1 y1.length xd1))
    ⟨(below1 _ _).size, below_on HB9.out (below1 _ _), HR09.out.on (below1 _ _), HR19.out.on (below1 _ _), HX09.out.on (below1 _ _), HXv09.out.on (below1 _ _), HX19.out.on (below1 _ _), RatAt.new _ _ _ _ _ _ _ _ _⟩ ?_
  rintro v10 ⟨sv10, pB, pR0, pR1, pX0, pXv0, pX1, pXv1⟩
  have HB10 := Lib.hid pB
  clear pB HB9
  have HR010 := Lib.hid pR0
  clear pR0 HR09
  have HR110 := Lib.hid pR1
  clear pR1 HR19
  have HX010 := Lib.hid pX0
  clear pX0 HX09
  have HXv010 := Lib.hid pXv0
  clear pXv0 HXv09
  have HX110 := Lib.hid pX1
  clear pX1 HX19
  have HXv110 := Lib.hid pXv1
  clear pXv1
  have HLX0 := Lib.hid HX010.out.lt
  have HLX1 := Lib.hid HX110.out.lt
  refine (HI.out xA0 xc0 xB0 xd0 xA1 xc1 xB1 xd1 v10 HX010.out.rdt HX110.out.rdt).mono ?_
  rintro e v11 ⟨rfl, bb⟩
  have sv11 : v10.heap.size ≤ v11.heap.size := bb.size
  have HB11 := Lib.hid (below_on HB10.out bb)
  clear HB10
  have HR011 := Lib.hid (HR010.out.on bb)
  clear HR010
  have HR111 := Lib.hid (HR110.out.on bb)
  clear HR110
  have HX011 := Lib.hid (HX010.out.on bb)
  clear HX010
  have HXv011 := Lib.hid (HXv010.out.on bb)
  clear HXv010
  have HX111 := Lib.hid (HX110.out.on bb)
  clear HX110
  have HXv111 := Lib.hid (HXv110.out.on bb)
  clear HXv110
  clear bb
  go_wp2_with fail
  go_region_held3 (fun wx => wx.cell? ⟨v7.heap.size, 0, none⟩ = some (.bool n0) ∧ wx.cell? ⟨v7.heap.size, 1, none⟩ = some (.slice xA0 x0.length xc0) ∧ wx.cell? ⟨v7.heap.size, 2, none⟩ = some (.slice xB0 y0.length xd0) ∧ wx.cell? ⟨w.heap.size, 0, none⟩ = some (.bool n0) ∧ wx.cell? ⟨w.heap.size, 1, none⟩ = some (.slice A0 x0.length ca0) ∧ wx.cell? ⟨w.heap.size, 2, none⟩ = some (.slice B0 y0.length cb0))
    (first | exact ⟨HXv011.out.c0, HXv011.out.c1, HXv011.out.c2, HR011.out.c0, HR011.out.c1, HR011.out.c2⟩ | exact ⟨HXv012.out.c0, HXv012.out.c1, HXv012.out.c2, HR012.out.c0, HR012.out.c1, HR012.out.c2⟩ | exact ⟨HXv013.out.c0, HXv013.out.c1, HXv013.out.c2, HR013.out.c0, HR013.out.c1, HR013.out.c2⟩)
    (first
      | (go_at_call 17; refine (toRat_any n0 A0 B0 _ ca0 _ cb0 x0 y0 _ (by exact ((HXk0.out.below HB11.out).mono fun _ h _ => Nat.lt_of_lt_of_le h (HB11.out).size)) (by exact ((HYk0.out.below HB11.out).mono fun _ h _ => Nat.lt_of_lt_of_le h (HB11.out).size)) (by omega) (by omega)).mono ?_; rintro e v12 ⟨zA0, zc0, zB0, zd0, rfl, oo, bb⟩; have bb := undrew bb; have sv12 : v11.heap.size ≤ v12.heap.size := bb.size; have HB12 := Lib.hid (below_on HB11.out bb); have HR012 := Lib.hid (HR011.out.on bb); have HR112 := Lib.hid (HR111.out.on bb); have HX012 := Lib.hid (HX011.out.on bb); have HXv012 := Lib.hid (HXv011.out.on bb); have HX112 := Lib.hid (HX111.out.on bb); have HXv112 := Lib.hid (HXv111.out.on bb); have HZ012 : Hid (RdR v12 (fun _ => True) x0 y0 zA0 zc0 zB0 zd0) := (Lib.hid oo.rdt))
      | (go_at_call 19; refine (eqRat_same n0 xA0 xB0 zA0 zB0 xc0 xd0 zc0 zd0 x0 y0 _ _ _ (by exact HX012.out.rdt) (by exact HZ012.out) (by omega) (by omega)).mono ?_; rintro e v13 ⟨rfl, bb⟩; have sv13 : v12.heap.size ≤ v13.heap.size := bb.size; have HB13 := Lib.hid (below_on HB12.out bb); have HR013 := Lib.hid (HR012.out.on bb); have HR113 := Lib.hid (HR112.out.on bb); have HX013 := Lib.hid (HX012.out.on bb); have HXv013 := Lib.hid (HXv012.out.on bb); have HX113 := Lib.hid (HX112.out.on bb); have HXv113 := Lib.hid (HXv112.out.on bb)))
  go_wp2_with fail
  go_region_held3 (fun wx => wx.cell? ⟨v9.heap.size, 0, none⟩ = some (.bool n1) ∧ wx.cell? ⟨v9.heap.size, 1, none⟩ = some (.slice xA1 x1.length xc1) ∧ wx.cell? ⟨v9.heap.size, 2, none⟩ = some (.slice xB1 y1.length xd1) ∧ wx.cell? ⟨(w.heap.size + 1), 0, none⟩ = some (.bool n1) ∧ wx.cell? ⟨(w.heap.size + 1), 1, none⟩ = some (.slice A1 x1.length ca1) ∧ wx.cell? ⟨(w.heap.size + 1), 2, none⟩ = some (.slice B1 y1.length cb1))
    (first | exact ⟨HXv113.out.c0, HXv113.out.c1, HXv113.out.c2, HR113.out.c0, HR113.out.c1, HR113.out.c2⟩ | exact ⟨HXv114.out.c0, HXv114.out.c1, HXv114.out.c2, HR114.out.c0, HR114.out.c1, HR114.out.c2⟩ | exact ⟨HXv115.out.c0, HXv115.out.c1, HXv115.out.c2, HR115.out.c0, HR115.out.c1, HR115.out.c2⟩)
    (first
      | (go_at_call 17; refine (toRat_any n1 A1 B1 _ ca1 _ cb1 x1 y1 _ (by exact ((HXk1.out.below HB13.out).mono fun _ h _ => Nat.lt_of_lt_of_le h (HB13.out).size)) (by exact ((HYk1.out.below HB13.out).mono fun _ h _ => Nat.lt_of_lt_of_le h (HB13.out).size)) (by omega) (by omega)).mono ?_; rintro e v14 ⟨zA1, zc1, zB1, zd1, rfl, oo, bb⟩; have bb := undrew bb; have sv14 : v13.heap.size ≤ v14.heap.size := bb.size; have HB14 := Lib.hid (below_on HB13.out bb); have HR014 := Lib.hid (HR013.out.on bb); have HR114 := Lib.hid (HR113.out.on bb); have HX014 := Lib.hid (HX013.out.on bb); have HXv014 := Lib.hid (HXv013.out.on bb); have HX114 := Lib.hid (HX113.out.on bb); have HXv114 := Lib.hid (HXv113.out.on bb); have HZ114 : Hid (RdR v14 (fun _ => True) x1 y1 zA1 zc1 zB1 zd1) := (Lib.hid oo.rdt))
      | (go_at_call 19; refine (eqRat_same n1 xA1 xB1 zA1 zB1 xc1 xd1 zc1 zd1 x1 y1 _ _ _ (by exact HX114.out.rdt) (by exact HZ114.out) (by omega) (by omega)).mono ?_; rintro e v15 ⟨rfl, bb⟩; have sv15 : v14.heap.size ≤ v15.heap.size := bb.size; have HB15 := Lib.hid (below_on HB14.out bb); have HR015 := Lib.hid (HR014.out.on bb); have HR115 := Lib.hid (HR114.out.on bb); have HX015 := Lib.hid (HX014.out.on bb); have HXv015 := Lib.hid (HXv014.out.on bb); have HX115 := Lib.hid (HX114.out.on bb); have HXv115 := Lib.hid (HXv114.out.on bb)))
  go_wp2
  go_ret
  exact ⟨rfl, HB15.out⟩

set_option maxHeartbeats 800000 in
theorem lawCmpRat_any (n0 : Bool) (A0 : Option Addr) (la0 ca0 : Nat) (x0 : List Int) (B0 : Option Addr) (lb0 cb0 : Nat) (y0 : List Int) (n1 : Bool) (A1 : Option Addr) (la1 ca1 : Nat) (x1 : List Int) (B1 : Option Addr) (lb1 cb1 : Nat) (y1 : List Int) (w : World) (hx0 : Rd w (· < w.heap.size) A0 la0 ca0 x0) (hla0 : la0 ≤ 9223372036854775807) (hy0 : Rd w (· < w.heap.size) B0 lb0 cb0 y0) (hlb0 : lb0 ≤ 9223372036854775807) (hx1 : Rd w (· < w.heap.size) A1 la1 ca1 x1) (hla1 : la1 ≤ 9223372036854775807) (hy1 : Rd w (· < w.heap.size) B1 lb1 cb1 y1) (hlb1 : lb1 ≤ 9223372036854775807) :
    Calls Try.prog 5 #[.agg #[.bool n0, .slice A0 la0 ca0, .slice B0 lb0 cb0], .agg #[.bool n1, .slice A1 la1 ca1, .slice B1 lb1 cb1]] w fun e w' => e = .returned (.bool true) ∧ Below w.heap.size w w' := by
  by_cases hb0 : 1048576 < la0 + lb0
  · clear hx0 hy0 hx1 hy1
    go_enter Try.func5, Try.ntmps5
    go_wp2_with fail
    refine calls_at (fun V => Below w.heap.size w V) (below2 _ _ _) ?_
    intro v1 hb1
    refine (szRat_big n0 A0 B0 la0 ca0 lb0 cb0 1048576 v1 (by omega) (by omega) hla0 hlb0 (by omega)).mono ?_
    rintro e v2 ⟨rfl, b2⟩
    have HB2 := Lib.hid (below_on hb1 b2)
    clear hb1 b2
    go_wp2
    go_ret
    exact ⟨rfl, HB2.out⟩
  by_cases hb2 : 1048576 < la0 + lb0 + la1 + lb1
  · clear hx0 hy0 hx1 hy1
    go_enter Try.func5, Try.ntmps5
    go_wp2_with fail
    refine calls_at (fun V => Below w.heap.size w V ∧ RatAt V (w.heap.size + 1) 29 n1 A1 la1 ca1 B1 lb1 cb1) ⟨below2 _ _ _, RatAt.new1 _ _ _ _ _ _ _ _ _ _⟩ ?_
    rintro v1 ⟨hb1, r1⟩
    refine (szRat_fit n0 A0 B0 la0 ca0 lb0 cb0 1048576 v1 (by omega) (by omega) (by omega)).mono ?_
    rintro e v2 ⟨rfl, b2⟩
    have HB2 := Lib.hid (below_on hb1 b2)
    have HR2 := Lib.hid (r1.on b2)
    clear hb1 b2 r1
    have hle : 0 ≤ 1048576 - (la0 : Int) - lb0 := by omega
    have c0 := HR2.out.c0
    have c1 := HR2.out.c1
    have c2 := HR2.out.c2
    go_wp2_with fail
    refine (szRat_big n1 A1 B1 la1 ca1 lb1 cb1 (1048576 - la0 - lb0) v2 (by omega) (by omega) hla1 hlb1 (by omega)).mono ?_
    rintro e v3 ⟨rfl, b3⟩
    have HB3 := Lib.hid (below_on HB2.out b3)
    clear b3
    go_wp2
    go_ret
    exact ⟨rfl, HB3.out⟩
  have hlen : x0.length = la0 ∧ y0.length = lb0 ∧ x1.length = la1 ∧ y1.length = lb1 ∧ True := ⟨hx0.len, hy0.len, hx1.len, hy1.len, trivial⟩
  by_cases hok : okR n0 x0 y0 = true ∧ okR n1 x1 y1 = true
  · obtain ⟨r, rfl, rfl, rfl, h1, h2⟩ := okR_out hok.1
    obtain ⟨s, rfl, rfl, rfl, h3, h4⟩ := okR_out hok.2
    have q1 := (D_len_le (nu r) 40).2 h1
    have q2 := (D_len_le r.den 40).2 h2
    have q3 := (D_len_le (nu s) 40).2 h3
    have q4 := (D_len_le s.den 40).2 h4
    exact lawCmpRat_core (cmpQ r s) 0 _ A0 la0 ca0 B0 lb0 cb0 _ _ _ A1 la1 ca1 B1 lb1 cb1 _ _ w (fun a c b d a' c' b' d' W h h' => specCmpRat_ok r s a b c d a' b' c' d' _ _ W h h' (by omega) (by omega) (by omega) (by omega) h1 h2 h3 h4) (fun a c b d a' c' b' d' W h h' => implCmpRat_ok r s a b c d a' b' c' d' _ _ W h h' (by omega) (by omega) (by omega) (by omega) h1 h2 h3 h4) hx0 hy0 hx1 hy1 (by omega)
  · have hbad : (okR n0 x0 y0 && okR n1 x1 y1) = false := by
      rw [Bool.and_eq_false_iff]
      by_cases h : okR n0 x0 y0 = true
      · right; rw [Bool.eq_false_iff]; exact fun k => hok ⟨h, k⟩
      · left; rw [Bool.eq_false_iff]; exact h
    exact lawCmpRat_core 0 1 n0 A0 la0 ca0 B0 lb0 cb0 x0 y0 n1 A1 la1 ca1 B1 lb1 cb1 x1 y1 w (fun a c b d a' c' b' d' W h h' => specCmpRat_bad n0 a b _ c _ d x0 y0 n1 a' b' _ c' _ d' x1 y1 _ _ W h.1 h.2 h'.1 h'.2 (by omega) (by omega) (by omega) (by omega) hbad) (fun a c b d a' c' b' d' W h h' => implCmpRat_bad n0 a b _ c _ d x0 y0 n1 a' b' _ c' _ d' x1 y1 _ _ W h.1 h.2 h'.1 h'.2 (by omega) (by omega) (by omega) (by omega) hbad) hx0 hy0 hx1 hy1 (by omega)

theorem own_fnExactCmpRat : ownKnob Try.prog.godebug = none := by kernel_rfl
theorem laidOut_fnExactCmpRat : laidOutB Try.prog = true := by kernel_rfl
set_option maxRecDepth 100000 in
set_option linter.unusedVariables false in
theorem fnExactCmpRat_lifted (os : Os) (started : os.Started) (H : Type) (enc : TypeId × Value → H) :
    ReturnsInHanded {} Try.checked os 5 .any (Rows.fnExactCmpRatSpec.pre6 enc Try.prog Try.f5 Rows.fnExactCmpRatRow.domain false) (Rows.fnExactCmpRatSpec.post enc Try.prog Try.f5 false true false false) := by
  refine returnsInHanded_of_change (C := Try.checked) own_fnExactCmpRat started (by kernel_rfl) Try.func5
    (ChangeSpec.witness6 (enc := enc) (C := Try.checked) false ⟨#[], #[.agg #[.bool false, .slice none 0 0, .slice none 0 0], .agg #[.bool false, .slice none 0 0, .slice none 0 0]], []⟩ 8 (by kernel_rfl) (by kernel_rfl) (by kernel_rfl) (by kernel_rfl)) ?_
  intro W base args ds gs before hval0 hW hcnd _
  have hval : ∀ (j : Nat) t v, Try.f5.params[j]? = some t → args[j]? = some v → Value.okWide Try.prog W .any base t v := hval0
  have hW' := hW
  obtain ⟨p, q, hA0, hV, rfl, hfz, hnd⟩ := hW
  have hA : DataW.TrodAll enc Try.prog W 0 (fun _ => true) true Try.f5.params.toList args.toList ds p := hA0
  rw [Try.params5] at hA hval
  obtain ⟨v0, vs0, d0, ds0, p0, q0, hargs, rfl, rfl, h0, r0⟩ := trodAll_cons hA
  obtain ⟨v1, vs1, d1, ds1, p1, q1, rfl, rfl, rfl, h1, r1⟩ := trodAll_cons r0
  obtain ⟨rfl, rfl, rfl⟩ := trodAll_nil r1
  obtain rfl : args = #[v0, v1] := by cases args; simp_all
  obtain ⟨rfl, rfl⟩ := trodVars_none hV
  have k0 := h0
  have lt0 : ∀ x ∈ p0, x.block < W.heap.size := by obtain ⟨m, hm⟩ := k0; exact DataW.trod_lt m _ _ _ hm
  obtain ⟨ca0, cb0, cc0, ya0, yb0, yc0, mf0, rfl, ed0, ep0, ta0, tb0, tc0⟩ := Joins.open_agg3 Try.underlying29 (by kernel_rfl) (by kernel_rfl) (hval 0 29 v0 rfl rfl) h0
  obtain ⟨bv0, eb0, _⟩ := DataW.trod_bool Try.underlying4 ta0
  simp at eb0
  subst eb0
  obtain ⟨a0x0, len0x0, cap0x0, z0x0, ec0x0, w0x0⟩ : ∃ a l c zs, cb0 = .slice a l c ∧ IsRow .i64 W a l c zs := by
    rcases open_ints Try.underlying22 Try.underlying3 (by kernel_rfl) tb0 with ⟨hcs, _⟩ | ⟨x, l, c, zs, hcs, _, hl, hm, hz, _, hcell, hwz⟩
    · simp at hcs
      exact ⟨none, 0, 0, [], hcs, .inl ⟨rfl, rfl, rfl, rfl⟩⟩
    · simp at hcs
      exact ⟨_, l, c, zs, hcs, .inr ⟨_, rfl, hl, hm, by simpa using hz, hcell, hwz⟩⟩
  subst ec0x0
  obtain ⟨a0x1, len0x1, cap0x1, z0x1, ec0x1, w0x1⟩ : ∃ a l c zs, cc0 = .slice a l c ∧ IsRow .i64 W a l c zs := by
    rcases open_ints Try.underlying22 Try.underlying3 (by kernel_rfl) tc0 with ⟨hcs, _⟩ | ⟨x, l, c, zs, hcs, _, hl, hm, hz, _, hcell, hwz⟩
    · simp at hcs
      exact ⟨none, 0, 0, [], hcs, .inl ⟨rfl, rfl, rfl, rfl⟩⟩
    · simp at hcs
      exact ⟨_, l, c, zs, hcs, .inr ⟨_, rfl, hl, hm, by simpa using hz, hcell, hwz⟩⟩
  subst ec0x1
  have k1 := h1
  have lt1 : ∀ x ∈ p1, x.block < W.heap.size := by obtain ⟨m, hm⟩ := k1; exact DataW.trod_lt m _ _ _ hm
  obtain ⟨ca1, cb1, cc1, ya1, yb1, yc1, mf1, rfl, ed1, ep1, ta1, tb1, tc1⟩ := Joins.open_agg3 Try.underlying29 (by kernel_rfl) (by kernel_rfl) (hval 1 29 v1 rfl rfl) h1
  obtain ⟨bv1, eb1, _⟩ := DataW.trod_bool Try.underlying4 ta1
  simp at eb1
  subst eb1
  obtain ⟨a1x0, len1x0, cap1x0, z1x0, ec1x0, w1x0⟩ : ∃ a l c zs, cb1 = .slice a l c ∧ IsRow .i64 W a l c zs := by
    rcases open_ints Try.underlying22 Try.underlying3 (by kernel_rfl) tb1 with ⟨hcs, _⟩ | ⟨x, l, c, zs, hcs, _, hl, hm, hz, _, hcell, hwz⟩
    · simp at hcs
      exact ⟨none, 0, 0, [], hcs, .inl ⟨rfl, rfl, rfl, rfl⟩⟩
    · simp at hcs
      exact ⟨_, l, c, zs, hcs, .inr ⟨_, rfl, hl, hm, by simpa using hz, hcell, hwz⟩⟩
  subst ec1x0
  obtain ⟨a1x1, len1x1, cap1x1, z1x1, ec1x1, w1x1⟩ : ∃ a l c zs, cc1 = .slice a l c ∧ IsRow .i64 W a l c zs := by
    rcases open_ints Try.underlying22 Try.underlying3 (by kernel_rfl) tc1 with ⟨hcs, _⟩ | ⟨x, l, c, zs, hcs, _, hl, hm, hz, _, hcell, hwz⟩
    · simp at hcs
      exact ⟨none, 0, 0, [], hcs, .inl ⟨rfl, rfl, rfl, rfl⟩⟩
    · simp at hcs
      exact ⟨_, l, c, zs, hcs, .inr ⟨_, rfl, hl, hm, by simpa using hz, hcell, hwz⟩⟩
  subst ec1x1
  clear hA0 hval0
  refine (lawCmpRat_any bv0 a0x0 len0x0 cap0x0 _ a0x1 len0x1 cap0x1 _ bv1 a1x0 len1x0 cap1x0 _ a1x1 len1x1 cap1x1 _ W w0x0.rd w0x0.le w0x1.rd w0x1.le w1x0.rd w1x0.le w1x1.rd w1x1.le).mono fun e W' ⟨he, bel⟩ => ?_
  subst he
  exact ⟨_, rfl, _, _, _, [], _, [], hW', trodAll_mk1 (shut_bool Try.underlying4 _), (trodAll_cons_mk (Below.trod laidOut_fnExactCmpRat (by kernel_rfl) (of_decide_eq_true (by kernel_rfl)) k0 bel lt0) (trodAll_cons_mk (Below.trod laidOut_fnExactCmpRat (by kernel_rfl) (of_decide_eq_true (by kernel_rfl)) k1 bel lt1) trodAll_mk0)), rfl, bel.frame _, fun h => by cases h⟩

theorem fnExactCmpRat_over : Rows.fnExactCmpRatRow.holds Try.pinned (OpenSpec.ofChange Rows.fnExactCmpRatSpec) :=
  OpenClaim.holds_of_wide 5 Try.f5 rfl rfl rfl rfl rfl rfl rfl ⟨rfl, rfl, rfl, rfl, rfl⟩ rfl rfl rfl rfl rfl (by kernel_rfl) Try.func5 (by kernel_rfl)
    (of_decide_eq_true (by kernel_rfl)) (by unfold Func.isWrapper; first | (rw [if_pos (by decide +kernel)]; kernel_rfl) | (rw [if_neg (by decide +kernel)]; exact ⟨rfl, rfl⟩))
    (fun os started H enc _ => fnExactCmpRat_lifted os started H enc)

theorem fnExactCmpRat_holds : Rows.FnExactCmpRatSaid := fnExactCmpRat_over

end Go.Proofs.Ytojjopielekpdaa
