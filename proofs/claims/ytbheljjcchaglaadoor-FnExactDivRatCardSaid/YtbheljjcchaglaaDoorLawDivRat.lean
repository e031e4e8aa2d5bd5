/-
  The law FnExactDivRat: whatever the arguments, DivRat answers as its model, writes into no argument, and what it answers is memory of its own. No condition.
-/
import Derived.Test.YtbheljjcchaglaaDoorDivRat
import Derived.ProofKit
import Derived.OpenShut
import Derived.ShutString
import Derived.ChangeOld
import Derived.Lib.SmallJoins
import Derived.Deep.RegionHeld3
import Derived.Deep.DeepCutAuto
namespace Go.Proofs.YtbheljjcchaglaaDoor
open Go Go.RowKit Nt
open Go.ChangeShapes Go.WideShapes Go.ChangeAt
open Go.ChangeMaps (open_string shut_string)
theorem OwnR_past {t tr : TypeId} {w w' : World} {base b ca cb la' ca' lb' cb' : Nat} {xs ys : List Int} {A B A' B' : Option Addr} {neg : Bool} (h : OwnR t w base xs ys A ca B cb) (hne : t ≠ tr) (hr : RatAt w b tr neg A' la' ca' B' lb' cb') (hg : w.grownBy w' (some b)) : OwnR t w' base xs ys A ca B cb :=
  ⟨own_gone h.1 hg (fun k hk e => own_type h.1 hne hr (by rw [hk, e])), own_gone h.2.1 hg (fun k hk e => own_type h.2.1 hne hr (by rw [hk, e])), h.2.2⟩

set_option maxRecDepth 20000 in
set_option maxHeartbeats 16000000 in
theorem lawDivRat_core (N : Bool) (X Y : List Int) (K : Int) (n0 : Bool) (A0 : Option Addr) (la0 ca0 : Nat) (B0 : Option Addr) (lb0 cb0 : Nat) (x0 y0 : List Int) (n1 : Bool) (A1 : Option Addr) (la1 ca1 : Nat) (B1 : Option Addr) (lb1 cb1 : Nat) (x1 y1 : List Int) (w : World) (hX : X.length ≤ 1000) (hY : Y.length ≤ 1000)
    (hS : ∀ (a0 : Option Addr) (c0 : Nat) (b0 : Option Addr) (d0 : Nat) (a1 : Option Addr) (c1 : Nat) (b1 : Option Addr) (d1 : Nat) (W : World), RdR W (fun _ => True) x0 y0 a0 c0 b0 d0 → RdR W (fun _ => True) x1 y1 a1 c1 b1 d1 → Calls Tryd.prog 8 #[.agg #[.bool n0, .slice a0 x0.length c0, .slice b0 y0.length d0], .agg #[.bool n1, .slice a1 x1.length c1, .slice b1 y1.length d1]] W (SayRC' W N X Y K))
    (hI : ∀ (a0 : Option Addr) (c0 : Nat) (b0 : Option Addr) (d0 : Nat) (a1 : Option Addr) (c1 : Nat) (b1 : Option Addr) (d1 : Nat) (W : World), Below w.heap.size w W → RdR W (fun _ => True) x0 y0 a0 c0 b0 d0 → RdR W (fun _ => True) x1 y1 a1 c1 b1 d1 → Calls Tryd.prog 10 #[.agg #[.bool n0, .slice a0 x0.length c0, .slice b0 y0.length d0], .agg #[.bool n1, .slice a1 x1.length c1, .slice b1 y1.length d1]] W (RetRC 3 W N X Y K))
    (hx0 : Rd w (· < w.heap.size) A0 la0 ca0 x0) (hy0 : Rd w (· < w.heap.size) B0 lb0 cb0 y0) (hx1 : Rd w (· < w.heap.size) A1 la1 ca1 x1) (hy1 : Rd w (· < w.heap.size) B1 lb1 cb1 y1) (hsz : la0 + lb0 + la1 + lb1 ≤ 1048576) :
    Calls Tryd.prog 3 #[.agg #[.bool n0, .slice A0 la0 ca0, .slice B0 lb0 cb0], .agg #[.bool n1, .slice A1 la1 ca1, .slice B1 lb1 cb1]] w fun e w' => e = .returned (.bool true) ∧ Below w.heap.size w w' := by
  have HS := Lib.hid hS
  have HI := Lib.hid hI
  clear hS hI
  have HXk0 := Lib.hid hx0
  have HYk0 := Lib.hid hy0
  have hxl0 := hx0.len
  have hyl0 := hy0.len
  clear hx0 hy0
  subst hxl0 hyl0
  have HXk1 := Lib.hid hx1
  have HYk1 := Lib.hid hy1
  have hxl1 := hx1.len
  have hyl1 := hy1.len
  clear hx1 hy1
  subst hxl1 hyl1
  have hK : (K != K) = false := by simp
  go_enter Tryd.func3, Tryd.ntmps3
  go_wp2_with fail
  refine calls_at (fun V => (Below w.heap.size w V) ∧ (RatAt V w.heap.size 24 n0 A0 x0.length ca0 B0 y0.length cb0) ∧ (RatAt V (w.heap.size + 1) 24 n1 A1 x1.length ca1 B1 y1.length cb1))
    ⟨below2 _ _ _, (RatAt.new _ _ _ _ _ _ _ _ _).alloc _, RatAt.new1 _ _ _ _ _ _ _ _ _ _⟩ ?_
  rintro v1 ⟨pB, pR0, pR1⟩
  have sv1 : w.heap.size ≤ v1.heap.size := pB.size
  have HB1 := Lib.hid pB
  have HR01 := Lib.hid pR0
  have HR11 := Lib.hid pR1
  clear pB pR0 pR1
  refine (szRat_fit n0 A0 B0 _ ca0 _ cb0 (1048576) v1 (by omega) (by omega) (by omega)).mono ?_
  rintro e v2 ⟨rfl, bb⟩
  have sv2 : v1.heap.size ≤ v2.heap.size := bb.size
  have HB2 := Lib.hid (below_on HB1.out bb)
  clear HB1
  have HR02 := Lib.hid (HR01.out.on bb)
  clear HR01
  have HR12 := Lib.hid (HR11.out.on bb)
  clear HR11
  clear bb
  have hle0 : 0 ≤ 1048576 - (x0.length : Int) - (y0.length : Int) := by omega
  have qR10 := HR12.out.c0
  have qR11 := HR12.out.c1
  have qR12 := HR12.out.c2
  go_wp2_with fail
  clear qR10 qR11 qR12
  refine (szRat_fit n1 A1 B1 _ ca1 _ cb1 (1048576 - (x0.length : Int) - (y0.length : Int)) v2 (by omega) (by omega) (by omega)).mono ?_
  rintro e v3 ⟨rfl, bb⟩
  have sv3 : v2.heap.size ≤ v3.heap.size := bb.size
  have HB3 := Lib.hid (below_on HB2.out bb)
  clear HB2
  have HR03 := Lib.hid (HR02.out.on bb)
  clear HR02
  have HR13 := Lib.hid (HR12.out.on bb)
  clear HR12
  clear bb
  have hle1 : 0 ≤ 1048576 - (x0.length : Int) - (y0.length : Int) - (x1.length : Int) - (y1.length : Int) := by omega
  go_upto_region 8 with fail
  go_cut [6, 7] (fun s1 s2 wx => ∃ (zb : Nat) (As : Option Addr) (cs : Nat) (Bs : Option Addr) (ds : Nat), s1 = .pointer (some ⟨zb, 0, none⟩) ∧ s2 = .int .i64 K ∧ Below w.heap.size w wx ∧ RatAt wx w.heap.size 24 n0 A0 x0.length ca0 B0 y0.length cb0 ∧ RatAt wx (w.heap.size + 1) 24 n1 A1 x1.length ca1 B1 y1.length cb1 ∧ Below v3.heap.size v3 wx ∧ RdR wx (fun _ => True) X Y As cs Bs ds ∧ RatAt wx zb 26 N As X.length cs Bs Y.length ds)
  case first =>
    have HCc := Lib.hid (Below.refl v3.heap.size v3)
    have zR0 := HR03.out.lt
    have zR1 := HR13.out.lt
    go_region_held3 (fun wx => wx.cell? ⟨w.heap.size, 0, none⟩ = some (.bool n0) ∧ wx.cell? ⟨w.heap.size, 1, none⟩ = some (.slice A0 x0.length ca0) ∧ wx.cell? ⟨w.heap.size, 2, none⟩ = some (.slice B0 y0.length cb0) ∧ wx.cell? ⟨(w.heap.size + 1), 0, none⟩ = some (.bool n1) ∧ wx.cell? ⟨(w.heap.size + 1), 1, none⟩ = some (.slice A1 x1.length ca1) ∧ wx.cell? ⟨(w.heap.size + 1), 2, none⟩ = some (.slice B1 y1.length cb1))
      (first | with_reducible exact ⟨HR06.out.c0, HR06.out.c1, HR06.out.c2, HR16.out.c0, HR16.out.c1, HR16.out.c2⟩ | with_reducible exact ⟨HR05.out.c0, HR05.out.c1, HR05.out.c2, HR15.out.c0, HR15.out.c1, HR15.out.c2⟩ | with_reducible exact ⟨HR04.out.c0, HR04.out.c1, HR04.out.c2, HR14.out.c0, HR14.out.c1, HR14.out.c2⟩ | with_reducible exact ⟨HR03.out.c0, HR03.out.c1, HR03.out.c2, HR13.out.c0, HR13.out.c1, HR13.out.c2⟩ | with_reducible exact ⟨(HR06.out.alloc _).c0, (HR06.out.alloc _).c1, (HR06.out.alloc _).c2, (HR16.out.alloc _).c0, (HR16.out.alloc _).c1, (HR16.out.alloc _).c2⟩ | with_reducible exact ⟨(HR05.out.alloc _).c0, (HR05.out.alloc _).c1, (HR05.out.alloc _).c2, (HR15.out.alloc _).c0, (HR15.out.alloc _).c1, (HR15.out.alloc _).c2⟩ | with_reducible exact ⟨(HR04.out.alloc _).c0, (HR04.out.alloc _).c1, (HR04.out.alloc _).c2, (HR14.out.alloc _).c0, (HR14.out.alloc _).c1, (HR14.out.alloc _).c2⟩ | with_reducible exact ⟨(HR03.out.alloc _).c0, (HR03.out.alloc _).c1, (HR03.out.alloc _).c2, (HR13.out.alloc _).c0, (HR13.out.alloc _).c1, (HR13.out.alloc _).c2⟩ | with_reducible exact ⟨(HR06.out.grown (setAll_grown _ _ _ _ _) (by omega)).c0, (HR06.out.grown (setAll_grown _ _ _ _ _) (by omega)).c1, (HR06.out.grown (setAll_grown _ _ _ _ _) (by omega)).c2, (HR16.out.grown (setAll_grown _ _ _ _ _) (by omega)).c0, (HR16.out.grown (setAll_grown _ _ _ _ _) (by omega)).c1, (HR16.out.grown (setAll_grown _ _ _ _ _) (by omega)).c2⟩ | exact ⟨HR03.out.c0, HR03.out.c1, HR03.out.c2, HR13.out.c0, HR13.out.c1, HR13.out.c2⟩ | exact ⟨(HR03.out.alloc _).c0, (HR03.out.alloc _).c1, (HR03.out.alloc _).c2, (HR13.out.alloc _).c0, (HR13.out.alloc _).c1, (HR13.out.alloc _).c2⟩ | exact ⟨(HR06.out.grown (setAll_grown _ _ _ _ _) (by omega)).c0, (HR06.out.grown (setAll_grown _ _ _ _ _) (by omega)).c1, (HR06.out.grown (setAll_grown _ _ _ _ _) (by omega)).c2, (HR16.out.grown (setAll_grown _ _ _ _ _) (by omega)).c0, (HR16.out.grown (setAll_grown _ _ _ _ _) (by omega)).c1, (HR16.out.grown (setAll_grown _ _ _ _ _) (by omega)).c2⟩)
      (first
        | (go_at_call_of 9 A0; (first | (with_reducible show Calls _ _ _ (World.drew (World.alloc _ _)) _) | (with_reducible show Calls _ _ _ (World.alloc (World.drew _) _) _)); refine calls_at (fun V => Below v3.heap.size v3 V ∧ RatAt V v3.heap.size 26 false none 0 0 none 0 0) (by first | exact ⟨below1 _ _, RatAt.new _ _ _ _ _ _ _ _ _⟩ | exact ⟨below_drewN (below1 _ _) 1, RatAt.new _ _ _ _ _ _ _ _ _⟩ | exact ⟨undrew (below1 _ _), RatAt.new _ _ _ _ _ _ _ _ _⟩) ?_; rintro u0 ⟨bu, pz⟩; have su0 := bu.size; have HB3 := Lib.hid (below_on HB3.out bu); have HR03 := Lib.hid (HR03.out.on bu); have HR13 := Lib.hid (HR13.out.on bu); have HCc := Lib.hid (below_on HCc.out bu); have HZ0 := Lib.hid pz; clear bu pz; refine (toRat_any n0 A0 B0 _ ca0 _ cb0 x0 y0 _ (by exact ((HXk0.out.below HB3.out).mono fun _ h _ => Nat.lt_of_lt_of_le h (HB3.out).size)) (by exact ((HYk0.out.below HB3.out).mono fun _ h _ => Nat.lt_of_lt_of_le h (HB3.out).size)) (by omega) (by omega)).mono ?_; rintro e v4 ⟨sA0, sc0, sB0, sd0, rfl, oo, bb⟩; have sv4 := bb.size; have sv4 := Nat.le_trans su0 sv4; have HB4 := Lib.hid (below_on HB3.out bb); have HR04 := Lib.hid (HR03.out.on bb); have HR14 := Lib.hid (HR13.out.on bb); have HC4 := Lib.hid (below_on HCc.out bb); have HT04 : Hid (RdR v4 (fun _ => True) x0 y0 sA0 sc0 sB0 sd0) := (Lib.hid oo.rdt); have HZ1 := Lib.hid (HZ0.out.on bb))
        | (go_at_call_of 9 A0; refine (toRat_any n0 A0 B0 _ ca0 _ cb0 x0 y0 _ (by exact ((HXk0.out.below HB3.out).mono fun _ h _ => Nat.lt_of_lt_of_le h (HB3.out).size)) (by exact ((HYk0.out.below HB3.out).mono fun _ h _ => Nat.lt_of_lt_of_le h (HB3.out).size)) (by omega) (by omega)).mono ?_; rintro e v4 ⟨sA0, sc0, sB0, sd0, rfl, oo, bb⟩; have bb := undrew bb; have sv4 := bb.size; have HB4 := Lib.hid (below_on HB3.out bb); have HR04 := Lib.hid (HR03.out.on bb); have HR14 := Lib.hid (HR13.out.on bb); have HC4 := Lib.hid (below_on HCc.out bb); have HT04 : Hid (RdR v4 (fun _ => True) x0 y0 sA0 sc0 sB0 sd0) := (Lib.hid oo.rdt); (try (have HZ1 := Lib.hid (HZ0.out.on bb))))
        | (go_at_call_of 9 A1; (with_reducible show Calls _ _ _ (World.alloc _ _) _); refine calls_at (fun V => Below v4.heap.size v4 V ∧ RatAt V v4.heap.size 26 false none 0 0 none 0 0) (by first | exact ⟨below1 _ _, RatAt.new _ _ _ _ _ _ _ _ _⟩ | exact ⟨below_drewN (below1 _ _) 1, RatAt.new _ _ _ _ _ _ _ _ _⟩ | exact ⟨undrew (below1 _ _), RatAt.new _ _ _ _ _ _ _ _ _⟩) ?_; rintro u1 ⟨bu, pz⟩; have su1 := bu.size; have HB4 := Lib.hid (below_on HB4.out bu); have HR04 := Lib.hid (HR04.out.on bu); have HR14 := Lib.hid (HR14.out.on bu); have HC4 := Lib.hid (below_on HC4.out bu); have HT04 := Lib.hid (HT04.out.on bu); have HZ1 := Lib.hid pz; clear bu pz; refine (toRat_any n1 A1 B1 _ ca1 _ cb1 x1 y1 _ (by exact ((HXk1.out.below HB4.out).mono fun _ h _ => Nat.lt_of_lt_of_le h (HB4.out).size)) (by exact ((HYk1.out.below HB4.out).mono fun _ h _ => Nat.lt_of_lt_of_le h (HB4.out).size)) (by omega) (by omega)).mono ?_; rintro e v5 ⟨sA1, sc1, sB1, sd1, rfl, oo, bb⟩; have sv5 := bb.size; have sv5 := Nat.le_trans su1 sv5; have HB5 := Lib.hid (below_on HB4.out bb); have HR05 := Lib.hid (HR04.out.on bb); have HR15 := Lib.hid (HR14.out.on bb); have HC5 := Lib.hid (below_on HC4.out bb); have HT05 := Lib.hid (HT04.out.on bb); have HT15 : Hid (RdR v5 (fun _ => True) x1 y1 sA1 sc1 sB1 sd1) := (Lib.hid oo.rdt); have HZ2 := Lib.hid (HZ1.out.on bb))
        | (go_at_call_of 9 A1; refine (toRat_any n1 A1 B1 _ ca1 _ cb1 x1 y1 _ (by exact ((HXk1.out.below HB4.out).mono fun _ h _ => Nat.lt_of_lt_of_le h (HB4.out).size)) (by exact ((HYk1.out.below HB4.out).mono fun _ h _ => Nat.lt_of_lt_of_le h (HB4.out).size)) (by omega) (by omega)).mono ?_; rintro e v5 ⟨sA1, sc1, sB1, sd1, rfl, oo, bb⟩; have sv5 := bb.size; have HB5 := Lib.hid (below_on HB4.out bb); have HR05 := Lib.hid (HR04.out.on bb); have HR15 := Lib.hid (HR14.out.on bb); have HC5 := Lib.hid (below_on HC4.out bb); have HT05 := Lib.hid (HT04.out.on bb); have HT15 : Hid (RdR v5 (fun _ => True) x1 y1 sA1 sc1 sB1 sd1) := (Lib.hid oo.rdt); (try (have HZ2 := Lib.hid (HZ1.out.on bb))))
        | (go_at_call 8; (with_reducible show Calls _ _ _ (World.alloc _ _) _); refine calls_at (fun V => Below v5.heap.size v5 V ∧ RatAt V v5.heap.size 26 false none 0 0 none 0 0) (by first | exact ⟨below1 _ _, RatAt.new _ _ _ _ _ _ _ _ _⟩ | exact ⟨below_drewN (below1 _ _) 1, RatAt.new _ _ _ _ _ _ _ _ _⟩ | exact ⟨undrew (below1 _ _), RatAt.new _ _ _ _ _ _ _ _ _⟩) ?_; rintro u2 ⟨bu, pz⟩; have su2 := bu.size; have HB5 := Lib.hid (below_on HB5.out bu); have HR05 := Lib.hid (HR05.out.on bu); have HR15 := Lib.hid (HR15.out.on bu); have HC5 := Lib.hid (below_on HC5.out bu); have HT05 := Lib.hid (HT05.out.on bu); have HT15 := Lib.hid (HT15.out.on bu); have HZ2 := Lib.hid pz; clear bu pz; refine (HS.out sA0 sc0 sB0 sd0 sA1 sc1 sB1 sd1 _ (by exact HT05.out) (by exact HT15.out)).mono ?_; rintro e v6 ⟨As, cs, Bs, ds, rfl, oo, bb⟩; have sv6 := bb.size; have sv6 := Nat.le_trans su2 sv6; have HB6 := Lib.hid (below_on HB5.out bb); have HR06 := Lib.hid (HR05.out.on bb); have HR16 := Lib.hid (HR15.out.on bb); have HC6 := Lib.hid (below_on HC5.out bb); have HW6 : Hid (RdR v6 (fun _ => True) X Y As cs Bs ds) := (Lib.hid oo); have HZ3 := Lib.hid (HZ2.out.on bb); have f0 := HZ3.out.fz 0; have f1 := HZ3.out.fz 1; have f2 := HZ3.out.fz 2; have y0 := HZ3.out.c0; have y1 := HZ3.out.c1; have y2 := HZ3.out.c2)
        | (go_at_call 8; refine (HS.out sA0 sc0 sB0 sd0 sA1 sc1 sB1 sd1 _ (by exact HT05.out) (by exact HT15.out)).mono ?_; rintro e v6 ⟨As, cs, Bs, ds, rfl, oo, bb⟩; have sv6 := bb.size; have HB6 := Lib.hid (below_on HB5.out bb); have HR06 := Lib.hid (HR05.out.on bb); have HR16 := Lib.hid (HR15.out.on bb); have HC6 := Lib.hid (below_on HC5.out bb); have HW6 : Hid (RdR v6 (fun _ => True) X Y As cs Bs ds) := (Lib.hid oo); (try (have HZ3 := Lib.hid (HZ2.out.on bb); have f0 := HZ3.out.fz 0; have f1 := HZ3.out.fz 1; have f2 := HZ3.out.fz 2; have y0 := HZ3.out.c0; have y1 := HZ3.out.c1; have y2 := HZ3.out.c2))))
    all_goals
      go_wp2_with fail
      go_meet
    all_goals first | exact ⟨_, _, _, _, _, rfl, rfl, below_on HB6.out (below1 _ _), HR06.out.on (below1 _ _), HR16.out.on (below1 _ _), below_on HC6.out (below1 _ _), HW6.out.on (below1 _ _), RatAt.new _ _ _ _ _ _ _ _ _⟩ | exact ⟨_, _, _, _, _, rfl, rfl, HB6.out.trans (grown_below (setAll_grown _ _ _ _ _) (by omega) (by omega)), HR06.out.grown (setAll_grown _ _ _ _ _) (by omega), HR16.out.grown (setAll_grown _ _ _ _ _) (by omega), HC6.out.trans (grown_below (setAll_grown _ _ _ _ _) (by omega) (by omega)), ⟨HW6.out.1.past HZ3.out (setAll_grown _ _ _ _ _), HW6.out.2.past HZ3.out (setAll_grown _ _ _ _ _)⟩, HZ3.out.setAll _ _ _ _ _ _ _⟩
  obtain ⟨zb8, As, cs, Bs, ds, rfl, rfl, pB, pR0, pR1, pC, pW, pWv⟩ := hcut
  generalize wc = v7 at *
  have sv7 : v3.heap.size ≤ v7.heap.size := pC.size
  clear pC
  have HB7 := Lib.hid pB
  clear pB HB3
  have HR07 := Lib.hid pR0
  clear pR0 HR03
  have HR17 := Lib.hid pR1
  clear pR1 HR13
  have HW7 := Lib.hid (RdR.mono (Q := (· < v7.heap.size)) pW fun _ _ h => h)
  have HWv7 := Lib.hid pWv
  clear pW pWv
  have qR00 := HR07.out.c0
  have qR01 := HR07.out.c1
  have qR02 := HR07.out.c2
  have qR10 := HR17.out.c0
  have qR11 := HR17.out.c1
  have qR12 := HR17.out.c2
  go_wp2_with fail
  clear qR00 qR01 qR02 qR10 qR11 qR12
  refine (toRat_any n0 A0 B0 _ ca0 _ cb0 x0 y0 v7 (((HXk0.out.below HB7.out).mono (Q := (· < (v7).heap.size)) fun _ h _ => Nat.lt_of_lt_of_le h (HB7.out).size)) (((HYk0.out.below HB7.out).mono (Q := (· < (v7).heap.size)) fun _ h _ => Nat.lt_of_lt_of_le h (HB7.out).size)) (by omega) (by omega)).mono ?_
  rintro e v8 ⟨xA0, xc0, xB0, xd0, rfl, oo, bb⟩
  have sv8 : v7.heap.size ≤ v8.heap.size := bb.size
  have HB8 := Lib.hid (below_on HB7.out bb)
  clear HB7
  have HR08 := Lib.hid (HR07.out.on bb)
  clear HR07
  have HR18 := Lib.hid (HR17.out.on bb)
  clear HR17
  have HW8 := Lib.hid (HW7.out.on bb)
  clear HW7
  have HWv8 := Lib.hid (HWv7.out.on bb)
  clear HWv7
  have HX08 := Lib.hid (oo)
  clear bb
  clear oo
  have qR00 := (HR08.out.alloc (.cells #[.bool n0, .slice xA0 x0.length xc0, .slice xB0 y0.length xd0] 26)).c0
  have qR01 := (HR08.out.alloc (.cells #[.bool n0, .slice xA0 x0.length xc0, .slice xB0 y0.length xd0] 26)).c1
  have qR02 := (HR08.out.alloc (.cells #[.bool n0, .slice xA0 x0.length xc0, .slice xB0 y0.length xd0] 26)).c2
  have qR10 := (HR18.out.alloc (.cells #[.bool n0, .slice xA0 x0.length xc0, .slice xB0 y0.length xd0] 26)).c0
  have qR11 := (HR18.out.alloc (.cells #[.bool n0, .slice xA0 x0.length xc0, .slice xB0 y0.length xd0] 26)).c1
  have qR12 := (HR18.out.alloc (.cells #[.bool n0, .slice xA0 x0.length xc0, .slice xB0 y0.length xd0] 26)).c2
  go_wp2_with fail
  clear qR00 qR01 qR02 qR10 qR11 qR12
  refine calls_at (fun V => (v8.heap.size ≤ V.heap.size) ∧ (Below w.heap.size w V) ∧ (RatAt V w.heap.size 24 n0 A0 x0.length ca0 B0 y0.length cb0) ∧ (RatAt V (w.heap.size + 1) 24 n1 A1 x1.length ca1 B1 y1.length cb1) ∧ (RdR V (· < v7.heap.size) X Y As cs Bs ds) ∧ (RatAt V zb8 26 N As X.length cs Bs Y.length ds) ∧ (OwnR 3 V v7.heap.size x0 y0 xA0 xc0 xB0 xd0) ∧ (RatAt V v8.heap.size 26 n0 xA0 x0.length xc0 xB0 y0.length xd0))
    ⟨(below1 _ _).size, below_on HB8.out (below1 _ _), HR08.out.on (below1 _ _), HR18.out.on (below1 _ _), HW8.out.on (below1 _ _), HWv8.out.on (below1 _ _), HX08.out.on (below1 _ _), RatAt.new _ _ _ _ _ _ _ _ _⟩ ?_
  rintro v9 ⟨sv9, pB, pR0, pR1, pW, pWv, pX0, pXv0⟩
  have HB9 := Lib.hid pB
  clear pB HB8
  have HR09 := Lib.hid pR0
  clear pR0 HR08
  have HR19 := Lib.hid pR1
  clear pR1 HR18
  have HW9 := Lib.hid pW
  clear pW HW8
  have HWv9 := Lib.hid pWv
  clear pWv HWv8
  have HX09 := Lib.hid pX0
  clear pX0 HX08
  have HXv09 := Lib.hid pXv0
  clear pXv0
  have HLY0 := Lib.hid HX09.out.lt
  refine (toRat_any n1 A1 B1 _ ca1 _ cb1 x1 y1 v9 (((HXk1.out.below HB9.out).mono (Q := (· < (v9).heap.size)) fun _ h _ => Nat.lt_of_lt_of_le h (HB9.out).size)) (((HYk1.out.below HB9.out).mono (Q := (· < (v9).heap.size)) fun _ h _ => Nat.lt_of_lt_of_le h (HB9.out).size)) (by omega) (by omega)).mono ?_
  rintro e v10 ⟨xA1, xc1, xB1, xd1, rfl, oo, bb⟩
  have sv10 : v9.heap.size ≤ v10.heap.size := bb.size
  have HB10 := Lib.hid (below_on HB9.out bb)
  clear HB9
  have HR010 := Lib.hid (HR09.out.on bb)
  clear HR09
  have HR110 := Lib.hid (HR19.out.on bb)
  clear HR19
  have HW10 := Lib.hid (HW9.out.on bb)
  clear HW9
  have HWv10 := Lib.hid (HWv9.out.on bb)
  clear HWv9
  have HX010 := Lib.hid (HX09.out.on bb)
  clear HX09
  have HXv010 := Lib.hid (HXv09.out.on bb)
  clear HXv09
  have HX110 := Lib.hid (oo)
  clear bb
  clear oo
  have qXv00 := (HXv010.out.alloc (.cells #[.bool n1, .slice xA1 x1.length xc1, .slice xB1 y1.length xd1] 26)).c0
  have qXv01 := (HXv010.out.alloc (.cells #[.bool n1, .slice xA1 x1.length xc1, .slice xB1 y1.length xd1] 26)).c1
  have qXv02 := (HXv010.out.alloc (.cells #[.bool n1, .slice xA1 x1.length xc1, .slice xB1 y1.length xd1] 26)).c2
  go_wp2_with fail
  clear qXv00 qXv01 qXv02
  refine calls_at (fun V => (v10.heap.size ≤ V.heap.size) ∧ (Below w.heap.size w V) ∧ (RatAt V w.heap.size 24 n0 A0 x0.length ca0 B0 y0.length cb0) ∧ (RatAt V (w.heap.size + 1) 24 n1 A1 x1.length ca1 B1 y1.length cb1) ∧ (RdR V (· < v7.heap.size) X Y As cs Bs ds) ∧ (RatAt V zb8 26 N As X.length cs Bs Y.length ds) ∧ (OwnR 3 V v7.heap.size x0 y0 xA0 xc0 xB0 xd0) ∧ (RatAt V v8.heap.size 26 n0 xA0 x0.length xc0 xB0 y0.length xd0) ∧ (OwnR 3 V v9.heap.size x1 y1 xA1 xc1 xB1 xd1) ∧ (RatAt V v10.heap.size 26 n1 xA1 x1.length xc1 xB1 y1.length xd1))
    ⟨(below1 _ _).size, below_on HB10.out (below1 _ _), HR010.out.on (below1 _ _), HR110.out.on (below1 _ _), HW10.out.on (below1 _ _), HWv10.out.on (below1 _ _), HX010.out.on (below1 _ _), HXv010.out.on (below1 _ _), HX110.out.on (below1 _ _), RatAt.new _ _ _ _ _ _ _ _ _⟩ ?_
  rintro v11 ⟨sv11, pB, pR0, pR1, pW, pWv, pX0, pXv0, pX1, pXv1⟩
  have HB11 := Lib.hid pB
  clear pB HB10
  have HR011 := Lib.hid pR0
  clear pR0 HR010
  have HR111 := Lib.hid pR1
  clear pR1 HR110
  have HW11 := Lib.hid pW
  clear pW HW10
  have HWv11 := Lib.hid pWv
  clear pWv HWv10
  have HX011 := Lib.hid pX0
  clear pX0 HX010
  have HXv011 := Lib.hid pXv0
  clear pXv0 HXv010
  have HX111 := Lib.hid pX1
  clear pX1 HX110
  have HXv111 := Lib.hid pXv1
  clear pXv1
  have HLX0 := Lib.hid HX011.out.lt
  have HLX1 := Lib.hid HX111.out.lt
  refine (HI.out xA0 xc0 xB0 xd0 xA1 xc1 xB1 xd1 v11 HB11.out HX011.out.rdt HX111.out.rdt).mono ?_
  rintro e v12 ⟨Ag, cg, Bg, dg, rfl, oo, bb⟩
  have sv12 : v11.heap.size ≤ v12.heap.size := bb.size
  have HB12 := Lib.hid (below_on HB11.out bb)
  clear HB11
  have HR012 := Lib.hid (HR011.out.on bb)
  clear HR011
  have HR112 := Lib.hid (HR111.out.on bb)
  clear HR111
  have HW12 := Lib.hid (HW11.out.on bb)
  clear HW11
  have HWv12 := Lib.hid (HWv11.out.on bb)
  clear HWv11
  have HX012 := Lib.hid (HX011.out.on bb)
  clear HX011
  have HXv012 := Lib.hid (HXv011.out.on bb)
  clear HXv011
  have HX112 := Lib.hid (HX111.out.on bb)
  clear HX111
  have HXv112 := Lib.hid (HXv111.out.on bb)
  clear HXv111
  have HG12 := Lib.hid (oo)
  clear bb
  clear oo
  have qWv0 := (HWv12.out.alloc (.cells #[.bool N, .slice Ag X.length cg, .slice Bg Y.length dg] 26)).c0
  have qWv1 := (HWv12.out.alloc (.cells #[.bool N, .slice Ag X.length cg, .slice Bg Y.length dg] 26)).c1
  have qWv2 := (HWv12.out.alloc (.cells #[.bool N, .slice Ag X.length cg, .slice Bg Y.length dg] 26)).c2
  go_wp2_with fail
  clear qWv0 qWv1 qWv2
  refine calls_at (fun V => (v12.heap.size ≤ V.heap.size) ∧ (Below w.heap.size w V) ∧ (RatAt V w.heap.size 24 n0 A0 x0.length ca0 B0 y0.length cb0) ∧ (RatAt V (w.heap.size + 1) 24 n1 A1 x1.length ca1 B1 y1.length cb1) ∧ (RdR V (· < v7.heap.size) X Y As cs Bs ds) ∧ (RatAt V zb8 26 N As X.length cs Bs Y.length ds) ∧ (OwnR 3 V v7.heap.size x0 y0 xA0 xc0 xB0 xd0) ∧ (RatAt V v8.heap.size 26 n0 xA0 x0.length xc0 xB0 y0.length xd0) ∧ (OwnR 3 V v9.heap.size x1 y1 xA1 xc1 xB1 xd1) ∧ (RatAt V v10.heap.size 26 n1 xA1 x1.length xc1 xB1 y1.length xd1) ∧ (OwnR 3 V v11.heap.size X Y Ag cg Bg dg) ∧ (RatAt V v12.heap.size 26 N Ag X.length cg Bg Y.length dg))
    ⟨(below1 _ _).size, below_on HB12.out (below1 _ _), HR012.out.on (below1 _ _), HR112.out.on (below1 _ _), HW12.out.on (below1 _ _), HWv12.out.on (below1 _ _), HX012.out.on (below1 _ _), HXv012.out.on (below1 _ _), HX112.out.on (below1 _ _), HXv112.out.on (below1 _ _), HG12.out.on (below1 _ _), RatAt.new _ _ _ _ _ _ _ _ _⟩ ?_
  rintro v13 ⟨sv13, pB, pR0, pR1, pW, pWv, pX0, pXv0, pX1, pXv1, pG, pGv⟩
  have HB13 := Lib.hid pB
  clear pB HB12
  have HR013 := Lib.hid pR0
  clear pR0 HR012
  have HR113 := Lib.hid pR1
  clear pR1 HR112
  have HW13 := Lib.hid pW
  clear pW HW12
  have HWv13 := Lib.hid pWv
  clear pWv HWv12
  have HX013 := Lib.hid pX0
  clear pX0 HX012
  have HXv013 := Lib.hid pXv0
  clear pXv0 HXv012
  have HX113 := Lib.hid pX1
  clear pX1 HX112
  have HXv113 := Lib.hid pXv1
  clear pXv1 HXv112
  have HG13 := Lib.hid pG
  clear pG HG12
  have HGv13 := Lib.hid pGv
  clear pGv
  refine (eqRat_same N Ag Bg As Bs cg dg cs ds X Y _ _ v13 HG13.out.rdt HW13.out (by omega) (by omega)).mono ?_
  rintro e v14 ⟨rfl, bb⟩
  have sv14 : v13.heap.size ≤ v14.heap.size := bb.size
  have HB14 := Lib.hid (below_on HB13.out bb)
  clear HB13
  have HR014 := Lib.hid (HR013.out.on bb)
  clear HR013
  have HR114 := Lib.hid (HR113.out.on bb)
  clear HR113
  have HW14 := Lib.hid (HW13.out.on bb)
  clear HW13
  have HWv14 := Lib.hid (HWv13.out.on bb)
  clear HWv13
  have HX014 := Lib.hid (HX013.out.on bb)
  clear HX013
  have HXv014 := Lib.hid (HXv013.out.on bb)
  clear HXv013
  have HX114 := Lib.hid (HX113.out.on bb)
  clear HX113
  have HXv114 := Lib.hid (HXv113.out.on bb)
  clear HXv113
  have HG14 := Lib.hid (HG13.out.on bb)
  clear HG13
  have HGv14 := Lib.hid (HGv13.out.on bb)
  clear HGv13
  clear bb
  go_wp2_with fail
  go_region_held3 (fun wx => wx.cell? ⟨v8.heap.size, 0, none⟩ = some (.bool n0) ∧ wx.cell? ⟨v8.heap.size, 1, none⟩ = some (.slice xA0 x0.length xc0) ∧ wx.cell? ⟨v8.heap.size, 2, none⟩ = some (.slice xB0 y0.length xd0) ∧ wx.cell? ⟨w.heap.size, 0, none⟩ = some (.bool n0) ∧ wx.cell? ⟨w.heap.size, 1, none⟩ = some (.slice A0 x0.length ca0) ∧ wx.cell? ⟨w.heap.size, 2, none⟩ = some (.slice B0 y0.length cb0))
    (first | exact ⟨HXv014.out.c0, HXv014.out.c1, HXv014.out.c2, HR014.out.c0, HR014.out.c1, HR014.out.c2⟩ | exact ⟨HXv015.out.c0, HXv015.out.c1, HXv015.out.c2, HR015.out.c0, HR015.out.c1, HR015.out.c2⟩ | exact ⟨HXv016.out.c0, HXv016.out.c1, HXv016.out.c2, HR016.out.c0, HR016.out.c1, HR016.out.c2⟩)
    (first
      | (go_at_call 9; refine (toRat_any n0 A0 B0 _ ca0 _ cb0 x0 y0 _ (by exact ((HXk0.out.below HB14.out).mono fun _ h _ => Nat.lt_of_lt_of_le h (HB14.out).size)) (by exact ((HYk0.out.below HB14.out).mono fun _ h _ => Nat.lt_of_lt_of_le h (HB14.out).size)) (by omega) (by omega)).mono ?_; rintro e v15 ⟨zA0, zc0, zB0, zd0, rfl, oo, bb⟩; have bb := undrew bb; have sv15 : v14.heap.size ≤ v15.heap.size := bb.size; have HB15 := Lib.hid (below_on HB14.out bb); have HR015 := Lib.hid (HR014.out.on bb); have HR115 := Lib.hid (HR114.out.on bb); have HW15 := Lib.hid (HW14.out.on bb); have HWv15 := Lib.hid (HWv14.out.on bb); have HX015 := Lib.hid (HX014.out.on bb); have HXv015 := Lib.hid (HXv014.out.on bb); have HX115 := Lib.hid (HX114.out.on bb); have HXv115 := Lib.hid (HXv114.out.on bb); have HG15 := Lib.hid (HG14.out.on bb); have HGv15 := Lib.hid (HGv14.out.on bb); have HZ015 : Hid (RdR v15 (fun _ => True) x0 y0 zA0 zc0 zB0 zd0) := (Lib.hid oo.rdt))
      | (go_at_call 11; refine (eqRat_same n0 xA0 xB0 zA0 zB0 xc0 xd0 zc0 zd0 x0 y0 _ _ _ (by exact HX015.out.rdt) (by exact HZ015.out) (by omega) (by omega)).mono ?_; rintro e v16 ⟨rfl, bb⟩; have sv16 : v15.heap.size ≤ v16.heap.size := bb.size; have HB16 := Lib.hid (below_on HB15.out bb); have HR016 := Lib.hid (HR015.out.on bb); have HR116 := Lib.hid (HR115.out.on bb); have HW16 := Lib.hid (HW15.out.on bb); have HWv16 := Lib.hid (HWv15.out.on bb); have HX016 := Lib.hid (HX015.out.on bb); have HXv016 := Lib.hid (HXv015.out.on bb); have HX116 := Lib.hid (HX115.out.on bb); have HXv116 := Lib.hid (HXv115.out.on bb); have HG16 := Lib.hid (HG15.out.on bb); have HGv16 := Lib.hid (HGv15.out.on bb)))
  go_wp2_with fail
  go_region_held3 (fun wx => wx.cell? ⟨v10.heap.size, 0, none⟩ = some (.bool n1) ∧ wx.cell? ⟨v10.heap.size, 1, none⟩ = some (.slice xA1 x1.length xc1) ∧ wx.cell? ⟨v10.heap.size, 2, none⟩ = some (.slice xB1 y1.length xd1) ∧ wx.cell? ⟨(w.heap.size + 1), 0, none⟩ = some (.bool n1) ∧ wx.cell? ⟨(w.heap.size + 1), 1, none⟩ = some (.slice A1 x1.length ca1) ∧ wx.cell? ⟨(w.heap.size + 1), 2, none⟩ = some (.slice B1 y1.length cb1))
    (first | exact ⟨HXv116.out.c0, HXv116.out.c1, HXv116.out.c2, HR116.out.c0, HR116.out.c1, HR116.out.c2⟩ | exact ⟨HXv117.out.c0, HXv117.out.c1, HXv117.out.c2, HR117.out.c0, HR117.out.c1, HR117.out.c2⟩ | exact ⟨HXv118.out.c0, HXv118.out.c1, HXv118.out.c2, HR118.out.c0, HR118.out.c1, HR118.out.c2⟩)
    (first
      | (go_at_call 9; refine (toRat_any n1 A1 B1 _ ca1 _ cb1 x1 y1 _ (by exact ((HXk1.out.below HB16.out).mono fun _ h _ => Nat.lt_of_lt_of_le h (HB16.out).size)) (by exact ((HYk1.out.below HB16.out).mono fun _ h _ => Nat.lt_of_lt_of_le h (HB16.out).size)) (by omega) (by omega)).mono ?_; rintro e v17 ⟨zA1, zc1, zB1, zd1, rfl, oo, bb⟩; have bb := undrew bb; have sv17 : v16.heap.size ≤ v17.heap.size := bb.size; have HB17 := Lib.hid (below_on HB16.out bb); have HR017 := Lib.hid (HR016.out.on bb); have HR117 := Lib.hid (HR116.out.on bb); have HW17 := Lib.hid (HW16.out.on bb); have HWv17 := Lib.hid (HWv16.out.on bb); have HX017 := Lib.hid (HX016.out.on bb); have HXv017 := Lib.hid (HXv016.out.on bb); have HX117 := Lib.hid (HX116.out.on bb); have HXv117 := Lib.hid (HXv116.out.on bb); have HG17 := Lib.hid (HG16.out.on bb); have HGv17 := Lib.hid (HGv16.out.on bb); have HZ117 : Hid (RdR v17 (fun _ => True) x1 y1 zA1 zc1 zB1 zd1) := (Lib.hid oo.rdt))
      | (go_at_call 11; refine (eqRat_same n1 xA1 xB1 zA1 zB1 xc1 xd1 zc1 zd1 x1 y1 _ _ _ (by exact HX117.out.rdt) (by exact HZ117.out) (by omega) (by omega)).mono ?_; rintro e v18 ⟨rfl, bb⟩; have sv18 : v17.heap.size ≤ v18.heap.size := bb.size; have HB18 := Lib.hid (below_on HB17.out bb); have HR018 := Lib.hid (HR017.out.on bb); have HR118 := Lib.hid (HR117.out.on bb); have HW18 := Lib.hid (HW17.out.on bb); have HWv18 := Lib.hid (HWv17.out.on bb); have HX018 := Lib.hid (HX017.out.on bb); have HXv018 := Lib.hid (HXv017.out.on bb); have HX118 := Lib.hid (HX117.out.on bb); have HXv118 := Lib.hid (HXv117.out.on bb); have HG18 := Lib.hid (HG17.out.on bb); have HGv18 := Lib.hid (HGv17.out.on bb)))
  have qXv00 := HXv018.out.c0
  have qXv01 := HXv018.out.c1
  have qXv02 := HXv018.out.c2
  go_wp2_with fail
  clear qXv00 qXv01 qXv02
  refine (markRat_any n0 xA0 xB0 xc0 xd0 x0 y0 (1) v7.heap.size v18 HX018.out (by omega) (by omega) (by omega) (by omega)).mono ?_
  rintro e v19 ⟨rfl, oo, on⟩
  have sv19 : v18.heap.size ≤ v19.heap.size := on.2.2.2.1
  have bb := on.below HX018.out (by omega)
  have HB19 := Lib.hid (HB18.out.trans (bb.mono (by omega)))
  clear HB18
  have HR019 := Lib.hid (on.at_ (la := 0) (lb := 0) HX018.out (by decide) HR018.out)
  clear HR018
  have HR119 := Lib.hid (on.at_ (la := 0) (lb := 0) HX018.out (by decide) HR118.out)
  clear HR118
  have HW19 := Lib.hid (HW18.out.below (bb.mono (by omega)))
  clear HW18
  have HWv19 := Lib.hid (on.at_ (la := 0) (lb := 0) HX018.out (by decide) HWv18.out)
  clear HWv18
  have HX119 := Lib.hid (on.own HLY0.out HX118.out)
  clear HX118
  have HXv119 := Lib.hid (on.at_ (la := 0) (lb := 0) HX018.out (by decide) HXv118.out)
  clear HXv118
  have HG19 := Lib.hid (on.own HLX0.out HG18.out)
  clear HG18
  have HGv19 := Lib.hid (on.at_ (la := 0) (lb := 0) HX018.out (by decide) HGv18.out)
  clear HGv18
  clear HX018
  clear oo on bb
  have qXv10 := HXv119.out.c0
  have qXv11 := HXv119.out.c1
  have qXv12 := HXv119.out.c2
  go_wp2_with fail
  clear qXv10 qXv11 qXv12
  refine (markRat_any n1 xA1 xB1 xc1 xd1 x1 y1 (1 + (x0.length : Int) + (y0.length : Int)) v9.heap.size v19 HX119.out (by omega) (by omega) (by omega) (by omega)).mono ?_
  rintro e v20 ⟨rfl, oo, on⟩
  have sv20 : v19.heap.size ≤ v20.heap.size := on.2.2.2.1
  have bb := on.below HX119.out (by omega)
  have HB20 := Lib.hid (HB19.out.trans (bb.mono (by omega)))
  clear HB19
  have HR020 := Lib.hid (on.at_ (la := 0) (lb := 0) HX119.out (by decide) HR019.out)
  clear HR019
  have HR120 := Lib.hid (on.at_ (la := 0) (lb := 0) HX119.out (by decide) HR119.out)
  clear HR119
  have HW20 := Lib.hid (HW19.out.below (bb.mono (by omega)))
  clear HW19
  have HWv20 := Lib.hid (on.at_ (la := 0) (lb := 0) HX119.out (by decide) HWv19.out)
  clear HWv19
  have HG20 := Lib.hid (on.own HLX1.out HG19.out)
  clear HG19
  have HGv20 := Lib.hid (on.at_ (la := 0) (lb := 0) HX119.out (by decide) HGv19.out)
  clear HGv19
  clear HX119
  clear oo on bb
  have hk0 : decide ((1 + (x0.length : Int) + (y0.length : Int) + (x1.length : Int) + (y1.length : Int)) < 0) = false := decide_eq_false (by omega)
  have qWv0 := HWv20.out.c0
  have qWv1 := HWv20.out.c1
  have qWv2 := HWv20.out.c2
  have qGv0 := HGv20.out.c0
  have qGv1 := HGv20.out.c1
  have qGv2 := HGv20.out.c2
  go_wp2_with fail
  clear qWv0 qWv1 qWv2 qGv0 qGv1 qGv2
  refine (eqRat_same N Ag Bg As Bs cg dg cs ds X Y _ _ v20 HG20.out.rdt HW20.out (by omega) (by omega)).mono ?_
  rintro e v21 ⟨rfl, bb⟩
  have sv21 : v20.heap.size ≤ v21.heap.size := bb.size
  have HB21 := Lib.hid (below_on HB20.out bb)
  clear HB20
  have HR021 := Lib.hid (HR020.out.on bb)
  clear HR020
  have HR121 := Lib.hid (HR120.out.on bb)
  clear HR120
  have HW21 := Lib.hid (HW20.out.on bb)
  clear HW20
  have HWv21 := Lib.hid (HWv20.out.on bb)
  clear HWv20
  have HG21 := Lib.hid (HG20.out.on bb)
  clear HG20
  have HGv21 := Lib.hid (HGv20.out.on bb)
  clear HGv20
  clear bb
  clear hk0
  have qGv0 := HGv21.out.c0
  have qGv1 := HGv21.out.c1
  have qGv2 := HGv21.out.c2
  go_wp2_with fail
  clear qGv0 qGv1 qGv2
  refine (markRat_any N Ag Bg cg dg X Y (1) v11.heap.size v21 HG21.out (by omega) (by omega) (by omega) (by omega)).mono ?_
  rintro e v22 ⟨rfl, oo, on⟩
  have sv22 : v21.heap.size ≤ v22.heap.size := on.2.2.2.1
  have bb := on.below HG21.out (by omega)
  have HB22 := Lib.hid (HB21.out.trans (bb.mono (by omega)))
  clear HB21
  have HR022 := Lib.hid (on.at_ (la := 0) (lb := 0) HG21.out (by decide) HR021.out)
  clear HR021
  have HR122 := Lib.hid (on.at_ (la := 0) (lb := 0) HG21.out (by decide) HR121.out)
  clear HR121
  have HW22 := Lib.hid (HW21.out.below (bb.mono (by omega)))
  clear HW21
  have HWv22 := Lib.hid (on.at_ (la := 0) (lb := 0) HG21.out (by decide) HWv21.out)
  clear HWv21
  have HGv22 := Lib.hid (on.at_ (la := 0) (lb := 0) HG21.out (by decide) HGv21.out)
  clear HGv21
  have HG22 := Lib.hid oo
  clear HG21
  clear oo on bb
  have qGv0 := HGv22.out.c0
  have qGv1 := HGv22.out.c1
  have qGv2 := HGv22.out.c2
  go_wp2_with fail
  clear qGv0 qGv1 qGv2
  refine (heldRat_any N Ag Bg cg dg X.length Y.length 1 _ v22 HG22.out.rdt (by omega) (by omega) (by omega) (by omega)).mono ?_
  rintro e v23 ⟨rfl, bb⟩
  have sv23 : v22.heap.size ≤ v23.heap.size := bb.size
  have HB23 := Lib.hid (below_on HB22.out bb)
  clear HB22
  have HR023 := Lib.hid (HR022.out.on bb)
  clear HR022
  have HR123 := Lib.hid (HR122.out.on bb)
  clear HR122
  have HW23 := Lib.hid (HW22.out.on bb)
  clear HW22
  have HWv23 := Lib.hid (HWv22.out.on bb)
  clear HWv22
  have HG23 := Lib.hid (HG22.out.on bb)
  clear HG22
  have HGv23 := Lib.hid (HGv22.out.on bb)
  clear HGv22
  clear bb
  have hq1 : decide ((1 + (X.length : Int) + (Y.length : Int)) < 0) = false := decide_eq_false (by omega)
  have hq2 : ((1 + (X.length : Int) + (Y.length : Int)) != (1 + (X.length : Int) + (Y.length : Int))) = false := by simp
  go_upto_region 31 with fail
  go_cut [15, 16] (fun s1 s2 wx => ∃ (zb : Nat) (Ah : Option Addr) (ch : Nat) (Bh : Option Addr) (dh : Nat), s1 = .pointer (some ⟨zb, 0, none⟩) ∧ s2 = .int .i64 K ∧ Below w.heap.size w wx ∧ RatAt wx w.heap.size 24 n0 A0 x0.length ca0 B0 y0.length cb0 ∧ RatAt wx (w.heap.size + 1) 24 n1 A1 x1.length ca1 B1 y1.length cb1 ∧ RdR wx (· < v7.heap.size) X Y As cs Bs ds ∧ RatAt wx zb8 26 N As X.length cs Bs Y.length ds ∧ OwnR 3 wx v11.heap.size (marks 1 X.length) (marks (1 + X.length) Y.length) Ag cg Bg dg ∧ RatAt wx v12.heap.size 26 N Ag X.length cg Bg Y.length dg ∧ Below v23.heap.size v23 wx ∧ RdR wx (fun _ => True) X Y Ah ch Bh dh ∧ RatAt wx zb 26 N Ah X.length ch Bh Y.length dh)
  case first =>
    have HCc := Lib.hid (Below.refl v23.heap.size v23)
    have zR0 := HR023.out.lt
    have zR1 := HR123.out.lt
    have zWv := HWv23.out.lt
    have zGv := HGv23.out.lt
    go_region_held3 (fun wx => wx.cell? ⟨w.heap.size, 0, none⟩ = some (.bool n0) ∧ wx.cell? ⟨w.heap.size, 1, none⟩ = some (.slice A0 x0.length ca0) ∧ wx.cell? ⟨w.heap.size, 2, none⟩ = some (.slice B0 y0.length cb0) ∧ wx.cell? ⟨(w.heap.size + 1), 0, none⟩ = some (.bool n1) ∧ wx.cell? ⟨(w.heap.size + 1), 1, none⟩ = some (.slice A1 x1.length ca1) ∧ wx.cell? ⟨(w.heap.size + 1), 2, none⟩ = some (.slice B1 y1.length cb1))
      (first | with_reducible exact ⟨HR026.out.c0, HR026.out.c1, HR026.out.c2, HR126.out.c0, HR126.out.c1, HR126.out.c2⟩ | with_reducible exact ⟨HR025.out.c0, HR025.out.c1, HR025.out.c2, HR125.out.c0, HR125.out.c1, HR125.out.c2⟩ | with_reducible exact ⟨HR024.out.c0, HR024.out.c1, HR024.out.c2, HR124.out.c0, HR124.out.c1, HR124.out.c2⟩ | with_reducible exact ⟨HR023.out.c0, HR023.out.c1, HR023.out.c2, HR123.out.c0, HR123.out.c1, HR123.out.c2⟩ | with_reducible exact ⟨(HR026.out.alloc _).c0, (HR026.out.alloc _).c1, (HR026.out.alloc _).c2, (HR126.out.alloc _).c0, (HR126.out.alloc _).c1, (HR126.out.alloc _).c2⟩ | with_reducible exact ⟨(HR025.out.alloc _).c0, (HR025.out.alloc _).c1, (HR025.out.alloc _).c2, (HR125.out.alloc _).c0, (HR125.out.alloc _).c1, (HR125.out.alloc _).c2⟩ | with_reducible exact ⟨(HR024.out.alloc _).c0, (HR024.out.alloc _).c1, (HR024.out.alloc _).c2, (HR124.out.alloc _).c0, (HR124.out.alloc _).c1, (HR124.out.alloc _).c2⟩ | with_reducible exact ⟨(HR023.out.alloc _).c0, (HR023.out.alloc _).c1, (HR023.out.alloc _).c2, (HR123.out.alloc _).c0, (HR123.out.alloc _).c1, (HR123.out.alloc _).c2⟩ | with_reducible exact ⟨(HR026.out.grown (setAll_grown _ _ _ _ _) (by omega)).c0, (HR026.out.grown (setAll_grown _ _ _ _ _) (by omega)).c1, (HR026.out.grown (setAll_grown _ _ _ _ _) (by omega)).c2, (HR126.out.grown (setAll_grown _ _ _ _ _) (by omega)).c0, (HR126.out.grown (setAll_grown _ _ _ _ _) (by omega)).c1, (HR126.out.grown (setAll_grown _ _ _ _ _) (by omega)).c2⟩ | exact ⟨HR023.out.c0, HR023.out.c1, HR023.out.c2, HR123.out.c0, HR123.out.c1, HR123.out.c2⟩ | exact ⟨(HR023.out.alloc _).c0, (HR023.out.alloc _).c1, (HR023.out.alloc _).c2, (HR123.out.alloc _).c0, (HR123.out.alloc _).c1, (HR123.out.alloc _).c2⟩ | exact ⟨(HR026.out.grown (setAll_grown _ _ _ _ _) (by omega)).c0, (HR026.out.grown (setAll_grown _ _ _ _ _) (by omega)).c1, (HR026.out.grown (setAll_grown _ _ _ _ _) (by omega)).c2, (HR126.out.grown (setAll_grown _ _ _ _ _) (by omega)).c0, (HR126.out.grown (setAll_grown _ _ _ _ _) (by omega)).c1, (HR126.out.grown (setAll_grown _ _ _ _ _) (by omega)).c2⟩)
      (first
        | (go_at_call_of 9 A0; (first | (with_reducible show Calls _ _ _ (World.drew (World.alloc _ _)) _) | (with_reducible show Calls _ _ _ (World.alloc (World.drew _) _) _)); refine calls_at (fun V => Below v23.heap.size v23 V ∧ RatAt V v23.heap.size 26 false none 0 0 none 0 0) (by first | exact ⟨below1 _ _, RatAt.new _ _ _ _ _ _ _ _ _⟩ | exact ⟨below_drewN (below1 _ _) 1, RatAt.new _ _ _ _ _ _ _ _ _⟩ | exact ⟨undrew (below1 _ _), RatAt.new _ _ _ _ _ _ _ _ _⟩) ?_; rintro u0 ⟨bu, pz⟩; have su0 := bu.size; have HB23 := Lib.hid (below_on HB23.out bu); have HR023 := Lib.hid (HR023.out.on bu); have HR123 := Lib.hid (HR123.out.on bu); have HW23 := Lib.hid (HW23.out.on bu); have HWv23 := Lib.hid (HWv23.out.on bu); have HG23 := Lib.hid (HG23.out.on bu); have HGv23 := Lib.hid (HGv23.out.on bu); have HCc := Lib.hid (below_on HCc.out bu); have HZ0 := Lib.hid pz; clear bu pz; refine (toRat_any n0 A0 B0 _ ca0 _ cb0 x0 y0 _ (by exact ((HXk0.out.below HB23.out).mono fun _ h _ => Nat.lt_of_lt_of_le h (HB23.out).size)) (by exact ((HYk0.out.below HB23.out).mono fun _ h _ => Nat.lt_of_lt_of_le h (HB23.out).size)) (by omega) (by omega)).mono ?_; rintro e v24 ⟨hA0, hc0, hB0, hd0, rfl, oo, bb⟩; have sv24 := bb.size; have sv24 := Nat.le_trans su0 sv24; have HB24 := Lib.hid (below_on HB23.out bb); have HR024 := Lib.hid (HR023.out.on bb); have HR124 := Lib.hid (HR123.out.on bb); have HW24 := Lib.hid (HW23.out.on bb); have HWv24 := Lib.hid (HWv23.out.on bb); have HG24 := Lib.hid (HG23.out.on bb); have HGv24 := Lib.hid (HGv23.out.on bb); have HC24 := Lib.hid (below_on HCc.out bb); have HT024 : Hid (RdR v24 (fun _ => True) x0 y0 hA0 hc0 hB0 hd0) := (Lib.hid oo.rdt); have HZ1 := Lib.hid (HZ0.out.on bb))
        | (go_at_call_of 9 A0; refine (toRat_any n0 A0 B0 _ ca0 _ cb0 x0 y0 _ (by exact ((HXk0.out.below HB23.out).mono fun _ h _ => Nat.lt_of_lt_of_le h (HB23.out).size)) (by exact ((HYk0.out.below HB23.out).mono fun _ h _ => Nat.lt_of_lt_of_le h (HB23.out).size)) (by omega) (by omega)).mono ?_; rintro e v24 ⟨hA0, hc0, hB0, hd0, rfl, oo, bb⟩; have bb := undrew bb; have sv24 := bb.size; have HB24 := Lib.hid (below_on HB23.out bb); have HR024 := Lib.hid (HR023.out.on bb); have HR124 := Lib.hid (HR123.out.on bb); have HW24 := Lib.hid (HW23.out.on bb); have HWv24 := Lib.hid (HWv23.out.on bb); have HG24 := Lib.hid (HG23.out.on bb); have HGv24 := Lib.hid (HGv23.out.on bb); have HC24 := Lib.hid (below_on HCc.out bb); have HT024 : Hid (RdR v24 (fun _ => True) x0 y0 hA0 hc0 hB0 hd0) := (Lib.hid oo.rdt); (try (have HZ1 := Lib.hid (HZ0.out.on bb))))
        | (go_at_call_of 9 A1; (with_reducible show Calls _ _ _ (World.alloc _ _) _); refine calls_at (fun V => Below v24.heap.size v24 V ∧ RatAt V v24.heap.size 26 false none 0 0 none 0 0) (by first | exact ⟨below1 _ _, RatAt.new _ _ _ _ _ _ _ _ _⟩ | exact ⟨below_drewN (below1 _ _) 1, RatAt.new _ _ _ _ _ _ _ _ _⟩ | exact ⟨undrew (below1 _ _), RatAt.new _ _ _ _ _ _ _ _ _⟩) ?_; rintro u1 ⟨bu, pz⟩; have su1 := bu.size; have HB24 := Lib.hid (below_on HB24.out bu); have HR024 := Lib.hid (HR024.out.on bu); have HR124 := Lib.hid (HR124.out.on bu); have HW24 := Lib.hid (HW24.out.on bu); have HWv24 := Lib.hid (HWv24.out.on bu); have HG24 := Lib.hid (HG24.out.on bu); have HGv24 := Lib.hid (HGv24.out.on bu); have HC24 := Lib.hid (below_on HC24.out bu); have HT024 := Lib.hid (HT024.out.on bu); have HZ1 := Lib.hid pz; clear bu pz; refine (toRat_any n1 A1 B1 _ ca1 _ cb1 x1 y1 _ (by exact ((HXk1.out.below HB24.out).mono fun _ h _ => Nat.lt_of_lt_of_le h (HB24.out).size)) (by exact ((HYk1.out.below HB24.out).mono fun _ h _ => Nat.lt_of_lt_of_le h (HB24.out).size)) (by omega) (by omega)).mono ?_; rintro e v25 ⟨hA1, hc1, hB1, hd1, rfl, oo, bb⟩; have sv25 := bb.size; have sv25 := Nat.le_trans su1 sv25; have HB25 := Lib.hid (below_on HB24.out bb); have HR025 := Lib.hid (HR024.out.on bb); have HR125 := Lib.hid (HR124.out.on bb); have HW25 := Lib.hid (HW24.out.on bb); have HWv25 := Lib.hid (HWv24.out.on bb); have HG25 := Lib.hid (HG24.out.on bb); have HGv25 := Lib.hid (HGv24.out.on bb); have HC25 := Lib.hid (below_on HC24.out bb); have HT025 := Lib.hid (HT024.out.on bb); have HT125 : Hid (RdR v25 (fun _ => True) x1 y1 hA1 hc1 hB1 hd1) := (Lib.hid oo.rdt); have HZ2 := Lib.hid (HZ1.out.on bb))
        | (go_at_call_of 9 A1; refine (toRat_any n1 A1 B1 _ ca1 _ cb1 x1 y1 _ (by exact ((HXk1.out.below HB24.out).mono fun _ h _ => Nat.lt_of_lt_of_le h (HB24.out).size)) (by exact ((HYk1.out.below HB24.out).mono fun _ h _ => Nat.lt_of_lt_of_le h (HB24.out).size)) (by omega) (by omega)).mono ?_; rintro e v25 ⟨hA1, hc1, hB1, hd1, rfl, oo, bb⟩; have sv25 := bb.size; have HB25 := Lib.hid (below_on HB24.out bb); have HR025 := Lib.hid (HR024.out.on bb); have HR125 := Lib.hid (HR124.out.on bb); have HW25 := Lib.hid (HW24.out.on bb); have HWv25 := Lib.hid (HWv24.out.on bb); have HG25 := Lib.hid (HG24.out.on bb); have HGv25 := Lib.hid (HGv24.out.on bb); have HC25 := Lib.hid (below_on HC24.out bb); have HT025 := Lib.hid (HT024.out.on bb); have HT125 : Hid (RdR v25 (fun _ => True) x1 y1 hA1 hc1 hB1 hd1) := (Lib.hid oo.rdt); (try (have HZ2 := Lib.hid (HZ1.out.on bb))))
        | (go_at_call 10; (with_reducible show Calls _ _ _ (World.alloc _ _) _); refine calls_at (fun V => Below v25.heap.size v25 V ∧ RatAt V v25.heap.size 26 false none 0 0 none 0 0) (by first | exact ⟨below1 _ _, RatAt.new _ _ _ _ _ _ _ _ _⟩ | exact ⟨below_drewN (below1 _ _) 1, RatAt.new _ _ _ _ _ _ _ _ _⟩ | exact ⟨undrew (below1 _ _), RatAt.new _ _ _ _ _ _ _ _ _⟩) ?_; rintro u2 ⟨bu, pz⟩; have su2 := bu.size; have HB25 := Lib.hid (below_on HB25.out bu); have HR025 := Lib.hid (HR025.out.on bu); have HR125 := Lib.hid (HR125.out.on bu); have HW25 := Lib.hid (HW25.out.on bu); have HWv25 := Lib.hid (HWv25.out.on bu); have HG25 := Lib.hid (HG25.out.on bu); have HGv25 := Lib.hid (HGv25.out.on bu); have HC25 := Lib.hid (below_on HC25.out bu); have HT025 := Lib.hid (HT025.out.on bu); have HT125 := Lib.hid (HT125.out.on bu); have HZ2 := Lib.hid pz; clear bu pz; refine (HI.out hA0 hc0 hB0 hd0 hA1 hc1 hB1 hd1 _ (by exact HB25.out) (by exact HT025.out) (by exact HT125.out)).mono ?_; rintro e v26 ⟨Ah, ch, Bh, dh, rfl, oo, bb⟩; have sv26 := bb.size; have sv26 := Nat.le_trans su2 sv26; have HB26 := Lib.hid (below_on HB25.out bb); have HR026 := Lib.hid (HR025.out.on bb); have HR126 := Lib.hid (HR125.out.on bb); have HW26 := Lib.hid (HW25.out.on bb); have HWv26 := Lib.hid (HWv25.out.on bb); have HG26 := Lib.hid (HG25.out.on bb); have HGv26 := Lib.hid (HGv25.out.on bb); have HC26 := Lib.hid (below_on HC25.out bb); have HJ26 : Hid (RdR v26 (fun _ => True) X Y Ah ch Bh dh) := (Lib.hid oo.rdt); have HZ3 := Lib.hid (HZ2.out.on bb); have f0 := HZ3.out.fz 0; have f1 := HZ3.out.fz 1; have f2 := HZ3.out.fz 2; have y0 := HZ3.out.c0; have y1 := HZ3.out.c1; have y2 := HZ3.out.c2)
        | (go_at_call 10; refine (HI.out hA0 hc0 hB0 hd0 hA1 hc1 hB1 hd1 _ (by exact HB25.out) (by exact HT025.out) (by exact HT125.out)).mono ?_; rintro e v26 ⟨Ah, ch, Bh, dh, rfl, oo, bb⟩; have sv26 := bb.size; have HB26 := Lib.hid (below_on HB25.out bb); have HR026 := Lib.hid (HR025.out.on bb); have HR126 := Lib.hid (HR125.out.on bb); have HW26 := Lib.hid (HW25.out.on bb); have HWv26 := Lib.hid (HWv25.out.on bb); have HG26 := Lib.hid (HG25.out.on bb); have HGv26 := Lib.hid (HGv25.out.on bb); have HC26 := Lib.hid (below_on HC25.out bb); have HJ26 : Hid (RdR v26 (fun _ => True) X Y Ah ch Bh dh) := (Lib.hid oo.rdt); (try (have HZ3 := Lib.hid (HZ2.out.on bb); have f0 := HZ3.out.fz 0; have f1 := HZ3.out.fz 1; have f2 := HZ3.out.fz 2; have y0 := HZ3.out.c0; have y1 := HZ3.out.c1; have y2 := HZ3.out.c2))))
    all_goals
      go_wp2_with fail
      go_meet
    all_goals first | exact ⟨_, _, _, _, _, rfl, rfl, below_on HB26.out (below1 _ _), HR026.out.on (below1 _ _), HR126.out.on (below1 _ _), HW26.out.on (below1 _ _), HWv26.out.on (below1 _ _), HG26.out.on (below1 _ _), HGv26.out.on (below1 _ _), below_on HC26.out (below1 _ _), HJ26.out.on (below1 _ _), RatAt.new _ _ _ _ _ _ _ _ _⟩ | exact ⟨_, _, _, _, _, rfl, rfl, HB26.out.trans (grown_below (setAll_grown _ _ _ _ _) (by omega) (by omega)), HR026.out.grown (setAll_grown _ _ _ _ _) (by omega), HR126.out.grown (setAll_grown _ _ _ _ _) (by omega), ⟨HW26.out.1.past HZ3.out (setAll_grown _ _ _ _ _), HW26.out.2.past HZ3.out (setAll_grown _ _ _ _ _)⟩, HWv26.out.grown (setAll_grown _ _ _ _ _) (by omega), OwnR_past HG26.out (by decide) HZ3.out (setAll_grown _ _ _ _ _), HGv26.out.grown (setAll_grown _ _ _ _ _) (by omega), HC26.out.trans (grown_below (setAll_grown _ _ _ _ _) (by omega) (by omega)), ⟨HJ26.out.1.past HZ3.out (setAll_grown _ _ _ _ _), HJ26.out.2.past HZ3.out (setAll_grown _ _ _ _ _)⟩, HZ3.out.setAll _ _ _ _ _ _ _⟩
  obtain ⟨zb31, Ah, ch, Bh, dh, rfl, rfl, pB, pR0, pR1, pW, pWv, pG, pGv, pC, pJ, pJv⟩ := hcut
  generalize wc = v27 at *
  have sv27 : v23.heap.size ≤ v27.heap.size := pC.size
  clear pC
  have HB27 := Lib.hid pB
  clear pB HB23
  have HR027 := Lib.hid pR0
  clear pR0 HR023
  have HR127 := Lib.hid pR1
  clear pR1 HR123
  have HW27 := Lib.hid pW
  clear pW HW23
  have HWv27 := Lib.hid pWv
  clear pWv HWv23
  have HG27 := Lib.hid pG
  clear pG HG23
  have HGv27 := Lib.hid pGv
  clear pGv HGv23
  have HJ27 := Lib.hid pJ
  have HJv27 := Lib.hid pJv
  clear pJ pJv
  have qWv0 := HWv27.out.c0
  have qWv1 := HWv27.out.c1
  have qWv2 := HWv27.out.c2
  have qJv0 := HJv27.out.c0
  have qJv1 := HJv27.out.c1
  have qJv2 := HJv27.out.c2
  go_wp2_with fail
  clear qWv0 qWv1 qWv2 qJv0 qJv1 qJv2
  refine (eqRat_same N Ah Bh As Bs ch dh cs ds X Y _ _ v27 HJ27.out HW27.out (by omega) (by omega)).mono ?_
  rintro e v28 ⟨rfl, bb⟩
  have sv28 : v27.heap.size ≤ v28.heap.size := bb.size
  have HB28 := Lib.hid (below_on HB27.out bb)
  clear HB27
  have HR028 := Lib.hid (HR027.out.on bb)
  clear HR027
  have HR128 := Lib.hid (HR127.out.on bb)
  clear HR127
  have HW28 := Lib.hid (HW27.out.on bb)
  clear HW27
  have HWv28 := Lib.hid (HWv27.out.on bb)
  clear HWv27
  have HG28 := Lib.hid (HG27.out.on bb)
  clear HG27
  have HGv28 := Lib.hid (HGv27.out.on bb)
  clear HGv27
  have HJ28 := Lib.hid (HJ27.out.on bb)
  clear HJ27
  have HJv28 := Lib.hid (HJv27.out.on bb)
  clear HJv27
  clear bb
  have qGv0 := HGv28.out.c0
  have qGv1 := HGv28.out.c1
  have qGv2 := HGv28.out.c2
  go_wp2_with fail
  clear qGv0 qGv1 qGv2
  refine (heldRat_any N Ag Bg cg dg X.length Y.length 1 _ v28 HG28.out.rdt (by omega) (by omega) (by omega) (by omega)).mono ?_
  rintro e v29 ⟨rfl, bb⟩
  have sv29 : v28.heap.size ≤ v29.heap.size := bb.size
  have HB29 := Lib.hid (below_on HB28.out bb)
  clear HB28
  have HR029 := Lib.hid (HR028.out.on bb)
  clear HR028
  have HR129 := Lib.hid (HR128.out.on bb)
  clear HR128
  have HW29 := Lib.hid (HW28.out.on bb)
  clear HW28
  have HWv29 := Lib.hid (HWv28.out.on bb)
  clear HWv28
  have HG29 := Lib.hid (HG28.out.on bb)
  clear HG28
  have HGv29 := Lib.hid (HGv28.out.on bb)
  clear HGv28
  have HJ29 := Lib.hid (HJ28.out.on bb)
  clear HJ28
  have HJv29 := Lib.hid (HJv28.out.on bb)
  clear HJv28
  clear bb
  go_wp2
  go_ret
  exact ⟨rfl, HB29.out⟩

set_option maxHeartbeats 800000 in
theorem lawDivRat_any (n0 : Bool) (A0 : Option Addr) (la0 ca0 : Nat) (x0 : List Int) (B0 : Option Addr) (lb0 cb0 : Nat) (y0 : List Int) (n1 : Bool) (A1 : Option Addr) (la1 ca1 : Nat) (x1 : List Int) (B1 : Option Addr) (lb1 cb1 : Nat) (y1 : List Int) (w : World) (hx0 : Rd w (· < w.heap.size) A0 la0 ca0 x0) (hla0 : la0 ≤ 9223372036854775807) (hy0 : Rd w (· < w.heap.size) B0 lb0 cb0 y0) (hlb0 : lb0 ≤ 9223372036854775807) (hx1 : Rd w (· < w.heap.size) A1 la1 ca1 x1) (hla1 : la1 ≤ 9223372036854775807) (hy1 : Rd w (· < w.heap.size) B1 lb1 cb1 y1) (hlb1 : lb1 ≤ 9223372036854775807) (ad : Addr) (hE : ErrAt 99 w ad) :
    Calls Tryd.prog 3 #[.agg #[.bool n0, .slice A0 la0 ca0, .slice B0 lb0 cb0], .agg #[.bool n1, .slice A1 la1 ca1, .slice B1 lb1 cb1]] w fun e w' => e = .returned (.bool true) ∧ Below w.heap.size w w' := by
  by_cases hb0 : 1048576 < la0 + lb0
  · clear hx0 hy0 hx1 hy1
    go_enter Tryd.func3, Tryd.ntmps3
    go_wp2_with fail
    refine calls_at (fun V => Below w.heap.size w V) (below2 _ _ _) ?_
    intro v1 hb1
    refine (szRat_big n0 A0 B0 la0 ca0 lb0 cb0 1048576 v1 (by omega) (by omega) hla0 hlb0 (by omega)).mono ?_
    rintro e v2 ⟨rfl, b2⟩
    have HB2 := Lib.hid (below_on hb1 b2)
    clear hb1 b2
    go_wp2
    go_ret
    exact ⟨rfl, HB2.out⟩
  by_cases hb2 : 1048576 < la0 + lb0 + la1 + lb1
  · clear hx0 hy0 hx1 hy1
    go_enter Tryd.func3, Tryd.ntmps3
    go_wp2_with fail
    refine calls_at (fun V => Below w.heap.size w V ∧ RatAt V (w.heap.size + 1) 24 n1 A1 la1 ca1 B1 lb1 cb1) ⟨below2 _ _ _, RatAt.new1 _ _ _ _ _ _ _ _ _ _⟩ ?_
    rintro v1 ⟨hb1, r1⟩
    refine (szRat_fit n0 A0 B0 la0 ca0 lb0 cb0 1048576 v1 (by omega) (by omega) (by omega)).mono ?_
    rintro e v2 ⟨rfl, b2⟩
    have HB2 := Lib.hid (below_on hb1 b2)
    have HR2 := Lib.hid (r1.on b2)
    clear hb1 b2 r1
    have hle : 0 ≤ 1048576 - (la0 : Int) - lb0 := by omega
    have c0 := HR2.out.c0
    have c1 := HR2.out.c1
    have c2 := HR2.out.c2
    go_wp2_with fail
    refine (szRat_big n1 A1 B1 la1 ca1 lb1 cb1 (1048576 - la0 - lb0) v2 (by omega) (by omega) hla1 hlb1 (by omega)).mono ?_
    rintro e v3 ⟨rfl, b3⟩
    have HB3 := Lib.hid (below_on HB2.out b3)
    clear b3
    go_wp2
    go_ret
    exact ⟨rfl, HB3.out⟩
  have hlen : x0.length = la0 ∧ y0.length = lb0 ∧ x1.length = la1 ∧ y1.length = lb1 ∧ True := ⟨hx0.len, hy0.len, hx1.len, hy1.len, trivial⟩
  by_cases hok : okR n0 x0 y0 = true ∧ okR n1 x1 y1 = true
  · obtain ⟨r, rfl, rfl, rfl, h1, h2⟩ := okR_out hok.1
    obtain ⟨s, rfl, rfl, rfl, h3, h4⟩ := okR_out hok.2
    have q1 := (D_len_le (nu r) 40).2 h1
    have q2 := (D_len_le r.den 40).2 h2
    have q3 := (D_len_le (nu s) 40).2 h3
    have q4 := (D_len_le s.den 40).2 h4
    by_cases hz : 0 < nu s
    · have z1 := fX_len (r / s)
      have z2 := fY_len (r / s)
      exact lawDivRat_core (fN (r / s)) (fX (r / s)) (fY (r / s)) (fK (r / s)) _ A0 la0 ca0 B0 lb0 cb0 _ _ _ A1 la1 ca1 B1 lb1 cb1 _ _ w (by omega) (by omega) (fun a c b d a' c' b' d' W h h' => specDivRat_ok r s a b c d a' b' c' d' _ _ W h h' (by omega) (by omega) (by omega) (by omega) h1 h2 h3 h4 hz) (fun a c b d a' c' b' d' W hB h h' => implDivRat_ok r s a b c d a' b' c' d' _ _ W h h' (by omega) (by omega) (by omega) (by omega) h1 h2 h3 h4 ad (hE.on hB) hz) hx0 hy0 hx1 hy1 (by omega)
    · have hz0 : nu s = 0 := by omega
      exact lawDivRat_core false [] [] 9 _ A0 la0 ca0 B0 lb0 cb0 _ _ _ A1 la1 ca1 B1 lb1 cb1 _ _ w (by decide) (by decide) (fun a c b d a' c' b' d' W h h' => specDivRat_zero r s a b c d a' b' c' d' _ _ W h h' (by omega) (by omega) (by omega) (by omega) h1 h2 h3 h4 hz0) (fun a c b d a' c' b' d' W hB h h' => implDivRat_zero r s a b c d a' b' c' d' _ _ W h h' (by omega) (by omega) (by omega) (by omega) h1 h2 h3 h4 ad (hE.on hB) hz0) hx0 hy0 hx1 hy1 (by omega)
  · have hbad : (okR n0 x0 y0 && okR n1 x1 y1) = false := by
      rw [Bool.and_eq_false_iff]
      by_cases h : okR n0 x0 y0 = true
      · right; rw [Bool.eq_false_iff]; exact fun k => hok ⟨h, k⟩
      · left; rw [Bool.eq_false_iff]; exact h
    exact lawDivRat_core false [] [] 1 n0 A0 la0 ca0 B0 lb0 cb0 x0 y0 n1 A1 la1 ca1 B1 lb1 cb1 x1 y1 w (by decide) (by decide) (fun a c b d a' c' b' d' W h h' => specDivRat_bad n0 a b _ c _ d x0 y0 n1 a' b' _ c' _ d' x1 y1 _ _ W h.1 h.2 h'.1 h'.2 (by omega) (by omega) (by omega) (by omega) hbad) (fun a c b d a' c' b' d' W _ h h' => implDivRat_bad n0 a b _ c _ d x0 y0 n1 a' b' _ c' _ d' x1 y1 _ _ W h.1 h.2 h'.1 h'.2 (by omega) (by omega) (by omega) (by omega) hbad) hx0 hy0 hx1 hy1 (by omega)

end Go.Proofs.YtbheljjcchaglaaDoor
