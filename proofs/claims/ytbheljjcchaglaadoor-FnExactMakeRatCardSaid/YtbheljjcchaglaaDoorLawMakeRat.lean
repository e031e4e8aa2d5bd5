/-
  The law FnExactMakeRat, whatever the numbers: MakeRat answers as its model, and what it answers is memory of its own.
-/
import Derived.Test.YtbheljjcchaglaaDoorRatMake
import Derived.ProofKit
namespace Go.Proofs.YtbheljjcchaglaaDoor
open Go Go.RowKit Nt

set_option maxRecDepth 20000 in
set_option maxHeartbeats 3200000 in
theorem lawMakeRat_core (N : Bool) (X Y : List Int) (K : Int) (n d : Int) (w : World) (hX : X.length ≤ 1000) (hY : Y.length ≤ 1000)
    (hS : ∀ W : World, Calls Tryd.prog 14 #[.int .i64 n, .int .i64 d] W (SayRC' W N X Y K))
    (hI : ∀ W : World, Below w.heap.size w W → Calls Tryd.prog 15 #[.int .i64 n, .int .i64 d] W (RetRC 3 W N X Y K)) :
    Calls Tryd.prog 4 #[.int .i64 n, .int .i64 d] w fun e w' => e = .returned (.bool true) ∧ Below w.heap.size w w' := by
  have HS := Lib.hid hS
  have HI := Lib.hid hI
  clear hS hI
  have hcc : (K != K) = false := by simp
  go_enter Tryd.func4, Tryd.ntmps4
  go_wp2_with fail
  refine (HS.out w).mono ?_
  rintro e v1 ⟨wA, wc, wB, wd, rfl, oo, bb⟩
  have sv1 : w.heap.size ≤ v1.heap.size := bb.size
  have HBv1 := Lib.hid bb
  have HWv1 := Lib.hid (oo.mono (Q := (· < v1.heap.size)) fun _ _ h => h)
  clear oo
  clear bb 
  go_wp2_with fail
  refine calls_at (fun V => (v1.heap.size < V.heap.size) ∧ (Below w.heap.size w V) ∧ (RdR V (· < v1.heap.size) X Y wA wc wB wd) ∧ (RatAt V v1.heap.size 26 N wA X.length wc wB Y.length wd))
    ⟨by simp, below_on HBv1.out (below1 _ _), HWv1.out.on (below1 _ _), RatAt.new _ _ _ _ _ _ _ _ _⟩ ?_
  rintro v2 ⟨sv2, pB, pW, pwb⟩
  have HBv2 := Lib.hid pB
  have HWv2 := Lib.hid pW
  have Hwbv2 := Lib.hid pwb
  clear pB pW pwb HBv1 HWv1
  refine (HI.out v2 HBv2.out).mono ?_
  rintro e v3 ⟨gA, gc, gB, gd, rfl, oo, bb⟩
  have sv3 : v2.heap.size ≤ v3.heap.size := bb.size
  have HBv3 := Lib.hid (below_on HBv2.out bb)
  have HWv3 := Lib.hid (HWv2.out.on bb)
  have Hwbv3 := Lib.hid (Hwbv2.out.on bb)
  have HGv3 := Lib.hid oo
  clear oo
  clear bb HBv2 HWv2 Hwbv2
  have hs1 : v1.heap.size < v3.heap.size := by omega
  have qwb0 := Hwbv3.out.c0
  have qwb1 := Hwbv3.out.c1
  have qwb2 := Hwbv3.out.c2
  go_wp2_with fail
  clear qwb0 qwb1 qwb2
  refine calls_at (fun V => (v3.heap.size < V.heap.size) ∧ (Below w.heap.size w V) ∧ (RdR V (· < v1.heap.size) X Y wA wc wB wd) ∧ (RatAt V v1.heap.size 26 N wA X.length wc wB Y.length wd) ∧ (OwnR 3 V v2.heap.size X Y gA gc gB gd) ∧ (RatAt V v3.heap.size 26 N gA X.length gc gB Y.length gd))
    ⟨by simp, below_on HBv3.out (below1 _ _), HWv3.out.on (below1 _ _), Hwbv3.out.on (below1 _ _), HGv3.out.on (below1 _ _), RatAt.new _ _ _ _ _ _ _ _ _⟩ ?_
  rintro v4 ⟨sv4, pB, pW, pwb, pG, pgb⟩
  have HBv4 := Lib.hid pB
  have HWv4 := Lib.hid pW
  have Hwbv4 := Lib.hid pwb
  have HGv4 := Lib.hid pG
  have Hgbv4 := Lib.hid pgb
  clear pB pW pwb pG pgb HBv3 HWv3 Hwbv3 HGv3
  refine (eqRat_same N gA gB wA wB gc gd wc wd X Y _ _ v4 HGv4.out.rdt HWv4.out (by omega) (by omega)).mono ?_
  rintro e v5 ⟨rfl, bb⟩
  have sv5 : v4.heap.size ≤ v5.heap.size := bb.size
  have HBv5 := Lib.hid (below_on HBv4.out bb)
  have HWv5 := Lib.hid (HWv4.out.on bb)
  have Hwbv5 := Lib.hid (Hwbv4.out.on bb)
  have HGv5 := Lib.hid (HGv4.out.on bb)
  have Hgbv5 := Lib.hid (Hgbv4.out.on bb)
  clear bb HBv4 HWv4 Hwbv4 HGv4 Hgbv4
  have qgb0 := Hgbv5.out.c0
  have qgb1 := Hgbv5.out.c1
  have qgb2 := Hgbv5.out.c2
  go_wp2_with fail
  clear qgb0 qgb1 qgb2
  refine (markRat_any N gA gB gc gd X Y 1 _ v5 HGv5.out (by omega) (by omega) (by omega) (by omega)).mono ?_
  rintro e v6 ⟨rfl, oo⟩
  have bl := oo.2.below HGv5.out (by omega)
  have sv6 : v5.heap.size ≤ v6.heap.size := bl.size
  have HBv6 := Lib.hid (HBv5.out.trans (bl.mono (by omega)))
  have HWv6 := Lib.hid (HWv5.out.below (bl.mono (by omega)))
  have Hwbv6 := Lib.hid (Only.at_ (la := 0) (lb := 0) oo.2 HGv5.out (by decide) Hwbv5.out)
  have Hgbv6 := Lib.hid (Only.at_ (la := 0) (lb := 0) oo.2 HGv5.out (by decide) Hgbv5.out)
  have HMv6 := Lib.hid oo.1.rdt
  clear bl oo HBv5 HWv5 Hwbv5 HGv5 Hgbv5
  have hq0 : 0 ≤ 1 + (X.length : Int) + (Y.length : Int) := by omega
  have hqq : (1 + (X.length : Int) + (Y.length : Int) != 1 + (X.length : Int) + (Y.length : Int)) = false := by simp
  have qgb0 := Hgbv6.out.c0
  have qgb1 := Hgbv6.out.c1
  have qgb2 := Hgbv6.out.c2
  go_wp2_with fail
  clear qgb0 qgb1 qgb2
  refine (heldRat_any N gA gB gc gd _ _ 1 _ v6 HMv6.out (by omega) (by omega) (by omega) (by omega)).mono ?_
  rintro e v7 ⟨rfl, bb⟩
  have sv7 : v6.heap.size ≤ v7.heap.size := bb.size
  have HBv7 := Lib.hid (below_on HBv6.out bb)
  have HWv7 := Lib.hid (HWv6.out.on bb)
  have Hwbv7 := Lib.hid (Hwbv6.out.on bb)
  have Hgbv7 := Lib.hid (Hgbv6.out.on bb)
  have HMv7 := Lib.hid (HMv6.out.on bb)
  clear bb HBv6 HWv6 Hwbv6 Hgbv6 HMv6
  go_wp2_with fail
  refine (HI.out v7 HBv7.out).mono ?_
  rintro e v8 ⟨hA, hc, hB, hd, rfl, oo, bb⟩
  have sv8 : v7.heap.size ≤ v8.heap.size := bb.size
  have HBv8 := Lib.hid (below_on HBv7.out bb)
  have HWv8 := Lib.hid (HWv7.out.on bb)
  have Hwbv8 := Lib.hid (Hwbv7.out.on bb)
  have Hgbv8 := Lib.hid (Hgbv7.out.on bb)
  have HMv8 := Lib.hid (HMv7.out.on bb)
  have HHv8 := Lib.hid oo.rdt
  clear oo
  clear bb HBv7 HWv7 Hwbv7 Hgbv7 HMv7
  have hs2 : v1.heap.size < v8.heap.size := by omega
  have qwb0 := Hwbv8.out.c0
  have qwb1 := Hwbv8.out.c1
  have qwb2 := Hwbv8.out.c2
  go_wp2_with fail
  clear qwb0 qwb1 qwb2
  refine calls_at (fun V => (v8.heap.size < V.heap.size) ∧ (Below w.heap.size w V) ∧ (RdR V (· < v1.heap.size) X Y wA wc wB wd) ∧ (RatAt V v1.heap.size 26 N wA X.length wc wB Y.length wd) ∧ (RatAt V v3.heap.size 26 N gA X.length gc gB Y.length gd) ∧ (RdR V (fun _ => True) (marks 1 X.length) (marks (1 + X.length) Y.length) gA gc gB gd) ∧ (RdR V (fun _ => True) X Y hA hc hB hd) ∧ (RatAt V v8.heap.size 26 N hA X.length hc hB Y.length hd))
    ⟨by simp, below_on HBv8.out (below1 _ _), HWv8.out.on (below1 _ _), Hwbv8.out.on (below1 _ _), Hgbv8.out.on (below1 _ _), HMv8.out.on (below1 _ _), HHv8.out.on (below1 _ _), RatAt.new _ _ _ _ _ _ _ _ _⟩ ?_
  rintro v9 ⟨sv9, pB, pW, pwb, pgb, pM, pH, phb⟩
  have HBv9 := Lib.hid pB
  have HWv9 := Lib.hid pW
  have Hwbv9 := Lib.hid pwb
  have Hgbv9 := Lib.hid pgb
  have HMv9 := Lib.hid pM
  have HHv9 := Lib.hid pH
  have Hhbv9 := Lib.hid phb
  clear pB pW pwb pgb pM pH phb HBv8 HWv8 Hwbv8 Hgbv8 HMv8 HHv8
  refine (eqRat_same N hA hB wA wB hc hd wc wd X Y _ _ v9 HHv9.out HWv9.out (by omega) (by omega)).mono ?_
  rintro e v10 ⟨rfl, bb⟩
  have sv10 : v9.heap.size ≤ v10.heap.size := bb.size
  have HBv10 := Lib.hid (below_on HBv9.out bb)
  have HWv10 := Lib.hid (HWv9.out.on bb)
  have Hwbv10 := Lib.hid (Hwbv9.out.on bb)
  have Hgbv10 := Lib.hid (Hgbv9.out.on bb)
  have HMv10 := Lib.hid (HMv9.out.on bb)
  have HHv10 := Lib.hid (HHv9.out.on bb)
  have Hhbv10 := Lib.hid (Hhbv9.out.on bb)
  clear bb HBv9 HWv9 Hwbv9 Hgbv9 HMv9 HHv9 Hhbv9
  have qgb0 := Hgbv10.out.c0
  have qgb1 := Hgbv10.out.c1
  have qgb2 := Hgbv10.out.c2
  go_wp2_with fail
  clear qgb0 qgb1 qgb2
  refine (heldRat_any N gA gB gc gd _ _ 1 _ v10 HMv10.out (by omega) (by omega) (by omega) (by omega)).mono ?_
  rintro e v11 ⟨rfl, bb⟩
  have sv11 : v10.heap.size ≤ v11.heap.size := bb.size
  have HBv11 := Lib.hid (below_on HBv10.out bb)
  have HWv11 := Lib.hid (HWv10.out.on bb)
  have Hwbv11 := Lib.hid (Hwbv10.out.on bb)
  have Hgbv11 := Lib.hid (Hgbv10.out.on bb)
  have HMv11 := Lib.hid (HMv10.out.on bb)
  have HHv11 := Lib.hid (HHv10.out.on bb)
  have Hhbv11 := Lib.hid (Hhbv10.out.on bb)
  clear bb HBv10 HWv10 Hwbv10 Hgbv10 HMv10 HHv10 Hhbv10
  go_wp2
  go_ret
  exact ⟨rfl, HBv11.out⟩

theorem lawMakeRat_any (n d : Int) (w : World) (hn : (Lit.int .i64 n).wf = true) (hd : (Lit.int .i64 d).wf = true) (ad : Addr) (hE : ErrAt 99 w ad) :
    Calls Tryd.prog 4 #[.int .i64 n, .int .i64 d] w fun e w' => e = .returned (.bool true) ∧ Below w.heap.size w w' := by
  clear hn hd
  by_cases h : -1000000000 ≤ n ∧ n ≤ 1000000000 ∧ -1000000000 ≤ d ∧ d ≤ 1000000000
  · obtain ⟨h1, h2, h3, h4⟩ := h
    by_cases h0 : d = 0
    · exact lawMakeRat_core false [] [] 9 n d w (by decide) (by decide) (fun W => specMakeRat_zero n d W h1 h2 h3 h4 h0) (fun W hB => implMakeRat_zero n d W h1 h2 h3 h4 h0 ad (hE.on hB))
    · have z1 := fX_len (mkRat n 1 / mkRat d 1)
      have z2 := fY_len (mkRat n 1 / mkRat d 1)
      exact lawMakeRat_core _ _ _ _ n d w (by omega) (by omega) (fun W => specMakeRat_ok n d W h1 h2 h3 h4 h0) (fun W hB => implMakeRat_ok n d W h1 h2 h3 h4 h0 ad (hE.on hB))
  · exact lawMakeRat_core false [] [] 4 n d w (by decide) (by decide) (fun W => specMakeRat_range n d W h) (fun W hB => implMakeRat_range n d W h)
end Go.Proofs.YtbheljjcchaglaaDoor
