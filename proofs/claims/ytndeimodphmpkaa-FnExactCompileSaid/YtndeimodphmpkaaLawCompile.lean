/-
  The law FnExactCompile: whatever the expression, Compile answers as its model, writes into no argument, and what it answers is memory of its own. No condition.
-/
import Derived.Test.YtndeimodphmpkaaImplCompile
import Derived.Test.YtndeimodphmpkaaSpecCompile
import Derived.Test.YtndeimodphmpkaaNodeMark
import Derived.ProofKit
import Derived.OpenShut
import Derived.ShutString
import Derived.ChangeOld
namespace Go.Proofs.Ytndeimodphmpkaa
open Go Go.RowKit Nt
open Go.ChangeShapes Go.WideShapes Go.ChangeAt
open Go.ChangeMaps (open_string shut_string)

set_option maxRecDepth 20000 in
set_option maxHeartbeats 6400000 in
theorem lawCompile_core (ms : List Nd) (o code : Int) (A0 : Option Addr) (n c : Nat) (ns : List Nd) (w : World) (hm : ms.length ≤ 60)
    (hS : ∀ (A : Option Addr) (c : Nat) (W : World), RdN W (fun _ => True) A n c ns → Calls Try.prog 16 #[.agg #[.slice A n c]] W fun e W' => ∃ V cv, e = .returned (.tuple #[.agg #[.slice V ms.length cv, .int .i64 o], .int .i64 code]) ∧ RdN W' (fun _ => True) V ms.length cv ms ∧ Below W.heap.size W W')
    (hI : ∀ (A : Option Addr) (c : Nat) (W : World), RdN W (fun _ => True) A n c ns → Calls Try.prog 18 #[.agg #[.slice A n c]] W fun e W' => ∃ V cv, e = .returned (.tuple #[.agg #[.slice V ms.length cv, .int .i64 o], .int .i64 code]) ∧ MineN W' W.heap.size 30 V ms.length cv ms ∧ Below W.heap.size W W')
    (hr0 : RdN w (· < w.heap.size) A0 n c ns) (hc : n ≤ 1048576) :
    Calls Try.prog 5 #[.agg #[.slice A0 n c]] w fun e w' => e = .returned (.bool true) ∧ Below w.heap.size w w' := by
  have HSP := Lib.hid hS
  have HIM := Lib.hid hI
  have HR := Lib.hid hr0
  clear hr0 hS hI
  have hcc : (code != code) = false := by simp
  obtain ⟨M, hM⟩ : ∃ M, ms.length = M := ⟨_, rfl⟩
  rw [hM] at hm HSP HIM
  have HMM := Lib.hid hM
  clear hM
  go_enter Try.func5, Try.ntmps5
  go_wp2_with fail
  refine calls_atN (fun v => SlAt v w.heap.size 42 A0 n c ∧ Below w.heap.size w v ∧ w.heap.size < v.heap.size) ⟨SlAt.new _ _ _ _ _, below_one _ _, by simp⟩ ?_
  rintro v0 ⟨pS, pB, sz0⟩
  have HS := Lib.hid pS
  have HB := Lib.hid pB
  clear pS pB
  refine (szExpr_any A0 n c 1048576 v0 (by omega) (by omega) (by omega)).mono ?_
  rintro e v1 ⟨rfl, bb⟩
  have sz1 := Nat.lt_of_lt_of_le sz0 bb.size
  replace HS := Lib.hid (HS.out.on bb)
  replace HB := Lib.hid (belowN_on HB.out bb)
  clear bb sz0
  have hf : ¬ (1048576 : Int) < n := by omega
  rw [show szN 1048576 n = 1048576 - (n : Int) from if_neg hf]
  have hp : 0 ≤ 1048576 - (n : Int) := by omega
  have s0 := HS.out.c0
  go_wp2_with fail
  clear s0 hf
  refine (toExpr_any A0 n c ns v1 ((HR.out.below HB.out).mono fun _ h _ => Nat.lt_of_lt_of_le h HB.out.size) hc).mono ?_
  rintro e v2 ⟨B, d, rfl, oo, bb⟩
  have sz2 := Nat.lt_of_lt_of_le sz1 bb.size
  replace HS := Lib.hid (HS.out.on bb)
  replace HB := Lib.hid (belowN_on HB.out bb)
  have HT := Lib.hid oo.all
  clear oo bb sz1
  go_wp2_with fail
  refine (HSP.out B d v2 HT.out).mono ?_
  rintro e v3 ⟨wV, wd, rfl, oo, bb⟩
  have sz3 := Nat.lt_of_lt_of_le sz2 bb.size
  replace HS := Lib.hid (HS.out.on bb)
  replace HB := Lib.hid (belowN_on HB.out bb)
  have HW := Lib.hid oo.low
  clear bb HT oo sz2
  have s0 := (HS.out.on (below_one v3 (.cells #[.slice wV M wd, .int .i64 o] 45))).c0
  go_wp2_with fail
  clear s0
  refine calls_atN (fun v => SlAt v w.heap.size 42 A0 n c ∧ TpAt v v3.heap.size 45 wV M wd o ∧ RdN v (· < v3.heap.size) wV M wd ms ∧ Below w.heap.size w v ∧ v3.heap.size < v.heap.size) ⟨HS.out.on (below_one _ _), TpAt.new _ _ _ _ _ _, HW.out.on (below_one _ _), belowN_on HB.out (below_one _ _), by simp⟩ ?_
  rintro v4 ⟨pS, pT, pW, pB, sz4⟩
  replace HS := Lib.hid pS
  have HWB := Lib.hid pT
  replace HW := Lib.hid pW
  replace HB := Lib.hid pB
  clear pS pT pW pB
  refine (toExpr_own A0 n c ns v4 ((HR.out.below HB.out).mono fun _ h _ => Nat.lt_of_lt_of_le h HB.out.size) hc).mono ?_
  rintro e v5 ⟨X, x, rfl, oo, bb⟩
  have sz5 := bb.size
  replace HS := Lib.hid (HS.out.on bb)
  replace HWB := Lib.hid (HWB.out.on bb)
  replace HW := Lib.hid (HW.out.on bb)
  replace HB := Lib.hid (belowN_on HB.out bb)
  have HX := Lib.hid oo
  clear oo bb
  have HXR := Lib.hid HX.out.row
  go_wp2_with fail
  refine calls_atN (fun v => SlAt v w.heap.size 42 A0 n c ∧ TpAt v v3.heap.size 45 wV M wd o ∧ RdN v (· < v3.heap.size) wV M wd ms ∧ MineN v v4.heap.size 30 X n x ns ∧ SlAt v v5.heap.size 25 X n x ∧ Below w.heap.size w v ∧ v5.heap.size < v.heap.size) ⟨HS.out.on (below_one _ _), HWB.out.on (below_one _ _), HW.out.on (below_one _ _), HX.out.on (below_one _ _), SlAt.new _ _ _ _ _, belowN_on HB.out (below_one _ _), by simp⟩ ?_
  rintro v6 ⟨pS, pT, pW, pX, pXB, pB, sz6⟩
  replace HS := Lib.hid pS
  replace HWB := Lib.hid pT
  replace HW := Lib.hid pW
  replace HX := Lib.hid pX
  have HXB := Lib.hid pXB
  replace HB := Lib.hid pB
  clear pS pT pW pX pXB pB
  refine (HIM.out X x v6 HX.out.1.all).mono ?_
  rintro e v7 ⟨G, g, rfl, oo, bb⟩
  have sz7 := bb.size
  replace HS := Lib.hid (HS.out.on bb)
  replace HWB := Lib.hid (HWB.out.on bb)
  replace HW := Lib.hid (HW.out.on bb)
  replace HX := Lib.hid (HX.out.on bb)
  replace HXB := Lib.hid (HXB.out.on bb)
  replace HB := Lib.hid (belowN_on HB.out bb)
  have HG := Lib.hid oo
  clear oo bb
  have HGR := Lib.hid HG.out.row
  have t0 := (HWB.out.on (below_one v7 (.cells #[.slice G M g, .int .i64 o] 45))).c0
  have t1 := (HWB.out.on (below_one v7 (.cells #[.slice G M g, .int .i64 o] 45))).c1
  go_wp2_with fail
  clear t0 t1
  refine calls_atN (fun v => SlAt v w.heap.size 42 A0 n c ∧ TpAt v v3.heap.size 45 wV M wd o ∧ RdN v (· < v3.heap.size) wV M wd ms ∧ MineN v v4.heap.size 30 X n x ns ∧ SlAt v v5.heap.size 25 X n x ∧ MineN v v6.heap.size 30 G M g ms ∧ TpAt v v7.heap.size 45 G M g o ∧ Below w.heap.size w v ∧ v7.heap.size < v.heap.size) ⟨HS.out.on (below_one _ _), HWB.out.on (below_one _ _), HW.out.on (below_one _ _), HX.out.on (below_one _ _), HXB.out.on (below_one _ _), HG.out.on (below_one _ _), TpAt.new _ _ _ _ _ _, belowN_on HB.out (below_one _ _), by simp⟩ ?_
  rintro v8 ⟨pS, pT, pW, pX, pXB, pG, pGB, pB, sz8⟩
  replace HS := Lib.hid pS
  replace HWB := Lib.hid pT
  replace HW := Lib.hid pW
  replace HX := Lib.hid pX
  replace HXB := Lib.hid pXB
  replace HG := Lib.hid pG
  have HGB := Lib.hid pGB
  replace HB := Lib.hid pB
  clear pS pT pW pX pXB pG pGB pB
  refine (eqTape_same G wV M g wd ms o _ _ v8 HG.out.1 HW.out (by omega)).mono ?_
  rintro e v9 ⟨rfl, bb⟩
  have sz9 := bb.size
  replace HS := Lib.hid (HS.out.on bb)
  replace HWB := Lib.hid (HWB.out.on bb)
  replace HW := Lib.hid (HW.out.on bb)
  replace HX := Lib.hid (HX.out.on bb)
  replace HXB := Lib.hid (HXB.out.on bb)
  replace HG := Lib.hid (HG.out.on bb)
  replace HGB := Lib.hid (HGB.out.on bb)
  replace HB := Lib.hid (belowN_on HB.out bb)
  clear bb
  go_wp2_with fail
  have HC := Lib.hid (show _ ∧ _ from ⟨HS.out.c0, HXB.out.c0⟩)
  go_region_held3 (fun wx => wx.cell? ⟨w.heap.size, 0, none⟩ = some (.slice A0 n c) ∧ wx.cell? ⟨v5.heap.size, 0, none⟩ = some (.slice X n x))
    (first | exact HC.out | exact HC1.out | exact HC2.out)
    (first
      | (go_at_call 17; refine (toExpr_any A0 n c ns _ (by exact ((HR.out.below HB.out).mono (Q := (· < v9.heap.size)) fun _ h _ => Nat.lt_of_lt_of_le h HB.out.size).drew) hc).mono ?_; rintro e v10 ⟨Y, y, rfl, oo, bb⟩; have bb := undrewN bb; have sza := bb.size; have HSa := Lib.hid (HS.out.on bb); have HWBa := Lib.hid (HWB.out.on bb); have HWa := Lib.hid (HW.out.on bb); have HXa := Lib.hid (HX.out.on bb); have HXBa := Lib.hid (HXB.out.on bb); have HGa := Lib.hid (HG.out.on bb); have HGBa := Lib.hid (HGB.out.on bb); have HBa := Lib.hid (belowN_on HB.out bb); have HZ := Lib.hid oo.all; have HC1 := Lib.hid (show _ ∧ _ from ⟨HSa.out.c0, HXBa.out.c0⟩); clear oo bb)
      | (go_at_call 20; refine (eqExpr_same X Y n x y ns _ _ _ (by exact HXa.out.1) (by exact HZ.out) hc).mono ?_; rintro e v11 ⟨rfl, bb⟩; have szb := bb.size; have HSb := Lib.hid (HSa.out.on bb); have HWBb := Lib.hid (HWBa.out.on bb); have HWb := Lib.hid (HWa.out.on bb); have HXb := Lib.hid (HXa.out.on bb); have HXBb := Lib.hid (HXBa.out.on bb); have HGb := Lib.hid (HGa.out.on bb); have HGBb := Lib.hid (HGBa.out.on bb); have HBb := Lib.hid (belowN_on HBa.out bb); have HC2 := Lib.hid (show _ ∧ _ from ⟨HSb.out.c0, HXBb.out.c0⟩); clear bb))
  clear HC HC1 HC2 HSa HWBa HWa HXa HXBa HGa HGBa HBa HZ HS HWB HW HX HXB HG HGB HB
  have y0 := HXBb.out.c0
  go_wp2_with fail
  clear y0
  refine (markExpr_any X n x ns 1 v4.heap.size v11 HXb.out hc (by omega)).mono ?_
  rintro e v12 ⟨rfl, hMX, hgX⟩
  have hlt : v5.heap.size ≤ v11.heap.size := by omega
  obtain ⟨kz, kk⟩ := mark_keep hgX HXR.out
  have HS := Lib.hid (show SlAt v12 w.heap.size 42 A0 n c from (kk _ HSb.out.lt (by omega)).trans HSb.out)
  have HWB := Lib.hid (show TpAt v12 v3.heap.size 45 wV M wd o from (kk _ HWBb.out.lt (by omega)).trans HWBb.out)
  have HW := Lib.hid (HWb.out.keep kz fun b hb hl => kk b hl (by omega))
  have HG := Lib.hid (HGb.out.keep kz fun b hb hl => kk b hl (by omega))
  have HGB := Lib.hid (show TpAt v12 v7.heap.size 45 G M g o from (kk _ HGBb.out.lt (by omega)).trans HGBb.out)
  have HB := Lib.hid (HBb.out.trans ((mark_below hgX HXR.out (by omega)).mono (by omega)))
  clear kk hgX hMX HSb HWBb HWb HXb HXBb HGb HGBb HBb
  have hkp : 0 ≤ ((1 + 4 * n : Nat) : Int) := by omega
  generalize ((1 + 4 * n : Nat) : Int) = kq at *
  have t0 := HWB.out.c0
  have t1 := HWB.out.c1
  have g0 := HGB.out.c0
  have g1 := HGB.out.c1
  go_wp2_with fail
  clear t0 t1 g0 g1
  refine (eqTape_same G wV M g wd ms o _ _ v12 HG.out.1 HW.out (by omega)).mono ?_
  rintro e v13 ⟨rfl, bb⟩
  have sz13 := bb.size
  replace HS := Lib.hid (HS.out.on bb)
  replace HWB := Lib.hid (HWB.out.on bb)
  replace HW := Lib.hid (HW.out.on bb)
  replace HG := Lib.hid (HG.out.on bb)
  replace HGB := Lib.hid (HGB.out.on bb)
  replace HB := Lib.hid (belowN_on HB.out bb)
  clear bb
  have g0 := HGB.out.c0
  have g1 := HGB.out.c1
  go_wp2_with fail
  clear g0 g1
  refine (markTape_any G M g ms o 1 v6.heap.size v13 HG.out (by omega) (by omega)).mono ?_
  rintro e v14 ⟨rfl, hMG, hgG⟩
  obtain ⟨kz2, kk⟩ := mark_keep hgG HGR.out
  replace HS := Lib.hid (show SlAt v14 w.heap.size 42 A0 n c from (kk _ HS.out.lt (by omega)).trans HS.out)
  replace HWB := Lib.hid (show TpAt v14 v3.heap.size 45 wV M wd o from (kk _ HWB.out.lt (by omega)).trans HWB.out)
  replace HW := Lib.hid (HW.out.keep kz2 fun b hb hl => kk b hl (by omega))
  replace HGB := Lib.hid (show TpAt v14 v7.heap.size 45 G M g o from (kk _ HGB.out.lt (by omega)).trans HGB.out)
  replace HB := Lib.hid (HB.out.trans ((mark_below hgG HGR.out (by omega)).mono (by omega)))
  replace HG := Lib.hid hMG.1.all
  clear kk hgG hMG
  have hq0 : 0 ≤ ((1 + 4 * M : Nat) : Int) := by omega
  have hqq : (((1 + 4 * M : Nat) : Int) != ((1 + 4 * M : Nat) : Int)) = false := by simp
  generalize hQ : ((1 + 4 * M : Nat) : Int) = Qm at *
  have HQM := Lib.hid hQ
  clear hQ
  have g0 := HGB.out.c0
  have g1 := HGB.out.c1
  go_wp2_with fail
  clear g0 g1
  refine (heldTape_any G M g o 1 _ v14 HG.out (by omega) (by omega)).mono ?_
  rintro e v15 ⟨rfl, bb⟩
  rw [HQM.out]
  replace HS := Lib.hid (HS.out.on bb)
  replace HWB := Lib.hid (HWB.out.on bb)
  replace HW := Lib.hid (HW.out.on bb)
  replace HG := Lib.hid (HG.out.on bb)
  replace HGB := Lib.hid (HGB.out.on bb)
  replace HB := Lib.hid (belowN_on HB.out bb)
  clear bb
  have s0 := HS.out.c0
  go_wp2_with fail
  clear s0
  refine (toExpr_any A0 n c ns v15 ((HR.out.below HB.out).mono fun _ h _ => Nat.lt_of_lt_of_le h HB.out.size) hc).mono ?_
  rintro e v16 ⟨Y2, y2, rfl, oo, bb⟩
  replace HWB := Lib.hid (HWB.out.on bb)
  replace HW := Lib.hid (HW.out.on bb)
  replace HG := Lib.hid (HG.out.on bb)
  replace HGB := Lib.hid (HGB.out.on bb)
  replace HB := Lib.hid (belowN_on HB.out bb)
  have HT := Lib.hid oo.all
  clear oo bb HS
  go_wp2_with fail
  refine (HIM.out Y2 y2 v16 HT.out).mono ?_
  rintro e v17 ⟨H, h, rfl, oo, bb⟩
  replace HWB := Lib.hid (HWB.out.on bb)
  replace HW := Lib.hid (HW.out.on bb)
  replace HG := Lib.hid (HG.out.on bb)
  replace HGB := Lib.hid (HGB.out.on bb)
  replace HB := Lib.hid (belowN_on HB.out bb)
  have HH := Lib.hid oo.1.all
  clear oo bb HT
  have t0 := (HWB.out.on (below_one v17 (.cells #[.slice H M h, .int .i64 o] 45))).c0
  have t1 := (HWB.out.on (below_one v17 (.cells #[.slice H M h, .int .i64 o] 45))).c1
  go_wp2_with fail
  clear t0 t1
  refine calls_atN (fun v => RdN v (· < v3.heap.size) wV M wd ms ∧ RdN v (fun _ => True) G M g (markN 1 M) ∧ TpAt v v7.heap.size 45 G M g o ∧ RdN v (fun _ => True) H M h ms ∧ Below w.heap.size w v) ⟨HW.out.on (below_one _ _), HG.out.on (below_one _ _), HGB.out.on (below_one _ _), HH.out.on (below_one _ _), belowN_on HB.out (below_one _ _)⟩ ?_
  rintro v18 ⟨pW, pG, pGB, pH, pB⟩
  replace HG := Lib.hid pG
  replace HGB := Lib.hid pGB
  replace HB := Lib.hid pB
  clear pG pGB pB
  refine (eqTape_same H wV M h wd ms o _ _ v18 pH pW (by omega)).mono ?_
  rintro e v19 ⟨rfl, bb⟩
  replace HG := Lib.hid (HG.out.on bb)
  replace HGB := Lib.hid (HGB.out.on bb)
  replace HB := Lib.hid (belowN_on HB.out bb)
  clear bb pH pW
  have g0 := HGB.out.c0
  have g1 := HGB.out.c1
  go_wp2_with fail
  clear g0 g1
  refine (heldTape_any G M g o 1 _ v19 HG.out (by omega) (by omega)).mono ?_
  rintro e v20 ⟨rfl, bb⟩
  rw [HQM.out]
  replace HB := Lib.hid (belowN_on HB.out bb)
  clear bb
  go_wp2
  go_ret
  exact ⟨rfl, HB.out⟩

set_option maxHeartbeats 1600000 in
theorem lawCompile_any (A0 : Option Addr) (n c : Nat) (ns : List Nd) (w : World) (hr0 : RdN w (· < w.heap.size) A0 n c ns) (hn0 : n ≤ 9223372036854775807) :
    Calls Try.prog 5 #[.agg #[.slice A0 n c]] w fun e w' => e = .returned (.bool true) ∧ Below w.heap.size w w' := by
  by_cases hb : 1048576 < n
  · clear hr0
    go_enter Try.func5, Try.ntmps5
    go_wp2_with fail
    refine calls_atN (fun v => Below w.heap.size w v) (below_one _ _) ?_
    intro v0 pB
    have HB := Lib.hid pB
    clear pB
    refine (szExpr_any A0 n c 1048576 v0 hn0 (by omega) (by omega)).mono ?_
    rintro e v1 ⟨rfl, bb⟩
    replace HB := Lib.hid (belowN_on HB.out bb)
    clear bb
    rw [show szN 1048576 n = -1 from if_pos (by omega)]
    go_wp2
    go_ret
    exact ⟨rfl, HB.out⟩
  have hc : n ≤ 1048576 := by omega
  have hl := hr0.len
  cases hok : okE ns with
  | false =>
    refine lawCompile_core [] 0 1 A0 n c ns w (by simp) (fun A c W hR => (specCompile_any A n c ns _ W hR hc).mono ?_) (fun A c W hR => (implCompile_any A n c ns _ W hR hc).mono ?_) hr0 hc
    · rintro e W' ⟨hB, ⟨_, rfl⟩ | ⟨h, _⟩⟩
      · exact ⟨none, 0, rfl, (MineN.nil W' 0 0).1.all, hB⟩
      · rw [hok] at h; cases h
    · rintro e W' ⟨hB, ⟨_, rfl⟩ | ⟨h, _⟩⟩
      · exact ⟨none, 0, rfl, MineN.nil _ _ _, hB⟩
      · rw [hok] at h; cases h
  | true =>
    have h60 := okE_out hok
    have hcl := (comp_ok ns ns.length (Nat.le_refl _)).len1
    rw [List.take_length] at hcl
    refine lawCompile_core (comp ns).1 (((comp ns).1.length : Int) - 1) 0 A0 n c ns w (by omega) (fun A c W hR => (specCompile_any A n c ns _ W hR hc).mono ?_) (fun A c W hR => (implCompile_any A n c ns _ W hR hc).mono ?_) hr0 hc
    · rintro e W' ⟨hB, ⟨h, _⟩ | ⟨_, V, cv, rfl, hm⟩⟩
      · rw [hok] at h; cases h
      · exact ⟨V, cv, rfl, hm.all, hB⟩
    · rintro e W' ⟨hB, ⟨h, _⟩ | ⟨_, V, cv, rfl, hm⟩⟩
      · rw [hok] at h; cases h
      · exact ⟨V, cv, rfl, hm, hB⟩

theorem own_fnExactCompile : ownKnob Try.prog.godebug = none := by kernel_rfl
theorem laidOut_fnExactCompile : laidOutB Try.prog = true := by kernel_rfl
set_option maxRecDepth 100000 in
set_option linter.unusedVariables false in
theorem fnExactCompile_lifted (os : Os) (started : os.Started) (H : Type) (enc : TypeId × Value → H) :
    ReturnsInHanded {} Try.checked os 5 .any (Rows.fnExactCompileSpec.pre6 enc Try.prog Try.f5 Rows.fnExactCompileRow.domain false) (Rows.fnExactCompileSpec.post enc Try.prog Try.f5 false true false false) := by
  refine returnsInHanded_of_change (C := Try.checked) own_fnExactCompile started (by kernel_rfl) Try.func5
    (ChangeSpec.witness6 (enc := enc) (C := Try.checked) false ⟨#[], #[.agg #[.slice none 0 0]], []⟩ 8 (by kernel_rfl) (by kernel_rfl) (by kernel_rfl) (by kernel_rfl)) ?_
  intro W base args ds gs before hval0 hW hcnd _
  have hval : ∀ (j : Nat) t v, Try.f5.params[j]? = some t → args[j]? = some v → Value.okWide Try.prog W .any base t v := hval0
  have hW' := hW
  obtain ⟨p, q, hA0, hV, rfl, hfz, hnd⟩ := hW
  have hA : DataW.TrodAll enc Try.prog W 0 (fun _ => true) true Try.f5.params.toList args.toList ds p := hA0
  rw [Try.params5] at hA hval
  obtain ⟨v0, vs0, d0, ds0, p0, q0, hargs, rfl, rfl, h0, r0⟩ := trodAll_cons hA
  obtain ⟨rfl, rfl, rfl⟩ := trodAll_nil r0
  obtain rfl : args = #[v0] := by cases args; simp_all
  obtain ⟨rfl, rfl⟩ := trodVars_none hV
  have k0 := h0
  have lt0 : ∀ x ∈ p0, x.block < W.heap.size := by obtain ⟨m, hm⟩ := k0; exact DataW.trod_lt m _ _ _ hm
  obtain ⟨a0, len0, cap0, z0, rfl, w0, l0⟩ := open_expr Try.underlying42 (by kernel_rfl) (by kernel_rfl) Try.underlying40 Try.underlying127 (by kernel_rfl) (by kernel_rfl) Try.underlying3 Try.underlying3 Try.underlying3 Try.underlying3 (hval 0 42 v0 rfl rfl) h0
  clear hA0 hval0
  refine (lawCompile_any a0 len0 cap0 z0 W w0 l0).mono fun e W' ⟨he, bel⟩ => ?_
  subst he
  exact ⟨_, rfl, _, _, _, [], _, [], hW', trodAll_mk1 (shut_bool Try.underlying4 _), (trodAll_cons_mk (Below.trod laidOut_fnExactCompile (by kernel_rfl) (of_decide_eq_true (by kernel_rfl)) k0 bel lt0) trodAll_mk0), rfl, bel.frame _, fun h => by cases h⟩

theorem fnExactCompile_over : Rows.fnExactCompileRow.holds Try.pinned (OpenSpec.ofChange Rows.fnExactCompileSpec) :=
  OpenClaim.holds_of_wide 5 Try.f5 rfl rfl rfl rfl rfl rfl rfl ⟨rfl, rfl, rfl, rfl, rfl⟩ rfl rfl rfl rfl rfl (by kernel_rfl) Try.func5 (by kernel_rfl)
    (of_decide_eq_true (by kernel_rfl)) (by unfold Func.isWrapper; first | (rw [if_pos (by decide +kernel)]; kernel_rfl) | (rw [if_neg (by decide +kernel)]; exact ⟨rfl, rfl⟩))
    (fun os started H enc _ => fnExactCompile_lifted os started H enc)

theorem fnExactCompile_holds : Rows.FnExactCompileSaid := fnExactCompile_over

end Go.Proofs.Ytndeimodphmpkaa
