/-
  What is asked of a place and one way: pointCode and placeCode of the program.
-/
import Derived.Test.YtifepoefeamboaaGreatDoorImplValueOf
import Derived.Test.YtifepoefeamboaaGreatDoorPlaceWay
namespace Go.Proofs.YtifepoefeamboaaGreatDoor
open Go Go.RowKit Nt

set_option maxHeartbeats 3200000 in
/-- what is asked of a point and one way -/
theorem pointCode_one (right : Bool) (ns : List Nd) (A X Y : Option Addr) (g n c m d mv dv : Nat) (rs sv : List R3) (P P' P2 : Nat → Prop) (w : World) (hr : RdN w P A n c ns) (hx : RdS w P' X m d rs) (hy : RdS w P2 Y mv dv sv) (hsm : Small rs) (hsv : Small sv) (hm : m ≤ 1048576) (hmv : mv ≤ 1048576)
    (hg : g < w.heap.size) (hc : w.cell? ⟨g, 0, none⟩ = some (.slice Y mv dv))
    (hok : right = true → (∀ j, j < ns.length → fitN (ns.getD j nd0) = true) ∧ 1 ≤ n ∧ n ≤ 60) :
    Calls Tryz.prog 69 #[.bool right, .slice A n c, .slice X m d, .slice (some ⟨g, 0, none⟩) 1 1] w fun e w' => e = .returned (.int .i64 (ptCode1 right ns m mv rs sv)) ∧ Below w.heap.size w w' := by
  have HR := Lib.hid (hr.mono (Q := (· < w.heap.size)) fun _ _ h => h)
  have HX := Lib.hid hx.low
  have HY := Lib.hid hy.low
  have HS := Lib.hid hsm
  have HSV := Lib.hid hsv
  have HK := Lib.hid hok
  have HC0 := Lib.hid hc
  clear hr hx hy hsm hsv hok hc
  go_enter Tryz.func69, Tryz.ntmps69
  go_wp2_with fail
  refine calls_at (fun W => Below w.heap.size w W ∧ W.cell? ⟨w.heap.size, 0, none⟩ = some (.slice X m d)) ⟨below1 _ _, by rw [cell_of_row _ _ 0 _ _ (0, 0) (heap_alloc_new w _)]; rfl⟩ ?_
  rintro W ⟨bW, cW⟩
  have HB := Lib.hid bW
  refine (anyLongRat_any w.heap.size 1 (fun _ => X) (fun _ => m) (fun _ => d) W (by omega) (at0 (p := fun i => W.cell? ⟨w.heap.size, i, none⟩ = some (.slice X m d)) cW) (fun _ _ => hm)).mono ?_
  rintro e w1 ⟨rfl, rfl⟩
  have e1 : ((List.range 1).any fun _ => decide (4096 < m)) = decide (4096 < m) := by simp [List.range_succ]
  rw [e1]
  clear cW e1 bW
  by_cases h1 : 4096 < m
  · rw [decide_eq_true h1]
    go_wp2
    refine bodyPost_ret (results_tmp rfl _ _ _) rfl ⟨by simp [ptCode1, h1], HB.out⟩
  rw [decide_eq_false h1]
  have H1 := Lib.hid h1
  clear h1
  have e1 : ((List.range 1).any fun _ => decide (4096 < mv)) = decide (4096 < mv) := by simp [List.range_succ]
  have HL := Lib.hid (anyLongRat_any g 1 (fun _ => Y) (fun _ => mv) (fun _ => dv) W (by omega) (at0 (p := fun i => W.cell? ⟨g, i, none⟩ = some (.slice Y mv dv)) ((HB.out.cell (p := ⟨g, 0, none⟩) hg).trans HC0.out)) (fun _ _ => hmv))
  rw [e1] at HL
  clear e1
  by_cases h2 : 4096 < mv
  · have HC : Hid (ptCode1 right ns m mv rs sv = 2) := Lib.hid (by simp [ptCode1, h2])
    rw [decide_eq_true h2] at HL
    clear h2
    go_wp2_with (go_at_call 98; refine HL.out.mono ?_; rintro e w2 ⟨rfl, rfl⟩)
    refine bodyPost_ret (results_tmp rfl _ _ _) rfl ⟨by rw [HC.out]; rfl, HB.out⟩
  rw [decide_eq_false h2] at HL
  have H2 := Lib.hid h2
  clear h2
  go_upto_region 3 with (go_at_call 98; refine HL.out.mono ?_; rintro e w2 ⟨rfl, rfl⟩)
  clear HL
  cases right with
  | false =>
    have HC : Hid (ptCode1 false ns m mv rs sv = 1) := Lib.hid (by simp [ptCode1, H1.out, H2.out])
    go_wp2
    refine bodyPost_ret (results_tmp rfl _ _ _) rfl ⟨by rw [HC.out]; rfl, HB.out⟩
  | true =>
    obtain ⟨hf, hn1, hn60⟩ := HK.out rfl
    go_wp2_with fail
    refine (implVecOK_any X m d rs _ _ (HX.out.below HB.out) HS.out hm).mono ?_
    rintro e w2 ⟨rfl, b2⟩
    have HB2 := Lib.hid (below_on HB.out b2)
    clear b2
    cases hv : okV rs with
    | false =>
      have HC : Hid (ptCode1 true ns m mv rs sv = 1) := Lib.hid (by simp [ptCode1, H1.out, H2.out, hv])
      clear hv
      go_wp2
      refine bodyPost_ret (results_tmp rfl _ _ _) rfl ⟨by rw [HC.out]; rfl, HB2.out⟩
    | true =>
      have HC : Hid (ptCode1 true ns m mv rs sv = if (m : Int) < dimE ns then 8 else askV m mv rs sv) := Lib.hid (by simp [ptCode1, H1.out, H2.out, hv])
      clear hv
      go_wp2_with fail
      refine (axesOf_any A n c ns _ w2 (HR.out.below HB2.out) hf hn1 hn60).mono ?_
      rintro e w3 ⟨rfl, b3⟩
      have HB3 := Lib.hid (below_on HB2.out b3)
      clear b3
      generalize dimE ns = D at *
      by_cases h8 : (m : Int) < D
      · have HC2 : Hid (ptCode1 true ns m mv rs sv = 8) := Lib.hid (by rw [HC.out, if_pos h8])
        go_wp2
        refine bodyPost_ret (results_tmp rfl _ _ _) rfl ⟨by rw [HC2.out]; rfl, HB3.out⟩
      · have HC2 : Hid (ptCode1 true ns m mv rs sv = askV m mv rs sv) := Lib.hid (by rw [HC.out, if_neg h8])
        clear HC
        have c0 := (HB3.out.cell (p := ⟨g, 0, none⟩) hg).trans HC0.out
        have HX3 := Lib.hid (HX.out.below HB3.out)
        have HY3 := Lib.hid (HY.out.below HB3.out)
        have HV := Lib.hid (vecCode_any w3.heap.size 2 (fun i => if i = 0 then X else Y) (fun i => if i = 0 then m else mv) (fun i => if i = 0 then d else dv) (fun i => if i = 0 then rs else sv) (w3.alloc (.cells #[.slice X m d, .slice Y mv dv] 27)) (by omega) (by omega) (by simp)
          (fun i hi => by
            rw [two_cellsW w3 27 (.slice X m d) (.slice Y mv dv) i hi]
            by_cases e : i = 0 <;> simp [e])
          (fun i hi => by
            by_cases e : i = 0
            · simp only [e, if_true]; exact (HX3.out.on (below1 _ _)).low
            · simp only [e, if_false]; exact (HY3.out.on (below1 _ _)).low)
          (fun i hi => by
            by_cases e : i = 0
            · simp only [e, if_true]; exact HS.out
            · simp only [e, if_false]; exact HSV.out)
          (fun i hi => by by_cases e : i = 0 <;> simp only [e, if_true, if_false] <;> assumption))
        rw [vcode2W] at HV
        generalize hq : askV m mv rs sv = code at *
        have HQ := Lib.hid hq
        clear hq HX3 HY3
        go_wp2
        refine wp_loop_rounds 2 ?_
        rw [rounds_succ]
        by_cases h0 : code = 0
        · subst h0
          go_wp2_with fail
          refine HV.out.mono ?_
          rintro e w4 ⟨rfl, b4⟩
          have HB4 := Lib.hid (below_on (below_on HB3.out (below1 _ _)) b4)
          clear b4 c0
          go_wp2
          rw [rounds_succ]
          go_wp2
          refine bodyPost_ret (results_tmp rfl _ _ _) rfl ⟨by rw [HC2.out]; rfl, HB4.out⟩
        · have hb : (code != 0) = true := by simpa using h0
          clear h0
          go_wp2_with fail
          refine HV.out.mono ?_
          rintro e w4 ⟨rfl, b4⟩
          have HB4 := Lib.hid (below_on (below_on HB3.out (below1 _ _)) b4)
          clear b4 c0
          go_wp2
          refine bodyPost_ret (results_tmp rfl _ _ _) rfl ⟨by rw [HC2.out]; rfl, HB4.out⟩

set_option maxRecDepth 20000 in
set_option maxHeartbeats 3200000 in
/-- what stands against a place and one way -/
theorem placeCode_one (A X Y : Option Addr) (g n c m d mv dv : Nat) (ns : List Nd) (rs sv : List R3) (P P' P2 : Nat → Prop) (w : World) (hr : RdN w P A n c ns) (hx : RdS w P' X m d rs) (hy : RdS w P2 Y mv dv sv) (hsm : Small rs) (hsv : Small sv) (hn : n ≤ 1048576) (hm : m ≤ 1048576) (hmv : mv ≤ 1048576)
    (hg : g < w.heap.size) (hc : w.cell? ⟨g, 0, none⟩ = some (.slice Y mv dv)) :
    Calls Tryz.prog 39 #[.agg #[.slice A n c], .slice X m d, .slice (some ⟨g, 0, none⟩) 1 1] w fun e w' => e = .returned (.int .i64 (ptCode1 (okE ns) ns m mv rs sv)) ∧ Below w.heap.size w w' := by
  have HLN : Hid (ns.length = n) := hr.len
  have HR := Lib.hid (hr.mono (Q := (· < w.heap.size)) fun _ _ h => h)
  have HX := Lib.hid hx.low
  have HY := Lib.hid hy.low
  have HS := Lib.hid hsm
  have HSV := Lib.hid hsv
  have HCC := Lib.hid hc
  have HOK : Hid (okE ns = true → (∀ j, j < ns.length → fitN (ns.getD j nd0) = true) ∧ 1 ≤ n ∧ n ≤ 60) := fun h => by
    obtain ⟨h1, h60, hf, -⟩ := okE_out h
    have := HLN.out
    exact ⟨hf, by omega, by omega⟩
  clear hr hx hy hsm hsv hc
  go_enter Tryz.func39, Tryz.ntmps39
  go_upto_region 1 with fail
  refine wp_atJ (fun v0 => Below w.heap.size w v0 ∧ SlAt v0 w.heap.size 25 A n c) ⟨below1 _ _, SlAt.new _ _ _ _ _⟩ ?_
  rintro v0 ⟨hb, r0⟩
  have HB0 := Lib.hid hb
  have HT0 := Lib.hid r0
  have HC0 := Lib.hid r0.c0
  clear hb r0
  go_region_held3 (fun wx => wx.cell? ⟨w.heap.size, 0, none⟩ = some (.slice A n c))
    (first | exact HC0.out | exact HC1.out | exact HC2.out)
    (first
      | (go_at_call 70; refine (implExprOK_any A n c ns _ _ (by first | exact HR.out.below HB0.out | exact (HR.out.below HB0.out).drew) hn).mono ?_; rintro e w1 ⟨rfl, bb⟩; have bb := undrew bb; have HB1 := Lib.hid (below_on HB0.out bb); have HT1 := Lib.hid (HT0.out.on bb); have HC1 := Lib.hid HT1.out.c0; clear bb)
      | (go_at_call 69; refine (pointCode_one _ ns A X Y g n c m d mv dv rs sv _ _ _ _ (by exact HR.out.below HB1.out) (by exact HX.out.below HB1.out) (by exact HY.out.below HB1.out) HS.out HSV.out hm hmv (by exact Nat.lt_of_lt_of_le hg HB1.out.size) (by exact (HB1.out.cell (p := ⟨g, 0, none⟩) hg).trans HCC.out) HOK.out).mono ?_; rintro e w2 ⟨rfl, bb⟩; have HB2 := Lib.hid (below_on HB1.out bb); have HT2 := Lib.hid (HT1.out.on bb); have HC2 := Lib.hid HT2.out.c0; clear bb))
  go_wp2
  exact bodyPost_ret (results_tmp rfl _ _ _) rfl ⟨rfl, HB2.out⟩
end Go.Proofs.YtifepoefeamboaaGreatDoor
