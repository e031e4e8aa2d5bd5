/-
  ReadRat of the program.
-/
import Derived.Test.YtndeimodphmpkaaReadRatMath
import Derived.Test.YtndeimodphmpkaaGrpC
import Derived.Test.YtndeimodphmpkaaShelf
namespace Nt
open Go Go.RowKit
theorem rd_on {w w' : World} {P : Nat → Prop} {A : Option Addr} {n c : Nat} {xs : List Int} (h : Rd w P A n c xs) (hb : Below w.heap.size w w') : Rd w' P A n c xs := Rd.keep h hb.size fun b _ hl => hb.block b hl
end Nt
namespace Go.Proofs.Ytndeimodphmpkaa
open Go Go.RowKit Nt

theorem cutPrefix_any (t : List UInt8) (w : World) : Calls Try.prog 37 #[.string (tb t), .string ⟨#[45]⟩] w fun e w' => e = .returned (.tuple #[.string (tb (rrD t)), .bool (rrNeg t)]) ∧ w' = w := Go.Proofs.Try.strings_CutPrefix (tb t) ⟨#[45]⟩ w
theorem cut_any (t : List UInt8) (m : Int) (w : World) (ht : t.length ≤ 65536) (hm : w.cell? ⟨0, 0, none⟩ = some (.int .i64 m)) : Calls Try.prog 38 #[.string (tb (rrD t)), .string ⟨#[47]⟩] w fun e w' => e = .returned (.tuple #[.string (tb (rrA t)), .string (tb (rrB t)), .bool (rrF t)]) ∧ ∃ n, w' = w.drewN n :=
  Go.Proofs.Try.strings_Cut (tb (rrD t)) ⟨#[47]⟩ m w (by have := rrD_len t; rw [tb_size]; omega) hm
/-- what ReadNat answers to a text that is not too long -/
theorem readNat_at (l : List UInt8) (h : l.length ≤ 65536) (w : World) : Calls Try.prog 39 #[.string (tb l)] w (RetCode 3 w (readX (tb l)) (if readOk (tb l) = true then 0 else 3)) := by
  have hs := implReadNat_any (tb l) w (by rw [tb_size]; omega)
  have hl : ¬ 65536 < (tb l).size := by rw [tb_size]; omega
  cases e : readOk (tb l) with
  | true =>
    obtain ⟨h1, h2⟩ := read_ok hl e
    rw [h1, h2] at hs
    simpa using hs
  | false =>
    obtain ⟨h1, h2⟩ := read_no hl e
    have hx : readX (tb l) = [] := by unfold readX; rw [e]; rfl
    rw [h1, h2] at hs
    rw [hx]
    simpa using hs

set_option linter.unusedSimpArgs false in
set_option linter.unusedVariables false in
set_option maxRecDepth 20000 in
set_option maxHeartbeats 3200000 in
theorem implReadRat_any (t : List UInt8) (m : Int) (w : World) (hm : w.cell? ⟨0, 0, none⟩ = some (.int .i64 m)) (hmax : t.length ≤ 16777216) :
    Calls Try.prog 11 #[.string (tb t)] w (RetRC 3 w (rrN t) (rrX t) (rrY t) (rrC t)) := by
  have h0lt : 0 < w.heap.size := World.block_lt_of_cell? w ⟨0, 0, none⟩ hm
  by_cases hlong : 65536 < t.length
  · obtain ⟨e1, e2, e3, e4⟩ := rr_long hlong
    rw [e1, e2, e3, e4]
    have hd : decide ((65536 : Int) < (tb t).size) = true := by rw [tb_size]; simp; omega
    have HT := Lib.hid (RatAt.new w 34 false none none 0 0 0 0)
    have HB := Lib.hid (below1 w (.cells #[.bool false, .slice none 0 0, .slice none 0 0] 34))
    clear e1 e2 e3 e4
    go_enter Try.func11, Try.ntmps11
    go_wp2
    refine bodyPost_ret (retRC rfl _ _ _ rfl HT.out) rfl ?_
    exact ⟨none, 0, none, 0, rfl, ⟨World.ownsRow_nil _ _ _ _, World.ownsRow_nil _ _ _ _, fun g h e => by cases e⟩, HB.out⟩
  have hd : decide ((65536 : Int) < (tb t).size) = false := by rw [tb_size]; simp; omega
  have HCP := Lib.hid (fun (W : World) => cutPrefix_any t W)
  have HCU := Lib.hid (fun (W : World) (h : W.cell? ⟨0, 0, none⟩ = some (.int .i64 m)) => cut_any t m W (by omega) h)
  have HMX := Lib.hid hm
  have HBW := Lib.hid (below1 w (.cells #[.bool false, .slice none 0 0, .slice none 0 0] 34))
  have HTW := Lib.hid (RatAt.new w 34 false none none 0 0 0 0)
  have HRA := Lib.hid (fun (W : World) => readNat_at (rrA t) (by have := rrA_len t; have := rrD_len t; omega) W)
  have HLA := Lib.hid (readX_len (rrA t))
  have HLE := Lib.hid (readX_len (rrE t))
  have HLONG := Lib.hid hlong
  have HOK : Hid (rrOk t = (!(rrF t && decide (rrB t = [49])) && readOk (tb (rrA t)) && readOk (tb (rrE t)) && okR (rrNeg t) (readX (tb (rrA t))) (readX (tb (rrE t))))) := Lib.hid rfl
  obtain ⟨ng, hng⟩ : ∃ ng, rrNeg t = ng := ⟨_, rfl⟩
  rw [hng] at HCP HOK
  have HNG := Lib.hid hng
  clear hng hm hlong
  have hst : ∀ (l : List UInt8), ((tb l).toList == [49]) = decide (l = [49]) := fun l => by
    rw [ByteArray.toList_eq]
    show (l == [49]) = _
    by_cases h : l = [49]
    · rw [h]; rfl
    · rw [decide_eq_false h]; simpa using h

  go_enter Try.func11, Try.ntmps11
  go_wp2_with fail
  refine (HCP.out _).mono ?_
  rintro e w' ⟨rfl, rfl⟩
  go_wp2_with fail
  refine (HCU.out _ ((HBW.out.cell (p := ⟨0, 0, none⟩) h0lt).trans HMX.out)).mono ?_
  rintro e w' ⟨rfl, nq, rfl⟩
  have HBD : Hid (Below w.heap.size w ((w.alloc (.cells #[.bool false, .slice none 0 0, .slice none 0 0] 34)).drewN nq)) := Lib.hid (below_drewN HBW.out nq)
  have HTD : Hid (RatAt ((w.alloc (.cells #[.bool false, .slice none 0 0, .slice none 0 0] 34)).drewN nq) w.heap.size 34 false none 0 0 none 0 0) := HTW.out
  clear HCP HCU HTW HBW
  obtain ⟨WD, hWD⟩ : ∃ WD, (w.alloc (.cells #[.bool false, .slice none 0 0, .slice none 0 0] 34)).drewN nq = WD := ⟨_, rfl⟩
  rw [hWD] at HBD HTD ⊢
  clear hWD
  cases hf : rrF t with
  | false =>
    have HE : Hid (rrE t = [49]) := by show _ = _; unfold rrE; rw [hf]; rfl
    have HNB : Hid ((rrF t && decide (rrB t = [49])) = false) := by show _ = _; rw [hf]; rfl
    have HRE := Lib.hid (fun (W : World) => readNat_at [49] (by decide) W)
    have HLEB := Lib.hid (readX_len [49])
    clear hst
    rw [HE.out] at HOK
    cases ka : readOk (tb (rrA t)) with
    | false =>
      rw [ka] at HRA
      simp only [if_true, if_false, Bool.false_eq_true] at HRA
      cases kb : readOk (tb [49]) with
      | false =>
        rw [kb] at HRE
        simp only [if_true, if_false, Bool.false_eq_true] at HRE
        go_wp2_with fail
        refine (HRA.out _).mono ?_
        rintro e w1 ⟨A1, c1, rfl, o1, b1⟩
        have HO1 := Lib.hid o1
        have HB1 := Lib.hid (below_on HBD.out b1)
        have HT1 := Lib.hid (HTD.out.on b1)
        have hs1 : w.heap.size + 1 ≤ w1.heap.size := by have := HTD.out.lt; have := b1.size; omega
        clear o1 b1
        go_wp2_with fail
        refine (HRE.out _).mono ?_
        rintro e w2 ⟨A2, c2, rfl, o2, b2⟩
        have HO1' := Lib.hid (own_keep HO1.out b2)
        have HLT1 : Hid (∀ g, A1 = some ⟨g, 0, none⟩ → g < w1.heap.size) := fun g hg => (own_block HO1.out hg).2
        have HO2 := Lib.hid o2
        have HB2 := Lib.hid (below_on HB1.out b2)
        have HT2 := Lib.hid (HT1.out.on b2)
        have hs2 : w1.heap.size ≤ w2.heap.size := b2.size
        clear o2 b2 HO1
        have hla := HLA.out
        have hle := HLEB.out
        have HT3 := Lib.hid (HT2.out.on (below1 w2 (.cells #[.bool ng, .slice A1 (readX (tb (rrA t))).length c1, .slice A2 (readX (tb [49])).length c2] 34)))
        have HR3 := Lib.hid (RatAt.new w2 34 ng A1 A2 (readX (tb (rrA t))).length c1 (readX (tb [49])).length c2)
        have HB3 := Lib.hid (below_on HB2.out (below1 w2 (.cells #[.bool ng, .slice A1 (readX (tb (rrA t))).length c1, .slice A2 (readX (tb [49])).length c2] 34)))
        have HX3 := Lib.hid (rd_on (own_rd' HO1'.out) (below1 w2 (.cells #[.bool ng, .slice A1 (readX (tb (rrA t))).length c1, .slice A2 (readX (tb [49])).length c2] 34)))
        have HY3 := Lib.hid (rd_on (own_rd' HO2.out) (below1 w2 (.cells #[.bool ng, .slice A1 (readX (tb (rrA t))).length c1, .slice A2 (readX (tb [49])).length c2] 34)))
        have HOA := Lib.hid (own_keep HO1'.out (below1 w2 (.cells #[.bool ng, .slice A1 (readX (tb (rrA t))).length c1, .slice A2 (readX (tb [49])).length c2] 34)))
        have HOB := Lib.hid (own_keep HO2.out (below1 w2 (.cells #[.bool ng, .slice A1 (readX (tb (rrA t))).length c1, .slice A2 (readX (tb [49])).length c2] 34)))
        have hno : rrOk t = false := by rw [HOK.out, ka]; simp
        have HQ := Lib.hid (rr_form HLONG.out hno)
        have f0 := HT3.out.fz 0
        have f1 := HT3.out.fz 1
        have f2 := HT3.out.fz 2
        have y0 := HT3.out.c0
        have y1 := HT3.out.c1
        have y2 := HT3.out.c2
        clear hno
        go_wp2
        have g2 := fun b u v => setAll_grown (w2.alloc (.cells #[.bool ng, .slice A1 (readX (tb (rrA t))).length c1, .slice A2 (readX (tb [49])).length c2] 34)) w.heap.size (.bool b) u v
        refine bodyPost_ret (retRC rfl _ _ _ rfl (HT3.out.setAll _ _ _ _ _ _ _)) rfl ?_
        rw [HQ.out.1, HQ.out.2.1, HQ.out.2.2.1, HQ.out.2.2.2]
        exact ⟨none, 0, none, 0, rfl, ⟨World.ownsRow_nil _ _ _ _, World.ownsRow_nil _ _ _ _, fun g h e => by cases e⟩, below_grow HB3.out (by omega) (g2 _ _ _)⟩
      | true =>
        rw [kb] at HRE
        simp only [if_true, if_false, Bool.false_eq_true] at HRE
        go_wp2_with fail
        refine (HRA.out _).mono ?_
        rintro e w1 ⟨A1, c1, rfl, o1, b1⟩
        have HO1 := Lib.hid o1
        have HB1 := Lib.hid (below_on HBD.out b1)
        have HT1 := Lib.hid (HTD.out.on b1)
        have hs1 : w.heap.size + 1 ≤ w1.heap.size := by have := HTD.out.lt; have := b1.size; omega
        clear o1 b1
        go_wp2_with fail
        refine (HRE.out _).mono ?_
        rintro e w2 ⟨A2, c2, rfl, o2, b2⟩
        have HO1' := Lib.hid (own_keep HO1.out b2)
        have HLT1 : Hid (∀ g, A1 = some ⟨g, 0, none⟩ → g < w1.heap.size) := fun g hg => (own_block HO1.out hg).2
        have HO2 := Lib.hid o2
        have HB2 := Lib.hid (below_on HB1.out b2)
        have HT2 := Lib.hid (HT1.out.on b2)
        have hs2 : w1.heap.size ≤ w2.heap.size := b2.size
        clear o2 b2 HO1
        have hla := HLA.out
        have hle := HLEB.out
        have HT3 := Lib.hid (HT2.out.on (below1 w2 (.cells #[.bool ng, .slice A1 (readX (tb (rrA t))).length c1, .slice A2 (readX (tb [49])).length c2] 34)))
        have HR3 := Lib.hid (RatAt.new w2 34 ng A1 A2 (readX (tb (rrA t))).length c1 (readX (tb [49])).length c2)
        have HB3 := Lib.hid (below_on HB2.out (below1 w2 (.cells #[.bool ng, .slice A1 (readX (tb (rrA t))).length c1, .slice A2 (readX (tb [49])).length c2] 34)))
        have HX3 := Lib.hid (rd_on (own_rd' HO1'.out) (below1 w2 (.cells #[.bool ng, .slice A1 (readX (tb (rrA t))).length c1, .slice A2 (readX (tb [49])).length c2] 34)))
        have HY3 := Lib.hid (rd_on (own_rd' HO2.out) (below1 w2 (.cells #[.bool ng, .slice A1 (readX (tb (rrA t))).length c1, .slice A2 (readX (tb [49])).length c2] 34)))
        have HOA := Lib.hid (own_keep HO1'.out (below1 w2 (.cells #[.bool ng, .slice A1 (readX (tb (rrA t))).length c1, .slice A2 (readX (tb [49])).length c2] 34)))
        have HOB := Lib.hid (own_keep HO2.out (below1 w2 (.cells #[.bool ng, .slice A1 (readX (tb (rrA t))).length c1, .slice A2 (readX (tb [49])).length c2] 34)))
        have hno : rrOk t = false := by rw [HOK.out, ka]; simp
        have HQ := Lib.hid (rr_form HLONG.out hno)
        have f0 := HT3.out.fz 0
        have f1 := HT3.out.fz 1
        have f2 := HT3.out.fz 2
        have y0 := HT3.out.c0
        have y1 := HT3.out.c1
        have y2 := HT3.out.c2
        clear hno
        go_wp2
        have g2 := fun b u v => setAll_grown (w2.alloc (.cells #[.bool ng, .slice A1 (readX (tb (rrA t))).length c1, .slice A2 (readX (tb [49])).length c2] 34)) w.heap.size (.bool b) u v
        refine bodyPost_ret (retRC rfl _ _ _ rfl (HT3.out.setAll _ _ _ _ _ _ _)) rfl ?_
        rw [HQ.out.1, HQ.out.2.1, HQ.out.2.2.1, HQ.out.2.2.2]
        exact ⟨none, 0, none, 0, rfl, ⟨World.ownsRow_nil _ _ _ _, World.ownsRow_nil _ _ _ _, fun g h e => by cases e⟩, below_grow HB3.out (by omega) (g2 _ _ _)⟩
    | true =>
      rw [ka] at HRA
      simp only [if_true, if_false, Bool.false_eq_true] at HRA
      cases kb : readOk (tb [49]) with
      | false =>
        rw [kb] at HRE
        simp only [if_true, if_false, Bool.false_eq_true] at HRE
        go_wp2_with fail
        refine (HRA.out _).mono ?_
        rintro e w1 ⟨A1, c1, rfl, o1, b1⟩
        have HO1 := Lib.hid o1
        have HB1 := Lib.hid (below_on HBD.out b1)
        have HT1 := Lib.hid (HTD.out.on b1)
        have hs1 : w.heap.size + 1 ≤ w1.heap.size := by have := HTD.out.lt; have := b1.size; omega
        clear o1 b1
        go_wp2_with fail
        refine (HRE.out _).mono ?_
        rintro e w2 ⟨A2, c2, rfl, o2, b2⟩
        have HO1' := Lib.hid (own_keep HO1.out b2)
        have HLT1 : Hid (∀ g, A1 = some ⟨g, 0, none⟩ → g < w1.heap.size) := fun g hg => (own_block HO1.out hg).2
        have HO2 := Lib.hid o2
        have HB2 := Lib.hid (below_on HB1.out b2)
        have HT2 := Lib.hid (HT1.out.on b2)
        have hs2 : w1.heap.size ≤ w2.heap.size := b2.size
        clear o2 b2 HO1
        have hla := HLA.out
        have hle := HLEB.out
        have HT3 := Lib.hid (HT2.out.on (below1 w2 (.cells #[.bool ng, .slice A1 (readX (tb (rrA t))).length c1, .slice A2 (readX (tb [49])).length c2] 34)))
        have HR3 := Lib.hid (RatAt.new w2 34 ng A1 A2 (readX (tb (rrA t))).length c1 (readX (tb [49])).length c2)
        have HB3 := Lib.hid (below_on HB2.out (below1 w2 (.cells #[.bool ng, .slice A1 (readX (tb (rrA t))).length c1, .slice A2 (readX (tb [49])).length c2] 34)))
        have HX3 := Lib.hid (rd_on (own_rd' HO1'.out) (below1 w2 (.cells #[.bool ng, .slice A1 (readX (tb (rrA t))).length c1, .slice A2 (readX (tb [49])).length c2] 34)))
        have HY3 := Lib.hid (rd_on (own_rd' HO2.out) (below1 w2 (.cells #[.bool ng, .slice A1 (readX (tb (rrA t))).length c1, .slice A2 (readX (tb [49])).length c2] 34)))
        have HOA := Lib.hid (own_keep HO1'.out (below1 w2 (.cells #[.bool ng, .slice A1 (readX (tb (rrA t))).length c1, .slice A2 (readX (tb [49])).length c2] 34)))
        have HOB := Lib.hid (own_keep HO2.out (below1 w2 (.cells #[.bool ng, .slice A1 (readX (tb (rrA t))).length c1, .slice A2 (readX (tb [49])).length c2] 34)))
        have hno : rrOk t = false := by rw [HOK.out, kb]; simp
        have HQ := Lib.hid (rr_form HLONG.out hno)
        have f0 := HT3.out.fz 0
        have f1 := HT3.out.fz 1
        have f2 := HT3.out.fz 2
        have y0 := HT3.out.c0
        have y1 := HT3.out.c1
        have y2 := HT3.out.c2
        clear hno
        go_wp2
        have g2 := fun b u v => setAll_grown (w2.alloc (.cells #[.bool ng, .slice A1 (readX (tb (rrA t))).length c1, .slice A2 (readX (tb [49])).length c2] 34)) w.heap.size (.bool b) u v
        refine bodyPost_ret (retRC rfl _ _ _ rfl (HT3.out.setAll _ _ _ _ _ _ _)) rfl ?_
        rw [HQ.out.1, HQ.out.2.1, HQ.out.2.2.1, HQ.out.2.2.2]
        exact ⟨none, 0, none, 0, rfl, ⟨World.ownsRow_nil _ _ _ _, World.ownsRow_nil _ _ _ _, fun g h e => by cases e⟩, below_grow HB3.out (by omega) (g2 _ _ _)⟩
      | true =>
        rw [kb] at HRE
        simp only [if_true, if_false, Bool.false_eq_true] at HRE
        go_wp2_with fail
        refine (HRA.out _).mono ?_
        rintro e w1 ⟨A1, c1, rfl, o1, b1⟩
        have HO1 := Lib.hid o1
        have HB1 := Lib.hid (below_on HBD.out b1)
        have HT1 := Lib.hid (HTD.out.on b1)
        have hs1 : w.heap.size + 1 ≤ w1.heap.size := by have := HTD.out.lt; have := b1.size; omega
        clear o1 b1
        go_wp2_with fail
        refine (HRE.out _).mono ?_
        rintro e w2 ⟨A2, c2, rfl, o2, b2⟩
        have HO1' := Lib.hid (own_keep HO1.out b2)
        have HLT1 : Hid (∀ g, A1 = some ⟨g, 0, none⟩ → g < w1.heap.size) := fun g hg => (own_block HO1.out hg).2
        have HO2 := Lib.hid o2
        have HB2 := Lib.hid (below_on HB1.out b2)
        have HT2 := Lib.hid (HT1.out.on b2)
        have hs2 : w1.heap.size ≤ w2.heap.size := b2.size
        clear o2 b2 HO1
        have hla := HLA.out
        have hle := HLEB.out
        have HT3 := Lib.hid (HT2.out.on (below1 w2 (.cells #[.bool ng, .slice A1 (readX (tb (rrA t))).length c1, .slice A2 (readX (tb [49])).length c2] 34)))
        have HR3 := Lib.hid (RatAt.new w2 34 ng A1 A2 (readX (tb (rrA t))).length c1 (readX (tb [49])).length c2)
        have HB3 := Lib.hid (below_on HB2.out (below1 w2 (.cells #[.bool ng, .slice A1 (readX (tb (rrA t))).length c1, .slice A2 (readX (tb [49])).length c2] 34)))
        have HX3 := Lib.hid (rd_on (own_rd' HO1'.out) (below1 w2 (.cells #[.bool ng, .slice A1 (readX (tb (rrA t))).length c1, .slice A2 (readX (tb [49])).length c2] 34)))
        have HY3 := Lib.hid (rd_on (own_rd' HO2.out) (below1 w2 (.cells #[.bool ng, .slice A1 (readX (tb (rrA t))).length c1, .slice A2 (readX (tb [49])).length c2] 34)))
        have HOA := Lib.hid (own_keep HO1'.out (below1 w2 (.cells #[.bool ng, .slice A1 (readX (tb (rrA t))).length c1, .slice A2 (readX (tb [49])).length c2] 34)))
        have HOB := Lib.hid (own_keep HO2.out (below1 w2 (.cells #[.bool ng, .slice A1 (readX (tb (rrA t))).length c1, .slice A2 (readX (tb [49])).length c2] 34)))
        have r0 := HR3.out.c0
        have r1 := HR3.out.c1
        have r2 := HR3.out.c2
        go_wp2_with fail
        refine (implRatOK_any ng A1 A2 _ c1 _ c2 (readX (tb (rrA t))) (readX (tb [49])) _ _ _ HX3.out HY3.out (by omega) (by omega)).mono ?_
        rintro e w4 ⟨rfl, bb⟩
        have HT4 := Lib.hid (HT3.out.on bb)
        have HR4 := Lib.hid (HR3.out.on bb)
        have HB4 := Lib.hid (below_on HB3.out bb)
        have HOA4 := Lib.hid (own_keep HOA.out bb)
        have HOB4 := Lib.hid (own_keep HOB.out bb)
        clear bb r0 r1 r2
        have f0 := HT4.out.fz 0
        have f1 := HT4.out.fz 1
        have f2 := HT4.out.fz 2
        have y0 := HT4.out.c0
        have y1 := HT4.out.c1
        have y2 := HT4.out.c2
        have r0 := HR4.out.c0
        have r1 := HR4.out.c1
        have r2 := HR4.out.c2
        cases kr : okR ng (readX (tb (rrA t))) (readX (tb [49])) with
        | false =>
          have hno : rrOk t = false := by rw [HOK.out, kr]; simp
          have HQ := Lib.hid (rr_form HLONG.out hno)
          clear hno
          go_wp2
          have g2 := fun b u v => setAll_grown w4 w.heap.size (.bool b) u v
          refine bodyPost_ret (retRC rfl _ _ _ rfl (HT4.out.setAll _ _ _ _ _ _ _)) rfl ?_
          rw [HQ.out.1, HQ.out.2.1, HQ.out.2.2.1, HQ.out.2.2.2]
          exact ⟨none, 0, none, 0, rfl, ⟨World.ownsRow_nil _ _ _ _, World.ownsRow_nil _ _ _ _, fun g h e => by cases e⟩, below_grow HB4.out (by omega) (g2 _ _ _)⟩
        | true =>
          have hyes : rrOk t = true := by rw [HOK.out, ka, kb, kr]; simp [HNB.out]
          have HQ := Lib.hid (rr_good HLONG.out hyes)
          clear hyes
          go_wp2
          have g2 := fun b u v => setAll_grown w4 w.heap.size (.bool b) u v
          refine bodyPost_ret (retRC rfl _ _ _ rfl (HT4.out.setAll _ _ _ _ _ _ _)) rfl ?_
          rw [HQ.out.1, HQ.out.2.1, HQ.out.2.2.1, HQ.out.2.2.2, HE.out, HNG.out]
          exact ⟨A1, c1, A2, c2, rfl, ⟨own_mono (own_gone HOA4.out (g2 _ _ _) (fun k hk => by have := (own_block HOA4.out hk).1; have := HTD.out.lt; omega)) (by have := HTD.out.lt; omega), own_mono (own_gone HOB4.out (g2 _ _ _) (fun k hk => by have := (own_block HOB4.out hk).1; omega)) (by omega), fun g h e1 e2 => by have := HLT1.out g e1; have := (own_block HOB4.out e2).1; omega⟩, below_grow HB4.out (by omega) (g2 _ _ _)⟩
  | true =>
    by_cases hb1 : rrB t = [49]
    · have hno : rrOk t = false := by rw [HOK.out, hf, decide_eq_true hb1]; rfl
      have HQ := Lib.hid (rr_form HLONG.out hno)
      have hq := hst (rrB t)
      rw [decide_eq_true hb1] at hq
      have f0 := HTD.out.fz 0
      have f1 := HTD.out.fz 1
      have f2 := HTD.out.fz 2
      have y0 := HTD.out.c0
      have y1 := HTD.out.c1
      have y2 := HTD.out.c2
      clear hno hb1 hst
      go_wp2
      have g2 := fun b u v => setAll_grown WD w.heap.size (.bool b) u v
      refine bodyPost_ret (retRC rfl _ _ _ rfl (HTD.out.setAll _ _ _ _ _ _ _)) rfl ?_
      rw [HQ.out.1, HQ.out.2.1, HQ.out.2.2.1, HQ.out.2.2.2]
      exact ⟨none, 0, none, 0, rfl, ⟨World.ownsRow_nil _ _ _ _, World.ownsRow_nil _ _ _ _, fun g h e => by cases e⟩, below_grow HBD.out (by omega) (g2 _ _ _)⟩
    · have hq := hst (rrB t)
      rw [decide_eq_false hb1] at hq
      have HE : Hid (rrE t = rrB t) := by show _ = _; unfold rrE; rw [hf]; rfl
      have HNB : Hid ((rrF t && decide (rrB t = [49])) = false) := by show _ = _; rw [decide_eq_false hb1, Bool.and_false]
      have HRE := Lib.hid (fun (W : World) => readNat_at (rrB t) (by have := rrB_len t; have := rrD_len t; have := HLONG.out; omega) W)
      have HLEB := Lib.hid (readX_len (rrB t))
      rw [HE.out] at HOK
      clear hb1 hst
      cases ka : readOk (tb (rrA t)) with
      | false =>
        rw [ka] at HRA
        simp only [if_true, if_false, Bool.false_eq_true] at HRA
        cases kb : readOk (tb (rrB t)) with
        | false =>
          rw [kb] at HRE
          simp only [if_true, if_false, Bool.false_eq_true] at HRE
          go_wp2_with fail
          refine (HRA.out _).mono ?_
          rintro e w1 ⟨A1, c1, rfl, o1, b1⟩
          have HO1 := Lib.hid o1
          have HB1 := Lib.hid (below_on HBD.out b1)
          have HT1 := Lib.hid (HTD.out.on b1)
          have hs1 : w.heap.size + 1 ≤ w1.heap.size := by have := HTD.out.lt; have := b1.size; omega
          clear o1 b1
          go_wp2_with fail
          refine (HRE.out _).mono ?_
          rintro e w2 ⟨A2, c2, rfl, o2, b2⟩
          have HO1' := Lib.hid (own_keep HO1.out b2)
          have HLT1 : Hid (∀ g, A1 = some ⟨g, 0, none⟩ → g < w1.heap.size) := fun g hg => (own_block HO1.out hg).2
          have HO2 := Lib.hid o2
          have HB2 := Lib.hid (below_on HB1.out b2)
          have HT2 := Lib.hid (HT1.out.on b2)
          have hs2 : w1.heap.size ≤ w2.heap.size := b2.size
          clear o2 b2 HO1
          have hla := HLA.out
          have hle := HLEB.out
          have HT3 := Lib.hid (HT2.out.on (below1 w2 (.cells #[.bool ng, .slice A1 (readX (tb (rrA t))).length c1, .slice A2 (readX (tb (rrB t))).length c2] 34)))
          have HR3 := Lib.hid (RatAt.new w2 34 ng A1 A2 (readX (tb (rrA t))).length c1 (readX (tb (rrB t))).length c2)
          have HB3 := Lib.hid (below_on HB2.out (below1 w2 (.cells #[.bool ng, .slice A1 (readX (tb (rrA t))).length c1, .slice A2 (readX (tb (rrB t))).length c2] 34)))
          have HX3 := Lib.hid (rd_on (own_rd' HO1'.out) (below1 w2 (.cells #[.bool ng, .slice A1 (readX (tb (rrA t))).length c1, .slice A2 (readX (tb (rrB t))).length c2] 34)))
          have HY3 := Lib.hid (rd_on (own_rd' HO2.out) (below1 w2 (.cells #[.bool ng, .slice A1 (readX (tb (rrA t))).length c1, .slice A2 (readX (tb (rrB t))).length c2] 34)))
          have HOA := Lib.hid (own_keep HO1'.out (below1 w2 (.cells #[.bool ng, .slice A1 (readX (tb (rrA t))).length c1, .slice A2 (readX (tb (rrB t))).length c2] 34)))
          have HOB := Lib.hid (own_keep HO2.out (below1 w2 (.cells #[.bool ng, .slice A1 (readX (tb (rrA t))).length c1, .slice A2 (readX (tb (rrB t))).length c2] 34)))
          have hno : rrOk t = false := by rw [HOK.out, ka]; simp
          have HQ := Lib.hid (rr_form HLONG.out hno)
          have f0 := HT3.out.fz 0
          have f1 := HT3.out.fz 1
          have f2 := HT3.out.fz 2
          have y0 := HT3.out.c0
          have y1 := HT3.out.c1
          have y2 := HT3.out.c2
          clear hno
          go_wp2
          have g2 := fun b u v => setAll_grown (w2.alloc (.cells #[.bool ng, .slice A1 (readX (tb (rrA t))).length c1, .slice A2 (readX (tb (rrB t))).length c2] 34)) w.heap.size (.bool b) u v
          refine bodyPost_ret (retRC rfl _ _ _ rfl (HT3.out.setAll _ _ _ _ _ _ _)) rfl ?_
          rw [HQ.out.1, HQ.out.2.1, HQ.out.2.2.1, HQ.out.2.2.2]
          exact ⟨none, 0, none, 0, rfl, ⟨World.ownsRow_nil _ _ _ _, World.ownsRow_nil _ _ _ _, fun g h e => by cases e⟩, below_grow HB3.out (by omega) (g2 _ _ _)⟩
        | true =>
          rw [kb] at HRE
          simp only [if_true, if_false, Bool.false_eq_true] at HRE
          go_wp2_with fail
          refine (HRA.out _).mono ?_
          rintro e w1 ⟨A1, c1, rfl, o1, b1⟩
          have HO1 := Lib.hid o1
          have HB1 := Lib.hid (below_on HBD.out b1)
          have HT1 := Lib.hid (HTD.out.on b1)
          have hs1 : w.heap.size + 1 ≤ w1.heap.size := by have := HTD.out.lt; have := b1.size; omega
          clear o1 b1
          go_wp2_with fail
          refine (HRE.out _).mono ?_
          rintro e w2 ⟨A2, c2, rfl, o2, b2⟩
          have HO1' := Lib.hid (own_keep HO1.out b2)
          have HLT1 : Hid (∀ g, A1 = some ⟨g, 0, none⟩ → g < w1.heap.size) := fun g hg => (own_block HO1.out hg).2
          have HO2 := Lib.hid o2
          have HB2 := Lib.hid (below_on HB1.out b2)
          have HT2 := Lib.hid (HT1.out.on b2)
          have hs2 : w1.heap.size ≤ w2.heap.size := b2.size
          clear o2 b2 HO1
          have hla := HLA.out
          have hle := HLEB.out
          have HT3 := Lib.hid (HT2.out.on (below1 w2 (.cells #[.bool ng, .slice A1 (readX (tb (rrA t))).length c1, .slice A2 (readX (tb (rrB t))).length c2] 34)))
          have HR3 := Lib.hid (RatAt.new w2 34 ng A1 A2 (readX (tb (rrA t))).length c1 (readX (tb (rrB t))).length c2)
          have HB3 := Lib.hid (below_on HB2.out (below1 w2 (.cells #[.bool ng, .slice A1 (readX (tb (rrA t))).length c1, .slice A2 (readX (tb (rrB t))).length c2] 34)))
          have HX3 := Lib.hid (rd_on (own_rd' HO1'.out) (below1 w2 (.cells #[.bool ng, .slice A1 (readX (tb (rrA t))).length c1, .slice A2 (readX (tb (rrB t))).length c2] 34)))
          have HY3 := Lib.hid (rd_on (own_rd' HO2.out) (below1 w2 (.cells #[.bool ng, .slice A1 (readX (tb (rrA t))).length c1, .slice A2 (readX (tb (rrB t))).length c2] 34)))
          have HOA := Lib.hid (own_keep HO1'.out (below1 w2 (.cells #[.bool ng, .slice A1 (readX (tb (rrA t))).length c1, .slice A2 (readX (tb (rrB t))).length c2] 34)))
          have HOB := Lib.hid (own_keep HO2.out (below1 w2 (.cells #[.bool ng, .slice A1 (readX (tb (rrA t))).length c1, .slice A2 (readX (tb (rrB t))).length c2] 34)))
          have hno : rrOk t = false := by rw [HOK.out, ka]; simp
          have HQ := Lib.hid (rr_form HLONG.out hno)
          have f0 := HT3.out.fz 0
          have f1 := HT3.out.fz 1
          have f2 := HT3.out.fz 2
          have y0 := HT3.out.c0
          have y1 := HT3.out.c1
          have y2 := HT3.out.c2
          clear hno
          go_wp2
          have g2 := fun b u v => setAll_grown (w2.alloc (.cells #[.bool ng, .slice A1 (readX (tb (rrA t))).length c1, .slice A2 (readX (tb (rrB t))).length c2] 34)) w.heap.size (.bool b) u v
          refine bodyPost_ret (retRC rfl _ _ _ rfl (HT3.out.setAll _ _ _ _ _ _ _)) rfl ?_
          rw [HQ.out.1, HQ.out.2.1, HQ.out.2.2.1, HQ.out.2.2.2]
          exact ⟨none, 0, none, 0, rfl, ⟨World.ownsRow_nil _ _ _ _, World.ownsRow_nil _ _ _ _, fun g h e => by cases e⟩, below_grow HB3.out (by omega) (g2 _ _ _)⟩
      | true =>
        rw [ka] at HRA
        simp only [if_true, if_false, Bool.false_eq_true] at HRA
        cases kb : readOk (tb (rrB t)) with
        | false =>
          rw [kb] at HRE
          simp only [if_true, if_false, Bool.false_eq_true] at HRE
          go_wp2_with fail
          refine (HRA.out _).mono ?_
          rintro e w1 ⟨A1, c1, rfl, o1, b1⟩
          have HO1 := Lib.hid o1
          have HB1 := Lib.hid (below_on HBD.out b1)
          have HT1 := Lib.hid (HTD.out.on b1)
          have hs1 : w.heap.size + 1 ≤ w1.heap.size := by have := HTD.out.lt; have := b1.size; omega
          clear o1 b1
          go_wp2_with fail
          refine (HRE.out _).mono ?_
          rintro e w2 ⟨A2, c2, rfl, o2, b2⟩
          have HO1' := Lib.hid (own_keep HO1.out b2)
          have HLT1 : Hid (∀ g, A1 = some ⟨g, 0, none⟩ → g < w1.heap.size) := fun g hg => (own_block HO1.out hg).2
          have HO2 := Lib.hid o2
          have HB2 := Lib.hid (below_on HB1.out b2)
          have HT2 := Lib.hid (HT1.out.on b2)
          have hs2 : w1.heap.size ≤ w2.heap.size := b2.size
          clear o2 b2 HO1
          have hla := HLA.out
          have hle := HLEB.out
          have HT3 := Lib.hid (HT2.out.on (below1 w2 (.cells #[.bool ng, .slice A1 (readX (tb (rrA t))).length c1, .slice A2 (readX (tb (rrB t))).length c2] 34)))
          have HR3 := Lib.hid (RatAt.new w2 34 ng A1 A2 (readX (tb (rrA t))).length c1 (readX (tb (rrB t))).length c2)
          have HB3 := Lib.hid (below_on HB2.out (below1 w2 (.cells #[.bool ng, .slice A1 (readX (tb (rrA t))).length c1, .slice A2 (readX (tb (rrB t))).length c2] 34)))
          have HX3 := Lib.hid (rd_on (own_rd' HO1'.out) (below1 w2 (.cells #[.bool ng, .slice A1 (readX (tb (rrA t))).length c1, .slice A2 (readX (tb (rrB t))).length c2] 34)))
          have HY3 := Lib.hid (rd_on (own_rd' HO2.out) (below1 w2 (.cells #[.bool ng, .slice A1 (readX (tb (rrA t))).length c1, .slice A2 (readX (tb (rrB t))).length c2] 34)))
          have HOA := Lib.hid (own_keep HO1'.out (below1 w2 (.cells #[.bool ng, .slice A1 (readX (tb (rrA t))).length c1, .slice A2 (readX (tb (rrB t))).length c2] 34)))
          have HOB := Lib.hid (own_keep HO2.out (below1 w2 (.cells #[.bool ng, .slice A1 (readX (tb (rrA t))).length c1, .slice A2 (readX (tb (rrB t))).length c2] 34)))
          have hno : rrOk t = false := by rw [HOK.out, kb]; simp
          have HQ := Lib.hid (rr_form HLONG.out hno)
          have f0 := HT3.out.fz 0
          have f1 := HT3.out.fz 1
          have f2 := HT3.out.fz 2
          have y0 := HT3.out.c0
          have y1 := HT3.out.c1
          have y2 := HT3.out.c2
          clear hno
          go_wp2
          have g2 := fun b u v => setAll_grown (w2.alloc (.cells #[.bool ng, .slice A1 (readX (tb (rrA t))).length c1, .slice A2 (readX (tb (rrB t))).length c2] 34)) w.heap.size (.bool b) u v
          refine bodyPost_ret (retRC rfl _ _ _ rfl (HT3.out.setAll _ _ _ _ _ _ _)) rfl ?_
          rw [HQ.out.1, HQ.out.2.1, HQ.out.2.2.1, HQ.out.2.2.2]
          exact ⟨none, 0, none, 0, rfl, ⟨World.ownsRow_nil _ _ _ _, World.ownsRow_nil _ _ _ _, fun g h e => by cases e⟩, below_grow HB3.out (by omega) (g2 _ _ _)⟩
        | true =>
          rw [kb] at HRE
          simp only [if_true, if_false, Bool.false_eq_true] at HRE
          go_wp2_with fail
          refine (HRA.out _).mono ?_
          rintro e w1 ⟨A1, c1, rfl, o1, b1⟩
          have HO1 := Lib.hid o1
          have HB1 := Lib.hid (below_on HBD.out b1)
          have HT1 := Lib.hid (HTD.out.on b1)
          have hs1 : w.heap.size + 1 ≤ w1.heap.size := by have := HTD.out.lt; have := b1.size; omega
          clear o1 b1
          go_wp2_with fail
          refine (HRE.out _).mono ?_
          rintro e w2 ⟨A2, c2, rfl, o2, b2⟩
          have HO1' := Lib.hid (own_keep HO1.out b2)
          have HLT1 : Hid (∀ g, A1 = some ⟨g, 0, none⟩ → g < w1.heap.size) := fun g hg => (own_block HO1.out hg).2
          have HO2 := Lib.hid o2
          have HB2 := Lib.hid (below_on HB1.out b2)
          have HT2 := Lib.hid (HT1.out.on b2)
          have hs2 : w1.heap.size ≤ w2.heap.size := b2.size
          clear o2 b2 HO1
          have hla := HLA.out
          have hle := HLEB.out
          have HT3 := Lib.hid (HT2.out.on (below1 w2 (.cells #[.bool ng, .slice A1 (readX (tb (rrA t))).length c1, .slice A2 (readX (tb (rrB t))).length c2] 34)))
          have HR3 := Lib.hid (RatAt.new w2 34 ng A1 A2 (readX (tb (rrA t))).length c1 (readX (tb (rrB t))).length c2)
          have HB3 := Lib.hid (below_on HB2.out (below1 w2 (.cells #[.bool ng, .slice A1 (readX (tb (rrA t))).length c1, .slice A2 (readX (tb (rrB t))).length c2] 34)))
          have HX3 := Lib.hid (rd_on (own_rd' HO1'.out) (below1 w2 (.cells #[.bool ng, .slice A1 (readX (tb (rrA t))).length c1, .slice A2 (readX (tb (rrB t))).length c2] 34)))
          have HY3 := Lib.hid (rd_on (own_rd' HO2.out) (below1 w2 (.cells #[.bool ng, .slice A1 (readX (tb (rrA t))).length c1, .slice A2 (readX (tb (rrB t))).length c2] 34)))
          have HOA := Lib.hid (own_keep HO1'.out (below1 w2 (.cells #[.bool ng, .slice A1 (readX (tb (rrA t))).length c1, .slice A2 (readX (tb (rrB t))).length c2] 34)))
          have HOB := Lib.hid (own_keep HO2.out (below1 w2 (.cells #[.bool ng, .slice A1 (readX (tb (rrA t))).length c1, .slice A2 (readX (tb (rrB t))).length c2] 34)))
          have r0 := HR3.out.c0
          have r1 := HR3.out.c1
          have r2 := HR3.out.c2
          go_wp2_with fail
          refine (implRatOK_any ng A1 A2 _ c1 _ c2 (readX (tb (rrA t))) (readX (tb (rrB t))) _ _ _ HX3.out HY3.out (by omega) (by omega)).mono ?_
          rintro e w4 ⟨rfl, bb⟩
          have HT4 := Lib.hid (HT3.out.on bb)
          have HR4 := Lib.hid (HR3.out.on bb)
          have HB4 := Lib.hid (below_on HB3.out bb)
          have HOA4 := Lib.hid (own_keep HOA.out bb)
          have HOB4 := Lib.hid (own_keep HOB.out bb)
          clear bb r0 r1 r2
          have f0 := HT4.out.fz 0
          have f1 := HT4.out.fz 1
          have f2 := HT4.out.fz 2
          have y0 := HT4.out.c0
          have y1 := HT4.out.c1
          have y2 := HT4.out.c2
          have r0 := HR4.out.c0
          have r1 := HR4.out.c1
          have r2 := HR4.out.c2
          cases kr : okR ng (readX (tb (rrA t))) (readX (tb (rrB t))) with
          | false =>
            have hno : rrOk t = false := by rw [HOK.out, kr]; simp
            have HQ := Lib.hid (rr_form HLONG.out hno)
            clear hno
            go_wp2
            have g2 := fun b u v => setAll_grown w4 w.heap.size (.bool b) u v
            refine bodyPost_ret (retRC rfl _ _ _ rfl (HT4.out.setAll _ _ _ _ _ _ _)) rfl ?_
            rw [HQ.out.1, HQ.out.2.1, HQ.out.2.2.1, HQ.out.2.2.2]
            exact ⟨none, 0, none, 0, rfl, ⟨World.ownsRow_nil _ _ _ _, World.ownsRow_nil _ _ _ _, fun g h e => by cases e⟩, below_grow HB4.out (by omega) (g2 _ _ _)⟩
          | true =>
            have hyes : rrOk t = true := by rw [HOK.out, ka, kb, kr]; simp [HNB.out]
            have HQ := Lib.hid (rr_good HLONG.out hyes)
            clear hyes
            go_wp2
            have g2 := fun b u v => setAll_grown w4 w.heap.size (.bool b) u v
            refine bodyPost_ret (retRC rfl _ _ _ rfl (HT4.out.setAll _ _ _ _ _ _ _)) rfl ?_
            rw [HQ.out.1, HQ.out.2.1, HQ.out.2.2.1, HQ.out.2.2.2, HE.out, HNG.out]
            exact ⟨A1, c1, A2, c2, rfl, ⟨own_mono (own_gone HOA4.out (g2 _ _ _) (fun k hk => by have := (own_block HOA4.out hk).1; have := HTD.out.lt; omega)) (by have := HTD.out.lt; omega), own_mono (own_gone HOB4.out (g2 _ _ _) (fun k hk => by have := (own_block HOB4.out hk).1; omega)) (by omega), fun g h e1 e2 => by have := HLT1.out g e1; have := (own_block HOB4.out e2).1; omega⟩, below_grow HB4.out (by omega) (g2 _ _ _)⟩
end Go.Proofs.Ytndeimodphmpkaa
