/-
  ReadRat of the model.
-/
import Derived.Test.YtndeimodphmpkaaSpecCut
import Derived.Test.YtndeimodphmpkaaGrpC
import Derived.Test.YtndeimodphmpkaaImplReadRat
namespace Nt
open Go Go.RowKit
theorem rd_nil (w : World) (P : Nat → Prop) : Rd w P none 0 0 [] := ⟨rfl, Nat.le_refl _, fun _ => rfl, fun h => by omega⟩
theorem cmp_one {b : List UInt8} (h : readOk (tb b) = true) : readX (tb b) = D (readN (tb b)) ∧ (cmpI (readN (tb b)) 1 == 0) = decide (b = [49]) := by
  have h' := h
  unfold readOk at h
  simp only [Bool.and_eq_true, Bool.not_eq_true', decide_eq_false_iff_not] at h
  have hx := (readOk_good h.1 h.2).2
  refine ⟨hx, ?_⟩
  by_cases e : b = [49]
  · have h1 := hx.symm.trans (by rw [e]; exact read_one.2 : readX (tb b) = [1])
    have : readN (tb b) = 1 := by
      have := congrArg natOf h1
      rw [natOf_D] at this
      rw [this]
      rfl
    rw [this, decide_eq_true e]
    rfl
  · rw [decide_eq_false e]
    have hne : readN (tb b) ≠ 1 := fun h1 => e (one_text h' (by rw [hx, h1]; rfl))
    unfold cmpI
    rw [if_neg hne]
    split <;> rfl
theorem rr_one (t : List UInt8) (h : rrF t = false) : rrOk t = (readOk (tb (rrA t)) && okR (rrNeg t) (readX (tb (rrA t))) [1]) := by
  unfold rrOk rrE
  rw [h, if_neg (by decide), read_one.1, read_one.2]
  simp
theorem rr_two (t : List UInt8) (h : rrF t = true) : rrOk t = (!decide (rrB t = [49]) && readOk (tb (rrA t)) && readOk (tb (rrB t)) && okR (rrNeg t) (readX (tb (rrA t))) (readX (tb (rrB t)))) ∧ rrE t = rrB t := by
  unfold rrOk rrE
  rw [h, if_pos rfl]
  exact ⟨by simp, rfl⟩
/-- how many parts there are -/
theorem rr_segs (t : List UInt8) : (segs (rrD t) = [rrA t] ∧ rrF t = false) ∨ (segs (rrD t) = [rrA t, rrB t] ∧ rrF t = true) ∨ ((∃ r x, segs (rrD t) = rrA t :: x :: r ∧ 1 ≤ r.length) ∧ rrF t = true ∧ readOk (tb (rrB t)) = false) := by
  rcases rr_parts t with ⟨h, e1, _, e3⟩ | ⟨m, h1, h2, h3, e1, e2, e3⟩
  · exact .inl ⟨by rw [segs_none _ h, e1], e3⟩
  · have hc := segs_cut (rrD t) m h1 h2 h3
    rw [← e1, ← e2] at hc
    rcases stroke (rrB t) with q | ⟨k, q1, q2, q3⟩
    · exact .inr (.inl ⟨by rw [hc, segs_none _ q], e3⟩)
    · refine .inr (.inr ⟨?_, e3, read_stroke q2 q3⟩)
      rw [hc, segs_cut _ k q1 q2 q3]
      exact ⟨_, _, rfl, (segs_len_le _).1⟩
theorem rr_sign (t : List UInt8) : (rrNeg t = true ∧ 0 < t.length ∧ byteAt (tb t) 0 = 45 ∧ rrD t = t.drop 1) ∨ (rrNeg t = false ∧ rrD t = t ∧ (t = [] ∨ 0 < t.length ∧ byteAt (tb t) 0 ≠ 45)) := by
  unfold rrNeg rrD Lib.trimPrefix Lib.hasPrefix
  match t with
  | [] => exact .inr ⟨rfl, rfl, .inl rfl⟩
  | c :: l =>
    rw [tb_at]
    by_cases h : c = 45
    · subst h
      exact .inl ⟨by simp [List.isPrefixOf], by simp, rfl, by simp [List.isPrefixOf]⟩
    · have e : ([45] : List UInt8).isPrefixOf (c :: l) = false := by simp [List.isPrefixOf]; exact fun e => h e.symm
      rw [e]
      exact .inr ⟨rfl, rfl, .inr ⟨by simp, fun q => h (UInt8.toNat_inj.1 (by show c.toNat = 45; have q : ((c.toNat : Nat) : Int) = 45 := q; omega))⟩⟩
def orNil (k : Bool) (xs : List Int) : List Int := if k = true then xs else []
end Nt
namespace Go.Proofs.Ytndeimodphmpkaa
open Go Go.RowKit Nt
def SayK (w : World) (t : List UInt8) (e : Ending) (w' : World) : Prop :=
  ∃ A ca B cb, e = .returned (.tuple #[.agg #[.bool (rrOk t && rrNeg t), .slice A (orNil (rrOk t) (readX (tb (rrA t)))).length ca, .slice B (orNil (rrOk t) (readX (tb (rrE t)))).length cb], .bool (rrOk t)]) ∧ RdR w' (fun _ => True) (orNil (rrOk t) (readX (tb (rrA t)))) (orNil (rrOk t) (readX (tb (rrE t)))) A ca B cb ∧ Below w.heap.size w w'
theorem sayK_no {w w' : World} {t : List UInt8} (h : rrOk t = false) (hb : Below w.heap.size w w') : SayK w t (.returned (.tuple #[.agg #[.bool false, .slice none 0 0, .slice none 0 0], .bool false])) w' := by
  unfold SayK
  rw [h]
  exact ⟨none, 0, none, 0, rfl, ⟨rd_nil _ _, rd_nil _ _⟩, hb⟩
theorem sayK_yes {w w' : World} {t : List UInt8} {ng : Bool} {A B : Option Addr} {ca cb : Nat} {X Y : List Int} (h : rrOk t = true) (hn : rrNeg t = ng) (hx : readX (tb (rrA t)) = X) (hy : readX (tb (rrE t)) = Y) (h1 : Rd w' (fun _ => True) A X.length ca X) (h2 : Rd w' (fun _ => True) B Y.length cb Y) (hb : Below w.heap.size w w') : SayK w t (.returned (.tuple #[.agg #[.bool ng, .slice A X.length ca, .slice B Y.length cb], .bool true])) w' := by
  unfold SayK
  rw [h, hn, hx, hy]
  exact ⟨A, ca, B, cb, rfl, ⟨h1, h2⟩, hb⟩

set_option linter.unusedVariables false in
set_option maxRecDepth 20000 in
set_option maxHeartbeats 6400000 in
theorem l02Read_any (t : List UInt8) (w : World) (hl : t.length ≤ 65536) : Calls Try.prog 36 #[.string (tb t)] w (SayK w t) := by
  have HL := Lib.hid hl
  have HAL := Lib.hid (show (rrA t).length ≤ 65536 from by have := rrA_len t; have := rrD_len t; omega)
  have HBL := Lib.hid (show (rrB t).length ≤ 65536 from by have := rrB_len t; have := rrD_len t; omega)
  have HXA := Lib.hid (readX_len (rrA t))
  have HXB := Lib.hid (readX_len (rrB t))
  have HSG := Lib.hid (rr_segs t)
  have HR1 := Lib.hid (fun (W : World) => l01Read_any (tb (rrA t)) W (by rw [tb_size]; have := HAL.out; omega))
  have HR2 := Lib.hid (fun (W : World) => l01Read_any (tb (rrB t)) W (by rw [tb_size]; have := HBL.out; omega))
  have HBW := Lib.hid (below1 w (.cells #[.bool false, .slice none 0 0, .slice none 0 0] 34))
  have HTW := Lib.hid (RatAt.new w 34 false none none 0 0 0 0)
  clear hl
  rcases rr_sign t with ⟨hn, h0, h45, hd⟩ | ⟨hn, hd, hc⟩
  · obtain ⟨ng, hng⟩ : ∃ ng, ng = true := ⟨_, rfl⟩
    have HNG : Hid (rrNeg t = ng) := hn.trans hng.symm
    have hpos : decide ((0 : Int) < (tb t).size) = true := by rw [tb_size]; simp; omega
    have hp0 : 0 < (tb t).size := by rw [tb_size]; exact h0
    have hbk := byteAt_eq (tb t) 0 hp0
    have hc45 : (byteAt (tb t) 0 == 45) = true := by rw [h45]; rfl
    have HCUT : Hid (∀ W : World, Calls Try.prog 69 #[.string ((tb t).extract 1 (tb t).size), .int .u8 47] W fun e w' => ∃ V c, e = .returned (.slice V (segs (rrD t)).length c) ∧ w'.ownsRow W.heap.size 9 1 (.slice V (segs (rrD t)).length c) (segs (rrD t)).length ((segs (rrD t)).map strV) ∧ Below W.heap.size W w') := fun W => by
      have e : (tb t).extract 1 (tb t).size = tb (rrD t) := by
        rw [ext_tb, hd]
        show tb ((t.drop 1).take _) = _
        rw [List.take_of_length_le (by rw [List.length_drop, tb_size]; exact Nat.le_refl _)]
      rw [e]
      exact l00Cut_any (tb (rrD t)) W (by rw [tb_size]; have := rrD_len t; have := HL.out; omega)
    have h1s : (1 : Int) ≤ (tb t).size := by rw [tb_size]; omega
    subst hng
    obtain ⟨ng, hng⟩ : ∃ ng, true = ng := ⟨_, rfl⟩
    rw [hng] at HNG
    have HTR := Lib.hid hng
    clear h45 hd hn h0 hng
    go_enter Try.func36, Try.ntmps36
    go_upto_region 4 with fail
    rw [HTR.out]
    go_wp2_with fail
    refine (HCUT.out _).mono ?_
    rintro e w1 ⟨V, c, rfl, ho, bb⟩
    have HT1 := Lib.hid (HTW.out.on bb)
    have HB1 := Lib.hid (below_on HBW.out bb)
    have hs1 : w.heap.size + 1 ≤ w1.heap.size := by have := HTW.out.lt; have := bb.size; omega
    rw [World.size_alloc] at ho
    have HO := Lib.hid ho
    clear ho bb HCUT HBW HTW
    rcases HSG.out with ⟨hsg, hf⟩ | ⟨hsg, hf⟩ | ⟨hsg, hf, hkb⟩
    · have HO1 : Hid (w1.ownsRow (w.heap.size + 1) 9 1 (.slice V 1 c) 1 [strV (rrA t)]) := by have h := HO.out; rw [hsg] at h; exact h
      rw [show (segs (rrD t)).length = 1 from by rw [hsg]; rfl]
      obtain ⟨g, cap, hV, _⟩ := own_succC (n := 0) HO1.out
      injection hV with hV
      subst hV
      have p0 : w1.cell? ⟨g, 0, none⟩ = some (.string (tb (rrA t))) := HO1.out.cellAt 0 (by omega)
      have HOK := Lib.hid (rr_one t hf)
      rw [HNG.out] at HOK
      have HE : Hid (readX (tb (rrE t)) = [1]) := by show _ = _; unfold rrE; rw [hf]; exact read_one.2
      go_wp2_with fail
      refine (HR1.out _).mono ?_
      rintro e w2 ⟨A1, c1, rfl, o1, b1⟩
      have HT2 := Lib.hid (HT1.out.on b1)
      have HB2 := Lib.hid (below_on HB1.out b1)
      have HO2 := Lib.hid (own_keepC HO1.out b1)
      have HX2 := Lib.hid ((own_rd' o1).mono (Q := fun _ => True) fun _ _ _ => trivial)
      have hs2 := b1.size
      clear o1 b1
      have hla := HXA.out
      have HT3 := Lib.hid ((HT2.out.on (below1 w2 (.cells #[.int .i64 1] 3))).on (below1 (w2.alloc (.cells #[.int .i64 1] 3)) (.cells #[.bool ng, .slice A1 (readX (tb (rrA t))).length c1, .slice (some ⟨w2.heap.size, 0, none⟩) 1 1] 34)))
      have HR3 := Lib.hid (RatAt.new (w2.alloc (.cells #[.int .i64 1] 3)) 34 ng A1 (some ⟨w2.heap.size, 0, none⟩) (readX (tb (rrA t))).length c1 1 1)
      have HB3 := Lib.hid (below_on (below_on HB2.out (below1 w2 (.cells #[.int .i64 1] 3))) (below1 (w2.alloc (.cells #[.int .i64 1] 3)) (.cells #[.bool ng, .slice A1 (readX (tb (rrA t))).length c1, .slice (some ⟨w2.heap.size, 0, none⟩) 1 1] 34)))
      have HX3 := Lib.hid (rd_on (rd_on HX2.out (below1 w2 (.cells #[.int .i64 1] 3))) (below1 (w2.alloc (.cells #[.int .i64 1] 3)) (.cells #[.bool ng, .slice A1 (readX (tb (rrA t))).length c1, .slice (some ⟨w2.heap.size, 0, none⟩) 1 1] 34)))
      have HY3 := Lib.hid (rd_on (show Rd (w2.alloc (.cells #[.int .i64 1] 3)) (fun _ => True) (some ⟨w2.heap.size, 0, none⟩) 1 1 [1] from (rd_one w2 3 1).mono fun _ _ _ => trivial) (below1 (w2.alloc (.cells #[.int .i64 1] 3)) (.cells #[.bool ng, .slice A1 (readX (tb (rrA t))).length c1, .slice (some ⟨w2.heap.size, 0, none⟩) 1 1] 34)))
      have hsz3 : (w2.alloc (.cells #[.int .i64 1] 3)).heap.size = w2.heap.size + 1 := World.size_alloc _ _
      cases ka : readOk (tb (rrA t)) with
      | false =>
        have f0 := HT3.out.fz 0
        have f1 := HT3.out.fz 1
        have f2 := HT3.out.fz 2
        have y0 := HT3.out.c0
        have y1 := HT3.out.c1
        have y2 := HT3.out.c2
        have HNO := Lib.hid (show rrOk t = false from by rw [HOK.out, ka]; rfl)
        go_wp2
        refine bodyPost_ret (retRC rfl _ _ _ rfl (HT3.out.setAll _ _ _ _ _ _ _)) rfl ?_
        exact sayK_no HNO.out (below_grow HB3.out (by omega) (setAll_grown _ w.heap.size _ _ _))
      | true =>
        have r0 := HR3.out.c0
        have r1 := HR3.out.c1
        have r2 := HR3.out.c2
        rw [hsz3] at r0 r1 r2
        go_wp2_with fail
        refine (specRatOK_any ng A1 (some ⟨w2.heap.size, 0, none⟩) _ c1 1 1 (readX (tb (rrA t))) [1] _ _ _ HX3.out HY3.out (by omega) (by omega)).mono ?_
        rintro e w4 ⟨rfl, bb⟩
        clear r0 r1 r2
        have HT4 := Lib.hid (HT3.out.on bb)
        have HB4 := Lib.hid (below_on HB3.out bb)
        have HX4 := Lib.hid (rd_on HX3.out bb)
        have HY4 := Lib.hid (rd_on HY3.out bb)
        have HR4 := Lib.hid (HR3.out.on bb)
        clear bb
        cases kr : okR ng (readX (tb (rrA t))) [1] with
        | false =>
          have f0 := HT4.out.fz 0
          have f1 := HT4.out.fz 1
          have f2 := HT4.out.fz 2
          have y0 := HT4.out.c0
          have y1 := HT4.out.c1
          have y2 := HT4.out.c2
          have HNO := Lib.hid (show rrOk t = false from by rw [HOK.out, kr]; simp)
          go_wp2
          refine bodyPost_ret (retRC rfl _ _ _ rfl (HT4.out.setAll _ _ _ _ _ _ _)) rfl ?_
          exact sayK_no HNO.out (below_grow HB4.out (by omega) (setAll_grown _ w.heap.size _ _ _))
        | true =>
          have f0 := HT4.out.fz 0
          have f1 := HT4.out.fz 1
          have f2 := HT4.out.fz 2
          have y0 := HT4.out.c0
          have y1 := HT4.out.c1
          have y2 := HT4.out.c2
          have r0 := HR4.out.c0
          have r1 := HR4.out.c1
          have r2 := HR4.out.c2
          rw [hsz3] at r0 r1 r2
          have HYES := Lib.hid (show rrOk t = true from by rw [HOK.out, ka, kr]; rfl)
          go_wp2
          refine bodyPost_ret (retRC rfl _ _ _ rfl (HT4.out.setAll _ _ _ _ _ _ _)) rfl ?_
          exact sayK_yes HYES.out HNG.out rfl HE.out (HX4.out.past HT4.out (setAll_grown _ w.heap.size _ _ _)) (HY4.out.past HT4.out (setAll_grown _ w.heap.size _ _ _)) (below_grow HB4.out (by omega) (setAll_grown _ w.heap.size _ _ _))
    · have HO1 : Hid (w1.ownsRow (w.heap.size + 1) 9 1 (.slice V 2 c) 2 [strV (rrA t), strV (rrB t)]) := by have h := HO.out; rw [hsg] at h; exact h
      rw [show (segs (rrD t)).length = 2 from by rw [hsg]; rfl]
      obtain ⟨g, cap, hV, _⟩ := own_succC (n := 1) HO1.out
      injection hV with hV
      subst hV
      have p0 : w1.cell? ⟨g, 0, none⟩ = some (.string (tb (rrA t))) := HO1.out.cellAt 0 (by omega)
      have HOK := Lib.hid (rr_two t hf).1
      have HEB := Lib.hid (rr_two t hf).2
      rw [HNG.out] at HOK
      go_wp2_with fail
      refine (HR1.out _).mono ?_
      rintro e w2 ⟨A1, c1, rfl, o1, b1⟩
      have HT2 := Lib.hid (HT1.out.on b1)
      have HB2 := Lib.hid (below_on HB1.out b1)
      have HO2 := Lib.hid (own_keepC HO1.out b1)
      have HX2 := Lib.hid ((own_rd' o1).mono (Q := fun _ => True) fun _ _ _ => trivial)
      have hs2 := b1.size
      clear o1 b1
      have hla := HXA.out
      have hsz2 : (w2.alloc (.cells #[.int .i64 1] 3)).heap.size = w2.heap.size + 1 := World.size_alloc _ _
      have p1 : (w2.alloc (.cells #[.int .i64 1] 3)).cell? ⟨g, 1, none⟩ = some (.string (tb (rrB t))) := (own_keepC HO2.out (below1 w2 (.cells #[.int .i64 1] 3))).cellAt 1 (by omega)
      have HT2a := Lib.hid (HT2.out.on (below1 w2 (.cells #[.int .i64 1] 3)))
      have HB2a := Lib.hid (below_on HB2.out (below1 w2 (.cells #[.int .i64 1] 3)))
      have HX2a := Lib.hid (rd_on HX2.out (below1 w2 (.cells #[.int .i64 1] 3)))
      clear p0
      go_wp2_with fail
      refine (HR2.out _).mono ?_
      rintro e w3 ⟨A2, c2, rfl, o2, b2⟩
      have HT2b := Lib.hid (HT2a.out.on b2)
      have HB2b := Lib.hid (below_on HB2a.out b2)
      have HX2b := Lib.hid (rd_on HX2a.out b2)
      have HY2b := Lib.hid ((own_rd' o2).mono (Q := fun _ => True) fun _ _ _ => trivial)
      have hs3 := b2.size
      rw [hsz2] at hs3
      have hlb := HXB.out
      clear o2 b2 p1 HT2a HB2a HX2a
      have HT3 := Lib.hid (HT2b.out.on (below1 w3 (.cells #[.bool ng, .slice A1 (readX (tb (rrA t))).length c1, .slice A2 (readX (tb (rrB t))).length c2] 34)))
      have HR3 := Lib.hid (RatAt.new w3 34 ng A1 A2 (readX (tb (rrA t))).length c1 (readX (tb (rrB t))).length c2)
      have HB3 := Lib.hid (below_on HB2b.out (below1 w3 (.cells #[.bool ng, .slice A1 (readX (tb (rrA t))).length c1, .slice A2 (readX (tb (rrB t))).length c2] 34)))
      have HX3 := Lib.hid (rd_on HX2b.out (below1 w3 (.cells #[.bool ng, .slice A1 (readX (tb (rrA t))).length c1, .slice A2 (readX (tb (rrB t))).length c2] 34)))
      have HY3 := Lib.hid (rd_on HY2b.out (below1 w3 (.cells #[.bool ng, .slice A1 (readX (tb (rrA t))).length c1, .slice A2 (readX (tb (rrB t))).length c2] 34)))
      cases ka : readOk (tb (rrA t)) with
      | false =>
        have f0 := HT3.out.fz 0
        have f1 := HT3.out.fz 1
        have f2 := HT3.out.fz 2
        have y0 := HT3.out.c0
        have y1 := HT3.out.c1
        have y2 := HT3.out.c2
        have HNO := Lib.hid (show rrOk t = false from by rw [HOK.out, ka]; simp)
        go_wp2
        refine bodyPost_ret (retRC rfl _ _ _ rfl (HT3.out.setAll _ _ _ _ _ _ _)) rfl ?_
        exact sayK_no HNO.out (below_grow HB3.out (by omega) (setAll_grown _ w.heap.size _ _ _))
      | true =>
      cases kb : readOk (tb (rrB t)) with
      | false =>
        have f0 := HT3.out.fz 0
        have f1 := HT3.out.fz 1
        have f2 := HT3.out.fz 2
        have y0 := HT3.out.c0
        have y1 := HT3.out.c1
        have y2 := HT3.out.c2
        have HNO := Lib.hid (show rrOk t = false from by rw [HOK.out, kb]; simp)
        go_wp2
        refine bodyPost_ret (retRC rfl _ _ _ rfl (HT3.out.setAll _ _ _ _ _ _ _)) rfl ?_
        exact sayK_no HNO.out (below_grow HB3.out (by omega) (setAll_grown _ w.heap.size _ _ _))
      | true =>
        obtain ⟨hxb, hcm⟩ := cmp_one kb
        have HYD : Hid (Rd (w3.alloc (.cells #[.bool ng, .slice A1 (readX (tb (rrA t))).length c1, .slice A2 (readX (tb (rrB t))).length c2] 34)) (fun _ => True) A2 (readX (tb (rrB t))).length c2 (D (readN (tb (rrB t))))) := by have h := HY3.out; rw [hxb] at h ⊢; exact h
        have HYD2 := Lib.hid (rd_on HYD.out (below1 (w3.alloc (.cells #[.bool ng, .slice A1 (readX (tb (rrA t))).length c1, .slice A2 (readX (tb (rrB t))).length c2] 34)) (.cells #[.int .i64 1] 3)))
        have hszb : (w3.alloc (.cells #[.bool ng, .slice A1 (readX (tb (rrA t))).length c1, .slice A2 (readX (tb (rrB t))).length c2] 34)).heap.size = w3.heap.size + 1 := World.size_alloc _ _
        have HLT : Hid (Rd ((w3.alloc (.cells #[.bool ng, .slice A1 (readX (tb (rrA t))).length c1, .slice A2 (readX (tb (rrB t))).length c2] 34)).alloc (.cells #[.int .i64 1] 3)) (fun _ => True) (some ⟨w3.heap.size + 1, 0, none⟩) 1 1 (D 1)) := by have h := Nm.lit (w3.alloc (.cells #[.bool ng, .slice A1 (readX (tb (rrA t))).length c1, .slice A2 (readX (tb (rrB t))).length c2] 34)) 3; rw [hszb] at h; exact h
        have HT4 := Lib.hid (HT3.out.on (below1 (w3.alloc (.cells #[.bool ng, .slice A1 (readX (tb (rrA t))).length c1, .slice A2 (readX (tb (rrB t))).length c2] 34)) (.cells #[.int .i64 1] 3)))
        have HB4 := Lib.hid (below_on HB3.out (below1 (w3.alloc (.cells #[.bool ng, .slice A1 (readX (tb (rrA t))).length c1, .slice A2 (readX (tb (rrB t))).length c2] 34)) (.cells #[.int .i64 1] 3)))
        have HX4 := Lib.hid (rd_on HX3.out (below1 (w3.alloc (.cells #[.bool ng, .slice A1 (readX (tb (rrA t))).length c1, .slice A2 (readX (tb (rrB t))).length c2] 34)) (.cells #[.int .i64 1] 3)))
        have HY4 := Lib.hid (rd_on HY3.out (below1 (w3.alloc (.cells #[.bool ng, .slice A1 (readX (tb (rrA t))).length c1, .slice A2 (readX (tb (rrB t))).length c2] 34)) (.cells #[.int .i64 1] 3)))
        have HR4 := Lib.hid (HR3.out.on (below1 (w3.alloc (.cells #[.bool ng, .slice A1 (readX (tb (rrA t))).length c1, .slice A2 (readX (tb (rrB t))).length c2] 34)) (.cells #[.int .i64 1] 3)))
        clear hxb HYD HT3 HB3 HX3 HY3 HR3
        go_wp2_with fail
        refine (l01Cmp_any A2 (some ⟨w3.heap.size + 1, 0, none⟩) _ c2 1 1 (readN (tb (rrB t))) 1 _ _ _ HYD2.out HLT.out (by omega) (by omega)).mono ?_
        rintro e w5 ⟨rfl, dd⟩
        have bb := dd.below ((w3.alloc (.cells #[.bool ng, .slice A1 (readX (tb (rrA t))).length c1, .slice A2 (readX (tb (rrB t))).length c2] 34)).alloc (.cells #[.int .i64 1] 3)).heap.size
        have HT5 := Lib.hid (HT4.out.on bb)
        have HB5 := Lib.hid (below_on HB4.out bb)
        have HX5 := Lib.hid (rd_on HX4.out bb)
        have HY5 := Lib.hid (rd_on HY4.out bb)
        have HR5 := Lib.hid (HR4.out.on bb)
        clear bb dd HT4 HB4 HX4 HY4 HR4 HYD2 HLT
        obtain ⟨z, hz⟩ : ∃ z, cmpI (readN (tb (rrB t))) 1 = z := ⟨_, rfl⟩
        rw [hz] at hcm ⊢
        clear hz
        by_cases h49 : rrB t = [49]
        · rw [decide_eq_true h49] at hcm
          have f0 := HT5.out.fz 0
          have f1 := HT5.out.fz 1
          have f2 := HT5.out.fz 2
          have y0 := HT5.out.c0
          have y1 := HT5.out.c1
          have y2 := HT5.out.c2
          have HNO := Lib.hid (show rrOk t = false from by rw [HOK.out, decide_eq_true h49]; rfl)
          go_wp2
          refine bodyPost_ret (retRC rfl _ _ _ rfl (HT5.out.setAll _ _ _ _ _ _ _)) rfl ?_
          exact sayK_no HNO.out (below_grow HB5.out (by omega) (setAll_grown _ w.heap.size _ _ _))
        · rw [decide_eq_false h49] at hcm
          have HN49 := Lib.hid h49
          clear h49
          have r0 := HR5.out.c0
          have r1 := HR5.out.c1
          have r2 := HR5.out.c2
          go_wp2_with fail
          refine (specRatOK_any ng A1 A2 _ c1 _ c2 (readX (tb (rrA t))) (readX (tb (rrB t))) _ _ _ HX5.out HY5.out (by omega) (by omega)).mono ?_
          rintro e w6 ⟨rfl, bb⟩
          clear r0 r1 r2
          have HT6 := Lib.hid (HT5.out.on bb)
          have HB6 := Lib.hid (below_on HB5.out bb)
          have HX6 := Lib.hid (rd_on HX5.out bb)
          have HY6 := Lib.hid (rd_on HY5.out bb)
          have HR6 := Lib.hid (HR5.out.on bb)
          clear bb
          cases kr : okR ng (readX (tb (rrA t))) (readX (tb (rrB t))) with
          | false =>
            have f0 := HT6.out.fz 0
            have f1 := HT6.out.fz 1
            have f2 := HT6.out.fz 2
            have y0 := HT6.out.c0
            have y1 := HT6.out.c1
            have y2 := HT6.out.c2
            have HNO := Lib.hid (show rrOk t = false from by rw [HOK.out, kr]; simp)
            go_wp2
            refine bodyPost_ret (retRC rfl _ _ _ rfl (HT6.out.setAll _ _ _ _ _ _ _)) rfl ?_
            exact sayK_no HNO.out (below_grow HB6.out (by omega) (setAll_grown _ w.heap.size _ _ _))
          | true =>
            have f0 := HT6.out.fz 0
            have f1 := HT6.out.fz 1
            have f2 := HT6.out.fz 2
            have y0 := HT6.out.c0
            have y1 := HT6.out.c1
            have y2 := HT6.out.c2
            have r0 := HR6.out.c0
            have r1 := HR6.out.c1
            have r2 := HR6.out.c2
            have HYES := Lib.hid (show rrOk t = true from by rw [HOK.out, ka, kb, kr, decide_eq_false HN49.out]; rfl)
            have HEY := Lib.hid (show readX (tb (rrE t)) = readX (tb (rrB t)) from by rw [HEB.out])
            go_wp2
            refine bodyPost_ret (retRC rfl _ _ _ rfl (HT6.out.setAll _ _ _ _ _ _ _)) rfl ?_
            exact sayK_yes HYES.out HNG.out rfl HEY.out (HX6.out.past HT6.out (setAll_grown _ w.heap.size _ _ _)) (HY6.out.past HT6.out (setAll_grown _ w.heap.size _ _ _)) (below_grow HB6.out (by omega) (setAll_grown _ w.heap.size _ _ _))
    · obtain ⟨r, x, hsg, hr⟩ := hsg
      obtain ⟨L, hL⟩ : ∃ L, (segs (rrD t)).length = L + 1 := ⟨(segs (rrD t)).length - 1, by rw [hsg]; simp⟩
      have hL2 : 2 ≤ L := by have h := hL; rw [hsg] at h; simp at h; omega
      have HO1 : Hid (w1.ownsRow (w.heap.size + 1) 9 1 (.slice V (L + 1) c) (L + 1) (strV (rrA t) :: (x :: r).map strV)) := by have h := HO.out; rw [hL] at h; rw [hsg] at h; exact h
      rw [hL]
      obtain ⟨g, cap, hV, _⟩ := own_succC (n := L) HO1.out
      injection hV with hV
      subst hV
      have p0 : w1.cell? ⟨g, 0, none⟩ = some (.string (tb (rrA t))) := HO1.out.cellAt 0 (by omega)
      have HOK := Lib.hid (show rrOk t = false from by rw [(rr_two t hf).1, hkb]; simp)
      have hn2 : (((L + 1 : Nat) : Int) == 2) = false := beq_eq_false_iff_ne.2 (by omega)
      have hn3 : ((L : Int) + 1 == 2) = false := beq_eq_false_iff_ne.2 (by omega)
      have hg2 : decide ((2 : Int) < ((L + 1 : Nat) : Int)) = true := decide_eq_true (by omega)
      have hg3 : decide ((2 : Int) < (L : Int) + 1) = true := decide_eq_true (by omega)
      clear hsg hL hr hkb hf
      go_wp2_with fail
      refine (HR1.out _).mono ?_
      rintro e w2 ⟨A1, c1, rfl, o1, b1⟩
      have HT2 := Lib.hid (HT1.out.on b1)
      have HB2 := Lib.hid (below_on HB1.out b1)
      have HO2 := Lib.hid (own_keepC HO1.out b1)
      have HX2 := Lib.hid ((own_rd' o1).mono (Q := fun _ => True) fun _ _ _ => trivial)
      have hs2 := b1.size
      clear o1 b1
      have hla := HXA.out
      have HT3 := Lib.hid ((HT2.out.on (below1 w2 (.cells #[.int .i64 1] 3))).on (below1 (w2.alloc (.cells #[.int .i64 1] 3)) (.cells #[.bool ng, .slice A1 (readX (tb (rrA t))).length c1, .slice (some ⟨w2.heap.size, 0, none⟩) 1 1] 34)))
      have HB3 := Lib.hid (below_on (below_on HB2.out (below1 w2 (.cells #[.int .i64 1] 3))) (below1 (w2.alloc (.cells #[.int .i64 1] 3)) (.cells #[.bool ng, .slice A1 (readX (tb (rrA t))).length c1, .slice (some ⟨w2.heap.size, 0, none⟩) 1 1] 34)))
      cases ka : readOk (tb (rrA t)) with
      | false =>
        have f0 := HT3.out.fz 0
        have f1 := HT3.out.fz 1
        have f2 := HT3.out.fz 2
        have y0 := HT3.out.c0
        have y1 := HT3.out.c1
        have y2 := HT3.out.c2
        have HNO := Lib.hid (show rrOk t = false from by exact HOK.out)
        go_wp2
        refine bodyPost_ret (retRC rfl _ _ _ rfl (HT3.out.setAll _ _ _ _ _ _ _)) rfl ?_
        exact sayK_no HNO.out (below_grow HB3.out (by omega) (setAll_grown _ w.heap.size _ _ _))
      | true =>
        have f0 := HT3.out.fz 0
        have f1 := HT3.out.fz 1
        have f2 := HT3.out.fz 2
        have y0 := HT3.out.c0
        have y1 := HT3.out.c1
        have y2 := HT3.out.c2
        have HNO := Lib.hid (show rrOk t = false from by exact HOK.out)
        go_wp2
        refine bodyPost_ret (retRC rfl _ _ _ rfl (HT3.out.setAll _ _ _ _ _ _ _)) rfl ?_
        exact sayK_no HNO.out (below_grow HB3.out (by omega) (setAll_grown _ w.heap.size _ _ _))
  · have HNG := Lib.hid hn
    clear hn
    have HCUT : Hid (∀ W : World, Calls Try.prog 69 #[.string (tb t), .int .u8 47] W fun e w' => ∃ V c, e = .returned (.slice V (segs (rrD t)).length c) ∧ w'.ownsRow W.heap.size 9 1 (.slice V (segs (rrD t)).length c) (segs (rrD t)).length ((segs (rrD t)).map strV) ∧ Below W.heap.size W w') := fun W => by
      rw [hd]
      exact l00Cut_any (tb t) W (by rw [tb_size]; have := HL.out; omega)
    clear hd
    rcases hc with rfl | ⟨h0, h45⟩
    · have hpos : decide ((0 : Int) < (tb []).size) = false := by rw [tb_size]; rfl
      go_enter Try.func36, Try.ntmps36
      go_upto_region 4 with fail
      go_wp2_with fail
      refine (HCUT.out _).mono ?_
      rintro e w1 ⟨V, c, rfl, ho, bb⟩
      have HT1 := Lib.hid (HTW.out.on bb)
      have HB1 := Lib.hid (below_on HBW.out bb)
      have hs1 : w.heap.size + 1 ≤ w1.heap.size := by have := HTW.out.lt; have := bb.size; omega
      rw [World.size_alloc] at ho
      have HO := Lib.hid ho
      clear ho bb HCUT HBW HTW
      rcases HSG.out with ⟨hsg, hf⟩ | ⟨hsg, hf⟩ | ⟨hsg, hf, hkb⟩
      · have HO1 : Hid (w1.ownsRow (w.heap.size + 1) 9 1 (.slice V 1 c) 1 [strV (rrA [])]) := by have h := HO.out; rw [hsg] at h; exact h
        rw [show (segs (rrD [])).length = 1 from by rw [hsg]; rfl]
        obtain ⟨g, cap, hV, _⟩ := own_succC (n := 0) HO1.out
        injection hV with hV
        subst hV
        have p0 : w1.cell? ⟨g, 0, none⟩ = some (.string (tb (rrA []))) := HO1.out.cellAt 0 (by omega)
        have HOK := Lib.hid (rr_one [] hf)
        rw [HNG.out] at HOK
        have HE : Hid (readX (tb (rrE [])) = [1]) := by show _ = _; unfold rrE; rw [hf]; exact read_one.2
        go_wp2_with fail
        refine (HR1.out _).mono ?_
        rintro e w2 ⟨A1, c1, rfl, o1, b1⟩
        have HT2 := Lib.hid (HT1.out.on b1)
        have HB2 := Lib.hid (below_on HB1.out b1)
        have HO2 := Lib.hid (own_keepC HO1.out b1)
        have HX2 := Lib.hid ((own_rd' o1).mono (Q := fun _ => True) fun _ _ _ => trivial)
        have hs2 := b1.size
        clear o1 b1
        have hla := HXA.out
        have HT3 := Lib.hid ((HT2.out.on (below1 w2 (.cells #[.int .i64 1] 3))).on (below1 (w2.alloc (.cells #[.int .i64 1] 3)) (.cells #[.bool false, .slice A1 (readX (tb (rrA []))).length c1, .slice (some ⟨w2.heap.size, 0, none⟩) 1 1] 34)))
        have HR3 := Lib.hid (RatAt.new (w2.alloc (.cells #[.int .i64 1] 3)) 34 false A1 (some ⟨w2.heap.size, 0, none⟩) (readX (tb (rrA []))).length c1 1 1)
        have HB3 := Lib.hid (below_on (below_on HB2.out (below1 w2 (.cells #[.int .i64 1] 3))) (below1 (w2.alloc (.cells #[.int .i64 1] 3)) (.cells #[.bool false, .slice A1 (readX (tb (rrA []))).length c1, .slice (some ⟨w2.heap.size, 0, none⟩) 1 1] 34)))
        have HX3 := Lib.hid (rd_on (rd_on HX2.out (below1 w2 (.cells #[.int .i64 1] 3))) (below1 (w2.alloc (.cells #[.int .i64 1] 3)) (.cells #[.bool false, .slice A1 (readX (tb (rrA []))).length c1, .slice (some ⟨w2.heap.size, 0, none⟩) 1 1] 34)))
        have HY3 := Lib.hid (rd_on (show Rd (w2.alloc (.cells #[.int .i64 1] 3)) (fun _ => True) (some ⟨w2.heap.size, 0, none⟩) 1 1 [1] from (rd_one w2 3 1).mono fun _ _ _ => trivial) (below1 (w2.alloc (.cells #[.int .i64 1] 3)) (.cells #[.bool false, .slice A1 (readX (tb (rrA []))).length c1, .slice (some ⟨w2.heap.size, 0, none⟩) 1 1] 34)))
        have hsz3 : (w2.alloc (.cells #[.int .i64 1] 3)).heap.size = w2.heap.size + 1 := World.size_alloc _ _
        cases ka : readOk (tb (rrA [])) with
        | false =>
          have f0 := HT3.out.fz 0
          have f1 := HT3.out.fz 1
          have f2 := HT3.out.fz 2
          have y0 := HT3.out.c0
          have y1 := HT3.out.c1
          have y2 := HT3.out.c2
          have HNO := Lib.hid (show rrOk [] = false from by rw [HOK.out, ka]; rfl)
          go_wp2
          refine bodyPost_ret (retRC rfl _ _ _ rfl (HT3.out.setAll _ _ _ _ _ _ _)) rfl ?_
          exact sayK_no HNO.out (below_grow HB3.out (by omega) (setAll_grown _ w.heap.size _ _ _))
        | true =>
          have r0 := HR3.out.c0
          have r1 := HR3.out.c1
          have r2 := HR3.out.c2
          rw [hsz3] at r0 r1 r2
          go_wp2_with fail
          refine (specRatOK_any false A1 (some ⟨w2.heap.size, 0, none⟩) _ c1 1 1 (readX (tb (rrA []))) [1] _ _ _ HX3.out HY3.out (by omega) (by omega)).mono ?_
          rintro e w4 ⟨rfl, bb⟩
          clear r0 r1 r2
          have HT4 := Lib.hid (HT3.out.on bb)
          have HB4 := Lib.hid (below_on HB3.out bb)
          have HX4 := Lib.hid (rd_on HX3.out bb)
          have HY4 := Lib.hid (rd_on HY3.out bb)
          have HR4 := Lib.hid (HR3.out.on bb)
          clear bb
          cases kr : okR false (readX (tb (rrA []))) [1] with
          | false =>
            have f0 := HT4.out.fz 0
            have f1 := HT4.out.fz 1
            have f2 := HT4.out.fz 2
            have y0 := HT4.out.c0
            have y1 := HT4.out.c1
            have y2 := HT4.out.c2
            have HNO := Lib.hid (show rrOk [] = false from by rw [HOK.out, kr]; simp)
            go_wp2
            refine bodyPost_ret (retRC rfl _ _ _ rfl (HT4.out.setAll _ _ _ _ _ _ _)) rfl ?_
            exact sayK_no HNO.out (below_grow HB4.out (by omega) (setAll_grown _ w.heap.size _ _ _))
          | true =>
            have f0 := HT4.out.fz 0
            have f1 := HT4.out.fz 1
            have f2 := HT4.out.fz 2
            have y0 := HT4.out.c0
            have y1 := HT4.out.c1
            have y2 := HT4.out.c2
            have r0 := HR4.out.c0
            have r1 := HR4.out.c1
            have r2 := HR4.out.c2
            rw [hsz3] at r0 r1 r2
            have HYES := Lib.hid (show rrOk [] = true from by rw [HOK.out, ka, kr]; rfl)
            go_wp2
            refine bodyPost_ret (retRC rfl _ _ _ rfl (HT4.out.setAll _ _ _ _ _ _ _)) rfl ?_
            exact sayK_yes HYES.out HNG.out rfl HE.out (HX4.out.past HT4.out (setAll_grown _ w.heap.size _ _ _)) (HY4.out.past HT4.out (setAll_grown _ w.heap.size _ _ _)) (below_grow HB4.out (by omega) (setAll_grown _ w.heap.size _ _ _))
      · have HO1 : Hid (w1.ownsRow (w.heap.size + 1) 9 1 (.slice V 2 c) 2 [strV (rrA []), strV (rrB [])]) := by have h := HO.out; rw [hsg] at h; exact h
        rw [show (segs (rrD [])).length = 2 from by rw [hsg]; rfl]
        obtain ⟨g, cap, hV, _⟩ := own_succC (n := 1) HO1.out
        injection hV with hV
        subst hV
        have p0 : w1.cell? ⟨g, 0, none⟩ = some (.string (tb (rrA []))) := HO1.out.cellAt 0 (by omega)
        have HOK := Lib.hid (rr_two [] hf).1
        have HEB := Lib.hid (rr_two [] hf).2
        rw [HNG.out] at HOK
        go_wp2_with fail
        refine (HR1.out _).mono ?_
        rintro e w2 ⟨A1, c1, rfl, o1, b1⟩
        have HT2 := Lib.hid (HT1.out.on b1)
        have HB2 := Lib.hid (below_on HB1.out b1)
        have HO2 := Lib.hid (own_keepC HO1.out b1)
        have HX2 := Lib.hid ((own_rd' o1).mono (Q := fun _ => True) fun _ _ _ => trivial)
        have hs2 := b1.size
        clear o1 b1
        have hla := HXA.out
        have hsz2 : (w2.alloc (.cells #[.int .i64 1] 3)).heap.size = w2.heap.size + 1 := World.size_alloc _ _
        have p1 : (w2.alloc (.cells #[.int .i64 1] 3)).cell? ⟨g, 1, none⟩ = some (.string (tb (rrB []))) := (own_keepC HO2.out (below1 w2 (.cells #[.int .i64 1] 3))).cellAt 1 (by omega)
        have HT2a := Lib.hid (HT2.out.on (below1 w2 (.cells #[.int .i64 1] 3)))
        have HB2a := Lib.hid (below_on HB2.out (below1 w2 (.cells #[.int .i64 1] 3)))
        have HX2a := Lib.hid (rd_on HX2.out (below1 w2 (.cells #[.int .i64 1] 3)))
        clear p0
        go_wp2_with fail
        refine (HR2.out _).mono ?_
        rintro e w3 ⟨A2, c2, rfl, o2, b2⟩
        have HT2b := Lib.hid (HT2a.out.on b2)
        have HB2b := Lib.hid (below_on HB2a.out b2)
        have HX2b := Lib.hid (rd_on HX2a.out b2)
        have HY2b := Lib.hid ((own_rd' o2).mono (Q := fun _ => True) fun _ _ _ => trivial)
        have hs3 := b2.size
        rw [hsz2] at hs3
        have hlb := HXB.out
        clear o2 b2 p1 HT2a HB2a HX2a
        have HT3 := Lib.hid (HT2b.out.on (below1 w3 (.cells #[.bool false, .slice A1 (readX (tb (rrA []))).length c1, .slice A2 (readX (tb (rrB []))).length c2] 34)))
        have HR3 := Lib.hid (RatAt.new w3 34 false A1 A2 (readX (tb (rrA []))).length c1 (readX (tb (rrB []))).length c2)
        have HB3 := Lib.hid (below_on HB2b.out (below1 w3 (.cells #[.bool false, .slice A1 (readX (tb (rrA []))).length c1, .slice A2 (readX (tb (rrB []))).length c2] 34)))
        have HX3 := Lib.hid (rd_on HX2b.out (below1 w3 (.cells #[.bool false, .slice A1 (readX (tb (rrA []))).length c1, .slice A2 (readX (tb (rrB []))).length c2] 34)))
        have HY3 := Lib.hid (rd_on HY2b.out (below1 w3 (.cells #[.bool false, .slice A1 (readX (tb (rrA []))).length c1, .slice A2 (readX (tb (rrB []))).length c2] 34)))
        cases ka : readOk (tb (rrA [])) with
        | false =>
          have f0 := HT3.out.fz 0
          have f1 := HT3.out.fz 1
          have f2 := HT3.out.fz 2
          have y0 := HT3.out.c0
          have y1 := HT3.out.c1
          have y2 := HT3.out.c2
          have HNO := Lib.hid (show rrOk [] = false from by rw [HOK.out, ka]; simp)
          go_wp2
          refine bodyPost_ret (retRC rfl _ _ _ rfl (HT3.out.setAll _ _ _ _ _ _ _)) rfl ?_
          exact sayK_no HNO.out (below_grow HB3.out (by omega) (setAll_grown _ w.heap.size _ _ _))
        | true =>
        cases kb : readOk (tb (rrB [])) with
        | false =>
          have f0 := HT3.out.fz 0
          have f1 := HT3.out.fz 1
          have f2 := HT3.out.fz 2
          have y0 := HT3.out.c0
          have y1 := HT3.out.c1
          have y2 := HT3.out.c2
          have HNO := Lib.hid (show rrOk [] = false from by rw [HOK.out, kb]; simp)
          go_wp2
          refine bodyPost_ret (retRC rfl _ _ _ rfl (HT3.out.setAll _ _ _ _ _ _ _)) rfl ?_
          exact sayK_no HNO.out (below_grow HB3.out (by omega) (setAll_grown _ w.heap.size _ _ _))
        | true =>
          obtain ⟨hxb, hcm⟩ := cmp_one kb
          have HYD : Hid (Rd (w3.alloc (.cells #[.bool false, .slice A1 (readX (tb (rrA []))).length c1, .slice A2 (readX (tb (rrB []))).length c2] 34)) (fun _ => True) A2 (readX (tb (rrB []))).length c2 (D (readN (tb (rrB []))))) := by have h := HY3.out; rw [hxb] at h ⊢; exact h
          have HYD2 := Lib.hid (rd_on HYD.out (below1 (w3.alloc (.cells #[.bool false, .slice A1 (readX (tb (rrA []))).length c1, .slice A2 (readX (tb (rrB []))).length c2] 34)) (.cells #[.int .i64 1] 3)))
          have hszb : (w3.alloc (.cells #[.bool false, .slice A1 (readX (tb (rrA []))).length c1, .slice A2 (readX (tb (rrB []))).length c2] 34)).heap.size = w3.heap.size + 1 := World.size_alloc _ _
          have HLT : Hid (Rd ((w3.alloc (.cells #[.bool false, .slice A1 (readX (tb (rrA []))).length c1, .slice A2 (readX (tb (rrB []))).length c2] 34)).alloc (.cells #[.int .i64 1] 3)) (fun _ => True) (some ⟨w3.heap.size + 1, 0, none⟩) 1 1 (D 1)) := by have h := Nm.lit (w3.alloc (.cells #[.bool false, .slice A1 (readX (tb (rrA []))).length c1, .slice A2 (readX (tb (rrB []))).length c2] 34)) 3; rw [hszb] at h; exact h
          have HT4 := Lib.hid (HT3.out.on (below1 (w3.alloc (.cells #[.bool false, .slice A1 (readX (tb (rrA []))).length c1, .slice A2 (readX (tb (rrB []))).length c2] 34)) (.cells #[.int .i64 1] 3)))
          have HB4 := Lib.hid (below_on HB3.out (below1 (w3.alloc (.cells #[.bool false, .slice A1 (readX (tb (rrA []))).length c1, .slice A2 (readX (tb (rrB []))).length c2] 34)) (.cells #[.int .i64 1] 3)))
          have HX4 := Lib.hid (rd_on HX3.out (below1 (w3.alloc (.cells #[.bool false, .slice A1 (readX (tb (rrA []))).length c1, .slice A2 (readX (tb (rrB []))).length c2] 34)) (.cells #[.int .i64 1] 3)))
          have HY4 := Lib.hid (rd_on HY3.out (below1 (w3.alloc (.cells #[.bool false, .slice A1 (readX (tb (rrA []))).length c1, .slice A2 (readX (tb (rrB []))).length c2] 34)) (.cells #[.int .i64 1] 3)))
          have HR4 := Lib.hid (HR3.out.on (below1 (w3.alloc (.cells #[.bool false, .slice A1 (readX (tb (rrA []))).length c1, .slice A2 (readX (tb (rrB []))).length c2] 34)) (.cells #[.int .i64 1] 3)))
          clear hxb HYD HT3 HB3 HX3 HY3 HR3
          go_wp2_with fail
          refine (l01Cmp_any A2 (some ⟨w3.heap.size + 1, 0, none⟩) _ c2 1 1 (readN (tb (rrB []))) 1 _ _ _ HYD2.out HLT.out (by omega) (by omega)).mono ?_
          rintro e w5 ⟨rfl, dd⟩
          have bb := dd.below ((w3.alloc (.cells #[.bool false, .slice A1 (readX (tb (rrA []))).length c1, .slice A2 (readX (tb (rrB []))).length c2] 34)).alloc (.cells #[.int .i64 1] 3)).heap.size
          have HT5 := Lib.hid (HT4.out.on bb)
          have HB5 := Lib.hid (below_on HB4.out bb)
          have HX5 := Lib.hid (rd_on HX4.out bb)
          have HY5 := Lib.hid (rd_on HY4.out bb)
          have HR5 := Lib.hid (HR4.out.on bb)
          clear bb dd HT4 HB4 HX4 HY4 HR4 HYD2 HLT
          obtain ⟨z, hz⟩ : ∃ z, cmpI (readN (tb (rrB []))) 1 = z := ⟨_, rfl⟩
          rw [hz] at hcm ⊢
          clear hz
          by_cases h49 : rrB [] = [49]
          · rw [decide_eq_true h49] at hcm
            have f0 := HT5.out.fz 0
            have f1 := HT5.out.fz 1
            have f2 := HT5.out.fz 2
            have y0 := HT5.out.c0
            have y1 := HT5.out.c1
            have y2 := HT5.out.c2
            have HNO := Lib.hid (show rrOk [] = false from by rw [HOK.out, decide_eq_true h49]; rfl)
            go_wp2
            refine bodyPost_ret (retRC rfl _ _ _ rfl (HT5.out.setAll _ _ _ _ _ _ _)) rfl ?_
            exact sayK_no HNO.out (below_grow HB5.out (by omega) (setAll_grown _ w.heap.size _ _ _))
          · rw [decide_eq_false h49] at hcm
            have HN49 := Lib.hid h49
            clear h49
            have r0 := HR5.out.c0
            have r1 := HR5.out.c1
            have r2 := HR5.out.c2
            go_wp2_with fail
            refine (specRatOK_any false A1 A2 _ c1 _ c2 (readX (tb (rrA []))) (readX (tb (rrB []))) _ _ _ HX5.out HY5.out (by omega) (by omega)).mono ?_
            rintro e w6 ⟨rfl, bb⟩
            clear r0 r1 r2
            have HT6 := Lib.hid (HT5.out.on bb)
            have HB6 := Lib.hid (below_on HB5.out bb)
            have HX6 := Lib.hid (rd_on HX5.out bb)
            have HY6 := Lib.hid (rd_on HY5.out bb)
            have HR6 := Lib.hid (HR5.out.on bb)
            clear bb
            cases kr : okR false (readX (tb (rrA []))) (readX (tb (rrB []))) with
            | false =>
              have f0 := HT6.out.fz 0
              have f1 := HT6.out.fz 1
              have f2 := HT6.out.fz 2
              have y0 := HT6.out.c0
              have y1 := HT6.out.c1
              have y2 := HT6.out.c2
              have HNO := Lib.hid (show rrOk [] = false from by rw [HOK.out, kr]; simp)
              go_wp2
              refine bodyPost_ret (retRC rfl _ _ _ rfl (HT6.out.setAll _ _ _ _ _ _ _)) rfl ?_
              exact sayK_no HNO.out (below_grow HB6.out (by omega) (setAll_grown _ w.heap.size _ _ _))
            | true =>
              have f0 := HT6.out.fz 0
              have f1 := HT6.out.fz 1
              have f2 := HT6.out.fz 2
              have y0 := HT6.out.c0
              have y1 := HT6.out.c1
              have y2 := HT6.out.c2
              have r0 := HR6.out.c0
              have r1 := HR6.out.c1
              have r2 := HR6.out.c2
              have HYES := Lib.hid (show rrOk [] = true from by rw [HOK.out, ka, kb, kr, decide_eq_false HN49.out]; rfl)
              have HEY := Lib.hid (show readX (tb (rrE [])) = readX (tb (rrB [])) from by rw [HEB.out])
              go_wp2
              refine bodyPost_ret (retRC rfl _ _ _ rfl (HT6.out.setAll _ _ _ _ _ _ _)) rfl ?_
              exact sayK_yes HYES.out HNG.out rfl HEY.out (HX6.out.past HT6.out (setAll_grown _ w.heap.size _ _ _)) (HY6.out.past HT6.out (setAll_grown _ w.heap.size _ _ _)) (below_grow HB6.out (by omega) (setAll_grown _ w.heap.size _ _ _))
      · obtain ⟨r, x, hsg, hr⟩ := hsg
        obtain ⟨L, hL⟩ : ∃ L, (segs (rrD [])).length = L + 1 := ⟨(segs (rrD [])).length - 1, by rw [hsg]; simp⟩
        have hL2 : 2 ≤ L := by have h := hL; rw [hsg] at h; simp at h; omega
        have HO1 : Hid (w1.ownsRow (w.heap.size + 1) 9 1 (.slice V (L + 1) c) (L + 1) (strV (rrA []) :: (x :: r).map strV)) := by have h := HO.out; rw [hL] at h; rw [hsg] at h; exact h
        rw [hL]
        obtain ⟨g, cap, hV, _⟩ := own_succC (n := L) HO1.out
        injection hV with hV
        subst hV
        have p0 : w1.cell? ⟨g, 0, none⟩ = some (.string (tb (rrA []))) := HO1.out.cellAt 0 (by omega)
        have HOK := Lib.hid (show rrOk [] = false from by rw [(rr_two [] hf).1, hkb]; simp)
        have hn2 : (((L + 1 : Nat) : Int) == 2) = false := beq_eq_false_iff_ne.2 (by omega)
        have hn3 : ((L : Int) + 1 == 2) = false := beq_eq_false_iff_ne.2 (by omega)
        have hg2 : decide ((2 : Int) < ((L + 1 : Nat) : Int)) = true := decide_eq_true (by omega)
        have hg3 : decide ((2 : Int) < (L : Int) + 1) = true := decide_eq_true (by omega)
        clear hsg hL hr hkb hf
        go_wp2_with fail
        refine (HR1.out _).mono ?_
        rintro e w2 ⟨A1, c1, rfl, o1, b1⟩
        have HT2 := Lib.hid (HT1.out.on b1)
        have HB2 := Lib.hid (below_on HB1.out b1)
        have HO2 := Lib.hid (own_keepC HO1.out b1)
        have HX2 := Lib.hid ((own_rd' o1).mono (Q := fun _ => True) fun _ _ _ => trivial)
        have hs2 := b1.size
        clear o1 b1
        have hla := HXA.out
        have HT3 := Lib.hid ((HT2.out.on (below1 w2 (.cells #[.int .i64 1] 3))).on (below1 (w2.alloc (.cells #[.int .i64 1] 3)) (.cells #[.bool false, .slice A1 (readX (tb (rrA []))).length c1, .slice (some ⟨w2.heap.size, 0, none⟩) 1 1] 34)))
        have HB3 := Lib.hid (below_on (below_on HB2.out (below1 w2 (.cells #[.int .i64 1] 3))) (below1 (w2.alloc (.cells #[.int .i64 1] 3)) (.cells #[.bool false, .slice A1 (readX (tb (rrA []))).length c1, .slice (some ⟨w2.heap.size, 0, none⟩) 1 1] 34)))
        cases ka : readOk (tb (rrA [])) with
        | false =>
          have f0 := HT3.out.fz 0
          have f1 := HT3.out.fz 1
          have f2 := HT3.out.fz 2
          have y0 := HT3.out.c0
          have y1 := HT3.out.c1
          have y2 := HT3.out.c2
          have HNO := Lib.hid (show rrOk [] = false from by exact HOK.out)
          go_wp2
          refine bodyPost_ret (retRC rfl _ _ _ rfl (HT3.out.setAll _ _ _ _ _ _ _)) rfl ?_
          exact sayK_no HNO.out (below_grow HB3.out (by omega) (setAll_grown _ w.heap.size _ _ _))
        | true =>
          have f0 := HT3.out.fz 0
          have f1 := HT3.out.fz 1
          have f2 := HT3.out.fz 2
          have y0 := HT3.out.c0
          have y1 := HT3.out.c1
          have y2 := HT3.out.c2
          have HNO := Lib.hid (show rrOk [] = false from by exact HOK.out)
          go_wp2
          refine bodyPost_ret (retRC rfl _ _ _ rfl (HT3.out.setAll _ _ _ _ _ _ _)) rfl ?_
          exact sayK_no HNO.out (below_grow HB3.out (by omega) (setAll_grown _ w.heap.size _ _ _))
    · have hpos : decide ((0 : Int) < (tb t).size) = true := by rw [tb_size]; simp; omega
      have hp0 : 0 < (tb t).size := by rw [tb_size]; exact h0
      have hbk := byteAt_eq (tb t) 0 hp0
      have hc45 : (byteAt (tb t) 0 == 45) = false := beq_eq_false_iff_ne.2 h45
      clear h45 h0
      go_enter Try.func36, Try.ntmps36
      go_upto_region 4 with fail
      go_wp2_with fail
      refine (HCUT.out _).mono ?_
      rintro e w1 ⟨V, c, rfl, ho, bb⟩
      have HT1 := Lib.hid (HTW.out.on bb)
      have HB1 := Lib.hid (below_on HBW.out bb)
      have hs1 : w.heap.size + 1 ≤ w1.heap.size := by have := HTW.out.lt; have := bb.size; omega
      rw [World.size_alloc] at ho
      have HO := Lib.hid ho
      clear ho bb HCUT HBW HTW
      rcases HSG.out with ⟨hsg, hf⟩ | ⟨hsg, hf⟩ | ⟨hsg, hf, hkb⟩
      · have HO1 : Hid (w1.ownsRow (w.heap.size + 1) 9 1 (.slice V 1 c) 1 [strV (rrA t)]) := by have h := HO.out; rw [hsg] at h; exact h
        rw [show (segs (rrD t)).length = 1 from by rw [hsg]; rfl]
        obtain ⟨g, cap, hV, _⟩ := own_succC (n := 0) HO1.out
        injection hV with hV
        subst hV
        have p0 : w1.cell? ⟨g, 0, none⟩ = some (.string (tb (rrA t))) := HO1.out.cellAt 0 (by omega)
        have HOK := Lib.hid (rr_one t hf)
        rw [HNG.out] at HOK
        have HE : Hid (readX (tb (rrE t)) = [1]) := by show _ = _; unfold rrE; rw [hf]; exact read_one.2
        go_wp2_with fail
        refine (HR1.out _).mono ?_
        rintro e w2 ⟨A1, c1, rfl, o1, b1⟩
        have HT2 := Lib.hid (HT1.out.on b1)
        have HB2 := Lib.hid (below_on HB1.out b1)
        have HO2 := Lib.hid (own_keepC HO1.out b1)
        have HX2 := Lib.hid ((own_rd' o1).mono (Q := fun _ => True) fun _ _ _ => trivial)
        have hs2 := b1.size
        clear o1 b1
        have hla := HXA.out
        have HT3 := Lib.hid ((HT2.out.on (below1 w2 (.cells #[.int .i64 1] 3))).on (below1 (w2.alloc (.cells #[.int .i64 1] 3)) (.cells #[.bool false, .slice A1 (readX (tb (rrA t))).length c1, .slice (some ⟨w2.heap.size, 0, none⟩) 1 1] 34)))
        have HR3 := Lib.hid (RatAt.new (w2.alloc (.cells #[.int .i64 1] 3)) 34 false A1 (some ⟨w2.heap.size, 0, none⟩) (readX (tb (rrA t))).length c1 1 1)
        have HB3 := Lib.hid (below_on (below_on HB2.out (below1 w2 (.cells #[.int .i64 1] 3))) (below1 (w2.alloc (.cells #[.int .i64 1] 3)) (.cells #[.bool false, .slice A1 (readX (tb (rrA t))).length c1, .slice (some ⟨w2.heap.size, 0, none⟩) 1 1] 34)))
        have HX3 := Lib.hid (rd_on (rd_on HX2.out (below1 w2 (.cells #[.int .i64 1] 3))) (below1 (w2.alloc (.cells #[.int .i64 1] 3)) (.cells #[.bool false, .slice A1 (readX (tb (rrA t))).length c1, .slice (some ⟨w2.heap.size, 0, none⟩) 1 1] 34)))
        have HY3 := Lib.hid (rd_on (show Rd (w2.alloc (.cells #[.int .i64 1] 3)) (fun _ => True) (some ⟨w2.heap.size, 0, none⟩) 1 1 [1] from (rd_one w2 3 1).mono fun _ _ _ => trivial) (below1 (w2.alloc (.cells #[.int .i64 1] 3)) (.cells #[.bool false, .slice A1 (readX (tb (rrA t))).length c1, .slice (some ⟨w2.heap.size, 0, none⟩) 1 1] 34)))
        have hsz3 : (w2.alloc (.cells #[.int .i64 1] 3)).heap.size = w2.heap.size + 1 := World.size_alloc _ _
        cases ka : readOk (tb (rrA t)) with
        | false =>
          have f0 := HT3.out.fz 0
          have f1 := HT3.out.fz 1
          have f2 := HT3.out.fz 2
          have y0 := HT3.out.c0
          have y1 := HT3.out.c1
          have y2 := HT3.out.c2
          have HNO := Lib.hid (show rrOk t = false from by rw [HOK.out, ka]; rfl)
          go_wp2
          refine bodyPost_ret (retRC rfl _ _ _ rfl (HT3.out.setAll _ _ _ _ _ _ _)) rfl ?_
          exact sayK_no HNO.out (below_grow HB3.out (by omega) (setAll_grown _ w.heap.size _ _ _))
        | true =>
          have r0 := HR3.out.c0
          have r1 := HR3.out.c1
          have r2 := HR3.out.c2
          rw [hsz3] at r0 r1 r2
          go_wp2_with fail
          refine (specRatOK_any false A1 (some ⟨w2.heap.size, 0, none⟩) _ c1 1 1 (readX (tb (rrA t))) [1] _ _ _ HX3.out HY3.out (by omega) (by omega)).mono ?_
          rintro e w4 ⟨rfl, bb⟩
          clear r0 r1 r2
          have HT4 := Lib.hid (HT3.out.on bb)
          have HB4 := Lib.hid (below_on HB3.out bb)
          have HX4 := Lib.hid (rd_on HX3.out bb)
          have HY4 := Lib.hid (rd_on HY3.out bb)
          have HR4 := Lib.hid (HR3.out.on bb)
          clear bb
          cases kr : okR false (readX (tb (rrA t))) [1] with
          | false =>
            have f0 := HT4.out.fz 0
            have f1 := HT4.out.fz 1
            have f2 := HT4.out.fz 2
            have y0 := HT4.out.c0
            have y1 := HT4.out.c1
            have y2 := HT4.out.c2
            have HNO := Lib.hid (show rrOk t = false from by rw [HOK.out, kr]; simp)
            go_wp2
            refine bodyPost_ret (retRC rfl _ _ _ rfl (HT4.out.setAll _ _ _ _ _ _ _)) rfl ?_
            exact sayK_no HNO.out (below_grow HB4.out (by omega) (setAll_grown _ w.heap.size _ _ _))
          | true =>
            have f0 := HT4.out.fz 0
            have f1 := HT4.out.fz 1
            have f2 := HT4.out.fz 2
            have y0 := HT4.out.c0
            have y1 := HT4.out.c1
            have y2 := HT4.out.c2
            have r0 := HR4.out.c0
            have r1 := HR4.out.c1
            have r2 := HR4.out.c2
            rw [hsz3] at r0 r1 r2
            have HYES := Lib.hid (show rrOk t = true from by rw [HOK.out, ka, kr]; rfl)
            go_wp2
            refine bodyPost_ret (retRC rfl _ _ _ rfl (HT4.out.setAll _ _ _ _ _ _ _)) rfl ?_
            exact sayK_yes HYES.out HNG.out rfl HE.out (HX4.out.past HT4.out (setAll_grown _ w.heap.size _ _ _)) (HY4.out.past HT4.out (setAll_grown _ w.heap.size _ _ _)) (below_grow HB4.out (by omega) (setAll_grown _ w.heap.size _ _ _))
      · have HO1 : Hid (w1.ownsRow (w.heap.size + 1) 9 1 (.slice V 2 c) 2 [strV (rrA t), strV (rrB t)]) := by have h := HO.out; rw [hsg] at h; exact h
        rw [show (segs (rrD t)).length = 2 from by rw [hsg]; rfl]
        obtain ⟨g, cap, hV, _⟩ := own_succC (n := 1) HO1.out
        injection hV with hV
        subst hV
        have p0 : w1.cell? ⟨g, 0, none⟩ = some (.string (tb (rrA t))) := HO1.out.cellAt 0 (by omega)
        have HOK := Lib.hid (rr_two t hf).1
        have HEB := Lib.hid (rr_two t hf).2
        rw [HNG.out] at HOK
        go_wp2_with fail
        refine (HR1.out _).mono ?_
        rintro e w2 ⟨A1, c1, rfl, o1, b1⟩
        have HT2 := Lib.hid (HT1.out.on b1)
        have HB2 := Lib.hid (below_on HB1.out b1)
        have HO2 := Lib.hid (own_keepC HO1.out b1)
        have HX2 := Lib.hid ((own_rd' o1).mono (Q := fun _ => True) fun _ _ _ => trivial)
        have hs2 := b1.size
        clear o1 b1
        have hla := HXA.out
        have hsz2 : (w2.alloc (.cells #[.int .i64 1] 3)).heap.size = w2.heap.size + 1 := World.size_alloc _ _
        have p1 : (w2.alloc (.cells #[.int .i64 1] 3)).cell? ⟨g, 1, none⟩ = some (.string (tb (rrB t))) := (own_keepC HO2.out (below1 w2 (.cells #[.int .i64 1] 3))).cellAt 1 (by omega)
        have HT2a := Lib.hid (HT2.out.on (below1 w2 (.cells #[.int .i64 1] 3)))
        have HB2a := Lib.hid (below_on HB2.out (below1 w2 (.cells #[.int .i64 1] 3)))
        have HX2a := Lib.hid (rd_on HX2.out (below1 w2 (.cells #[.int .i64 1] 3)))
        clear p0
        go_wp2_with fail
        refine (HR2.out _).mono ?_
        rintro e w3 ⟨A2, c2, rfl, o2, b2⟩
        have HT2b := Lib.hid (HT2a.out.on b2)
        have HB2b := Lib.hid (below_on HB2a.out b2)
        have HX2b := Lib.hid (rd_on HX2a.out b2)
        have HY2b := Lib.hid ((own_rd' o2).mono (Q := fun _ => True) fun _ _ _ => trivial)
        have hs3 := b2.size
        rw [hsz2] at hs3
        have hlb := HXB.out
        clear o2 b2 p1 HT2a HB2a HX2a
        have HT3 := Lib.hid (HT2b.out.on (below1 w3 (.cells #[.bool false, .slice A1 (readX (tb (rrA t))).length c1, .slice A2 (readX (tb (rrB t))).length c2] 34)))
        have HR3 := Lib.hid (RatAt.new w3 34 false A1 A2 (readX (tb (rrA t))).length c1 (readX (tb (rrB t))).length c2)
        have HB3 := Lib.hid (below_on HB2b.out (below1 w3 (.cells #[.bool false, .slice A1 (readX (tb (rrA t))).length c1, .slice A2 (readX (tb (rrB t))).length c2] 34)))
        have HX3 := Lib.hid (rd_on HX2b.out (below1 w3 (.cells #[.bool false, .slice A1 (readX (tb (rrA t))).length c1, .slice A2 (readX (tb (rrB t))).length c2] 34)))
        have HY3 := Lib.hid (rd_on HY2b.out (below1 w3 (.cells #[.bool false, .slice A1 (readX (tb (rrA t))).length c1, .slice A2 (readX (tb (rrB t))).length c2] 34)))
        cases ka : readOk (tb (rrA t)) with
        | false =>
          have f0 := HT3.out.fz 0
          have f1 := HT3.out.fz 1
          have f2 := HT3.out.fz 2
          have y0 := HT3.out.c0
          have y1 := HT3.out.c1
          have y2 := HT3.out.c2
          have HNO := Lib.hid (show rrOk t = false from by rw [HOK.out, ka]; simp)
          go_wp2
          refine bodyPost_ret (retRC rfl _ _ _ rfl (HT3.out.setAll _ _ _ _ _ _ _)) rfl ?_
          exact sayK_no HNO.out (below_grow HB3.out (by omega) (setAll_grown _ w.heap.size _ _ _))
        | true =>
        cases kb : readOk (tb (rrB t)) with
        | false =>
          have f0 := HT3.out.fz 0
          have f1 := HT3.out.fz 1
          have f2 := HT3.out.fz 2
          have y0 := HT3.out.c0
          have y1 := HT3.out.c1
          have y2 := HT3.out.c2
          have HNO := Lib.hid (show rrOk t = false from by rw [HOK.out, kb]; simp)
          go_wp2
          refine bodyPost_ret (retRC rfl _ _ _ rfl (HT3.out.setAll _ _ _ _ _ _ _)) rfl ?_
          exact sayK_no HNO.out (below_grow HB3.out (by omega) (setAll_grown _ w.heap.size _ _ _))
        | true =>
          obtain ⟨hxb, hcm⟩ := cmp_one kb
          have HYD : Hid (Rd (w3.alloc (.cells #[.bool false, .slice A1 (readX (tb (rrA t))).length c1, .slice A2 (readX (tb (rrB t))).length c2] 34)) (fun _ => True) A2 (readX (tb (rrB t))).length c2 (D (readN (tb (rrB t))))) := by have h := HY3.out; rw [hxb] at h ⊢; exact h
          have HYD2 := Lib.hid (rd_on HYD.out (below1 (w3.alloc (.cells #[.bool false, .slice A1 (readX (tb (rrA t))).length c1, .slice A2 (readX (tb (rrB t))).length c2] 34)) (.cells #[.int .i64 1] 3)))
          have hszb : (w3.alloc (.cells #[.bool false, .slice A1 (readX (tb (rrA t))).length c1, .slice A2 (readX (tb (rrB t))).length c2] 34)).heap.size = w3.heap.size + 1 := World.size_alloc _ _
          have HLT : Hid (Rd ((w3.alloc (.cells #[.bool false, .slice A1 (readX (tb (rrA t))).length c1, .slice A2 (readX (tb (rrB t))).length c2] 34)).alloc (.cells #[.int .i64 1] 3)) (fun _ => True) (some ⟨w3.heap.size + 1, 0, none⟩) 1 1 (D 1)) := by have h := Nm.lit (w3.alloc (.cells #[.bool false, .slice A1 (readX (tb (rrA t))).length c1, .slice A2 (readX (tb (rrB t))).length c2] 34)) 3; rw [hszb] at h; exact h
          have HT4 := Lib.hid (HT3.out.on (below1 (w3.alloc (.cells #[.bool false, .slice A1 (readX (tb (rrA t))).length c1, .slice A2 (readX (tb (rrB t))).length c2] 34)) (.cells #[.int .i64 1] 3)))
          have HB4 := Lib.hid (below_on HB3.out (below1 (w3.alloc (.cells #[.bool false, .slice A1 (readX (tb (rrA t))).length c1, .slice A2 (readX (tb (rrB t))).length c2] 34)) (.cells #[.int .i64 1] 3)))
          have HX4 := Lib.hid (rd_on HX3.out (below1 (w3.alloc (.cells #[.bool false, .slice A1 (readX (tb (rrA t))).length c1, .slice A2 (readX (tb (rrB t))).length c2] 34)) (.cells #[.int .i64 1] 3)))
          have HY4 := Lib.hid (rd_on HY3.out (below1 (w3.alloc (.cells #[.bool false, .slice A1 (readX (tb (rrA t))).length c1, .slice A2 (readX (tb (rrB t))).length c2] 34)) (.cells #[.int .i64 1] 3)))
          have HR4 := Lib.hid (HR3.out.on (below1 (w3.alloc (.cells #[.bool false, .slice A1 (readX (tb (rrA t))).length c1, .slice A2 (readX (tb (rrB t))).length c2] 34)) (.cells #[.int .i64 1] 3)))
          clear hxb HYD HT3 HB3 HX3 HY3 HR3
          go_wp2_with fail
          refine (l01Cmp_any A2 (some ⟨w3.heap.size + 1, 0, none⟩) _ c2 1 1 (readN (tb (rrB t))) 1 _ _ _ HYD2.out HLT.out (by omega) (by omega)).mono ?_
          rintro e w5 ⟨rfl, dd⟩
          have bb := dd.below ((w3.alloc (.cells #[.bool false, .slice A1 (readX (tb (rrA t))).length c1, .slice A2 (readX (tb (rrB t))).length c2] 34)).alloc (.cells #[.int .i64 1] 3)).heap.size
          have HT5 := Lib.hid (HT4.out.on bb)
          have HB5 := Lib.hid (below_on HB4.out bb)
          have HX5 := Lib.hid (rd_on HX4.out bb)
          have HY5 := Lib.hid (rd_on HY4.out bb)
          have HR5 := Lib.hid (HR4.out.on bb)
          clear bb dd HT4 HB4 HX4 HY4 HR4 HYD2 HLT
          obtain ⟨z, hz⟩ : ∃ z, cmpI (readN (tb (rrB t))) 1 = z := ⟨_, rfl⟩
          rw [hz] at hcm ⊢
          clear hz
          by_cases h49 : rrB t = [49]
          · rw [decide_eq_true h49] at hcm
            have f0 := HT5.out.fz 0
            have f1 := HT5.out.fz 1
            have f2 := HT5.out.fz 2
            have y0 := HT5.out.c0
            have y1 := HT5.out.c1
            have y2 := HT5.out.c2
            have HNO := Lib.hid (show rrOk t = false from by rw [HOK.out, decide_eq_true h49]; rfl)
            go_wp2
            refine bodyPost_ret (retRC rfl _ _ _ rfl (HT5.out.setAll _ _ _ _ _ _ _)) rfl ?_
            exact sayK_no HNO.out (below_grow HB5.out (by omega) (setAll_grown _ w.heap.size _ _ _))
          · rw [decide_eq_false h49] at hcm
            have HN49 := Lib.hid h49
            clear h49
            have r0 := HR5.out.c0
            have r1 := HR5.out.c1
            have r2 := HR5.out.c2
            go_wp2_with fail
            refine (specRatOK_any false A1 A2 _ c1 _ c2 (readX (tb (rrA t))) (readX (tb (rrB t))) _ _ _ HX5.out HY5.out (by omega) (by omega)).mono ?_
            rintro e w6 ⟨rfl, bb⟩
            clear r0 r1 r2
            have HT6 := Lib.hid (HT5.out.on bb)
            have HB6 := Lib.hid (below_on HB5.out bb)
            have HX6 := Lib.hid (rd_on HX5.out bb)
            have HY6 := Lib.hid (rd_on HY5.out bb)
            have HR6 := Lib.hid (HR5.out.on bb)
            clear bb
            cases kr : okR false (readX (tb (rrA t))) (readX (tb (rrB t))) with
            | false =>
              have f0 := HT6.out.fz 0
              have f1 := HT6.out.fz 1
              have f2 := HT6.out.fz 2
              have y0 := HT6.out.c0
              have y1 := HT6.out.c1
              have y2 := HT6.out.c2
              have HNO := Lib.hid (show rrOk t = false from by rw [HOK.out, kr]; simp)
              go_wp2
              refine bodyPost_ret (retRC rfl _ _ _ rfl (HT6.out.setAll _ _ _ _ _ _ _)) rfl ?_
              exact sayK_no HNO.out (below_grow HB6.out (by omega) (setAll_grown _ w.heap.size _ _ _))
            | true =>
              have f0 := HT6.out.fz 0
              have f1 := HT6.out.fz 1
              have f2 := HT6.out.fz 2
              have y0 := HT6.out.c0
              have y1 := HT6.out.c1
              have y2 := HT6.out.c2
              have r0 := HR6.out.c0
              have r1 := HR6.out.c1
              have r2 := HR6.out.c2
              have HYES := Lib.hid (show rrOk t = true from by rw [HOK.out, ka, kb, kr, decide_eq_false HN49.out]; rfl)
              have HEY := Lib.hid (show readX (tb (rrE t)) = readX (tb (rrB t)) from by rw [HEB.out])
              go_wp2
              refine bodyPost_ret (retRC rfl _ _ _ rfl (HT6.out.setAll _ _ _ _ _ _ _)) rfl ?_
              exact sayK_yes HYES.out HNG.out rfl HEY.out (HX6.out.past HT6.out (setAll_grown _ w.heap.size _ _ _)) (HY6.out.past HT6.out (setAll_grown _ w.heap.size _ _ _)) (below_grow HB6.out (by omega) (setAll_grown _ w.heap.size _ _ _))
      · obtain ⟨r, x, hsg, hr⟩ := hsg
        obtain ⟨L, hL⟩ : ∃ L, (segs (rrD t)).length = L + 1 := ⟨(segs (rrD t)).length - 1, by rw [hsg]; simp⟩
        have hL2 : 2 ≤ L := by have h := hL; rw [hsg] at h; simp at h; omega
        have HO1 : Hid (w1.ownsRow (w.heap.size + 1) 9 1 (.slice V (L + 1) c) (L + 1) (strV (rrA t) :: (x :: r).map strV)) := by have h := HO.out; rw [hL] at h; rw [hsg] at h; exact h
        rw [hL]
        obtain ⟨g, cap, hV, _⟩ := own_succC (n := L) HO1.out
        injection hV with hV
        subst hV
        have p0 : w1.cell? ⟨g, 0, none⟩ = some (.string (tb (rrA t))) := HO1.out.cellAt 0 (by omega)
        have HOK := Lib.hid (show rrOk t = false from by rw [(rr_two t hf).1, hkb]; simp)
        have hn2 : (((L + 1 : Nat) : Int) == 2) = false := beq_eq_false_iff_ne.2 (by omega)
        have hn3 : ((L : Int) + 1 == 2) = false := beq_eq_false_iff_ne.2 (by omega)
        have hg2 : decide ((2 : Int) < ((L + 1 : Nat) : Int)) = true := decide_eq_true (by omega)
        have hg3 : decide ((2 : Int) < (L : Int) + 1) = true := decide_eq_true (by omega)
        clear hsg hL hr hkb hf
        go_wp2_with fail
        refine (HR1.out _).mono ?_
        rintro e w2 ⟨A1, c1, rfl, o1, b1⟩
        have HT2 := Lib.hid (HT1.out.on b1)
        have HB2 := Lib.hid (below_on HB1.out b1)
        have HO2 := Lib.hid (own_keepC HO1.out b1)
        have HX2 := Lib.hid ((own_rd' o1).mono (Q := fun _ => True) fun _ _ _ => trivial)
        have hs2 := b1.size
        clear o1 b1
        have hla := HXA.out
        have HT3 := Lib.hid ((HT2.out.on (below1 w2 (.cells #[.int .i64 1] 3))).on (below1 (w2.alloc (.cells #[.int .i64 1] 3)) (.cells #[.bool false, .slice A1 (readX (tb (rrA t))).length c1, .slice (some ⟨w2.heap.size, 0, none⟩) 1 1] 34)))
        have HB3 := Lib.hid (below_on (below_on HB2.out (below1 w2 (.cells #[.int .i64 1] 3))) (below1 (w2.alloc (.cells #[.int .i64 1] 3)) (.cells #[.bool false, .slice A1 (readX (tb (rrA t))).length c1, .slice (some ⟨w2.heap.size, 0, none⟩) 1 1] 34)))
        cases ka : readOk (tb (rrA t)) with
        | false =>
          have f0 := HT3.out.fz 0
          have f1 := HT3.out.fz 1
          have f2 := HT3.out.fz 2
          have y0 := HT3.out.c0
          have y1 := HT3.out.c1
          have y2 := HT3.out.c2
          have HNO := Lib.hid (show rrOk t = false from by exact HOK.out)
          go_wp2
          refine bodyPost_ret (retRC rfl _ _ _ rfl (HT3.out.setAll _ _ _ _ _ _ _)) rfl ?_
          exact sayK_no HNO.out (below_grow HB3.out (by omega) (setAll_grown _ w.heap.size _ _ _))
        | true =>
          have f0 := HT3.out.fz 0
          have f1 := HT3.out.fz 1
          have f2 := HT3.out.fz 2
          have y0 := HT3.out.c0
          have y1 := HT3.out.c1
          have y2 := HT3.out.c2
          have HNO := Lib.hid (show rrOk t = false from by exact HOK.out)
          go_wp2
          refine bodyPost_ret (retRC rfl _ _ _ rfl (HT3.out.setAll _ _ _ _ _ _ _)) rfl ?_
          exact sayK_no HNO.out (below_grow HB3.out (by omega) (setAll_grown _ w.heap.size _ _ _))

set_option maxHeartbeats 3200000 in
theorem specReadRat_any (t : List UInt8) (w : World) (hmax : t.length ≤ 16777216) :
    Calls Try.prog 10 #[.string (tb t)] w (SayRC' w (rrN t) (rrX t) (rrY t) (rrC t)) := by
  by_cases hlong : 65536 < t.length
  · obtain ⟨e1, e2, e3, e4⟩ := rr_long hlong
    rw [e1, e2, e3, e4]
    have hd : decide ((65536 : Int) < (tb t).size) = true := by rw [tb_size]; simp; omega
    have HT := Lib.hid (RatAt.new w 34 false none none 0 0 0 0)
    have HB := Lib.hid (below1 w (.cells #[.bool false, .slice none 0 0, .slice none 0 0] 34))
    clear e1 e2 e3 e4
    go_enter Try.func10, Try.ntmps10
    go_wp2
    refine bodyPost_ret (retRC rfl _ _ _ rfl HT.out) rfl ?_
    exact ⟨none, 0, none, 0, rfl, ⟨rd_nil _ _, rd_nil _ _⟩, HB.out⟩
  have hd : decide ((65536 : Int) < (tb t).size) = false := by rw [tb_size]; simp; omega
  have HRD := Lib.hid (fun (W : World) => l02Read_any t W (by omega))
  have HLONG := Lib.hid hlong
  have HT := Lib.hid (RatAt.new w 34 false none none 0 0 0 0)
  have HB := Lib.hid (below1 w (.cells #[.bool false, .slice none 0 0, .slice none 0 0] 34))
  clear hlong
  go_enter Try.func10, Try.ntmps10
  go_wp2_with fail
  refine (HRD.out _).mono ?_
  rintro e w1 ⟨A1, c1, A2, c2, rfl, hrd, bb⟩
  have HX := Lib.hid (show orNil (rrOk t) (readX (tb (rrA t))) = orNil (rrOk t) (readX (tb (rrA t))) from rfl)
  have HY := Lib.hid (show orNil (rrOk t) (readX (tb (rrE t))) = orNil (rrOk t) (readX (tb (rrE t))) from rfl)
  have HN := Lib.hid (show (rrOk t && rrNeg t) = (rrOk t && rrNeg t) from rfl)
  obtain ⟨X, hX⟩ : ∃ X, orNil (rrOk t) (readX (tb (rrA t))) = X := ⟨_, rfl⟩
  obtain ⟨Y, hY⟩ : ∃ Y, orNil (rrOk t) (readX (tb (rrE t))) = Y := ⟨_, rfl⟩
  obtain ⟨N, hN⟩ : ∃ N, (rrOk t && rrNeg t) = N := ⟨_, rfl⟩
  rw [hX, hY] at hrd ⊢
  rw [hN]
  have HXE := Lib.hid hX
  have HYE := Lib.hid hY
  have HNE := Lib.hid hN
  clear hX hY hN HX HY HN
  have HT1 := Lib.hid ((HT.out.on bb).on (below1 w1 (.cells #[.bool N, .slice A1 X.length c1, .slice A2 Y.length c2] 34)))
  have HB1 := Lib.hid (below_on (below_on HB.out bb) (below1 w1 (.cells #[.bool N, .slice A1 X.length c1, .slice A2 Y.length c2] 34)))
  have HR1 := Lib.hid (RatAt.new w1 34 N A1 A2 X.length c1 Y.length c2)
  have HRX := Lib.hid (rd_on hrd.1 (below1 w1 (.cells #[.bool N, .slice A1 X.length c1, .slice A2 Y.length c2] 34)))
  have HRY := Lib.hid (rd_on hrd.2 (below1 w1 (.cells #[.bool N, .slice A1 X.length c1, .slice A2 Y.length c2] 34)))
  clear bb hrd HT HB
  have f0 := HT1.out.fz 0
  have f1 := HT1.out.fz 1
  have f2 := HT1.out.fz 2
  have y0 := HT1.out.c0
  have y1 := HT1.out.c1
  have y2 := HT1.out.c2
  cases hk : rrOk t with
  | false =>
    have HQ := Lib.hid (rr_form HLONG.out hk)
    clear hk
    go_wp2
    refine bodyPost_ret (retRC rfl _ _ _ rfl (HT1.out.setAll _ _ _ _ _ _ _)) rfl ?_
    rw [HQ.out.1, HQ.out.2.1, HQ.out.2.2.1, HQ.out.2.2.2]
    exact ⟨none, 0, none, 0, rfl, ⟨rd_nil _ _, rd_nil _ _⟩, below_grow HB1.out (by omega) (setAll_grown _ w.heap.size _ _ _)⟩
  | true =>
    have HQ := Lib.hid (rr_good HLONG.out hk)
    have HQ2 : Hid (rrN t = N ∧ rrX t = X ∧ rrY t = Y) := by
      obtain ⟨q1, q2, q3, _⟩ := HQ.out
      have x := HXE.out
      have y := HYE.out
      have n := HNE.out
      rw [hk] at x y n
      exact ⟨q1.trans n, q2.trans x, q3.trans y⟩
    have r0 := HR1.out.c0
    have r1 := HR1.out.c1
    have r2 := HR1.out.c2
    clear hk
    go_wp2
    refine bodyPost_ret (retRC rfl _ _ _ rfl (HT1.out.setAll _ _ _ _ _ _ _)) rfl ?_
    rw [HQ2.out.1, HQ2.out.2.1, HQ2.out.2.2, HQ.out.2.2.2]
    exact ⟨A1, c1, A2, c2, rfl, ⟨HRX.out.past HT1.out (setAll_grown _ w.heap.size _ _ _), HRY.out.past HT1.out (setAll_grown _ w.heap.size _ _ _)⟩, below_grow HB1.out (by omega) (setAll_grown _ w.heap.size _ _ _)⟩
end Go.Proofs.Ytndeimodphmpkaa
