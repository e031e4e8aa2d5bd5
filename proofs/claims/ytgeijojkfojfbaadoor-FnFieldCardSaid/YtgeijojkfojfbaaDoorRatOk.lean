/-
  Which rationals are right: RatOK of the program and of the model.
-/
import Derived.Test.YtgeijojkfojfbaaDoorOne
import Derived.Test.YtgeijojkfojfbaaDoorGcd
import Derived.Test.YtgeijojkfojfbaaDoorRatMath
import Derived.Laws.ResultCell
namespace Nt
open Go Go.RowKit
/-- what RatOK says to a sign and two lists -/
def okR (neg : Bool) (xs ys : List Int) : Bool :=
  okL xs && (okL ys && (!ys.isEmpty && (!(neg && xs.isEmpty) && decide (Nat.gcd (natOf xs) (natOf ys) = 1))))
theorem okR_out {neg : Bool} {xs ys : List Int} (h : okR neg xs ys = true) : ∃ r : Rat, neg = isNeg r ∧ xs = D (nu r) ∧ ys = D r.den ∧ nu r < Top ∧ r.den < Top := by
  unfold okR at h
  simp only [Bool.and_eq_true, Bool.not_eq_true', decide_eq_true_eq] at h
  obtain ⟨h1, h2, h3, h4, h5⟩ := h
  obtain ⟨m, hm, rfl⟩ := okL_out h1
  obtain ⟨n, hn, rfl⟩ := okL_out h2
  rw [natOf_D, natOf_D] at h5
  have hn0 : 0 < n := by
    rcases Nat.eq_zero_or_pos n with e | e
    · subst e; simp [D_zero] at h3
    · exact e
  obtain ⟨e1, e2, e3⟩ := low_parts neg m n hn0 h5
  refine ⟨mkRat (sg neg m) n, ?_, by rw [e1], by rw [e2], by rw [e1]; exact hm, by rw [e2]; exact hn⟩
  rw [e3]
  cases neg
  · rfl
  · have : 0 < m := by
      rcases Nat.eq_zero_or_pos m with e | e
      · subst e; simp [D_zero] at h4
      · exact e
    simp [this]
theorem okR_rat (r : Rat) (h1 : nu r < Top) (h2 : r.den < Top) : okR (isNeg r) (D (nu r)) (D r.den) = true := by
  unfold okR
  rw [okL_D _ h1, okL_D _ h2, natOf_D, natOf_D, decide_eq_true (cop r)]
  have h3 : (D r.den).isEmpty = false := by
    rw [List.isEmpty_eq_false_iff]
    intro e
    have := (D_nil_iff _).1 e
    have := r.den_pos
    omega
  rw [h3]
  cases hn : isNeg r
  · rfl
  · have := nu_pos hn
    have h4 : (D (nu r)).isEmpty = false := by
      rw [List.isEmpty_eq_false_iff]
      intro e
      have := (D_nil_iff _).1 e
      omega
    rw [h4]; rfl
theorem cmpI_ne {m n : Nat} (h : m ≠ n) : cmpI m n ≠ 0 := by unfold cmpI; rw [if_neg h]; split <;> decide
theorem okR_num {neg : Bool} {xs ys : List Int} (h : okL xs = false) : okR neg xs ys = false := by unfold okR; rw [h]; rfl
theorem okR_den {neg : Bool} {xs ys : List Int} (h : okL ys = false) : okR neg xs ys = false := by unfold okR; rw [h]; simp
theorem okR_empty {neg : Bool} {xs : List Int} : okR neg xs [] = false := by unfold okR; simp
theorem okR_rest {neg : Bool} {m n : Nat} (h1 : okL (D m) = true) (h2 : okL (D n) = true) (h3 : D n ≠ []) (h4 : neg = false ∨ D m ≠ []) : okR neg (D m) (D n) = decide (Nat.gcd m n = 1) := by
  unfold okR
  rw [h1, h2, natOf_D, natOf_D]
  have e1 : (D n).isEmpty = false := by rw [List.isEmpty_eq_false_iff]; exact h3
  have e2 : (neg && (D m).isEmpty) = false := by
    rcases h4 with h | h
    · rw [h]; rfl
    · rw [show (D m).isEmpty = false from by rw [List.isEmpty_eq_false_iff]; exact h]; simp
  rw [e1, e2]
  rfl
theorem okR_zero {ys : List Int} : okR true [] ys = false := by unfold okR; simp
/-- a rational's struct lies in block b -/
def RatAt (w : World) (b : Nat) (t : TypeId) (neg : Bool) (A : Option Addr) (la ca : Nat) (B : Option Addr) (lb cb : Nat) : Prop :=
  w.heap[b]? = some (.cells #[.bool neg, .slice A la ca, .slice B lb cb] t (0, 0))
theorem RatAt.c0 {w : World} {b : Nat} {t : TypeId} {neg : Bool} {A B : Option Addr} {la ca lb cb : Nat} (h : RatAt w b t neg A la ca B lb cb) : w.cell? ⟨b, 0, none⟩ = some (.bool neg) := by rw [cell_of_row w b 0 _ t (0, 0) h]; rfl
theorem RatAt.c1 {w : World} {b : Nat} {t : TypeId} {neg : Bool} {A B : Option Addr} {la ca lb cb : Nat} (h : RatAt w b t neg A la ca B lb cb) : w.cell? ⟨b, 1, none⟩ = some (.slice A la ca) := by rw [cell_of_row w b 1 _ t (0, 0) h]; rfl
theorem RatAt.c2 {w : World} {b : Nat} {t : TypeId} {neg : Bool} {A B : Option Addr} {la ca lb cb : Nat} (h : RatAt w b t neg A la ca B lb cb) : w.cell? ⟨b, 2, none⟩ = some (.slice B lb cb) := by rw [cell_of_row w b 2 _ t (0, 0) h]; rfl
theorem RatAt.lt {w : World} {b : Nat} {t : TypeId} {neg : Bool} {A B : Option Addr} {la ca lb cb : Nat} (h : RatAt w b t neg A la ca B lb cb) : b < w.heap.size := by
  rcases Nat.lt_or_ge b w.heap.size with hlt | hge
  · exact hlt
  · unfold RatAt at h; rw [Array.getElem?_eq_none hge] at h; cases h
theorem RatAt.on {w w' : World} {b : Nat} {t : TypeId} {neg : Bool} {A B : Option Addr} {la ca lb cb : Nat} (h : RatAt w b t neg A la ca B lb cb) (hb : Below w.heap.size w w') : RatAt w' b t neg A la ca B lb cb := (hb.block b h.lt).trans h
theorem RatAt.new (w : World) (t : TypeId) (neg : Bool) (A B : Option Addr) (la ca lb cb : Nat) : RatAt (w.alloc (.cells #[.bool neg, .slice A la ca, .slice B lb cb] t)) w.heap.size t neg A la ca B lb cb := heap_alloc_new w _
theorem RatAt.fz {w : World} {b : Nat} {t : TypeId} {neg : Bool} {A B : Option Addr} {la ca lb cb : Nat} (h : RatAt w b t neg A la ca B lb cb) (i : Nat) : w.frozen? ⟨b, i, none⟩ = false := frozen_of_row w b i _ t h
theorem RatAt.set0 {w : World} {b : Nat} {t : TypeId} {neg : Bool} {A B : Option Addr} {la ca lb cb : Nat} (h : RatAt w b t neg A la ca B lb cb) (n' : Bool) : RatAt (w.setCell ⟨b, 0, none⟩ (.bool n')) b t n' A la ca B lb cb := by
  unfold RatAt at h ⊢
  rw [heap_setCell_same w b 0 _ t _ h]; rfl
theorem RatAt.set1 {w : World} {b : Nat} {t : TypeId} {neg : Bool} {A B : Option Addr} {la ca lb cb : Nat} (h : RatAt w b t neg A la ca B lb cb) (A' : Option Addr) (n' c' : Nat) : RatAt (w.setCell ⟨b, 1, none⟩ (.slice A' n' c')) b t neg A' n' c' B lb cb := by
  unfold RatAt at h ⊢
  rw [heap_setCell_same w b 1 _ t _ h]; rfl
theorem RatAt.set2 {w : World} {b : Nat} {t : TypeId} {neg : Bool} {A B : Option Addr} {la ca lb cb : Nat} (h : RatAt w b t neg A la ca B lb cb) (A' : Option Addr) (n' c' : Nat) : RatAt (w.setCell ⟨b, 2, none⟩ (.slice A' n' c')) b t neg A la ca A' n' c' := by
  unfold RatAt at h ⊢
  rw [heap_setCell_same w b 2 _ t _ h]; rfl
theorem RatAt.grown {w w' : World} {b g : Nat} {t : TypeId} {neg : Bool} {A B : Option Addr} {la ca lb cb : Nat} (h : RatAt w b t neg A la ca B lb cb) (hg : w.grownBy w' (some g)) (hne : b ≠ g) : RatAt w' b t neg A la ca B lb cb := (hg.block b h.lt (fun e => hne (by injection e))).trans h
theorem RatAt.alloc {w : World} {b : Nat} {t : TypeId} {neg : Bool} {A B : Option Addr} {la ca lb cb : Nat} (h : RatAt w b t neg A la ca B lb cb) (o : Obj) : RatAt (w.alloc o) b t neg A la ca B lb cb := h.on ((Below.refl _ _).alloc (Nat.le_refl _) o)
theorem RatAt.new1 (w : World) (o : Obj) (t : TypeId) (neg : Bool) (A B : Option Addr) (la ca lb cb : Nat) : RatAt ((w.alloc o).alloc (.cells #[.bool neg, .slice A la ca, .slice B lb cb] t)) (w.heap.size + 1) t neg A la ca B lb cb := by
  have := RatAt.new (w.alloc o) t neg A B la ca lb cb
  rwa [World.size_alloc] at this
theorem RatAt.new2 (w : World) (o o' : Obj) (t : TypeId) (neg : Bool) (A B : Option Addr) (la ca lb cb : Nat) : RatAt (((w.alloc o).alloc o').alloc (.cells #[.bool neg, .slice A la ca, .slice B lb cb] t)) (w.heap.size + 1 + 1) t neg A la ca B lb cb := by
  have := RatAt.new ((w.alloc o).alloc o') t neg A B la ca lb cb
  rwa [World.size_alloc, World.size_alloc] at this
/-- a call's world under one name, with what is known of it -/
theorem calls_at {P : Program} {f : FuncId} {args : Array Value} {W : World} {post : Ending → World → Prop} (F : World → Prop) (hF : F W) (h : ∀ W, F W → Calls P f args W post) : Calls P f args W post := h W hF
theorem below1 (w : World) (o : Obj) : Below w.heap.size w (w.alloc o) := (Below.refl _ _).alloc (Nat.le_refl _) _
theorem below2 (w : World) (o o' : Obj) : Below w.heap.size w ((w.alloc o).alloc o') := (below1 w o).alloc (by simp) _
theorem below3 (w : World) (o o' o'' : Obj) : Below w.heap.size w (((w.alloc o).alloc o').alloc o'') := (below2 w o o').alloc (by simp; omega) _
theorem below_set {w w1 : World} {g : Nat} (h : Below w.heap.size w w1) (hg : w.heap.size ≤ g) (i : Nat) (v : Value) : Below w.heap.size w (w1.setCell ⟨g, i, none⟩ v) := h.trans (grown_below (grown_set (World.grownBy.refl _ _) _) h.size hg)
theorem RatAt.setAll {w : World} {b : Nat} {t : TypeId} {neg : Bool} {A B : Option Addr} {la ca lb cb : Nat} (h : RatAt w b t neg A la ca B lb cb) (n' : Bool) (A' : Option Addr) (a' c' : Nat) (B' : Option Addr) (b' d' : Nat) :
    RatAt (((w.setCell ⟨b, 0, none⟩ (.bool n')).setCell ⟨b, 1, none⟩ (.slice A' a' c')).setCell ⟨b, 2, none⟩ (.slice B' b' d')) b t n' A' a' c' B' b' d' := ((h.set0 _).set1 _ _ _).set2 _ _ _
theorem setAll_grown (w : World) (b : Nat) (x y z : Value) : w.grownBy (((w.setCell ⟨b, 0, none⟩ x).setCell ⟨b, 1, none⟩ y).setCell ⟨b, 2, none⟩ z) (some b) := grown_set (grown_set (grown_set (World.grownBy.refl _ _) _) _) _
theorem below_grow {w w1 w2 : World} {g : Nat} (h : Below w.heap.size w w1) (hg : w.heap.size ≤ g) (hw : w1.grownBy w2 (some g)) : Below w.heap.size w w2 := h.trans (grown_below hw h.size hg)
theorem results_cell_tmp_row {P : Program} {fn : Func} {p u : Tmp} {ty : TypeId} (h : fn.results = #[.cell p ty, .tmp u]) (tmps : Array Value) (w : World) (g : Nat) (t : TypeId) (cs : Array Value) (fr : Nat × Nat) (d : TypeDesc)
    (hp : tmps.getD p undef = .pointer (some ⟨g, 0, none⟩)) (hg : w.heap[g]? = some (.cells cs t fr))
    (hu : P.underlying ty = some d) (hd : (match d with | .struct _ | .array _ _ => true | _ => false) = true) (hi : (P.info? ty).map (·.size) = some cs.size) :
    (results fn tmps).run P w = .ok (.tuple #[.agg cs, tmps.getD u undef]) w := by
  rw [results_cell_tmp h]
  simp only [hp, asAddr, run_loadVar_row w g t ty cs fr d hg hu hd hi, Result.andThen, Sem.run_pure]
theorem undrew {W w1 : World} (h : Below W.drew.heap.size W.drew w1) : Below W.heap.size W w1 := (below_drewN (Below.refl W.heap.size W) 1).trans h
theorem set_grown (w : World) (g i : Nat) (v : Value) : w.grownBy (w.setCell ⟨g, i, none⟩ v) (some g) := grown_set (World.grownBy.refl _ _) _
end Nt
namespace Go.Proofs.YtgeijojkfojfbaaDoor
open Go Go.RowKit Nt
theorem retR {fn : Func} {p : Tmp} {neg : Bool} {A B : Option Addr} {la ca lb cb : Nat} (h : fn.results = #[.cell p 25]) (tmps : Array Value) (w : World) (b : Nat) (hp : tmps.getD p undef = .pointer (some ⟨b, 0, none⟩)) (hr : RatAt w b 25 neg A la ca B lb cb) :
    (results fn tmps).run Tryd.prog w = .ok (.agg #[.bool neg, .slice A la ca, .slice B lb cb]) w := results_cell_row h tmps w b _ _ _ _ hp hr Tryd.underlying25 rfl (by kernel_rfl)
theorem retRC {fn : Func} {p u : Tmp} {neg : Bool} {A B : Option Addr} {la ca lb cb : Nat} (h : fn.results = #[.cell p 25, .tmp u]) (tmps : Array Value) (w : World) (b : Nat) (hp : tmps.getD p undef = .pointer (some ⟨b, 0, none⟩)) (hr : RatAt w b 25 neg A la ca B lb cb) :
    (results fn tmps).run Tryd.prog w = .ok (.tuple #[.agg #[.bool neg, .slice A la ca, .slice B lb cb], tmps.getD u undef]) w := results_cell_tmp_row h tmps w b _ _ _ _ hp hr Tryd.underlying25 rfl (by kernel_rfl)

set_option maxHeartbeats 1600000 in
theorem implRatOK_any (neg : Bool) (A B : Option Addr) (la ca lb cb : Nat) (xs ys : List Int) (P Q : Nat → Prop) (w : World) (hx0 : Rd w P A la ca xs) (hy0 : Rd w Q B lb cb ys) (hla : la ≤ 16777216) (hlb : lb ≤ 16777216) :
    Calls Tryd.prog 12 #[.agg #[.bool neg, .slice A la ca, .slice B lb cb]] w fun e w' => e = .returned (.bool (okR neg xs ys)) ∧ Below w.heap.size w w' := by
  have HXL := Lib.hid hx0.len
  have HYL := Lib.hid hy0.len
  have hb : Below w.heap.size w (w.alloc (.cells #[.bool neg, .slice A la ca, .slice B lb cb] 25)) := (Below.refl _ _).alloc (Nat.le_refl _) _
  have HX := Lib.hid ((hx0.mono (Q := (· < w.heap.size)) fun _ _ h => h).below hb)
  have HY := Lib.hid ((hy0.mono (Q := (· < w.heap.size)) fun _ _ h => h).below hb)
  have HB := Lib.hid hb
  have HR := Lib.hid (RatAt.new w 25 neg A B la ca lb cb)
  clear hx0 hy0 hb
  go_enter Tryd.func12, Tryd.ntmps12
  go_wp2_with fail
  have hc0 := HR.out.c0
  have hc1 := HR.out.c1
  have hc2 := HR.out.c2
  have hsz := HB.out.size
  clear HR
  generalize w.alloc (.cells #[.bool neg, .slice A la ca, .slice B lb cb] 25) = W at *
  refine (implNatOK_any A la ca xs _ W HX.out hla).mono ?_
  rintro e w1 ⟨rfl, rfl⟩
  by_cases h1 : okL xs = true
  · rw [h1]
    go_wp2_with fail
    refine (implNatOK_any B lb cb ys _ W HY.out hlb).mono ?_
    rintro e w1 ⟨rfl, rfl⟩
    by_cases h2 : okL ys = true
    · rw [h2]
      have H1 := Lib.hid h1
      have H2 := Lib.hid h2
      obtain ⟨m, hm, rfl⟩ := okL_out h1
      obtain ⟨n, hn, rfl⟩ := okL_out h2
      have HM := Lib.hid hm
      have HN := Lib.hid hn
      clear h1 h2 hm hn
      have hla' : la ≤ 40 := by rw [← HXL.out]; exact (D_len_le m 40).2 HM.out
      have hlb' : lb ≤ 40 := by rw [← HYL.out]; exact (D_len_le n 40).2 HN.out
      by_cases hn0 : lb = 0
      · have HF : Hid (okR neg (D m) (D n) = false) := by
          show _ = _
          have : D n = [] := List.eq_nil_of_length_eq_zero (by rw [HYL.out]; exact hn0)
          rw [this]; exact okR_empty
        have hz : ((lb : Int) == 0) = true := by simp [hn0]
        clear hn0
        go_wp2
        go_ret
        rw [HF.out]
        exact ⟨rfl, HB.out⟩
      · have hz : ((lb : Int) == 0) = false := by simp; omega
        cases neg with
        | true =>
          by_cases hm0 : la = 0
          · have HF : Hid (okR true (D m) (D n) = false) := by
              show _ = _
              have : D m = [] := List.eq_nil_of_length_eq_zero (by rw [HXL.out]; exact hm0)
              rw [this]; exact okR_zero
            have hz2 : ((la : Int) == 0) = true := by simp [hm0]
            clear hm0
            go_wp2
            go_ret
            rw [HF.out]
            exact ⟨rfl, HB.out⟩
          · have hz2 : ((la : Int) == 0) = false := by simp; omega
            go_wp2_with fail
            refine (commonLimbs_any A B la ca lb cb m n _ _ W HX.out HY.out (by omega) (by omega)).mono ?_
            rintro e w2 hnew
            obtain ⟨A1, c1, rfl, hm1, hb1⟩ := new_of hnew
            have HM1 := Lib.hid hm1
            have HB1 := Lib.hid (HB.out.trans (hb1.mono hsz))
            have hg : (D (Nat.gcd m n)).length ≤ 1000 := by have := (D_len_le _ 40).2 (gcd_lt_top HM.out HN.out); omega
            have hs1 := hb1.size
            clear hnew hm1 hb1
            go_wp2_with fail
            refine (isOne_any A1 _ c1 (Nat.gcd m n) _ w2 HM1.out hg).mono ?_
            rintro e w3 ⟨rfl, hb3⟩
            have HB3 := Lib.hid (HB1.out.trans (hb3.mono (by omega)))
            clear hb3
            go_wp2
            go_ret
            refine ⟨?_, HB3.out⟩
            have e : okR true (D m) (D n) = decide (Nat.gcd m n = 1) := okR_rest H1.out H2.out (fun e => hn0 (by rw [← HYL.out, e]; rfl)) (.inr fun e => hm0 (by rw [← HXL.out, e]; rfl))
            rw [e]
            rfl
        | false =>
          go_wp2_with fail
          refine (commonLimbs_any A B la ca lb cb m n _ _ W HX.out HY.out (by omega) (by omega)).mono ?_
          rintro e w2 hnew
          obtain ⟨A1, c1, rfl, hm1, hb1⟩ := new_of hnew
          have HM1 := Lib.hid hm1
          have HB1 := Lib.hid (HB.out.trans (hb1.mono hsz))
          have hg : (D (Nat.gcd m n)).length ≤ 1000 := by have := (D_len_le _ 40).2 (gcd_lt_top HM.out HN.out); omega
          have hs1 := hb1.size
          clear hnew hm1 hb1
          go_wp2_with fail
          refine (isOne_any A1 _ c1 (Nat.gcd m n) _ w2 HM1.out hg).mono ?_
          rintro e w3 ⟨rfl, hb3⟩
          have HB3 := Lib.hid (HB1.out.trans (hb3.mono (by omega)))
          clear hb3
          go_wp2
          go_ret
          refine ⟨?_, HB3.out⟩
          have e : okR false (D m) (D n) = decide (Nat.gcd m n = 1) := okR_rest H1.out H2.out (fun e => hn0 (by rw [← HYL.out, e]; rfl)) (.inl rfl)
          rw [e]
          rfl
    · have h2' : okL ys = false := by simpa using h2
      rw [h2']
      have HF := Lib.hid (okR_den (neg := neg) (xs := xs) h2')
      clear h2 h2'
      go_wp2
      go_ret
      rw [HF.out]
      exact ⟨rfl, HB.out⟩
  · have h1' : okL xs = false := by simpa using h1
    rw [h1']
    have HF := Lib.hid (okR_num (neg := neg) (ys := ys) h1')
    clear h1 h1'
    go_wp2
    go_ret
    rw [HF.out]
    exact ⟨rfl, HB.out⟩

set_option maxHeartbeats 1600000 in
theorem specRatOK_any (neg : Bool) (A B : Option Addr) (la ca lb cb : Nat) (xs ys : List Int) (P Q : Nat → Prop) (w : World) (hx0 : Rd w P A la ca xs) (hy0 : Rd w Q B lb cb ys) (hla : la ≤ 16777216) (hlb : lb ≤ 16777216) :
    Calls Tryd.prog 40 #[.agg #[.bool neg, .slice A la ca, .slice B lb cb]] w fun e w' => e = .returned (.bool (okR neg xs ys)) ∧ Below w.heap.size w w' := by
  have HXL := Lib.hid hx0.len
  have HYL := Lib.hid hy0.len
  have hb : Below w.heap.size w (w.alloc (.cells #[.bool neg, .slice A la ca, .slice B lb cb] 25)) := (Below.refl _ _).alloc (Nat.le_refl _) _
  have HX := Lib.hid ((hx0.mono (Q := (· < w.heap.size)) fun _ _ h => h).below hb)
  have HY := Lib.hid ((hy0.mono (Q := (· < w.heap.size)) fun _ _ h => h).below hb)
  have HB := Lib.hid hb
  have HR := Lib.hid (RatAt.new w 25 neg A B la ca lb cb)
  clear hx0 hy0 hb
  go_enter Tryd.func40, Tryd.ntmps40
  go_wp2_with fail
  have hc0 := HR.out.c0
  have hc1 := HR.out.c1
  have hc2 := HR.out.c2
  have hsz := HB.out.size
  clear HR
  generalize w.alloc (.cells #[.bool neg, .slice A la ca, .slice B lb cb] 25) = W at *
  refine (specNatOK_any A la ca xs _ W HX.out hla).mono ?_
  rintro e w1 ⟨rfl, rfl⟩
  by_cases h1 : okL xs = true
  · rw [h1]
    go_wp2_with fail
    refine (specNatOK_any B lb cb ys _ W HY.out hlb).mono ?_
    rintro e w1 ⟨rfl, rfl⟩
    by_cases h2 : okL ys = true
    · rw [h2]
      have H1 := Lib.hid h1
      have H2 := Lib.hid h2
      obtain ⟨m, hm, rfl⟩ := okL_out h1
      obtain ⟨n, hn, rfl⟩ := okL_out h2
      have HM := Lib.hid hm
      have HN := Lib.hid hn
      clear h1 h2 hm hn
      have hla' : la ≤ 40 := by rw [← HXL.out]; exact (D_len_le m 40).2 HM.out
      have hlb' : lb ≤ 40 := by rw [← HYL.out]; exact (D_len_le n 40).2 HN.out
      by_cases hn0 : lb = 0
      · have HF : Hid (okR neg (D m) (D n) = false) := by
          show _ = _
          have : D n = [] := List.eq_nil_of_length_eq_zero (by rw [HYL.out]; exact hn0)
          rw [this]; exact okR_empty
        have hz : ((lb : Int) == 0) = true := by simp [hn0]
        clear hn0
        go_wp2
        go_ret
        rw [HF.out]
        exact ⟨rfl, HB.out⟩
      · have hz : ((lb : Int) == 0) = false := by simp; omega
        by_cases hneg : neg = true ∧ la = 0
        · obtain ⟨rfl, hm0⟩ := hneg
          have HF : Hid (okR true (D m) (D n) = false) := by
            show _ = _
            have : D m = [] := List.eq_nil_of_length_eq_zero (by rw [HXL.out]; exact hm0)
            rw [this]; exact okR_zero
          have hz2 : ((la : Int) == 0) = true := by simp [hm0]
          clear hm0
          go_wp2
          go_ret
          rw [HF.out]
          exact ⟨rfl, HB.out⟩
        · have hgo : neg = false ∨ ((la : Int) == 0) = false := by
            cases neg
            · exact .inl rfl
            · right
              have : la ≠ 0 := fun e => hneg ⟨rfl, e⟩
              simp; omega
          have HE : Hid (okR neg (D m) (D n) = decide (Nat.gcd m n = 1)) := okR_rest H1.out H2.out (fun e => hn0 (by rw [← HYL.out, e]; rfl)) (by
            rcases hgo with h | h
            · exact .inl h
            · right
              intro e
              rw [beq_eq_false_iff_ne] at h
              exact h (by rw [← HXL.out, e]; rfl))
          have hg : (D (Nat.gcd m n)).length ≤ 1000 := by have := (D_len_le _ 40).2 (gcd_lt_top HM.out HN.out); omega
          by_cases hm0 : la = 0
          · have hz2 : ((la : Int) == 0) = true := by simp [hm0]
            have hnf : neg = false := by
              cases neg
              · rfl
              · exact absurd ⟨rfl, hm0⟩ hneg
            subst hnf
            clear hm0 hneg hgo
            go_wp2_with fail
            refine (l01Gcd_any A B la ca lb cb m n _ _ W HX.out HY.out (by omega) (by omega)).mono ?_
            rintro e w2 hnew
            obtain ⟨A1, c1, rfl, hm1, hb1⟩ := new_of hnew
            have HM1 := Lib.hid (hm1.on ((Below.refl _ _).alloc (Nat.le_refl _) (.cells #[.int .i64 1] 3)))
            have HB1 := Lib.hid ((HB.out.trans (hb1.mono hsz)).alloc (by have := hb1.size; omega) (.cells #[.int .i64 1] 3))
            have HO1 := Lib.hid (Nm.lit w2 3)
            have hs1 := hb1.size
            clear hnew hm1 hb1
            go_wp2_with fail
            refine (l01Cmp_any A1 _ _ c1 1 1 (Nat.gcd m n) 1 _ _ _ HM1.out HO1.out (by omega) (by omega)).mono ?_
            rintro e w3 ⟨rfl, hd3⟩
            have HB3 := Lib.hid (HB1.out.trans (hd3.below _))
            clear hd3
            by_cases hone : Nat.gcd m n = 1
            · have HT : Hid (okR false (D m) (D n) = true) := by show _ = _; rw [HE.out]; exact decide_eq_true hone
              have hcm : cmpI (Nat.gcd m n) 1 = 0 := by rw [hone]; rfl
              rw [hcm]
              clear hone hcm
              go_wp2
              go_ret
              rw [HT.out]
              exact ⟨rfl, HB3.out⟩
            · have HT : Hid (okR false (D m) (D n) = false) := by show _ = _; rw [HE.out]; exact decide_eq_false hone
              have hcm : (cmpI (Nat.gcd m n) 1 == 0) = false := by rw [beq_eq_false_iff_ne]; exact cmpI_ne hone
              generalize cmpI (Nat.gcd m n) 1 = cc at *
              go_wp2
              go_ret
              rw [HT.out]
              exact ⟨rfl, HB3.out⟩
          · have hz2 : ((la : Int) == 0) = false := by simp; omega
            clear hm0 hneg hgo
            go_wp2_with fail
            refine (l01Gcd_any A B la ca lb cb m n _ _ W HX.out HY.out (by omega) (by omega)).mono ?_
            rintro e w2 hnew
            obtain ⟨A1, c1, rfl, hm1, hb1⟩ := new_of hnew
            have HM1 := Lib.hid (hm1.on ((Below.refl _ _).alloc (Nat.le_refl _) (.cells #[.int .i64 1] 3)))
            have HB1 := Lib.hid ((HB.out.trans (hb1.mono hsz)).alloc (by have := hb1.size; omega) (.cells #[.int .i64 1] 3))
            have HO1 := Lib.hid (Nm.lit w2 3)
            have hs1 := hb1.size
            clear hnew hm1 hb1
            go_wp2_with fail
            refine (l01Cmp_any A1 _ _ c1 1 1 (Nat.gcd m n) 1 _ _ _ HM1.out HO1.out (by omega) (by omega)).mono ?_
            rintro e w3 ⟨rfl, hd3⟩
            have HB3 := Lib.hid (HB1.out.trans (hd3.below _))
            clear hd3
            by_cases hone : Nat.gcd m n = 1
            · have HT : Hid (okR neg (D m) (D n) = true) := by show _ = _; rw [HE.out]; exact decide_eq_true hone
              have hcm : cmpI (Nat.gcd m n) 1 = 0 := by rw [hone]; rfl
              rw [hcm]
              clear hone hcm
              go_wp2
              go_ret
              rw [HT.out]
              exact ⟨rfl, HB3.out⟩
            · have HT : Hid (okR neg (D m) (D n) = false) := by show _ = _; rw [HE.out]; exact decide_eq_false hone
              have hcm : (cmpI (Nat.gcd m n) 1 == 0) = false := by rw [beq_eq_false_iff_ne]; exact cmpI_ne hone
              generalize cmpI (Nat.gcd m n) 1 = cc at *
              go_wp2
              go_ret
              rw [HT.out]
              exact ⟨rfl, HB3.out⟩
    · have h2' : okL ys = false := by simpa using h2
      rw [h2']
      have HF := Lib.hid (okR_den (neg := neg) (xs := xs) h2')
      clear h2 h2'
      go_wp2
      go_ret
      rw [HF.out]
      exact ⟨rfl, HB.out⟩
  · have h1' : okL xs = false := by simpa using h1
    rw [h1']
    have HF := Lib.hid (okR_num (neg := neg) (ys := ys) h1')
    clear h1 h1'
    go_wp2
    go_ret
    rw [HF.out]
    exact ⟨rfl, HB.out⟩
end Go.Proofs.YtgeijojkfojfbaaDoor
