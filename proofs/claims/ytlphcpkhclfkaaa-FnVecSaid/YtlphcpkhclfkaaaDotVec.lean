/-
  Dot and Norm2 of the program and of the model.
-/
import Derived.Test.YtlphcpkhclfkaaaDotFold
import Derived.Test.YtlphcpkhclfkaaaSameVec
import Derived.Test.YtlphcpkhclfkaaaSpecVecA
import Derived.Test.YtlphcpkhclfkaaaRatPow
import Derived.Deep.RegionWith
namespace Nt
open Go Go.RowKit
def dR : List (Rat × Rat) → Rat
  | [] => 0
  | x :: r => dR r + x.1 * x.2
/-- the first k products' sum -/
def dotK (ps qs : List Rat) (k : Nat) : Rat := dR (((ps.zip qs).take k).reverse)
theorem dotK_zero (ps qs : List Rat) : dotK ps qs 0 = 0 := by simp [dotK, dR]
theorem dotK_succ {ps qs : List Rat} {k : Nat} (h1 : k < ps.length) (h2 : k < qs.length) : dotK ps qs (k + 1) = dotK ps qs k + ps.getD k 0 * qs.getD k 0 := by
  unfold dotK
  have hz : k < (ps.zip qs).length := by rw [List.length_zip]; omega
  rw [List.take_succ_eq_append_getElem hz, List.reverse_append]
  simp [dR, List.getD, h1, h2]
theorem dotK_lens {ps qs : List Rat} (hp : Fine ps) (hq : Fine qs) : ∀ (k : Nat), k ≤ ps.length → k ≤ qs.length → (D (nu (dotK ps qs k))).length ≤ 81 * k + 1 ∧ (D (dotK ps qs k).den).length ≤ 80 * k + 1
  | 0, _, _ => by rw [dotK_zero]; have := zero_lens; omega
  | k + 1, h1, h2 => by
    have ih := dotK_lens hp hq k (by omega) (by omega)
    rw [dotK_succ (by omega) (by omega)]
    exact add_mul_lens ih.1 ih.2 ((D_len_le _ 40).2 (hp.at_ k (by omega)).1) ((D_len_le _ 40).2 (hp.at_ k (by omega)).2) ((D_len_le _ 40).2 (hq.at_ k (by omega)).1) ((D_len_le _ 40).2 (hq.at_ k (by omega)).2)
theorem accQ_dot {w : World} {n₀ : Nat} (l : List (EP w n₀)) (ps qs : List Rat) (h1 : l.map (fun x => x.1.1.v3) = ps.map rat3) (h2 : l.map (fun x => x.1.2.v3) = qs.map rat3) : accQ l = dotK ps qs ps.length := by
  have l1 : l.length = ps.length := by simpa using congrArg List.length h1
  have l2 : l.length = qs.length := by simpa using congrArg List.length h2
  have key : ∀ (L : List (EV × EV)), dotL L = dR (L.map fun x => (qOf x.1, qOf x.2)) := by
    intro L
    induction L with
    | nil => rfl
    | cons x L ih => simp only [dotL, dR, List.map_cons, ih]
  unfold accQ dotK
  rw [key, List.map_reverse, List.map_map]
  congr 2
  rw [List.take_of_length_le (by rw [List.length_zip]; omega)]
  refine List.ext_getElem (by simp [l1]; omega) fun i a b => ?_
  have hi : i < l.length := by simpa using a
  have e1 := congrArg (fun t => t[i]?) h1
  have e2 := congrArg (fun t => t[i]?) h2
  simp only [List.getElem?_map, List.getElem?_eq_getElem hi, List.getElem?_eq_getElem (show i < ps.length by omega), List.getElem?_eq_getElem (show i < qs.length by omega), Option.map_some, Option.some.injEq] at e1 e2
  simp only [List.getElem_map, Function.comp, List.getElem_zip]
  rw [qOf_eq e1, qOf_eq e2]
theorem C3.grown {w w' : World} {b k g : Nat} {ng : Bool} {A : Option Addr} {la ca : Nat} {B : Option Addr} {lb cb : Nat} (h : C3 w b k ng A la ca B lb cb) (hne : b ≠ g) (hg : w.grownBy w' (some g)) (hb : b < w.heap.size) : C3 w' b k ng A la ca B lb cb := by
  have hk := hg.block b hb (fun e => hne (by injection e))
  exact ⟨(World.cell?_of_block (a := ⟨b, k, none⟩) hk).trans h.1, (World.cell?_of_block (a := ⟨b, k + 1, none⟩) hk).trans h.2.1, (World.cell?_of_block (a := ⟨b, k + 2, none⟩) hk).trans h.2.2⟩
theorem zero_parts : isNeg (0 : Rat) = false ∧ D (nu (0 : Rat)) = D 0 ∧ D (0 : Rat).den = D 1 := ⟨by decide, by rfl, by rfl⟩
end Nt
namespace Go.Proofs.Ytlphcpkhclfkaaa
open Go Go.RowKit Nt

set_option maxHeartbeats 1600000 in
theorem dotted_any (ps qs : List Rat) (X Y : Option Addr) (N cx cy : Nat) (P P' : Nat → Prop) (w : World) (hx : RdS w P X N cx (ps.map rat3)) (hy : RdS w P' Y N cy (qs.map rat3)) (hp : (ps.map rat3).all ok3 = true) (hq : (qs.map rat3).all ok3 = true) (h0 : 0 < N) (hN : N ≤ 3 + 1) :
    Calls Try.prog 69 #[.slice X N cx, .slice Y N cy] w (SayR w (isNeg (dotK ps qs ps.length)) (D (nu (dotK ps qs ps.length))) (D (dotK ps qs ps.length).den)) := by
  have HX := Lib.hid hx.low
  have HY := Lib.hid hy.low
  have HP := Lib.hid hp
  have HQ := Lib.hid hq
  clear hx hy hp hq
  go_enter Try.func69, Try.ntmps69
  go_wp2_with fail
  refine calls_at (fun W => Below w.heap.size w W ∧ RatAt W w.heap.size 28 false none 0 0 none 0 0) ⟨below1 _ _, RatAt.new _ _ _ _ _ _ _ _ _⟩ ?_
  rintro W ⟨hb, r0⟩
  refine (wholeRat_dot 0 W (by omega)).mono ?_
  rintro e w1 ⟨A1, c1, B1, d1, rfl, o1, b1⟩
  have HB1 := Lib.hid (below_on hb b1)
  have HT1 := Lib.hid (r0.on b1)
  have HO1 := Lib.hid o1
  clear hb r0 o1 b1
  go_wp2_with fail
  refine (foldDot_in X Y N cx cy _ _ 0 A1 B1 c1 d1 w1 (HX.out.below HB1.out).low (HY.out.below HB1.out).low HP.out HQ.out rfl HO1.out h0 hN).mono ?_
  rintro e w2 ⟨l, e1, e2, A2, c2, B2, d2, rfl, o2, b2⟩
  rw [accQ_dot l ps qs e1 e2] at o2 ⊢
  have HB2 := Lib.hid (below_on HB1.out b2)
  have HT2 := Lib.hid (HT1.out.on b2)
  have HO2 := Lib.hid o2
  clear o2 b2 e1 e2 HT1 HO1
  generalize dotK ps qs ps.length = r at *
  have f0 := HT2.out.fz 0
  have f1 := HT2.out.fz 1
  have f2 := HT2.out.fz 2
  have y0 := HT2.out.c0
  have y1 := HT2.out.c1
  have y2 := HT2.out.c2
  go_wp2
  have g2 := fun b u v => setAll_grown w2 w.heap.size (.bool b) u v
  refine bodyPost_ret (retR rfl _ _ _ rfl (HT2.out.setAll _ _ _ _ _ _ _)) rfl ?_
  exact ⟨A2, c2, B2, d2, rfl, ⟨HO2.out.1.past HT2.out (g2 _ _ _), HO2.out.2.past HT2.out (g2 _ _ _)⟩, below_grow HB2.out (by omega) (g2 _ _ _)⟩

set_option maxHeartbeats 1600000 in
theorem implDot_code (X : Option Addr) (n c : Nat) (rs : List R3) (Y : Option Addr) (m d : Nat) (ss : List R3) (P P' : Nat → Prop) (w : World) (hx : RdS w P X n c rs) (hy : RdS w P' Y m d ss) (hs : Small rs) (hs' : Small ss) (hn : n ≤ 1048576) (hm : m ≤ 1048576) (code : Int) (hcode : askV n m rs ss = code) (hc0 : code ≠ 0) :
    Calls Try.prog 16 #[.slice X n c, .slice Y m d] w (RetRC 3 w false [] [] code) := by
  have HC := Lib.hid (vecCode_any (w.heap.size + 1) 2 (fun i => if i = 0 then X else Y) (fun i => if i = 0 then n else m) (fun i => if i = 0 then c else d) (fun i => if i = 0 then rs else ss) ((w.alloc (.cells #[.bool false, .slice none 0 0, .slice none 0 0] 28)).alloc (.cells #[.slice X n c, .slice Y m d] 24)) (by omega) (by omega) (by simp)
    (fun i hi => by
      have := two_cells (w.alloc (.cells #[.bool false, .slice none 0 0, .slice none 0 0] 28)) 24 (.slice X n c) (.slice Y m d) i hi
      rw [World.size_alloc] at this
      rw [this]
      by_cases e : i = 0 <;> simp [e])
    (fun i hi => by
      by_cases e : i = 0
      · simp only [e, if_true]; exact (hx.low.below (below2 _ _ _)).low
      · simp only [e, if_false]; exact (hy.low.below (below2 _ _ _)).low)
    (fun i hi => by by_cases e : i = 0 <;> simp only [e, if_true, if_false] <;> assumption)
    (fun i hi => by by_cases e : i = 0 <;> simp only [e, if_true, if_false] <;> assumption))
  rw [vcode2, hcode] at HC
  have hbc : (code != 0) = true := by simpa using hc0
  have HBW := Lib.hid (below2 w (.cells #[.bool false, .slice none 0 0, .slice none 0 0] 28) (.cells #[.slice X n c, .slice Y m d] 24))
  have HT := Lib.hid ((RatAt.new w 28 false none none 0 0 0 0).alloc (.cells #[.slice X n c, .slice Y m d] 24))
  clear hx hy hs hs' hcode hc0
  go_enter Try.func16, Try.ntmps16
  go_wp2_with fail
  refine HC.out.mono ?_
  rintro e w1 ⟨rfl, b1⟩
  have HB1 := Lib.hid (below_on HBW.out b1)
  have HT1 := Lib.hid (HT.out.on b1)
  clear b1 HC HBW HT
  have f0 := HT1.out.fz 0
  have f1 := HT1.out.fz 1
  have f2 := HT1.out.fz 2
  have y0 := HT1.out.c0
  have y1 := HT1.out.c1
  have y2 := HT1.out.c2
  go_wp2
  have g2 := fun b u v => setAll_grown w1 w.heap.size (.bool b) u v
  refine bodyPost_ret (retRC rfl _ _ _ rfl (HT1.out.setAll _ _ _ _ _ _ _)) rfl ?_
  exact ⟨none, 0, none, 0, rfl, ⟨World.ownsRow_nil _ _ _ _, World.ownsRow_nil _ _ _ _, fun g h e => by cases e⟩, below_grow HB1.out (by omega) (g2 _ _ _)⟩

set_option maxRecDepth 20000 in
set_option maxHeartbeats 1600000 in
theorem implDot_ok (ps qs : List Rat) (X Y : Option Addr) (n c d : Nat) (P P' : Nat → Prop) (w : World) (hx0 : RdS w P X n c (ps.map rat3)) (hy0 : RdS w P' Y n d (qs.map rat3)) (hp : Fine ps) (hq : Fine qs) (hn : n ≤ 1048576) (hask : askV n n (ps.map rat3) (qs.map rat3) = 0) :
    Calls Try.prog 16 #[.slice X n c, .slice Y n d] w (RetRC 3 w (fN (dotK ps qs ps.length)) (fX (dotK ps qs ps.length)) (fY (dotK ps qs ps.length)) (fK (dotK ps qs ps.length))) := by
  obtain ⟨o1, o2, _, _⟩ := sameVV_yes hask
  have q1 := okV_out o1
  have hlp : ps.length = n := by have := hx0.len; rw [List.length_map] at this; exact this
  have hlq : qs.length = n := by have := hy0.len; rw [List.length_map] at this; exact this
  have q2 := q1.1
  have q3 := q1.2.1
  rw [List.length_map] at q2 q3
  have hlen := dotK_lens hp hq ps.length (Nat.le_refl _) (by omega)
  have HA1 : Hid ((ps.map rat3).all ok3 = true) := by unfold okV at o1; simp only [Bool.and_eq_true] at o1; exact o1.2
  have HA2 : Hid ((qs.map rat3).all ok3 = true) := by unfold okV at o2; simp only [Bool.and_eq_true] at o2; exact o2.2
  have hf1 : (D (nu (dotK ps qs ps.length))).length ≤ 16777216 := Nat.le_trans hlen.1 (by omega)
  have hf2 : (D (dotK ps qs ps.length).den).length ≤ 16777216 := Nat.le_trans hlen.2 (by omega)
  have HDOT := Lib.hid (fun (W : World) (h1 : RdS W (· < w.heap.size) X n c (ps.map rat3)) (h2 : RdS W (· < w.heap.size) Y n d (qs.map rat3)) => dotted_any ps qs X Y n c d _ _ W h1 h2 HA1.out HA2.out (by omega) (by omega))
  have HC : Hid (Calls Try.prog 58 #[.slice (some ⟨w.heap.size + 1, 0, none⟩) 2 2] ((w.alloc (.cells #[.bool false, .slice none 0 0, .slice none 0 0] 28)).alloc (.cells #[.slice X n c, .slice Y n d] 24)) fun e w' => e = .returned (.int .i64 0) ∧ Below ((w.alloc (.cells #[.bool false, .slice none 0 0, .slice none 0 0] 28)).alloc (.cells #[.slice X n c, .slice Y n d] 24)).heap.size ((w.alloc (.cells #[.bool false, .slice none 0 0, .slice none 0 0] 28)).alloc (.cells #[.slice X n c, .slice Y n d] 24)) w') := by
    have hx := hx0
    have hy := hy0
    have hs := small_fine hp
    have hs' := small_fine hq
    have hm := hn
    have h := (vecCode_any (w.heap.size + 1) 2 (fun i => if i = 0 then X else Y) (fun i => if i = 0 then n else n) (fun i => if i = 0 then c else d) (fun i => if i = 0 then ps.map rat3 else qs.map rat3) ((w.alloc (.cells #[.bool false, .slice none 0 0, .slice none 0 0] 28)).alloc (.cells #[.slice X n c, .slice Y n d] 24)) (by omega) (by omega) (by simp)
    (fun i hi => by
      have := two_cells (w.alloc (.cells #[.bool false, .slice none 0 0, .slice none 0 0] 28)) 24 (.slice X n c) (.slice Y n d) i hi
      rw [World.size_alloc] at this
      rw [this]
      by_cases e : i = 0 <;> simp [e])
    (fun i hi => by
      by_cases e : i = 0
      · simp only [e, if_true]; exact (hx.low.below (below2 _ _ _)).low
      · simp only [e, if_false]; exact (hy.low.below (below2 _ _ _)).low)
    (fun i hi => by by_cases e : i = 0 <;> simp only [e, if_true, if_false] <;> assumption)
    (fun i hi => by by_cases e : i = 0 <;> simp only [e, if_true, if_false] <;> assumption))
    rw [vcode2, hask] at h
    exact h
  have HX := Lib.hid hx0.low
  have HY := Lib.hid hy0.low
  have HBW := Lib.hid (below2 w (.cells #[.bool false, .slice none 0 0, .slice none 0 0] 28) (.cells #[.slice X n c, .slice Y n d] 24))
  have HT := Lib.hid ((RatAt.new w 28 false none none 0 0 0 0).alloc (.cells #[.slice X n c, .slice Y n d] 24))
  have h0n : 0 < n := by omega
  have hn4 : n ≤ 3 + 1 := by omega
  clear hx0 hy0 hask o1 o2 q1 q2 q3 hp hq hlen hlp hlq HA1 HA2
  generalize dotK ps qs ps.length = r at *
  go_enter Try.func16, Try.ntmps16
  go_wp2_with fail
  refine HC.out.mono ?_
  rintro e w1 ⟨rfl, b1⟩
  have HB1 := Lib.hid (below_on HBW.out b1)
  have HT1 := Lib.hid (HT.out.on b1)
  clear b1 HC HBW HT
  go_wp2_with fail
  refine (HDOT.out w1 (HX.out.below HB1.out) (HY.out.below HB1.out)).mono ?_
  rintro e w2 ⟨A2, c2, B2, d2, rfl, o2, b2⟩
  have HB2 := Lib.hid (below_on HB1.out b2)
  have HT2 := Lib.hid (HT1.out.on b2)
  have HO2 := Lib.hid o2
  clear b2 o2 HB1 HT1
  go_wp2_with fail
  refine (fitted_any r A2 B2 c2 d2 _ w2 HO2.out hf1 hf2).mono ?_
  rintro e w3 ⟨A3, c3, B3, d3, rfl, o3, b3⟩
  have HB3 := Lib.hid (below_on HB2.out b3)
  have HT3 := Lib.hid (HT2.out.on b3)
  have HO3 := Lib.hid o3
  have hs2 := HT2.out.lt
  clear b3 o3 HB2 HT2 HO2
  have f0 := HT3.out.fz 0
  have f1 := HT3.out.fz 1
  have f2 := HT3.out.fz 2
  have y0 := HT3.out.c0
  have y1 := HT3.out.c1
  have y2 := HT3.out.c2
  go_wp2
  have g2 := fun b u v => setAll_grown w3 w.heap.size (.bool b) u v
  refine bodyPost_ret (retRC rfl _ _ _ rfl (HT3.out.setAll _ _ _ _ _ _ _)) rfl ?_
  exact ⟨A3, c3, B3, d3, rfl, ⟨own_mono (own_gone HO3.out.1 (g2 _ _ _) (fun k hk => by have := own_block HO3.out.1 hk; omega)) (by omega), own_mono (own_gone HO3.out.2.1 (g2 _ _ _) (fun k hk => by have := own_block HO3.out.2.1 hk; omega)) (by omega), HO3.out.2.2⟩, below_grow HB3.out (by omega) (g2 _ _ _)⟩

set_option maxRecDepth 20000 in
set_option maxHeartbeats 3200000 in
theorem l03Dot_any (ps qs : List Rat) (X Y : Option Addr) (n c d : Nat) (P P' : Nat → Prop) (w : World) (hx : RdS w P X n c (ps.map rat3)) (hy : RdS w P' Y n d (qs.map rat3)) (hp : Fine ps) (hq : Fine qs) (hn : n ≤ 4) :
    Calls Try.prog 154 #[.slice X n c, .slice Y n d] w (SayR w (isNeg (dotK ps qs ps.length)) (D (nu (dotK ps qs ps.length))) (D (dotK ps qs ps.length).den)) := by
  have HX := Lib.hid hx.low
  have HY := Lib.hid hy.low
  have HLP : Hid (ps.length = n) := by have := hx.len; rw [List.length_map] at this; exact this
  have HLQ : Hid (qs.length = n) := by have := hy.len; rw [List.length_map] at this; exact this
  have HFP := Lib.hid hp
  have HFQ := Lib.hid hq
  have HLEN := Lib.hid (dotK_lens hp hq)
  clear hx hy hp hq
  go_enter Try.func154, Try.ntmps154
  go_wp2_with fail
  refine calls_at (fun W => Below w.heap.size w W ∧ RatAt W w.heap.size 28 false none 0 0 none 0 0) ⟨below1 _ _, RatAt.new _ _ _ _ _ _ _ _ _⟩ ?_
  rintro W ⟨hb, r0⟩
  refine (l02Int_nat 0 W (by omega)).mono ?_
  rintro e w1 ⟨A1, c1, B1, d1, rfl, o1, b1⟩
  have HB1 := Lib.hid (below_on (below_on hb b1) (below1 w1 (.cells #[.bool false, .slice A1 (D 0).length c1, .slice B1 (D 1).length d1] 28)))
  have HT1 := Lib.hid ((r0.on b1).on (below1 w1 (.cells #[.bool false, .slice A1 (D 0).length c1, .slice B1 (D 1).length d1] 28)))
  have HS1 : Hid (SumAt (w1.alloc (.cells #[.bool false, .slice A1 (D 0).length c1, .slice B1 (D 1).length d1] 28)) w1.heap.size 28 (dotK ps qs 0)) := by
    show SumAt _ _ _ _
    rw [dotK_zero]
    exact ⟨A1, c1, B1, d1, RatAt.new _ _ _ _ _ _ _ _ _, o1.on (below1 _ _)⟩
  have hw1 : w.heap.size < w1.heap.size := (r0.on b1).lt
  clear hb r0 o1 b1
  go_wp2
  go_loopw [6] (fun i wr => ∃ k : Nat, k ≤ n ∧ i = .int .i64 k ∧ Hid (SumAt wr w1.heap.size 28 (dotK ps qs k)) ∧ Hid (RatAt wr w.heap.size 28 false none 0 0 none 0 0) ∧ Hid (Below w.heap.size w wr)) (fun i _ => n - (intOf i).toNat)
  case atStart => exact ⟨0, Nat.zero_le _, rfl, HS1, HT1, HB1⟩
  case round =>
    obtain ⟨k, hk, rfl, HS, HT, HB⟩ := hrel
    by_cases hlt : k < n
    · obtain ⟨b, o, rfl, hP, _, hc⟩ := HX.out.at_ (by omega)
      obtain ⟨b', o', rfl, hP', _, hc'⟩ := HY.out.at_ (by omega)
      obtain ⟨Ai, ca, Bi, cb, q0, q1, q2, hrd⟩ := hc k hlt
      obtain ⟨Ai', ca', Bi', cb', q0', q1', q2', hrd'⟩ := hc' k hlt
      have hkp : k < ps.length := by rw [HLP.out]; exact hlt
      have hkq : k < qs.length := by rw [HLQ.out]; exact hlt
      rw [getD_rat ps k hkp] at q0 q1 q2 hrd
      rw [getD_rat qs k hkq] at q0' q1' q2' hrd'
      have HC0 : Hid (C3 wr b (o + k * 3) (isNeg (ps.getD k 0)) Ai (D (nu (ps.getD k 0))).length ca Bi (D (ps.getD k 0).den).length cb) := C3.below (w := w) ⟨q0, q1, q2⟩ hP HB.out
      have HC0' : Hid (C3 wr b' (o' + k * 3) (isNeg (qs.getD k 0)) Ai' (D (nu (qs.getD k 0))).length ca' Bi' (D (qs.getD k 0).den).length cb') := C3.below (w := w) ⟨q0', q1', q2'⟩ hP' HB.out
      have hl1 := (D_len_le _ 40).2 (HFP.out.at_ k hkp).1
      have hl2 := (D_len_le _ 40).2 (HFP.out.at_ k hkp).2
      have hl3 := (D_len_le _ 40).2 (HFQ.out.at_ k hkq).1
      have hl4 := (D_len_le _ 40).2 (HFQ.out.at_ k hkq).2
      have hl5 := HLEN.out k (by omega) (by omega)
      have hml := mul_lens (ps.getD k 0) (qs.getD k 0)
      have H1 := Lib.hid (RdR.below hrd HB.out)
      have H2 := Lib.hid (RdR.below hrd' HB.out)
      have hkN : (k : Int) < n := by omega
      have HSUC := Lib.hid (dotK_succ hkp hkq)
      have hbl : b < wr.heap.size := Nat.lt_of_lt_of_le hP HB.out.size
      have hbl' : b' < wr.heap.size := Nat.lt_of_lt_of_le hP' HB.out.size
      have hbn : b ≠ w1.heap.size := by omega
      have hbn' : b' ≠ w1.heap.size := by omega
      clear q0 q1 q2 hc hrd q0' q1' q2' hc' hrd' hkp hkq
      generalize ps.getD k 0 = p at *
      generalize qs.getD k 0 = q at *
      obtain ⟨As, cs, Bs, ds, rs0, hs0⟩ := HS.out
      have HR0 := Lib.hid rs0
      have HSR := Lib.hid hs0
      clear HS rs0 hs0
      have HMUL := Lib.hid (fun (W : World) (h0 : RdR W (· < w.heap.size) (D (nu p)) (D p.den) Ai ca Bi cb) (h1 : RdR W (· < w.heap.size) (D (nu q)) (D q.den) Ai' ca' Bi' cb') => l02Mul_any p q Ai Bi ca cb Ai' Bi' ca' cb' _ _ W h0 h1 (by omega) (by omega) (by omega) (by omega))
      have HADD := Lib.hid (fun (W : World) (Am Bm : Option Addr) (cm dm : Nat) (h0 : RdR W (fun _ => True) (D (nu (dotK ps qs k))) (D (dotK ps qs k).den) As cs Bs ds) (h1 : RdR W (fun _ => True) (D (nu (p * q))) (D (p * q).den) Am cm Bm dm) => l02Add_any (dotK ps qs k) (p * q) As Bs cs ds Am Bm cm dm _ _ W h0 h1 (by omega) (by omega) (by omega) (by omega))
      rw [← HSUC.out] at HADD
      clear hl5 hml HSUC
      generalize dotK ps qs k = s at *
      obtain ⟨s', hs'⟩ : ∃ s', s' = dotK ps qs (k + 1) := ⟨_, rfl⟩
      rw [← hs'] at HADD
      have HSP := Lib.hid hs'
      clear hs'
      generalize p * q = m at *
      have z0 := HR0.out.c0
      have z1 := HR0.out.c1
      have z2 := HR0.out.c2
      go_wp2_with fail
      obtain ⟨a0, a1, a2⟩ := HC0.out
      obtain ⟨a0', a1', a2'⟩ := HC0'.out
      go_region_with (first | (go_at_call 125; refine (HADD.out _ A2 B2 c2 d2 (by exact HSR1.out) (by exact HM1.out)).mono ?_; rintro e v2 ⟨A3, c3, B3, d3, rfl, o3, bb⟩; have HB2 := Lib.hid (below_on HB1'.out bb); have HC2 := Lib.hid (HC1.out.on HBL1.out bb); have HC2' := Lib.hid (HC1'.out.on HBL1'.out bb); have HBL2 := Lib.hid (Nat.lt_of_lt_of_le HBL1.out bb.size); have HBL2' := Lib.hid (Nat.lt_of_lt_of_le HBL1'.out bb.size); have HR2 := Lib.hid (HR1.out.on bb); have HT2 := Lib.hid (HTW1.out.on bb); have HO3 := Lib.hid o3; have f0 := HR2.out.fz 0; have f1 := HR2.out.fz 1; have f2 := HR2.out.fz 2; have y0 := HR2.out.c0; have y1 := HR2.out.c1; have y2 := HR2.out.c2; clear o3 bb) | (go_at_call 126; refine (HMUL.out _ (by exact H1.out) (by exact H2.out)).mono ?_; rintro e v1 ⟨A2, c2, B2, d2, rfl, o2, bb⟩; have bb := undrew bb; have HB1' := Lib.hid (below_on HB.out bb); have HC1 := Lib.hid (HC0.out.on hbl bb); have HC1' := Lib.hid (HC0'.out.on hbl' bb); have HBL1 := Lib.hid (Nat.lt_of_lt_of_le hbl bb.size); have HBL1' := Lib.hid (Nat.lt_of_lt_of_le hbl' bb.size); have HR1 := Lib.hid (HR0.out.on bb); have HTW1 := Lib.hid (HT.out.on bb); have HSR1 := Lib.hid (HSR.out.on bb); have HM1 := Lib.hid o2; have u0 := HR1.out.c0; have u1 := HR1.out.c1; have u2 := HR1.out.c2; have hb1l := HBL1.out; have hb1l' := HBL1'.out; obtain ⟨e0, e1, e2⟩ := HC1.out; obtain ⟨e0', e1', e2'⟩ := HC1'.out; clear o2 bb))
      all_goals
        have g2 := setAll_grown v2 w1.heap.size (.bool (isNeg s')) (.slice A3 (D (nu s')).length c3) (.slice B3 (D s'.den).length d3)
        have HS3 : Hid (SumAt (((v2.setCell ⟨w1.heap.size, 0, none⟩ (.bool (isNeg s'))).setCell ⟨w1.heap.size, 1, none⟩ (.slice A3 (D (nu s')).length c3)).setCell ⟨w1.heap.size, 2, none⟩ (.slice B3 (D s'.den).length d3)) w1.heap.size 28 s') := ⟨A3, c3, B3, d3, HR2.out.setAll _ _ _ _ _ _ _, ⟨HO3.out.1.past HR2.out g2, HO3.out.2.past HR2.out g2⟩⟩
        have HT3 := Lib.hid (HT2.out.grown g2 (by omega))
        have HB3 := Lib.hid (below_grow HB2.out (by omega) g2)
        clear g2 f0 f1 f2 y0 y1 y2
        go_wp2
        go_roundw
        case rel => exact ⟨k + 1, by omega, by go_num, (by rw [← HSP.out]; exact HS3), HT3, HB3⟩
        case measure => simp [intOf]; omega
    · obtain rfl : k = n := by omega
      have HK : Hid (dotK ps qs ps.length = dotK ps qs k) := by show _ = _; rw [HLP.out]
      obtain ⟨s, hss⟩ : ∃ s, s = dotK ps qs k := ⟨_, rfl⟩
      have HSS := Lib.hid hss
      obtain ⟨As, cs, Bs, ds, rs0, hs0⟩ := HS.out
      rw [← hss] at rs0 hs0
      have HR0 := Lib.hid rs0
      have HSR := Lib.hid hs0
      clear HS rs0 hs0 HLEN hss
      have z0 := HR0.out.c0
      have z1 := HR0.out.c1
      have z2 := HR0.out.c2
      have f0 := HT.out.fz 0
      have f1 := HT.out.fz 1
      have f2 := HT.out.fz 2
      have y0 := HT.out.c0
      have y1 := HT.out.c1
      have y2 := HT.out.c2
      go_wp2
      have g2 := fun b u v => setAll_grown wr w.heap.size (.bool b) u v
      refine bodyPost_ret (retR rfl _ _ _ rfl (HT.out.setAll _ _ _ _ _ _ _)) rfl ?_
      rw [HK.out, ← HSS.out]
      exact ⟨As, cs, Bs, ds, rfl, ⟨HSR.out.1.past HT.out (g2 _ _ _), HSR.out.2.past HT.out (g2 _ _ _)⟩, below_grow HB.out (by omega) (g2 _ _ _)⟩

theorem zeroRC (w w' : World) (code : Int) (hB : Below w.heap.size w w') : SayRC' w false [] [] code (.returned (.tuple #[.agg #[.bool false, .slice none 0 0, .slice none 0 0], .int .i64 code])) w' :=
  ⟨none, 0, none, 0, rfl, ⟨Rd.nil_ _ _ _ _ (fun _ => rfl), Rd.nil_ _ _ _ _ (fun _ => rfl)⟩, hB⟩

end Go.Proofs.Ytlphcpkhclfkaaa
