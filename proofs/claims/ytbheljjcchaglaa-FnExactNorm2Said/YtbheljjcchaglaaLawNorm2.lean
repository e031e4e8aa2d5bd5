/-
  The law FnExactNorm2: whatever the arguments, Norm2 answers as its model, writes into no argument, and what it answers is memory of its own. No condition.
-/
import Derived.Test.YtbheljjcchaglaaDotVec
import Derived.ProofKit
import Derived.OpenShut
import Derived.ShutString
import Derived.ChangeOld
namespace Nt
open Go Go.RowKit
theorem OwnV.farQ {tr ti : TypeId} {w w' : World} {base n c : Nat} {V : Option Addr} {L : List EV} (h : OwnV tr ti w base V n c L) (hk : ∀ b, base ≤ b → b < w.heap.size → w'.heap[b]? = w.heap[b]?) : OwnV tr ti w' base V n c L := by
  refine ⟨?_, fun i hi => ?_, h.2.2⟩
  · rcases h.1 with ⟨h1, h2 | ⟨g, cap, cur, e', hb, hh, h3⟩⟩
    · exact ⟨h1, .inl h2⟩
    · have hlt : g < w.heap.size := by
        rcases Nat.lt_or_ge g w.heap.size with hlt | hge
        · exact hlt
        · rw [Array.getElem?_eq_none hge] at hh; cases hh
      exact ⟨h1, .inr ⟨g, cap, cur, e', hb, (hk g hb hlt).trans hh, h3⟩⟩
  · have ho := h.2.1 i hi
    exact ⟨own_at_block ho.1 fun g hg => hk g (own_block ho.1 hg).1 (own_block ho.1 hg).2, own_at_block ho.2.1 fun g hg => hk g (own_block ho.2.1 hg).1 (own_block ho.2.1 hg).2, ho.2.2⟩
theorem OwnR.farQ {ti : TypeId} {w w' : World} {base : Nat} {xs ys : List Int} {A B : Option Addr} {ca cb : Nat} (h : OwnR ti w base xs ys A ca B cb) (hk : ∀ b, base ≤ b → b < w.heap.size → w'.heap[b]? = w.heap[b]?) : OwnR ti w' base xs ys A ca B cb :=
  ⟨own_at_block h.1 fun g hg => hk g (own_block h.1 hg).1 (own_block h.1 hg).2, own_at_block h.2.1 fun g hg => hk g (own_block h.2.1 hg).1 (own_block h.2.1 hg).2, h.2.2⟩
theorem RatAt.underQ {w w' : World} {b N : Nat} {t : TypeId} {neg : Bool} {A B : Option Addr} {la ca lb cb : Nat} (h : RatAt w b t neg A la ca B lb cb) (hb : b < N) (hw : Below N w w') : RatAt w' b t neg A la ca B lb cb := (hw.block b hb).trans h
end Nt
namespace Go.Proofs.Ytbheljjcchaglaa
open Go Go.RowKit Nt
open Go.ChangeShapes Go.WideShapes Go.ChangeAt
open Go.ChangeMaps (open_string shut_string)

theorem ask_self' (n : Nat) (rs : List R3) : askV n n rs rs = if 4096 < n then 2 else if okV rs then 0 else 1 := by
  by_cases h : 4096 < n
  · rw [if_pos h]; unfold askV; rw [if_pos (.inl h)]
  · rw [if_neg h]; exact ask_self n rs h

set_option maxHeartbeats 800000 in
theorem implNorm2_any (N : Bool) (X Y : List Int) (code : Int) (A : Option Addr) (n c : Nat) (w : World) (hD : ∀ W : World, Below w.heap.size w W → Calls Try.prog 31 #[.slice A n c, .slice A n c] W (RetRC 3 W N X Y code)) :
    Calls Try.prog 34 #[.slice A n c] w (RetRC 3 w N X Y code) := by
  have HD := Lib.hid hD
  clear hD
  go_enter Try.func34, Try.ntmps34
  go_wp2_with fail
  refine calls_at (fun W => Below w.heap.size w W ∧ RatAt W w.heap.size 43 false none 0 0 none 0 0) ⟨below1 _ _, RatAt.new _ _ _ _ _ _ _ _ _⟩ ?_
  rintro W ⟨hb, r0⟩
  refine (HD.out W hb).mono ?_
  rintro e w3 ⟨A3, c3, B3, d3, rfl, o3, b3⟩
  have HB3 := Lib.hid (below_on hb b3)
  have HT3 := Lib.hid (r0.on b3)
  have HO3 := Lib.hid o3
  have hs2 := r0.lt
  have hs0 := hb.size
  clear hb r0 o3 b3
  have f0 := HT3.out.fz 0
  have f1 := HT3.out.fz 1
  have f2 := HT3.out.fz 2
  have y0 := HT3.out.c0
  have y1 := HT3.out.c1
  have y2 := HT3.out.c2
  go_wp2
  have g2 := fun b u v => setAll_grown w3 w.heap.size (.bool b) u v
  refine bodyPost_ret (retRC rfl _ _ _ rfl (HT3.out.setAll _ _ _ _ _ _ _)) rfl ?_
  exact ⟨A3, c3, B3, d3, rfl, ⟨own_mono (own_gone HO3.out.1 (g2 _ _ _) (fun k hk => by have := own_block HO3.out.1 hk; omega)) (by omega), own_mono (own_gone HO3.out.2.1 (g2 _ _ _) (fun k hk => by have := own_block HO3.out.2.1 hk; omega)) (by omega), HO3.out.2.2⟩, below_grow HB3.out (by omega) (g2 _ _ _)⟩

set_option maxHeartbeats 800000 in
theorem specNorm2_code (A : Option Addr) (n c : Nat) (rs : List R3) (P : Nat → Prop) (w : World) (hx : RdS w P A n c rs) (hs : Small rs) (hn : n ≤ 1048576) (code : Int) (hcode : askV n n rs rs = code) (hc0 : code ≠ 0) :
    Calls Try.prog 33 #[.slice A n c] w (SayRC' w false [] [] code) := by
  have HX := Lib.hid hx.low
  have HS := Lib.hid hs
  have HC := Lib.hid hcode
  have hbc : (code != 0) = true := by simpa using hc0
  clear hx hs hcode hc0
  by_cases h1 : 4096 < n
  · have he : code = 2 := by rw [← HC.out]; unfold askV; rw [if_pos (.inl h1)]
    subst he
    have z1 : decide ((4096 : Int) < n) = true := by simp; omega
    go_enter Try.func33, Try.ntmps33
    go_wp2
    refine bodyPost_ret (retRC rfl _ _ _ rfl (RatAt.new _ _ _ _ _ _ _ _ _)) rfl ?_
    exact zeroRC _ _ _ (below1 _ _)
  have z1 : decide ((4096 : Int) < n) = false := by simp; omega
  clear h1
  go_enter Try.func33, Try.ntmps33
  go_wp2_with fail
  refine calls_at (fun W => Below w.heap.size w W ∧ RatAt W w.heap.size 43 false none 0 0 none 0 0) ⟨below1 _ _, RatAt.new _ _ _ _ _ _ _ _ _⟩ ?_
  rintro W ⟨hb, r0⟩
  refine (l03Ask_any A n c rs A n c rs _ _ W (HX.out.below hb) (HX.out.below hb) HS.out HS.out hn hn).mono ?_
  rintro e w1 ⟨rfl, b1⟩
  rw [HC.out]
  have HB1 := Lib.hid (below_on hb b1)
  have HT1 := Lib.hid (r0.on b1)
  clear hb r0 b1
  have f0 := HT1.out.fz 0
  have f1 := HT1.out.fz 1
  have f2 := HT1.out.fz 2
  have y0 := HT1.out.c0
  have y1 := HT1.out.c1
  have y2 := HT1.out.c2
  go_wp2
  have g2 := fun b u v => setAll_grown w1 w.heap.size (.bool b) u v
  refine bodyPost_ret (retRC rfl _ _ _ rfl (HT1.out.setAll _ _ _ _ _ _ _)) rfl ?_
  exact zeroRC _ _ _ (below_grow HB1.out (by omega) (g2 _ _ _))

set_option maxRecDepth 20000 in
set_option maxHeartbeats 1600000 in
theorem specNorm2_ok (ps : List Rat) (X : Option Addr) (n c : Nat) (P : Nat → Prop) (w : World) (hx : RdS w P X n c (ps.map rat3)) (hp : Fine ps) (hask : askV n n (ps.map rat3) (ps.map rat3) = 0) :
    Calls Try.prog 33 #[.slice X n c] w (SayRC' w (fN (dotK ps ps ps.length)) (fX (dotK ps ps ps.length)) (fY (dotK ps ps ps.length)) (fK (dotK ps ps ps.length))) := by
  obtain ⟨o1, _, _, _⟩ := sameVV_yes hask
  have q1 := okV_out o1
  have hlp : ps.length = n := by have := hx.len; rw [List.length_map] at this; exact this
  have q3 := q1.2.1
  rw [List.length_map] at q3
  have hlen := dotK_lens hp hp ps.length (Nat.le_refl _) (Nat.le_refl _)
  have hf1 : (D (nu (dotK ps ps ps.length))).length ≤ 16777216 := Nat.le_trans hlen.1 (by omega)
  have hf2 : (D (dotK ps ps ps.length).den).length ≤ 16777216 := Nat.le_trans hlen.2 (by omega)
  have HDOT := Lib.hid (fun (W : World) (h1 : RdS W (· < w.heap.size) X n c (ps.map rat3)) => l03Dot_any ps ps X X n c c _ _ W h1 h1 hp hp (by omega))
  have HS := Lib.hid (small_fine hp)
  have HC := Lib.hid hask
  have HX := Lib.hid hx.low
  have hn4 : n ≤ 4 := by omega
  have z1 : decide ((4096 : Int) < n) = false := by simp; omega
  clear hx hask o1 q1 q3 hp hlen hlp
  generalize dotK ps ps ps.length = r at *
  go_enter Try.func33, Try.ntmps33
  go_wp2_with fail
  refine calls_at (fun W => Below w.heap.size w W ∧ RatAt W w.heap.size 43 false none 0 0 none 0 0) ⟨below1 _ _, RatAt.new _ _ _ _ _ _ _ _ _⟩ ?_
  rintro W ⟨hb, r0⟩
  refine (l03Ask_any X n c _ X n c _ _ _ W (HX.out.below hb) (HX.out.below hb) HS.out HS.out (by omega) (by omega)).mono ?_
  rintro e w1 ⟨rfl, b1⟩
  rw [HC.out]
  have HB1 := Lib.hid (below_on hb b1)
  have HT1 := Lib.hid (r0.on b1)
  clear hb r0 b1
  go_wp2_with fail
  refine (HDOT.out w1 (HX.out.below HB1.out)).mono ?_
  rintro e w2 ⟨A2, c2, B2, d2, rfl, o2, b2⟩
  have HB2 := Lib.hid (below_on HB1.out b2)
  have HT2 := Lib.hid (HT1.out.on b2)
  have HO2 := Lib.hid o2
  clear b2 o2 HB1 HT1
  go_wp2_with fail
  refine (l02Fit_any r A2 B2 c2 d2 _ w2 HO2.out hf1 hf2).mono ?_
  rintro e w3 ⟨A3, c3, B3, d3, rfl, o3, b3⟩
  have HB3 := Lib.hid (below_on HB2.out b3)
  have HT3 := Lib.hid (HT2.out.on b3)
  have HO3 := Lib.hid o3
  clear b3 o3 HB2 HT2 HO2
  have f0 := HT3.out.fz 0
  have f1 := HT3.out.fz 1
  have f2 := HT3.out.fz 2
  have y0 := HT3.out.c0
  have y1 := HT3.out.c1
  have y2 := HT3.out.c2
  go_wp2
  have g2 := fun b u v => setAll_grown w3 w.heap.size (.bool b) u v
  refine bodyPost_ret (retRC rfl _ _ _ rfl (HT3.out.setAll _ _ _ _ _ _ _)) rfl ?_
  exact ⟨A3, c3, B3, d3, rfl, ⟨HO3.out.1.past HT3.out (g2 _ _ _), HO3.out.2.past HT3.out (g2 _ _ _)⟩, below_grow HB3.out (by omega) (g2 _ _ _)⟩

set_option maxRecDepth 20000 in
set_option maxHeartbeats 6400000 in
theorem lawNorm2_core (N : Bool) (X Y : List Int) (code : Int) (A0 : Option Addr) (ca0 : Nat) (r0 : List R3) (w : World) (hX : X.length ≤ 1000) (hY : Y.length ≤ 1000)
    (hS : ∀ (a0 : Option Addr) (c0 : Nat) (W : World), RdS W (fun _ => True) a0 r0.length c0 r0 → Calls Try.prog 33 #[.slice a0 r0.length c0] W (SayRC' W N X Y code))
    (hI : ∀ (a0 : Option Addr) (c0 : Nat) (W : World), RdS W (fun _ => True) a0 r0.length c0 r0 → Calls Try.prog 34 #[.slice a0 r0.length c0] W (RetRC 3 W N X Y code))
    (hr0 : RdS w (· < w.heap.size) A0 r0.length ca0 r0) (hs0 : Short r0) (hsz : (r0.length + tot r0) ≤ 1048576) :
    Calls Try.prog 8 #[.slice A0 r0.length ca0] w fun e w' => e = .returned (.bool true) ∧ Below w.heap.size w w' := by
  have HS := Lib.hid hS
  have HI := Lib.hid hI
  clear hS hI
  have HRk0 := Lib.hid hr0
  have HSk0 := Lib.hid hs0
  have HMk0 := Lib.hid (small_tot (rs := r0) (by omega))
  clear hr0 hs0
  have hcc : (code != code) = false := by simp
  go_enter Try.func8, Try.ntmps8
  go_wp2_with fail
  refine (szRatS_any A0 _ ca0 r0 (1048576) w HRk0.out HSk0.out (by omega) (by omega) (by omega)).mono ?_
  rintro e v1 ⟨rfl, bb⟩
  have HBv1 := Lib.hid bb
  have sv1 : w.heap.size ≤ v1.heap.size := bb.size
  clear bb
  rw [szS_fit (by omega)]
  have hle0 : 0 ≤ 1048576 - (r0.length : Int) - (tot r0 : Int) := by omega
  go_wp2_with fail
  refine (toRatS_any A0 _ ca0 r0 v1 ((HRk0.out.below HBv1.out).mono (Q := (· < v1.heap.size)) fun _ h _ => Nat.lt_of_lt_of_le h HBv1.out.size) HMk0.out (by omega)).mono ?_
  rintro e v2 ⟨sA0, sc0, rfl, oo, bb⟩
  have sv2 : v1.heap.size ≤ v2.heap.size := bb.size
  have HBv2 := Lib.hid (below_on HBv1.out bb)
  have Hs0v2 := Lib.hid oo.all
  clear oo
  clear bb HBv1
  go_wp2_with fail
  refine (HS.out sA0 sc0 v2 Hs0v2.out).mono ?_
  rintro e v3 ⟨wA, wc, wB, wd, rfl, oo, bb⟩
  have sv3 : v2.heap.size ≤ v3.heap.size := bb.size
  have HBv3 := Lib.hid (below_on HBv2.out bb)
  have Hs0v3 := Lib.hid (Hs0v2.out.on bb)
  have HWv3 := Lib.hid (oo.mono (Q := (· < v3.heap.size)) fun _ _ h => h)
  clear oo
  clear bb HBv2 Hs0v2
  clear Hs0v3
  go_wp2_with fail
  refine calls_at (fun V => (v3.heap.size < V.heap.size) ∧ (Below w.heap.size w V) ∧ (RdR V (· < v3.heap.size) X Y wA wc wB wd) ∧ (RatAt V v3.heap.size 43 N wA X.length wc wB Y.length wd))
    ⟨by simp, below_on HBv3.out (below1 _ _), HWv3.out.on (below1 _ _), RatAt.new _ _ _ _ _ _ _ _ _⟩ ?_
  rintro v4 ⟨sv4, pB, pW, pwb⟩
  have HBv4 := Lib.hid pB
  have HWv4 := Lib.hid pW
  have Hwbv4 := Lib.hid pwb
  clear pB pW pwb HBv3 HWv3
  refine (toRatS_own A0 _ ca0 r0 v4 ((HRk0.out.below HBv4.out).mono (Q := (· < v4.heap.size)) fun _ h _ => Nat.lt_of_lt_of_le h HBv4.out.size) HMk0.out (by omega)).mono ?_
  rintro e v5 ⟨xA0, xc0, xL0, rfl, oo, ev, bb⟩
  have sv5 : v4.heap.size ≤ v5.heap.size := bb.size
  have HBv5 := Lib.hid (below_on HBv4.out bb)
  have HWv5 := Lib.hid (HWv4.out.on bb)
  have Hwbv5 := Lib.hid (Hwbv4.out.on bb)
  have Hx0v5 := Lib.hid oo
  have HEx0 := Lib.hid ev
  clear oo ev
  clear bb HBv4 HWv4 Hwbv4
  go_wp2_with fail
  have HLX0 := Lib.hid Hx0v5.out.lt
  refine (HI.out xA0 xc0 v5 (by have h := Hx0v5.out.rd.all; rw [HEx0.out] at h; exact h)).mono ?_
  rintro e v6 ⟨gA, gc, gB, gd, rfl, oo, bb⟩
  have sv6 : v5.heap.size ≤ v6.heap.size := bb.size
  have HBv6 := Lib.hid (below_on HBv5.out bb)
  have HWv6 := Lib.hid (HWv5.out.on bb)
  have Hwbv6 := Lib.hid (Hwbv5.out.on bb)
  have Hx0v6 := Lib.hid (Hx0v5.out.on bb)
  have HGv6 := Lib.hid oo
  clear oo
  clear bb HBv5 HWv5 Hwbv5 Hx0v5
  have hsw : v3.heap.size < v6.heap.size := by omega
  have qwb0 := Hwbv6.out.c0
  have qwb1 := Hwbv6.out.c1
  have qwb2 := Hwbv6.out.c2
  go_wp2_with fail
  clear qwb0 qwb1 qwb2
  refine calls_at (fun V => (v6.heap.size < V.heap.size) ∧ (Below w.heap.size w V) ∧ (RdR V (· < v3.heap.size) X Y wA wc wB wd) ∧ (RatAt V v3.heap.size 43 N wA X.length wc wB Y.length wd) ∧ (OwnV 43 3 V v4.heap.size xA0 r0.length xc0 xL0) ∧ (OwnR 3 V v5.heap.size X Y gA gc gB gd) ∧ (RatAt V v6.heap.size 43 N gA X.length gc gB Y.length gd))
    ⟨by simp, below_on HBv6.out (below1 _ _), HWv6.out.on (below1 _ _), Hwbv6.out.on (below1 _ _), Hx0v6.out.on (below1 _ _), HGv6.out.on (below1 _ _), RatAt.new _ _ _ _ _ _ _ _ _⟩ ?_
  rintro v7 ⟨sv7, pB, pW, pwb, px0, pG, pgb⟩
  have HBv7 := Lib.hid pB
  have HWv7 := Lib.hid pW
  have Hwbv7 := Lib.hid pwb
  have Hx0v7 := Lib.hid px0
  have HGv7 := Lib.hid pG
  have Hgbv7 := Lib.hid pgb
  clear pB pW pwb px0 pG pgb HBv6 HWv6 Hwbv6 Hx0v6 HGv6
  refine (eqRat_same N gA gB wA wB gc gd wc wd X Y _ _ v7 HGv7.out.rdt HWv7.out (by omega) (by omega)).mono ?_
  rintro e v8 ⟨rfl, bb⟩
  have sv8 : v7.heap.size ≤ v8.heap.size := bb.size
  have HBv8 := Lib.hid (below_on HBv7.out bb)
  have HWv8 := Lib.hid (HWv7.out.on bb)
  have Hwbv8 := Lib.hid (Hwbv7.out.on bb)
  have Hx0v8 := Lib.hid (Hx0v7.out.on bb)
  have HGv8 := Lib.hid (HGv7.out.on bb)
  have Hgbv8 := Lib.hid (Hgbv7.out.on bb)
  clear bb HBv7 HWv7 Hwbv7 Hx0v7 HGv7 Hgbv7
  go_wp2_with fail
  refine (toRatS_any A0 _ ca0 r0 v8 ((HRk0.out.below HBv8.out).mono (Q := (· < v8.heap.size)) fun _ h _ => Nat.lt_of_lt_of_le h HBv8.out.size) HMk0.out (by omega)).mono ?_
  rintro e v9 ⟨zA0, zc0, rfl, oo, bb⟩
  have sv9 : v8.heap.size ≤ v9.heap.size := bb.size
  have HBv9 := Lib.hid (below_on HBv8.out bb)
  have HWv9 := Lib.hid (HWv8.out.on bb)
  have Hwbv9 := Lib.hid (Hwbv8.out.on bb)
  have Hx0v9 := Lib.hid (Hx0v8.out.on bb)
  have HGv9 := Lib.hid (HGv8.out.on bb)
  have Hgbv9 := Lib.hid (Hgbv8.out.on bb)
  have Hz0v9 := Lib.hid oo.all
  clear oo
  clear bb HBv8 HWv8 Hwbv8 Hx0v8 HGv8 Hgbv8
  go_wp2_with fail
  refine (eqRatS_same xA0 zA0 _ xc0 zc0 r0 _ _ v9 (by have h := Hx0v9.out.rd.all; rw [HEx0.out] at h; exact h) Hz0v9.out HMk0.out (by omega)).mono ?_
  rintro e v10 ⟨rfl, bb⟩
  have sv10 : v9.heap.size ≤ v10.heap.size := bb.size
  have HBv10 := Lib.hid (below_on HBv9.out bb)
  have HWv10 := Lib.hid (HWv9.out.on bb)
  have Hwbv10 := Lib.hid (Hwbv9.out.on bb)
  have Hx0v10 := Lib.hid (Hx0v9.out.on bb)
  have HGv10 := Lib.hid (HGv9.out.on bb)
  have Hgbv10 := Lib.hid (Hgbv9.out.on bb)
  have Hz0v10 := Lib.hid (Hz0v9.out.on bb)
  clear bb HBv9 HWv9 Hwbv9 Hx0v9 HGv9 Hgbv9 Hz0v9
  clear Hz0v10
  go_wp2_with fail
  refine (markRatS_any xA0 _ xc0 xL0 (1) _ v10 Hx0v10.out (by rw [HEx0.out]; omega) (by omega) (by omega)).mono ?_
  rintro e v11 ⟨rfl, oo⟩
  rw [HEx0.out]
  have bl := oo.2.below Hx0v10.out (by omega)
  have up := oo.2.beyond HLX0.out
  have sv11 : v10.heap.size ≤ v11.heap.size := bl.size
  have HBv11 := Lib.hid (HBv10.out.trans (bl.mono (by omega)))
  have HWv11 := Lib.hid (HWv10.out.below (bl.mono (by omega)))
  have Hwbv11 := Lib.hid (Hwbv10.out.underQ (by omega) bl)
  have HGv11 := Lib.hid (HGv10.out.farQ up)
  have Hgbv11 : Hid (RatAt v11 v6.heap.size 43 N gA X.length gc gB Y.length gd) := ((up _ (by omega) Hgbv10.out.lt).trans Hgbv10.out)
  clear bl up oo HBv10 HWv10 Hwbv10 Hx0v10 HGv10 Hgbv10
  generalize hM0 : 1 + r0.length + tot r0 = m0
  have HMM0 := Lib.hid hM0
  have hmb0 : m0 ≤ 2000000 := by omega
  clear hM0
  have qgb0 := Hgbv11.out.c0
  have qgb1 := Hgbv11.out.c1
  have qgb2 := Hgbv11.out.c2
  have qwb0 := Hwbv11.out.c0
  have qwb1 := Hwbv11.out.c1
  have qwb2 := Hwbv11.out.c2
  go_wp2_with fail
  clear qgb0 qgb1 qgb2 qwb0 qwb1 qwb2
  refine (eqRat_same N gA gB wA wB gc gd wc wd X Y _ _ v11 HGv11.out.rdt HWv11.out (by omega) (by omega)).mono ?_
  rintro e v12 ⟨rfl, bb⟩
  have sv12 : v11.heap.size ≤ v12.heap.size := bb.size
  have HBv12 := Lib.hid (below_on HBv11.out bb)
  have HWv12 := Lib.hid (HWv11.out.on bb)
  have Hwbv12 := Lib.hid (Hwbv11.out.on bb)
  have HGv12 := Lib.hid (HGv11.out.on bb)
  have Hgbv12 := Lib.hid (Hgbv11.out.on bb)
  clear bb HBv11 HWv11 Hwbv11 HGv11 Hgbv11
  have qgb0 := Hgbv12.out.c0
  have qgb1 := Hgbv12.out.c1
  have qgb2 := Hgbv12.out.c2
  go_wp2_with fail
  clear qgb0 qgb1 qgb2
  refine (markRat_any N gA gB gc gd X Y 1 _ v12 HGv12.out (by omega) (by omega) (by omega) (by omega)).mono ?_
  rintro e v13 ⟨rfl, oo⟩
  have bl := oo.2.below HGv12.out (by omega)
  have sv13 : v12.heap.size ≤ v13.heap.size := bl.size
  have HBv13 := Lib.hid (HBv12.out.trans (bl.mono (by omega)))
  have HWv13 := Lib.hid (HWv12.out.below (bl.mono (by omega)))
  have Hwbv13 := Lib.hid (Only.at_ oo.2 HGv12.out (by decide) Hwbv12.out)
  have Hgbv13 := Lib.hid (Only.at_ oo.2 HGv12.out (by decide) Hgbv12.out)
  have HMv13 := Lib.hid oo.1.rdt
  clear bl oo HBv12 HWv12 Hwbv12 HGv12 Hgbv12
  have hq0 : 0 ≤ 1 + (X.length : Int) + (Y.length : Int) := by omega
  have hqq : (1 + (X.length : Int) + (Y.length : Int) != 1 + (X.length : Int) + (Y.length : Int)) = false := by simp
  have qgb0 := Hgbv13.out.c0
  have qgb1 := Hgbv13.out.c1
  have qgb2 := Hgbv13.out.c2
  go_wp2_with fail
  clear qgb0 qgb1 qgb2
  refine (heldRat_any N gA gB gc gd _ _ 1 _ v13 HMv13.out (by omega) (by omega) (by omega) (by omega)).mono ?_
  rintro e v14 ⟨rfl, bb⟩
  have sv14 : v13.heap.size ≤ v14.heap.size := bb.size
  have HBv14 := Lib.hid (below_on HBv13.out bb)
  have HWv14 := Lib.hid (HWv13.out.on bb)
  have Hwbv14 := Lib.hid (Hwbv13.out.on bb)
  have Hgbv14 := Lib.hid (Hgbv13.out.on bb)
  have HMv14 := Lib.hid (HMv13.out.on bb)
  clear bb HBv13 HWv13 Hwbv13 Hgbv13 HMv13
  go_wp2_with fail
  refine (toRatS_any A0 _ ca0 r0 v14 ((HRk0.out.below HBv14.out).mono (Q := (· < v14.heap.size)) fun _ h _ => Nat.lt_of_lt_of_le h HBv14.out.size) HMk0.out (by omega)).mono ?_
  rintro e v15 ⟨hA0, hc0, rfl, oo, bb⟩
  have sv15 : v14.heap.size ≤ v15.heap.size := bb.size
  have HBv15 := Lib.hid (below_on HBv14.out bb)
  have HWv15 := Lib.hid (HWv14.out.on bb)
  have Hwbv15 := Lib.hid (Hwbv14.out.on bb)
  have Hgbv15 := Lib.hid (Hgbv14.out.on bb)
  have HMv15 := Lib.hid (HMv14.out.on bb)
  have Hh0v15 := Lib.hid oo.all
  clear oo
  clear bb HBv14 HWv14 Hwbv14 Hgbv14 HMv14
  go_wp2_with fail
  refine (HI.out hA0 hc0 v15 Hh0v15.out).mono ?_
  rintro e v16 ⟨kA, kc, kB, kd, rfl, oo, bb⟩
  have sv16 : v15.heap.size ≤ v16.heap.size := bb.size
  have HBv16 := Lib.hid (below_on HBv15.out bb)
  have HWv16 := Lib.hid (HWv15.out.on bb)
  have Hwbv16 := Lib.hid (Hwbv15.out.on bb)
  have Hgbv16 := Lib.hid (Hgbv15.out.on bb)
  have HMv16 := Lib.hid (HMv15.out.on bb)
  have Hh0v16 := Lib.hid (Hh0v15.out.on bb)
  have HHv16 := Lib.hid oo.rdt
  clear oo
  clear bb HBv15 HWv15 Hwbv15 Hgbv15 HMv15 Hh0v15
  clear Hh0v16
  have hsw2 : v3.heap.size < v16.heap.size := by omega
  have qwb0 := Hwbv16.out.c0
  have qwb1 := Hwbv16.out.c1
  have qwb2 := Hwbv16.out.c2
  go_wp2_with fail
  clear qwb0 qwb1 qwb2
  refine calls_at (fun V => (v16.heap.size < V.heap.size) ∧ (Below w.heap.size w V) ∧ (RdR V (· < v3.heap.size) X Y wA wc wB wd) ∧ (RatAt V v3.heap.size 43 N wA X.length wc wB Y.length wd) ∧ (RatAt V v6.heap.size 43 N gA X.length gc gB Y.length gd) ∧ (RdR V (fun _ => True) (marks 1 X.length) (marks (1 + X.length) Y.length) gA gc gB gd) ∧ (RdR V (fun _ => True) X Y kA kc kB kd) ∧ (RatAt V v16.heap.size 43 N kA X.length kc kB Y.length kd))
    ⟨by simp, below_on HBv16.out (below1 _ _), HWv16.out.on (below1 _ _), Hwbv16.out.on (below1 _ _), Hgbv16.out.on (below1 _ _), HMv16.out.on (below1 _ _), HHv16.out.on (below1 _ _), RatAt.new _ _ _ _ _ _ _ _ _⟩ ?_
  rintro v17 ⟨sv17, pB, pW, pwb, pgb, pM, pH, phb⟩
  have HBv17 := Lib.hid pB
  have HWv17 := Lib.hid pW
  have Hwbv17 := Lib.hid pwb
  have Hgbv17 := Lib.hid pgb
  have HMv17 := Lib.hid pM
  have HHv17 := Lib.hid pH
  have Hhbv17 := Lib.hid phb
  clear pB pW pwb pgb pM pH phb HBv16 HWv16 Hwbv16 Hgbv16 HMv16 HHv16
  refine (eqRat_same N kA kB wA wB kc kd wc wd X Y _ _ v17 HHv17.out HWv17.out (by omega) (by omega)).mono ?_
  rintro e v18 ⟨rfl, bb⟩
  have sv18 : v17.heap.size ≤ v18.heap.size := bb.size
  have HBv18 := Lib.hid (below_on HBv17.out bb)
  have HWv18 := Lib.hid (HWv17.out.on bb)
  have Hwbv18 := Lib.hid (Hwbv17.out.on bb)
  have Hgbv18 := Lib.hid (Hgbv17.out.on bb)
  have HMv18 := Lib.hid (HMv17.out.on bb)
  have HHv18 := Lib.hid (HHv17.out.on bb)
  have Hhbv18 := Lib.hid (Hhbv17.out.on bb)
  clear bb HBv17 HWv17 Hwbv17 Hgbv17 HMv17 HHv17 Hhbv17
  have qgb0 := Hgbv18.out.c0
  have qgb1 := Hgbv18.out.c1
  have qgb2 := Hgbv18.out.c2
  go_wp2_with fail
  clear qgb0 qgb1 qgb2
  refine (heldRat_any N gA gB gc gd _ _ 1 _ v18 HMv18.out (by omega) (by omega) (by omega) (by omega)).mono ?_
  rintro e v19 ⟨rfl, bb⟩
  have sv19 : v18.heap.size ≤ v19.heap.size := bb.size
  have HBv19 := Lib.hid (below_on HBv18.out bb)
  have HWv19 := Lib.hid (HWv18.out.on bb)
  have Hwbv19 := Lib.hid (Hwbv18.out.on bb)
  have Hgbv19 := Lib.hid (Hgbv18.out.on bb)
  have HMv19 := Lib.hid (HMv18.out.on bb)
  have HHv19 := Lib.hid (HHv18.out.on bb)
  have Hhbv19 := Lib.hid (Hhbv18.out.on bb)
  clear bb HBv18 HWv18 Hwbv18 Hgbv18 HMv18 HHv18 Hhbv18
  go_wp2
  go_ret
  exact ⟨rfl, HBv19.out⟩

set_option maxHeartbeats 1600000 in
theorem lawNorm2_any (A0 : Option Addr) (la0 ca0 : Nat) (r0 : List R3) (w : World) (hr0 : RdS w (· < w.heap.size) A0 la0 ca0 r0) (hs0 : Short r0) (hn0 : la0 ≤ 9223372036854775807) :
    Calls Try.prog 8 #[.slice A0 la0 ca0] w fun e w' => e = .returned (.bool true) ∧ Below w.heap.size w w' := by
  obtain rfl := hr0.len
  by_cases hb0 : (1048576 : Int) < r0.length + tot r0
  · have HR := Lib.hid hr0
    have HS := Lib.hid hs0
    have HZ := Lib.hid (szS_big hb0)
    clear hr0 hs0 hb0
    go_enter Try.func8, Try.ntmps8
    go_wp2_with fail
    refine (szRatS_any A0 _ ca0 r0 1048576 w HR.out HS.out hn0 (by omega) (by omega)).mono ?_
    rintro e v2 ⟨rfl, b2⟩
    rw [HZ.out]
    have HB2 := Lib.hid b2
    clear b2
    go_wp2
    go_ret
    exact ⟨rfl, HB2.out⟩
  have hsm0 : Small r0 := small_tot (by omega)
  have hsz : (r0.length + tot r0) ≤ 1048576 := by omega
  by_cases ha : askV r0.length r0.length r0 r0 = 0
  · obtain ⟨o1, _, _, _⟩ := sameVV_yes ha
    obtain ⟨_, _, ps, rfl, hfp⟩ := okV_out o1
    have z1 := fX_len (dotK ps ps ps.length)
    have z2 := fY_len (dotK ps ps ps.length)
    exact lawNorm2_core (fN (dotK ps ps ps.length)) (fX (dotK ps ps ps.length)) (fY (dotK ps ps ps.length)) (fK (dotK ps ps ps.length)) A0 ca0 _ w (by omega) (by omega) (fun a0 c0 W h0 => specNorm2_ok ps a0 _ c0 _ W h0 hfp ha) (fun a0 c0 W h0 => implNorm2_any _ _ _ _ a0 _ c0 W fun V hb => implDot_ok ps ps a0 a0 _ c0 c0 _ _ V (h0.low.below hb) (h0.low.below hb) hfp hfp (by omega) ha) hr0 hs0 hsz
  · exact lawNorm2_core false [] [] (askV r0.length r0.length r0 r0) A0 ca0 r0 w (by decide) (by decide) (fun a0 c0 W h0 => specNorm2_code a0 _ c0 r0 _ W h0 hsm0 (by omega) _ rfl ha) (fun a0 c0 W h0 => implNorm2_any _ _ _ _ a0 _ c0 W fun V hb => implDot_code a0 _ c0 r0 a0 _ c0 r0 _ _ V (h0.low.below hb) (h0.low.below hb) hsm0 hsm0 (by omega) (by omega) _ rfl ha) hr0 hs0 hsz


theorem own_fnExactNorm2 : ownKnob Try.prog.godebug = none := by kernel_rfl
theorem laidOut_fnExactNorm2 : laidOutB Try.prog = true := by kernel_rfl
set_option maxRecDepth 100000 in
set_option linter.unusedVariables false in
theorem fnExactNorm2_lifted (os : Os) (started : os.Started) (H : Type) (enc : TypeId × Value → H) :
    ReturnsInHanded {} Try.checked os 8 .any (Rows.fnExactNorm2Spec.pre6 enc Try.prog Try.f8 Rows.fnExactNorm2Row.domain false) (Rows.fnExactNorm2Spec.post enc Try.prog Try.f8 false true false false) := by
  refine returnsInHanded_of_change (C := Try.checked) own_fnExactNorm2 started (by kernel_rfl) Try.func8
    (ChangeSpec.witness6 (enc := enc) (C := Try.checked) false ⟨#[], #[.slice none 0 0], []⟩ 8 (by kernel_rfl) (by kernel_rfl) (by kernel_rfl) (by kernel_rfl)) ?_
  intro W base args ds gs before hval0 hW hcnd _
  have hval : ∀ (j : Nat) t v, Try.f8.params[j]? = some t → args[j]? = some v → Value.okWide Try.prog W .any base t v := hval0
  have hW' := hW
  obtain ⟨p, q, hA0, hV, rfl, hfz, hnd⟩ := hW
  have hA : DataW.TrodAll enc Try.prog W 0 (fun _ => true) true Try.f8.params.toList args.toList ds p := hA0
  rw [Try.params8] at hA hval
  obtain ⟨v0, vs0, d0, ds0, p0, q0, hargs, rfl, rfl, h0, r0⟩ := trodAll_cons hA
  obtain ⟨rfl, rfl, rfl⟩ := trodAll_nil r0
  obtain rfl : args = #[v0] := by cases args; simp_all
  obtain ⟨rfl, rfl⟩ := trodVars_none hV
  obtain ⟨a0, len0, cap0, rfl⟩ := okWide_slice Try.underlying29 (hval 0 29 v0 rfl rfl)
  have k0 := h0
  have lt0 : ∀ x ∈ p0, x.block < W.heap.size := by obtain ⟨m, hm⟩ := k0; exact DataW.trod_lt m _ _ _ hm
  obtain ⟨z0, w0, u0, l0⟩ : ∃ rs, RdS W (· < W.heap.size) a0 len0 cap0 rs ∧ Short rs ∧ len0 ≤ 9223372036854775807 := by
    obtain ⟨fuel, hf⟩ := h0
    exact open_rats Try.underlying29 Try.underlying39 (by kernel_rfl) (by kernel_rfl) Try.underlying4 Try.underlying37 Try.underlying37 Try.underlying3 (by kernel_rfl) hf
  clear hA0 hval0
  refine (lawNorm2_any a0 len0 cap0 z0 W w0 u0 l0).mono fun e W' ⟨he, bel⟩ => ?_
  subst he
  exact ⟨_, rfl, _, _, _, [], _, [], hW', trodAll_mk1 (shut_bool Try.underlying4 _), (trodAll_cons_mk (Below.trod laidOut_fnExactNorm2 (by kernel_rfl) (of_decide_eq_true (by kernel_rfl)) k0 bel lt0) trodAll_mk0), rfl, bel.frame _, fun h => by cases h⟩

theorem fnExactNorm2_over : Rows.fnExactNorm2Row.holds Try.pinned (OpenSpec.ofChange Rows.fnExactNorm2Spec) :=
  OpenClaim.holds_of_wide 8 Try.f8 rfl rfl rfl rfl rfl rfl rfl ⟨rfl, rfl, rfl, rfl, rfl⟩ rfl rfl rfl rfl rfl (by kernel_rfl) Try.func8 (by kernel_rfl)
    (of_decide_eq_true (by kernel_rfl)) (by unfold Func.isWrapper; first | (rw [if_pos (by decide +kernel)]; kernel_rfl) | (rw [if_neg (by decide +kernel)]; exact ⟨rfl, rfl⟩))
    (fun os started H enc _ => fnExactNorm2_lifted os started H enc)

theorem fnExactNorm2_holds : Rows.FnExactNorm2Said := fnExactNorm2_over

end Go.Proofs.Ytbheljjcchaglaa
