/-
  Rationals that are drawn: RatDrawn, WideRat of the model.
-/
import Derived.Test.YtlphcpkhclfkaaaRatMake
import Derived.Test.YtlphcpkhclfkaaaDraw
namespace Nt
open Go Go.RowKit
/-- a rational is drawn, of at most k limbs a part; only the source has changed -/
def DrewR (w w' : World) (g k : Nat) (e : Ending) : Prop :=
  ∃ (r : Rat) (A : Option Addr) (ca : Nat) (B : Option Addr) (cb : Nat), (D (nu r)).length ≤ k ∧ (D r.den).length ≤ k ∧ e = .returned (.agg #[.bool (isNeg r), .slice A (D (nu r)).length ca, .slice B (D r.den).length cb]) ∧
    RdR w' (fun _ => True) (D (nu r)) (D r.den) A ca B cb ∧ w.grownBy w' (some g)
theorem grown_past {a w w' : World} {g b : Nat} (h : a.grownBy w (some g)) (k : w.grownBy w' (some b)) (hb : a.heap.size ≤ b) : a.grownBy w' (some g) :=
  ⟨k.os.trans h.os, k.tape.trans h.tape, k.output.trans h.output, Nat.le_trans h.size k.size, fun i hi hne => (k.block i (Nat.lt_of_lt_of_le hi h.size) (by intro e; injection e with e; omega)).trans (h.block i hi hne)⟩
theorem Src.below {w w' : World} {g : Nat} {t : TypeId} {A : Option Addr} {n c : Nat} {a s : Int} (h : Src w g t A n c a s) (hb : Below w.heap.size w w') : Src w' g t A n c a s := h.keep (hb.block g h.lt)
theorem RdB.on {w w' : World} {B : Nat} {A : Option Addr} {n : Nat} (h : RdB w (· < B) A n) (hb : Below w.heap.size w w') : RdB w' (· < B) A n :=
  h.keep hb.size fun b _ hl => hb.block b hl
end Nt
namespace Go.Proofs.Ytlphcpkhclfkaaa
open Go Go.RowKit Nt

set_option maxHeartbeats 800000 in
theorem srcChance_any (g n c : Nat) (A : Option Addr) (a s m : Int) (B : Nat) (w : World) (hS : Src w g 133 A n c a s) (hR : RdB w (· < B) A n) (hB : B ≤ g) (ha0 : 0 ≤ a) (ha1 : a ≤ 549755813888) (hs0 : 0 ≤ s) (hs1 : s < 2147483648) (hn : n ≤ 1099511627776) (hm : 1 < m) (hm1 : m ≤ 16777216) :
    Calls Try.prog 182 #[.pointer (some ⟨g, 0, none⟩), .int .i64 m] w (fun e w' => ∃ (b : Bool) (a' s' : Int), e = .returned (.bool b) ∧ a ≤ a' ∧ a' ≤ a + 3 ∧ 0 ≤ s' ∧ s' < 2147483648 ∧ Src w' g 133 A n c a' s' ∧ w.grownBy w' (some g)) := by
  have HN := Lib.hid (srcNext_any g n c A a s m B w hS hR hB ha0 ha1 hs0 hs1 hn hm hm1)
  clear hS hR
  go_enter Try.func182, Try.ntmps182
  go_wp2_with fail
  refine HN.out.mono ?_
  rintro e w1 ⟨r, a1, s1, rfl, hr0, hr1, h1, h2, h3, h4, hS1, hg1⟩
  have HS1 := Lib.hid hS1
  have HG1 := Lib.hid hg1
  clear HN hS1 hg1
  go_wp2
  go_ret
  exact ⟨_, a1, s1, rfl, by omega, by omega, by omega, by omega, HS1.out, HG1.out⟩

set_option maxHeartbeats 1600000 in
theorem srcRat_any (g n c : Nat) (A : Option Addr) (a s : Int) (B : Nat) (w : World) (hS : Src w g 133 A n c a s) (hR : RdB w (· < B) A n) (hB : B ≤ g) (ha0 : 0 ≤ a) (ha1 : a ≤ 274877906944) (hs0 : 0 ≤ s) (hs1 : s < 2147483648) (hn : n ≤ 1099511627776) :
    Calls Try.prog 57 #[.pointer (some ⟨g, 0, none⟩)] w (fun e w' => DrewR w w' g 2 e) := by
  have hglt := hS.lt
  have HS := Lib.hid hS
  have HR := Lib.hid hR
  clear hS hR
  go_enter Try.func57, Try.ntmps57
  go_wp2_with fail
  refine calls_at (fun W => w.grownBy W (some g) ∧ RatAt W w.heap.size 28 false none 0 0 none 0 0 ∧ Src W g 133 A n c a s ∧ RdB W (· < B) A n)
    ⟨grown_alloc (World.grownBy.refl _ _) _, RatAt.new _ _ _ _ _ _ _ _ _, HS.out.alloc _, HR.out.on (below1 _ _)⟩ ?_
  rintro W ⟨hg, r0, hS, hR⟩
  clear HS HR
  refine (srcNext_any g n c A a s 21 B W hS hR hB ha0 (by omega) hs0 hs1 hn (by omega) (by omega)).mono ?_
  rintro e w1 ⟨r, a1, s1, rfl, hr0, hr1, h1, h2, h3, h4, hS1, hg1⟩
  have HG1 := Lib.hid (grown_trans hg hg1)
  have HT1 := Lib.hid (r0.grown hg1 (by omega))
  have HS1 := Lib.hid hS1
  have HR1 := Lib.hid (hR.grown hg1 hB)
  clear hg r0 hS hR hS1 hg1
  go_wp2_with fail
  refine (srcNext_any g n c A a1 s1 6 B w1 HS1.out HR1.out hB (by omega) (by omega) h3 h4 hn (by omega) (by omega)).mono ?_
  rintro e w2 ⟨r', a2, s2, rfl, hr0', hr1', h1', h2', h3', h4', hS2, hg2⟩
  have HG2 := Lib.hid (grown_trans HG1.out hg2)
  have HT2 := Lib.hid (HT1.out.grown hg2 (by omega))
  clear HG1 HT1 HS1 HR1 hS2 hg2
  go_wp2_with fail
  obtain ⟨p1, p2, p3, p4⟩ := whole_len (r - 10) (by omega) (by omega)
  obtain ⟨b1, b2, b3, b4⟩ := whole_len (1 + r') (by omega) (by omega)
  have HL : Hid ((D (nu (mkRat (r - 10) 1 / mkRat (1 + r') 1))).length ≤ 2 ∧ (D (mkRat (r - 10) 1 / mkRat (1 + r') 1).den).length ≤ 2) := by
    have hl := div_lens (mkRat (r - 10) 1) (mkRat (1 + r') 1) (by omega)
    have k1 : (D (nu (mkRat (r - 10) 1))).length ≤ 1 := (D_len_le _ 1).2 (by rw [p3]; omega)
    have k2 : (D (nu (mkRat (1 + r') 1))).length ≤ 1 := (D_len_le _ 1).2 (by rw [b3]; omega)
    have k3 : (D (mkRat (r - 10) 1).den).length ≤ 1 := (D_len_le _ 1).2 (by rw [p2]; omega)
    have k4 : (D (mkRat (1 + r') 1).den).length ≤ 1 := (D_len_le _ 1).2 (by rw [b2]; omega)
    exact ⟨by omega, by omega⟩
  clear p1 p2 p3 p4 b1 b2 b3 b4
  refine (specMakeRat_ok (r - 10) (1 + r') w2 (by omega) (by omega) (by omega) (by omega) (by omega)).mono ?_
  generalize mkRat (r - 10) 1 / mkRat (1 + r') 1 = q at *
  have hfit : fitQ q := ⟨by have := HL.out.1; omega, by have := HL.out.2; omega⟩
  have x1 : fN q = isNeg q := by unfold fN; rw [if_pos hfit]
  have x2 : fX q = D (nu q) := by unfold fX; rw [if_pos hfit]
  have x3 : fY q = D q.den := by unfold fY; rw [if_pos hfit]
  have x4 : fK q = 0 := by unfold fK; rw [if_pos hfit]
  rw [x1, x2, x3, x4]
  clear x1 x2 x3 x4 hfit
  rintro e w3 ⟨A3, c3, B3, d3, rfl, o3, b3⟩
  have HG3 := Lib.hid (grown_trans HG2.out (below_grown b3 (some g)))
  have HT3 := Lib.hid (HT2.out.on b3)
  have HO3 := Lib.hid o3
  have hs2 := HG2.out.size
  have hs3 := b3.size
  have hs4 := HT3.out.lt
  clear o3 b3 HG2 HT2
  have hsne : ¬ w.heap.size = w3.heap.size := by omega
  have f0 := HT3.out.fz 0
  have f1 := HT3.out.fz 1
  have f2 := HT3.out.fz 2
  have y0 := HT3.out.c0
  have y1 := HT3.out.c1
  have y2 := HT3.out.c2
  go_wp2
  have g2 := fun b u v => setAll_grown w3 w.heap.size (.bool b) u v
  refine bodyPost_ret (retR rfl _ _ _ rfl ((HT3.out.setAll _ _ _ _ _ _ _).alloc _)) rfl ?_
  have HX : Hid (RdR _ (fun _ => True) (D (nu q)) (D q.den) A3 c3 B3 d3) := Lib.hid ⟨HO3.out.1.past HT3.out (g2 (isNeg q) (.slice A3 (D (nu q)).length c3) (.slice B3 (D q.den).length d3)), HO3.out.2.past HT3.out (g2 _ _ _)⟩
  exact ⟨q, A3, c3, B3, d3, HL.out.1, HL.out.2, rfl, HX.out.on (below1 _ _), grown_alloc (grown_past HG3.out (g2 _ _ _) (Nat.le_refl _)) _⟩

set_option maxHeartbeats 400000 in
theorem ratDrawn_any (A : Option Addr) (n c : Nat) (w : World) (hR : RdB w (· < w.heap.size) A n) (hn : n ≤ 1099511627776) :
    Calls Try.prog 13 #[.slice A n c] w (fun e w' => ∃ r : Rat, (D (nu r)).length ≤ 2 ∧ (D r.den).length ≤ 2 ∧ SayR w (isNeg r) (D (nu r)) (D r.den) e w') := by
  have HR := Lib.hid hR
  clear hR
  go_enter Try.func13, Try.ntmps13
  go_wp2_with fail
  refine calls_at (fun V => Below w.heap.size w V ∧ RatAt V w.heap.size 28 false none 0 0 none 0 0) ⟨below1 _ _, RatAt.new _ _ _ _ _ _ _ _ _⟩ ?_
  rintro V ⟨hb, r0⟩
  refine (l00Source_any A n c V hn).mono ?_
  rintro e w1 ⟨s, rfl, hs0, hs1, hS, b1⟩
  have HS := Lib.hid hS
  have HB := Lib.hid (below_on hb b1)
  have HT := Lib.hid (r0.on b1)
  have hlt := r0.lt
  have hle := hb.size
  clear hS hb b1 r0
  go_wp2_with fail
  refine (srcRat_any V.heap.size n c A 0 s w.heap.size w1 HS.out (HR.out.below HB.out) hle (by omega) (by omega) hs0 hs1 hn).mono ?_
  rintro e w2 ⟨q, A2, c2, B2, d2, l1, l2, rfl, o2, hg⟩
  have HB2 := Lib.hid (below_grow HB.out hle hg)
  have HT2 := Lib.hid (HT.out.grown hg (by omega))
  have HO2 := Lib.hid o2
  clear HS HB HT hg o2
  have f0 := HT2.out.fz 0
  have f1 := HT2.out.fz 1
  have f2 := HT2.out.fz 2
  have y0 := HT2.out.c0
  have y1 := HT2.out.c1
  have y2 := HT2.out.c2
  go_wp2
  have g2 := fun b u v => setAll_grown w2 w.heap.size (.bool b) u v
  refine bodyPost_ret (retR rfl _ _ _ rfl (HT2.out.setAll _ _ _ _ _ _ _)) rfl ?_
  exact ⟨q, l1, l2, A2, c2, B2, d2, rfl, ⟨HO2.out.1.past HT2.out (g2 _ _ _), HO2.out.2.past HT2.out (g2 _ _ _)⟩, below_grow HB2.out (Nat.le_refl _) (g2 _ _ _)⟩

end Go.Proofs.Ytlphcpkhclfkaaa
