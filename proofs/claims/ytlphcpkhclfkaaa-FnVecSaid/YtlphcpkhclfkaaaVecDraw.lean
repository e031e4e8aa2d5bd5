/-
  Vectors that are drawn: VecDrawn of the model; sameVec of the laws.
-/
import Derived.Test.YtlphcpkhclfkaaaVecScale
import Derived.Test.YtlphcpkhclfkaaaRatDraw
import Derived.Test.YtlphcpkhclfkaaaRatSame
import Derived.Deep.RegionHeld3
namespace Nt
open Go Go.RowKit
/-- a rational in new blocks, and the code 0 -/
def SayNC (w : World) (r : Rat) (e : Ending) (w' : World) : Prop :=
  ∃ A ca B cb, e = .returned (.tuple #[.agg #[.bool (isNeg r), .slice A (D (nu r)).length ca, .slice B (D r.den).length cb], .int .i64 0]) ∧ RdR w' (w.heap.size ≤ ·) (D (nu r)) (D r.den) A ca B cb ∧ Below w.heap.size w w'
/-- a rational is drawn, in new blocks; the source goes on -/
def DrewRN (t : TypeId) (w : World) (g : Nat) (S : Option Addr) (n c : Nat) (a : Int) (e : Ending) (w' : World) : Prop :=
  ∃ (r : Rat) (A : Option Addr) (ca : Nat) (B : Option Addr) (cb : Nat) (a' s' : Int), (D (nu r)).length ≤ 2 ∧ (D r.den).length ≤ 2 ∧ e = .returned (.agg #[.bool (isNeg r), .slice A (D (nu r)).length ca, .slice B (D r.den).length cb]) ∧
    RdR w' (w.heap.size ≤ ·) (D (nu r)) (D r.den) A ca B cb ∧ Src w' g t S n c a' s' ∧ a ≤ a' ∧ a' ≤ a + 6 ∧ 0 ≤ s' ∧ s' < 2147483648 ∧ w.grownBy w' (some g)
theorem Rd.swap {w w' : World} {P Q : Nat → Prop} {A : Option Addr} {n c : Nat} {xs : List Int} (h : Rd w' P A n c xs) (k : Rd w Q A n c xs) : Rd w' Q A n c xs :=
  ⟨h.1, h.2.1, h.2.2.1, fun hn => by
    obtain ⟨b, o, e, _, hl, hc⟩ := h.2.2.2 hn
    obtain ⟨b', o', e', hq, _⟩ := k.2.2.2 hn
    rw [e] at e'
    injection e' with e'
    injection e' with e1
    subst e1
    exact ⟨b, o, e, hq, hl, hc⟩⟩
/-- the elements' lists lie from base on -/
def LowL (w : World) (base : Nat) (L : List EV) : Prop := ∀ i, i < L.length → RdR w (base ≤ ·) (L.getD i e0).xs (L.getD i e0).ys (L.getD i e0).A (L.getD i e0).ca (L.getD i e0).B (L.getD i e0).cb
theorem LowL.src {w w' : World} {base g : Nat} {L : List EV} (h : LowL w base L) (hg : w.grownBy w' (some g)) (hne : g < base) : LowL w' base L := fun i hi => (h i hi).keep hg.size fun b hb hl => hg.block b hl (fun e => by injection e with e; omega)
theorem parts_src {w w' : World} {base g : Nat} {V : Option Addr} {L : List EV} (h : PartsRd w V L) (k : LowL w base L) (hg : w.grownBy w' (some g)) (hne : g < base) : PartsRd w' V L := fun i hi => ⟨((k.src hg hne) i hi).1.swap (h i hi).1, ((k.src hg hne) i hi).2.swap (h i hi).2⟩
theorem LowL.snoc {w : World} {base : Nat} {L : List EV} {r : EV} (h : LowL w base L) (hr : RdR w (base ≤ ·) r.xs r.ys r.A r.ca r.B r.cb) : LowL w base (L ++ [r]) := by
  intro i hi
  by_cases hlt : i < L.length
  · have e : (L ++ [r]).getD i e0 = L.getD i e0 := by simp [List.getD, List.getElem?_append_left hlt]
    rw [e]; exact h i hlt
  · obtain rfl : i = L.length := by simp at hi; omega
    have e : (L ++ [r]).getD L.length e0 = r := by simp [List.getD]
    rw [e]; exact hr
theorem LowL.at_ {w w' : World} {base : Nat} {V : Option Addr} {L : List EV} (h : LowL w base L) (k : PartsRd w' V L) : LowL w' base L := fun i hi => ⟨(k i hi).1.swap (h i hi).1, (k i hi).2.swap (h i hi).2⟩
theorem own_src3 {w w' : World} {base n c g : Nat} {e : TypeId} {A : Option Addr} {xs : List Value} (h : w.ownsRow base e 3 (.slice A n c) n xs) (hg : w.grownBy w' (some g)) (hne : g < base) : w'.ownsRow base e 3 (.slice A n c) n xs := by
  refine h.kept hg ?_
  cases hA : (Value.slice A n c).ownBlock with
  | none => exact .inl rfl
  | some k => exact .inr (fun e => by injection e with e; have := (h.lt k hA).1; omega)
/-- parts of at most k limbs -/
def Tiny (k : Nat) (qs : List Rat) : Prop := ∀ q ∈ qs, (D (nu q)).length ≤ k ∧ (D q.den).length ≤ k
theorem Tiny.fine {k : Nat} {qs : List Rat} (h : Tiny k qs) (hk : k ≤ 40) : Fine qs := fun q hq => ⟨(D_len_le _ 40).1 (Nat.le_trans (h q hq).1 hk), (D_len_le _ 40).1 (Nat.le_trans (h q hq).2 hk)⟩
theorem Tiny.at_ {k : Nat} {qs : List Rat} (h : Tiny k qs) (i : Nat) (hi : i < qs.length) : (D (nu (qs.getD i 0))).length ≤ k ∧ (D (qs.getD i 0).den).length ≤ k := by
  have e : qs.getD i 0 = qs[i] := by simp [List.getD, hi]
  rw [e]
  exact h _ (List.getElem_mem hi)
end Nt
namespace Go.Proofs.Ytlphcpkhclfkaaa
open Go Go.RowKit Nt

set_option maxHeartbeats 1600000 in
theorem specMakeRat_new (n d : Int) (w : World) (h1 : -1000000000 ≤ n) (h2 : n ≤ 1000000000) (h3 : -1000000000 ≤ d) (h4 : d ≤ 1000000000) (hd : d ≠ 0) :
    Calls Try.prog 110 #[.int .i64 n, .int .i64 d] w (SayNC w (mkRat n 1 / mkRat d 1)) := by
  obtain ⟨a1, a2, a3, a4⟩ := whole_len n h1 h2
  obtain ⟨b1, b2, b3, b4⟩ := whole_len d h3 h4
  have hb0 : 0 < nu (mkRat d 1) := by omega
  have k1 := small_len (n := nu (mkRat n 1)) (by omega)
  have k2 := small_len (n := nu (mkRat d 1)) (by omega)
  have HQ : Hid (mkRat (sg (isNeg (mkRat n 1) != isNeg (mkRat d 1)) (nu (mkRat n 1))) (nu (mkRat d 1)) = mkRat n 1 / mkRat d 1) := by
    show _ = _
    rw [div_make _ _ hb0, a2, b2, Nat.mul_one, Nat.one_mul]
  have HA := Lib.hid (l02Int_any n · h1 h2)
  have HC := Lib.hid (l02Int_any d · h3 h4)
  have e1 : (decide (-1000000000 ≤ n) && decide (n ≤ 1000000000)) = true := by simp; omega
  have e2 : (decide (-1000000000 ≤ d) && decide (d ≤ 1000000000)) = true := by simp; omega
  have hdz : (d == 0) = false := by simpa using hd
  clear h1 h2 h3 h4 a1 a2 a3 a4 b1 b2 b3 b4 hd
  generalize mkRat n 1 = a at *
  generalize mkRat d 1 = b at *
  go_enter Try.func110, Try.ntmps110
  go_wp2_with fail
  refine (l01In_any _ _ _ _).mono ?_
  rintro e w1 ⟨rfl, rfl⟩
  rw [e1]
  go_wp2_with fail
  refine (l01In_any _ _ _ _).mono ?_
  rintro e w1 ⟨rfl, rfl⟩
  rw [e2]
  clear e1 e2
  go_wp2_with fail
  refine calls_at (fun W => Below w.heap.size w W ∧ RatAt W w.heap.size 28 false none 0 0 none 0 0) ⟨below1 _ _, RatAt.new _ _ _ _ _ _ _ _ _⟩ ?_
  rintro W ⟨hb, r0⟩
  refine (HA.out W).mono ?_
  rintro e w1 ⟨A1, c1, B1, d1, rfl, o1, b1⟩
  have HB1 := Lib.hid (below_on hb b1)
  have HT1 := Lib.hid (r0.on b1)
  have HO1 := Lib.hid o1
  clear hb r0 o1 b1
  go_wp2_with fail
  refine calls_at (fun V => Below w.heap.size w V ∧ RatAt V w.heap.size 28 false none 0 0 none 0 0 ∧ RatAt V w1.heap.size 28 (isNeg a) A1 (D (nu a)).length c1 B1 (D a.den).length d1 ∧ RdR V (fun _ => True) (D (nu a)) (D a.den) A1 c1 B1 d1) ⟨below_on HB1.out (below1 _ _), HT1.out.on (below1 _ _), RatAt.new _ _ _ _ _ _ _ _ _, HO1.out.on (below1 _ _)⟩ ?_
  rintro V ⟨hb, r0, r1, o1⟩
  clear HB1 HT1 HO1
  refine (HC.out V).mono ?_
  rintro e w2 ⟨A2, c2, B2, d2, rfl, o2, b2⟩
  have HB2 := Lib.hid (below_on hb b2)
  have HT2 := Lib.hid (r0.on b2)
  have HR2 := Lib.hid (r1.on b2)
  have HO12 := Lib.hid (o1.on b2)
  have HO2 := Lib.hid o2
  have hs1 := r1.lt
  have hs2 := b2.size
  clear o2 b2 hb r0 r1 o1
  have q0 := HR2.out.c0
  have q1 := HR2.out.c1
  have hs12 : w1.heap.size < w2.heap.size := by omega
  have hsne : ¬ w1.heap.size = w2.heap.size := by omega
  go_wp2_with fail
  clear q0 q1
  have HBX := Lib.hid (below1 w2 (.cells #[.bool (isNeg b), .slice A2 (D (nu b)).length c2, .slice B2 (D b.den).length d2] 28))
  refine (l02Make_new (isNeg a != isNeg b) A1 A2 _ c1 _ c2 (nu a) (nu b) _ _ _ (HO12.out.on HBX.out).1 (HO2.out.on HBX.out).1 (by omega) (by omega) hb0).mono ?_
  rintro e w3 ⟨A3, c3, B3, d3, rfl, o3, b3⟩
  rw [HQ.out] at o3 ⊢
  have HB3 := Lib.hid (below_on (below_on HB2.out HBX.out) b3)
  have HT3 := Lib.hid ((HT2.out.on HBX.out).on b3)
  have HO3 := Lib.hid (o3.mono (Q := (w.heap.size ≤ ·)) fun _ h _ => Nat.le_trans (Nat.le_trans HB2.out.size HBX.out.size) h)
  have hs3 := HT2.out.lt
  clear o3 b3 HB2 HT2 HO12 HO2 HR2
  generalize a / b = q at *
  have f0 := HT3.out.fz 0
  have f1 := HT3.out.fz 1
  have f2 := HT3.out.fz 2
  have y0 := HT3.out.c0
  have y1 := HT3.out.c1
  have y2 := HT3.out.c2
  go_wp2
  have g2 := fun b u v => setAll_grown w3 w.heap.size (.bool b) u v
  refine bodyPost_ret (retRC rfl _ _ _ rfl (HT3.out.setAll _ _ _ _ _ _ _)) rfl ?_
  exact ⟨A3, c3, B3, d3, rfl, ⟨HO3.out.1.past HT3.out (g2 _ _ _), HO3.out.2.past HT3.out (g2 _ _ _)⟩, below_grow HB3.out (by omega) (g2 _ _ _)⟩

set_option maxHeartbeats 1600000 in
theorem srcRatN_any (g n c : Nat) (A : Option Addr) (a s : Int) (B : Nat) (w : World) (hS : Src w g 133 A n c a s) (hR : RdB w (· < B) A n) (hB : B ≤ g) (ha0 : 0 ≤ a) (ha1 : a ≤ 274877906944) (hs0 : 0 ≤ s) (hs1 : s < 2147483648) (hn : n ≤ 1099511627776) :
    Calls Try.prog 57 #[.pointer (some ⟨g, 0, none⟩)] w (DrewRN 133 w g A n c a) := by
  have hglt := hS.lt
  have HS := Lib.hid hS
  have HR := Lib.hid hR
  clear hS hR
  go_enter Try.func57, Try.ntmps57
  go_wp2_with fail
  refine calls_at (fun W => w.grownBy W (some g) ∧ RatAt W w.heap.size 28 false none 0 0 none 0 0 ∧ Src W g 133 A n c a s ∧ RdB W (· < B) A n)
    ⟨grown_alloc (World.grownBy.refl _ _) _, RatAt.new _ _ _ _ _ _ _ _ _, HS.out.alloc _, HR.out.on (below1 _ _)⟩ ?_
  rintro W ⟨hg, r0, hS, hR⟩
  clear HS HR
  refine (srcNext_any g n c A a s 21 B W hS hR hB ha0 (by omega) hs0 hs1 hn (by omega) (by omega)).mono ?_
  rintro e w1 ⟨r, a1, s1, rfl, hr0, hr1, h1, h2, h3, h4, hS1, hg1⟩
  have HG1 := Lib.hid (grown_trans hg hg1)
  have HT1 := Lib.hid (r0.grown hg1 (by omega))
  have HS1 := Lib.hid hS1
  have HR1 := Lib.hid (hR.grown hg1 hB)
  clear hg r0 hS hR hS1 hg1
  go_wp2_with fail
  refine (srcNext_any g n c A a1 s1 6 B w1 HS1.out HR1.out hB (by omega) (by omega) h3 h4 hn (by omega) (by omega)).mono ?_
  rintro e w2 ⟨r', a2, s2, rfl, hr0', hr1', h1', h2', h3', h4', hS2, hg2⟩
  have HG2 := Lib.hid (grown_trans HG1.out hg2)
  have HT2 := Lib.hid (HT1.out.grown hg2 (by omega))
  have HS2 := Lib.hid hS2
  have haa : a ≤ a2 ∧ a2 ≤ a + 6 := by omega
  have HAA := Lib.hid haa
  clear HG1 HT1 HS1 HR1 hS2 hg2 haa
  go_wp2_with fail
  obtain ⟨p1, p2, p3, p4⟩ := whole_len (r - 10) (by omega) (by omega)
  obtain ⟨b1, b2, b3, b4⟩ := whole_len (1 + r') (by omega) (by omega)
  have HL : Hid ((D (nu (mkRat (r - 10) 1 / mkRat (1 + r') 1))).length ≤ 2 ∧ (D (mkRat (r - 10) 1 / mkRat (1 + r') 1).den).length ≤ 2) := by
    have hl := div_lens (mkRat (r - 10) 1) (mkRat (1 + r') 1) (by omega)
    have k1 : (D (nu (mkRat (r - 10) 1))).length ≤ 1 := (D_len_le _ 1).2 (by rw [p3]; omega)
    have k2 : (D (nu (mkRat (1 + r') 1))).length ≤ 1 := (D_len_le _ 1).2 (by rw [b3]; omega)
    have k3 : (D (mkRat (r - 10) 1).den).length ≤ 1 := (D_len_le _ 1).2 (by rw [p2]; omega)
    have k4 : (D (mkRat (1 + r') 1).den).length ≤ 1 := (D_len_le _ 1).2 (by rw [b2]; omega)
    exact ⟨by omega, by omega⟩
  clear p1 p2 p3 p4 b1 b2 b3 b4
  refine (specMakeRat_new (r - 10) (1 + r') w2 (by omega) (by omega) (by omega) (by omega) (by omega)).mono ?_
  generalize mkRat (r - 10) 1 / mkRat (1 + r') 1 = q at *
  rintro e w3 ⟨A3, c3, B3, d3, rfl, o3, b3⟩
  have HG3 := Lib.hid (grown_trans HG2.out (below_grown b3 (some g)))
  have HT3 := Lib.hid (HT2.out.on b3)
  have HO3 := Lib.hid (o3.mono (Q := (w.heap.size < ·)) fun _ h _ => Nat.lt_of_lt_of_le HT2.out.lt h)
  have HS3 := Lib.hid (HS2.out.below b3)
  have hs2 := HG2.out.size
  have hs3 := b3.size
  have hs4 := HT3.out.lt
  clear o3 b3 HG2 HT2
  have hsne : ¬ w.heap.size = w3.heap.size := by omega
  have f0 := HT3.out.fz 0
  have f1 := HT3.out.fz 1
  have f2 := HT3.out.fz 2
  have y0 := HT3.out.c0
  have y1 := HT3.out.c1
  have y2 := HT3.out.c2
  go_wp2
  have g2 := fun b u v => setAll_grown w3 w.heap.size (.bool b) u v
  refine bodyPost_ret (retR rfl _ _ _ rfl ((HT3.out.setAll _ _ _ _ _ _ _).alloc _)) rfl ?_
  have HX : Hid (RdR _ (w.heap.size < ·) (D (nu q)) (D q.den) A3 c3 B3 d3) := Lib.hid ⟨HO3.out.1.past HT3.out (g2 (isNeg q) (.slice A3 (D (nu q)).length c3) (.slice B3 (D q.den).length d3)), HO3.out.2.past HT3.out (g2 _ _ _)⟩
  have HSX := Lib.hid (HS3.out.keep ((g2 (isNeg q) (.slice A3 (D (nu q)).length c3) (.slice B3 (D q.den).length d3)).block g (by omega) (fun e => by injection e with e; omega)))
  exact ⟨q, A3, c3, B3, d3, a2, s2, HL.out.1, HL.out.2, rfl, (HX.out.on (below1 _ _)).mono fun _ h _ => Nat.le_of_lt h, HSX.out.alloc _, HAA.out.1, HAA.out.2, h3', h4', grown_alloc (grown_past HG3.out (g2 _ _ _) (Nat.le_refl _)) _⟩

set_option maxHeartbeats 3200000 in
theorem srcVec_any (g n c : Nat) (A : Option Addr) (a0 s0 : Int) (B N : Nat) (w : World) (hS : Src w g 133 A n c a0 s0) (hR : RdB w (· < B) A n) (hB : B ≤ g) (ha0 : 0 ≤ a0) (ha1 : a0 ≤ 137438953472) (hs0 : 0 ≤ s0) (hs1 : s0 < 2147483648) (hn : n ≤ 1099511627776) (hN : N ≤ 100) :
    Calls Try.prog 56 #[.pointer (some ⟨g, 0, none⟩), .int .i64 (N : Int)] w fun e w' => ∃ (V : Option Addr) (cv : Nat) (qs : List Rat) (a' s' : Int), e = .returned (.slice V N cv) ∧ RdS w' (fun _ => True) V N cv (qs.map rat3) ∧ qs.length = N ∧ Tiny 2 qs ∧ Src w' g 133 A n c a' s' ∧ a0 ≤ a' ∧ a' ≤ a0 + 6 * N ∧ 0 ≤ s' ∧ s' < 2147483648 ∧ w.grownBy w' (some g) := by
  have HS := Lib.hid hS
  have HR := Lib.hid hR
  have hglt := hS.lt
  clear hS hR
  have HG0 := Lib.hid (grown_alloc (World.grownBy.refl w (some g)) (.cells #[] 28))
  have HO0 := Lib.hid (World.ownsRow_lit (e := 28) (size := 3) w #[] 0 (Nat.le_refl _) (by decide) rfl)
  have HS0 := Lib.hid (HS.out.alloc (.cells #[] 28))
  go_enter Try.func56, Try.ntmps56
  go_wp2
  go_loopw [5, 6] (fun v i wr => ∃ (k : Nat) (V : Option Addr) (cv : Nat) (L : List EV) (qs : List Rat) (a s : Int), k ≤ N ∧ i = .int .i64 k ∧ v = .slice V k cv ∧ Hid (L.map EV.v3 = qs.map rat3) ∧ Hid (Tiny 2 qs) ∧ Hid (wr.ownsRow w.heap.size 28 3 (.slice V k cv) k (flat L)) ∧ Hid (PartsRd wr V L) ∧ Hid (LowL wr w.heap.size L) ∧ Hid (Src wr g 133 A n c a s) ∧ Hid (w.grownBy wr (some g)) ∧ a0 ≤ a ∧ a ≤ a0 + 6 * k ∧ 0 ≤ s ∧ s < 2147483648) (fun _ i _ => N - (intOf i).toNat)
  case atStart => exact ⟨0, _, _, [], [], a0, s0, Nat.zero_le _, rfl, rfl, Lib.hid rfl, Lib.hid (fun q hq => by cases hq), HO0, Lib.hid (fun i hi => by simp at hi), Lib.hid (fun i hi => by simp at hi), HS0, HG0, by omega, by omega, hs0, hs1⟩
  case round =>
    clear HG0 HO0 HS0
    obtain ⟨k, V, cv, L, qs, a, s, hk, rfl, rfl, HV, HTN, HO, HP, HQ, HSr, HG, x1, x2, x3, x4⟩ := hrel
    by_cases hlt : k < N
    · have hkN : (k : Int) < N := by omega
      have hsz := HG.out.size
      go_wp2_with fail
      refine (srcRatN_any g n c A a s B wr HSr.out (HR.out.grown HG.out hB) hB (by omega) (by omega) x3 x4 hn).mono ?_
      rintro e w1 ⟨r, A1, c1, B1, d1, a1, s1, l1, l2, rfl, o1, hS1, y1, y2, y3, y4, hg1⟩
      have HO1 : Hid (w1.ownsRow w.heap.size 28 3 (.slice V k cv) k (flat L)) := Lib.hid (own_src3 HO.out hg1 hglt)
      have HP1 : Hid (PartsRd w1 V (L ++ [EV.mk (isNeg r) A1 c1 B1 d1 (D (nu r)) (D r.den)])) := (parts_src HP.out HQ.out hg1 hglt).snoc (o1.mono fun b h _ => row_ne HO.out (Nat.le_refl _) b h)
      have HQ1 : Hid (LowL w1 w.heap.size (L ++ [EV.mk (isNeg r) A1 c1 B1 d1 (D (nu r)) (D r.den)])) := (HQ.out.src hg1 hglt).snoc (o1.mono fun b h _ => Nat.le_trans hsz h)
      have HV1 : Hid ((L ++ [EV.mk (isNeg r) A1 c1 B1 d1 (D (nu r)) (D r.den)]).map EV.v3 = (qs ++ [r]).map rat3) := by
        show _ = _
        rw [List.map_append, HV.out, List.map_append]
        rfl
      have HTN1 : Hid (Tiny 2 (qs ++ [r])) := fun q hq => by
        rcases List.mem_append.1 hq with h | h
        · exact HTN.out q h
        · rw [List.mem_singleton] at h; subst h; exact ⟨l1, l2⟩
      have HS1 := Lib.hid hS1
      have HG1 := Lib.hid (grown_trans HG.out hg1)
      have hs1' := hg1.size
      clear o1 hS1 hg1 HP HQ HV HO HTN HSr HG l1 l2
      obtain ⟨i0, hi0, hz0, hz1, hz2⟩ := info_parts infoRat
      go_wp2_with (at_builtin; refine wpList_append_lies _ rfl _ _ 24 rfl w.heap.size 28 i0 _ 3 56 Try.underlying24 hi0 hz0 hz1 hz2 rfl (by decide) _ k _ rfl (HO1.out.alloc _) ⟨w1.heap.size, 0, none⟩ 1 1 [.bool (isNeg r), .slice A1 (D (nu r)).length c1, .slice B1 (D r.den).length d1] rfl rfl (cells3 _ _ _ _ _ _ _ _ _) (one3 _ _ _ _ _ _ _) (by decide) (by unfold maxLen; omega) (by omega) (by simp; omega) _ rfl ?_; intro g' cv' w2 hown hgrow hat hlt2)
      have hlit := below1 w1 (.cells #[.bool (isNeg r), .slice A1 (D (nu r)).length c1, .slice B1 (D r.den).length d1] 28)
      have HO2 : Hid (w2.ownsRow w.heap.size 28 3 (.slice (some ⟨g', 0, none⟩) (k + 1) cv') (k + 1) (flat (L ++ [EV.mk (isNeg r) A1 c1 B1 d1 (D (nu r)) (D r.den)]))) := by rw [flat_snoc]; exact hown
      have HP2 : Hid (PartsRd w2 (some ⟨g', 0, none⟩) (L ++ [EV.mk (isNeg r) A1 c1 B1 d1 (D (nu r)) (D r.den)])) := (HP1.out.on hlit).appended (HO1.out.alloc _) hgrow hat
      have HQ2 : Hid (LowL w2 w.heap.size (L ++ [EV.mk (isNeg r) A1 c1 B1 d1 (D (nu r)) (D r.den)])) := HQ1.out.at_ HP2.out
      have hbl := rowed3_below (HO1.out.alloc (.cells #[.bool (isNeg r), .slice A1 (D (nu r)).length c1, .slice B1 (D r.den).length d1] 28)) (by simp; omega) hgrow
      have HS2 := Lib.hid ((HS1.out.alloc (.cells #[.bool (isNeg r), .slice A1 (D (nu r)).length c1, .slice B1 (D r.den).length d1] 28)).keep (hbl.block g hglt))
      have HG2 : Hid (w.grownBy w2 (some g)) := Lib.hid ⟨hbl.os.trans (hlit.os.trans HG1.out.os), hbl.tape.trans (hlit.tape.trans HG1.out.tape), hbl.output.trans (hlit.output.trans HG1.out.output), Nat.le_trans HG1.out.size (Nat.le_trans hlit.size hbl.size), fun i hi hne => ((hbl.block i hi).trans (hlit.block i (by omega))).trans (HG1.out.block i hi hne)⟩
      clear hown hgrow hat hlt2 hlit hbl HP1 HQ1 HO1 HS1 HG1
      go_wp2
      go_roundw
      case rel => exact ⟨k + 1, _, _, _, qs ++ [r], a1, s1, by omega, by go_num, rfl, HV1, HTN1, HO2, HP2, HQ2, HS2, HG2, by omega, by omega, y3, y4⟩
      case measure => simp [intOf]; omega
    · obtain rfl : k = N := by omega
      have HF : Hid (RdS wr (fun _ => True) V k cv (qs.map rat3) ∧ qs.length = k) := by
        have := HP.out.rds HO.out
        rw [HV.out] at this
        exact ⟨this, by have := this.len; rw [List.length_map] at this; exact this⟩
      clear HV HP HO
      go_wp2
      go_ret
      exact ⟨V, cv, qs, a, s, rfl, HF.out.1, HF.out.2, HTN.out, HSr.out, x1, x2, x3, x4, HG.out⟩

set_option maxHeartbeats 400000 in
theorem vecDrawn_any (A : Option Addr) (n c N : Nat) (w : World) (hR : RdB w (· < w.heap.size) A n) (hn : n ≤ 1099511627776) (hN : N ≤ 100) :
    Calls Try.prog 12 #[.slice A n c, .int .i64 (N : Int)] w fun e w' => ∃ (V : Option Addr) (cv : Nat) (qs : List Rat), e = .returned (.slice V N cv) ∧ RdS w' (fun _ => True) V N cv (qs.map rat3) ∧ qs.length = N ∧ Tiny 2 qs ∧ Below w.heap.size w w' := by
  have HR := Lib.hid hR
  clear hR
  go_enter Try.func12, Try.ntmps12
  go_wp2_with fail
  refine (l00Source_any A n c w hn).mono ?_
  rintro e w1 ⟨s, rfl, hs0, hs1, hS, hb⟩
  have HS := Lib.hid hS
  have HB := Lib.hid hb
  clear hS hb
  go_wp2_with fail
  refine (srcVec_any w.heap.size n c A 0 s w.heap.size N w1 HS.out (HR.out.below HB.out) (Nat.le_refl _) (by omega) (by omega) hs0 hs1 hn hN).mono ?_
  rintro e w2 ⟨V, cv, qs, a', s', rfl, hr, hl, ht, _, _, _, _, _, hg⟩
  have HO := Lib.hid hr
  have HT := Lib.hid ht
  have HB2 := Lib.hid (HB.out.trans (grown_below hg HB.out.size (Nat.le_refl _)))
  clear hr ht hg
  go_wp2
  go_ret
  exact ⟨V, cv, qs, rfl, HO.out, hl, HT.out, HB2.out⟩

set_option maxHeartbeats 1600000 in
theorem sameVec_any (ps : List Rat) (X Y : Option Addr) (n c d : Nat) (P P' : Nat → Prop) (w : World) (hx : RdS w P X n c (ps.map rat3)) (hy : RdS w P' Y n d (ps.map rat3)) (hp : Fine ps) (hn : n ≤ 100) :
    Calls Try.prog 21 #[.slice X n c, .slice Y n d] w fun e w' => e = .returned (.bool true) ∧ Below w.heap.size w w' := by
  have HX := Lib.hid hx.low
  have HY := Lib.hid hy.low
  have HF := Lib.hid hp
  have HL : Hid (ps.length = n) := by have := hx.len; rw [List.length_map] at this; exact this
  have hne : ((n : Int) != (n : Int)) = false := by simp
  clear hx hy hp
  go_enter Try.func21, Try.ntmps21
  go_wp2
  go_loopw [5] (fun i wr => ∃ k : Nat, k ≤ n ∧ i = .int .i64 k ∧ Hid (Below w.heap.size w wr)) (fun i _ => n - (intOf i).toNat)
  case atStart => exact ⟨0, Nat.zero_le _, rfl, Lib.hid (Below.refl _ _)⟩
  case round =>
    obtain ⟨k, hk, rfl, HB⟩ := hrel
    by_cases hlt : k < n
    · obtain ⟨b, o, rfl, hP, _, hc⟩ := HX.out.at_ (by omega)
      obtain ⟨b', o', rfl, hP', _, hc'⟩ := HY.out.at_ (by omega)
      obtain ⟨Ai, da, Bi, db, q0, q1, q2, hrd⟩ := hc k hlt
      obtain ⟨Ai', da', Bi', db', q0', q1', q2', hrd'⟩ := hc' k hlt
      have hkq : k < ps.length := by rw [HL.out]; exact hlt
      rw [getD_rat ps k hkq] at q0 q1 q2 hrd q0' q1' q2' hrd'
      have hfin := HF.out.at_ k hkq
      have l1 := (D_len_le (nu (ps.getD k 0)) 40).2 hfin.1
      have l2 := (D_len_le (ps.getD k 0).den 40).2 hfin.2
      have HX0 : Hid (C3 wr b (o + k * 3) (isNeg (ps.getD k 0)) Ai (D (nu (ps.getD k 0))).length da Bi (D (ps.getD k 0).den).length db) := C3.below (w := w) ⟨q0, q1, q2⟩ hP HB.out
      have HY0 : Hid (C3 wr b' (o' + k * 3) (isNeg (ps.getD k 0)) Ai' (D (nu (ps.getD k 0))).length da' Bi' (D (ps.getD k 0).den).length db') := C3.below (w := w) ⟨q0', q1', q2'⟩ hP' HB.out
      have HRD := Lib.hid (RdR.below hrd HB.out)
      have HRD' := Lib.hid (RdR.below hrd' HB.out)
      have hbl : b < wr.heap.size := Nat.lt_of_lt_of_le hP HB.out.size
      have hbl' : b' < wr.heap.size := Nat.lt_of_lt_of_le hP' HB.out.size
      have hkn : (k : Int) < n := by omega
      clear q0 q1 q2 hc hrd q0' q1' q2' hc' hrd' hkq hfin
      generalize ps.getD k 0 = p at *
      have HSM := Lib.hid (fun (W : World) (h : RdR W (· < w.heap.size) (D (nu p)) (D p.den) Ai da Bi db) (h' : RdR W (· < w.heap.size) (D (nu p)) (D p.den) Ai' da' Bi' db') => sameRat_any p p Ai Bi Ai' Bi' da db da' db' _ _ W h h' (by omega) (by omega) (by omega) (by omega))
      have hdt : decide (p = p) = true := decide_eq_true rfl
      rw [hdt] at HSM
      clear hdt
      go_wp2_with fail
      go_region_held3 (fun wx => (wx.cell? ⟨b, o + k * 3, none⟩ = some (.bool (isNeg p)) ∧ wx.cell? ⟨b, o + k * 3 + 1, none⟩ = some (.slice Ai (D (nu p)).length da) ∧ wx.cell? ⟨b, o + k * 3 + 2, none⟩ = some (.slice Bi (D p.den).length db)) ∧ (wx.cell? ⟨b', o' + k * 3, none⟩ = some (.bool (isNeg p)) ∧ wx.cell? ⟨b', o' + k * 3 + 1, none⟩ = some (.slice Ai' (D (nu p)).length da') ∧ wx.cell? ⟨b', o' + k * 3 + 2, none⟩ = some (.slice Bi' (D p.den).length db')))
        (first | exact ⟨HX0.out, HY0.out⟩ | exact ⟨HX1.out, HY1.out⟩)
        (first
          | (go_at_call 22; refine (HSM.out _ (by exact HRD.out) (by exact HRD'.out)).mono ?_; rintro e w1 ⟨rfl, bb⟩; have bb := undrew bb; have HB1 := Lib.hid (below_on HB.out bb); have HX1 := Lib.hid (HX0.out.on hbl bb); have HY1 := Lib.hid (HY0.out.on hbl' bb); clear bb))
      go_wp2
      go_roundw
      case rel => exact ⟨k + 1, by omega, by go_num, HB1⟩
      case measure => simp [intOf]; omega
    · go_wp2
      go_ret
      exact ⟨rfl, HB.out⟩
end Go.Proofs.Ytlphcpkhclfkaaa
