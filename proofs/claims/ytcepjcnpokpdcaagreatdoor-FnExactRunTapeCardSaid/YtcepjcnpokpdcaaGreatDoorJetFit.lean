/-
  How long the numbers of jets become: sums, products, inverses and powers of jets of at most two ways.
-/
import Derived.Test.YtcepjcnpokpdcaaGreatDoorJetSpec
namespace Nt
open Go Go.RowKit
theorem lim_mono {q : Rat} {k l : Nat} (h : lim q k) (hl : k ≤ l) : lim q l := ⟨Nat.le_trans h.1 hl, Nat.le_trans h.2 hl⟩
theorem lim_add {p q : Rat} {a b : Nat} (h1 : lim p a) (h2 : lim q b) : lim (p + q) (a + b + 1) := by
  have := add_lens p q
  obtain ⟨x, y⟩ := h1
  obtain ⟨z, u⟩ := h2
  constructor <;> omega
theorem lim_mul {p q : Rat} {a b : Nat} (h1 : lim p a) (h2 : lim q b) : lim (p * q) (a + b) := by
  have := mul_lens p q
  obtain ⟨x, y⟩ := h1
  obtain ⟨z, u⟩ := h2
  constructor <;> omega
theorem lim_neg {q : Rat} {k : Nat} (h : lim q k) : lim (-q) k := by
  obtain ⟨e1, e2, _⟩ := neg_parts q
  unfold lim; rw [e1, e2]; exact h
theorem lim_sub {p q : Rat} {a b : Nat} (h1 : lim p a) (h2 : lim q b) : lim (p - q) (a + b + 1) := by
  rw [Rat.sub_eq_add_neg]; exact lim_add h1 (lim_neg h2)
theorem D_1_len : (D 1).length = 1 := by decide
theorem lim_int (n : Int) (h : n.natAbs < 10000) : lim (n : Rat) 1 := by
  constructor
  · have e : nu (n : Rat) = n.natAbs := by unfold nu; rw [Rat.num_intCast]
    rw [e]; exact (D_len_le _ 1).2 (by omega)
  · rw [Rat.den_intCast, D_1_len]; exact Nat.le_refl _
theorem lim_zero : lim 0 1 := by unfold lim; decide
theorem lim_one : lim 1 1 := by unfold lim; decide
theorem lim_inv {q : Rat} {k : Nat} (h : lim q k) (hk : 1 ≤ k) : lim q⁻¹ k := by
  by_cases h0 : 0 < nu q
  · obtain ⟨e1, e2, _⟩ := inv_parts h0
    unfold lim; rw [e1, e2]; exact ⟨h.2, h.1⟩
  · have e : q = 0 := by
      apply Rat.num_eq_zero.1
      unfold nu at h0; omega
    rw [e, Rat.inv_zero]; exact lim_mono lim_zero hk
theorem lim_pow {q : Rat} {k : Nat} (h : lim q k) : ∀ n, lim (q ^ n) (k * n + 1)
  | 0 => by rw [Rat.pow_zero]; exact lim_mono lim_one (by omega)
  | n + 1 => by
    by_cases hn : n = 0
    · subst hn
      rw [Rat.pow_succ, Rat.pow_zero, Rat.one_mul]; exact lim_mono h (by omega)
    · rw [Rat.pow_succ]
      exact lim_mono (lim_mul (lim_pow h n) h) (by rw [Nat.mul_succ]; omega)
/-- each number of a jet, the slopes that it holds itself -/
def Each (k : Nat) : Jt → Prop
  | .fx q => lim q k
  | .mv a s => Each k a ∧ Each k s
theorem Each.mono {k l : Nat} (hl : k ≤ l) : ∀ {j : Jt}, Each k j → Each l j
  | .fx _, h => lim_mono h hl
  | .mv _ _, h => ⟨Each.mono hl h.1, Each.mono hl h.2⟩
theorem each_at {k : Nat} {j : Jt} (h : Each k j) : Each k j.at_ := by
  cases j
  · exact h
  · exact h.1
theorem each_sl {k : Nat} (hk : 1 ≤ k) {j : Jt} (h : Each k j) : Each k j.sl := by
  cases j
  · exact lim_mono lim_zero hk
  · exact h.2
theorem sumFit_each (f g : Jt) {k : Nat} (hk : 1 ≤ k) (hl : k ≤ 3600) (hf : Each k f) (hg : Each k g) : SumFit f g := by
  by_cases h : 0 < f.dep + g.dep
  · have hd := dep_halves f g h
    rw [sumFit_halves f g h]
    exact ⟨sumFit_each f.at_ g.at_ hk hl (each_at hf) (each_at hg), sumFit_each f.sl g.sl hk hl (each_sl hk hf) (each_sl hk hg)⟩
  · obtain ⟨p, q, rfl, rfl⟩ := dep_fx h
    rw [SumFit]; exact ⟨lim_mono hf hl, lim_mono hg hl⟩
termination_by f.dep + g.dep
decreasing_by all_goals omega
/-- jets of no way, of one, of two, by the numbers that they are -/
def L1 (j : Jt) (a b : Nat) : Prop := j.dep ≤ 1 ∧ lim (numJ j 0) a ∧ lim (numJ j 1) b
def L2 (j : Jt) (a b c d : Nat) : Prop := j.dep ≤ 2 ∧ lim (numJ j 0) a ∧ lim (numJ j.at_ 1) b ∧ lim (numJ j 1) c ∧ lim (numJ j 2) d
theorem L1.mono {j : Jt} {a b a' b' : Nat} (h : L1 j a b) (ha : a ≤ a') (hb : b ≤ b') : L1 j a' b' := ⟨h.1, lim_mono h.2.1 ha, lim_mono h.2.2 hb⟩
theorem L2.mono {j : Jt} {a b c d a' b' c' d' : Nat} (h : L2 j a b c d) (ha : a ≤ a') (hb : b ≤ b') (hc : c ≤ c') (hd : d ≤ d') : L2 j a' b' c' d' := ⟨h.1, lim_mono h.2.1 ha, lim_mono h.2.2.1 hb, lim_mono h.2.2.2.1 hc, lim_mono h.2.2.2.2 hd⟩
theorem dep_at (j : Jt) : j.at_.dep ≤ j.dep - 1 := by cases j <;> simp only [Jt.at_, Jt.dep] <;> omega
theorem dep_sl (j : Jt) : j.sl.dep ≤ j.dep - 1 := by cases j <;> simp only [Jt.sl, Jt.dep] <;> omega
theorem L2.at_ {j : Jt} {a b c d : Nat} (h : L2 j a b c d) : L1 j.at_ a b := by
  have := dep_at j
  obtain ⟨h0, h1, h2, -, -⟩ := h
  exact ⟨by omega, by rw [numJ_at]; exact h1, h2⟩
theorem L2.sl {j : Jt} {a b c d : Nat} (h : L2 j a b c d) : L1 j.sl c d := by
  have := dep_sl j
  obtain ⟨h0, -, -, h1, h2⟩ := h
  exact ⟨by omega, by rw [numJ_sl]; exact h1, by rw [numJ_sl]; exact h2⟩
theorem fx_of {j : Jt} (h : j.dep = 0) : j = .fx (numJ j 0) := by
  cases j
  · rfl
  · simp only [Jt.dep] at h; omega
theorem L1.each {j : Jt} {a b k : Nat} (h : L1 j a b) (ha : a ≤ k) (hb : b ≤ k) : Each k j := by
  cases j with
  | fx q => have := h.2.1; rw [numJ] at this; exact lim_mono this ha
  | mv x y =>
    obtain ⟨h0, h1, h2⟩ := h
    simp only [Jt.dep] at h0
    have hx : x.dep = 0 := by omega
    have hy : y.dep = 0 := by omega
    rw [fx_of hx, fx_of hy]
    rw [numJ] at h1
    rw [numJ_mv] at h2
    exact ⟨lim_mono h1 ha, lim_mono h2 hb⟩
theorem L2.each {j : Jt} {a b c d k : Nat} (h : L2 j a b c d) (ha : a ≤ k) (hb : b ≤ k) (hc : c ≤ k) (hd : d ≤ k) : Each k j := by
  cases j with
  | fx q => have := h.2.1; rw [numJ] at this; exact lim_mono this ha
  | mv x y => exact ⟨h.at_.each ha hb, h.sl.each hc hd⟩
theorem dep_sum (f g : Jt) (k : Nat) (hf : f.dep ≤ k) (hg : g.dep ≤ k) : (sumJ f g).dep ≤ k := by
  by_cases h : 0 < f.dep + g.dep
  · have hd := dep_halves f g h
    rw [sumJ_halves f g h, Jt.dep]
    have a1 := dep_at f; have a2 := dep_at g; have a3 := dep_sl f; have a4 := dep_sl g
    have := dep_sum f.at_ g.at_ (k - 1) (by omega) (by omega)
    have := dep_sum f.sl g.sl (k - 1) (by omega) (by omega)
    omega
  · obtain ⟨p, q, rfl, rfl⟩ := dep_fx h
    rw [sumJ_fx, Jt.dep]; omega
termination_by f.dep + g.dep
decreasing_by all_goals omega
theorem dep_prod (f g : Jt) (k : Nat) (hf : f.dep ≤ k) (hg : g.dep ≤ k) : (prodJ f g).dep ≤ k := by
  by_cases h : 0 < f.dep + g.dep
  · have hd := dep_halves f g h
    rw [prodJ_halves f g h, Jt.dep]
    have a1 := dep_at f; have a2 := dep_at g; have a3 := dep_sl f; have a4 := dep_sl g
    have b1 := dep_prod f.at_ g.at_ (k - 1) (by omega) (by omega)
    have b2 := dep_prod f.sl g.at_ (k - 1) (by omega) (by omega)
    have b3 := dep_prod f.at_ g.sl (k - 1) (by omega) (by omega)
    have := dep_sum _ _ (k - 1) b2 b3
    omega
  · obtain ⟨p, q, rfl, rfl⟩ := dep_fx h
    rw [prodJ_fx, Jt.dep]; omega
termination_by f.dep + g.dep
decreasing_by all_goals omega
theorem L1.sum {f g : Jt} {a b a' b' : Nat} (hf : L1 f a b) (hg : L1 g a' b') : L1 (sumJ f g) (a + a' + 1) (b + b' + 1) :=
  ⟨dep_sum f g 1 hf.1 hg.1, by rw [num_sum]; exact lim_add hf.2.1 hg.2.1, by rw [num_sum]; exact lim_add hf.2.2 hg.2.2⟩
theorem L1.prod {f g : Jt} {a b a' b' : Nat} (hf : L1 f a b) (hg : L1 g a' b') : L1 (prodJ f g) (a + a') ((b + a') + (a + b') + 1) :=
  ⟨dep_prod f g 1 hf.1 hg.1, by rw [num_prod0]; exact lim_mul hf.2.1 hg.2.1, by rw [num_prod1]; exact lim_add (lim_mul hf.2.2 hg.2.1) (lim_mul hf.2.1 hg.2.2)⟩
theorem L2.sum {f g : Jt} {a b c d a' b' c' d' : Nat} (hf : L2 f a b c d) (hg : L2 g a' b' c' d') : L2 (sumJ f g) (a + a' + 1) (b + b' + 1) (c + c' + 1) (d + d' + 1) :=
  ⟨dep_sum f g 2 hf.1 hg.1, by rw [num_sum]; exact lim_add hf.2.1 hg.2.1, by rw [at_sum, num_sum]; exact lim_add hf.2.2.1 hg.2.2.1, by rw [num_sum]; exact lim_add hf.2.2.2.1 hg.2.2.2.1, by rw [num_sum]; exact lim_add hf.2.2.2.2 hg.2.2.2.2⟩
theorem L2.prod {f g : Jt} {a b c d a' b' c' d' : Nat} (hf : L2 f a b c d) (hg : L2 g a' b' c' d') : L2 (prodJ f g) (a + a') ((b + a') + (a + b') + 1) ((c + a') + (a + c') + 1) (((d + a') + (c + b') + 1) + ((b + c') + (a + d') + 1) + 1) := by
  refine ⟨dep_prod f g 2 hf.1 hg.1, by rw [num_prod0]; exact lim_mul hf.2.1 hg.2.1, ?_, ?_, ?_⟩
  · rw [at_prod, num_prod1, numJ_at, numJ_at]; exact lim_add (lim_mul hf.2.2.1 hg.2.1) (lim_mul hf.2.1 hg.2.2.1)
  · rw [num_prod1]; exact lim_add (lim_mul hf.2.2.2.1 hg.2.1) (lim_mul hf.2.1 hg.2.2.2.1)
  · rw [num_prod2]; exact lim_add (lim_add (lim_mul hf.2.2.2.2 hg.2.1) (lim_mul hf.2.2.2.1 hg.2.2.1)) (lim_add (lim_mul hf.2.2.1 hg.2.2.2.1) (lim_mul hf.2.1 hg.2.2.2.2))
theorem L1.prodFit {f g : Jt} {a b a' b' : Nat} (hf : L1 f a b) (hg : L1 g a' b') (l1 : a ≤ 3600) (l2 : b ≤ 3600) (l3 : a' ≤ 3600) (l4 : b' ≤ 3600) (l5 : b + a' ≤ 3600) (l6 : a + b' ≤ 3600) : ProdFit f g := by
  by_cases h : 0 < f.dep + g.dep
  · rw [prodFit_halves f g h]
    have a1 := dep_at f; have a2 := dep_at g; have a3 := dep_sl f; have a4 := dep_sl g
    obtain ⟨f0, f1, f2⟩ := hf
    obtain ⟨g0, g1, g2⟩ := hg
    rw [fx_of (by omega : f.at_.dep = 0), fx_of (by omega : g.at_.dep = 0), fx_of (by omega : f.sl.dep = 0), fx_of (by omega : g.sl.dep = 0), numJ_at, numJ_at, numJ_sl, numJ_sl]
    simp only [ProdFit, SumFit, prodJ_fx]
    exact ⟨⟨lim_mono f1 l1, lim_mono g1 l3⟩, ⟨lim_mono f2 l2, lim_mono g1 l3⟩, ⟨lim_mono f1 l1, lim_mono g2 l4⟩, lim_mono (lim_mul f2 g1) l5, lim_mono (lim_mul f1 g2) l6⟩
  · obtain ⟨p, q, rfl, rfl⟩ := dep_fx h
    have f1 := hf.2.1; have g1 := hg.2.1
    rw [numJ] at f1 g1
    rw [ProdFit]; exact ⟨lim_mono f1 l1, lim_mono g1 l3⟩
theorem L2.prodFit {f g : Jt} {a b c d a' b' c' d' : Nat} (hf : L2 f a b c d) (hg : L2 g a' b' c' d') (l1 : a ≤ 3600) (l2 : b ≤ 3600) (l3 : c ≤ 3600) (l4 : d ≤ 3600) (l5 : a' ≤ 3600) (l6 : b' ≤ 3600) (l7 : c' ≤ 3600) (l8 : d' ≤ 3600)
    (m1 : b + a' ≤ 3600) (m2 : a + b' ≤ 3600) (m3 : (d + a') + (c + b') + 1 ≤ 3600) (m4 : (b + c') + (a + d') + 1 ≤ 3600) : ProdFit f g := by
  by_cases h : 0 < f.dep + g.dep
  · rw [prodFit_halves f g h]
    refine ⟨hf.at_.prodFit hg.at_ l1 l2 l5 l6 m1 m2, hf.sl.prodFit hg.at_ l3 l4 l5 l6 (by omega) (by omega), hf.at_.prodFit hg.sl l1 l2 l7 l8 (by omega) (by omega), ?_⟩
    exact sumFit_each _ _ (k := 3600) (by omega) (by omega) ((hf.sl.prod hg.at_).each (by omega) (by omega)) ((hf.at_.prod hg.sl).each (by omega) (by omega))
  · obtain ⟨p, q, rfl, rfl⟩ := dep_fx h
    have f1 := hf.2.1; have g1 := hg.2.1
    rw [numJ] at f1 g1
    rw [ProdFit]; exact ⟨lim_mono f1 l1, lim_mono g1 l5⟩
theorem L1.fx {q : Rat} {a : Nat} (h : lim q a) : L1 (.fx q) a 1 := ⟨by simp only [Jt.dep]; omega, by rw [numJ]; exact h, by rw [numJ_fx1]; exact lim_zero⟩
theorem L2.fx {q : Rat} {a : Nat} (h : lim q a) : L2 (.fx q) a 1 1 1 := ⟨by simp only [Jt.dep]; omega, by rw [numJ]; exact h, by rw [Jt.at_, numJ_fx1]; exact lim_zero, by rw [numJ_fx1]; exact lim_zero, by rw [numJ_fx1]; exact lim_zero⟩
theorem dep_times (n : Int) (f : Jt) (k : Nat) (h : f.dep ≤ k) : (timesJ n f).dep ≤ k := dep_prod _ _ k (by simp only [Jt.dep]; omega) h
theorem dep_inv : ∀ (j : Jt) (k : Nat), j.dep ≤ k → (invJ j).dep ≤ k
  | .fx q, k, _ => by rw [invJ, Jt.dep]; omega
  | .mv a s, k, h => by
    simp only [Jt.dep] at h
    have i := dep_inv a (k - 1) (by omega)
    have := dep_times (-1) _ (k - 1) (dep_prod s _ (k - 1) (by omega) (dep_prod _ _ (k - 1) i i))
    rw [invJ, Jt.dep]; omega
theorem dep_raise : ∀ (j : Jt) (n k : Nat), j.dep ≤ k → (raiseJ j n).dep ≤ k
  | .fx q, n, k, _ => by rw [raiseJ, Jt.dep]; omega
  | .mv a s, n, k, h => by
    simp only [Jt.dep] at h
    have i := dep_raise a n (k - 1) (by omega)
    have := dep_times n _ (k - 1) (dep_prod _ s (k - 1) (dep_raise a (n - 1) (k - 1) (by omega)) (by omega))
    rw [raiseJ, Jt.dep]; omega
/-- no list on the way to an inverse is too long -/
def InvFit : Jt → Prop
  | .fx q => lim q 3600
  | .mv a s => InvFit a ∧ ProdFit (invJ a) (invJ a) ∧ ProdFit s (prodJ (invJ a) (invJ a)) ∧ ProdFit (.fx ((-1 : Int) : Rat)) (prodJ s (prodJ (invJ a) (invJ a)))
/-- nor on the way to a power -/
def RaiseFit : Jt → Nat → Prop
  | .fx q, _ => lim q 40
  | .mv a s, n => RaiseFit a n ∧ RaiseFit a (n - 1) ∧ ProdFit (raiseJ a (n - 1)) s ∧ ProdFit (.fx ((n : Int) : Rat)) (prodJ (raiseJ a (n - 1)) s)
theorem lim_two : lim 2 1 := by unfold lim; decide
theorem L1.inv {j : Jt} {a b : Nat} (h : L1 j a b) (ha : 1 ≤ a) : L1 (invJ j) a (b + (a + a)) :=
  ⟨dep_inv j 1 h.1, by rw [inv0]; exact lim_inv h.2.1 ha, by rw [inv1]; exact lim_neg (lim_mul h.2.2 (lim_mul (lim_inv h.2.1 ha) (lim_inv h.2.1 ha)))⟩
theorem L2.inv {j : Jt} {a b c d : Nat} (h : L2 j a b c d) (ha : 1 ≤ a) : L2 (invJ j) a (b + (a + a)) (c + (a + a)) (((1 + (a + a + a)) + (b + c)) + (d + (a + a)) + 1) := by
  have i := lim_inv h.2.1 ha
  refine ⟨dep_inv j 2 h.1, by rw [inv0]; exact i, ?_, by rw [inv1]; exact lim_neg (lim_mul h.2.2.2.1 (lim_mul i i)), ?_⟩
  · have := h.at_.inv ha
    rw [at_inv]; exact this.2.2
  · rw [inv2]
    exact lim_sub (lim_mul (lim_mul lim_two (lim_mul (lim_mul i i) i)) (lim_mul h.2.2.1 h.2.2.2.1)) (lim_mul h.2.2.2.2 (lim_mul i i))
theorem lim_neg1 : lim (((-1 : Int)) : Rat) 1 := lim_int _ (by decide)
theorem L1.invFit {j : Jt} (h : L1 j 40 40) : InvFit j := by
  cases j with
  | fx q => have := h.2.1; rw [numJ] at this; exact lim_mono this (by omega)
  | mv x s =>
    obtain ⟨h0, h1, h2⟩ := h
    simp only [Jt.dep] at h0
    rw [numJ] at h1; rw [numJ_mv] at h2
    have hx : L1 x 40 1 := by rw [fx_of (by omega : x.dep = 0)]; exact L1.fx h1
    have hs : L1 s 40 1 := by rw [fx_of (by omega : s.dep = 0)]; exact L1.fx h2
    have hi := hx.inv (by omega)
    refine ⟨?_, hi.prodFit hi (by omega) (by omega) (by omega) (by omega) (by omega) (by omega), hs.prodFit (hi.prod hi) (by omega) (by omega) (by omega) (by omega) (by omega) (by omega), (L1.fx lim_neg1).prodFit (hs.prod (hi.prod hi)) (by omega) (by omega) (by omega) (by omega) (by omega) (by omega)⟩
    rw [fx_of (by omega : x.dep = 0)]; exact lim_mono h1 (by omega)
theorem L2.invFit {j : Jt} (h : L2 j 40 40 40 40) : InvFit j := by
  cases j with
  | fx q => have := h.2.1; rw [numJ] at this; exact lim_mono this (by omega)
  | mv x s =>
    have hx : L1 x 40 40 := h.at_
    have hs : L1 s 40 40 := h.sl
    have hi := hx.inv (by omega)
    exact ⟨hx.invFit, hi.prodFit hi (by omega) (by omega) (by omega) (by omega) (by omega) (by omega), hs.prodFit (hi.prod hi) (by omega) (by omega) (by omega) (by omega) (by omega) (by omega), (L1.fx lim_neg1).prodFit (hs.prod (hi.prod hi)) (by omega) (by omega) (by omega) (by omega) (by omega) (by omega)⟩
theorem lim_nat {n : Nat} (h : n ≤ 8) : lim (n : Rat) 1 := by
  have := lim_int (n : Int) (by omega)
  rwa [Rat.intCast_natCast] at this
theorem L1.raise {j : Jt} (h : L1 j 40 40) {n : Nat} (hn : n ≤ 8) : L1 (raiseJ j n) 321 322 :=
  ⟨dep_raise j n 1 h.1, by rw [raise0]; exact lim_mono (lim_pow h.2.1 n) (by omega), by rw [raise1]; exact lim_mono (lim_mul (lim_nat hn) (lim_mul (lim_pow h.2.1 (n - 1)) h.2.2)) (by omega)⟩
theorem L2.raise {j : Jt} (h : L2 j 40 40 40 40) {n : Nat} (hn : n ≤ 8) : L2 (raiseJ j n) 321 322 322 726 := by
  refine ⟨dep_raise j n 2 h.1, by rw [raise0]; exact lim_mono (lim_pow h.2.1 n) (by omega), ?_, by rw [raise1]; exact lim_mono (lim_mul (lim_nat hn) (lim_mul (lim_pow h.2.1 (n - 1)) h.2.2.2.1)) (by omega), ?_⟩
  · have := h.at_.raise hn
    rw [at_raise]; exact this.2.2
  · rw [raise2]
    refine lim_mono (lim_mul (lim_nat hn) (lim_add (lim_mul (lim_mul (lim_nat (by omega : n - 1 ≤ 8)) (lim_mul (lim_pow h.2.1 (n - 1 - 1)) h.2.2.1)) h.2.2.2.1) (lim_mul (lim_pow h.2.1 (n - 1)) h.2.2.2.2))) (by omega)
theorem L1.raiseFit {j : Jt} (h : L1 j 40 40) {n : Nat} (hn : n ≤ 8) : RaiseFit j n := by
  cases j with
  | fx q => have := h.2.1; rw [numJ] at this; exact this
  | mv x s =>
    obtain ⟨h0, h1, h2⟩ := h
    simp only [Jt.dep] at h0
    rw [numJ] at h1; rw [numJ_mv] at h2
    have hx : L1 x 40 40 := by rw [fx_of (by omega : x.dep = 0)]; exact (L1.fx h1).mono (by omega) (by omega)
    have hs : L1 s 40 40 := by rw [fx_of (by omega : s.dep = 0)]; exact (L1.fx h2).mono (by omega) (by omega)
    have hp := hx.raise (by omega : n - 1 ≤ 8)
    have hl : lim (((n : Int)) : Rat) 1 := lim_int _ (by omega)
    have hf : ∀ m, RaiseFit x m := fun m => by rw [fx_of (by omega : x.dep = 0)]; exact h1
    exact ⟨hf _, hf _, hp.prodFit hs (by omega) (by omega) (by omega) (by omega) (by omega) (by omega), (L1.fx hl).prodFit (hp.prod hs) (by omega) (by omega) (by omega) (by omega) (by omega) (by omega)⟩
theorem L2.raiseFit {j : Jt} (h : L2 j 40 40 40 40) {n : Nat} (hn : n ≤ 8) : RaiseFit j n := by
  cases j with
  | fx q => have := h.2.1; rw [numJ] at this; exact this
  | mv x s =>
    have hx : L1 x 40 40 := h.at_
    have hs : L1 s 40 40 := h.sl
    have hp := hx.raise (by omega : n - 1 ≤ 8)
    have hl : lim (((n : Int)) : Rat) 1 := lim_int _ (by omega)
    exact ⟨hx.raiseFit hn, hx.raiseFit (by omega), hp.prodFit hs (by omega) (by omega) (by omega) (by omega) (by omega) (by omega), (L1.fx hl).prodFit (hp.prod hs) (by omega) (by omega) (by omega) (by omega) (by omega) (by omega)⟩
/-- a jet that fits, by its four numbers -/
theorem L2.of_fits {j : Jt} (hd : j.dep ≤ 2) (h : fitsJ j = true) : L2 j 40 40 40 40 := by
  obtain ⟨a, b, c, d⟩ := (fits2 hd).1 h
  exact ⟨hd, a, b, c, d⟩
theorem L2.neg {j : Jt} (h : L2 j 40 40 40 40) : L2 (timesJ (-1) j) 41 83 83 167 := ((L2.fx lim_neg1).prod h).mono (by omega) (by omega) (by omega) (by omega)
theorem L2.negFit {j : Jt} (h : L2 j 40 40 40 40) : ProdFit (.fx ((-1 : Int) : Rat)) j := (L2.fx lim_neg1).prodFit h (by omega) (by omega) (by omega) (by omega) (by omega) (by omega) (by omega) (by omega) (by omega) (by omega) (by omega) (by omega)
theorem L2.sumFit {f g : Jt} {a b c d a' b' c' d' : Nat} (hf : L2 f a b c d) (hg : L2 g a' b' c' d') (l1 : a ≤ 3600) (l2 : b ≤ 3600) (l3 : c ≤ 3600) (l4 : d ≤ 3600) (l5 : a' ≤ 3600) (l6 : b' ≤ 3600) (l7 : c' ≤ 3600) (l8 : d' ≤ 3600) : SumFit f g :=
  sumFit_each f g (k := 3600) (by omega) (by omega) (hf.each l1 l2 l3 l4) (hg.each l5 l6 l7 l8)
theorem L2.quoFit {f g : Jt} (hf : L2 f 40 40 40 40) (hg : L2 g 40 40 40 40) : ProdFit f (invJ g) :=
  hf.prodFit (hg.inv (by omega)) (by omega) (by omega) (by omega) (by omega) (by omega) (by omega) (by omega) (by omega) (by omega) (by omega) (by omega) (by omega)
theorem L2.mulFit {f g : Jt} (hf : L2 f 40 40 40 40) (hg : L2 g 40 40 40 40) : ProdFit f g :=
  hf.prodFit hg (by omega) (by omega) (by omega) (by omega) (by omega) (by omega) (by omega) (by omega) (by omega) (by omega) (by omega) (by omega)
end Nt
