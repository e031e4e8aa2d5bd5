/-
  What the laws over drawn vectors call, where all fits: products, sums and comparisons of vectors.
-/
import Derived.Test.YtlphcpkhclfkaaaVecDraw
import Derived.Test.YtlphcpkhclfkaaaAxpyVec
import Derived.Test.YtlphcpkhclfkaaaSpecAxpy
import Derived.Test.YtlphcpkhclfkaaaDotVec
import Derived.Test.YtlphcpkhclfkaaaSameVec
namespace Nt
open Go Go.RowKit
/-- a vector that can be read, and the code 0 -/
def SayV0 (w : World) (n : Nat) (zs : List Rat) (e : Ending) (w' : World) : Prop :=
  ∃ V d, e = .returned (.tuple #[.slice V n d, .int .i64 0]) ∧ RdS w' (fun _ => True) V n d (zs.map rat3) ∧ Below w.heap.size w w'
theorem retVC_say {tr ti : TypeId} {w w' : World} {n : Nat} {zs : List Rat} {e : Ending} (hf : ∀ j, j < zs.length → fitQ (zs.getD j 0)) (hn : zs.length = n) (h : RetVC tr ti w (fV zs) (fVK zs) e w') : SayV0 w n zs e w' := by
  obtain ⟨V, d, L, he, ho, hv, hb⟩ := h
  obtain ⟨e1, e2⟩ := fV_yes hf
  have hl : (fV zs).length = n := by rw [e1, List.length_map, hn]
  have hr := ho.rd.all
  rw [hv, hl, e1] at hr
  rw [hl, e2] at he
  exact ⟨V, d, he, hr, hb⟩
theorem sayVC_say {w w' : World} {n : Nat} {zs : List Rat} {e : Ending} (hf : ∀ j, j < zs.length → fitQ (zs.getD j 0)) (hn : zs.length = n) (h : SayVC w (fV zs) (fVK zs) e w') : SayV0 w n zs e w' := by
  obtain ⟨V, d, he, hr, hb⟩ := h
  obtain ⟨e1, e2⟩ := fV_yes hf
  have hl : (fV zs).length = n := by rw [e1, List.length_map, hn]
  rw [hl, e1] at hr
  rw [hl, e2] at he
  exact ⟨V, d, he, hr, hb⟩
theorem retRC_say {t : TypeId} {w w' : World} {r : Rat} {e : Ending} (hf : fitQ r) (h : RetRC t w (fN r) (fX r) (fY r) (fK r) e w') : SayRC' w (isNeg r) (D (nu r)) (D r.den) 0 e w' := by
  obtain ⟨A, c, B, d, he, o, b⟩ := h
  have x1 : fN r = isNeg r := by unfold fN; rw [if_pos hf]
  have x2 : fX r = D (nu r) := by unfold fX; rw [if_pos hf]
  have x3 : fY r = D r.den := by unfold fY; rw [if_pos hf]
  have x4 : fK r = 0 := by unfold fK; rw [if_pos hf]
  rw [x2, x3] at o
  rw [x1, x2, x3, x4] at he
  exact ⟨A, c, B, d, he, o.rdt, b⟩
theorem sayRC_say {w w' : World} {r : Rat} {e : Ending} (hf : fitQ r) (h : SayRC' w (fN r) (fX r) (fY r) (fK r) e w') : SayRC' w (isNeg r) (D (nu r)) (D r.den) 0 e w' := by
  have x1 : fN r = isNeg r := by unfold fN; rw [if_pos hf]
  have x2 : fX r = D (nu r) := by unfold fX; rw [if_pos hf]
  have x3 : fY r = D r.den := by unfold fY; rw [if_pos hf]
  have x4 : fK r = 0 := by unfold fK; rw [if_pos hf]
  rwa [x1, x2, x3, x4] at h
theorem fine_ok {ps : List Rat} (h : Fine ps) : (ps.map rat3).all ok3 = true := by
  rw [List.all_eq_true]
  intro r hr
  obtain ⟨q, hq, rfl⟩ := List.mem_map.1 hr
  exact ok3_rat q (h q hq).1 (h q hq).2
theorem fine_okV {ps : List Rat} (h : Fine ps) (h1 : 1 ≤ ps.length) (h4 : ps.length ≤ 4) : okV (ps.map rat3) = true := by
  unfold okV
  rw [fine_ok h, List.length_map, decide_eq_true h1, decide_eq_true h4]
  rfl
theorem fine_ask {ps qs : List Rat} {n : Nat} (h : Fine ps) (k : Fine qs) (hp : ps.length = n) (hq : qs.length = n) (h1 : 1 ≤ n) (h4 : n ≤ 4) : askV n n (ps.map rat3) (qs.map rat3) = 0 := by
  unfold askV
  rw [fine_okV h (by omega) (by omega), fine_okV k (by omega) (by omega), if_neg (by omega)]
  simp
theorem lt19 {n : Nat} (h : (D n).length ≤ 19) : n < Top := (D_len_le n 40).1 (by omega)
/-- sums of products, with small parts -/
theorem dotK_small {ps qs : List Rat} (e f g : Nat) (hg : f + 1 ≤ e + g) (hp : ∀ j, j < ps.length → j < qs.length → (D (nu (ps.getD j 0))).length + (D (nu (qs.getD j 0))).length ≤ f ∧ (D (ps.getD j 0).den).length + (D (qs.getD j 0).den).length ≤ e) :
    ∀ (k : Nat), k ≤ ps.length → k ≤ qs.length → (D (nu (dotK ps qs k))).length ≤ (e + 1) * k + g ∧ (D (dotK ps qs k).den).length ≤ e * k + 1
  | 0, _, _ => by
    rw [dotK_zero]
    have h1 : (D (nu (0 : Rat))).length = 0 := by decide
    have h2 : (D (0 : Rat).den).length = 1 := by decide
    omega
  | k + 1, h1, h2 => by
    obtain ⟨i1, i2⟩ := dotK_small e f g hg hp k (by omega) (by omega)
    rw [dotK_succ (by omega) (by omega)]
    have a := hp k (by omega) (by omega)
    have hm := mul_lens (ps.getD k 0) (qs.getD k 0)
    have hs := add_lens (dotK ps qs k) (ps.getD k 0 * qs.getD k 0)
    have e1 : (e + 1) * (k + 1) = e * k + k + e + 1 := by rw [Nat.add_mul, Nat.mul_succ]; omega
    have e2 : (e + 1) * k = e * k + k := by rw [Nat.add_mul]; omega
    have e3 : e * (k + 1) = e * k + e := Nat.mul_succ e k
    rw [e1, e3]
    rw [e2] at i1
    generalize e * k = R at *
    omega
theorem dot_axpy (a : Rat) {xs ys : List Rat} (h : xs.length = ys.length) : ∀ k, k ≤ xs.length → dotK (axL a xs ys) xs k = a * dotK xs xs k + dotK xs ys k
  | 0, _ => by rw [dotK_zero, dotK_zero, dotK_zero]; grind
  | k + 1, hk => by
    have hl := axL_len a h
    rw [dotK_succ (by omega) (by omega), dotK_succ (by omega) (by omega), dotK_succ (by omega) (by omega), dot_axpy a h k (by omega), axL_get a (by omega) (by omega)]
    grind
theorem sq_nonneg (r : Rat) : 0 ≤ r * r := by
  rcases (Rat.le_total : (0 : Rat) ≤ r ∨ r ≤ 0) with h | h
  · exact Rat.mul_nonneg h h
  · have h2 : 0 ≤ -r := by grind
    have := Rat.mul_nonneg h2 h2
    grind
theorem dot_pos (xs : List Rat) : ∀ k, k ≤ xs.length → 0 ≤ dotK xs xs k ∧ (dotK xs xs k = 0 ↔ ∀ j, j < k → xs.getD j 0 = 0)
  | 0, _ => by rw [dotK_zero]; exact ⟨Rat.le_refl, fun _ j hj => by omega, fun _ => rfl⟩
  | k + 1, hk => by
    obtain ⟨i1, i2⟩ := dot_pos xs k (by omega)
    have hs := sq_nonneg (xs.getD k 0)
    rw [dotK_succ (by omega) (by omega)]
    refine ⟨by grind, fun h j hj => ?_, fun h => ?_⟩
    · have e1 : dotK xs xs k = 0 := by grind
      have e2 : xs.getD k 0 * xs.getD k 0 = 0 := by grind
      by_cases q : j = k
      · subst q
        rcases Rat.mul_eq_zero.1 e2 with h | h <;> exact h
      · exact i2.1 e1 j (by omega)
    · rw [i2.2 fun j hj => h j (by omega), h k (by omega)]
      grind
theorem neg_no {r : Rat} (h : 0 ≤ r) : isNeg r = false := by
  unfold isNeg
  rw [decide_eq_false_iff_not]
  have := Rat.num_nonneg.2 h
  omega
theorem len_zero {r : Rat} : ((((D (nu r)).length : Nat) : Int) == 0) = decide (r = 0) := by
  rw [Bool.eq_iff_iff, beq_iff_eq, decide_eq_true_eq]
  constructor
  · intro h
    have h0 : (D (nu r)).length = 0 := by omega
    have h1 : nu r = 0 := by
      have := natOf_D (nu r)
      rw [List.eq_nil_of_length_eq_zero h0] at this
      exact this.symm
    unfold nu at h1
    rw [Int.natAbs_eq_zero, Rat.num_eq_zero] at h1
    exact h1
  · intro h
    subst h
    rfl
theorem scale_twice (a : Rat) (xs : List Rat) : axL a xs (xs.map fun q => a * q) = xs.map fun q => (a + a) * q := by
  unfold axL
  refine List.ext_getElem (by simp) fun i h1 h2 => ?_
  simp only [List.getElem_zipWith, List.getElem_map]
  grind
end Nt
namespace Go.Proofs.Ytlphcpkhclfkaaa
open Go Go.RowKit Nt

set_option maxHeartbeats 800000 in
theorem implNorm2_val (N : Bool) (X Y : List Int) (code : Int) (A : Option Addr) (n c : Nat) (w : World) (hD : ∀ W : World, Below w.heap.size w W → Calls Try.prog 16 #[.slice A n c, .slice A n c] W (RetRC 3 W N X Y code)) :
    Calls Try.prog 19 #[.slice A n c] w (RetRC 3 w N X Y code) := by
  have HD := Lib.hid hD
  clear hD
  go_enter Try.func19, Try.ntmps19
  go_wp2_with fail
  refine calls_at (fun W => Below w.heap.size w W ∧ RatAt W w.heap.size 28 false none 0 0 none 0 0) ⟨below1 _ _, RatAt.new _ _ _ _ _ _ _ _ _⟩ ?_
  rintro W ⟨hb, r0⟩
  refine (HD.out W hb).mono ?_
  rintro e w3 ⟨A3, c3, B3, d3, rfl, o3, b3⟩
  have HB3 := Lib.hid (below_on hb b3)
  have HT3 := Lib.hid (r0.on b3)
  have HO3 := Lib.hid o3
  have hs2 := r0.lt
  have hs0 := hb.size
  clear hb r0 o3 b3
  have f0 := HT3.out.fz 0
  have f1 := HT3.out.fz 1
  have f2 := HT3.out.fz 2
  have y0 := HT3.out.c0
  have y1 := HT3.out.c1
  have y2 := HT3.out.c2
  go_wp2
  have g2 := fun b u v => setAll_grown w3 w.heap.size (.bool b) u v
  refine bodyPost_ret (retRC rfl _ _ _ rfl (HT3.out.setAll _ _ _ _ _ _ _)) rfl ?_
  exact ⟨A3, c3, B3, d3, rfl, ⟨own_mono (own_gone HO3.out.1 (g2 _ _ _) (fun k hk => by have := own_block HO3.out.1 hk; omega)) (by omega), own_mono (own_gone HO3.out.2.1 (g2 _ _ _) (fun k hk => by have := own_block HO3.out.2.1 hk; omega)) (by omega), HO3.out.2.2⟩, below_grow HB3.out (by omega) (g2 _ _ _)⟩


theorem axB (a : Rat) (Aa Ba : Option Addr) (ca cb : Nat) (n c d : Nat) (X Y : Option Addr) (ps qs zs : List Rat) (w : World) (ha : RdR w (fun _ => True) (D (nu a)) (D a.den) Aa ca Ba cb) (hx : RdS w (fun _ => True) X n c (ps.map rat3)) (hy : RdS w (fun _ => True) Y n d (qs.map rat3)) (fa : fitQ a) (hp : Fine ps) (hq : Fine qs) (h1 : 1 ≤ n) (h4 : n ≤ 4) (lp : ps.length = n) (lq : qs.length = n) (hz : axL a ps qs = zs) (hf : ∀ j, j < zs.length → fitQ (zs.getD j 0)) :
    Calls Try.prog 14 #[.agg #[.bool (isNeg a), .slice Aa (D (nu a)).length ca, .slice Ba (D a.den).length cb], .slice X n c, .slice Y n d] w (SayV0 w n zs) := by
  have h := implAxpy_ok a ps qs Aa Ba ca cb X Y n c d _ _ _ w ha hx hy ((D_len_le _ 40).1 fa.1) ((D_len_le _ 40).1 fa.2) hp hq (fine_ask hp hq lp lq h1 h4)
  rw [hz] at h
  exact h.mono fun _ _ k => retVC_say hf (by rw [← hz, axL_len a (by omega)]; exact lp) k
theorem axSB (a : Rat) (Aa Ba : Option Addr) (ca cb : Nat) (n c d : Nat) (X Y : Option Addr) (ps qs zs : List Rat) (w : World) (ha : RdR w (fun _ => True) (D (nu a)) (D a.den) Aa ca Ba cb) (hx : RdS w (fun _ => True) X n c (ps.map rat3)) (hy : RdS w (fun _ => True) Y n d (qs.map rat3)) (fa : fitQ a) (hp : Fine ps) (hq : Fine qs) (h1 : 1 ≤ n) (h4 : n ≤ 4) (lp : ps.length = n) (lq : qs.length = n) (hz : axL a ps qs = zs) (hf : ∀ j, j < zs.length → fitQ (zs.getD j 0)) :
    Calls Try.prog 15 #[.agg #[.bool (isNeg a), .slice Aa (D (nu a)).length ca, .slice Ba (D a.den).length cb], .slice X n c, .slice Y n d] w (SayV0 w n zs) := by
  have h := specAxpy_ok a ps qs Aa Ba ca cb X Y n c d _ _ _ w ha hx hy ((D_len_le _ 40).1 fa.1) ((D_len_le _ 40).1 fa.2) hp hq (fine_ask hp hq lp lq h1 h4)
  rw [hz] at h
  exact h.mono fun _ _ k => sayVC_say hf (by rw [← hz, axL_len a (by omega)]; exact lp) k
theorem dotB (n c d : Nat) (X Y : Option Addr) (ps qs : List Rat) (r : Rat) (w : World) (hx : RdS w (fun _ => True) X n c (ps.map rat3)) (hy : RdS w (fun _ => True) Y n d (qs.map rat3)) (hp : Fine ps) (hq : Fine qs) (h1 : 1 ≤ n) (h4 : n ≤ 4) (lp : ps.length = n) (lq : qs.length = n) (hr : dotK ps qs n = r) (hf : fitQ r) :
    Calls Try.prog 16 #[.slice X n c, .slice Y n d] w (SayRC' w (isNeg r) (D (nu r)) (D r.den) 0) := by
  have h := implDot_ok ps qs X Y n c d _ _ w hx hy hp hq (by omega) (fine_ask hp hq lp lq h1 h4)
  rw [lp, hr] at h
  exact h.mono fun _ _ k => retRC_say hf k
theorem normB (n c : Nat) (X : Option Addr) (ps : List Rat) (r : Rat) (w : World) (hx : RdS w (fun _ => True) X n c (ps.map rat3)) (hp : Fine ps) (h1 : 1 ≤ n) (h4 : n ≤ 4) (lp : ps.length = n) (hr : dotK ps ps n = r) (hf : fitQ r) :
    Calls Try.prog 19 #[.slice X n c] w (SayRC' w (isNeg r) (D (nu r)) (D r.den) 0) := by
  refine (implNorm2_val (fN r) (fX r) (fY r) (fK r) X n c w fun W hW => ?_).mono fun _ _ k => retRC_say hf k
  have hx' := hx.on hW
  have h := implDot_ok ps ps X X n c c _ _ W hx' hx' hp hp (by omega) (fine_ask hp hp lp lp h1 h4)
  rw [lp, hr] at h
  exact h
theorem scaleB (a : Rat) (Aa Ba : Option Addr) (ca cb : Nat) (n c : Nat) (X : Option Addr) (ps zs : List Rat) (w : World) (ha : RdR w (fun _ => True) (D (nu a)) (D a.den) Aa ca Ba cb) (hx : RdS w (fun _ => True) X n c (ps.map rat3)) (fa : fitQ a) (hp : Fine ps) (h1 : 1 ≤ n) (h4 : n ≤ 4) (lp : ps.length = n) (hz : (ps.map fun q => a * q) = zs) (hf : ∀ j, j < zs.length → fitQ (zs.getD j 0)) :
    Calls Try.prog 20 #[.agg #[.bool (isNeg a), .slice Aa (D (nu a)).length ca, .slice Ba (D a.den).length cb], .slice X n c] w (SayV0 w n zs) := by
  have h := implScaleVec_ok a ps Aa Ba ca cb X n c _ _ w ha hx ((D_len_le _ 40).1 fa.1) ((D_len_le _ 40).1 fa.2) hp h4 (fine_okV hp (by omega) (by omega))
  rw [hz] at h
  exact h.mono fun _ _ k => retVC_say hf (by rw [← hz, List.length_map]; exact lp) k
theorem sameIB (n c d : Nat) (X Y : Option Addr) (ps : List Rat) (w : World) (hx : RdS w (fun _ => True) X n c (ps.map rat3)) (hy : RdS w (fun _ => True) Y n d (ps.map rat3)) (hp : Fine ps) (h1 : 1 ≤ n) (h4 : n ≤ 4) (lp : ps.length = n) :
    Calls Try.prog 23 #[.slice X n c, .slice Y n d] w fun e w' => e = .returned (.bool true) ∧ Below w.heap.size w w' := by
  have h := implSameVec_any X n c _ Y n d _ _ _ w hx hy (small_fine hp) (by omega) (small_fine hp) (by omega)
  have e : sameVV (ps.map rat3) (ps.map rat3) = true := by
    unfold sameVV
    rw [fine_okV hp (by omega) (by omega)]
    simp
  rwa [e] at h
theorem addV (a b : Rat) (A B : Option Addr) (ca cb : Nat) (A' B' : Option Addr) (ca' cb' : Nat) (w : World) (h0 : RdR w (fun _ => True) (D (nu a)) (D a.den) A ca B cb) (h1 : RdR w (fun _ => True) (D (nu b)) (D b.den) A' ca' B' cb') (fa : fitQ a) (fb : fitQ b) (r : Rat) (hr : a + b = r) (hf : fitQ r) :
    Calls Try.prog 18 #[.agg #[.bool (isNeg a), .slice A (D (nu a)).length ca, .slice B (D a.den).length cb], .agg #[.bool (isNeg b), .slice A' (D (nu b)).length ca', .slice B' (D b.den).length cb']] w (SayRC' w (isNeg r) (D (nu r)) (D r.den) 0) := by
  have h := implAddRat_ok a b A B ca cb A' B' ca' cb' _ _ w h0 h1 (Nat.le_trans fa.1 (by decide)) (Nat.le_trans fa.2 (by decide)) (Nat.le_trans fb.1 (by decide)) (Nat.le_trans fb.2 (by decide)) ((D_len_le _ 40).1 fa.1) ((D_len_le _ 40).1 fa.2) ((D_len_le _ 40).1 fb.1) ((D_len_le _ 40).1 fb.2)
  rw [hr] at h
  exact h.mono fun _ _ k => retRC_say hf k
theorem mulV (a b : Rat) (A B : Option Addr) (ca cb : Nat) (A' B' : Option Addr) (ca' cb' : Nat) (w : World) (h0 : RdR w (fun _ => True) (D (nu a)) (D a.den) A ca B cb) (h1 : RdR w (fun _ => True) (D (nu b)) (D b.den) A' ca' B' cb') (fa : fitQ a) (fb : fitQ b) (r : Rat) (hr : a * b = r) (hf : fitQ r) :
    Calls Try.prog 17 #[.agg #[.bool (isNeg a), .slice A (D (nu a)).length ca, .slice B (D a.den).length cb], .agg #[.bool (isNeg b), .slice A' (D (nu b)).length ca', .slice B' (D b.den).length cb']] w (SayRC' w (isNeg r) (D (nu r)) (D r.den) 0) := by
  have h := implMulRat_ok a b A B ca cb A' B' ca' cb' _ _ w h0 h1 (Nat.le_trans fa.1 (by decide)) (Nat.le_trans fa.2 (by decide)) (Nat.le_trans fb.1 (by decide)) (Nat.le_trans fb.2 (by decide)) ((D_len_le _ 40).1 fa.1) ((D_len_le _ 40).1 fa.2) ((D_len_le _ 40).1 fb.1) ((D_len_le _ 40).1 fb.2)
  rw [hr] at h
  exact h.mono fun _ _ k => retRC_say hf k
end Go.Proofs.Ytlphcpkhclfkaaa
