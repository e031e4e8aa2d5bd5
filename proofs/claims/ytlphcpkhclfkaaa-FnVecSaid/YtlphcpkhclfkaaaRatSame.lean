/-
  sameInts, sameRat of the laws: whether two rationals are one.
-/
import Derived.Test.YtlphcpkhclfkaaaRatDraw
namespace Nt
open Go Go.RowKit
theorem D_eq {m n : Nat} (h : D m = D n) : m = n := by have := congrArg natOf h; rwa [natOf_D, natOf_D] at this
theorem parts_eq {a b : Rat} (h0 : isNeg a = isNeg b) (h1 : nu a = nu b) (h2 : a.den = b.den) : a = b := by
  apply Rat.ext
  · simp [isNeg, nu] at h0 h1; omega
  · exact h2
theorem getD_ext {xs ys : List Int} (hl : xs.length = ys.length) (h : ∀ i, i < xs.length → xs.getD i 0 = ys.getD i 0) : xs = ys := by
  apply List.ext_getElem hl
  intro i h1 h2
  have := h i h1
  rwa [List.getD_eq_getElem?_getD, List.getD_eq_getElem?_getD, List.getElem?_eq_getElem h1, List.getElem?_eq_getElem h2] at this
end Nt
namespace Go.Proofs.Ytlphcpkhclfkaaa
open Go Go.RowKit Nt

set_option maxHeartbeats 800000 in
theorem sameInts_any (A A' : Option Addr) (n c n' c' : Nat) (xs ys : List Int) (P P' : Nat → Prop) (w : World) (hr : Rd w P A n c xs) (hr' : Rd w P' A' n' c' ys) (hn : n ≤ 16777216) (hn' : n' ≤ 16777216) :
    Calls Try.prog 72 #[.slice A n c, .slice A' n' c'] w fun e w' => e = .returned (.bool (decide (xs = ys))) ∧ Drawn w w' := by
  have h1 := hr.len
  have h2 := hr'.len
  by_cases hl : n' = n
  · subst hl
    have hne : ((n' : Int) != (n' : Int)) = false := by simp
    go_enter Try.func72, Try.ntmps72
    go_wp2
    go_loopw [5] (fun i wr => ∃ k : Nat, k ≤ n' ∧ i = .int .i64 k ∧ Hid (∀ j, j < k → xs.getD j 0 = ys.getD j 0) ∧ ∃ m, wr = w.drewN m) (fun i _ => n' - (intOf i).toNat)
    case atStart => exact ⟨0, Nat.zero_le _, rfl, fun j hj => by omega, 0, rfl⟩
    case round =>
      obtain ⟨k, hk, rfl, hs, m, rfl⟩ := hrel
      by_cases hlt : k < n'
      · obtain ⟨b, o, rfl, hP, _, hc⟩ := hr.at_ (by omega)
        obtain ⟨b', o', rfl, hP', _, hc'⟩ := hr'.at_ (by omega)
        have hcx : w.cell? ⟨b, o + k, none⟩ = some (.int .i64 (xs.getD k 0)) := hc k hlt
        have hcy : w.cell? ⟨b', o' + k, none⟩ = some (.int .i64 (ys.getD k 0)) := hc' k hlt
        have hlt' : (k : Int) < (n' : Int) := by omega
        have HX : Hid (∃ x, x = xs.getD k 0) := ⟨_, rfl⟩
        have HY : Hid (∃ y, y = ys.getD k 0) := ⟨_, rfl⟩
        obtain ⟨x, hx⟩ := HX.out
        obtain ⟨y, hy⟩ := HY.out
        rw [← hx] at hcx
        rw [← hy] at hcy
        have HX1 := Lib.hid hx
        have HY1 := Lib.hid hy
        clear hc hc' hr hr' hP hP' HX HY hx hy
        by_cases hxy : x = y
        · subst hxy
          have hxx : ((x : Int) != x) = false := by simp
          go_wp2
          go_quiet (fail)
          go_wp2
          go_roundw
          case rel => exact ⟨k + 1, by omega, by go_num, fun j hj => by
            rcases Nat.lt_or_ge j k with h | h
            · exact hs.out j h
            · obtain rfl : j = k := by omega
              exact HX1.out.symm.trans HY1.out, _, rfl⟩
          case measure => simp [intOf]; omega
        · have hxx : ((x : Int) != y) = true := by simpa using hxy
          have HN : Hid (decide (xs = ys) = false) := by
            show _ = _
            rw [decide_eq_false_iff_not]
            intro e
            apply hxy
            rw [HX1.out, HY1.out, e]
          clear hxy
          go_wp2
          go_quiet (fail)
          go_wp2
          go_ret
          exact ⟨by rw [HN.out]; rfl, m + nq, by rw [World.drewN_drewN]⟩
      · have HE : Hid (decide (xs = ys) = true) := by
          show _ = _
          rw [decide_eq_true_iff]
          exact getD_ext (by omega) fun i hi => hs.out i (by omega)
        go_wp2
        go_ret
        exact ⟨by rw [HE.out]; rfl, _, rfl⟩
  · have hne : ((n : Int) != (n' : Int)) = true := by simp; omega
    have hd : decide (xs = ys) = false := by
      rw [decide_eq_false_iff_not]
      intro e
      rw [e] at h1
      omega
    rw [hd]
    clear hr hr' h1 h2 hd
    go_enter Try.func72, Try.ntmps72
    go_wp2
    go_ret
    exact ⟨rfl, 0, rfl⟩

set_option maxHeartbeats 1600000 in
theorem sameRat_any (a b : Rat) (A B A' B' : Option Addr) (ca cb ca' cb' : Nat) (P P' : Nat → Prop) (w : World) (h : RdR w P (D (nu a)) (D a.den) A ca B cb) (h' : RdR w P' (D (nu b)) (D b.den) A' ca' B' cb') (l1 : (D (nu a)).length ≤ 3600) (l2 : (D a.den).length ≤ 3600) (l3 : (D (nu b)).length ≤ 3600) (l4 : (D b.den).length ≤ 3600) :
    Calls Try.prog 22 #[.agg #[.bool (isNeg a), .slice A (D (nu a)).length ca, .slice B (D a.den).length cb], .agg #[.bool (isNeg b), .slice A' (D (nu b)).length ca', .slice B' (D b.den).length cb']] w fun e w' => e = .returned (.bool (decide (a = b))) ∧ Below w.heap.size w w' := by
  have H := Lib.hid h
  have H' := Lib.hid h'
  clear h h'
  by_cases hn : isNeg a = isNeg b
  · have hnn : (isNeg a == isNeg b) = true := by rw [hn]; simp
    have HN := Lib.hid hn
    clear hn
    go_enter Try.func22, Try.ntmps22
    go_wp2_with fail
    refine calls_at (fun W => Below w.heap.size w W ∧ RatAt W w.heap.size 28 (isNeg a) A (D (nu a)).length ca B (D a.den).length cb ∧ RatAt W (w.heap.size + 1) 28 (isNeg b) A' (D (nu b)).length ca' B' (D b.den).length cb')
      ⟨below2 _ _ _, (RatAt.new _ _ _ _ _ _ _ _ _).alloc _, RatAt.new1 _ _ _ _ _ _ _ _ _ _⟩ ?_
    rintro W ⟨hb, r0, r1⟩
    refine (sameInts_any A A' _ ca _ ca' _ _ _ _ W (H.out.on hb).1 (H'.out.on hb).1 (by omega) (by omega)).mono ?_
    rintro e w1 ⟨rfl, d1⟩
    have b1 := d1.below W.heap.size
    have HB := Lib.hid (below_on hb b1)
    have HR0 := Lib.hid (r0.on b1)
    have HR1 := Lib.hid (r1.on b1)
    clear hb r0 r1 d1 b1
    by_cases hu : D (nu a) = D (nu b)
    · have hd : decide (D (nu a) = D (nu b)) = true := by simpa using hu
      rw [hd]
      have HU := Lib.hid (D_eq hu)
      clear hu hd
      have c02 := HR0.out.c2
      have c12 := HR1.out.c2
      go_wp2_with fail
      refine (sameInts_any B B' _ cb _ cb' _ _ _ _ w1 (H.out.on HB.out).2 (H'.out.on HB.out).2 (by omega) (by omega)).mono ?_
      rintro e w2 ⟨rfl, d2⟩
      have HB2 := Lib.hid (below_on HB.out (d2.below _))
      have hq : decide (D a.den = D b.den) = decide (a = b) := by
        rw [decide_eq_decide]
        exact ⟨fun h => parts_eq HN.out HU.out (D_eq h), fun h => by rw [h]⟩
      rw [hq]
      clear d2 c02 c12 hq
      go_wp2
      go_ret
      exact ⟨rfl, HB2.out⟩
    · have hd : decide (D (nu a) = D (nu b)) = false := by simpa using hu
      have hq : decide (a = b) = false := by
        rw [decide_eq_false_iff_not]
        intro e
        apply hu
        rw [e]
      rw [hd]
      have HQ := Lib.hid hq
      clear hu hd hq
      go_wp2
      go_ret
      exact ⟨by rw [HQ.out]; rfl, HB.out⟩
  · have hnn : (isNeg a == isNeg b) = false := by simpa using hn
    have hq : decide (a = b) = false := by
      rw [decide_eq_false_iff_not]
      intro e
      apply hn
      rw [e]
    rw [hq]
    clear hn hq
    go_enter Try.func22, Try.ntmps22
    go_wp2
    go_ret
    exact ⟨rfl, below2 _ _ _⟩
end Go.Proofs.Ytlphcpkhclfkaaa
