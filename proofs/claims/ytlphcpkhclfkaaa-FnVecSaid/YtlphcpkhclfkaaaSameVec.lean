/-
  SameVec of the program and of the model.
-/
import Derived.Test.YtlphcpkhclfkaaaVecSame
import Derived.Deep.RegionHeld3
namespace Nt
open Go Go.RowKit
def sameVV (rs ss : List R3) : Bool := okV rs && okV ss && decide (rs = ss)
theorem vcode2 (n m : Nat) (rs ss : List R3) : vcode 2 (fun i => if i = 0 then n else m) (fun i => if i = 0 then rs else ss) = askV n m rs ss := by
  unfold vcode askV
  simp only [List.range_succ, List.range_zero, List.nil_append, List.cons_append, List.any_cons, List.any_nil, Bool.or_false, if_true, Nat.succ_ne_zero, if_false]
  by_cases h : 4096 < n ∨ 4096 < m
  · rw [if_pos h, if_pos]
    simp only [Bool.or_eq_true, decide_eq_true_eq]
    exact h
  · rw [if_neg h, if_neg (by simp only [Bool.or_eq_true, decide_eq_true_eq]; exact h)]
    cases h1 : okV rs <;> cases h2 : okV ss <;> simp
    by_cases e : n = m
    · simp [e]
    · simp [e, Ne.symm e]
theorem sameVV_no {n m : Nat} {rs ss : List R3} (h1 : rs.length = n) (h2 : ss.length = m) (h : askV n m rs ss ≠ 0) : sameVV rs ss = false := by
  unfold sameVV
  unfold askV at h
  cases hr : okV rs
  · simp
  · cases hs : okV ss
    · simp
    · have l1 := (okV_out hr).2.1
      have l2 := (okV_out hs).2.1
      rw [if_neg (by omega), hr, hs] at h
      have hne : n ≠ m := by
        intro e
        rw [if_pos (by decide), if_neg (by omega)] at h
        exact h rfl
      simp
      intro e
      exact hne (by rw [← h1, ← h2, e])
theorem sameVV_yes {n m : Nat} {rs ss : List R3} (h : askV n m rs ss = 0) : okV rs = true ∧ okV ss = true ∧ n = m ∧ sameVV rs ss = decide (rs = ss) := by
  unfold askV at h
  by_cases hb : 4096 < n ∨ 4096 < m
  · rw [if_pos hb] at h; cases h
  · rw [if_neg hb] at h
    cases hr : okV rs
    · rw [hr] at h; simp at h
    · cases hs : okV ss
      · rw [hr, hs] at h; simp at h
      · rw [hr, hs] at h
        by_cases e : n = m
        · exact ⟨rfl, rfl, e, by unfold sameVV; rw [hr, hs]; rfl⟩
        · rw [if_pos (by decide), if_pos e] at h; cases h
theorem two_cells (w : World) (t : TypeId) (x y : Value) : ∀ i, i < 2 → (w.alloc (.cells #[x, y] t)).cell? ⟨w.heap.size, i, none⟩ = some (if i = 0 then x else y) := by
  intro i hi
  rw [cell_of_row _ _ _ _ t (0, 0) (heap_alloc_new w _)]
  match i, hi with
  | 0, _ => rfl
  | 1, _ => rfl
end Nt
namespace Go.Proofs.Ytlphcpkhclfkaaa
open Go Go.RowKit Nt

theorem alike_any (X : Option Addr) (Y : Option Addr) (N cx cy : Nat) (rs ss : List R3) (P P' : Nat → Prop) (w : World) (hx : RdS w P X N cx rs) (hy : RdS w P' Y N cy ss) (hrs : rs.all ok3 = true) (hss : ss.all ok3 = true) (h0 : 0 < N) (hN : N ≤ 100) :
    Calls Try.prog 73 #[.slice X N cx, .slice Y N cy] w fun e w' => e = .returned (.bool (decide (rs = ss))) ∧ Below w.heap.size w w' := by
  have HF := Lib.hid (foldSame_in X Y N cx cy rs ss w hx.low hy.low hrs hss h0 hN)
  clear hx hy hrs hss
  go_enter Try.func73, Try.ntmps73
  go_wp2_with fail
  refine HF.out.mono ?_
  rintro e w1 ⟨rfl, b1⟩
  have HB := Lib.hid b1
  clear b1 HF
  go_wp2
  go_ret
  exact ⟨rfl, HB.out⟩

set_option maxHeartbeats 1600000 in
theorem implSameVec_any (X : Option Addr) (n c : Nat) (rs : List R3) (Y : Option Addr) (m d : Nat) (ss : List R3) (P P' : Nat → Prop) (w : World) (hx : RdS w P X n c rs) (hy : RdS w P' Y m d ss) (hs : Small rs) (hn : n ≤ 1048576) (hs' : Small ss) (hm : m ≤ 1048576) :
    Calls Try.prog 23 #[.slice X n c, .slice Y m d] w fun e w' => e = .returned (.bool (sameVV rs ss)) ∧ Below w.heap.size w w' := by
  have HX := Lib.hid hx.low
  have HY := Lib.hid hy.low
  have hlx := hx.len
  have hly := hy.len
  have HC := Lib.hid (vecCode_any w.heap.size 2 (fun i => if i = 0 then X else Y) (fun i => if i = 0 then n else m) (fun i => if i = 0 then c else d) (fun i => if i = 0 then rs else ss) (w.alloc (.cells #[.slice X n c, .slice Y m d] 24)) (by omega) (by omega) (by simp)
    (fun i hi => by
      have := two_cells w 24 (.slice X n c) (.slice Y m d) i hi
      rw [this]
      by_cases e : i = 0 <;> simp [e])
    (fun i hi => by
      by_cases e : i = 0
      · simp only [e, if_true]; exact (hx.low.below (below1 _ _)).low
      · simp only [e, if_false]; exact (hy.low.below (below1 _ _)).low)
    (fun i hi => by by_cases e : i = 0 <;> simp only [e, if_true, if_false] <;> assumption)
    (fun i hi => by by_cases e : i = 0 <;> simp only [e, if_true, if_false] <;> assumption))
  rw [vcode2] at HC
  have HBW := Lib.hid (below1 w (.cells #[.slice X n c, .slice Y m d] 24))
  clear hx hy hs hs'
  go_enter Try.func23, Try.ntmps23
  go_wp2_with fail
  refine HC.out.mono ?_
  rintro e w1 ⟨rfl, b1⟩
  have HB1 := Lib.hid (below_on HBW.out b1)
  clear b1 HC HBW
  by_cases ha : askV n m rs ss = 0
  · obtain ⟨o1, o2, rfl, e4⟩ := sameVV_yes ha
    have HV := Lib.hid e4
    have q1 := okV_out o1
    have HA1 : Hid (rs.all ok3 = true) := by unfold okV at o1; simp only [Bool.and_eq_true] at o1; exact o1.2
    have HA2 : Hid (ss.all ok3 = true) := by unfold okV at o2; simp only [Bool.and_eq_true] at o2; exact o2.2
    have HAL := Lib.hid (alike_any X Y n c d rs ss _ _ w1 (HX.out.below HB1.out) (HY.out.below HB1.out) HA1.out HA2.out (by omega) (by omega))
    rw [ha]
    clear ha e4 o1 o2 q1 HA1 HA2 hlx hly
    go_wp2_with fail
    refine HAL.out.mono ?_
    rintro e w2 ⟨rfl, b2⟩
    rw [← HV.out]
    have HB2 := Lib.hid (below_on HB1.out b2)
    clear b2 HAL
    clear HV
    go_wp2
    go_ret
    exact ⟨rfl, HB2.out⟩
  · have HV := Lib.hid (sameVV_no hlx hly ha)
    have hz : (askV n m rs ss == 0) = false := by simpa using ha
    generalize askV n m rs ss = z at *
    clear ha
    go_wp2
    go_ret
    exact ⟨ret_bool HV.out.symm, HB1.out⟩

end Go.Proofs.Ytlphcpkhclfkaaa
