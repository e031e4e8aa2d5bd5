/-
  Which codes two vectors give in the model: l03Ask.
-/
import Derived.Test.YtifepoefeamboaaGreatDoorGrpH
namespace Go.Proofs.YtifepoefeamboaaGreatDoor
open Go Go.RowKit Nt

set_option maxHeartbeats 1600000 in
theorem l03Ask_any (X : Option Addr) (n c : Nat) (rs : List R3) (Y : Option Addr) (m d : Nat) (ss : List R3) (P P' : Nat → Prop) (w : World) (hx : RdS w P X n c rs) (hy : RdS w P' Y m d ss) (hs : Small rs) (hs' : Small ss) (hn : n ≤ 1048576) (hm : m ≤ 1048576) :
    Calls Tryz.prog 85 #[.slice X n c, .slice Y m d] w fun e w' => e = .returned (.int .i64 (askV n m rs ss)) ∧ Below w.heap.size w w' := by
  have HX := Lib.hid hx.low
  have HY := Lib.hid hy.low
  have HS := Lib.hid hs
  have HS' := Lib.hid hs'
  clear hx hy hs hs'
  by_cases h1 : 4096 < n
  · have HV : Hid (askV n m rs ss = 2) := by show _ = _; unfold askV; rw [if_pos (.inl h1)]
    have z1 : decide ((4096 : Int) < n) = true := by simp; omega
    go_enter Tryz.func85, Tryz.ntmps85
    go_wp2
    go_ret
    exact ⟨by rw [HV.out]; rfl, Below.refl _ _⟩
  have z1 : decide ((4096 : Int) < n) = false := by simp; omega
  by_cases h2 : 4096 < m
  · have HV : Hid (askV n m rs ss = 2) := by show _ = _; unfold askV; rw [if_pos (.inr h2)]
    have z2 : decide ((4096 : Int) < m) = true := by simp; omega
    go_enter Tryz.func85, Tryz.ntmps85
    go_wp2
    go_ret
    exact ⟨by rw [HV.out]; rfl, Below.refl _ _⟩
  have z2 : decide ((4096 : Int) < m) = false := by simp; omega
  have HV : Hid (askV n m rs ss = if okV rs && okV ss then (if n ≠ m then 8 else 0) else 1) := by show _ = _; unfold askV; rw [if_neg (by omega)]
  clear h1 h2
  go_enter Tryz.func85, Tryz.ntmps85
  go_wp2_with fail
  refine (specVecOK_any X n c rs _ w HX.out HS.out hn).mono ?_
  rintro e w1 ⟨rfl, b1⟩
  have HB1 := Lib.hid b1
  clear b1
  by_cases ho : okV rs = true
  · have HV1 : Hid (askV n m rs ss = if okV ss then (if n ≠ m then 8 else 0) else 1) := by show _ = _; rw [HV.out, ho, Bool.true_and]
    rw [ho]
    clear ho HV
    go_wp2_with fail
    refine (specVecOK_any Y m d ss _ w1 (HY.out.below HB1.out) HS'.out hm).mono ?_
    rintro e w2 ⟨rfl, b2⟩
    have HB2 := Lib.hid (below_on HB1.out b2)
    clear b2
    by_cases ho : okV ss = true
    · by_cases he : n = m
      · have HV2 : Hid (askV n m rs ss = 0) := by show _ = _; rw [HV1.out, if_pos ho, if_neg (by omega)]
        have hbe : ((n : Int) != (m : Int)) = false := by rw [he]; simp
        rw [ho]
        clear ho HV1 he
        go_wp2
        go_ret
        exact ⟨by rw [HV2.out]; rfl, HB2.out⟩
      · have HV2 : Hid (askV n m rs ss = 8) := by show _ = _; rw [HV1.out, if_pos ho, if_pos he]
        have hbe : ((n : Int) != (m : Int)) = true := by simp; omega
        rw [ho]
        clear ho HV1 he
        go_wp2
        go_ret
        exact ⟨by rw [HV2.out]; rfl, HB2.out⟩
    · have ho' := (Bool.not_eq_true _).mp ho
      have HV2 : Hid (askV n m rs ss = 1) := by show _ = _; rw [HV1.out, ho']; rfl
      rw [ho']
      clear ho ho' HV1
      go_wp2
      go_ret
      exact ⟨by rw [HV2.out]; rfl, HB2.out⟩
  · have ho' := (Bool.not_eq_true _).mp ho
    have HV2 : Hid (askV n m rs ss = 1) := by show _ = _; rw [HV.out, ho']; rfl
    rw [ho']
    clear ho ho' HV
    go_wp2
    go_ret
    exact ⟨by rw [HV2.out]; rfl, HB1.out⟩
end Go.Proofs.YtifepoefeamboaaGreatDoor
