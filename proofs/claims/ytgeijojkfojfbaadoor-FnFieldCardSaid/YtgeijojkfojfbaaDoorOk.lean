/-
  NatOK of the program and of the model: just the lists that are naturals.
-/
import Derived.Test.YtgeijojkfojfbaaDoorBase
namespace Go.Proofs.YtgeijojkfojfbaaDoor
open Go Go.RowKit Nt

set_option maxHeartbeats 400000 in
theorem implNatOK_any (A : Option Addr) (n c : Nat) (xs : List Int) (P : Nat → Prop) (w : World) (hr : Rd w P A n c xs) (hn : n ≤ 16777216) :
    Calls Tryd.prog 33 #[.slice A n c] w fun e w' => e = .returned (.bool (okL xs)) ∧ w = w' := by
  have hl := hr.len
  by_cases h40 : 40 < n
  · have hok := okL_long (xs := xs) (by omega)
    have h40' : decide ((40 : Int) < n) = true := by simp; omega
    rw [hok]
    clear hok hl
    go_enter Tryd.func33, Tryd.ntmps33
    go_wp2
    go_ret
    exact ⟨rfl, rfl⟩
  · by_cases h0 : n = 0
    · subst h0
      have hxe : xs = [] := List.eq_nil_of_length_eq_zero hl
      subst hxe
      have hok : okL [] = true := rfl
      rw [hok]
      clear hok hl
      go_enter Tryd.func33, Tryd.ntmps33
      go_wp2
      refine wp_loop_rounds 1 ?_
      rw [rounds_succ]
      go_wp2
      go_ret
      exact ⟨rfl, rfl⟩
    · obtain ⟨b, o, rfl, hP, _, hc⟩ := hr.at_ (by omega)
      have hcl := hc (n - 1) (by omega)
      have h41 : (n : Int) ≤ 40 := by omega
      have h42 : (0 : Int) < n := by omega
      by_cases hz : xs.getD (n - 1) 0 = 0
      · have hok := okL_last (xs := xs) (by omega) (by rw [hl]; exact hz)
        rw [hok]
        rw [hz] at hcl
        clear hok hl hz
        go_enter Tryd.func33, Tryd.ntmps33
        go_wp2
        go_ret
        exact ⟨rfl, rfl⟩
      · have hz' : (xs.getD (n - 1) 0 == 0) = false := by simpa using hz
        have HZ := Lib.hid hz
        clear hz
        have HL := Lib.hid hl
        clear hl
        generalize hy : xs.getD (n - 1) 0 = y at *
        have HY := Lib.hid hy
        clear hy
        go_enter Tryd.func33, Tryd.ntmps33
        go_wp2
        go_loop [24] (fun i => ∃ k : Nat, k ≤ n ∧ i = .int .i64 k ∧ ∀ j, j < k → 0 ≤ xs.getD j 0 ∧ xs.getD j 0 < 10000) (fun i => n - (intOf i).toNat)
        case atStart => exact ⟨0, Nat.zero_le _, rfl, fun j hj => absurd hj (by omega)⟩
        case round =>
          obtain ⟨k, hk, rfl, hall⟩ := hrel
          by_cases hlt : k < n
          · have hcx := hc k hlt
            have HA := Lib.hid hall
            clear hall
            by_cases hbad : xs.getD k 0 < 0 ∨ 10000 ≤ xs.getD k 0
            · have hok := okL_bad (xs := xs) k (by have := HL.out; omega) hbad
              have HOK := Lib.hid hok
              clear hok hc hr hcl
              generalize xs.getD k 0 = x at *
              by_cases hx0 : x < 0
              · have hx0' : decide (x < 0) = true := by simpa using hx0
                clear hbad
                go_wp2
                go_ret
                exact ⟨ret_bool HOK.out.symm, rfl⟩
              · have hx1 : 10000 ≤ x := by omega
                have hx0' : decide (x < 0) = false := by simpa using hx0
                clear hbad
                go_wp2
                go_ret
                exact ⟨ret_bool HOK.out.symm, rfl⟩
            · have hx0 : 0 ≤ xs.getD k 0 := by omega
              have hx1 : xs.getD k 0 < 10000 := by omega
              have HA' : Hid (∀ j, j < k + 1 → 0 ≤ xs.getD j 0 ∧ xs.getD j 0 < 10000) := by
                intro j hj
                by_cases hjk : j = k
                · subst hjk; exact ⟨hx0, hx1⟩
                · exact HA.out j (by omega)
              clear hbad HA hc hr hcl
              generalize xs.getD k 0 = x at *
              go_wp2
              go_round
              case rel => exact ⟨k + 1, by omega, by go_num, HA'.out⟩
              case measure => simp [intOf]; omega
          · obtain rfl : k = n := by omega
            have hok := okL_good (xs := xs) (by have := HL.out; omega) (by rw [HL.out]; exact hall) (by right; rw [HL.out, HY.out]; exact HZ.out)
            have HOK := Lib.hid hok
            clear hok hall hc hr hcl
            go_wp2
            go_ret
            exact ⟨ret_bool HOK.out.symm, rfl⟩

set_option maxHeartbeats 400000 in
theorem l01In_any (n a b : Int) (w : World) :
    Calls Tryd.prog 75 #[.int .i64 n, .int .i64 a, .int .i64 b] w fun e w' => e = .returned (.bool (decide (a ≤ n) && decide (n ≤ b))) ∧ w = w' := by
  by_cases h : a ≤ n
  · have h1 : decide (a ≤ n) = true := by simpa using h
    go_enter Tryd.func75, Tryd.ntmps75
    go_wp2
    go_ret
    exact ⟨by simp [h], rfl⟩
  · have h1 : decide (a ≤ n) = false := by simpa using h
    go_enter Tryd.func75, Tryd.ntmps75
    go_wp2
    go_ret
    exact ⟨by simp, rfl⟩

set_option maxHeartbeats 400000 in
theorem specNatOK_any (A : Option Addr) (n c : Nat) (xs : List Int) (P : Nat → Prop) (w : World) (hr : Rd w P A n c xs) (hn : n ≤ 16777216) :
    Calls Tryd.prog 66 #[.slice A n c] w fun e w' => e = .returned (.bool (okL xs)) ∧ w = w' := by
  have hl := hr.len
  by_cases h40 : 4096 < n
  · have hok := okL_long (xs := xs) (by omega)
    rw [hok]
    clear hok hl
    go_enter Tryd.func66, Tryd.ntmps66
    go_wp2
    go_ret
    exact ⟨rfl, rfl⟩
  · have h40' : (n : Int) ≤ 4096 := by omega
    have HL := Lib.hid hl
    clear hl
    go_enter Tryd.func66, Tryd.ntmps66
    go_wp2
    go_loop [3] (fun i => ∃ k : Nat, k ≤ n ∧ i = .int .i64 k ∧ ∀ j, j < k → 0 ≤ xs.getD j 0 ∧ xs.getD j 0 < 10000) (fun i => n - (intOf i).toNat)
    case atStart => exact ⟨0, Nat.zero_le _, rfl, fun j hj => absurd hj (by omega)⟩
    case round =>
      obtain ⟨k, hk, rfl, hall⟩ := hrel
      by_cases hlt : k < n
      · obtain ⟨b, o, rfl, hP, _, hc⟩ := hr.at_ (by omega)
        have hcx := hc k hlt
        have HA := Lib.hid hall
        clear hall
        by_cases hbad : xs.getD k 0 < 0 ∨ 10000 ≤ xs.getD k 0
        · have hok := okL_bad (xs := xs) k (by have := HL.out; omega) hbad
          have HOK := Lib.hid hok
          clear hok hc hr
          generalize xs.getD k 0 = x at *
          have hd : (decide ((0 : Int) ≤ x) && decide (x ≤ 9999)) = false := by rw [Bool.and_eq_false_iff]; simp; omega
          clear hbad
          go_wp2_with (go_at_call 75; refine (l01In_any _ _ _ _).mono ?_; rintro e w' ⟨rfl, rfl⟩; rw [hd])
          go_ret
          exact ⟨ret_bool HOK.out.symm, rfl⟩
        · have HA' : Hid (∀ j, j < k + 1 → 0 ≤ xs.getD j 0 ∧ xs.getD j 0 < 10000) := by
            intro j hj
            by_cases hjk : j = k
            · subst hjk; omega
            · exact HA.out j (by omega)
          have hd : (decide ((0 : Int) ≤ xs.getD k 0) && decide (xs.getD k 0 ≤ 9999)) = true := by rw [Bool.and_eq_true]; exact ⟨decide_eq_true (by omega), decide_eq_true (by omega)⟩
          clear hbad HA hc hr
          generalize xs.getD k 0 = x at *
          go_wp2_with (go_at_call 75; refine (l01In_any _ _ _ _).mono ?_; rintro e w' ⟨rfl, rfl⟩; rw [hd])
          go_round
          case rel => exact ⟨k + 1, by omega, by go_num, HA'.out⟩
          case measure => simp [intOf]; omega
      · obtain rfl : k = n := by omega
        have HALL := Lib.hid hall
        clear hall
        by_cases h41 : k ≤ 40
        · have h41' : decide ((k : Int) ≤ 40) = true := by simp; omega
          by_cases h0 : k = 0
          · subst h0
            have hok := okL_good (xs := xs) (by have := HL.out; omega) (by rw [HL.out]; exact HALL.out) (.inl HL.out)
            have HOK := Lib.hid hok
            clear hok hr
            go_wp2
            go_ret
            exact ⟨ret_bool HOK.out.symm, rfl⟩
          · obtain ⟨b, o, rfl, hP, _, hc⟩ := hr.at_ (by omega)
            have hcl := hc (k - 1) (by omega)
            have h0' : ((k : Int) == 0) = false := by simp; omega
            have hd := HALL.out (k - 1) (by omega)
            have HOK : Hid (okL xs = decide (0 < xs.getD (k - 1) 0)) := by
              show okL xs = _
              by_cases hz : xs.getD (k - 1) 0 = 0
              · rw [okL_last (by have := HL.out; omega) (by rw [HL.out]; exact hz), hz]; rfl
              · rw [okL_good (by have := HL.out; omega) (by rw [HL.out]; exact HALL.out) (.inr (by rw [HL.out]; exact hz))]
                symm; simp only [decide_eq_true_eq]; omega
            clear hr hc
            generalize xs.getD (k - 1) 0 = x at *
            go_wp2
            go_ret
            exact ⟨ret_bool HOK.out.symm, rfl⟩
        · have h41' : decide ((k : Int) ≤ 40) = false := by simp; omega
          have HOK := Lib.hid (okL_long (xs := xs) (by have := HL.out; omega))
          clear hr
          go_wp2
          go_ret
          exact ⟨ret_bool HOK.out.symm, rfl⟩
end Go.Proofs.YtgeijojkfojfbaaDoor
