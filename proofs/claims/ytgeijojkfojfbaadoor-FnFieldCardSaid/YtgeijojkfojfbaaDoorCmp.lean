/-
  Orders: two naturals are held against each other.
-/
import Derived.Test.YtgeijojkfojfbaaDoorOk
namespace Go.Proofs.YtgeijojkfojfbaaDoor
open Go Go.RowKit Nt

set_option maxHeartbeats 400000 in
theorem compare_any (a b : Int) (w : World) : Calls Tryd.prog 72 #[.int .i64 a, .int .i64 b] w fun e w' => e = .returned (.int .i64 (cmpZ a b)) ∧ w = w' := by
  have ha : (a != a) = false := by simp
  have hb : (b != b) = false := by simp
  by_cases h1 : a < b
  · have HC : Hid (cmpZ a b = -1) := by show _ = _; unfold cmpZ; rw [if_pos h1]
    go_enter Tryd.func72, Tryd.ntmps72
    go_wp2
    go_ret
    exact ⟨ret_int HC.out.symm, rfl⟩
  · by_cases h2 : b < a
    · have HC : Hid (cmpZ a b = 1) := by show _ = _; unfold cmpZ; rw [if_neg h1, if_pos h2]
      go_enter Tryd.func72, Tryd.ntmps72
      go_wp2
      go_ret
      exact ⟨ret_int HC.out.symm, rfl⟩
    · have HC : Hid (cmpZ a b = 0) := by show _ = _; unfold cmpZ; rw [if_neg h1, if_neg h2]
      go_enter Tryd.func72, Tryd.ntmps72
      go_wp2
      go_ret
      exact ⟨ret_int HC.out.symm, rfl⟩

set_option maxHeartbeats 800000 in
theorem compareLimbs_any (A A' : Option Addr) (la c la' c' m n : Nat) (P P' : Nat → Prop) (w : World) (hr : Rd w P A la c (D m)) (hr' : Rd w P' A' la' c' (D n)) (hn : la ≤ 16777216) (hn' : la' ≤ 16777216) :
    Calls Tryd.prog 73 #[.slice A la c, .slice A' la' c'] w fun e w' => e = .returned (.int .i64 (cmpI m n)) ∧ Drawn w w' := by
  have hl := hr.len
  have hl' := hr'.len
  by_cases hne : la = la'
  · subst hne
    have hne' : ((la : Int) != (la : Int)) = false := by simp
    have HL : Hid ((D m).length = (D n).length) := by show _ = _; omega
    have HM := Lib.hid hl
    clear hl hl'
    go_enter Tryd.func73, Tryd.ntmps73
    go_wp2
    go_loopw [5] (fun i wr => ∃ k : Nat, k ≤ la ∧ i = .int .i64 ((k : Int) - 1) ∧ (∀ j, k ≤ j → j < (D m).length → (D m).getD j 0 = (D n).getD j 0) ∧ Drawn w wr) (fun i _ => (intOf i + 1).toNat)
    case atStart => exact ⟨la, Nat.le_refl _, rfl, fun j h1 h2 => absurd h2 (by have := HM.out; omega), Drawn.refl _⟩
    case round =>
      obtain ⟨k, hk, rfl, hall, hq⟩ := hrel
      have HQ := Lib.hid hq
      have HA := Lib.hid hall
      clear hall
      by_cases hlt : 0 < k
      · obtain ⟨k, rfl⟩ : ∃ j, k = j + 1 := ⟨k - 1, by omega⟩
        obtain ⟨b, o, rfl, hP, _, hc⟩ := hr.at_ (by omega)
        obtain ⟨b', o', rfl, hP', _, hc'⟩ := hr'.at_ (by omega)
        have hcx : wr.cell? ⟨b, o + k, none⟩ = some (.int .i64 ((D m).getD k 0)) := hq.cell (hc k (by omega))
        have hcy : wr.cell? ⟨b', o' + k, none⟩ = some (.int .i64 ((D n).getD k 0)) := hq.cell (hc' k (by omega))
        have ek : ((k + 1 : Nat) : Int) - 1 = (k : Int) := by omega
        rw [ek]
        have hlt' : (k : Int) < (la : Int) := by omega
        have hge : (0 : Int) ≤ (k : Int) := by omega
        by_cases hxy : (D m).getD k 0 = (D n).getD k 0
        · have HA' : Hid (∀ j, k ≤ j → j < (D m).length → (D m).getD j 0 = (D n).getD j 0) := by
            intro j h1 h2
            by_cases hjk : j = k
            · subst hjk; exact hxy
            · exact HA.out j (by omega) h2
          rw [← hxy] at hcy
          generalize (D m).getD k 0 = x at *
          have hxx : ((x : Int) != x) = false := by simp
          clear hc hc' hr hr' hP hP' HA hxy ek hq
          go_wp2
          go_quiet (fail)
          go_wp2
          go_roundw
          case rel => exact ⟨k, by omega, by go_num, HA'.out, HQ.out.more _⟩
          case measure => simp [intOf]
        · have HC := Lib.hid (D_cmp HL.out k (by have := HM.out; omega) (fun j h1 h2 => HA.out j (by omega) h2) hxy)
          have hxy' : ((D m).getD k 0 != (D n).getD k 0) = true := by simpa using hxy
          generalize (D m).getD k 0 = x at *
          generalize (D n).getD k 0 = y at *
          clear hc hc' hr hr' hP hP' HA hxy ek hq
          go_wp2
          go_quiet (fail)
          go_wp2
          go_quiet ((go_at_call 72; exact quiet_add_left (compare_any _ _ _)))
          go_wp2
          go_ret
          exact ⟨ret_int HC.out, (HQ.out.more _).more _⟩
      · obtain rfl : k = 0 := by omega
        have HC := Lib.hid (D_same HL.out (fun j h => HA.out j (by omega) h))
        clear hr hr' hq
        go_wp2
        go_ret
        exact ⟨ret_int HC.out.symm, HQ.out⟩
  · have HC := Lib.hid (cmp_len (m := m) (n := n) (by omega))
    have hne' : ((la : Int) != (la' : Int)) = true := by rw [bne_iff_ne]; omega
    have HL : Hid ((D m).length = la ∧ (D n).length = la') := ⟨hl, hl'⟩
    clear hr hr' hl hl' hne
    go_enter Tryd.func73, Tryd.ntmps73
    go_wp2_with (go_at_call 72; refine (compare_any _ _ _).mono ?_; rintro e w' ⟨rfl, rfl⟩)
    go_ret
    refine ⟨ret_int ?_, Drawn.refl _⟩
    rw [← HC.out, HL.out.1, HL.out.2]
theorem bitZ_bd (b : Bool) : 0 ≤ bitZ b ∧ bitZ b ≤ 1 := by cases b <;> simp [bitZ]
theorem l01Bit_any (b : Bool) (w : World) : Calls Tryd.prog 83 #[.bool b] w fun e w' => e = .returned (.int .i64 (bitZ b)) ∧ w = w' := by
  cases b
  · go_enter Tryd.func83, Tryd.ntmps83
    go_wp2
    go_ret
    exact ⟨rfl, rfl⟩
  · go_enter Tryd.func83, Tryd.ntmps83
    go_wp2
    go_ret
    exact ⟨rfl, rfl⟩

set_option maxHeartbeats 800000 in
theorem l01Cmp_any (A A' : Option Addr) (la c la' c' m n : Nat) (P P' : Nat → Prop) (w : World) (hr : Rd w P A la c (D m)) (hr' : Rd w P' A' la' c' (D n)) (hn : la ≤ 16777216) (hn' : la' ≤ 16777216) :
    Calls Tryd.prog 67 #[.slice A la c, .slice A' la' c'] w fun e w' => e = .returned (.int .i64 (cmpI m n)) ∧ Drawn w w' := by
  have hl := hr.len
  have hl' := hr'.len
  by_cases hne : la = la'
  · subst hne
    have hne' : ((la : Int) != (la : Int)) = false := by simp
    have HL : Hid ((D m).length = (D n).length) := by show _ = _; omega
    have HM := Lib.hid hl
    clear hl hl'
    go_enter Tryd.func67, Tryd.ntmps67
    go_wp2
    go_loopw [5] (fun i wr => ∃ k : Nat, k ≤ la ∧ i = .int .i64 ((k : Int) - 1) ∧ (∀ j, k ≤ j → j < (D m).length → (D m).getD j 0 = (D n).getD j 0) ∧ Drawn w wr) (fun i _ => (intOf i + 1).toNat)
    case atStart => exact ⟨la, Nat.le_refl _, rfl, fun j h1 h2 => absurd h2 (by have := HM.out; omega), Drawn.refl _⟩
    case round =>
      obtain ⟨k, hk, rfl, hall, hq⟩ := hrel
      have HQ := Lib.hid hq
      have HA := Lib.hid hall
      clear hall
      by_cases hlt : 0 < k
      · obtain ⟨k, rfl⟩ : ∃ j, k = j + 1 := ⟨k - 1, by omega⟩
        obtain ⟨b, o, rfl, hP, _, hc⟩ := hr.at_ (by omega)
        obtain ⟨b', o', rfl, hP', _, hc'⟩ := hr'.at_ (by omega)
        have hcx : wr.cell? ⟨b, o + k, none⟩ = some (.int .i64 ((D m).getD k 0)) := hq.cell (hc k (by omega))
        have hcy : wr.cell? ⟨b', o' + k, none⟩ = some (.int .i64 ((D n).getD k 0)) := hq.cell (hc' k (by omega))
        have ek : ((k + 1 : Nat) : Int) - 1 = (k : Int) := by omega
        rw [ek]
        have hlt' : (k : Int) < (la : Int) := by omega
        have hge : (0 : Int) ≤ (k : Int) := by omega
        by_cases hxy : (D m).getD k 0 = (D n).getD k 0
        · have HA' : Hid (∀ j, k ≤ j → j < (D m).length → (D m).getD j 0 = (D n).getD j 0) := by
            intro j h1 h2
            by_cases hjk : j = k
            · subst hjk; exact hxy
            · exact HA.out j (by omega) h2
          rw [← hxy] at hcy
          generalize (D m).getD k 0 = x at *
          have hxx : ((x : Int) != x) = false := by simp
          clear hc hc' hr hr' hP hP' HA hxy ek hq
          go_wp2
          go_quiet (fail)
          go_wp2
          go_roundw
          case rel => exact ⟨k, by omega, by go_num, HA'.out, HQ.out.more _⟩
          case measure => simp [intOf]
        · have HC := Lib.hid (D_cmp HL.out k (by have := HM.out; omega) (fun j h1 h2 => HA.out j (by omega) h2) hxy)
          have hxy' : ((D m).getD k 0 != (D n).getD k 0) = true := by simpa using hxy
          generalize (D m).getD k 0 = x at *
          generalize (D n).getD k 0 = y at *
          have HB := Lib.hid (bit_cmp x y hxy)
          have hb1 := bitZ_bd (decide (y < x))
          obtain ⟨hb1, hb2⟩ := hb1
          have hw1 : IntKind.i64.wrap (2 * bitZ (decide (y < x))) = 2 * bitZ (decide (y < x)) := IntWalk.i64_in _ (by omega)
          have hw2 : IntKind.i64.wrap (2 * bitZ (decide (y < x)) - 1) = 2 * bitZ (decide (y < x)) - 1 := IntWalk.i64_in _ (by omega)
          clear hc hc' hr hr' hP hP' HA hxy ek hq
          go_wp2
          go_quiet (fail)
          go_wp2
          go_quiet ((go_at_call 83; exact quiet_add_left (l01Bit_any _ _)))
          go_wp2
          go_ret
          exact ⟨ret_int (HB.out.trans HC.out), (HQ.out.more _).more _⟩
      · obtain rfl : k = 0 := by omega
        have HC := Lib.hid (D_same HL.out (fun j h => HA.out j (by omega) h))
        clear hr hr' hq
        go_wp2
        go_ret
        exact ⟨ret_int HC.out.symm, HQ.out⟩
  · have HC := Lib.hid (cmp_len (m := m) (n := n) (by omega))
    have hne' : ((la : Int) != (la' : Int)) = true := by rw [bne_iff_ne]; omega
    have HL : Hid ((D m).length = la ∧ (D n).length = la') := ⟨hl, hl'⟩
    have HN : Hid ((la : Int) ≠ la') := by show (la : Int) ≠ la'; omega
    clear hr hr' hl hl' hne
    go_enter Tryd.func67, Tryd.ntmps67
    go_wp2_with (go_at_call 83; refine (l01Bit_any _ _).mono ?_; rintro e w' ⟨rfl, rfl⟩; have hb1 := bitZ_bd (decide (la' < la)); obtain ⟨hb1, hb2⟩ := hb1)
    go_ret
    refine ⟨ret_int ?_, Drawn.refl _⟩
    rw [← HC.out, HL.out.1, HL.out.2, ← bit_cmp _ _ HN.out, show decide ((la' : Int) < (la : Int)) = decide (la' < la) from by simp]

theorem rangeAny_no {N : Nat} {p : Nat → Bool} (h : ∀ j, j < N → p j = false) : (List.range N).any p = false := by
  rw [List.any_eq_false]
  intro x hx
  rw [h x (List.mem_range.1 hx)]
  simp
theorem rangeAny_yes {N : Nat} {p : Nat → Bool} {k : Nat} (hk : k < N) (h : p k = true) : (List.range N).any p = true := List.any_eq_true.2 ⟨k, List.mem_range.2 hk, h⟩
end Go.Proofs.YtgeijojkfojfbaaDoor
