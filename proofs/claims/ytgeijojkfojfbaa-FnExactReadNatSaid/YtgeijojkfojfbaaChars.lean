/-
  Bytes: letters, digits, names.
-/
import Derived.Test.YtgeijojkfojfbaaBase
namespace Nt
open Go
def digB (c : Int) : Bool := decide (48 ≤ c) && decide (c ≤ 57)
def letB (c : Int) : Bool := (decide (97 ≤ c) && decide (c ≤ 122)) || (decide (65 ≤ c) && decide (c ≤ 90)) || decide (c = 95)
/-- the byte of a text at a place, as a number -/
def byteAt (s : ByteArray) (k : Nat) : Int := ((s.data.toList.getD k 0).toNat : Int)
theorem byteAt_eq (s : ByteArray) (k : Nat) (h : k < s.size) : ((s[k]'h).toNat : Int) = byteAt s k := by
  have h' : k < s.data.toList.length := by simpa using h
  unfold byteAt
  rw [List.getD_eq_getElem?_getD, List.getElem?_eq_getElem h']
  rfl
theorem byteAt_bd (s : ByteArray) (k : Nat) : 0 ≤ byteAt s k ∧ byteAt s k < 256 := by
  have := (s.data.toList.getD k 0).toNat_lt
  unfold byteAt
  omega
def nameB (s : ByteArray) : Bool := decide (1 ≤ s.size) && decide (s.size ≤ 40) && letB (byteAt s 0) && (List.range s.size).all fun i => letB (byteAt s i) || digB (byteAt s i)
theorem letB_dig {c : Int} (h : digB c = true) : letB c = false := by
  unfold digB at h; simp only [Bool.and_eq_true, decide_eq_true_eq] at h
  unfold letB; simp only [Bool.or_eq_false_iff, Bool.and_eq_false_iff, decide_eq_false_iff_not]; omega
theorem nameB_short {s : ByteArray} (h : s.size < 1) : nameB s = false := by unfold nameB; simp; omega
theorem nameB_long {s : ByteArray} (h : 40 < s.size) : nameB s = false := by
  unfold nameB; simp only [Bool.and_eq_false_iff, decide_eq_false_iff_not]; left; left; right; omega
theorem nameB_first {s : ByteArray} (h : letB (byteAt s 0) = false) : nameB s = false := by unfold nameB; simp [h]
theorem nameB_bad {s : ByteArray} (i : Nat) (hi : i < s.size) (h1 : letB (byteAt s i) = false) (h2 : digB (byteAt s i) = false) : nameB s = false := by
  unfold nameB
  rw [Bool.and_eq_false_iff]; right
  rw [Bool.eq_false_iff]; intro hk
  rw [List.all_eq_true] at hk
  have := hk i (by simpa using hi)
  simp [h1, h2] at this
theorem nameB_good {s : ByteArray} (h1 : 1 ≤ s.size) (h2 : s.size ≤ 40) (h3 : letB (byteAt s 0) = true) (h4 : ∀ i, i < s.size → (letB (byteAt s i) || digB (byteAt s i)) = true) : nameB s = true := by
  unfold nameB
  simp only [Bool.and_eq_true, decide_eq_true_eq, List.all_eq_true]
  exact ⟨⟨⟨h1, h2⟩, h3⟩, fun i hi => h4 i (by simpa using hi)⟩
end Nt
namespace Go.Proofs.Ytgeijojkfojfbaa
open Go Go.RowKit Nt

theorem let_cases (c : Int) : (97 ≤ c ∧ c ≤ 122) ∨ (122 < c) ∨ (65 ≤ c ∧ c ≤ 90) ∨ (90 < c ∧ c < 95) ∨ c = 95 ∨ (95 < c ∧ c < 97) ∨ c < 65 := by omega
set_option maxHeartbeats 400000 in
theorem isDigit_any (c : Int) (w : World) : Calls Try.prog 104 #[.int .u8 c] w fun e w' => e = .returned (.bool (digB c)) ∧ w = w' := by
  unfold digB
  by_cases h : 48 ≤ c
  · have h1 : decide ((48 : Int) ≤ c) = true := by simpa using h
    go_enter Try.func104, Try.ntmps104
    go_wp2
    go_ret
    exact ⟨by simp [h], rfl⟩
  · have h1 : decide ((48 : Int) ≤ c) = false := by simpa using h
    go_enter Try.func104, Try.ntmps104
    go_wp2
    go_ret
    exact ⟨by simp [h], rfl⟩
set_option maxHeartbeats 400000 in
theorem l00Digit_any (c : Int) (w : World) : Calls Try.prog 152 #[.int .u8 c] w fun e w' => e = .returned (.bool (digB c)) ∧ w = w' := by
  unfold digB
  by_cases h : 48 ≤ c
  · have h1 : decide ((48 : Int) ≤ c) = true := by simpa using h
    go_enter Try.func152, Try.ntmps152
    go_wp2
    go_ret
    exact ⟨by simp [h], rfl⟩
  · have h1 : decide ((48 : Int) ≤ c) = false := by simpa using h
    go_enter Try.func152, Try.ntmps152
    go_wp2
    go_ret
    exact ⟨by simp [h], rfl⟩
theorem letB_yes (c : Int) (h : (97 ≤ c ∧ c ≤ 122) ∨ (65 ≤ c ∧ c ≤ 90) ∨ c = 95) : letB c = true := by
  unfold letB; simp only [Bool.or_eq_true, Bool.and_eq_true, decide_eq_true_eq]; omega
theorem letB_no (c : Int) (h : ¬ ((97 ≤ c ∧ c ≤ 122) ∨ (65 ≤ c ∧ c ≤ 90) ∨ c = 95)) : letB c = false := by
  rw [Bool.eq_false_iff]; unfold letB; simp only [ne_eq, Bool.or_eq_true, Bool.and_eq_true, decide_eq_true_eq]; omega
set_option maxHeartbeats 800000 in
theorem isLetter_any (c : Int) (w : World) : Calls Try.prog 105 #[.int .u8 c] w fun e w' => e = .returned (.bool (letB c)) ∧ w = w' := by
  rcases let_cases c with h | h | h | h | h | h | h
  · have HL := Lib.hid (letB_yes c (by omega))
    go_enter Try.func105, Try.ntmps105
    go_wp2
    go_ret
    exact ⟨ret_bool HL.out.symm, rfl⟩
  · have HL := Lib.hid (letB_no c (by omega))
    have h95 : (c == 95) = false := by simp; omega
    go_enter Try.func105, Try.ntmps105
    go_wp2
    go_ret
    exact ⟨ret_bool (by first | exact HL.out.symm | (rw [HL.out]; simp <;> omega)), rfl⟩
  · have HL := Lib.hid (letB_yes c (by omega))
    go_enter Try.func105, Try.ntmps105
    go_wp2
    go_ret
    exact ⟨ret_bool HL.out.symm, rfl⟩
  · have HL := Lib.hid (letB_no c (by omega))
    have h95 : (c == 95) = false := by simp; omega
    go_enter Try.func105, Try.ntmps105
    go_wp2
    go_ret
    exact ⟨ret_bool (by first | exact HL.out.symm | (rw [HL.out]; simp <;> omega)), rfl⟩
  · subst h
    go_enter Try.func105, Try.ntmps105
    go_wp2
    go_ret
    exact ⟨rfl, rfl⟩
  · have HL := Lib.hid (letB_no c (by omega))
    have h95 : (c == 95) = false := by simp; omega
    go_enter Try.func105, Try.ntmps105
    go_wp2
    go_ret
    exact ⟨ret_bool (by first | exact HL.out.symm | (rw [HL.out]; simp <;> omega)), rfl⟩
  · have HL := Lib.hid (letB_no c (by omega))
    have h95 : (c == 95) = false := by simp; omega
    go_enter Try.func105, Try.ntmps105
    go_wp2
    go_ret
    exact ⟨ret_bool (by first | exact HL.out.symm | (rw [HL.out]; simp <;> omega)), rfl⟩
set_option maxHeartbeats 800000 in
theorem l00Letter_any (c : Int) (w : World) : Calls Try.prog 151 #[.int .u8 c] w fun e w' => e = .returned (.bool (letB c)) ∧ w = w' := by
  rcases let_cases c with h | h | h | h | h | h | h
  · have HL := Lib.hid (letB_yes c (by omega))
    go_enter Try.func151, Try.ntmps151
    go_wp2
    go_ret
    exact ⟨ret_bool HL.out.symm, rfl⟩
  · have HL := Lib.hid (letB_no c (by omega))
    have h95 : (c == 95) = false := by simp; omega
    go_enter Try.func151, Try.ntmps151
    go_wp2
    go_ret
    exact ⟨ret_bool (by first | exact HL.out.symm | (rw [HL.out]; simp <;> omega)), rfl⟩
  · have HL := Lib.hid (letB_yes c (by omega))
    go_enter Try.func151, Try.ntmps151
    go_wp2
    go_ret
    exact ⟨ret_bool HL.out.symm, rfl⟩
  · have HL := Lib.hid (letB_no c (by omega))
    have h95 : (c == 95) = false := by simp; omega
    go_enter Try.func151, Try.ntmps151
    go_wp2
    go_ret
    exact ⟨ret_bool (by first | exact HL.out.symm | (rw [HL.out]; simp <;> omega)), rfl⟩
  · subst h
    go_enter Try.func151, Try.ntmps151
    go_wp2
    go_ret
    exact ⟨rfl, rfl⟩
  · have HL := Lib.hid (letB_no c (by omega))
    have h95 : (c == 95) = false := by simp; omega
    go_enter Try.func151, Try.ntmps151
    go_wp2
    go_ret
    exact ⟨ret_bool (by first | exact HL.out.symm | (rw [HL.out]; simp <;> omega)), rfl⟩
  · have HL := Lib.hid (letB_no c (by omega))
    have h95 : (c == 95) = false := by simp; omega
    go_enter Try.func151, Try.ntmps151
    go_wp2
    go_ret
    exact ⟨ret_bool (by first | exact HL.out.symm | (rw [HL.out]; simp <;> omega)), rfl⟩

set_option maxHeartbeats 800000 in
theorem implNameOK_any (s : ByteArray) (w : World) (hs : s.size ≤ 16777216) :
    Calls Try.prog 52 #[.string s] w fun e w' => e = .returned (.bool (nameB s)) ∧ w = w' := by
  by_cases h1 : s.size < 1
  · have HN := Lib.hid (nameB_short h1)
    have h1' : decide ((s.size : Int) < 1) = true := by simp; omega
    go_enter Try.func52, Try.ntmps52
    go_wp2
    go_ret
    exact ⟨ret_bool HN.out.symm, rfl⟩
  by_cases h2 : 40 < s.size
  · have HN := Lib.hid (nameB_long h2)
    have h1' : decide ((s.size : Int) < 1) = false := by simp; omega
    have h2' : decide ((40 : Int) < s.size) = true := by simp; omega
    go_enter Try.func52, Try.ntmps52
    go_wp2
    go_ret
    exact ⟨ret_bool HN.out.symm, rfl⟩
  have h1' : decide ((s.size : Int) < 1) = false := by simp; omega
  have h2' : decide ((40 : Int) < s.size) = false := by simp; omega
  have h0 : 0 < s.size := by omega
  have hb0 := byteAt_eq s 0 h0
  by_cases h3 : digB (byteAt s 0) = true
  · have HN := Lib.hid (nameB_first (letB_dig h3))
    rw [← hb0] at h3
    clear hb0
    go_enter Try.func52, Try.ntmps52
    go_wp2_with (go_at_call 104; refine (isDigit_any _ _).mono ?_; rintro e w' ⟨rfl, rfl⟩; rw [h3])
    go_ret
    exact ⟨ret_bool HN.out.symm, rfl⟩
  have h3' : digB (byteAt s 0) = false := by simpa using h3
  rw [← hb0] at h3'
  have HB0 := Lib.hid hb0
  have H3 := Lib.hid h3
  clear hb0 h3
  go_enter Try.func52, Try.ntmps52
  go_wp2_with (go_at_call 104; refine (isDigit_any _ _).mono ?_; rintro e w' ⟨rfl, rfl⟩; rw [h3'])
  go_loop [19] (fun i => ∃ k : Nat, k ≤ s.size ∧ i = .int .i64 k ∧ ∀ j, j < k → (letB (byteAt s j) || digB (byteAt s j)) = true) (fun i => s.size - (intOf i).toNat)
  case atStart => exact ⟨0, Nat.zero_le _, rfl, fun j hj => absurd hj (by omega)⟩
  case round =>
    obtain ⟨k, hk, rfl, hall⟩ := hrel
    have HA := Lib.hid hall
    clear hall
    by_cases hlt : k < s.size
    · have hbk := byteAt_eq s k hlt
      by_cases hl : letB (byteAt s k) = true
      · have HA' : Hid (∀ j, j < k + 1 → (letB (byteAt s j) || digB (byteAt s j)) = true) := by
          intro j hj
          by_cases hjk : j = k
          · subst hjk; rw [hl]; rfl
          · exact HA.out j (by omega)
        rw [← hbk] at hl
        clear hbk HA
        go_wp2_with (first | (go_at_call 105; refine (isLetter_any _ _).mono ?_; rintro e w' ⟨rfl, rfl⟩; rw [hl]))
        go_round
        case rel => exact ⟨k + 1, by omega, by go_num, HA'.out⟩
        case measure => simp [intOf]; omega
      · have hl' : letB (byteAt s k) = false := by simpa using hl
        clear hl
        by_cases hd : digB (byteAt s k) = true
        · have HA' : Hid (∀ j, j < k + 1 → (letB (byteAt s j) || digB (byteAt s j)) = true) := by
            intro j hj
            by_cases hjk : j = k
            · subst hjk; rw [hd]; simp
            · exact HA.out j (by omega)
          rw [← hbk] at hl' hd
          clear hbk HA
          go_wp2_with (first | (go_at_call 105; refine (isLetter_any _ _).mono ?_; rintro e w' ⟨rfl, rfl⟩; rw [hl']) | (go_at_call 104; refine (isDigit_any _ _).mono ?_; rintro e w' ⟨rfl, rfl⟩; rw [hd]))
          go_round
          case rel => exact ⟨k + 1, by omega, by go_num, HA'.out⟩
          case measure => simp [intOf]; omega
        · have hd' : digB (byteAt s k) = false := by simpa using hd
          have HN := Lib.hid (nameB_bad k hlt hl' hd')
          rw [← hbk] at hl' hd'
          clear hbk HA hd
          go_wp2_with (first | (go_at_call 105; refine (isLetter_any _ _).mono ?_; rintro e w' ⟨rfl, rfl⟩; rw [hl']) | (go_at_call 104; refine (isDigit_any _ _).mono ?_; rintro e w' ⟨rfl, rfl⟩; rw [hd']))
          go_ret
          exact ⟨ret_bool HN.out.symm, rfl⟩
    · have hL0 : letB (byteAt s 0) = true := by
        have := HA.out 0 (by omega)
        rw [Bool.or_eq_true] at this
        rcases this with h | h
        · exact h
        · exact absurd h H3.out
      have HN := Lib.hid (nameB_good (by omega) (by omega) hL0 (fun i hi => HA.out i (by omega)))
      clear hL0
      go_wp2
      go_ret
      exact ⟨ret_bool HN.out.symm, rfl⟩

set_option maxHeartbeats 800000 in
theorem l00Word_any (s : ByteArray) (w : World) (hs : s.size ≤ 16777216) :
    Calls Try.prog 103 #[.string s] w fun e w' => e = .returned (.bool (nameB s)) ∧ w = w' := by
  by_cases h1 : s.size < 1
  · have HN := Lib.hid (nameB_short h1)
    have h1' : decide ((s.size : Int) < 1) = true := by simp; omega
    go_enter Try.func103, Try.ntmps103
    go_wp2
    go_ret
    exact ⟨ret_bool HN.out.symm, rfl⟩
  by_cases h2 : 40 < s.size
  · have HN := Lib.hid (nameB_long h2)
    have h1' : decide ((s.size : Int) < 1) = false := by simp; omega
    have h2' : decide ((40 : Int) < s.size) = true := by simp; omega
    go_enter Try.func103, Try.ntmps103
    go_wp2
    go_ret
    exact ⟨ret_bool HN.out.symm, rfl⟩
  have h1' : decide ((s.size : Int) < 1) = false := by simp; omega
  have h2' : decide ((40 : Int) < s.size) = false := by simp; omega
  have h0 : 0 < s.size := by omega
  have hb0 := byteAt_eq s 0 h0
  by_cases h3 : letB (byteAt s 0) = true
  · have h3' := h3
    have H3 := Lib.hid h3
    rw [← hb0] at h3'
    clear hb0 h3
    go_enter Try.func103, Try.ntmps103
    go_wp2_with (go_at_call 151; refine (l00Letter_any _ _).mono ?_; rintro e w' ⟨rfl, rfl⟩; rw [h3'])
    go_loop [3] (fun i => ∃ k : Nat, 1 ≤ k ∧ k ≤ s.size ∧ i = .int .i64 k ∧ ∀ j, j < k → (letB (byteAt s j) || digB (byteAt s j)) = true) (fun i => s.size - (intOf i).toNat)
    case atStart =>
      refine ⟨1, Nat.le_refl _, by omega, rfl, fun j hj => ?_⟩
      obtain rfl : j = 0 := by omega
      rw [H3.out]; rfl
    case round =>
      obtain ⟨k, hk1, hk, rfl, hall⟩ := hrel
      have HA := Lib.hid hall
      clear hall
      by_cases hlt : k < s.size
      · have hbk := byteAt_eq s k hlt
        by_cases hl : letB (byteAt s k) = true
        · have HA' : Hid (∀ j, j < k + 1 → (letB (byteAt s j) || digB (byteAt s j)) = true) := by
            intro j hj
            by_cases hjk : j = k
            · subst hjk; rw [hl]; rfl
            · exact HA.out j (by omega)
          rw [← hbk] at hl
          clear hbk HA
          go_wp2_with (first | (go_at_call 151; refine (l00Letter_any _ _).mono ?_; rintro e w' ⟨rfl, rfl⟩; rw [hl]))
          go_round
          case rel => exact ⟨k + 1, by omega, by omega, by go_num, HA'.out⟩
          case measure => simp [intOf]; omega
        · have hl' : letB (byteAt s k) = false := by simpa using hl
          clear hl
          by_cases hd : digB (byteAt s k) = true
          · have HA' : Hid (∀ j, j < k + 1 → (letB (byteAt s j) || digB (byteAt s j)) = true) := by
              intro j hj
              by_cases hjk : j = k
              · subst hjk; rw [hd]; simp
              · exact HA.out j (by omega)
            rw [← hbk] at hl' hd
            clear hbk HA
            go_wp2_with (first | (go_at_call 151; refine (l00Letter_any _ _).mono ?_; rintro e w' ⟨rfl, rfl⟩; rw [hl']) | (go_at_call 152; refine (l00Digit_any _ _).mono ?_; rintro e w' ⟨rfl, rfl⟩; rw [hd]))
            go_round
            case rel => exact ⟨k + 1, by omega, by omega, by go_num, HA'.out⟩
            case measure => simp [intOf]; omega
          · have hd' : digB (byteAt s k) = false := by simpa using hd
            have HN := Lib.hid (nameB_bad k hlt hl' hd')
            rw [← hbk] at hl' hd'
            clear hbk HA hd
            go_wp2_with (first | (go_at_call 151; refine (l00Letter_any _ _).mono ?_; rintro e w' ⟨rfl, rfl⟩; rw [hl']) | (go_at_call 152; refine (l00Digit_any _ _).mono ?_; rintro e w' ⟨rfl, rfl⟩; rw [hd']))
            go_ret
            exact ⟨ret_bool HN.out.symm, rfl⟩
      · have HN := Lib.hid (nameB_good (by omega) (by omega) H3.out (fun i hi => HA.out i (by omega)))
        go_wp2
        go_ret
        exact ⟨ret_bool HN.out.symm, rfl⟩
  · have h3' : letB (byteAt s 0) = false := by simpa using h3
    have HN := Lib.hid (nameB_first h3')
    rw [← hb0] at h3'
    clear hb0 h3
    go_enter Try.func103, Try.ntmps103
    go_wp2_with (go_at_call 151; refine (l00Letter_any _ _).mono ?_; rintro e w' ⟨rfl, rfl⟩; rw [h3'])
    go_ret
    exact ⟨ret_bool HN.out.symm, rfl⟩

theorem specNameOK_any (s : ByteArray) (w : World) (hs : s.size ≤ 16777216) :
    Calls Try.prog 51 #[.string s] w fun e w' => e = .returned (.bool (nameB s)) ∧ w = w' := by
  go_enter Try.func51, Try.ntmps51
  go_wp2_with fail
  refine (l00Word_any s _ hs).mono ?_
  rintro e w' ⟨rfl, rfl⟩
  go_wp2
  go_ret
  exact ⟨rfl, rfl⟩
end Go.Proofs.Ytgeijojkfojfbaa
