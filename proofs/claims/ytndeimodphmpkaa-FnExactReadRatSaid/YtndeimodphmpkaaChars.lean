/-
  Bytes: letters, digits, names.
-/
import Derived.Test.YtndeimodphmpkaaGrpA
namespace Nt
open Go
def digB (c : Int) : Bool := decide (48 ≤ c) && decide (c ≤ 57)
def letB (c : Int) : Bool := (decide (97 ≤ c) && decide (c ≤ 122)) || (decide (65 ≤ c) && decide (c ≤ 90)) || decide (c = 95)
/-- the byte of a text at a place, as a number -/
def byteAt (s : ByteArray) (k : Nat) : Int := ((s.data.toList.getD k 0).toNat : Int)
theorem byteAt_eq (s : ByteArray) (k : Nat) (h : k < s.size) : ((s[k]'h).toNat : Int) = byteAt s k := by
  have h' : k < s.data.toList.length := by simpa using h
  unfold byteAt
  rw [List.getD_eq_getElem?_getD, List.getElem?_eq_getElem h']
  rfl
theorem byteAt_bd (s : ByteArray) (k : Nat) : 0 ≤ byteAt s k ∧ byteAt s k < 256 := by
  have := (s.data.toList.getD k 0).toNat_lt
  unfold byteAt
  omega
def nameB (s : ByteArray) : Bool := decide (1 ≤ s.size) && decide (s.size ≤ 40) && letB (byteAt s 0) && (List.range s.size).all fun i => letB (byteAt s i) || digB (byteAt s i)
theorem letB_dig {c : Int} (h : digB c = true) : letB c = false := by
  unfold digB at h; simp only [Bool.and_eq_true, decide_eq_true_eq] at h
  unfold letB; simp only [Bool.or_eq_false_iff, Bool.and_eq_false_iff, decide_eq_false_iff_not]; omega
theorem nameB_short {s : ByteArray} (h : s.size < 1) : nameB s = false := by unfold nameB; simp; omega
theorem nameB_long {s : ByteArray} (h : 40 < s.size) : nameB s = false := by
  unfold nameB; simp only [Bool.and_eq_false_iff, decide_eq_false_iff_not]; left; left; right; omega
theorem nameB_first {s : ByteArray} (h : letB (byteAt s 0) = false) : nameB s = false := by unfold nameB; simp [h]
theorem nameB_bad {s : ByteArray} (i : Nat) (hi : i < s.size) (h1 : letB (byteAt s i) = false) (h2 : digB (byteAt s i) = false) : nameB s = false := by
  unfold nameB
  rw [Bool.and_eq_false_iff]; right
  rw [Bool.eq_false_iff]; intro hk
  rw [List.all_eq_true] at hk
  have := hk i (by simpa using hi)
  simp [h1, h2] at this
theorem nameB_good {s : ByteArray} (h1 : 1 ≤ s.size) (h2 : s.size ≤ 40) (h3 : letB (byteAt s 0) = true) (h4 : ∀ i, i < s.size → (letB (byteAt s i) || digB (byteAt s i)) = true) : nameB s = true := by
  unfold nameB
  simp only [Bool.and_eq_true, decide_eq_true_eq, List.all_eq_true]
  exact ⟨⟨⟨h1, h2⟩, h3⟩, fun i hi => h4 i (by simpa using hi)⟩
end Nt
namespace Go.Proofs.Ytndeimodphmpkaa
open Go Go.RowKit Nt

theorem let_cases (c : Int) : (97 ≤ c ∧ c ≤ 122) ∨ (122 < c) ∨ (65 ≤ c ∧ c ≤ 90) ∨ (90 < c ∧ c < 95) ∨ c = 95 ∨ (95 < c ∧ c < 97) ∨ c < 65 := by omega
set_option maxHeartbeats 400000 in
set_option linter.unusedSimpArgs false in
theorem isDigit_any (c : Int) (w : World) : Calls Try.prog 75 #[.int .u8 c] w fun e w' => e = .returned (.bool (digB c)) ∧ w = w' := by
  unfold digB
  by_cases h : 48 ≤ c
  · have h1 : decide ((48 : Int) ≤ c) = true := by simpa using h
    go_enter Try.func75, Try.ntmps75
    go_wp2
    go_ret
    exact ⟨by simp [h], rfl⟩
  · have h1 : decide ((48 : Int) ≤ c) = false := by simpa using h
    go_enter Try.func75, Try.ntmps75
    go_wp2
    go_ret
    exact ⟨by simp [h], rfl⟩
set_option maxHeartbeats 400000 in
set_option linter.unusedSimpArgs false in
theorem l00Digit_any (c : Int) (w : World) : Calls Try.prog 114 #[.int .u8 c] w fun e w' => e = .returned (.bool (digB c)) ∧ w = w' := by
  unfold digB
  by_cases h : 48 ≤ c
  · have h1 : decide ((48 : Int) ≤ c) = true := by simpa using h
    go_enter Try.func114, Try.ntmps114
    go_wp2
    go_ret
    exact ⟨by simp [h], rfl⟩
  · have h1 : decide ((48 : Int) ≤ c) = false := by simpa using h
    go_enter Try.func114, Try.ntmps114
    go_wp2
    go_ret
    exact ⟨by simp [h], rfl⟩
theorem letB_yes (c : Int) (h : (97 ≤ c ∧ c ≤ 122) ∨ (65 ≤ c ∧ c ≤ 90) ∨ c = 95) : letB c = true := by
  unfold letB; simp only [Bool.or_eq_true, Bool.and_eq_true, decide_eq_true_eq]; omega
theorem letB_no (c : Int) (h : ¬ ((97 ≤ c ∧ c ≤ 122) ∨ (65 ≤ c ∧ c ≤ 90) ∨ c = 95)) : letB c = false := by
  rw [Bool.eq_false_iff]; unfold letB; simp only [ne_eq, Bool.or_eq_true, Bool.and_eq_true, decide_eq_true_eq]; omega
end Go.Proofs.Ytndeimodphmpkaa
