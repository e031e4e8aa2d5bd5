/-
  What digits write: limbs out of a text.
-/
import Derived.Test.YtndeimodphmpkaaChars
import Derived.Test.YtndeimodphmpkaaGrpB
namespace Nt
open Go Go.RowKit
/-- the number that k digits from lo on write -/
def ch (s : ByteArray) (lo : Nat) : Nat → Int
  | 0 => 0
  | k + 1 => ch s lo k * 10 + (byteAt s (lo + k) - 48)
theorem ch_bd {s : ByteArray} {lo : Nat} : ∀ k, (∀ j, j < k → digB (byteAt s (lo + j)) = true) → 0 ≤ ch s lo k ∧ ch s lo k < 10 ^ k
  | 0, _ => by simp [ch]
  | k + 1, h => by
    have h1 := ch_bd k (fun j hj => h j (by omega))
    have h2 := h k (by omega)
    simp only [digB, Bool.and_eq_true, decide_eq_true_eq] at h2
    rw [ch, Int.pow_succ]
    omega
theorem ch_small {s : ByteArray} {lo k : Nat} (hk : k ≤ 4) (h : ∀ j, j < k → digB (byteAt s (lo + j)) = true) : 0 ≤ ch s lo k ∧ ch s lo k < 10000 := by
  have h1 := ch_bd k h
  have h2 : (10 : Int) ^ k ≤ 10000 := by
    rcases (show k = 0 ∨ k = 1 ∨ k = 2 ∨ k = 3 ∨ k = 4 by omega) with rfl | rfl | rfl | rfl | rfl <;> decide
  omega
/-- the limbs that the text's last digits write -/
def rl (s : ByteArray) (L : Nat) : Nat → List Int
  | 0 => []
  | p + 1 => rl s L p ++ [ch s (L - 4 * (p + 1)) (L - 4 * p - (L - 4 * (p + 1)))]
theorem rl_len (s : ByteArray) (L : Nat) : ∀ p, (rl s L p).length = p
  | 0 => rfl
  | p + 1 => by rw [rl, List.length_append, rl_len s L p]; rfl
theorem rl_limbs {s : ByteArray} {L : Nat} : ∀ p, (∀ i, L - 4 * p ≤ i → i < L → digB (byteAt s i) = true) → Limbs (rl s L p)
  | 0, _ => limbs_nil
  | p + 1, h => by
    rw [rl]
    refine limbs_append.2 ⟨rl_limbs p fun i h1 h2 => h i (by omega) h2, limbs_cons.2 ⟨ch_small (by omega) fun j hj => h _ (by omega) (by omega), limbs_nil⟩⟩
def allD (s : ByteArray) : Bool := (List.range s.size).all fun i => digB (byteAt s i)
theorem allD_bad {s : ByteArray} (i : Nat) (hi : i < s.size) (h : digB (byteAt s i) = false) : allD s = false := by
  unfold allD
  rw [Bool.eq_false_iff]; intro hk
  rw [List.all_eq_true] at hk
  have := hk i (by simpa using hi)
  rw [h] at this; cases this
theorem allD_good {s : ByteArray} (h : ∀ i, i < s.size → digB (byteAt s i) = true) : allD s = true := by
  unfold allD
  rw [List.all_eq_true]
  exact fun i hi => h i (by simpa using hi)
/-- a text that is no natural ahead of its digits -/
def badT (s : ByteArray) : Prop := s.size = 0 ∨ 160 < s.size ∨ (byteAt s 0 = 48 ∧ 1 < s.size)
instance (s : ByteArray) : Decidable (badT s) := by unfold badT; exact inferInstance
def readN (s : ByteArray) : Nat := natOf (rl s s.size ((s.size + 3) / 4))
def readL (s : ByteArray) : List Int := if 65536 < s.size then [] else if badT s then [] else if allD s = true then D (readN s) else []
def readC (s : ByteArray) : Int := if 65536 < s.size then 2 else if badT s then 3 else if allD s = true then 0 else 3
theorem read_long {s : ByteArray} (h : 65536 < s.size) : readL s = [] ∧ readC s = 2 := by unfold readL readC; rw [if_pos h, if_pos h]; exact ⟨rfl, rfl⟩
theorem read_bad {s : ByteArray} (h : ¬ 65536 < s.size) (hb : badT s) : readL s = [] ∧ readC s = 3 := by unfold readL readC; rw [if_neg h, if_neg h, if_pos hb, if_pos hb]; exact ⟨rfl, rfl⟩
theorem read_form {s : ByteArray} (h : ¬ 65536 < s.size) (ha : allD s = false) : readL s = [] ∧ readC s = 3 := by
  unfold readL readC; rw [if_neg h, if_neg h, ha]; split <;> exact ⟨rfl, rfl⟩
theorem read_good {s : ByteArray} (h : ¬ 65536 < s.size) (hb : ¬ badT s) (ha : allD s = true) : readL s = D (readN s) ∧ readC s = 0 := by
  unfold readL readC; rw [if_neg h, if_neg h, if_neg hb, if_neg hb, if_pos ha, if_pos ha]; exact ⟨rfl, rfl⟩
theorem readN_lt {s : ByteArray} (h : s.size ≤ 160) (ha : ∀ i, i < s.size → digB (byteAt s i) = true) : (D (readN s)).length ≤ 40 := by
  unfold readN
  have h1 : Limbs (rl s s.size ((s.size + 3) / 4)) := rl_limbs _ fun i _ hi => ha i hi
  have := trim_len_le h1
  rw [rl_len] at this
  omega
/-- a natural has a place for the next digit: rl p, the digits so far, noughts -/
theorem set_digit (out : List Int) (p m : Nat) (x y : Int) (hp : out.length = p) : (out ++ [x] ++ zeros m).set p y = out ++ [y] ++ zeros m := by
  subst hp; simp
theorem get_digit (out : List Int) (p m : Nat) (x : Int) (hp : out.length = p) : (out ++ [x] ++ zeros m).getD p 0 = x := by
  subst hp; simp [List.getD]
theorem open_digit (out : List Int) (m : Nat) (hm : 0 < m) : out ++ zeros m = out ++ [0] ++ zeros (m - 1) := by
  obtain ⟨k, rfl⟩ : ∃ k, m = k + 1 := ⟨m - 1, by omega⟩
  simp [zeros, List.replicate_succ]
end Nt
