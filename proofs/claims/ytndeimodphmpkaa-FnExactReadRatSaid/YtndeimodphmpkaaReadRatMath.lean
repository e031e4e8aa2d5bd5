/-
  What a text says as a rational: its sign, what is ahead of the stroke, and what is behind it.
-/
import Derived.Test.YtndeimodphmpkaaSpecRead
import Derived.Test.YtndeimodphmpkaaGrpC
import Derived.Lib.Strings
import Derived.Lib.IndexMore
import Derived.Lib.IndexBytes
namespace Nt
open Go Go.RowKit
/-- the parts of a text between strokes -/
def segs : List UInt8 → List (List UInt8)
  | [] => [[]]
  | c :: l => if c = 47 then [] :: segs l else match segs l with
    | [] => [[c]]
    | x :: r => (c :: x) :: r
theorem segs_ne : ∀ l, segs l ≠ []
  | [] => by simp [segs]
  | c :: l => by
    unfold segs
    by_cases h : c = 47
    · rw [if_pos h]; simp
    · rw [if_neg h]
      split <;> simp
theorem segs_none : ∀ l : List UInt8, (∀ j, j < l.length → l.getD j 0 ≠ 47) → segs l = [l]
  | [], _ => rfl
  | c :: l, h => by
    have h0 : c ≠ 47 := h 0 (by simp)
    have ih := segs_none l fun j hj => h (j + 1) (by simpa using hj)
    unfold segs
    rw [if_neg h0, ih]
theorem segs_cut : ∀ (l : List UInt8) (m : Nat), (∀ j, j < m → l.getD j 0 ≠ 47) → m < l.length → l.getD m 0 = 47 → segs l = l.take m :: segs (l.drop (m + 1))
  | [], m, _, h, _ => by simp at h
  | c :: l, 0, _, _, h => by
    have h0 : c = 47 := h
    rw [segs, if_pos h0]
    simp
  | c :: l, m + 1, h, hl, hm => by
    have h0 : c ≠ 47 := h 0 (by omega)
    have ih := segs_cut l m (fun j hj => h (j + 1) (by omega)) (by simpa using hl) hm
    rw [segs, if_neg h0, ih]
    rfl
/-- the first stroke, or that there is none -/
theorem stroke (l : List UInt8) : (∀ j, j < l.length → l.getD j 0 ≠ 47) ∨ ∃ m, (∀ j, j < m → l.getD j 0 ≠ 47) ∧ m < l.length ∧ l.getD m 0 = 47 := by
  induction l with
  | nil => exact .inl fun j hj => by simp at hj
  | cons c l ih =>
    by_cases h0 : c = 47
    · exact .inr ⟨0, fun j hj => by omega, by simp, h0⟩
    · rcases ih with h | ⟨m, h1, h2, h3⟩
      · refine .inl fun j hj => ?_
        cases j with
        | zero => exact h0
        | succ j => exact h j (by simpa using hj)
      · refine .inr ⟨m + 1, fun j hj => ?_, by simpa using h2, h3⟩
        cases j with
        | zero => exact h0
        | succ j => exact h1 j (by omega)
theorem indexByte_none : ∀ l : List UInt8, (∀ j, j < l.length → l.getD j 0 ≠ 47) → Lib.indexByte l 47 = -1
  | [], _ => rfl
  | c :: l, h => by
    have h0 : c ≠ 47 := h 0 (by simp)
    have ih := indexByte_none l fun j hj => h (j + 1) (by simpa using hj)
    unfold Lib.indexByte
    rw [ih]
    simp [h0]
theorem indexByte_some : ∀ (l : List UInt8) (m : Nat), (∀ j, j < m → l.getD j 0 ≠ 47) → m < l.length → l.getD m 0 = 47 → Lib.indexByte l 47 = m
  | [], m, _, h, _ => by simp at h
  | c :: l, 0, _, _, h => by
    have h0 : c = 47 := h
    unfold Lib.indexByte
    simp [h0]
  | c :: l, m + 1, h, hl, hm => by
    have h0 : c ≠ 47 := h 0 (by omega)
    have ih := indexByte_some l m (fun j hj => h (j + 1) (by omega)) (by simpa using hl) hm
    unfold Lib.indexByte
    rw [ih]
    have : ((m : Int) == -1) = false := beq_eq_false_iff_ne.2 (by omega)
    simp [h0, this]
/-- strings.Cut at the stroke -/
theorem cut_none {l : List UInt8} (h : ∀ j, j < l.length → l.getD j 0 ≠ 47) : Lib.cut l [47] = (l, [], false) := by
  unfold Lib.cut
  rw [Lib.index_one, indexByte_none l h, if_neg (by omega)]
theorem cut_some {l : List UInt8} {m : Nat} (h : ∀ j, j < m → l.getD j 0 ≠ 47) (hl : m < l.length) (hm : l.getD m 0 = 47) : Lib.cut l [47] = (l.take m, l.drop (m + 1), true) := by
  unfold Lib.cut
  rw [Lib.index_one, indexByte_some l m h hl hm, if_pos (by omega)]
  simp
/-- a text as bytes -/
def tb (l : List UInt8) : ByteArray := ⟨l.toArray⟩
theorem tb_size (l : List UInt8) : (tb l).size = l.length := by simp [tb, ByteArray.size]
theorem tb_at (l : List UInt8) (i : Nat) : byteAt (tb l) i = ((l.getD i 0).toNat : Int) := by simp [tb, byteAt]
theorem read_stroke {l : List UInt8} {j : Nat} (hj : j < l.length) (h : l.getD j 0 = 47) : readOk (tb l) = false := by
  refine (readOk_form (allD_bad j (by rw [tb_size]; exact hj) ?_)).1
  rw [tb_at, h]
  rfl
/-- one is written in one way -/
theorem ch_low {s : ByteArray} {lo : Nat} : ∀ k, (∀ j, j < k → digB (byteAt s (lo + j)) = true) → byteAt s lo ≠ 48 → 1 ≤ k → 1 ≤ ch s lo k ∧ (2 ≤ k → 10 ≤ ch s lo k) ∧ (k = 1 → ch s lo k = byteAt s lo - 48)
  | 0, _, _, h => by omega
  | 1, h, h0, _ => by
    have h1 := h 0 (by omega)
    simp only [digB, Bool.and_eq_true, decide_eq_true_eq, Nat.add_zero] at h1
    refine ⟨?_, fun h => by omega, fun _ => ?_⟩
    · simp only [ch, Nat.add_zero]; omega
    · simp only [ch, Nat.add_zero]; omega
  | k + 2, h, h0, _ => by
    have ih := ch_low (k + 1) (fun j hj => h j (by omega)) h0 (by omega)
    have h1 := h (k + 1) (by omega)
    simp only [digB, Bool.and_eq_true, decide_eq_true_eq] at h1
    rw [ch]
    refine ⟨by omega, fun _ => by omega, fun h => by omega⟩
theorem one_text {b : List UInt8} (h : readOk (tb b) = true) (h1 : readX (tb b) = [1]) : b = [49] := by
  unfold readOk at h
  simp only [Bool.and_eq_true, Bool.not_eq_true', decide_eq_false_iff_not] at h
  obtain ⟨hb, ha⟩ := h
  have hd : ∀ i, i < b.length → digB (byteAt (tb b) i) = true := fun i hi => by
    cases e : digB (byteAt (tb b) i) with
    | true => rfl
    | false => have := allD_bad (s := tb b) i (by rw [tb_size]; exact hi) e; rw [ha] at this; cases this
  have hx := (readOk_good hb ha).2
  have hn : readN (tb b) = 1 := by
    have := congrArg natOf (hx.symm.trans h1)
    rw [natOf_D] at this
    rw [this]
    rfl
  unfold badT at hb
  rw [tb_size] at hb
  have hL : 1 ≤ b.length := by omega
  unfold readN at hn
  rw [tb_size] at hn
  obtain ⟨p, hp⟩ : ∃ p, (b.length + 3) / 4 = p + 1 := ⟨(b.length + 3) / 4 - 1, by omega⟩
  rw [hp, rl] at hn
  have e0 : b.length - 4 * (p + 1) = 0 := by omega
  rw [e0, Nat.sub_zero] at hn
  have hlim : Limbs (rl (tb b) b.length p) := rl_limbs p fun i _ hi => hd i hi
  have hv := val_nonneg hlim
  have hn' : val (rl (tb b) b.length p ++ [ch (tb b) 0 (b.length - 4 * p)]) = 1 := by unfold natOf at hn; omega
  rw [val_snoc, rl_len] at hn'
  by_cases h2 : b.length = 1
  · obtain rfl : p = 0 := by omega
    rw [h2] at hn'
    have e : val (rl (tb b) 1 0) = 0 := rfl
    rw [e] at hn'
    simp only [Nat.mul_zero, Nat.sub_zero, ch, Nat.add_zero] at hn'
    match b, h2 with
    | [c], _ =>
      rw [tb_at] at hn'
      have : c.toNat = 49 := by simp at hn'; omega
      have : c = 49 := UInt8.toNat_inj.1 this
      rw [this]
  · have h48 : byteAt (tb b) 0 ≠ 48 := fun e => hb (.inr (.inr ⟨e, by omega⟩))
    obtain ⟨c1, c2, _⟩ := ch_low (s := tb b) (lo := 0) (b.length - 4 * p) (fun j hj => by rw [Nat.zero_add]; exact hd j (by omega)) h48 (by omega)
    generalize ch (tb b) 0 (b.length - 4 * p) = x at *
    cases p with
    | zero =>
      have e : val (rl (tb b) b.length 0) = 0 := rfl
      rw [e] at hn'
      have := c2 (by omega)
      simp at hn'
      omega
    | succ p =>
      have hpow : (10000 : Int) ≤ 10000 ^ (p + 1) := by
        rw [Int.pow_succ]
        have : (0 : Int) < 10000 ^ p := Int.pow_pos (by decide)
        omega
      have : (10000 : Int) ^ (p + 1) * 1 ≤ 10000 ^ (p + 1) * x := Int.mul_le_mul_of_nonneg_left c1 (by omega)
      omega
theorem read_one : readOk (tb [49]) = true ∧ readX (tb [49]) = [1] := by
  have hb : ¬ badT (tb [49]) := by unfold badT; rw [tb_size]; simp
  have ha : allD (tb [49]) = true := allD_good fun i hi => by
    rw [tb_size] at hi
    obtain rfl : i = 0 := by simpa using hi
    rw [tb_at]
    decide
  obtain ⟨h1, h2⟩ := readOk_good hb ha
  refine ⟨h1, h2.trans ?_⟩
  have : readN (tb [49]) = 1 := by
    unfold readN
    rw [tb_size]
    show natOf (rl (tb [49]) 1 1) = 1
    have e : rl (tb [49]) 1 1 = [1] := by
      simp only [rl, ch, List.nil_append, List.cons.injEq, and_true]
      simp [tb_at]
    rw [e]
    rfl
  rw [this]
  rfl
def rrNeg (t : List UInt8) : Bool := Lib.hasPrefix t [45]
def rrD (t : List UInt8) : List UInt8 := Lib.trimPrefix t [45]
def rrA (t : List UInt8) : List UInt8 := (Lib.cut (rrD t) [47]).1
def rrB (t : List UInt8) : List UInt8 := (Lib.cut (rrD t) [47]).2.1
def rrF (t : List UInt8) : Bool := (Lib.cut (rrD t) [47]).2.2
/-- what stands below, as a text -/
def rrE (t : List UInt8) : List UInt8 := if rrF t = true then rrB t else [49]
def rrOk (t : List UInt8) : Bool := !(rrF t && decide (rrB t = [49])) && readOk (tb (rrA t)) && readOk (tb (rrE t)) && okR (rrNeg t) (readX (tb (rrA t))) (readX (tb (rrE t)))
def rrN (t : List UInt8) : Bool := decide (t.length ≤ 65536) && rrOk t && rrNeg t
def rrX (t : List UInt8) : List Int := if 65536 < t.length then [] else if rrOk t = true then readX (tb (rrA t)) else []
def rrY (t : List UInt8) : List Int := if 65536 < t.length then [] else if rrOk t = true then readX (tb (rrE t)) else []
def rrC (t : List UInt8) : Int := if 65536 < t.length then 2 else if rrOk t = true then 0 else 3
theorem rr_long {t : List UInt8} (h : 65536 < t.length) : rrN t = false ∧ rrX t = [] ∧ rrY t = [] ∧ rrC t = 2 := by
  unfold rrN rrX rrY rrC
  rw [decide_eq_false (show ¬ t.length ≤ 65536 by omega), if_pos h, if_pos h, if_pos h]
  exact ⟨rfl, rfl, rfl, rfl⟩
theorem rr_form {t : List UInt8} (h : ¬ 65536 < t.length) (hk : rrOk t = false) : rrN t = false ∧ rrX t = [] ∧ rrY t = [] ∧ rrC t = 3 := by
  unfold rrN rrX rrY rrC
  rw [hk, if_neg h, if_neg h, if_neg h]
  exact ⟨by simp, rfl, rfl, rfl⟩
theorem rr_good {t : List UInt8} (h : ¬ 65536 < t.length) (hk : rrOk t = true) : rrN t = rrNeg t ∧ rrX t = readX (tb (rrA t)) ∧ rrY t = readX (tb (rrE t)) ∧ rrC t = 0 := by
  unfold rrN rrX rrY rrC
  rw [hk, if_neg h, if_neg h, if_neg h, if_pos rfl, if_pos rfl, if_pos rfl, decide_eq_true (show t.length ≤ 65536 by omega)]
  exact ⟨by simp, rfl, rfl, rfl⟩
theorem rrD_len (t : List UInt8) : (rrD t).length ≤ t.length := Lib.trimPrefix_le t [45]
theorem rr_parts (t : List UInt8) : (∀ j, j < (rrD t).length → (rrD t).getD j 0 ≠ 47) ∧ rrA t = rrD t ∧ rrB t = [] ∧ rrF t = false ∨
    ∃ m, (∀ j, j < m → (rrD t).getD j 0 ≠ 47) ∧ m < (rrD t).length ∧ (rrD t).getD m 0 = 47 ∧ rrA t = (rrD t).take m ∧ rrB t = (rrD t).drop (m + 1) ∧ rrF t = true := by
  unfold rrA rrB rrF
  rcases stroke (rrD t) with h | ⟨m, h1, h2, h3⟩
  · rw [cut_none h]; exact .inl ⟨h, rfl, rfl, rfl⟩
  · rw [cut_some h1 h2 h3]; exact .inr ⟨m, h1, h2, h3, rfl, rfl, rfl⟩
theorem rrA_len (t : List UInt8) : (rrA t).length ≤ (rrD t).length := by
  rcases rr_parts t with ⟨_, h, _⟩ | ⟨m, _, h2, _, h, _⟩
  · rw [h]; exact Nat.le_refl _
  · rw [h, List.length_take]; omega
theorem rrB_len (t : List UInt8) : (rrB t).length ≤ (rrD t).length := by
  rcases rr_parts t with ⟨_, _, h, _⟩ | ⟨m, _, h2, _, _, h, _⟩
  · rw [h]; simp
  · rw [h, List.length_drop]; omega
theorem tb_eq (s : ByteArray) : tb s.data.toList = s := by
  unfold tb
  simp
theorem readX_len (l : List UInt8) : (readX (tb l)).length ≤ 40 := by
  unfold readX
  split
  · rename_i h
    unfold readOk at h
    simp only [Bool.and_eq_true, Bool.not_eq_true', decide_eq_false_iff_not] at h
    refine readN_lt ?_ fun i hi => ?_
    · have := h.1; unfold badT at this; omega
    · have ha := h.2
      unfold allD at ha
      rw [List.all_eq_true] at ha
      exact ha i (by simpa using hi)
  · simp
end Nt
