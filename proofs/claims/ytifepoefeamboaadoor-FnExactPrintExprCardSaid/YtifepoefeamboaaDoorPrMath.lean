/-
  How an expression is printed, node by node: no memory.
-/
import Derived.Test.YtifepoefeamboaaDoorGrpE
import Derived.Lib.ItoaNum
namespace Nt
open Go Go.RowKit
def signT (op : Int) : List UInt8 := if op = 3 then [43] else if op = 4 then [45] else if op = 5 then [42] else [47]
def brk (t : List UInt8) : List UInt8 := [40] ++ t ++ [41]
/-- a part: in brackets if it has more than so many children -/
def partP (ns : List Nd) (t : List UInt8) (j : Nat) (bare : Bool) : List UInt8 := if two (ns.getD j nd0).1 || (!bare && one (ns.getD j nd0).1) then brk t else t
/-- a node's text out of those ahead -/
def oneP (ns : List Nd) (g : Nat → List UInt8) (x : Nd) : List UInt8 :=
  if x.1 = 1 then Lib.decDigits x.2.2.2.toNat
  else if x.1 = 2 then 120 :: Lib.decDigits x.2.2.2.toNat
  else if x.1 = 7 then 45 :: partP ns (g x.2.1.toNat) x.2.1.toNat true
  else if x.1 = 8 then partP ns (g x.2.1.toNat) x.2.1.toNat false ++ [94] ++ Lib.decDigits x.2.2.2.toNat
  else partP ns (g x.2.1.toNat) x.2.1.toNat true ++ [32] ++ signT x.1 ++ [32] ++ partP ns (g x.2.2.1.toNat) x.2.2.1.toNat true
def prL (ns : List Nd) : Nat → List (List UInt8)
  | 0 => []
  | k + 1 => prL ns k ++ [oneP ns (fun j => (prL ns k).getD j []) (ns.getD k nd0)]
/-- the text of node i -/
def pr (ns : List Nd) (i : Nat) : List UInt8 := (prL ns (i + 1)).getD i []
theorem prL_len (ns : List Nd) : ∀ k, (prL ns k).length = k
  | 0 => rfl
  | k + 1 => by rw [prL, List.length_append, prL_len ns k]; rfl
theorem prL_get (ns : List Nd) {j : Nat} : ∀ k, j < k → (prL ns k).getD j [] = pr ns j
  | 0, h => by omega
  | k + 1, h => by
    by_cases e : j = k
    · subst e; rfl
    · have ih := prL_get ns (j := j) k (by omega)
      have hjl : j < (prL ns k).length := by rw [prL_len]; omega
      rw [← ih, prL]
      simp only [List.getD]
      rw [List.getElem?_append_left hjl]
theorem pr_one (ns : List Nd) (i : Nat) : pr ns i = oneP ns (fun j => (prL ns i).getD j []) (ns.getD i nd0) := by
  unfold pr
  rw [prL]
  simp [List.getD, prL_len]
theorem pr_const {ns : List Nd} {i : Nat} (h : (ns.getD i nd0).1 = 1) : pr ns i = Lib.decDigits (ns.getD i nd0).2.2.2.toNat := by
  rw [pr_one]; unfold oneP; rw [if_pos h]
theorem pr_var {ns : List Nd} {i : Nat} (h : (ns.getD i nd0).1 = 2) : pr ns i = 120 :: Lib.decDigits (ns.getD i nd0).2.2.2.toNat := by
  rw [pr_one]; unfold oneP; rw [if_neg (by omega), if_pos h]
theorem pr_neg {ns : List Nd} {i a : Nat} (h : (ns.getD i nd0).1 = 7) (ha : (ns.getD i nd0).2.1 = a) (hi : a < i) : pr ns i = 45 :: partP ns (pr ns a) a true := by
  rw [pr_one]; unfold oneP; rw [if_neg (by omega), if_neg (by omega), if_pos h, ha]
  simp only [Int.toNat_natCast]
  rw [prL_get ns i hi]
theorem pr_pow {ns : List Nd} {i a : Nat} (h : (ns.getD i nd0).1 = 8) (ha : (ns.getD i nd0).2.1 = a) (hi : a < i) : pr ns i = partP ns (pr ns a) a false ++ [94] ++ Lib.decDigits (ns.getD i nd0).2.2.2.toNat := by
  rw [pr_one]; unfold oneP; rw [if_neg (by omega), if_neg (by omega), if_neg (by omega), if_pos h, ha]
  simp only [Int.toNat_natCast]
  rw [prL_get ns i hi]
theorem pr_two {ns : List Nd} {i a b : Nat} (h : two (ns.getD i nd0).1 = true) (ha : (ns.getD i nd0).2.1 = a) (hb : (ns.getD i nd0).2.2.1 = b) (hi : a < i) (hj : b < i) :
    pr ns i = partP ns (pr ns a) a true ++ [32] ++ signT (ns.getD i nd0).1 ++ [32] ++ partP ns (pr ns b) b true := by
  unfold two at h
  simp only [Bool.and_eq_true, decide_eq_true_eq] at h
  rw [pr_one]; unfold oneP; rw [if_neg (by omega), if_neg (by omega), if_neg (by omega), if_neg (by omega), ha, hb]
  simp only [Int.toNat_natCast]
  rw [prL_get ns i hi, prL_get ns i hj]
/-- how long a text of such a depth can be -/
def lenB : Nat → Nat
  | 0 => 0
  | d + 1 => 2 * lenB d + 1000000010
theorem partP_len (ns : List Nd) (t : List UInt8) (j : Nat) (b : Bool) : (partP ns t j b).length ≤ t.length + 2 := by
  unfold partP brk
  split
  · simp
  · omega
theorem lenB_12 {d : Nat} (h : d ≤ 12) : lenB d ≤ 5000000000000 := by
  have mono : ∀ k, lenB d ≤ lenB (d + k) := by
    intro k
    induction k with
    | zero => exact Nat.le_refl _
    | succ k ih => rw [show d + (k + 1) = (d + k) + 1 by omega, lenB]; omega
  have := mono (12 - d)
  rw [show d + (12 - d) = 12 by omega] at this
  exact Nat.le_trans this (by decide)
theorem dec_len_le (n : Nat) : (Lib.decDigits n).length ≤ n + 1 := by
  induction n using Nat.strongRecOn with
  | _ n ih =>
    by_cases h : n < 10
    · rw [Lib.decDigits_one h]; simp
    · rw [Lib.decDigits, dif_neg h, List.length_append]
      have := ih (n / 10) (by omega)
      simp only [List.length_singleton]
      omega
theorem fit_n {x : Nd} (h : fitN x = true) : 1 ≤ x.1 ∧ x.1 ≤ 8 ∧ 0 ≤ x.2.2.2 ∧ x.2.2.2 ≤ mostN x.1 := by
  unfold fitN at h
  simp only [Bool.and_eq_true, decide_eq_true_eq] at h
  exact ⟨h.1.1.1.1.1, h.1.1.1.1.2, h.1.1.1.2, h.1.1.2⟩
theorem most_le (op : Int) : mostN op ≤ 999999999 := by
  unfold mostN
  repeat (first | split | omega)
theorem signT_len (op : Int) : (signT op).length = 1 := by
  unfold signT
  repeat (first | split | rfl)
/-- what is told of a printed node -/
theorem pr_len {ns : List Nd} {ts : List Tr} (hf : ∀ j, j < ns.length → fitN (ns.getD j nd0) = true) (hT : Tied ns ts) (hl : ts.length = ns.length) (hN : Nest ts) : ∀ (d i : Nat), i < ns.length → (ts.getD i tr0).2 ≤ d → (pr ns i).length ≤ lenB d
  | 0, i, hi, hd => by have := (hN i (by omega)).1; omega
  | d + 1, i, hi, hd => by
    obtain ⟨f1, f2, f3, f4⟩ := fit_n (hf i hi)
    have fm := most_le (ns.getD i nd0).1
    have hdl := dec_len_le (ns.getD i nd0).2.2.2.toNat
    obtain ⟨t1, t2, t3⟩ := hT i (by omega)
    rw [lenB]
    by_cases h2 : two (ns.getD i nd0).1 = true
    · obtain ⟨a, b, ea, eb, ha, hb, _, ed⟩ := t1 h2
      have ia := pr_len hf hT hl hN d a (by omega) (by omega)
      have ib := pr_len hf hT hl hN d b (by omega) (by omega)
      rw [pr_two h2 ea eb ha hb]
      have p1 := partP_len ns (pr ns a) a true
      have p2 := partP_len ns (pr ns b) b true
      have p3 := signT_len (ns.getD i nd0).1
      simp only [List.length_append, List.length_singleton]
      omega
    · have h2' : two (ns.getD i nd0).1 = false := (Bool.not_eq_true _).mp h2
      by_cases h1 : one (ns.getD i nd0).1 = true
      · obtain ⟨a, ea, ha, _, ed⟩ := t2 h2' h1
        have ia := pr_len hf hT hl hN d a (by omega) (by omega)
        have p1 := partP_len ns (pr ns a) a true
        have p2 := partP_len ns (pr ns a) a false
        unfold one at h1
        simp only [Bool.or_eq_true, decide_eq_true_eq] at h1
        rcases h1 with h1 | h1
        · rw [pr_neg h1 ea ha, List.length_cons]
          omega
        · rw [pr_pow h1 ea ha]
          simp only [List.length_append, List.length_singleton]
          omega
      · unfold two at h2'
        unfold one at h1
        simp only [Bool.and_eq_false_iff, decide_eq_false_iff_not, Bool.or_eq_true, decide_eq_true_eq, not_or] at h2' h1
        rcases (show (ns.getD i nd0).1 = 1 ∨ (ns.getD i nd0).1 = 2 by omega) with h | h
        · rw [pr_const h]; omega
        · rw [pr_var h, List.length_cons]; omega
end Nt
