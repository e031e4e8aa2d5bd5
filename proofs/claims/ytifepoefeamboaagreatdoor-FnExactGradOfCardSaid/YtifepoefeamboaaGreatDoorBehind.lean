/-
  Whether a node's children lie ahead of it; a node with its children's steps: of the program.
-/
import Derived.Test.YtifepoefeamboaaGreatDoorGrpH
import Derived.Test.YtifepoefeamboaaGreatDoorGrpF
namespace Nt
open Go Go.RowKit
def bad (c p : Int) : Bool := decide (c < 0) || decide (p ≤ c)
def kv (a b : Int) (j : Nat) : Int := if j = 0 then a else b
theorem behind_yes {op a b n p : Int} (h : ∀ j, j < (arityN op).toNat → bad (kv a b j) p = false) : behind (op, a, b, n) p = true := by
  unfold behind
  unfold arityN at h
  dsimp only
  cases h2 : two op with
  | true =>
    rw [h2, if_pos rfl] at h
    have q0 := h 0 (by decide)
    have q1 := h 1 (by decide)
    unfold bad kv at q0 q1
    simp at q0 q1
    simp
    omega
  | false =>
    rw [h2, if_neg Bool.false_ne_true] at h
    cases h1 : one op with
    | true =>
      rw [h1, if_pos rfl] at h
      have q0 := h 0 (by decide)
      unfold bad kv at q0
      simp at q0
      simp
      omega
    | false => rfl
theorem behind_no {op a b n p : Int} {j : Nat} (hj : j < (arityN op).toNat) (h : bad (kv a b j) p = true) : behind (op, a, b, n) p = false := by
  unfold behind
  unfold arityN at hj
  dsimp only
  cases h2 : two op with
  | true =>
    rw [h2, if_pos rfl] at hj
    have hj : j = 0 ∨ j = 1 := by have : j < 2 := hj; omega
    unfold bad kv at h
    rcases hj with rfl | rfl <;> simp at h <;> simp <;> omega
  | false =>
    rw [h2, if_neg Bool.false_ne_true] at hj
    cases h1 : one op with
    | true =>
      rw [h1, if_pos rfl] at hj
      have hj : j = 0 := by have : j < 1 := hj; omega
      unfold bad kv at h
      subst hj
      simp at h
      simp
      omega
    | false =>
      rw [h1, if_neg Bool.false_ne_true] at hj
      have hj : j < 0 := hj
      omega
end Nt
namespace Go.Proofs.YtifepoefeamboaaGreatDoor
open Go Go.RowKit Nt

end Go.Proofs.YtifepoefeamboaaGreatDoor
