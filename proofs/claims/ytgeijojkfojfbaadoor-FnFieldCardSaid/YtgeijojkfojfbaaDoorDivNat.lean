/-
  DivNat of the program.
-/
import Derived.Test.YtgeijojkfojfbaaDoorDivX
namespace Nt
open Go Go.RowKit
def divQ (m n : Nat) : List Int := if n = 0 then [] else D (m / n)
def divR (m n : Nat) : List Int := if n = 0 then [] else D (m % n)
def divC (n : Nat) : Int := if n = 0 then 9 else 0
theorem div_zero (m : Nat) : divQ m 0 = [] ∧ divR m 0 = [] ∧ divC 0 = 9 := ⟨rfl, rfl, rfl⟩
theorem div_pos (m : Nat) {n : Nat} (h : 0 < n) : divQ m n = D (m / n) ∧ divR m n = D (m % n) ∧ divC n = 0 := by
  unfold divQ divR divC
  rw [if_neg (by omega), if_neg (by omega), if_neg (by omega)]
  exact ⟨rfl, rfl, rfl⟩
/-- two new lists, each memory of its own, and a code -/
def RetDiv (t : TypeId) (w : World) (q r : List Int) (code : Int) (e : Ending) (w' : World) : Prop :=
  ∃ A1 c1 A2 c2 B2, e = .returned (.tuple #[.slice A1 q.length c1, .slice A2 r.length c2, .int .i64 code]) ∧ w'.ownsRow w.heap.size t 1 (.slice A1 q.length c1) q.length (q.map (Value.int .i64)) ∧
    (∀ g, (Value.slice A1 q.length c1).ownBlock = some g → g < B2) ∧ w.heap.size ≤ B2 ∧ w'.ownsRow B2 t 1 (.slice A2 r.length c2) r.length (r.map (Value.int .i64)) ∧ Below w.heap.size w w'
theorem own_slice {w : World} {base n : Nat} {e : TypeId} {A : Option Addr} {c : Nat} {xs : List Int} (h : w.ownsRow base e 1 (.slice A n c) n (xs.map (Value.int .i64))) : xs.length = n := by simpa using h.1
theorem natOf_div {qs : List Int} {m n : Nat} (h : Limbs qs) (hv : val qs = (m : Int) / n) : natOf qs = m / n := by
  have := natOf_val h
  rw [hv, ← Int.natCast_ediv] at this
  omega
theorem natOf_mod {qs : List Int} {m n : Nat} (h : Limbs qs) (hv : val qs = (m : Int) % n) : natOf qs = m % n := by
  have := natOf_val h
  rw [hv, ← Int.natCast_emod] at this
  omega
end Nt
namespace Go.Proofs.YtgeijojkfojfbaaDoor
open Go Go.RowKit Nt

/-- a list that is trimmed and copied -/
theorem trim_fresh_rd {w : World} {P : Nat → Prop} {A : Option Addr} {n c : Nat} {xs : List Int} (h : Rd w P A n c xs) (hl : Limbs xs) : Rd w P A (D (natOf xs)).length c (D (natOf xs)) := by
  have hle := trim_len_le hl
  have := h.cut (D (natOf xs)).length (by have := h.len; omega)
  rwa [take_trim hl] at this

end Go.Proofs.YtgeijojkfojfbaaDoor
