/-
  Nodes in cells of a slice's own.
-/
import Derived.Test.YtifepoefeamboaaGreatDoorGrpE
namespace Nt
open Go Go.RowKit
/-- nodes in cells of the slice's own -/
def MineN (w : World) (base : Nat) (t : TypeId) (A : Option Addr) (n c : Nat) (ns : List Nd) : Prop :=
  RdN w (base ≤ ·) A n c ns ∧ (0 < n → ∃ g m, A = some ⟨g, 0, none⟩ ∧ BlkN w g t m ∧ n * 4 ≤ m ∧ base ≤ g)
section
variable {w w' : World} {base n c : Nat} {t : TypeId} {A : Option Addr} {ns : List Nd}
theorem MineN.keep (h : MineN w base t A n c ns) (hs : w.heap.size ≤ w'.heap.size) (hk : ∀ b, base ≤ b → b < w.heap.size → w'.heap[b]? = w.heap[b]?) : MineN w' base t A n c ns :=
  ⟨h.1.keep hs hk, fun hn => by
    obtain ⟨g, m, e, ⟨cs, hc, hb⟩, q, r⟩ := h.2 hn
    exact ⟨g, m, e, ⟨cs, hc, (hk g r (Array.getElem?_eq_some_iff.1 hb).1).trans hb⟩, q, r⟩⟩
theorem MineN.on (h : MineN w base t A n c ns) (hb : Below w.heap.size w w') : MineN w' base t A n c ns := h.keep hb.size fun b _ hl => hb.block b hl
theorem MineN.less {base' : Nat} (h : MineN w base t A n c ns) (hb : base' ≤ base) : MineN w base' t A n c ns :=
  ⟨h.1.mono fun _ h _ => Nat.le_trans hb h, fun hn => by obtain ⟨g, m, e, b, q, r⟩ := h.2 hn; exact ⟨g, m, e, b, q, Nat.le_trans hb r⟩⟩
theorem MineN.nil (w : World) (base : Nat) (t : TypeId) : MineN w base t none 0 0 [] := ⟨⟨rfl, Nat.le_refl _, fun _ => rfl, fun h => by omega⟩, fun h => by omega⟩
end
/-- where a slice's cells lie -/
def rowOf (A : Option Addr) (n : Nat) : Option Nat := if n = 0 then none else A.map (·.block)
theorem MineN.row {w : World} {base n c : Nat} {t : TypeId} {A : Option Addr} {ns : List Nd} (h : MineN w base t A n c ns) : ∀ g, rowOf A n = some g → base ≤ g ∧ g < w.heap.size := fun g e => by
  unfold rowOf at e
  by_cases hn : n = 0
  · rw [if_pos hn] at e; cases e
  · rw [if_neg hn] at e
    obtain ⟨g', m, rfl, hb, _, hg⟩ := h.2 (by omega)
    injection e with e
    subst e
    exact ⟨hg, hb.lt⟩
/-- what the marks leave alone -/
theorem mark_keep {w w' : World} {o : Obj} {A : Option Addr} {n lo hi : Nat} (hg : (w.alloc o).grownBy w' (rowOf A n)) (hr : ∀ g, rowOf A n = some g → lo ≤ g ∧ g < hi) : w.heap.size ≤ w'.heap.size ∧ ∀ b, b < w.heap.size → (b < lo ∨ hi ≤ b) → w'.heap[b]? = w.heap[b]? := by
  have h1 := below_one w o
  refine ⟨Nat.le_trans h1.size hg.size, fun b hb hl => ?_⟩
  exact (hg.block b (by have := h1.size; omega) (fun e => by have := hr b e.symm; omega)).trans (h1.block b hb)
theorem mark_below {w w' : World} {o : Obj} {A : Option Addr} {n lo hi : Nat} (hg : (w.alloc o).grownBy w' (rowOf A n)) (hr : ∀ g, rowOf A n = some g → lo ≤ g ∧ g < hi) (hlo : lo ≤ w.heap.size) : Below lo w w' :=
  ((below_one w o).mono hlo).trans ⟨hg.os, hg.tape, hg.output, hg.size, fun i hi' => hg.block i (by rw [World.size_alloc]; omega) (fun e => by have := hr i e.symm; omega)⟩
end Nt
