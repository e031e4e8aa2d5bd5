/-
  Which tokens are right: TokenOK of the program and of the model.
-/
import Derived.Test.YtifepoefeamboaaDoorGrpA
namespace Nt
open Go Go.RowKit
def punB (c : Int) : Bool := c == 43 || c == 45 || c == 42 || c == 47 || c == 94 || c == 40 || c == 41
def punS (s : ByteArray) : Bool := decide (s = ⟨#[43]⟩) || decide (s = ⟨#[45]⟩) || decide (s = ⟨#[42]⟩) || decide (s = ⟨#[47]⟩) || decide (s = ⟨#[94]⟩) || decide (s = ⟨#[40]⟩) || decide (s = ⟨#[41]⟩)
def tokB (k n : Int) (s : ByteArray) : Bool :=
  if k = 1 then (decide (0 ≤ n) && decide (n ≤ 999999999)) && s.toList.isEmpty
  else if k = 2 then (decide (0 ≤ n) && decide (n ≤ 3)) && s.toList.isEmpty
  else if k = 3 then (n == 0) && punS s else false
theorem tok_bytes_ne {a b : ByteArray} (h : ¬ a = b) : (a.toList == b.toList) = false := by
  rw [beq_eq_false_iff_ne]
  intro hk
  rw [Go.ByteArray.toList_eq, Go.ByteArray.toList_eq] at hk
  exact h (ByteArray.ext (Array.toList_inj.mp hk))
theorem punS_size {s : ByteArray} (h : ¬ s.size = 1) : punS s = false := by
  unfold punS
  have hk : ∀ c : UInt8, decide (s = ⟨#[c]⟩) = false := by
    intro c
    rw [decide_eq_false_iff_not]
    intro e
    exact h (by rw [e]; rfl)
  simp only [hk, Bool.or_self]
theorem punS_one (c : UInt8) : punS ⟨#[c]⟩ = punB (c.toNat : Int) := by
  unfold punS punB
  have hk : ∀ d : UInt8, decide ((⟨#[c]⟩ : ByteArray) = ⟨#[d]⟩) = ((c.toNat : Int) == (d.toNat : Int)) := by
    intro d
    rw [Bool.eq_iff_iff, decide_eq_true_eq, beq_iff_eq]
    constructor
    · intro e
      injection e with e
      injection e with e
      injection e with e
      rw [e]
    · intro e
      have : c = d := UInt8.toNat.inj (by exact_mod_cast e)
      rw [this]
  simp only [hk]
  rfl
theorem wrap_byte (c : UInt8) : wrap32 (c.toNat : Int) = c.toNat := by
  have := c.toNat_lt
  unfold wrap32
  omega
theorem one_byte {s : ByteArray} (h : s.size = 1) : ∃ c : UInt8, s = ⟨#[c]⟩ := by
  obtain ⟨d⟩ := s
  obtain ⟨l⟩ := d
  match l, h with
  | [c], _ => exact ⟨c, rfl⟩
/-- a token's struct lies in block b -/
def TokAt (w : World) (b : Nat) (t : TypeId) (k n : Int) (s : ByteArray) : Prop := w.heap[b]? = some (.cells #[.int .i64 k, .int .i64 n, .string s] t (0, 0))
variable {w w' : World} {b : Nat} {t : TypeId} {k n : Int} {s : ByteArray}
theorem TokAt.c0 (h : TokAt w b t k n s) : w.cell? ⟨b, 0, none⟩ = some (.int .i64 k) := by rw [cell_of_row w b 0 _ t (0, 0) h]; rfl
theorem TokAt.c1 (h : TokAt w b t k n s) : w.cell? ⟨b, 1, none⟩ = some (.int .i64 n) := by rw [cell_of_row w b 1 _ t (0, 0) h]; rfl
theorem TokAt.c2 (h : TokAt w b t k n s) : w.cell? ⟨b, 2, none⟩ = some (.string s) := by rw [cell_of_row w b 2 _ t (0, 0) h]; rfl
theorem TokAt.lt (h : TokAt w b t k n s) : b < w.heap.size := by
  rcases Nat.lt_or_ge b w.heap.size with hlt | hge
  · exact hlt
  · unfold TokAt at h; rw [Array.getElem?_eq_none hge] at h; cases h
theorem TokAt.on (h : TokAt w b t k n s) (hb : Below w.heap.size w w') : TokAt w' b t k n s := (hb.block b h.lt).trans h
theorem TokAt.new (w : World) (t : TypeId) (k n : Int) (s : ByteArray) : TokAt (w.alloc (.cells #[.int .i64 k, .int .i64 n, .string s] t)) w.heap.size t k n s := heap_alloc_new w _
theorem tok_below1 (w : World) (o : Obj) : Below w.heap.size w (w.alloc o) := (Below.refl _ _).alloc (Nat.le_refl _) _
end Nt
namespace Go.Proofs.YtifepoefeamboaaDoor
open Go Go.RowKit Nt

end Go.Proofs.YtifepoefeamboaaDoor
