/-
  The text of a natural: l01Text of the model, limbsText of the program.
-/
import Derived.Test.YtifepoefeamboaaDoorGrpA
import Derived.Test.YtifepoefeamboaaDoorDigits
import Derived.Test.YtifepoefeamboaaDoorBuild
namespace Nt
open Go Go.RowKit
/-- a limb's four digits -/
def limb4 (x : Int) : List UInt8 := (Lib.decDigits (10000 + x.toNat)).drop 1
/-- the text of the last limb and of m limbs below it -/
def txtK (xs : List Int) (m : Nat) : List UInt8 := Lib.decDigits (xs.getD (xs.length - 1) 0).toNat ++ (xs.reverse.tail.take m).flatMap limb4
/-- the text of a natural -/
def txtN (xs : List Int) : List UInt8 := if xs = [] then [48] else txtK xs (xs.length - 1)
theorem txtK_zero (xs : List Int) : txtK xs 0 = Lib.decDigits (xs.getD (xs.length - 1) 0).toNat := by simp [txtK]
theorem rev_get {xs : List Int} {m : Nat} (h : m + 2 ≤ xs.length) : xs.reverse.tail[m]? = some (xs.getD (xs.length - 2 - m) 0) := by
  rw [List.getElem?_tail, List.getElem?_reverse (by omega), show xs.length - 1 - (m + 1) = xs.length - 2 - m by omega]
  simp [List.getD, show xs.length - 2 - m < xs.length by omega]
theorem txtK_succ {xs : List Int} {m : Nat} (h : m + 2 ≤ xs.length) : txtK xs (m + 1) = txtK xs m ++ limb4 (xs.getD (xs.length - 2 - m) 0) := by
  unfold txtK
  have hl : m < xs.reverse.tail.length := by simp; omega
  rw [List.take_succ_eq_append_getElem hl, List.flatMap_append, ← List.append_assoc]
  congr 1
  have := rev_get h
  rw [List.getElem?_eq_getElem hl] at this
  injection this with this
  rw [this]
  simp
theorem limbs_get {xs : List Int} (h : Limbs xs) {k : Nat} (hk : k < xs.length) : 0 ≤ xs.getD k 0 ∧ xs.getD k 0 < 10000 := by
  rw [show xs.getD k 0 = xs[k] by simp [List.getD, hk]]
  exact h _ (List.getElem_mem hk)
theorem str_tail (l : List UInt8) : (⟨l.toArray⟩ : ByteArray).extract 1 l.length = ⟨(l.drop 1).toArray⟩ := by
  apply ByteArray.ext
  simp only [ByteArray.data_extract, List.extract_toArray, List.extract_eq_take_drop, List.drop_one]
  rw [List.take_of_length_le (by simp)]
end Nt
namespace Go.Proofs.YtifepoefeamboaaDoor
open Go Go.RowKit Nt
theorem limb4_len (x : Int) (h0 : 0 ≤ x) (h1 : x < 10000) : (limb4 x).length ≤ 20000 := by
  unfold limb4
  have := digits_len (10000 + x.toNat)
  rw [List.length_drop]
  omega
theorem txtK_len {xs : List Int} (hl : Limbs xs) (h0 : 0 < xs.length) : ∀ m, m + 1 ≤ xs.length → (txtK xs m).length ≤ 20000 * (m + 1)
  | 0, _ => by
    rw [txtK_zero]
    have := limbs_get hl (k := xs.length - 1) (by omega)
    have := digits_len (xs.getD (xs.length - 1) 0).toNat
    omega
  | m + 1, h => by
    have ih := txtK_len hl h0 m (by omega)
    rw [txtK_succ (by omega), List.length_append]
    have := limbs_get hl (k := xs.length - 2 - m) (by omega)
    have := limb4_len _ this.1 this.2
    omega
theorem digits_pos (n : Nat) : 1 ≤ (Lib.decDigits n).length := by
  by_cases h : n < 10
  · rw [Lib.decDigits_one h]; simp
  · rw [digits_more h]; simp

theorem builder_on {T e B b : Nat} {bs : List Value} {w w' : World} (h : Lib.IsBuilderF T e B b bs w) (hb : Below w.heap.size w w') : Lib.IsBuilderF T e B b bs w' := by
  have key : ∀ p, Lib.BuilderAtF T e B b p bs w → Lib.BuilderAtF T e B b p bs w' := by
    rintro p ⟨hB, v, hh, hown, hne⟩
    refine ⟨hB, v, (hb.block b (Array.getElem?_eq_some_iff.1 hh).1).trans hh, hown.kept (row := none) ⟨hb.os, hb.tape, hb.output, hb.size, fun k hk _ => hb.block k hk⟩ ?_, hne⟩
    cases hv : v.ownBlock with
    | none => exact .inl rfl
    | some g => exact .inr (by simp)
  exact h.elim (fun x => .inl (key _ x)) (fun x => .inr (key _ x))

end Go.Proofs.YtifepoefeamboaaDoor
