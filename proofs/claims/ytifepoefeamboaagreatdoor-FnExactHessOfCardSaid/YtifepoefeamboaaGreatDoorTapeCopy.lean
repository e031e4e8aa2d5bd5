/-
  Tapes in memory, and what the laws do with them: their size, copies, comparisons.
-/
import Derived.Test.YtifepoefeamboaaGreatDoorGrpE
namespace Nt
open Go Go.RowKit Go.Deep Go.ChangeShapes Go.WideShapes
/-- a struct with a slice and a number lies in block b -/
def TpAt (w : World) (b : Nat) (t : TypeId) (A : Option Addr) (n c : Nat) (o : Int) : Prop := w.heap[b]? = some (.cells #[.slice A n c, .int .i64 o] t (0, 0))
section
variable {w w' : World} {b : Nat} {t : TypeId} {A : Option Addr} {n c : Nat} {o : Int}
theorem TpAt.c0 (h : TpAt w b t A n c o) : w.cell? ⟨b, 0, none⟩ = some (.slice A n c) := by rw [cell_of_row w b 0 _ t (0, 0) h]; rfl
theorem TpAt.c1 (h : TpAt w b t A n c o) : w.cell? ⟨b, 1, none⟩ = some (.int .i64 o) := by rw [cell_of_row w b 1 _ t (0, 0) h]; rfl
theorem TpAt.lt (h : TpAt w b t A n c o) : b < w.heap.size := by
  rcases Nat.lt_or_ge b w.heap.size with hlt | hge
  · exact hlt
  · unfold TpAt at h; rw [Array.getElem?_eq_none hge] at h; cases h
theorem TpAt.fz (h : TpAt w b t A n c o) (i : Nat) : w.frozen? ⟨b, i, none⟩ = false := frozen_of_row w b i _ t h
theorem TpAt.on (h : TpAt w b t A n c o) (hb : Below w.heap.size w w') : TpAt w' b t A n c o := (hb.block b h.lt).trans h
theorem TpAt.new (w : World) (t : TypeId) (A : Option Addr) (n c : Nat) (o : Int) : TpAt (w.alloc (.cells #[.slice A n c, .int .i64 o] t)) w.heap.size t A n c o := heap_alloc_new w _
theorem TpAt.set0 (h : TpAt w b t A n c o) (A' : Option Addr) (n' c' : Nat) : TpAt (w.setCell ⟨b, 0, none⟩ (.slice A' n' c')) b t A' n' c' o := by
  have := heap_setCell_same w b 0 _ t (.slice A' n' c') h
  unfold TpAt
  rw [this]
  rfl
theorem TpAt.set1 (h : TpAt w b t A n c o) (o' : Int) : TpAt (w.setCell ⟨b, 1, none⟩ (.int .i64 o')) b t A n c o' := by
  have := heap_setCell_same w b 1 _ t (.int .i64 o') h
  unfold TpAt
  rw [this]
  rfl
theorem TpAt.past {g : Nat} (h : TpAt w b t A n c o) (hg : w.grownBy w' (some g)) (hne : b ≠ g) : TpAt w' b t A n c o :=
  (hg.block b h.lt (fun e => hne (by injection e))).trans h
end
theorem grown2s {A B C : World} {r : Nat} (h : A.grownBy B (some r)) (k : B.grownBy C (some r)) : A.grownBy C (some r) :=
  ⟨k.os.trans h.os, k.tape.trans h.tape, k.output.trans h.output, Nat.le_trans h.size k.size, fun i hi hne => (k.block i (Nat.lt_of_lt_of_le hi h.size) hne).trans (h.block i hi hne)⟩
theorem setAt_grown (w : World) (b i : Nat) (u : Value) : w.grownBy (w.setCell ⟨b, i, none⟩ u) (some b) := grown_set (World.grownBy.refl _ _) _
/-- what a row of the claim tells of a tape that came in -/
theorem open_tape {H : Type} {enc : TypeId × Value → H} {P : Program} {w : World} {base : Nat} {held : Bool} {r : Reach} {b0 : Nat} {s e : TypeId} {g0 g1 f0 f1 f2 f3 : Field} {v : Value} {d : DataW H} {p : List MemPlace}
    (hs : P.underlying s = some (.struct #[g0, g1])) (hones : oneCellFields P #[g0, g1] = true) (cs : P.cellsOf s = 2) (ht : P.underlying g0.type = some (.slice e)) (hi : P.underlying g1.type = some (.int .i64)) (he : P.underlying e = some (.struct #[f0, f1, f2, f3])) (hone : oneCellFields P #[f0, f1, f2, f3] = true) (ce : P.cellsOf e = 4)
    (i0 : P.underlying f0.type = some (.int .i64)) (i1 : P.underlying f1.type = some (.int .i64)) (i2 : P.underlying f2.type = some (.int .i64)) (i3 : P.underlying f3.type = some (.int .i64))
    (hv : Value.okWide P w r b0 s v) (h : DataW.Trod enc P w base (fun _ => true) held s v d p) :
    ∃ A n c ns o, v = .agg #[.slice A n c, .int .i64 o] ∧ RdN w (· < w.heap.size) A n c ns ∧ n ≤ 9223372036854775807 := by
  obtain ⟨c0, c1, y0, y1, m, rfl, _, _, h0, h1⟩ := Joins.open_agg2 hs hones cs hv h
  obtain ⟨A, l, c, e1⟩ := Joins.slice_form ht h0
  injection e1 with e1 _
  subst e1
  obtain ⟨ns, hr, hn⟩ := open_nodes ht he hone ce i0 i1 i2 i3 h0
  obtain ⟨o, e2, _⟩ := DataW.trod_int hi h1
  simp at e2
  subst e2
  exact ⟨A, l, c, ns, o, rfl, hr, hn⟩
end Nt
namespace Go.Proofs.YtifepoefeamboaaGreatDoor
open Go Go.RowKit Nt

end Go.Proofs.YtifepoefeamboaaGreatDoor
