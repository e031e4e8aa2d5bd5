/-
  A struct of four rationals in memory: twelve cells.
-/
import Derived.Test.YtifepoefeamboaaGreatDoorAppendFree
import Derived.Test.YtifepoefeamboaaGreatDoorGrpH
namespace Nt
open Go Go.RowKit
def Q4At (w : World) (b : Nat) (t : TypeId) (x0 x1 x2 x3 x4 x5 x6 x7 x8 x9 x10 x11 : Value) : Prop := w.heap[b]? = some (.cells #[x0, x1, x2, x3, x4, x5, x6, x7, x8, x9, x10, x11] t (0, 0))
section
variable {w w' : World} {b : Nat} {t : TypeId} {x0 x1 x2 x3 x4 x5 x6 x7 x8 x9 x10 x11 y0 y1 y2 y3 y4 y5 y6 y7 y8 y9 y10 y11 : Value}
theorem Q4At.c0 (h : Q4At w b t x0 x1 x2 x3 x4 x5 x6 x7 x8 x9 x10 x11) : w.cell? ⟨b, 0, none⟩ = some x0 := by rw [cell_of_row w b 0 _ t (0, 0) h]; rfl
theorem Q4At.c1 (h : Q4At w b t x0 x1 x2 x3 x4 x5 x6 x7 x8 x9 x10 x11) : w.cell? ⟨b, 1, none⟩ = some x1 := by rw [cell_of_row w b 1 _ t (0, 0) h]; rfl
theorem Q4At.c2 (h : Q4At w b t x0 x1 x2 x3 x4 x5 x6 x7 x8 x9 x10 x11) : w.cell? ⟨b, 2, none⟩ = some x2 := by rw [cell_of_row w b 2 _ t (0, 0) h]; rfl
theorem Q4At.c3 (h : Q4At w b t x0 x1 x2 x3 x4 x5 x6 x7 x8 x9 x10 x11) : w.cell? ⟨b, 3, none⟩ = some x3 := by rw [cell_of_row w b 3 _ t (0, 0) h]; rfl
theorem Q4At.c4 (h : Q4At w b t x0 x1 x2 x3 x4 x5 x6 x7 x8 x9 x10 x11) : w.cell? ⟨b, 4, none⟩ = some x4 := by rw [cell_of_row w b 4 _ t (0, 0) h]; rfl
theorem Q4At.c5 (h : Q4At w b t x0 x1 x2 x3 x4 x5 x6 x7 x8 x9 x10 x11) : w.cell? ⟨b, 5, none⟩ = some x5 := by rw [cell_of_row w b 5 _ t (0, 0) h]; rfl
theorem Q4At.c6 (h : Q4At w b t x0 x1 x2 x3 x4 x5 x6 x7 x8 x9 x10 x11) : w.cell? ⟨b, 6, none⟩ = some x6 := by rw [cell_of_row w b 6 _ t (0, 0) h]; rfl
theorem Q4At.c7 (h : Q4At w b t x0 x1 x2 x3 x4 x5 x6 x7 x8 x9 x10 x11) : w.cell? ⟨b, 7, none⟩ = some x7 := by rw [cell_of_row w b 7 _ t (0, 0) h]; rfl
theorem Q4At.c8 (h : Q4At w b t x0 x1 x2 x3 x4 x5 x6 x7 x8 x9 x10 x11) : w.cell? ⟨b, 8, none⟩ = some x8 := by rw [cell_of_row w b 8 _ t (0, 0) h]; rfl
theorem Q4At.c9 (h : Q4At w b t x0 x1 x2 x3 x4 x5 x6 x7 x8 x9 x10 x11) : w.cell? ⟨b, 9, none⟩ = some x9 := by rw [cell_of_row w b 9 _ t (0, 0) h]; rfl
theorem Q4At.c10 (h : Q4At w b t x0 x1 x2 x3 x4 x5 x6 x7 x8 x9 x10 x11) : w.cell? ⟨b, 10, none⟩ = some x10 := by rw [cell_of_row w b 10 _ t (0, 0) h]; rfl
theorem Q4At.c11 (h : Q4At w b t x0 x1 x2 x3 x4 x5 x6 x7 x8 x9 x10 x11) : w.cell? ⟨b, 11, none⟩ = some x11 := by rw [cell_of_row w b 11 _ t (0, 0) h]; rfl
theorem Q4At.fz (h : Q4At w b t x0 x1 x2 x3 x4 x5 x6 x7 x8 x9 x10 x11) (i : Nat) : w.frozen? ⟨b, i, none⟩ = false := frozen_of_row w b i _ t h
theorem Q4At.lt (h : Q4At w b t x0 x1 x2 x3 x4 x5 x6 x7 x8 x9 x10 x11) : b < w.heap.size := by
  rcases Nat.lt_or_ge b w.heap.size with hlt | hge
  · exact hlt
  · unfold Q4At at h; rw [Array.getElem?_eq_none hge] at h; cases h
theorem Q4At.on (h : Q4At w b t x0 x1 x2 x3 x4 x5 x6 x7 x8 x9 x10 x11) (hb : Below w.heap.size w w') : Q4At w' b t x0 x1 x2 x3 x4 x5 x6 x7 x8 x9 x10 x11 := (hb.block b h.lt).trans h
theorem Q4At.new (w : World) (t : TypeId) (x0 x1 x2 x3 x4 x5 x6 x7 x8 x9 x10 x11 : Value) : Q4At (w.alloc (.cells #[x0, x1, x2, x3, x4, x5, x6, x7, x8, x9, x10, x11] t)) w.heap.size t x0 x1 x2 x3 x4 x5 x6 x7 x8 x9 x10 x11 := heap_alloc_new w _
theorem Q4At.past {g : Nat} (h : Q4At w b t x0 x1 x2 x3 x4 x5 x6 x7 x8 x9 x10 x11) (hg : w.grownBy w' (some g)) (hne : b ≠ g) : Q4At w' b t x0 x1 x2 x3 x4 x5 x6 x7 x8 x9 x10 x11 := (hg.block b h.lt (fun e => hne (by injection e))).trans h
theorem Q4At.set0 (h : Q4At w b t x0 x1 x2 x3 x4 x5 x6 x7 x8 x9 x10 x11) (u : Value) : Q4At (w.setCell ⟨b, 0, none⟩ u) b t u x1 x2 x3 x4 x5 x6 x7 x8 x9 x10 x11 := by
  unfold Q4At at h ⊢
  rw [heap_setCell_same w b 0 _ t _ h]; rfl
theorem Q4At.set1 (h : Q4At w b t x0 x1 x2 x3 x4 x5 x6 x7 x8 x9 x10 x11) (u : Value) : Q4At (w.setCell ⟨b, 1, none⟩ u) b t x0 u x2 x3 x4 x5 x6 x7 x8 x9 x10 x11 := by
  unfold Q4At at h ⊢
  rw [heap_setCell_same w b 1 _ t _ h]; rfl
theorem Q4At.set2 (h : Q4At w b t x0 x1 x2 x3 x4 x5 x6 x7 x8 x9 x10 x11) (u : Value) : Q4At (w.setCell ⟨b, 2, none⟩ u) b t x0 x1 u x3 x4 x5 x6 x7 x8 x9 x10 x11 := by
  unfold Q4At at h ⊢
  rw [heap_setCell_same w b 2 _ t _ h]; rfl
theorem Q4At.set3 (h : Q4At w b t x0 x1 x2 x3 x4 x5 x6 x7 x8 x9 x10 x11) (u : Value) : Q4At (w.setCell ⟨b, 3, none⟩ u) b t x0 x1 x2 u x4 x5 x6 x7 x8 x9 x10 x11 := by
  unfold Q4At at h ⊢
  rw [heap_setCell_same w b 3 _ t _ h]; rfl
theorem Q4At.set4 (h : Q4At w b t x0 x1 x2 x3 x4 x5 x6 x7 x8 x9 x10 x11) (u : Value) : Q4At (w.setCell ⟨b, 4, none⟩ u) b t x0 x1 x2 x3 u x5 x6 x7 x8 x9 x10 x11 := by
  unfold Q4At at h ⊢
  rw [heap_setCell_same w b 4 _ t _ h]; rfl
theorem Q4At.set5 (h : Q4At w b t x0 x1 x2 x3 x4 x5 x6 x7 x8 x9 x10 x11) (u : Value) : Q4At (w.setCell ⟨b, 5, none⟩ u) b t x0 x1 x2 x3 x4 u x6 x7 x8 x9 x10 x11 := by
  unfold Q4At at h ⊢
  rw [heap_setCell_same w b 5 _ t _ h]; rfl
theorem Q4At.set6 (h : Q4At w b t x0 x1 x2 x3 x4 x5 x6 x7 x8 x9 x10 x11) (u : Value) : Q4At (w.setCell ⟨b, 6, none⟩ u) b t x0 x1 x2 x3 x4 x5 u x7 x8 x9 x10 x11 := by
  unfold Q4At at h ⊢
  rw [heap_setCell_same w b 6 _ t _ h]; rfl
theorem Q4At.set7 (h : Q4At w b t x0 x1 x2 x3 x4 x5 x6 x7 x8 x9 x10 x11) (u : Value) : Q4At (w.setCell ⟨b, 7, none⟩ u) b t x0 x1 x2 x3 x4 x5 x6 u x8 x9 x10 x11 := by
  unfold Q4At at h ⊢
  rw [heap_setCell_same w b 7 _ t _ h]; rfl
theorem Q4At.set8 (h : Q4At w b t x0 x1 x2 x3 x4 x5 x6 x7 x8 x9 x10 x11) (u : Value) : Q4At (w.setCell ⟨b, 8, none⟩ u) b t x0 x1 x2 x3 x4 x5 x6 x7 u x9 x10 x11 := by
  unfold Q4At at h ⊢
  rw [heap_setCell_same w b 8 _ t _ h]; rfl
theorem Q4At.set9 (h : Q4At w b t x0 x1 x2 x3 x4 x5 x6 x7 x8 x9 x10 x11) (u : Value) : Q4At (w.setCell ⟨b, 9, none⟩ u) b t x0 x1 x2 x3 x4 x5 x6 x7 x8 u x10 x11 := by
  unfold Q4At at h ⊢
  rw [heap_setCell_same w b 9 _ t _ h]; rfl
theorem Q4At.set10 (h : Q4At w b t x0 x1 x2 x3 x4 x5 x6 x7 x8 x9 x10 x11) (u : Value) : Q4At (w.setCell ⟨b, 10, none⟩ u) b t x0 x1 x2 x3 x4 x5 x6 x7 x8 x9 u x11 := by
  unfold Q4At at h ⊢
  rw [heap_setCell_same w b 10 _ t _ h]; rfl
theorem Q4At.set11 (h : Q4At w b t x0 x1 x2 x3 x4 x5 x6 x7 x8 x9 x10 x11) (u : Value) : Q4At (w.setCell ⟨b, 11, none⟩ u) b t x0 x1 x2 x3 x4 x5 x6 x7 x8 x9 x10 u := by
  unfold Q4At at h ⊢
  rw [heap_setCell_same w b 11 _ t _ h]; rfl
theorem Q4At.setAll (h : Q4At w b t x0 x1 x2 x3 x4 x5 x6 x7 x8 x9 x10 x11) (y0 y1 y2 y3 y4 y5 y6 y7 y8 y9 y10 y11 : Value) : Q4At ((((((((((((w.setCell ⟨b, 0, none⟩ y0).setCell ⟨b, 1, none⟩ y1).setCell ⟨b, 2, none⟩ y2).setCell ⟨b, 3, none⟩ y3).setCell ⟨b, 4, none⟩ y4).setCell ⟨b, 5, none⟩ y5).setCell ⟨b, 6, none⟩ y6).setCell ⟨b, 7, none⟩ y7).setCell ⟨b, 8, none⟩ y8).setCell ⟨b, 9, none⟩ y9).setCell ⟨b, 10, none⟩ y10).setCell ⟨b, 11, none⟩ y11) b t y0 y1 y2 y3 y4 y5 y6 y7 y8 y9 y10 y11 := ((((((((((((h.set0 _).set1 _).set2 _).set3 _).set4 _).set5 _).set6 _).set7 _).set8 _).set9 _).set10 _).set11 _)
end
theorem Q4At.row {w : World} {b : Nat} {t : TypeId} {x0 x1 x2 x3 x4 x5 x6 x7 x8 x9 x10 x11 : Value} (h : Q4At w b t x0 x1 x2 x3 x4 x5 x6 x7 x8 x9 x10 x11) (y0 y1 y2 y3 y4 y5 y6 y7 y8 y9 y10 y11 : Value) : Q4At (w.setRow b #[y0, y1, y2, y3, y4, y5, y6, y7, y8, y9, y10, y11]) b t y0 y1 y2 y3 y4 y5 y6 y7 y8 y9 y10 y11 := setRow_heap w b _ _ t _ h
theorem set12_grown (w : World) (b : Nat) (y0 y1 y2 y3 y4 y5 y6 y7 y8 y9 y10 y11 : Value) : w.grownBy ((((((((((((w.setCell ⟨b, 0, none⟩ y0).setCell ⟨b, 1, none⟩ y1).setCell ⟨b, 2, none⟩ y2).setCell ⟨b, 3, none⟩ y3).setCell ⟨b, 4, none⟩ y4).setCell ⟨b, 5, none⟩ y5).setCell ⟨b, 6, none⟩ y6).setCell ⟨b, 7, none⟩ y7).setCell ⟨b, 8, none⟩ y8).setCell ⟨b, 9, none⟩ y9).setCell ⟨b, 10, none⟩ y10).setCell ⟨b, 11, none⟩ y11) (some b) := grown_set (grown_set (grown_set (grown_set (grown_set (grown_set (grown_set (grown_set (grown_set (grown_set (grown_set (grown_set (World.grownBy.refl _ _) _) _) _) _) _) _) _) _) _) _) _) _
/-- a struct stored into its variable, at a step of a region that draws -/
theorem step_store_row {P : Program} {ops : Array Oper} {o : Oper} {a : Act} {w : World} {K : Act → World → Prop} {Q : Exit → Act → World → Prop} {E : Prop} (hgd : o.guard = none) (ty : TypeId) (x y : Operand) (ho : o.op = .store ty x y)
    (g : Nat) (cells : Array Value) (hx : a.eval x = .pointer (some ⟨g, 0, none⟩)) (hy : a.eval y = .agg cells)
    (t : TypeId) (old : Array Value) (hg : w.heap[g]? = some (.cells old t (0, 0))) (hi : (P.info? ty).map (·.size) = some cells.size)
    (hold : old.size = cells.size) (h1 : cells.all (·.oneCell') = true)
    (h : K (a.put o.dst undef) (w.setRow g cells)) : if Region.wanted o (yielded ops a.tmps) = true then Oper.wp P o a w K Q else E := by
  simp only [Region.wanted, hgd, if_true]
  exact wp_store_row ty x y ho g cells hx hy t old hg hi hold h1 h
theorem setRow_grown (w : World) (b : Nat) (cs : Array Value) : w.grownBy (w.setRow b cs) (some b) := ⟨rfl, rfl, rfl, by simp, fun k _ hk => setRow_other w b k _ (fun e => hk (by rw [e]))⟩
/-- numbers that are read beside a block without integers -/
theorem Rd.pastF {w w' : World} {P : Nat → Prop} {A : Option Addr} {n c : Nat} {xs : List Int} {r : Nat} {cur : Array Value} {t : TypeId} {f : Nat × Nat} (h : Rd w P A n c xs) (hr : w.heap[r]? = some (.cells cur t f)) (hn : ∀ u ∈ cur.toList, noInt u = true) (hg : w.grownBy w' (some r)) : Rd w' P A n c xs := by
  refine ⟨h.1, h.2.1, h.2.2.1, fun h0 => ?_⟩
  obtain ⟨b, o, e, hp, hlt, hc⟩ := h.2.2.2 h0
  have hne : b ≠ r := by
    rintro rfl
    obtain ⟨cur', t', f', h1, h2⟩ := cell_mem (hc 0 h0)
    rw [hr] at h1
    injection h1 with h1
    injection h1 with h1
    subst h1
    have := hn _ h2
    cases this
  have hk := hg.block b hlt (fun e => hne (by injection e))
  exact ⟨b, o, e, hp, Nat.lt_of_lt_of_le hlt hg.size, fun i hi => (World.cell?_of_block (a := ⟨b, o + i, none⟩) hk).trans (hc i hi)⟩
theorem RdR.pastF {w w' : World} {P : Nat → Prop} {A B : Option Addr} {ca cb : Nat} {xs ys : List Int} {r : Nat} {cur : Array Value} {t : TypeId} {f : Nat × Nat} (h : RdR w P xs ys A ca B cb) (hr : w.heap[r]? = some (.cells cur t f)) (hn : ∀ u ∈ cur.toList, noInt u = true) (hg : w.grownBy w' (some r)) : RdR w' P xs ys A ca B cb := ⟨h.1.pastF hr hn hg, h.2.pastF hr hn hg⟩
end Nt
