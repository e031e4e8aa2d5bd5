/-
  Lists of the model's jets in memory.
-/
import Derived.Test.YtifepoefeamboaaGreatDoorSpecQuad3
import Derived.Test.YtifepoefeamboaaGreatDoorGrpE
import Derived.Test.YtifepoefeamboaaGreatDoorGrpH
namespace Nt
open Go Go.RowKit
/-- twelve values are a jet's, its numbers where P says -/
def Q4L (w : World) (P : Nat → Prop) (q : Q4) (l : List Value) : Prop := ∃ (A0 : Option Addr) (c0 : Nat) (B0 : Option Addr) (d0 : Nat) (A1 : Option Addr) (c1 : Nat) (B1 : Option Addr) (d1 : Nat) (A2 : Option Addr) (c2 : Nat) (B2 : Option Addr) (d2 : Nat) (A3 : Option Addr) (c3 : Nat) (B3 : Option Addr) (d3 : Nat), l = [.bool (isNeg q.f), .slice A0 (D (nu q.f)).length c0, .slice B0 (D q.f.den).length d0, .bool (isNeg q.v), .slice A1 (D (nu q.v)).length c1, .slice B1 (D q.v.den).length d1, .bool (isNeg q.w), .slice A2 (D (nu q.w)).length c2, .slice B2 (D q.w.den).length d2, .bool (isNeg q.vw), .slice A3 (D (nu q.vw)).length c3, .slice B3 (D q.vw.den).length d3] ∧ RdR w P (D (nu q.f)) (D q.f.den) A0 c0 B0 d0 ∧ RdR w P (D (nu q.v)) (D q.v.den) A1 c1 B1 d1 ∧ RdR w P (D (nu q.w)) (D q.w.den) A2 c2 B2 d2 ∧ RdR w P (D (nu q.vw)) (D q.vw.den) A3 c3 B3 d3
theorem Q4L.on {w w' : World} {P : Nat → Prop} {q : Q4} {l : List Value} (h : Q4L w P q l) (hb : Below w.heap.size w w') : Q4L w' P q l := by
  obtain ⟨A0, c0, B0, d0, A1, c1, B1, d1, A2, c2, B2, d2, A3, c3, B3, d3, e, h0, h1, h2, h3⟩ := h
  exact ⟨A0, c0, B0, d0, A1, c1, B1, d1, A2, c2, B2, d2, A3, c3, B3, d3, e, h0.on hb, h1.on hb, h2.on hb, h3.on hb⟩
theorem Q4L.len {w : World} {P : Nat → Prop} {q : Q4} {l : List Value} (h : Q4L w P q l) : l.length = 12 := by
  obtain ⟨A0, c0, B0, d0, A1, c1, B1, d1, A2, c2, B2, d2, A3, c3, B3, d3, rfl, -⟩ := h
  rfl
theorem Q4L.past {w w' : World} {P : Nat → Prop} {q : Q4} {l : List Value} {r : Nat} {cur : Array Value} {t : TypeId} {f : Nat × Nat} (h : Q4L w P q l) (hr : w.heap[r]? = some (.cells cur t f)) (hn : ∀ u ∈ cur.toList, noInt u = true) (hg : w.grownBy w' (some r)) : Q4L w' P q l := by
  obtain ⟨A0, c0, B0, d0, A1, c1, B1, d1, A2, c2, B2, d2, A3, c3, B3, d3, e, h0, h1, h2, h3⟩ := h
  exact ⟨A0, c0, B0, d0, A1, c1, B1, d1, A2, c2, B2, d2, A3, c3, B3, d3, e, h0.pastF hr hn hg, h1.pastF hr hn hg, h2.pastF hr hn hg, h3.pastF hr hn hg⟩
theorem RdR.appendedZ {w w' : World} {base k cv g tr sz : Nat} {V : Option Addr} {vs : List Value} {xs ys : List Int} {A B : Option Addr} {ca cb : Nat} (h : RdR w (fun b => V ≠ some ⟨b, 0, none⟩) xs ys A ca B cb) (ho : w.ownsRow base tr sz (.slice V k cv) k vs)
    (hg : w.grownBy w' (Value.slice V k cv).ownBlock) (hat : (Value.slice V k cv).ownBlock = some g ∨ g = w.heap.size) : RdR w' (fun b => some (⟨g, 0, none⟩ : Addr) ≠ some ⟨b, 0, none⟩) xs ys A ca B cb := by
  have h2 := h.mono (Q := fun b => V ≠ some ⟨b, 0, none⟩ ∧ some (⟨g, 0, none⟩ : Addr) ≠ some ⟨b, 0, none⟩) (fun b hb hl => ⟨hb, fun e => by
    injection e with e
    injection e with e
    subst e
    rcases hat with hat | hat
    · exact hb (row_form ho hat)
    · omega⟩)
  exact (h2.keep hg.size fun b hb hl => hg.block b hl (fun e => hb.1 (row_form ho e.symm))).mono fun b hb _ => hb.2
theorem Q4L.appended {w w' : World} {base k cv g tr sz : Nat} {V : Option Addr} {vs : List Value} {q : Q4} {l : List Value} (h : Q4L w (fun b => V ≠ some ⟨b, 0, none⟩) q l) (ho : w.ownsRow base tr sz (.slice V k cv) k vs)
    (hg : w.grownBy w' (Value.slice V k cv).ownBlock) (hat : (Value.slice V k cv).ownBlock = some g ∨ g = w.heap.size) : Q4L w' (fun b => some (⟨g, 0, none⟩ : Addr) ≠ some ⟨b, 0, none⟩) q l := by
  obtain ⟨A0, c0, B0, d0, A1, c1, B1, d1, A2, c2, B2, d2, A3, c3, B3, d3, e, h0, h1, h2, h3⟩ := h
  exact ⟨A0, c0, B0, d0, A1, c1, B1, d1, A2, c2, B2, d2, A3, c3, B3, d3, e, h0.appendedZ ho hg hat, h1.appendedZ ho hg hat, h2.appendedZ ho hg hat, h3.appendedZ ho hg hat⟩
theorem flatten_get : ∀ (L : List (List Value)), (∀ l ∈ L, l.length = 12) → ∀ i j, i < L.length → j < 12 → L.flatten[i * 12 + j]? = (L.getD i [])[j]?
  | [], _, i, j, hi, _ => by simp at hi
  | l :: L, h, 0, j, _, hj => by
    have hl : l.length = 12 := h l List.mem_cons_self
    simp [List.flatten_cons, List.getElem?_append_left, hl, hj]
  | l :: L, h, i + 1, j, hi, hj => by
    have hl : l.length = 12 := h l List.mem_cons_self
    have ih := flatten_get L (fun x hx => h x (List.mem_cons_of_mem _ hx)) i j (by simpa using hi) hj
    rw [List.flatten_cons, List.getElem?_append_right (by omega), hl, show (i + 1) * 12 + j - 12 = i * 12 + j by omega, ih]
    rfl
theorem getDL_snoc (L : List (List Value)) (l : List Value) (i : Nat) (h : i < L.length) : (L ++ [l]).getD i [] = L.getD i [] := by simp [List.getD, List.getElem?_append_left h]
theorem getDL_last (L : List (List Value)) (l : List Value) : (L ++ [l]).getD L.length [] = l := by simp [List.getD]
theorem getDQ_snoc (js : List Q4) (j : Q4) (i : Nat) (h : i < js.length) : (js ++ [j]).getD i q40 = js.getD i q40 := by simp [List.getD, List.getElem?_append_left h]
theorem getDQ_last (js : List Q4) (j : Q4) : (js ++ [j]).getD js.length q40 = j := by simp [List.getD]
/-- twelve cells of block b from o on -/
abbrev C12 (w : World) (b o : Nat) (x0 x1 x2 x3 x4 x5 x6 x7 x8 x9 x10 x11 : Value) : Prop := b < w.heap.size ∧ (w.cell? ⟨b, o, none⟩ = some x0 ∧ w.cell? ⟨b, o + 1, none⟩ = some x1 ∧ w.cell? ⟨b, o + 2, none⟩ = some x2 ∧ w.cell? ⟨b, o + 3, none⟩ = some x3 ∧ w.cell? ⟨b, o + 4, none⟩ = some x4 ∧ w.cell? ⟨b, o + 5, none⟩ = some x5 ∧ w.cell? ⟨b, o + 6, none⟩ = some x6 ∧ w.cell? ⟨b, o + 7, none⟩ = some x7 ∧ w.cell? ⟨b, o + 8, none⟩ = some x8 ∧ w.cell? ⟨b, o + 9, none⟩ = some x9 ∧ w.cell? ⟨b, o + 10, none⟩ = some x10 ∧ w.cell? ⟨b, o + 11, none⟩ = some x11)
theorem C12.keep {w w' : World} {b o : Nat} {x0 x1 x2 x3 x4 x5 x6 x7 x8 x9 x10 x11 : Value} (h : C12 w b o x0 x1 x2 x3 x4 x5 x6 x7 x8 x9 x10 x11) (hs : w.heap.size ≤ w'.heap.size) (hb : w'.heap[b]? = w.heap[b]?) : C12 w' b o x0 x1 x2 x3 x4 x5 x6 x7 x8 x9 x10 x11 := by
  obtain ⟨hl, h0, h1, h2, h3, h4, h5, h6, h7, h8, h9, h10, h11⟩ := h
  exact ⟨Nat.lt_of_lt_of_le hl hs, (World.cell?_of_block (a := ⟨b, o, none⟩) hb).trans h0, (World.cell?_of_block (a := ⟨b, o + 1, none⟩) hb).trans h1, (World.cell?_of_block (a := ⟨b, o + 2, none⟩) hb).trans h2, (World.cell?_of_block (a := ⟨b, o + 3, none⟩) hb).trans h3, (World.cell?_of_block (a := ⟨b, o + 4, none⟩) hb).trans h4, (World.cell?_of_block (a := ⟨b, o + 5, none⟩) hb).trans h5, (World.cell?_of_block (a := ⟨b, o + 6, none⟩) hb).trans h6, (World.cell?_of_block (a := ⟨b, o + 7, none⟩) hb).trans h7, (World.cell?_of_block (a := ⟨b, o + 8, none⟩) hb).trans h8, (World.cell?_of_block (a := ⟨b, o + 9, none⟩) hb).trans h9, (World.cell?_of_block (a := ⟨b, o + 10, none⟩) hb).trans h10, (World.cell?_of_block (a := ⟨b, o + 11, none⟩) hb).trans h11⟩
theorem C12.on {w w' : World} {b o : Nat} {x0 x1 x2 x3 x4 x5 x6 x7 x8 x9 x10 x11 : Value} (h : C12 w b o x0 x1 x2 x3 x4 x5 x6 x7 x8 x9 x10 x11) (hb : Below w.heap.size w w') : C12 w' b o x0 x1 x2 x3 x4 x5 x6 x7 x8 x9 x10 x11 := h.keep hb.size (hb.block b h.1)
theorem C12.past {w w' : World} {b o r : Nat} {x0 x1 x2 x3 x4 x5 x6 x7 x8 x9 x10 x11 : Value} (h : C12 w b o x0 x1 x2 x3 x4 x5 x6 x7 x8 x9 x10 x11) (hg : w.grownBy w' (some r)) (hne : b ≠ r) : C12 w' b o x0 x1 x2 x3 x4 x5 x6 x7 x8 x9 x10 x11 := h.keep hg.size (hg.block b h.1 (fun e => hne (by injection e)))
theorem NodeAt.pastZ {w w' : World} {b r : Nat} {t : TypeId} {op x y n : Int} (h : NodeAt w b t op x y n) (hg : w.grownBy w' (some r)) (hne : b ≠ r) : NodeAt w' b t op x y n := (hg.block b h.lt (fun e => hne (by injection e))).trans h
/-- what stays so while a node's jet is worked out -/
def EvSt (tQ tE : TypeId) (w v : World) (A : Option Addr) (n c : Nat) (V : Option Addr) (k cv : Nat) (L : List (List Value)) (js : List Q4) : Prop :=
  v.ownsRow (w.heap.size + 2) tQ 12 (.slice V k cv) k L.flatten ∧ (L.length = k ∧ js.length = k ∧ ∀ i, i < k → Q4L v (fun b => V ≠ some ⟨b, 0, none⟩) (js.getD i q40) (L.getD i [])) ∧ SlAt v w.heap.size tE A n c ∧ Q4At v (w.heap.size + 1) tQ (.bool false) (.slice none 0 0) (.slice none 0 0) (.bool false) (.slice none 0 0) (.slice none 0 0) (.bool false) (.slice none 0 0) (.slice none 0 0) (.bool false) (.slice none 0 0) (.slice none 0 0) ∧ Free v V ∧ Below w.heap.size w v
section
variable {tQ tE : TypeId} {w v v' : World} {A V : Option Addr} {n c k cv : Nat} {L : List (List Value)} {js : List Q4}
theorem EvSt.on (h : EvSt tQ tE w v A n c V k cv L js) (hb : Below v.heap.size v v') : EvSt tQ tE w v' A n c V k cv L js :=
  ⟨own_keep3 h.1 hb, ⟨h.2.1.1, h.2.1.2.1, fun i hi => (h.2.1.2.2 i hi).on hb⟩, h.2.2.1.on hb, h.2.2.2.1.on hb, h.2.2.2.2.1.on hb (own_ltF h.1), below_on h.2.2.2.2.2 hb⟩
theorem EvSt.set {r : Nat} {cur : Array Value} {t : TypeId} {f : Nat × Nat} (h : EvSt tQ tE w v A n c V k cv L js) (hr : v.heap[r]? = some (.cells cur t f)) (hn : ∀ u ∈ cur.toList, noInt u = true) (hg : v.grownBy v' (some r)) (h1 : w.heap.size + 1 < r) (h2 : ∀ x, V = some ⟨x, 0, none⟩ → x ≠ r) : EvSt tQ tE w v' A n c V k cv L js := by
  refine ⟨h.1.kept hg ?_, ⟨h.2.1.1, h.2.1.2.1, fun i hi => (h.2.1.2.2 i hi).past hr hn hg⟩, h.2.2.1.past hg (by omega), h.2.2.2.1.past hg (by omega), ?_, below_grow h.2.2.2.2.2 (by omega) hg⟩
  · rcases h.1.2 with ⟨e, _⟩ | ⟨x, cap, cur', e, _⟩
    · injection e with e; subst e; exact .inl rfl
    · injection e with e
      subst e
      exact .inr (fun q => h2 x rfl (by simpa [Value.ownBlock] using q))
  · intro g e cur' t' f' hc
    have hlt := own_ltF h.1 g e
    exact h.2.2.2.2.1 g e cur' t' f' ((hg.block g hlt (fun q => h2 g e (by injection q))).symm.trans hc)
theorem EvSt.lt (h : EvSt tQ tE w v A n c V k cv L js) : ∀ x, V = some ⟨x, 0, none⟩ → x < v.heap.size := own_ltF h.1
theorem EvSt.box (h : EvSt tQ tE w v A n c V k cv L js) : w.heap.size + 1 < v.heap.size := h.2.2.2.1.lt
theorem EvSt.all12 (h : EvSt tQ tE w v A n c V k cv L js) : ∀ l ∈ L, l.length = 12 := by
  intro l hl
  obtain ⟨i, hi, rfl⟩ := List.mem_iff_getElem.1 hl
  have := (h.2.1.2.2 i (by rw [← h.2.1.1]; exact hi)).len
  have e : L.getD i [] = L[i] := by simp [List.getD, hi]
  rwa [e] at this
/-- two elements of the list -/
theorem EvSt.two (h : EvSt tQ tE w v A n c V k cv L js) {i l : Nat} (hi : i < k) (hl : l < k) :
    ∃ (b o : Nat) (Ai0 : Option Addr) (ci0 : Nat) (Bi0 : Option Addr) (di0 : Nat) (Ai1 : Option Addr) (ci1 : Nat) (Bi1 : Option Addr) (di1 : Nat) (Ai2 : Option Addr) (ci2 : Nat) (Bi2 : Option Addr) (di2 : Nat) (Ai3 : Option Addr) (ci3 : Nat) (Bi3 : Option Addr) (di3 : Nat) (Al0 : Option Addr) (cl0 : Nat) (Bl0 : Option Addr) (dl0 : Nat) (Al1 : Option Addr) (cl1 : Nat) (Bl1 : Option Addr) (dl1 : Nat) (Al2 : Option Addr) (cl2 : Nat) (Bl2 : Option Addr) (dl2 : Nat) (Al3 : Option Addr) (cl3 : Nat) (Bl3 : Option Addr) (dl3 : Nat), V = some ⟨b, o, none⟩ ∧ b < v.heap.size ∧ (v.cell? ⟨b, o + i * 12, none⟩ = some (.bool (isNeg (js.getD i q40).f)) ∧ v.cell? ⟨b, o + i * 12 + 1, none⟩ = some (.slice Ai0 (D (nu (js.getD i q40).f)).length ci0) ∧ v.cell? ⟨b, o + i * 12 + 2, none⟩ = some (.slice Bi0 (D (js.getD i q40).f.den).length di0) ∧ v.cell? ⟨b, o + i * 12 + 3, none⟩ = some (.bool (isNeg (js.getD i q40).v)) ∧ v.cell? ⟨b, o + i * 12 + 4, none⟩ = some (.slice Ai1 (D (nu (js.getD i q40).v)).length ci1) ∧ v.cell? ⟨b, o + i * 12 + 5, none⟩ = some (.slice Bi1 (D (js.getD i q40).v.den).length di1) ∧ v.cell? ⟨b, o + i * 12 + 6, none⟩ = some (.bool (isNeg (js.getD i q40).w)) ∧ v.cell? ⟨b, o + i * 12 + 7, none⟩ = some (.slice Ai2 (D (nu (js.getD i q40).w)).length ci2) ∧ v.cell? ⟨b, o + i * 12 + 8, none⟩ = some (.slice Bi2 (D (js.getD i q40).w.den).length di2) ∧ v.cell? ⟨b, o + i * 12 + 9, none⟩ = some (.bool (isNeg (js.getD i q40).vw)) ∧ v.cell? ⟨b, o + i * 12 + 10, none⟩ = some (.slice Ai3 (D (nu (js.getD i q40).vw)).length ci3) ∧ v.cell? ⟨b, o + i * 12 + 11, none⟩ = some (.slice Bi3 (D (js.getD i q40).vw.den).length di3)) ∧ (v.cell? ⟨b, o + l * 12, none⟩ = some (.bool (isNeg (js.getD l q40).f)) ∧ v.cell? ⟨b, o + l * 12 + 1, none⟩ = some (.slice Al0 (D (nu (js.getD l q40).f)).length cl0) ∧ v.cell? ⟨b, o + l * 12 + 2, none⟩ = some (.slice Bl0 (D (js.getD l q40).f.den).length dl0) ∧ v.cell? ⟨b, o + l * 12 + 3, none⟩ = some (.bool (isNeg (js.getD l q40).v)) ∧ v.cell? ⟨b, o + l * 12 + 4, none⟩ = some (.slice Al1 (D (nu (js.getD l q40).v)).length cl1) ∧ v.cell? ⟨b, o + l * 12 + 5, none⟩ = some (.slice Bl1 (D (js.getD l q40).v.den).length dl1) ∧ v.cell? ⟨b, o + l * 12 + 6, none⟩ = some (.bool (isNeg (js.getD l q40).w)) ∧ v.cell? ⟨b, o + l * 12 + 7, none⟩ = some (.slice Al2 (D (nu (js.getD l q40).w)).length cl2) ∧ v.cell? ⟨b, o + l * 12 + 8, none⟩ = some (.slice Bl2 (D (js.getD l q40).w.den).length dl2) ∧ v.cell? ⟨b, o + l * 12 + 9, none⟩ = some (.bool (isNeg (js.getD l q40).vw)) ∧ v.cell? ⟨b, o + l * 12 + 10, none⟩ = some (.slice Al3 (D (nu (js.getD l q40).vw)).length cl3) ∧ v.cell? ⟨b, o + l * 12 + 11, none⟩ = some (.slice Bl3 (D (js.getD l q40).vw.den).length dl3)) ∧ (RdR v (fun _ => True) (D (nu (js.getD i q40).f)) (D (js.getD i q40).f.den) Ai0 ci0 Bi0 di0 ∧ RdR v (fun _ => True) (D (nu (js.getD i q40).v)) (D (js.getD i q40).v.den) Ai1 ci1 Bi1 di1 ∧ RdR v (fun _ => True) (D (nu (js.getD i q40).w)) (D (js.getD i q40).w.den) Ai2 ci2 Bi2 di2 ∧ RdR v (fun _ => True) (D (nu (js.getD i q40).vw)) (D (js.getD i q40).vw.den) Ai3 ci3 Bi3 di3) ∧ (RdR v (fun _ => True) (D (nu (js.getD l q40).f)) (D (js.getD l q40).f.den) Al0 cl0 Bl0 dl0 ∧ RdR v (fun _ => True) (D (nu (js.getD l q40).v)) (D (js.getD l q40).v.den) Al1 cl1 Bl1 dl1 ∧ RdR v (fun _ => True) (D (nu (js.getD l q40).w)) (D (js.getD l q40).w.den) Al2 cl2 Bl2 dl2 ∧ RdR v (fun _ => True) (D (nu (js.getD l q40).vw)) (D (js.getD l q40).vw.den) Al3 cl3 Bl3 dl3) := by
  obtain ⟨g, rfl, hb, hlt, _⟩ := row_at1 h.1 (by omega)
  have e12 := h.all12
  obtain ⟨Ai0, ci0, Bi0, di0, Ai1, ci1, Bi1, di1, Ai2, ci2, Bi2, di2, Ai3, ci3, Bi3, di3, ei, p0, p1, p2, p3⟩ := h.2.1.2.2 i hi
  obtain ⟨Al0, cl0, Bl0, dl0, Al1, cl1, Bl1, dl1, Al2, cl2, Bl2, dl2, Al3, cl3, Bl3, dl3, el, r0, r1, r2, r3⟩ := h.2.1.2.2 l hl
  have T : ∀ {P : Nat → Prop} {xs ys : List Int} {A B : Option Addr} {ca cb : Nat}, RdR v P xs ys A ca B cb → RdR v (fun _ => True) xs ys A ca B cb := fun h => h.mono fun _ _ _ => trivial
  have G : ∀ m, m < k → ∀ j, j < 12 → v.cell? ⟨g, 0 + m * 12 + j, none⟩ = (L.getD m [])[j]? := fun m hm j hj => by
    rw [Nat.zero_add, ← flatten_get L e12 m j (by rw [h.2.1.1]; exact hm) hj]
    exact h.1.cellAt (m * 12 + j) (by omega)
  refine ⟨g, 0, Ai0, ci0, Bi0, di0, Ai1, ci1, Bi1, di1, Ai2, ci2, Bi2, di2, Ai3, ci3, Bi3, di3, Al0, cl0, Bl0, dl0, Al1, cl1, Bl1, dl1, Al2, cl2, Bl2, dl2, Al3, cl3, Bl3, dl3, rfl, hlt, ?_, ?_, ⟨T p0, T p1, T p2, T p3⟩, T r0, T r1, T r2, T r3⟩
  · have H := G i hi
    rw [ei] at H
    exact ⟨H 0 (by decide), H 1 (by decide), H 2 (by decide), H 3 (by decide), H 4 (by decide), H 5 (by decide), H 6 (by decide), H 7 (by decide), H 8 (by decide), H 9 (by decide), H 10 (by decide), H 11 (by decide)⟩
  · have H := G l hl
    rw [el] at H
    exact ⟨H 0 (by decide), H 1 (by decide), H 2 (by decide), H 3 (by decide), H 4 (by decide), H 5 (by decide), H 6 (by decide), H 7 (by decide), H 8 (by decide), H 9 (by decide), H 10 (by decide), H 11 (by decide)⟩
end
theorem oneQ (n0 n1 n2 n3 : Bool) (A0 B0 A1 B1 A2 B2 A3 B3 : Option Addr) (a0 c0 b0 d0 a1 c1 b1 d1 a2 c2 b2 d2 a3 c3 b3 d3 : Nat) : ∀ u ∈ [Value.bool n0, .slice A0 a0 c0, .slice B0 b0 d0, Value.bool n1, .slice A1 a1 c1, .slice B1 b1 d1, Value.bool n2, .slice A2 a2 c2, .slice B2 b2 d2, Value.bool n3, .slice A3 a3 c3, .slice B3 b3 d3], u.oneCell' = true := by
  intro u hu
  simp at hu
  rcases hu with rfl | rfl | rfl | rfl | rfl | rfl | rfl | rfl | rfl | rfl | rfl | rfl <;> rfl
theorem Q4V.past {w w' : World} {q : Q4} {v : Value} {r : Nat} {cur : Array Value} {t : TypeId} {f : Nat × Nat} (h : Q4V w q v) (hr : w.heap[r]? = some (.cells cur t f)) (hn : ∀ u ∈ cur.toList, noInt u = true) (hg : w.grownBy w' (some r)) : Q4V w' q v := by
  obtain ⟨A0, c0, B0, d0, A1, c1, B1, d1, A2, c2, B2, d2, A3, c3, B3, d3, e, h0, h1, h2, h3⟩ := h
  exact ⟨A0, c0, B0, d0, A1, c1, B1, d1, A2, c2, B2, d2, A3, c3, B3, d3, e, h0.pastF hr hn hg, h1.pastF hr hn hg, h2.pastF hr hn hg, h3.pastF hr hn hg⟩
theorem getDL_at {L : List (List Value)} {i : Nat} (h : L.length = i) (l : List Value) : (L ++ [l]).getD i [] = l := by subst h; exact getDL_last L l
theorem getDQ_at {js : List Q4} {i : Nat} (h : js.length = i) (j : Q4) : (js ++ [j]).getD i q40 = j := by subst h; exact getDQ_last js j
theorem con_lims {q : Rat} {k : Nat} (h : lim q k) (hk : 1 ≤ k) : lims (con4 q) k := ⟨h, lim_mono lim_zero hk, lim_mono lim_zero hk, lim_mono lim_zero hk⟩
theorem add_lims {a b : Q4} {k l : Nat} (h : lims a k) (h' : lims b l) : lims (add4 a b) (k + l + 1) := ⟨lim_add h.1 h'.1, lim_add h.2.1 h'.2.1, lim_add h.2.2.1 h'.2.2.1, lim_add h.2.2.2 h'.2.2.2⟩
theorem neg_lims {a : Q4} {k : Nat} (h : lims a k) : lims (neg4 a) k := ⟨lim_neg h.1, lim_neg h.2.1, lim_neg h.2.2.1, lim_neg h.2.2.2⟩
theorem mul_lims {a b : Q4} {k l : Nat} (h : lims a k) (h' : lims b l) : lims (mul4 a b) (4 * (k + l) + 3) := by
  refine ⟨lim_mono (lim_mul h.1 h'.1) (by omega), lim_mono (lim_add (lim_mul h.2.1 h'.1) (lim_mul h.1 h'.2.1)) (by omega), lim_mono (lim_add (lim_mul h.2.2.1 h'.1) (lim_mul h.1 h'.2.2.1)) (by omega), ?_⟩
  exact lim_mono (lim_add (lim_add (lim_mul h.2.2.2 h'.1) (lim_mul h.1 h'.2.2.2)) (lim_add (lim_mul h.2.1 h'.2.2.1) (lim_mul h.2.2.1 h'.2.1))) (by omega)
theorem over_lims {a : Q4} (h : lims a 40) : lims (over4 a) 400 := by
  have i : lim (1 / a.f) 40 := by rw [Rat.div_def, Rat.one_mul]; exact lim_inv h.1 (by omega)
  refine ⟨lim_mono i (by omega), lim_mono (lim_neg (lim_mul h.2.1 (lim_mul i i))) (by omega), lim_mono (lim_neg (lim_mul h.2.2.1 (lim_mul i i))) (by omega), ?_⟩
  exact lim_mono (lim_sub (lim_mul (lim_mul lim_two (lim_mul (lim_mul i i) i)) (lim_mul h.2.1 h.2.2.1)) (lim_mul h.2.2.2 (lim_mul i i))) (by omega)
def jetQ (a : Q4) : Jt := .mv (.mv (.fx a.f) (.fx a.v)) (.mv (.fx a.w) (.fx a.vw))
theorem r4_jetQ (a : Q4) : r4 (jetQ a) = a := by simp [r4, jetQ, numJ, Jt.at_]
theorem pow_lims {a : Q4} (h : lims a 40) (t : Nat) (ht : t ≤ 8) : lims (toPow4 a t) 800 := by
  have hj : L2 (jetQ a) 40 40 40 40 := ⟨by simp [jetQ, Jt.dep], by simpa [jetQ, numJ] using h.1, by simpa [jetQ, numJ, Jt.at_] using h.2.1, by simpa [jetQ, numJ] using h.2.2.1, by simpa [jetQ, numJ] using h.2.2.2⟩
  have hr := hj.raise ht
  have e := r4_raise (jetQ a) t
  rw [r4_jetQ] at e
  rw [← e]
  exact ⟨lim_mono hr.2.1 (by omega), lim_mono hr.2.2.1 (by omega), lim_mono hr.2.2.2.1 (by omega), lim_mono hr.2.2.2.2 (by omega)⟩
theorem ev4_none {X V W : List Rat} {ns : List Nd} {k : Nat} {js : List Q4} (hk : k < ns.length) (hj : eval4 X V W (ns.take k) = (js, 0)) (hs : step4 X V W js (ns.getD k nd0) = none) : eval4 X V W ns = ([], 10) := by
  have e : eval4 X V W (ns.take (k + 1)) = ([], 10) := by rw [eval4_take X V W ns k hk, hj]; unfold estep4; rw [if_pos rfl]; dsimp only; rw [hs]
  rw [eval4_stop X V W ns (k + 1) (by rw [e]; decide), e]
theorem ev4_full {X V W : List Rat} {ns : List Nd} {k : Nat} {js : List Q4} {j : Q4} (hk : k < ns.length) (hj : eval4 X V W (ns.take k) = (js, 0)) (hs : step4 X V W js (ns.getD k nd0) = some j) (hf : ¬ fit4 j) : eval4 X V W ns = ([], 7) := by
  have e : eval4 X V W (ns.take (k + 1)) = ([], 7) := by rw [eval4_take X V W ns k hk, hj]; unfold estep4; rw [if_pos rfl]; dsimp only; rw [hs]; dsimp only; rw [if_neg hf]
  rw [eval4_stop X V W ns (k + 1) (by rw [e]; decide), e]
theorem ev4_more {X V W : List Rat} {ns : List Nd} {k : Nat} {js : List Q4} {j : Q4} (hk : k < ns.length) (hj : eval4 X V W (ns.take k) = (js, 0)) (hs : step4 X V W js (ns.getD k nd0) = some j) (hf : fit4 j) : eval4 X V W (ns.take (k + 1)) = (js ++ [j], 0) := by
  rw [eval4_take X V W ns k hk, hj]; unfold estep4; rw [if_pos rfl]; dsimp only; rw [hs]; dsimp only; rw [if_pos hf]
theorem getQ_fit {js : List Q4} (h : ∀ q ∈ js, fit4 q) (i : Nat) (hi : i < js.length) : lims (js.getD i q40) 40 := by
  have e : js.getD i q40 = js[i] := by simp [List.getD, hi]
  rw [e]; exact h _ (List.getElem_mem hi)
theorem lim_num4 (n : Int) (h0 : 0 ≤ n) (h1 : n ≤ 999999999) : lim (n : Rat) 40 := by
  constructor
  · have e : nu (n : Rat) = n.natAbs := by unfold nu; rw [Rat.num_intCast]
    rw [e]; refine (D_len_le _ 40).2 (Nat.lt_of_le_of_lt (show n.natAbs ≤ 999999999 by omega) (by decide))
  · rw [Rat.den_intCast, D_1_len]; omega
end Nt
