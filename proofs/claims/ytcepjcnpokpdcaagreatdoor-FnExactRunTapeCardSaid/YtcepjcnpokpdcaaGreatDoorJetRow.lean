/-
  Lists of jets in memory.
-/
import Derived.Test.YtcepjcnpokpdcaaGreatDoorJetEval
import Derived.Test.YtcepjcnpokpdcaaGreatDoorVecScale
namespace Nt
open Go Go.RowKit
theorem JAt.keep {tF tM : TypeId} {w w' : World} {P : Nat → Prop} (hs : w.heap.size ≤ w'.heap.size) (hk : ∀ b, P b → b < w.heap.size → w'.heap[b]? = w.heap[b]?) : ∀ {j : Jt} {v : Value}, JAt tF tM w P j v → JAt tF tM w' P j v
  | .fx _, _, ⟨A, ca, B, cb, e, h⟩ => ⟨A, ca, B, cb, e, h.keep hs hk⟩
  | .mv _ _, _, ⟨va, vs, e, h1, h2⟩ => ⟨va, vs, e, JAt.keep hs hk h1, JAt.keep hs hk h2⟩
theorem row_form {w : World} {base k cv g tr sz : Nat} {V : Option Addr} {vs : List Value} (ho : w.ownsRow base tr sz (.slice V k cv) k vs) (hb : (Value.slice V k cv).ownBlock = some g) : V = some ⟨g, 0, none⟩ := by
  rcases ho.2 with ⟨e, _⟩ | ⟨g', cap, cur, e, _⟩
  · injection e with e; subst e; cases hb
  · injection e with e; subst e; simp [Value.ownBlock] at hb; rw [hb]
/-- a jet's numbers lie elsewhere than the row that grows -/
theorem JAt.appended {tF tM : TypeId} {w w' : World} {base k cv g tr sz : Nat} {V : Option Addr} {vs : List Value} {j : Jt} {v : Value} (h : JAt tF tM w (fun b => V ≠ some ⟨b, 0, none⟩) j v) (ho : w.ownsRow base tr sz (.slice V k cv) k vs)
    (hg : w.grownBy w' (Value.slice V k cv).ownBlock) (hat : (Value.slice V k cv).ownBlock = some g ∨ g = w.heap.size) : JAt tF tM w' (fun b => some (⟨g, 0, none⟩ : Addr) ≠ some ⟨b, 0, none⟩) j v := by
  have h2 := h.mono (Q := fun b => V ≠ some ⟨b, 0, none⟩ ∧ some (⟨g, 0, none⟩ : Addr) ≠ some ⟨b, 0, none⟩) (fun b hb hl => ⟨hb, fun e => by
    injection e with e
    injection e with e
    subst e
    rcases hat with hat | hat
    · exact hb (row_form ho hat)
    · omega⟩)
  exact (h2.keep hg.size fun b hb hl => hg.block b hl (fun e => hb.1 (row_form ho e.symm))).mono fun b hb _ => hb.2
theorem row_at1 {w : World} {base n c tr sz : Nat} {V : Option Addr} {xs : List Value} (h : w.ownsRow base tr sz (.slice V n c) n xs) (hn : 0 < n) : ∃ g, V = some ⟨g, 0, none⟩ ∧ base ≤ g ∧ g < w.heap.size ∧ n ≤ c := by
  rcases h.2 with ⟨e, h0⟩ | ⟨g, cap, cur, e', hb, hh, hc, _⟩
  · omega
  · injection e' with e1 e2 e3
    have := h.lt g (by rw [e1]; rfl)
    exact ⟨g, e1, hb, this.2, by omega⟩
/-- jets that can be read, beside a row of the call's own -/
def PartsJ (tF tM : TypeId) (w : World) (V : Option Addr) (js : List Jt) (vs : List Value) : Prop :=
  js.length = vs.length ∧ ∀ i, i < vs.length → ∃ t x, vs.getD i .nilIface = .iface t x ∧ JAt tF tM w (fun b => V ≠ some ⟨b, 0, none⟩) (js.getD i j0) (.iface t x)
section
variable {tF tM : TypeId} {w w' : World} {V : Option Addr} {js : List Jt} {vs : List Value}
theorem PartsJ.nil (tF tM : TypeId) (w : World) (V : Option Addr) : PartsJ tF tM w V [] [] := ⟨rfl, fun i hi => by simp at hi⟩
theorem PartsJ.on (h : PartsJ tF tM w V js vs) (hb : Below w.heap.size w w') : PartsJ tF tM w' V js vs := ⟨h.1, fun i hi => by
  obtain ⟨t, x, e, hj⟩ := h.2 i hi
  exact ⟨t, x, e, hj.on hb⟩⟩
theorem getDJ_snoc (js : List Jt) (j : Jt) (i : Nat) (h : i < js.length) : (js ++ [j]).getD i j0 = js.getD i j0 := by simp [List.getD, List.getElem?_append_left h]
theorem getDJ_last (js : List Jt) (j : Jt) : (js ++ [j]).getD js.length j0 = j := by simp [List.getD]
theorem getDV_snoc (vs : List Value) (v : Value) (i : Nat) (h : i < vs.length) : (vs ++ [v]).getD i .nilIface = vs.getD i .nilIface := by simp [List.getD, List.getElem?_append_left h]
theorem getDV_last (vs : List Value) (v : Value) : (vs ++ [v]).getD vs.length .nilIface = v := by simp [List.getD]
theorem PartsJ.snoc {j : Jt} {t : TypeId} {x : Value} (h : PartsJ tF tM w V js vs) (hj : JAt tF tM w (fun b => V ≠ some ⟨b, 0, none⟩) j (.iface t x)) : PartsJ tF tM w V (js ++ [j]) (vs ++ [.iface t x]) := by
  refine ⟨by simp [h.1], fun i hi => ?_⟩
  by_cases e : i < vs.length
  · rw [getDV_snoc _ _ _ e, getDJ_snoc _ _ _ (by rw [h.1]; exact e)]; exact h.2 i e
  · obtain rfl : i = vs.length := by simp at hi; omega
    refine ⟨t, x, getDV_last _ _, ?_⟩
    rw [← h.1, getDJ_last]; exact hj
theorem PartsJ.appended {base k cv g tr sz : Nat} {us : List Value} (h : PartsJ tF tM w V js vs) (ho : w.ownsRow base tr sz (.slice V k cv) k us) (hg : w.grownBy w' (Value.slice V k cv).ownBlock) (hat : (Value.slice V k cv).ownBlock = some g ∨ g = w.heap.size) : PartsJ tF tM w' (some ⟨g, 0, none⟩) js vs :=
  ⟨h.1, fun i hi => by
    obtain ⟨t, x, e, hj⟩ := h.2 i hi
    exact ⟨t, x, e, hj.appended ho hg hat⟩⟩
/-- the slice reads as the jets js -/
def RdJ (tF tM : TypeId) (w : World) (A : Option Addr) (n c : Nat) (js : List Jt) : Prop :=
  js.length = n ∧ n ≤ c ∧ (0 < n → ∃ b o, A = some ⟨b, o, none⟩ ∧ b < w.heap.size ∧ ∀ i, i < n → ∃ t x, w.cell? ⟨b, o + i, none⟩ = some (.iface t x) ∧ JAt tF tM w (fun _ => True) (js.getD i j0) (.iface t x))
theorem RdJ.on {A : Option Addr} {n c : Nat} (h : RdJ tF tM w A n c js) (hb : Below w.heap.size w w') : RdJ tF tM w' A n c js :=
  ⟨h.1, h.2.1, fun hn => by
    obtain ⟨b, o, e, hl, hc⟩ := h.2.2 hn
    refine ⟨b, o, e, Nat.lt_of_lt_of_le hl hb.size, fun i hi => ?_⟩
    obtain ⟨t, x, h1, h2⟩ := hc i hi
    exact ⟨t, x, (World.cell?_of_block (a := ⟨b, o + i, none⟩) (hb.block _ hl)).trans h1, h2.on hb⟩⟩
theorem PartsJ.rdj {base n c tr : Nat} (h : PartsJ tF tM w V js vs) (ho : w.ownsRow base tr 1 (.slice V n c) n vs) : RdJ tF tM w V n c js := by
  have hl : vs.length = n := by have := ho.1; omega
  refine ⟨by rw [h.1, hl], ?_, fun hn => ?_⟩
  · rcases ho.2 with ⟨e, h0⟩ | ⟨g, cap, cur, e', hb, hh, hc, _⟩
    · omega
    · injection e' with e1 e2 e3
      omega
  · obtain ⟨g, rfl, hb, hlt, _⟩ := row_at1 ho hn
    refine ⟨g, 0, rfl, hlt, fun i hi => ?_⟩
    obtain ⟨t, x, e, hj⟩ := h.2 i (by omega)
    refine ⟨t, x, ?_, hj.mono fun _ _ _ => trivial⟩
    rw [Nat.zero_add]
    have e2 : vs[i]? = some (.iface t x) := by
      rw [← e]; simp [List.getD, hl, hi]
    exact (ho.cellAt i (by omega)).trans e2
end
theorem oneJ (t : TypeId) (x : Value) : ∀ u ∈ [Value.iface t x], u.oneCell' = true := by
  intro u hu
  simp at hu
  subst hu; rfl
theorem cellJ (w : World) (t : TypeId) (v : Value) : ∀ j u, [v][j]? = some u → (w.alloc (.cells #[v] t)).cell? ((⟨w.heap.size, 0, none⟩ : Addr).add j) = some u := by
  intro j u hj
  rw [add_none]
  match j, hj with
  | 0, hj => simp at hj; subst hj; rw [cell_of_row _ _ 0 _ _ (0, 0) (heap_alloc_new w _)]; rfl
  | (k + 1), hj => simp at hj
/-- as a row's new neighbour is made ahead of it -/
theorem row1_below {w w' : World} {base : Nat} {te : TypeId} {sz : Nat} {V : Option Addr} {n c : Nat} {xs : List Value} (ho : w.ownsRow base te sz (.slice V n c) n xs) (hb : base ≤ w.heap.size) (hg : w.grownBy w' (Value.slice V n c).ownBlock) : Below base w w' :=
  ⟨hg.os, hg.tape, hg.output, hg.size, fun k hk => hg.block k (by omega) (fun e => by have := (ho.lt _ e.symm).1; omega)⟩
theorem own_keep1 {w w' : World} {base : Nat} {te : TypeId} {sz : Nat} {V : Option Addr} {n c : Nat} {xs : List Value} (ho : w.ownsRow base te sz (.slice V n c) n xs) (hb : Below w.heap.size w w') : w'.ownsRow base te sz (.slice V n c) n xs := own_keep3 ho hb
end Nt
