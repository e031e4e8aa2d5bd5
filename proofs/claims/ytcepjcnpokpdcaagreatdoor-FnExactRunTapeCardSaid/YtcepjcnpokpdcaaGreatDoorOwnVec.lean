/-
  Lists of rationals in memory of a call's own; the marks that the laws write into them.
-/
import Derived.Test.YtcepjcnpokpdcaaGreatDoorVecRow
namespace Nt
open Go Go.RowKit
/-- an element, and where its lists lie -/
structure EV where
  neg : Bool
  A : Option Addr
  ca : Nat
  B : Option Addr
  cb : Nat
  xs : List Int
  ys : List Int
def e0 : EV := ⟨false, none, 0, none, 0, [], []⟩
def EV.v3 (r : EV) : R3 := (r.neg, r.xs, r.ys)
def EV.cs (r : EV) : List Value := [.bool r.neg, .slice r.A r.xs.length r.ca, .slice r.B r.ys.length r.cb]
def flat (L : List EV) : List Value := L.flatMap EV.cs
def EV.has (r : EV) (g : Nat) : Prop := r.A = some ⟨g, 0, none⟩ ∨ r.B = some ⟨g, 0, none⟩
def OwnE (ti : TypeId) (w : World) (base : Nat) (r : EV) : Prop := OwnR ti w base r.xs r.ys r.A r.ca r.B r.cb
/-- a vector in memory of a call's own -/
def OwnV (tr ti : TypeId) (w : World) (base : Nat) (V : Option Addr) (n c : Nat) (L : List EV) : Prop :=
  w.ownsRow base tr 3 (.slice V n c) n (flat L) ∧ (∀ i, i < L.length → OwnE ti w base (L.getD i e0)) ∧ ∀ i j, i < j → j < L.length → ∀ g, (L.getD i e0).has g → (L.getD j e0).has g → False
theorem flat_len (L : List EV) : (flat L).length = L.length * 3 := by
  induction L with
  | nil => rfl
  | cons r L ih => simp [flat, EV.cs] at ih ⊢; omega
theorem flat_cons (r : EV) (L : List EV) : flat (r :: L) = .bool r.neg :: .slice r.A r.xs.length r.ca :: .slice r.B r.ys.length r.cb :: flat L := rfl
theorem flat_snoc (L : List EV) (r : EV) : flat (L ++ [r]) = flat L ++ r.cs := by simp [flat]
theorem flat_get (L : List EV) : ∀ (i : Nat), i < L.length → (flat L)[i * 3]? = some (.bool (L.getD i e0).neg) ∧ (flat L)[i * 3 + 1]? = some (.slice (L.getD i e0).A (L.getD i e0).xs.length (L.getD i e0).ca) ∧ (flat L)[i * 3 + 2]? = some (.slice (L.getD i e0).B (L.getD i e0).ys.length (L.getD i e0).cb) := by
  induction L with
  | nil => intro i hi; simp at hi
  | cons r L ih =>
    intro i hi
    rw [flat_cons]
    cases i with
    | zero => exact ⟨rfl, rfl, rfl⟩
    | succ i =>
      have := ih i (by simpa using hi)
      rw [show (i + 1) * 3 = i * 3 + 1 + 1 + 1 from by omega]
      simpa using this
theorem flat_set (L : List EV) : ∀ (i : Nat) (r : EV), i < L.length → r.A = (L.getD i e0).A → r.ca = (L.getD i e0).ca → r.B = (L.getD i e0).B → r.cb = (L.getD i e0).cb → r.xs.length = (L.getD i e0).xs.length → r.ys.length = (L.getD i e0).ys.length → (flat L).set (i * 3) (.bool r.neg) = flat (L.set i r) := by
  induction L with
  | nil => intro i r hi; simp at hi
  | cons q L ih =>
    intro i r hi h1 h2 h3 h4 h5 h6
    cases i with
    | zero =>
      simp only [List.getD_cons_zero] at h1 h2 h3 h4 h5 h6
      rw [Nat.zero_mul, List.set_cons_zero, flat_cons, flat_cons, List.set_cons_zero, h1, h2, h3, h4, h5, h6]
    | succ i =>
      rw [List.set_cons_succ, flat_cons, flat_cons, ← ih i r (by simpa using hi) (by simpa using h1) (by simpa using h2) (by simpa using h3) (by simpa using h4) (by simpa using h5) (by simpa using h6), show (i + 1) * 3 = i * 3 + 1 + 1 + 1 from by omega]
      rfl
section
variable {tr ti : TypeId} {w w' : World} {base n c : Nat} {V : Option Addr} {L : List EV}
theorem OwnV.len (h : OwnV tr ti w base V n c L) : L.length = n := by
  have h1 := h.1.1
  rw [flat_len] at h1
  omega
theorem own_keep3 {v : Value} {e : TypeId} {size m : Nat} {xs : List Value} (h : w.ownsRow base e size v m xs) (hb : Below w.heap.size w w') : w'.ownsRow base e size v m xs := by
  refine h.kept (row := none) ⟨hb.os, hb.tape, hb.output, hb.size, fun k hk _ => hb.block k hk⟩ ?_
  cases hA : v.ownBlock with
  | none => exact .inl rfl
  | some g => exact .inr (by simp)
theorem OwnV.on (h : OwnV tr ti w base V n c L) (hb : Below w.heap.size w w') : OwnV tr ti w' base V n c L :=
  ⟨own_keep3 h.1 hb, fun i hi => (h.2.1 i hi).on hb, h.2.2⟩
theorem row_at (h : w.ownsRow base tr 3 (.slice V n c) n (flat L)) (hn : 0 < n) : ∃ g, V = some ⟨g, 0, none⟩ ∧ base ≤ g ∧ g < w.heap.size ∧ n ≤ c := by
  rcases h.2 with ⟨_, h0⟩ | ⟨g, cap, cur, e', hb, hh, hc, _⟩
  · omega
  · injection e' with e1 e2 e3
    refine ⟨g, e1, hb, ?_, by omega⟩
    rcases Nat.lt_or_ge g w.heap.size with hlt | hge
    · exact hlt
    · rw [Array.getElem?_eq_none hge] at hh; cases hh
theorem getD_map (L : List EV) (i : Nat) : (L.map EV.v3).getD i r3 = (L.getD i e0).v3 := by
  simp only [List.getD, List.getElem?_map]
  cases L[i]? <;> rfl
theorem OwnE.rdr {r : EV} (h : OwnE ti w base r) : RdR w (base ≤ ·) r.xs r.ys r.A r.ca r.B r.cb := OwnR.rd h
/-- elements that can be read, in a row of the call's own -/
theorem rds_of (h : w.ownsRow base tr 3 (.slice V n c) n (flat L)) (P : Nat → Prop) (hP : ∀ b, base ≤ b → P b) (hE : ∀ i, i < L.length → RdR w P (L.getD i e0).xs (L.getD i e0).ys (L.getD i e0).A (L.getD i e0).ca (L.getD i e0).B (L.getD i e0).cb) : RdS w P V n c (L.map EV.v3) := by
  have hl : L.length = n := by have h1 := h.1; rw [flat_len] at h1; omega
  refine ⟨by rw [List.length_map, hl], ?_, ?_, fun hn => ?_⟩
  · rcases h.2 with ⟨e, h0⟩ | ⟨g, cap, cur, e', hb, hh, hc, _⟩
    · omega
    · injection e' with e1 e2 e3
      omega
  · intro hV
    subst hV
    rcases h.2 with ⟨e, h0⟩ | ⟨g, cap, cur, e', _⟩
    · injection e
    · cases e'
  · obtain ⟨g, rfl, hb, hlt, _⟩ := row_at h hn
    refine ⟨g, 0, rfl, hP g hb, hlt, fun i hi => ?_⟩
    obtain ⟨f0, f1, f2⟩ := flat_get L i (by omega)
    rw [Nat.zero_add, getD_map]
    exact ⟨_, _, _, _, (h.cellAt _ (by omega)).trans f0, (h.cellAt _ (by omega)).trans f1, (h.cellAt _ (by omega)).trans f2, hE i (by omega)⟩
theorem OwnV.rd (h : OwnV tr ti w base V n c L) : RdS w (base ≤ ·) V n c (L.map EV.v3) := rds_of h.1 _ (fun _ h => h) fun i hi => (h.2.1 i hi).rdr
/-- only the vector's own blocks have turned -/
def OnlyV (V : Option Addr) (L : List EV) (w w' : World) : Prop :=
  w'.os = w.os ∧ w'.tape = w.tape ∧ w'.output = w.output ∧ w.heap.size ≤ w'.heap.size ∧ ∀ k, k < w.heap.size → V ≠ some ⟨k, 0, none⟩ → (∀ i, i < L.length → ¬ (L.getD i e0).has k) → w'.heap[k]? = w.heap[k]?
theorem OwnV.ge (h : OwnV tr ti w base V n c L) : ∀ g, V = some ⟨g, 0, none⟩ ∨ (∃ i, i < L.length ∧ (L.getD i e0).has g) → base ≤ g := by
  rintro g (e | ⟨i, hi, e⟩)
  · rcases h.1.2 with ⟨e', _⟩ | ⟨g', cap, cur, e', hb, _⟩
    · injection e' with e1; rw [e1] at e; cases e
    · injection e' with e1
      rw [e1] at e
      injection e with e
      injection e with e
      omega
  · exact OwnR.ge (h.2.1 i hi) g e
theorem OwnV.lt (h : OwnV tr ti w base V n c L) : ∀ g, V = some ⟨g, 0, none⟩ ∨ (∃ i, i < L.length ∧ (L.getD i e0).has g) → g < w.heap.size := by
  rintro g (e | ⟨i, hi, e⟩)
  · rcases h.1.2 with ⟨e', _⟩ | ⟨g', cap, cur, e', hb, hh, _⟩
    · injection e' with e1; rw [e1] at e; cases e
    · injection e' with e1
      rw [e1] at e
      injection e with e
      injection e with e
      subst e
      rcases Nat.lt_or_ge g' w.heap.size with hlt | hge
      · exact hlt
      · rw [Array.getElem?_eq_none hge] at hh; cases hh
  · exact OwnR.lt (h.2.1 i hi) g e
theorem OnlyV.below (h : OnlyV V L w w') (ho : OwnV tr ti w base V n c L) (hb : base ≤ w.heap.size) : Below base w w' :=
  ⟨h.1, h.2.1, h.2.2.1, h.2.2.2.1, fun k hk => h.2.2.2.2 k (by omega) (fun e => by have := ho.ge k (.inl e); omega) (fun i hi e => by have := ho.ge k (.inr ⟨i, hi, e⟩); omega)⟩
/-- what lies beyond all its blocks is kept -/
theorem OnlyV.beyond {N : Nat} (h : OnlyV V L w w') (hlt : ∀ g, V = some ⟨g, 0, none⟩ ∨ (∃ i, i < L.length ∧ (L.getD i e0).has g) → g < N) : ∀ k, N ≤ k → k < w.heap.size → w'.heap[k]? = w.heap[k]? :=
  fun k hN hk => h.2.2.2.2 k hk (fun e => by have := hlt k (.inl e); omega) (fun i hi e => by have := hlt k (.inr ⟨i, hi, e⟩); omega)
end
/-- marks -/
def markE (k : Nat) (r : EV) : EV := { r with neg := ((k : Int) % 3 == 0), xs := marks ((k : Int) + 1) r.xs.length, ys := marks ((k : Int) + 1 + r.xs.length) r.ys.length }
def markL (k : Nat) : List EV → List EV
  | [] => []
  | r :: L => markE k r :: markL (k + 1 + r.xs.length + r.ys.length) L
def mark3 (k : Nat) : List R3 → List R3
  | [] => []
  | r :: L => ((k : Int) % 3 == 0, marks ((k : Int) + 1) r.2.1.length, marks ((k : Int) + 1 + r.2.1.length) r.2.2.length) :: mark3 (k + 1 + r.2.1.length + r.2.2.length) L
theorem markL_v3 : ∀ (L : List EV) (k : Nat), (markL k L).map EV.v3 = mark3 k (L.map EV.v3)
  | [], _ => rfl
  | r :: L, k => by
    simp only [markL, List.map_cons, mark3, markL_v3 L]
    rfl
theorem markL_len : ∀ (L : List EV) (k : Nat), (markL k L).length = L.length
  | [], _ => rfl
  | r :: L, k => by simp only [markL, List.length_cons, markL_len L]
theorem mark3_len : ∀ (L : List R3) (k : Nat), (mark3 k L).length = L.length
  | [], _ => rfl
  | r :: L, k => by simp only [mark3, List.length_cons, mark3_len L]
theorem tot_cons (r : R3) (L : List R3) : tot (r :: L) = (r.2.1.length + r.2.2.length) + tot L := by simp [tot]
theorem markL_step : ∀ (L : List EV) (k i : Nat), i < L.length → markL k (L.take (i + 1)) ++ L.drop (i + 1) = (markL k (L.take i) ++ L.drop i).set i (markE (k + i + tot ((L.take i).map EV.v3)) (L.getD i e0))
  | [], _, _, h => by simp at h
  | r :: L, k, 0, _ => by simp [markL, tot]
  | r :: L, k, i + 1, h => by
    have ih := markL_step L (k + 1 + r.xs.length + r.ys.length) i (by simpa using h)
    simp only [List.take_succ_cons, List.drop_succ_cons, markL, List.cons_append, List.set_cons_succ, List.getD_cons_succ, List.map_cons, tot_cons]
    rw [ih]
    congr 3
    show _ = _
    simp only [EV.v3]
    omega
theorem mark3_get : ∀ (L : List R3) (k i : Nat), i < L.length → (mark3 k L).getD i r3 = (((k + i + tot (L.take i) : Nat) : Int) % 3 == 0, marks (((k + i + tot (L.take i) : Nat) : Int) + 1) (L.getD i r3).2.1.length, marks (((k + i + tot (L.take i) : Nat) : Int) + 1 + (L.getD i r3).2.1.length) (L.getD i r3).2.2.length)
  | [], _, _, h => by simp at h
  | r :: L, k, 0, _ => by simp [mark3, tot]
  | r :: L, k, i + 1, h => by
    have ih := mark3_get L (k + 1 + r.2.1.length + r.2.2.length) i (by simpa using h)
    simp only [List.take_succ_cons, mark3, List.getD_cons_succ, tot_cons]
    rw [ih]
    have e : k + 1 + r.2.1.length + r.2.2.length + i + tot (L.take i) = k + (i + 1) + (r.2.1.length + r.2.2.length + tot (L.take i)) := by omega
    rw [e]
end Nt
