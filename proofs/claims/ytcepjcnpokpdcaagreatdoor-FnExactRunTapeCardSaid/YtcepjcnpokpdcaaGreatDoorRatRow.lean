/-
  Lists of rationals in memory: how such a slice reads, and what a row of the claim tells of one that came in.
-/
import Derived.Test.YtcepjcnpokpdcaaGreatDoorGrpC
import Derived.Deep.Slices
import Derived.Deep.Strs
import Derived.Lib.SmallJoins
namespace Nt
open Go Go.RowKit Go.Deep Go.ChangeShapes Go.WideShapes
/-- a sign and two lists -/
abbrev R3 := Bool × List Int × List Int
def r3 : R3 := (false, [], [])
def ok3 (r : R3) : Bool := okR r.1 r.2.1 r.2.2
/-- such a struct begins at cell k of block b -/
def El (w : World) (P : Nat → Prop) (b k : Nat) (r : R3) : Prop :=
  ∃ A ca B cb, w.cell? ⟨b, k, none⟩ = some (.bool r.1) ∧ w.cell? ⟨b, k + 1, none⟩ = some (.slice A r.2.1.length ca) ∧ w.cell? ⟨b, k + 2, none⟩ = some (.slice B r.2.2.length cb) ∧ RdR w P r.2.1 r.2.2 A ca B cb
theorem RdR.keep {w w' : World} {P : Nat → Prop} {xs ys : List Int} {A B : Option Addr} {ca cb : Nat} (h : RdR w P xs ys A ca B cb) (hs : w.heap.size ≤ w'.heap.size) (hk : ∀ b, P b → b < w.heap.size → w'.heap[b]? = w.heap[b]?) : RdR w' P xs ys A ca B cb :=
  ⟨h.1.keep hs hk, h.2.keep hs hk⟩
theorem El.keep {w w' : World} {P : Nat → Prop} {b k : Nat} {r : R3} (h : El w P b k r) (hs : w.heap.size ≤ w'.heap.size) (hk : ∀ b, P b → b < w.heap.size → w'.heap[b]? = w.heap[b]?) (hb : w'.heap[b]? = w.heap[b]?) : El w' P b k r := by
  obtain ⟨A, ca, B, cb, h0, h1, h2, h3⟩ := h
  exact ⟨A, ca, B, cb, (World.cell?_of_block (a := ⟨b, k, none⟩) hb).trans h0, (World.cell?_of_block (a := ⟨b, k + 1, none⟩) hb).trans h1, (World.cell?_of_block (a := ⟨b, k + 2, none⟩) hb).trans h2, h3.keep hs hk⟩
theorem El.mono {w : World} {P Q : Nat → Prop} {b k : Nat} {r : R3} (h : El w P b k r) (hpq : ∀ b, P b → b < w.heap.size → Q b) : El w Q b k r := by
  obtain ⟨A, ca, B, cb, h0, h1, h2, h3⟩ := h
  exact ⟨A, ca, B, cb, h0, h1, h2, h3.mono hpq⟩
/-- the slice reads as the rationals rs -/
def RdS (w : World) (P : Nat → Prop) (A : Option Addr) (n c : Nat) (rs : List R3) : Prop :=
  rs.length = n ∧ n ≤ c ∧ (A = none → c = 0) ∧ (0 < n → ∃ b o, A = some ⟨b, o, none⟩ ∧ P b ∧ b < w.heap.size ∧ ∀ i, i < n → El w P b (o + i * 3) (rs.getD i r3))
variable {w w' : World} {P Q : Nat → Prop} {A : Option Addr} {n c : Nat} {rs : List R3}
theorem RdS.len (h : RdS w P A n c rs) : rs.length = n := h.1
theorem RdS.at_ (h : RdS w P A n c rs) (hn : 0 < n) : ∃ b o, A = some ⟨b, o, none⟩ ∧ P b ∧ b < w.heap.size ∧ ∀ i, i < n → El w P b (o + i * 3) (rs.getD i r3) := h.2.2.2 hn
theorem RdS.keep (h : RdS w P A n c rs) (hs : w.heap.size ≤ w'.heap.size) (hk : ∀ b, P b → b < w.heap.size → w'.heap[b]? = w.heap[b]?) : RdS w' P A n c rs :=
  ⟨h.1, h.2.1, h.2.2.1, fun hn => by
    obtain ⟨b, o, e, hp, hlt, hc⟩ := h.2.2.2 hn
    exact ⟨b, o, e, hp, by omega, fun i hi => (hc i hi).keep hs hk (hk b hp hlt)⟩⟩
theorem RdS.mono (h : RdS w P A n c rs) (hpq : ∀ b, P b → b < w.heap.size → Q b) : RdS w Q A n c rs :=
  ⟨h.1, h.2.1, h.2.2.1, fun hn => by
    obtain ⟨b, o, e, hp, hlt, hc⟩ := h.2.2.2 hn
    exact ⟨b, o, e, hpq b hp hlt, hlt, fun i hi => (hc i hi).mono hpq⟩⟩
theorem RdS.below {N : Nat} (h : RdS w (· < N) A n c rs) (hb : Below N w w') : RdS w' (· < N) A n c rs := h.keep hb.size fun b hp _ => hb.block b hp
theorem RdS.on (h : RdS w P A n c rs) (hb : Below w.heap.size w w') : RdS w' P A n c rs := h.keep hb.size fun b _ hl => hb.block b hl
theorem RdS.low (h : RdS w P A n c rs) : RdS w (· < w.heap.size) A n c rs := h.mono fun _ _ h => h
theorem RdS.all (h : RdS w P A n c rs) : RdS w (fun _ => True) A n c rs := h.mono fun _ _ _ => trivial
theorem RdS.drew (h : RdS w P A n c rs) : RdS w.drew P A n c rs := h
/-- how many numbers stand in it -/
def tot (rs : List R3) : Nat := (rs.map fun r => r.2.1.length + r.2.2.length).sum
theorem tot_snoc (rs : List R3) (k : Nat) (h : k < rs.length) : tot (rs.take (k + 1)) = tot (rs.take k) + ((rs.getD k r3).2.1.length + (rs.getD k r3).2.2.length) := by
  unfold tot
  rw [List.take_succ_eq_append_getElem h, List.map_append, List.sum_append]
  simp [List.getD, h]
theorem tot_take_le (rs : List R3) (k : Nat) : tot (rs.take k) ≤ tot rs := by
  have e : tot rs = tot (rs.take k) + tot (rs.drop k) := by
    unfold tot
    rw [← List.sum_append, ← List.map_append, List.take_append_drop]
  omega
def szS (left : Int) (rs : List R3) : Int := if left < rs.length + tot rs then -1 else left - rs.length - tot rs
theorem szS_big {left : Int} (h : left < rs.length + tot rs) : szS left rs = -1 := by unfold szS; rw [if_pos h]
theorem szS_fit {left : Int} (h : ¬ left < rs.length + tot rs) : szS left rs = left - rs.length - tot rs := by unfold szS; rw [if_neg h]
def Short (rs : List R3) : Prop := ∀ r ∈ rs, r.2.1.length ≤ 9223372036854775807 ∧ r.2.2.length ≤ 9223372036854775807
theorem Short.at_ (h : Short rs) (k : Nat) (hk : k < rs.length) : (rs.getD k r3).2.1.length ≤ 9223372036854775807 ∧ (rs.getD k r3).2.2.length ≤ 9223372036854775807 := by
  have e : rs.getD k r3 = rs[k] := by simp [List.getD, hk]
  rw [e]
  exact h _ (List.getElem_mem hk)

theorem add_none (b o j : Nat) : (⟨b, o, none⟩ : Addr).add j = ⟨b, o + j, none⟩ := by unfold Addr.add; by_cases h : j = 0 <;> simp [h]
/-- what a row of the claim tells of a slice of rationals that came in -/
theorem open_rats {H : Type} {enc : TypeId × Value → H} {P : Program} {w : World} {base : Nat} {held : Bool} {t e : TypeId} {f0 f1 f2 : Field} {ti : TypeId} {fuel : Nat} {A : Option Addr} {n c : Nat} {x : DataW H × List MemPlace}
    (ht : P.underlying t = some (.slice e)) (he : P.underlying e = some (.struct #[f0, f1, f2])) (hone : oneCellFields P #[f0, f1, f2] = true) (ce : P.cellsOf e = 3)
    (hb : P.underlying f0.type = some .bool) (hs1 : P.underlying f1.type = some (.slice ti)) (hs2 : P.underlying f2.type = some (.slice ti)) (hi : P.underlying ti = some (.int .i64)) (hci : P.cellsOf ti = 1)
    (h : DataW.trod enc P w base (fun _ => true) held fuel t [.slice A n c] = some x) :
    ∃ rs, RdS w (· < w.heap.size) A n c rs ∧ Short rs ∧ n ≤ 9223372036854775807 := by
  rcases open_slice ht h with ⟨h0, _⟩ | ⟨a, len, cap, m, fu, D, Pl, hcs, hba, hl, hm, hmm, _, hx⟩
  · simp at h0
    obtain ⟨rfl, rfl, rfl⟩ := h0
    exact ⟨[], ⟨rfl, Nat.le_refl _, fun _ => rfl, fun h => absurd h (by omega)⟩, fun r hr => by simp at hr, by omega⟩
  simp at hcs
  obtain ⟨rfl, rfl, rfl⟩ := hcs
  have hlm : n ≤ m := by rw [hmm]; simp; omega
  obtain ⟨o0, k0⟩ := hone_of hone 0 f0 rfl
  obtain ⟨o1, k1⟩ := hone_of hone 1 f1 rfl
  obtain ⟨o2, k2⟩ := hone_of hone 2 f2 rfl
  have part : ∀ (f : Field) (v : Value) (y : DataW H × List MemPlace) (fu : Nat), P.underlying f.type = some (.slice ti) → DataW.trod enc P w base (fun _ => true) held fu f.type [v] = some y → ∃ B l d zs, v = .slice B l d ∧ IsRow .i64 w B l d zs := by
    intro f v y fu hf hv
    rcases open_ints hf hi hci hv with ⟨hcs, _⟩ | ⟨x, l, c, zs, hcs, _, hl, hm, hz, _, hcell, hwz⟩
    · simp at hcs
      exact ⟨none, 0, 0, [], hcs, .inl ⟨rfl, rfl, rfl, rfl⟩⟩
    · simp at hcs
      exact ⟨_, l, c, zs, hcs, .inr ⟨_, rfl, hl, hm, by simpa using hz, hcell, hwz⟩⟩
  obtain ⟨b, o, spot⟩ := a
  have hsp : 0 < n → spot = none := by
    intro hn0
    obtain ⟨cs', h1, h2⟩ := hx 0 (by omega)
    rw [ce] at h1
    obtain ⟨_, hlen, hcell⟩ := World.cells?_some h1
    match cs', hlen with
    | [v0, v1, v2], _ =>
      have q0 := hcell 0 (by omega)
      simpa [Addr.add] using World.cell?_spot q0
  have each : ∀ i, i < n → ∃ r : R3, spot = none ∧ El w (· < w.heap.size) b (o + i * 3) r ∧ r.2.1.length ≤ 9223372036854775807 ∧ r.2.2.length ≤ 9223372036854775807 := by
    intro i hin
    obtain ⟨cs', h1, h2⟩ := hx i (by omega)
    rw [ce] at h1
    obtain ⟨_, hlen, hcell⟩ := World.cells?_some h1
    obtain ⟨y0, y1, y2, fu', _, _, g0, g1, g2⟩ := trod_struct3 he h2
    match cs', hlen with
    | [v0, v1, v2], _ =>
      simp [o0, o1, o2, k0, k1, k2] at g0 g1 g2
      obtain ⟨neg, e0, _⟩ := DataW.trod_bool hb g0
      obtain ⟨A1, l1, c1, z1, e1, w1⟩ := part f1 v1 y1 _ hs1 g1
      obtain ⟨A2, l2, c2, z2, e2, w2⟩ := part f2 v2 y2 _ hs2 g2
      simp at e0
      subst e0 e1 e2
      have q0 := hcell 0 (by omega)
      have q1 := hcell 1 (by omega)
      have q2 := hcell 2 (by omega)
      have hspot : spot = none := hsp (by omega)
      subst hspot
      rw [add_none, add_none] at q0 q1 q2
      have r1 := w1.rd
      have r2 := w2.rd
      have n1 := r1.len
      have n2 := r2.len
      refine ⟨(neg, z1.take l1, z2.take l2), rfl, ⟨A1, c1, A2, c2, by simpa using q0, by simpa [n1] using q1, by simpa [n2] using q2, ?_⟩, ?_, ?_⟩
      · refine ⟨?_, ?_⟩
        · show Rd w _ A1 (z1.take l1).length c1 (z1.take l1); rw [n1]; exact r1
        · show Rd w _ A2 (z2.take l2).length c2 (z2.take l2); rw [n2]; exact r2
      · show (z1.take l1).length ≤ _; rw [n1]; exact w1.le
      · show (z2.take l2).length ≤ _; rw [n2]; exact w2.le
  obtain ⟨q, hq⟩ := choose_lt each
  refine ⟨(List.range n).map q, ⟨by simp, hl, (fun h => by cases h), fun hn => ?_⟩, ?_, by unfold maxLen at hm; omega⟩
  · obtain ⟨rfl, hE, _⟩ := hq 0 hn
    obtain ⟨_, _, _, _, hc, _⟩ := hE
    have hlt := World.block_lt_of_cell? w _ hc
    refine ⟨b, o, rfl, hlt, hlt, fun i hi => ?_⟩
    have : ((List.range n).map q).getD i r3 = q i := by simp [List.getD, hi]
    rw [this]
    exact (hq i hi).2.1
  · intro r hr
    obtain ⟨i, hi, rfl⟩ := List.mem_map.1 hr
    exact (hq i (List.mem_range.1 hi)).2.2
end Nt
