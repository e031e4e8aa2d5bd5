/-
  Lists of nodes in memory: how such a slice reads, and what a row of the claim tells of an expression that came in.
-/
import Derived.Test.YtgeijojkfojfbaaNodeMath
import Derived.Test.YtgeijojkfojfbaaOk
import Derived.Deep.Slices
import Derived.Deep.Strs
import Derived.Lib.SmallJoins
namespace Nt
open Go Go.RowKit Go.Deep Go.ChangeShapes Go.WideShapes
/-- a node begins at cell k of block b -/
def ElN (w : World) (b k : Nat) (x : Nd) : Prop :=
  w.cell? ⟨b, k, none⟩ = some (.int .i64 x.1) ∧ w.cell? ⟨b, k + 1, none⟩ = some (.int .i64 x.2.1) ∧ w.cell? ⟨b, k + 2, none⟩ = some (.int .i64 x.2.2.1) ∧ w.cell? ⟨b, k + 3, none⟩ = some (.int .i64 x.2.2.2)
theorem ElN.keep {w w' : World} {b k : Nat} {x : Nd} (h : ElN w b k x) (hb : w'.heap[b]? = w.heap[b]?) : ElN w' b k x :=
  ⟨(World.cell?_of_block (a := ⟨b, k, none⟩) hb).trans h.1, (World.cell?_of_block (a := ⟨b, k + 1, none⟩) hb).trans h.2.1, (World.cell?_of_block (a := ⟨b, k + 2, none⟩) hb).trans h.2.2.1, (World.cell?_of_block (a := ⟨b, k + 3, none⟩) hb).trans h.2.2.2⟩
/-- the slice reads as the nodes ns -/
def RdN (w : World) (P : Nat → Prop) (A : Option Addr) (n c : Nat) (ns : List Nd) : Prop :=
  ns.length = n ∧ n ≤ c ∧ (A = none → c = 0) ∧ (0 < n → ∃ b o, A = some ⟨b, o, none⟩ ∧ P b ∧ b < w.heap.size ∧ ∀ i, i < n → ElN w b (o + i * 4) (ns.getD i nd0))
section
variable {w w' : World} {P Q : Nat → Prop} {A : Option Addr} {n c : Nat} {ns : List Nd}
theorem RdN.len (h : RdN w P A n c ns) : ns.length = n := h.1
theorem RdN.at_ (h : RdN w P A n c ns) (hn : 0 < n) : ∃ b o, A = some ⟨b, o, none⟩ ∧ P b ∧ b < w.heap.size ∧ ∀ i, i < n → ElN w b (o + i * 4) (ns.getD i nd0) := h.2.2.2 hn
theorem RdN.keep (h : RdN w P A n c ns) (hs : w.heap.size ≤ w'.heap.size) (hk : ∀ b, P b → b < w.heap.size → w'.heap[b]? = w.heap[b]?) : RdN w' P A n c ns :=
  ⟨h.1, h.2.1, h.2.2.1, fun hn => by
    obtain ⟨b, o, e, hp, hlt, hc⟩ := h.2.2.2 hn
    exact ⟨b, o, e, hp, by omega, fun i hi => (hc i hi).keep (hk b hp hlt)⟩⟩
theorem RdN.mono (h : RdN w P A n c ns) (hpq : ∀ b, P b → b < w.heap.size → Q b) : RdN w Q A n c ns :=
  ⟨h.1, h.2.1, h.2.2.1, fun hn => by
    obtain ⟨b, o, e, hp, hlt, hc⟩ := h.2.2.2 hn
    exact ⟨b, o, e, hpq b hp hlt, hlt, hc⟩⟩
theorem RdN.below {N : Nat} (h : RdN w (· < N) A n c ns) (hb : Below N w w') : RdN w' (· < N) A n c ns := h.keep hb.size fun b hp _ => hb.block b hp
theorem RdN.on (h : RdN w P A n c ns) (hb : Below w.heap.size w w') : RdN w' P A n c ns := h.keep hb.size fun b _ hl => hb.block b hl
theorem RdN.low (h : RdN w P A n c ns) : RdN w (· < w.heap.size) A n c ns := h.mono fun _ _ h => h
theorem RdN.all (h : RdN w P A n c ns) : RdN w (fun _ => True) A n c ns := h.mono fun _ _ _ => trivial
theorem RdN.drew (h : RdN w P A n c ns) : RdN w.drew P A n c ns := h
end
theorem addN_none (b o j : Nat) : (⟨b, o, none⟩ : Addr).add j = ⟨b, o + j, none⟩ := by unfold Addr.add; by_cases h : j = 0 <;> simp [h]
theorem list4 {α : Type} {cs : List α} (h : cs.length = 4) : ∃ c0 c1 c2 c3, cs = [c0, c1, c2, c3] := by
  match cs, h with
  | [c0, c1, c2, c3], _ => exact ⟨c0, c1, c2, c3, rfl⟩
/-- what a row of the claim tells of a slice of nodes that came in -/
theorem open_nodes {H : Type} {enc : TypeId × Value → H} {P : Program} {w : World} {base : Nat} {held : Bool} {t e : TypeId} {f0 f1 f2 f3 : Field} {fuel : Nat} {A : Option Addr} {n c : Nat} {x : DataW H × List MemPlace}
    (ht : P.underlying t = some (.slice e)) (he : P.underlying e = some (.struct #[f0, f1, f2, f3])) (hone : oneCellFields P #[f0, f1, f2, f3] = true) (ce : P.cellsOf e = 4)
    (i0 : P.underlying f0.type = some (.int .i64)) (i1 : P.underlying f1.type = some (.int .i64)) (i2 : P.underlying f2.type = some (.int .i64)) (i3 : P.underlying f3.type = some (.int .i64))
    (h : DataW.trod enc P w base (fun _ => true) held fuel t [.slice A n c] = some x) :
    ∃ ns, RdN w (· < w.heap.size) A n c ns ∧ n ≤ 9223372036854775807 := by
  rcases open_slice ht h with ⟨h0, _⟩ | ⟨a, len, cap, m, fu, D, Pl, hcs, hba, hl, hm, hmm, _, hx⟩
  · simp at h0
    obtain ⟨rfl, rfl, rfl⟩ := h0
    exact ⟨[], ⟨rfl, Nat.le_refl _, fun _ => rfl, fun h => absurd h (by omega)⟩, by omega⟩
  simp at hcs
  obtain ⟨rfl, rfl, rfl⟩ := hcs
  have hlm : n ≤ m := by rw [hmm]; simp; omega
  obtain ⟨o0, k0⟩ := hone_of hone 0 f0 rfl
  obtain ⟨o1, k1⟩ := hone_of hone 1 f1 rfl
  obtain ⟨o2, k2⟩ := hone_of hone 2 f2 rfl
  obtain ⟨o3, k3⟩ := hone_of hone 3 f3 rfl
  obtain ⟨b, o, spot⟩ := a
  have hsp : 0 < n → spot = none := by
    intro hn0
    obtain ⟨cs', h1, h2⟩ := hx 0 (by omega)
    rw [ce] at h1
    obtain ⟨_, hlen, hcell⟩ := World.cells?_some h1
    obtain ⟨v0, v1, v2, v3, rfl⟩ := list4 hlen
    have q0 := hcell 0 (by omega)
    simpa [Addr.add] using World.cell?_spot q0
  have each : ∀ i, i < n → ∃ r : Nd, spot = none ∧ ElN w b (o + i * 4) r := by
    intro i hin
    obtain ⟨cs', h1, h2⟩ := hx i (by omega)
    rw [ce] at h1
    obtain ⟨_, hlen, hcell⟩ := World.cells?_some h1
    obtain ⟨y0, y1, y2, y3, fu', _, _, g0, g1, g2, g3⟩ := Joins.trod_struct4 he h2
    obtain ⟨v0, v1, v2, v3, rfl⟩ := list4 hlen
    simp [o0, o1, o2, o3, k0, k1, k2, k3] at g0 g1 g2 g3
    obtain ⟨z0, e0, _⟩ := DataW.trod_int i0 g0
    obtain ⟨z1, e1, _⟩ := DataW.trod_int i1 g1
    obtain ⟨z2, e2, _⟩ := DataW.trod_int i2 g2
    obtain ⟨z3, e3, _⟩ := DataW.trod_int i3 g3
    simp at e0 e1 e2 e3
    subst e0 e1 e2 e3
    have q0 := hcell 0 (by omega)
    have q1 := hcell 1 (by omega)
    have q2 := hcell 2 (by omega)
    have q3 := hcell 3 (by omega)
    have hspot : spot = none := hsp (by omega)
    subst hspot
    rw [addN_none, addN_none] at q0 q1 q2 q3
    exact ⟨(z0, z1, z2, z3), rfl, by simpa using q0, by simpa using q1, by simpa using q2, by simpa using q3⟩
  obtain ⟨q, hq⟩ := choose_lt each
  refine ⟨(List.range n).map q, ⟨by simp, hl, (fun h => by cases h), fun hn => ?_⟩, by unfold maxLen at hm; omega⟩
  obtain ⟨rfl, hE⟩ := hq 0 hn
  have hlt := World.block_lt_of_cell? w _ hE.1
  refine ⟨b, o, rfl, hlt, hlt, fun i hi => ?_⟩
  have : ((List.range n).map q).getD i nd0 = q i := by simp [List.getD, hi]
  rw [this]
  exact (hq i hi).2
/-- and of a struct with such a slice -/
theorem open_expr {H : Type} {enc : TypeId × Value → H} {P : Program} {w : World} {base : Nat} {held : Bool} {r : Reach} {b0 : Nat} {s t e : TypeId} {g0 f0 f1 f2 f3 : Field} {v : Value} {d : DataW H} {p : List MemPlace}
    (hs : P.underlying s = some (.struct #[g0])) (hones : oneCellFields P #[g0] = true) (cs : P.cellsOf s = 1) (ht : P.underlying g0.type = some (.slice e)) (he : P.underlying e = some (.struct #[f0, f1, f2, f3])) (hone : oneCellFields P #[f0, f1, f2, f3] = true) (ce : P.cellsOf e = 4)
    (i0 : P.underlying f0.type = some (.int .i64)) (i1 : P.underlying f1.type = some (.int .i64)) (i2 : P.underlying f2.type = some (.int .i64)) (i3 : P.underlying f3.type = some (.int .i64))
    (hv : Value.okWide P w r b0 s v) (h : DataW.Trod enc P w base (fun _ => true) held s v d p) :
    ∃ A n c ns, v = .agg #[.slice A n c] ∧ RdN w (· < w.heap.size) A n c ns ∧ n ≤ 9223372036854775807 := by
  obtain ⟨cs', rfl, hsz⟩ := okWide_struct hs hv
  obtain ⟨c0, rfl⟩ : ∃ c0, cs' = #[c0] := by
    obtain ⟨l⟩ := cs'
    match l, hsz.trans cs with
    | [c0], _ => exact ⟨c0, rfl⟩
  obtain ⟨fuel, hf⟩ := h
  obtain ⟨y0, m, _, _, h0⟩ := trod_struct1 hs hf
  obtain ⟨o0, k0⟩ := hone_of hones 0 g0 rfl
  have h0 : DataW.trod enc P w base (fun _ => true) held m g0.type [c0] = some y0 := by simpa [Value.cells, o0, k0] using h0
  obtain ⟨A, l, c, e1⟩ := Joins.slice_form ht h0
  injection e1 with e1 _
  subst e1
  obtain ⟨ns, hr, hn⟩ := open_nodes ht he hone ce i0 i1 i2 i3 h0
  exact ⟨A, l, c, ns, rfl, hr, hn⟩
end Nt
