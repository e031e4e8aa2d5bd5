/-
  NodeMath NodeRow NodeOk NodeSpec NodeCopy SpecExpr ExprCopy in one text.
-/
import Derived.Test.YtifepoefeamboaaGreatDoorGrpA
import Derived.Deep.Slices
import Derived.Deep.Strs
import Derived.Lib.SmallJoins
import Derived.Deep.RegionHeld3
import Derived.Deep.RegionWith
import Derived.BigQuiet
import Derived.Laws.ResultCell
namespace Nt
/-- what a node is: its operation, its children, its number -/
abbrev Nd := Int × Int × Int × Int
def nd0 : Nd := (0, 0, 0, 0)
abbrev Tr := Int × Int
def tr0 : Tr := (0, 0)
def two (op : Int) : Bool := decide (3 ≤ op) && decide (op ≤ 6)
def one (op : Int) : Bool := decide (op = 7) || decide (op = 8)
def mostN (op : Int) : Int := if op = 1 then 999999999 else if op = 2 then 3 else if op = 8 then 8 else 0
/-- what a node asks of itself, wherever it stands -/
def fitN (x : Nd) : Bool := decide (1 ≤ x.1) && decide (x.1 ≤ 8) && decide (0 ≤ x.2.2.2) && decide (x.2.2.2 ≤ mostN x.1) && (two x.1 || one x.1 || decide (x.2.1 = 0)) && (two x.1 || decide (x.2.2.1 = 0))
/-- the tree of one node more -/
def growT (ts : List Tr) (x : Nd) : Option Tr :=
  if two x.1 = true then
    if 0 ≤ x.2.2.1 ∧ x.2.2.1 = (ts.length : Int) - 1 then
      if 0 ≤ x.2.1 ∧ x.2.1 = (ts.getD x.2.2.1.toNat tr0).1 - 1 then
        some ((ts.getD x.2.1.toNat tr0).1, max (max 1 ((ts.getD x.2.2.1.toNat tr0).2 + 1)) ((ts.getD x.2.1.toNat tr0).2 + 1))
      else none
    else none
  else if one x.1 = true then
    if 0 ≤ x.2.1 ∧ x.2.1 = (ts.length : Int) - 1 then some ((ts.getD x.2.1.toNat tr0).1, max 1 ((ts.getD x.2.1.toNat tr0).2 + 1)) else none
  else some ((ts.length : Int), 1)
def stepT (o : Option (List Tr)) (x : Nd) : Option (List Tr) := o.bind fun ts => (growT ts x).map fun t => ts ++ [t]
def trees (ns : List Nd) : Option (List Tr) := ns.foldl stepT (some [])
theorem trees_nil : trees [] = some [] := rfl
theorem trees_snoc (ns : List Nd) (x : Nd) : trees (ns ++ [x]) = stepT (trees ns) x := by simp [trees, List.foldl_append]
theorem takeN_snoc (ns : List Nd) (k : Nat) (h : k < ns.length) : ns.take (k + 1) = ns.take k ++ [ns.getD k nd0] := by
  rw [List.take_succ_eq_append_getElem h]
  simp [List.getD, h]
theorem trees_take (ns : List Nd) (k : Nat) (h : k < ns.length) : trees (ns.take (k + 1)) = stepT (trees (ns.take k)) (ns.getD k nd0) := by rw [takeN_snoc ns k h, trees_snoc]
theorem foldl_none : ∀ ns : List Nd, ns.foldl stepT none = none
  | [] => rfl
  | _ :: ns => foldl_none ns
theorem trees_none {ns : List Nd} {k : Nat} (h : trees (ns.take k) = none) : trees ns = none := by
  have e : trees ns = (ns.drop k).foldl stepT (trees (ns.take k)) := by
    unfold trees
    rw [← List.foldl_append, List.take_append_drop]
  rw [e, h, foldl_none]
theorem foldl_pre : ∀ (ns : List Nd) (ts us : List Tr), ns.foldl stepT (some ts) = some us → us.take ts.length = ts ∧ us.length = ts.length + ns.length
  | [], ts, us, h => by
    have h : some ts = some us := h
    injection h with h
    subst h
    exact ⟨List.take_length, rfl⟩
  | x :: ns, ts, us, h => by
    have h : ns.foldl stepT ((growT ts x).map fun t => ts ++ [t]) = some us := h
    cases hg : growT ts x with
    | none => rw [hg] at h; rw [show (Option.map (fun t => ts ++ [t]) (none : Option Tr)) = none from rfl, foldl_none] at h; cases h
    | some t =>
      rw [hg] at h
      obtain ⟨h1, h2⟩ := foldl_pre ns (ts ++ [t]) us h
      refine ⟨?_, by simp at h2 ⊢; omega⟩
      have h3 := congrArg (List.take ts.length) h1
      rw [List.take_take] at h3
      simpa using h3
theorem trees_len {ns : List Nd} {ts : List Tr} (h : trees ns = some ts) : ts.length = ns.length := by
  have := (foldl_pre ns [] ts h).2
  simpa using this
theorem trees_pre {ns : List Nd} {ts us : List Tr} {k : Nat} (h : trees (ns.take k) = some ts) (h' : trees ns = some us) : us.take ts.length = ts := by
  have e : trees ns = (ns.drop k).foldl stepT (trees (ns.take k)) := by
    unfold trees
    rw [← List.foldl_append, List.take_append_drop]
  rw [e, h] at h'
  exact (foldl_pre _ _ _ h').1
/-- what is true of all trees: they lie in one another -/
def Nest (ts : List Tr) : Prop := ∀ i, i < ts.length → (0 ≤ (ts.getD i tr0).1 ∧ (ts.getD i tr0).1 ≤ i ∧ 1 ≤ (ts.getD i tr0).2 ∧ (ts.getD i tr0).2 ≤ i + 1) ∧ ∀ j : Nat, (ts.getD i tr0).1 ≤ j → j ≤ i → (ts.getD j tr0).2 ≤ (ts.getD i tr0).2
/-- what is true of the nodes and their trees -/
def Tied (ns : List Nd) (ts : List Tr) : Prop := ∀ i, i < ts.length →
  (two (ns.getD i nd0).1 = true → ∃ a b : Nat, (ns.getD i nd0).2.1 = a ∧ (ns.getD i nd0).2.2.1 = b ∧ a < i ∧ b < i ∧ (ts.getD i tr0).1 = (ts.getD a tr0).1 ∧ (ts.getD i tr0).2 = 1 + max (ts.getD a tr0).2 (ts.getD b tr0).2) ∧
  (two (ns.getD i nd0).1 = false → one (ns.getD i nd0).1 = true → ∃ a : Nat, (ns.getD i nd0).2.1 = a ∧ a < i ∧ (ts.getD i tr0).1 = (ts.getD a tr0).1 ∧ (ts.getD i tr0).2 = 1 + (ts.getD a tr0).2) ∧
  (two (ns.getD i nd0).1 = false → one (ns.getD i nd0).1 = false → (ts.getD i tr0).1 = i ∧ (ts.getD i tr0).2 = 1)
theorem getD_snoc (ts : List Tr) (t : Tr) (i : Nat) (h : i < ts.length) : (ts ++ [t]).getD i tr0 = ts.getD i tr0 := by simp [List.getD, List.getElem?_append_left h]
theorem getD_last (ts : List Tr) (t : Tr) : (ts ++ [t]).getD ts.length tr0 = t := by simp [List.getD]
/-- what growT answers -/
theorem growT_out {ts : List Tr} {x : Nd} {t : Tr} (hN : Nest ts) (h : growT ts x = some t) :
    (two x.1 = true → ∃ a b : Nat, x.2.1 = a ∧ x.2.2.1 = b ∧ b + 1 = ts.length ∧ a < b ∧ (ts.getD b tr0).1 = a + 1 ∧ t = ((ts.getD a tr0).1, 1 + max (ts.getD a tr0).2 (ts.getD b tr0).2)) ∧
    (two x.1 = false → one x.1 = true → ∃ a : Nat, x.2.1 = a ∧ a + 1 = ts.length ∧ t = ((ts.getD a tr0).1, 1 + (ts.getD a tr0).2)) ∧
    (two x.1 = false → one x.1 = false → t = ((ts.length : Int), 1)) := by
  unfold growT at h
  refine ⟨fun h2 => ?_, fun h2 h1 => ?_, fun h2 h1 => ?_⟩
  · rw [if_pos h2] at h
    by_cases hb : 0 ≤ x.2.2.1 ∧ x.2.2.1 = (ts.length : Int) - 1
    · rw [if_pos hb] at h
      by_cases ha : 0 ≤ x.2.1 ∧ x.2.1 = (ts.getD x.2.2.1.toNat tr0).1 - 1
      · rw [if_pos ha] at h
        injection h with h
        have nb := hN x.2.2.1.toNat (by omega)
        have na := hN x.2.1.toNat (by omega)
        refine ⟨x.2.1.toNat, x.2.2.1.toNat, by omega, by omega, by omega, by omega, by omega, ?_⟩
        rw [← h]
        exact Prod.ext rfl (by show max _ _ = _; omega)
      · rw [if_neg ha] at h; cases h
    · rw [if_neg hb] at h; cases h
  · rw [if_neg (by rw [h2]; exact Bool.false_ne_true), if_pos h1] at h
    by_cases ha : 0 ≤ x.2.1 ∧ x.2.1 = (ts.length : Int) - 1
    · rw [if_pos ha] at h
      injection h with h
      have na := hN x.2.1.toNat (by omega)
      refine ⟨x.2.1.toNat, by omega, by omega, ?_⟩
      rw [← h]
      exact Prod.ext rfl (by show max _ _ = _; omega)
    · rw [if_neg ha] at h; cases h
  · rw [if_neg (by rw [h2]; exact Bool.false_ne_true), if_neg (by rw [h1]; exact Bool.false_ne_true)] at h
    injection h with h
    exact h.symm
theorem nest_snoc {ts : List Tr} {x : Nd} {t : Tr} (hN : Nest ts) (h : growT ts x = some t) : Nest (ts ++ [t]) := by
  obtain ⟨g2, g1, g0⟩ := growT_out hN h
  intro i hi
  simp only [List.length_append, List.length_cons, List.length_nil] at hi
  by_cases hlt : i < ts.length
  · obtain ⟨q, r⟩ := hN i hlt
    rw [getD_snoc ts t i hlt]
    refine ⟨q, fun j h1 h2 => ?_⟩
    rw [getD_snoc ts t j (by omega)]
    exact r j h1 h2
  obtain rfl : i = ts.length := by omega
  rw [getD_last]
  cases h2 : two x.1 with
  | true =>
    obtain ⟨a, b, _, _, hb, hab, hf, rfl⟩ := g2 h2
    obtain ⟨qa, ra⟩ := hN a (by omega)
    obtain ⟨qb, rb⟩ := hN b (by omega)
    refine ⟨⟨qa.1, by show (ts.getD a tr0).1 ≤ _; omega, by show (1 : Int) ≤ 1 + max _ _; omega, by show 1 + max _ _ ≤ _; omega⟩, fun j h1 h2 => ?_⟩
    have h1 : (ts.getD a tr0).1 ≤ j := h1
    show ((ts ++ [_]).getD j tr0).2 ≤ 1 + max _ _
    by_cases hj : j = ts.length
    · subst hj; rw [getD_last]; exact Int.le_refl _
    rw [getD_snoc ts _ j (by omega)]
    by_cases hja : j ≤ a
    · have := ra j h1 hja; omega
    · have := rb j (by omega) (by omega); omega
  | false =>
    cases h1 : one x.1 with
    | true =>
      obtain ⟨a, _, ha, rfl⟩ := g1 h2 h1
      obtain ⟨qa, ra⟩ := hN a (by omega)
      refine ⟨⟨qa.1, by show (ts.getD a tr0).1 ≤ _; omega, by show (1 : Int) ≤ 1 + _; omega, by show 1 + _ ≤ _; omega⟩, fun j h1 h2 => ?_⟩
      have h1 : (ts.getD a tr0).1 ≤ j := h1
      show ((ts ++ [_]).getD j tr0).2 ≤ 1 + _
      by_cases hj : j = ts.length
      · subst hj; rw [getD_last]; exact Int.le_refl _
      rw [getD_snoc ts _ j (by omega)]
      have := ra j h1 (by omega)
      omega
    | false =>
      rw [g0 h2 h1]
      refine ⟨⟨by show (0 : Int) ≤ (ts.length : Int); omega, by show (ts.length : Int) ≤ _; omega, by show (1 : Int) ≤ 1; omega, by show (1 : Int) ≤ _; omega⟩, fun j h1 h2 => ?_⟩
      have h1 : (ts.length : Int) ≤ j := h1
      obtain rfl : j = ts.length := by omega
      rw [getD_last]
      exact Int.le_refl _
theorem tied_snoc {ns : List Nd} {ts : List Tr} {t : Tr} (hT : Tied ns ts) (hN : Nest ts) (h : growT ts (ns.getD ts.length nd0) = some t) : Tied ns (ts ++ [t]) := by
  obtain ⟨g2, g1, g0⟩ := growT_out hN h
  intro i hi
  simp only [List.length_append, List.length_cons, List.length_nil] at hi
  by_cases hlt : i < ts.length
  · obtain ⟨q2, q1, q0⟩ := hT i hlt
    rw [getD_snoc ts t i hlt]
    refine ⟨fun e2 => ?_, fun e2 e1 => ?_, q0⟩
    · obtain ⟨a, b, p1, p2, p3, p4, p5, p6⟩ := q2 e2
      refine ⟨a, b, p1, p2, p3, p4, ?_, ?_⟩
      · rw [getD_snoc ts t a (by omega)]; exact p5
      · rw [getD_snoc ts t a (by omega), getD_snoc ts t b (by omega)]; exact p6
    · obtain ⟨a, p1, p2, p3, p4⟩ := q1 e2 e1
      refine ⟨a, p1, p2, ?_, ?_⟩
      · rw [getD_snoc ts t a (by omega)]; exact p3
      · rw [getD_snoc ts t a (by omega)]; exact p4
  obtain rfl : i = ts.length := by omega
  rw [getD_last]
  refine ⟨fun e2 => ?_, fun e2 e1 => ?_, fun e2 e1 => ?_⟩
  · obtain ⟨a, b, p1, p2, p3, p4, p5, rfl⟩ := g2 e2
    refine ⟨a, b, p1, p2, by omega, by omega, ?_, ?_⟩
    · rw [getD_snoc ts _ a (by omega)]
    · rw [getD_snoc ts _ a (by omega), getD_snoc ts _ b (by omega)]
  · obtain ⟨a, p1, p2, rfl⟩ := g1 e2 e1
    refine ⟨a, p1, by omega, ?_, ?_⟩
    · rw [getD_snoc ts _ a (by omega)]
    · rw [getD_snoc ts _ a (by omega)]
  · rw [g0 e2 e1]
    exact ⟨rfl, rfl⟩
theorem nest_nil : Nest [] := fun i hi => by simp at hi
theorem tied_nil (ns : List Nd) : Tied ns [] := fun i hi => by simp at hi
theorem trees_good : ∀ (ns : List Nd) (k : Nat) (ts : List Tr), k ≤ ns.length → trees (ns.take k) = some ts → Nest ts ∧ Tied ns ts ∧ ts.length = k
  | ns, 0, ts, _, h => by
    rw [List.take_zero, trees_nil] at h
    injection h with h
    subst h
    exact ⟨nest_nil, tied_nil ns, rfl⟩
  | ns, k + 1, ts, hk, h => by
    rw [trees_take ns k (by omega)] at h
    cases ho : trees (ns.take k) with
    | none => rw [ho] at h; cases h
    | some us =>
      obtain ⟨h1, h2, h3⟩ := trees_good ns k us (by omega) ho
      rw [ho] at h
      have h : (growT us (ns.getD k nd0)).map (fun t => us ++ [t]) = some ts := h
      cases hg : growT us (ns.getD k nd0) with
      | none => rw [hg] at h; cases h
      | some t =>
        rw [hg] at h
        have h : some (us ++ [t]) = some ts := h
        injection h with h
        subst h
        refine ⟨nest_snoc h1 hg, tied_snoc h2 h1 (by rw [h3]; exact hg), by simp; omega⟩
/-- which expressions are right -/
def okT (o : Option (List Tr)) (n : Nat) : Bool := match o with
  | none => false
  | some ts => decide ((ts.getD (n - 1) tr0).1 = 0) && decide ((ts.getD (n - 1) tr0).2 ≤ 12)
def okE (ns : List Nd) : Bool := decide (1 ≤ ns.length) && decide (ns.length ≤ 60) && ns.all fitN && okT (trees ns) ns.length
theorem getD_take (ts us : List Tr) (i : Nat) (h : us.take ts.length = ts) (hi : i < ts.length) : us.getD i tr0 = ts.getD i tr0 := by
  rw [← h]
  simp [hi]
theorem okE_len0 {ns : List Nd} (h : ns.length = 0) : okE ns = false := by unfold okE; simp [h]
theorem okE_long {ns : List Nd} (h : 60 < ns.length) : okE ns = false := by unfold okE; rw [decide_eq_false (show ¬ ns.length ≤ 60 by omega)]; simp
theorem okE_unfit {ns : List Nd} {k : Nat} (hk : k < ns.length) (h : fitN (ns.getD k nd0) = false) : okE ns = false := by
  unfold okE
  have : ns.all fitN = false := by
    rw [Bool.eq_false_iff]
    intro ha
    rw [List.all_eq_true] at ha
    have e : ns.getD k nd0 = ns[k] := by simp [List.getD, hk]
    rw [e] at h
    have := ha _ (List.getElem_mem hk)
    rw [h] at this
    cases this
  rw [this]
  simp
theorem all_fit {ns : List Nd} (h : ∀ j, j < ns.length → fitN (ns.getD j nd0) = true) : ns.all fitN = true := by
  rw [List.all_eq_true]
  intro r hr
  obtain ⟨i, hi, rfl⟩ := List.mem_iff_getElem.1 hr
  have := h i hi
  have e : ns.getD i nd0 = ns[i] := by simp [List.getD, hi]
  rwa [e] at this
theorem fit_all {ns : List Nd} (h : ns.all fitN = true) (j : Nat) (hj : j < ns.length) : fitN (ns.getD j nd0) = true := by
  rw [List.all_eq_true] at h
  have e : ns.getD j nd0 = ns[j] := by simp [List.getD, hj]
  rw [e]
  exact h _ (List.getElem_mem hj)
theorem okE_torn {ns : List Nd} (h : trees ns = none) : okE ns = false := by unfold okE; rw [h]; simp [okT]
theorem okE_cut {ns : List Nd} {ts : List Tr} {k : Nat} (hk : k < ns.length) (h : trees (ns.take k) = some ts) (hg : growT ts (ns.getD k nd0) = none) : okE ns = false := by
  refine okE_torn (trees_none (k := k + 1) ?_)
  rw [trees_take ns k hk, h]
  show (growT ts (ns.getD k nd0)).map _ = none
  rw [hg]
  rfl
theorem trees_more {ns : List Nd} {ts : List Tr} {t : Tr} {k : Nat} (hk : k < ns.length) (h : trees (ns.take k) = some ts) (hg : growT ts (ns.getD k nd0) = some t) : trees (ns.take (k + 1)) = some (ts ++ [t]) := by
  rw [trees_take ns k hk, h]
  show (growT ts (ns.getD k nd0)).map _ = _
  rw [hg]
  rfl
/-- a node that is too deep is in a whole that is, or outside of it -/
theorem okE_deep {ns : List Nd} {ts : List Tr} {t : Tr} {k : Nat} (hk : k < ns.length) (h : trees (ns.take k) = some ts) (hg : growT ts (ns.getD k nd0) = some t) (hd : 12 < t.2) : okE ns = false := by
  cases hu : trees ns with
  | none => exact okE_torn hu
  | some us =>
    have h1 := trees_more hk h hg
    have hl : ts.length = k := (trees_good ns k ts (by omega) h).2.2
    have hp := trees_pre h1 hu
    have hN := (trees_good ns ns.length us (Nat.le_refl _) (by rw [List.take_length]; exact hu))
    have e : us.getD k tr0 = t := by
      rw [getD_take (ts ++ [t]) us k hp (by simp; omega), ← hl, getD_last]
    unfold okE
    rw [hu]
    show (_ && (decide _ && decide _)) = false
    by_cases h0 : (us.getD (ns.length - 1) tr0).1 = 0
    · have := (hN.1 (ns.length - 1) (by omega)).2 k (by omega) (by omega)
      rw [e] at this
      rw [decide_eq_false (show ¬ (us.getD (ns.length - 1) tr0).2 ≤ 12 by omega)]
      simp
    · rw [decide_eq_false h0]
      simp
theorem okE_out {ns : List Nd} (h : okE ns = true) : 1 ≤ ns.length ∧ ns.length ≤ 60 ∧ (∀ j, j < ns.length → fitN (ns.getD j nd0) = true) ∧ ∃ ts, trees ns = some ts ∧ Nest ts ∧ Tied ns ts ∧ ts.length = ns.length ∧ (ts.getD (ns.length - 1) tr0).1 = 0 ∧ (ts.getD (ns.length - 1) tr0).2 ≤ 12 := by
  unfold okE at h
  simp only [Bool.and_eq_true, decide_eq_true_eq] at h
  obtain ⟨⟨⟨h1, h2⟩, h3⟩, h4⟩ := h
  refine ⟨h1, h2, fun j hj => fit_all h3 j hj, ?_⟩
  cases hu : trees ns with
  | none => rw [hu] at h4; cases h4
  | some us =>
    rw [hu] at h4
    have h4 : (decide _ && decide _) = true := h4
    simp only [Bool.and_eq_true, decide_eq_true_eq] at h4
    obtain ⟨q1, q2, q3⟩ := trees_good ns ns.length us (Nat.le_refl _) (by rw [List.take_length]; exact hu)
    exact ⟨us, rfl, q1, q2, q3, h4.1, h4.2⟩
def dimOne (d : Int) (x : Nd) : Int := if x.1 = 2 then max d (x.2.2.2 + 1) else d
def dimE (ns : List Nd) : Int := ns.foldl dimOne 0
theorem dim_take (ns : List Nd) (k : Nat) (h : k < ns.length) : (ns.take (k + 1)).foldl dimOne 0 = dimOne ((ns.take k).foldl dimOne 0) (ns.getD k nd0) := by
  rw [takeN_snoc ns k h, List.foldl_append]
  rfl
end Nt
namespace Nt
open Go Go.RowKit Go.Deep Go.ChangeShapes Go.WideShapes
/-- a node begins at cell k of block b -/
def ElN (w : World) (b k : Nat) (x : Nd) : Prop :=
  w.cell? ⟨b, k, none⟩ = some (.int .i64 x.1) ∧ w.cell? ⟨b, k + 1, none⟩ = some (.int .i64 x.2.1) ∧ w.cell? ⟨b, k + 2, none⟩ = some (.int .i64 x.2.2.1) ∧ w.cell? ⟨b, k + 3, none⟩ = some (.int .i64 x.2.2.2)
theorem ElN.keep {w w' : World} {b k : Nat} {x : Nd} (h : ElN w b k x) (hb : w'.heap[b]? = w.heap[b]?) : ElN w' b k x :=
  ⟨(World.cell?_of_block (a := ⟨b, k, none⟩) hb).trans h.1, (World.cell?_of_block (a := ⟨b, k + 1, none⟩) hb).trans h.2.1, (World.cell?_of_block (a := ⟨b, k + 2, none⟩) hb).trans h.2.2.1, (World.cell?_of_block (a := ⟨b, k + 3, none⟩) hb).trans h.2.2.2⟩
/-- the slice reads as the nodes ns -/
def RdN (w : World) (P : Nat → Prop) (A : Option Addr) (n c : Nat) (ns : List Nd) : Prop :=
  ns.length = n ∧ n ≤ c ∧ (A = none → c = 0) ∧ (0 < n → ∃ b o, A = some ⟨b, o, none⟩ ∧ P b ∧ b < w.heap.size ∧ ∀ i, i < n → ElN w b (o + i * 4) (ns.getD i nd0))
section
variable {w w' : World} {P Q : Nat → Prop} {A : Option Addr} {n c : Nat} {ns : List Nd}
theorem RdN.len (h : RdN w P A n c ns) : ns.length = n := h.1
theorem RdN.at_ (h : RdN w P A n c ns) (hn : 0 < n) : ∃ b o, A = some ⟨b, o, none⟩ ∧ P b ∧ b < w.heap.size ∧ ∀ i, i < n → ElN w b (o + i * 4) (ns.getD i nd0) := h.2.2.2 hn
theorem RdN.keep (h : RdN w P A n c ns) (hs : w.heap.size ≤ w'.heap.size) (hk : ∀ b, P b → b < w.heap.size → w'.heap[b]? = w.heap[b]?) : RdN w' P A n c ns :=
  ⟨h.1, h.2.1, h.2.2.1, fun hn => by
    obtain ⟨b, o, e, hp, hlt, hc⟩ := h.2.2.2 hn
    exact ⟨b, o, e, hp, by omega, fun i hi => (hc i hi).keep (hk b hp hlt)⟩⟩
theorem RdN.mono (h : RdN w P A n c ns) (hpq : ∀ b, P b → b < w.heap.size → Q b) : RdN w Q A n c ns :=
  ⟨h.1, h.2.1, h.2.2.1, fun hn => by
    obtain ⟨b, o, e, hp, hlt, hc⟩ := h.2.2.2 hn
    exact ⟨b, o, e, hpq b hp hlt, hlt, hc⟩⟩
theorem RdN.below {N : Nat} (h : RdN w (· < N) A n c ns) (hb : Below N w w') : RdN w' (· < N) A n c ns := h.keep hb.size fun b hp _ => hb.block b hp
theorem RdN.on (h : RdN w P A n c ns) (hb : Below w.heap.size w w') : RdN w' P A n c ns := h.keep hb.size fun b _ hl => hb.block b hl
theorem RdN.low (h : RdN w P A n c ns) : RdN w (· < w.heap.size) A n c ns := h.mono fun _ _ h => h
theorem RdN.all (h : RdN w P A n c ns) : RdN w (fun _ => True) A n c ns := h.mono fun _ _ _ => trivial
theorem RdN.drew (h : RdN w P A n c ns) : RdN w.drew P A n c ns := h
end
theorem addN_none (b o j : Nat) : (⟨b, o, none⟩ : Addr).add j = ⟨b, o + j, none⟩ := by unfold Addr.add; by_cases h : j = 0 <;> simp [h]
end Nt
namespace Nt
open Go Go.RowKit
def nodeS (x : Nd) (i : Int) : Bool :=
  if (decide (1 ≤ x.1) && decide (x.1 ≤ 8)) = false then false
  else if two x.1 = true then (decide (0 ≤ x.2.1) && decide (x.2.1 ≤ i - 1)) && (decide (x.2.1 + 1 ≤ x.2.2.1) && decide (x.2.2.1 ≤ i - 1)) && (x.2.2.2 == 0)
  else if x.1 = 7 then (x.2.1 == i - 1) && decide (0 < i) && (x.2.2.1 == 0) && (decide (0 ≤ x.2.2.2) && decide (x.2.2.2 ≤ 0))
  else if x.1 = 8 then (x.2.1 == i - 1) && decide (0 < i) && (x.2.2.1 == 0) && (decide (0 ≤ x.2.2.2) && decide (x.2.2.2 ≤ 8))
  else if x.1 = 2 then (x.2.1 == 0) && (x.2.2.1 == 0) && (decide (0 ≤ x.2.2.2) && decide (x.2.2.2 ≤ 3))
  else (x.2.1 == 0) && (x.2.2.1 == 0) && (decide (0 ≤ x.2.2.2) && decide (x.2.2.2 ≤ 999999999))
def arityN (op : Int) : Int := if two op = true then 2 else if one op = true then 1 else 0
theorem belowN_on {a w w' : World} (h : Below a.heap.size a w) (hb : Below w.heap.size w w') : Below a.heap.size a w' := h.trans (hb.mono h.size)
theorem belowN_grow {w w1 w2 : World} {g : Nat} (h : Below w.heap.size w w1) (hg : w.heap.size ≤ g) (hw : w1.grownBy w2 (some g)) : Below w.heap.size w w2 :=
  h.trans ⟨hw.os, hw.tape, hw.output, hw.size, fun k hk => hw.block k (by have := h.size; omega) (fun e => by injection e with e; omega)⟩
theorem undrewN {W w1 : World} (h : Below W.drew.heap.size W.drew w1) : Below W.heap.size W w1 := (below_drewN (Below.refl W.heap.size W) 1).trans h
theorem below_one (w : World) (o : Obj) : Below w.heap.size w (w.alloc o) := (Below.refl _ _).alloc (Nat.le_refl _) _
theorem two_range {op : Int} (h : two op = true) : 3 ≤ op ∧ op ≤ 6 := by
  unfold two at h
  simpa using h
theorem two_no {op : Int} (h : two op = false) : op < 3 ∨ 6 < op := by
  unfold two at h
  simp at h
  omega
theorem one_no {op : Int} (h : one op = false) : op ≠ 7 ∧ op ≠ 8 := by
  unfold one at h
  simpa using h
theorem calls_atN {P : Program} {f : FuncId} {args : Array Value} {W : World} {post : Ending → World → Prop} (F : World → Prop) (hF : F W) (h : ∀ W, F W → Calls P f args W post) : Calls P f args W post := h W hF
/-- a node's struct lies in block b -/
def NodeAt (w : World) (b : Nat) (t : TypeId) (op x y n : Int) : Prop := w.heap[b]? = some (.cells #[.int .i64 op, .int .i64 x, .int .i64 y, .int .i64 n] t (0, 0))
section
variable {w w' : World} {b : Nat} {t : TypeId} {op x y n : Int}
theorem NodeAt.c0 (h : NodeAt w b t op x y n) : w.cell? ⟨b, 0, none⟩ = some (.int .i64 op) := by rw [cell_of_row w b 0 _ t (0, 0) h]; rfl
theorem NodeAt.c1 (h : NodeAt w b t op x y n) : w.cell? ⟨b, 1, none⟩ = some (.int .i64 x) := by rw [cell_of_row w b 1 _ t (0, 0) h]; rfl
theorem NodeAt.c2 (h : NodeAt w b t op x y n) : w.cell? ⟨b, 2, none⟩ = some (.int .i64 y) := by rw [cell_of_row w b 2 _ t (0, 0) h]; rfl
theorem NodeAt.c3 (h : NodeAt w b t op x y n) : w.cell? ⟨b, 3, none⟩ = some (.int .i64 n) := by rw [cell_of_row w b 3 _ t (0, 0) h]; rfl
theorem NodeAt.four (h : NodeAt w b t op x y n) : w.cell? ⟨b, 0, none⟩ = some (.int .i64 op) ∧ w.cell? ⟨b, 1, none⟩ = some (.int .i64 x) ∧ w.cell? ⟨b, 2, none⟩ = some (.int .i64 y) ∧ w.cell? ⟨b, 3, none⟩ = some (.int .i64 n) := ⟨h.c0, h.c1, h.c2, h.c3⟩
theorem NodeAt.lt (h : NodeAt w b t op x y n) : b < w.heap.size := by
  rcases Nat.lt_or_ge b w.heap.size with hlt | hge
  · exact hlt
  · unfold NodeAt at h; rw [Array.getElem?_eq_none hge] at h; cases h
theorem NodeAt.on (h : NodeAt w b t op x y n) (hb : Below w.heap.size w w') : NodeAt w' b t op x y n := (hb.block b h.lt).trans h
theorem NodeAt.new (w : World) (t : TypeId) (op x y n : Int) : NodeAt (w.alloc (.cells #[.int .i64 op, .int .i64 x, .int .i64 y, .int .i64 n] t)) w.heap.size t op x y n := heap_alloc_new w _
end
end Nt
namespace Go.Proofs.YtifepoefeamboaaGreatDoor
open Go Go.RowKit Nt
theorem specTwo_any (op : Int) (w : World) : Calls Tryz.prog 109 #[.int .i64 op] w fun e w' => e = .returned (.bool (two op)) ∧ w = w' := by
  go_enter Tryz.func109, Tryz.ntmps109
  go_wp2_with (go_at_call 107; refine (l01In_any _ _ _ _).mono ?_; rintro e w1 ⟨rfl, rfl⟩)
  go_ret
  exact ⟨rfl, rfl⟩
theorem specOne_any (op : Int) (w : World) : Calls Tryz.prog 111 #[.int .i64 op] w fun e w' => e = .returned (.bool (one op)) ∧ w = w' := by
  by_cases h7 : op = 7
  · subst h7
    go_enter Tryz.func111, Tryz.ntmps111
    go_wp2
    go_ret
    exact ⟨rfl, rfl⟩
  by_cases h8 : op = 8
  · subst h8
    go_enter Tryz.func111, Tryz.ntmps111
    go_wp2
    go_ret
    exact ⟨rfl, rfl⟩
  have HV : Hid (one op = false) := by show _ = _; unfold one; simp [h7, h8]
  have e7 : (op == 7) = false := by simpa using h7
  have e8 : (op == 8) = false := by simpa using h8
  clear h7 h8
  go_enter Tryz.func111, Tryz.ntmps111
  go_wp2
  go_ret
  exact ⟨ret_bool HV.out.symm, rfl⟩

set_option maxHeartbeats 800000 in
theorem implArity_any (op a b n : Int) (w : World) : Calls Tryz.prog 128 #[.agg #[.int .i64 op, .int .i64 a, .int .i64 b, .int .i64 n]] w fun e w' => e = .returned (.int .i64 (arityN op)) ∧ Below w.heap.size w w' := by
  by_cases h3 : op = 3
  · subst h3
    go_enter Tryz.func128, Tryz.ntmps128
    go_wp2
    go_ret
    exact ⟨rfl, below_one _ _⟩
  have e3 : (op == 3) = false := by simpa using h3
  by_cases h4 : op = 4
  · subst h4
    go_enter Tryz.func128, Tryz.ntmps128
    go_wp2
    go_ret
    exact ⟨rfl, below_one _ _⟩
  have e4 : (op == 4) = false := by simpa using h4
  by_cases h5 : op = 5
  · subst h5
    go_enter Tryz.func128, Tryz.ntmps128
    go_wp2
    go_ret
    exact ⟨rfl, below_one _ _⟩
  have e5 : (op == 5) = false := by simpa using h5
  by_cases h6 : op = 6
  · subst h6
    go_enter Tryz.func128, Tryz.ntmps128
    go_wp2
    go_ret
    exact ⟨rfl, below_one _ _⟩
  have e6 : (op == 6) = false := by simpa using h6
  by_cases h7 : op = 7
  · subst h7
    go_enter Tryz.func128, Tryz.ntmps128
    go_wp2
    go_ret
    exact ⟨rfl, below_one _ _⟩
  have e7 : (op == 7) = false := by simpa using h7
  by_cases h8 : op = 8
  · subst h8
    go_enter Tryz.func128, Tryz.ntmps128
    go_wp2
    go_ret
    exact ⟨rfl, below_one _ _⟩
  have e8 : (op == 8) = false := by simpa using h8
  have HV : Hid (arityN op = 0) := by show _ = _; unfold arityN; rw [if_neg (by unfold two; simp; omega), if_neg (by unfold one; simp; omega)]
  clear h3 h4 h5 h6 h7 h8
  go_enter Tryz.func128, Tryz.ntmps128
  go_wp2
  go_ret
  exact ⟨ret_int HV.out.symm, below_one _ _⟩

set_option maxHeartbeats 800000 in
theorem implMost_any (op a b n : Int) (w : World) : Calls Tryz.prog 127 #[.agg #[.int .i64 op, .int .i64 a, .int .i64 b, .int .i64 n]] w fun e w' => e = .returned (.int .i64 (mostN op)) ∧ Below w.heap.size w w' := by
  by_cases h1 : op = 1
  · subst h1
    go_enter Tryz.func127, Tryz.ntmps127
    go_wp2
    go_ret
    exact ⟨rfl, below_one _ _⟩
  have e1 : (op == 1) = false := by simpa using h1
  by_cases h2 : op = 2
  · subst h2
    go_enter Tryz.func127, Tryz.ntmps127
    go_wp2
    go_ret
    exact ⟨rfl, below_one _ _⟩
  have e2 : (op == 2) = false := by simpa using h2
  by_cases h8 : op = 8
  · subst h8
    go_enter Tryz.func127, Tryz.ntmps127
    go_wp2
    go_ret
    exact ⟨rfl, below_one _ _⟩
  have e8 : (op == 8) = false := by simpa using h8
  have HV : Hid (mostN op = 0) := by show _ = _; unfold mostN; rw [if_neg h1, if_neg h2, if_neg h8]
  clear h1 h2 h8
  go_enter Tryz.func127, Tryz.ntmps127
  go_wp2
  go_ret
  exact ⟨ret_int HV.out.symm, below_one _ _⟩

end Go.Proofs.YtifepoefeamboaaGreatDoor
namespace Go.Proofs.YtifepoefeamboaaGreatDoor
open Go Go.RowKit Nt

set_option maxHeartbeats 8000000 in
theorem specNode_any (op a b n i : Int) (w : World) (h0 : 0 ≤ i) (h60 : i ≤ 60) : Calls Tryz.prog 108 #[.agg #[.int .i64 op, .int .i64 a, .int .i64 b, .int .i64 n], .int .i64 i] w fun e w' => e = .returned (.bool (nodeS (op, a, b, n) i)) ∧ Below w.heap.size w w' := by
  have HB1 := Lib.hid (below_one w (.cells #[.int .i64 op, .int .i64 a, .int .i64 b, .int .i64 n] 114))
  have hwr : IntKind.i64.wrap (i - 1) = i - 1 := IntWalk.i64_in _ (by omega)
  cases hin : (decide (1 ≤ op) && decide (op ≤ 8)) with
  | false =>
    have HV : Hid (nodeS (op, a, b, n) i = false) := by show _ = _; unfold nodeS; rw [if_pos hin]
    go_enter Tryz.func108, Tryz.ntmps108
    go_wp2_with (first | (go_at_call 107; refine (l01In_any _ _ _ _).mono ?_; rintro e w1 ⟨rfl, rfl⟩; first | rw [hin] | rw [hA] | rw [hB] | skip) | (go_at_call 109; refine (specTwo_any _ _).mono ?_; rintro e w1 ⟨rfl, rfl⟩; rw [h2]) | (go_at_call 111; refine (specOne_any _ _).mono ?_; rintro e w1 ⟨rfl, rfl⟩; rw [h1]) | (go_at_call 95; refine (l01Bit_any _ _).mono ?_; rintro e w1 ⟨rfl, rfl⟩; rw [hbit]))
    go_ret
    exact ⟨ret_bool HV.out.symm, HB1.out⟩
  | true =>
  have hnin : ¬ (decide (1 ≤ op) && decide (op ≤ 8)) = false := by rw [hin]; exact fun h => by cases h
  cases h2 : two op with
  | true =>
    have hV0 : nodeS (op, a, b, n) i = ((decide (0 ≤ a) && decide (a ≤ i - 1)) && (decide (a + 1 ≤ b) && decide (b ≤ i - 1)) && (n == 0)) := by unfold nodeS; rw [if_neg hnin, if_pos h2]
    cases hA : (decide (0 ≤ a) && decide (a ≤ i - 1)) with
    | false =>
      have HV : Hid (nodeS (op, a, b, n) i = false) := by show _ = _; rw [hV0, hA]; rfl
      go_enter Tryz.func108, Tryz.ntmps108
      go_wp2_with (first | (go_at_call 107; refine (l01In_any _ _ _ _).mono ?_; rintro e w1 ⟨rfl, rfl⟩; first | rw [hin] | rw [hA] | rw [hB] | skip) | (go_at_call 109; refine (specTwo_any _ _).mono ?_; rintro e w1 ⟨rfl, rfl⟩; rw [h2]) | (go_at_call 111; refine (specOne_any _ _).mono ?_; rintro e w1 ⟨rfl, rfl⟩; rw [h1]) | (go_at_call 95; refine (l01Bit_any _ _).mono ?_; rintro e w1 ⟨rfl, rfl⟩; rw [hbit]))
      go_ret
      exact ⟨ret_bool HV.out.symm, HB1.out⟩
    | true =>
      obtain ⟨ha0, ha1⟩ : 0 ≤ a ∧ a ≤ i - 1 := by simpa using hA
      cases hB : (decide (a + 1 ≤ b) && decide (b ≤ i - 1)) with
      | false =>
        have HV : Hid (nodeS (op, a, b, n) i = false) := by show _ = _; rw [hV0, hA, hB]; rfl
        go_enter Tryz.func108, Tryz.ntmps108
        go_wp2_with (first | (go_at_call 107; refine (l01In_any _ _ _ _).mono ?_; rintro e w1 ⟨rfl, rfl⟩; first | rw [hin] | rw [hA] | rw [hB] | skip) | (go_at_call 109; refine (specTwo_any _ _).mono ?_; rintro e w1 ⟨rfl, rfl⟩; rw [h2]) | (go_at_call 111; refine (specOne_any _ _).mono ?_; rintro e w1 ⟨rfl, rfl⟩; rw [h1]) | (go_at_call 95; refine (l01Bit_any _ _).mono ?_; rintro e w1 ⟨rfl, rfl⟩; rw [hbit]))
        go_ret
        exact ⟨ret_bool HV.out.symm, HB1.out⟩
      | true =>
        have HV : Hid (nodeS (op, a, b, n) i = (n == 0)) := by show _ = _; rw [hV0, hA, hB]; rfl
        go_enter Tryz.func108, Tryz.ntmps108
        go_wp2_with (first | (go_at_call 107; refine (l01In_any _ _ _ _).mono ?_; rintro e w1 ⟨rfl, rfl⟩; first | rw [hin] | rw [hA] | rw [hB] | skip) | (go_at_call 109; refine (specTwo_any _ _).mono ?_; rintro e w1 ⟨rfl, rfl⟩; rw [h2]) | (go_at_call 111; refine (specOne_any _ _).mono ?_; rintro e w1 ⟨rfl, rfl⟩; rw [h1]) | (go_at_call 95; refine (l01Bit_any _ _).mono ?_; rintro e w1 ⟨rfl, rfl⟩; rw [hbit]))
        go_ret
        exact ⟨ret_bool HV.out.symm, HB1.out⟩
  | false =>
    by_cases hq7 : op = 7
    · subst hq7
      have HC := Lib.hid (NodeAt.new w 114 7 a b n).four
      have h1 : one 7 = true := rfl
      have hbit : bitZ false = 0 := rfl
      have hV0 : nodeS (7, a, b, n) i = ((a == i - 1) && decide (0 < i) && (b == 0) && (decide (0 ≤ n) && decide (n ≤ 0))) := rfl
      by_cases q0 : a = i - 1
      · have e0 : (a == i - 1) = true := by simpa using q0
        have f0 : (a == IntKind.i64.wrap (i - 1)) = true := by rw [hwr]; exact e0
        clear q0
        by_cases q1 : 0 < i
        · have e1 : decide (0 < i) = true := by simpa using q1
          clear q1
          by_cases q2 : b = 0
          · have e2 : (b == 0) = true := by simpa using q2
            clear q2
            have HV : Hid (nodeS (7, a, b, n) i = (decide (0 ≤ n) && decide (n ≤ 0))) := by show _ = _; rw [hV0, e0, e1, e2]; rfl
            go_enter Tryz.func108, Tryz.ntmps108
            go_wp2_with (first | (go_at_call 107; refine (l01In_any _ _ _ _).mono ?_; rintro e w1 ⟨rfl, rfl⟩; first | rw [hin] | rw [hA] | rw [hB] | skip) | (go_at_call 109; refine (specTwo_any _ _).mono ?_; rintro e w1 ⟨rfl, rfl⟩; rw [h2]) | (go_at_call 111; refine (specOne_any _ _).mono ?_; rintro e w1 ⟨rfl, rfl⟩; rw [h1]) | (go_at_call 95; refine (l01Bit_any _ _).mono ?_; rintro e w1 ⟨rfl, rfl⟩; rw [hbit]))
            go_region_with (first
                | (go_at_call 95; refine (l01Bit_any _ _).mono ?_; rintro e w1 ⟨rfl, rfl⟩; first | rw [hbit] | skip)
                | (go_at_call 107; refine (l01In_any _ _ _ _).mono ?_; rintro e w1 ⟨rfl, rfl⟩))
            all_goals
              go_wp2
              go_ret
              exact ⟨ret_bool HV.out.symm, below_drewN HB1.out 1⟩
          · have e2 : (b == 0) = false := by simpa using q2
            clear q2
            have HV : Hid (nodeS (7, a, b, n) i = false) := by show _ = _; rw [hV0, e0, e1, e2]; simp
            go_enter Tryz.func108, Tryz.ntmps108
            go_wp2_with (first | (go_at_call 107; refine (l01In_any _ _ _ _).mono ?_; rintro e w1 ⟨rfl, rfl⟩; first | rw [hin] | rw [hA] | rw [hB] | skip) | (go_at_call 109; refine (specTwo_any _ _).mono ?_; rintro e w1 ⟨rfl, rfl⟩; rw [h2]) | (go_at_call 111; refine (specOne_any _ _).mono ?_; rintro e w1 ⟨rfl, rfl⟩; rw [h1]) | (go_at_call 95; refine (l01Bit_any _ _).mono ?_; rintro e w1 ⟨rfl, rfl⟩; rw [hbit]))
            go_quiet (fail)
            go_wp2
            go_ret
            exact ⟨ret_bool HV.out.symm, below_drewN HB1.out _⟩
        · have e1 : decide (0 < i) = false := by simpa using q1
          clear q1
          have HV : Hid (nodeS (7, a, b, n) i = false) := by show _ = _; rw [hV0, e0, e1]; simp
          go_enter Tryz.func108, Tryz.ntmps108
          go_wp2_with (first | (go_at_call 107; refine (l01In_any _ _ _ _).mono ?_; rintro e w1 ⟨rfl, rfl⟩; first | rw [hin] | rw [hA] | rw [hB] | skip) | (go_at_call 109; refine (specTwo_any _ _).mono ?_; rintro e w1 ⟨rfl, rfl⟩; rw [h2]) | (go_at_call 111; refine (specOne_any _ _).mono ?_; rintro e w1 ⟨rfl, rfl⟩; rw [h1]) | (go_at_call 95; refine (l01Bit_any _ _).mono ?_; rintro e w1 ⟨rfl, rfl⟩; rw [hbit]))
          go_quiet (fail)
          go_wp2
          go_ret
          exact ⟨ret_bool HV.out.symm, below_drewN HB1.out _⟩
      · have e0 : (a == i - 1) = false := by simpa using q0
        have f0 : (a == IntKind.i64.wrap (i - 1)) = false := by rw [hwr]; exact e0
        clear q0
        have HV : Hid (nodeS (7, a, b, n) i = false) := by show _ = _; rw [hV0, e0]; simp
        go_enter Tryz.func108, Tryz.ntmps108
        go_wp2_with (first | (go_at_call 107; refine (l01In_any _ _ _ _).mono ?_; rintro e w1 ⟨rfl, rfl⟩; first | rw [hin] | rw [hA] | rw [hB] | skip) | (go_at_call 109; refine (specTwo_any _ _).mono ?_; rintro e w1 ⟨rfl, rfl⟩; rw [h2]) | (go_at_call 111; refine (specOne_any _ _).mono ?_; rintro e w1 ⟨rfl, rfl⟩; rw [h1]) | (go_at_call 95; refine (l01Bit_any _ _).mono ?_; rintro e w1 ⟨rfl, rfl⟩; rw [hbit]))
        go_quiet (fail)
        go_wp2
        go_ret
        exact ⟨ret_bool HV.out.symm, below_drewN HB1.out _⟩
    by_cases hq8 : op = 8
    · subst hq8
      have HC := Lib.hid (NodeAt.new w 114 8 a b n).four
      have h1 : one 8 = true := rfl
      have hbit : bitZ true = 1 := rfl
      have hV0 : nodeS (8, a, b, n) i = ((a == i - 1) && decide (0 < i) && (b == 0) && (decide (0 ≤ n) && decide (n ≤ 8))) := rfl
      by_cases q0 : a = i - 1
      · have e0 : (a == i - 1) = true := by simpa using q0
        have f0 : (a == IntKind.i64.wrap (i - 1)) = true := by rw [hwr]; exact e0
        clear q0
        by_cases q1 : 0 < i
        · have e1 : decide (0 < i) = true := by simpa using q1
          clear q1
          by_cases q2 : b = 0
          · have e2 : (b == 0) = true := by simpa using q2
            clear q2
            have HV : Hid (nodeS (8, a, b, n) i = (decide (0 ≤ n) && decide (n ≤ 8))) := by show _ = _; rw [hV0, e0, e1, e2]; rfl
            go_enter Tryz.func108, Tryz.ntmps108
            go_wp2_with (first | (go_at_call 107; refine (l01In_any _ _ _ _).mono ?_; rintro e w1 ⟨rfl, rfl⟩; first | rw [hin] | rw [hA] | rw [hB] | skip) | (go_at_call 109; refine (specTwo_any _ _).mono ?_; rintro e w1 ⟨rfl, rfl⟩; rw [h2]) | (go_at_call 111; refine (specOne_any _ _).mono ?_; rintro e w1 ⟨rfl, rfl⟩; rw [h1]) | (go_at_call 95; refine (l01Bit_any _ _).mono ?_; rintro e w1 ⟨rfl, rfl⟩; rw [hbit]))
            go_region_with (first
                | (go_at_call 95; refine (l01Bit_any _ _).mono ?_; rintro e w1 ⟨rfl, rfl⟩; first | rw [hbit] | skip)
                | (go_at_call 107; refine (l01In_any _ _ _ _).mono ?_; rintro e w1 ⟨rfl, rfl⟩))
            all_goals
              go_wp2
              go_ret
              exact ⟨ret_bool HV.out.symm, below_drewN HB1.out 1⟩
          · have e2 : (b == 0) = false := by simpa using q2
            clear q2
            have HV : Hid (nodeS (8, a, b, n) i = false) := by show _ = _; rw [hV0, e0, e1, e2]; simp
            go_enter Tryz.func108, Tryz.ntmps108
            go_wp2_with (first | (go_at_call 107; refine (l01In_any _ _ _ _).mono ?_; rintro e w1 ⟨rfl, rfl⟩; first | rw [hin] | rw [hA] | rw [hB] | skip) | (go_at_call 109; refine (specTwo_any _ _).mono ?_; rintro e w1 ⟨rfl, rfl⟩; rw [h2]) | (go_at_call 111; refine (specOne_any _ _).mono ?_; rintro e w1 ⟨rfl, rfl⟩; rw [h1]) | (go_at_call 95; refine (l01Bit_any _ _).mono ?_; rintro e w1 ⟨rfl, rfl⟩; rw [hbit]))
            go_quiet (fail)
            go_wp2
            go_ret
            exact ⟨ret_bool HV.out.symm, below_drewN HB1.out _⟩
        · have e1 : decide (0 < i) = false := by simpa using q1
          clear q1
          have HV : Hid (nodeS (8, a, b, n) i = false) := by show _ = _; rw [hV0, e0, e1]; simp
          go_enter Tryz.func108, Tryz.ntmps108
          go_wp2_with (first | (go_at_call 107; refine (l01In_any _ _ _ _).mono ?_; rintro e w1 ⟨rfl, rfl⟩; first | rw [hin] | rw [hA] | rw [hB] | skip) | (go_at_call 109; refine (specTwo_any _ _).mono ?_; rintro e w1 ⟨rfl, rfl⟩; rw [h2]) | (go_at_call 111; refine (specOne_any _ _).mono ?_; rintro e w1 ⟨rfl, rfl⟩; rw [h1]) | (go_at_call 95; refine (l01Bit_any _ _).mono ?_; rintro e w1 ⟨rfl, rfl⟩; rw [hbit]))
          go_quiet (fail)
          go_wp2
          go_ret
          exact ⟨ret_bool HV.out.symm, below_drewN HB1.out _⟩
      · have e0 : (a == i - 1) = false := by simpa using q0
        have f0 : (a == IntKind.i64.wrap (i - 1)) = false := by rw [hwr]; exact e0
        clear q0
        have HV : Hid (nodeS (8, a, b, n) i = false) := by show _ = _; rw [hV0, e0]; simp
        go_enter Tryz.func108, Tryz.ntmps108
        go_wp2_with (first | (go_at_call 107; refine (l01In_any _ _ _ _).mono ?_; rintro e w1 ⟨rfl, rfl⟩; first | rw [hin] | rw [hA] | rw [hB] | skip) | (go_at_call 109; refine (specTwo_any _ _).mono ?_; rintro e w1 ⟨rfl, rfl⟩; rw [h2]) | (go_at_call 111; refine (specOne_any _ _).mono ?_; rintro e w1 ⟨rfl, rfl⟩; rw [h1]) | (go_at_call 95; refine (l01Bit_any _ _).mono ?_; rintro e w1 ⟨rfl, rfl⟩; rw [hbit]))
        go_quiet (fail)
        go_wp2
        go_ret
        exact ⟨ret_bool HV.out.symm, below_drewN HB1.out _⟩
    by_cases hq2 : op = 2
    · subst hq2
      have HC := Lib.hid (NodeAt.new w 114 2 a b n).four
      have h1 : one 2 = false := rfl
      have hV0 : nodeS (2, a, b, n) i = ((a == 0) && (b == 0) && (decide (0 ≤ n) && decide (n ≤ 3))) := rfl
      by_cases q0 : a = 0
      · have e0 : (a == 0) = true := by simpa using q0
        clear q0
        by_cases q1 : b = 0
        · have e1 : (b == 0) = true := by simpa using q1
          clear q1
          have HV : Hid (nodeS (2, a, b, n) i = (decide (0 ≤ n) && decide (n ≤ 3))) := by show _ = _; rw [hV0, e0, e1]; rfl
          go_enter Tryz.func108, Tryz.ntmps108
          go_wp2_with (first | (go_at_call 107; refine (l01In_any _ _ _ _).mono ?_; rintro e w1 ⟨rfl, rfl⟩; first | rw [hin] | rw [hA] | rw [hB] | skip) | (go_at_call 109; refine (specTwo_any _ _).mono ?_; rintro e w1 ⟨rfl, rfl⟩; rw [h2]) | (go_at_call 111; refine (specOne_any _ _).mono ?_; rintro e w1 ⟨rfl, rfl⟩; rw [h1]) | (go_at_call 95; refine (l01Bit_any _ _).mono ?_; rintro e w1 ⟨rfl, rfl⟩; rw [hbit]))
          go_ret
          exact ⟨ret_bool HV.out.symm, HB1.out⟩
        · have e1 : (b == 0) = false := by simpa using q1
          clear q1
          have HV : Hid (nodeS (2, a, b, n) i = false) := by show _ = _; rw [hV0, e0, e1]; simp
          go_enter Tryz.func108, Tryz.ntmps108
          go_wp2_with (first | (go_at_call 107; refine (l01In_any _ _ _ _).mono ?_; rintro e w1 ⟨rfl, rfl⟩; first | rw [hin] | rw [hA] | rw [hB] | skip) | (go_at_call 109; refine (specTwo_any _ _).mono ?_; rintro e w1 ⟨rfl, rfl⟩; rw [h2]) | (go_at_call 111; refine (specOne_any _ _).mono ?_; rintro e w1 ⟨rfl, rfl⟩; rw [h1]) | (go_at_call 95; refine (l01Bit_any _ _).mono ?_; rintro e w1 ⟨rfl, rfl⟩; rw [hbit]))
          go_ret
          exact ⟨ret_bool HV.out.symm, HB1.out⟩
      · have e0 : (a == 0) = false := by simpa using q0
        clear q0
        have HV : Hid (nodeS (2, a, b, n) i = false) := by show _ = _; rw [hV0, e0]; simp
        go_enter Tryz.func108, Tryz.ntmps108
        go_wp2_with (first | (go_at_call 107; refine (l01In_any _ _ _ _).mono ?_; rintro e w1 ⟨rfl, rfl⟩; first | rw [hin] | rw [hA] | rw [hB] | skip) | (go_at_call 109; refine (specTwo_any _ _).mono ?_; rintro e w1 ⟨rfl, rfl⟩; rw [h2]) | (go_at_call 111; refine (specOne_any _ _).mono ?_; rintro e w1 ⟨rfl, rfl⟩; rw [h1]) | (go_at_call 95; refine (l01Bit_any _ _).mono ?_; rintro e w1 ⟨rfl, rfl⟩; rw [hbit]))
        go_ret
        exact ⟨ret_bool HV.out.symm, HB1.out⟩
    obtain rfl : op = 1 := by
      have := two_no h2
      simp at hin
      omega
    have h1 : one 1 = false := rfl
    have hV0 : nodeS (1, a, b, n) i = ((a == 0) && (b == 0) && (decide (0 ≤ n) && decide (n ≤ 999999999))) := rfl
    by_cases q0 : a = 0
    · have e0 : (a == 0) = true := by simpa using q0
      clear q0
      by_cases q1 : b = 0
      · have e1 : (b == 0) = true := by simpa using q1
        clear q1
        have HV : Hid (nodeS (1, a, b, n) i = (decide (0 ≤ n) && decide (n ≤ 999999999))) := by show _ = _; rw [hV0, e0, e1]; rfl
        go_enter Tryz.func108, Tryz.ntmps108
        go_wp2_with (first | (go_at_call 107; refine (l01In_any _ _ _ _).mono ?_; rintro e w1 ⟨rfl, rfl⟩; first | rw [hin] | rw [hA] | rw [hB] | skip) | (go_at_call 109; refine (specTwo_any _ _).mono ?_; rintro e w1 ⟨rfl, rfl⟩; rw [h2]) | (go_at_call 111; refine (specOne_any _ _).mono ?_; rintro e w1 ⟨rfl, rfl⟩; rw [h1]) | (go_at_call 95; refine (l01Bit_any _ _).mono ?_; rintro e w1 ⟨rfl, rfl⟩; rw [hbit]))
        go_ret
        exact ⟨ret_bool HV.out.symm, HB1.out⟩
      · have e1 : (b == 0) = false := by simpa using q1
        clear q1
        have HV : Hid (nodeS (1, a, b, n) i = false) := by show _ = _; rw [hV0, e0, e1]; simp
        go_enter Tryz.func108, Tryz.ntmps108
        go_wp2_with (first | (go_at_call 107; refine (l01In_any _ _ _ _).mono ?_; rintro e w1 ⟨rfl, rfl⟩; first | rw [hin] | rw [hA] | rw [hB] | skip) | (go_at_call 109; refine (specTwo_any _ _).mono ?_; rintro e w1 ⟨rfl, rfl⟩; rw [h2]) | (go_at_call 111; refine (specOne_any _ _).mono ?_; rintro e w1 ⟨rfl, rfl⟩; rw [h1]) | (go_at_call 95; refine (l01Bit_any _ _).mono ?_; rintro e w1 ⟨rfl, rfl⟩; rw [hbit]))
        go_ret
        exact ⟨ret_bool HV.out.symm, HB1.out⟩
    · have e0 : (a == 0) = false := by simpa using q0
      clear q0
      have HV : Hid (nodeS (1, a, b, n) i = false) := by show _ = _; rw [hV0, e0]; simp
      go_enter Tryz.func108, Tryz.ntmps108
      go_wp2_with (first | (go_at_call 107; refine (l01In_any _ _ _ _).mono ?_; rintro e w1 ⟨rfl, rfl⟩; first | rw [hin] | rw [hA] | rw [hB] | skip) | (go_at_call 109; refine (specTwo_any _ _).mono ?_; rintro e w1 ⟨rfl, rfl⟩; rw [h2]) | (go_at_call 111; refine (specOne_any _ _).mono ?_; rintro e w1 ⟨rfl, rfl⟩; rw [h1]) | (go_at_call 95; refine (l01Bit_any _ _).mono ?_; rintro e w1 ⟨rfl, rfl⟩; rw [hbit]))
      go_ret
      exact ⟨ret_bool HV.out.symm, HB1.out⟩

end Go.Proofs.YtifepoefeamboaaGreatDoor
namespace Nt
open Go Go.RowKit
/-- block g has m cells, none frozen -/
def BlkN (w : World) (g : Nat) (t : TypeId) (m : Nat) : Prop := ∃ cs : Array Value, cs.size = m ∧ w.heap[g]? = some (.cells cs t (0, 0))
theorem BlkN.lt {w : World} {g m : Nat} {t : TypeId} (h : BlkN w g t m) : g < w.heap.size := by
  obtain ⟨cs, _, h⟩ := h
  rcases Nat.lt_or_ge g w.heap.size with hlt | hge
  · exact hlt
  · rw [Array.getElem?_eq_none hge] at h; cases h
theorem BlkN.cell {w : World} {g m : Nat} {t : TypeId} (h : BlkN w g t m) (i : Nat) (hi : i < m) : ∃ v, w.cell? ⟨g, i, none⟩ = some v := by
  obtain ⟨cs, hc, h⟩ := h
  exact ⟨cs[i], by rw [cell_of_row w g i _ t (0, 0) h]; simp⟩
theorem BlkN.fz {w : World} {g m : Nat} {t : TypeId} (h : BlkN w g t m) (i : Nat) : w.frozen? ⟨g, i, none⟩ = false := by
  obtain ⟨cs, _, h⟩ := h
  exact frozen_of_row w g i _ t h
theorem BlkN.on {w w' : World} {g m : Nat} {t : TypeId} (h : BlkN w g t m) (hb : Below w.heap.size w w') : BlkN w' g t m := by
  have hl := h.lt
  obtain ⟨cs, hc, h⟩ := h
  exact ⟨cs, hc, (hb.block g hl).trans h⟩
/-- four cells of it are set -/
def set4 (w : World) (g k : Nat) (x : Nd) : World := (((w.setCell ⟨g, k, none⟩ (.int .i64 x.1)).setCell ⟨g, k + 1, none⟩ (.int .i64 x.2.1)).setCell ⟨g, k + 2, none⟩ (.int .i64 x.2.2.1)).setCell ⟨g, k + 3, none⟩ (.int .i64 x.2.2.2)
theorem set4_grown (w : World) (g k : Nat) (x : Nd) : w.grownBy (set4 w g k x) (some g) := grown_set (grown_set (grown_set (grown_set (World.grownBy.refl _ _) _) _) _) _
theorem set4_row {w : World} {g k : Nat} {t : TypeId} {cs : Array Value} (h : w.heap[g]? = some (.cells cs t (0, 0))) (x : Nd) : (set4 w g k x).heap[g]? = some (.cells ((((cs.setIfInBounds k (.int .i64 x.1)).setIfInBounds (k + 1) (.int .i64 x.2.1)).setIfInBounds (k + 2) (.int .i64 x.2.2.1)).setIfInBounds (k + 3) (.int .i64 x.2.2.2)) t (0, 0)) :=
  heap_setCell_same _ g _ _ t _ (heap_setCell_same _ g _ _ t _ (heap_setCell_same _ g _ _ t _ (heap_setCell_same w g k _ t _ h)))
theorem BlkN.set4 {w : World} {g m k : Nat} {t : TypeId} (h : BlkN w g t m) (x : Nd) : BlkN (set4 w g k x) g t m := by
  obtain ⟨cs, hc, h⟩ := h
  exact ⟨_, by simpa using hc, set4_row h x⟩
theorem set4_cell {w : World} {g m k : Nat} {t : TypeId} (h : BlkN w g t m) (x : Nd) (i : Nat) (hi : i < k ∨ k + 3 < i) : (Nt.set4 w g k x).cell? ⟨g, i, none⟩ = w.cell? ⟨g, i, none⟩ := by
  obtain ⟨cs, hc, h⟩ := h
  rw [cell_of_row _ g i _ t (0, 0) (set4_row h x), cell_of_row w g i _ t (0, 0) h]
  simp [show ¬ k = i by omega, show ¬ k + 1 = i by omega, show ¬ k + 2 = i by omega, show ¬ k + 3 = i by omega]
theorem ElN.set4 {w : World} {g m k j : Nat} {t : TypeId} {y : Nd} (h : ElN w g j y) (hb : BlkN w g t m) (x : Nd) (hj : j + 3 < k) : ElN (Nt.set4 w g k x) g j y :=
  ⟨(set4_cell hb x _ (.inl (by omega))).trans h.1, (set4_cell hb x _ (.inl (by omega))).trans h.2.1, (set4_cell hb x _ (.inl (by omega))).trans h.2.2.1, (set4_cell hb x _ (.inl (by omega))).trans h.2.2.2⟩
/-- a struct with one slice lies in block b -/
def SlAt (w : World) (b : Nat) (t : TypeId) (A : Option Addr) (n c : Nat) : Prop := w.heap[b]? = some (.cells #[.slice A n c] t (0, 0))
theorem SlAt.c0 {w : World} {b : Nat} {t : TypeId} {A : Option Addr} {n c : Nat} (h : SlAt w b t A n c) : w.cell? ⟨b, 0, none⟩ = some (.slice A n c) := by rw [cell_of_row w b 0 _ t (0, 0) h]; rfl
theorem SlAt.lt {w : World} {b : Nat} {t : TypeId} {A : Option Addr} {n c : Nat} (h : SlAt w b t A n c) : b < w.heap.size := by
  rcases Nat.lt_or_ge b w.heap.size with hlt | hge
  · exact hlt
  · unfold SlAt at h; rw [Array.getElem?_eq_none hge] at h; cases h
theorem SlAt.fz {w : World} {b : Nat} {t : TypeId} {A : Option Addr} {n c : Nat} (h : SlAt w b t A n c) : w.frozen? ⟨b, 0, none⟩ = false := frozen_of_row w b 0 _ t h
theorem SlAt.on {w w' : World} {b : Nat} {t : TypeId} {A : Option Addr} {n c : Nat} (h : SlAt w b t A n c) (hb : Below w.heap.size w w') : SlAt w' b t A n c := (hb.block b h.lt).trans h
theorem SlAt.new (w : World) (t : TypeId) (A : Option Addr) (n c : Nat) : SlAt (w.alloc (.cells #[.slice A n c] t)) w.heap.size t A n c := heap_alloc_new w _
end Nt
namespace Go.Proofs.YtifepoefeamboaaGreatDoor
open Go Go.RowKit Nt

theorem infoNode : (Tryz.prog.info? 114).map (fun i => (i.zero, i.size, i.bytes)) = some (some (.agg #[.int .i64 0, .int .i64 0, .int .i64 0, .int .i64 0]), 4, 32) := by kernel_rfl
theorem retExpr {fn : Func} {p : Tmp} {A : Option Addr} {n c : Nat} (h : fn.results = #[.cell p 25]) (tmps : Array Value) (w : World) (g : Nat) (hp : tmps.getD p undef = .pointer (some ⟨g, 0, none⟩)) (hr : SlAt w g 25 A n c) :
    (results fn tmps).run Tryz.prog w = .ok (.agg #[.slice A n c]) w := results_cell_row h tmps w g _ _ _ _ hp hr Tryz.underlying25 rfl (by kernel_rfl)

end Go.Proofs.YtifepoefeamboaaGreatDoor
namespace Nt
open Go Go.RowKit
theorem NodeAt.fz {w : World} {b : Nat} {t : TypeId} {op x y n : Int} (h : NodeAt w b t op x y n) (i : Nat) : w.frozen? ⟨b, i, none⟩ = false := frozen_of_row w b i _ t h
theorem NodeAt.set4 {w : World} {b : Nat} {t : TypeId} {op x y n : Int} (h : NodeAt w b t op x y n) (z : Nd) : NodeAt (set4 w b 0 z) b t z.1 z.2.1 z.2.2.1 z.2.2.2 := by
  have := set4_row (k := 0) h z
  unfold NodeAt
  rw [this]
  rfl
theorem SlAt.other {w w' : World} {b g : Nat} {t : TypeId} {A : Option Addr} {n c : Nat} (h : SlAt w b t A n c) (hg : w.grownBy w' (some g)) (hne : b ≠ g) : SlAt w' b t A n c :=
  (hg.block b h.lt (fun e => hne (by injection e))).trans h
theorem SlAt.app {wr w1 : World} {o : Obj} {V A : Option Addr} {n c b n' c' base : Nat} {e t : TypeId} {xs : List Value} (h : SlAt wr b t A n' c') (ho : wr.ownsRow base e 1 (.slice V n c) n xs) (hb : b < base) (hg : (wr.alloc o).grownBy w1 (Value.slice V n c).ownBlock) : SlAt w1 b t A n' c' :=
  (hg.block b (by have := h.lt; simp; omega) (fun e => by have := (ho.lt b e.symm).1; omega)).trans (h.on (below_one _ _))
theorem belowN_app {w wr w1 : World} {o : Obj} {V : Option Addr} {n c base : Nat} {e : TypeId} {xs : List Value} (h : Below w.heap.size w wr) (ho : wr.ownsRow base e 1 (.slice V n c) n xs) (hb : w.heap.size ≤ base)
    (hg : (wr.alloc o).grownBy w1 (Value.slice V n c).ownBlock) : Below w.heap.size w w1 :=
  (h.alloc h.size o).grown hg (by have := h.size; simp; omega) (fun k hk => Nat.le_trans hb (ho.lt k hk).1)
theorem node_fit {x : Nd} {i : Int} (h : nodeS x i = true) : fitN x = true := by
  obtain ⟨op, a, b, n⟩ := x
  unfold nodeS at h
  dsimp only at h
  unfold fitN mostN
  dsimp only
  by_cases h0 : (decide (1 ≤ op) && decide (op ≤ 8)) = false
  · rw [if_pos h0] at h; cases h
  rw [if_neg h0] at h
  have h0' := (Bool.not_eq_false _).mp h0
  rw [h0']
  simp only [Bool.and_eq_true, decide_eq_true_eq] at h0'
  by_cases h2 : two op = true
  · rw [if_pos h2] at h
    have r := two_range h2
    simp only [Bool.and_eq_true, decide_eq_true_eq, beq_iff_eq] at h
    obtain ⟨_, rfl⟩ := h
    rw [h2, if_neg (by omega), if_neg (by omega), if_neg (by omega)]
    rfl
  rw [if_neg h2] at h
  have h2' := (Bool.not_eq_true _).mp h2
  have r := two_no h2'
  rw [h2']
  by_cases h7 : op = 7
  · subst h7
    rw [if_pos rfl] at h
    simp only [Bool.and_eq_true, decide_eq_true_eq, beq_iff_eq] at h
    obtain ⟨⟨_, rfl⟩, h3, h4⟩ := h
    simp [one]
    omega
  rw [if_neg h7] at h
  by_cases h8 : op = 8
  · subst h8
    rw [if_pos rfl] at h
    simp only [Bool.and_eq_true, decide_eq_true_eq, beq_iff_eq] at h
    obtain ⟨⟨_, rfl⟩, h3, h4⟩ := h
    simp [one]
    omega
  rw [if_neg h8] at h
  by_cases hq : op = 2
  · subst hq
    rw [if_pos rfl] at h
    simp only [Bool.and_eq_true, decide_eq_true_eq, beq_iff_eq] at h
    obtain ⟨⟨rfl, rfl⟩, h3, h4⟩ := h
    simp [one]
    omega
  rw [if_neg hq] at h
  obtain rfl : op = 1 := by omega
  simp only [Bool.and_eq_true, decide_eq_true_eq, beq_iff_eq] at h
  obtain ⟨⟨rfl, rfl⟩, h3, h4⟩ := h
  simp [one]
  omega
section
variable {ns : List Nd} {ts : List Tr} {k : Nat}
/-- a node that fits, and whose tree grows, is right -/
theorem node_of {x : Nd} (hN : Nest ts) (hf : fitN x = true) (hg : (growT ts x).isSome = true) : nodeS x ts.length = true := by
  obtain ⟨t, ht⟩ := Option.isSome_iff_exists.1 hg
  obtain ⟨g2, g1, g0⟩ := growT_out hN ht
  obtain ⟨op, a, b, n⟩ := x
  dsimp only at g2 g1 g0
  unfold fitN mostN at hf
  simp only [Bool.and_eq_true, decide_eq_true_eq, Bool.or_eq_true] at hf
  obtain ⟨⟨⟨⟨⟨f1, f2⟩, f3⟩, f4⟩, f5⟩, f6⟩ := hf
  unfold nodeS
  dsimp only
  rw [if_neg (by simp; omega)]
  by_cases h2 : two op = true
  · obtain ⟨a', b', rfl, rfl, q1, q2, q3, _⟩ := g2 h2
    have r := two_range h2
    rw [if_neg (by omega), if_neg (by omega), if_neg (by omega)] at f4
    rw [if_pos h2]
    simp only [Bool.and_eq_true, decide_eq_true_eq, beq_iff_eq]
    omega
  rw [if_neg h2]
  have h2' := (Bool.not_eq_true _).mp h2
  have r := two_no h2'
  have hb : b = 0 := by rcases f6 with f6 | f6; exact absurd f6 h2; exact f6
  by_cases h1 : one op = true
  · obtain ⟨a', rfl, q1, _⟩ := g1 h2' h1
    have h78 : op = 7 ∨ op = 8 := by unfold one at h1; simpa using h1
    rcases h78 with rfl | rfl
    · rw [if_pos rfl]
      simp only [Bool.and_eq_true, decide_eq_true_eq, beq_iff_eq]
      simp at f4
      omega
    · rw [if_neg (by decide), if_pos rfl]
      simp only [Bool.and_eq_true, decide_eq_true_eq, beq_iff_eq]
      simp at f4
      omega
  have h1' := (Bool.not_eq_true _).mp h1
  have r1 := one_no h1'
  have ha : a = 0 := by
    rcases f5 with (f5 | f5) | f5
    · exact absurd f5 h2
    · exact absurd f5 h1
    · exact f5
  rw [if_neg r1.1, if_neg r1.2]
  by_cases hq : op = 2
  · subst hq
    rw [if_pos rfl]
    simp only [Bool.and_eq_true, decide_eq_true_eq, beq_iff_eq]
    simp at f4
    omega
  rw [if_neg hq]
  obtain rfl : op = 1 := by omega
  simp only [Bool.and_eq_true, decide_eq_true_eq, beq_iff_eq]
  simp at f4
  omega
theorem step_no (hk : k < ns.length) (ht : trees (ns.take k) = some ts) (h : nodeS (ns.getD k nd0) k = false) : okE ns = false := by
  obtain ⟨hN, _, hl⟩ := trees_good ns k ts (by omega) ht
  cases hf : fitN (ns.getD k nd0) with
  | false => exact okE_unfit hk hf
  | true =>
    cases hg : growT ts (ns.getD k nd0) with
    | none => exact okE_cut hk ht hg
    | some t =>
      have := node_of hN hf (by rw [hg]; rfl)
      rw [hl] at this
      rw [this] at h
      cases h
theorem step_two (hk : k < ns.length) (ht : trees (ns.take k) = some ts) (h2 : two (ns.getD k nd0).1 = true) (h : nodeS (ns.getD k nd0) k = true) :
    ∃ a b : Nat, (ns.getD k nd0).2.1 = a ∧ (ns.getD k nd0).2.2.1 = b ∧ a < b ∧ b < k ∧ (b + 1 ≠ k → okE ns = false) ∧ (b + 1 = k → (ts.getD b tr0).1 ≠ (a : Int) + 1 → okE ns = false) ∧
      (b + 1 = k → (ts.getD b tr0).1 = (a : Int) + 1 → growT ts (ns.getD k nd0) = some ((ts.getD a tr0).1, 1 + max (ts.getD a tr0).2 (ts.getD b tr0).2)) := by
  obtain ⟨hN, _, hl⟩ := trees_good ns k ts (by omega) ht
  have hcut : growT ts (ns.getD k nd0) = none → okE ns = false := fun hg => okE_cut hk ht hg
  generalize ns.getD k nd0 = x at *
  obtain ⟨op, a, b, n⟩ := x
  unfold nodeS at h
  dsimp only at h h2 ⊢
  have r := two_range h2
  rw [if_neg (by simp; omega), if_pos h2] at h
  simp only [Bool.and_eq_true, decide_eq_true_eq, beq_iff_eq] at h
  obtain ⟨⟨⟨a0, a1⟩, b0, b1⟩, rfl⟩ := h
  obtain ⟨a', rfl⟩ : ∃ a' : Nat, a = a' := ⟨a.toNat, by omega⟩
  obtain ⟨b', rfl⟩ : ∃ b' : Nat, b = b' := ⟨b.toNat, by omega⟩
  have e : growT ts (op, (a' : Int), (b' : Int), 0) = if 0 ≤ (b' : Int) ∧ (b' : Int) = (ts.length : Int) - 1 then
      if 0 ≤ (a' : Int) ∧ (a' : Int) = (ts.getD b' tr0).1 - 1 then some ((ts.getD a' tr0).1, max (max 1 ((ts.getD b' tr0).2 + 1)) ((ts.getD a' tr0).2 + 1)) else none else none := by
    unfold growT
    rw [if_pos h2]
    simp only [Int.toNat_natCast]
  refine ⟨a', b', rfl, rfl, by omega, by omega, fun hne => hcut ?_, fun he hne => hcut ?_, fun he hf => ?_⟩
  · rw [e, if_neg (by omega)]
  · rw [e, if_pos (by omega), if_neg (by omega)]
  · rw [e, if_pos (by omega), if_pos (by omega)]
    have n1 := hN b' (by omega)
    have n2 := hN a' (by omega)
    exact congrArg some (Prod.ext rfl (by show max _ _ = _; omega))
theorem step_one (hk : k < ns.length) (ht : trees (ns.take k) = some ts) (h2 : two (ns.getD k nd0).1 = false) (h1 : one (ns.getD k nd0).1 = true) (h : nodeS (ns.getD k nd0) k = true) :
    ∃ a : Nat, (ns.getD k nd0).2.1 = a ∧ a + 1 = k ∧ growT ts (ns.getD k nd0) = some ((ts.getD a tr0).1, 1 + (ts.getD a tr0).2) := by
  obtain ⟨hN, _, hl⟩ := trees_good ns k ts (by omega) ht
  generalize ns.getD k nd0 = x at *
  obtain ⟨op, a, b, n⟩ := x
  dsimp only at h h1 h2 ⊢
  have h78 : op = 7 ∨ op = 8 := by unfold one at h1; simpa using h1
  have hh : a = (k : Int) - 1 ∧ 0 < (k : Int) := by
    rcases h78 with rfl | rfl
    · have h : ((a == (k : Int) - 1) && decide (0 < (k : Int)) && (b == 0) && (decide (0 ≤ n) && decide (n ≤ 0))) = true := h
      simp only [Bool.and_eq_true, decide_eq_true_eq, beq_iff_eq] at h
      omega
    · have h : ((a == (k : Int) - 1) && decide (0 < (k : Int)) && (b == 0) && (decide (0 ≤ n) && decide (n ≤ 8))) = true := h
      simp only [Bool.and_eq_true, decide_eq_true_eq, beq_iff_eq] at h
      omega
  obtain ⟨a', rfl⟩ : ∃ a' : Nat, a = a' := ⟨a.toNat, by omega⟩
  refine ⟨a', rfl, by omega, ?_⟩
  unfold growT
  rw [if_neg (by rw [h2]; exact Bool.false_ne_true), if_pos h1]
  simp only [Int.toNat_natCast]
  rw [if_pos (by omega)]
  have n2 := hN a' (by omega)
  exact congrArg some (Prod.ext rfl (by show max _ _ = _; omega))
theorem step_leaf (hk : k < ns.length) (ht : trees (ns.take k) = some ts) (h2 : two (ns.getD k nd0).1 = false) (h1 : one (ns.getD k nd0).1 = false) : growT ts (ns.getD k nd0) = some ((k : Int), 1) := by
  obtain ⟨_, _, hl⟩ := trees_good ns k ts (by omega) ht
  unfold growT
  rw [if_neg (by rw [h2]; exact Bool.false_ne_true), if_neg (by rw [h1]; exact Bool.false_ne_true), hl]
/-- at the end -/
theorem okE_end (h0 : 1 ≤ ns.length) (h60 : ns.length ≤ 60) (ht : trees (ns.take ns.length) = some ts) (hf : ∀ j, j < ns.length → fitN (ns.getD j nd0) = true ∧ (ts.getD j tr0).2 ≤ 12) : okE ns = ((ts.getD (ns.length - 1) tr0).1 == 0) := by
  rw [List.take_length] at ht
  unfold okE
  rw [ht, all_fit fun j hj => (hf j hj).1, decide_eq_true h0, decide_eq_true h60]
  show (true && true && true && (decide ((ts.getD (ns.length - 1) tr0).1 = 0) && decide ((ts.getD (ns.length - 1) tr0).2 ≤ 12))) = _
  rw [decide_eq_true (hf (ns.length - 1) (by omega)).2]
  generalize (ts.getD (ns.length - 1) tr0).1 = z
  by_cases h : z = 0
  · subst h; rfl
  · rw [decide_eq_false h, beq_eq_false_iff_ne.2 h]; rfl
theorem deep_at (ts : List Tr) (i : Nat) (h : i < ts.length) : (ts.map Prod.snd).getD i 0 = (ts.getD i tr0).2 := by simp [List.getD, h]
theorem deeps_more {t : Tr} (hl : ts.length = k) (ht : t.2 ≤ 12) (hx : fitN (ns.getD k nd0) = true) (hf : ∀ j, j < k → fitN (ns.getD j nd0) = true ∧ (ts.getD j tr0).2 ≤ 12) : ∀ j, j < k + 1 → fitN (ns.getD j nd0) = true ∧ ((ts ++ [t]).getD j tr0).2 ≤ 12 := by
  intro j hj
  by_cases e : j = k
  · subst e
    refine ⟨hx, ?_⟩
    rw [← hl, getD_last]
    exact ht
  · refine ⟨(hf j (by omega)).1, ?_⟩
    rw [getD_snoc ts t j (by omega)]
    exact (hf j (by omega)).2
end
end Nt
namespace Go.Proofs.YtifepoefeamboaaGreatDoor
open Go Go.RowKit Nt

set_option maxHeartbeats 3200000 in
theorem l05First_any (A : Option Addr) (n c k : Nat) (ns : List Nd) (ts : List Tr) (P : Nat → Prop) (w : World) (hr : RdN w P A n c ns) (hT : Tied ns ts) (hk : k < ts.length) (hl : ts.length ≤ n) (hn : n ≤ 60) :
    Calls Tryz.prog 110 #[.agg #[.slice A n c], .int .i64 (k : Int)] w fun e w' => e = .returned (.int .i64 (ts.getD k tr0).1) ∧ Below w.heap.size w w' := by
  obtain ⟨b, o, rfl, _, hP, hc⟩ := hr.at_ (by omega)
  have HC := Lib.hid hc
  have HT := Lib.hid hT
  obtain ⟨q0, q1, q2, q3⟩ := hc k (by omega)
  have HN : Hid (NodeAt ((w.alloc (.cells #[.slice (some ⟨b, o, none⟩) n c] 25)).alloc (.cells #[.int .i64 (ns.getD k nd0).1, .int .i64 (ns.getD k nd0).2.1, .int .i64 (ns.getD k nd0).2.2.1, .int .i64 (ns.getD k nd0).2.2.2] 114)) (w.heap.size + 1) 114 (ns.getD k nd0).1 (ns.getD k nd0).2.1 (ns.getD k nd0).2.2.1 (ns.getD k nd0).2.2.2) := by
    have := NodeAt.new (w.alloc (.cells #[.slice (some ⟨b, o, none⟩) n c] 25)) 114 (ns.getD k nd0).1 (ns.getD k nd0).2.1 (ns.getD k nd0).2.2.1 (ns.getD k nd0).2.2.2
    rwa [World.size_alloc] at this
  have HS : Hid (SlAt ((w.alloc (.cells #[.slice (some ⟨b, o, none⟩) n c] 25)).alloc (.cells #[.int .i64 (ns.getD k nd0).1, .int .i64 (ns.getD k nd0).2.1, .int .i64 (ns.getD k nd0).2.2.1, .int .i64 (ns.getD k nd0).2.2.2] 114)) w.heap.size 25 (some ⟨b, o, none⟩) n c) := (SlAt.new _ _ _ _ _).on (below_one _ _)
  have hkn : (k : Int) < n := by omega
  clear hr hT hc
  go_enter Tryz.func110, Tryz.ntmps110
  go_wp2
  clear q0 q1 q2 q3 hkn
  go_loopw [1] (fun i wr => ∃ j : Nat, i = .int .i64 j ∧ j < ts.length ∧ Hid (NodeAt wr (w.heap.size + 1) 114 (ns.getD j nd0).1 (ns.getD j nd0).2.1 (ns.getD j nd0).2.2.1 (ns.getD j nd0).2.2.2) ∧ Hid (SlAt wr w.heap.size 25 (some ⟨b, o, none⟩) n c) ∧ Hid ((ts.getD j tr0).1 = (ts.getD k tr0).1) ∧ Hid (Below w.heap.size w wr)) (fun i _ => (intOf i).toNat)
  case atStart => exact ⟨k, rfl, hk, HN, HS, Lib.hid rfl, Lib.hid (((Below.refl _ _).alloc (Nat.le_refl _) _).alloc (by simp) _)⟩
  case round =>
    clear HN HS
    obtain ⟨j, rfl, hj, HN, HS, HE, HB⟩ := hrel
    have t0 := HN.out.c0
    have t1 := HN.out.c1
    cases h2 : two (ns.getD j nd0).1 with
    | true =>
      obtain ⟨a, _, ea, _, haj, _, ef, _⟩ := (HT.out j hj).1 h2
      rw [ea] at t1
      have HE2 : Hid ((ts.getD a tr0).1 = (ts.getD k tr0).1) := ef.symm.trans HE.out
      have e4 := (HC.out a (by omega)).keep (HB.out.block b hP)
      obtain ⟨q0, q1, q2, q3⟩ := e4
      have t2 := HN.out.c2
      have t3 := HN.out.c3
      have f0 := HN.out.fz 0
      have f1 := HN.out.fz 1
      have f2 := HN.out.fz 2
      have f3 := HN.out.fz 3
      have s0 := HS.out.c0
      have hs1 := HN.out.lt
      have HG := Lib.hid (set4_grown wr (w.heap.size + 1) 0 (ns.getD a nd0))
      have HN2 := Lib.hid (HN.out.set4 (ns.getD a nd0))
      have HS2 := Lib.hid (HS.out.other HG.out (by omega))
      have HB2 := Lib.hid (belowN_grow HB.out (by omega) HG.out)
      have haN : (a : Int) < n := by omega
      clear ef ea
      generalize (ns.getD j nd0).1 = op at *
      generalize (ns.getD j nd0).2.2.1 = ob at *
      generalize (ns.getD j nd0).2.2.2 = on at *
      obtain ⟨r, hr⟩ : ∃ r, ns.getD a nd0 = r := ⟨_, rfl⟩
      have HRr := Lib.hid hr
      rw [hr] at q0 q1 q2 q3 HN2 HS2 HB2
      clear hr HG
      go_wp2_with (first | (go_at_call 109; refine (specTwo_any _ _).mono ?_; rintro e w1 ⟨rfl, rfl⟩; rw [h2]))
      go_roundw
      case rel => exact ⟨a, rfl, by omega, by rw [HRr.out]; exact HN2, HS2, HE2, HB2⟩
      case measure => simp [intOf]; omega
    | false =>
      cases h1 : one (ns.getD j nd0).1 with
      | true =>
        obtain ⟨a, ea, haj, ef, _⟩ := (HT.out j hj).2.1 h2 h1
        rw [ea] at t1
        have HE2 : Hid ((ts.getD a tr0).1 = (ts.getD k tr0).1) := ef.symm.trans HE.out
        have e4 := (HC.out a (by omega)).keep (HB.out.block b hP)
        obtain ⟨q0, q1, q2, q3⟩ := e4
        have t2 := HN.out.c2
        have t3 := HN.out.c3
        have f0 := HN.out.fz 0
        have f1 := HN.out.fz 1
        have f2 := HN.out.fz 2
        have f3 := HN.out.fz 3
        have s0 := HS.out.c0
        have hs1 := HN.out.lt
        have HG := Lib.hid (set4_grown wr (w.heap.size + 1) 0 (ns.getD a nd0))
        have HN2 := Lib.hid (HN.out.set4 (ns.getD a nd0))
        have HS2 := Lib.hid (HS.out.other HG.out (by omega))
        have HB2 := Lib.hid (belowN_grow HB.out (by omega) HG.out)
        have haN : (a : Int) < n := by omega
        clear ef ea
        generalize (ns.getD j nd0).1 = op at *
        generalize (ns.getD j nd0).2.2.1 = ob at *
        generalize (ns.getD j nd0).2.2.2 = on at *
        obtain ⟨r, hr⟩ : ∃ r, ns.getD a nd0 = r := ⟨_, rfl⟩
        have HRr := Lib.hid hr
        rw [hr] at q0 q1 q2 q3 HN2 HS2 HB2
        clear hr HG
        go_wp2_with (first | (go_at_call 109; refine (specTwo_any _ _).mono ?_; rintro e w1 ⟨rfl, rfl⟩; rw [h2]) | (go_at_call 111; refine (specOne_any _ _).mono ?_; rintro e w1 ⟨rfl, rfl⟩; rw [h1]))
        go_roundw
        case rel => exact ⟨a, rfl, by omega, by rw [HRr.out]; exact HN2, HS2, HE2, HB2⟩
        case measure => simp [intOf]; omega
      | false =>
        have HV : Hid ((j : Int) = (ts.getD k tr0).1) := ((HT.out j hj).2.2 h2 h1).1.symm.trans HE.out
        generalize (ns.getD j nd0).1 = op at *
        go_wp2_with (first | (go_at_call 109; refine (specTwo_any _ _).mono ?_; rintro e w1 ⟨rfl, rfl⟩; rw [h2]) | (go_at_call 111; refine (specOne_any _ _).mono ?_; rintro e w1 ⟨rfl, rfl⟩; rw [h1]))
        go_ret
        exact ⟨ret_int HV.out, HB.out⟩

set_option maxHeartbeats 6400000 in
theorem specExprOK_any (A : Option Addr) (n c : Nat) (ns : List Nd) (P : Nat → Prop) (w : World) (hr : RdN w P A n c ns) (hn : n ≤ 1048576) :
    Calls Tryz.prog 74 #[.agg #[.slice A n c]] w fun e w' => e = .returned (.bool (okE ns)) ∧ Below w.heap.size w w' := by
  have HL := Lib.hid hr.len
  have HB0 := Lib.hid (below_one w (.cells #[.slice A n c] 25))
  cases hin : (decide (1 ≤ (n : Int)) && decide ((n : Int) ≤ 60)) with
  | false =>
    have HV : Hid (okE ns = false) := by
      have e := HL.out
      simp at hin
      rcases Nat.eq_zero_or_pos n with h | h
      · exact okE_len0 (by omega)
      · exact okE_long (by have := hin (by omega); omega)
    clear hr
    go_enter Tryz.func74, Tryz.ntmps74
    go_wp2_with (go_at_call 107; refine (l01In_any _ _ _ _).mono ?_; rintro e w1 ⟨rfl, rfl⟩; rw [hin])
    go_ret
    exact ⟨ret_bool HV.out.symm, HB0.out⟩
  | true =>
  obtain ⟨h1, h60⟩ : 1 ≤ n ∧ n ≤ 60 := by
    simp at hin
    omega
  obtain ⟨b, o, rfl, _, hP, hc⟩ := hr.at_ (by omega)
  have HR := Lib.hid hr
  have HC := Lib.hid hc
  clear hr hc
  have HS0 : Hid (SlAt ((w.alloc (.cells #[.slice (some ⟨b, o, none⟩) n c] 25)).alloc (.cells #[] 3)) w.heap.size 25 (some ⟨b, o, none⟩) n c) := (SlAt.new _ _ _ _ _).on (below_one _ _)
  go_enter Tryz.func74, Tryz.ntmps74
  go_wp2_with (go_at_call 107; refine (l01In_any _ _ _ _).mono ?_; rintro e w1 ⟨rfl, rfl⟩; rw [hin])
  go_loopw [3, 4] (fun v i wr => ∃ (k : Nat) (ts : List Tr) (V : Option Addr) (cv : Nat), k ≤ n ∧ i = .int .i64 k ∧ v = .slice V k cv ∧ Hid (trees (ns.take k) = some ts) ∧ Hid (∀ j, j < k → fitN (ns.getD j nd0) = true ∧ (ts.getD j tr0).2 ≤ 12) ∧ Hid (wr.ownsRow (w.heap.size + 1) 3 1 (.slice V k cv) k ((ts.map Prod.snd).map (Value.int .i64))) ∧ Hid (SlAt wr w.heap.size 25 (some ⟨b, o, none⟩) n c) ∧ Hid (Below w.heap.size w wr)) (fun _ i _ => n - (intOf i).toNat)
  case atStart => exact ⟨0, [], _, _, Nat.zero_le _, rfl, rfl, Lib.hid trees_nil, Lib.hid (fun j hj => by omega), Lib.hid (by have h := World.ownsRow_lit (size := 1) (w.alloc (.cells #[.slice (some ⟨b, o, none⟩) n c] 25)) (e := 3) #[] 0 (Nat.le_refl _) (by decide) rfl; rw [World.size_alloc] at h; exact h), HS0, Lib.hid (((Below.refl _ _).alloc (Nat.le_refl _) _).alloc (by simp) _)⟩
  case round =>
    clear HS0 HB0 hin
    obtain ⟨k, ts, V, cv, hk, rfl, rfl, HT, HF, HO, HS, HB⟩ := hrel
    have s0 := HS.out.c0
    by_cases hlt : k < n
    · obtain ⟨hN, hTi, hTl⟩ := trees_good ns k ts (by have := HL.out; omega) HT.out
      have HTi := Lib.hid hTi
      have HTl := Lib.hid hTl
      have HNe := Lib.hid hN
      clear hN hTi hTl
      have e4 := (HC.out k hlt).keep (HB.out.block b hP)
      have HNO : Hid (nodeS (ns.getD k nd0) k = false → okE ns = false) := fun h => step_no (by rw [HL.out]; exact hlt) HT.out h
      have HFIT : Hid (nodeS (ns.getD k nd0) k = true → fitN (ns.getD k nd0) = true) := fun h => node_fit h
      have HTWO := Lib.hid (fun h2 h => step_two (ns := ns) (ts := ts) (k := k) (by rw [HL.out]; exact hlt) HT.out h2 h)
      have HONE := Lib.hid (fun h2 h1 h => step_one (ns := ns) (ts := ts) (k := k) (by rw [HL.out]; exact hlt) HT.out h2 h1 h)
      have HLEAF := Lib.hid (fun h2 h1 => step_leaf (ns := ns) (ts := ts) (k := k) (by rw [HL.out]; exact hlt) HT.out h2 h1)
      have HDEEP : Hid (∀ t, growT ts (ns.getD k nd0) = some t → 12 < t.2 → okE ns = false) := fun t hg hd => okE_deep (by rw [HL.out]; exact hlt) HT.out hg hd
      have HMORE : Hid (∀ t, fitN (ns.getD k nd0) = true → growT ts (ns.getD k nd0) = some t → t.2 ≤ 12 → trees (ns.take (k + 1)) = some (ts ++ [t]) ∧ ∀ j, j < k + 1 → fitN (ns.getD j nd0) = true ∧ ((ts ++ [t]).getD j tr0).2 ≤ 12) := fun t hf hg hd => ⟨trees_more (by rw [HL.out]; exact hlt) HT.out hg, deeps_more HTl.out hd hf HF.out⟩
      obtain ⟨x, hx⟩ : ∃ x, ns.getD k nd0 = x := ⟨_, rfl⟩
      rw [hx] at e4 HNO HFIT HTWO HONE HLEAF HDEEP HMORE
      clear hx
      obtain ⟨op, xa, xb, xn⟩ := x
      dsimp only at e4 HNO HFIT HTWO HONE HLEAF HDEEP HMORE
      obtain ⟨q0, q1, q2, q3⟩ := e4
      dsimp only at q0 q1 q2 q3
      have hkn : (k : Int) < n := by omega
      have hwr : IntKind.i64.wrap ((k : Int) - 1) = (k : Int) - 1 := IntWalk.i64_in _ (by omega)
      have HBW := Lib.hid HB.out.size
      go_wp2_with fail
      clear q0 q1 q2 q3 s0
      refine calls_atN (fun v => NodeAt v wr.heap.size 114 op xa xb xn ∧ SlAt v w.heap.size 25 (some ⟨b, o, none⟩) n c ∧ v.ownsRow (w.heap.size + 1) 3 1 (.slice V k cv) k ((ts.map Prod.snd).map (Value.int .i64)) ∧ Below w.heap.size w v) ⟨NodeAt.new _ _ _ _ _ _, HS.out.on (below_one _ _), own_keep HO.out (below_one _ _), belowN_on HB.out (below_one _ _)⟩ ?_
      rintro v1 ⟨pN, pS, pO, pB⟩
      have HN := Lib.hid pN
      replace HS := Lib.hid pS
      replace HO := Lib.hid pO
      replace HB := Lib.hid pB
      clear pN pS pO pB
      refine (specNode_any op xa xb xn k v1 (by omega) (by omega)).mono ?_
      rintro e v2 ⟨rfl, bb⟩
      replace HB := Lib.hid (belowN_on HB.out bb)
      replace HN := Lib.hid (HN.out.on bb)
      replace HS := Lib.hid (HS.out.on bb)
      replace HO := Lib.hid (own_keep HO.out bb)
      clear bb
      cases hnd : nodeS (op, xa, xb, xn) k with
      | false =>
        have HV := Lib.hid (HNO.out hnd)
        go_wp2
        go_ret
        exact ⟨ret_bool HV.out.symm, HB.out⟩
      | true =>
      have HFI := Lib.hid (HFIT.out hnd)
      have t0 := HN.out.c0
      go_wp2_with fail
      clear t0
      refine (specTwo_any op v2).mono ?_
      rintro e v3 ⟨rfl, rfl⟩
      cases h2 : two op with
      | true =>
        obtain ⟨a, b', rfl, rfl, hab, hbk, z1, z2, z3⟩ := HTWO.out h2 hnd
        have h1 : one op = false := by have := two_range h2; unfold one; simp; omega
        clear HTWO HONE HLEAF HNO HFIT hnd
        by_cases hb1 : b' + 1 = k
        · have HZ2 := Lib.hid (z2 hb1)
          have HZ3 := Lib.hid (z3 hb1)
          have hne : ((b' : Int) != (k : Int) - 1) = false := by simp; omega
          have hne2 : ((b' : Int) != IntKind.i64.wrap ((k : Int) - 1)) = false := by rw [hwr]; exact hne
          have hwa : IntKind.i64.wrap ((a : Int) + 1) = (a : Int) + 1 := IntWalk.i64_in _ (by omega)
          have hbl : b' < k := hbk
          obtain ⟨F, hF⟩ : ∃ F, (ts.getD b' tr0).1 = F := ⟨_, rfl⟩
          have HFq := Lib.hid hF
          rw [hF] at HZ2 HZ3
          clear hF z1 z2 z3 hb1
          have t0 := HN.out.c0
          have t1 := HN.out.c1
          have t2 := HN.out.c2
          have t3 := HN.out.c3
          have s0 := HS.out.c0
          go_wp2_with fail
          have HC4 := Lib.hid (show _ ∧ _ ∧ _ ∧ _ ∧ _ from ⟨t0, t1, t2, t3, s0⟩)
          clear t0 t1 t2 t3 s0
          go_region_held3 (fun wx => wx.cell? ⟨wr.heap.size, 0, none⟩ = some (.int .i64 op) ∧ wx.cell? ⟨wr.heap.size, 1, none⟩ = some (.int .i64 (a : Int)) ∧ wx.cell? ⟨wr.heap.size, 2, none⟩ = some (.int .i64 (b' : Int)) ∧ wx.cell? ⟨wr.heap.size, 3, none⟩ = some (.int .i64 xn) ∧ wx.cell? ⟨w.heap.size, 0, none⟩ = some (.slice (some ⟨b, o, none⟩) n c))
            (first | exact HC4.out | exact HC5.out)
            (first
            | (go_at_call 110; refine (l05First_any (some ⟨b, o, none⟩) n c b' ns ts _ _ (by exact (HR.out.low.below HB.out).drew) HTi.out (by rw [HTl.out]; exact hbl) (by rw [HTl.out]; omega) h60).mono ?_; rintro e v3 ⟨rfl, bb⟩; have bb := undrewN bb; rw [HFq.out]; have HB3 := Lib.hid (belowN_on HB.out bb); have HN3 := Lib.hid (HN.out.on bb); have HS3 := Lib.hid (HS.out.on bb); have HO3 := Lib.hid (own_keep HO.out bb); have HC5 := Lib.hid (show _ ∧ _ ∧ _ ∧ _ ∧ _ from ⟨HN3.out.c0, HN3.out.c1, HN3.out.c2, HN3.out.c3, HS3.out.c0⟩); clear bb))
          · clear HB HN HS HO HC4 HC5
            have HB := HB3
            have HN := HN3
            have HS := HS3
            have HO := HO3
            clear HB3 HN3 HS3 HO3
            by_cases hFa : F = (a : Int) + 1
            · have hcm : (F != (a : Int) + 1) = false := by simpa using hFa
              have hcm2 : (F != IntKind.i64.wrap ((a : Int) + 1)) = false := by rw [hwa]; exact hcm
              have HG0 := Lib.hid (HZ3.out hFa)
              have HA := Lib.hid (deep_at ts a (by rw [HTl.out]; omega))
              have HBd := Lib.hid (deep_at ts b' (by rw [HTl.out]; omega))
              have nA := HNe.out a (by rw [HTl.out]; omega)
              have nB := HNe.out b' (by rw [HTl.out]; omega)
              obtain ⟨dA, hdA⟩ : ∃ z, (ts.getD a tr0).2 = z := ⟨_, rfl⟩
              obtain ⟨dB, hdB⟩ : ∃ z, (ts.getD b' tr0).2 = z := ⟨_, rfl⟩
              obtain ⟨Fa, hFa'⟩ : ∃ z, (ts.getD a tr0).1 = z := ⟨_, rfl⟩
              rw [hdA] at HA nA HG0
              rw [hdB] at HBd nB HG0
              rw [hFa'] at HG0
              have dA1 : 1 ≤ dA := nA.1.2.2.1
              have dA2 : dA ≤ 60 := by have := nA.1.2.2.2; omega
              have dB1 : 1 ≤ dB := nB.1.2.2.1
              have dB2 : dB ≤ 60 := by have := nB.1.2.2.2; omega
              obtain ⟨m, hm⟩ : ∃ m, max dA dB = m := ⟨_, rfl⟩
              have hmx : (if dA < dB then dB else dA) = m := by rw [← hm]; split <;> omega
              have hm1 : 1 ≤ m := by omega
              have hw1m : IntKind.i64.wrap (1 + m) = 1 + m := IntWalk.i64_in _ (by omega)
              have hm2 : m ≤ 60 := by omega
              have HGR : Hid (growT ts (op, (a : Int), (b' : Int), xn) = some (Fa, 1 + m)) := by rw [← hm]; exact HG0.out
              obtain ⟨g, og, rfl, _, hgl, hcc⟩ := (own_rd' HO.out).at_ (by omega)
              have cA := hcc a (by omega)
              have cB := hcc b' (by omega)
              rw [HA.out] at cA
              rw [HBd.out] at cB
              have haI : (a : Int) < k := by omega
              have hbI : (b' : Int) < k := by omega
              clear hm hcc hFa nA nB hdA hdB hFa' HG0 HZ2 HZ3 HA HBd hab hbk hbl
              have t1 := HN.out.c1
              have t2 := HN.out.c2
              go_wp2_with fail
              have HC6 := Lib.hid (show _ ∧ _ ∧ _ ∧ _ from ⟨t1, t2, cA, cB⟩)
              clear t1 t2 cA cB
              go_region_held3 (fun wx => wx.cell? ⟨wr.heap.size, 1, none⟩ = some (.int .i64 (a : Int)) ∧ wx.cell? ⟨wr.heap.size, 2, none⟩ = some (.int .i64 (b' : Int)) ∧ wx.cell? ⟨g, og + a, none⟩ = some (.int .i64 dA) ∧ wx.cell? ⟨g, og + b', none⟩ = some (.int .i64 dB))
                (first | exact HC6.out)
                (fail)
              · clear hmx hw1m
                have t0 := HN.out.c0
                go_wp2_with fail
                clear t0
                refine calls_atN (fun v => NodeAt v wr.heap.size 114 op (a : Int) (b' : Int) xn ∧ SlAt v w.heap.size 25 (some ⟨b, o, none⟩) n c ∧ v.ownsRow (w.heap.size + 1) 3 1 (.slice (some ⟨g, og, none⟩) k cv) k ((ts.map Prod.snd).map (Value.int .i64)) ∧ Below w.heap.size w v) ⟨HN.out, HS.out, HO.out, below_drewN HB.out 1⟩ ?_
                rintro v4 ⟨pN, pS, pO, pB⟩
                clear HN HS HO HB HC6
                have HN := Lib.hid pN
                have HS := Lib.hid pS
                have HO := Lib.hid pO
                have HB := Lib.hid pB
                clear pN pS pO pB
                refine (specOne_any op v4).mono ?_
                rintro e v5 ⟨rfl, rfl⟩
                rw [h1]
                have s0 := HS.out.c0
                by_cases h12 : 12 < (1 + m)
                · have HV := Lib.hid (HDEEP.out _ HGR.out h12)
                  have d12 : decide ((12 : Int) < (1 + m)) = true := decide_eq_true h12
                  clear h12
                  go_wp2_with (first | (go_at_call 111; refine (specOne_any _ _).mono ?_; rintro e w1 ⟨rfl, rfl⟩; rw [h1]))
                  go_ret
                  exact ⟨ret_bool HV.out.symm, HB.out⟩
                · have HM := Lib.hid (HMORE.out _ HFI.out HGR.out (by show (1 + m) ≤ 12; omega))
                  have d12 : decide ((12 : Int) < (1 + m)) = false := decide_eq_false h12
                  have hkM : k + 1 ≤ 1000 := by omega
                  clear h12
                  go_wp2_with (first | (go_at_call 111; refine (specOne_any _ _).mono ?_; rintro e w1 ⟨rfl, rfl⟩; rw [h1]) | (at_builtin; refine wpList_append_ints _ rfl _ _ 29 rfl (w.heap.size + 1) 3 Tryz.underlying29 infoInt (some ⟨g, og, none⟩) k cv (ts.map Prod.snd) rfl (HO.out.alloc _) _ (some ⟨v4.heap.size, 0, none⟩) 1 1 [(1 + m)] rfl (rd_one _ _ _) (by omega) (by have := HN.out.lt; have := HBW.out; simp; omega) ?_; intro V' c' w9 hown hg; have HO' := Lib.hid hown; have HB' := Lib.hid (belowN_app HB.out HO.out (by omega) hg); have HS' := Lib.hid (HS.out.app HO.out (by omega) hg); clear hown hg))
                  go_roundw
                  case rel => exact ⟨k + 1, ts ++ [(Fa, 1 + m)], V', c', by omega, by go_num, rfl, Lib.hid HM.out.1, Lib.hid HM.out.2, Lib.hid (by simpa using HO'.out), HS', HB'⟩
                  case measure => simp [intOf]; omega
            · have hcm : (F != (a : Int) + 1) = true := by simpa using hFa
              have hcm2 : (F != IntKind.i64.wrap ((a : Int) + 1)) = true := by rw [hwa]; exact hcm
              have HV := Lib.hid (HZ2.out hFa)
              clear hFa HZ2 HZ3
              go_wp2
              go_ret
              exact ⟨ret_bool HV.out.symm, HB.out⟩
        · have HV := Lib.hid (z1 hb1)
          have hne : ((b' : Int) != (k : Int) - 1) = true := by simp; omega
          have hne2 : ((b' : Int) != IntKind.i64.wrap ((k : Int) - 1)) = true := by rw [hwr]; exact hne
          clear hb1 z1 z2 z3
          have t0 := HN.out.c0
          have t1 := HN.out.c1
          have t2 := HN.out.c2
          have t3 := HN.out.c3
          have s0 := HS.out.c0
          go_wp2_with fail
          go_quiet (fail)
          go_wp2
          go_ret
          exact ⟨ret_bool HV.out.symm, below_drewN HB.out _⟩
      | false =>
        cases h1 : one op with
        | true =>
          obtain ⟨a, rfl, hak, hg⟩ := HONE.out h2 h1 hnd
          have HA := Lib.hid (deep_at ts a (by rw [HTl.out]; omega))
          have nA := HNe.out a (by rw [HTl.out]; omega)
          obtain ⟨dA, hdA⟩ : ∃ z, (ts.getD a tr0).2 = z := ⟨_, rfl⟩
          obtain ⟨Fa, hFa'⟩ : ∃ z, (ts.getD a tr0).1 = z := ⟨_, rfl⟩
          rw [hdA] at HA nA hg
          rw [hFa'] at hg
          have HGR := Lib.hid hg
          have dA1 : 1 ≤ dA := nA.1.2.2.1
          have dA2 : dA ≤ 60 := by have := nA.1.2.2.2; omega
          obtain ⟨g, og, rfl, _, hgl, hcc⟩ := (own_rd' HO.out).at_ (by omega)
          have cA := hcc a (by omega)
          rw [HA.out] at cA
          have haI : (a : Int) < k := by omega
          clear hcc nA hdA hFa' HA hak hg HTWO HONE HLEAF HNO HFIT hnd
          have t0 := HN.out.c0
          have t1 := HN.out.c1
          have t2 := HN.out.c2
          have t3 := HN.out.c3
          have s0 := HS.out.c0
          by_cases h12 : 12 < (1 + dA)
          · have HV := Lib.hid (HDEEP.out _ HGR.out h12)
            have d12 : decide ((12 : Int) < (1 + dA)) = true := decide_eq_true h12
            clear h12
            go_wp2_with (first | (go_at_call 111; refine (specOne_any _ _).mono ?_; rintro e w1 ⟨rfl, rfl⟩; rw [h1]))
            go_ret
            exact ⟨ret_bool HV.out.symm, HB.out⟩
          · have HM := Lib.hid (HMORE.out _ HFI.out HGR.out (by show (1 + dA) ≤ 12; omega))
            have d12 : decide ((12 : Int) < (1 + dA)) = false := decide_eq_false h12
            have hkM : k + 1 ≤ 1000 := by omega
            clear h12
            go_wp2_with (first | (go_at_call 111; refine (specOne_any _ _).mono ?_; rintro e w1 ⟨rfl, rfl⟩; rw [h1]) | (at_builtin; refine wpList_append_ints _ rfl _ _ 29 rfl (w.heap.size + 1) 3 Tryz.underlying29 infoInt (some ⟨g, og, none⟩) k cv (ts.map Prod.snd) rfl (HO.out.alloc _) _ (some ⟨v2.heap.size, 0, none⟩) 1 1 [(1 + dA)] rfl (rd_one _ _ _) (by omega) (by have := HN.out.lt; have := HBW.out; simp; omega) ?_; intro V' c' w9 hown hg; have HO' := Lib.hid hown; have HB' := Lib.hid (belowN_app HB.out HO.out (by omega) hg); have HS' := Lib.hid (HS.out.app HO.out (by omega) hg); clear hown hg))
            go_roundw
            case rel => exact ⟨k + 1, ts ++ [(Fa, 1 + dA)], V', c', by omega, by go_num, rfl, Lib.hid HM.out.1, Lib.hid HM.out.2, Lib.hid (by simpa using HO'.out), HS', HB'⟩
            case measure => simp [intOf]; omega
        | false =>
          have HGR := Lib.hid (HLEAF.out h2 h1)
          clear HTWO HONE HLEAF HNO HFIT hnd
          have t0 := HN.out.c0
          have t1 := HN.out.c1
          have t2 := HN.out.c2
          have t3 := HN.out.c3
          have s0 := HS.out.c0
          · have HM := Lib.hid (HMORE.out _ HFI.out HGR.out (by show (1 : Int) ≤ 12; omega))
            have d12 : decide ((12 : Int) < (1 : Int)) = false := by decide
            have hkM : k + 1 ≤ 1000 := by omega
            skip
            go_wp2_with (first | (go_at_call 111; refine (specOne_any _ _).mono ?_; rintro e w1 ⟨rfl, rfl⟩; rw [h1]) | (at_builtin; refine wpList_append_ints _ rfl _ _ 29 rfl (w.heap.size + 1) 3 Tryz.underlying29 infoInt V k cv (ts.map Prod.snd) rfl (HO.out.alloc _) _ (some ⟨v2.heap.size, 0, none⟩) 1 1 [(1 : Int)] rfl (rd_one _ _ _) (by omega) (by have := HN.out.lt; have := HBW.out; simp; omega) ?_; intro V' c' w9 hown hg; have HO' := Lib.hid hown; have HB' := Lib.hid (belowN_app HB.out HO.out (by omega) hg); have HS' := Lib.hid (HS.out.app HO.out (by omega) hg); clear hown hg))
            go_roundw
            case rel => exact ⟨k + 1, ts ++ [((k : Int), 1)], V', c', by omega, by go_num, rfl, Lib.hid HM.out.1, Lib.hid HM.out.2, Lib.hid (by simpa using HO'.out), HS', HB'⟩
            case measure => simp [intOf]; omega
    · obtain rfl : k = n := by omega
      have HV : Hid (okE ns = ((ts.getD (k - 1) tr0).1 == 0)) := by
        have e := HL.out
        have h := okE_end (ns := ns) (ts := ts) (by omega) (by omega) (by rw [e]; exact HT.out) (by rw [e]; exact HF.out)
        rw [e] at h
        exact h
      obtain ⟨_, hTi, hTl⟩ := trees_good ns k ts (by have := HL.out; omega) HT.out
      obtain ⟨F, hF⟩ : ∃ F, (ts.getD (k - 1) tr0).1 = F := ⟨_, rfl⟩
      have HFq := Lib.hid hF
      rw [hF] at HV
      have hk1 : IntKind.i64.wrap ((k : Int) - 1) = ((k - 1 : Nat) : Int) := by rw [IntWalk.i64_in _ (by omega)]; omega
      have HTi := Lib.hid hTi
      have hTk : k - 1 < ts.length := by omega
      have hTk2 : ts.length ≤ k := by omega
      have hd0 : decide ((k : Int) < k) = false := by simp
      clear hF hTi hTl hlt
      go_wp2_with fail
      refine (l05First_any (some ⟨b, o, none⟩) k c (k - 1) ns ts _ wr (HR.out.low.below HB.out) HTi.out hTk hTk2 h60).mono ?_
      rintro e v3 ⟨rfl, bb⟩
      rw [HFq.out]
      have HB3 := Lib.hid (belowN_on HB.out bb)
      clear bb s0
      go_wp2
      go_ret
      exact ⟨ret_bool HV.out.symm, HB3.out⟩
end Go.Proofs.YtifepoefeamboaaGreatDoor
namespace Nt
open Go Go.RowKit
theorem SlAt.set {w : World} {b : Nat} {t : TypeId} {A : Option Addr} {n c : Nat} (h : SlAt w b t A n c) (A' : Option Addr) (n' c' : Nat) : SlAt (w.setCell ⟨b, 0, none⟩ (.slice A' n' c')) b t A' n' c' := by
  have := heap_setCell_same w b 0 _ t (.slice A' n' c') h
  unfold SlAt
  rw [this]
  rfl
theorem SlAt.past {w w' : World} {b g : Nat} {t : TypeId} {A : Option Addr} {n c : Nat} (h : SlAt w b t A n c) (hg : w.grownBy w' (some g)) (hne : b ≠ g) : SlAt w' b t A n c :=
  (hg.block b h.lt (fun e => hne (by injection e))).trans h
end Nt
namespace Go.Proofs.YtifepoefeamboaaGreatDoor
open Go Go.RowKit Nt

end Go.Proofs.YtifepoefeamboaaGreatDoor
