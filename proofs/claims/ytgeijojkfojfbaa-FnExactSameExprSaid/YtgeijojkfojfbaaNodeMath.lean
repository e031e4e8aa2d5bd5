/-
  Expressions as lists of nodes: where the tree of each node begins, and how deep it is.
-/
import Derived.Test.YtgeijojkfojfbaaMem
namespace Nt
/-- what a node is: its operation, its children, its number -/
abbrev Nd := Int × Int × Int × Int
def nd0 : Nd := (0, 0, 0, 0)
abbrev Tr := Int × Int
def tr0 : Tr := (0, 0)
def two (op : Int) : Bool := decide (3 ≤ op) && decide (op ≤ 6)
def one (op : Int) : Bool := decide (op = 7) || decide (op = 8)
def mostN (op : Int) : Int := if op = 1 then 999999999 else if op = 2 then 3 else if op = 8 then 8 else 0
/-- what a node asks of itself, wherever it stands -/
def fitN (x : Nd) : Bool := decide (1 ≤ x.1) && decide (x.1 ≤ 8) && decide (0 ≤ x.2.2.2) && decide (x.2.2.2 ≤ mostN x.1) && (two x.1 || one x.1 || decide (x.2.1 = 0)) && (two x.1 || decide (x.2.2.1 = 0))
/-- the tree of one node more -/
def growT (ts : List Tr) (x : Nd) : Option Tr :=
  if two x.1 = true then
    if 0 ≤ x.2.2.1 ∧ x.2.2.1 = (ts.length : Int) - 1 then
      if 0 ≤ x.2.1 ∧ x.2.1 = (ts.getD x.2.2.1.toNat tr0).1 - 1 then
        some ((ts.getD x.2.1.toNat tr0).1, max (max 1 ((ts.getD x.2.2.1.toNat tr0).2 + 1)) ((ts.getD x.2.1.toNat tr0).2 + 1))
      else none
    else none
  else if one x.1 = true then
    if 0 ≤ x.2.1 ∧ x.2.1 = (ts.length : Int) - 1 then some ((ts.getD x.2.1.toNat tr0).1, max 1 ((ts.getD x.2.1.toNat tr0).2 + 1)) else none
  else some ((ts.length : Int), 1)
def stepT (o : Option (List Tr)) (x : Nd) : Option (List Tr) := o.bind fun ts => (growT ts x).map fun t => ts ++ [t]
def trees (ns : List Nd) : Option (List Tr) := ns.foldl stepT (some [])
theorem trees_nil : trees [] = some [] := rfl
theorem trees_snoc (ns : List Nd) (x : Nd) : trees (ns ++ [x]) = stepT (trees ns) x := by simp [trees, List.foldl_append]
theorem takeN_snoc (ns : List Nd) (k : Nat) (h : k < ns.length) : ns.take (k + 1) = ns.take k ++ [ns.getD k nd0] := by
  rw [List.take_succ_eq_append_getElem h]
  simp [List.getD, h]
theorem trees_take (ns : List Nd) (k : Nat) (h : k < ns.length) : trees (ns.take (k + 1)) = stepT (trees (ns.take k)) (ns.getD k nd0) := by rw [takeN_snoc ns k h, trees_snoc]
theorem foldl_none : ∀ ns : List Nd, ns.foldl stepT none = none
  | [] => rfl
  | _ :: ns => foldl_none ns
theorem trees_none {ns : List Nd} {k : Nat} (h : trees (ns.take k) = none) : trees ns = none := by
  have e : trees ns = (ns.drop k).foldl stepT (trees (ns.take k)) := by
    unfold trees
    rw [← List.foldl_append, List.take_append_drop]
  rw [e, h, foldl_none]
theorem foldl_pre : ∀ (ns : List Nd) (ts us : List Tr), ns.foldl stepT (some ts) = some us → us.take ts.length = ts ∧ us.length = ts.length + ns.length
  | [], ts, us, h => by
    have h : some ts = some us := h
    injection h with h
    subst h
    exact ⟨List.take_length, rfl⟩
  | x :: ns, ts, us, h => by
    have h : ns.foldl stepT ((growT ts x).map fun t => ts ++ [t]) = some us := h
    cases hg : growT ts x with
    | none => rw [hg] at h; rw [show (Option.map (fun t => ts ++ [t]) (none : Option Tr)) = none from rfl, foldl_none] at h; cases h
    | some t =>
      rw [hg] at h
      obtain ⟨h1, h2⟩ := foldl_pre ns (ts ++ [t]) us h
      refine ⟨?_, by simp at h2 ⊢; omega⟩
      have h3 := congrArg (List.take ts.length) h1
      rw [List.take_take] at h3
      simpa using h3
theorem trees_len {ns : List Nd} {ts : List Tr} (h : trees ns = some ts) : ts.length = ns.length := by
  have := (foldl_pre ns [] ts h).2
  simpa using this
theorem trees_pre {ns : List Nd} {ts us : List Tr} {k : Nat} (h : trees (ns.take k) = some ts) (h' : trees ns = some us) : us.take ts.length = ts := by
  have e : trees ns = (ns.drop k).foldl stepT (trees (ns.take k)) := by
    unfold trees
    rw [← List.foldl_append, List.take_append_drop]
  rw [e, h] at h'
  exact (foldl_pre _ _ _ h').1
/-- what is true of all trees: they lie in one another -/
def Nest (ts : List Tr) : Prop := ∀ i, i < ts.length → (0 ≤ (ts.getD i tr0).1 ∧ (ts.getD i tr0).1 ≤ i ∧ 1 ≤ (ts.getD i tr0).2 ∧ (ts.getD i tr0).2 ≤ i + 1) ∧ ∀ j : Nat, (ts.getD i tr0).1 ≤ j → j ≤ i → (ts.getD j tr0).2 ≤ (ts.getD i tr0).2
/-- what is true of the nodes and their trees -/
def Tied (ns : List Nd) (ts : List Tr) : Prop := ∀ i, i < ts.length →
  (two (ns.getD i nd0).1 = true → ∃ a b : Nat, (ns.getD i nd0).2.1 = a ∧ (ns.getD i nd0).2.2.1 = b ∧ a < i ∧ b < i ∧ (ts.getD i tr0).1 = (ts.getD a tr0).1 ∧ (ts.getD i tr0).2 = 1 + max (ts.getD a tr0).2 (ts.getD b tr0).2) ∧
  (two (ns.getD i nd0).1 = false → one (ns.getD i nd0).1 = true → ∃ a : Nat, (ns.getD i nd0).2.1 = a ∧ a < i ∧ (ts.getD i tr0).1 = (ts.getD a tr0).1 ∧ (ts.getD i tr0).2 = 1 + (ts.getD a tr0).2) ∧
  (two (ns.getD i nd0).1 = false → one (ns.getD i nd0).1 = false → (ts.getD i tr0).1 = i ∧ (ts.getD i tr0).2 = 1)
theorem getD_snoc (ts : List Tr) (t : Tr) (i : Nat) (h : i < ts.length) : (ts ++ [t]).getD i tr0 = ts.getD i tr0 := by simp [List.getD, List.getElem?_append_left h]
theorem getD_last (ts : List Tr) (t : Tr) : (ts ++ [t]).getD ts.length tr0 = t := by simp [List.getD]
/-- what growT answers -/
theorem growT_out {ts : List Tr} {x : Nd} {t : Tr} (hN : Nest ts) (h : growT ts x = some t) :
    (two x.1 = true → ∃ a b : Nat, x.2.1 = a ∧ x.2.2.1 = b ∧ b + 1 = ts.length ∧ a < b ∧ (ts.getD b tr0).1 = a + 1 ∧ t = ((ts.getD a tr0).1, 1 + max (ts.getD a tr0).2 (ts.getD b tr0).2)) ∧
    (two x.1 = false → one x.1 = true → ∃ a : Nat, x.2.1 = a ∧ a + 1 = ts.length ∧ t = ((ts.getD a tr0).1, 1 + (ts.getD a tr0).2)) ∧
    (two x.1 = false → one x.1 = false → t = ((ts.length : Int), 1)) := by
  unfold growT at h
  refine ⟨fun h2 => ?_, fun h2 h1 => ?_, fun h2 h1 => ?_⟩
  · rw [if_pos h2] at h
    by_cases hb : 0 ≤ x.2.2.1 ∧ x.2.2.1 = (ts.length : Int) - 1
    · rw [if_pos hb] at h
      by_cases ha : 0 ≤ x.2.1 ∧ x.2.1 = (ts.getD x.2.2.1.toNat tr0).1 - 1
      · rw [if_pos ha] at h
        injection h with h
        have nb := hN x.2.2.1.toNat (by omega)
        have na := hN x.2.1.toNat (by omega)
        refine ⟨x.2.1.toNat, x.2.2.1.toNat, by omega, by omega, by omega, by omega, by omega, ?_⟩
        rw [← h]
        exact Prod.ext rfl (by show max _ _ = _; omega)
      · rw [if_neg ha] at h; cases h
    · rw [if_neg hb] at h; cases h
  · rw [if_neg (by rw [h2]; exact Bool.false_ne_true), if_pos h1] at h
    by_cases ha : 0 ≤ x.2.1 ∧ x.2.1 = (ts.length : Int) - 1
    · rw [if_pos ha] at h
      injection h with h
      have na := hN x.2.1.toNat (by omega)
      refine ⟨x.2.1.toNat, by omega, by omega, ?_⟩
      rw [← h]
      exact Prod.ext rfl (by show max _ _ = _; omega)
    · rw [if_neg ha] at h; cases h
  · rw [if_neg (by rw [h2]; exact Bool.false_ne_true), if_neg (by rw [h1]; exact Bool.false_ne_true)] at h
    injection h with h
    exact h.symm
theorem nest_snoc {ts : List Tr} {x : Nd} {t : Tr} (hN : Nest ts) (h : growT ts x = some t) : Nest (ts ++ [t]) := by
  obtain ⟨g2, g1, g0⟩ := growT_out hN h
  intro i hi
  simp only [List.length_append, List.length_cons, List.length_nil] at hi
  by_cases hlt : i < ts.length
  · obtain ⟨q, r⟩ := hN i hlt
    rw [getD_snoc ts t i hlt]
    refine ⟨q, fun j h1 h2 => ?_⟩
    rw [getD_snoc ts t j (by omega)]
    exact r j h1 h2
  obtain rfl : i = ts.length := by omega
  rw [getD_last]
  cases h2 : two x.1 with
  | true =>
    obtain ⟨a, b, _, _, hb, hab, hf, rfl⟩ := g2 h2
    obtain ⟨qa, ra⟩ := hN a (by omega)
    obtain ⟨qb, rb⟩ := hN b (by omega)
    refine ⟨⟨qa.1, by show (ts.getD a tr0).1 ≤ _; omega, by show (1 : Int) ≤ 1 + max _ _; omega, by show 1 + max _ _ ≤ _; omega⟩, fun j h1 h2 => ?_⟩
    have h1 : (ts.getD a tr0).1 ≤ j := h1
    show ((ts ++ [_]).getD j tr0).2 ≤ 1 + max _ _
    by_cases hj : j = ts.length
    · subst hj; rw [getD_last]; exact Int.le_refl _
    rw [getD_snoc ts _ j (by omega)]
    by_cases hja : j ≤ a
    · have := ra j h1 hja; omega
    · have := rb j (by omega) (by omega); omega
  | false =>
    cases h1 : one x.1 with
    | true =>
      obtain ⟨a, _, ha, rfl⟩ := g1 h2 h1
      obtain ⟨qa, ra⟩ := hN a (by omega)
      refine ⟨⟨qa.1, by show (ts.getD a tr0).1 ≤ _; omega, by show (1 : Int) ≤ 1 + _; omega, by show 1 + _ ≤ _; omega⟩, fun j h1 h2 => ?_⟩
      have h1 : (ts.getD a tr0).1 ≤ j := h1
      show ((ts ++ [_]).getD j tr0).2 ≤ 1 + _
      by_cases hj : j = ts.length
      · subst hj; rw [getD_last]; exact Int.le_refl _
      rw [getD_snoc ts _ j (by omega)]
      have := ra j h1 (by omega)
      omega
    | false =>
      rw [g0 h2 h1]
      refine ⟨⟨by show (0 : Int) ≤ (ts.length : Int); omega, by show (ts.length : Int) ≤ _; omega, by show (1 : Int) ≤ 1; omega, by show (1 : Int) ≤ _; omega⟩, fun j h1 h2 => ?_⟩
      have h1 : (ts.length : Int) ≤ j := h1
      obtain rfl : j = ts.length := by omega
      rw [getD_last]
      exact Int.le_refl _
theorem tied_snoc {ns : List Nd} {ts : List Tr} {t : Tr} (hT : Tied ns ts) (hN : Nest ts) (h : growT ts (ns.getD ts.length nd0) = some t) : Tied ns (ts ++ [t]) := by
  obtain ⟨g2, g1, g0⟩ := growT_out hN h
  intro i hi
  simp only [List.length_append, List.length_cons, List.length_nil] at hi
  by_cases hlt : i < ts.length
  · obtain ⟨q2, q1, q0⟩ := hT i hlt
    rw [getD_snoc ts t i hlt]
    refine ⟨fun e2 => ?_, fun e2 e1 => ?_, q0⟩
    · obtain ⟨a, b, p1, p2, p3, p4, p5, p6⟩ := q2 e2
      refine ⟨a, b, p1, p2, p3, p4, ?_, ?_⟩
      · rw [getD_snoc ts t a (by omega)]; exact p5
      · rw [getD_snoc ts t a (by omega), getD_snoc ts t b (by omega)]; exact p6
    · obtain ⟨a, p1, p2, p3, p4⟩ := q1 e2 e1
      refine ⟨a, p1, p2, ?_, ?_⟩
      · rw [getD_snoc ts t a (by omega)]; exact p3
      · rw [getD_snoc ts t a (by omega)]; exact p4
  obtain rfl : i = ts.length := by omega
  rw [getD_last]
  refine ⟨fun e2 => ?_, fun e2 e1 => ?_, fun e2 e1 => ?_⟩
  · obtain ⟨a, b, p1, p2, p3, p4, p5, rfl⟩ := g2 e2
    refine ⟨a, b, p1, p2, by omega, by omega, ?_, ?_⟩
    · rw [getD_snoc ts _ a (by omega)]
    · rw [getD_snoc ts _ a (by omega), getD_snoc ts _ b (by omega)]
  · obtain ⟨a, p1, p2, rfl⟩ := g1 e2 e1
    refine ⟨a, p1, by omega, ?_, ?_⟩
    · rw [getD_snoc ts _ a (by omega)]
    · rw [getD_snoc ts _ a (by omega)]
  · rw [g0 e2 e1]
    exact ⟨rfl, rfl⟩
theorem nest_nil : Nest [] := fun i hi => by simp at hi
theorem tied_nil (ns : List Nd) : Tied ns [] := fun i hi => by simp at hi
theorem trees_good : ∀ (ns : List Nd) (k : Nat) (ts : List Tr), k ≤ ns.length → trees (ns.take k) = some ts → Nest ts ∧ Tied ns ts ∧ ts.length = k
  | ns, 0, ts, _, h => by
    rw [List.take_zero, trees_nil] at h
    injection h with h
    subst h
    exact ⟨nest_nil, tied_nil ns, rfl⟩
  | ns, k + 1, ts, hk, h => by
    rw [trees_take ns k (by omega)] at h
    cases ho : trees (ns.take k) with
    | none => rw [ho] at h; cases h
    | some us =>
      obtain ⟨h1, h2, h3⟩ := trees_good ns k us (by omega) ho
      rw [ho] at h
      have h : (growT us (ns.getD k nd0)).map (fun t => us ++ [t]) = some ts := h
      cases hg : growT us (ns.getD k nd0) with
      | none => rw [hg] at h; cases h
      | some t =>
        rw [hg] at h
        have h : some (us ++ [t]) = some ts := h
        injection h with h
        subst h
        refine ⟨nest_snoc h1 hg, tied_snoc h2 h1 (by rw [h3]; exact hg), by simp; omega⟩
/-- which expressions are right -/
def okT (o : Option (List Tr)) (n : Nat) : Bool := match o with
  | none => false
  | some ts => decide ((ts.getD (n - 1) tr0).1 = 0) && decide ((ts.getD (n - 1) tr0).2 ≤ 12)
def okE (ns : List Nd) : Bool := decide (1 ≤ ns.length) && decide (ns.length ≤ 60) && ns.all fitN && okT (trees ns) ns.length
theorem getD_take (ts us : List Tr) (i : Nat) (h : us.take ts.length = ts) (hi : i < ts.length) : us.getD i tr0 = ts.getD i tr0 := by
  rw [← h]
  simp [List.getD, List.getElem?_take, hi]
theorem okE_len0 {ns : List Nd} (h : ns.length = 0) : okE ns = false := by unfold okE; simp [h]
theorem okE_long {ns : List Nd} (h : 60 < ns.length) : okE ns = false := by unfold okE; rw [decide_eq_false (show ¬ ns.length ≤ 60 by omega)]; simp
theorem okE_unfit {ns : List Nd} {k : Nat} (hk : k < ns.length) (h : fitN (ns.getD k nd0) = false) : okE ns = false := by
  unfold okE
  have : ns.all fitN = false := by
    rw [Bool.eq_false_iff]
    intro ha
    rw [List.all_eq_true] at ha
    have e : ns.getD k nd0 = ns[k] := by simp [List.getD, hk]
    rw [e] at h
    have := ha _ (List.getElem_mem hk)
    rw [h] at this
    cases this
  rw [this]
  simp
theorem all_fit {ns : List Nd} (h : ∀ j, j < ns.length → fitN (ns.getD j nd0) = true) : ns.all fitN = true := by
  rw [List.all_eq_true]
  intro r hr
  obtain ⟨i, hi, rfl⟩ := List.mem_iff_getElem.1 hr
  have := h i hi
  have e : ns.getD i nd0 = ns[i] := by simp [List.getD, hi]
  rwa [e] at this
theorem fit_all {ns : List Nd} (h : ns.all fitN = true) (j : Nat) (hj : j < ns.length) : fitN (ns.getD j nd0) = true := by
  rw [List.all_eq_true] at h
  have e : ns.getD j nd0 = ns[j] := by simp [List.getD, hj]
  rw [e]
  exact h _ (List.getElem_mem hj)
theorem okE_torn {ns : List Nd} (h : trees ns = none) : okE ns = false := by unfold okE; rw [h]; simp [okT]
theorem okE_cut {ns : List Nd} {ts : List Tr} {k : Nat} (hk : k < ns.length) (h : trees (ns.take k) = some ts) (hg : growT ts (ns.getD k nd0) = none) : okE ns = false := by
  refine okE_torn (trees_none (k := k + 1) ?_)
  rw [trees_take ns k hk, h]
  show (growT ts (ns.getD k nd0)).map _ = none
  rw [hg]
  rfl
theorem trees_more {ns : List Nd} {ts : List Tr} {t : Tr} {k : Nat} (hk : k < ns.length) (h : trees (ns.take k) = some ts) (hg : growT ts (ns.getD k nd0) = some t) : trees (ns.take (k + 1)) = some (ts ++ [t]) := by
  rw [trees_take ns k hk, h]
  show (growT ts (ns.getD k nd0)).map _ = _
  rw [hg]
  rfl
/-- a node that is too deep is in a whole that is, or outside of it -/
theorem okE_deep {ns : List Nd} {ts : List Tr} {t : Tr} {k : Nat} (hk : k < ns.length) (h : trees (ns.take k) = some ts) (hg : growT ts (ns.getD k nd0) = some t) (hd : 12 < t.2) : okE ns = false := by
  cases hu : trees ns with
  | none => exact okE_torn hu
  | some us =>
    have h1 := trees_more hk h hg
    have hl : ts.length = k := (trees_good ns k ts (by omega) h).2.2
    have hp := trees_pre h1 hu
    have hN := (trees_good ns ns.length us (Nat.le_refl _) (by rw [List.take_length]; exact hu))
    have e : us.getD k tr0 = t := by
      rw [getD_take (ts ++ [t]) us k hp (by simp; omega), ← hl, getD_last]
    unfold okE
    rw [hu]
    show (_ && (decide _ && decide _)) = false
    by_cases h0 : (us.getD (ns.length - 1) tr0).1 = 0
    · have := (hN.1 (ns.length - 1) (by omega)).2 k (by omega) (by omega)
      rw [e] at this
      rw [decide_eq_false (show ¬ (us.getD (ns.length - 1) tr0).2 ≤ 12 by omega)]
      simp
    · rw [decide_eq_false h0]
      simp
theorem okE_out {ns : List Nd} (h : okE ns = true) : 1 ≤ ns.length ∧ ns.length ≤ 60 ∧ (∀ j, j < ns.length → fitN (ns.getD j nd0) = true) ∧ ∃ ts, trees ns = some ts ∧ Nest ts ∧ Tied ns ts ∧ ts.length = ns.length ∧ (ts.getD (ns.length - 1) tr0).1 = 0 ∧ (ts.getD (ns.length - 1) tr0).2 ≤ 12 := by
  unfold okE at h
  simp only [Bool.and_eq_true, decide_eq_true_eq] at h
  obtain ⟨⟨⟨h1, h2⟩, h3⟩, h4⟩ := h
  refine ⟨h1, h2, fun j hj => fit_all h3 j hj, ?_⟩
  cases hu : trees ns with
  | none => rw [hu] at h4; cases h4
  | some us =>
    rw [hu] at h4
    have h4 : (decide _ && decide _) = true := h4
    simp only [Bool.and_eq_true, decide_eq_true_eq] at h4
    obtain ⟨q1, q2, q3⟩ := trees_good ns ns.length us (Nat.le_refl _) (by rw [List.take_length]; exact hu)
    exact ⟨us, rfl, q1, q2, q3, h4.1, h4.2⟩
/-- how deep the whole is -/
def deepE (ns : List Nd) : Int := match trees ns with
  | none => 0
  | some ts => (ts.getD (ns.length - 1) tr0).2
def dimOne (d : Int) (x : Nd) : Int := if x.1 = 2 then max d (x.2.2.2 + 1) else d
def dimE (ns : List Nd) : Int := ns.foldl dimOne 0
theorem dim_take (ns : List Nd) (k : Nat) (h : k < ns.length) : (ns.take (k + 1)).foldl dimOne 0 = dimOne ((ns.take k).foldl dimOne 0) (ns.getD k nd0) := by
  rw [takeN_snoc ns k h, List.foldl_append]
  rfl
end Nt
