/-
  The step of an expression's last node is the last one: the whole is larger than its parts.
-/
import Derived.Test.YtndeimodphmpkaaTapeMath
namespace Nt
theorem tree_at {ns : List Nd} {ts : List Tr} (h : trees ns = some ts) {k : Nat} (hk : k < ns.length) : ∃ us : List Tr, Nest us ∧ us.length = k ∧ growT us (ns.getD k nd0) = some (ts.getD k tr0) ∧ ∀ j, j < k → us.getD j tr0 = ts.getD j tr0 := by
  cases hv : trees (ns.take (k + 1)) with
  | none => have := trees_none hv; rw [h] at this; cases this
  | some vs =>
    have hv' := hv
    rw [trees_take ns k hk] at hv
    cases ho : trees (ns.take k) with
    | none => rw [ho] at hv; cases hv
    | some us =>
      rw [ho] at hv
      have hv : (growT us (ns.getD k nd0)).map (fun t => us ++ [t]) = some vs := hv
      obtain ⟨h1, _, h3⟩ := trees_good ns k us (by omega) ho
      cases hg : growT us (ns.getD k nd0) with
      | none => rw [hg] at hv; cases hv
      | some t =>
        rw [hg] at hv
        have hv : some (us ++ [t]) = some vs := hv
        injection hv with hv
        subst hv
        have hp := trees_pre hv' h
        refine ⟨us, h1, h3, ?_, fun j hj => ?_⟩
        · rw [getD_take (us ++ [t]) ts k hp (by simp; omega)]
          subst h3
          rw [getD_last]
          exact hg
        · rw [getD_take (us ++ [t]) ts j hp (by simp; omega), getD_snoc us t j (by omega)]
/-- how many nodes a node's tree has -/
def treeSz (ts : List Tr) (i : Nat) : Int := i - (ts.getD i tr0).1 + 1
theorem tree_sz {ns : List Nd} {ts : List Tr} (h : trees ns = some ts) {k : Nat} (hk : k < ns.length) :
    (two (ns.getD k nd0).1 = true → ∃ a b : Nat, (ns.getD k nd0).2.1 = a ∧ (ns.getD k nd0).2.2.1 = b ∧ a < k ∧ b < k ∧ treeSz ts k = 1 + treeSz ts a + treeSz ts b) ∧
    (two (ns.getD k nd0).1 = false → one (ns.getD k nd0).1 = true → ∃ a : Nat, (ns.getD k nd0).2.1 = a ∧ a < k ∧ treeSz ts k = 1 + treeSz ts a) ∧
    (two (ns.getD k nd0).1 = false → one (ns.getD k nd0).1 = false → treeSz ts k = 1) := by
  obtain ⟨us, hN, hl, hg, he⟩ := tree_at h hk
  obtain ⟨g2, g1, g0⟩ := growT_out hN hg
  refine ⟨fun e2 => ?_, fun e2 e1 => ?_, fun e2 e1 => ?_⟩
  · obtain ⟨a, b, p1, p2, p3, p4, p5, p6⟩ := g2 e2
    refine ⟨a, b, p1, p2, by omega, by omega, ?_⟩
    rw [he b (by omega)] at p5
    rw [he a (by omega)] at p6
    unfold treeSz
    rw [p6, p5]
    dsimp only
    omega
  · obtain ⟨a, p1, p2, p3⟩ := g1 e2 e1
    refine ⟨a, p1, by omega, ?_⟩
    rw [he a (by omega)] at p3
    unfold treeSz
    rw [p3]
    dsimp only
    omega
  · have p := g0 e2 e1
    unfold treeSz
    rw [p, hl]
    dsimp only
    omega
/-- sizes of steps: they are those of the nodes -/
structure Sized (ns : List Nd) (ts : List Tr) (k : Nat) (ss : List Nd) (az : List Int) (f : Int → Int) : Prop where
  two_ : ∀ p : Nat, p < ss.length → two (ss.getD p nd0).1 = true → (0 ≤ (ss.getD p nd0).2.1 ∧ (ss.getD p nd0).2.1 < ss.length) ∧ (0 ≤ (ss.getD p nd0).2.2.1 ∧ (ss.getD p nd0).2.2.1 < ss.length) ∧ f p = 1 + f (ss.getD p nd0).2.1 + f (ss.getD p nd0).2.2.1
  one_ : ∀ p : Nat, p < ss.length → two (ss.getD p nd0).1 = false → one (ss.getD p nd0).1 = true → (0 ≤ (ss.getD p nd0).2.1 ∧ (ss.getD p nd0).2.1 < ss.length) ∧ f p = 1 + f (ss.getD p nd0).2.1
  none_ : ∀ p : Nat, p < ss.length → two (ss.getD p nd0).1 = false → one (ss.getD p nd0).1 = false → f p = 1
  at_ : ∀ j, j < k → f (az.getD j 0) = treeSz ts j
  from_ : ∀ p : Nat, p < ss.length → ∃ j, j < k ∧ az.getD j 0 = (p : Int)
theorem getDN_app (ss : List Nd) (y : Nd) (p : Nat) (h : p < ss.length) : (ss ++ [y]).getD p nd0 = ss.getD p nd0 := by simp [List.getD, List.getElem?_append_left h]
theorem getDN_new (ss : List Nd) (y : Nd) : (ss ++ [y]).getD ss.length nd0 = y := by simp [List.getD]
theorem getDI_new (az : List Int) (z : Int) : (az ++ [z]).getD az.length 0 = z := by simp [List.getD]
theorem sized {ns : List Nd} {ts : List Tr} (h : trees ns = some ts) : ∀ k, k ≤ ns.length → ∃ f, Sized ns ts k (comp (ns.take k)).1 (comp (ns.take k)).2 f
  | 0, _ => ⟨fun _ => 0, fun p hp => by simp [comp] at hp, fun p hp => by simp [comp] at hp, fun p hp => by simp [comp] at hp, fun j hj => by omega, fun p hp => by simp [comp] at hp⟩
  | k + 1, hk => by
    obtain ⟨f, hf⟩ := sized h k (by omega)
    have e := comp_take ns k (by omega)
    obtain ⟨i1, i2, i3, i4⟩ := comp_ok ns k (by omega)
    obtain ⟨z2, z1, z0⟩ := tree_sz h (show k < ns.length by omega)
    generalize comp (ns.take k) = S at *
    obtain ⟨ss, az⟩ := S
    generalize ns.getD k nd0 = x at *
    dsimp only at i1 i2 i3 i4 hf
    have w1 : (wired az x).1 = x.1 := rfl
    -- the size that the new step must have
    have W2 : two x.1 = true → (0 ≤ (wired az x).2.1 ∧ (wired az x).2.1 < ss.length) ∧ (0 ≤ (wired az x).2.2.1 ∧ (wired az x).2.2.1 < ss.length) ∧ treeSz ts k = 1 + f (wired az x).2.1 + f (wired az x).2.2.1 := fun e2 => by
      obtain ⟨a, b, pa, pb, ha, hb, hs⟩ := z2 e2
      have e3 : (wired az x).2.1 = az.getD a 0 := by unfold wired; simp [e2, pa]
      have e4 : (wired az x).2.2.1 = az.getD b 0 := by unfold wired; simp [e2, pb]
      rw [e3, e4, hf.at_ a ha, hf.at_ b hb]
      exact ⟨i4 a ha, i4 b hb, hs⟩
    have W1 : two x.1 = false → one x.1 = true → (0 ≤ (wired az x).2.1 ∧ (wired az x).2.1 < ss.length) ∧ treeSz ts k = 1 + f (wired az x).2.1 := fun e2 e1 => by
      obtain ⟨a, pa, ha, hs⟩ := z1 e2 e1
      have e3 : (wired az x).2.1 = az.getD a 0 := by unfold wired; simp [e2, e1, pa]
      rw [e3, hf.at_ a ha]
      exact ⟨i4 a ha, hs⟩
    clear z2 z1
    unfold cstep at e
    dsimp only at e
    generalize wired az x = y at *
    rcases findN_cases ss y ss.length with ⟨h1, _⟩ | ⟨p, hp, h1, h2⟩
    · rw [h1, if_pos (by omega)] at e
      rw [e]
      refine ⟨fun q => if q = (ss.length : Int) then treeSz ts k else f q, ?_⟩
      have old : ∀ q : Int, q < ss.length → (fun q => if q = (ss.length : Int) then treeSz ts k else f q) q = f q := fun q hq => if_neg (by omega)
      have new : (fun q => if q = (ss.length : Int) then treeSz ts k else f q) (ss.length : Int) = treeSz ts k := if_pos rfl
      generalize (fun q => if q = (ss.length : Int) then treeSz ts k else f q) = f' at *
      have hl : ((ss ++ [y]).length : Int) = (ss.length : Int) + 1 := by simp
      constructor
      · intro p hp h2
        dsimp only at hp h2 ⊢
        rw [hl]
        by_cases q : p < ss.length
        · rw [getDN_app ss y p q] at h2 ⊢
          obtain ⟨a1, a2, a3⟩ := hf.two_ p q h2
          rw [old p (by omega), old _ a1.2, old _ a2.2]
          exact ⟨⟨a1.1, by omega⟩, ⟨a2.1, by omega⟩, a3⟩
        · obtain rfl : p = ss.length := by simp at hp; omega
          rw [getDN_new] at h2 ⊢
          obtain ⟨a1, a2, a3⟩ := W2 (by rw [← w1]; exact h2)
          rw [new, old _ a1.2, old _ a2.2]
          exact ⟨⟨a1.1, by omega⟩, ⟨a2.1, by omega⟩, a3⟩
      · intro p hp h2 h3
        dsimp only at hp h2 h3 ⊢
        rw [hl]
        by_cases q : p < ss.length
        · rw [getDN_app ss y p q] at h2 h3 ⊢
          obtain ⟨a1, a3⟩ := hf.one_ p q h2 h3
          rw [old p (by omega), old _ a1.2]
          exact ⟨⟨a1.1, by omega⟩, a3⟩
        · obtain rfl : p = ss.length := by simp at hp; omega
          rw [getDN_new] at h2 h3 ⊢
          obtain ⟨a1, a3⟩ := W1 (by rw [← w1]; exact h2) (by rw [← w1]; exact h3)
          rw [new, old _ a1.2]
          exact ⟨⟨a1.1, by omega⟩, a3⟩
      · intro p hp h2 h3
        dsimp only at hp h2 h3 ⊢
        by_cases q : p < ss.length
        · rw [getDN_app ss y p q] at h2 h3
          rw [old p (by omega)]
          exact hf.none_ p q h2 h3
        · obtain rfl : p = ss.length := by simp at hp; omega
          rw [getDN_new] at h2 h3
          rw [new]
          exact z0 (by rw [← w1]; exact h2) (by rw [← w1]; exact h3)
      · intro j hj
        dsimp only
        by_cases q : j < k
        · rw [getDI_app _ _ _ (by omega), old _ (i4 j q).2]
          exact hf.at_ j q
        · obtain rfl : j = az.length := by omega
          rw [getDI_new, new, i1]
      · intro p hp
        dsimp only at hp ⊢
        by_cases q : p < ss.length
        · obtain ⟨j, hj, hh⟩ := hf.from_ p q
          exact ⟨j, by omega, by rw [getDI_app _ _ _ (by omega)]; exact hh⟩
        · obtain rfl : p = ss.length := by simp at hp; omega
          exact ⟨k, by omega, by rw [← i1, getDI_new]⟩
    · rw [h1, if_neg (by omega)] at e
      rw [e]
      refine ⟨f, hf.two_, hf.one_, hf.none_, fun j hj => ?_, fun q hq => ?_⟩
      · dsimp only
        by_cases q : j < k
        · rw [getDI_app _ _ _ (by omega)]
          exact hf.at_ j q
        · obtain rfl : j = az.length := by omega
          rw [getDI_new, i1]
          rw [← i1] at W2 W1 z0 ⊢
          cases e2 : two x.1 with
          | true =>
            have a3 := (hf.two_ p hp (by rw [h2, w1]; exact e2)).2.2
            rw [h2] at a3
            rw [a3]
            exact ((W2 e2).2.2).symm
          | false =>
            cases e1 : one x.1 with
            | true =>
              have a3 := (hf.one_ p hp (by rw [h2, w1]; exact e2) (by rw [h2, w1]; exact e1)).2
              rw [h2] at a3
              rw [a3]
              exact ((W1 e2 e1).2).symm
            | false =>
              rw [hf.none_ p hp (by rw [h2, w1]; exact e2) (by rw [h2, w1]; exact e1)]
              exact (z0 e2 e1).symm
      · obtain ⟨j, hj, hh⟩ := hf.from_ q hq
        exact ⟨j, by omega, by dsimp only; rw [getDI_app _ _ _ (by omega)]; exact hh⟩
/-- the last node's step is the last one -/
theorem comp_last {ns : List Nd} (h : okE ns = true) : (comp ns).2.getD (ns.length - 1) 0 = ((comp ns).1.length : Int) - 1 := by
  obtain ⟨h1, _, _, ts, hu, hN, _, hl, hz, _⟩ := okE_out h
  obtain ⟨k, hk⟩ : ∃ k, ns.length = k + 1 := ⟨ns.length - 1, by omega⟩
  obtain ⟨f, hf⟩ := sized hu k (by omega)
  obtain ⟨f', hf'⟩ := sized hu (k + 1) (by omega)
  have e := comp_take ns k (by omega)
  obtain ⟨i1, _, _, i4⟩ := comp_ok ns k (by omega)
  have et : ns.take (k + 1) = ns := by rw [← hk, List.take_length]
  rw [et] at e hf'
  rw [hk, Nat.add_sub_cancel] at hz ⊢
  have hroot : treeSz ts k = k + 1 := by unfold treeSz; rw [hz]; omega
  have hlast := hf'.at_ k (by omega)
  have hok := hf'
  generalize comp (ns.take k) = S at *
  obtain ⟨ss, az⟩ := S
  dsimp only at i1 i4 hf
  unfold cstep at e
  dsimp only at e
  generalize wired az (ns.getD k nd0) = y at *
  rcases findN_cases ss y ss.length with ⟨q1, _⟩ | ⟨p, hp, q1, _⟩
  · rw [q1, if_pos (by omega)] at e
    rw [e]
    dsimp only
    rw [← i1, getDI_new]
    simp
  · exfalso
    rw [q1, if_neg (by omega)] at e
    rw [e] at hlast hf'
    dsimp only at hlast hf'
    rw [← i1, getDI_new, i1, hroot] at hlast
    obtain ⟨j, hj, hh⟩ := hf.from_ p hp
    have hj2 := hf'.at_ j (by omega)
    rw [getDI_app _ _ _ (by omega), hh, hlast] at hj2
    have hn := (hN j (by omega)).1.1
    unfold treeSz at hj2
    omega
end Nt
