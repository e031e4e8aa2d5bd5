/-
  Tapes as lists of steps: which are right, and what comes of an expression's nodes, step by step.
-/
import Derived.Test.YtcepjcnpokpdcaaGreatDoorGrpE
namespace Nt
/-- the children lie ahead of place k -/
def behind (x : Nd) (k : Int) : Bool := (!(two x.1 || one x.1) || (decide (0 ≤ x.2.1) && decide (x.2.1 < k))) && (!two x.1 || (decide (0 ≤ x.2.2.1) && decide (x.2.2.1 < k)))
def stepN (x : Nd) (k : Int) : Bool := fitN x && behind x k
/-- no two of the first m are alike -/
def Lone (ns : List Nd) (m : Nat) : Prop := ∀ i, i < m → ∀ j, j < i → ns.getD j nd0 ≠ ns.getD i nd0
instance (ns : List Nd) (m : Nat) : Decidable (Lone ns m) := inferInstanceAs (Decidable (∀ i, i < m → ∀ j, j < i → ns.getD j nd0 ≠ ns.getD i nd0))
def AllSt (ns : List Nd) (m : Nat) : Prop := ∀ i, i < m → stepN (ns.getD i nd0) i = true
instance (ns : List Nd) (m : Nat) : Decidable (AllSt ns m) := inferInstanceAs (Decidable (∀ i, i < m → stepN (ns.getD i nd0) i = true))
def okTp (ns : List Nd) (o : Int) : Bool := decide (1 ≤ ns.length) && decide (ns.length ≤ 60) && decide (o = (ns.length : Int) - 1) && decide (AllSt ns ns.length) && decide (Lone ns ns.length)
theorem okTp_out {ns : List Nd} {o : Int} (h : okTp ns o = true) : 1 ≤ ns.length ∧ ns.length ≤ 60 ∧ o = (ns.length : Int) - 1 ∧ AllSt ns ns.length ∧ Lone ns ns.length := by
  unfold okTp at h
  simp only [Bool.and_eq_true, decide_eq_true_eq] at h
  exact ⟨h.1.1.1.1, h.1.1.1.2, h.1.1.2, h.1.2, h.2⟩
theorem okTp_len {ns : List Nd} {o : Int} (h : ns.length < 1 ∨ 60 < ns.length ∨ o ≠ (ns.length : Int) - 1) : okTp ns o = false := by
  cases e : okTp ns o with
  | false => rfl
  | true => have := okTp_out e; omega
theorem okTp_step {ns : List Nd} {o : Int} {k : Nat} (hk : k < ns.length) (h : stepN (ns.getD k nd0) k = false) : okTp ns o = false := by
  cases e : okTp ns o with
  | false => rfl
  | true => have := (okTp_out e).2.2.2.1 k hk; rw [h] at this; cases this
theorem okTp_twice {ns : List Nd} {o : Int} {k j : Nat} (hk : k < ns.length) (hj : j < k) (h : ns.getD j nd0 = ns.getD k nd0) : okTp ns o = false := by
  cases e : okTp ns o with
  | false => rfl
  | true => exact absurd h ((okTp_out e).2.2.2.2 k hk j hj)
theorem okTp_yes {ns : List Nd} {o : Int} (h1 : 1 ≤ ns.length) (h60 : ns.length ≤ 60) (ho : o = (ns.length : Int) - 1) (ha : AllSt ns ns.length) (hl : Lone ns ns.length) : okTp ns o = true := by
  unfold okTp
  simp only [Bool.and_eq_true, decide_eq_true_eq]
  exact ⟨⟨⟨⟨h1, h60⟩, ho⟩, ha⟩, hl⟩
/-- where x is among the first m, or -1 -/
def findN (ns : List Nd) (x : Nd) : Nat → Int
  | 0 => -1
  | m + 1 => if 0 ≤ findN ns x m then findN ns x m else if ns.getD m nd0 = x then (m : Int) else -1
theorem findN_miss {ns : List Nd} {x : Nd} : ∀ m, (∀ j, j < m → ns.getD j nd0 ≠ x) → findN ns x m = -1
  | 0, _ => rfl
  | m + 1, h => by
    unfold findN
    rw [findN_miss m fun j hj => h j (by omega), if_neg (by omega), if_neg (h m (by omega))]
theorem findN_hit {ns : List Nd} {x : Nd} {k : Nat} (h : ns.getD k nd0 = x) (hn : ∀ j, j < k → ns.getD j nd0 ≠ x) : ∀ m, k < m → findN ns x m = (k : Int)
  | 0, hk => by omega
  | m + 1, hk => by
    unfold findN
    by_cases e : k = m
    · subst e
      rw [findN_miss k hn, if_neg (by omega), if_pos h]
    · rw [findN_hit h hn m (by omega), if_pos (by omega)]
theorem findN_cases (ns : List Nd) (x : Nd) : ∀ m, (findN ns x m = -1 ∧ ∀ j, j < m → ns.getD j nd0 ≠ x) ∨ (∃ k : Nat, k < m ∧ findN ns x m = (k : Int) ∧ ns.getD k nd0 = x)
  | 0 => .inl ⟨rfl, fun j hj => by omega⟩
  | m + 1 => by
    unfold findN
    rcases findN_cases ns x m with ⟨h1, h2⟩ | ⟨k, hk, h1, h2⟩
    · rw [h1, if_neg (by omega)]
      by_cases e : ns.getD m nd0 = x
      · exact .inr ⟨m, by omega, by rw [if_pos e], e⟩
      · refine .inl ⟨by rw [if_neg e], fun j hj => ?_⟩
        by_cases q : j = m
        · subst q; exact e
        · exact h2 j (by omega)
    · exact .inr ⟨k, by omega, by rw [h1, if_pos (by omega)], h2⟩
theorem findN_ext {ns ms : List Nd} {x : Nd} : ∀ m, (∀ j, j < m → ns.getD j nd0 = ms.getD j nd0) → findN ns x m = findN ms x m
  | 0, _ => rfl
  | m + 1, h => by unfold findN; rw [findN_ext m fun j hj => h j (by omega), h m (by omega)]
/-- a node with its children's steps -/
def wired (at_ : List Int) (x : Nd) : Nd := (x.1, if two x.1 || one x.1 then at_.getD x.2.1.toNat 0 else x.2.1, if two x.1 then at_.getD x.2.2.1.toNat 0 else x.2.2.1, x.2.2.2)
def cstep (S : List Nd × List Int) (x : Nd) : List Nd × List Int :=
  if findN S.1 (wired S.2 x) S.1.length < 0 then (S.1 ++ [wired S.2 x], S.2 ++ [(S.1.length : Int)]) else (S.1, S.2 ++ [findN S.1 (wired S.2 x) S.1.length])
def comp (ns : List Nd) : List Nd × List Int := ns.foldl cstep ([], [])
theorem comp_take (ns : List Nd) (k : Nat) (h : k < ns.length) : comp (ns.take (k + 1)) = cstep (comp (ns.take k)) (ns.getD k nd0) := by
  rw [takeN_snoc ns k h]
  unfold comp
  rw [List.foldl_append]
  rfl
theorem getDI_app (az bs : List Int) (j : Nat) (h : j < az.length) : (az ++ bs).getD j 0 = az.getD j 0 := by simp [List.getD, List.getElem?_append_left h]
/-- what is true when k nodes are over -/
structure CompOK (ns : List Nd) (k : Nat) : Prop where
  len2 : (comp (ns.take k)).2.length = k
  len1 : (comp (ns.take k)).1.length ≤ k
  some_ : 1 ≤ k → 1 ≤ (comp (ns.take k)).1.length
  at_ : ∀ j, j < k → 0 ≤ (comp (ns.take k)).2.getD j 0 ∧ (comp (ns.take k)).2.getD j 0 < (comp (ns.take k)).1.length
theorem comp_ok (ns : List Nd) : ∀ k, k ≤ ns.length → CompOK ns k
  | 0, _ => ⟨rfl, Nat.le_refl _, fun h => by omega, fun j hj => by omega⟩
  | k + 1, hk => by
    have ih := comp_ok ns k (by omega)
    have e := comp_take ns k (by omega)
    obtain ⟨i1, i2, i3, i4⟩ := ih
    generalize hS : comp (ns.take k) = S at *
    obtain ⟨ss, az⟩ := S
    generalize ns.getD k nd0 = x at *
    dsimp only at i1 i2 i3 i4
    unfold cstep at e
    dsimp only at e
    rcases findN_cases ss (wired az x) ss.length with ⟨h1, _⟩ | ⟨j, hj, h1, _⟩
    · rw [h1, if_pos (by omega)] at e
      refine ⟨by rw [e]; simp [i1], by rw [e]; simp; omega, fun _ => by rw [e]; simp, fun j hj => ?_⟩
      rw [e]
      dsimp only
      by_cases q : j < k
      · rw [getDI_app _ _ _ (by omega)]
        have := i4 j q
        rw [List.length_append]
        exact ⟨this.1, by show az.getD j 0 < ((ss.length + 1 : Nat) : Int); omega⟩
      · obtain rfl : j = az.length := by omega
        simp [List.getD]
        omega
    · rw [h1, if_neg (by omega)] at e
      refine ⟨by rw [e]; simp [i1], by rw [e]; show ss.length ≤ _; omega, fun _ => by rw [e]; show 1 ≤ ss.length; omega, fun i hi => ?_⟩
      rw [e]
      dsimp only
      by_cases q : i < k
      · rw [getDI_app _ _ _ (by omega)]
        exact i4 i q
      · obtain rfl : i = az.length := by omega
        simp [List.getD]
        omega
/-- of steps that are right and no two alike come they themselves -/
theorem wired_same {ns : List Nd} {k : Nat} {az : List Int} (hs : stepN (ns.getD k nd0) k = true) (ha : ∀ j, j < k → az.getD j 0 = (j : Int)) : wired az (ns.getD k nd0) = ns.getD k nd0 := by
  generalize ns.getD k nd0 = x at *
  obtain ⟨op, a, b, n⟩ := x
  unfold stepN behind at hs
  simp only [Bool.and_eq_true, Bool.or_eq_true, Bool.not_eq_true', decide_eq_true_eq] at hs
  unfold wired
  dsimp only at hs ⊢
  have e1 : (if (two op || one op) = true then az.getD a.toNat 0 else a) = a := by
    by_cases h : (two op || one op) = true
    · rw [if_pos h]
      rcases hs.2.1 with h' | h'
      · rw [h] at h'; cases h'
      · rw [ha a.toNat (by omega)]; omega
    · rw [if_neg h]
  have e2 : (if two op = true then az.getD b.toNat 0 else b) = b := by
    by_cases h : two op = true
    · rw [if_pos h]
      rcases hs.2.2 with h' | h'
      · rw [h] at h'; cases h'
      · rw [ha b.toNat (by omega)]; omega
    · rw [if_neg h]
  rw [e1, e2]
theorem getDN_take (ns : List Nd) (k j : Nat) (h : j < k) : (ns.take k).getD j nd0 = ns.getD j nd0 := by
  simp [List.getD, h]
theorem comp_same {ns : List Nd} : ∀ k, k ≤ ns.length → AllSt ns k → Lone ns k → (comp (ns.take k)).1 = ns.take k ∧ ∀ j, j < k → (comp (ns.take k)).2.getD j 0 = (j : Int)
  | 0, _, _, _ => ⟨by simp [comp], fun j hj => by omega⟩
  | k + 1, hk, ha, hl => by
    obtain ⟨i1, i2⟩ := comp_same k (by omega) (fun i hi => ha i (by omega)) (fun i hi => hl i (by omega))
    have l2 := (comp_ok ns k (by omega)).len2
    have e := comp_take ns k (by omega)
    have hw := wired_same (ns := ns) (k := k) (ha k (by omega)) i2
    have hmiss : findN (comp (ns.take k)).1 (ns.getD k nd0) (comp (ns.take k)).1.length = -1 := by
      rw [i1]
      refine findN_miss _ fun j hj => ?_
      have hj' : j < k := by simp at hj; omega
      rw [getDN_take ns k j hj']
      exact hl k (by omega) j hj'
    unfold cstep at e
    rw [hw, hmiss, if_pos (by omega), i1] at e
    refine ⟨by rw [e, takeN_snoc ns k (by omega)], fun j hj => ?_⟩
    rw [e]
    dsimp only
    by_cases q : j < k
    · rw [getDI_app _ _ _ (by omega)]
      exact i2 j q
    · obtain rfl : j = k := by omega
      have : (comp (ns.take j)).2.length = j := l2
      simp [List.getD, this, Nat.min_eq_left (show j ≤ ns.length by omega)]
theorem comp_less {ns : List Nd} {k m : Nat} (h : (comp (ns.take k)).1.length < k) (hkm : k ≤ m) (hm : m ≤ ns.length) : (comp (ns.take m)).1.length < m := by
  induction m with
  | zero => omega
  | succ m ih =>
    by_cases e : k = m + 1
    · subst e; exact h
    · have i := ih (by omega) (by omega)
      rw [comp_take ns m (by omega)]
      unfold cstep
      split
      · simp; omega
      · show (comp (ns.take m)).1.length < m + 1; omega
/-- the steps are az many az the nodes just if no two are alike -/
theorem comp_all {ns : List Nd} (ha : AllSt ns ns.length) : (comp ns).1.length = ns.length ↔ Lone ns ns.length := by
  constructor
  · intro h
    apply Classical.byContradiction
    intro hn
    -- the first one that is there already
    have : ∃ k, k < ns.length ∧ Lone ns k ∧ ¬ Lone ns (k + 1) := by
      apply Classical.byContradiction
      intro hno
      have all : ∀ m, m ≤ ns.length → Lone ns m := by
        intro m
        induction m with
        | zero => intro _ i hi; omega
        | succ m ih =>
          intro hm
          apply Classical.byContradiction
          intro hx
          exact hno ⟨m, by omega, ih (by omega), hx⟩
      exact hn (all _ (Nat.le_refl _))
    obtain ⟨k, hk, hl, hx⟩ := this
    obtain ⟨i1, i2⟩ := comp_same k (by omega) (fun i hi => ha i (by omega)) hl
    have hw := wired_same (ns := ns) (k := k) (ha k hk) i2
    have hhit : ∃ j, j < k ∧ ns.getD j nd0 = ns.getD k nd0 := by
      apply Classical.byContradiction
      intro hno
      refine hx fun i hi j hj => ?_
      by_cases q : i = k
      · subst q; exact fun e => hno ⟨j, hj, e⟩
      · exact hl i (by omega) j hj
    obtain ⟨j, hj, ej⟩ := hhit
    have e := comp_take ns k hk
    unfold cstep at e
    rw [hw] at e
    have hlen : (ns.take k).length = k := by simp; omega
    rcases findN_cases (comp (ns.take k)).1 (ns.getD k nd0) (comp (ns.take k)).1.length with ⟨_, h2⟩ | ⟨q, hq, h1, _⟩
    · exfalso
      refine h2 j (by rw [i1, hlen]; exact hj) ?_
      rw [i1, getDN_take ns k j hj]
      exact ej
    · rw [h1, if_neg (by omega)] at e
      have hless : (comp (ns.take (k + 1))).1.length < k + 1 := by rw [e]; show (comp (ns.take k)).1.length < k + 1; rw [i1, hlen]; omega
      have := comp_less hless (show k + 1 ≤ ns.length by omega) (Nat.le_refl _)
      rw [List.take_length] at this
      omega
  · intro h
    have := (comp_same ns.length (Nat.le_refl _) ha h).1
    rw [List.take_length] at this
    rw [this]
end Nt
