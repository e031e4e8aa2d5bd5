/-
  What a list of nodes means, node by node: jets at the program's side, four numbers at the model's.
-/
import Derived.Test.YtcepjcnpokpdcaaGreatDoorJetFit
import Derived.Test.YtcepjcnpokpdcaaGreatDoorGrpE
namespace Nt
open Go Go.RowKit
def j0 : Jt := .fx 0
/-- one node's jet, of its children's; none where it is over 0 -/
def stepJ (vars acc : List Jt) (x : Nd) : Option Jt :=
  if x.1 = 1 then some (.fx ((x.2.2.2 : Int) : Rat))
  else if x.1 = 2 then some (vars.getD x.2.2.2.toNat j0)
  else if x.1 = 3 then some (sumJ (acc.getD x.2.1.toNat j0) (acc.getD x.2.2.1.toNat j0))
  else if x.1 = 4 then some (sumJ (acc.getD x.2.1.toNat j0) (timesJ (-1) (acc.getD x.2.2.1.toNat j0)))
  else if x.1 = 5 then some (prodJ (acc.getD x.2.1.toNat j0) (acc.getD x.2.2.1.toNat j0))
  else if x.1 = 6 then (if nu (numJ (acc.getD x.2.2.1.toNat j0) 0) = 0 then none else some (prodJ (acc.getD x.2.1.toNat j0) (invJ (acc.getD x.2.2.1.toNat j0))))
  else if x.1 = 7 then some (timesJ (-1) (acc.getD x.2.1.toNat j0))
  else some (raiseJ (acc.getD x.2.1.toNat j0) x.2.2.2.toNat)
def estep (vars : List Jt) (S : List Jt × Int) (x : Nd) : List Jt × Int :=
  if S.2 = 0 then (match stepJ vars S.1 x with
    | none => ([], 10)
    | some j => if fitsJ j = true then (S.1 ++ [j], 0) else ([], 7)) else S
def evalJ (vars : List Jt) (ns : List Nd) : List Jt × Int := ns.foldl (estep vars) ([], 0)
theorem evalJ_take (vars : List Jt) (ns : List Nd) (k : Nat) (h : k < ns.length) : evalJ vars (ns.take (k + 1)) = estep vars (evalJ vars (ns.take k)) (ns.getD k nd0) := by
  rw [takeN_snoc ns k h]; unfold evalJ; rw [List.foldl_append]; rfl
theorem estep_stop (vars : List Jt) {S : List Jt × Int} (h : S.2 ≠ 0) (x : Nd) : estep vars S x = S := by unfold estep; rw [if_neg h]
theorem foldl_stop (vars : List Jt) {S : List Jt × Int} (h : S.2 ≠ 0) : ∀ ns : List Nd, ns.foldl (estep vars) S = S
  | [] => rfl
  | x :: ns => by rw [List.foldl_cons, estep_stop vars h, foldl_stop vars h ns]
theorem evalJ_stop (vars : List Jt) (ns : List Nd) (k : Nat) (h : (evalJ vars (ns.take k)).2 ≠ 0) : evalJ vars ns = evalJ vars (ns.take k) := by
  have e : evalJ vars ns = (ns.drop k).foldl (estep vars) (evalJ vars (ns.take k)) := by
    unfold evalJ; rw [← List.foldl_append, List.take_append_drop]
  rw [e, foldl_stop vars h]
/-- what is so while nothing has been at fault -/
structure EvOK (d : Nat) (vars acc : List Jt) (k : Nat) : Prop where
  len : acc.length = k
  dep : ∀ j ∈ acc, j.dep ≤ d
  fit : ∀ j ∈ acc, fitsJ j = true
theorem getD_mem {acc : List Jt} {i : Nat} (h : i < acc.length) : acc.getD i j0 ∈ acc := by
  have : acc.getD i j0 = acc[i] := by simp [List.getD, h]
  rw [this]; exact List.getElem_mem h
theorem getD_dep {d : Nat} {acc : List Jt} (h : ∀ j ∈ acc, j.dep ≤ d) (i : Nat) : (acc.getD i j0).dep ≤ d := by
  by_cases hi : i < acc.length
  · exact h _ (getD_mem hi)
  · have : acc.getD i j0 = j0 := by simp [List.getD, Nat.le_of_not_lt hi]
    rw [this]; simp only [j0, Jt.dep]; omega
theorem stepJ_dep {d : Nat} {vars acc : List Jt} {x : Nd} {j : Jt} (hv : ∀ j ∈ vars, j.dep ≤ d) (ha : ∀ j ∈ acc, j.dep ≤ d) (h : stepJ vars acc x = some j) : j.dep ≤ d := by
  have hA := getD_dep ha x.2.1.toNat
  have hB := getD_dep ha x.2.2.1.toNat
  have hV := getD_dep hv x.2.2.2.toNat
  unfold stepJ at h
  generalize acc.getD x.2.1.toNat j0 = f at *
  generalize acc.getD x.2.2.1.toNat j0 = g at *
  split at h
  · cases h; simp only [Jt.dep]; omega
  split at h
  · cases h; exact hV
  split at h
  · cases h; exact dep_sum _ _ _ hA hB
  split at h
  · cases h; exact dep_sum _ _ _ hA (dep_times _ _ _ hB)
  split at h
  · cases h; exact dep_prod _ _ _ hA hB
  split at h
  · split at h
    · cases h
    · cases h; exact dep_prod _ _ _ hA (dep_inv _ _ hB)
  split at h
  · cases h; exact dep_times _ _ _ hA
  · cases h; exact dep_raise _ _ _ hA
theorem estep_ok {d k : Nat} {vars : List Jt} {S : List Jt × Int} {x : Nd} (hv : ∀ j ∈ vars, j.dep ≤ d) (h : EvOK d vars S.1 k) (hs : S.2 = 0) (h0 : (estep vars S x).2 = 0) : EvOK d vars (estep vars S x).1 (k + 1) := by
  unfold estep at h0 ⊢
  rw [if_pos hs] at h0 ⊢
  cases e : stepJ vars S.1 x with
  | none => rw [e] at h0; simp at h0
  | some j =>
    rw [e] at h0
    dsimp only at h0 ⊢
    by_cases hf : fitsJ j = true
    · rw [if_pos hf]
      have hd := stepJ_dep hv h.dep e
      refine ⟨by simp [h.len], fun i hi => ?_, fun i hi => ?_⟩
      · rcases List.mem_append.1 hi with hi | hi
        · exact h.dep i hi
        · rw [List.mem_singleton.1 hi]; exact hd
      · rcases List.mem_append.1 hi with hi | hi
        · exact h.fit i hi
        · rw [List.mem_singleton.1 hi]; exact hf
    · rw [if_neg hf] at h0; simp at h0
theorem evalJ_ok {d : Nat} {vars : List Jt} (hv : ∀ j ∈ vars, j.dep ≤ d) (ns : List Nd) : ∀ k, k ≤ ns.length → (evalJ vars (ns.take k)).2 = 0 → EvOK d vars (evalJ vars (ns.take k)).1 k
  | 0, _, _ => by rw [List.take_zero]; exact ⟨rfl, fun j hj => by simp [evalJ] at hj, fun j hj => by simp [evalJ] at hj⟩
  | k + 1, hk, h => by
    rw [evalJ_take vars ns k (by omega)] at h ⊢
    by_cases hs : (evalJ vars (ns.take k)).2 = 0
    · exact estep_ok hv (evalJ_ok hv ns k (by omega) hs) hs h
    · rw [estep_stop vars hs] at h; exact absurd h hs
theorem evalJ_code (vars : List Jt) : ∀ (ns : List Nd) (S : List Jt × Int), (S.2 = 0 ∨ (S.2 = 10 ∨ S.2 = 7) ∧ S.1 = []) → let R := ns.foldl (estep vars) S; R.2 = 0 ∨ (R.2 = 10 ∨ R.2 = 7) ∧ R.1 = []
  | [], S, h => h
  | x :: ns, S, h => by
    rw [List.foldl_cons]
    apply evalJ_code vars ns
    by_cases hs : S.2 = 0
    · unfold estep
      rw [if_pos hs]
      cases stepJ vars S.1 x with
      | none => exact .inr ⟨.inl rfl, rfl⟩
      | some j =>
        dsimp only
        by_cases hf : fitsJ j = true
        · rw [if_pos hf]; exact .inl rfl
        · rw [if_neg hf]; exact .inr ⟨.inr rfl, rfl⟩
    · rw [estep_stop vars hs]; exact h
theorem evalJ_bad (vars : List Jt) (ns : List Nd) (h : (evalJ vars ns).2 ≠ 0) : (evalJ vars ns).1 = [] := by
  rcases evalJ_code vars ns ([], 0) (.inl rfl) with e | e
  · exact absurd e h
  · exact e.2
/-- the model's numbers, node by node -/
def stepQ (xs acc : List Rat) (x : Nd) : Option Rat :=
  if x.1 = 1 then some ((x.2.2.2 : Int) : Rat)
  else if x.1 = 2 then some (xs.getD x.2.2.2.toNat 0)
  else if x.1 = 3 then some (acc.getD x.2.1.toNat 0 + acc.getD x.2.2.1.toNat 0)
  else if x.1 = 4 then some (acc.getD x.2.1.toNat 0 - acc.getD x.2.2.1.toNat 0)
  else if x.1 = 5 then some (acc.getD x.2.1.toNat 0 * acc.getD x.2.2.1.toNat 0)
  else if x.1 = 6 then (if nu (acc.getD x.2.2.1.toNat 0) = 0 then none else some (acc.getD x.2.1.toNat 0 / acc.getD x.2.2.1.toNat 0))
  else if x.1 = 7 then some (-(acc.getD x.2.1.toNat 0))
  else some (acc.getD x.2.1.toNat 0 ^ x.2.2.2.toNat)
instance (q : Rat) : Decidable (fitQ q) := by unfold fitQ; infer_instance
def estepQ (xs : List Rat) (S : List Rat × Int) (x : Nd) : List Rat × Int :=
  if S.2 = 0 then (match stepQ xs S.1 x with
    | none => ([], 10)
    | some j => if fitQ j then (S.1 ++ [j], 0) else ([], 7)) else S
def evalQ (xs : List Rat) (ns : List Nd) : List Rat × Int := ns.foldl (estepQ xs) ([], 0)
theorem evalQ_take (xs : List Rat) (ns : List Nd) (k : Nat) (h : k < ns.length) : evalQ xs (ns.take (k + 1)) = estepQ xs (evalQ xs (ns.take k)) (ns.getD k nd0) := by
  rw [takeN_snoc ns k h]; unfold evalQ; rw [List.foldl_append]; rfl
theorem estepQ_stop (xs : List Rat) {S : List Rat × Int} (h : S.2 ≠ 0) (x : Nd) : estepQ xs S x = S := by unfold estepQ; rw [if_neg h]
theorem foldlQ_stop (xs : List Rat) {S : List Rat × Int} (h : S.2 ≠ 0) : ∀ ns : List Nd, ns.foldl (estepQ xs) S = S
  | [] => rfl
  | x :: ns => by rw [List.foldl_cons, estepQ_stop xs h, foldlQ_stop xs h ns]
theorem evalQ_stop (xs : List Rat) (ns : List Nd) (k : Nat) (h : (evalQ xs (ns.take k)).2 ≠ 0) : evalQ xs ns = evalQ xs (ns.take k) := by
  have e : evalQ xs ns = (ns.drop k).foldl (estepQ xs) (evalQ xs (ns.take k)) := by
    unfold evalQ; rw [← List.foldl_append, List.take_append_drop]
  rw [e, foldlQ_stop xs h]
/-- what is so of the numbers while nothing has been at fault -/
theorem evalQ_ok (xs : List Rat) (ns : List Nd) : ∀ k, k ≤ ns.length → (evalQ xs (ns.take k)).2 = 0 → (evalQ xs (ns.take k)).1.length = k ∧ ∀ q ∈ (evalQ xs (ns.take k)).1, fitQ q
  | 0, _, _ => by rw [List.take_zero]; exact ⟨rfl, fun j hj => by simp [evalQ] at hj⟩
  | k + 1, hk, h => by
    rw [evalQ_take xs ns k (by omega)] at h ⊢
    by_cases hs : (evalQ xs (ns.take k)).2 = 0
    · have ih := evalQ_ok xs ns k (by omega) hs
      generalize evalQ xs (ns.take k) = S at *
      unfold estepQ at h ⊢
      rw [if_pos hs] at h ⊢
      cases e : stepQ xs S.1 (ns.getD k nd0) with
      | none => rw [e] at h; simp at h
      | some j =>
        rw [e] at h
        dsimp only at h ⊢
        by_cases hf : fitQ j
        · rw [if_pos hf]
          refine ⟨by simp [ih.1], fun i hi => ?_⟩
          rcases List.mem_append.1 hi with hi | hi
          · exact ih.2 i hi
          · rw [List.mem_singleton.1 hi]; exact hf
        · rw [if_neg hf] at h; simp at h
    · rw [estepQ_stop xs hs] at h; exact absurd h hs
theorem evalQ_code (vars : List Rat) : ∀ (ns : List Nd) (S : List Rat × Int), (S.2 = 0 ∨ (S.2 = 10 ∨ S.2 = 7) ∧ S.1 = []) → let R := ns.foldl (estepQ vars) S; R.2 = 0 ∨ (R.2 = 10 ∨ R.2 = 7) ∧ R.1 = []
  | [], S, h => h
  | x :: ns, S, h => by
    rw [List.foldl_cons]
    apply evalQ_code vars ns
    by_cases hs : S.2 = 0
    · unfold estepQ
      rw [if_pos hs]
      cases stepQ vars S.1 x with
      | none => exact .inr ⟨.inl rfl, rfl⟩
      | some j =>
        dsimp only
        by_cases hf : fitQ j
        · rw [if_pos hf]; exact .inl rfl
        · rw [if_neg hf]; exact .inr ⟨.inr rfl, rfl⟩
    · rw [estepQ_stop vars hs]; exact h
theorem evalQ_bad (vars : List Rat) (ns : List Nd) (h : (evalQ vars ns).2 ≠ 0) : (evalQ vars ns).1 = [] := by
  rcases evalQ_code vars ns ([], 0) (.inl rfl) with e | e
  · exact absurd e h
  · exact e.2
/-- jets of no way are numbers -/
theorem fx_all {acc : List Jt} (h : ∀ j ∈ acc, j.dep ≤ 0) : acc = (acc.map fun j => numJ j 0).map Jt.fx := by
  rw [List.map_map]
  conv => lhs; rw [← List.map_id acc]
  apply List.map_congr_left
  intro j hj
  have h0 : j.dep = 0 := by have := h j hj; omega
  exact fx_of h0
theorem getD_fx (qs : List Rat) (i : Nat) : (qs.map Jt.fx).getD i j0 = .fx (qs.getD i 0) := by
  by_cases hi : i < qs.length
  · simp [List.getD, hi]
  · simp [List.getD, Nat.le_of_not_lt hi, j0]
theorem stepJ_fx (xs acc : List Rat) (x : Nd) : stepJ (xs.map Jt.fx) (acc.map Jt.fx) x = (stepQ xs acc x).map Jt.fx := by
  unfold stepJ stepQ
  simp only [getD_fx]
  generalize acc.getD x.2.1.toNat 0 = f
  generalize acc.getD x.2.2.1.toNat 0 = g
  split
  · rfl
  split
  · rfl
  split
  · rw [sumJ_fx]; rfl
  split
  · rw [timesJ, prodJ_fx, sumJ_fx]
    rw [show f + ((-1 : Int) : Rat) * g = f - g by grind]
    rfl
  split
  · rw [prodJ_fx]; rfl
  split
  · rw [numJ]
    split
    · rfl
    · rw [invJ, prodJ_fx, Rat.div_def]; rfl
  split
  · rw [timesJ, prodJ_fx]
    rw [show ((-1 : Int) : Rat) * f = -f by grind]
    rfl
  · rw [raiseJ]; rfl
theorem estep_fx (xs : List Rat) (S : List Rat × Int) (x : Nd) : estep (xs.map Jt.fx) (S.1.map Jt.fx, S.2) x = ((estepQ xs S x).1.map Jt.fx, (estepQ xs S x).2) := by
  unfold estep estepQ
  dsimp only
  split
  · rw [stepJ_fx]
    cases stepQ xs S.1 x with
    | none => rfl
    | some q =>
      rw [Option.map_some]
      dsimp only
      by_cases hf : fitQ q
      · rw [if_pos hf, if_pos (by simp [fitsJ, hf])]; simp
      · rw [if_neg hf, if_neg (by simp [fitsJ, hf])]; rfl
  · rfl
/-- at a point alone the jets are the model's numbers -/
theorem eval_fx (xs : List Rat) (ns : List Nd) : evalJ (xs.map Jt.fx) ns = ((evalQ xs ns).1.map Jt.fx, (evalQ xs ns).2) := by
  have : ∀ (ns : List Nd) (S : List Rat × Int), ns.foldl (estep (xs.map Jt.fx)) (S.1.map Jt.fx, S.2) = ((ns.foldl (estepQ xs) S).1.map Jt.fx, (ns.foldl (estepQ xs) S).2) := by
    intro ns
    induction ns with
    | nil => intro S; rfl
    | cons x ns ih => intro S; rw [List.foldl_cons, List.foldl_cons, estep_fx, ih]
  exact this ns ([], 0)
end Nt
