/-
  JetEval JetQuad RatRow VecRow OwnVec VecMark VecOps NewArith VecScale JetRow TapeMath CompMath in one text.
-/
import Derived.Test.YtifepoefeamboaaGreatDoorGrpG
import Derived.Test.YtifepoefeamboaaGreatDoorGrpE
import Derived.Test.YtifepoefeamboaaGreatDoorGrpC
import Derived.Deep.Slices
import Derived.Deep.Strs
import Derived.Lib.SmallJoins
import Derived.Deep.RegionHeld3
import Derived.Test.YtifepoefeamboaaGreatDoorGrpD
import Derived.Deep.AppendLies
namespace Nt
open Go Go.RowKit
def j0 : Jt := .fx 0
/-- one node's jet, of its children's; none where it is over 0 -/
def stepJ (vars acc : List Jt) (x : Nd) : Option Jt :=
  if x.1 = 1 then some (.fx ((x.2.2.2 : Int) : Rat))
  else if x.1 = 2 then some (vars.getD x.2.2.2.toNat j0)
  else if x.1 = 3 then some (sumJ (acc.getD x.2.1.toNat j0) (acc.getD x.2.2.1.toNat j0))
  else if x.1 = 4 then some (sumJ (acc.getD x.2.1.toNat j0) (timesJ (-1) (acc.getD x.2.2.1.toNat j0)))
  else if x.1 = 5 then some (prodJ (acc.getD x.2.1.toNat j0) (acc.getD x.2.2.1.toNat j0))
  else if x.1 = 6 then (if nu (numJ (acc.getD x.2.2.1.toNat j0) 0) = 0 then none else some (prodJ (acc.getD x.2.1.toNat j0) (invJ (acc.getD x.2.2.1.toNat j0))))
  else if x.1 = 7 then some (timesJ (-1) (acc.getD x.2.1.toNat j0))
  else some (raiseJ (acc.getD x.2.1.toNat j0) x.2.2.2.toNat)
def estep (vars : List Jt) (S : List Jt × Int) (x : Nd) : List Jt × Int :=
  if S.2 = 0 then (match stepJ vars S.1 x with
    | none => ([], 10)
    | some j => if fitsJ j = true then (S.1 ++ [j], 0) else ([], 7)) else S
def evalJ (vars : List Jt) (ns : List Nd) : List Jt × Int := ns.foldl (estep vars) ([], 0)
theorem evalJ_take (vars : List Jt) (ns : List Nd) (k : Nat) (h : k < ns.length) : evalJ vars (ns.take (k + 1)) = estep vars (evalJ vars (ns.take k)) (ns.getD k nd0) := by
  rw [takeN_snoc ns k h]; unfold evalJ; rw [List.foldl_append]; rfl
theorem estep_stop (vars : List Jt) {S : List Jt × Int} (h : S.2 ≠ 0) (x : Nd) : estep vars S x = S := by unfold estep; rw [if_neg h]
theorem foldl_stop (vars : List Jt) {S : List Jt × Int} (h : S.2 ≠ 0) : ∀ ns : List Nd, ns.foldl (estep vars) S = S
  | [] => rfl
  | x :: ns => by rw [List.foldl_cons, estep_stop vars h, foldl_stop vars h ns]
theorem evalJ_stop (vars : List Jt) (ns : List Nd) (k : Nat) (h : (evalJ vars (ns.take k)).2 ≠ 0) : evalJ vars ns = evalJ vars (ns.take k) := by
  have e : evalJ vars ns = (ns.drop k).foldl (estep vars) (evalJ vars (ns.take k)) := by
    unfold evalJ; rw [← List.foldl_append, List.take_append_drop]
  rw [e, foldl_stop vars h]
/-- what is so while nothing has been at fault -/
structure EvOK (d : Nat) (vars acc : List Jt) (k : Nat) : Prop where
  len : acc.length = k
  dep : ∀ j ∈ acc, j.dep ≤ d
  fit : ∀ j ∈ acc, fitsJ j = true
theorem getD_mem {acc : List Jt} {i : Nat} (h : i < acc.length) : acc.getD i j0 ∈ acc := by
  have : acc.getD i j0 = acc[i] := by simp [List.getD, h]
  rw [this]; exact List.getElem_mem h
theorem getD_dep {d : Nat} {acc : List Jt} (h : ∀ j ∈ acc, j.dep ≤ d) (i : Nat) : (acc.getD i j0).dep ≤ d := by
  by_cases hi : i < acc.length
  · exact h _ (getD_mem hi)
  · have : acc.getD i j0 = j0 := by simp [List.getD, Nat.le_of_not_lt hi]
    rw [this]; simp only [j0, Jt.dep]; omega
theorem stepJ_dep {d : Nat} {vars acc : List Jt} {x : Nd} {j : Jt} (hv : ∀ j ∈ vars, j.dep ≤ d) (ha : ∀ j ∈ acc, j.dep ≤ d) (h : stepJ vars acc x = some j) : j.dep ≤ d := by
  have hA := getD_dep ha x.2.1.toNat
  have hB := getD_dep ha x.2.2.1.toNat
  have hV := getD_dep hv x.2.2.2.toNat
  unfold stepJ at h
  generalize acc.getD x.2.1.toNat j0 = f at *
  generalize acc.getD x.2.2.1.toNat j0 = g at *
  split at h
  · cases h; simp only [Jt.dep]; omega
  split at h
  · cases h; exact hV
  split at h
  · cases h; exact dep_sum _ _ _ hA hB
  split at h
  · cases h; exact dep_sum _ _ _ hA (dep_times _ _ _ hB)
  split at h
  · cases h; exact dep_prod _ _ _ hA hB
  split at h
  · split at h
    · cases h
    · cases h; exact dep_prod _ _ _ hA (dep_inv _ _ hB)
  split at h
  · cases h; exact dep_times _ _ _ hA
  · cases h; exact dep_raise _ _ _ hA
theorem estep_ok {d k : Nat} {vars : List Jt} {S : List Jt × Int} {x : Nd} (hv : ∀ j ∈ vars, j.dep ≤ d) (h : EvOK d vars S.1 k) (hs : S.2 = 0) (h0 : (estep vars S x).2 = 0) : EvOK d vars (estep vars S x).1 (k + 1) := by
  unfold estep at h0 ⊢
  rw [if_pos hs] at h0 ⊢
  cases e : stepJ vars S.1 x with
  | none => rw [e] at h0; simp at h0
  | some j =>
    rw [e] at h0
    dsimp only at h0 ⊢
    by_cases hf : fitsJ j = true
    · rw [if_pos hf]
      have hd := stepJ_dep hv h.dep e
      refine ⟨by simp [h.len], fun i hi => ?_, fun i hi => ?_⟩
      · rcases List.mem_append.1 hi with hi | hi
        · exact h.dep i hi
        · rw [List.mem_singleton.1 hi]; exact hd
      · rcases List.mem_append.1 hi with hi | hi
        · exact h.fit i hi
        · rw [List.mem_singleton.1 hi]; exact hf
    · rw [if_neg hf] at h0; simp at h0
theorem evalJ_ok {d : Nat} {vars : List Jt} (hv : ∀ j ∈ vars, j.dep ≤ d) (ns : List Nd) : ∀ k, k ≤ ns.length → (evalJ vars (ns.take k)).2 = 0 → EvOK d vars (evalJ vars (ns.take k)).1 k
  | 0, _, _ => by rw [List.take_zero]; exact ⟨rfl, fun j hj => by simp [evalJ] at hj, fun j hj => by simp [evalJ] at hj⟩
  | k + 1, hk, h => by
    rw [evalJ_take vars ns k (by omega)] at h ⊢
    by_cases hs : (evalJ vars (ns.take k)).2 = 0
    · exact estep_ok hv (evalJ_ok hv ns k (by omega) hs) hs h
    · rw [estep_stop vars hs] at h; exact absurd h hs
theorem evalJ_code (vars : List Jt) : ∀ (ns : List Nd) (S : List Jt × Int), (S.2 = 0 ∨ (S.2 = 10 ∨ S.2 = 7) ∧ S.1 = []) → let R := ns.foldl (estep vars) S; R.2 = 0 ∨ (R.2 = 10 ∨ R.2 = 7) ∧ R.1 = []
  | [], S, h => h
  | x :: ns, S, h => by
    rw [List.foldl_cons]
    apply evalJ_code vars ns
    by_cases hs : S.2 = 0
    · unfold estep
      rw [if_pos hs]
      cases stepJ vars S.1 x with
      | none => exact .inr ⟨.inl rfl, rfl⟩
      | some j =>
        dsimp only
        by_cases hf : fitsJ j = true
        · rw [if_pos hf]; exact .inl rfl
        · rw [if_neg hf]; exact .inr ⟨.inr rfl, rfl⟩
    · rw [estep_stop vars hs]; exact h
theorem evalJ_bad (vars : List Jt) (ns : List Nd) (h : (evalJ vars ns).2 ≠ 0) : (evalJ vars ns).1 = [] := by
  rcases evalJ_code vars ns ([], 0) (.inl rfl) with e | e
  · exact absurd e h
  · exact e.2
/-- the model's numbers, node by node -/
def stepQ (xs acc : List Rat) (x : Nd) : Option Rat :=
  if x.1 = 1 then some ((x.2.2.2 : Int) : Rat)
  else if x.1 = 2 then some (xs.getD x.2.2.2.toNat 0)
  else if x.1 = 3 then some (acc.getD x.2.1.toNat 0 + acc.getD x.2.2.1.toNat 0)
  else if x.1 = 4 then some (acc.getD x.2.1.toNat 0 - acc.getD x.2.2.1.toNat 0)
  else if x.1 = 5 then some (acc.getD x.2.1.toNat 0 * acc.getD x.2.2.1.toNat 0)
  else if x.1 = 6 then (if nu (acc.getD x.2.2.1.toNat 0) = 0 then none else some (acc.getD x.2.1.toNat 0 / acc.getD x.2.2.1.toNat 0))
  else if x.1 = 7 then some (-(acc.getD x.2.1.toNat 0))
  else some (acc.getD x.2.1.toNat 0 ^ x.2.2.2.toNat)
instance (q : Rat) : Decidable (fitQ q) := by unfold fitQ; infer_instance
def estepQ (xs : List Rat) (S : List Rat × Int) (x : Nd) : List Rat × Int :=
  if S.2 = 0 then (match stepQ xs S.1 x with
    | none => ([], 10)
    | some j => if fitQ j then (S.1 ++ [j], 0) else ([], 7)) else S
def evalQ (xs : List Rat) (ns : List Nd) : List Rat × Int := ns.foldl (estepQ xs) ([], 0)
theorem evalQ_take (xs : List Rat) (ns : List Nd) (k : Nat) (h : k < ns.length) : evalQ xs (ns.take (k + 1)) = estepQ xs (evalQ xs (ns.take k)) (ns.getD k nd0) := by
  rw [takeN_snoc ns k h]; unfold evalQ; rw [List.foldl_append]; rfl
theorem estepQ_stop (xs : List Rat) {S : List Rat × Int} (h : S.2 ≠ 0) (x : Nd) : estepQ xs S x = S := by unfold estepQ; rw [if_neg h]
theorem foldlQ_stop (xs : List Rat) {S : List Rat × Int} (h : S.2 ≠ 0) : ∀ ns : List Nd, ns.foldl (estepQ xs) S = S
  | [] => rfl
  | x :: ns => by rw [List.foldl_cons, estepQ_stop xs h, foldlQ_stop xs h ns]
theorem evalQ_stop (xs : List Rat) (ns : List Nd) (k : Nat) (h : (evalQ xs (ns.take k)).2 ≠ 0) : evalQ xs ns = evalQ xs (ns.take k) := by
  have e : evalQ xs ns = (ns.drop k).foldl (estepQ xs) (evalQ xs (ns.take k)) := by
    unfold evalQ; rw [← List.foldl_append, List.take_append_drop]
  rw [e, foldlQ_stop xs h]
/-- what is so of the numbers while nothing has been at fault -/
theorem evalQ_ok (xs : List Rat) (ns : List Nd) : ∀ k, k ≤ ns.length → (evalQ xs (ns.take k)).2 = 0 → (evalQ xs (ns.take k)).1.length = k ∧ ∀ q ∈ (evalQ xs (ns.take k)).1, fitQ q
  | 0, _, _ => by rw [List.take_zero]; exact ⟨rfl, fun j hj => by simp [evalQ] at hj⟩
  | k + 1, hk, h => by
    rw [evalQ_take xs ns k (by omega)] at h ⊢
    by_cases hs : (evalQ xs (ns.take k)).2 = 0
    · have ih := evalQ_ok xs ns k (by omega) hs
      generalize evalQ xs (ns.take k) = S at *
      unfold estepQ at h ⊢
      rw [if_pos hs] at h ⊢
      cases e : stepQ xs S.1 (ns.getD k nd0) with
      | none => rw [e] at h; simp at h
      | some j =>
        rw [e] at h
        dsimp only at h ⊢
        by_cases hf : fitQ j
        · rw [if_pos hf]
          refine ⟨by simp [ih.1], fun i hi => ?_⟩
          rcases List.mem_append.1 hi with hi | hi
          · exact ih.2 i hi
          · rw [List.mem_singleton.1 hi]; exact hf
        · rw [if_neg hf] at h; simp at h
    · rw [estepQ_stop xs hs] at h; exact absurd h hs
theorem evalQ_code (vars : List Rat) : ∀ (ns : List Nd) (S : List Rat × Int), (S.2 = 0 ∨ (S.2 = 10 ∨ S.2 = 7) ∧ S.1 = []) → let R := ns.foldl (estepQ vars) S; R.2 = 0 ∨ (R.2 = 10 ∨ R.2 = 7) ∧ R.1 = []
  | [], S, h => h
  | x :: ns, S, h => by
    rw [List.foldl_cons]
    apply evalQ_code vars ns
    by_cases hs : S.2 = 0
    · unfold estepQ
      rw [if_pos hs]
      cases stepQ vars S.1 x with
      | none => exact .inr ⟨.inl rfl, rfl⟩
      | some j =>
        dsimp only
        by_cases hf : fitQ j
        · rw [if_pos hf]; exact .inl rfl
        · rw [if_neg hf]; exact .inr ⟨.inr rfl, rfl⟩
    · rw [estepQ_stop vars hs]; exact h
theorem evalQ_bad (vars : List Rat) (ns : List Nd) (h : (evalQ vars ns).2 ≠ 0) : (evalQ vars ns).1 = [] := by
  rcases evalQ_code vars ns ([], 0) (.inl rfl) with e | e
  · exact absurd e h
  · exact e.2
/-- jets of no way are numbers -/
theorem fx_all {acc : List Jt} (h : ∀ j ∈ acc, j.dep ≤ 0) : acc = (acc.map fun j => numJ j 0).map Jt.fx := by
  rw [List.map_map]
  conv => lhs; rw [← List.map_id acc]
  apply List.map_congr_left
  intro j hj
  have h0 : j.dep = 0 := by have := h j hj; omega
  exact fx_of h0
theorem getD_fx (qs : List Rat) (i : Nat) : (qs.map Jt.fx).getD i j0 = .fx (qs.getD i 0) := by
  by_cases hi : i < qs.length
  · simp [List.getD, hi]
  · simp [List.getD, Nat.le_of_not_lt hi, j0]
theorem stepJ_fx (xs acc : List Rat) (x : Nd) : stepJ (xs.map Jt.fx) (acc.map Jt.fx) x = (stepQ xs acc x).map Jt.fx := by
  unfold stepJ stepQ
  simp only [getD_fx]
  generalize acc.getD x.2.1.toNat 0 = f
  generalize acc.getD x.2.2.1.toNat 0 = g
  split
  · rfl
  split
  · rfl
  split
  · rw [sumJ_fx]; rfl
  split
  · rw [timesJ, prodJ_fx, sumJ_fx]
    rw [show f + ((-1 : Int) : Rat) * g = f - g by grind]
    rfl
  split
  · rw [prodJ_fx]; rfl
  split
  · rw [numJ]
    split
    · rfl
    · rw [invJ, prodJ_fx, Rat.div_def]; rfl
  split
  · rw [timesJ, prodJ_fx]
    rw [show ((-1 : Int) : Rat) * f = -f by grind]
    rfl
  · rw [raiseJ]; rfl
theorem estep_fx (xs : List Rat) (S : List Rat × Int) (x : Nd) : estep (xs.map Jt.fx) (S.1.map Jt.fx, S.2) x = ((estepQ xs S x).1.map Jt.fx, (estepQ xs S x).2) := by
  unfold estep estepQ
  dsimp only
  split
  · rw [stepJ_fx]
    cases stepQ xs S.1 x with
    | none => rfl
    | some q =>
      rw [Option.map_some]
      dsimp only
      by_cases hf : fitQ q
      · rw [if_pos hf, if_pos (by simp [fitsJ, hf])]; simp
      · rw [if_neg hf, if_neg (by simp [fitsJ, hf])]; rfl
  · rfl
/-- at a point alone the jets are the model's numbers -/
theorem eval_fx (xs : List Rat) (ns : List Nd) : evalJ (xs.map Jt.fx) ns = ((evalQ xs ns).1.map Jt.fx, (evalQ xs ns).2) := by
  have : ∀ (ns : List Nd) (S : List Rat × Int), ns.foldl (estep (xs.map Jt.fx)) (S.1.map Jt.fx, S.2) = ((ns.foldl (estepQ xs) S).1.map Jt.fx, (ns.foldl (estepQ xs) S).2) := by
    intro ns
    induction ns with
    | nil => intro S; rfl
    | cons x ns ih => intro S; rw [List.foldl_cons, List.foldl_cons, estep_fx, ih]
  exact this ns ([], 0)
end Nt
namespace Nt
open Go Go.RowKit
def q40 : Q4 := con4 0
def varQ (X V W : List Rat) (i : Nat) : Q4 := ⟨X.getD i 0, V.getD i 0, W.getD i 0, 0⟩
instance (a : Q4) : Decidable (fit4 a) := by unfold fit4; infer_instance
def step4 (X V W : List Rat) (acc : List Q4) (x : Nd) : Option Q4 :=
  if x.1 = 1 then some (con4 ((x.2.2.2 : Int) : Rat))
  else if x.1 = 2 then some (varQ X V W x.2.2.2.toNat)
  else if x.1 = 3 then some (add4 (acc.getD x.2.1.toNat q40) (acc.getD x.2.2.1.toNat q40))
  else if x.1 = 4 then some (add4 (acc.getD x.2.1.toNat q40) (neg4 (acc.getD x.2.2.1.toNat q40)))
  else if x.1 = 5 then some (mul4 (acc.getD x.2.1.toNat q40) (acc.getD x.2.2.1.toNat q40))
  else if x.1 = 6 then (if nu (acc.getD x.2.2.1.toNat q40).f = 0 then none else some (mul4 (acc.getD x.2.1.toNat q40) (over4 (acc.getD x.2.2.1.toNat q40))))
  else if x.1 = 7 then some (neg4 (acc.getD x.2.1.toNat q40))
  else some (toPow4 (acc.getD x.2.1.toNat q40) x.2.2.2.toNat)
def estep4 (X V W : List Rat) (S : List Q4 × Int) (x : Nd) : List Q4 × Int :=
  if S.2 = 0 then (match step4 X V W S.1 x with
    | none => ([], 10)
    | some j => if fit4 j then (S.1 ++ [j], 0) else ([], 7)) else S
def eval4 (X V W : List Rat) (ns : List Nd) : List Q4 × Int := ns.foldl (estep4 X V W) ([], 0)
theorem eval4_take (X V W : List Rat) (ns : List Nd) (k : Nat) (h : k < ns.length) : eval4 X V W (ns.take (k + 1)) = estep4 X V W (eval4 X V W (ns.take k)) (ns.getD k nd0) := by
  rw [takeN_snoc ns k h]; unfold eval4; rw [List.foldl_append]; rfl
theorem estep4_stop (X V W : List Rat) {S : List Q4 × Int} (h : S.2 ≠ 0) (x : Nd) : estep4 X V W S x = S := by unfold estep4; rw [if_neg h]
theorem foldl4_stop (X V W : List Rat) {S : List Q4 × Int} (h : S.2 ≠ 0) : ∀ ns : List Nd, ns.foldl (estep4 X V W) S = S
  | [] => rfl
  | x :: ns => by rw [List.foldl_cons, estep4_stop X V W h, foldl4_stop X V W h ns]
theorem eval4_stop (X V W : List Rat) (ns : List Nd) (k : Nat) (h : (eval4 X V W (ns.take k)).2 ≠ 0) : eval4 X V W ns = eval4 X V W (ns.take k) := by
  have e : eval4 X V W ns = (ns.drop k).foldl (estep4 X V W) (eval4 X V W (ns.take k)) := by
    unfold eval4; rw [← List.foldl_append, List.take_append_drop]
  rw [e, foldl4_stop X V W h]
theorem eval4_ok (X V W : List Rat) (ns : List Nd) : ∀ k, k ≤ ns.length → (eval4 X V W (ns.take k)).2 = 0 → (eval4 X V W (ns.take k)).1.length = k ∧ ∀ q ∈ (eval4 X V W (ns.take k)).1, fit4 q
  | 0, _, _ => by rw [List.take_zero]; exact ⟨rfl, fun j hj => by simp [eval4] at hj⟩
  | k + 1, hk, h => by
    rw [eval4_take X V W ns k (by omega)] at h ⊢
    by_cases hs : (eval4 X V W (ns.take k)).2 = 0
    · have ih := eval4_ok X V W ns k (by omega) hs
      generalize eval4 X V W (ns.take k) = S at *
      unfold estep4 at h ⊢
      rw [if_pos hs] at h ⊢
      cases e : step4 X V W S.1 (ns.getD k nd0) with
      | none => rw [e] at h; simp at h
      | some j =>
        rw [e] at h
        dsimp only at h ⊢
        by_cases hf : fit4 j
        · rw [if_pos hf]
          refine ⟨by simp [ih.1], fun i hi => ?_⟩
          rcases List.mem_append.1 hi with hi | hi
          · exact ih.2 i hi
          · rw [List.mem_singleton.1 hi]; exact hf
        · rw [if_neg hf] at h; simp at h
    · rw [estep4_stop X V W hs] at h; exact absurd h hs
theorem eval4_code (X V W : List Rat) : ∀ (ns : List Nd) (S : List Q4 × Int), (S.2 = 0 ∨ S.2 = 10 ∨ S.2 = 7) → (ns.foldl (estep4 X V W) S).2 = 0 ∨ (ns.foldl (estep4 X V W) S).2 = 10 ∨ (ns.foldl (estep4 X V W) S).2 = 7
  | [], S, h => h
  | x :: ns, S, h => by
    rw [List.foldl_cons]
    apply eval4_code X V W ns
    by_cases hs : S.2 = 0
    · unfold estep4
      rw [if_pos hs]
      cases step4 X V W S.1 x with
      | none => exact .inr (.inl rfl)
      | some j =>
        dsimp only
        by_cases hf : fit4 j
        · rw [if_pos hf]; exact .inl rfl
        · rw [if_neg hf]; exact .inr (.inr rfl)
    · rw [estep4_stop X V W hs]; exact h
theorem getD_r4 (acc : List Jt) (i : Nat) : (acc.map r4).getD i q40 = r4 (acc.getD i j0) := by
  have h0 : r4 j0 = q40 := by rw [j0, r4_fx]; rfl
  by_cases hi : i < acc.length
  · simp [List.getD, hi]
  · simp [List.getD, Nat.le_of_not_lt hi, h0]
theorem step_r4 {X V W : List Rat} {vars : List Jt} (hv : ∀ i, r4 (vars.getD i j0) = varQ X V W i) (acc : List Jt) (x : Nd) : step4 X V W (acc.map r4) x = (stepJ vars acc x).map r4 := by
  unfold step4 stepJ
  simp only [getD_r4]
  generalize acc.getD x.2.1.toNat j0 = f
  generalize acc.getD x.2.2.1.toNat j0 = g
  split
  · rw [Option.map_some, r4_fx]
  split
  · rw [Option.map_some, hv]
  split
  · rw [Option.map_some, r4_sum]
  split
  · rw [Option.map_some, r4_sub]
  split
  · rw [Option.map_some, r4_prod]
  split
  · rw [show (r4 g).f = numJ g 0 from rfl]
    split
    · rfl
    · rw [Option.map_some, r4_prod, r4_inv]
  split
  · rw [Option.map_some, r4_neg]
  · rw [Option.map_some, r4_raise]
/-- the model's numbers are those of the jets -/
theorem eval_r4 {X V W : List Rat} {vars : List Jt} (hd : ∀ j ∈ vars, j.dep ≤ 2) (hv : ∀ i, r4 (vars.getD i j0) = varQ X V W i) (ns : List Nd) : ∀ k, k ≤ ns.length → eval4 X V W (ns.take k) = ((evalJ vars (ns.take k)).1.map r4, (evalJ vars (ns.take k)).2)
  | 0, _ => by rw [List.take_zero]; rfl
  | k + 1, hk => by
    have ih := eval_r4 hd hv ns k (by omega)
    rw [eval4_take X V W ns k (by omega), evalJ_take vars ns k (by omega), ih]
    by_cases hs : (evalJ vars (ns.take k)).2 = 0
    · have ok := evalJ_ok hd ns k (by omega) hs
      unfold estep4 estep
      dsimp only
      rw [if_pos hs, if_pos hs, step_r4 hv]
      cases e : stepJ vars (evalJ vars (ns.take k)).1 (ns.getD k nd0) with
      | none => rfl
      | some j =>
        rw [Option.map_some]
        dsimp only
        have hj := fits2 (stepJ_dep hd ok.dep e)
        by_cases hf : fitsJ j = true
        · rw [if_pos hf, if_pos (hj.1 hf)]; simp
        · rw [if_neg hf, if_neg (fun h => hf (hj.2 h))]; rfl
    · rw [estep4_stop X V W (by exact hs), estep_stop vars hs]
/-- the two ways in each other's place -/
def swap4 (a : Q4) : Q4 := ⟨a.f, a.w, a.v, a.vw⟩
theorem swap_con (c : Rat) : swap4 (con4 c) = con4 c := rfl
theorem swap_add (a b : Q4) : swap4 (add4 a b) = add4 (swap4 a) (swap4 b) := rfl
theorem swap_neg (a : Q4) : swap4 (neg4 a) = neg4 (swap4 a) := rfl
theorem swap_mul (a b : Q4) : swap4 (mul4 a b) = mul4 (swap4 a) (swap4 b) := by
  simp only [swap4, mul4]; congr 1; grind
theorem swap_over (a : Q4) : swap4 (over4 a) = over4 (swap4 a) := by
  simp only [swap4, over4]; congr 1; grind
theorem swap_pow (a : Q4) : ∀ n, swap4 (toPow4 a n) = toPow4 (swap4 a) n
  | 0 => rfl
  | n + 1 => by rw [toPow4, swap_mul, swap_pow a n, toPow4]
theorem swap_fit (a : Q4) : fit4 (swap4 a) ↔ fit4 a := ⟨fun ⟨h1, h2, h3, h4⟩ => ⟨h1, h3, h2, h4⟩, fun ⟨h1, h2, h3, h4⟩ => ⟨h1, h3, h2, h4⟩⟩
theorem getD_swap (acc : List Q4) (i : Nat) : (acc.map swap4).getD i q40 = swap4 (acc.getD i q40) := by
  by_cases hi : i < acc.length
  · simp [List.getD, hi]
  · simp [List.getD, Nat.le_of_not_lt hi]; rfl
theorem step_swap (X V W : List Rat) (acc : List Q4) (x : Nd) : step4 X W V (acc.map swap4) x = (step4 X V W acc x).map swap4 := by
  unfold step4
  simp only [getD_swap]
  generalize acc.getD x.2.1.toNat q40 = f
  generalize acc.getD x.2.2.1.toNat q40 = g
  split
  · rfl
  split
  · rfl
  split
  · rfl
  split
  · rfl
  split
  · rw [Option.map_some, swap_mul]
  split
  · rw [show (swap4 g).f = g.f from rfl]
    split
    · rfl
    · rw [Option.map_some, swap_mul, swap_over]
  split
  · rfl
  · rw [Option.map_some, swap_pow]
theorem estep_swap (X V W : List Rat) (S : List Q4 × Int) (x : Nd) : estep4 X W V (S.1.map swap4, S.2) x = ((estep4 X V W S x).1.map swap4, (estep4 X V W S x).2) := by
  unfold estep4
  dsimp only
  split
  · rw [step_swap]
    cases step4 X V W S.1 x with
    | none => rfl
    | some q =>
      rw [Option.map_some]
      dsimp only
      by_cases hf : fit4 q
      · rw [if_pos hf, if_pos ((swap_fit q).2 hf)]; simp
      · rw [if_neg hf, if_neg (fun h => hf ((swap_fit q).1 h))]; rfl
  · rfl
theorem eval_swap (X V W : List Rat) (ns : List Nd) : eval4 X W V ns = ((eval4 X V W ns).1.map swap4, (eval4 X V W ns).2) := by
  have : ∀ (ns : List Nd) (S : List Q4 × Int), ns.foldl (estep4 X W V) (S.1.map swap4, S.2) = ((ns.foldl (estep4 X V W) S).1.map swap4, (ns.foldl (estep4 X V W) S).2) := by
    intro ns
    induction ns with
    | nil => intro S; rfl
    | cons x ns ih => intro S; rw [List.foldl_cons, List.foldl_cons, estep_swap, ih]
  exact this ns ([], 0)
end Nt
namespace Nt
open Go Go.RowKit Go.Deep Go.ChangeShapes Go.WideShapes
/-- a sign and two lists -/
abbrev R3 := Bool × List Int × List Int
def r3 : R3 := (false, [], [])
def ok3 (r : R3) : Bool := okR r.1 r.2.1 r.2.2
/-- such a struct begins at cell k of block b -/
def El (w : World) (P : Nat → Prop) (b k : Nat) (r : R3) : Prop :=
  ∃ A ca B cb, w.cell? ⟨b, k, none⟩ = some (.bool r.1) ∧ w.cell? ⟨b, k + 1, none⟩ = some (.slice A r.2.1.length ca) ∧ w.cell? ⟨b, k + 2, none⟩ = some (.slice B r.2.2.length cb) ∧ RdR w P r.2.1 r.2.2 A ca B cb
theorem RdR.keep {w w' : World} {P : Nat → Prop} {xs ys : List Int} {A B : Option Addr} {ca cb : Nat} (h : RdR w P xs ys A ca B cb) (hs : w.heap.size ≤ w'.heap.size) (hk : ∀ b, P b → b < w.heap.size → w'.heap[b]? = w.heap[b]?) : RdR w' P xs ys A ca B cb :=
  ⟨h.1.keep hs hk, h.2.keep hs hk⟩
theorem El.keep {w w' : World} {P : Nat → Prop} {b k : Nat} {r : R3} (h : El w P b k r) (hs : w.heap.size ≤ w'.heap.size) (hk : ∀ b, P b → b < w.heap.size → w'.heap[b]? = w.heap[b]?) (hb : w'.heap[b]? = w.heap[b]?) : El w' P b k r := by
  obtain ⟨A, ca, B, cb, h0, h1, h2, h3⟩ := h
  exact ⟨A, ca, B, cb, (World.cell?_of_block (a := ⟨b, k, none⟩) hb).trans h0, (World.cell?_of_block (a := ⟨b, k + 1, none⟩) hb).trans h1, (World.cell?_of_block (a := ⟨b, k + 2, none⟩) hb).trans h2, h3.keep hs hk⟩
theorem El.mono {w : World} {P Q : Nat → Prop} {b k : Nat} {r : R3} (h : El w P b k r) (hpq : ∀ b, P b → b < w.heap.size → Q b) : El w Q b k r := by
  obtain ⟨A, ca, B, cb, h0, h1, h2, h3⟩ := h
  exact ⟨A, ca, B, cb, h0, h1, h2, h3.mono hpq⟩
/-- the slice reads as the rationals rs -/
def RdS (w : World) (P : Nat → Prop) (A : Option Addr) (n c : Nat) (rs : List R3) : Prop :=
  rs.length = n ∧ n ≤ c ∧ (A = none → c = 0) ∧ (0 < n → ∃ b o, A = some ⟨b, o, none⟩ ∧ P b ∧ b < w.heap.size ∧ ∀ i, i < n → El w P b (o + i * 3) (rs.getD i r3))
variable {w w' : World} {P Q : Nat → Prop} {A : Option Addr} {n c : Nat} {rs : List R3}
theorem RdS.len (h : RdS w P A n c rs) : rs.length = n := h.1
theorem RdS.at_ (h : RdS w P A n c rs) (hn : 0 < n) : ∃ b o, A = some ⟨b, o, none⟩ ∧ P b ∧ b < w.heap.size ∧ ∀ i, i < n → El w P b (o + i * 3) (rs.getD i r3) := h.2.2.2 hn
theorem RdS.keep (h : RdS w P A n c rs) (hs : w.heap.size ≤ w'.heap.size) (hk : ∀ b, P b → b < w.heap.size → w'.heap[b]? = w.heap[b]?) : RdS w' P A n c rs :=
  ⟨h.1, h.2.1, h.2.2.1, fun hn => by
    obtain ⟨b, o, e, hp, hlt, hc⟩ := h.2.2.2 hn
    exact ⟨b, o, e, hp, by omega, fun i hi => (hc i hi).keep hs hk (hk b hp hlt)⟩⟩
theorem RdS.mono (h : RdS w P A n c rs) (hpq : ∀ b, P b → b < w.heap.size → Q b) : RdS w Q A n c rs :=
  ⟨h.1, h.2.1, h.2.2.1, fun hn => by
    obtain ⟨b, o, e, hp, hlt, hc⟩ := h.2.2.2 hn
    exact ⟨b, o, e, hpq b hp hlt, hlt, fun i hi => (hc i hi).mono hpq⟩⟩
theorem RdS.below {N : Nat} (h : RdS w (· < N) A n c rs) (hb : Below N w w') : RdS w' (· < N) A n c rs := h.keep hb.size fun b hp _ => hb.block b hp
theorem RdS.on (h : RdS w P A n c rs) (hb : Below w.heap.size w w') : RdS w' P A n c rs := h.keep hb.size fun b _ hl => hb.block b hl
theorem RdS.low (h : RdS w P A n c rs) : RdS w (· < w.heap.size) A n c rs := h.mono fun _ _ h => h
theorem RdS.all (h : RdS w P A n c rs) : RdS w (fun _ => True) A n c rs := h.mono fun _ _ _ => trivial
theorem RdS.drew (h : RdS w P A n c rs) : RdS w.drew P A n c rs := h
/-- how many numbers stand in it -/
def tot (rs : List R3) : Nat := (rs.map fun r => r.2.1.length + r.2.2.length).sum
theorem tot_snoc (rs : List R3) (k : Nat) (h : k < rs.length) : tot (rs.take (k + 1)) = tot (rs.take k) + ((rs.getD k r3).2.1.length + (rs.getD k r3).2.2.length) := by
  unfold tot
  rw [List.take_succ_eq_append_getElem h, List.map_append, List.sum_append]
  simp [List.getD, h]
theorem tot_take_le (rs : List R3) (k : Nat) : tot (rs.take k) ≤ tot rs := by
  have e : tot rs = tot (rs.take k) + tot (rs.drop k) := by
    unfold tot
    rw [← List.sum_append, ← List.map_append, List.take_append_drop]
  omega
def szS (left : Int) (rs : List R3) : Int := if left < rs.length + tot rs then -1 else left - rs.length - tot rs
theorem szS_big {left : Int} (h : left < rs.length + tot rs) : szS left rs = -1 := by unfold szS; rw [if_pos h]
theorem szS_fit {left : Int} (h : ¬ left < rs.length + tot rs) : szS left rs = left - rs.length - tot rs := by unfold szS; rw [if_neg h]
def Short (rs : List R3) : Prop := ∀ r ∈ rs, r.2.1.length ≤ 9223372036854775807 ∧ r.2.2.length ≤ 9223372036854775807
theorem Short.at_ (h : Short rs) (k : Nat) (hk : k < rs.length) : (rs.getD k r3).2.1.length ≤ 9223372036854775807 ∧ (rs.getD k r3).2.2.length ≤ 9223372036854775807 := by
  have e : rs.getD k r3 = rs[k] := by simp [List.getD, hk]
  rw [e]
  exact h _ (List.getElem_mem hk)

theorem add_none (b o j : Nat) : (⟨b, o, none⟩ : Addr).add j = ⟨b, o + j, none⟩ := by unfold Addr.add; by_cases h : j = 0 <;> simp [h]
/-- what a row of the claim tells of a slice of rationals that came in -/
theorem open_rats {H : Type} {enc : TypeId × Value → H} {P : Program} {w : World} {base : Nat} {held : Bool} {t e : TypeId} {f0 f1 f2 : Field} {ti : TypeId} {fuel : Nat} {A : Option Addr} {n c : Nat} {x : DataW H × List MemPlace}
    (ht : P.underlying t = some (.slice e)) (he : P.underlying e = some (.struct #[f0, f1, f2])) (hone : oneCellFields P #[f0, f1, f2] = true) (ce : P.cellsOf e = 3)
    (hb : P.underlying f0.type = some .bool) (hs1 : P.underlying f1.type = some (.slice ti)) (hs2 : P.underlying f2.type = some (.slice ti)) (hi : P.underlying ti = some (.int .i64)) (hci : P.cellsOf ti = 1)
    (h : DataW.trod enc P w base (fun _ => true) held fuel t [.slice A n c] = some x) :
    ∃ rs, RdS w (· < w.heap.size) A n c rs ∧ Short rs ∧ n ≤ 9223372036854775807 := by
  rcases open_slice ht h with ⟨h0, _⟩ | ⟨a, len, cap, m, fu, D, Pl, hcs, hba, hl, hm, hmm, _, hx⟩
  · simp at h0
    obtain ⟨rfl, rfl, rfl⟩ := h0
    exact ⟨[], ⟨rfl, Nat.le_refl _, fun _ => rfl, fun h => absurd h (by omega)⟩, fun r hr => by simp at hr, by omega⟩
  simp at hcs
  obtain ⟨rfl, rfl, rfl⟩ := hcs
  have hlm : n ≤ m := by rw [hmm]; simp; omega
  obtain ⟨o0, k0⟩ := hone_of hone 0 f0 rfl
  obtain ⟨o1, k1⟩ := hone_of hone 1 f1 rfl
  obtain ⟨o2, k2⟩ := hone_of hone 2 f2 rfl
  have part : ∀ (f : Field) (v : Value) (y : DataW H × List MemPlace) (fu : Nat), P.underlying f.type = some (.slice ti) → DataW.trod enc P w base (fun _ => true) held fu f.type [v] = some y → ∃ B l d zs, v = .slice B l d ∧ IsRow .i64 w B l d zs := by
    intro f v y fu hf hv
    rcases open_ints hf hi hci hv with ⟨hcs, _⟩ | ⟨x, l, c, zs, hcs, _, hl, hm, hz, _, hcell, hwz⟩
    · simp at hcs
      exact ⟨none, 0, 0, [], hcs, .inl ⟨rfl, rfl, rfl, rfl⟩⟩
    · simp at hcs
      exact ⟨_, l, c, zs, hcs, .inr ⟨_, rfl, hl, hm, by simpa using hz, hcell, hwz⟩⟩
  obtain ⟨b, o, spot⟩ := a
  have hsp : 0 < n → spot = none := by
    intro hn0
    obtain ⟨cs', h1, h2⟩ := hx 0 (by omega)
    rw [ce] at h1
    obtain ⟨_, hlen, hcell⟩ := World.cells?_some h1
    match cs', hlen with
    | [v0, v1, v2], _ =>
      have q0 := hcell 0 (by omega)
      simpa [Addr.add] using World.cell?_spot q0
  have each : ∀ i, i < n → ∃ r : R3, spot = none ∧ El w (· < w.heap.size) b (o + i * 3) r ∧ r.2.1.length ≤ 9223372036854775807 ∧ r.2.2.length ≤ 9223372036854775807 := by
    intro i hin
    obtain ⟨cs', h1, h2⟩ := hx i (by omega)
    rw [ce] at h1
    obtain ⟨_, hlen, hcell⟩ := World.cells?_some h1
    obtain ⟨y0, y1, y2, fu', _, _, g0, g1, g2⟩ := trod_struct3 he h2
    match cs', hlen with
    | [v0, v1, v2], _ =>
      simp [o0, o1, o2, k0, k1, k2] at g0 g1 g2
      obtain ⟨neg, e0, _⟩ := DataW.trod_bool hb g0
      obtain ⟨A1, l1, c1, z1, e1, w1⟩ := part f1 v1 y1 _ hs1 g1
      obtain ⟨A2, l2, c2, z2, e2, w2⟩ := part f2 v2 y2 _ hs2 g2
      simp at e0
      subst e0 e1 e2
      have q0 := hcell 0 (by omega)
      have q1 := hcell 1 (by omega)
      have q2 := hcell 2 (by omega)
      have hspot : spot = none := hsp (by omega)
      subst hspot
      rw [add_none, add_none] at q0 q1 q2
      have r1 := w1.rd
      have r2 := w2.rd
      have n1 := r1.len
      have n2 := r2.len
      refine ⟨(neg, z1.take l1, z2.take l2), rfl, ⟨A1, c1, A2, c2, by simpa using q0, by simpa [n1] using q1, by simpa [n2] using q2, ?_⟩, ?_, ?_⟩
      · refine ⟨?_, ?_⟩
        · show Rd w _ A1 (z1.take l1).length c1 (z1.take l1); rw [n1]; exact r1
        · show Rd w _ A2 (z2.take l2).length c2 (z2.take l2); rw [n2]; exact r2
      · show (z1.take l1).length ≤ _; rw [n1]; exact w1.le
      · show (z2.take l2).length ≤ _; rw [n2]; exact w2.le
  obtain ⟨q, hq⟩ := choose_lt each
  refine ⟨(List.range n).map q, ⟨by simp, hl, (fun h => by cases h), fun hn => ?_⟩, ?_, by unfold maxLen at hm; omega⟩
  · obtain ⟨rfl, hE, _⟩ := hq 0 hn
    obtain ⟨_, _, _, _, hc, _⟩ := hE
    have hlt := World.block_lt_of_cell? w _ hc
    refine ⟨b, o, rfl, hlt, hlt, fun i hi => ?_⟩
    have : ((List.range n).map q).getD i r3 = q i := by simp [List.getD, hi]
    rw [this]
    exact (hq i hi).2.1
  · intro r hr
    obtain ⟨i, hi, rfl⟩ := List.mem_map.1 hr
    exact (hq i (List.mem_range.1 hi)).2.2
end Nt
namespace Nt
open Go Go.RowKit
/-- block g has m cells, none frozen -/
def Blk (w : World) (g : Nat) (t : TypeId) (m : Nat) : Prop := ∃ cs : Array Value, cs.size = m ∧ w.heap[g]? = some (.cells cs t (0, 0))
theorem Blk.lt {w : World} {g m : Nat} {t : TypeId} (h : Blk w g t m) : g < w.heap.size := by
  obtain ⟨cs, _, h⟩ := h
  rcases Nat.lt_or_ge g w.heap.size with hlt | hge
  · exact hlt
  · rw [Array.getElem?_eq_none hge] at h; cases h
theorem Blk.cell {w : World} {g m : Nat} {t : TypeId} (h : Blk w g t m) (i : Nat) (hi : i < m) : ∃ v, w.cell? ⟨g, i, none⟩ = some v := by
  obtain ⟨cs, hc, h⟩ := h
  exact ⟨cs[i], by rw [cell_of_row w g i _ t (0, 0) h]; simp⟩
theorem Blk.fz {w : World} {g m : Nat} {t : TypeId} (h : Blk w g t m) (i : Nat) : w.frozen? ⟨g, i, none⟩ = false := by
  obtain ⟨cs, _, h⟩ := h
  exact frozen_of_row w g i _ t h
theorem Blk.on {w w' : World} {g m : Nat} {t : TypeId} (h : Blk w g t m) (hb : Below w.heap.size w w') : Blk w' g t m := by
  have hl := h.lt
  obtain ⟨cs, hc, h⟩ := h
  exact ⟨cs, hc, (hb.block g hl).trans h⟩
/-- three cells of it are set -/
def set3 (w : World) (g k : Nat) (x y z : Value) : World := ((w.setCell ⟨g, k, none⟩ x).setCell ⟨g, k + 1, none⟩ y).setCell ⟨g, k + 2, none⟩ z
theorem set3_grown (w : World) (g k : Nat) (x y z : Value) : w.grownBy (set3 w g k x y z) (some g) := grown_set (grown_set (grown_set (World.grownBy.refl _ _) _) _) _
theorem set3_row {w : World} {g k : Nat} {t : TypeId} {cs : Array Value} (h : w.heap[g]? = some (.cells cs t (0, 0))) (x y z : Value) : (set3 w g k x y z).heap[g]? = some (.cells (((cs.setIfInBounds k x).setIfInBounds (k + 1) y).setIfInBounds (k + 2) z) t (0, 0)) :=
  heap_setCell_same _ g _ _ t z (heap_setCell_same _ g _ _ t y (heap_setCell_same w g k _ t x h))
theorem Blk.set3 {w : World} {g m k : Nat} {t : TypeId} (h : Blk w g t m) (x y z : Value) : Blk (set3 w g k x y z) g t m := by
  obtain ⟨cs, hc, h⟩ := h
  exact ⟨_, by simpa using hc, set3_row h x y z⟩
theorem set3_cell {w : World} {g m k : Nat} {t : TypeId} (h : Blk w g t m) (x y z : Value) (i : Nat) (hi : i < k ∨ k + 2 < i) : (Nt.set3 w g k x y z).cell? ⟨g, i, none⟩ = w.cell? ⟨g, i, none⟩ := by
  obtain ⟨cs, hc, h⟩ := h
  rw [cell_of_row _ g i _ t (0, 0) (set3_row h x y z), cell_of_row w g i _ t (0, 0) h]
  simp [show ¬ k = i by omega, show ¬ k + 1 = i by omega, show ¬ k + 2 = i by omega]
theorem set3_c0 {w : World} {g m k : Nat} {t : TypeId} (h : Blk w g t m) (x y z : Value) (hk : k + 2 < m) : (Nt.set3 w g k x y z).cell? ⟨g, k, none⟩ = some x := by
  obtain ⟨cs, hc, h⟩ := h
  rw [cell_of_row _ g k _ t (0, 0) (set3_row h x y z)]
  simp [hc, show k < m by omega]
theorem set3_c1 {w : World} {g m k : Nat} {t : TypeId} (h : Blk w g t m) (x y z : Value) (hk : k + 2 < m) : (Nt.set3 w g k x y z).cell? ⟨g, k + 1, none⟩ = some y := by
  obtain ⟨cs, hc, h⟩ := h
  rw [cell_of_row _ g _ _ t (0, 0) (set3_row h x y z)]
  simp [hc, show k + 1 < m by omega]
theorem set3_c2 {w : World} {g m k : Nat} {t : TypeId} (h : Blk w g t m) (x y z : Value) (hk : k + 2 < m) : (Nt.set3 w g k x y z).cell? ⟨g, k + 2, none⟩ = some z := by
  obtain ⟨cs, hc, h⟩ := h
  rw [cell_of_row _ g _ _ t (0, 0) (set3_row h x y z)]
  simp [hc, show k + 2 < m by omega]
def okV (rs : List R3) : Bool := decide (1 ≤ rs.length) && decide (rs.length ≤ 4) && rs.all ok3
def codeV (rs : List R3) : Int := if rs.all ok3 then 0 else 1
def Small (rs : List R3) : Prop := ∀ r ∈ rs, r.2.1.length ≤ 1048576 ∧ r.2.2.length ≤ 1048576
theorem Small.at_ {rs : List R3} (h : Small rs) (k : Nat) (hk : k < rs.length) : (rs.getD k r3).2.1.length ≤ 1048576 ∧ (rs.getD k r3).2.2.length ≤ 1048576 := by
  have e : rs.getD k r3 = rs[k] := by simp [List.getD, hk]
  rw [e]
  exact h _ (List.getElem_mem hk)
theorem small_tot : ∀ {rs : List R3}, tot rs ≤ 1048576 → Small rs
  | [], _ => fun r hr => by simp at hr
  | r :: rs, h => by
    have e : tot (r :: rs) = (r.2.1.length + r.2.2.length) + tot rs := by simp [tot]
    intro q hq
    rcases List.mem_cons.1 hq with rfl | hq
    · omega
    · exact small_tot (rs := rs) (by omega) q hq
theorem all_no {rs : List R3} {k : Nat} (hk : k < rs.length) (h : ok3 (rs.getD k r3) = false) : rs.all ok3 = false := by
  rw [Bool.eq_false_iff]
  intro ha
  rw [List.all_eq_true] at ha
  have e : rs.getD k r3 = rs[k] := by simp [List.getD, hk]
  rw [e] at h
  have := ha _ (List.getElem_mem hk)
  rw [h] at this
  cases this
theorem all_yes {rs : List R3} (h : ∀ j, j < rs.length → ok3 (rs.getD j r3) = true) : rs.all ok3 = true := by
  rw [List.all_eq_true]
  intro r hr
  obtain ⟨i, hi, rfl⟩ := List.mem_iff_getElem.1 hr
  have := h i hi
  have e : rs.getD i r3 = rs[i] := by simp [List.getD, hi]
  rwa [e] at this
end Nt
namespace Go.Proofs.YtifepoefeamboaaGreatDoor
open Go Go.RowKit Nt

theorem infoRat : (Tryz.prog.info? 31).map (fun i => (i.zero, i.size, i.bytes)) = some (some (.agg #[.bool false, .slice none 0 0, .slice none 0 0]), 3, 56) := by kernel_rfl
theorem mk_rats (n : Nat) (hn : n ≤ 16777216) (w : World) :
    (Instr.makeSlice 27 (.int .i64 (n : Int)) (.int .i64 (n : Int))).run Tryz.prog w = .ok (.slice (some ⟨w.heap.size, 0, none⟩) n n) (w.alloc (.cells (madeCells #[.bool false, .slice none 0 0, .slice none 0 0] (n * 3)) 31)) := by
  obtain ⟨i, h1, h2, h3, h4⟩ := info_parts infoRat
  have hb : (i.bytes : Int) * (n : Int) ≤ 281474976710656 := by rw [h4]; omega
  have hr := run_make (P := Tryz.prog) w _ _ i _ Tryz.underlying27 h1 h2 .i64 .i64 n n (by omega) (by omega) hb (by omega)
  simp only [Int.toNat_natCast] at hr
  rw [hr, h3]
  rfl

set_option maxHeartbeats 1600000 in
theorem szRatS_any (A : Option Addr) (n c : Nat) (rs : List R3) (left : Int) (w : World) (hr : RdS w (· < w.heap.size) A n c rs) (hsh : Short rs) (hn : n ≤ 9223372036854775807) (h0 : 0 ≤ left) (h1 : left ≤ 1048576) :
    Calls Tryz.prog 20 #[.slice A n c, .int .i64 left] w fun e w' => e = .returned (.int .i64 (szS left rs)) ∧ Below w.heap.size w w' := by
  have HR := Lib.hid hr
  have HS := Lib.hid hsh
  have HL := Lib.hid hr.len
  clear hr hsh
  by_cases hbig : left < n
  · have HZ := Lib.hid (szS_big (left := left) (rs := rs) (by rw [HL.out]; omega))
    have hd : left - (n : Int) < 0 := by omega
    go_enter Tryz.func20, Tryz.ntmps20
    go_wp2
    go_ret
    exact ⟨by rw [HZ.out]; rfl, Below.refl _ _⟩
  have hd : 0 ≤ left - (n : Int) := by omega
  go_enter Tryz.func20, Tryz.ntmps20
  go_wp2
  go_loopw [1, 5] (fun q i wr => ∃ (k : Nat) (L : Int), k ≤ n ∧ i = .int .i64 k ∧ q = .int .i64 L ∧ 0 ≤ L ∧ L ≤ 1048576 ∧ Hid (L = left - n - tot (rs.take k)) ∧ Hid (Below w.heap.size w wr)) (fun _ i _ => n - (intOf i).toNat)
  case atStart => exact ⟨0, left - n, Nat.zero_le _, rfl, rfl, by omega, by omega, Lib.hid (by simp [tot]), Lib.hid (Below.refl _ _)⟩
  case round =>
    obtain ⟨k, L, hk, rfl, rfl, hL0, hL1, HLE, HB⟩ := hrel
    by_cases hlt : k < n
    · obtain ⟨b, o, rfl, hP, _, hc⟩ := HR.out.at_ (by omega)
      obtain ⟨Ai, ca, Bi, cb, q0, q1, q2, _⟩ := hc k hlt
      have c0 := (HB.out.cell (p := ⟨b, o + k * 3, none⟩) hP).trans q0
      have c1 := (HB.out.cell (p := ⟨b, o + k * 3 + 1, none⟩) hP).trans q1
      have c2 := (HB.out.cell (p := ⟨b, o + k * 3 + 2, none⟩) hP).trans q2
      have HT := Lib.hid (tot_snoc rs k (by rw [HL.out]; exact hlt))
      have HTL := Lib.hid (tot_take_le rs (k + 1))
      have hss := HS.out.at_ k (by rw [HL.out]; exact hlt)
      generalize rs.getD k r3 = r at *
      obtain ⟨ng, xs, ys⟩ := r
      dsimp only at *
      clear q0 q1 q2 hc
      by_cases hf : L < xs.length + ys.length
      · have HZ : Hid (szS left rs = -1) := by
          refine szS_big ?_
          have e1 := HT.out
          have e2 := HTL.out
          have e3 := HLE.out
          have e4 := HL.out
          omega
        go_wp2_with fail
        refine (szRat_big ng Ai Bi _ ca _ cb L wr hL0 hL1 hss.1 hss.2 hf).mono ?_
        rintro e w1 ⟨rfl, b1⟩
        have HB1 := Lib.hid (below_on HB.out b1)
        clear b1 c0 c1 c2
        go_wp2
        go_ret
        exact ⟨by rw [HZ.out]; rfl, HB1.out⟩
      · go_wp2_with fail
        refine (szRat_fit ng Ai Bi _ ca _ cb L wr hL0 hL1 (by omega)).mono ?_
        rintro e w1 ⟨rfl, b1⟩
        have HB1 := Lib.hid (below_on HB.out b1)
        have hL2 : 0 ≤ L - (xs.length : Int) - (ys.length : Int) := by omega
        clear b1 c0 c1 c2
        go_wp2
        go_roundw
        case rel => exact ⟨k + 1, _, by omega, by go_num, rfl, hL2, by omega, Lib.hid (by have e1 := HT.out; have e2 := HLE.out; omega), HB1⟩
        case measure => simp [intOf]; omega
    · have HZ : Hid (szS left rs = L) := by
        have e2 := HLE.out
        have e4 := HL.out
        rw [List.take_of_length_le (by omega)] at e2
        show _ = _
        rw [szS_fit (by omega)]
        omega
      clear HLE
      go_wp2
      go_ret
      exact ⟨by rw [HZ.out]; rfl, HB.out⟩

set_option maxHeartbeats 1600000 in
theorem ratCodeS_any (A : Option Addr) (n c : Nat) (rs : List R3) (P : Nat → Prop) (w : World) (hr : RdS w P A n c rs) (hsm : Small rs) (hn : n ≤ 16777216) :
    Calls Tryz.prog 125 #[.slice A n c] w fun e w' => e = .returned (.int .i64 (codeV rs)) ∧ Below w.heap.size w w' := by
  have HR := Lib.hid hr.low
  have HS := Lib.hid hsm
  have HL := Lib.hid hr.len
  clear hr hsm
  go_enter Tryz.func125, Tryz.ntmps125
  go_wp2
  go_loopw [7] (fun i wr => ∃ k : Nat, k ≤ n ∧ i = .int .i64 k ∧ Hid (∀ j, j < k → ok3 (rs.getD j r3) = true) ∧ Hid (Below w.heap.size w wr)) (fun i _ => n - (intOf i).toNat)
  case atStart => exact ⟨0, Nat.zero_le _, rfl, Lib.hid (fun j hj => by omega), Lib.hid (Below.refl _ _)⟩
  case round =>
    obtain ⟨k, hk, rfl, HOK, HB⟩ := hrel
    by_cases hlt : k < n
    · obtain ⟨b, o, rfl, hP, _, hc⟩ := HR.out.at_ (by omega)
      obtain ⟨Ai, ca, Bi, cb, q0, q1, q2, hrd⟩ := hc k hlt
      have c0 := (HB.out.cell (p := ⟨b, o + k * 3, none⟩) hP).trans q0
      have c1 := (HB.out.cell (p := ⟨b, o + k * 3 + 1, none⟩) hP).trans q1
      have c2 := (HB.out.cell (p := ⟨b, o + k * 3 + 2, none⟩) hP).trans q2
      have hkn : (k : Int) < n := by omega
      have hss := HS.out.at_ k (by rw [HL.out]; exact hlt)
      have HNO := Lib.hid (fun h => all_no (rs := rs) (k := k) (by rw [HL.out]; exact hlt) h)
      have HYES : Hid (ok3 (rs.getD k r3) = true → ∀ j, j < k + 1 → ok3 (rs.getD j r3) = true) := fun h j hj => by
        by_cases e : j = k
        · subst e; exact h
        · exact HOK.out j (by omega)
      have HRD := Lib.hid hrd
      generalize rs.getD k r3 = r at *
      obtain ⟨ng, xs, ys⟩ := r
      dsimp only at *
      clear q0 q1 q2 hc hrd
      have hsz := HB.out.size
      go_wp2_with fail
      have hb1 := HB.out.alloc hsz (.cells #[.bool ng, .slice Ai xs.length ca, .slice Bi ys.length cb] 31)
      have hr1 : RdR _ (· < w.heap.size) xs ys Ai ca Bi cb := HRD.out.below hb1
      refine (implRatOK_any ng Ai Bi _ ca _ cb xs ys _ _ _ hr1.1 hr1.2 (by omega) (by omega)).mono ?_
      rintro e w1 ⟨rfl, b1⟩
      have HB1 := Lib.hid (below_on hb1 b1)
      clear hr1 hb1 b1 c0 c1 c2
      by_cases ho : okR ng xs ys = true
      · rw [ho]
        have HO := Lib.hid (HYES.out ho)
        clear ho HYES HNO
        go_wp2
        go_roundw
        case rel => exact ⟨k + 1, by omega, by go_num, HO, HB1⟩
        case measure => simp [intOf]; omega
      · have ho' : okR ng xs ys = false := by simpa using ho
        rw [ho']
        have HC : Hid (codeV rs = 1) := by
          show _ = _
          unfold codeV
          rw [HNO.out ho']
          rfl
        clear ho ho' HYES HNO
        go_wp2
        go_ret
        rw [HC.out]
        exact ⟨rfl, HB1.out⟩
    · have HC : Hid (codeV rs = 0) := by
        show _ = _
        unfold codeV
        rw [all_yes (fun j hj => HOK.out j (by have := HL.out; omega))]
        rfl
      clear HOK
      go_wp2
      go_ret
      rw [HC.out]
      exact ⟨rfl, HB.out⟩

set_option maxHeartbeats 1600000 in
theorem toRatS_any (A : Option Addr) (n c : Nat) (rs : List R3) (w : World) (hr : RdS w (· < w.heap.size) A n c rs) (hsm : Small rs) (hn : n ≤ 1048576) :
    Calls Tryz.prog 22 #[.slice A n c] w fun e w' => ∃ B d, e = .returned (.slice B n d) ∧ RdS w' (w.heap.size ≤ ·) B n d rs ∧ Below w.heap.size w w' := by
  have hmk := mk_rats n (by omega)
  have HR := Lib.hid hr
  have HS := Lib.hid hsm
  have HL := Lib.hid hr.len
  clear hr hsm
  go_enter Tryz.func22, Tryz.ntmps22
  go_wp2
  go_loopw [4] (fun i wr => ∃ k : Nat, k ≤ n ∧ i = .int .i64 k ∧ Hid (Blk wr w.heap.size 31 (n * 3)) ∧ Hid (∀ j, j < k → El wr (w.heap.size < ·) w.heap.size (j * 3) (rs.getD j r3)) ∧ Hid (Below w.heap.size w wr)) (fun i _ => n - (intOf i).toNat)
  case atStart => exact ⟨0, Nat.zero_le _, rfl, Lib.hid ⟨_, size_madeCells _ _, heap_alloc_new w _⟩, Lib.hid (fun j hj => by omega), Lib.hid ((Below.refl _ _).alloc (Nat.le_refl _) _)⟩
  case round =>
    obtain ⟨k, hk, rfl, HK, HE, HB⟩ := hrel
    by_cases hlt : k < n
    · obtain ⟨b, o, rfl, hP, _, hc⟩ := HR.out.at_ (by omega)
      obtain ⟨Ai, ca, Bi, cb, q0, q1, q2, hrd⟩ := hc k hlt
      have c0 := (HB.out.cell (p := ⟨b, o + k * 3, none⟩) hP).trans q0
      have c1 := (HB.out.cell (p := ⟨b, o + k * 3 + 1, none⟩) hP).trans q1
      have c2 := (HB.out.cell (p := ⟨b, o + k * 3 + 2, none⟩) hP).trans q2
      have hss := HS.out.at_ k (by rw [HL.out]; exact hlt)
      have HRD := Lib.hid hrd
      have HNEW : Hid (∀ (W : World), El W (w.heap.size < ·) w.heap.size (k * 3) (rs.getD k r3) → (∀ j, j < k → El W (w.heap.size < ·) w.heap.size (j * 3) (rs.getD j r3)) → ∀ j, j < k + 1 → El W (w.heap.size < ·) w.heap.size (j * 3) (rs.getD j r3)) := fun W h1 h2 j hj => by
        by_cases e : j = k
        · subst e; exact h1
        · exact h2 j (by omega)
      generalize rs.getD k r3 = r at *
      obtain ⟨ng, xs, ys⟩ := r
      dsimp only at *
      clear q0 q1 q2 hc hrd
      have hsz := HB.out.size
      have hg := HK.out.lt
      go_wp2_with fail
      refine (toRat_any ng Ai Bi _ ca _ cb xs ys wr ((HRD.out.below HB.out).mono (Q := (· < wr.heap.size)) fun _ _ h => h).1 ((HRD.out.below HB.out).mono (Q := (· < wr.heap.size)) fun _ _ h => h).2 (by omega) (by omega)).mono ?_
      rintro e w1 ⟨A1, c1', B1, d1, rfl, o1, b1⟩
      have HB1 := Lib.hid (below_on HB.out b1)
      have HK1 := Lib.hid (HK.out.on b1)
      have HE1 : Hid (∀ j, j < k → El w1 (w.heap.size < ·) w.heap.size (j * 3) (rs.getD j r3)) := fun j hj => (HE.out j hj).keep b1.size (fun b _ hl => b1.block b hl) (b1.block _ hg)
      have HO1 : Hid (RdR w1 (w.heap.size < ·) xs ys A1 c1' B1 d1) := o1.rd.mono fun b h _ => Nat.lt_of_lt_of_le hg h
      clear o1 b1 c0 c1 c2 HE HK HRD
      obtain ⟨u0, g0⟩ := HK1.out.cell (k * 3) (by omega)
      obtain ⟨u1, g1⟩ := HK1.out.cell (k * 3 + 1) (by omega)
      obtain ⟨u2, g2⟩ := HK1.out.cell (k * 3 + 2) (by omega)
      have f0 := HK1.out.fz (k * 3)
      have f1 := HK1.out.fz (k * 3 + 1)
      have f2 := HK1.out.fz (k * 3 + 2)
      have HW := Lib.hid (set3_grown w1 w.heap.size (k * 3) (.bool ng) (.slice A1 xs.length c1') (.slice B1 ys.length d1))
      have HB2 : Hid (Below w.heap.size w (set3 w1 w.heap.size (k * 3) (.bool ng) (.slice A1 xs.length c1') (.slice B1 ys.length d1))) := below_grow HB1.out (Nat.le_refl _) HW.out
      have HK2 : Hid (Blk (set3 w1 w.heap.size (k * 3) (.bool ng) (.slice A1 xs.length c1') (.slice B1 ys.length d1)) w.heap.size 31 (n * 3)) := HK1.out.set3 _ _ _
      have HE2 : Hid (∀ j, j < k + 1 → El (set3 w1 w.heap.size (k * 3) (.bool ng) (.slice A1 xs.length c1') (.slice B1 ys.length d1)) (w.heap.size < ·) w.heap.size (j * 3) (rs.getD j r3)) := by
        refine HNEW.out _ ⟨A1, c1', B1, d1, set3_c0 HK1.out _ _ _ (by omega), set3_c1 HK1.out _ _ _ (by omega), set3_c2 HK1.out _ _ _ (by omega), HO1.out.keep HW.out.size fun b hb hl => HW.out.block b hl (fun e => by injection e with e; omega)⟩ ?_
        intro j hj
        obtain ⟨X, cx, Y, cy, e0, e1, e2, e3⟩ := HE1.out j hj
        exact ⟨X, cx, Y, cy, (set3_cell HK1.out _ _ _ _ (.inl (by omega))).trans e0, (set3_cell HK1.out _ _ _ _ (.inl (by omega))).trans e1, (set3_cell HK1.out _ _ _ _ (.inl (by omega))).trans e2, e3.keep HW.out.size fun b hb hl => HW.out.block b hl (fun e => by injection e with e; omega)⟩
      clear HNEW HE1 HO1 HB1 HK1 HW
      go_wp2
      go_roundw
      case rel => exact ⟨k + 1, by omega, by go_num, HK2, HE2, HB2⟩
      case measure => simp [intOf]; omega
    · obtain rfl : k = n := by omega
      go_wp2
      go_ret
      refine ⟨_, _, rfl, ⟨HL.out, Nat.le_refl _, (fun h => by cases h), fun hn => ⟨w.heap.size, 0, rfl, Nat.le_refl _, HK.out.lt, fun i hi => ?_⟩⟩, HB.out⟩
      rw [Nat.zero_add]
      exact (HE.out i hi).mono fun b h _ => Nat.le_of_lt h

set_option maxHeartbeats 1600000 in
theorem eqRatS_same (A B : Option Addr) (n c d : Nat) (rs : List R3) (P Q : Nat → Prop) (w : World) (hr : RdS w P A n c rs) (hr' : RdS w Q B n d rs) (hsm : Small rs) (hn : n ≤ 1048576) :
    Calls Tryz.prog 25 #[.slice A n c, .slice B n d] w fun e w' => e = .returned (.bool true) ∧ Below w.heap.size w w' := by
  have HR := Lib.hid hr.low
  have HR' := Lib.hid hr'.low
  have HS := Lib.hid hsm
  have HL := Lib.hid hr.len
  have hne : ((n : Int) != (n : Int)) = false := by simp
  clear hr hr' hsm
  go_enter Tryz.func25, Tryz.ntmps25
  go_wp2
  go_loopw [5] (fun i wr => ∃ k : Nat, k ≤ n ∧ i = .int .i64 k ∧ Hid (Below w.heap.size w wr)) (fun i _ => n - (intOf i).toNat)
  case atStart => exact ⟨0, Nat.zero_le _, rfl, Lib.hid (Below.refl _ _)⟩
  case round =>
    obtain ⟨k, hk, rfl, HB⟩ := hrel
    by_cases hlt : k < n
    · obtain ⟨b, o, rfl, hP, _, hc⟩ := HR.out.at_ (by omega)
      obtain ⟨b', o', rfl, hP', _, hc'⟩ := HR'.out.at_ (by omega)
      obtain ⟨Ai, ca, Bi, cb, q0, q1, q2, hrd⟩ := hc k hlt
      obtain ⟨Ai', ca', Bi', cb', q0', q1', q2', hrd'⟩ := hc' k hlt
      have c0 := (HB.out.cell (p := ⟨b, o + k * 3, none⟩) hP).trans q0
      have c1 := (HB.out.cell (p := ⟨b, o + k * 3 + 1, none⟩) hP).trans q1
      have c2 := (HB.out.cell (p := ⟨b, o + k * 3 + 2, none⟩) hP).trans q2
      have c0' := (HB.out.cell (p := ⟨b', o' + k * 3, none⟩) hP').trans q0'
      have c1' := (HB.out.cell (p := ⟨b', o' + k * 3 + 1, none⟩) hP').trans q1'
      have c2' := (HB.out.cell (p := ⟨b', o' + k * 3 + 2, none⟩) hP').trans q2'
      have hss := HS.out.at_ k (by rw [HL.out]; exact hlt)
      have H1 := Lib.hid (RdR.below hrd HB.out)
      have H2 := Lib.hid (RdR.below hrd' HB.out)
      have hkn : (k : Int) < n := by omega
      generalize rs.getD k r3 = r at *
      obtain ⟨ng, xs, ys⟩ := r
      dsimp only at *
      clear q0 q1 q2 hc hrd q0' q1' q2' hc' hrd'
      go_wp2_with fail
      have HC := Lib.hid (show wr.cell? ⟨b, o + k * 3, none⟩ = some (.bool ng) ∧ wr.cell? ⟨b, o + k * 3 + 1, none⟩ = some (.slice Ai xs.length ca) ∧ wr.cell? ⟨b, o + k * 3 + 2, none⟩ = some (.slice Bi ys.length cb) ∧ wr.cell? ⟨b', o' + k * 3, none⟩ = some (.bool ng) ∧ wr.cell? ⟨b', o' + k * 3 + 1, none⟩ = some (.slice Ai' xs.length ca') ∧ wr.cell? ⟨b', o' + k * 3 + 2, none⟩ = some (.slice Bi' ys.length cb') from ⟨c0, c1, c2, c0', c1', c2'⟩)
      clear c0 c1 c2 c0' c1' c2'
      go_region_held3 (fun wx => wx.cell? ⟨b, o + k * 3, none⟩ = some (.bool ng) ∧ wx.cell? ⟨b, o + k * 3 + 1, none⟩ = some (.slice Ai xs.length ca) ∧ wx.cell? ⟨b, o + k * 3 + 2, none⟩ = some (.slice Bi ys.length cb) ∧ wx.cell? ⟨b', o' + k * 3, none⟩ = some (.bool ng) ∧ wx.cell? ⟨b', o' + k * 3 + 1, none⟩ = some (.slice Ai' xs.length ca') ∧ wx.cell? ⟨b', o' + k * 3 + 2, none⟩ = some (.slice Bi' ys.length cb'))
        (first | exact HC.out | exact HC1.out)
        (first
          | (go_at_call 23; refine (eqRat_same ng Ai Bi Ai' Bi' ca cb ca' cb' xs ys _ _ _ (by exact H1.out) (by exact H2.out) (by omega) (by omega)).mono ?_; rintro e w1 ⟨rfl, bb⟩; have bb := undrew bb; have HB1 := Lib.hid (below_on HB.out bb); have HC1 : Hid (w1.cell? ⟨b, o + k * 3, none⟩ = some (.bool ng) ∧ w1.cell? ⟨b, o + k * 3 + 1, none⟩ = some (.slice Ai xs.length ca) ∧ w1.cell? ⟨b, o + k * 3 + 2, none⟩ = some (.slice Bi ys.length cb) ∧ w1.cell? ⟨b', o' + k * 3, none⟩ = some (.bool ng) ∧ w1.cell? ⟨b', o' + k * 3 + 1, none⟩ = some (.slice Ai' xs.length ca') ∧ w1.cell? ⟨b', o' + k * 3 + 2, none⟩ = some (.slice Bi' ys.length cb')) := by have hs := HB.out.size; exact ⟨(bb.cell (p := ⟨b, o + k * 3, none⟩) (by show b < _; omega)).trans HC.out.1, (bb.cell (p := ⟨b, o + k * 3 + 1, none⟩) (by show b < _; omega)).trans HC.out.2.1, (bb.cell (p := ⟨b, o + k * 3 + 2, none⟩) (by show b < _; omega)).trans HC.out.2.2.1, (bb.cell (p := ⟨b', o' + k * 3, none⟩) (by show b' < _; omega)).trans HC.out.2.2.2.1, (bb.cell (p := ⟨b', o' + k * 3 + 1, none⟩) (by show b' < _; omega)).trans HC.out.2.2.2.2.1, (bb.cell (p := ⟨b', o' + k * 3 + 2, none⟩) (by show b' < _; omega)).trans HC.out.2.2.2.2.2⟩))
      go_wp2
      go_roundw
      case rel => exact ⟨k + 1, by omega, by go_num, HB1⟩
      case measure => simp [intOf]; omega
    · go_wp2
      go_ret
      exact ⟨rfl, HB.out⟩

set_option maxHeartbeats 1600000 in
theorem implVecOK_any (A : Option Addr) (n c : Nat) (rs : List R3) (P : Nat → Prop) (w : World) (hr : RdS w P A n c rs) (hsm : Small rs) (hn : n ≤ 1048576) :
    Calls Tryz.prog 99 #[.slice A n c] w fun e w' => e = .returned (.bool (okV rs)) ∧ Below w.heap.size w w' := by
  have HR := Lib.hid hr
  have HS := Lib.hid hsm
  have hl := hr.len
  clear hr hsm
  by_cases h0 : n = 0
  · have HV : Hid (okV rs = false) := by show _ = _; unfold okV; simp; omega
    have hz : ¬ 0 < n := by omega
    clear hl h0
    go_enter Tryz.func99, Tryz.ntmps99
    go_wp2
    go_ret
    exact ⟨ret_bool HV.out.symm, Below.refl _ _⟩
  by_cases h4 : 4 < n
  · have HV : Hid (okV rs = false) := by show _ = _; unfold okV; simp; omega
    have hz : 0 < n := by omega
    have hz4 : decide ((n : Int) ≤ 4) = false := by simp; omega
    have hz5 : ¬ n ≤ 4 := by omega
    clear hl h0
    go_enter Tryz.func99, Tryz.ntmps99
    go_wp2
    go_ret
    exact ⟨ret_bool HV.out.symm, Below.refl _ _⟩
  have HV : Hid (okV rs = rs.all ok3) := by show _ = _; unfold okV; rw [decide_eq_true (by omega), decide_eq_true (by omega)]; rfl
  have hz : 0 < n := by omega
  have hz4 : decide ((n : Int) ≤ 4) = true := by simp; omega
  have hz5 : n ≤ 4 := by omega
  clear hl h0
  go_enter Tryz.func99, Tryz.ntmps99
  go_wp2_with fail
  refine (ratCodeS_any A n c rs P w HR.out HS.out (by omega)).mono ?_
  rintro e w1 ⟨rfl, b1⟩
  have HB1 := Lib.hid b1
  clear b1
  by_cases ha : rs.all ok3 = true
  · have hcv : codeV rs = 0 := by unfold codeV; rw [if_pos ha]
    rw [hcv]
    have HA := Lib.hid ha
    clear ha hcv
    go_wp2
    go_ret
    exact ⟨ret_bool (by rw [HV.out, HA.out]), HB1.out⟩
  · have hcv : codeV rs = 1 := by unfold codeV; rw [if_neg ha]
    rw [hcv]
    have HA : Hid (rs.all ok3 = false) := (Bool.not_eq_true _).mp ha
    clear ha hcv
    go_wp2
    go_ret
    exact ⟨ret_bool (by rw [HV.out, HA.out]), HB1.out⟩

set_option maxHeartbeats 1600000 in
theorem specVecOK_any (A : Option Addr) (n c : Nat) (rs : List R3) (P : Nat → Prop) (w : World) (hr : RdS w P A n c rs) (hsm : Small rs) (hn : n ≤ 1048576) :
    Calls Tryz.prog 75 #[.slice A n c] w fun e w' => e = .returned (.bool (okV rs)) ∧ Below w.heap.size w w' := by
  have HR := Lib.hid hr.low
  have HS := Lib.hid hsm
  have HL := Lib.hid hr.len
  clear hr hsm
  by_cases h4 : 4096 < n
  · have HV : Hid (okV rs = false) := by show _ = _; have := HL.out; unfold okV; simp; omega
    have hz4 : decide ((4096 : Int) < n) = true := by simp; omega
    go_enter Tryz.func75, Tryz.ntmps75
    go_wp2
    go_ret
    exact ⟨ret_bool HV.out.symm, Below.refl _ _⟩
  have hz4 : decide ((4096 : Int) < n) = false := by simp; omega
  go_enter Tryz.func75, Tryz.ntmps75
  go_wp2
  go_loopw [3] (fun i wr => ∃ k : Nat, k ≤ n ∧ i = .int .i64 k ∧ Hid (∀ j, j < k → ok3 (rs.getD j r3) = true) ∧ Hid (Below w.heap.size w wr)) (fun i _ => n - (intOf i).toNat)
  case atStart => exact ⟨0, Nat.zero_le _, rfl, Lib.hid (fun j hj => by omega), Lib.hid (Below.refl _ _)⟩
  case round =>
    obtain ⟨k, hk, rfl, HOK, HB⟩ := hrel
    by_cases hlt : k < n
    · obtain ⟨b, o, rfl, hP, _, hc⟩ := HR.out.at_ (by omega)
      obtain ⟨Ai, ca, Bi, cb, q0, q1, q2, hrd⟩ := hc k hlt
      have c0 := (HB.out.cell (p := ⟨b, o + k * 3, none⟩) hP).trans q0
      have c1 := (HB.out.cell (p := ⟨b, o + k * 3 + 1, none⟩) hP).trans q1
      have c2 := (HB.out.cell (p := ⟨b, o + k * 3 + 2, none⟩) hP).trans q2
      have hkn : (k : Int) < n := by omega
      have hss := HS.out.at_ k (by rw [HL.out]; exact hlt)
      have HNO := Lib.hid (fun h => all_no (rs := rs) (k := k) (by rw [HL.out]; exact hlt) h)
      have HYES : Hid (ok3 (rs.getD k r3) = true → ∀ j, j < k + 1 → ok3 (rs.getD j r3) = true) := fun h j hj => by
        by_cases e : j = k
        · subst e; exact h
        · exact HOK.out j (by omega)
      have HRD := Lib.hid hrd
      generalize rs.getD k r3 = r at *
      obtain ⟨ng, xs, ys⟩ := r
      dsimp only at *
      clear q0 q1 q2 hc hrd
      go_wp2_with fail
      have hr1 : RdR _ (· < w.heap.size) xs ys Ai ca Bi cb := HRD.out.below HB.out
      refine (specRatOK_any ng Ai Bi _ ca _ cb xs ys _ _ _ hr1.1 hr1.2 (by omega) (by omega)).mono ?_
      rintro e w1 ⟨rfl, b1⟩
      have HB1 := Lib.hid (below_on HB.out b1)
      clear hr1 b1 c0 c1 c2
      by_cases ho : okR ng xs ys = true
      · rw [ho]
        have HO := Lib.hid (HYES.out ho)
        clear ho HYES HNO
        go_wp2
        go_roundw
        case rel => exact ⟨k + 1, by omega, by go_num, HO, HB1⟩
        case measure => simp [intOf]; omega
      · have ho' : okR ng xs ys = false := by simpa using ho
        rw [ho']
        have HC : Hid (okV rs = false) := by
          show _ = _
          unfold okV
          rw [HNO.out ho']
          simp
        clear ho ho' HYES HNO
        go_wp2
        go_ret
        exact ⟨ret_bool HC.out.symm, HB1.out⟩
    · have HV : Hid (okV rs = (decide ((1 : Int) ≤ n) && decide ((n : Int) ≤ 4))) := by
        have e := HL.out
        show _ = _
        unfold okV
        rw [all_yes (fun j hj => HOK.out j (by omega)), e, Bool.and_true]
        congr 1
        · rw [decide_eq_decide]; omega
        · rw [decide_eq_decide]; omega
      clear HOK
      go_wp2_with (go_at_call 107; refine (l01In_any _ _ _ _).mono ?_; rintro e w1 ⟨rfl, rfl⟩)
      go_ret
      exact ⟨ret_bool HV.out.symm, HB.out⟩
end Go.Proofs.YtifepoefeamboaaGreatDoor
namespace Nt
open Go Go.RowKit
/-- an element, and where its lists lie -/
structure EV where
  neg : Bool
  A : Option Addr
  ca : Nat
  B : Option Addr
  cb : Nat
  xs : List Int
  ys : List Int
def e0 : EV := ⟨false, none, 0, none, 0, [], []⟩
def EV.v3 (r : EV) : R3 := (r.neg, r.xs, r.ys)
def EV.cs (r : EV) : List Value := [.bool r.neg, .slice r.A r.xs.length r.ca, .slice r.B r.ys.length r.cb]
def flat (L : List EV) : List Value := L.flatMap EV.cs
def EV.has (r : EV) (g : Nat) : Prop := r.A = some ⟨g, 0, none⟩ ∨ r.B = some ⟨g, 0, none⟩
def OwnE (ti : TypeId) (w : World) (base : Nat) (r : EV) : Prop := OwnR ti w base r.xs r.ys r.A r.ca r.B r.cb
/-- a vector in memory of a call's own -/
def OwnV (tr ti : TypeId) (w : World) (base : Nat) (V : Option Addr) (n c : Nat) (L : List EV) : Prop :=
  w.ownsRow base tr 3 (.slice V n c) n (flat L) ∧ (∀ i, i < L.length → OwnE ti w base (L.getD i e0)) ∧ ∀ i j, i < j → j < L.length → ∀ g, (L.getD i e0).has g → (L.getD j e0).has g → False
theorem flat_len (L : List EV) : (flat L).length = L.length * 3 := by
  induction L with
  | nil => rfl
  | cons r L ih => simp [flat, EV.cs] at ih ⊢; omega
theorem flat_cons (r : EV) (L : List EV) : flat (r :: L) = .bool r.neg :: .slice r.A r.xs.length r.ca :: .slice r.B r.ys.length r.cb :: flat L := rfl
theorem flat_snoc (L : List EV) (r : EV) : flat (L ++ [r]) = flat L ++ r.cs := by simp [flat]
theorem flat_get (L : List EV) : ∀ (i : Nat), i < L.length → (flat L)[i * 3]? = some (.bool (L.getD i e0).neg) ∧ (flat L)[i * 3 + 1]? = some (.slice (L.getD i e0).A (L.getD i e0).xs.length (L.getD i e0).ca) ∧ (flat L)[i * 3 + 2]? = some (.slice (L.getD i e0).B (L.getD i e0).ys.length (L.getD i e0).cb) := by
  induction L with
  | nil => intro i hi; simp at hi
  | cons r L ih =>
    intro i hi
    rw [flat_cons]
    cases i with
    | zero => exact ⟨rfl, rfl, rfl⟩
    | succ i =>
      have := ih i (by simpa using hi)
      rw [show (i + 1) * 3 = i * 3 + 1 + 1 + 1 from by omega]
      simpa using this
theorem flat_set (L : List EV) : ∀ (i : Nat) (r : EV), i < L.length → r.A = (L.getD i e0).A → r.ca = (L.getD i e0).ca → r.B = (L.getD i e0).B → r.cb = (L.getD i e0).cb → r.xs.length = (L.getD i e0).xs.length → r.ys.length = (L.getD i e0).ys.length → (flat L).set (i * 3) (.bool r.neg) = flat (L.set i r) := by
  induction L with
  | nil => intro i r hi; simp at hi
  | cons q L ih =>
    intro i r hi h1 h2 h3 h4 h5 h6
    cases i with
    | zero =>
      simp only [List.getD_cons_zero] at h1 h2 h3 h4 h5 h6
      rw [Nat.zero_mul, List.set_cons_zero, flat_cons, flat_cons, List.set_cons_zero, h1, h2, h3, h4, h5, h6]
    | succ i =>
      rw [List.set_cons_succ, flat_cons, flat_cons, ← ih i r (by simpa using hi) (by simpa using h1) (by simpa using h2) (by simpa using h3) (by simpa using h4) (by simpa using h5) (by simpa using h6), show (i + 1) * 3 = i * 3 + 1 + 1 + 1 from by omega]
      rfl
section
variable {tr ti : TypeId} {w w' : World} {base n c : Nat} {V : Option Addr} {L : List EV}
theorem OwnV.len (h : OwnV tr ti w base V n c L) : L.length = n := by
  have h1 := h.1.1
  rw [flat_len] at h1
  omega
theorem own_keep3 {v : Value} {e : TypeId} {size m : Nat} {xs : List Value} (h : w.ownsRow base e size v m xs) (hb : Below w.heap.size w w') : w'.ownsRow base e size v m xs := by
  refine h.kept (row := none) ⟨hb.os, hb.tape, hb.output, hb.size, fun k hk _ => hb.block k hk⟩ ?_
  cases hA : v.ownBlock with
  | none => exact .inl rfl
  | some g => exact .inr (by simp)
theorem OwnV.on (h : OwnV tr ti w base V n c L) (hb : Below w.heap.size w w') : OwnV tr ti w' base V n c L :=
  ⟨own_keep3 h.1 hb, fun i hi => (h.2.1 i hi).on hb, h.2.2⟩
theorem row_at (h : w.ownsRow base tr 3 (.slice V n c) n (flat L)) (hn : 0 < n) : ∃ g, V = some ⟨g, 0, none⟩ ∧ base ≤ g ∧ g < w.heap.size ∧ n ≤ c := by
  rcases h.2 with ⟨_, h0⟩ | ⟨g, cap, cur, e', hb, hh, hc, _⟩
  · omega
  · injection e' with e1 e2 e3
    refine ⟨g, e1, hb, ?_, by omega⟩
    rcases Nat.lt_or_ge g w.heap.size with hlt | hge
    · exact hlt
    · rw [Array.getElem?_eq_none hge] at hh; cases hh
theorem getD_map (L : List EV) (i : Nat) : (L.map EV.v3).getD i r3 = (L.getD i e0).v3 := by
  simp only [List.getD, List.getElem?_map]
  cases L[i]? <;> rfl
theorem OwnE.rdr {r : EV} (h : OwnE ti w base r) : RdR w (base ≤ ·) r.xs r.ys r.A r.ca r.B r.cb := OwnR.rd h
/-- elements that can be read, in a row of the call's own -/
theorem rds_of (h : w.ownsRow base tr 3 (.slice V n c) n (flat L)) (P : Nat → Prop) (hP : ∀ b, base ≤ b → P b) (hE : ∀ i, i < L.length → RdR w P (L.getD i e0).xs (L.getD i e0).ys (L.getD i e0).A (L.getD i e0).ca (L.getD i e0).B (L.getD i e0).cb) : RdS w P V n c (L.map EV.v3) := by
  have hl : L.length = n := by have h1 := h.1; rw [flat_len] at h1; omega
  refine ⟨by rw [List.length_map, hl], ?_, ?_, fun hn => ?_⟩
  · rcases h.2 with ⟨e, h0⟩ | ⟨g, cap, cur, e', hb, hh, hc, _⟩
    · omega
    · injection e' with e1 e2 e3
      omega
  · intro hV
    subst hV
    rcases h.2 with ⟨e, h0⟩ | ⟨g, cap, cur, e', _⟩
    · injection e
    · cases e'
  · obtain ⟨g, rfl, hb, hlt, _⟩ := row_at h hn
    refine ⟨g, 0, rfl, hP g hb, hlt, fun i hi => ?_⟩
    obtain ⟨f0, f1, f2⟩ := flat_get L i (by omega)
    rw [Nat.zero_add, getD_map]
    exact ⟨_, _, _, _, (h.cellAt _ (by omega)).trans f0, (h.cellAt _ (by omega)).trans f1, (h.cellAt _ (by omega)).trans f2, hE i (by omega)⟩
theorem OwnV.rd (h : OwnV tr ti w base V n c L) : RdS w (base ≤ ·) V n c (L.map EV.v3) := rds_of h.1 _ (fun _ h => h) fun i hi => (h.2.1 i hi).rdr
/-- only the vector's own blocks have turned -/
def OnlyV (V : Option Addr) (L : List EV) (w w' : World) : Prop :=
  w'.os = w.os ∧ w'.tape = w.tape ∧ w'.output = w.output ∧ w.heap.size ≤ w'.heap.size ∧ ∀ k, k < w.heap.size → V ≠ some ⟨k, 0, none⟩ → (∀ i, i < L.length → ¬ (L.getD i e0).has k) → w'.heap[k]? = w.heap[k]?
theorem OwnV.ge (h : OwnV tr ti w base V n c L) : ∀ g, V = some ⟨g, 0, none⟩ ∨ (∃ i, i < L.length ∧ (L.getD i e0).has g) → base ≤ g := by
  rintro g (e | ⟨i, hi, e⟩)
  · rcases h.1.2 with ⟨e', _⟩ | ⟨g', cap, cur, e', hb, _⟩
    · injection e' with e1; rw [e1] at e; cases e
    · injection e' with e1
      rw [e1] at e
      injection e with e
      injection e with e
      omega
  · exact OwnR.ge (h.2.1 i hi) g e
theorem OwnV.lt (h : OwnV tr ti w base V n c L) : ∀ g, V = some ⟨g, 0, none⟩ ∨ (∃ i, i < L.length ∧ (L.getD i e0).has g) → g < w.heap.size := by
  rintro g (e | ⟨i, hi, e⟩)
  · rcases h.1.2 with ⟨e', _⟩ | ⟨g', cap, cur, e', hb, hh, _⟩
    · injection e' with e1; rw [e1] at e; cases e
    · injection e' with e1
      rw [e1] at e
      injection e with e
      injection e with e
      subst e
      rcases Nat.lt_or_ge g' w.heap.size with hlt | hge
      · exact hlt
      · rw [Array.getElem?_eq_none hge] at hh; cases hh
  · exact OwnR.lt (h.2.1 i hi) g e
theorem OnlyV.below (h : OnlyV V L w w') (ho : OwnV tr ti w base V n c L) (hb : base ≤ w.heap.size) : Below base w w' :=
  ⟨h.1, h.2.1, h.2.2.1, h.2.2.2.1, fun k hk => h.2.2.2.2 k (by omega) (fun e => by have := ho.ge k (.inl e); omega) (fun i hi e => by have := ho.ge k (.inr ⟨i, hi, e⟩); omega)⟩
/-- what lies beyond all its blocks is kept -/
theorem OnlyV.beyond {N : Nat} (h : OnlyV V L w w') (hlt : ∀ g, V = some ⟨g, 0, none⟩ ∨ (∃ i, i < L.length ∧ (L.getD i e0).has g) → g < N) : ∀ k, N ≤ k → k < w.heap.size → w'.heap[k]? = w.heap[k]? :=
  fun k hN hk => h.2.2.2.2 k hk (fun e => by have := hlt k (.inl e); omega) (fun i hi e => by have := hlt k (.inr ⟨i, hi, e⟩); omega)
end
/-- marks -/
def markE (k : Nat) (r : EV) : EV := { r with neg := ((k : Int) % 3 == 0), xs := marks ((k : Int) + 1) r.xs.length, ys := marks ((k : Int) + 1 + r.xs.length) r.ys.length }
def markL (k : Nat) : List EV → List EV
  | [] => []
  | r :: L => markE k r :: markL (k + 1 + r.xs.length + r.ys.length) L
def mark3 (k : Nat) : List R3 → List R3
  | [] => []
  | r :: L => ((k : Int) % 3 == 0, marks ((k : Int) + 1) r.2.1.length, marks ((k : Int) + 1 + r.2.1.length) r.2.2.length) :: mark3 (k + 1 + r.2.1.length + r.2.2.length) L
theorem markL_v3 : ∀ (L : List EV) (k : Nat), (markL k L).map EV.v3 = mark3 k (L.map EV.v3)
  | [], _ => rfl
  | r :: L, k => by
    simp only [markL, List.map_cons, mark3, markL_v3 L]
    rfl
theorem markL_len : ∀ (L : List EV) (k : Nat), (markL k L).length = L.length
  | [], _ => rfl
  | r :: L, k => by simp only [markL, List.length_cons, markL_len L]
theorem mark3_len : ∀ (L : List R3) (k : Nat), (mark3 k L).length = L.length
  | [], _ => rfl
  | r :: L, k => by simp only [mark3, List.length_cons, mark3_len L]
theorem tot_cons (r : R3) (L : List R3) : tot (r :: L) = (r.2.1.length + r.2.2.length) + tot L := by simp [tot]
theorem markL_step : ∀ (L : List EV) (k i : Nat), i < L.length → markL k (L.take (i + 1)) ++ L.drop (i + 1) = (markL k (L.take i) ++ L.drop i).set i (markE (k + i + tot ((L.take i).map EV.v3)) (L.getD i e0))
  | [], _, _, h => by simp at h
  | r :: L, k, 0, _ => by simp [markL, tot]
  | r :: L, k, i + 1, h => by
    have ih := markL_step L (k + 1 + r.xs.length + r.ys.length) i (by simpa using h)
    simp only [List.take_succ_cons, List.drop_succ_cons, markL, List.cons_append, List.set_cons_succ, List.getD_cons_succ, List.map_cons, tot_cons]
    rw [ih]
    congr 3
    show _ = _
    simp only [EV.v3]
    omega
theorem mark3_get : ∀ (L : List R3) (k i : Nat), i < L.length → (mark3 k L).getD i r3 = (((k + i + tot (L.take i) : Nat) : Int) % 3 == 0, marks (((k + i + tot (L.take i) : Nat) : Int) + 1) (L.getD i r3).2.1.length, marks (((k + i + tot (L.take i) : Nat) : Int) + 1 + (L.getD i r3).2.1.length) (L.getD i r3).2.2.length)
  | [], _, _, h => by simp at h
  | r :: L, k, 0, _ => by simp [mark3, tot]
  | r :: L, k, i + 1, h => by
    have ih := mark3_get L (k + 1 + r.2.1.length + r.2.2.length) i (by simpa using h)
    simp only [List.take_succ_cons, mark3, List.getD_cons_succ, tot_cons]
    rw [ih]
    have e : k + 1 + r.2.1.length + r.2.2.length + i + tot (L.take i) = k + (i + 1) + (r.2.1.length + r.2.2.length + tot (L.take i)) := by omega
    rw [e]
end Nt
namespace Nt
open Go Go.RowKit
theorem flat_put (L : List EV) (rest : List Value) (k : Nat) (hk : L.length = k) (hr : 3 ≤ rest.length) (a b d : Value) : (((flat L ++ rest).set (k * 3) a).set (k * 3 + 1) b).set (k * 3 + 2) d = (flat L ++ [a, b, d]) ++ rest.drop 3 := by
  have hl := flat_len L
  rw [hk] at hl
  match rest, hr with
  | x :: y :: z :: t, _ =>
    rw [List.set_append_right _ _ (by omega), List.set_append_right _ _ (by omega), List.set_append_right _ _ (by omega), hl, show k * 3 - k * 3 = 0 from by omega, show k * 3 + 1 - k * 3 = 1 from by omega, show k * 3 + 2 - k * 3 = 2 from by omega]
    simp
theorem getD_snoc_lt (L : List EV) (r : EV) (i : Nat) (h : i < L.length) : (L ++ [r]).getD i e0 = L.getD i e0 := by
  simp [List.getD, List.getElem?_append_left h]
theorem getD_snoc_eq (L : List EV) (r : EV) : (L ++ [r]).getD L.length e0 = r := by simp [List.getD]
def Parts (ti : TypeId) (w : World) (base : Nat) (L : List EV) : Prop := (∀ i, i < L.length → OwnE ti w base (L.getD i e0)) ∧ ∀ i j, i < j → j < L.length → ∀ g, (L.getD i e0).has g → (L.getD j e0).has g → False
/-- one more element whose lists are new -/
theorem parts_snoc {ti : TypeId} {w : World} {base N : Nat} {L : List EV} {r : EV} (h1 : ∀ i, i < L.length → OwnE ti w base (L.getD i e0)) (h2 : ∀ i j, i < j → j < L.length → ∀ g, (L.getD i e0).has g → (L.getD j e0).has g → False) (hlt : ∀ i, i < L.length → ∀ g, (L.getD i e0).has g → g < N) (hr : OwnE ti w N r) (hN : base ≤ N) :
    (∀ i, i < (L ++ [r]).length → OwnE ti w base ((L ++ [r]).getD i e0)) ∧ ∀ i j, i < j → j < (L ++ [r]).length → ∀ g, ((L ++ [r]).getD i e0).has g → ((L ++ [r]).getD j e0).has g → False := by
  constructor
  · intro i hi
    by_cases e : i < L.length
    · rw [getD_snoc_lt L r i e]; exact h1 i e
    · obtain rfl : i = L.length := by simp at hi; omega
      rw [getD_snoc_eq]; exact OwnR.mono hr hN
  · intro i j hij hj g hg hg'
    have hi : i < L.length := by simp at hj; omega
    rw [getD_snoc_lt L r i hi] at hg
    by_cases e : j < L.length
    · rw [getD_snoc_lt L r j e] at hg'; exact h2 i j hij e g hg hg'
    · obtain rfl : j = L.length := by simp at hj; omega
      rw [getD_snoc_eq] at hg'
      have a := hlt i hi g hg
      have b := OwnR.ge hr g hg'
      omega
theorem OwnE.on {ti : TypeId} {w w' : World} {base : Nat} {r : EV} (h : OwnE ti w base r) (hb : Below w.heap.size w w') : OwnE ti w' base r := OwnR.on h hb
/-- a row of another type has turned -/
theorem OwnE.rowed {ti tr : TypeId} {w w' : World} {base g : Nat} {r : EV} {cs : Array Value} (h : OwnE ti w base r) (hne : ti ≠ tr) (hr : w.heap[g]? = some (.cells cs tr (0, 0))) (hg : w.grownBy w' (some g)) : OwnE ti w' base r :=
  ⟨own_at_block h.1 fun k hk => hg.block k (own_block h.1 hk).2 (fun e => by injection e with e; subst e; exact own_type h.1 hne hr hk), own_at_block h.2.1 fun k hk => hg.block k (own_block h.2.1 hk).2 (fun e => by injection e with e; subst e; exact own_type h.2.1 hne hr hk), h.2.2⟩
theorem row_block {tr : TypeId} {w : World} {base g n c : Nat} {vs : List Value} (h : w.ownsRow base tr 3 (.slice (some ⟨g, 0, none⟩) n c) n vs) : ∃ cs, w.heap[g]? = some (.cells cs tr (0, 0)) := by
  rcases h.2 with ⟨e, _⟩ | ⟨g', cap, cur, e', _, hh, _⟩
  · cases e
  · injection e' with e1
    injection e1 with e1
    injection e1 with e1
    subst e1
    exact ⟨cur, hh⟩
theorem getD_set_ne (L : List EV) (k i : Nat) (r : EV) (h : i ≠ k) : (L.set k r).getD i e0 = L.getD i e0 := by
  simp [List.getD, List.getElem?_set_ne (Ne.symm h)]
theorem getD_set_eq (L : List EV) (k : Nat) (r : EV) (h : k < L.length) : (L.set k r).getD k e0 = r := by
  simp [List.getD, h]
/-- an element of it has turned, its lists lie where they lay -/
theorem OwnV.setE {tr ti : TypeId} {w w' : World} {base n c k : Nat} {V : Option Addr} {L : List EV} {r : EV} (h : OwnV tr ti w base V n c L) (hk : k < L.length) (hA : r.A = (L.getD k e0).A) (hB : r.B = (L.getD k e0).B)
    (hrow : w'.ownsRow base tr 3 (.slice V n c) n (flat (L.set k r))) (hE : OwnE ti w' base r) (hf : ∀ b, b < w.heap.size → V ≠ some ⟨b, 0, none⟩ → ¬ r.has b → w'.heap[b]? = w.heap[b]?) (hne : ti ≠ tr) : OwnV tr ti w' base V n c (L.set k r) := by
  have same : ∀ g, r.has g ↔ (L.getD k e0).has g := by intro g; unfold EV.has; rw [hA, hB]
  refine ⟨hrow, fun i hi => ?_, fun i j hij hj g hg hg' => ?_⟩
  · rw [List.length_set] at hi
    by_cases e : i = k
    · subst e; rw [getD_set_eq L i r hk]; exact hE
    · rw [getD_set_ne L k i r e]
      have ho := h.2.1 i hi
      have hno : ∀ g, (L.getD i e0).has g → ¬ r.has g := by
        intro g hg hr
        rw [same] at hr
        rcases Nat.lt_or_ge i k with h1 | h1
        · exact h.2.2 i k h1 hk g hg hr
        · exact h.2.2 k i (by omega) hi g hr hg
      have hnV : ∀ g, (L.getD i e0).has g → V ≠ some ⟨g, 0, none⟩ := by
        rintro g hg rfl
        obtain ⟨cs, hcs⟩ := row_block h.1
        rcases hg with hg | hg
        · exact own_type ho.1 hne hcs hg
        · exact own_type ho.2.1 hne hcs hg
      exact ⟨own_at_block ho.1 fun g hg => hf g (own_block ho.1 hg).2 (hnV g (.inl hg)) (hno g (.inl hg)), own_at_block ho.2.1 fun g hg => hf g (own_block ho.2.1 hg).2 (hnV g (.inr hg)) (hno g (.inr hg)), ho.2.2⟩
  · rw [List.length_set] at hj
    have conv : ∀ m, m < L.length → ((L.set k r).getD m e0).has g → (L.getD m e0).has g := by
      intro m hm hh
      by_cases e : m = k
      · subst e; rw [getD_set_eq L m r hk] at hh; exact (same g).1 hh
      · rwa [getD_set_ne L k m r e] at hh
    exact h.2.2 i j hij hj g (conv i (by omega) hg) (conv j hj hg')
end Nt
namespace Go.Proofs.YtifepoefeamboaaGreatDoor
open Go Go.RowKit Nt

set_option maxHeartbeats 1600000 in
theorem toRatS_own (A : Option Addr) (n c : Nat) (rs : List R3) (w : World) (hr : RdS w (· < w.heap.size) A n c rs) (hsm : Small rs) (hn : n ≤ 1048576) :
    Calls Tryz.prog 22 #[.slice A n c] w fun e w' => ∃ B d L, e = .returned (.slice B n d) ∧ OwnV 31 3 w' w.heap.size B n d L ∧ L.map EV.v3 = rs ∧ Below w.heap.size w w' := by
  have hmk := mk_rats n (by omega)
  have HR := Lib.hid hr
  have HS := Lib.hid hsm
  have HL := Lib.hid hr.len
  clear hr hsm
  go_enter Tryz.func22, Tryz.ntmps22
  go_wp2
  go_loopw [4] (fun i wr => ∃ k : Nat, k ≤ n ∧ i = .int .i64 k ∧ ∃ (L : List EV) (rest : List Value), Hid (L.length = k) ∧ Hid (rest.length = (n - k) * 3) ∧ Hid (L.map EV.v3 = rs.take k) ∧ Hid (wr.ownsRow w.heap.size 31 3 (.slice (some ⟨w.heap.size, 0, none⟩) n n) n (flat L ++ rest)) ∧ Hid (Parts 3 wr w.heap.size L) ∧ Hid (Below w.heap.size w wr)) (fun i _ => n - (intOf i).toNat)
  case atStart =>
    refine ⟨0, Nat.zero_le _, rfl, [], _, Lib.hid rfl, ?_, Lib.hid rfl, Lib.hid (World.ownsRow_lit w _ n (Nat.le_refl _) (by unfold maxLen; omega) (size_madeCells _ _)), Lib.hid ⟨fun i hi => by simp at hi, fun i j _ hj => by simp at hj⟩, Lib.hid ((Below.refl _ _).alloc (Nat.le_refl _) _)⟩
    show _ = _
    rw [Array.length_toList, size_madeCells]
    rfl
  case round =>
    obtain ⟨k, hk, rfl, L, rest, HLL, HRL, HV, HO, HP, HB⟩ := hrel
    by_cases hlt : k < n
    · obtain ⟨b, o, rfl, hP, _, hc⟩ := HR.out.at_ (by omega)
      obtain ⟨Ai, ca, Bi, cb, q0, q1, q2, hrd⟩ := hc k hlt
      have c0 := (HB.out.cell (p := ⟨b, o + k * 3, none⟩) hP).trans q0
      have c1 := (HB.out.cell (p := ⟨b, o + k * 3 + 1, none⟩) hP).trans q1
      have c2 := (HB.out.cell (p := ⟨b, o + k * 3 + 2, none⟩) hP).trans q2
      have hss := HS.out.at_ k (by rw [HL.out]; exact hlt)
      have HRD := Lib.hid hrd
      have HTK : Hid (rs.take (k + 1) = rs.take k ++ [rs.getD k r3]) := by
        show _ = _
        have hk' : k < rs.length := by rw [HL.out]; exact hlt
        rw [List.take_succ_eq_append_getElem hk']
        simp [List.getD, hk']
      generalize rs.getD k r3 = r at *
      obtain ⟨ng, xs, ys⟩ := r
      dsimp only at *
      clear q0 q1 q2 hc hrd
      have hsz := HB.out.size
      go_wp2_with fail
      refine (toRat_any ng Ai Bi _ ca _ cb xs ys wr ((HRD.out.below HB.out).mono (Q := (· < wr.heap.size)) fun _ _ h => h).1 ((HRD.out.below HB.out).mono (Q := (· < wr.heap.size)) fun _ _ h => h).2 (by omega) (by omega)).mono ?_
      rintro e w1 ⟨A1, c1', B1, d1, rfl, o1, b1⟩
      have HB1 := Lib.hid (below_on HB.out b1)
      have HO1 := Lib.hid (own_keep3 HO.out b1)
      have HN1 : Hid (OwnE 3 w1 wr.heap.size (EV.mk ng A1 c1' B1 d1 xs ys)) := o1
      have HP1 : Hid (Parts 3 w1 w.heap.size (L ++ [EV.mk ng A1 c1' B1 d1 xs ys])) :=
        parts_snoc (fun i hi => (HP.out.1 i hi).on b1) HP.out.2 (fun i hi g hg => OwnR.lt (HP.out.1 i hi) g hg) HN1.out hsz
      clear o1 b1 c0 c1 c2 HP HO HRD HN1
      have hl3 : 3 ≤ rest.length := by rw [HRL.out]; omega
      have hcell : ∀ j, j < 3 → ∃ u, w1.cell? ⟨w.heap.size, k * 3 + j, none⟩ = some u := by
        intro j hj
        have hx := HO1.out.cellAt (k * 3 + j) (by omega)
        have hlen : k * 3 + j < (flat L ++ rest).length := by rw [List.length_append, flat_len, HLL.out]; omega
        rw [List.getElem?_eq_getElem hlen] at hx
        exact ⟨_, hx⟩
      obtain ⟨u0, g0⟩ := hcell 0 (by omega)
      obtain ⟨u1, g1⟩ := hcell 1 (by omega)
      obtain ⟨u2, g2⟩ := hcell 2 (by omega)
      rw [Nat.add_zero] at g0
      have f0 := HO1.out.frozenAt (k * 3)
      have f1 := HO1.out.frozenAt (k * 3 + 1)
      have f2 := HO1.out.frozenAt (k * 3 + 2)
      have s1 := HO1.out.stored (k * 3) (.bool ng)
      have s2 := s1.1.stored (k * 3 + 1) (.slice A1 xs.length c1')
      have s3 := s2.1.stored (k * 3 + 2) (.slice B1 ys.length d1)
      rw [flat_put L rest k HLL.out hl3] at s3
      have HO2 := Lib.hid s3.1
      have HG2 := Lib.hid (grown_trans (grown_trans s1.2 s2.2) s3.2)
      have HB2 := Lib.hid (below_grow HB1.out (Nat.le_refl _) HG2.out)
      have HP2 : Hid (Parts 3 (((w1.setCell ⟨w.heap.size, k * 3, none⟩ (.bool ng)).setCell ⟨w.heap.size, k * 3 + 1, none⟩ (.slice A1 xs.length c1')).setCell ⟨w.heap.size, k * 3 + 2, none⟩ (.slice B1 ys.length d1)) w.heap.size (L ++ [EV.mk ng A1 c1' B1 d1 xs ys])) := by
        obtain ⟨cs, hcs⟩ := row_block HO1.out
        exact ⟨fun i hi => (HP1.out.1 i hi).rowed (by decide) hcs HG2.out, HP1.out.2⟩
      clear hcell s1 s2 s3 HP1 HO1 HB1 HG2 hl3
      go_wp2
      go_roundw
      case rel =>
        refine ⟨k + 1, by omega, by go_num, L ++ [EV.mk ng A1 c1' B1 d1 xs ys], rest.drop 3, Lib.hid (by simp [HLL.out]), Lib.hid (by rw [List.length_drop, HRL.out]; omega), Lib.hid (by rw [List.map_append, HV.out, HTK.out]; rfl), ?_, HP2, HB2⟩
        rw [flat_snoc]
        exact HO2
      case measure => simp [intOf]; omega
    · obtain rfl : k = n := by omega
      have HO' : Hid (wr.ownsRow w.heap.size 31 3 (.slice (some ⟨w.heap.size, 0, none⟩) k k) k (flat L)) := by
        have h := HO.out
        have : rest = [] := List.eq_nil_of_length_eq_zero (by rw [HRL.out]; omega)
        rw [this, List.append_nil] at h
        exact h
      have HV' : Hid (L.map EV.v3 = rs) := by show _ = _; rw [HV.out, List.take_of_length_le (by rw [HL.out]; exact Nat.le_refl _)]
      clear HO HV HRL
      go_wp2
      go_ret
      exact ⟨_, _, L, rfl, ⟨HO'.out, HP.out.1, HP.out.2⟩, HV'.out, HB.out⟩
set_option maxHeartbeats 3200000 in
theorem markRatS_any (V : Option Addr) (n c : Nat) (L : List EV) (k0 base : Nat) (w : World) (h : OwnV 31 3 w base V n c L) (ht : tot (L.map EV.v3) ≤ 1048576) (hn : n ≤ 1048576) (hk0 : k0 ≤ 40000000) :
    Calls Tryz.prog 27 #[.slice V n c, .int .i64 (k0 : Int)] w fun e w' => e = .returned (.int .i64 ((k0 + n + tot (L.map EV.v3) : Nat) : Int)) ∧ OwnV 31 3 w' base V n c (markL k0 L) ∧ OnlyV V L w w' := by
  have HL := Lib.hid h.len
  have HT := Lib.hid ht
  have H := Lib.hid h
  clear h ht
  go_enter Tryz.func27, Tryz.ntmps27
  go_wp2
  go_loopw [1, 5] (fun q i wr => ∃ (k K : Nat), k ≤ n ∧ i = .int .i64 k ∧ q = .int .i64 (K : Int) ∧ K ≤ 50000000 ∧ Hid (K = k0 + k + tot ((L.take k).map EV.v3)) ∧ Hid (OwnV 31 3 wr base V n c (markL k0 (L.take k) ++ L.drop k)) ∧ Hid (OnlyV V L w wr)) (fun _ i _ => n - (intOf i).toNat)
  case atStart => exact ⟨0, k0, Nat.zero_le _, rfl, rfl, by omega, Lib.hid rfl, H, Lib.hid ⟨rfl, rfl, rfl, Nat.le_refl _, fun _ _ _ _ => rfl⟩⟩
  case round =>
    obtain ⟨k, K, hk, rfl, rfl, hK, HK, HO, HF⟩ := hrel
    by_cases hlt : k < n
    · have hkL : k < L.length := by rw [HL.out]; exact hlt
      have hml : (markL k0 (L.take k)).length = k := by rw [markL_len, List.length_take]; omega
      have HM : Hid (markL k0 (L.take (k + 1)) ++ L.drop (k + 1) = (markL k0 (L.take k) ++ L.drop k).set k (markE K (L.getD k e0))) := by
        show _ = _
        rw [markL_step L k0 k hkL, ← HK.out]
      have HG : Hid ((markL k0 (L.take k) ++ L.drop k).getD k e0 = L.getD k e0) := by
        show _ = _
        simp only [List.getD]
        rw [List.getElem?_append_right (by omega), hml, Nat.sub_self, List.getElem?_drop, Nat.add_zero]
      have HML : Hid (k < (markL k0 (L.take k) ++ L.drop k).length) := by show _ < _; rw [List.length_append, hml, List.length_drop]; omega
      have HTK : Hid (tot ((L.take (k + 1)).map EV.v3) = tot ((L.take k).map EV.v3) + ((L.getD k e0).xs.length + (L.getD k e0).ys.length)) := by
        show _ = _
        rw [List.map_take, List.map_take, tot_snoc _ k (by rw [List.length_map]; exact hkL), getD_map]
        rfl
      have hts : tot ((L.take (k + 1)).map EV.v3) ≤ 1048576 := by have := HT.out; rw [List.map_take]; exact Nat.le_trans (tot_take_le _ _) this
      rw [HTK.out] at hts
      have hlx : (L.getD k e0).xs.length ≤ 1048576 := by omega
      have hly : (L.getD k e0).ys.length ≤ 1048576 := by omega
      have HHAS : Hid (∀ b, (L.getD k e0).has b → ∃ i, i < L.length ∧ (L.getD i e0).has b) := fun b hb => ⟨k, hkL, hb⟩
      have HTS := Lib.hid hts
      clear hml hkL hts
      generalize markL k0 (L.take k) ++ L.drop k = M at *
      generalize L.getD k e0 = r at *
      obtain ⟨ng, A, ca, B, cb, xs, ys⟩ := r
      dsimp only at *
      obtain ⟨g, rfl, hbg, hgl, hnc⟩ := row_at HO.out.1 (by omega)
      have HE : Hid (OwnE 3 wr base ⟨ng, A, ca, B, cb, xs, ys⟩) := by
        have := HO.out.2.1 k HML.out
        rw [HG.out] at this
        exact this
      obtain ⟨f0, f1, f2⟩ := flat_get M k HML.out
      rw [HG.out] at f0 f1 f2
      have c0 := (HO.out.1.cellAt (k * 3) (by omega)).trans f0
      have c1 := (HO.out.1.cellAt (k * 3 + 1) (by omega)).trans f1
      have c2 := (HO.out.1.cellAt (k * 3 + 2) (by omega)).trans f2
      dsimp only at c0 c1 c2
      have z0 := HO.out.1.frozenAt (k * 3)
      have hst := HO.out.1.stored (k * 3) (.bool (markE K ⟨ng, A, ca, B, cb, xs, ys⟩).neg)
      rw [flat_set M k (markE K ⟨ng, A, ca, B, cb, xs, ys⟩) HML.out (by rw [HG.out]; rfl) (by rw [HG.out]; rfl) (by rw [HG.out]; rfl) (by rw [HG.out]; rfl) (by rw [HG.out]; exact marks_len _ _) (by rw [HG.out]; exact marks_len _ _)] at hst
      have HST := Lib.hid hst
      clear f0 f1 f2 hst
      obtain ⟨cs, hcs⟩ := row_block HO.out.1
      have HCS := Lib.hid hcs
      clear hcs
      go_wp2_with fail
      clear c0 c1 c2 z0
      refine calls_at (fun W => W.ownsRow base 31 3 (.slice (some ⟨g, 0, none⟩) n c) n (flat (M.set k (markE K ⟨ng, A, ca, B, cb, xs, ys⟩))) ∧ OwnE 3 W base ⟨ng, A, ca, B, cb, xs, ys⟩ ∧ wr.grownBy W (some g)) ⟨HST.out.1, HE.out.rowed (by decide) HCS.out HST.out.2, HST.out.2⟩ ?_
      rintro W ⟨hrow, hE', hg0⟩
      have hE : OwnR 3 W base xs ys A ca B cb := hE'
      clear hE' HE HCS HST
      obtain ⟨cs1, hcs1⟩ := row_block hrow
      have hgne : (Value.slice A xs.length ca).ownBlock ≠ some g := fun e => own_type hE.1 (by decide) hcs1 (ownBlock_eq e hE.1)
      have hgne2 : (Value.slice B ys.length cb).ownBlock ≠ some g := fun e => own_type hE.2.1 (by decide) hcs1 (ownBlock_eq e hE.2.1)
      refine (markIntS_any A _ ca xs ((K : Int) + 1) base W hE.1 (by omega) (by omega) (by omega)).mono ?_
      rintro e w2 ⟨rfl, o1, g1⟩
      have HROW2 := Lib.hid (hrow.kept g1 (.inr fun e => hgne e.symm))
      have HB2 : Hid (w2.ownsRow base 3 1 (.slice B ys.length cb) ys.length (ys.map (Value.int .i64))) := own_at_block hE.2.1 fun q hq => g1.block q (own_block hE.2.1 hq).2 (fun e => hE.2.2 q q (ownBlock_eq e.symm hE.1) hq rfl)
      have HA2 := Lib.hid o1
      have HG1 := Lib.hid g1
      have HG0 := Lib.hid hg0
      have HE := Lib.hid hE
      have HN1 := Lib.hid hgne
      have HN2 := Lib.hid hgne2
      clear hrow hE hg0 o1 g1 hgne hgne2 hcs1
      have fs := flat_get (M.set k (markE K ⟨ng, A, ca, B, cb, xs, ys⟩)) k (by rw [List.length_set]; exact HML.out)
      rw [getD_set_eq M k _ HML.out] at fs
      have c2 : w2.cell? ⟨g, k * 3 + 2, none⟩ = some (.slice B ys.length cb) := by
        rw [HROW2.out.cellAt (k * 3 + 2) (by omega), fs.2.2]
        show some (Value.slice B (marks _ _).length cb) = _
        rw [marks_len]
      clear fs
      have hp1 : 0 ≤ (K : Int) + 1 + xs.length := by omega
      go_wp2_with fail
      clear c2
      refine (markIntS_any B _ cb ys ((K : Int) + 1 + xs.length) base w2 HB2.out (by omega) hp1 (by omega)).mono ?_
      rintro e w3 ⟨rfl, o2, g2⟩
      have HROW3 := Lib.hid (HROW2.out.kept g2 (.inr fun e => HN2.out e.symm))
      have HA3 : Hid (w3.ownsRow base 3 1 (.slice A xs.length ca) xs.length ((marks ((K : Int) + 1) xs.length).map (Value.int .i64))) := own_at_block HA2.out fun q hq => g2.block q (own_block HA2.out hq).2 (fun e => HE.out.2.2 q q hq (ownBlock_eq e.symm HB2.out) rfl)
      have HE3 : Hid (OwnE 3 w3 base (markE K ⟨ng, A, ca, B, cb, xs, ys⟩)) := by
        refine ⟨?_, ?_, HE.out.2.2⟩
        · show w3.ownsRow base 3 1 (.slice A (marks _ _).length ca) (marks _ _).length _
          rw [marks_len]
          exact HA3.out
        · show w3.ownsRow base 3 1 (.slice B (marks _ _).length cb) (marks _ _).length _
          rw [marks_len]
          exact o2
      have HFR : Hid (∀ b, b < wr.heap.size → some (⟨g, 0, none⟩ : Addr) ≠ some ⟨b, 0, none⟩ → ¬ (markE K ⟨ng, A, ca, B, cb, xs, ys⟩).has b → w3.heap[b]? = wr.heap[b]?) := by
        intro b hb hne hno
        have s0 := HG0.out.size
        have s1 := HG1.out.size
        exact (g2.block b (by omega) (fun e => hno (.inr (ownBlock_eq e.symm HB2.out)))).trans ((HG1.out.block b (by omega) (fun e => hno (.inl (ownBlock_eq e.symm HE.out.1)))).trans (HG0.out.block b hb (fun e => hne (by injection e with e; rw [e]))))
      have HV3 : Hid (OwnV 31 3 w3 base (some ⟨g, 0, none⟩) n c (M.set k (markE K ⟨ng, A, ca, B, cb, xs, ys⟩))) := HO.out.setE HML.out (by rw [HG.out]; rfl) (by rw [HG.out]; rfl) HROW3.out HE3.out HFR.out (by decide)
      have HF3 : Hid (OnlyV (some ⟨g, 0, none⟩) L w w3) := by
        have s0 := HG0.out.size
        have s1 := HG1.out.size
        have s2 := g2.size
        have s3 := HF.out.2.2.2.1
        refine ⟨g2.os.trans (HG1.out.os.trans (HG0.out.os.trans HF.out.1)), g2.tape.trans (HG1.out.tape.trans (HG0.out.tape.trans HF.out.2.1)), g2.output.trans (HG1.out.output.trans (HG0.out.output.trans HF.out.2.2.1)), by omega, fun b hb hV hno => ?_⟩
        refine (HFR.out b (by omega) hV (fun hh => ?_)).trans (HF.out.2.2.2.2 b hb hV hno)
        obtain ⟨i, hi, hx⟩ := HHAS.out b hh
        exact hno i hi hx
      clear o2 g2 HFR HE3 HA3 HROW3 HROW2 HB2 HA2 HG1 HG0 HE HN1 HN2 HO HF
      go_wp2
      go_roundw
      case rel =>
        refine ⟨k + 1, K + 1 + xs.length + ys.length, by omega, by go_num, by congr 1, ?_, ?_, ?_, HF3⟩
        · have h1 := HK.out; have h2 := HTS.out; omega
        · have h1 := HK.out; have h2 := HTK.out; exact Lib.hid (by omega)
        · rw [HM.out]; exact HV3
      case measure => simp [intOf]; omega
    · obtain rfl : k = n := by omega
      have HK' : Hid (K = k0 + k + tot (L.map EV.v3)) := by have := HK.out; rw [List.take_of_length_le (by rw [HL.out]; exact Nat.le_refl _)] at this; exact this
      have HO' : Hid (OwnV 31 3 wr base V k c (markL k0 L)) := by
        have := HO.out
        rw [List.take_of_length_le (by rw [HL.out]; exact Nat.le_refl _), List.drop_eq_nil_of_le (by rw [HL.out]; exact Nat.le_refl _), List.append_nil] at this
        exact this
      clear HK HO
      go_wp2
      go_ret
      exact ⟨by rw [HK'.out]; rfl, HO'.out, HF.out⟩

set_option maxHeartbeats 1600000 in
theorem heldRatS_any (A : Option Addr) (n c : Nat) (rs : List R3) (k0 : Nat) (P : Nat → Prop) (w : World) (h : RdS w P A n c (mark3 k0 rs)) (ht : tot rs ≤ 1048576) (hn : n ≤ 1048576) (hk0 : k0 ≤ 40000000) :
    Calls Tryz.prog 31 #[.slice A n c, .int .i64 (k0 : Int)] w fun e w' => e = .returned (.int .i64 ((k0 + n + tot rs : Nat) : Int)) ∧ w = w' := by
  have HL : Hid (rs.length = n) := by have := h.len; rw [mark3_len] at this; exact this
  have HT := Lib.hid ht
  have H := Lib.hid h
  clear h ht
  go_enter Tryz.func31, Tryz.ntmps31
  go_wp2
  go_loop [1, 5] (fun q i => ∃ (k K : Nat), k ≤ n ∧ i = .int .i64 k ∧ q = .int .i64 (K : Int) ∧ K ≤ 50000000 ∧ Hid (K = k0 + k + tot (rs.take k))) (fun _ i => n - (intOf i).toNat)
  case atStart => exact ⟨0, k0, Nat.zero_le _, rfl, rfl, by omega, Lib.hid rfl⟩
  case round =>
    obtain ⟨k, K, hk, rfl, rfl, hK, HK⟩ := hrel
    by_cases hlt : k < n
    · have hkL : k < rs.length := by rw [HL.out]; exact hlt
      obtain ⟨b, o, rfl, hP, _, hc⟩ := H.out.at_ (by omega)
      obtain ⟨Ai, ca, Bi, cb, q0, q1, q2, hrd⟩ := hc k hlt
      have HTK := Lib.hid (tot_snoc rs k hkL)
      have hts : tot (rs.take (k + 1)) ≤ 1048576 := Nat.le_trans (tot_take_le _ _) HT.out
      rw [HTK.out] at hts
      rw [mark3_get rs k0 k hkL, ← HK.out] at q0 q1 q2 hrd
      generalize rs.getD k r3 = r at *
      obtain ⟨ng, xs, ys⟩ := r
      dsimp only at *
      rw [marks_len] at q1 q2
      obtain ⟨r1, r2⟩ := hrd
      rw [marks_len] at r1 r2
      have HR1 := Lib.hid r1
      have HR2 := Lib.hid r2
      have HTS := Lib.hid hts
      have hlx : xs.length ≤ 1048576 := by omega
      have hly : ys.length ≤ 1048576 := by omega
      clear hc r1 r2 hts hkL
      have hzz : (((K : Int) % 3 == 0) != ((K : Int) % 3 == 0)) = false := by simp
      have hp1 : 0 ≤ (K : Int) + 1 := by omega
      have hp2 : 0 ≤ (K : Int) + 1 + xs.length := by omega
      have hp3 : 0 ≤ (K : Int) + 1 + xs.length + ys.length := by omega
      go_wp2_with fail
      refine (heldIntS_any Ai _ ca ((K : Int) + 1) _ w HR1.out (by omega) hp1 (by omega)).mono ?_
      rintro e w1 ⟨rfl, rfl⟩
      go_wp2_with fail
      refine (heldIntS_any Bi _ cb ((K : Int) + 1 + xs.length) _ w HR2.out (by omega) hp2 (by omega)).mono ?_
      rintro e w1 ⟨rfl, rfl⟩
      go_wp2
      go_round
      case rel =>
        refine ⟨k + 1, K + 1 + xs.length + ys.length, by omega, by go_num, by congr 1, ?_, ?_⟩
        · have h1 := HK.out; have h2 := HTS.out; omega
        · have h1 := HK.out; have h2 := HTK.out; exact Lib.hid (by omega)
      case measure => simp [intOf]; omega
    · obtain rfl : k = n := by omega
      have HK' : Hid (K = k0 + k + tot rs) := by have := HK.out; rw [List.take_of_length_le (by rw [HL.out]; exact Nat.le_refl _)] at this; exact this
      clear HK
      go_wp2
      go_ret
      exact ⟨by rw [HK'.out]; rfl, rfl⟩
end Go.Proofs.YtifepoefeamboaaGreatDoor
namespace Nt
open Go Go.RowKit
def rat3 (q : Rat) : R3 := (isNeg q, D (nu q), D q.den)
theorem ok3_rat (q : Rat) (h1 : nu q < Top) (h2 : q.den < Top) : ok3 (rat3 q) = true := okR_rat q h1 h2
def Fine (qs : List Rat) : Prop := ∀ q ∈ qs, nu q < Top ∧ q.den < Top
theorem all_out : ∀ {rs : List R3}, rs.all ok3 = true → ∃ qs : List Rat, rs = qs.map rat3 ∧ Fine qs
  | [], _ => ⟨[], rfl, fun q hq => by simp at hq⟩
  | r :: rs, h => by
    rw [List.all_cons, Bool.and_eq_true] at h
    obtain ⟨qs, rfl, hf⟩ := all_out h.2
    obtain ⟨q, h1, h2, h3, h4, h5⟩ := okR_out h.1
    refine ⟨q :: qs, ?_, fun p hp => ?_⟩
    · rw [List.map_cons]
      congr 1
      exact Prod.ext h1 (Prod.ext h2 h3)
    · rcases List.mem_cons.1 hp with rfl | hp
      · exact ⟨h4, h5⟩
      · exact hf p hp
theorem getD_rat (qs : List Rat) (i : Nat) (h : i < qs.length) : (qs.map rat3).getD i r3 = rat3 (qs.getD i 0) := by
  simp [List.getD, h]
theorem Fine.at_ {qs : List Rat} (h : Fine qs) (i : Nat) (hi : i < qs.length) : nu (qs.getD i 0) < Top ∧ (qs.getD i 0).den < Top := by
  have e : qs.getD i 0 = qs[i] := by simp [List.getD, hi]
  rw [e]
  exact h _ (List.getElem_mem hi)
theorem small_fine {qs : List Rat} (h : Fine qs) : Small (qs.map rat3) := by
  intro r hr
  obtain ⟨q, hq, rfl⟩ := List.mem_map.1 hr
  have q1 := (D_len_le (nu q) 40).2 (h q hq).1
  have q2 := (D_len_le q.den 40).2 (h q hq).2
  exact ⟨by show (D (nu q)).length ≤ _; omega, by show (D q.den).length ≤ _; omega⟩
/-- the codes of a list of vectors -/
def vcode (N : Nat) (n : Nat → Nat) (R : Nat → List R3) : Int :=
  if (List.range N).any (fun i => decide (4096 < n i)) then 2 else if (List.range N).any (fun i => !okV (R i)) then 1 else if (List.range N).any (fun i => decide (n i ≠ n 0)) then 8 else 0
theorem any_no {N : Nat} {p : Nat → Bool} (h : ∀ j, j < N → p j = false) : (List.range N).any p = false := by
  rw [List.any_eq_false]
  intro x hx
  rw [h x (List.mem_range.1 hx)]
  simp
theorem any_yes {N : Nat} {p : Nat → Bool} {k : Nat} (hk : k < N) (h : p k = true) : (List.range N).any p = true := List.any_eq_true.2 ⟨k, List.mem_range.2 hk, h⟩
/-- a rational's lists lie elsewhere than the row that grows -/
theorem RdR.appended {w w' : World} {base k cv g tr : Nat} {V : Option Addr} {vs : List Value} {xs ys : List Int} {A B : Option Addr} {ca cb : Nat} (h : RdR w (fun b => V ≠ some ⟨b, 0, none⟩) xs ys A ca B cb) (ho : w.ownsRow base tr 3 (.slice V k cv) k vs)
    (hg : w.grownBy w' (Value.slice V k cv).ownBlock) (hat : (Value.slice V k cv).ownBlock = some g ∨ g = w.heap.size) : RdR w' (fun b => some (⟨g, 0, none⟩ : Addr) ≠ some ⟨b, 0, none⟩) xs ys A ca B cb := by
  have hform : ∀ b, (Value.slice V k cv).ownBlock = some b → V = some ⟨b, 0, none⟩ := by
    intro b hb
    rcases ho.2 with ⟨e, _⟩ | ⟨g', cap, cur, e, _⟩
    · injection e with e; subst e; cases hb
    · injection e with e; subst e; simp [Value.ownBlock] at hb; rw [hb]
  have h2 := h.mono (Q := fun b => V ≠ some ⟨b, 0, none⟩ ∧ some (⟨g, 0, none⟩ : Addr) ≠ some ⟨b, 0, none⟩) (fun b hb hl => ⟨hb, fun e => by
    injection e with e
    injection e with e
    subst e
    rcases hat with hat | hat
    · exact hb (hform _ hat)
    · omega⟩)
  exact (h2.keep hg.size fun b hb hl => hg.block b hl (fun e => hb.1 (hform b e.symm))).mono fun b hb _ => hb.2
theorem OwnE.appended {ti tr : TypeId} {w w' : World} {base base' k cv : Nat} {V : Option Addr} {vs : List Value} {r : EV} (h : OwnE ti w base r) (hne : ti ≠ tr) (ho : w.ownsRow base' tr 3 (.slice V k cv) k vs) (hg : w.grownBy w' (Value.slice V k cv).ownBlock) : OwnE ti w' base r := by
  have hno : ∀ b, r.has b → (Value.slice V k cv).ownBlock ≠ some b := by
    intro b hb e
    rcases ho.2 with ⟨e', _⟩ | ⟨g', cap, cur, e', _, hh, _⟩
    · injection e' with e'; subst e'; cases e
    · injection e' with e'
      subst e'
      simp [Value.ownBlock] at e
      subst e
      rcases hb with hb | hb
      · exact own_type h.1 hne hh hb
      · exact own_type h.2.1 hne hh hb
  exact ⟨own_at_block h.1 fun b hb => hg.block b (own_block h.1 hb).2 (fun e => hno b (.inl hb) e.symm), own_at_block h.2.1 fun b hb => hg.block b (own_block h.2.1 hb).2 (fun e => hno b (.inr hb) e.symm), h.2.2⟩
theorem RatAt.rowed3 {w w' : World} {b base : Nat} {t te : TypeId} {neg : Bool} {A B : Option Addr} {la ca lb cb : Nat} {V : Option Addr} {n c : Nat} {xs : List Value} (h : RatAt w b t neg A la ca B lb cb) (ho : w.ownsRow base te 3 (.slice V n c) n xs) (hb : b < base) (hg : w.grownBy w' (Value.slice V n c).ownBlock) : RatAt w' b t neg A la ca B lb cb :=
  (hg.block b h.lt (fun e => by have := (ho.lt _ e.symm).1; omega)).trans h
theorem rowed3_below {w w' : World} {base : Nat} {te : TypeId} {V : Option Addr} {n c : Nat} {xs : List Value} (ho : w.ownsRow base te 3 (.slice V n c) n xs) (hb : base ≤ w.heap.size) (hg : w.grownBy w' (Value.slice V n c).ownBlock) : Below base w w' :=
  ⟨hg.os, hg.tape, hg.output, hg.size, fun k hk => hg.block k (by omega) (fun e => by have := (ho.lt _ e.symm).1; omega)⟩
theorem rds_one (w : World) (t : TypeId) (neg : Bool) (xs ys : List Int) (A B : Option Addr) (ca cb : Nat) (P : Nat → Prop) (h : RdR w P xs ys A ca B cb) : RdS (w.alloc (.cells #[.bool neg, .slice A xs.length ca, .slice B ys.length cb] t)) (fun _ => True) (some ⟨w.heap.size, 0, none⟩) 1 1 [(neg, xs, ys)] := by
  refine ⟨rfl, Nat.le_refl _, (fun h => by cases h), fun _ => ⟨w.heap.size, 0, rfl, trivial, by simp, fun i hi => ?_⟩⟩
  obtain rfl : i = 0 := by omega
  have hr := RatAt.new w t neg A B xs.length ca ys.length cb
  exact ⟨A, ca, B, cb, hr.c0, hr.c1, hr.c2, (h.on (below1 _ _)).mono fun _ _ _ => trivial⟩
theorem own_mono3 {w : World} {base base' n size : Nat} {e : TypeId} {v : Value} {xs : List Value} (h : w.ownsRow base e size v n xs) (hb : base' ≤ base) : w.ownsRow base' e size v n xs := by
  rcases h with ⟨h1, h2 | ⟨g, cap, cur, e', hg, h3⟩⟩
  · exact ⟨h1, .inl h2⟩
  · exact ⟨h1, .inr ⟨g, cap, cur, e', Nat.le_trans hb hg, h3⟩⟩
theorem at0 {p : Nat → Prop} (h : p 0) : ∀ i, i < 1 → p i := by
  intro i hi
  obtain rfl : i = 0 := by omega
  exact h
theorem vcode1 (n : Nat) (rs : List R3) : vcode 1 (fun _ => n) (fun _ => rs) = if 4096 < n then 2 else if okV rs then 0 else 1 := by
  unfold vcode
  simp only [List.range_succ, List.range_zero, List.nil_append, List.any_cons, List.any_nil, Bool.or_false]
  by_cases h : 4096 < n
  · simp [h]
  · cases hk : okV rs <;> simp [h]
theorem okV_out {rs : List R3} (h : okV rs = true) : 1 ≤ rs.length ∧ rs.length ≤ 4 ∧ ∃ qs : List Rat, rs = qs.map rat3 ∧ Fine qs := by
  unfold okV at h
  simp only [Bool.and_eq_true, decide_eq_true_eq] at h
  exact ⟨h.1.1, h.1.2, all_out h.2⟩
/-- what ScaleVec answers -/
def askV (n m : Nat) (rs ss : List R3) : Int := if 4096 < n ∨ 4096 < m then 2 else if okV rs && okV ss then (if n ≠ m then 8 else 0) else 1
/-- a struct's three cells -/
def C3 (w : World) (b k : Nat) (ng : Bool) (A : Option Addr) (la ca : Nat) (B : Option Addr) (lb cb : Nat) : Prop :=
  w.cell? ⟨b, k, none⟩ = some (.bool ng) ∧ w.cell? ⟨b, k + 1, none⟩ = some (.slice A la ca) ∧ w.cell? ⟨b, k + 2, none⟩ = some (.slice B lb cb)
theorem C3.on {w w' : World} {b k : Nat} {ng : Bool} {A : Option Addr} {la ca : Nat} {B : Option Addr} {lb cb : Nat} (h : C3 w b k ng A la ca B lb cb) (hb : b < w.heap.size) (hw : Below w.heap.size w w') : C3 w' b k ng A la ca B lb cb :=
  ⟨(hw.cell (p := ⟨b, k, none⟩) hb).trans h.1, (hw.cell (p := ⟨b, k + 1, none⟩) hb).trans h.2.1, (hw.cell (p := ⟨b, k + 2, none⟩) hb).trans h.2.2⟩
theorem C3.below {w w' : World} {N b k : Nat} {ng : Bool} {A : Option Addr} {la ca : Nat} {B : Option Addr} {lb cb : Nat} (h : C3 w b k ng A la ca B lb cb) (hb : b < N) (hw : Below N w w') : C3 w' b k ng A la ca B lb cb :=
  ⟨(hw.cell (p := ⟨b, k, none⟩) hb).trans h.1, (hw.cell (p := ⟨b, k + 1, none⟩) hb).trans h.2.1, (hw.cell (p := ⟨b, k + 2, none⟩) hb).trans h.2.2⟩
theorem ask_self (n : Nat) (rs : List R3) (h : ¬ 4096 < n) : askV n n rs rs = if okV rs then 0 else 1 := by
  unfold askV
  rw [if_neg (by omega), Bool.and_self, if_neg (show ¬ n ≠ n by omega)]
end Nt
namespace Go.Proofs.YtifepoefeamboaaGreatDoor
open Go Go.RowKit Nt

set_option maxHeartbeats 800000 in
theorem anyLongRat_any (g N : Nat) (A : Nat → Option Addr) (n c : Nat → Nat) (w : World) (hN : N ≤ 100) (h0 : ∀ i, i < N → w.cell? ⟨g, i, none⟩ = some (.slice (A i) (n i) (c i))) (hn : ∀ i, i < N → n i ≤ 1048576) :
    Calls Tryz.prog 98 #[.slice (some ⟨g, 0, none⟩) N N] w fun e w' => e = .returned (.bool ((List.range N).any fun i => decide (4096 < n i))) ∧ w = w' := by
  have H0 := Lib.hid h0
  have HN := Lib.hid hn
  clear h0 hn
  go_enter Tryz.func98, Tryz.ntmps98
  go_wp2
  go_loop [4, 7] (fun _ i => ∃ k : Nat, k ≤ N ∧ i = .int .i64 k ∧ Hid (∀ j, j < k → n j ≤ 4096)) (fun _ i => N - (intOf i).toNat)
  case atStart => exact ⟨0, Nat.zero_le _, rfl, Lib.hid fun j hj => by omega⟩
  case round =>
    obtain ⟨k, hk, rfl, HK⟩ := hrel
    by_cases hlt : k < N
    · have c0 := H0.out k hlt
      have hkN : (k : Int) < N := by omega
      have hnk := HN.out k hlt
      have HS : Hid (n k ≤ 4096 → ∀ j, j < k + 1 → n j ≤ 4096) := fun h j hj => by
        by_cases e : j = k
        · subst e; exact h
        · exact HK.out j (by omega)
      have HY : Hid (4096 < n k → (List.range N).any (fun i => decide (4096 < n i)) = true) := fun h => any_yes hlt (by simpa using h)
      generalize n k = m at *
      generalize A k = B at *
      generalize c k = d at *
      by_cases hb : 4096 < m
      · have hb' : decide ((4096 : Int) < m) = true := by simp; omega
        have HF := Lib.hid (HY.out hb)
        clear HY HS
        go_wp2
        go_ret
        exact ⟨ret_bool HF.out.symm, rfl⟩
      · have hb' : decide ((4096 : Int) < m) = false := by simp; omega
        have HF := Lib.hid (HS.out (by omega))
        clear HY HS
        go_wp2
        go_round
        case rel => exact ⟨k + 1, by omega, by go_num, HF⟩
        case measure => simp [intOf]; omega
    · have HF : Hid ((List.range N).any (fun i => decide (4096 < n i)) = false) := any_no fun j hj => by simpa using HK.out j (by omega)
      clear HK
      go_wp2
      go_ret
      exact ⟨ret_bool HF.out.symm, rfl⟩
set_option maxHeartbeats 1600000 in
theorem vecCode_any (g N : Nat) (A : Nat → Option Addr) (n c : Nat → Nat) (R : Nat → List R3) (w : World) (hN : N ≤ 100) (hN0 : 0 < N) (hg : g < w.heap.size) (h0 : ∀ i, i < N → w.cell? ⟨g, i, none⟩ = some (.slice (A i) (n i) (c i)))
    (hr : ∀ i, i < N → RdS w (· < w.heap.size) (A i) (n i) (c i) (R i)) (hs : ∀ i, i < N → Small (R i)) (hn : ∀ i, i < N → n i ≤ 1048576) :
    Calls Tryz.prog 79 #[.slice (some ⟨g, 0, none⟩) N N] w fun e w' => e = .returned (.int .i64 (vcode N n R)) ∧ Below w.heap.size w w' := by
  have H0 := Lib.hid h0
  have HR := Lib.hid hr
  have HS := Lib.hid hs
  have HN := Lib.hid hn
  clear h0 hr hs hn
  go_enter Tryz.func79, Tryz.ntmps79
  go_wp2_with fail
  refine (anyLongRat_any g N A n c w hN H0.out HN.out).mono ?_
  rintro e w1 ⟨rfl, rfl⟩
  by_cases hl : (List.range N).any (fun i => decide (4096 < n i)) = true
  · have HV : Hid (vcode N n R = 2) := by show _ = _; unfold vcode; rw [if_pos hl]
    rw [hl]
    clear hl
    go_wp2
    go_ret
    exact ⟨by rw [HV.out]; rfl, Below.refl _ _⟩
  have HV : Hid (vcode N n R = if (List.range N).any (fun i => !okV (R i)) then 1 else if (List.range N).any (fun i => decide (n i ≠ n 0)) then 8 else 0) := by show _ = _; unfold vcode; rw [if_neg hl]
  rw [(Bool.not_eq_true _).mp hl]
  clear hl
  go_wp2
  go_loopw [4, 11] (fun _ i wr => ∃ k : Nat, k ≤ N ∧ i = .int .i64 k ∧ Hid (∀ j, j < k → okV (R j) = true) ∧ Hid (Below w.heap.size w wr)) (fun _ i _ => N - (intOf i).toNat)
  case atStart => exact ⟨0, Nat.zero_le _, rfl, Lib.hid fun j hj => by omega, Lib.hid (Below.refl _ _)⟩
  case round =>
    obtain ⟨k, hk, rfl, HK, HB⟩ := hrel
    by_cases hlt : k < N
    · have c0 := (HB.out.cell (p := ⟨g, k, none⟩) hg).trans (H0.out k hlt)
      have hkN : (k : Int) < N := by omega
      have hnk := HN.out k hlt
      have HRk := Lib.hid ((HR.out k hlt).below HB.out)
      have HSk := Lib.hid (HS.out k hlt)
      have HSt : Hid (okV (R k) = true → ∀ j, j < k + 1 → okV (R j) = true) := fun h j hj => by
        by_cases e : j = k
        · subst e; exact h
        · exact HK.out j (by omega)
      have HY : Hid (okV (R k) = false → vcode N n R = 1) := fun h => by rw [HV.out, if_pos (any_yes hlt (by rw [h]; rfl))]
      generalize n k = m at *
      generalize A k = B at *
      generalize c k = d at *
      generalize R k = rs at *
      go_wp2_with fail
      refine (implVecOK_any B m d rs _ wr HRk.out HSk.out hnk).mono ?_
      rintro e w1 ⟨rfl, b1⟩
      have HB1 := Lib.hid (below_on HB.out b1)
      clear b1 c0
      by_cases ho : okV rs = true
      · have HF := Lib.hid (HSt.out ho)
        rw [ho]
        clear ho HSt HY
        go_wp2
        go_roundw
        case rel => exact ⟨k + 1, by omega, by go_num, HF, HB1⟩
        case measure => simp [intOf]; omega
      · have ho' := (Bool.not_eq_true _).mp ho
        have HF := Lib.hid (HY.out ho')
        rw [ho']
        clear ho ho' HSt HY
        go_wp2
        go_ret
        exact ⟨by rw [HF.out]; rfl, HB1.out⟩
    · have HV2 : Hid (vcode N n R = if (List.range N).any (fun i => decide (n i ≠ n 0)) then 8 else 0) := by
        show _ = _
        rw [HV.out, if_neg]
        rw [any_no fun j hj => by rw [HK.out j (by omega)]; rfl]
        exact Bool.false_ne_true
      have HB0 := HB
      clear HK HV
      go_wp2
      go_loopw [6, 21] (fun _ i ws => ∃ k : Nat, k ≤ N ∧ i = .int .i64 k ∧ Hid (∀ j, j < k → n j = n 0) ∧ ws = wr) (fun _ i _ => N - (intOf i).toNat)
      case atStart => exact ⟨0, Nat.zero_le _, rfl, Lib.hid fun j hj => by omega, rfl⟩
      case round =>
        obtain ⟨k, hk, rfl, HK, rfl⟩ := hrel
        by_cases hlt : k < N
        · have c0 := (HB0.out.cell (p := ⟨g, k, none⟩) hg).trans (H0.out k hlt)
          have c00 := (HB0.out.cell (p := ⟨g, 0, none⟩) hg).trans (H0.out 0 hN0)
          have hkN : (k : Int) < N := by omega
          have hN0' : (0 : Int) < N := by omega
          have hnk := HN.out k hlt
          have hn0 := HN.out 0 hN0
          have HSt : Hid (n k = n 0 → ∀ j, j < k + 1 → n j = n 0) := fun h j hj => by
            by_cases e : j = k
            · subst e; exact h
            · exact HK.out j (by omega)
          have HY : Hid (n k ≠ n 0 → vcode N n R = 8) := fun h => by rw [HV2.out, if_pos (any_yes hlt (by simpa using h))]
          by_cases he : n k = n 0
          · have hbe : ((n k : Int) != (n 0 : Int)) = false := by rw [he]; simp
            have HF := Lib.hid (HSt.out he)
            clear HSt HY he
            generalize n k = m at *
            generalize n 0 = m0 at *
            generalize A k = B at *
            generalize c k = d at *
            generalize A 0 = B0 at *
            generalize c 0 = d0 at *
            go_wp2
            go_roundw
            case rel => exact ⟨k + 1, by omega, by go_num, HF, (by first | trivial | rfl)⟩
            case measure => simp [intOf]; omega
          · have hbe : ((n k : Int) != (n 0 : Int)) = true := by simp; omega
            have HF := Lib.hid (HY.out he)
            clear HSt HY he
            generalize n k = m at *
            generalize n 0 = m0 at *
            generalize A k = B at *
            generalize c k = d at *
            generalize A 0 = B0 at *
            generalize c 0 = d0 at *
            go_wp2
            go_ret
            exact ⟨by rw [HF.out]; rfl, HB0.out⟩
        · have HF : Hid (vcode N n R = 0) := by
            show _ = _
            rw [HV2.out, if_neg]
            rw [any_no fun j hj => by simpa using HK.out j (by omega)]
            exact Bool.false_ne_true
          clear HK HV2
          go_wp2
          go_ret
          exact ⟨by rw [HF.out]; rfl, HB0.out⟩
end Go.Proofs.YtifepoefeamboaaGreatDoor
namespace Nt
open Go Go.RowKit
/-- a rational that can be read, in blocks that are new -/
def SayN (w : World) (neg : Bool) (xs ys : List Int) (e : Ending) (w' : World) : Prop :=
  ∃ A ca B cb, e = .returned (.agg #[.bool neg, .slice A xs.length ca, .slice B ys.length cb]) ∧ RdR w' (w.heap.size ≤ ·) xs ys A ca B cb ∧ Below w.heap.size w w'
/-- a natural in blocks from N on -/
def Nf (N : Nat) (w : World) (A : Option Addr) (c m : Nat) : Prop := Rd w (N ≤ ·) A (D m).length c (D m)
theorem Nf.on {N : Nat} {w w' : World} {A : Option Addr} {c m : Nat} (h : Nf N w A c m) (hb : Below w.heap.size w w') : Nf N w' A c m := Rd.keep h hb.size fun b _ hl => hb.block b hl
theorem new_far {N : Nat} {t : TypeId} {w w' : World} {m : Nat} {e : Ending} (hN : N ≤ w.heap.size) (h : RetNew t w (D m) e w') : ∃ A c, e = .returned (.slice A (D m).length c) ∧ Nf N w' A c m ∧ Below w.heap.size w w' := by
  obtain ⟨A, c, rfl, ho, hb⟩ := h
  exact ⟨A, c, rfl, (own_rd' ho).mono fun _ h _ => Nat.le_trans hN h, hb⟩
end Nt
namespace Go.Proofs.YtifepoefeamboaaGreatDoor
open Go Go.RowKit Nt

set_option maxRecDepth 20000 in
set_option maxHeartbeats 3200000 in
theorem times_newc (na nb : Bool) (x y x' y' g h u u' v v' p q : Nat) (hg : Nat.gcd x y' = g) (hh : Nat.gcd x' y = h) (hu : x / g = u) (hu' : x' / h = u') (hv : y / h = v) (hv' : y' / g = v') (hp : u * u' = p) (hq : v * v' = q) (g0 : 0 < g) (h0 : 0 < h)
    (A B : Option Addr) (ca cb : Nat) (A' B' : Option Addr) (ca' cb' : Nat) (P P' : Nat → Prop) (w : World) (k0 : RdR w P (D x) (D y) A ca B cb) (k1 : RdR w P' (D x') (D y') A' ca' B' cb')
    (l1 : (D x).length ≤ 3600) (l2 : (D y).length ≤ 3600) (l3 : (D x').length ≤ 3600) (l4 : (D y').length ≤ 3600) (l5 : (D g).length ≤ 3600) (l6 : (D h).length ≤ 3600) (l7 : (D u).length ≤ 3600) (l8 : (D u').length ≤ 3600) (l9 : (D v).length ≤ 3600) (l10 : (D v').length ≤ 3600) (l11 : (D p).length ≤ 7200) :
    Calls Tryz.prog 116 #[.agg #[.bool na, .slice A (D x).length ca, .slice B (D y).length cb], .agg #[.bool nb, .slice A' (D x').length ca', .slice B' (D y').length cb']] w (SayN w ((na != nb) && decide (0 < (D p).length)) (D p) (D q)) := by
  have H0 := Lib.hid (k0.mono (Q := (· < w.heap.size)) fun _ _ h => h)
  have H1 := Lib.hid (k1.mono (Q := (· < w.heap.size)) fun _ _ h => h)
  have HG := Lib.hid hg
  have HH := Lib.hid hh
  have HU := Lib.hid hu
  have HU' := Lib.hid hu'
  have HV := Lib.hid hv
  have HV' := Lib.hid hv'
  have HPp := Lib.hid hp
  have HQq := Lib.hid hq
  clear k0 k1 hg hh hu hu' hv hv' hp hq
  go_enter Tryz.func116, Tryz.ntmps116
  go_upto_region 1 with fail
  refine wp_at (fun v0 => Below w.heap.size w v0 ∧ RatAt v0 w.heap.size 31 na A (D x).length ca B (D y).length cb ∧ RatAt v0 (w.heap.size + 1) 31 nb A' (D x').length ca' B' (D y').length cb' ∧ RatAt v0 (w.heap.size + 1 + 1) 31 false none 0 0 none 0 0)
    ⟨below3 _ _ _ _, ((RatAt.new _ _ _ _ _ _ _ _ _).alloc _).alloc _, (RatAt.new1 _ _ _ _ _ _ _ _ _ _).alloc _, RatAt.new2 _ _ _ _ _ _ _ _ _ _ _⟩ ?_
  rintro v0 ⟨hb, r0, r1, r2⟩
  have HB0 := Lib.hid hb
  have HR0 := Lib.hid r0
  have HS0 := Lib.hid r1
  have HT0 := Lib.hid r2
  clear hb r0 r1 r2
  go_region_held3 (fun wx => wx.cell? ⟨w.heap.size, 0, none⟩ = some (.bool na) ∧ wx.cell? ⟨w.heap.size, 1, none⟩ = some (.slice A (D x).length ca) ∧ wx.cell? ⟨w.heap.size, 2, none⟩ = some (.slice B (D y).length cb) ∧ wx.cell? ⟨w.heap.size + 1, 0, none⟩ = some (.bool nb) ∧ wx.cell? ⟨w.heap.size + 1, 1, none⟩ = some (.slice A' (D x').length ca') ∧ wx.cell? ⟨w.heap.size + 1, 2, none⟩ = some (.slice B' (D y').length cb'))
    (first | exact ⟨(HR0.out).c0, (HR0.out).c1, (HR0.out).c2, (HS0.out).c0, (HS0.out).c1, (HS0.out).c2⟩ | exact ⟨(HR1.out).c0, (HR1.out).c1, (HR1.out).c2, (HS1.out).c0, (HS1.out).c1, (HS1.out).c2⟩ | exact ⟨(HR2.out).c0, (HR2.out).c1, (HR2.out).c2, (HS2.out).c0, (HS2.out).c1, (HS2.out).c2⟩)
    (first
      | (go_at_call_of 140 A'; refine (commonLimbs_any A' B _ ca' _ cb x' y _ _ _ (by exact (H1.out.below HB1.out).1) (by exact (H0.out.below HB1.out).2) (by omega) (by omega)).mono ?_; rintro e v2 hnew; rw [HH.out] at hnew; obtain ⟨V2, d2, rfl, p2, bb⟩ := new_of hnew; have sv2 := bb.size; have HB2 := Lib.hid (below_on HB1.out bb); have HR2 := Lib.hid (HR1.out.on bb); have HS2 := Lib.hid (HS1.out.on bb); have HT2 := Lib.hid (HT1.out.on bb); have HN12 := Lib.hid (HN11.out.on bb); have HN22 := Lib.hid p2; clear hnew p2 bb)
      | (go_at_call_of 140 A; refine (commonLimbs_any A B' _ ca _ cb' x y' _ _ _ (by exact (H0.out.below HB0.out).1) (by exact (H1.out.below HB0.out).2) (by omega) (by omega)).mono ?_; rintro e v1 hnew; rw [HG.out] at hnew; obtain ⟨V1, d1, rfl, p1, bb⟩ := new_of hnew; have bb := undrew bb; have sv1 := bb.size; have HB1 := Lib.hid (below_on HB0.out bb); have HR1 := Lib.hid (HR0.out.on bb); have HS1 := Lib.hid (HS0.out.on bb); have HT1 := Lib.hid (HT0.out.on bb); have HN11 := Lib.hid p1; clear hnew p1 bb))
  go_upto_region 2 with fail
  go_region_held3 (fun wx => wx.cell? ⟨w.heap.size, 0, none⟩ = some (.bool na) ∧ wx.cell? ⟨w.heap.size, 1, none⟩ = some (.slice A (D x).length ca) ∧ wx.cell? ⟨w.heap.size, 2, none⟩ = some (.slice B (D y).length cb) ∧ wx.cell? ⟨w.heap.size + 1, 0, none⟩ = some (.bool nb) ∧ wx.cell? ⟨w.heap.size + 1, 1, none⟩ = some (.slice A' (D x').length ca') ∧ wx.cell? ⟨w.heap.size + 1, 2, none⟩ = some (.slice B' (D y').length cb'))
    (first | exact ⟨(HR2.out).c0, (HR2.out).c1, (HR2.out).c2, (HS2.out).c0, (HS2.out).c1, (HS2.out).c2⟩ | exact ⟨(HR3.out).c0, (HR3.out).c1, (HR3.out).c2, (HS3.out).c0, (HS3.out).c1, (HS3.out).c2⟩ | exact ⟨(HR4.out).c0, (HR4.out).c1, (HR4.out).c2, (HS4.out).c0, (HS4.out).c1, (HS4.out).c2⟩ | exact ⟨(HR5.out).c0, (HR5.out).c1, (HR5.out).c2, (HS5.out).c0, (HS5.out).c1, (HS5.out).c2⟩)
    (first
      | (go_at_call 142; refine (productLimbs_any V3 V4 _ d3 _ d4 u u' _ _ _ (by first | exact HN34.out | exact Rd.drew HN34.out) (by first | exact HN44.out | exact Rd.drew HN44.out) (by omega) (by omega)).mono ?_; rintro e v5 hnew; rw [HPp.out] at hnew; obtain ⟨V5, d5, rfl, p5, bb⟩ := new_far (N := w.heap.size) (HB4.out.size) hnew; have sv5 := bb.size; have HB5 := Lib.hid (below_on HB4.out bb); have HR5 := Lib.hid (HR4.out.on bb); have HS5 := Lib.hid (HS4.out.on bb); have HT5 := Lib.hid (HT4.out.on bb); have HN15 := Lib.hid (HN14.out.on bb); have HN25 := Lib.hid (HN24.out.on bb); have HN35 := Lib.hid (HN34.out.on bb); have HN45 := Lib.hid (HN44.out.on bb); have HN55 := Lib.hid p5; clear hnew p5 bb)
      | (go_at_call_of 141 A'; refine (quotientLimbs_any A' V2 _ ca' _ d2 x' h _ _ _ (by exact (H1.out.below HB3.out).1) (by first | exact HN23.out | exact Rd.drew HN23.out) (by omega) (by omega) h0).mono ?_; rintro e v4 hnew; rw [HU'.out] at hnew; obtain ⟨V4, d4, rfl, p4, bb⟩ := hnew; have sv4 := bb.size; have HB4 := Lib.hid (below_on HB3.out bb); have HR4 := Lib.hid (HR3.out.on bb); have HS4 := Lib.hid (HS3.out.on bb); have HT4 := Lib.hid (HT3.out.on bb); have HN14 := Lib.hid (HN13.out.on bb); have HN24 := Lib.hid (HN23.out.on bb); have HN34 := Lib.hid (HN33.out.on bb); have HN44 := Lib.hid p4; clear p4 bb)
      | (go_at_call_of 141 A; refine (quotientLimbs_any A V1 _ ca _ d1 x g _ _ _ (by exact (H0.out.below HB2.out).1) (by first | exact HN12.out | exact Rd.drew HN12.out) (by omega) (by omega) g0).mono ?_; rintro e v3 hnew; rw [HU.out] at hnew; obtain ⟨V3, d3, rfl, p3, bb⟩ := hnew; have bb := undrew bb; have sv3 := bb.size; have HB3 := Lib.hid (below_on HB2.out bb); have HR3 := Lib.hid (HR2.out.on bb); have HS3 := Lib.hid (HS2.out.on bb); have HT3 := Lib.hid (HT2.out.on bb); have HN13 := Lib.hid (HN12.out.on bb); have HN23 := Lib.hid (HN22.out.on bb); have HN33 := Lib.hid p3; clear p3 bb))
  go_upto_region 3 with fail
  go_region_held3 (fun wx => wx.cell? ⟨w.heap.size, 0, none⟩ = some (.bool na) ∧ wx.cell? ⟨w.heap.size, 1, none⟩ = some (.slice A (D x).length ca) ∧ wx.cell? ⟨w.heap.size, 2, none⟩ = some (.slice B (D y).length cb) ∧ wx.cell? ⟨w.heap.size + 1, 0, none⟩ = some (.bool nb) ∧ wx.cell? ⟨w.heap.size + 1, 1, none⟩ = some (.slice A' (D x').length ca') ∧ wx.cell? ⟨w.heap.size + 1, 2, none⟩ = some (.slice B' (D y').length cb'))
    (first | exact ⟨(HR5.out).c0, (HR5.out).c1, (HR5.out).c2, (HS5.out).c0, (HS5.out).c1, (HS5.out).c2⟩ | exact ⟨(HR6.out).c0, (HR6.out).c1, (HR6.out).c2, (HS6.out).c0, (HS6.out).c1, (HS6.out).c2⟩ | exact ⟨(HR7.out).c0, (HR7.out).c1, (HR7.out).c2, (HS7.out).c0, (HS7.out).c1, (HS7.out).c2⟩ | exact ⟨(HR8.out).c0, (HR8.out).c1, (HR8.out).c2, (HS8.out).c0, (HS8.out).c1, (HS8.out).c2⟩)
    (first
      | (go_at_call 142; refine (productLimbs_any V6 V7 _ d6 _ d7 v v' _ _ _ (by first | exact HN67.out | exact Rd.drew HN67.out) (by first | exact HN77.out | exact Rd.drew HN77.out) (by omega) (by omega)).mono ?_; rintro e v8 hnew; rw [HQq.out] at hnew; obtain ⟨V8, d8, rfl, p8, bb⟩ := new_far (N := w.heap.size) (HB7.out.size) hnew; have sv8 := bb.size; have HB8 := Lib.hid (below_on HB7.out bb); have HR8 := Lib.hid (HR7.out.on bb); have HS8 := Lib.hid (HS7.out.on bb); have HT8 := Lib.hid (HT7.out.on bb); have HN18 := Lib.hid (HN17.out.on bb); have HN28 := Lib.hid (HN27.out.on bb); have HN38 := Lib.hid (HN37.out.on bb); have HN48 := Lib.hid (HN47.out.on bb); have HN58 := Lib.hid (HN57.out.on bb); have HN68 := Lib.hid (HN67.out.on bb); have HN78 := Lib.hid (HN77.out.on bb); have HN88 := Lib.hid p8; clear hnew p8 bb)
      | (go_at_call_of 141 B'; refine (quotientLimbs_any B' V1 _ cb' _ d1 y' g _ _ _ (by exact (H1.out.below HB6.out).2) (by first | exact HN16.out | exact Rd.drew HN16.out) (by omega) (by omega) g0).mono ?_; rintro e v7 hnew; rw [HV'.out] at hnew; obtain ⟨V7, d7, rfl, p7, bb⟩ := hnew; have sv7 := bb.size; have HB7 := Lib.hid (below_on HB6.out bb); have HR7 := Lib.hid (HR6.out.on bb); have HS7 := Lib.hid (HS6.out.on bb); have HT7 := Lib.hid (HT6.out.on bb); have HN17 := Lib.hid (HN16.out.on bb); have HN27 := Lib.hid (HN26.out.on bb); have HN37 := Lib.hid (HN36.out.on bb); have HN47 := Lib.hid (HN46.out.on bb); have HN57 := Lib.hid (HN56.out.on bb); have HN67 := Lib.hid (HN66.out.on bb); have HN77 := Lib.hid p7; clear p7 bb)
      | (go_at_call_of 141 B; refine (quotientLimbs_any B V2 _ cb _ d2 y h _ _ _ (by exact (H0.out.below HB5.out).2) (by first | exact HN25.out | exact Rd.drew HN25.out) (by omega) (by omega) h0).mono ?_; rintro e v6 hnew; rw [HV.out] at hnew; obtain ⟨V6, d6, rfl, p6, bb⟩ := hnew; have bb := undrew bb; have sv6 := bb.size; have HB6 := Lib.hid (below_on HB5.out bb); have HR6 := Lib.hid (HR5.out.on bb); have HS6 := Lib.hid (HS5.out.on bb); have HT6 := Lib.hid (HT5.out.on bb); have HN16 := Lib.hid (HN15.out.on bb); have HN26 := Lib.hid (HN25.out.on bb); have HN36 := Lib.hid (HN35.out.on bb); have HN46 := Lib.hid (HN45.out.on bb); have HN56 := Lib.hid (HN55.out.on bb); have HN66 := Lib.hid p6; clear p6 bb))
  have qR0 := HR8.out.c0
  have qR1 := HR8.out.c1
  have qR2 := HR8.out.c2
  have qS0 := HS8.out.c0
  have qS1 := HS8.out.c1
  have qS2 := HS8.out.c2
  go_wp2_with fail
  clear qR0 qR1 qR2 qS0 qS1 qS2
  refine (ratOf_any _ V5 V8 _ d5 _ d8 v8 (by omega)).mono ?_
  rintro e v9 ⟨rfl, bb⟩
  have sv9 := bb.size
  have HB9 := Lib.hid (below_on HB8.out bb)
  have HR9 := Lib.hid (HR8.out.on bb)
  have HS9 := Lib.hid (HS8.out.on bb)
  have HT9 := Lib.hid (HT8.out.on bb)
  have HN19 := Lib.hid (HN18.out.on bb)
  have HN29 := Lib.hid (HN28.out.on bb)
  have HN39 := Lib.hid (HN38.out.on bb)
  have HN49 := Lib.hid (HN48.out.on bb)
  have HN59 := Lib.hid (HN58.out.on bb)
  have HN69 := Lib.hid (HN68.out.on bb)
  have HN79 := Lib.hid (HN78.out.on bb)
  have HN89 := Lib.hid (HN88.out.on bb)
  clear HB8 HR8 HS8 HT8 HN18 HN28 HN38 HN48 HN58 HN68 HN78 HN88
  have f0 := HT9.out.fz 0
  have f1 := HT9.out.fz 1
  have f2 := HT9.out.fz 2
  have y0 := HT9.out.c0
  have y1 := HT9.out.c1
  have y2 := HT9.out.c2
  clear bb
  go_wp2
  have g2 := fun b u v => setAll_grown v9 (w.heap.size + 1 + 1) (.bool b) u v
  refine bodyPost_ret (retR rfl _ _ _ rfl (HT9.out.setAll _ _ _ _ _ _ _)) rfl ?_
  exact ⟨V5, d5, V8, d8, rfl, ⟨Rd.past HN59.out HT9.out (g2 _ _ _), Rd.past HN89.out HT9.out (g2 _ _ _)⟩, below_grow HB9.out (by omega) (g2 _ _ _)⟩

theorem times_new (a b : Rat) (A B : Option Addr) (ca cb : Nat) (A' B' : Option Addr) (ca' cb' : Nat) (P P' : Nat → Prop) (w : World) (h0 : RdR w P (D (nu a)) (D a.den) A ca B cb) (h1 : RdR w P' (D (nu b)) (D b.den) A' ca' B' cb') (l1 : (D (nu a)).length ≤ 3600) (l2 : (D a.den).length ≤ 3600) (l3 : (D (nu b)).length ≤ 3600) (l4 : (D b.den).length ≤ 3600) :
    Calls Tryz.prog 116 #[.agg #[.bool (isNeg a), .slice A (D (nu a)).length ca, .slice B (D a.den).length cb], .agg #[.bool (isNeg b), .slice A' (D (nu b)).length ca', .slice B' (D b.den).length cb']] w (SayN w (isNeg (a * b)) (D (nu (a * b))) (D (a * b).den)) := by
  obtain ⟨e1, e2, e3⟩ := times_parts a b
  rw [e3, e2, e1, ← D_pos_len]
  have z1 := D_len_gcd (nu a) b.den_pos
  have z2 := D_len_gcd (nu b) a.den_pos
  have z3 := D_len_div (nu a) (Nat.gcd (nu a) b.den)
  have z4 := D_len_div (nu b) (Nat.gcd (nu b) a.den)
  have z5 := D_len_div a.den (Nat.gcd (nu b) a.den)
  have z6 := D_len_div b.den (Nat.gcd (nu a) b.den)
  have z7 := D_len_mul (nu a / Nat.gcd (nu a) b.den) (nu b / Nat.gcd (nu b) a.den)
  exact times_newc _ _ (nu a) a.den (nu b) b.den _ _ _ _ _ _ _ _ rfl rfl rfl rfl rfl rfl rfl rfl (Nat.gcd_pos_of_pos_right _ b.den_pos) (Nat.gcd_pos_of_pos_right _ a.den_pos) A B ca cb A' B' ca' cb' P P' w h0 h1 l1 l2 l3 l4 (by omega) (by omega) (by omega) (by omega) (by omega) (by omega) (by omega)

set_option maxHeartbeats 800000 in
theorem l02Make_new (neg : Bool) (A B : Option Addr) (la ca lb cb p q : Nat) (P Q : Nat → Prop) (w : World) (hx0 : Rd w P A la ca (D p)) (hy0 : Rd w Q B lb cb (D q)) (hla : la ≤ 9000) (hlb : lb ≤ 9000) (hq : 0 < q) :
    Calls Tryz.prog 124 #[.bool neg, .slice A la ca, .slice B lb cb] w (SayN w (isNeg (mkRat (sg neg p) q)) (D (nu (mkRat (sg neg p) q))) (D (mkRat (sg neg p) q).den)) := by
  have HX := Lib.hid (hx0.mono (Q := (· < w.heap.size)) fun _ _ h => h)
  have HY := Lib.hid (hy0.mono (Q := (· < w.heap.size)) fun _ _ h => h)
  have hyl := hy0.len
  have hg0 : 0 < Nat.gcd p q := Nat.gcd_pos_of_pos_right _ hq
  have hgl : (D (Nat.gcd p q)).length ≤ 9000 := by have := D_len_gcd p hq; omega
  clear hx0 hy0 hyl
  go_enter Tryz.func124, Tryz.ntmps124
  go_wp2_with fail
  refine calls_at (fun W => Below w.heap.size w W ∧ RatAt W w.heap.size 31 false none 0 0 none 0 0) ⟨below1 _ _, RatAt.new _ _ _ _ _ _ _ _ _⟩ ?_
  rintro W ⟨hb, r0⟩
  refine (l01Gcd_any A B la ca lb cb p q _ _ W (HX.out.below hb) (HY.out.below hb) hla hlb).mono ?_
  rintro e w1 hnew
  obtain ⟨A1, c1, rfl, m1, b1⟩ := new_of hnew
  have HB1 := Lib.hid (below_on hb b1)
  have HR1 := Lib.hid (r0.on b1)
  have HM1 := Lib.hid m1
  clear hnew hb r0 m1 b1
  go_wp2_with fail
  refine (l01Div_any A A1 la ca _ c1 p (Nat.gcd p q) _ _ w1 (HX.out.below HB1.out) HM1.out hla hgl hg0).mono ?_
  rintro e w2 ⟨A2, c2, A3, c3, rfl, o2, r2, b2⟩
  have HP : Hid (Nf w.heap.size w2 A2 c2 (p / Nat.gcd p q)) := (own_rd' o2).mono fun _ h _ => Nat.le_trans HB1.out.size h
  have HB2 := Lib.hid (below_on HB1.out b2)
  have HR2 := Lib.hid (HR1.out.on b2)
  have HM2 := Lib.hid (HM1.out.on b2)
  clear o2 r2 b2 HB1 HR1 HM1
  go_wp2_with fail
  refine (l01Div_any B A1 lb cb _ c1 q (Nat.gcd p q) _ _ w2 (HY.out.below HB2.out) HM2.out hlb hgl hg0).mono ?_
  rintro e w3 ⟨A4, c4, A5, c5, rfl, o3, r3, b3⟩
  have HQ3 : Hid (Nf w.heap.size w3 A4 c4 (q / Nat.gcd p q)) := (own_rd' o3).mono fun _ h _ => Nat.le_trans HB2.out.size h
  have HP3 := Lib.hid (HP.out.on b3)
  have HB3 := Lib.hid (below_on HB2.out b3)
  have HR3 := Lib.hid (HR2.out.on b3)
  clear o3 r3 b3 HB2 HR2 HM2 HP
  have f0 := HR3.out.fz 0
  have f1 := HR3.out.fz 1
  have f2 := HR3.out.fz 2
  have y0 := HR3.out.c0
  have y1 := HR3.out.c1
  have y2 := HR3.out.c2
  cases neg with
  | false =>
    have HE : Hid ((false && decide (0 < p / Nat.gcd p q)) = false) := Lib.hid rfl
    go_wp2
    have g2 := fun b => setAll_grown w3 w.heap.size (.bool b) (.slice A2 (D (p / Nat.gcd p q)).length c2) (.slice A4 (D (q / Nat.gcd p q)).length c4)
    refine bodyPost_ret (retR rfl _ _ _ rfl (HR3.out.setAll _ _ _ _ _ _ _)) rfl ?_
    obtain ⟨e1, e2, e3⟩ := mk_parts false p q hq
    rw [e1, e2, e3]
    exact ⟨A2, c2, A4, c4, by rw [HE.out], ⟨Rd.past HP3.out HR3.out (g2 _), Rd.past HQ3.out HR3.out (g2 _)⟩, below_grow HB3.out (Nat.le_refl _) (g2 _)⟩
  | true =>
    have HE : Hid ((true && decide (0 < p / Nat.gcd p q)) = decide (0 < (D (p / Nat.gcd p q)).length)) := by
      show _ = _
      rw [Bool.true_and]
      rcases Nat.eq_zero_or_pos (p / Nat.gcd p q) with h | h
      · rw [h]; rfl
      · rw [decide_eq_true h, decide_eq_true (D_len_pos h)]
    go_wp2
    have g2 := fun b => setAll_grown w3 w.heap.size (.bool b) (.slice A2 (D (p / Nat.gcd p q)).length c2) (.slice A4 (D (q / Nat.gcd p q)).length c4)
    refine bodyPost_ret (retR rfl _ _ _ rfl (HR3.out.setAll _ _ _ _ _ _ _)) rfl ?_
    obtain ⟨e1, e2, e3⟩ := mk_parts true p q hq
    rw [e1, e2, e3]
    exact ⟨A2, c2, A4, c4, by rw [HE.out], ⟨Rd.past HP3.out HR3.out (g2 _), Rd.past HQ3.out HR3.out (g2 _)⟩, below_grow HB3.out (Nat.le_refl _) (g2 _)⟩

/-- l02Make answers so, in new blocks -/
def MkN (neg : Bool) (m d : Nat) (nn : Bool) (X Y : List Int) : Prop :=
  ∀ (A7 : Option Addr) (c7 : Nat) (B7 : Option Addr) (d7 : Nat) (W : World), Nm W A7 c7 m → Nm W B7 d7 d → Calls Tryz.prog 124 #[.bool neg, .slice A7 (D m).length c7, .slice B7 (D d).length d7] W (SayN W nn X Y)

theorem mkN (neg : Bool) (m d : Nat) (r : Rat) (hr : r = mkRat (sg neg m) d) (hd : 0 < d) (l1 : (D m).length ≤ 9000) (l2 : (D d).length ≤ 9000) : MkN neg m d (isNeg r) (D (nu r)) (D r.den) := by
  subst hr
  intro A7 c7 B7 d7 W h1 h2
  exact l02Make_new neg A7 B7 _ c7 _ d7 m d _ _ W h1 h2 l1 l2 hd

set_option maxRecDepth 20000 in
set_option maxHeartbeats 3200000 in
theorem l02Mul_newc (na nb : Bool) (x y x' y' p q : Nat) (hp : x * x' = p) (hq : y * y' = q) (nn : Bool) (X Y : List Int)
    (A B : Option Addr) (ca cb : Nat) (A' B' : Option Addr) (ca' cb' : Nat) (P P' : Nat → Prop) (w : World) (k0 : RdR w P (D x) (D y) A ca B cb) (k1 : RdR w P' (D x') (D y') A' ca' B' cb')
    (l1 : (D x).length ≤ 3600) (l2 : (D y).length ≤ 3600) (l3 : (D x').length ≤ 3600) (l4 : (D y').length ≤ 3600) (hm : MkN (na != nb) p q nn X Y) :
    Calls Tryz.prog 120 #[.agg #[.bool na, .slice A (D x).length ca, .slice B (D y).length cb], .agg #[.bool nb, .slice A' (D x').length ca', .slice B' (D y').length cb']] w (SayN w nn X Y) := by
  have H0 := Lib.hid (k0.mono (Q := (· < w.heap.size)) fun _ _ h => h)
  have H1 := Lib.hid (k1.mono (Q := (· < w.heap.size)) fun _ _ h => h)
  have HPp := Lib.hid hp
  have HQq := Lib.hid hq
  have HM := Lib.hid hm
  clear k0 k1 hp hq hm
  go_enter Tryz.func120, Tryz.ntmps120
  go_upto_region 1 with fail
  refine wp_at (fun v0 => Below w.heap.size w v0 ∧ RatAt v0 w.heap.size 31 na A (D x).length ca B (D y).length cb ∧ RatAt v0 (w.heap.size + 1) 31 nb A' (D x').length ca' B' (D y').length cb' ∧ RatAt v0 (w.heap.size + 1 + 1) 31 false none 0 0 none 0 0)
    ⟨below3 _ _ _ _, ((RatAt.new _ _ _ _ _ _ _ _ _).alloc _).alloc _, (RatAt.new1 _ _ _ _ _ _ _ _ _ _).alloc _, RatAt.new2 _ _ _ _ _ _ _ _ _ _ _⟩ ?_
  rintro v0 ⟨hb, r0, r1, r2⟩
  have HB0 := Lib.hid hb
  have HR0 := Lib.hid r0
  have HS0 := Lib.hid r1
  have HT0 := Lib.hid r2
  clear hb r0 r1 r2
  go_region_held3 (fun wx => wx.cell? ⟨w.heap.size, 0, none⟩ = some (.bool na) ∧ wx.cell? ⟨w.heap.size, 1, none⟩ = some (.slice A (D x).length ca) ∧ wx.cell? ⟨w.heap.size, 2, none⟩ = some (.slice B (D y).length cb) ∧ wx.cell? ⟨w.heap.size + 1, 0, none⟩ = some (.bool nb) ∧ wx.cell? ⟨w.heap.size + 1, 1, none⟩ = some (.slice A' (D x').length ca') ∧ wx.cell? ⟨w.heap.size + 1, 2, none⟩ = some (.slice B' (D y').length cb'))
    (first | exact ⟨(HR0.out).c0, (HR0.out).c1, (HR0.out).c2, (HS0.out).c0, (HS0.out).c1, (HS0.out).c2⟩ | exact ⟨(HR1.out).c0, (HR1.out).c1, (HR1.out).c2, (HS1.out).c0, (HS1.out).c1, (HS1.out).c2⟩ | exact ⟨(HR2.out).c0, (HR2.out).c1, (HR2.out).c2, (HS2.out).c0, (HS2.out).c1, (HS2.out).c2⟩ | exact ⟨(HR3.out).c0, (HR3.out).c1, (HR3.out).c2, (HS3.out).c0, (HS3.out).c1, (HS3.out).c2⟩ | exact ⟨(HR3.out.grown (setAll_grown _ _ _ _ _) (by omega)).c0, (HR3.out.grown (setAll_grown _ _ _ _ _) (by omega)).c1, (HR3.out.grown (setAll_grown _ _ _ _ _) (by omega)).c2, (HS3.out.grown (setAll_grown _ _ _ _ _) (by omega)).c0, (HS3.out.grown (setAll_grown _ _ _ _ _) (by omega)).c1, (HS3.out.grown (setAll_grown _ _ _ _ _) (by omega)).c2⟩)
    (first
      | (go_at_call 124; refine (HM.out V1 d1 V2 d2 _ (by first | exact HN12.out | exact Rd.drew HN12.out) (by first | exact HN22.out | exact Rd.drew HN22.out)).mono ?_; rintro e v3 ⟨A8, c8, B8, d8, rfl, o8, bb⟩; have sv3 := bb.size; have HB3 := Lib.hid (below_on HB2.out bb); have HR3 := Lib.hid (HR2.out.on bb); have HS3 := Lib.hid (HS2.out.on bb); have HT3 := Lib.hid (HT2.out.on bb); have HN13 := Lib.hid (HN12.out.on bb); have HN23 := Lib.hid (HN22.out.on bb); have f0 := HT3.out.fz 0; have f1 := HT3.out.fz 1; have f2 := HT3.out.fz 2; have y0 := HT3.out.c0; have y1 := HT3.out.c1; have y2 := HT3.out.c2; have HO8 := Lib.hid (o8.mono (Q := (w.heap.size ≤ ·)) fun _ h _ => Nat.le_trans HB2.out.size h); clear bb o8)
      | (go_at_call_of 145 B; refine (l01Mul_any B B' _ cb _ cb' y y' _ _ _ (by exact (H0.out.below HB1.out).2) (by exact (H1.out.below HB1.out).2) (by omega) (by omega)).mono ?_; rintro e v2 hnew; rw [HQq.out] at hnew; obtain ⟨V2, d2, rfl, p2, bb⟩ := new_of hnew; have sv2 := bb.size; have HB2 := Lib.hid (below_on HB1.out bb); have HR2 := Lib.hid (HR1.out.on bb); have HS2 := Lib.hid (HS1.out.on bb); have HT2 := Lib.hid (HT1.out.on bb); have HN12 := Lib.hid (HN11.out.on bb); have HN22 := Lib.hid p2; clear hnew p2 bb)
      | (go_at_call_of 145 A; refine (l01Mul_any A A' _ ca _ ca' x x' _ _ _ (by exact (H0.out.below HB0.out).1) (by exact (H1.out.below HB0.out).1) (by omega) (by omega)).mono ?_; rintro e v1 hnew; rw [HPp.out] at hnew; obtain ⟨V1, d1, rfl, p1, bb⟩ := new_of hnew; have bb := undrew bb; have sv1 := bb.size; have HB1 := Lib.hid (below_on HB0.out bb); have HR1 := Lib.hid (HR0.out.on bb); have HS1 := Lib.hid (HS0.out.on bb); have HT1 := Lib.hid (HT0.out.on bb); have HN11 := Lib.hid p1; clear hnew p1 bb))
  go_wp2
  have g2 := fun b u v => setAll_grown v3 (w.heap.size + 1 + 1) (.bool b) u v
  refine bodyPost_ret (retR rfl _ _ _ rfl (HT3.out.setAll _ _ _ _ _ _ _)) rfl ?_
  exact ⟨A8, c8, B8, d8, rfl, ⟨HO8.out.1.past HT3.out (g2 _ _ _), HO8.out.2.past HT3.out (g2 _ _ _)⟩, below_grow HB3.out (by omega) (g2 _ _ _)⟩

theorem l02Mul_new (a b : Rat) (A B : Option Addr) (ca cb : Nat) (A' B' : Option Addr) (ca' cb' : Nat) (P P' : Nat → Prop) (w : World) (h0 : RdR w P (D (nu a)) (D a.den) A ca B cb) (h1 : RdR w P' (D (nu b)) (D b.den) A' ca' B' cb') (l1 : (D (nu a)).length ≤ 3600) (l2 : (D a.den).length ≤ 3600) (l3 : (D (nu b)).length ≤ 3600) (l4 : (D b.den).length ≤ 3600) :
    Calls Tryz.prog 120 #[.agg #[.bool (isNeg a), .slice A (D (nu a)).length ca, .slice B (D a.den).length cb], .agg #[.bool (isNeg b), .slice A' (D (nu b)).length ca', .slice B' (D b.den).length cb']] w (SayN w (isNeg (a * b)) (D (nu (a * b))) (D (a * b).den)) :=
  l02Mul_newc (isNeg a) (isNeg b) (nu a) a.den (nu b) b.den _ _ rfl rfl _ _ _ A B ca cb A' B' ca' cb' P P' w h0 h1 l1 l2 l3 l4 (mkN _ _ _ _ (mul_make a b) (add_pos_den a b) (by have := D_len_mul (nu a) (nu b); omega) (by have := D_len_mul a.den b.den; omega))

end Go.Proofs.YtifepoefeamboaaGreatDoor
namespace Nt
open Go Go.RowKit
/-- append of numbers onto an empty literal, as one step of a region that draws -/
theorem step_append_litN {P : Program} {ops : Array Oper} {o : Oper} {a : Act} {w : World} {K : Act → World → Prop} {Q : Exit → Act → World → Prop} {E : Prop} (N : Nat)
    (hg : o.guard = none) (s x : Operand) (t : TypeId) (hop : o.op = .call { callee := .builtin .append, args := #[s, x], argTypes := #[t, t] })
    (e : TypeId) (ht : P.underlying t = some (.slice e)) (hinfo : (P.info? e).map (fun i => (i.zero, i.size, i.bytes)) = some (some (.int .i64 0), 1, 8))
    (g : Nat) (hs : a.eval s = .slice (some ⟨g, 0, none⟩) 0 0) (hgN : N ≤ g) (hempty : w.heap[g]? = some (.cells #[] e (0, 0)))
    (R : Nat → Prop) (A : Option Addr) (m c : Nat) (ys : List Int) (hx : a.eval x = .slice A m c) (hr : Rd w R A m c ys) (hm : m ≤ 16777216) (hNw : N ≤ w.heap.size)
    (h : ∀ V' c' w', Rd w' (N ≤ ·) V' m c' ys → Grew N w w' → w.grownBy w' (some g) → K (a.put o.dst (.slice V' m c')) w') :
    if Region.wanted o (yielded ops a.tmps) = true then Oper.wp P o a w K Q else E := by
  have hw : Region.wanted o (yielded ops a.tmps) = true := by simp [Region.wanted, hg]
  rw [if_pos hw]
  obtain ⟨i, h1, h2, h3, h4⟩ := info_parts hinfo
  have hown : w.ownsRow N e 1 (.slice (some ⟨g, 0, none⟩) 0 0) 0 ((([] : List Int)).map (Value.int .i64)) := ⟨rfl, .inr ⟨g, 0, #[], rfl, hgN, hempty, Nat.le_refl _, Nat.zero_le _, rfl, rfl⟩⟩
  cases A with
  | none =>
    have hc0 := hr.2.2.1 rfl
    have hm0 : m = 0 := by have := hr.cap; omega
    subst hc0 hm0
    have hrun := run_append_owned_none (P := P) (w := w) N t o.type e i 1 ht h1 _ 0 _ hown
    unfold Oper.wp
    simp [execOp, hop, resolve, invoke, builtin, hs, hx, hrun, Result.andThen]
    have hy : ys = [] := List.eq_nil_of_length_eq_zero hr.len
    subst hy
    exact h _ _ _ (Rd.nil_ _ _ _ _ (fun h => by cases h)) (Grew.refl _ _) (World.grownBy.refl _ _)
  | some ad =>
    refine wp_append_own w s x t hop N e i _ 1 8 ht h1 h2 h3 h4 rfl (by decide) _ 0 _ hs hown ad m c (ys.map (Value.int .i64)) hx (by simpa using hr.len) ?_ (ints_oneCell _ _) (by unfold maxLen; omega) (by omega) hNw ?_
    · intro j u hj
      rw [List.getElem?_map] at hj
      have hlt : j < ys.length := by
        rcases Nat.lt_or_ge j ys.length with h | h
        · exact h
        · rw [List.getElem?_eq_none h] at hj; cases hj
      obtain ⟨b, o', e', _, _, hc⟩ := hr.at_ (by have := hr.len; omega)
      injection e' with e'
      subst e'
      have := hc j (by have := hr.len; omega)
      rw [List.getElem?_eq_getElem hlt] at hj
      simp only [Option.map_some, Option.some.injEq] at hj
      rw [← hj]
      have e2 : ys.getD j 0 = ys[j] := by simp [List.getD, hlt]
      rw [e2] at this
      rw [← this]
      unfold Addr.add
      by_cases hj0 : j = 0 <;> simp [hj0]
    · intro v' w' h5 h6 _
      rw [← List.map_append, List.nil_append, Nat.zero_add] at h5
      obtain ⟨A', c', rfl, hrd⟩ := own_rd h5
      have h6' : w.grownBy w' (some g) := h6
      refine h A' c' w' hrd ⟨grown_below h6' hNw hgN, fun k hk => ?_⟩ h6'
      by_cases hkg : k = g
      · subst hkg; exact .inr ⟨e, hempty⟩
      · exact .inl (h6'.block k hk (fun e => hkg (by injection e)))
end Nt
namespace Go.Proofs.YtifepoefeamboaaGreatDoor
open Go Go.RowKit Nt

set_option maxRecDepth 20000 in
set_option maxHeartbeats 1600000 in
theorem l02Own_new (neg : Bool) (A B : Option Addr) (ca cb : Nat) (xs ys : List Int) (P : Nat → Prop) (w : World) (h0 : RdR w P xs ys A ca B cb) (hx : xs.length ≤ 16777216) (hy : ys.length ≤ 16777216) :
    Calls Tryz.prog 62 #[.agg #[.bool neg, .slice A xs.length ca, .slice B ys.length cb]] w (SayN w neg xs ys) := by
  have H := Lib.hid (h0.mono (Q := (· < w.heap.size)) fun _ _ h => h)
  clear h0
  go_enter Tryz.func62, Tryz.ntmps62
  go_upto_region 1 with fail
  have HB0 : Hid (Below w.heap.size w ((w.alloc (.cells #[.bool neg, .slice A xs.length ca, .slice B ys.length cb] 31)).alloc (.cells #[.bool false, .slice none 0 0, .slice none 0 0] 31))) := below2 _ _ _
  have HR0 : Hid (RatAt ((w.alloc (.cells #[.bool neg, .slice A xs.length ca, .slice B ys.length cb] 31)).alloc (.cells #[.bool false, .slice none 0 0, .slice none 0 0] 31)) w.heap.size 31 neg A xs.length ca B ys.length cb) := (RatAt.new _ _ _ _ _ _ _ _ _).alloc _
  have HR1 : Hid (RatAt ((w.alloc (.cells #[.bool neg, .slice A xs.length ca, .slice B ys.length cb] 31)).alloc (.cells #[.bool false, .slice none 0 0, .slice none 0 0] 31)) (w.heap.size + 1) 31 false none 0 0 none 0 0) := RatAt.new1 _ _ _ _ _ _ _ _ _ _
  generalize (w.alloc (.cells #[.bool neg, .slice A xs.length ca, .slice B ys.length cb] 31)).alloc (.cells #[.bool false, .slice none 0 0, .slice none 0 0] 31) = W at *
  have hs := HR1.out.lt
  have HRX := Lib.hid (H.out.below HB0.out)
  go_region_held3 (fun wx => wx.cell? ⟨w.heap.size, 0, none⟩ = some (.bool neg) ∧ wx.cell? ⟨w.heap.size, 1, none⟩ = some (.slice A xs.length ca) ∧ wx.cell? ⟨w.heap.size, 2, none⟩ = some (.slice B ys.length cb))
    (first | exact ⟨(HR0.out).c0, (HR0.out).c1, (HR0.out).c2⟩ | exact ⟨(HR0.out.alloc (.cells #[] 3)).c0, (HR0.out.alloc (.cells #[] 3)).c1, (HR0.out.alloc (.cells #[] 3)).c2⟩ | exact ⟨((HR0.out.alloc (.cells #[] 3)).alloc (.cells #[] 3)).c0, ((HR0.out.alloc (.cells #[] 3)).alloc (.cells #[] 3)).c1, ((HR0.out.alloc (.cells #[] 3)).alloc (.cells #[] 3)).c2⟩ | exact ⟨(HQ0.out).c0, (HQ0.out).c1, (HQ0.out).c2⟩ | exact ⟨(HQ0.out.alloc (.cells #[] 3)).c0, (HQ0.out.alloc (.cells #[] 3)).c1, (HQ0.out.alloc (.cells #[] 3)).c2⟩ | exact ⟨(HS0.out).c0, (HS0.out).c1, (HS0.out).c2⟩ | exact ⟨(HS0.out.grown (setAll_grown _ _ _ _ _) (by omega)).c0, (HS0.out.grown (setAll_grown _ _ _ _ _) (by omega)).c1, (HS0.out.grown (setAll_grown _ _ _ _ _) (by omega)).c2⟩)
    (first
      | (refine step_append_litN W.heap.size rfl (.tmp 5) (.tmp 7) 29 rfl 3 Tryz.underlying29 infoInt _ rfl (by first | exact HG1.out.1.size | exact Nat.le_refl _ | exact Nat.le_succ _) (by first | exact heap_alloc_new w1 _ | exact two_kept HGR.out _ (.inl rfl) (by simp) | exact two_kept HGR.out _ (.inr rfl) (by simp)) (· < w.heap.size) A _ ca xs rfl (by first | exact HRX.out.1.grew HG1.out | exact HRX.out.1.grew (HG1.out.alloc (Nat.le_refl _) (.cells #[] 3))) hx (by first | exact HG1.out.1.size | exact (HG1.out.alloc (Nat.le_refl _) (.cells #[] 3)).1.size) ?_; intro V2 d2 w2 rr2 gg2 gr2; have HFX := Lib.hid rr2; have HG2 : Hid (Grew W.heap.size W w2) := (by first | exact HG1.out.trans gg2 | exact (HG1.out.alloc (Nat.le_refl _) (.cells #[] 3)).trans gg2); have HFO := (by first | exact Lib.hid (HFY.out.grew gg2) | exact Lib.hid ((HFY.out.grew ((Grew.refl W.heap.size w1).alloc HG1.out.1.size (.cells #[] 3))).grew gg2)); have HS0 := Lib.hid (HR0.out.grew HG2.out); have HT1 := Lib.hid (HR1.out.grew HG2.out); have f0 := HT1.out.fz 0; have f1 := HT1.out.fz 1; have f2 := HT1.out.fz 2; have y0 := HT1.out.c0; have y1 := HT1.out.c1; have y2 := HT1.out.c2; clear rr2 gg2 gr2)
      | (refine step_append_litN W.heap.size rfl (.tmp 9) (.tmp 11) 29 rfl 3 Tryz.underlying29 infoInt _ rfl (by first | exact HG1.out.1.size | exact Nat.le_refl _ | exact Nat.le_succ _) (by first | exact heap_alloc_new w1 _ | exact two_kept HGR.out _ (.inl rfl) (by simp) | exact two_kept HGR.out _ (.inr rfl) (by simp)) (· < w.heap.size) B _ cb ys rfl (by first | exact HRX.out.2.grew HG1.out | exact HRX.out.2.grew (HG1.out.alloc (Nat.le_refl _) (.cells #[] 3))) hy (by first | exact HG1.out.1.size | exact (HG1.out.alloc (Nat.le_refl _) (.cells #[] 3)).1.size) ?_; intro V2 d2 w2 rr2 gg2 gr2; have HFY := Lib.hid rr2; have HG2 : Hid (Grew W.heap.size W w2) := (by first | exact HG1.out.trans gg2 | exact (HG1.out.alloc (Nat.le_refl _) (.cells #[] 3)).trans gg2); have HFO := (by first | exact Lib.hid (HFX.out.grew gg2) | exact Lib.hid ((HFX.out.grew ((Grew.refl W.heap.size w1).alloc HG1.out.1.size (.cells #[] 3))).grew gg2)); have HS0 := Lib.hid (HR0.out.grew HG2.out); have HT1 := Lib.hid (HR1.out.grew HG2.out); have f0 := HT1.out.fz 0; have f1 := HT1.out.fz 1; have f2 := HT1.out.fz 2; have y0 := HT1.out.c0; have y1 := HT1.out.c1; have y2 := HT1.out.c2; clear rr2 gg2 gr2)
      | (refine step_append_litN W.heap.size rfl (.tmp 5) (.tmp 7) 29 rfl 3 Tryz.underlying29 infoInt _ rfl (by first | exact Nat.le_refl _ | exact Nat.le_succ _) (by first | exact heap_alloc_new W.drew _ | exact two_empty W _ _ (.inl rfl) | exact two_empty W _ _ (.inr rfl)) (· < w.heap.size) A _ ca xs rfl (by first | exact HRX.out.1.grew (grew1 W W.heap.size (Nat.le_refl _) (.cells #[] 3)) | exact HRX.out.1.grew (grew2 W W.heap.size (Nat.le_refl _) (.cells #[] 3) (.cells #[] 3))) hx (by first | exact (grew1 W W.heap.size (Nat.le_refl _) (.cells #[] 3)).1.size | exact (grew2 W W.heap.size (Nat.le_refl _) (.cells #[] 3) (.cells #[] 3)).1.size) ?_; intro V1 d1 w1 rr1 gg1 gr1; have HFX := Lib.hid rr1; have HGR := Lib.hid gr1; have HG1 : Hid (Grew W.heap.size W w1) := (by first | exact (grew1 W W.heap.size (Nat.le_refl _) (.cells #[] 3)).trans gg1 | exact (grew2 W W.heap.size (Nat.le_refl _) (.cells #[] 3) (.cells #[] 3)).trans gg1); have HQ0 := Lib.hid (HR0.out.grew HG1.out); clear rr1 gg1 gr1)
      | (refine step_append_litN W.heap.size rfl (.tmp 9) (.tmp 11) 29 rfl 3 Tryz.underlying29 infoInt _ rfl (by first | exact Nat.le_refl _ | exact Nat.le_succ _) (by first | exact heap_alloc_new W.drew _ | exact two_empty W _ _ (.inl rfl) | exact two_empty W _ _ (.inr rfl)) (· < w.heap.size) B _ cb ys rfl (by first | exact HRX.out.2.grew (grew1 W W.heap.size (Nat.le_refl _) (.cells #[] 3)) | exact HRX.out.2.grew (grew2 W W.heap.size (Nat.le_refl _) (.cells #[] 3) (.cells #[] 3))) hy (by first | exact (grew1 W W.heap.size (Nat.le_refl _) (.cells #[] 3)).1.size | exact (grew2 W W.heap.size (Nat.le_refl _) (.cells #[] 3) (.cells #[] 3)).1.size) ?_; intro V1 d1 w1 rr1 gg1 gr1; have HFY := Lib.hid rr1; have HGR := Lib.hid gr1; have HG1 : Hid (Grew W.heap.size W w1) := (by first | exact (grew1 W W.heap.size (Nat.le_refl _) (.cells #[] 3)).trans gg1 | exact (grew2 W W.heap.size (Nat.le_refl _) (.cells #[] 3) (.cells #[] 3)).trans gg1); have HQ0 := Lib.hid (HR0.out.grew HG1.out); clear rr1 gg1 gr1))
  all_goals
    go_wp2
    have g2 := setAll_grown w2 (w.heap.size + 1) (.bool neg)
    refine bodyPost_ret (retR rfl _ _ _ rfl (HT1.out.setAll _ _ _ _ _ _ _)) rfl ?_
    refine ⟨_, _, _, _, rfl, ⟨?_, ?_⟩, below_grow (HB0.out.trans (HG2.out.1.mono HB0.out.size)) (by omega) (g2 _ _)⟩
    · first | exact (HFO.out.past HT1.out (g2 _ _)).mono fun _ h _ => Nat.le_trans HB0.out.size h | exact (HFX.out.past HT1.out (g2 _ _)).mono fun _ h _ => Nat.le_trans HB0.out.size h
    · first | exact (HFY.out.past HT1.out (g2 _ _)).mono fun _ h _ => Nat.le_trans HB0.out.size h | exact (HFO.out.past HT1.out (g2 _ _)).mono fun _ h _ => Nat.le_trans HB0.out.size h

end Go.Proofs.YtifepoefeamboaaGreatDoor
namespace Nt
open Go Go.RowKit
theorem take_map_snoc (qs : List Rat) (f : Rat → R3) (k : Nat) (h : k < qs.length) : (qs.take (k + 1)).map f = (qs.take k).map f ++ [f (qs.getD k 0)] := by
  rw [List.take_succ_eq_append_getElem h, List.map_append]
  simp [List.getD, h]
theorem cells3 (w : World) (t : TypeId) (x : Bool) (A : Option Addr) (n c : Nat) (B : Option Addr) (m d : Nat) : ∀ j u, [Value.bool x, .slice A n c, .slice B m d][j]? = some u → (w.alloc (.cells #[.bool x, .slice A n c, .slice B m d] t)).cell? ((⟨w.heap.size, 0, none⟩ : Addr).add j) = some u := by
  intro j u hj
  have h := RatAt.new w t x A B n c m d
  rw [add_none]
  match j, hj with
  | 0, hj => simp at hj; subst hj; exact h.c0
  | 1, hj => simp at hj; subst hj; exact h.c1
  | 2, hj => simp at hj; subst hj; exact h.c2
  | (k + 3), hj => simp at hj
theorem cells3b (w : World) (t : TypeId) (x : Bool) (A : Option Addr) (n c : Nat) (B : Option Addr) (m d H : Nat) (hH : w.heap.size = H) : ∀ j u, [Value.bool x, .slice A n c, .slice B m d][j]? = some u → (w.alloc (.cells #[.bool x, .slice A n c, .slice B m d] t)).cell? ((⟨H, 0, none⟩ : Addr).add j) = some u := by
  subst hH
  exact cells3 w t x A n c B m d
/-- a vector's answer: what is too long is told -/
def fV (ps : List Rat) : List R3 := if ps.all (fun p => decide (fitQ p)) then ps.map rat3 else []
def fVK (ps : List Rat) : Int := if ps.all (fun p => decide (fitQ p)) then 0 else 7
theorem fV_no {ps : List Rat} {k : Nat} (hk : k < ps.length) (h : ¬ fitQ (ps.getD k 0)) : fV ps = [] ∧ fVK ps = 7 := by
  have e : ps.all (fun p => decide (fitQ p)) = false := by
    rw [Bool.eq_false_iff]
    intro ha
    rw [List.all_eq_true] at ha
    have e : ps.getD k 0 = ps[k] := by simp [List.getD, hk]
    rw [e] at h
    exact h (of_decide_eq_true (ha _ (List.getElem_mem hk)))
  unfold fV fVK
  rw [e]
  exact ⟨rfl, rfl⟩
theorem fV_yes {ps : List Rat} (h : ∀ j, j < ps.length → fitQ (ps.getD j 0)) : fV ps = ps.map rat3 ∧ fVK ps = 0 := by
  have e : ps.all (fun p => decide (fitQ p)) = true := by
    rw [List.all_eq_true]
    intro p hp
    obtain ⟨i, hi, rfl⟩ := List.mem_iff_getElem.1 hp
    have := h i hi
    rw [show ps.getD i 0 = ps[i] from by simp [List.getD, hi]] at this
    exact decide_eq_true this
  unfold fV fVK
  rw [e]
  exact ⟨rfl, rfl⟩
/-- a vector of the call's own, and a code -/
def RetVC (tr ti : TypeId) (w : World) (rs : List R3) (code : Int) (e : Ending) (w' : World) : Prop :=
  ∃ V d L, e = .returned (.tuple #[.slice V rs.length d, .int .i64 code]) ∧ OwnV tr ti w' w.heap.size V rs.length d L ∧ L.map EV.v3 = rs ∧ Below w.heap.size w w'
/-- a vector that can be read, and a code -/
def SayVC (w : World) (rs : List R3) (code : Int) (e : Ending) (w' : World) : Prop :=
  ∃ V d, e = .returned (.tuple #[.slice V rs.length d, .int .i64 code]) ∧ RdS w' (fun _ => True) V rs.length d rs ∧ Below w.heap.size w w'
theorem one3 (x : Bool) (A : Option Addr) (n c : Nat) (B : Option Addr) (m d : Nat) : ∀ u ∈ [Value.bool x, .slice A n c, .slice B m d], u.oneCell' = true := by
  intro u hu
  simp at hu
  rcases hu with rfl | rfl | rfl <;> rfl
/-- elements that can be read beside a row of the call's own -/
def PartsRd (w : World) (V : Option Addr) (L : List EV) : Prop := ∀ i, i < L.length → RdR w (fun b => V ≠ some ⟨b, 0, none⟩) (L.getD i e0).xs (L.getD i e0).ys (L.getD i e0).A (L.getD i e0).ca (L.getD i e0).B (L.getD i e0).cb
theorem PartsRd.on {w w' : World} {V : Option Addr} {L : List EV} (h : PartsRd w V L) (hb : Below w.heap.size w w') : PartsRd w' V L := fun i hi => (h i hi).on hb
theorem PartsRd.snoc {w : World} {V : Option Addr} {L : List EV} {r : EV} (h : PartsRd w V L) (hr : RdR w (fun b => V ≠ some ⟨b, 0, none⟩) r.xs r.ys r.A r.ca r.B r.cb) : PartsRd w V (L ++ [r]) := by
  intro i hi
  by_cases e : i < L.length
  · rw [getD_snoc_lt L r i e]; exact h i e
  · obtain rfl : i = L.length := by simp at hi; omega
    rw [getD_snoc_eq]; exact hr
theorem PartsRd.appended {w w' : World} {base k cv g tr : Nat} {V : Option Addr} {vs : List Value} {L : List EV} (h : PartsRd w V L) (ho : w.ownsRow base tr 3 (.slice V k cv) k vs) (hg : w.grownBy w' (Value.slice V k cv).ownBlock) (hat : (Value.slice V k cv).ownBlock = some g ∨ g = w.heap.size) : PartsRd w' (some ⟨g, 0, none⟩) L :=
  fun i hi => (h i hi).appended ho hg hat
theorem row_ne {w : World} {base k cv tr N : Nat} {V : Option Addr} {vs : List Value} (ho : w.ownsRow base tr 3 (.slice V k cv) k vs) (hN : w.heap.size ≤ N) : ∀ b, N ≤ b → V ≠ some ⟨b, 0, none⟩ := by
  rintro b hb rfl
  have := (ho.lt b rfl).2
  omega
theorem PartsRd.rds {w : World} {base n c tr : Nat} {V : Option Addr} {L : List EV} (h : PartsRd w V L) (ho : w.ownsRow base tr 3 (.slice V n c) n (flat L)) : RdS w (fun _ => True) V n c (L.map EV.v3) :=
  rds_of ho _ (fun _ _ => trivial) fun i hi => (h i hi).mono fun _ _ _ => trivial
end Nt
namespace Go.Proofs.YtifepoefeamboaaGreatDoor
open Go Go.RowKit Nt

set_option maxHeartbeats 3200000 in
theorem fittedVec_any (ps : List Rat) (X : Option Addr) (n c : Nat) (P' : Nat → Prop) (w : World) (hx : RdS w P' X n c (ps.map rat3)) (hl : ∀ p ∈ ps, (D (nu p)).length ≤ 16777216 ∧ (D p.den).length ≤ 16777216) (hn : n ≤ 100) :
    Calls Tryz.prog 78 #[.slice X n c] w (RetVC 31 3 w (fV ps) (fVK ps)) := by
  have HX := Lib.hid hx.low
  have HQ := Lib.hid hl
  have HL : Hid (ps.length = n) := by have := hx.len; rw [List.length_map] at this; exact this
  clear hx hl
  go_enter Tryz.func78, Tryz.ntmps78
  go_wp2
  go_loopw [4, 11] (fun v i wr => ∃ (k : Nat) (V : Option Addr) (cv : Nat) (L : List EV), k ≤ n ∧ i = .int .i64 k ∧ v = .slice V k cv ∧ Hid (∀ j, j < k → fitQ (ps.getD j 0)) ∧ Hid (L.map EV.v3 = (ps.take k).map rat3) ∧ Hid (wr.ownsRow w.heap.size 31 3 (.slice V k cv) k (flat L)) ∧ Hid (Parts 3 wr w.heap.size L) ∧ Hid (Below w.heap.size w wr)) (fun _ i _ => n - (intOf i).toNat)
  case atStart => exact ⟨0, none, 0, [], Nat.zero_le _, rfl, rfl, Lib.hid (fun j hj => by omega), Lib.hid rfl, Lib.hid (World.ownsRow_nil _ _ _ _), Lib.hid ⟨fun i hi => by simp at hi, fun i j _ hj => by simp at hj⟩, Lib.hid (Below.refl _ _)⟩
  case round =>
    obtain ⟨k, V, cv, L, hk, rfl, rfl, HFt, HV, HO, HP, HB⟩ := hrel
    by_cases hlt : k < n
    · obtain ⟨b, o, rfl, hP, _, hc⟩ := HX.out.at_ (by omega)
      obtain ⟨Ai, da, Bi, db, q0, q1, q2, hrd⟩ := hc k hlt
      have hkq : k < ps.length := by rw [HL.out]; exact hlt
      rw [getD_rat ps k hkq] at q0 q1 q2 hrd
      have c0 := (HB.out.cell (p := ⟨b, o + k * 3, none⟩) hP).trans q0
      have c1 := (HB.out.cell (p := ⟨b, o + k * 3 + 1, none⟩) hP).trans q1
      have c2 := (HB.out.cell (p := ⟨b, o + k * 3 + 2, none⟩) hP).trans q2
      have HTK := Lib.hid (take_map_snoc ps rat3 k hkq)
      have hfin : (D (nu (ps.getD k 0))).length ≤ 16777216 ∧ (D (ps.getD k 0).den).length ≤ 16777216 := HQ.out _ (by rw [show ps.getD k 0 = ps[k] from by simp [List.getD, hkq]]; exact List.getElem_mem hkq)
      have HRD := Lib.hid hrd
      have hkN : (k : Int) < n := by omega
      have HYES : Hid (fitQ (ps.getD k 0) → ∀ j, j < k + 1 → fitQ (ps.getD j 0)) := fun h j hj => by
        by_cases e : j = k
        · subst e; exact h
        · exact HFt.out j (by omega)
      have HNO : Hid (¬ fitQ (ps.getD k 0) → fV ps = [] ∧ fVK ps = 7) := fun h => fV_no hkq h
      clear q0 q1 q2 hc hrd hkq
      generalize ps.getD k 0 = p at *
      simp only [rat3] at c0 c1 c2
      have hbs := HB.out.size
      go_wp2_with fail
      refine calls_at (fun W => Below wr.heap.size wr W ∧ W.heap.size = wr.heap.size + 1) ⟨below1 _ _, by simp⟩ ?_
      rintro W ⟨bW, sW⟩
      have HBW1 := Lib.hid (below_on HB.out bW)
      refine (fitted_any p Ai Bi da db _ W (RdR.below HRD.out HBW1.out) hfin.1 hfin.2).mono ?_
      rintro e w1 ⟨A1, c1', B1, d1, rfl, o1, b1⟩
      have bWw := below_on bW b1
      have HB1 := Lib.hid (below_on HBW1.out b1)
      have hs1 : wr.heap.size + 1 ≤ w1.heap.size := by have := b1.size; omega
      by_cases hf : fitQ p
      · have e1 : fN p = isNeg p := by unfold fN; rw [if_pos hf]
        have e2 : fX p = D (nu p) := by unfold fX; rw [if_pos hf]
        have e3 : fY p = D p.den := by unfold fY; rw [if_pos hf]
        have e4 : fK p = 0 := by unfold fK; rw [if_pos hf]
        rw [e2, e3] at o1
        rw [e1, e2, e3, e4]
        have HO1 := Lib.hid (own_keep3 HO.out bWw)
        have HN1 : Hid (OwnE 3 w1 W.heap.size (EV.mk (isNeg p) A1 c1' B1 d1 (D (nu p)) (D p.den))) := o1
        have HP1 : Hid (Parts 3 w1 w.heap.size (L ++ [EV.mk (isNeg p) A1 c1' B1 d1 (D (nu p)) (D p.den)])) :=
          parts_snoc (fun i hi => (HP.out.1 i hi).on bWw) HP.out.2 (fun i hi g hg => by have := OwnR.lt (HP.out.1 i hi) g hg; omega) HN1.out (by omega)
        have HV1 : Hid ((L ++ [EV.mk (isNeg p) A1 c1' B1 d1 (D (nu p)) (D p.den)]).map EV.v3 = (ps.take (k + 1)).map rat3) := by
          show _ = _
          rw [List.map_append, HV.out, HTK.out]
          rfl
        have HFt1 := Lib.hid (HYES.out hf)
        clear o1 b1 bW bWw HBW1 HN1 HP HV HTK HO c0 c1 c2 HRD HYES HNO HFt e1 e2 e3 e4 hf
        obtain ⟨i0, hi0, hz0, hz1, hz2⟩ := info_parts infoRat
        go_wp2_with (at_builtin; refine wpList_append_lies _ rfl _ _ 27 rfl w.heap.size 31 i0 _ 3 56 Tryz.underlying27 hi0 hz0 hz1 hz2 rfl (by decide) _ k _ rfl ((HO1.out.alloc _).alloc _) ⟨w1.heap.size + 1, 0, none⟩ 1 1 [.bool (isNeg p), .slice A1 (D (nu p)).length c1', .slice B1 (D p.den).length d1] rfl rfl (cells3b _ _ _ _ _ _ _ _ _ _ (by simp)) (one3 _ _ _ _ _ _ _) (by decide) (by unfold maxLen; omega) (by omega) (by simp; omega) _ rfl ?_; intro g' cv' w2 hown hgrow hat hlt2)
        have hlit := below_on (below1 w1 (.cells #[.bool (isNeg p), .slice A1 (D (nu p)).length c1', .slice B1 (D p.den).length d1] 31)) (below1 _ (.cells #[.bool (isNeg p), .slice A1 (D (nu p)).length c1', .slice B1 (D p.den).length d1] 31))
        have HO2 : Hid (w2.ownsRow w.heap.size 31 3 (.slice (some ⟨g', 0, none⟩) (k + 1) cv') (k + 1) (flat (L ++ [EV.mk (isNeg p) A1 c1' B1 d1 (D (nu p)) (D p.den)]))) := by rw [flat_snoc]; exact hown
        have HP2 : Hid (Parts 3 w2 w.heap.size (L ++ [EV.mk (isNeg p) A1 c1' B1 d1 (D (nu p)) (D p.den)])) := ⟨fun i hi => ((HP1.out.1 i hi).on hlit).appended (by decide) ((HO1.out.alloc _).alloc _) hgrow, HP1.out.2⟩
        have HB2 := Lib.hid ((below_on HB1.out hlit).trans (rowed3_below ((HO1.out.alloc _).alloc _) (by simp; omega) hgrow))
        clear hown hgrow hat hlt2 hlit HP1 HO1 HB1
        go_wp2
        go_roundw
        case rel => exact ⟨k + 1, _, _, _, by omega, by go_num, rfl, HFt1, HV1, HO2, HP2, HB2⟩
        case measure => simp [intOf]; omega
      · have e4 : fK p = 7 := by unfold fK; rw [if_neg hf]
        rw [e4]
        have HE := Lib.hid (HNO.out hf)
        generalize fX p = xs' at *
        generalize fY p = ys' at *
        generalize fN p = n' at *
        have HBL := Lib.hid (below_on HB1.out (below1 w1 (.cells #[.bool n', .slice A1 xs'.length c1', .slice B1 ys'.length d1] 31)))
        clear o1 b1 bW bWw HBW1 HP HV HTK HO c0 c1 c2 HRD HYES HNO HFt e4 hf HB1
        go_wp2
        go_ret2
        rw [HE.out.1, HE.out.2]
        exact ⟨none, 0, [], rfl, ⟨World.ownsRow_nil _ _ _ _, fun i hi => by simp at hi, fun i j _ hj => by simp at hj⟩, rfl, HBL.out⟩
    · obtain rfl : k = n := by omega
      have HF : Hid (fV ps = ps.map rat3 ∧ fVK ps = 0) := fV_yes fun j hj => HFt.out j (by have := HL.out; omega)
      have HV' : Hid (L.map EV.v3 = ps.map rat3) := by
        show _ = _
        rw [HV.out, List.take_of_length_le (by rw [HL.out]; exact Nat.le_refl _)]
      clear HV HFt
      go_wp2
      go_ret2
      rw [HF.out.1, HF.out.2]
      refine ⟨V, cv, L, ?_, ?_, HV'.out, HB.out⟩
      · rw [List.length_map, HL.out]; rfl
      · rw [List.length_map, HL.out]; exact ⟨HO.out, HP.out.1, HP.out.2⟩
end Go.Proofs.YtifepoefeamboaaGreatDoor
namespace Nt
open Go Go.RowKit
theorem JAt.keep {tF tM : TypeId} {w w' : World} {P : Nat → Prop} (hs : w.heap.size ≤ w'.heap.size) (hk : ∀ b, P b → b < w.heap.size → w'.heap[b]? = w.heap[b]?) : ∀ {j : Jt} {v : Value}, JAt tF tM w P j v → JAt tF tM w' P j v
  | .fx _, _, ⟨A, ca, B, cb, e, h⟩ => ⟨A, ca, B, cb, e, h.keep hs hk⟩
  | .mv _ _, _, ⟨va, vs, e, h1, h2⟩ => ⟨va, vs, e, JAt.keep hs hk h1, JAt.keep hs hk h2⟩
theorem row_form {w : World} {base k cv g tr sz : Nat} {V : Option Addr} {vs : List Value} (ho : w.ownsRow base tr sz (.slice V k cv) k vs) (hb : (Value.slice V k cv).ownBlock = some g) : V = some ⟨g, 0, none⟩ := by
  rcases ho.2 with ⟨e, _⟩ | ⟨g', cap, cur, e, _⟩
  · injection e with e; subst e; cases hb
  · injection e with e; subst e; simp [Value.ownBlock] at hb; rw [hb]
/-- a jet's numbers lie elsewhere than the row that grows -/
theorem JAt.appended {tF tM : TypeId} {w w' : World} {base k cv g tr sz : Nat} {V : Option Addr} {vs : List Value} {j : Jt} {v : Value} (h : JAt tF tM w (fun b => V ≠ some ⟨b, 0, none⟩) j v) (ho : w.ownsRow base tr sz (.slice V k cv) k vs)
    (hg : w.grownBy w' (Value.slice V k cv).ownBlock) (hat : (Value.slice V k cv).ownBlock = some g ∨ g = w.heap.size) : JAt tF tM w' (fun b => some (⟨g, 0, none⟩ : Addr) ≠ some ⟨b, 0, none⟩) j v := by
  have h2 := h.mono (Q := fun b => V ≠ some ⟨b, 0, none⟩ ∧ some (⟨g, 0, none⟩ : Addr) ≠ some ⟨b, 0, none⟩) (fun b hb hl => ⟨hb, fun e => by
    injection e with e
    injection e with e
    subst e
    rcases hat with hat | hat
    · exact hb (row_form ho hat)
    · omega⟩)
  exact (h2.keep hg.size fun b hb hl => hg.block b hl (fun e => hb.1 (row_form ho e.symm))).mono fun b hb _ => hb.2
theorem row_at1 {w : World} {base n c tr sz : Nat} {V : Option Addr} {xs : List Value} (h : w.ownsRow base tr sz (.slice V n c) n xs) (hn : 0 < n) : ∃ g, V = some ⟨g, 0, none⟩ ∧ base ≤ g ∧ g < w.heap.size ∧ n ≤ c := by
  rcases h.2 with ⟨e, h0⟩ | ⟨g, cap, cur, e', hb, hh, hc, _⟩
  · omega
  · injection e' with e1 e2 e3
    have := h.lt g (by rw [e1]; rfl)
    exact ⟨g, e1, hb, this.2, by omega⟩
/-- jets that can be read, beside a row of the call's own -/
def PartsJ (tF tM : TypeId) (w : World) (V : Option Addr) (js : List Jt) (vs : List Value) : Prop :=
  js.length = vs.length ∧ ∀ i, i < vs.length → ∃ t x, vs.getD i .nilIface = .iface t x ∧ JAt tF tM w (fun b => V ≠ some ⟨b, 0, none⟩) (js.getD i j0) (.iface t x)
section
variable {tF tM : TypeId} {w w' : World} {V : Option Addr} {js : List Jt} {vs : List Value}
theorem PartsJ.nil (tF tM : TypeId) (w : World) (V : Option Addr) : PartsJ tF tM w V [] [] := ⟨rfl, fun i hi => by simp at hi⟩
theorem PartsJ.on (h : PartsJ tF tM w V js vs) (hb : Below w.heap.size w w') : PartsJ tF tM w' V js vs := ⟨h.1, fun i hi => by
  obtain ⟨t, x, e, hj⟩ := h.2 i hi
  exact ⟨t, x, e, hj.on hb⟩⟩
theorem getDJ_snoc (js : List Jt) (j : Jt) (i : Nat) (h : i < js.length) : (js ++ [j]).getD i j0 = js.getD i j0 := by simp [List.getD, List.getElem?_append_left h]
theorem getDJ_last (js : List Jt) (j : Jt) : (js ++ [j]).getD js.length j0 = j := by simp [List.getD]
theorem getDV_snoc (vs : List Value) (v : Value) (i : Nat) (h : i < vs.length) : (vs ++ [v]).getD i .nilIface = vs.getD i .nilIface := by simp [List.getD, List.getElem?_append_left h]
theorem getDV_last (vs : List Value) (v : Value) : (vs ++ [v]).getD vs.length .nilIface = v := by simp [List.getD]
theorem PartsJ.snoc {j : Jt} {t : TypeId} {x : Value} (h : PartsJ tF tM w V js vs) (hj : JAt tF tM w (fun b => V ≠ some ⟨b, 0, none⟩) j (.iface t x)) : PartsJ tF tM w V (js ++ [j]) (vs ++ [.iface t x]) := by
  refine ⟨by simp [h.1], fun i hi => ?_⟩
  by_cases e : i < vs.length
  · rw [getDV_snoc _ _ _ e, getDJ_snoc _ _ _ (by rw [h.1]; exact e)]; exact h.2 i e
  · obtain rfl : i = vs.length := by simp at hi; omega
    refine ⟨t, x, getDV_last _ _, ?_⟩
    rw [← h.1, getDJ_last]; exact hj
theorem PartsJ.appended {base k cv g tr sz : Nat} {us : List Value} (h : PartsJ tF tM w V js vs) (ho : w.ownsRow base tr sz (.slice V k cv) k us) (hg : w.grownBy w' (Value.slice V k cv).ownBlock) (hat : (Value.slice V k cv).ownBlock = some g ∨ g = w.heap.size) : PartsJ tF tM w' (some ⟨g, 0, none⟩) js vs :=
  ⟨h.1, fun i hi => by
    obtain ⟨t, x, e, hj⟩ := h.2 i hi
    exact ⟨t, x, e, hj.appended ho hg hat⟩⟩
/-- the slice reads as the jets js -/
def RdJ (tF tM : TypeId) (w : World) (A : Option Addr) (n c : Nat) (js : List Jt) : Prop :=
  js.length = n ∧ n ≤ c ∧ (0 < n → ∃ b o, A = some ⟨b, o, none⟩ ∧ b < w.heap.size ∧ ∀ i, i < n → ∃ t x, w.cell? ⟨b, o + i, none⟩ = some (.iface t x) ∧ JAt tF tM w (fun _ => True) (js.getD i j0) (.iface t x))
theorem RdJ.on {A : Option Addr} {n c : Nat} (h : RdJ tF tM w A n c js) (hb : Below w.heap.size w w') : RdJ tF tM w' A n c js :=
  ⟨h.1, h.2.1, fun hn => by
    obtain ⟨b, o, e, hl, hc⟩ := h.2.2 hn
    refine ⟨b, o, e, Nat.lt_of_lt_of_le hl hb.size, fun i hi => ?_⟩
    obtain ⟨t, x, h1, h2⟩ := hc i hi
    exact ⟨t, x, (World.cell?_of_block (a := ⟨b, o + i, none⟩) (hb.block _ hl)).trans h1, h2.on hb⟩⟩
theorem PartsJ.rdj {base n c tr : Nat} (h : PartsJ tF tM w V js vs) (ho : w.ownsRow base tr 1 (.slice V n c) n vs) : RdJ tF tM w V n c js := by
  have hl : vs.length = n := by have := ho.1; omega
  refine ⟨by rw [h.1, hl], ?_, fun hn => ?_⟩
  · rcases ho.2 with ⟨e, h0⟩ | ⟨g, cap, cur, e', hb, hh, hc, _⟩
    · omega
    · injection e' with e1 e2 e3
      omega
  · obtain ⟨g, rfl, hb, hlt, _⟩ := row_at1 ho hn
    refine ⟨g, 0, rfl, hlt, fun i hi => ?_⟩
    obtain ⟨t, x, e, hj⟩ := h.2 i (by omega)
    refine ⟨t, x, ?_, hj.mono fun _ _ _ => trivial⟩
    rw [Nat.zero_add]
    have e2 : vs[i]? = some (.iface t x) := by
      rw [← e]; simp [List.getD, hl, hi]
    exact (ho.cellAt i (by omega)).trans e2
end
theorem oneJ (t : TypeId) (x : Value) : ∀ u ∈ [Value.iface t x], u.oneCell' = true := by
  intro u hu
  simp at hu
  subst hu; rfl
theorem cellJ (w : World) (t : TypeId) (v : Value) : ∀ j u, [v][j]? = some u → (w.alloc (.cells #[v] t)).cell? ((⟨w.heap.size, 0, none⟩ : Addr).add j) = some u := by
  intro j u hj
  rw [add_none]
  match j, hj with
  | 0, hj => simp at hj; subst hj; rw [cell_of_row _ _ 0 _ _ (0, 0) (heap_alloc_new w _)]; rfl
  | (k + 1), hj => simp at hj
/-- as a row's new neighbour is made ahead of it -/
theorem row1_below {w w' : World} {base : Nat} {te : TypeId} {sz : Nat} {V : Option Addr} {n c : Nat} {xs : List Value} (ho : w.ownsRow base te sz (.slice V n c) n xs) (hb : base ≤ w.heap.size) (hg : w.grownBy w' (Value.slice V n c).ownBlock) : Below base w w' :=
  ⟨hg.os, hg.tape, hg.output, hg.size, fun k hk => hg.block k (by omega) (fun e => by have := (ho.lt _ e.symm).1; omega)⟩
theorem own_keep1 {w w' : World} {base : Nat} {te : TypeId} {sz : Nat} {V : Option Addr} {n c : Nat} {xs : List Value} (ho : w.ownsRow base te sz (.slice V n c) n xs) (hb : Below w.heap.size w w') : w'.ownsRow base te sz (.slice V n c) n xs := own_keep3 ho hb
end Nt
namespace Nt
/-- the children lie ahead of place k -/
def behind (x : Nd) (k : Int) : Bool := (!(two x.1 || one x.1) || (decide (0 ≤ x.2.1) && decide (x.2.1 < k))) && (!two x.1 || (decide (0 ≤ x.2.2.1) && decide (x.2.2.1 < k)))
def stepN (x : Nd) (k : Int) : Bool := fitN x && behind x k
/-- no two of the first m are alike -/
def Lone (ns : List Nd) (m : Nat) : Prop := ∀ i, i < m → ∀ j, j < i → ns.getD j nd0 ≠ ns.getD i nd0
instance (ns : List Nd) (m : Nat) : Decidable (Lone ns m) := inferInstanceAs (Decidable (∀ i, i < m → ∀ j, j < i → ns.getD j nd0 ≠ ns.getD i nd0))
def AllSt (ns : List Nd) (m : Nat) : Prop := ∀ i, i < m → stepN (ns.getD i nd0) i = true
instance (ns : List Nd) (m : Nat) : Decidable (AllSt ns m) := inferInstanceAs (Decidable (∀ i, i < m → stepN (ns.getD i nd0) i = true))
def okTp (ns : List Nd) (o : Int) : Bool := decide (1 ≤ ns.length) && decide (ns.length ≤ 60) && decide (o = (ns.length : Int) - 1) && decide (AllSt ns ns.length) && decide (Lone ns ns.length)
theorem okTp_out {ns : List Nd} {o : Int} (h : okTp ns o = true) : 1 ≤ ns.length ∧ ns.length ≤ 60 ∧ o = (ns.length : Int) - 1 ∧ AllSt ns ns.length ∧ Lone ns ns.length := by
  unfold okTp at h
  simp only [Bool.and_eq_true, decide_eq_true_eq] at h
  exact ⟨h.1.1.1.1, h.1.1.1.2, h.1.1.2, h.1.2, h.2⟩
theorem okTp_len {ns : List Nd} {o : Int} (h : ns.length < 1 ∨ 60 < ns.length ∨ o ≠ (ns.length : Int) - 1) : okTp ns o = false := by
  cases e : okTp ns o with
  | false => rfl
  | true => have := okTp_out e; omega
theorem okTp_step {ns : List Nd} {o : Int} {k : Nat} (hk : k < ns.length) (h : stepN (ns.getD k nd0) k = false) : okTp ns o = false := by
  cases e : okTp ns o with
  | false => rfl
  | true => have := (okTp_out e).2.2.2.1 k hk; rw [h] at this; cases this
theorem okTp_twice {ns : List Nd} {o : Int} {k j : Nat} (hk : k < ns.length) (hj : j < k) (h : ns.getD j nd0 = ns.getD k nd0) : okTp ns o = false := by
  cases e : okTp ns o with
  | false => rfl
  | true => exact absurd h ((okTp_out e).2.2.2.2 k hk j hj)
theorem okTp_yes {ns : List Nd} {o : Int} (h1 : 1 ≤ ns.length) (h60 : ns.length ≤ 60) (ho : o = (ns.length : Int) - 1) (ha : AllSt ns ns.length) (hl : Lone ns ns.length) : okTp ns o = true := by
  unfold okTp
  simp only [Bool.and_eq_true, decide_eq_true_eq]
  exact ⟨⟨⟨⟨h1, h60⟩, ho⟩, ha⟩, hl⟩
/-- where x is among the first m, or -1 -/
def findN (ns : List Nd) (x : Nd) : Nat → Int
  | 0 => -1
  | m + 1 => if 0 ≤ findN ns x m then findN ns x m else if ns.getD m nd0 = x then (m : Int) else -1
theorem findN_miss {ns : List Nd} {x : Nd} : ∀ m, (∀ j, j < m → ns.getD j nd0 ≠ x) → findN ns x m = -1
  | 0, _ => rfl
  | m + 1, h => by
    unfold findN
    rw [findN_miss m fun j hj => h j (by omega), if_neg (by omega), if_neg (h m (by omega))]
theorem findN_hit {ns : List Nd} {x : Nd} {k : Nat} (h : ns.getD k nd0 = x) (hn : ∀ j, j < k → ns.getD j nd0 ≠ x) : ∀ m, k < m → findN ns x m = (k : Int)
  | 0, hk => by omega
  | m + 1, hk => by
    unfold findN
    by_cases e : k = m
    · subst e
      rw [findN_miss k hn, if_neg (by omega), if_pos h]
    · rw [findN_hit h hn m (by omega), if_pos (by omega)]
theorem findN_cases (ns : List Nd) (x : Nd) : ∀ m, (findN ns x m = -1 ∧ ∀ j, j < m → ns.getD j nd0 ≠ x) ∨ (∃ k : Nat, k < m ∧ findN ns x m = (k : Int) ∧ ns.getD k nd0 = x)
  | 0 => .inl ⟨rfl, fun j hj => by omega⟩
  | m + 1 => by
    unfold findN
    rcases findN_cases ns x m with ⟨h1, h2⟩ | ⟨k, hk, h1, h2⟩
    · rw [h1, if_neg (by omega)]
      by_cases e : ns.getD m nd0 = x
      · exact .inr ⟨m, by omega, by rw [if_pos e], e⟩
      · refine .inl ⟨by rw [if_neg e], fun j hj => ?_⟩
        by_cases q : j = m
        · subst q; exact e
        · exact h2 j (by omega)
    · exact .inr ⟨k, by omega, by rw [h1, if_pos (by omega)], h2⟩
theorem findN_ext {ns ms : List Nd} {x : Nd} : ∀ m, (∀ j, j < m → ns.getD j nd0 = ms.getD j nd0) → findN ns x m = findN ms x m
  | 0, _ => rfl
  | m + 1, h => by unfold findN; rw [findN_ext m fun j hj => h j (by omega), h m (by omega)]
/-- a node with its children's steps -/
def wired (at_ : List Int) (x : Nd) : Nd := (x.1, if two x.1 || one x.1 then at_.getD x.2.1.toNat 0 else x.2.1, if two x.1 then at_.getD x.2.2.1.toNat 0 else x.2.2.1, x.2.2.2)
def cstep (S : List Nd × List Int) (x : Nd) : List Nd × List Int :=
  if findN S.1 (wired S.2 x) S.1.length < 0 then (S.1 ++ [wired S.2 x], S.2 ++ [(S.1.length : Int)]) else (S.1, S.2 ++ [findN S.1 (wired S.2 x) S.1.length])
def comp (ns : List Nd) : List Nd × List Int := ns.foldl cstep ([], [])
theorem comp_take (ns : List Nd) (k : Nat) (h : k < ns.length) : comp (ns.take (k + 1)) = cstep (comp (ns.take k)) (ns.getD k nd0) := by
  rw [takeN_snoc ns k h]
  unfold comp
  rw [List.foldl_append]
  rfl
theorem getDI_app (az bs : List Int) (j : Nat) (h : j < az.length) : (az ++ bs).getD j 0 = az.getD j 0 := by simp [List.getD, List.getElem?_append_left h]
/-- what is true when k nodes are over -/
structure CompOK (ns : List Nd) (k : Nat) : Prop where
  len2 : (comp (ns.take k)).2.length = k
  len1 : (comp (ns.take k)).1.length ≤ k
  some_ : 1 ≤ k → 1 ≤ (comp (ns.take k)).1.length
  at_ : ∀ j, j < k → 0 ≤ (comp (ns.take k)).2.getD j 0 ∧ (comp (ns.take k)).2.getD j 0 < (comp (ns.take k)).1.length
theorem comp_ok (ns : List Nd) : ∀ k, k ≤ ns.length → CompOK ns k
  | 0, _ => ⟨rfl, Nat.le_refl _, fun h => by omega, fun j hj => by omega⟩
  | k + 1, hk => by
    have ih := comp_ok ns k (by omega)
    have e := comp_take ns k (by omega)
    obtain ⟨i1, i2, i3, i4⟩ := ih
    generalize hS : comp (ns.take k) = S at *
    obtain ⟨ss, az⟩ := S
    generalize ns.getD k nd0 = x at *
    dsimp only at i1 i2 i3 i4
    unfold cstep at e
    dsimp only at e
    rcases findN_cases ss (wired az x) ss.length with ⟨h1, _⟩ | ⟨j, hj, h1, _⟩
    · rw [h1, if_pos (by omega)] at e
      refine ⟨by rw [e]; simp [i1], by rw [e]; simp; omega, fun _ => by rw [e]; simp, fun j hj => ?_⟩
      rw [e]
      dsimp only
      by_cases q : j < k
      · rw [getDI_app _ _ _ (by omega)]
        have := i4 j q
        rw [List.length_append]
        exact ⟨this.1, by show az.getD j 0 < ((ss.length + 1 : Nat) : Int); omega⟩
      · obtain rfl : j = az.length := by omega
        simp [List.getD]
        omega
    · rw [h1, if_neg (by omega)] at e
      refine ⟨by rw [e]; simp [i1], by rw [e]; show ss.length ≤ _; omega, fun _ => by rw [e]; show 1 ≤ ss.length; omega, fun i hi => ?_⟩
      rw [e]
      dsimp only
      by_cases q : i < k
      · rw [getDI_app _ _ _ (by omega)]
        exact i4 i q
      · obtain rfl : i = az.length := by omega
        simp [List.getD]
        omega
/-- of steps that are right and no two alike come they themselves -/
theorem wired_same {ns : List Nd} {k : Nat} {az : List Int} (hs : stepN (ns.getD k nd0) k = true) (ha : ∀ j, j < k → az.getD j 0 = (j : Int)) : wired az (ns.getD k nd0) = ns.getD k nd0 := by
  generalize ns.getD k nd0 = x at *
  obtain ⟨op, a, b, n⟩ := x
  unfold stepN behind at hs
  simp only [Bool.and_eq_true, Bool.or_eq_true, Bool.not_eq_true', decide_eq_true_eq] at hs
  unfold wired
  dsimp only at hs ⊢
  have e1 : (if (two op || one op) = true then az.getD a.toNat 0 else a) = a := by
    by_cases h : (two op || one op) = true
    · rw [if_pos h]
      rcases hs.2.1 with h' | h'
      · rw [h] at h'; cases h'
      · rw [ha a.toNat (by omega)]; omega
    · rw [if_neg h]
  have e2 : (if two op = true then az.getD b.toNat 0 else b) = b := by
    by_cases h : two op = true
    · rw [if_pos h]
      rcases hs.2.2 with h' | h'
      · rw [h] at h'; cases h'
      · rw [ha b.toNat (by omega)]; omega
    · rw [if_neg h]
  rw [e1, e2]
theorem getDN_take (ns : List Nd) (k j : Nat) (h : j < k) : (ns.take k).getD j nd0 = ns.getD j nd0 := by
  simp [List.getD, h]
theorem comp_same {ns : List Nd} : ∀ k, k ≤ ns.length → AllSt ns k → Lone ns k → (comp (ns.take k)).1 = ns.take k ∧ ∀ j, j < k → (comp (ns.take k)).2.getD j 0 = (j : Int)
  | 0, _, _, _ => ⟨by simp [comp], fun j hj => by omega⟩
  | k + 1, hk, ha, hl => by
    obtain ⟨i1, i2⟩ := comp_same k (by omega) (fun i hi => ha i (by omega)) (fun i hi => hl i (by omega))
    have l2 := (comp_ok ns k (by omega)).len2
    have e := comp_take ns k (by omega)
    have hw := wired_same (ns := ns) (k := k) (ha k (by omega)) i2
    have hmiss : findN (comp (ns.take k)).1 (ns.getD k nd0) (comp (ns.take k)).1.length = -1 := by
      rw [i1]
      refine findN_miss _ fun j hj => ?_
      have hj' : j < k := by simp at hj; omega
      rw [getDN_take ns k j hj']
      exact hl k (by omega) j hj'
    unfold cstep at e
    rw [hw, hmiss, if_pos (by omega), i1] at e
    refine ⟨by rw [e, takeN_snoc ns k (by omega)], fun j hj => ?_⟩
    rw [e]
    dsimp only
    by_cases q : j < k
    · rw [getDI_app _ _ _ (by omega)]
      exact i2 j q
    · obtain rfl : j = k := by omega
      have : (comp (ns.take j)).2.length = j := l2
      simp [List.getD, this, Nat.min_eq_left (show j ≤ ns.length by omega)]
theorem comp_less {ns : List Nd} {k m : Nat} (h : (comp (ns.take k)).1.length < k) (hkm : k ≤ m) (hm : m ≤ ns.length) : (comp (ns.take m)).1.length < m := by
  induction m with
  | zero => omega
  | succ m ih =>
    by_cases e : k = m + 1
    · subst e; exact h
    · have i := ih (by omega) (by omega)
      rw [comp_take ns m (by omega)]
      unfold cstep
      split
      · simp; omega
      · show (comp (ns.take m)).1.length < m + 1; omega
/-- the steps are az many az the nodes just if no two are alike -/
theorem comp_all {ns : List Nd} (ha : AllSt ns ns.length) : (comp ns).1.length = ns.length ↔ Lone ns ns.length := by
  constructor
  · intro h
    apply Classical.byContradiction
    intro hn
    -- the first one that is there already
    have : ∃ k, k < ns.length ∧ Lone ns k ∧ ¬ Lone ns (k + 1) := by
      apply Classical.byContradiction
      intro hno
      have all : ∀ m, m ≤ ns.length → Lone ns m := by
        intro m
        induction m with
        | zero => intro _ i hi; omega
        | succ m ih =>
          intro hm
          apply Classical.byContradiction
          intro hx
          exact hno ⟨m, by omega, ih (by omega), hx⟩
      exact hn (all _ (Nat.le_refl _))
    obtain ⟨k, hk, hl, hx⟩ := this
    obtain ⟨i1, i2⟩ := comp_same k (by omega) (fun i hi => ha i (by omega)) hl
    have hw := wired_same (ns := ns) (k := k) (ha k hk) i2
    have hhit : ∃ j, j < k ∧ ns.getD j nd0 = ns.getD k nd0 := by
      apply Classical.byContradiction
      intro hno
      refine hx fun i hi j hj => ?_
      by_cases q : i = k
      · subst q; exact fun e => hno ⟨j, hj, e⟩
      · exact hl i (by omega) j hj
    obtain ⟨j, hj, ej⟩ := hhit
    have e := comp_take ns k hk
    unfold cstep at e
    rw [hw] at e
    have hlen : (ns.take k).length = k := by simp; omega
    rcases findN_cases (comp (ns.take k)).1 (ns.getD k nd0) (comp (ns.take k)).1.length with ⟨_, h2⟩ | ⟨q, hq, h1, _⟩
    · exfalso
      refine h2 j (by rw [i1, hlen]; exact hj) ?_
      rw [i1, getDN_take ns k j hj]
      exact ej
    · rw [h1, if_neg (by omega)] at e
      have hless : (comp (ns.take (k + 1))).1.length < k + 1 := by rw [e]; show (comp (ns.take k)).1.length < k + 1; rw [i1, hlen]; omega
      have := comp_less hless (show k + 1 ≤ ns.length by omega) (Nat.le_refl _)
      rw [List.take_length] at this
      omega
  · intro h
    have := (comp_same ns.length (Nat.le_refl _) ha h).1
    rw [List.take_length] at this
    rw [this]
end Nt
namespace Nt
theorem okE_steps {ns : List Nd} (h : okE ns = true) : AllSt ns ns.length := by
  obtain ⟨_, _, hf, ts, _, _, hT, hl, _, _⟩ := okE_out h
  intro i hi
  have h1 := hf i hi
  obtain ⟨t2, t1, _⟩ := hT i (by omega)
  generalize ns.getD i nd0 = x at *
  obtain ⟨op, a, b, n⟩ := x
  dsimp only at t1 t2
  unfold stepN behind
  rw [h1]
  dsimp only
  cases e2 : two op with
  | true =>
    obtain ⟨p, q, rfl, rfl, hp, hq, _⟩ := t2 e2
    simp
    omega
  | false =>
    cases e1 : one op with
    | true =>
      obtain ⟨p, rfl, hp, _⟩ := t1 e2 e1
      simp
      omega
    | false => rfl
end Nt
