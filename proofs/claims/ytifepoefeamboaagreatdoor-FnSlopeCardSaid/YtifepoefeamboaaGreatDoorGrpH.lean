/-
  JetEval JetQuad RatRow VecRow OwnVec VecMark VecOps NewArith VecScale JetRow TapeMath CompMath in one text.
-/
import Derived.Test.YtifepoefeamboaaGreatDoorGrpG
import Derived.Test.YtifepoefeamboaaGreatDoorGrpE
import Derived.Test.YtifepoefeamboaaGreatDoorGrpC
import Derived.Deep.Slices
import Derived.Deep.Strs
import Derived.Lib.SmallJoins
import Derived.Deep.RegionHeld3
import Derived.Test.YtifepoefeamboaaGreatDoorGrpD
import Derived.Deep.AppendLies
namespace Nt
open Go Go.RowKit
def j0 : Jt := .fx 0
/-- one node's jet, of its children's; none where it is over 0 -/
def stepJ (vars acc : List Jt) (x : Nd) : Option Jt :=
  if x.1 = 1 then some (.fx ((x.2.2.2 : Int) : Rat))
  else if x.1 = 2 then some (vars.getD x.2.2.2.toNat j0)
  else if x.1 = 3 then some (sumJ (acc.getD x.2.1.toNat j0) (acc.getD x.2.2.1.toNat j0))
  else if x.1 = 4 then some (sumJ (acc.getD x.2.1.toNat j0) (timesJ (-1) (acc.getD x.2.2.1.toNat j0)))
  else if x.1 = 5 then some (prodJ (acc.getD x.2.1.toNat j0) (acc.getD x.2.2.1.toNat j0))
  else if x.1 = 6 then (if nu (numJ (acc.getD x.2.2.1.toNat j0) 0) = 0 then none else some (prodJ (acc.getD x.2.1.toNat j0) (invJ (acc.getD x.2.2.1.toNat j0))))
  else if x.1 = 7 then some (timesJ (-1) (acc.getD x.2.1.toNat j0))
  else some (raiseJ (acc.getD x.2.1.toNat j0) x.2.2.2.toNat)
def estep (vars : List Jt) (S : List Jt × Int) (x : Nd) : List Jt × Int :=
  if S.2 = 0 then (match stepJ vars S.1 x with
    | none => ([], 10)
    | some j => if fitsJ j = true then (S.1 ++ [j], 0) else ([], 7)) else S
def evalJ (vars : List Jt) (ns : List Nd) : List Jt × Int := ns.foldl (estep vars) ([], 0)
theorem evalJ_take (vars : List Jt) (ns : List Nd) (k : Nat) (h : k < ns.length) : evalJ vars (ns.take (k + 1)) = estep vars (evalJ vars (ns.take k)) (ns.getD k nd0) := by
  rw [takeN_snoc ns k h]; unfold evalJ; rw [List.foldl_append]; rfl
theorem estep_stop (vars : List Jt) {S : List Jt × Int} (h : S.2 ≠ 0) (x : Nd) : estep vars S x = S := by unfold estep; rw [if_neg h]
theorem foldl_stop (vars : List Jt) {S : List Jt × Int} (h : S.2 ≠ 0) : ∀ ns : List Nd, ns.foldl (estep vars) S = S
  | [] => rfl
  | x :: ns => by rw [List.foldl_cons, estep_stop vars h, foldl_stop vars h ns]
theorem evalJ_stop (vars : List Jt) (ns : List Nd) (k : Nat) (h : (evalJ vars (ns.take k)).2 ≠ 0) : evalJ vars ns = evalJ vars (ns.take k) := by
  have e : evalJ vars ns = (ns.drop k).foldl (estep vars) (evalJ vars (ns.take k)) := by
    unfold evalJ; rw [← List.foldl_append, List.take_append_drop]
  rw [e, foldl_stop vars h]
/-- what is so while nothing has been at fault -/
structure EvOK (d : Nat) (vars acc : List Jt) (k : Nat) : Prop where
  len : acc.length = k
  dep : ∀ j ∈ acc, j.dep ≤ d
  fit : ∀ j ∈ acc, fitsJ j = true
theorem getD_mem {acc : List Jt} {i : Nat} (h : i < acc.length) : acc.getD i j0 ∈ acc := by
  have : acc.getD i j0 = acc[i] := by simp [List.getD, h]
  rw [this]; exact List.getElem_mem h
theorem getD_dep {d : Nat} {acc : List Jt} (h : ∀ j ∈ acc, j.dep ≤ d) (i : Nat) : (acc.getD i j0).dep ≤ d := by
  by_cases hi : i < acc.length
  · exact h _ (getD_mem hi)
  · have : acc.getD i j0 = j0 := by simp [List.getD, Nat.le_of_not_lt hi]
    rw [this]; simp only [j0, Jt.dep]; omega
theorem stepJ_dep {d : Nat} {vars acc : List Jt} {x : Nd} {j : Jt} (hv : ∀ j ∈ vars, j.dep ≤ d) (ha : ∀ j ∈ acc, j.dep ≤ d) (h : stepJ vars acc x = some j) : j.dep ≤ d := by
  have hA := getD_dep ha x.2.1.toNat
  have hB := getD_dep ha x.2.2.1.toNat
  have hV := getD_dep hv x.2.2.2.toNat
  unfold stepJ at h
  generalize acc.getD x.2.1.toNat j0 = f at *
  generalize acc.getD x.2.2.1.toNat j0 = g at *
  split at h
  · cases h; simp only [Jt.dep]; omega
  split at h
  · cases h; exact hV
  split at h
  · cases h; exact dep_sum _ _ _ hA hB
  split at h
  · cases h; exact dep_sum _ _ _ hA (dep_times _ _ _ hB)
  split at h
  · cases h; exact dep_prod _ _ _ hA hB
  split at h
  · split at h
    · cases h
    · cases h; exact dep_prod _ _ _ hA (dep_inv _ _ hB)
  split at h
  · cases h; exact dep_times _ _ _ hA
  · cases h; exact dep_raise _ _ _ hA
theorem estep_ok {d k : Nat} {vars : List Jt} {S : List Jt × Int} {x : Nd} (hv : ∀ j ∈ vars, j.dep ≤ d) (h : EvOK d vars S.1 k) (hs : S.2 = 0) (h0 : (estep vars S x).2 = 0) : EvOK d vars (estep vars S x).1 (k + 1) := by
  unfold estep at h0 ⊢
  rw [if_pos hs] at h0 ⊢
  cases e : stepJ vars S.1 x with
  | none => rw [e] at h0; simp at h0
  | some j =>
    rw [e] at h0
    dsimp only at h0 ⊢
    by_cases hf : fitsJ j = true
    · rw [if_pos hf]
      have hd := stepJ_dep hv h.dep e
      refine ⟨by simp [h.len], fun i hi => ?_, fun i hi => ?_⟩
      · rcases List.mem_append.1 hi with hi | hi
        · exact h.dep i hi
        · rw [List.mem_singleton.1 hi]; exact hd
      · rcases List.mem_append.1 hi with hi | hi
        · exact h.fit i hi
        · rw [List.mem_singleton.1 hi]; exact hf
    · rw [if_neg hf] at h0; simp at h0
theorem evalJ_ok {d : Nat} {vars : List Jt} (hv : ∀ j ∈ vars, j.dep ≤ d) (ns : List Nd) : ∀ k, k ≤ ns.length → (evalJ vars (ns.take k)).2 = 0 → EvOK d vars (evalJ vars (ns.take k)).1 k
  | 0, _, _ => by rw [List.take_zero]; exact ⟨rfl, fun j hj => by simp [evalJ] at hj, fun j hj => by simp [evalJ] at hj⟩
  | k + 1, hk, h => by
    rw [evalJ_take vars ns k (by omega)] at h ⊢
    by_cases hs : (evalJ vars (ns.take k)).2 = 0
    · exact estep_ok hv (evalJ_ok hv ns k (by omega) hs) hs h
    · rw [estep_stop vars hs] at h; exact absurd h hs
instance (q : Rat) : Decidable (fitQ q) := by unfold fitQ; infer_instance
end Nt
namespace Nt
open Go Go.RowKit
def q40 : Q4 := con4 0
def varQ (X V W : List Rat) (i : Nat) : Q4 := ⟨X.getD i 0, V.getD i 0, W.getD i 0, 0⟩
instance (a : Q4) : Decidable (fit4 a) := by unfold fit4; infer_instance
def step4 (X V W : List Rat) (acc : List Q4) (x : Nd) : Option Q4 :=
  if x.1 = 1 then some (con4 ((x.2.2.2 : Int) : Rat))
  else if x.1 = 2 then some (varQ X V W x.2.2.2.toNat)
  else if x.1 = 3 then some (add4 (acc.getD x.2.1.toNat q40) (acc.getD x.2.2.1.toNat q40))
  else if x.1 = 4 then some (add4 (acc.getD x.2.1.toNat q40) (neg4 (acc.getD x.2.2.1.toNat q40)))
  else if x.1 = 5 then some (mul4 (acc.getD x.2.1.toNat q40) (acc.getD x.2.2.1.toNat q40))
  else if x.1 = 6 then (if nu (acc.getD x.2.2.1.toNat q40).f = 0 then none else some (mul4 (acc.getD x.2.1.toNat q40) (over4 (acc.getD x.2.2.1.toNat q40))))
  else if x.1 = 7 then some (neg4 (acc.getD x.2.1.toNat q40))
  else some (toPow4 (acc.getD x.2.1.toNat q40) x.2.2.2.toNat)
def estep4 (X V W : List Rat) (S : List Q4 × Int) (x : Nd) : List Q4 × Int :=
  if S.2 = 0 then (match step4 X V W S.1 x with
    | none => ([], 10)
    | some j => if fit4 j then (S.1 ++ [j], 0) else ([], 7)) else S
def eval4 (X V W : List Rat) (ns : List Nd) : List Q4 × Int := ns.foldl (estep4 X V W) ([], 0)
theorem eval4_take (X V W : List Rat) (ns : List Nd) (k : Nat) (h : k < ns.length) : eval4 X V W (ns.take (k + 1)) = estep4 X V W (eval4 X V W (ns.take k)) (ns.getD k nd0) := by
  rw [takeN_snoc ns k h]; unfold eval4; rw [List.foldl_append]; rfl
theorem estep4_stop (X V W : List Rat) {S : List Q4 × Int} (h : S.2 ≠ 0) (x : Nd) : estep4 X V W S x = S := by unfold estep4; rw [if_neg h]
theorem foldl4_stop (X V W : List Rat) {S : List Q4 × Int} (h : S.2 ≠ 0) : ∀ ns : List Nd, ns.foldl (estep4 X V W) S = S
  | [] => rfl
  | x :: ns => by rw [List.foldl_cons, estep4_stop X V W h, foldl4_stop X V W h ns]
theorem eval4_stop (X V W : List Rat) (ns : List Nd) (k : Nat) (h : (eval4 X V W (ns.take k)).2 ≠ 0) : eval4 X V W ns = eval4 X V W (ns.take k) := by
  have e : eval4 X V W ns = (ns.drop k).foldl (estep4 X V W) (eval4 X V W (ns.take k)) := by
    unfold eval4; rw [← List.foldl_append, List.take_append_drop]
  rw [e, foldl4_stop X V W h]
theorem eval4_ok (X V W : List Rat) (ns : List Nd) : ∀ k, k ≤ ns.length → (eval4 X V W (ns.take k)).2 = 0 → (eval4 X V W (ns.take k)).1.length = k ∧ ∀ q ∈ (eval4 X V W (ns.take k)).1, fit4 q
  | 0, _, _ => by rw [List.take_zero]; exact ⟨rfl, fun j hj => by simp [eval4] at hj⟩
  | k + 1, hk, h => by
    rw [eval4_take X V W ns k (by omega)] at h ⊢
    by_cases hs : (eval4 X V W (ns.take k)).2 = 0
    · have ih := eval4_ok X V W ns k (by omega) hs
      generalize eval4 X V W (ns.take k) = S at *
      unfold estep4 at h ⊢
      rw [if_pos hs] at h ⊢
      cases e : step4 X V W S.1 (ns.getD k nd0) with
      | none => rw [e] at h; simp at h
      | some j =>
        rw [e] at h
        dsimp only at h ⊢
        by_cases hf : fit4 j
        · rw [if_pos hf]
          refine ⟨by simp [ih.1], fun i hi => ?_⟩
          rcases List.mem_append.1 hi with hi | hi
          · exact ih.2 i hi
          · rw [List.mem_singleton.1 hi]; exact hf
        · rw [if_neg hf] at h; simp at h
    · rw [estep4_stop X V W hs] at h; exact absurd h hs
theorem getD_r4 (acc : List Jt) (i : Nat) : (acc.map r4).getD i q40 = r4 (acc.getD i j0) := by
  have h0 : r4 j0 = q40 := by rw [j0, r4_fx]; rfl
  by_cases hi : i < acc.length
  · simp [List.getD, hi]
  · simp [List.getD, Nat.le_of_not_lt hi, h0]
theorem step_r4 {X V W : List Rat} {vars : List Jt} (hv : ∀ i, r4 (vars.getD i j0) = varQ X V W i) (acc : List Jt) (x : Nd) : step4 X V W (acc.map r4) x = (stepJ vars acc x).map r4 := by
  unfold step4 stepJ
  simp only [getD_r4]
  generalize acc.getD x.2.1.toNat j0 = f
  generalize acc.getD x.2.2.1.toNat j0 = g
  split
  · rw [Option.map_some, r4_fx]
  split
  · rw [Option.map_some, hv]
  split
  · rw [Option.map_some, r4_sum]
  split
  · rw [Option.map_some, r4_sub]
  split
  · rw [Option.map_some, r4_prod]
  split
  · rw [show (r4 g).f = numJ g 0 from rfl]
    split
    · rfl
    · rw [Option.map_some, r4_prod, r4_inv]
  split
  · rw [Option.map_some, r4_neg]
  · rw [Option.map_some, r4_raise]
/-- the model's numbers are those of the jets -/
theorem eval_r4 {X V W : List Rat} {vars : List Jt} (hd : ∀ j ∈ vars, j.dep ≤ 2) (hv : ∀ i, r4 (vars.getD i j0) = varQ X V W i) (ns : List Nd) : ∀ k, k ≤ ns.length → eval4 X V W (ns.take k) = ((evalJ vars (ns.take k)).1.map r4, (evalJ vars (ns.take k)).2)
  | 0, _ => by rw [List.take_zero]; rfl
  | k + 1, hk => by
    have ih := eval_r4 hd hv ns k (by omega)
    rw [eval4_take X V W ns k (by omega), evalJ_take vars ns k (by omega), ih]
    by_cases hs : (evalJ vars (ns.take k)).2 = 0
    · have ok := evalJ_ok hd ns k (by omega) hs
      unfold estep4 estep
      dsimp only
      rw [if_pos hs, if_pos hs, step_r4 hv]
      cases e : stepJ vars (evalJ vars (ns.take k)).1 (ns.getD k nd0) with
      | none => rfl
      | some j =>
        rw [Option.map_some]
        dsimp only
        have hj := fits2 (stepJ_dep hd ok.dep e)
        by_cases hf : fitsJ j = true
        · rw [if_pos hf, if_pos (hj.1 hf)]; simp
        · rw [if_neg hf, if_neg (fun h => hf (hj.2 h))]; rfl
    · rw [estep4_stop X V W (by exact hs), estep_stop vars hs]
/-- the two ways in each other's place -/
def swap4 (a : Q4) : Q4 := ⟨a.f, a.w, a.v, a.vw⟩
theorem swap_mul (a b : Q4) : swap4 (mul4 a b) = mul4 (swap4 a) (swap4 b) := by
  simp only [swap4, mul4]; congr 1; grind
theorem swap_over (a : Q4) : swap4 (over4 a) = over4 (swap4 a) := by
  simp only [swap4, over4]; congr 1; grind
theorem swap_pow (a : Q4) : ∀ n, swap4 (toPow4 a n) = toPow4 (swap4 a) n
  | 0 => rfl
  | n + 1 => by rw [toPow4, swap_mul, swap_pow a n, toPow4]
theorem swap_fit (a : Q4) : fit4 (swap4 a) ↔ fit4 a := ⟨fun ⟨h1, h2, h3, h4⟩ => ⟨h1, h3, h2, h4⟩, fun ⟨h1, h2, h3, h4⟩ => ⟨h1, h3, h2, h4⟩⟩
theorem getD_swap (acc : List Q4) (i : Nat) : (acc.map swap4).getD i q40 = swap4 (acc.getD i q40) := by
  by_cases hi : i < acc.length
  · simp [List.getD, hi]
  · simp [List.getD, Nat.le_of_not_lt hi]; rfl
theorem step_swap (X V W : List Rat) (acc : List Q4) (x : Nd) : step4 X W V (acc.map swap4) x = (step4 X V W acc x).map swap4 := by
  unfold step4
  simp only [getD_swap]
  generalize acc.getD x.2.1.toNat q40 = f
  generalize acc.getD x.2.2.1.toNat q40 = g
  split
  · rfl
  split
  · rfl
  split
  · rfl
  split
  · rfl
  split
  · rw [Option.map_some, swap_mul]
  split
  · rw [show (swap4 g).f = g.f from rfl]
    split
    · rfl
    · rw [Option.map_some, swap_mul, swap_over]
  split
  · rfl
  · rw [Option.map_some, swap_pow]
theorem estep_swap (X V W : List Rat) (S : List Q4 × Int) (x : Nd) : estep4 X W V (S.1.map swap4, S.2) x = ((estep4 X V W S x).1.map swap4, (estep4 X V W S x).2) := by
  unfold estep4
  dsimp only
  split
  · rw [step_swap]
    cases step4 X V W S.1 x with
    | none => rfl
    | some q =>
      rw [Option.map_some]
      dsimp only
      by_cases hf : fit4 q
      · rw [if_pos hf, if_pos ((swap_fit q).2 hf)]; simp
      · rw [if_neg hf, if_neg (fun h => hf ((swap_fit q).1 h))]; rfl
  · rfl
theorem eval_swap (X V W : List Rat) (ns : List Nd) : eval4 X W V ns = ((eval4 X V W ns).1.map swap4, (eval4 X V W ns).2) := by
  have : ∀ (ns : List Nd) (S : List Q4 × Int), ns.foldl (estep4 X W V) (S.1.map swap4, S.2) = ((ns.foldl (estep4 X V W) S).1.map swap4, (ns.foldl (estep4 X V W) S).2) := by
    intro ns
    induction ns with
    | nil => intro S; rfl
    | cons x ns ih => intro S; rw [List.foldl_cons, List.foldl_cons, estep_swap, ih]
  exact this ns ([], 0)
end Nt
namespace Nt
open Go Go.RowKit Go.Deep Go.ChangeShapes Go.WideShapes
/-- a sign and two lists -/
abbrev R3 := Bool × List Int × List Int
def r3 : R3 := (false, [], [])
def ok3 (r : R3) : Bool := okR r.1 r.2.1 r.2.2
/-- such a struct begins at cell k of block b -/
def El (w : World) (P : Nat → Prop) (b k : Nat) (r : R3) : Prop :=
  ∃ A ca B cb, w.cell? ⟨b, k, none⟩ = some (.bool r.1) ∧ w.cell? ⟨b, k + 1, none⟩ = some (.slice A r.2.1.length ca) ∧ w.cell? ⟨b, k + 2, none⟩ = some (.slice B r.2.2.length cb) ∧ RdR w P r.2.1 r.2.2 A ca B cb
theorem RdR.keep {w w' : World} {P : Nat → Prop} {xs ys : List Int} {A B : Option Addr} {ca cb : Nat} (h : RdR w P xs ys A ca B cb) (hs : w.heap.size ≤ w'.heap.size) (hk : ∀ b, P b → b < w.heap.size → w'.heap[b]? = w.heap[b]?) : RdR w' P xs ys A ca B cb :=
  ⟨h.1.keep hs hk, h.2.keep hs hk⟩
theorem El.keep {w w' : World} {P : Nat → Prop} {b k : Nat} {r : R3} (h : El w P b k r) (hs : w.heap.size ≤ w'.heap.size) (hk : ∀ b, P b → b < w.heap.size → w'.heap[b]? = w.heap[b]?) (hb : w'.heap[b]? = w.heap[b]?) : El w' P b k r := by
  obtain ⟨A, ca, B, cb, h0, h1, h2, h3⟩ := h
  exact ⟨A, ca, B, cb, (World.cell?_of_block (a := ⟨b, k, none⟩) hb).trans h0, (World.cell?_of_block (a := ⟨b, k + 1, none⟩) hb).trans h1, (World.cell?_of_block (a := ⟨b, k + 2, none⟩) hb).trans h2, h3.keep hs hk⟩
theorem El.mono {w : World} {P Q : Nat → Prop} {b k : Nat} {r : R3} (h : El w P b k r) (hpq : ∀ b, P b → b < w.heap.size → Q b) : El w Q b k r := by
  obtain ⟨A, ca, B, cb, h0, h1, h2, h3⟩ := h
  exact ⟨A, ca, B, cb, h0, h1, h2, h3.mono hpq⟩
/-- the slice reads as the rationals rs -/
def RdS (w : World) (P : Nat → Prop) (A : Option Addr) (n c : Nat) (rs : List R3) : Prop :=
  rs.length = n ∧ n ≤ c ∧ (A = none → c = 0) ∧ (0 < n → ∃ b o, A = some ⟨b, o, none⟩ ∧ P b ∧ b < w.heap.size ∧ ∀ i, i < n → El w P b (o + i * 3) (rs.getD i r3))
variable {w w' : World} {P Q : Nat → Prop} {A : Option Addr} {n c : Nat} {rs : List R3}
theorem RdS.len (h : RdS w P A n c rs) : rs.length = n := h.1
theorem RdS.at_ (h : RdS w P A n c rs) (hn : 0 < n) : ∃ b o, A = some ⟨b, o, none⟩ ∧ P b ∧ b < w.heap.size ∧ ∀ i, i < n → El w P b (o + i * 3) (rs.getD i r3) := h.2.2.2 hn
theorem RdS.keep (h : RdS w P A n c rs) (hs : w.heap.size ≤ w'.heap.size) (hk : ∀ b, P b → b < w.heap.size → w'.heap[b]? = w.heap[b]?) : RdS w' P A n c rs :=
  ⟨h.1, h.2.1, h.2.2.1, fun hn => by
    obtain ⟨b, o, e, hp, hlt, hc⟩ := h.2.2.2 hn
    exact ⟨b, o, e, hp, by omega, fun i hi => (hc i hi).keep hs hk (hk b hp hlt)⟩⟩
theorem RdS.mono (h : RdS w P A n c rs) (hpq : ∀ b, P b → b < w.heap.size → Q b) : RdS w Q A n c rs :=
  ⟨h.1, h.2.1, h.2.2.1, fun hn => by
    obtain ⟨b, o, e, hp, hlt, hc⟩ := h.2.2.2 hn
    exact ⟨b, o, e, hpq b hp hlt, hlt, fun i hi => (hc i hi).mono hpq⟩⟩
theorem RdS.below {N : Nat} (h : RdS w (· < N) A n c rs) (hb : Below N w w') : RdS w' (· < N) A n c rs := h.keep hb.size fun b hp _ => hb.block b hp
theorem RdS.on (h : RdS w P A n c rs) (hb : Below w.heap.size w w') : RdS w' P A n c rs := h.keep hb.size fun b _ hl => hb.block b hl
theorem RdS.low (h : RdS w P A n c rs) : RdS w (· < w.heap.size) A n c rs := h.mono fun _ _ h => h
theorem RdS.all (h : RdS w P A n c rs) : RdS w (fun _ => True) A n c rs := h.mono fun _ _ _ => trivial
theorem RdS.drew (h : RdS w P A n c rs) : RdS w.drew P A n c rs := h
theorem add_none (b o j : Nat) : (⟨b, o, none⟩ : Addr).add j = ⟨b, o + j, none⟩ := by unfold Addr.add; by_cases h : j = 0 <;> simp [h]
end Nt
namespace Nt
open Go Go.RowKit
/-- three cells of it are set -/
def set3 (w : World) (g k : Nat) (x y z : Value) : World := ((w.setCell ⟨g, k, none⟩ x).setCell ⟨g, k + 1, none⟩ y).setCell ⟨g, k + 2, none⟩ z
def okV (rs : List R3) : Bool := decide (1 ≤ rs.length) && decide (rs.length ≤ 4) && rs.all ok3
def codeV (rs : List R3) : Int := if rs.all ok3 then 0 else 1
def Small (rs : List R3) : Prop := ∀ r ∈ rs, r.2.1.length ≤ 1048576 ∧ r.2.2.length ≤ 1048576
theorem Small.at_ {rs : List R3} (h : Small rs) (k : Nat) (hk : k < rs.length) : (rs.getD k r3).2.1.length ≤ 1048576 ∧ (rs.getD k r3).2.2.length ≤ 1048576 := by
  have e : rs.getD k r3 = rs[k] := by simp [List.getD, hk]
  rw [e]
  exact h _ (List.getElem_mem hk)
theorem all_no {rs : List R3} {k : Nat} (hk : k < rs.length) (h : ok3 (rs.getD k r3) = false) : rs.all ok3 = false := by
  rw [Bool.eq_false_iff]
  intro ha
  rw [List.all_eq_true] at ha
  have e : rs.getD k r3 = rs[k] := by simp [List.getD, hk]
  rw [e] at h
  have := ha _ (List.getElem_mem hk)
  rw [h] at this
  cases this
theorem all_yes {rs : List R3} (h : ∀ j, j < rs.length → ok3 (rs.getD j r3) = true) : rs.all ok3 = true := by
  rw [List.all_eq_true]
  intro r hr
  obtain ⟨i, hi, rfl⟩ := List.mem_iff_getElem.1 hr
  have := h i hi
  have e : rs.getD i r3 = rs[i] := by simp [List.getD, hi]
  rwa [e] at this
end Nt
namespace Go.Proofs.YtifepoefeamboaaGreatDoor
open Go Go.RowKit Nt

theorem infoRat : (Tryz.prog.info? 31).map (fun i => (i.zero, i.size, i.bytes)) = some (some (.agg #[.bool false, .slice none 0 0, .slice none 0 0]), 3, 56) := by kernel_rfl
set_option maxHeartbeats 1600000 in
theorem ratCodeS_any (A : Option Addr) (n c : Nat) (rs : List R3) (P : Nat → Prop) (w : World) (hr : RdS w P A n c rs) (hsm : Small rs) (hn : n ≤ 16777216) :
    Calls Tryz.prog 125 #[.slice A n c] w fun e w' => e = .returned (.int .i64 (codeV rs)) ∧ Below w.heap.size w w' := by
  have HR := Lib.hid hr.low
  have HS := Lib.hid hsm
  have HL := Lib.hid hr.len
  clear hr hsm
  go_enter Tryz.func125, Tryz.ntmps125
  go_wp2
  go_loopw [7] (fun i wr => ∃ k : Nat, k ≤ n ∧ i = .int .i64 k ∧ Hid (∀ j, j < k → ok3 (rs.getD j r3) = true) ∧ Hid (Below w.heap.size w wr)) (fun i _ => n - (intOf i).toNat)
  case atStart => exact ⟨0, Nat.zero_le _, rfl, Lib.hid (fun j hj => by omega), Lib.hid (Below.refl _ _)⟩
  case round =>
    obtain ⟨k, hk, rfl, HOK, HB⟩ := hrel
    by_cases hlt : k < n
    · obtain ⟨b, o, rfl, hP, _, hc⟩ := HR.out.at_ (by omega)
      obtain ⟨Ai, ca, Bi, cb, q0, q1, q2, hrd⟩ := hc k hlt
      have c0 := (HB.out.cell (p := ⟨b, o + k * 3, none⟩) hP).trans q0
      have c1 := (HB.out.cell (p := ⟨b, o + k * 3 + 1, none⟩) hP).trans q1
      have c2 := (HB.out.cell (p := ⟨b, o + k * 3 + 2, none⟩) hP).trans q2
      have hkn : (k : Int) < n := by omega
      have hss := HS.out.at_ k (by rw [HL.out]; exact hlt)
      have HNO := Lib.hid (fun h => all_no (rs := rs) (k := k) (by rw [HL.out]; exact hlt) h)
      have HYES : Hid (ok3 (rs.getD k r3) = true → ∀ j, j < k + 1 → ok3 (rs.getD j r3) = true) := fun h j hj => by
        by_cases e : j = k
        · subst e; exact h
        · exact HOK.out j (by omega)
      have HRD := Lib.hid hrd
      generalize rs.getD k r3 = r at *
      obtain ⟨ng, xs, ys⟩ := r
      dsimp only at *
      clear q0 q1 q2 hc hrd
      have hsz := HB.out.size
      go_wp2_with fail
      have hb1 := HB.out.alloc hsz (.cells #[.bool ng, .slice Ai xs.length ca, .slice Bi ys.length cb] 31)
      have hr1 : RdR _ (· < w.heap.size) xs ys Ai ca Bi cb := HRD.out.below hb1
      refine (implRatOK_any ng Ai Bi _ ca _ cb xs ys _ _ _ hr1.1 hr1.2 (by omega) (by omega)).mono ?_
      rintro e w1 ⟨rfl, b1⟩
      have HB1 := Lib.hid (below_on hb1 b1)
      clear hr1 hb1 b1 c0 c1 c2
      by_cases ho : okR ng xs ys = true
      · rw [ho]
        have HO := Lib.hid (HYES.out ho)
        clear ho HYES HNO
        go_wp2
        go_roundw
        case rel => exact ⟨k + 1, by omega, by go_num, HO, HB1⟩
        case measure => simp [intOf]; omega
      · have ho' : okR ng xs ys = false := by simpa using ho
        rw [ho']
        have HC : Hid (codeV rs = 1) := by
          show _ = _
          unfold codeV
          rw [HNO.out ho']
          rfl
        clear ho ho' HYES HNO
        go_wp2
        go_ret
        rw [HC.out]
        exact ⟨rfl, HB1.out⟩
    · have HC : Hid (codeV rs = 0) := by
        show _ = _
        unfold codeV
        rw [all_yes (fun j hj => HOK.out j (by have := HL.out; omega))]
        rfl
      clear HOK
      go_wp2
      go_ret
      rw [HC.out]
      exact ⟨rfl, HB.out⟩

set_option maxHeartbeats 1600000 in
theorem implVecOK_any (A : Option Addr) (n c : Nat) (rs : List R3) (P : Nat → Prop) (w : World) (hr : RdS w P A n c rs) (hsm : Small rs) (hn : n ≤ 1048576) :
    Calls Tryz.prog 99 #[.slice A n c] w fun e w' => e = .returned (.bool (okV rs)) ∧ Below w.heap.size w w' := by
  have HR := Lib.hid hr
  have HS := Lib.hid hsm
  have hl := hr.len
  clear hr hsm
  by_cases h0 : n = 0
  · have HV : Hid (okV rs = false) := by show _ = _; unfold okV; simp; omega
    have hz : ¬ 0 < n := by omega
    clear hl h0
    go_enter Tryz.func99, Tryz.ntmps99
    go_wp2
    go_ret
    exact ⟨ret_bool HV.out.symm, Below.refl _ _⟩
  by_cases h4 : 4 < n
  · have HV : Hid (okV rs = false) := by show _ = _; unfold okV; simp; omega
    have hz : 0 < n := by omega
    have hz4 : decide ((n : Int) ≤ 4) = false := by simp; omega
    have hz5 : ¬ n ≤ 4 := by omega
    clear hl h0
    go_enter Tryz.func99, Tryz.ntmps99
    go_wp2
    go_ret
    exact ⟨ret_bool HV.out.symm, Below.refl _ _⟩
  have HV : Hid (okV rs = rs.all ok3) := by show _ = _; unfold okV; rw [decide_eq_true (by omega), decide_eq_true (by omega)]; rfl
  have hz : 0 < n := by omega
  have hz4 : decide ((n : Int) ≤ 4) = true := by simp; omega
  have hz5 : n ≤ 4 := by omega
  clear hl h0
  go_enter Tryz.func99, Tryz.ntmps99
  go_wp2_with fail
  refine (ratCodeS_any A n c rs P w HR.out HS.out (by omega)).mono ?_
  rintro e w1 ⟨rfl, b1⟩
  have HB1 := Lib.hid b1
  clear b1
  by_cases ha : rs.all ok3 = true
  · have hcv : codeV rs = 0 := by unfold codeV; rw [if_pos ha]
    rw [hcv]
    have HA := Lib.hid ha
    clear ha hcv
    go_wp2
    go_ret
    exact ⟨ret_bool (by rw [HV.out, HA.out]), HB1.out⟩
  · have hcv : codeV rs = 1 := by unfold codeV; rw [if_neg ha]
    rw [hcv]
    have HA : Hid (rs.all ok3 = false) := (Bool.not_eq_true _).mp ha
    clear ha hcv
    go_wp2
    go_ret
    exact ⟨ret_bool (by rw [HV.out, HA.out]), HB1.out⟩

set_option maxHeartbeats 1600000 in
theorem specVecOK_any (A : Option Addr) (n c : Nat) (rs : List R3) (P : Nat → Prop) (w : World) (hr : RdS w P A n c rs) (hsm : Small rs) (hn : n ≤ 1048576) :
    Calls Tryz.prog 75 #[.slice A n c] w fun e w' => e = .returned (.bool (okV rs)) ∧ Below w.heap.size w w' := by
  have HR := Lib.hid hr.low
  have HS := Lib.hid hsm
  have HL := Lib.hid hr.len
  clear hr hsm
  by_cases h4 : 4096 < n
  · have HV : Hid (okV rs = false) := by show _ = _; have := HL.out; unfold okV; simp; omega
    have hz4 : decide ((4096 : Int) < n) = true := by simp; omega
    go_enter Tryz.func75, Tryz.ntmps75
    go_wp2
    go_ret
    exact ⟨ret_bool HV.out.symm, Below.refl _ _⟩
  have hz4 : decide ((4096 : Int) < n) = false := by simp; omega
  go_enter Tryz.func75, Tryz.ntmps75
  go_wp2
  go_loopw [3] (fun i wr => ∃ k : Nat, k ≤ n ∧ i = .int .i64 k ∧ Hid (∀ j, j < k → ok3 (rs.getD j r3) = true) ∧ Hid (Below w.heap.size w wr)) (fun i _ => n - (intOf i).toNat)
  case atStart => exact ⟨0, Nat.zero_le _, rfl, Lib.hid (fun j hj => by omega), Lib.hid (Below.refl _ _)⟩
  case round =>
    obtain ⟨k, hk, rfl, HOK, HB⟩ := hrel
    by_cases hlt : k < n
    · obtain ⟨b, o, rfl, hP, _, hc⟩ := HR.out.at_ (by omega)
      obtain ⟨Ai, ca, Bi, cb, q0, q1, q2, hrd⟩ := hc k hlt
      have c0 := (HB.out.cell (p := ⟨b, o + k * 3, none⟩) hP).trans q0
      have c1 := (HB.out.cell (p := ⟨b, o + k * 3 + 1, none⟩) hP).trans q1
      have c2 := (HB.out.cell (p := ⟨b, o + k * 3 + 2, none⟩) hP).trans q2
      have hkn : (k : Int) < n := by omega
      have hss := HS.out.at_ k (by rw [HL.out]; exact hlt)
      have HNO := Lib.hid (fun h => all_no (rs := rs) (k := k) (by rw [HL.out]; exact hlt) h)
      have HYES : Hid (ok3 (rs.getD k r3) = true → ∀ j, j < k + 1 → ok3 (rs.getD j r3) = true) := fun h j hj => by
        by_cases e : j = k
        · subst e; exact h
        · exact HOK.out j (by omega)
      have HRD := Lib.hid hrd
      generalize rs.getD k r3 = r at *
      obtain ⟨ng, xs, ys⟩ := r
      dsimp only at *
      clear q0 q1 q2 hc hrd
      go_wp2_with fail
      have hr1 : RdR _ (· < w.heap.size) xs ys Ai ca Bi cb := HRD.out.below HB.out
      refine (specRatOK_any ng Ai Bi _ ca _ cb xs ys _ _ _ hr1.1 hr1.2 (by omega) (by omega)).mono ?_
      rintro e w1 ⟨rfl, b1⟩
      have HB1 := Lib.hid (below_on HB.out b1)
      clear hr1 b1 c0 c1 c2
      by_cases ho : okR ng xs ys = true
      · rw [ho]
        have HO := Lib.hid (HYES.out ho)
        clear ho HYES HNO
        go_wp2
        go_roundw
        case rel => exact ⟨k + 1, by omega, by go_num, HO, HB1⟩
        case measure => simp [intOf]; omega
      · have ho' : okR ng xs ys = false := by simpa using ho
        rw [ho']
        have HC : Hid (okV rs = false) := by
          show _ = _
          unfold okV
          rw [HNO.out ho']
          simp
        clear ho ho' HYES HNO
        go_wp2
        go_ret
        exact ⟨ret_bool HC.out.symm, HB1.out⟩
    · have HV : Hid (okV rs = (decide ((1 : Int) ≤ n) && decide ((n : Int) ≤ 4))) := by
        have e := HL.out
        show _ = _
        unfold okV
        rw [all_yes (fun j hj => HOK.out j (by omega)), e, Bool.and_true]
        congr 1
        · rw [decide_eq_decide]; omega
        · rw [decide_eq_decide]; omega
      clear HOK
      go_wp2_with (go_at_call 107; refine (l01In_any _ _ _ _).mono ?_; rintro e w1 ⟨rfl, rfl⟩)
      go_ret
      exact ⟨ret_bool HV.out.symm, HB.out⟩
end Go.Proofs.YtifepoefeamboaaGreatDoor
namespace Nt
open Go Go.RowKit
/-- an element, and where its lists lie -/
structure EV where
  neg : Bool
  A : Option Addr
  ca : Nat
  B : Option Addr
  cb : Nat
  xs : List Int
  ys : List Int
def e0 : EV := ⟨false, none, 0, none, 0, [], []⟩
def EV.v3 (r : EV) : R3 := (r.neg, r.xs, r.ys)
def EV.cs (r : EV) : List Value := [.bool r.neg, .slice r.A r.xs.length r.ca, .slice r.B r.ys.length r.cb]
def flat (L : List EV) : List Value := L.flatMap EV.cs
def EV.has (r : EV) (g : Nat) : Prop := r.A = some ⟨g, 0, none⟩ ∨ r.B = some ⟨g, 0, none⟩
def OwnE (ti : TypeId) (w : World) (base : Nat) (r : EV) : Prop := OwnR ti w base r.xs r.ys r.A r.ca r.B r.cb
/-- a vector in memory of a call's own -/
def OwnV (tr ti : TypeId) (w : World) (base : Nat) (V : Option Addr) (n c : Nat) (L : List EV) : Prop :=
  w.ownsRow base tr 3 (.slice V n c) n (flat L) ∧ (∀ i, i < L.length → OwnE ti w base (L.getD i e0)) ∧ ∀ i j, i < j → j < L.length → ∀ g, (L.getD i e0).has g → (L.getD j e0).has g → False
theorem flat_len (L : List EV) : (flat L).length = L.length * 3 := by
  induction L with
  | nil => rfl
  | cons r L ih => simp [flat, EV.cs] at ih ⊢; omega
theorem flat_cons (r : EV) (L : List EV) : flat (r :: L) = .bool r.neg :: .slice r.A r.xs.length r.ca :: .slice r.B r.ys.length r.cb :: flat L := rfl
theorem flat_snoc (L : List EV) (r : EV) : flat (L ++ [r]) = flat L ++ r.cs := by simp [flat]
theorem flat_get (L : List EV) : ∀ (i : Nat), i < L.length → (flat L)[i * 3]? = some (.bool (L.getD i e0).neg) ∧ (flat L)[i * 3 + 1]? = some (.slice (L.getD i e0).A (L.getD i e0).xs.length (L.getD i e0).ca) ∧ (flat L)[i * 3 + 2]? = some (.slice (L.getD i e0).B (L.getD i e0).ys.length (L.getD i e0).cb) := by
  induction L with
  | nil => intro i hi; simp at hi
  | cons r L ih =>
    intro i hi
    rw [flat_cons]
    cases i with
    | zero => exact ⟨rfl, rfl, rfl⟩
    | succ i =>
      have := ih i (by simpa using hi)
      rw [show (i + 1) * 3 = i * 3 + 1 + 1 + 1 from by omega]
      simpa using this
section
variable {tr ti : TypeId} {w w' : World} {base n c : Nat} {V : Option Addr} {L : List EV}
theorem OwnV.len (h : OwnV tr ti w base V n c L) : L.length = n := by
  have h1 := h.1.1
  rw [flat_len] at h1
  omega
theorem own_keep3 {v : Value} {e : TypeId} {size m : Nat} {xs : List Value} (h : w.ownsRow base e size v m xs) (hb : Below w.heap.size w w') : w'.ownsRow base e size v m xs := by
  refine h.kept (row := none) ⟨hb.os, hb.tape, hb.output, hb.size, fun k hk _ => hb.block k hk⟩ ?_
  cases hA : v.ownBlock with
  | none => exact .inl rfl
  | some g => exact .inr (by simp)
theorem OwnV.on (h : OwnV tr ti w base V n c L) (hb : Below w.heap.size w w') : OwnV tr ti w' base V n c L :=
  ⟨own_keep3 h.1 hb, fun i hi => (h.2.1 i hi).on hb, h.2.2⟩
theorem row_at (h : w.ownsRow base tr 3 (.slice V n c) n (flat L)) (hn : 0 < n) : ∃ g, V = some ⟨g, 0, none⟩ ∧ base ≤ g ∧ g < w.heap.size ∧ n ≤ c := by
  rcases h.2 with ⟨_, h0⟩ | ⟨g, cap, cur, e', hb, hh, hc, _⟩
  · omega
  · injection e' with e1 e2 e3
    refine ⟨g, e1, hb, ?_, by omega⟩
    rcases Nat.lt_or_ge g w.heap.size with hlt | hge
    · exact hlt
    · rw [Array.getElem?_eq_none hge] at hh; cases hh
theorem getD_map (L : List EV) (i : Nat) : (L.map EV.v3).getD i r3 = (L.getD i e0).v3 := by
  simp only [List.getD, List.getElem?_map]
  cases L[i]? <;> rfl
theorem OwnE.rdr {r : EV} (h : OwnE ti w base r) : RdR w (base ≤ ·) r.xs r.ys r.A r.ca r.B r.cb := OwnR.rd h
/-- elements that can be read, in a row of the call's own -/
theorem rds_of (h : w.ownsRow base tr 3 (.slice V n c) n (flat L)) (P : Nat → Prop) (hP : ∀ b, base ≤ b → P b) (hE : ∀ i, i < L.length → RdR w P (L.getD i e0).xs (L.getD i e0).ys (L.getD i e0).A (L.getD i e0).ca (L.getD i e0).B (L.getD i e0).cb) : RdS w P V n c (L.map EV.v3) := by
  have hl : L.length = n := by have h1 := h.1; rw [flat_len] at h1; omega
  refine ⟨by rw [List.length_map, hl], ?_, ?_, fun hn => ?_⟩
  · rcases h.2 with ⟨e, h0⟩ | ⟨g, cap, cur, e', hb, hh, hc, _⟩
    · omega
    · injection e' with e1 e2 e3
      omega
  · intro hV
    subst hV
    rcases h.2 with ⟨e, h0⟩ | ⟨g, cap, cur, e', _⟩
    · injection e
    · cases e'
  · obtain ⟨g, rfl, hb, hlt, _⟩ := row_at h hn
    refine ⟨g, 0, rfl, hP g hb, hlt, fun i hi => ?_⟩
    obtain ⟨f0, f1, f2⟩ := flat_get L i (by omega)
    rw [Nat.zero_add, getD_map]
    exact ⟨_, _, _, _, (h.cellAt _ (by omega)).trans f0, (h.cellAt _ (by omega)).trans f1, (h.cellAt _ (by omega)).trans f2, hE i (by omega)⟩
theorem OwnV.rd (h : OwnV tr ti w base V n c L) : RdS w (base ≤ ·) V n c (L.map EV.v3) := rds_of h.1 _ (fun _ h => h) fun i hi => (h.2.1 i hi).rdr
theorem OwnV.ge (h : OwnV tr ti w base V n c L) : ∀ g, V = some ⟨g, 0, none⟩ ∨ (∃ i, i < L.length ∧ (L.getD i e0).has g) → base ≤ g := by
  rintro g (e | ⟨i, hi, e⟩)
  · rcases h.1.2 with ⟨e', _⟩ | ⟨g', cap, cur, e', hb, _⟩
    · injection e' with e1; rw [e1] at e; cases e
    · injection e' with e1
      rw [e1] at e
      injection e with e
      injection e with e
      omega
  · exact OwnR.ge (h.2.1 i hi) g e
theorem OwnV.lt (h : OwnV tr ti w base V n c L) : ∀ g, V = some ⟨g, 0, none⟩ ∨ (∃ i, i < L.length ∧ (L.getD i e0).has g) → g < w.heap.size := by
  rintro g (e | ⟨i, hi, e⟩)
  · rcases h.1.2 with ⟨e', _⟩ | ⟨g', cap, cur, e', hb, hh, _⟩
    · injection e' with e1; rw [e1] at e; cases e
    · injection e' with e1
      rw [e1] at e
      injection e with e
      injection e with e
      subst e
      rcases Nat.lt_or_ge g' w.heap.size with hlt | hge
      · exact hlt
      · rw [Array.getElem?_eq_none hge] at hh; cases hh
  · exact OwnR.lt (h.2.1 i hi) g e
end
end Nt
namespace Nt
open Go Go.RowKit
theorem getD_snoc_lt (L : List EV) (r : EV) (i : Nat) (h : i < L.length) : (L ++ [r]).getD i e0 = L.getD i e0 := by
  simp [List.getD, List.getElem?_append_left h]
theorem getD_snoc_eq (L : List EV) (r : EV) : (L ++ [r]).getD L.length e0 = r := by simp [List.getD]
def Parts (ti : TypeId) (w : World) (base : Nat) (L : List EV) : Prop := (∀ i, i < L.length → OwnE ti w base (L.getD i e0)) ∧ ∀ i j, i < j → j < L.length → ∀ g, (L.getD i e0).has g → (L.getD j e0).has g → False
/-- one more element whose lists are new -/
theorem parts_snoc {ti : TypeId} {w : World} {base N : Nat} {L : List EV} {r : EV} (h1 : ∀ i, i < L.length → OwnE ti w base (L.getD i e0)) (h2 : ∀ i j, i < j → j < L.length → ∀ g, (L.getD i e0).has g → (L.getD j e0).has g → False) (hlt : ∀ i, i < L.length → ∀ g, (L.getD i e0).has g → g < N) (hr : OwnE ti w N r) (hN : base ≤ N) :
    (∀ i, i < (L ++ [r]).length → OwnE ti w base ((L ++ [r]).getD i e0)) ∧ ∀ i j, i < j → j < (L ++ [r]).length → ∀ g, ((L ++ [r]).getD i e0).has g → ((L ++ [r]).getD j e0).has g → False := by
  constructor
  · intro i hi
    by_cases e : i < L.length
    · rw [getD_snoc_lt L r i e]; exact h1 i e
    · obtain rfl : i = L.length := by simp at hi; omega
      rw [getD_snoc_eq]; exact OwnR.mono hr hN
  · intro i j hij hj g hg hg'
    have hi : i < L.length := by simp at hj; omega
    rw [getD_snoc_lt L r i hi] at hg
    by_cases e : j < L.length
    · rw [getD_snoc_lt L r j e] at hg'; exact h2 i j hij e g hg hg'
    · obtain rfl : j = L.length := by simp at hj; omega
      rw [getD_snoc_eq] at hg'
      have a := hlt i hi g hg
      have b := OwnR.ge hr g hg'
      omega
theorem OwnE.on {ti : TypeId} {w w' : World} {base : Nat} {r : EV} (h : OwnE ti w base r) (hb : Below w.heap.size w w') : OwnE ti w' base r := OwnR.on h hb
/-- a row of another type has turned -/
theorem OwnE.rowed {ti tr : TypeId} {w w' : World} {base g : Nat} {r : EV} {cs : Array Value} (h : OwnE ti w base r) (hne : ti ≠ tr) (hr : w.heap[g]? = some (.cells cs tr (0, 0))) (hg : w.grownBy w' (some g)) : OwnE ti w' base r :=
  ⟨own_at_block h.1 fun k hk => hg.block k (own_block h.1 hk).2 (fun e => by injection e with e; subst e; exact own_type h.1 hne hr hk), own_at_block h.2.1 fun k hk => hg.block k (own_block h.2.1 hk).2 (fun e => by injection e with e; subst e; exact own_type h.2.1 hne hr hk), h.2.2⟩
end Nt
namespace Go.Proofs.YtifepoefeamboaaGreatDoor
open Go Go.RowKit Nt

end Go.Proofs.YtifepoefeamboaaGreatDoor
namespace Nt
open Go Go.RowKit
def rat3 (q : Rat) : R3 := (isNeg q, D (nu q), D q.den)
theorem ok3_rat (q : Rat) (h1 : nu q < Top) (h2 : q.den < Top) : ok3 (rat3 q) = true := okR_rat q h1 h2
def Fine (qs : List Rat) : Prop := ∀ q ∈ qs, nu q < Top ∧ q.den < Top
theorem all_out : ∀ {rs : List R3}, rs.all ok3 = true → ∃ qs : List Rat, rs = qs.map rat3 ∧ Fine qs
  | [], _ => ⟨[], rfl, fun q hq => by simp at hq⟩
  | r :: rs, h => by
    rw [List.all_cons, Bool.and_eq_true] at h
    obtain ⟨qs, rfl, hf⟩ := all_out h.2
    obtain ⟨q, h1, h2, h3, h4, h5⟩ := okR_out h.1
    refine ⟨q :: qs, ?_, fun p hp => ?_⟩
    · rw [List.map_cons]
      congr 1
      exact Prod.ext h1 (Prod.ext h2 h3)
    · rcases List.mem_cons.1 hp with rfl | hp
      · exact ⟨h4, h5⟩
      · exact hf p hp
theorem getD_rat (qs : List Rat) (i : Nat) (h : i < qs.length) : (qs.map rat3).getD i r3 = rat3 (qs.getD i 0) := by
  simp [List.getD, h]
theorem Fine.at_ {qs : List Rat} (h : Fine qs) (i : Nat) (hi : i < qs.length) : nu (qs.getD i 0) < Top ∧ (qs.getD i 0).den < Top := by
  have e : qs.getD i 0 = qs[i] := by simp [List.getD, hi]
  rw [e]
  exact h _ (List.getElem_mem hi)
theorem small_fine {qs : List Rat} (h : Fine qs) : Small (qs.map rat3) := by
  intro r hr
  obtain ⟨q, hq, rfl⟩ := List.mem_map.1 hr
  have q1 := (D_len_le (nu q) 40).2 (h q hq).1
  have q2 := (D_len_le q.den 40).2 (h q hq).2
  exact ⟨by show (D (nu q)).length ≤ _; omega, by show (D q.den).length ≤ _; omega⟩
/-- the codes of a list of vectors -/
def vcode (N : Nat) (n : Nat → Nat) (R : Nat → List R3) : Int :=
  if (List.range N).any (fun i => decide (4096 < n i)) then 2 else if (List.range N).any (fun i => !okV (R i)) then 1 else if (List.range N).any (fun i => decide (n i ≠ n 0)) then 8 else 0
theorem any_no {N : Nat} {p : Nat → Bool} (h : ∀ j, j < N → p j = false) : (List.range N).any p = false := by
  rw [List.any_eq_false]
  intro x hx
  rw [h x (List.mem_range.1 hx)]
  simp
theorem any_yes {N : Nat} {p : Nat → Bool} {k : Nat} (hk : k < N) (h : p k = true) : (List.range N).any p = true := List.any_eq_true.2 ⟨k, List.mem_range.2 hk, h⟩
/-- a rational's lists lie elsewhere than the row that grows -/
theorem RdR.appended {w w' : World} {base k cv g tr : Nat} {V : Option Addr} {vs : List Value} {xs ys : List Int} {A B : Option Addr} {ca cb : Nat} (h : RdR w (fun b => V ≠ some ⟨b, 0, none⟩) xs ys A ca B cb) (ho : w.ownsRow base tr 3 (.slice V k cv) k vs)
    (hg : w.grownBy w' (Value.slice V k cv).ownBlock) (hat : (Value.slice V k cv).ownBlock = some g ∨ g = w.heap.size) : RdR w' (fun b => some (⟨g, 0, none⟩ : Addr) ≠ some ⟨b, 0, none⟩) xs ys A ca B cb := by
  have hform : ∀ b, (Value.slice V k cv).ownBlock = some b → V = some ⟨b, 0, none⟩ := by
    intro b hb
    rcases ho.2 with ⟨e, _⟩ | ⟨g', cap, cur, e, _⟩
    · injection e with e; subst e; cases hb
    · injection e with e; subst e; simp [Value.ownBlock] at hb; rw [hb]
  have h2 := h.mono (Q := fun b => V ≠ some ⟨b, 0, none⟩ ∧ some (⟨g, 0, none⟩ : Addr) ≠ some ⟨b, 0, none⟩) (fun b hb hl => ⟨hb, fun e => by
    injection e with e
    injection e with e
    subst e
    rcases hat with hat | hat
    · exact hb (hform _ hat)
    · omega⟩)
  exact (h2.keep hg.size fun b hb hl => hg.block b hl (fun e => hb.1 (hform b e.symm))).mono fun b hb _ => hb.2
theorem OwnE.appended {ti tr : TypeId} {w w' : World} {base base' k cv : Nat} {V : Option Addr} {vs : List Value} {r : EV} (h : OwnE ti w base r) (hne : ti ≠ tr) (ho : w.ownsRow base' tr 3 (.slice V k cv) k vs) (hg : w.grownBy w' (Value.slice V k cv).ownBlock) : OwnE ti w' base r := by
  have hno : ∀ b, r.has b → (Value.slice V k cv).ownBlock ≠ some b := by
    intro b hb e
    rcases ho.2 with ⟨e', _⟩ | ⟨g', cap, cur, e', _, hh, _⟩
    · injection e' with e'; subst e'; cases e
    · injection e' with e'
      subst e'
      simp [Value.ownBlock] at e
      subst e
      rcases hb with hb | hb
      · exact own_type h.1 hne hh hb
      · exact own_type h.2.1 hne hh hb
  exact ⟨own_at_block h.1 fun b hb => hg.block b (own_block h.1 hb).2 (fun e => hno b (.inl hb) e.symm), own_at_block h.2.1 fun b hb => hg.block b (own_block h.2.1 hb).2 (fun e => hno b (.inr hb) e.symm), h.2.2⟩
theorem rowed3_below {w w' : World} {base : Nat} {te : TypeId} {V : Option Addr} {n c : Nat} {xs : List Value} (ho : w.ownsRow base te 3 (.slice V n c) n xs) (hb : base ≤ w.heap.size) (hg : w.grownBy w' (Value.slice V n c).ownBlock) : Below base w w' :=
  ⟨hg.os, hg.tape, hg.output, hg.size, fun k hk => hg.block k (by omega) (fun e => by have := (ho.lt _ e.symm).1; omega)⟩
theorem own_mono3 {w : World} {base base' n size : Nat} {e : TypeId} {v : Value} {xs : List Value} (h : w.ownsRow base e size v n xs) (hb : base' ≤ base) : w.ownsRow base' e size v n xs := by
  rcases h with ⟨h1, h2 | ⟨g, cap, cur, e', hg, h3⟩⟩
  · exact ⟨h1, .inl h2⟩
  · exact ⟨h1, .inr ⟨g, cap, cur, e', Nat.le_trans hb hg, h3⟩⟩
theorem at0 {p : Nat → Prop} (h : p 0) : ∀ i, i < 1 → p i := by
  intro i hi
  obtain rfl : i = 0 := by omega
  exact h
theorem okV_out {rs : List R3} (h : okV rs = true) : 1 ≤ rs.length ∧ rs.length ≤ 4 ∧ ∃ qs : List Rat, rs = qs.map rat3 ∧ Fine qs := by
  unfold okV at h
  simp only [Bool.and_eq_true, decide_eq_true_eq] at h
  exact ⟨h.1.1, h.1.2, all_out h.2⟩
/-- what ScaleVec answers -/
def askV (n m : Nat) (rs ss : List R3) : Int := if 4096 < n ∨ 4096 < m then 2 else if okV rs && okV ss then (if n ≠ m then 8 else 0) else 1
/-- a struct's three cells -/
def C3 (w : World) (b k : Nat) (ng : Bool) (A : Option Addr) (la ca : Nat) (B : Option Addr) (lb cb : Nat) : Prop :=
  w.cell? ⟨b, k, none⟩ = some (.bool ng) ∧ w.cell? ⟨b, k + 1, none⟩ = some (.slice A la ca) ∧ w.cell? ⟨b, k + 2, none⟩ = some (.slice B lb cb)
theorem C3.on {w w' : World} {b k : Nat} {ng : Bool} {A : Option Addr} {la ca : Nat} {B : Option Addr} {lb cb : Nat} (h : C3 w b k ng A la ca B lb cb) (hb : b < w.heap.size) (hw : Below w.heap.size w w') : C3 w' b k ng A la ca B lb cb :=
  ⟨(hw.cell (p := ⟨b, k, none⟩) hb).trans h.1, (hw.cell (p := ⟨b, k + 1, none⟩) hb).trans h.2.1, (hw.cell (p := ⟨b, k + 2, none⟩) hb).trans h.2.2⟩
theorem C3.below {w w' : World} {N b k : Nat} {ng : Bool} {A : Option Addr} {la ca : Nat} {B : Option Addr} {lb cb : Nat} (h : C3 w b k ng A la ca B lb cb) (hb : b < N) (hw : Below N w w') : C3 w' b k ng A la ca B lb cb :=
  ⟨(hw.cell (p := ⟨b, k, none⟩) hb).trans h.1, (hw.cell (p := ⟨b, k + 1, none⟩) hb).trans h.2.1, (hw.cell (p := ⟨b, k + 2, none⟩) hb).trans h.2.2⟩
end Nt
namespace Go.Proofs.YtifepoefeamboaaGreatDoor
open Go Go.RowKit Nt

set_option maxHeartbeats 800000 in
theorem anyLongRat_any (g N : Nat) (A : Nat → Option Addr) (n c : Nat → Nat) (w : World) (hN : N ≤ 100) (h0 : ∀ i, i < N → w.cell? ⟨g, i, none⟩ = some (.slice (A i) (n i) (c i))) (hn : ∀ i, i < N → n i ≤ 1048576) :
    Calls Tryz.prog 98 #[.slice (some ⟨g, 0, none⟩) N N] w fun e w' => e = .returned (.bool ((List.range N).any fun i => decide (4096 < n i))) ∧ w = w' := by
  have H0 := Lib.hid h0
  have HN := Lib.hid hn
  clear h0 hn
  go_enter Tryz.func98, Tryz.ntmps98
  go_wp2
  go_loop [4, 7] (fun _ i => ∃ k : Nat, k ≤ N ∧ i = .int .i64 k ∧ Hid (∀ j, j < k → n j ≤ 4096)) (fun _ i => N - (intOf i).toNat)
  case atStart => exact ⟨0, Nat.zero_le _, rfl, Lib.hid fun j hj => by omega⟩
  case round =>
    obtain ⟨k, hk, rfl, HK⟩ := hrel
    by_cases hlt : k < N
    · have c0 := H0.out k hlt
      have hkN : (k : Int) < N := by omega
      have hnk := HN.out k hlt
      have HS : Hid (n k ≤ 4096 → ∀ j, j < k + 1 → n j ≤ 4096) := fun h j hj => by
        by_cases e : j = k
        · subst e; exact h
        · exact HK.out j (by omega)
      have HY : Hid (4096 < n k → (List.range N).any (fun i => decide (4096 < n i)) = true) := fun h => any_yes hlt (by simpa using h)
      generalize n k = m at *
      generalize A k = B at *
      generalize c k = d at *
      by_cases hb : 4096 < m
      · have hb' : decide ((4096 : Int) < m) = true := by simp; omega
        have HF := Lib.hid (HY.out hb)
        clear HY HS
        go_wp2
        go_ret
        exact ⟨ret_bool HF.out.symm, rfl⟩
      · have hb' : decide ((4096 : Int) < m) = false := by simp; omega
        have HF := Lib.hid (HS.out (by omega))
        clear HY HS
        go_wp2
        go_round
        case rel => exact ⟨k + 1, by omega, by go_num, HF⟩
        case measure => simp [intOf]; omega
    · have HF : Hid ((List.range N).any (fun i => decide (4096 < n i)) = false) := any_no fun j hj => by simpa using HK.out j (by omega)
      clear HK
      go_wp2
      go_ret
      exact ⟨ret_bool HF.out.symm, rfl⟩
set_option maxHeartbeats 1600000 in
theorem vecCode_any (g N : Nat) (A : Nat → Option Addr) (n c : Nat → Nat) (R : Nat → List R3) (w : World) (hN : N ≤ 100) (hN0 : 0 < N) (hg : g < w.heap.size) (h0 : ∀ i, i < N → w.cell? ⟨g, i, none⟩ = some (.slice (A i) (n i) (c i)))
    (hr : ∀ i, i < N → RdS w (· < w.heap.size) (A i) (n i) (c i) (R i)) (hs : ∀ i, i < N → Small (R i)) (hn : ∀ i, i < N → n i ≤ 1048576) :
    Calls Tryz.prog 79 #[.slice (some ⟨g, 0, none⟩) N N] w fun e w' => e = .returned (.int .i64 (vcode N n R)) ∧ Below w.heap.size w w' := by
  have H0 := Lib.hid h0
  have HR := Lib.hid hr
  have HS := Lib.hid hs
  have HN := Lib.hid hn
  clear h0 hr hs hn
  go_enter Tryz.func79, Tryz.ntmps79
  go_wp2_with fail
  refine (anyLongRat_any g N A n c w hN H0.out HN.out).mono ?_
  rintro e w1 ⟨rfl, rfl⟩
  by_cases hl : (List.range N).any (fun i => decide (4096 < n i)) = true
  · have HV : Hid (vcode N n R = 2) := by show _ = _; unfold vcode; rw [if_pos hl]
    rw [hl]
    clear hl
    go_wp2
    go_ret
    exact ⟨by rw [HV.out]; rfl, Below.refl _ _⟩
  have HV : Hid (vcode N n R = if (List.range N).any (fun i => !okV (R i)) then 1 else if (List.range N).any (fun i => decide (n i ≠ n 0)) then 8 else 0) := by show _ = _; unfold vcode; rw [if_neg hl]
  rw [(Bool.not_eq_true _).mp hl]
  clear hl
  go_wp2
  go_loopw [4, 11] (fun _ i wr => ∃ k : Nat, k ≤ N ∧ i = .int .i64 k ∧ Hid (∀ j, j < k → okV (R j) = true) ∧ Hid (Below w.heap.size w wr)) (fun _ i _ => N - (intOf i).toNat)
  case atStart => exact ⟨0, Nat.zero_le _, rfl, Lib.hid fun j hj => by omega, Lib.hid (Below.refl _ _)⟩
  case round =>
    obtain ⟨k, hk, rfl, HK, HB⟩ := hrel
    by_cases hlt : k < N
    · have c0 := (HB.out.cell (p := ⟨g, k, none⟩) hg).trans (H0.out k hlt)
      have hkN : (k : Int) < N := by omega
      have hnk := HN.out k hlt
      have HRk := Lib.hid ((HR.out k hlt).below HB.out)
      have HSk := Lib.hid (HS.out k hlt)
      have HSt : Hid (okV (R k) = true → ∀ j, j < k + 1 → okV (R j) = true) := fun h j hj => by
        by_cases e : j = k
        · subst e; exact h
        · exact HK.out j (by omega)
      have HY : Hid (okV (R k) = false → vcode N n R = 1) := fun h => by rw [HV.out, if_pos (any_yes hlt (by rw [h]; rfl))]
      generalize n k = m at *
      generalize A k = B at *
      generalize c k = d at *
      generalize R k = rs at *
      go_wp2_with fail
      refine (implVecOK_any B m d rs _ wr HRk.out HSk.out hnk).mono ?_
      rintro e w1 ⟨rfl, b1⟩
      have HB1 := Lib.hid (below_on HB.out b1)
      clear b1 c0
      by_cases ho : okV rs = true
      · have HF := Lib.hid (HSt.out ho)
        rw [ho]
        clear ho HSt HY
        go_wp2
        go_roundw
        case rel => exact ⟨k + 1, by omega, by go_num, HF, HB1⟩
        case measure => simp [intOf]; omega
      · have ho' := (Bool.not_eq_true _).mp ho
        have HF := Lib.hid (HY.out ho')
        rw [ho']
        clear ho ho' HSt HY
        go_wp2
        go_ret
        exact ⟨by rw [HF.out]; rfl, HB1.out⟩
    · have HV2 : Hid (vcode N n R = if (List.range N).any (fun i => decide (n i ≠ n 0)) then 8 else 0) := by
        show _ = _
        rw [HV.out, if_neg]
        rw [any_no fun j hj => by rw [HK.out j (by omega)]; rfl]
        exact Bool.false_ne_true
      have HB0 := HB
      clear HK HV
      go_wp2
      go_loopw [6, 21] (fun _ i ws => ∃ k : Nat, k ≤ N ∧ i = .int .i64 k ∧ Hid (∀ j, j < k → n j = n 0) ∧ ws = wr) (fun _ i _ => N - (intOf i).toNat)
      case atStart => exact ⟨0, Nat.zero_le _, rfl, Lib.hid fun j hj => by omega, rfl⟩
      case round =>
        obtain ⟨k, hk, rfl, HK, rfl⟩ := hrel
        by_cases hlt : k < N
        · have c0 := (HB0.out.cell (p := ⟨g, k, none⟩) hg).trans (H0.out k hlt)
          have c00 := (HB0.out.cell (p := ⟨g, 0, none⟩) hg).trans (H0.out 0 hN0)
          have hkN : (k : Int) < N := by omega
          have hN0' : (0 : Int) < N := by omega
          have hnk := HN.out k hlt
          have hn0 := HN.out 0 hN0
          have HSt : Hid (n k = n 0 → ∀ j, j < k + 1 → n j = n 0) := fun h j hj => by
            by_cases e : j = k
            · subst e; exact h
            · exact HK.out j (by omega)
          have HY : Hid (n k ≠ n 0 → vcode N n R = 8) := fun h => by rw [HV2.out, if_pos (any_yes hlt (by simpa using h))]
          by_cases he : n k = n 0
          · have hbe : ((n k : Int) != (n 0 : Int)) = false := by rw [he]; simp
            have HF := Lib.hid (HSt.out he)
            clear HSt HY he
            generalize n k = m at *
            generalize n 0 = m0 at *
            generalize A k = B at *
            generalize c k = d at *
            generalize A 0 = B0 at *
            generalize c 0 = d0 at *
            go_wp2
            go_roundw
            case rel => exact ⟨k + 1, by omega, by go_num, HF, (by first | trivial | rfl)⟩
            case measure => simp [intOf]; omega
          · have hbe : ((n k : Int) != (n 0 : Int)) = true := by simp; omega
            have HF := Lib.hid (HY.out he)
            clear HSt HY he
            generalize n k = m at *
            generalize n 0 = m0 at *
            generalize A k = B at *
            generalize c k = d at *
            generalize A 0 = B0 at *
            generalize c 0 = d0 at *
            go_wp2
            go_ret
            exact ⟨by rw [HF.out]; rfl, HB0.out⟩
        · have HF : Hid (vcode N n R = 0) := by
            show _ = _
            rw [HV2.out, if_neg]
            rw [any_no fun j hj => by simpa using HK.out j (by omega)]
            exact Bool.false_ne_true
          clear HK HV2
          go_wp2
          go_ret
          exact ⟨by rw [HF.out]; rfl, HB0.out⟩
end Go.Proofs.YtifepoefeamboaaGreatDoor
namespace Nt
open Go Go.RowKit
/-- a rational that can be read, in blocks that are new -/
def SayN (w : World) (neg : Bool) (xs ys : List Int) (e : Ending) (w' : World) : Prop :=
  ∃ A ca B cb, e = .returned (.agg #[.bool neg, .slice A xs.length ca, .slice B ys.length cb]) ∧ RdR w' (w.heap.size ≤ ·) xs ys A ca B cb ∧ Below w.heap.size w w'
/-- a natural in blocks from N on -/
def Nf (N : Nat) (w : World) (A : Option Addr) (c m : Nat) : Prop := Rd w (N ≤ ·) A (D m).length c (D m)
theorem Nf.on {N : Nat} {w w' : World} {A : Option Addr} {c m : Nat} (h : Nf N w A c m) (hb : Below w.heap.size w w') : Nf N w' A c m := Rd.keep h hb.size fun b _ hl => hb.block b hl
end Nt
namespace Go.Proofs.YtifepoefeamboaaGreatDoor
open Go Go.RowKit Nt

set_option maxHeartbeats 800000 in
theorem l02Make_new (neg : Bool) (A B : Option Addr) (la ca lb cb p q : Nat) (P Q : Nat → Prop) (w : World) (hx0 : Rd w P A la ca (D p)) (hy0 : Rd w Q B lb cb (D q)) (hla : la ≤ 9000) (hlb : lb ≤ 9000) (hq : 0 < q) :
    Calls Tryz.prog 124 #[.bool neg, .slice A la ca, .slice B lb cb] w (SayN w (isNeg (mkRat (sg neg p) q)) (D (nu (mkRat (sg neg p) q))) (D (mkRat (sg neg p) q).den)) := by
  have HX := Lib.hid (hx0.mono (Q := (· < w.heap.size)) fun _ _ h => h)
  have HY := Lib.hid (hy0.mono (Q := (· < w.heap.size)) fun _ _ h => h)
  have hyl := hy0.len
  have hg0 : 0 < Nat.gcd p q := Nat.gcd_pos_of_pos_right _ hq
  have hgl : (D (Nat.gcd p q)).length ≤ 9000 := by have := D_len_gcd p hq; omega
  clear hx0 hy0 hyl
  go_enter Tryz.func124, Tryz.ntmps124
  go_wp2_with fail
  refine calls_at (fun W => Below w.heap.size w W ∧ RatAt W w.heap.size 31 false none 0 0 none 0 0) ⟨below1 _ _, RatAt.new _ _ _ _ _ _ _ _ _⟩ ?_
  rintro W ⟨hb, r0⟩
  refine (l01Gcd_any A B la ca lb cb p q _ _ W (HX.out.below hb) (HY.out.below hb) hla hlb).mono ?_
  rintro e w1 hnew
  obtain ⟨A1, c1, rfl, m1, b1⟩ := new_of hnew
  have HB1 := Lib.hid (below_on hb b1)
  have HR1 := Lib.hid (r0.on b1)
  have HM1 := Lib.hid m1
  clear hnew hb r0 m1 b1
  go_wp2_with fail
  refine (l01Div_any A A1 la ca _ c1 p (Nat.gcd p q) _ _ w1 (HX.out.below HB1.out) HM1.out hla hgl hg0).mono ?_
  rintro e w2 ⟨A2, c2, A3, c3, rfl, o2, r2, b2⟩
  have HP : Hid (Nf w.heap.size w2 A2 c2 (p / Nat.gcd p q)) := (own_rd' o2).mono fun _ h _ => Nat.le_trans HB1.out.size h
  have HB2 := Lib.hid (below_on HB1.out b2)
  have HR2 := Lib.hid (HR1.out.on b2)
  have HM2 := Lib.hid (HM1.out.on b2)
  clear o2 r2 b2 HB1 HR1 HM1
  go_wp2_with fail
  refine (l01Div_any B A1 lb cb _ c1 q (Nat.gcd p q) _ _ w2 (HY.out.below HB2.out) HM2.out hlb hgl hg0).mono ?_
  rintro e w3 ⟨A4, c4, A5, c5, rfl, o3, r3, b3⟩
  have HQ3 : Hid (Nf w.heap.size w3 A4 c4 (q / Nat.gcd p q)) := (own_rd' o3).mono fun _ h _ => Nat.le_trans HB2.out.size h
  have HP3 := Lib.hid (HP.out.on b3)
  have HB3 := Lib.hid (below_on HB2.out b3)
  have HR3 := Lib.hid (HR2.out.on b3)
  clear o3 r3 b3 HB2 HR2 HM2 HP
  have f0 := HR3.out.fz 0
  have f1 := HR3.out.fz 1
  have f2 := HR3.out.fz 2
  have y0 := HR3.out.c0
  have y1 := HR3.out.c1
  have y2 := HR3.out.c2
  cases neg with
  | false =>
    have HE : Hid ((false && decide (0 < p / Nat.gcd p q)) = false) := Lib.hid rfl
    go_wp2
    have g2 := fun b => setAll_grown w3 w.heap.size (.bool b) (.slice A2 (D (p / Nat.gcd p q)).length c2) (.slice A4 (D (q / Nat.gcd p q)).length c4)
    refine bodyPost_ret (retR rfl _ _ _ rfl (HR3.out.setAll _ _ _ _ _ _ _)) rfl ?_
    obtain ⟨e1, e2, e3⟩ := mk_parts false p q hq
    rw [e1, e2, e3]
    exact ⟨A2, c2, A4, c4, by rw [HE.out], ⟨Rd.past HP3.out HR3.out (g2 _), Rd.past HQ3.out HR3.out (g2 _)⟩, below_grow HB3.out (Nat.le_refl _) (g2 _)⟩
  | true =>
    have HE : Hid ((true && decide (0 < p / Nat.gcd p q)) = decide (0 < (D (p / Nat.gcd p q)).length)) := by
      show _ = _
      rw [Bool.true_and]
      rcases Nat.eq_zero_or_pos (p / Nat.gcd p q) with h | h
      · rw [h]; rfl
      · rw [decide_eq_true h, decide_eq_true (D_len_pos h)]
    go_wp2
    have g2 := fun b => setAll_grown w3 w.heap.size (.bool b) (.slice A2 (D (p / Nat.gcd p q)).length c2) (.slice A4 (D (q / Nat.gcd p q)).length c4)
    refine bodyPost_ret (retR rfl _ _ _ rfl (HR3.out.setAll _ _ _ _ _ _ _)) rfl ?_
    obtain ⟨e1, e2, e3⟩ := mk_parts true p q hq
    rw [e1, e2, e3]
    exact ⟨A2, c2, A4, c4, by rw [HE.out], ⟨Rd.past HP3.out HR3.out (g2 _), Rd.past HQ3.out HR3.out (g2 _)⟩, below_grow HB3.out (Nat.le_refl _) (g2 _)⟩

end Go.Proofs.YtifepoefeamboaaGreatDoor
namespace Nt
open Go Go.RowKit
end Nt
namespace Go.Proofs.YtifepoefeamboaaGreatDoor
open Go Go.RowKit Nt

end Go.Proofs.YtifepoefeamboaaGreatDoor
namespace Nt
open Go Go.RowKit
theorem take_map_snoc (qs : List Rat) (f : Rat → R3) (k : Nat) (h : k < qs.length) : (qs.take (k + 1)).map f = (qs.take k).map f ++ [f (qs.getD k 0)] := by
  rw [List.take_succ_eq_append_getElem h, List.map_append]
  simp [List.getD, h]
theorem cells3 (w : World) (t : TypeId) (x : Bool) (A : Option Addr) (n c : Nat) (B : Option Addr) (m d : Nat) : ∀ j u, [Value.bool x, .slice A n c, .slice B m d][j]? = some u → (w.alloc (.cells #[.bool x, .slice A n c, .slice B m d] t)).cell? ((⟨w.heap.size, 0, none⟩ : Addr).add j) = some u := by
  intro j u hj
  have h := RatAt.new w t x A B n c m d
  rw [add_none]
  match j, hj with
  | 0, hj => simp at hj; subst hj; exact h.c0
  | 1, hj => simp at hj; subst hj; exact h.c1
  | 2, hj => simp at hj; subst hj; exact h.c2
  | (k + 3), hj => simp at hj
theorem cells3b (w : World) (t : TypeId) (x : Bool) (A : Option Addr) (n c : Nat) (B : Option Addr) (m d H : Nat) (hH : w.heap.size = H) : ∀ j u, [Value.bool x, .slice A n c, .slice B m d][j]? = some u → (w.alloc (.cells #[.bool x, .slice A n c, .slice B m d] t)).cell? ((⟨H, 0, none⟩ : Addr).add j) = some u := by
  subst hH
  exact cells3 w t x A n c B m d
/-- a vector's answer: what is too long is told -/
def fV (ps : List Rat) : List R3 := if ps.all (fun p => decide (fitQ p)) then ps.map rat3 else []
def fVK (ps : List Rat) : Int := if ps.all (fun p => decide (fitQ p)) then 0 else 7
theorem fV_no {ps : List Rat} {k : Nat} (hk : k < ps.length) (h : ¬ fitQ (ps.getD k 0)) : fV ps = [] ∧ fVK ps = 7 := by
  have e : ps.all (fun p => decide (fitQ p)) = false := by
    rw [Bool.eq_false_iff]
    intro ha
    rw [List.all_eq_true] at ha
    have e : ps.getD k 0 = ps[k] := by simp [List.getD, hk]
    rw [e] at h
    exact h (of_decide_eq_true (ha _ (List.getElem_mem hk)))
  unfold fV fVK
  rw [e]
  exact ⟨rfl, rfl⟩
theorem fV_yes {ps : List Rat} (h : ∀ j, j < ps.length → fitQ (ps.getD j 0)) : fV ps = ps.map rat3 ∧ fVK ps = 0 := by
  have e : ps.all (fun p => decide (fitQ p)) = true := by
    rw [List.all_eq_true]
    intro p hp
    obtain ⟨i, hi, rfl⟩ := List.mem_iff_getElem.1 hp
    have := h i hi
    rw [show ps.getD i 0 = ps[i] from by simp [List.getD, hi]] at this
    exact decide_eq_true this
  unfold fV fVK
  rw [e]
  exact ⟨rfl, rfl⟩
/-- a vector of the call's own, and a code -/
def RetVC (tr ti : TypeId) (w : World) (rs : List R3) (code : Int) (e : Ending) (w' : World) : Prop :=
  ∃ V d L, e = .returned (.tuple #[.slice V rs.length d, .int .i64 code]) ∧ OwnV tr ti w' w.heap.size V rs.length d L ∧ L.map EV.v3 = rs ∧ Below w.heap.size w w'
/-- a vector that can be read, and a code -/
def SayVC (w : World) (rs : List R3) (code : Int) (e : Ending) (w' : World) : Prop :=
  ∃ V d, e = .returned (.tuple #[.slice V rs.length d, .int .i64 code]) ∧ RdS w' (fun _ => True) V rs.length d rs ∧ Below w.heap.size w w'
theorem one3 (x : Bool) (A : Option Addr) (n c : Nat) (B : Option Addr) (m d : Nat) : ∀ u ∈ [Value.bool x, .slice A n c, .slice B m d], u.oneCell' = true := by
  intro u hu
  simp at hu
  rcases hu with rfl | rfl | rfl <;> rfl
/-- elements that can be read beside a row of the call's own -/
def PartsRd (w : World) (V : Option Addr) (L : List EV) : Prop := ∀ i, i < L.length → RdR w (fun b => V ≠ some ⟨b, 0, none⟩) (L.getD i e0).xs (L.getD i e0).ys (L.getD i e0).A (L.getD i e0).ca (L.getD i e0).B (L.getD i e0).cb
theorem PartsRd.on {w w' : World} {V : Option Addr} {L : List EV} (h : PartsRd w V L) (hb : Below w.heap.size w w') : PartsRd w' V L := fun i hi => (h i hi).on hb
theorem PartsRd.snoc {w : World} {V : Option Addr} {L : List EV} {r : EV} (h : PartsRd w V L) (hr : RdR w (fun b => V ≠ some ⟨b, 0, none⟩) r.xs r.ys r.A r.ca r.B r.cb) : PartsRd w V (L ++ [r]) := by
  intro i hi
  by_cases e : i < L.length
  · rw [getD_snoc_lt L r i e]; exact h i e
  · obtain rfl : i = L.length := by simp at hi; omega
    rw [getD_snoc_eq]; exact hr
theorem PartsRd.appended {w w' : World} {base k cv g tr : Nat} {V : Option Addr} {vs : List Value} {L : List EV} (h : PartsRd w V L) (ho : w.ownsRow base tr 3 (.slice V k cv) k vs) (hg : w.grownBy w' (Value.slice V k cv).ownBlock) (hat : (Value.slice V k cv).ownBlock = some g ∨ g = w.heap.size) : PartsRd w' (some ⟨g, 0, none⟩) L :=
  fun i hi => (h i hi).appended ho hg hat
theorem row_ne {w : World} {base k cv tr N : Nat} {V : Option Addr} {vs : List Value} (ho : w.ownsRow base tr 3 (.slice V k cv) k vs) (hN : w.heap.size ≤ N) : ∀ b, N ≤ b → V ≠ some ⟨b, 0, none⟩ := by
  rintro b hb rfl
  have := (ho.lt b rfl).2
  omega
theorem PartsRd.rds {w : World} {base n c tr : Nat} {V : Option Addr} {L : List EV} (h : PartsRd w V L) (ho : w.ownsRow base tr 3 (.slice V n c) n (flat L)) : RdS w (fun _ => True) V n c (L.map EV.v3) :=
  rds_of ho _ (fun _ _ => trivial) fun i hi => (h i hi).mono fun _ _ _ => trivial
end Nt
namespace Go.Proofs.YtifepoefeamboaaGreatDoor
open Go Go.RowKit Nt

set_option maxHeartbeats 3200000 in
theorem fittedVec_any (ps : List Rat) (X : Option Addr) (n c : Nat) (P' : Nat → Prop) (w : World) (hx : RdS w P' X n c (ps.map rat3)) (hl : ∀ p ∈ ps, (D (nu p)).length ≤ 16777216 ∧ (D p.den).length ≤ 16777216) (hn : n ≤ 100) :
    Calls Tryz.prog 78 #[.slice X n c] w (RetVC 31 3 w (fV ps) (fVK ps)) := by
  have HX := Lib.hid hx.low
  have HQ := Lib.hid hl
  have HL : Hid (ps.length = n) := by have := hx.len; rw [List.length_map] at this; exact this
  clear hx hl
  go_enter Tryz.func78, Tryz.ntmps78
  go_wp2
  go_loopw [4, 11] (fun v i wr => ∃ (k : Nat) (V : Option Addr) (cv : Nat) (L : List EV), k ≤ n ∧ i = .int .i64 k ∧ v = .slice V k cv ∧ Hid (∀ j, j < k → fitQ (ps.getD j 0)) ∧ Hid (L.map EV.v3 = (ps.take k).map rat3) ∧ Hid (wr.ownsRow w.heap.size 31 3 (.slice V k cv) k (flat L)) ∧ Hid (Parts 3 wr w.heap.size L) ∧ Hid (Below w.heap.size w wr)) (fun _ i _ => n - (intOf i).toNat)
  case atStart => exact ⟨0, none, 0, [], Nat.zero_le _, rfl, rfl, Lib.hid (fun j hj => by omega), Lib.hid rfl, Lib.hid (World.ownsRow_nil _ _ _ _), Lib.hid ⟨fun i hi => by simp at hi, fun i j _ hj => by simp at hj⟩, Lib.hid (Below.refl _ _)⟩
  case round =>
    obtain ⟨k, V, cv, L, hk, rfl, rfl, HFt, HV, HO, HP, HB⟩ := hrel
    by_cases hlt : k < n
    · obtain ⟨b, o, rfl, hP, _, hc⟩ := HX.out.at_ (by omega)
      obtain ⟨Ai, da, Bi, db, q0, q1, q2, hrd⟩ := hc k hlt
      have hkq : k < ps.length := by rw [HL.out]; exact hlt
      rw [getD_rat ps k hkq] at q0 q1 q2 hrd
      have c0 := (HB.out.cell (p := ⟨b, o + k * 3, none⟩) hP).trans q0
      have c1 := (HB.out.cell (p := ⟨b, o + k * 3 + 1, none⟩) hP).trans q1
      have c2 := (HB.out.cell (p := ⟨b, o + k * 3 + 2, none⟩) hP).trans q2
      have HTK := Lib.hid (take_map_snoc ps rat3 k hkq)
      have hfin : (D (nu (ps.getD k 0))).length ≤ 16777216 ∧ (D (ps.getD k 0).den).length ≤ 16777216 := HQ.out _ (by rw [show ps.getD k 0 = ps[k] from by simp [List.getD, hkq]]; exact List.getElem_mem hkq)
      have HRD := Lib.hid hrd
      have hkN : (k : Int) < n := by omega
      have HYES : Hid (fitQ (ps.getD k 0) → ∀ j, j < k + 1 → fitQ (ps.getD j 0)) := fun h j hj => by
        by_cases e : j = k
        · subst e; exact h
        · exact HFt.out j (by omega)
      have HNO : Hid (¬ fitQ (ps.getD k 0) → fV ps = [] ∧ fVK ps = 7) := fun h => fV_no hkq h
      clear q0 q1 q2 hc hrd hkq
      generalize ps.getD k 0 = p at *
      simp only [rat3] at c0 c1 c2
      have hbs := HB.out.size
      go_wp2_with fail
      refine calls_at (fun W => Below wr.heap.size wr W ∧ W.heap.size = wr.heap.size + 1) ⟨below1 _ _, by simp⟩ ?_
      rintro W ⟨bW, sW⟩
      have HBW1 := Lib.hid (below_on HB.out bW)
      refine (fitted_any p Ai Bi da db _ W (RdR.below HRD.out HBW1.out) hfin.1 hfin.2).mono ?_
      rintro e w1 ⟨A1, c1', B1, d1, rfl, o1, b1⟩
      have bWw := below_on bW b1
      have HB1 := Lib.hid (below_on HBW1.out b1)
      have hs1 : wr.heap.size + 1 ≤ w1.heap.size := by have := b1.size; omega
      by_cases hf : fitQ p
      · have e1 : fN p = isNeg p := by unfold fN; rw [if_pos hf]
        have e2 : fX p = D (nu p) := by unfold fX; rw [if_pos hf]
        have e3 : fY p = D p.den := by unfold fY; rw [if_pos hf]
        have e4 : fK p = 0 := by unfold fK; rw [if_pos hf]
        rw [e2, e3] at o1
        rw [e1, e2, e3, e4]
        have HO1 := Lib.hid (own_keep3 HO.out bWw)
        have HN1 : Hid (OwnE 3 w1 W.heap.size (EV.mk (isNeg p) A1 c1' B1 d1 (D (nu p)) (D p.den))) := o1
        have HP1 : Hid (Parts 3 w1 w.heap.size (L ++ [EV.mk (isNeg p) A1 c1' B1 d1 (D (nu p)) (D p.den)])) :=
          parts_snoc (fun i hi => (HP.out.1 i hi).on bWw) HP.out.2 (fun i hi g hg => by have := OwnR.lt (HP.out.1 i hi) g hg; omega) HN1.out (by omega)
        have HV1 : Hid ((L ++ [EV.mk (isNeg p) A1 c1' B1 d1 (D (nu p)) (D p.den)]).map EV.v3 = (ps.take (k + 1)).map rat3) := by
          show _ = _
          rw [List.map_append, HV.out, HTK.out]
          rfl
        have HFt1 := Lib.hid (HYES.out hf)
        clear o1 b1 bW bWw HBW1 HN1 HP HV HTK HO c0 c1 c2 HRD HYES HNO HFt e1 e2 e3 e4 hf
        obtain ⟨i0, hi0, hz0, hz1, hz2⟩ := info_parts infoRat
        go_wp2_with (at_builtin; refine wpList_append_lies _ rfl _ _ 27 rfl w.heap.size 31 i0 _ 3 56 Tryz.underlying27 hi0 hz0 hz1 hz2 rfl (by decide) _ k _ rfl ((HO1.out.alloc _).alloc _) ⟨w1.heap.size + 1, 0, none⟩ 1 1 [.bool (isNeg p), .slice A1 (D (nu p)).length c1', .slice B1 (D p.den).length d1] rfl rfl (cells3b _ _ _ _ _ _ _ _ _ _ (by simp)) (one3 _ _ _ _ _ _ _) (by decide) (by unfold maxLen; omega) (by omega) (by simp; omega) _ rfl ?_; intro g' cv' w2 hown hgrow hat hlt2)
        have hlit := below_on (below1 w1 (.cells #[.bool (isNeg p), .slice A1 (D (nu p)).length c1', .slice B1 (D p.den).length d1] 31)) (below1 _ (.cells #[.bool (isNeg p), .slice A1 (D (nu p)).length c1', .slice B1 (D p.den).length d1] 31))
        have HO2 : Hid (w2.ownsRow w.heap.size 31 3 (.slice (some ⟨g', 0, none⟩) (k + 1) cv') (k + 1) (flat (L ++ [EV.mk (isNeg p) A1 c1' B1 d1 (D (nu p)) (D p.den)]))) := by rw [flat_snoc]; exact hown
        have HP2 : Hid (Parts 3 w2 w.heap.size (L ++ [EV.mk (isNeg p) A1 c1' B1 d1 (D (nu p)) (D p.den)])) := ⟨fun i hi => ((HP1.out.1 i hi).on hlit).appended (by decide) ((HO1.out.alloc _).alloc _) hgrow, HP1.out.2⟩
        have HB2 := Lib.hid ((below_on HB1.out hlit).trans (rowed3_below ((HO1.out.alloc _).alloc _) (by simp; omega) hgrow))
        clear hown hgrow hat hlt2 hlit HP1 HO1 HB1
        go_wp2
        go_roundw
        case rel => exact ⟨k + 1, _, _, _, by omega, by go_num, rfl, HFt1, HV1, HO2, HP2, HB2⟩
        case measure => simp [intOf]; omega
      · have e4 : fK p = 7 := by unfold fK; rw [if_neg hf]
        rw [e4]
        have HE := Lib.hid (HNO.out hf)
        generalize fX p = xs' at *
        generalize fY p = ys' at *
        generalize fN p = n' at *
        have HBL := Lib.hid (below_on HB1.out (below1 w1 (.cells #[.bool n', .slice A1 xs'.length c1', .slice B1 ys'.length d1] 31)))
        clear o1 b1 bW bWw HBW1 HP HV HTK HO c0 c1 c2 HRD HYES HNO HFt e4 hf HB1
        go_wp2
        go_ret2
        rw [HE.out.1, HE.out.2]
        exact ⟨none, 0, [], rfl, ⟨World.ownsRow_nil _ _ _ _, fun i hi => by simp at hi, fun i j _ hj => by simp at hj⟩, rfl, HBL.out⟩
    · obtain rfl : k = n := by omega
      have HF : Hid (fV ps = ps.map rat3 ∧ fVK ps = 0) := fV_yes fun j hj => HFt.out j (by have := HL.out; omega)
      have HV' : Hid (L.map EV.v3 = ps.map rat3) := by
        show _ = _
        rw [HV.out, List.take_of_length_le (by rw [HL.out]; exact Nat.le_refl _)]
      clear HV HFt
      go_wp2
      go_ret2
      rw [HF.out.1, HF.out.2]
      refine ⟨V, cv, L, ?_, ?_, HV'.out, HB.out⟩
      · rw [List.length_map, HL.out]; rfl
      · rw [List.length_map, HL.out]; exact ⟨HO.out, HP.out.1, HP.out.2⟩
end Go.Proofs.YtifepoefeamboaaGreatDoor
namespace Nt
open Go Go.RowKit
theorem JAt.keep {tF tM : TypeId} {w w' : World} {P : Nat → Prop} (hs : w.heap.size ≤ w'.heap.size) (hk : ∀ b, P b → b < w.heap.size → w'.heap[b]? = w.heap[b]?) : ∀ {j : Jt} {v : Value}, JAt tF tM w P j v → JAt tF tM w' P j v
  | .fx _, _, ⟨A, ca, B, cb, e, h⟩ => ⟨A, ca, B, cb, e, h.keep hs hk⟩
  | .mv _ _, _, ⟨va, vs, e, h1, h2⟩ => ⟨va, vs, e, JAt.keep hs hk h1, JAt.keep hs hk h2⟩
theorem row_form {w : World} {base k cv g tr sz : Nat} {V : Option Addr} {vs : List Value} (ho : w.ownsRow base tr sz (.slice V k cv) k vs) (hb : (Value.slice V k cv).ownBlock = some g) : V = some ⟨g, 0, none⟩ := by
  rcases ho.2 with ⟨e, _⟩ | ⟨g', cap, cur, e, _⟩
  · injection e with e; subst e; cases hb
  · injection e with e; subst e; simp [Value.ownBlock] at hb; rw [hb]
/-- a jet's numbers lie elsewhere than the row that grows -/
theorem JAt.appended {tF tM : TypeId} {w w' : World} {base k cv g tr sz : Nat} {V : Option Addr} {vs : List Value} {j : Jt} {v : Value} (h : JAt tF tM w (fun b => V ≠ some ⟨b, 0, none⟩) j v) (ho : w.ownsRow base tr sz (.slice V k cv) k vs)
    (hg : w.grownBy w' (Value.slice V k cv).ownBlock) (hat : (Value.slice V k cv).ownBlock = some g ∨ g = w.heap.size) : JAt tF tM w' (fun b => some (⟨g, 0, none⟩ : Addr) ≠ some ⟨b, 0, none⟩) j v := by
  have h2 := h.mono (Q := fun b => V ≠ some ⟨b, 0, none⟩ ∧ some (⟨g, 0, none⟩ : Addr) ≠ some ⟨b, 0, none⟩) (fun b hb hl => ⟨hb, fun e => by
    injection e with e
    injection e with e
    subst e
    rcases hat with hat | hat
    · exact hb (row_form ho hat)
    · omega⟩)
  exact (h2.keep hg.size fun b hb hl => hg.block b hl (fun e => hb.1 (row_form ho e.symm))).mono fun b hb _ => hb.2
theorem row_at1 {w : World} {base n c tr sz : Nat} {V : Option Addr} {xs : List Value} (h : w.ownsRow base tr sz (.slice V n c) n xs) (hn : 0 < n) : ∃ g, V = some ⟨g, 0, none⟩ ∧ base ≤ g ∧ g < w.heap.size ∧ n ≤ c := by
  rcases h.2 with ⟨e, h0⟩ | ⟨g, cap, cur, e', hb, hh, hc, _⟩
  · omega
  · injection e' with e1 e2 e3
    have := h.lt g (by rw [e1]; rfl)
    exact ⟨g, e1, hb, this.2, by omega⟩
/-- jets that can be read, beside a row of the call's own -/
def PartsJ (tF tM : TypeId) (w : World) (V : Option Addr) (js : List Jt) (vs : List Value) : Prop :=
  js.length = vs.length ∧ ∀ i, i < vs.length → ∃ t x, vs.getD i .nilIface = .iface t x ∧ JAt tF tM w (fun b => V ≠ some ⟨b, 0, none⟩) (js.getD i j0) (.iface t x)
section
variable {tF tM : TypeId} {w w' : World} {V : Option Addr} {js : List Jt} {vs : List Value}
theorem PartsJ.nil (tF tM : TypeId) (w : World) (V : Option Addr) : PartsJ tF tM w V [] [] := ⟨rfl, fun i hi => by simp at hi⟩
theorem PartsJ.on (h : PartsJ tF tM w V js vs) (hb : Below w.heap.size w w') : PartsJ tF tM w' V js vs := ⟨h.1, fun i hi => by
  obtain ⟨t, x, e, hj⟩ := h.2 i hi
  exact ⟨t, x, e, hj.on hb⟩⟩
theorem getDJ_snoc (js : List Jt) (j : Jt) (i : Nat) (h : i < js.length) : (js ++ [j]).getD i j0 = js.getD i j0 := by simp [List.getD, List.getElem?_append_left h]
theorem getDJ_last (js : List Jt) (j : Jt) : (js ++ [j]).getD js.length j0 = j := by simp [List.getD]
theorem getDV_snoc (vs : List Value) (v : Value) (i : Nat) (h : i < vs.length) : (vs ++ [v]).getD i .nilIface = vs.getD i .nilIface := by simp [List.getD, List.getElem?_append_left h]
theorem getDV_last (vs : List Value) (v : Value) : (vs ++ [v]).getD vs.length .nilIface = v := by simp [List.getD]
theorem PartsJ.snoc {j : Jt} {t : TypeId} {x : Value} (h : PartsJ tF tM w V js vs) (hj : JAt tF tM w (fun b => V ≠ some ⟨b, 0, none⟩) j (.iface t x)) : PartsJ tF tM w V (js ++ [j]) (vs ++ [.iface t x]) := by
  refine ⟨by simp [h.1], fun i hi => ?_⟩
  by_cases e : i < vs.length
  · rw [getDV_snoc _ _ _ e, getDJ_snoc _ _ _ (by rw [h.1]; exact e)]; exact h.2 i e
  · obtain rfl : i = vs.length := by simp at hi; omega
    refine ⟨t, x, getDV_last _ _, ?_⟩
    rw [← h.1, getDJ_last]; exact hj
theorem PartsJ.appended {base k cv g tr sz : Nat} {us : List Value} (h : PartsJ tF tM w V js vs) (ho : w.ownsRow base tr sz (.slice V k cv) k us) (hg : w.grownBy w' (Value.slice V k cv).ownBlock) (hat : (Value.slice V k cv).ownBlock = some g ∨ g = w.heap.size) : PartsJ tF tM w' (some ⟨g, 0, none⟩) js vs :=
  ⟨h.1, fun i hi => by
    obtain ⟨t, x, e, hj⟩ := h.2 i hi
    exact ⟨t, x, e, hj.appended ho hg hat⟩⟩
/-- the slice reads as the jets js -/
def RdJ (tF tM : TypeId) (w : World) (A : Option Addr) (n c : Nat) (js : List Jt) : Prop :=
  js.length = n ∧ n ≤ c ∧ (0 < n → ∃ b o, A = some ⟨b, o, none⟩ ∧ b < w.heap.size ∧ ∀ i, i < n → ∃ t x, w.cell? ⟨b, o + i, none⟩ = some (.iface t x) ∧ JAt tF tM w (fun _ => True) (js.getD i j0) (.iface t x))
theorem RdJ.on {A : Option Addr} {n c : Nat} (h : RdJ tF tM w A n c js) (hb : Below w.heap.size w w') : RdJ tF tM w' A n c js :=
  ⟨h.1, h.2.1, fun hn => by
    obtain ⟨b, o, e, hl, hc⟩ := h.2.2 hn
    refine ⟨b, o, e, Nat.lt_of_lt_of_le hl hb.size, fun i hi => ?_⟩
    obtain ⟨t, x, h1, h2⟩ := hc i hi
    exact ⟨t, x, (World.cell?_of_block (a := ⟨b, o + i, none⟩) (hb.block _ hl)).trans h1, h2.on hb⟩⟩
theorem PartsJ.rdj {base n c tr : Nat} (h : PartsJ tF tM w V js vs) (ho : w.ownsRow base tr 1 (.slice V n c) n vs) : RdJ tF tM w V n c js := by
  have hl : vs.length = n := by have := ho.1; omega
  refine ⟨by rw [h.1, hl], ?_, fun hn => ?_⟩
  · rcases ho.2 with ⟨e, h0⟩ | ⟨g, cap, cur, e', hb, hh, hc, _⟩
    · omega
    · injection e' with e1 e2 e3
      omega
  · obtain ⟨g, rfl, hb, hlt, _⟩ := row_at1 ho hn
    refine ⟨g, 0, rfl, hlt, fun i hi => ?_⟩
    obtain ⟨t, x, e, hj⟩ := h.2 i (by omega)
    refine ⟨t, x, ?_, hj.mono fun _ _ _ => trivial⟩
    rw [Nat.zero_add]
    have e2 : vs[i]? = some (.iface t x) := by
      rw [← e]; simp [List.getD, hl, hi]
    exact (ho.cellAt i (by omega)).trans e2
end
theorem oneJ (t : TypeId) (x : Value) : ∀ u ∈ [Value.iface t x], u.oneCell' = true := by
  intro u hu
  simp at hu
  subst hu; rfl
theorem cellJ (w : World) (t : TypeId) (v : Value) : ∀ j u, [v][j]? = some u → (w.alloc (.cells #[v] t)).cell? ((⟨w.heap.size, 0, none⟩ : Addr).add j) = some u := by
  intro j u hj
  rw [add_none]
  match j, hj with
  | 0, hj => simp at hj; subst hj; rw [cell_of_row _ _ 0 _ _ (0, 0) (heap_alloc_new w _)]; rfl
  | (k + 1), hj => simp at hj
/-- as a row's new neighbour is made ahead of it -/
theorem row1_below {w w' : World} {base : Nat} {te : TypeId} {sz : Nat} {V : Option Addr} {n c : Nat} {xs : List Value} (ho : w.ownsRow base te sz (.slice V n c) n xs) (hb : base ≤ w.heap.size) (hg : w.grownBy w' (Value.slice V n c).ownBlock) : Below base w w' :=
  ⟨hg.os, hg.tape, hg.output, hg.size, fun k hk => hg.block k (by omega) (fun e => by have := (ho.lt _ e.symm).1; omega)⟩
end Nt
namespace Nt
/-- the children lie ahead of place k -/
def behind (x : Nd) (k : Int) : Bool := (!(two x.1 || one x.1) || (decide (0 ≤ x.2.1) && decide (x.2.1 < k))) && (!two x.1 || (decide (0 ≤ x.2.2.1) && decide (x.2.2.1 < k)))
def stepN (x : Nd) (k : Int) : Bool := fitN x && behind x k
/-- no two of the first m are alike -/
def Lone (ns : List Nd) (m : Nat) : Prop := ∀ i, i < m → ∀ j, j < i → ns.getD j nd0 ≠ ns.getD i nd0
instance (ns : List Nd) (m : Nat) : Decidable (Lone ns m) := inferInstanceAs (Decidable (∀ i, i < m → ∀ j, j < i → ns.getD j nd0 ≠ ns.getD i nd0))
def AllSt (ns : List Nd) (m : Nat) : Prop := ∀ i, i < m → stepN (ns.getD i nd0) i = true
instance (ns : List Nd) (m : Nat) : Decidable (AllSt ns m) := inferInstanceAs (Decidable (∀ i, i < m → stepN (ns.getD i nd0) i = true))
/-- where x is among the first m, or -1 -/
def findN (ns : List Nd) (x : Nd) : Nat → Int
  | 0 => -1
  | m + 1 => if 0 ≤ findN ns x m then findN ns x m else if ns.getD m nd0 = x then (m : Int) else -1
/-- a node with its children's steps -/
def wired (at_ : List Int) (x : Nd) : Nd := (x.1, if two x.1 || one x.1 then at_.getD x.2.1.toNat 0 else x.2.1, if two x.1 then at_.getD x.2.2.1.toNat 0 else x.2.2.1, x.2.2.2)
def cstep (S : List Nd × List Int) (x : Nd) : List Nd × List Int :=
  if findN S.1 (wired S.2 x) S.1.length < 0 then (S.1 ++ [wired S.2 x], S.2 ++ [(S.1.length : Int)]) else (S.1, S.2 ++ [findN S.1 (wired S.2 x) S.1.length])
def comp (ns : List Nd) : List Nd × List Int := ns.foldl cstep ([], [])
end Nt
namespace Nt
theorem okE_steps {ns : List Nd} (h : okE ns = true) : AllSt ns ns.length := by
  obtain ⟨_, _, hf, ts, _, _, hT, hl, _, _⟩ := okE_out h
  intro i hi
  have h1 := hf i hi
  obtain ⟨t2, t1, _⟩ := hT i (by omega)
  generalize ns.getD i nd0 = x at *
  obtain ⟨op, a, b, n⟩ := x
  dsimp only at t1 t2
  unfold stepN behind
  rw [h1]
  dsimp only
  cases e2 : two op with
  | true =>
    obtain ⟨p, q, rfl, rfl, hp, hq, _⟩ := t2 e2
    simp
    omega
  | false =>
    cases e1 : one op with
    | true =>
      obtain ⟨p, rfl, hp, _⟩ := t1 e2 e1
      simp
      omega
    | false => rfl
end Nt
