/-
  A range over a function whose iterator writes into memory of its own.
-/
import Derived.RangeFuncNested
import Derived.RangeFuncBox
namespace Nt
open Go Go.RowKit
/-- an invariant that bears what an iterator turns: objects of the sort Ok, laid from block B on -/
def Bides {β : Type} (B : Nat) (Ok : Obj → Bool) (J : β → World → Prop) : Prop :=
  ∀ s W W' row, J s W → W.grownBy W' row → (∀ r, row = some r → B ≤ r ∧ ∃ o : Obj, W.heap[r]? = some o ∧ Ok o = true) → J s W'
/-- an iterator that yields S's list, whatever bides; Kp: what a round leaves it -/
def SeqOwn {α : Type} (Ok : Obj → Bool) (F : Fence) (n : Nat) (P : Program) (g : Nat) (lb : Array Value) (encs : α → Array Value) (Kp : World → World → Prop) (S : List α → Prop) (N : Nat) (w : World) : Prop :=
  ∀ (l : Nat) (J : List α → World → Prop) (W : World), Below w.heap.size w W → Bides W.heap.size Ok J →
    (∀ pre x W1, J pre W1 → pre.length < N → YieldAt F (n - 1) P l (encs x) W1 fun e W' => e = .returned (.bool true) ∧ J (pre ++ [x]) W' ∧ Kp W1 W') →
    J [] W → CallsIn F n P g (#[.func (.yield l) #[] #[]] ++ lb) W fun e W' => (∃ v, e = .returned v) ∧ ∃ xs, S xs ∧ J xs W'
/-- how a round ends here: by its end alone -/
def roundOwn {α : Type} (B : Nat) (Kp : World → World → Prop) (I : List α → World → Prop) (xs : List α) (W : World) : Exit → Act → World → Prop
  | .normal, _, W' => KeepsFrom B W W' ∧ Kp W W' ∧ I xs W'
  | _, _, _ => False
theorem put_grown (W : World) (l : Nat) (o : Obj) : W.grownBy (W.putObj l o) (some l) := grownBy_putObj' W l o
theorem range_own {F : Fence} {n : Nat} {P : Program} {α : Type} (Ok : Obj → Bool) {g : Operand} {ps : Array Tmp} {assign body : Code} {Q : Exit → Act → World → Prop} {a : Act} {w : World}
    (hro : F.round = none) (h1 : 1 ≤ n) {gf : Nat} {lb : Array Value} (hg : a.eval g = .func (.func gf) #[] lb) (hFg : F.fn gf) (eg : ∀ args w, (callFunc gf args).run P w = .ok (.enter gf args) w)
    {encs : α → Array Value} {Kp : World → World → Prop} {S : List α → Prop} {N : Nat} {w0 : World} (hseq : SeqOwn Ok F (n - 1) P gf lb encs Kp S N w0)
    (hKt : ∀ {A B C : World}, Kp A B → Kp B C → Kp A C) (hKb : ∀ (W : World) (l : Nat) (r r' : Loop), w.heap.size ≤ l → W.heap[l]? = some (.loop r) → Kp W (W.putObj l (.loop r'))) (hb0 : Below w0.heap.size w0 w) (hps : ∀ x, (encs x).size = ps.size)
    (I : List α → World → Prop) (hI : ∀ s W W' row, I s W → W.grownBy W' row → (∀ r, row = some r → w.heap.size ≤ r ∧ ∃ o : Obj, W.heap[r]? = some o ∧ (o.isCells = false ∨ Ok o = true)) → I s W') (h0 : I [] w)
    (Ax : α → Act → World → Prop) (hAx : ∀ x a' W W' l r, Ax x a' W → W.heap[l]? = some (.loop r) → W.grownBy W' (some l) → Ax x a' W')
    (hassign : ∀ (l : Nat) (pre : List α) (x : α) (W : World) (K : Act → World → Prop), I pre W → (∀ a' W', KeepsFrom w.heap.size W W' → Kp W W' → I pre W' → Ax x a' W' → K a' W') →
      assign.wpIn (F.inRound l) (n - 1 - 1) P (Exit.then K (fun _ _ _ => False)) { tmps := (ps.zip (encs x)).foldl (fun t (p, v) => t.setIfInBounds p v) a.tmps, defers := [] } W)
    (hbody : ∀ (l : Nat) (pre : List α) (x : α) (a' : Act) (W : World), I pre W → Ax x a' W → pre.length < N → body.wpIn (F.inRound l) (n - 1 - 1) P (roundOwn w.heap.size Kp I (pre ++ [x]) W) a' W)
    (hdone : ∀ (D : Nat) (xs : List α) (W : World), w.heap.size ≤ D → S xs → I xs W → W.heap[D]? = some (.deferred (some [])) → Q .normal { a with defers := { target := .collected D, args := #[] } :: a.defers } W) :
    (Code.rangeFunc g ps assign body).wpIn F n P Q a w := by
  refine wpIn_rangeFunc fun fn hfn => ?_
  rw [hro]
  obtain ⟨R, hR⟩ : ∃ R : LoopState → Option Code → Loop, ∀ st pe, R st pe = { state := st, pending := pe, fn, tmps := a.tmps, params := ps, assign, body, defers := w.heap.size } := ⟨fun st pe => _, fun _ _ => rfl⟩
  obtain ⟨W1, hW1⟩ : ∃ W1, (w.alloc (.deferred (some []))).alloc (.loop (R .ready none)) = W1 := ⟨_, rfl⟩
  have hs1 : W1.heap.size = w.heap.size + 2 := by rw [← hW1]; simp
  have hl : W1.heap[w.heap.size + 1]? = some (.loop (R .ready none)) := by
    rw [← hW1]; have := World.alloc_heap_new (w.alloc (.deferred (some []))) (.loop (R .ready none)); rwa [World.size_alloc] at this
  have hd : W1.heap[w.heap.size]? = some (.deferred (some [])) := by
    rw [← hW1]; exact (Below.heap_alloc _ _ _ (by simp)).trans (World.alloc_heap_new w _)
  have hb : Below w.heap.size w W1 := by
    rw [← hW1]; exact ((Below.refl _ w).alloc (Nat.le_refl _) _).alloc (by simp) _
  have hi : I [] W1 := hI [] w W1 none h0 ⟨hb.os, hb.tape, hb.output, hb.size, fun i hi _ => hb.block i hi⟩ (fun r e => by cases e)
  have run0 : (Instr.enterLoop fn a.tmps ps assign body none).run P w = .ok (w.heap.size + 1, [{ target := .collected w.heap.size, args := #[] }]) W1 := by
    rw [← hW1, hR]; exact run_enterLoop_outer fn a.tmps ps assign body
  refine ⟨_, _, W1, { target := .fn (.func gf) lb, args := #[.func (.yield (w.heap.size + 1)) #[] #[]] }, W1, gf, #[.func (.yield (w.heap.size + 1)) #[] #[]] ++ lb, W1, run0, ?_, ?_, ?_, fun _ => h1, ?_⟩
  · simp only [resolve, hg]
    simp [go_sem]
  · intro f' hf'
    simp [Target.leads] at hf'
    subst hf'
    exact hFg
  · simp [invoke, go_sem, eg]
  -- the loop's record, turned: what else is there stays
  have turn : ∀ (s : List α) (W : World) (r r' : Loop), I s W → W.heap[w.heap.size + 1]? = some (.loop r) → W.heap[w.heap.size]? = some (.deferred (some [])) →
      I s (W.putObj (w.heap.size + 1) (.loop r')) ∧ (W.putObj (w.heap.size + 1) (.loop r')).heap[w.heap.size + 1]? = some (.loop r') ∧ (W.putObj (w.heap.size + 1) (.loop r')).heap[w.heap.size]? = some (.deferred (some [])) := fun s W r r' h3 h4 h5 =>
    ⟨hI s W _ _ h3 (put_grown W _ _) (fun q e => by injection e with e; subst e; exact ⟨by omega, _, h4, .inl rfl⟩), World.putObj_heap_same (Array.getElem?_eq_some_iff.1 h4).1, (World.putObj_heap_other (by omega)).trans h5⟩
  refine (hseq (w.heap.size + 1) (fun pre W => I pre W ∧ W.heap[w.heap.size + 1]? = some (.loop (R .ready none)) ∧ W.heap[w.heap.size]? = some (.deferred (some []))) W1 (hb0.trans (hb.mono hb0.size)) ?_ ?_ ⟨hi, hl, hd⟩).mono ?_
  · rintro s A B row ⟨h3, h4, h5⟩ hg' hr
    have far : ∀ k, k < W1.heap.size → k < A.heap.size → B.heap[k]? = A.heap[k]? := fun k hk hA => hg'.block k hA (fun e => by have := (hr k e.symm).1; omega)
    exact ⟨hI s A B row h3 hg' (fun r e => ⟨by have := (hr r e).1; omega, by obtain ⟨o, ho, hk⟩ := (hr r e).2; exact ⟨o, ho, .inr hk⟩⟩),
      (far _ (by omega) (Array.getElem?_eq_some_iff.1 h4).1).trans h4, (far _ (by omega) (Array.getElem?_eq_some_iff.1 h5).1).trans h5⟩
  · rintro pre x W ⟨h3, h4, h5⟩ hlen
    have hy := run_yield (P := P) (args := encs x) h4 (by rw [hR]; exact hps x)
    rw [hR] at hy
    refine ⟨fn, _, assign, body, hy, roundIn_of_wpIn hfn (hassign _ pre x W _ h3 ?_)⟩
    intro a' Wa k1 k2 h6 hax
    have h7 := k1.same _ _ (by omega) h4 rfl
    have h8 := k1.same _ _ (Nat.le_refl _) h5 rfl
    obtain ⟨t1, t2, t3⟩ := turn pre Wa (R .ready none) { R .ready none with state := .busy } h6 h7 h8
    refine ⟨_, run_beginRound h7 (by rw [hR]), ?_⟩
    have hk3 := hKb Wa (w.heap.size + 1) (R .ready none) { R .ready none with state := .busy } (by omega) h7
    refine wpIn_mono (hbody _ pre x a' _ t1 (hAx x a' Wa _ _ _ hax h7 (put_grown _ _ _)) hlen) ?_
    rintro e a3 W3 hp
    cases e with
    | normal =>
      obtain ⟨k4, k5, h9⟩ := hp
      have u1 := k4.same _ _ (by omega) t2 rfl
      have u2 := k4.same _ _ (Nat.le_refl _) t3 rfl
      have hr := run_endRound (P := P) none u1
      obtain ⟨s1, s2, s3⟩ := turn (pre ++ [x]) W3 _ { { R .ready none with state := .busy } with state := .ready, pending := none } h9 u1 u2
      have e0 : ({ { R .ready none with state := .busy } with state := .ready, pending := none } : Loop) = R .ready none := by rw [hR]
      have k6 := hKb W3 (w.heap.size + 1) _ { { R .ready none with state := .busy } with state := .ready, pending := none } (by omega) u1
      exact ⟨_, _, hr, rfl, ⟨s1, by rw [← e0]; exact s2, s3⟩, hKt k2 (hKt hk3 (hKt k5 k6))⟩
    | ret => exact hp.elim
    | exit id => exact hp.elim
    | goto t => exact hp.elim
    | panic ch => exact hp.elim
    | outgrown => exact hp.elim
  · rintro e W2 ⟨⟨v, rfl⟩, xs, hS, h3, h4, h5⟩
    have he := run_endLoop (P := P) h4 (by rw [hR]; simp)
    have tt := fun r' => turn xs W2 (R .ready none) r' h3 h4 h5
    have hn : (R .ready none).pending = none := by rw [hR]
    rw [hn] at he
    exact ⟨none, _, he, hdone _ xs _ (Nat.le_refl _) hS (tt _).1 (tt _).2.2⟩
end Nt
