/-
  What the laws do with rationals: copies, comparisons, marks.
-/
import Derived.Test.YtgeijojkfojfbaaDoorRatOk
namespace Nt
open Go Go.RowKit
theorem below_on {a w w' : World} (h : Below a.heap.size a w) (hb : Below w.heap.size w w') : Below a.heap.size a w' := h.trans (hb.mono h.size)
/-- two rows of the call's own that share no block -/
def OwnR (t : TypeId) (w : World) (base : Nat) (xs ys : List Int) (A : Option Addr) (ca : Nat) (B : Option Addr) (cb : Nat) : Prop :=
  w.ownsRow base t 1 (.slice A xs.length ca) xs.length (xs.map (Value.int .i64)) ∧ w.ownsRow base t 1 (.slice B ys.length cb) ys.length (ys.map (Value.int .i64)) ∧
  ∀ g h, A = some ⟨g, 0, none⟩ → B = some ⟨h, 0, none⟩ → g ≠ h
/-- two slices that read as xs and ys -/
def RdR (w : World) (P : Nat → Prop) (xs ys : List Int) (A : Option Addr) (ca : Nat) (B : Option Addr) (cb : Nat) : Prop :=
  Rd w P A xs.length ca xs ∧ Rd w P B ys.length cb ys
/-- a rational in memory of its own -/
def RetR (t : TypeId) (w : World) (neg : Bool) (xs ys : List Int) (e : Ending) (w' : World) : Prop :=
  ∃ A ca B cb, e = .returned (.agg #[.bool neg, .slice A xs.length ca, .slice B ys.length cb]) ∧ OwnR t w' w.heap.size xs ys A ca B cb ∧ Below w.heap.size w w'
/-- the same, and a code -/
def RetRC (t : TypeId) (w : World) (neg : Bool) (xs ys : List Int) (code : Int) (e : Ending) (w' : World) : Prop :=
  ∃ A ca B cb, e = .returned (.tuple #[.agg #[.bool neg, .slice A xs.length ca, .slice B ys.length cb], .int .i64 code]) ∧ OwnR t w' w.heap.size xs ys A ca B cb ∧ Below w.heap.size w w'
/-- a rational that can be read, and a code -/
def SayRC (w : World) (neg : Bool) (xs ys : List Int) (code : Int) (e : Ending) (w' : World) : Prop :=
  ∃ A ca B cb, e = .returned (.tuple #[.agg #[.bool neg, .slice A xs.length ca, .slice B ys.length cb], .int .i64 code]) ∧ RdR w' (· < w'.heap.size) xs ys A ca B cb ∧ Below w.heap.size w w'
variable {t : TypeId} {w w' : World} {base ca cb : Nat} {xs ys : List Int} {A B : Option Addr}
theorem OwnR.on (h : OwnR t w base xs ys A ca B cb) (hb : Below w.heap.size w w') : OwnR t w' base xs ys A ca B cb := ⟨own_keep h.1 hb, own_keep h.2.1 hb, h.2.2⟩
theorem OwnR.rd (h : OwnR t w base xs ys A ca B cb) : RdR w (base ≤ ·) xs ys A ca B cb := ⟨own_rd' h.1, own_rd' h.2.1⟩
theorem OwnR.rdt (h : OwnR t w base xs ys A ca B cb) : RdR w (fun _ => True) xs ys A ca B cb := ⟨(own_rd' h.1).mono fun _ _ _ => trivial, (own_rd' h.2.1).mono fun _ _ _ => trivial⟩
theorem OwnR.rdl (h : OwnR t w base xs ys A ca B cb) : RdR w (· < w.heap.size) xs ys A ca B cb := ⟨(own_rd' h.1).mono fun _ _ h => h, (own_rd' h.2.1).mono fun _ _ h => h⟩
theorem OwnR.mono {base' : Nat} (h : OwnR t w base xs ys A ca B cb) (hb : base' ≤ base) : OwnR t w base' xs ys A ca B cb := ⟨own_mono h.1 hb, own_mono h.2.1 hb, h.2.2⟩
theorem RdR.below {N : Nat} (h : RdR w (· < N) xs ys A ca B cb) (hb : Below N w w') : RdR w' (· < N) xs ys A ca B cb := ⟨h.1.below hb, h.2.below hb⟩
theorem RdR.on {P : Nat → Prop} (h : RdR w P xs ys A ca B cb) (hb : Below w.heap.size w w') : RdR w' P xs ys A ca B cb :=
  ⟨h.1.keep hb.size fun b _ hl => hb.block b hl, h.2.keep hb.size fun b _ hl => hb.block b hl⟩
theorem RdR.mono {P Q : Nat → Prop} (h : RdR w P xs ys A ca B cb) (hpq : ∀ b, P b → b < w.heap.size → Q b) : RdR w Q xs ys A ca B cb := ⟨h.1.mono hpq, h.2.mono hpq⟩
/-- only the rows at A and B have turned -/
def Only (A B : Option Addr) (w w' : World) : Prop :=
  w'.os = w.os ∧ w'.tape = w.tape ∧ w'.output = w.output ∧ w.heap.size ≤ w'.heap.size ∧ ∀ k, k < w.heap.size → A ≠ some ⟨k, 0, none⟩ → B ≠ some ⟨k, 0, none⟩ → w'.heap[k]? = w.heap[k]?
theorem Only.below (h : Only A B w w') (ho : OwnR t w base xs ys A ca B cb) (hb : base ≤ w.heap.size) : Below base w w' :=
  ⟨h.1, h.2.1, h.2.2.1, h.2.2.2.1, fun k hk => h.2.2.2.2 k (by omega) (fun e => by have := own_block ho.1 e; omega) (fun e => by have := own_block ho.2.1 e; omega)⟩
theorem own_type {n c b : Nat} {v : List Value} {tr : TypeId} {cells : Array Value} (h : w.ownsRow base t 1 (.slice A n c) n v) (hne : t ≠ tr) (hr : w.heap[b]? = some (.cells cells tr (0, 0))) : A ≠ some ⟨b, 0, none⟩ := by
  intro e
  subst e
  rcases h.2 with ⟨e1, _⟩ | ⟨g, cap, cur, e1, _, hh, _⟩
  · cases e1
  · injection e1 with e1
    injection e1 with e1
    injection e1 with e1
    subst e1
    rw [hr] at hh
    injection hh with hh
    injection hh with _ hh
    exact hne hh.symm
theorem Only.at_ {b la' lb' ca' cb' : Nat} {tr : TypeId} {neg : Bool} {A' B' : Option Addr} (h : Only A B w w') (ho : OwnR t w base xs ys A ca B cb) (hne : t ≠ tr) (hr : RatAt w b tr neg A' la' ca' B' lb' cb') : RatAt w' b tr neg A' la' ca' B' lb' cb' :=
  (h.2.2.2.2 b hr.lt (own_type ho.1 hne hr) (own_type ho.2.1 hne hr)).trans hr
theorem Only.own {base' ca' cb' : Nat} {xs' ys' : List Int} {A' B' : Option Addr} (h : Only A B w w') (hlt : ∀ g, A = some ⟨g, 0, none⟩ ∨ B = some ⟨g, 0, none⟩ → g < base') (ho' : OwnR t w base' xs' ys' A' ca' B' cb') : OwnR t w' base' xs' ys' A' ca' B' cb' := by
  refine ⟨own_at_block ho'.1 fun g hg => ?_, own_at_block ho'.2.1 fun g hg => ?_, ho'.2.2⟩
  · have := own_block ho'.1 hg
    exact h.2.2.2.2 g this.2 (fun e => by have := hlt g (.inl e); omega) (fun e => by have := hlt g (.inr e); omega)
  · have := own_block ho'.2.1 hg
    exact h.2.2.2.2 g this.2 (fun e => by have := hlt g (.inl e); omega) (fun e => by have := hlt g (.inr e); omega)
theorem Only.lists {n c : Nat} {v : List Value} {base' : Nat} (h : Only A B w w') (hlt : ∀ g, A = some ⟨g, 0, none⟩ ∨ B = some ⟨g, 0, none⟩ → g < base') {A' : Option Addr} (ho' : w.ownsRow base' t 1 (.slice A' n c) n v) : w'.ownsRow base' t 1 (.slice A' n c) n v :=
  own_at_block ho' fun g hg => by
    have := own_block ho' hg
    exact h.2.2.2.2 g this.2 (fun e => by have := hlt g (.inl e); omega) (fun e => by have := hlt g (.inr e); omega)
theorem OwnR.lt (h : OwnR t w base xs ys A ca B cb) : ∀ g, A = some ⟨g, 0, none⟩ ∨ B = some ⟨g, 0, none⟩ → g < w.heap.size := by
  rintro g (e | e)
  · exact (own_block h.1 e).2
  · exact (own_block h.2.1 e).2
theorem OwnR.ge (h : OwnR t w base xs ys A ca B cb) : ∀ g, A = some ⟨g, 0, none⟩ ∨ B = some ⟨g, 0, none⟩ → base ≤ g := by
  rintro g (e | e)
  · exact (own_block h.1 e).1
  · exact (own_block h.2.1 e).1
def szZ (left : Int) (n : Nat) : Int := if left < n then -1 else left - n
theorem szZ_neg {left : Int} {n : Nat} (h : left < n) : szZ left n = -1 := by unfold szZ; rw [if_pos h]
theorem szZ_pos {left : Int} {n : Nat} (h : ¬ left < n) : szZ left n = left - n := by unfold szZ; rw [if_neg h]
theorem ownBlock_eq {A : Option Addr} {n c k : Nat} (h : (Value.slice A n c).ownBlock = some k) (ho : w.ownsRow base t 1 (.slice A n c) n (xs.map (Value.int .i64))) : A = some ⟨k, 0, none⟩ := by
  rcases ho.2 with ⟨e1, _⟩ | ⟨g, cap, cur, e1, _⟩
  · injection e1 with e1; subst e1; cases h
  · injection e1 with e1; subst e1; simp [Value.ownBlock] at h; rw [h]
end Nt
namespace Go.Proofs.YtgeijojkfojfbaaDoor
open Go Go.RowKit Nt

end Go.Proofs.YtgeijojkfojfbaaDoor
