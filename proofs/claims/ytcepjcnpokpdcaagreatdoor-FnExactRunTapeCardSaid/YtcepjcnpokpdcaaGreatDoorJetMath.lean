/-
  Jets: a number with how it goes along none, one or more ways.
-/
import Derived.Test.YtcepjcnpokpdcaaGreatDoorGrpC
import Derived.Test.YtcepjcnpokpdcaaGreatDoorGrpD
namespace Nt
open Go Go.RowKit
inductive Jt where
  | fx (q : Rat)
  | mv (at_ slope : Jt)
def Jt.dep : Jt → Nat
  | .fx _ => 0
  | .mv a s => 1 + max a.dep s.dep
/-- a jet as one that moves -/
def Jt.at_ : Jt → Jt
  | .fx q => .fx q
  | .mv a _ => a
def Jt.sl : Jt → Jt
  | .fx _ => .fx 0
  | .mv _ s => s
def sumJ : Jt → Jt → Jt
  | .fx p, .fx q => .fx (p + q)
  | .fx p, .mv b t => .mv (sumJ (.fx p) b) (sumJ (.fx 0) t)
  | .mv a s, .fx q => .mv (sumJ a (.fx q)) (sumJ s (.fx 0))
  | .mv a s, .mv b t => .mv (sumJ a b) (sumJ s t)
termination_by f g => f.dep + g.dep
decreasing_by all_goals simp only [Jt.dep]; omega
def prodJ : Jt → Jt → Jt
  | .fx p, .fx q => .fx (p * q)
  | .fx p, .mv b t => .mv (prodJ (.fx p) b) (sumJ (prodJ (.fx 0) b) (prodJ (.fx p) t))
  | .mv a s, .fx q => .mv (prodJ a (.fx q)) (sumJ (prodJ s (.fx q)) (prodJ a (.fx 0)))
  | .mv a s, .mv b t => .mv (prodJ a b) (sumJ (prodJ s b) (prodJ a t))
termination_by f g => f.dep + g.dep
decreasing_by all_goals simp only [Jt.dep]; omega
def timesJ (n : Int) (f : Jt) : Jt := prodJ (.fx (n : Rat)) f
/-- 1 over a jet that is not 0 -/
def invJ : Jt → Jt
  | .fx q => .fx q⁻¹
  | .mv a s => .mv (invJ a) (timesJ (-1) (prodJ s (prodJ (invJ a) (invJ a))))
def num0 : Jt → Rat
  | .fx q => q
  | .mv a _ => num0 a
def raiseJ : Jt → Nat → Jt
  | .fx q, n => .fx (q ^ n)
  | .mv a s, n => .mv (raiseJ a n) (timesJ n (prodJ (raiseJ a (n - 1)) s))
/-- along so many ways, from the last one back -/
def numJ : Jt → Nat → Rat
  | .mv a _, 0 => numJ a 0
  | .mv _ s, k + 1 => numJ s k
  | .fx q, 0 => q
  | .fx _, _ + 1 => 0
def fitsJ : Jt → Bool
  | .fx q => decide (fitQ q)
  | .mv a s => fitsJ a && fitsJ s
/-- how long a number's lists are at most -/
def lim (q : Rat) (k : Nat) : Prop := (D (nu q)).length ≤ k ∧ (D q.den).length ≤ k
/-- a jet's value in memory -/
def JAt (tF tM : TypeId) (w : World) (P : Nat → Prop) : Jt → Value → Prop
  | .fx q, v => ∃ A ca B cb, v = .iface tF (.agg #[.bool (isNeg q), .slice A (D (nu q)).length ca, .slice B (D q.den).length cb]) ∧ RdR w P (D (nu q)) (D q.den) A ca B cb
  | .mv a s, v => ∃ va vs, v = .iface tM (.agg #[va, vs]) ∧ JAt tF tM w P a va ∧ JAt tF tM w P s vs
theorem JAt.on {tF tM : TypeId} {w w' : World} {P : Nat → Prop} (hb : Below w.heap.size w w') : ∀ {j : Jt} {v : Value}, JAt tF tM w P j v → JAt tF tM w' P j v
  | .fx _, _, ⟨A, ca, B, cb, e, h⟩ => ⟨A, ca, B, cb, e, h.on hb⟩
  | .mv _ _, _, ⟨va, vs, e, h1, h2⟩ => ⟨va, vs, e, JAt.on hb h1, JAt.on hb h2⟩
theorem JAt.mono {tF tM : TypeId} {w : World} {P Q : Nat → Prop} (hpq : ∀ b, P b → b < w.heap.size → Q b) : ∀ {j : Jt} {v : Value}, JAt tF tM w P j v → JAt tF tM w Q j v
  | .fx _, _, ⟨A, ca, B, cb, e, h⟩ => ⟨A, ca, B, cb, e, h.mono hpq⟩
  | .mv _ _, _, ⟨va, vs, e, h1, h2⟩ => ⟨va, vs, e, JAt.mono hpq h1, JAt.mono hpq h2⟩
/-- no list on the way to a sum, or in it, is longer than the contracts of the numbers bear -/
def SumFit : Jt → Jt → Prop
  | .fx p, .fx q => lim p 3600 ∧ lim q 3600
  | .fx p, .mv b t => SumFit (.fx p) b ∧ SumFit (.fx 0) t
  | .mv a s, .fx q => SumFit a (.fx q) ∧ SumFit s (.fx 0)
  | .mv a s, .mv b t => SumFit a b ∧ SumFit s t
termination_by f g => f.dep + g.dep
decreasing_by all_goals simp only [Jt.dep]; omega
def ProdFit : Jt → Jt → Prop
  | .fx p, .fx q => lim p 3600 ∧ lim q 3600
  | .fx p, .mv b t => ProdFit (.fx p) b ∧ ProdFit (.fx 0) b ∧ ProdFit (.fx p) t ∧ SumFit (prodJ (.fx 0) b) (prodJ (.fx p) t)
  | .mv a s, .fx q => ProdFit a (.fx q) ∧ ProdFit s (.fx q) ∧ ProdFit a (.fx 0) ∧ SumFit (prodJ s (.fx q)) (prodJ a (.fx 0))
  | .mv a s, .mv b t => ProdFit a b ∧ ProdFit s b ∧ ProdFit a t ∧ SumFit (prodJ s b) (prodJ a t)
termination_by f g => f.dep + g.dep
decreasing_by all_goals simp only [Jt.dep]; omega
/-- sums and products, whatever the jets are, by their halves -/
theorem sumJ_halves (f g : Jt) (h : 0 < f.dep + g.dep) : sumJ f g = .mv (sumJ f.at_ g.at_) (sumJ f.sl g.sl) := by
  cases f <;> cases g <;> simp only [Jt.dep] at h <;> first | omega | (rw [sumJ]; rfl)
theorem prodJ_halves (f g : Jt) (h : 0 < f.dep + g.dep) : prodJ f g = .mv (prodJ f.at_ g.at_) (sumJ (prodJ f.sl g.at_) (prodJ f.at_ g.sl)) := by
  cases f <;> cases g <;> simp only [Jt.dep] at h <;> first | omega | (rw [prodJ]; rfl)
theorem sumFit_halves (f g : Jt) (h : 0 < f.dep + g.dep) : SumFit f g ↔ SumFit f.at_ g.at_ ∧ SumFit f.sl g.sl := by
  cases f <;> cases g <;> simp only [Jt.dep] at h <;> first | omega | (rw [SumFit]; exact Iff.rfl)
theorem prodFit_halves (f g : Jt) (h : 0 < f.dep + g.dep) : ProdFit f g ↔ ProdFit f.at_ g.at_ ∧ ProdFit f.sl g.at_ ∧ ProdFit f.at_ g.sl ∧ SumFit (prodJ f.sl g.at_) (prodJ f.at_ g.sl) := by
  cases f <;> cases g <;> simp only [Jt.dep] at h <;> first | omega | (rw [ProdFit]; exact Iff.rfl)
theorem dep_halves (f g : Jt) (h : 0 < f.dep + g.dep) : f.at_.dep + g.at_.dep < f.dep + g.dep ∧ f.sl.dep + g.sl.dep < f.dep + g.dep ∧ f.sl.dep + g.at_.dep < f.dep + g.dep ∧ f.at_.dep + g.sl.dep < f.dep + g.dep := by
  cases f <;> cases g <;> simp only [Jt.dep, Jt.at_, Jt.sl] at h ⊢ <;> omega
end Nt
