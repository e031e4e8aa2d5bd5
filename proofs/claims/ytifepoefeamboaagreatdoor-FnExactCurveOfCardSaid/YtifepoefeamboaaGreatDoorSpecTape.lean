/-
  Which tapes are right: TapeOK of the model.
-/
import Derived.Test.YtifepoefeamboaaGreatDoorGrpH
import Derived.Test.YtifepoefeamboaaGreatDoorTapeSame
import Derived.Deep.RegionWith
namespace Nt
open Go Go.RowKit
theorem stepN_two {op a b n i : Int} (h : two op = true) : stepN (op, a, b, n) i = ((decide (0 ≤ a) && decide (a ≤ i - 1)) && (decide (0 ≤ b) && decide (b ≤ i - 1)) && (n == 0)) := by
  obtain ⟨h3, h6⟩ := two_range h
  have h1 : one op = false := by unfold one; simp; omega
  have hm : mostN op = 0 := by unfold mostN; rw [if_neg (by omega), if_neg (by omega), if_neg (by omega)]
  unfold stepN fitN behind
  dsimp only
  rw [h, h1, hm, Bool.eq_iff_iff]
  simp
  omega
theorem stepN_one {op a b n i : Int} (h : two op = false) (h1 : one op = true) : stepN (op, a, b, n) i = ((decide (0 ≤ a) && decide (a ≤ i - 1)) && (b == 0) && (decide (0 ≤ n) && decide (n ≤ mostN op))) := by
  have hop : op = 7 ∨ op = 8 := by unfold one at h1; simpa using h1
  unfold stepN fitN behind
  dsimp only
  rw [h, h1, Bool.eq_iff_iff]
  simp
  omega
theorem stepN_none {op a b n i : Int} (h : two op = false) (h1 : one op = false) : stepN (op, a, b, n) i = nodeS (op, a, b, n) i := by
  have e2 := two_no h
  have e1 := one_no h1
  unfold stepN fitN behind nodeS mostN
  dsimp only
  rw [h, h1, Bool.eq_iff_iff]
  by_cases q : op = 1 ∨ op = 2
  · rcases q with rfl | rfl <;> simp <;> omega
  · simp [e1.1, e1.2]
    constructor
    · intro hx; exact absurd hx (by omega)
    · intro hx; exact absurd hx (by omega)
theorem RdN.first {w : World} {P : Nat → Prop} {A : Option Addr} {n c k : Nat} {ns : List Nd} (h : RdN w P A n c ns) (hk : k ≤ n) : RdN w P A k c (ns.take k) := by
  refine ⟨by have := h.1; simp; omega, Nat.le_trans hk h.2.1, h.2.2.1, fun h0 => ?_⟩
  obtain ⟨b, o, e, hp, hl, hc⟩ := h.2.2.2 (by omega)
  refine ⟨b, o, e, hp, hl, fun i hi => ?_⟩
  rw [getDN_take ns k i hi]
  exact hc i (by omega)
theorem lone_more {ns : List Nd} {k : Nat} (h : Lone ns k) (hn : ∀ j, j < k → ns.getD j nd0 ≠ ns.getD k nd0) : Lone ns (k + 1) := fun i hi j hj => by
  by_cases e : i = k
  · subst e; exact hn j hj
  · exact h i (by omega) j hj
theorem allSt_more {ns : List Nd} {k : Nat} (h : AllSt ns k) (hn : stepN (ns.getD k nd0) k = true) : AllSt ns (k + 1) := fun i hi => by
  by_cases e : i = k
  · subst e; exact hn
  · exact h i (by omega)
end Nt
namespace Go.Proofs.YtifepoefeamboaaGreatDoor
open Go Go.RowKit Nt

end Go.Proofs.YtifepoefeamboaaGreatDoor
