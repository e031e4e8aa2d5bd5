/-
  A list of noughts; an expression that is right, and a place that is right for it.
-/
import Derived.Test.YtifepoefeamboaaGreatDoorImplJetV
import Derived.Test.YtifepoefeamboaaGreatDoorJetFx
import Derived.Test.YtifepoefeamboaaGreatDoorGrpH
namespace Nt
open Go Go.RowKit
/-- so many noughts -/
abbrev noughts (n : Nat) : List Rat := List.replicate n 0
theorem noughts_snoc (n : Nat) : noughts (n + 1) = noughts n ++ [0] := List.replicate_succ'
theorem noughts_len (n : Nat) : (noughts n).length = n := List.length_replicate
theorem fine_noughts (n : Nat) : Fine (noughts n) := by
  intro q hq
  rw [List.eq_of_mem_replicate hq]
  decide
/-- an expression that is right, and a place that is right for it -/
theorem okE_at {ns : List Nd} {n m : Nat} (hl : ns.length = n) (h : okE ns = true) (hm : ¬ (m : Int) < dimE ns) :
    (∀ k, k < n → fitN (ns.getD k nd0) = true ∧ behind (ns.getD k nd0) k = true ∧ ((ns.getD k nd0).1 = 2 → (ns.getD k nd0).2.2.2 < m)) ∧ 1 ≤ n ∧ n ≤ 60 := by
  obtain ⟨h1, h60, hf, -⟩ := okE_out h
  refine ⟨fun k hk => ?_, by omega, by omega⟩
  have := okE_steps h k (by omega)
  unfold stepN at this
  rw [Bool.and_eq_true] at this
  exact ⟨this.1, this.2, fun h2 => dim_less (by omega) h2 hm⟩
end Nt
