/-
  Which tapes are right: TapeOK of the program.
-/
import Derived.Test.YtifepoefeamboaaGreatDoorNewSteps
import Derived.Test.YtifepoefeamboaaGreatDoorSpecTape
import Derived.Test.YtifepoefeamboaaGreatDoorTapeCopy
namespace Nt
open Go Go.RowKit
theorem not_all {ns : List Nd} {o : Int} (h : ¬ AllSt ns ns.length) : okTp ns o = false := by
  cases e : okTp ns o with
  | false => rfl
  | true => exact absurd (okTp_out e).2.2.2.1 h
/-- the last step's place -/
def lastE (xs : List (Nat × Nd)) : Int := match xs.getLast? with
  | some x => (x.1 : Int)
  | none => 0
theorem lastE_snoc (xs : List (Nat × Nd)) (x : Nat × Nd) : lastE (xs ++ [x]) = (x.1 : Int) := by simp [lastE]
theorem lastE_steps {ss : List Nd} (h : 1 ≤ ss.length) : lastE (stepsE ss) = (ss.length : Int) - 1 := by
  obtain ⟨k, hk⟩ : ∃ k, ss.length = k + 1 := ⟨ss.length - 1, by omega⟩
  unfold lastE stepsE
  rw [hk, List.range_succ, List.map_append]
  simp
theorem okTp_last {ns : List Nd} (h1 : 1 ≤ ns.length) (h60 : ns.length ≤ 60) (ha : AllSt ns ns.length) : okTp ns ((ns.length : Int) - 1) = decide (lastE (stepsE (comp ns).1) = (ns.length : Int) - 1) := by
  have ok := (comp_ok ns ns.length (Nat.le_refl _)).some_ h1
  have hc := comp_all ha
  rw [List.take_length] at ok
  rw [lastE_steps ok]
  by_cases hl : Lone ns ns.length
  · rw [okTp_yes h1 h60 rfl ha hl]
    have := hc.2 hl
    symm
    rw [decide_eq_true_eq]
    omega
  · have hn : (comp ns).1.length ≠ ns.length := fun e => hl (hc.1 e)
    have e2 : okTp ns ((ns.length : Int) - 1) = false := by
      cases e : okTp ns ((ns.length : Int) - 1) with
      | false => rfl
      | true => exact absurd (okTp_out e).2.2.2.2 hl
    rw [e2]
    symm
    rw [decide_eq_false_iff_not]
    omega
theorem grownBy_below {W W' : World} {N D : Nat} (h : W.grownBy W' (some D)) (hD : N ≤ D ∧ N ≤ W.heap.size) : Below N W W' := ⟨h.os, h.tape, h.output, h.size, fun i hi => h.block i (by omega) (fun e => by injection e with e; omega)⟩
theorem KpS.refl (tI n₀ n₁ : Nat) (W : World) : KpS tI n₀ n₁ W W := ⟨Nat.le_refl _, fun _ _ => rfl, fun _ _ _ h _ => h⟩
end Nt
namespace Go.Proofs.YtifepoefeamboaaGreatDoor
open Go Go.RowKit Nt Go.Shelf
attribute [local go_sem] Oper.semAt_some

end Go.Proofs.YtifepoefeamboaaGreatDoor
