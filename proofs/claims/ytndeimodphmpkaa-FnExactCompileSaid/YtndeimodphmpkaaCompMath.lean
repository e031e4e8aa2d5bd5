/-
  The nodes of an expression that is right are steps that are right.
-/
import Derived.Test.YtndeimodphmpkaaTapeMath
namespace Nt
theorem okE_steps {ns : List Nd} (h : okE ns = true) : AllSt ns ns.length := by
  obtain ⟨_, _, hf, ts, _, _, hT, hl, _, _⟩ := okE_out h
  intro i hi
  have h1 := hf i hi
  obtain ⟨t2, t1, _⟩ := hT i (by omega)
  generalize ns.getD i nd0 = x at *
  obtain ⟨op, a, b, n⟩ := x
  dsimp only at t1 t2
  unfold stepN behind
  rw [h1]
  dsimp only
  cases e2 : two op with
  | true =>
    obtain ⟨p, q, rfl, rfl, hp, hq, _⟩ := t2 e2
    simp
    omega
  | false =>
    cases e1 : one op with
    | true =>
      obtain ⟨p, rfl, hp, _⟩ := t1 e2 e1
      simp
      omega
    | false => rfl
end Nt
