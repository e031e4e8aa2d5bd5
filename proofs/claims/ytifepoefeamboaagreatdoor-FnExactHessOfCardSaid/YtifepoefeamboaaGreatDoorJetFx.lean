/-
  Jets that are fixed: how long their numbers are.
-/
import Derived.Test.YtifepoefeamboaaGreatDoorGrpG
import Derived.Test.YtifepoefeamboaaGreatDoorGrpH
namespace Nt
open Go Go.RowKit
theorem fx_dep (qs : List Rat) : ∀ j ∈ qs.map Jt.fx, j.dep ≤ 0 := by
  intro j hj
  obtain ⟨q, -, rfl⟩ := List.mem_map.1 hj
  exact Nat.le_refl _
theorem fx_L2 {qs : List Rat} (h : Fine qs) : ∀ j ∈ qs.map Jt.fx, L2 j 40 40 40 40 := by
  intro j hj
  obtain ⟨q, hq, rfl⟩ := List.mem_map.1 hj
  have := h q hq
  have hl : lim q 40 := ⟨(D_len_le _ 40).2 this.1, (D_len_le _ 40).2 this.2⟩
  exact (L2.fx hl).mono (by omega) (by omega) (by omega) (by omega)
end Nt
