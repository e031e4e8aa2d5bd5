/-
  The slopes that the model tells are the program's; none is too long.
-/
import Derived.Test.YtifepoefeamboaaGreatDoorImplGrad
import Derived.Test.YtifepoefeamboaaGreatDoorSpecGrad
namespace Nt
open Go Go.RowKit
theorem grad_rows (qs : List Rat) (ns : List Nd) : rowsTo (rowQ qs (fun i => unitL qs.length i) (fun _ => noughts qs.length) Q4.v ns) qs.length = rowsTo (rowJ qs (fun i _ => unitL qs.length i) 1 ns) qs.length := by
  refine rowsTo_congr _ fun k _ => ?_
  have h := eval_swap qs (noughts qs.length) (unitL qs.length k) ns
  rw [eval_one qs (unitL qs.length k) ns (unitL_len _ _)] at h
  dsimp only at h
  unfold rowQ rowJ
  dsimp only
  rw [h]
  dsimp only
  rw [getD_swap, getD_r4]
  rfl
theorem curve_rows (qs us : List Rat) (ns : List Nd) (hl : us.length = qs.length) : rowsTo (rowQ qs (fun i => unitL qs.length i) (fun _ => us) Q4.vw ns) qs.length = rowsTo (rowJ qs (fun i t => if t = 0 then unitL qs.length i else us) 2 ns) qs.length := by
  refine rowsTo_congr _ fun k _ => ?_
  have h := eval_two qs (unitL qs.length k) us ns (unitL_len _ _) hl
  unfold rowQ rowJ
  dsimp only
  rw [h]
  dsimp only
  rw [getD_r4]
  rfl
theorem rows_fit {qs : List Rat} {vs : Nat → Nat → List Rat} {N : Nat} (hN : N = 1 ∨ N = 2) {ns : List Nd} (h1 : 1 ≤ ns.length) (m : Nat) : ∀ p ∈ (rowsTo (rowJ qs vs N ns) m).1, fitQ p := by
  refine rowsTo_fit fitQ m fun k _ h0 => ?_
  have hh := (last_L2 (n := ns.length) (vars := varsJ qs (vs k) N qs.length) (fun j hj => Nat.le_trans (varsJ_dep _ _ _ _ j hj) (by omega)) rfl h1 (js := (evalJ (varsJ qs (vs k) N qs.length) ns).1) (by rw [← h0]; rfl)).2
  unfold rowJ
  rcases hN with rfl | rfl
  · exact hh.2.2.2.1
  · exact hh.2.2.2.2
theorem rows_short {R : Nat → Rat × Int} {m : Nat} (hm : m ≤ 4) : (rowsTo R m).1.length ≤ 4 := by
  by_cases h : (rowsTo R m).2 = 0
  · rw [rowsTo_len m h]; exact hm
  · rw [rowsTo_none m h]; exact Nat.zero_le _
end Nt
