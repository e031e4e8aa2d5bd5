/-
  The table of solvers' words, as the row lists it, and as a world holds it.
-/
import Derived.Test.YtifepoefeamboaaDoorSolvWord
import Derived.Test.YtifepoefeamboaaDoorCards
import Derived.Test.YtifepoefeamboaaDoorTie
import Derived.ProofKit
import Derived.OpenShut
import Derived.ShutString
import Derived.ChangeOld
import Derived.ChangeVars
import Derived.LaidLaws
import Derived.Deep.DeepHandedRow
namespace Nt
open Go Go.RowKit
def strData {H : Type} (ts : List (List UInt8)) : DataW H := .agg (ts.map fun t => .lit (.string t))
theorem strs_of_tab {H : Type} {enc : TypeId × Value → H} {P : Program} {w : World} {base : Nat} {sp : Nat → Bool} {held : Bool} {fuel : Nat} {t e : TypeId} {n : Nat} {cs : List Value} {ts : List (List UInt8)} {p : List MemPlace}
    (ht : P.underlying t = some (.array n e)) (he : P.underlying e = some .string) (hce : P.cellsOf e = 1) (hct : P.cellsOf t = n)
    (h : DataW.trod enc P w base sp held fuel t cs = some (strData ts, p)) : cs = ts.map fun t => Value.string ⟨t.toArray⟩ := by
  cases fuel with
  | zero => simp [DataW.trod] at h
  | succ fuel =>
    simp only [DataW.trod, ht, hce, hct, Nat.mul_one] at h
    split at h
    · rename_i hl
      obtain ⟨xs, hm, hx⟩ := Option.map_eq_some_iff.1 h
      have hxs : xs.map (·.1) = ts.map fun t => (DataW.lit (.string t) : DataW H) := by
        have := congrArg Prod.fst hx
        simpa [strData] using this
      have hxl : xs.length = n := by simpa using Lib.mapM_length hm
      have hzl : ts.length = n := by
        have := congrArg List.length hxs
        simp at this
        omega
      apply List.ext_getElem?
      intro i
      by_cases hi : i < n
      · obtain ⟨b, hb, hf⟩ := Lib.mapM_at hm i i (by simp [hi])
        obtain ⟨s, hc, rfl, _⟩ := DataW.trod_string he hf
        have h1 : cs[i]? = some (.string s) := by
          have := congrArg (·[0]?) hc
          simpa [List.getElem?_take, List.getElem?_drop] using this
        have h2 : (xs.map (·.1))[i]? = some (DataW.lit (.string s.data.toList) : DataW H) := by simp [hb]
        rw [hxs] at h2
        simp only [List.getElem?_map, Option.map_eq_some_iff, DataW.lit.injEq, Lit.string.injEq] at h2
        obtain ⟨t', ht', e'⟩ := h2
        rw [h1, List.getElem?_map, ht', e']
        rfl
      · rw [List.getElem?_eq_none (by omega), List.getElem?_eq_none (by simp; omega)]
    · cases h
end Nt
namespace Go.Proofs.YtifepoefeamboaaDoor
open Go Go.RowKit Nt
open Go.ChangeShapes Go.WideShapes Go.ChangeAt
open Go.ChangeMaps (open_string shut_string)

theorem gSolv : Tryd.prog.globalNamed "loop.example/g00615/impl.solverWords" = some 0 := by kernel_rfl
theorem gSolvType : (Tryd.prog.globals[0]?).map (·.type) = some 52 := by kernel_rfl
theorem cellsSolv : Tryd.prog.cellsOf 52 = 5 := by kernel_rfl
theorem cellsSolvS : Tryd.prog.cellsOf 9 = 1 := by kernel_rfl
theorem solvs_of_laid {W : World} {rest : List (String × DataW Unit)} (h : laidMet Tryd.prog (("loop.example/g00615/impl.solverWords", strData solvBytes) :: rest) W) : W.var? Tryd.prog "loop.example/g00615/impl.solverWords" = some solvCells := by
  obtain ⟨ps, ⟨g', t', cs, fuel, p, q, hg', ht', hvar, hd, _, _⟩, _⟩ := h
  obtain rfl := Option.some.inj (gSolv.symm.trans hg')
  obtain rfl := Option.some.inj (gSolvType.symm.trans ht')
  have := strs_of_tab Tryd.underlying52 Tryd.underlying9 cellsSolvS cellsSolv hd
  rw [hvar]
  apply congrArg some
  apply Array.toList_inj.1
  rw [this]
  rfl
theorem solvs_cell {W : World} (h : W.var? Tryd.prog "loop.example/g00615/impl.solverWords" = some solvCells) (k : Nat) (hk : k < 5) : W.cell? ⟨0, k, none⟩ = some (.string (sv k)) :=
  (World.var?_cell gSolv h k).trans (solvCells_get k hk)
theorem solvs_lt {W : World} (h : W.var? Tryd.prog "loop.example/g00615/impl.solverWords" = some solvCells) : 0 < W.heap.size := by
  rcases Nat.eq_zero_or_pos W.heap.size with h0 | h1
  · have := solvs_cell h 0 (by decide)
    simp [World.cell?, h0] at this
  · exact h1
theorem solvs_keep {W W' : World} (h : W.var? Tryd.prog "loop.example/g00615/impl.solverWords" = some solvCells) (hb : Below W.heap.size W W') : W'.var? Tryd.prog "loop.example/g00615/impl.solverWords" = some solvCells := by
  have h0 := hb.block 0 (solvs_lt h)
  simp only [World.var?, gSolv, Option.bind_some] at h ⊢
  rw [h0]
  exact h
theorem reads_solvs {H : Type} (enc : TypeId × Value → H) (W : World) (sp : Nat → Bool) : DataW.trod enc Tryd.prog W 0 sp true 3 52 solvCells.toList = some (strData solvBytes, []) := by kernel_rfl
noncomputable def solvWorld (os : Os) : World :=
  { World.holding Tryd.prog os ⟨#[], #[], []⟩ with heap := (World.holding Tryd.prog os ⟨#[], #[], []⟩).heap.modify 0 fun
      | .cells _ t frozen => .cells solvCells t frozen
      | o => o }
end Go.Proofs.YtifepoefeamboaaDoor
