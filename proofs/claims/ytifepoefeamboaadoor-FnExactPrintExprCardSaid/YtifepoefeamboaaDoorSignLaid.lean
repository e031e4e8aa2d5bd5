/-
  The table of signs, as a row lists it, and as a world holds it.
-/
import Derived.Test.YtifepoefeamboaaDoorExprTxt
import Derived.Test.YtifepoefeamboaaDoorTabLaid
namespace Nt
open Go Go.RowKit
def strDataN {H : Type} (ts : List (List UInt8)) : DataW H := .agg (ts.map fun t => .lit (.string t))
theorem strs_of_tabN {H : Type} {enc : TypeId × Value → H} {P : Program} {w : World} {base : Nat} {sp : Nat → Bool} {held : Bool} {fuel : Nat} {t e : TypeId} {n : Nat} {cs : List Value} {ts : List (List UInt8)} {p : List MemPlace}
    (ht : P.underlying t = some (.array n e)) (he : P.underlying e = some .string) (hce : P.cellsOf e = 1) (hct : P.cellsOf t = n)
    (h : DataW.trod enc P w base sp held fuel t cs = some (strDataN ts, p)) : cs = ts.map fun t => Value.string ⟨t.toArray⟩ := by
  cases fuel with
  | zero => simp [DataW.trod] at h
  | succ fuel =>
    simp only [DataW.trod, ht, hce, hct, Nat.mul_one] at h
    split at h
    · rename_i hl
      obtain ⟨xs, hm, hx⟩ := Option.map_eq_some_iff.1 h
      have hxs : xs.map (·.1) = ts.map fun t => (DataW.lit (.string t) : DataW H) := by
        have := congrArg Prod.fst hx
        simpa [strDataN] using this
      have hxl : xs.length = n := by simpa using Lib.mapM_length hm
      have hzl : ts.length = n := by
        have := congrArg List.length hxs
        simp at this
        omega
      apply List.ext_getElem?
      intro i
      by_cases hi : i < n
      · obtain ⟨b, hb, hf⟩ := Lib.mapM_at hm i i (by simp [hi])
        obtain ⟨s, hc, rfl, _⟩ := DataW.trod_string he hf
        have h1 : cs[i]? = some (.string s) := by
          have := congrArg (·[0]?) hc
          simpa [List.getElem?_take, List.getElem?_drop] using this
        have h2 : (xs.map (·.1))[i]? = some (DataW.lit (.string s.data.toList) : DataW H) := by simp [hb]
        rw [hxs] at h2
        simp only [List.getElem?_map, Option.map_eq_some_iff, DataW.lit.injEq, Lit.string.injEq] at h2
        obtain ⟨t', ht', e'⟩ := h2
        rw [h1, List.getElem?_map, ht', e']
        rfl
      · rw [List.getElem?_eq_none (by omega), List.getElem?_eq_none (by simp; omega)]
    · cases h
def signList : List (List UInt8) := [[], [], [], [43], [45], [42], [47]]
def signCells : Array Value := (signList.map fun t => Value.string ⟨t.toArray⟩).toArray
theorem signCells_get (k : Nat) (h3 : 3 ≤ k) (h6 : k ≤ 6) : signCells[k]? = some (.string ⟨(signT (k : Int)).toArray⟩) := by
  rcases (show k = 3 ∨ k = 4 ∨ k = 5 ∨ k = 6 by omega) with rfl | rfl | rfl | rfl <;> rfl
end Nt
namespace Go.Proofs.YtifepoefeamboaaDoor
open Go Go.RowKit Nt
open Go.ChangeShapes Go.WideShapes Go.ChangeAt

theorem gSigns : Tryd.prog.globalNamed "loop.example/g00615/impl.opSigns" = some 2 := by kernel_rfl
theorem gSignsType : (Tryd.prog.globals[2]?).map (·.type) = some 109 := by kernel_rfl
theorem cellsSigns : Tryd.prog.cellsOf 109 = 7 := by kernel_rfl
theorem cellsStr : Tryd.prog.cellsOf 9 = 1 := by kernel_rfl
theorem signs_of_laid {W : World} {x y z : String × DataW Unit} {rest : List (String × DataW Unit)} (h0 : laidMet Tryd.prog (x :: y :: z :: ("loop.example/g00615/impl.opSigns", strDataN signList) :: rest) W) : W.var? Tryd.prog "loop.example/g00615/impl.opSigns" = some signCells := by
  have h : laidMet Tryd.prog (("loop.example/g00615/impl.opSigns", strDataN signList) :: rest) W := h0.tail.tail.tail
  obtain ⟨ps, ⟨g', t', cs, fuel, p, q, hg', ht', hvar, hd, _, _⟩, _⟩ := h
  obtain rfl := Option.some.inj (gSigns.symm.trans hg')
  obtain rfl := Option.some.inj (gSignsType.symm.trans ht')
  have := strs_of_tabN Tryd.underlying109 Tryd.underlying9 cellsStr cellsSigns hd
  rw [hvar]
  apply congrArg some
  apply Array.toList_inj.1
  rw [this]
  rfl
theorem signs_lt {W : World} (h : W.var? Tryd.prog "loop.example/g00615/impl.opSigns" = some signCells) : 2 < W.heap.size := by
  have hc := (World.var?_cell gSigns h 3).trans (signCells_get 3 (by decide) (by decide))
  exact World.block_lt_of_cell? W _ hc
theorem signs_var {W : World} (h : W.var? Tryd.prog "loop.example/g00615/impl.opSigns" = some signCells) : Signs W :=
  ⟨signs_lt h, fun op h3 h6 => (World.var?_cell gSigns h op).trans (signCells_get op h3 h6)⟩
theorem signs_keep {W W' : World} (h : W.var? Tryd.prog "loop.example/g00615/impl.opSigns" = some signCells) (hb : Below W.heap.size W W') : W'.var? Tryd.prog "loop.example/g00615/impl.opSigns" = some signCells := by
  have h0 := hb.block 2 (signs_lt h)
  simp only [World.var?, gSigns, Option.bind_some] at h ⊢
  rw [h0]
  exact h
theorem reads_signs {H : Type} (enc : TypeId × Value → H) (W : World) (sp : Nat → Bool) : DataW.trod enc Tryd.prog W 0 sp true 3 109 signCells.toList = some (strDataN signList, []) := by kernel_rfl
noncomputable def signWorld (os : Os) : World := tabPut 2 signCells (tabWorld os)
end Go.Proofs.YtifepoefeamboaaDoor
