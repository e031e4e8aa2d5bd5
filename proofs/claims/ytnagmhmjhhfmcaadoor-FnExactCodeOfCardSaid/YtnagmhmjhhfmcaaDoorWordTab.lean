/-
  The table of words, as the row lists it, and as a world holds it.
-/
import Derived.Test.YtnagmhmjhhfmcaaDoorWord
import Derived.Test.YtnagmhmjhhfmcaaDoorCards
import Derived.Test.YtnagmhmjhhfmcaaDoorTie
import Derived.ProofKit
import Derived.OpenShut
import Derived.ShutString
import Derived.ChangeOld
import Derived.ChangeVars
import Derived.LaidLaws
import Derived.Deep.DeepHandedRow
namespace Nt
open Go Go.RowKit
def strData {H : Type} (ts : List (List UInt8)) : DataW H := .agg (ts.map fun t => .lit (.string t))
theorem strs_of_tab {H : Type} {enc : TypeId × Value → H} {P : Program} {w : World} {base : Nat} {sp : Nat → Bool} {held : Bool} {fuel : Nat} {t e : TypeId} {n : Nat} {cs : List Value} {ts : List (List UInt8)} {p : List MemPlace}
    (ht : P.underlying t = some (.array n e)) (he : P.underlying e = some .string) (hce : P.cellsOf e = 1) (hct : P.cellsOf t = n)
    (h : DataW.trod enc P w base sp held fuel t cs = some (strData ts, p)) : cs = ts.map fun t => Value.string ⟨t.toArray⟩ := by
  cases fuel with
  | zero => simp [DataW.trod] at h
  | succ fuel =>
    simp only [DataW.trod, ht, hce, hct, Nat.mul_one] at h
    split at h
    · rename_i hl
      obtain ⟨xs, hm, hx⟩ := Option.map_eq_some_iff.1 h
      have hxs : xs.map (·.1) = ts.map fun t => (DataW.lit (.string t) : DataW H) := by
        have := congrArg Prod.fst hx
        simpa [strData] using this
      have hxl : xs.length = n := by simpa using Lib.mapM_length hm
      have hzl : ts.length = n := by
        have := congrArg List.length hxs
        simp at this
        omega
      apply List.ext_getElem?
      intro i
      by_cases hi : i < n
      · obtain ⟨b, hb, hf⟩ := Lib.mapM_at hm i i (by simp [hi])
        obtain ⟨s, hc, rfl, _⟩ := DataW.trod_string he hf
        have h1 : cs[i]? = some (.string s) := by
          have := congrArg (·[0]?) hc
          simpa [List.getElem?_take, List.getElem?_drop] using this
        have h2 : (xs.map (·.1))[i]? = some (DataW.lit (.string s.data.toList) : DataW H) := by simp [hb]
        rw [hxs] at h2
        simp only [List.getElem?_map, Option.map_eq_some_iff, DataW.lit.injEq, Lit.string.injEq] at h2
        obtain ⟨t', ht', e'⟩ := h2
        rw [h1, List.getElem?_map, ht', e']
        rfl
      · rw [List.getElem?_eq_none (by omega), List.getElem?_eq_none (by simp; omega)]
    · cases h
end Nt
namespace Go.Proofs.YtnagmhmjhhfmcaaDoor
open Go Go.RowKit Nt
open Go.ChangeShapes Go.WideShapes Go.ChangeAt
open Go.ChangeMaps (open_string shut_string)

theorem gWords : Tryd.prog.globalNamed "loop.example/g00615/impl.codeWords" = some 0 := by kernel_rfl
theorem gWordsType : (Tryd.prog.globals[0]?).map (·.type) = some 33 := by kernel_rfl
theorem cellsWords : Tryd.prog.cellsOf 33 = 20 := by kernel_rfl
theorem cellsString : Tryd.prog.cellsOf 9 = 1 := by kernel_rfl
theorem words_of_laid {W : World} {rest : List (String × DataW Unit)} (h : laidMet Tryd.prog (("loop.example/g00615/impl.codeWords", strData wordBytes) :: rest) W) : W.var? Tryd.prog "loop.example/g00615/impl.codeWords" = some wordCells := by
  obtain ⟨ps, ⟨g', t', cs, fuel, p, q, hg', ht', hvar, hd, _, _⟩, _⟩ := h
  obtain rfl := Option.some.inj (gWords.symm.trans hg')
  obtain rfl := Option.some.inj (gWordsType.symm.trans ht')
  have := strs_of_tab Tryd.underlying33 Tryd.underlying9 cellsString cellsWords hd
  rw [hvar]
  apply congrArg some
  apply Array.toList_inj.1
  rw [this]
  rfl
theorem words_cell {W : World} (h : W.var? Tryd.prog "loop.example/g00615/impl.codeWords" = some wordCells) (k : Nat) (hk : k < 20) : W.cell? ⟨0, k, none⟩ = some (.string (wd k)) :=
  (World.var?_cell gWords h k).trans (wordCells_get k hk)
theorem words_lt {W : World} (h : W.var? Tryd.prog "loop.example/g00615/impl.codeWords" = some wordCells) : 0 < W.heap.size := by
  rcases Nat.eq_zero_or_pos W.heap.size with h0 | h1
  · have := words_cell h 0 (by decide)
    simp [World.cell?, h0] at this
  · exact h1
theorem words_keep {W W' : World} (h : W.var? Tryd.prog "loop.example/g00615/impl.codeWords" = some wordCells) (hb : Below W.heap.size W W') : W'.var? Tryd.prog "loop.example/g00615/impl.codeWords" = some wordCells := by
  have h0 := hb.block 0 (words_lt h)
  simp only [World.var?, gWords, Option.bind_some] at h ⊢
  rw [h0]
  exact h
theorem reads_words {H : Type} (enc : TypeId × Value → H) (W : World) (sp : Nat → Bool) : DataW.trod enc Tryd.prog W 0 sp true 3 33 wordCells.toList = some (strData wordBytes, []) := by kernel_rfl
noncomputable def wordWorld (os : Os) : World :=
  { World.holding Tryd.prog os ⟨#[], #[], []⟩ with heap := (World.holding Tryd.prog os ⟨#[], #[], []⟩).heap.modify 0 fun
      | .cells _ t frozen => .cells wordCells t frozen
      | o => o }
end Go.Proofs.YtnagmhmjhhfmcaaDoor
