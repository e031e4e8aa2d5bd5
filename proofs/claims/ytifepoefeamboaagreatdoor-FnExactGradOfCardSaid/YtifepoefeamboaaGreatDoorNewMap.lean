/-
  Steps that are known: a map from steps to their places.
-/
import Derived.Test.YtifepoefeamboaaGreatDoorGrpH
import Derived.Maps.OwnIn
import Derived.DeepKeys4
import Derived.MapViews
import Derived.WideKeyArgs
namespace Nt
open Go Go.RowKit
def ndV (x : Nd) : Value := .agg #[.int .i64 x.1, .int .i64 x.2.1, .int .i64 x.2.2.1, .int .i64 x.2.2.2]
structure WfN (x : Nd) : Prop where
  w0 : (Lit.int .i64 x.1).wf = true
  w1 : (Lit.int .i64 x.2.1).wf = true
  w2 : (Lit.int .i64 x.2.2.1).wf = true
  w3 : (Lit.int .i64 x.2.2.2).wf = true
def klN (x : Nd) : Lit := .string (keyBytes [.int .i64 x.1, .int .i64 x.2.1, .int .i64 x.2.2.1, .int .i64 x.2.2.2])
/-- D bears the steps ss, each with its place -/
structure Known {H : Type} (D : DataW H) (ss : List Nd) : Prop where
  tidy : Maps.Tidy D
  size : Maps.size D = ss.length
  has : ∀ x, WfN x → Maps.has D (klN x) = decide (0 ≤ findN ss x ss.length)
  at_ : ∀ x, WfN x → 0 ≤ findN ss x ss.length → ∀ z, D.atKey (klN x) z = .lit (.int .i64 (findN ss x ss.length))
theorem known_nil {H : Type} : Known (.map [] : DataW H) [] := ⟨Maps.tidy_empty, rfl, fun x _ => rfl, fun x _ h => absurd h (by unfold findN; show ¬ (0 ≤ (-1 : Int)); omega)⟩
theorem Known.more {H : Type} {D : DataW H} {ss : List Nd} (h : Known D ss) (hk : ∀ x y, WfN x → WfN y → klN x = klN y → x = y) (x : Nd) (hx : WfN x) (hn : findN ss x ss.length < 0) :
    Known (D.put (klN x) (.lit (.int .i64 (ss.length : Int)))) (ss ++ [x]) := by
  have hl : (ss ++ [x]).length = ss.length + 1 := by simp
  have hext : ∀ y, findN (ss ++ [x]) y ss.length = findN ss y ss.length := fun y => findN_ext _ fun j hj => by simp [List.getD, List.getElem?_append_left hj]
  have hgx : (ss ++ [x]).getD ss.length nd0 = x := by simp [List.getD]
  have hstep : ∀ y, findN (ss ++ [x]) y (ss ++ [x]).length = if 0 ≤ findN ss y ss.length then findN ss y ss.length else if x = y then (ss.length : Int) else -1 := fun y => by
    rw [hl]
    show (if 0 ≤ findN (ss ++ [x]) y ss.length then findN (ss ++ [x]) y ss.length else if (ss ++ [x]).getD ss.length nd0 = y then (ss.length : Int) else -1) = _
    rw [hext, hgx]
  have hkl : WideAt.IsKeyLit (klN x) := trivial
  have hno : Maps.has D (klN x) = false := by rw [h.has x hx]; simp; omega
  refine ⟨h.tidy.put hkl _, ?_, fun y hy => ?_, fun y hy hp z => ?_⟩
  · rw [Maps.size_put h.tidy, hno, if_neg Bool.false_ne_true, h.size, hl]
  · rw [hstep]
    by_cases e : x = y
    · subst e
      rw [Maps.has_put_same h.tidy.isMap hkl, if_neg (by omega), if_pos rfl]
      simp
    · rw [Maps.has_put_other (fun q => e (hk _ _ hy hx q).symm), h.has y hy, if_neg e]
      by_cases q : 0 ≤ findN ss y ss.length
      · rw [if_pos q]
      · rw [if_neg q]; simp; omega
  · rw [hstep] at hp ⊢
    by_cases e : x = y
    · subst e
      rw [if_neg (by omega), if_pos rfl, Maps.atKey_put_same h.tidy.isMap hkl]
    · rw [if_neg e] at hp ⊢
      by_cases q : 0 ≤ findN ss y ss.length
      · rw [if_pos q, Maps.atKey_put_other (fun p => e (hk _ _ hy hx p).symm)]
        exact h.at_ y hy q z
      · rw [if_neg q] at hp; omega
theorem more_of_lt {a n : Nat} (h : a < n) : ∃ m, n = m + 1 := ⟨n - 1, by omega⟩
theorem wf_small {x : Int} (h : -10000000000 ≤ x ∧ x ≤ 10000000000) : (Lit.int .i64 x).wf = true := by
  have e1 : IntKind.i64.min = -9223372036854775808 := by decide
  have e2 : IntKind.i64.max = 9223372036854775807 := by decide
  simp [Lit.wf, e1, e2]
  omega
end Nt
namespace Go.Proofs.YtifepoefeamboaaGreatDoor
open Go Go.RowKit Nt Go.ChangeShapes Go.WideShapes Go.WideMaps

theorem laidOut4 : laidOutB Tryz.prog = true := by kernel_rfl
theorem nodeWide : (match Tryz.prog.underlying 114 with | some (.array _ _) | some (.struct _) => true | _ => false) = true := by rw [Tryz.underlying114]
theorem nodeRow : (114 : TypeId) < Tryz.prog.types.size := of_decide_eq_true (by kernel_rfl)
set_option maxRecDepth 100000 in
theorem nodeKeyed : Maps.Keyed Tryz.prog 114 := Maps.Keyed.of_law (deep_law_laid laidOut4 (m := 2) (by omega) nodeRow (by kernel_rfl) nodeWide)
theorem nodeCells : Tryz.prog.cellsOf 114 = 4 := by kernel_rfl
theorem intCells : Tryz.prog.cellsOf 3 = 1 := by kernel_rfl
theorem nodeKeyType : Tryz.prog.keyType 114 = true := by kernel_rfl
theorem typesMore : ∃ m, Tryz.prog.types.size = m + 1 := more_of_lt nodeRow

theorem keyOf_nd (x : Nd) (h : WfN x) : keyOf Tryz.prog 114 (ndV x) = some (klN x) := by
  obtain ⟨m, hm⟩ := typesMore
  obtain ⟨w0, w1, w2, w3⟩ := h
  unfold keyOf ndV klN
  simp only [Tryz.underlying114]
  rw [if_pos (by simp [nodeKeyType, Value.formed, Tryz.underlying114, nodeCells]), hm]
  unfold Program.keyLits
  simp only [Tryz.underlying114, Value.cells]
  rw [if_pos (by rw [nodeCells]; exact ⟨rfl, by first | rfl | simp | kernel_rfl⟩)]
  simp [intCells, Program.keyLits, Tryz.underlying3, w0, w1, w2, w3]

theorem klN_inj (x y : Nd) (hx : WfN x) (hy : WfN y) (h : klN x = klN y) : x = y := by
  have e := nodeKeyed.inj (keyOf_nd x hx) (h ▸ keyOf_nd y hy)
  unfold ndV at e
  simp only [Value.agg.injEq, Array.mk.injEq, List.cons.injEq, Value.int.injEq, true_and, and_true] at e
  obtain ⟨a, b, c, d⟩ := e
  exact Prod.ext a (Prod.ext b (Prod.ext c d))
end Go.Proofs.YtifepoefeamboaaGreatDoor
