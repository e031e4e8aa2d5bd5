/-
  The variable errOverZero, as the row lists it, and as a world holds it.
-/
import Derived.Test.YtifepoefeamboaaGreatDoorGrpG
import Derived.Test.YtifepoefeamboaaGreatDoorCards
import Derived.Test.YtifepoefeamboaaGreatDoorTie
import Derived.ProofKit
import Derived.OpenShut
import Derived.ShutString
import Derived.ChangeOld
import Derived.ChangeVars
import Derived.LaidLaws
import Derived.Deep.DeepHandedRow
import Derived.Stop.LaidErr
namespace Go.Proofs.YtifepoefeamboaaGreatDoor
open Go Go.RowKit Nt
open Go.ChangeShapes Go.WideShapes Go.ChangeAt
open Go.ChangeMaps (open_string shut_string)

theorem gErr : Tryz.prog.globalNamed "loop.example/g00615/impl.errOverZero" = some 0 := by kernel_rfl
theorem gErrType : (Tryz.prog.globals[0]?).map (·.type) = some 139 := by kernel_rfl
theorem errCells : Tryz.prog.cellsOf 222 = 1 := by kernel_rfl
theorem errText : Tryz.prog.cellsOf 9 = 1 := by kernel_rfl
theorem errStar : "*" ++ "errors.errorString" = "*errors.errorString" := by decide
theorem errName (u : TypeId) (h : Tryz.prog.typeName? 3 u = some "*errors.errorString") : u = 195 :=
  typeName_ptr_named (nm := "errors.errorString") (by rw [errStar]; kernel_rfl) (by kernel_rfl) (by decide) u (by rw [errStar]; exact h)
theorem err_of_laid {W : World} {rest : List (String × DataW Unit)} (h : laidMet Tryz.prog (("loop.example/g00615/impl.errOverZero", Rows.laid_loop_example_g00615_impl_errOverZero) :: rest) W) : ∃ ad : Addr, W.var? Tryz.prog "loop.example/g00615/impl.errOverZero" = some #[.iface 195 (.pointer (some ad))] := by
  obtain ⟨ad, s, hv, _⟩ := laid_sentinel h gErr gErrType Tryz.underlying139 errName Tryz.underlying195 Tryz.underlying222 rfl rfl Tryz.underlying9 errCells errText
  exact ⟨ad, hv⟩
theorem err_cell {W : World} {x : Value} (h : W.var? Tryz.prog "loop.example/g00615/impl.errOverZero" = some #[x]) : W.cell? ⟨0, 0, none⟩ = some x := by
  simpa using World.var?_cell gErr h 0
theorem err_lt {W : World} {x : Value} (h : W.var? Tryz.prog "loop.example/g00615/impl.errOverZero" = some #[x]) : 0 < W.heap.size := by
  rcases Nat.eq_zero_or_pos W.heap.size with h0 | h1
  · have := err_cell h
    simp [World.cell?, h0] at this
  · exact h1
theorem err_keep {W W' : World} {x : Value} (h : W.var? Tryz.prog "loop.example/g00615/impl.errOverZero" = some #[x]) (hb : Below W.heap.size W W') : W'.var? Tryz.prog "loop.example/g00615/impl.errOverZero" = some #[x] := by
  have h0 := hb.block 0 (err_lt h)
  simp only [World.var?, gErr, Option.bind_some] at h ⊢
  rw [h0]
  exact h
theorem err_at {W : World} {ad : Addr} (h : W.var? Tryz.prog "loop.example/g00615/impl.errOverZero" = some #[.iface 195 (.pointer (some ad))]) : ErrAt 195 W ad := ⟨err_cell h, err_lt h⟩
theorem err_read {H : Type} (enc : TypeId × Value → H) {W : World} {x : Value} (h : W.var? Tryz.prog "loop.example/g00615/impl.errOverZero" = some #[x]) (i : IsIface x) (sp : Nat → Bool) :
    DataW.TrodVars enc Tryz.prog W sp ["loop.example/g00615/impl.errOverZero"] [tok enc x] [.cell 0 0] :=
  ⟨0, 139, #[x], 1, [], [], gErr, gErrType, h, trod_held Tryz.underlying139 i 0, rfl, rfl⟩
noncomputable def errLow : Nat := (World.holding Tryz.prog default ⟨#[], #[], []⟩).heap.size
noncomputable def errWorld (os : Os) : World :=
  let w0 := World.holding Tryz.prog os ⟨#[.cells #[.string ⟨#[111, 118, 101, 114, 32, 48]⟩] 222], #[], []⟩
  { w0 with heap := w0.heap.modify 0 fun
      | .cells _ t frozen => .cells #[.iface 195 (.pointer (some ⟨errLow, 0, none⟩))] t frozen
      | o => o }
end Go.Proofs.YtifepoefeamboaaGreatDoor
