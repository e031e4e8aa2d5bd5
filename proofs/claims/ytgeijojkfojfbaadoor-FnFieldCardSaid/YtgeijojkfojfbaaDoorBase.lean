/-
  The laws' own helpers on slices of ints: what they answer, and what they leave.
-/
import Derived.Test.YtgeijojkfojfbaaDoorMem
import Derived.Test.YtgeijojkfojfbaaDoorRows
import Derived.BigQuiet
import Derived.Deep.QuietTactic
namespace Go.Proofs.YtgeijojkfojfbaaDoor
open Go Go.RowKit Nt

theorem infoInt : (Tryd.prog.info? 3).map (fun i => (i.zero, i.size, i.bytes)) = some (some (.int .i64 0), 1, 8) := by kernel_rfl
theorem mk_ints (n : Nat) (hn : n ≤ 16777216) (w : World) :
    (Instr.makeSlice 23 (.int .i64 (n : Int)) (.int .i64 (n : Int))).run Tryd.prog w = .ok (.slice (some ⟨w.heap.size, 0, none⟩) n n) (w.alloc (.cells (cellsOf (zeros n)) 3)) :=
  run_make_ints _ _ Tryd.underlying23 infoInt n hn w

end Go.Proofs.YtgeijojkfojfbaaDoor
