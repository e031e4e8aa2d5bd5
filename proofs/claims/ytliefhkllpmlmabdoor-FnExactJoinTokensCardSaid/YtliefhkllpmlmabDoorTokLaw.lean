/-
  What the laws over tokens do with one.
-/
import Derived.Test.YtliefhkllpmlmabDoorTokOk
import Derived.ProofKit
import Derived.OpenShut
import Derived.ShutString
import Derived.ChangeOld
import Derived.Lib.SmallJoins
import Derived.Laws.ResultCell
namespace Go.Proofs.YtliefhkllpmlmabDoor
open Go Go.RowKit Nt

theorem retTok {fn : Func} {p : Tmp} {k n : Int} {s : ByteArray} (h : fn.results = #[.cell p 45]) (tmps : Array Value) (w : World) (b : Nat) (hp : tmps.getD p undef = .pointer (some ⟨b, 0, none⟩)) (hr : TokAt w b 45 k n s) :
    (results fn tmps).run Tryd.prog w = .ok (.agg #[.int .i64 k, .int .i64 n, .string s]) w := results_cell_row h tmps w b _ _ _ _ hp hr Tryd.underlying45 rfl (by kernel_rfl)
theorem calls_atT {P : Program} {f : FuncId} {args : Array Value} {W : World} {post : Ending → World → Prop} (F : World → Prop) (hF : F W) (h : ∀ W, F W → Calls P f args W post) : Calls P f args W post := h W hF
set_option maxHeartbeats 800000 in
theorem toToken_any (k n : Int) (s : ByteArray) (w : World) :
    Calls Tryd.prog 23 #[.agg #[.int .i64 k, .int .i64 n, .string s]] w fun e w' => e = .returned (.agg #[.int .i64 k, .int .i64 n, .string s]) ∧ Below w.heap.size w w' := by
  go_enter Tryd.func23, Tryd.ntmps23
  go_wp2
  refine bodyPost_ret (retTok (k := k) (n := n) (s := s) rfl _ _ (w.heap.size + 1) rfl ?_) rfl ⟨rfl, (((Below.refl _ _).alloc (Nat.le_refl _) _).alloc (by simp) _).alloc (by simp; omega) _⟩
  have h1 := TokAt.new (w.alloc (.cells #[.int .i64 k, .int .i64 n, .string s] 42)) 45 k n s
  rw [World.size_alloc] at h1
  exact h1.on (tok_below1 _ _)

theorem szToken_big (k n : Int) (s : ByteArray) (w : World) (hs : s.size ≤ maxLen) (hb : (1048576 : Int) < s.size) :
    Calls Tryd.prog 21 #[.agg #[.int .i64 k, .int .i64 n, .string s], .int .i64 1048576] w fun e w' => e = .returned (.int .i64 (-1)) ∧ Below w.heap.size w w' := by
  unfold maxLen at hs
  have HB := Lib.hid (tok_below1 w (.cells #[.int .i64 k, .int .i64 n, .string s] 42))
  have hd : 1048576 - (s.size : Int) < 0 := by omega
  go_enter Tryd.func21, Tryd.ntmps21
  go_wp2
  go_ret
  exact ⟨rfl, HB.out⟩
theorem szToken_fit (k n : Int) (s : ByteArray) (w : World) (hb : (s.size : Int) ≤ 1048576) :
    Calls Tryd.prog 21 #[.agg #[.int .i64 k, .int .i64 n, .string s], .int .i64 1048576] w fun e w' => e = .returned (.int .i64 (1048576 - s.size)) ∧ Below w.heap.size w w' := by
  have HB := Lib.hid (tok_below1 w (.cells #[.int .i64 k, .int .i64 n, .string s] 42))
  have hd : 0 ≤ 1048576 - (s.size : Int) := by omega
  go_enter Tryd.func21, Tryd.ntmps21
  go_wp2
  go_ret
  exact ⟨rfl, HB.out⟩

end Go.Proofs.YtliefhkllpmlmabDoor
