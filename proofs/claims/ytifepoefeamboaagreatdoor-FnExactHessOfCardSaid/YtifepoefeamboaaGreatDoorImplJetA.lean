/-
  Which kind of jet one is: halves, bothFixed.
-/
import Derived.Test.YtifepoefeamboaaGreatDoorGrpC
namespace Nt
open Go Go.RowKit
theorem wp_atJ {P : Program} {c : Code} {Q : Exit → Act → World → Prop} {a : Act} {W : World} (F : World → Prop) (hF : F W) (h : ∀ W, F W → c.wp P Q a W) : c.wp P Q a W := h W hF
theorem RatAt.new3 (w : World) (o o' o3 : Obj) (t : TypeId) (neg : Bool) (A B : Option Addr) (la ca lb cb : Nat) : RatAt ((((w.alloc o).alloc o').alloc o3).alloc (.cells #[.bool neg, .slice A la ca, .slice B lb cb] t)) (w.heap.size + 1 + 1 + 1) t neg A la ca B lb cb := by
  have := RatAt.new (((w.alloc o).alloc o').alloc o3) t neg A B la ca lb cb
  rwa [World.size_alloc, World.size_alloc, World.size_alloc] at this
theorem below4J (w : World) (o o' o'' o3 : Obj) : Below w.heap.size w ((((w.alloc o).alloc o').alloc o'').alloc o3) := (below3 w o o' o'').alloc (by simp; omega) _
end Nt
namespace Go.Proofs.YtifepoefeamboaaGreatDoor
open Go Go.RowKit Nt

theorem as_mm (v : Value) (w : World) : (Instr.typeAssert (.iface 103 v) 64 103 true).run Tryz.prog w = .ok (.tuple #[v, .bool true]) w := by kernel_rfl
theorem as_fm (v : Value) (w : World) : (Instr.typeAssert (.iface 105 v) 64 103 true).run Tryz.prog w = .ok (.tuple #[.agg #[.nilIface, .nilIface], .bool false]) w := by kernel_rfl
theorem as_ff (v : Value) (w : World) : (Instr.typeAssert (.iface 105 v) 64 105 true).run Tryz.prog w = .ok (.tuple #[v, .bool true]) w := by kernel_rfl
theorem as_mf (v : Value) (w : World) : (Instr.typeAssert (.iface 103 v) 64 105 true).run Tryz.prog w = .ok (.tuple #[.agg #[.bool false, .slice none 0 0, .slice none 0 0], .bool false]) w := by kernel_rfl

theorem halves_mv (ta ts : TypeId) (xa xs : Value) (w : World) : Calls Tryz.prog 152 #[.iface 103 (.agg #[.iface ta xa, .iface ts xs])] w fun e w' => e = .returned (.tuple #[.iface ta xa, .iface ts xs]) ∧ Below w.heap.size w w' := by
  have h1 := as_mm
  go_enter Tryz.func152, Tryz.ntmps152
  go_wp2
  go_quiet (fail)
  go_wp2
  refine bodyPost_ret (results_tmp2 rfl _ _ _) rfl ⟨rfl, below_drewN (below1 _ _) _⟩

/-- what a call leaves of two numbers and a word -/
theorem retRR {fn : Func} {p q u : Tmp} {n n' : Bool} {A B A' B' : Option Addr} {la ca lb cb la' ca' lb' cb' : Nat} (h : fn.results = #[.cell p 31, .cell q 31, .tmp u]) (tmps : Array Value) (w : World) (b b' : Nat) (hp : tmps.getD p undef = .pointer (some ⟨b, 0, none⟩)) (hq : tmps.getD q undef = .pointer (some ⟨b', 0, none⟩)) (hr : RatAt w b 31 n A la ca B lb cb) (hs : RatAt w b' 31 n' A' la' ca' B' lb' cb') :
    (results fn tmps).run Tryz.prog w = .ok (.tuple #[.agg #[.bool n, .slice A la ca, .slice B lb cb], .agg #[.bool n', .slice A' la' ca', .slice B' lb' cb'], tmps.getD u undef]) w := by
  have e : (results fn tmps).run Tryz.prog w =
      ((asAddr (tmps.getD p undef)).run Tryz.prog w).andThen fun a w₁ => ((loadVar 31 a).run Tryz.prog w₁).andThen fun v w₂ => ((asAddr (tmps.getD q undef)).run Tryz.prog w₂).andThen fun a' w₃ => ((loadVar 31 a').run Tryz.prog w₃).andThen fun v' w₄ => .ok (.tuple #[v, v', tmps.getD u undef]) w₄ := by
    simp only [results, h]
    simp [Sem.run_bind, Result.andThen]
  rw [e, hp, hq]
  simp [asAddr, run_loadVar_row w b _ _ _ _ _ hr Tryz.underlying31 rfl (by kernel_rfl), run_loadVar_row w b' _ _ _ _ _ hs Tryz.underlying31 rfl (by kernel_rfl), Result.andThen]
end Go.Proofs.YtifepoefeamboaaGreatDoor
