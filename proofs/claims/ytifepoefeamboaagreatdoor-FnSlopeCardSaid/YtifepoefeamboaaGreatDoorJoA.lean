/-
  ImplJetA ImplJetC in one text.
-/
import Derived.Test.YtifepoefeamboaaGreatDoorGrpC
import Derived.BigRegion
namespace Nt
open Go Go.RowKit
theorem wp_atJ {P : Program} {c : Code} {Q : Exit → Act → World → Prop} {a : Act} {W : World} (F : World → Prop) (hF : F W) (h : ∀ W, F W → c.wp P Q a W) : c.wp P Q a W := h W hF
theorem RatAt.new3 (w : World) (o o' o3 : Obj) (t : TypeId) (neg : Bool) (A B : Option Addr) (la ca lb cb : Nat) : RatAt ((((w.alloc o).alloc o').alloc o3).alloc (.cells #[.bool neg, .slice A la ca, .slice B lb cb] t)) (w.heap.size + 1 + 1 + 1) t neg A la ca B lb cb := by
  have := RatAt.new (((w.alloc o).alloc o').alloc o3) t neg A B la ca lb cb
  rwa [World.size_alloc, World.size_alloc, World.size_alloc] at this
theorem below4J (w : World) (o o' o'' o3 : Obj) : Below w.heap.size w ((((w.alloc o).alloc o').alloc o'').alloc o3) := (below3 w o o' o'').alloc (by simp; omega) _
end Nt
namespace Go.Proofs.YtifepoefeamboaaGreatDoor
open Go Go.RowKit Nt

theorem as_mm (v : Value) (w : World) : (Instr.typeAssert (.iface 103 v) 64 103 true).run Tryz.prog w = .ok (.tuple #[v, .bool true]) w := by kernel_rfl
theorem as_fm (v : Value) (w : World) : (Instr.typeAssert (.iface 105 v) 64 103 true).run Tryz.prog w = .ok (.tuple #[.agg #[.nilIface, .nilIface], .bool false]) w := by kernel_rfl
theorem as_ff (v : Value) (w : World) : (Instr.typeAssert (.iface 105 v) 64 105 true).run Tryz.prog w = .ok (.tuple #[v, .bool true]) w := by kernel_rfl
theorem as_mf (v : Value) (w : World) : (Instr.typeAssert (.iface 103 v) 64 105 true).run Tryz.prog w = .ok (.tuple #[.agg #[.bool false, .slice none 0 0, .slice none 0 0], .bool false]) w := by kernel_rfl

theorem halves_mv (ta ts : TypeId) (xa xs : Value) (w : World) : Calls Tryz.prog 152 #[.iface 103 (.agg #[.iface ta xa, .iface ts xs])] w fun e w' => e = .returned (.tuple #[.iface ta xa, .iface ts xs]) ∧ Below w.heap.size w w' := by
  have h1 := as_mm
  go_enter Tryz.func152, Tryz.ntmps152
  go_wp2
  go_quiet (fail)
  go_wp2
  refine bodyPost_ret (results_tmp2 rfl _ _ _) rfl ⟨rfl, below_drewN (below1 _ _) _⟩

/-- what a call leaves of two numbers and a word -/
theorem retRR {fn : Func} {p q u : Tmp} {n n' : Bool} {A B A' B' : Option Addr} {la ca lb cb la' ca' lb' cb' : Nat} (h : fn.results = #[.cell p 31, .cell q 31, .tmp u]) (tmps : Array Value) (w : World) (b b' : Nat) (hp : tmps.getD p undef = .pointer (some ⟨b, 0, none⟩)) (hq : tmps.getD q undef = .pointer (some ⟨b', 0, none⟩)) (hr : RatAt w b 31 n A la ca B lb cb) (hs : RatAt w b' 31 n' A' la' ca' B' lb' cb') :
    (results fn tmps).run Tryz.prog w = .ok (.tuple #[.agg #[.bool n, .slice A la ca, .slice B lb cb], .agg #[.bool n', .slice A' la' ca', .slice B' lb' cb'], tmps.getD u undef]) w := by
  have e : (results fn tmps).run Tryz.prog w =
      ((asAddr (tmps.getD p undef)).run Tryz.prog w).andThen fun a w₁ => ((loadVar 31 a).run Tryz.prog w₁).andThen fun v w₂ => ((asAddr (tmps.getD q undef)).run Tryz.prog w₂).andThen fun a' w₃ => ((loadVar 31 a').run Tryz.prog w₃).andThen fun v' w₄ => .ok (.tuple #[v, v', tmps.getD u undef]) w₄ := by
    simp only [results, h]
    simp [Sem.run_bind, Result.andThen]
  rw [e, hp, hq]
  simp [asAddr, run_loadVar_row w b _ _ _ _ _ hr Tryz.underlying31 rfl (by kernel_rfl), run_loadVar_row w b' _ _ _ _ _ hs Tryz.underlying31 rfl (by kernel_rfl), Result.andThen]
end Go.Proofs.YtifepoefeamboaaGreatDoor
namespace Nt
open Go Go.RowKit
theorem RatAt.drewJ {w : World} {b : Nat} {t : TypeId} {neg : Bool} {A B : Option Addr} {la ca lb cb : Nat} (h : RatAt w b t neg A la ca B lb cb) : RatAt w.drew b t neg A la ca B lb cb := h
theorem below_drewJ {B : Nat} {a w : World} (h : Below B a w) : Below B a w.drew := h.trans ⟨rfl, rfl, rfl, Nat.le_refl _, fun _ _ => rfl⟩
end Nt
namespace Go.Proofs.YtifepoefeamboaaGreatDoor
open Go Go.RowKit Nt

set_option maxHeartbeats 1600000 in
/-- whatever the two are: their numbers, and whether both are fixed -/
theorem bothFixed_gen (vf vg : Value) (x y : Bool) (n n' : Bool) (A B A' B' : Option Addr) (la ca lb cb la' ca' lb' cb' : Nat) (h1 : ∀ w, (Instr.typeAssert vf 64 105 true).run Tryz.prog w = .ok (.tuple #[.agg #[.bool n, .slice A la ca, .slice B lb cb], .bool x]) w) (h2 : ∀ w, (Instr.typeAssert vg 64 105 true).run Tryz.prog w = .ok (.tuple #[.agg #[.bool n', .slice A' la' ca', .slice B' lb' cb'], .bool y]) w) (w : World) :
    Calls Tryz.prog 151 #[vf, vg] w fun e w' => e = .returned (.tuple #[.agg #[.bool n, .slice A la ca, .slice B lb cb], .agg #[.bool n', .slice A' la' ca', .slice B' lb' cb'], .bool (x && y)]) ∧ Below w.heap.size w w' := by
  go_enter Tryz.func151, Tryz.ntmps151
  go_wp2
  refine wp_atJ (fun v0 => Below w.heap.size w v0 ∧ RatAt v0 w.heap.size 31 false none 0 0 none 0 0 ∧ RatAt v0 (w.heap.size + 1) 31 false none 0 0 none 0 0 ∧ RatAt v0 (w.heap.size + 1 + 1) 105 n A la ca B lb cb ∧ RatAt v0 (w.heap.size + 1 + 1 + 1) 105 n' A' la' ca' B' lb' cb')
    ⟨below4J _ _ _ _ _, ((((RatAt.new _ _ _ _ _ _ _ _ _).alloc _).alloc _).alloc _), (((RatAt.new1 _ _ _ _ _ _ _ _ _ _).alloc _).alloc _), (RatAt.new2 _ _ _ _ _ _ _ _ _ _ _).alloc _, RatAt.new3 _ _ _ _ _ _ _ _ _ _ _ _⟩ ?_
  rintro v0 ⟨hb, r0, r1, r2, r3⟩
  have HB0 := Lib.hid hb
  have HR0 := Lib.hid r0
  have HR1 := Lib.hid r1
  have HR2 := Lib.hid r2
  have HR3 := Lib.hid r3
  have f0 := HR0.out.fz 0
  have f1 := HR0.out.fz 1
  have f2 := HR0.out.fz 2
  have y0 := HR0.out.c0
  have y1 := HR0.out.c1
  have y2 := HR0.out.c2
  have k0 := HR1.out.fz 0
  have k1 := HR1.out.fz 1
  have k2 := HR1.out.fz 2
  have z0 := HR1.out.c0
  have z1 := HR1.out.c1
  have z2 := HR1.out.c2
  clear hb r0 r1 r2 r3
  have a0 := HR2.out.c0
  have a1 := HR2.out.c1
  have a2 := HR2.out.c2
  have b0 := HR3.out.c0
  have b1 := HR3.out.c1
  have b2 := HR3.out.c2
  have g2 := fun W b u v => setAll_grown W w.heap.size (.bool b) u v
  have g3 := fun W b u v => setAll_grown W (w.heap.size + 1) (.bool b) u v
  have hR0 := ((HR0.out.setAll n A la ca B lb cb).grown (g3 _ n' (.slice A' la' ca') (.slice B' lb' cb')) (by omega))
  have hR1 := ((HR1.out.grown (g2 _ n (.slice A la ca) (.slice B lb cb)) (by omega)).setAll n' A' la' ca' B' lb' cb')
  have hB := below_grow (below_grow HB0.out (Nat.le_refl _) (g2 _ n (.slice A la ca) (.slice B lb cb))) (Nat.le_succ _) (g3 _ n' (.slice A' la' ca') (.slice B' lb' cb'))
  cases x <;> go_region
  all_goals go_wp2
  all_goals exact bodyPost_ret (retRR rfl _ _ w.heap.size (w.heap.size + 1) rfl rfl hR0.drewJ hR1.drewJ) rfl ⟨rfl, below_drewJ hB⟩
end Go.Proofs.YtifepoefeamboaaGreatDoor
