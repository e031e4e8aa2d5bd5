/-
  Which nodes are right by themselves: l05Node of the model, fits of the program.
-/
import Derived.Test.YtgeijojkfojfbaaNodeRow
import Derived.Test.YtgeijojkfojfbaaCmp
import Derived.Deep.RegionHeld3
import Derived.Deep.RegionWith
import Derived.BigQuiet
namespace Nt
open Go Go.RowKit
def nodeS (x : Nd) (i : Int) : Bool :=
  if (decide (1 ≤ x.1) && decide (x.1 ≤ 8)) = false then false
  else if two x.1 = true then (decide (0 ≤ x.2.1) && decide (x.2.1 ≤ i - 1)) && (decide (x.2.1 + 1 ≤ x.2.2.1) && decide (x.2.2.1 ≤ i - 1)) && (x.2.2.2 == 0)
  else if x.1 = 7 then (x.2.1 == i - 1) && decide (0 < i) && (x.2.2.1 == 0) && (decide (0 ≤ x.2.2.2) && decide (x.2.2.2 ≤ 0))
  else if x.1 = 8 then (x.2.1 == i - 1) && decide (0 < i) && (x.2.2.1 == 0) && (decide (0 ≤ x.2.2.2) && decide (x.2.2.2 ≤ 8))
  else if x.1 = 2 then (x.2.1 == 0) && (x.2.2.1 == 0) && (decide (0 ≤ x.2.2.2) && decide (x.2.2.2 ≤ 3))
  else (x.2.1 == 0) && (x.2.2.1 == 0) && (decide (0 ≤ x.2.2.2) && decide (x.2.2.2 ≤ 999999999))
def arityN (op : Int) : Int := if two op = true then 2 else if one op = true then 1 else 0
theorem belowN_on {a w w' : World} (h : Below a.heap.size a w) (hb : Below w.heap.size w w') : Below a.heap.size a w' := h.trans (hb.mono h.size)
theorem belowN_grow {w w1 w2 : World} {g : Nat} (h : Below w.heap.size w w1) (hg : w.heap.size ≤ g) (hw : w1.grownBy w2 (some g)) : Below w.heap.size w w2 :=
  h.trans ⟨hw.os, hw.tape, hw.output, hw.size, fun k hk => hw.block k (by have := h.size; omega) (fun e => by injection e with e; omega)⟩
theorem undrewN {W w1 : World} (h : Below W.drew.heap.size W.drew w1) : Below W.heap.size W w1 := (below_drewN (Below.refl W.heap.size W) 1).trans h
theorem below_one (w : World) (o : Obj) : Below w.heap.size w (w.alloc o) := (Below.refl _ _).alloc (Nat.le_refl _) _
theorem two_range {op : Int} (h : two op = true) : 3 ≤ op ∧ op ≤ 6 := by
  unfold two at h
  simpa using h
theorem two_no {op : Int} (h : two op = false) : op < 3 ∨ 6 < op := by
  unfold two at h
  simp at h
  omega
theorem one_no {op : Int} (h : one op = false) : op ≠ 7 ∧ op ≠ 8 := by
  unfold one at h
  simpa using h
theorem calls_atN {P : Program} {f : FuncId} {args : Array Value} {W : World} {post : Ending → World → Prop} (F : World → Prop) (hF : F W) (h : ∀ W, F W → Calls P f args W post) : Calls P f args W post := h W hF
/-- a node's struct lies in block b -/
def NodeAt (w : World) (b : Nat) (t : TypeId) (op x y n : Int) : Prop := w.heap[b]? = some (.cells #[.int .i64 op, .int .i64 x, .int .i64 y, .int .i64 n] t (0, 0))
section
variable {w w' : World} {b : Nat} {t : TypeId} {op x y n : Int}
theorem NodeAt.c0 (h : NodeAt w b t op x y n) : w.cell? ⟨b, 0, none⟩ = some (.int .i64 op) := by rw [cell_of_row w b 0 _ t (0, 0) h]; rfl
theorem NodeAt.c1 (h : NodeAt w b t op x y n) : w.cell? ⟨b, 1, none⟩ = some (.int .i64 x) := by rw [cell_of_row w b 1 _ t (0, 0) h]; rfl
theorem NodeAt.c2 (h : NodeAt w b t op x y n) : w.cell? ⟨b, 2, none⟩ = some (.int .i64 y) := by rw [cell_of_row w b 2 _ t (0, 0) h]; rfl
theorem NodeAt.c3 (h : NodeAt w b t op x y n) : w.cell? ⟨b, 3, none⟩ = some (.int .i64 n) := by rw [cell_of_row w b 3 _ t (0, 0) h]; rfl
theorem NodeAt.four (h : NodeAt w b t op x y n) : w.cell? ⟨b, 0, none⟩ = some (.int .i64 op) ∧ w.cell? ⟨b, 1, none⟩ = some (.int .i64 x) ∧ w.cell? ⟨b, 2, none⟩ = some (.int .i64 y) ∧ w.cell? ⟨b, 3, none⟩ = some (.int .i64 n) := ⟨h.c0, h.c1, h.c2, h.c3⟩
theorem NodeAt.lt (h : NodeAt w b t op x y n) : b < w.heap.size := by
  rcases Nat.lt_or_ge b w.heap.size with hlt | hge
  · exact hlt
  · unfold NodeAt at h; rw [Array.getElem?_eq_none hge] at h; cases h
theorem NodeAt.on (h : NodeAt w b t op x y n) (hb : Below w.heap.size w w') : NodeAt w' b t op x y n := (hb.block b h.lt).trans h
theorem NodeAt.new (w : World) (t : TypeId) (op x y n : Int) : NodeAt (w.alloc (.cells #[.int .i64 op, .int .i64 x, .int .i64 y, .int .i64 n] t)) w.heap.size t op x y n := heap_alloc_new w _
end
end Nt
namespace Go.Proofs.Ytgeijojkfojfbaa
open Go Go.RowKit Nt
theorem specTwo_any (op : Int) (w : World) : Calls Try.prog 61 #[.int .i64 op] w fun e w' => e = .returned (.bool (two op)) ∧ w = w' := by
  go_enter Try.func61, Try.ntmps61
  go_wp2_with (go_at_call 59; refine (l01In_any _ _ _ _).mono ?_; rintro e w1 ⟨rfl, rfl⟩)
  go_ret
  exact ⟨rfl, rfl⟩
theorem specOne_any (op : Int) (w : World) : Calls Try.prog 63 #[.int .i64 op] w fun e w' => e = .returned (.bool (one op)) ∧ w = w' := by
  by_cases h7 : op = 7
  · subst h7
    go_enter Try.func63, Try.ntmps63
    go_wp2
    go_ret
    exact ⟨rfl, rfl⟩
  by_cases h8 : op = 8
  · subst h8
    go_enter Try.func63, Try.ntmps63
    go_wp2
    go_ret
    exact ⟨rfl, rfl⟩
  have HV : Hid (one op = false) := by show _ = _; unfold one; simp [h7, h8]
  have e7 : (op == 7) = false := by simpa using h7
  have e8 : (op == 8) = false := by simpa using h8
  clear h7 h8
  go_enter Try.func63, Try.ntmps63
  go_wp2
  go_ret
  exact ⟨ret_bool HV.out.symm, rfl⟩

set_option maxHeartbeats 800000 in
theorem implArity_any (op a b n : Int) (w : World) : Calls Try.prog 113 #[.agg #[.int .i64 op, .int .i64 a, .int .i64 b, .int .i64 n]] w fun e w' => e = .returned (.int .i64 (arityN op)) ∧ Below w.heap.size w w' := by
  by_cases h3 : op = 3
  · subst h3
    go_enter Try.func113, Try.ntmps113
    go_wp2
    go_ret
    exact ⟨rfl, below_one _ _⟩
  have e3 : (op == 3) = false := by simpa using h3
  by_cases h4 : op = 4
  · subst h4
    go_enter Try.func113, Try.ntmps113
    go_wp2
    go_ret
    exact ⟨rfl, below_one _ _⟩
  have e4 : (op == 4) = false := by simpa using h4
  by_cases h5 : op = 5
  · subst h5
    go_enter Try.func113, Try.ntmps113
    go_wp2
    go_ret
    exact ⟨rfl, below_one _ _⟩
  have e5 : (op == 5) = false := by simpa using h5
  by_cases h6 : op = 6
  · subst h6
    go_enter Try.func113, Try.ntmps113
    go_wp2
    go_ret
    exact ⟨rfl, below_one _ _⟩
  have e6 : (op == 6) = false := by simpa using h6
  by_cases h7 : op = 7
  · subst h7
    go_enter Try.func113, Try.ntmps113
    go_wp2
    go_ret
    exact ⟨rfl, below_one _ _⟩
  have e7 : (op == 7) = false := by simpa using h7
  by_cases h8 : op = 8
  · subst h8
    go_enter Try.func113, Try.ntmps113
    go_wp2
    go_ret
    exact ⟨rfl, below_one _ _⟩
  have e8 : (op == 8) = false := by simpa using h8
  have HV : Hid (arityN op = 0) := by show _ = _; unfold arityN; rw [if_neg (by unfold two; simp; omega), if_neg (by unfold one; simp; omega)]
  clear h3 h4 h5 h6 h7 h8
  go_enter Try.func113, Try.ntmps113
  go_wp2
  go_ret
  exact ⟨ret_int HV.out.symm, below_one _ _⟩

set_option maxHeartbeats 800000 in
theorem implMost_any (op a b n : Int) (w : World) : Calls Try.prog 112 #[.agg #[.int .i64 op, .int .i64 a, .int .i64 b, .int .i64 n]] w fun e w' => e = .returned (.int .i64 (mostN op)) ∧ Below w.heap.size w w' := by
  by_cases h1 : op = 1
  · subst h1
    go_enter Try.func112, Try.ntmps112
    go_wp2
    go_ret
    exact ⟨rfl, below_one _ _⟩
  have e1 : (op == 1) = false := by simpa using h1
  by_cases h2 : op = 2
  · subst h2
    go_enter Try.func112, Try.ntmps112
    go_wp2
    go_ret
    exact ⟨rfl, below_one _ _⟩
  have e2 : (op == 2) = false := by simpa using h2
  by_cases h8 : op = 8
  · subst h8
    go_enter Try.func112, Try.ntmps112
    go_wp2
    go_ret
    exact ⟨rfl, below_one _ _⟩
  have e8 : (op == 8) = false := by simpa using h8
  have HV : Hid (mostN op = 0) := by show _ = _; unfold mostN; rw [if_neg h1, if_neg h2, if_neg h8]
  clear h1 h2 h8
  go_enter Try.func112, Try.ntmps112
  go_wp2
  go_ret
  exact ⟨ret_int HV.out.symm, below_one _ _⟩

end Go.Proofs.Ytgeijojkfojfbaa
