/-
  Nodes in a row of a call's own; a tree that is drawn is put behind them: grow of the model.
-/
import Derived.Test.YtndeimodphmpkaaGrowMath
import Derived.Test.YtndeimodphmpkaaGrpE
import Derived.Test.YtndeimodphmpkaaSrc
import Derived.Deep.AppendLies
import Derived.Deep.RegionWith
namespace Nt
open Go Go.RowKit
def nodeCs (x : Nd) : List Value := [.int .i64 x.1, .int .i64 x.2.1, .int .i64 x.2.2.1, .int .i64 x.2.2.2]
def flatN (ns : List Nd) : List Value := ns.flatMap nodeCs
theorem flatN_len (ns : List Nd) : (flatN ns).length = ns.length * 4 := by
  induction ns with
  | nil => rfl
  | cons x ns ih => simp [flatN, nodeCs] at ih ⊢; omega
theorem flatN_cons (x : Nd) (ns : List Nd) : flatN (x :: ns) = .int .i64 x.1 :: .int .i64 x.2.1 :: .int .i64 x.2.2.1 :: .int .i64 x.2.2.2 :: flatN ns := rfl
theorem flatN_snoc (ns : List Nd) (x : Nd) : flatN (ns ++ [x]) = flatN ns ++ [.int .i64 x.1, .int .i64 x.2.1, .int .i64 x.2.2.1, .int .i64 x.2.2.2] := by simp [flatN, nodeCs]
theorem flatN_get (ns : List Nd) : ∀ (i : Nat), i < ns.length → (flatN ns)[i * 4]? = some (.int .i64 (ns.getD i nd0).1) ∧ (flatN ns)[i * 4 + 1]? = some (.int .i64 (ns.getD i nd0).2.1) ∧ (flatN ns)[i * 4 + 2]? = some (.int .i64 (ns.getD i nd0).2.2.1) ∧ (flatN ns)[i * 4 + 3]? = some (.int .i64 (ns.getD i nd0).2.2.2) := by
  induction ns with
  | nil => intro i hi; simp at hi
  | cons r L ih =>
    intro i hi
    rw [flatN_cons]
    cases i with
    | zero => exact ⟨rfl, rfl, rfl, rfl⟩
    | succ i =>
      have := ih i (by simpa using hi)
      rw [show (i + 1) * 4 = i * 4 + 1 + 1 + 1 + 1 from by omega]
      simpa using this
/-- nodes in a row of the call's own -/
def OwnN (w : World) (base : Nat) (t : TypeId) (V : Option Addr) (n c : Nat) (ns : List Nd) : Prop := w.ownsRow base t 4 (.slice V n c) n (flatN ns)
section
variable {w w' : World} {base n c : Nat} {t : TypeId} {V : Option Addr} {ns : List Nd}
theorem OwnN.len (h : OwnN w base t V n c ns) : ns.length = n := by
  have h1 := h.1
  rw [flatN_len] at h1
  omega
theorem OwnN.at_ (h : OwnN w base t V n c ns) (hn : 0 < n) : ∃ g, V = some ⟨g, 0, none⟩ ∧ base ≤ g ∧ g < w.heap.size ∧ n ≤ c := by
  rcases h.2 with ⟨_, h0⟩ | ⟨g, cap, cur, e', hb, hh, hc, _⟩
  · omega
  · injection e' with e1 e2 e3
    refine ⟨g, e1, hb, ?_, by omega⟩
    rcases Nat.lt_or_ge g w.heap.size with hlt | hge
    · exact hlt
    · rw [Array.getElem?_eq_none hge] at hh; cases hh
theorem OwnN.rd (h : OwnN w base t V n c ns) : RdN w (base ≤ ·) V n c ns := by
  have hl := h.len
  refine ⟨hl, ?_, ?_, fun hn => ?_⟩
  · rcases h.2 with ⟨e, h0⟩ | ⟨g, cap, cur, e', hb, hh, hc, _⟩
    · omega
    · injection e' with e1 e2 e3
      omega
  · intro hV
    subst hV
    rcases h.2 with ⟨e, h0⟩ | ⟨g, cap, cur, e', _⟩
    · injection e
    · cases e'
  · obtain ⟨g, rfl, hb, hlt, _⟩ := h.at_ hn
    refine ⟨g, 0, rfl, hb, hlt, fun i hi => ?_⟩
    obtain ⟨f0, f1, f2, f3⟩ := flatN_get ns i (by omega)
    rw [Nat.zero_add]
    exact ⟨(h.cellAt _ (by omega)).trans f0, (h.cellAt _ (by omega)).trans f1, (h.cellAt _ (by omega)).trans f2, (h.cellAt _ (by omega)).trans f3⟩
theorem OwnN.on (h : OwnN w base t V n c ns) (hb : Below w.heap.size w w') : OwnN w' base t V n c ns := by
  refine h.kept (row := none) ⟨hb.os, hb.tape, hb.output, hb.size, fun k hk _ => hb.block k hk⟩ ?_
  cases hA : (Value.slice V n c).ownBlock with
  | none => exact .inl rfl
  | some g => exact .inr (by simp)
theorem OwnN.past {g : Nat} (h : OwnN w base t V n c ns) (hg : w.grownBy w' (some g)) (hne : g < base) : OwnN w' base t V n c ns := by
  refine h.kept (row := some g) hg ?_
  cases hA : (Value.slice V n c).ownBlock with
  | none => exact .inl rfl
  | some b =>
    refine .inr fun e => ?_
    injection e with e
    subst e
    have := (h.lt _ hA).1
    omega
theorem OwnN.nil (w : World) (base : Nat) (t : TypeId) (hb : base ≤ w.heap.size) : OwnN (w.alloc (.cells #[] t)) base t (some ⟨w.heap.size, 0, none⟩) 0 0 [] :=
  World.ownsRow_lit (e := t) (size := 4) w #[] 0 hb (by decide) rfl
theorem OwnN.alloc (h : OwnN w base t V n c ns) (o : Obj) : (w.alloc o).ownsRow base t 4 (.slice V n c) n (flatN ns) := World.ownsRow.alloc h o
/-- nothing below has turned behind an append -/
theorem appB {xs : List Value} (h : w.ownsRow base t 4 (.slice V n c) n xs) (hb : base ≤ w.heap.size) (hg : w.grownBy w' (Value.slice V n c).ownBlock) : Below base w w' :=
  ⟨hg.os, hg.tape, hg.output, hg.size, fun i hi => hg.block i (by omega) (fun e => by have := (h.lt i e.symm).1; omega)⟩
end
theorem cells4 (w : World) (t : TypeId) (x : Nd) : ∀ j u, [Value.int .i64 x.1, .int .i64 x.2.1, .int .i64 x.2.2.1, .int .i64 x.2.2.2][j]? = some u → (w.alloc (.cells #[.int .i64 x.1, .int .i64 x.2.1, .int .i64 x.2.2.1, .int .i64 x.2.2.2] t)).cell? ((⟨w.heap.size, 0, none⟩ : Addr).add j) = some u := by
  intro j u hj
  rw [addN_none]
  have h := cell_of_row (w.alloc (.cells #[.int .i64 x.1, .int .i64 x.2.1, .int .i64 x.2.2.1, .int .i64 x.2.2.2] t)) w.heap.size (0 + j) _ t (0, 0) (heap_alloc_new w _)
  rw [h, Nat.zero_add]
  simpa using hj
theorem one4 (a b c d : Int) : ∀ u ∈ [Value.int .i64 a, .int .i64 b, .int .i64 c, .int .i64 d], u.oneCell' = true := by
  intro u hu
  simp at hu
  rcases hu with rfl | rfl | rfl | rfl <;> rfl
theorem srcN_alloc {w : World} {g : Nat} {t : TypeId} {A : Option Addr} {n c : Nat} {a s : Int} (h : Src w g t A n c a s) (o : Obj) : Src (w.alloc o) g t A n c a s := h.keep (((Below.refl w.heap.size w).alloc (Nat.le_refl _) o).block g h.lt)
theorem rdbN_alloc {w : World} {B n : Nat} {A : Option Addr} (h : RdB w (· < B) A n) (o : Obj) : RdB (w.alloc o) (· < B) A n := h.keep (by simp) fun b _ hl => (below_one w o).block b hl
theorem srcN_on {w w' : World} {g : Nat} {t : TypeId} {A : Option Addr} {n c : Nat} {a s : Int} (h : Src w g t A n c a s) (hb : Below (g + 1) w w') : Src w' g t A n c a s := h.keep (hb.block g (Nat.lt_succ_self g))
/-- the sign at a place of the six -/
def opOf (q : Nat) : Int := if q ≤ 1 then 3 else if q = 2 then 4 else if q ≤ 4 then 5 else 6
theorem opOf_in (q : Nat) : 3 ≤ opOf q ∧ opOf q ≤ 6 := by unfold opOf; split <;> (try split) <;> (try split) <;> omega
theorem cell_six (w : World) (t : TypeId) (q : Nat) (hq : q < 6) : (w.alloc (.cells #[.int .i64 3, .int .i64 3, .int .i64 4, .int .i64 5, .int .i64 5, .int .i64 6] t)).cell? ⟨w.heap.size, q, none⟩ = some (.int .i64 (opOf q)) := by
  rw [cell_of_row _ w.heap.size q _ t (0, 0) (heap_alloc_new w _)]
  rcases (show q = 0 ∨ q = 1 ∨ q = 2 ∨ q = 3 ∨ q = 4 ∨ q = 5 by omega) with rfl | rfl | rfl | rfl | rfl | rfl <;> rfl
theorem fit_const {v : Int} (h0 : 0 ≤ v) (h1 : v ≤ 999999999) : fitN (1, 0, 0, v) = true := by unfold fitN mostN two one; simp; omega
theorem fit_vari {v : Int} (h0 : 0 ≤ v) (h1 : v ≤ 3) : fitN (2, 0, 0, v) = true := by unfold fitN mostN two one; simp; omega
theorem fit_neg {a : Int} : fitN (7, a, 0, 0) = true := by unfold fitN mostN two one; simp
theorem fit_pow {a v : Int} (h0 : 0 ≤ v) (h1 : v ≤ 8) : fitN (8, a, 0, v) = true := by unfold fitN mostN two one; simp; omega
theorem fit_two {op a b : Int} (h0 : 3 ≤ op) (h1 : op ≤ 6) : fitN (op, a, b, 0) = true := by
  unfold fitN mostN two one
  rcases (show op = 3 ∨ op = 4 ∨ op = 5 ∨ op = 6 by omega) with rfl | rfl | rfl | rfl <;> rfl
/-- what has turned: the source, the row, and what is new; where the row now lies -/
def Turned (w w' : World) (g : Nat) (V V' : Option Addr) : Prop :=
  w.heap.size ≤ w'.heap.size ∧ (∀ i, i < w.heap.size → i ≠ g → V ≠ some ⟨i, 0, none⟩ → w'.heap[i]? = w.heap[i]?) ∧ ∀ i, V' = some ⟨i, 0, none⟩ → i < w.heap.size → V = some ⟨i, 0, none⟩
section
variable {w w1 w2 : World} {g : Nat} {V V1 V2 : Option Addr}
theorem turned_src (V : Option Addr) (h : w.grownBy w1 (some g)) : Turned w w1 g V V := ⟨h.size, fun i hi hne _ => h.block i hi (fun e => hne (by injection e)), fun _ e _ => e⟩
theorem turned_below (g : Nat) (V : Option Addr) (h : Below w.heap.size w w1) : Turned w w1 g V V := ⟨h.size, fun i hi _ _ => h.block i hi, fun _ e _ => e⟩
theorem Turned.trans (h : Turned w w1 g V V1) (k : Turned w1 w2 g V1 V2) : Turned w w2 g V V2 :=
  ⟨Nat.le_trans h.1 k.1, fun i hi hne hV => (k.2.1 i (Nat.lt_of_lt_of_le hi h.1) hne (fun e => hV (h.2.2 i e hi))).trans (h.2.1 i hi hne hV), fun i e hi => h.2.2 i (k.2.2 i e (Nat.lt_of_lt_of_le hi h.1)) hi⟩
theorem Turned.src (h : Turned w w1 g V V1) (k : w1.grownBy w2 (some g)) : Turned w w2 g V V1 := h.trans (turned_src V1 k)
theorem Turned.blw (h : Turned w w1 g V V1) (k : Below w1.heap.size w1 w2) : Turned w w2 g V V1 := h.trans (turned_below g V1 k)
end
/-- what is true behind an append -/
theorem app_after {w3 w4 : World} {g k cv g' cv' n c : Nat} {t tn : TypeId} {A V : Option Addr} {a s : Int} {ns : List Nd} {lit : Obj} (x : Nd) (hS : Src w3 g t A n c a s) (ho : OwnN w3 (g + 1) tn V k cv ns) (hg : (w3.alloc lit).grownBy w4 (Value.slice V k cv).ownBlock) (hat : (Value.slice V k cv).ownBlock = some g' ∨ g' = (w3.alloc lit).heap.size)
    (hown : w4.ownsRow (g + 1) tn 4 (.slice (some ⟨g', 0, none⟩) (k + 1) cv') (k + 1) (flatN ns ++ [.int .i64 x.1, .int .i64 x.2.1, .int .i64 x.2.2.1, .int .i64 x.2.2.2])) :
    OwnN w4 (g + 1) tn (some ⟨g', 0, none⟩) (k + 1) cv' (ns ++ [x]) ∧ Src w4 g t A n c a s ∧ Below (g + 1) w3 w4 ∧ Turned w3 w4 g V (some ⟨g', 0, none⟩) := by
  have hl := hS.lt
  have hb : Below (g + 1) w3 w4 := ((below_one w3 lit).mono (by omega)).trans (appB (ho.alloc lit) (by simp; omega) hg)
  refine ⟨?_, srcN_on hS hb, hb, hb.size, fun i hi hne hV => ?_, fun i e hi => ?_⟩
  · unfold OwnN
    rw [flatN_snoc]
    exact hown
  · refine (hg.block i (by simp; omega) (fun e => ?_)).trans ((below_one w3 lit).block i hi)
    rcases ho.2 with ⟨e', _⟩ | ⟨b, cap, cur, e', _⟩
    · rw [e'] at e; cases e
    · injection e' with e1 e2 e3
      rw [e1] at e hV
      injection e with e
      have e : b = i := by first | exact e | exact e.symm
      rw [e] at hV
      exact hV rfl
  · injection e with e
    injection e with e
    subst e
    rcases hat with e' | e'
    · rcases ho.2 with ⟨q, _⟩ | ⟨b, cap, cur, q, _⟩
      · rw [q] at e'; cases e'
      · injection q with q1 q2 q3
        rw [q1] at e' ⊢
        injection e' with e'
        have e' : b = g' := e'
        rw [e']
    · simp at e'; omega
/-- a tree was drawn behind ns -/
def DrewT (t tn : TypeId) (w : World) (B g : Nat) (V0 : Option Addr) (A : Option Addr) (n c : Nat) (a : Int) (dim : Int) (r : Nat) (ns : List Nd) (e : Ending) (w' : World) : Prop :=
  ∃ (V : Option Addr) (k cv : Nat) (ms : List Nd) (a' s' : Int), e = .returned (.slice V k cv) ∧ OwnN w' (g + 1) tn V k cv ms ∧ Sprout dim r ns ms ∧ Src w' g t A n c a' s' ∧ a ≤ a' ∧ a' + 9 ≤ a + 9 * ((2 ^ r : Nat) : Int) ∧ 0 ≤ s' ∧ s' < 2147483648 ∧ Below B w w' ∧ Turned w w' g V0 V
end Nt
namespace Go.Proofs.Ytndeimodphmpkaa
open Go Go.RowKit Nt

set_option maxHeartbeats 800000 in
theorem srcChanceN_any (g n c : Nat) (A : Option Addr) (a s m : Int) (B : Nat) (w : World) (hS : Src w g 101 A n c a s) (hR : RdB w (· < B) A n) (hB : B ≤ g) (ha0 : 0 ≤ a) (ha1 : a ≤ 549755813888) (hs0 : 0 ≤ s) (hs1 : s < 2147483648) (hn : n ≤ 1099511627776) (hm : 1 < m) (hm1 : m ≤ 16777216) :
    Calls Try.prog 106 #[.pointer (some ⟨g, 0, none⟩), .int .i64 m] w (fun e w' => ∃ (b : Bool) (a' s' : Int), e = .returned (.bool b) ∧ a ≤ a' ∧ a' ≤ a + 3 ∧ 0 ≤ s' ∧ s' < 2147483648 ∧ Src w' g 101 A n c a' s' ∧ w.grownBy w' (some g)) := by
  have HN := Lib.hid (srcNext_any g n c A a s m B w hS hR hB ha0 ha1 hs0 hs1 hn hm hm1)
  clear hS hR
  go_enter Try.func106, Try.ntmps106
  go_wp2_with fail
  refine HN.out.mono ?_
  rintro e w1 ⟨r, a1, s1, rfl, hr0, hr1, h1, h2, h3, h4, hS1, hg1⟩
  have HS1 := Lib.hid hS1
  have HG1 := Lib.hid hg1
  clear HN hS1 hg1
  go_wp2
  go_ret
  exact ⟨_, a1, s1, rfl, by omega, by omega, by omega, by omega, HS1.out, HG1.out⟩
end Go.Proofs.Ytndeimodphmpkaa
