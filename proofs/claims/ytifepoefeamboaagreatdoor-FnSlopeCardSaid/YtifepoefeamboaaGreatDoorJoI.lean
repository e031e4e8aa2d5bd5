/-
  GrowRow Grow ExprDraw VecDraw BytesD in one text.
-/
import Derived.Test.YtifepoefeamboaaGreatDoorJoH
import Derived.Test.YtifepoefeamboaaGreatDoorGrpE
import Derived.Test.YtifepoefeamboaaGreatDoorJoG
import Derived.Deep.AppendLies
import Derived.Deep.RegionWith
import Derived.Test.YtifepoefeamboaaGreatDoorGrpH
import Derived.Deep.RegionHeld3
namespace Nt
open Go Go.RowKit
def nodeCs (x : Nd) : List Value := [.int .i64 x.1, .int .i64 x.2.1, .int .i64 x.2.2.1, .int .i64 x.2.2.2]
def flatN (ns : List Nd) : List Value := ns.flatMap nodeCs
theorem flatN_len (ns : List Nd) : (flatN ns).length = ns.length * 4 := by
  induction ns with
  | nil => rfl
  | cons x ns ih => simp [flatN, nodeCs] at ih ⊢; omega
theorem flatN_cons (x : Nd) (ns : List Nd) : flatN (x :: ns) = .int .i64 x.1 :: .int .i64 x.2.1 :: .int .i64 x.2.2.1 :: .int .i64 x.2.2.2 :: flatN ns := rfl
theorem flatN_snoc (ns : List Nd) (x : Nd) : flatN (ns ++ [x]) = flatN ns ++ [.int .i64 x.1, .int .i64 x.2.1, .int .i64 x.2.2.1, .int .i64 x.2.2.2] := by simp [flatN, nodeCs]
theorem flatN_get (ns : List Nd) : ∀ (i : Nat), i < ns.length → (flatN ns)[i * 4]? = some (.int .i64 (ns.getD i nd0).1) ∧ (flatN ns)[i * 4 + 1]? = some (.int .i64 (ns.getD i nd0).2.1) ∧ (flatN ns)[i * 4 + 2]? = some (.int .i64 (ns.getD i nd0).2.2.1) ∧ (flatN ns)[i * 4 + 3]? = some (.int .i64 (ns.getD i nd0).2.2.2) := by
  induction ns with
  | nil => intro i hi; simp at hi
  | cons r L ih =>
    intro i hi
    rw [flatN_cons]
    cases i with
    | zero => exact ⟨rfl, rfl, rfl, rfl⟩
    | succ i =>
      have := ih i (by simpa using hi)
      rw [show (i + 1) * 4 = i * 4 + 1 + 1 + 1 + 1 from by omega]
      simpa using this
/-- nodes in a row of the call's own -/
def OwnN (w : World) (base : Nat) (t : TypeId) (V : Option Addr) (n c : Nat) (ns : List Nd) : Prop := w.ownsRow base t 4 (.slice V n c) n (flatN ns)
section
variable {w w' : World} {base n c : Nat} {t : TypeId} {V : Option Addr} {ns : List Nd}
theorem OwnN.len (h : OwnN w base t V n c ns) : ns.length = n := by
  have h1 := h.1
  rw [flatN_len] at h1
  omega
theorem OwnN.at_ (h : OwnN w base t V n c ns) (hn : 0 < n) : ∃ g, V = some ⟨g, 0, none⟩ ∧ base ≤ g ∧ g < w.heap.size ∧ n ≤ c := by
  rcases h.2 with ⟨_, h0⟩ | ⟨g, cap, cur, e', hb, hh, hc, _⟩
  · omega
  · injection e' with e1 e2 e3
    refine ⟨g, e1, hb, ?_, by omega⟩
    rcases Nat.lt_or_ge g w.heap.size with hlt | hge
    · exact hlt
    · rw [Array.getElem?_eq_none hge] at hh; cases hh
theorem OwnN.rd (h : OwnN w base t V n c ns) : RdN w (base ≤ ·) V n c ns := by
  have hl := h.len
  refine ⟨hl, ?_, ?_, fun hn => ?_⟩
  · rcases h.2 with ⟨e, h0⟩ | ⟨g, cap, cur, e', hb, hh, hc, _⟩
    · omega
    · injection e' with e1 e2 e3
      omega
  · intro hV
    subst hV
    rcases h.2 with ⟨e, h0⟩ | ⟨g, cap, cur, e', _⟩
    · injection e
    · cases e'
  · obtain ⟨g, rfl, hb, hlt, _⟩ := h.at_ hn
    refine ⟨g, 0, rfl, hb, hlt, fun i hi => ?_⟩
    obtain ⟨f0, f1, f2, f3⟩ := flatN_get ns i (by omega)
    rw [Nat.zero_add]
    exact ⟨(h.cellAt _ (by omega)).trans f0, (h.cellAt _ (by omega)).trans f1, (h.cellAt _ (by omega)).trans f2, (h.cellAt _ (by omega)).trans f3⟩
theorem OwnN.on (h : OwnN w base t V n c ns) (hb : Below w.heap.size w w') : OwnN w' base t V n c ns := by
  refine h.kept (row := none) ⟨hb.os, hb.tape, hb.output, hb.size, fun k hk _ => hb.block k hk⟩ ?_
  cases hA : (Value.slice V n c).ownBlock with
  | none => exact .inl rfl
  | some g => exact .inr (by simp)
theorem OwnN.past {g : Nat} (h : OwnN w base t V n c ns) (hg : w.grownBy w' (some g)) (hne : g < base) : OwnN w' base t V n c ns := by
  refine h.kept (row := some g) hg ?_
  cases hA : (Value.slice V n c).ownBlock with
  | none => exact .inl rfl
  | some b =>
    refine .inr fun e => ?_
    injection e with e
    subst e
    have := (h.lt _ hA).1
    omega
theorem OwnN.nil (w : World) (base : Nat) (t : TypeId) (hb : base ≤ w.heap.size) : OwnN (w.alloc (.cells #[] t)) base t (some ⟨w.heap.size, 0, none⟩) 0 0 [] :=
  World.ownsRow_lit (e := t) (size := 4) w #[] 0 hb (by decide) rfl
theorem OwnN.alloc (h : OwnN w base t V n c ns) (o : Obj) : (w.alloc o).ownsRow base t 4 (.slice V n c) n (flatN ns) := World.ownsRow.alloc h o
/-- nothing below has turned behind an append -/
theorem appB {xs : List Value} (h : w.ownsRow base t 4 (.slice V n c) n xs) (hb : base ≤ w.heap.size) (hg : w.grownBy w' (Value.slice V n c).ownBlock) : Below base w w' :=
  ⟨hg.os, hg.tape, hg.output, hg.size, fun i hi => hg.block i (by omega) (fun e => by have := (h.lt i e.symm).1; omega)⟩
end
theorem cells4 (w : World) (t : TypeId) (x : Nd) : ∀ j u, [Value.int .i64 x.1, .int .i64 x.2.1, .int .i64 x.2.2.1, .int .i64 x.2.2.2][j]? = some u → (w.alloc (.cells #[.int .i64 x.1, .int .i64 x.2.1, .int .i64 x.2.2.1, .int .i64 x.2.2.2] t)).cell? ((⟨w.heap.size, 0, none⟩ : Addr).add j) = some u := by
  intro j u hj
  rw [addN_none]
  have h := cell_of_row (w.alloc (.cells #[.int .i64 x.1, .int .i64 x.2.1, .int .i64 x.2.2.1, .int .i64 x.2.2.2] t)) w.heap.size (0 + j) _ t (0, 0) (heap_alloc_new w _)
  rw [h, Nat.zero_add]
  simpa using hj
theorem one4 (a b c d : Int) : ∀ u ∈ [Value.int .i64 a, .int .i64 b, .int .i64 c, .int .i64 d], u.oneCell' = true := by
  intro u hu
  simp at hu
  rcases hu with rfl | rfl | rfl | rfl <;> rfl
theorem srcN_alloc {w : World} {g : Nat} {t : TypeId} {A : Option Addr} {n c : Nat} {a s : Int} (h : Src w g t A n c a s) (o : Obj) : Src (w.alloc o) g t A n c a s := h.keep (((Below.refl w.heap.size w).alloc (Nat.le_refl _) o).block g h.lt)
theorem rdbN_alloc {w : World} {B n : Nat} {A : Option Addr} (h : RdB w (· < B) A n) (o : Obj) : RdB (w.alloc o) (· < B) A n := h.keep (by simp) fun b _ hl => (below_one w o).block b hl
theorem srcN_on {w w' : World} {g : Nat} {t : TypeId} {A : Option Addr} {n c : Nat} {a s : Int} (h : Src w g t A n c a s) (hb : Below (g + 1) w w') : Src w' g t A n c a s := h.keep (hb.block g (Nat.lt_succ_self g))
/-- the sign at a place of the six -/
def opOf (q : Nat) : Int := if q ≤ 1 then 3 else if q = 2 then 4 else if q ≤ 4 then 5 else 6
theorem opOf_in (q : Nat) : 3 ≤ opOf q ∧ opOf q ≤ 6 := by unfold opOf; split <;> (try split) <;> (try split) <;> omega
theorem cell_six (w : World) (t : TypeId) (q : Nat) (hq : q < 6) : (w.alloc (.cells #[.int .i64 3, .int .i64 3, .int .i64 4, .int .i64 5, .int .i64 5, .int .i64 6] t)).cell? ⟨w.heap.size, q, none⟩ = some (.int .i64 (opOf q)) := by
  rw [cell_of_row _ w.heap.size q _ t (0, 0) (heap_alloc_new w _)]
  rcases (show q = 0 ∨ q = 1 ∨ q = 2 ∨ q = 3 ∨ q = 4 ∨ q = 5 by omega) with rfl | rfl | rfl | rfl | rfl | rfl <;> rfl
theorem fit_const {v : Int} (h0 : 0 ≤ v) (h1 : v ≤ 999999999) : fitN (1, 0, 0, v) = true := by unfold fitN mostN two one; simp; omega
theorem fit_vari {v : Int} (h0 : 0 ≤ v) (h1 : v ≤ 3) : fitN (2, 0, 0, v) = true := by unfold fitN mostN two one; simp; omega
theorem fit_neg {a : Int} : fitN (7, a, 0, 0) = true := by unfold fitN mostN two one; simp
theorem fit_pow {a v : Int} (h0 : 0 ≤ v) (h1 : v ≤ 8) : fitN (8, a, 0, v) = true := by unfold fitN mostN two one; simp; omega
theorem fit_two {op a b : Int} (h0 : 3 ≤ op) (h1 : op ≤ 6) : fitN (op, a, b, 0) = true := by
  unfold fitN mostN two one
  rcases (show op = 3 ∨ op = 4 ∨ op = 5 ∨ op = 6 by omega) with rfl | rfl | rfl | rfl <;> rfl
/-- what has turned: the source, the row, and what is new; where the row now lies -/
def Turned (w w' : World) (g : Nat) (V V' : Option Addr) : Prop :=
  w.heap.size ≤ w'.heap.size ∧ (∀ i, i < w.heap.size → i ≠ g → V ≠ some ⟨i, 0, none⟩ → w'.heap[i]? = w.heap[i]?) ∧ ∀ i, V' = some ⟨i, 0, none⟩ → i < w.heap.size → V = some ⟨i, 0, none⟩
section
variable {w w1 w2 : World} {g : Nat} {V V1 V2 : Option Addr}
theorem turned_src (V : Option Addr) (h : w.grownBy w1 (some g)) : Turned w w1 g V V := ⟨h.size, fun i hi hne _ => h.block i hi (fun e => hne (by injection e)), fun _ e _ => e⟩
theorem turned_below (g : Nat) (V : Option Addr) (h : Below w.heap.size w w1) : Turned w w1 g V V := ⟨h.size, fun i hi _ _ => h.block i hi, fun _ e _ => e⟩
theorem Turned.trans (h : Turned w w1 g V V1) (k : Turned w1 w2 g V1 V2) : Turned w w2 g V V2 :=
  ⟨Nat.le_trans h.1 k.1, fun i hi hne hV => (k.2.1 i (Nat.lt_of_lt_of_le hi h.1) hne (fun e => hV (h.2.2 i e hi))).trans (h.2.1 i hi hne hV), fun i e hi => h.2.2 i (k.2.2 i e (Nat.lt_of_lt_of_le hi h.1)) hi⟩
theorem Turned.src (h : Turned w w1 g V V1) (k : w1.grownBy w2 (some g)) : Turned w w2 g V V1 := h.trans (turned_src V1 k)
theorem Turned.blw (h : Turned w w1 g V V1) (k : Below w1.heap.size w1 w2) : Turned w w2 g V V1 := h.trans (turned_below g V1 k)
end
/-- what is true behind an append -/
theorem app_after {w3 w4 : World} {g k cv g' cv' n c : Nat} {t tn : TypeId} {A V : Option Addr} {a s : Int} {ns : List Nd} {lit : Obj} (x : Nd) (hS : Src w3 g t A n c a s) (ho : OwnN w3 (g + 1) tn V k cv ns) (hg : (w3.alloc lit).grownBy w4 (Value.slice V k cv).ownBlock) (hat : (Value.slice V k cv).ownBlock = some g' ∨ g' = (w3.alloc lit).heap.size)
    (hown : w4.ownsRow (g + 1) tn 4 (.slice (some ⟨g', 0, none⟩) (k + 1) cv') (k + 1) (flatN ns ++ [.int .i64 x.1, .int .i64 x.2.1, .int .i64 x.2.2.1, .int .i64 x.2.2.2])) :
    OwnN w4 (g + 1) tn (some ⟨g', 0, none⟩) (k + 1) cv' (ns ++ [x]) ∧ Src w4 g t A n c a s ∧ Below (g + 1) w3 w4 ∧ Turned w3 w4 g V (some ⟨g', 0, none⟩) := by
  have hl := hS.lt
  have hb : Below (g + 1) w3 w4 := ((below_one w3 lit).mono (by omega)).trans (appB (ho.alloc lit) (by simp; omega) hg)
  refine ⟨?_, srcN_on hS hb, hb, hb.size, fun i hi hne hV => ?_, fun i e hi => ?_⟩
  · unfold OwnN
    rw [flatN_snoc]
    exact hown
  · refine (hg.block i (by simp; omega) (fun e => ?_)).trans ((below_one w3 lit).block i hi)
    rcases ho.2 with ⟨e', _⟩ | ⟨b, cap, cur, e', _⟩
    · rw [e'] at e; cases e
    · injection e' with e1 e2 e3
      rw [e1] at e hV
      injection e with e
      have e : b = i := by first | exact e | exact e.symm
      rw [e] at hV
      exact hV rfl
  · injection e with e
    injection e with e
    subst e
    rcases hat with e' | e'
    · rcases ho.2 with ⟨q, _⟩ | ⟨b, cap, cur, q, _⟩
      · rw [q] at e'; cases e'
      · injection q with q1 q2 q3
        rw [q1] at e' ⊢
        injection e' with e'
        have e' : b = g' := e'
        rw [e']
    · simp at e'; omega
/-- a tree was drawn behind ns -/
def DrewT (t tn : TypeId) (w : World) (B g : Nat) (V0 : Option Addr) (A : Option Addr) (n c : Nat) (a : Int) (dim : Int) (r : Nat) (ns : List Nd) (e : Ending) (w' : World) : Prop :=
  ∃ (V : Option Addr) (k cv : Nat) (ms : List Nd) (a' s' : Int), e = .returned (.slice V k cv) ∧ OwnN w' (g + 1) tn V k cv ms ∧ Sprout dim r ns ms ∧ Src w' g t A n c a' s' ∧ a ≤ a' ∧ a' + 9 ≤ a + 9 * ((2 ^ r : Nat) : Int) ∧ 0 ≤ s' ∧ s' < 2147483648 ∧ Below B w w' ∧ Turned w w' g V0 V
end Nt
namespace Go.Proofs.YtifepoefeamboaaGreatDoor
open Go Go.RowKit Nt

set_option maxHeartbeats 800000 in
theorem srcChanceN_any (g n c : Nat) (A : Option Addr) (a s m : Int) (B : Nat) (w : World) (hS : Src w g 90 A n c a s) (hR : RdB w (· < B) A n) (hB : B ≤ g) (ha0 : 0 ≤ a) (ha1 : a ≤ 549755813888) (hs0 : 0 ≤ s) (hs1 : s < 2147483648) (hn : n ≤ 1099511627776) (hm : 1 < m) (hm1 : m ≤ 16777216) :
    Calls Tryz.prog 94 #[.pointer (some ⟨g, 0, none⟩), .int .i64 m] w (fun e w' => ∃ (b : Bool) (a' s' : Int), e = .returned (.bool b) ∧ a ≤ a' ∧ a' ≤ a + 3 ∧ 0 ≤ s' ∧ s' < 2147483648 ∧ Src w' g 90 A n c a' s' ∧ w.grownBy w' (some g)) := by
  have HN := Lib.hid (srcNext_any g n c A a s m B w hS hR hB ha0 ha1 hs0 hs1 hn hm hm1)
  clear hS hR
  go_enter Tryz.func94, Tryz.ntmps94
  go_wp2_with fail
  refine HN.out.mono ?_
  rintro e w1 ⟨r, a1, s1, rfl, hr0, hr1, h1, h2, h3, h4, hS1, hg1⟩
  have HS1 := Lib.hid hS1
  have HG1 := Lib.hid hg1
  clear HN hS1 hg1
  go_wp2
  go_ret
  exact ⟨_, a1, s1, rfl, by omega, by omega, by omega, by omega, HS1.out, HG1.out⟩
end Go.Proofs.YtifepoefeamboaaGreatDoor
namespace Go.Proofs.YtifepoefeamboaaGreatDoor
open Go Go.RowKit Nt

set_option maxRecDepth 20000 in
set_option maxHeartbeats 6400000 in
theorem grow_any (A : Option Addr) (n c : Nat) (dim : Int) (hd1 : 1 < dim) (hd4 : dim ≤ 4) (div : Bool) (B g : Nat) (hB : B ≤ g) (hn : n ≤ 1099511627776) :
    ∀ (r : Nat), 1 ≤ r → r ≤ 4 → ∀ (rm : Int), rm = r → ∀ (V : Option Addr) (k cv : Nat) (ns : List Nd) (a s : Int) (w : World), Src w g 90 A n c a s → RdB w (· < B) A n → 0 ≤ a → a + 9 * ((2 ^ r : Nat) : Int) ≤ 274877906944 → 0 ≤ s → s < 2147483648 → OwnN w (g + 1) 114 V k cv ns → k + 2 ^ r ≤ 1000 →
    Calls Tryz.prog 66 #[.pointer (some ⟨g, 0, none⟩), .slice V k cv, .int .i64 rm, .int .i64 dim, .bool div] w (DrewT 90 114 w B g V A n c a dim r ns) := by
  intro r
  induction r using Nat.strongRecOn with
  | _ r ih =>
  intro h1 h4 rm hrm V k cv ns a s w hS hR ha0 ha1 hs0 hs1 hO hk
  have hglt := hS.lt
  have HS := Lib.hid hS
  have HR := Lib.hid hR
  have HO := Lib.hid hO
  have HRM := Lib.hid hrm
  have hnl := hO.len
  have hp2 : 2 ≤ 2 ^ r := Nat.pow_le_pow_right (n := 2) (by decide) h1
  have HP : Hid (∀ q, r = q + 1 → 2 ^ r = 2 * 2 ^ q) := fun q e => by rw [e, Nat.pow_succ]; omega
  have HDT : Hid (∀ (V' : Option Addr) (k' cv' : Nat) (ms : List Nd) (a' s' : Int) (w' : World), OwnN w' (g + 1) 114 V' k' cv' ms → Sprout dim r ns ms → Src w' g 90 A n c a' s' → a ≤ a' → a' + 9 ≤ a + 9 * ((2 ^ r : Nat) : Int) → 0 ≤ s' → s' < 2147483648 → Below B w w' → Turned w w' g V V' → DrewT 90 114 w B g V A n c a dim r ns (.returned (.slice V' k' cv')) w') := fun V' k' cv' ms a' s' w' x1 x2 x3 x4 x5 x6 x7 x8 x9 => ⟨V', k', cv', ms, a', s', rfl, x1, x2, x3, x4, x5, x6, x7, x8, x9⟩
  generalize hPe : (2 ^ r : Nat) = P at *
  clear hS hR hO hrm hPe
  obtain ⟨i0, hi0, hz0, hz1, hz2⟩ := info_parts infoNode
  go_enter Tryz.func66, Tryz.ntmps66
  go_wp2_with fail
  refine (srcNext_any g n c A a s 9 B w HS.out HR.out hB ha0 (by omega) hs0 hs1 hn (by omega) (by omega)).mono ?_
  rintro e w1 ⟨q, a1, s1, rfl, hq0, hq1, l1, l2, l3, l4, hS1, hg1⟩
  have HS1 := Lib.hid hS1
  have HR1 := Lib.hid (HR.out.grown hg1 hB)
  have HO1 := Lib.hid (HO.out.past hg1 (Nat.lt_succ_self g))
  have HB1 := Lib.hid (grown_below hg1 (show B ≤ w.heap.size by omega) hB)
  have HT1 := Lib.hid (turned_src V hg1)
  have hgl1 := hS1.lt
  clear hS1 hg1 HS HR HO
  by_cases hleaf : r ≤ 1 ∨ 30 < k ∨ q < 3
  · have hz : (decide (rm ≤ 1) = true) ∨ (decide (rm ≤ 1) = false ∧ decide ((30 : Int) < k) = true) ∨ (decide (rm ≤ 1) = false ∧ decide ((30 : Int) < k) = false ∧ decide (q < 3) = true) := by
      have := HRM.out
      by_cases e1 : rm ≤ 1
      · exact .inl (decide_eq_true e1)
      · by_cases e2 : (30 : Int) < k
        · exact .inr (.inl ⟨decide_eq_false e1, decide_eq_true e2⟩)
        · exact .inr (.inr ⟨decide_eq_false e1, decide_eq_false e2, decide_eq_true (by omega)⟩)
    clear hleaf ih HP
    rcases hz with z1 | ⟨z1, z2⟩ | ⟨z1, z2, z3⟩
    all_goals
      go_wp2_with fail
      refine (srcChanceN_any g n c A a1 s1 3 B w1 HS1.out HR1.out hB (by omega) (by omega) l3 l4 hn (by omega) (by omega)).mono ?_
      rintro e w2 ⟨b, a2, s2, rfl, m1, m2, m3, m4, hS2, hg2⟩
      have HS2 := Lib.hid hS2
      have HR2 := Lib.hid (HR1.out.grown hg2 hB)
      have HO2 := Lib.hid (HO1.out.past hg2 (Nat.lt_succ_self g))
      have HB2 := Lib.hid (HB1.out.trans (grown_below hg2 (show B ≤ w1.heap.size by omega) hB))
      have HT2 := Lib.hid (HT1.out.src hg2)
      have hgl2 := hS2.lt
      clear hS2 hg2 HS1 HR1 HO1 HB1
      cases b with
      | true =>
        go_wp2_with fail
        refine (srcNext_any g n c A a2 s2 6 B w2 HS2.out HR2.out hB (by omega) (by omega) m3 m4 hn (by omega) (by omega)).mono ?_
        rintro e w3 ⟨v, a3, s3, rfl, hv0, hv1, n1, n2, n3, n4, hS3, hg3⟩
        have HS3 := Lib.hid hS3
        have HO3 := Lib.hid (HO2.out.past hg3 (Nat.lt_succ_self g))
        have HB3 := Lib.hid (HB2.out.trans (grown_below hg3 (show B ≤ w2.heap.size by omega) hB))
        have HT3 := Lib.hid (HT2.out.src hg3)
        have hgl3 := hS3.lt
        clear hS3 hg3 HS2 HR2 HO2 HB2
        go_wp2_with (at_builtin; refine wpList_append_lies _ rfl _ _ 23 rfl (g + 1) 114 i0 _ 4 32 Tryz.underlying23 hi0 hz0 hz1 hz2 rfl (by decide) _ k _ rfl (HO3.out.alloc _) ⟨w3.heap.size, 0, none⟩ 1 1 [.int .i64 1, .int .i64 0, .int .i64 0, .int .i64 v] rfl rfl (cells4 _ _ (1, 0, 0, v)) (one4 _ _ _ _) (by decide) (by unfold maxLen; omega) (by omega) (by simp; omega) _ rfl ?_; intro g' cv' w4 hown hgrow hat hlt2; have HAP := Lib.hid (app_after (1, 0, 0, v) HS3.out HO3.out hgrow hat hown); clear hown hgrow hat hlt2)
        go_wp2
        go_ret
        obtain ⟨y1, y2, y3, y4⟩ := HAP.out
        exact HDT.out _ _ _ _ _ _ _ y1 (sprout_mono (sprout_leaf (fit_const hv0 (by omega)) rfl rfl (fun e => by cases e)) h1) y2 (by omega) (by omega) n3 n4 (HB3.out.trans (y3.mono (by omega))) (HT3.out.trans y4)
      | false =>
        go_wp2_with fail
        refine (srcNext_any g n c A a2 s2 dim B w2 HS2.out HR2.out hB (by omega) (by omega) m3 m4 hn (by omega) (by omega)).mono ?_
        rintro e w3 ⟨v, a3, s3, rfl, hv0, hv1, n1, n2, n3, n4, hS3, hg3⟩
        have HS3 := Lib.hid hS3
        have HO3 := Lib.hid (HO2.out.past hg3 (Nat.lt_succ_self g))
        have HB3 := Lib.hid (HB2.out.trans (grown_below hg3 (show B ≤ w2.heap.size by omega) hB))
        have HT3 := Lib.hid (HT2.out.src hg3)
        have hgl3 := hS3.lt
        clear hS3 hg3 HS2 HR2 HO2 HB2
        go_wp2_with (at_builtin; refine wpList_append_lies _ rfl _ _ 23 rfl (g + 1) 114 i0 _ 4 32 Tryz.underlying23 hi0 hz0 hz1 hz2 rfl (by decide) _ k _ rfl (HO3.out.alloc _) ⟨w3.heap.size, 0, none⟩ 1 1 [.int .i64 2, .int .i64 0, .int .i64 0, .int .i64 v] rfl rfl (cells4 _ _ (2, 0, 0, v)) (one4 _ _ _ _) (by decide) (by unfold maxLen; omega) (by omega) (by simp; omega) _ rfl ?_; intro g' cv' w4 hown hgrow hat hlt2; have HAP := Lib.hid (app_after (2, 0, 0, v) HS3.out HO3.out hgrow hat hown); clear hown hgrow hat hlt2)
        go_wp2
        go_ret
        obtain ⟨y1, y2, y3, y4⟩ := HAP.out
        exact HDT.out _ _ _ _ _ _ _ y1 (sprout_mono (sprout_leaf (fit_vari hv0 (by omega)) rfl rfl (fun _ => hv1)) h1) y2 (by omega) (by omega) n3 n4 (HB3.out.trans (y3.mono (by omega))) (HT3.out.trans y4)
  · obtain ⟨r', hr'⟩ : ∃ r', r = r' + 1 := ⟨r - 1, by omega⟩
    have hr1 : 1 ≤ r' := by omega
    have hPP := HP.out r' hr'
    have hrm2 : 2 ≤ rm := by have := HRM.out; omega
    have hrm4 : rm ≤ 4 := by have := HRM.out; omega
    have z1 : decide (rm ≤ 1) = false := decide_eq_false (by omega)
    have z2 : decide ((30 : Int) < k) = false := decide_eq_false (by omega)
    have z3 : decide (q < 3) = false := decide_eq_false (by omega)
    have hk30 : k ≤ 30 := by omega
    have hrq : rm = (r' : Int) + 1 := by have := HRM.out; omega
    have HRQ := Lib.hid hrq
    have hp22 : 2 ≤ 2 ^ r' := Nat.pow_le_pow_right (n := 2) (by decide) hr1
    have hp8 : 2 ^ r' ≤ 2 ^ 3 := Nat.pow_le_pow_right (by decide) (by omega)
    have hone := fun (ms : List Nd) (x : Nd) (p : Nat) (hp : p ≤ r') (h : Sprout dim p ns ms) (hf : fitN x = true) (h2 : two x.1 = false) (h1 : one x.1 = true) (ha : x.2.1 = (ms.length : Int) - 1) => (show Sprout dim r ns (ms ++ [x]) from hr' ▸ sprout_one (sprout_mono h hp) hf h2 h1 ha)
    have htwo := fun (ms ps : List Nd) (x : Nd) (h : Sprout dim r' ns ms) (k : Sprout dim r' ms ps) (hf : fitN x = true) (h2 : two x.1 = true) (ha : x.2.1 = (ms.length : Int) - 1) (hb : x.2.2.1 = (ps.length : Int) - 1) => (show Sprout dim r ns (ps ++ [x]) from hr' ▸ sprout_two h k hf h2 ha hb)
    have HSP := Lib.hid hone
    have HSQ := Lib.hid htwo
    have HIH := Lib.hid (fun (p : Nat) (hp1 : 1 ≤ p) (hp2 : p < r) => ih p hp2 hp1 (by omega))
    clear hleaf ih HP hrq hone htwo
    by_cases q3 : q = 3
    · subst q3
      have e3 : ((3 : Int) == 3) = true := rfl
      have HC := Lib.hid (HIH.out r' hr1 (by omega))
      have HL := Lib.hid (fun (ms : List Nd) (h : Sprout dim r' ns ms) => sprout_len h)
      clear HIH HSQ
      generalize hPe : (2 ^ r' : Nat) = P' at *
      have HPE := Lib.hid hPe
      clear hPe
      go_wp2_with fail
      refine (HC.out _ (by have := HRQ.out; omega) V k cv ns a1 s1 w1 HS1.out HR1.out (by omega) (by omega) l3 l4 HO1.out (by omega)).mono ?_
      rintro e w2 ⟨V2, k2, cv2, ms, a2, s2, rfl, hO2, hSp, hS2, m1, m2, m3, m4, bb, tt⟩
      rw [HPE.out] at m2
      have hk2 := hO2.len
      have hl2 := HL.out ms hSp
      have hlo : 0 < k2 := by omega
      have hhi : k2 ≤ 100 := by omega
      have hgl2 := hS2.lt
      have HO2 := Lib.hid hO2
      have HS2 := Lib.hid hS2
      have HB2 := Lib.hid (HB1.out.trans bb)
      have HT2 := Lib.hid (HT1.out.trans tt)
      have HV := Lib.hid (HSP.out ms (7, (k2 : Int) - 1, 0, 0) r' (Nat.le_refl _) hSp fit_neg rfl rfl (by rw [hk2]))
      have HAB := Lib.hid (show a ≤ a2 ∧ a2 + 9 ≤ a + 9 * (P : Int) by omega)
      clear hO2 hS2 bb tt hSp HC HL HSP hk2 hl2 HS1 HR1 HO1 HB1 m1 m2
      go_wp2_with (at_builtin; refine wpList_append_lies _ rfl _ _ 23 rfl (g + 1) 114 i0 _ 4 32 Tryz.underlying23 hi0 hz0 hz1 hz2 rfl (by decide) _ k2 _ rfl (HO2.out.alloc _) ⟨w2.heap.size, 0, none⟩ 1 1 [.int .i64 7, .int .i64 ((k2 : Int) - 1), .int .i64 0, .int .i64 0] rfl rfl (cells4 _ _ (7, ((k2 : Int) - 1), 0, 0)) (one4 _ _ _ _) (by decide) (by unfold maxLen; omega) (by omega) (by simp; omega) _ rfl ?_; intro g' cv' w3 hown hgrow hat hlt2; have HAP := Lib.hid (app_after (7, ((k2 : Int) - 1), 0, 0) HS2.out HO2.out hgrow hat hown); clear hown hgrow hat hlt2)
      go_wp2
      go_ret
      obtain ⟨y1, y2, y3, y4⟩ := HAP.out
      exact HDT.out _ _ _ _ _ _ _ y1 HV.out y2 HAB.out.1 HAB.out.2 m3 m4 (HB2.out.trans (y3.mono (by omega))) (HT2.out.trans y4)
    by_cases q4 : q = 4
    · subst q4
      have e3 : ((4 : Int) == 3) = false := rfl
      have e4 : ((4 : Int) == 4) = true := rfl
      obtain ⟨p, hp1, hpr, hmn⟩ : ∃ p : Nat, 1 ≤ p ∧ p ≤ r' ∧ (p : Int) = min (rm - 1) 2 := ⟨min r' 2, by omega, by omega, by have := HRQ.out; omega⟩
      have HMN := Lib.hid hmn
      have hpp : 2 ^ p ≤ 2 ^ r' := Nat.pow_le_pow_right (n := 2) (by decide) hpr
      have hp22' : 2 ≤ 2 ^ p := Nat.pow_le_pow_right (n := 2) (by decide) hp1
      have HC := Lib.hid (HIH.out p hp1 (by omega))
      have HL := Lib.hid (fun (ms : List Nd) (h : Sprout dim p ns ms) => sprout_len h)
      have hmx : rm = 2 ∨ rm = 3 ∨ rm = 4 := by omega
      clear HIH HSQ hmn z1
      generalize hPe : (2 ^ r' : Nat) = P' at *
      generalize hPf : (2 ^ p : Nat) = P'' at *
      have HPE := Lib.hid hPf
      clear hPe hPf
      rcases hmx with rfl | rfl | rfl
      all_goals
        go_wp2_with fail
        refine (HC.out _ (by have := HMN.out; omega) V k cv ns a1 s1 w1 HS1.out HR1.out (by omega) (by omega) l3 l4 HO1.out (by omega)).mono ?_
        rintro e w2 ⟨V2, k2, cv2, ms, a2, s2, rfl, hO2, hSp, hS2, m1, m2, m3, m4, bb, tt⟩
        rw [HPE.out] at m2
        have hk2 := hO2.len
        have hl2 := HL.out ms hSp
        have hlo : 0 < k2 := by omega
        have hhi : k2 ≤ 100 := by omega
        have hgl2 := hS2.lt
        have HO2 := Lib.hid hO2
        have HS2 := Lib.hid hS2
        have HR2 := Lib.hid (HR1.out.below bb)
        have HB2 := Lib.hid (HB1.out.trans bb)
        have HT2 := Lib.hid (HT1.out.trans tt)
        have HV := Lib.hid (fun (v : Int) (h0 : 0 ≤ v) (h1 : v ≤ 8) => HSP.out ms (8, (k2 : Int) - 1, 0, v) p hpr hSp (fit_pow h0 h1) rfl rfl (by rw [hk2]))
        have HAB := Lib.hid (show a ≤ a2 ∧ a2 + 12 ≤ a + 9 * (P : Int) ∧ a2 ≤ 274877906944 by omega)
        have ha2 : 0 ≤ a2 := by omega
        clear hO2 hS2 bb tt hSp HC HL HSP hk2 hl2 HS1 HR1 HO1 HB1 m1 m2
        go_wp2_with fail
        refine (srcNext_any g n c A a2 s2 4 B w2 HS2.out HR2.out hB (by omega) (by have := HAB.out; omega) m3 m4 hn (by omega) (by omega)).mono ?_
        rintro e w3 ⟨v, a3, s3, rfl, hv0, hv1, n1, n2, n3, n4, hS3, hg3⟩
        have HS3 := Lib.hid hS3
        have HO3 := Lib.hid (HO2.out.past hg3 (Nat.lt_succ_self g))
        have HB3 := Lib.hid (HB2.out.trans (grown_below hg3 (show B ≤ w2.heap.size by omega) hB))
        have HT3 := Lib.hid (HT2.out.src hg3)
        have hgl3 := hS3.lt
        clear hS3 hg3 HS2 HR2 HO2 HB2
        go_wp2_with (at_builtin; refine wpList_append_lies _ rfl _ _ 23 rfl (g + 1) 114 i0 _ 4 32 Tryz.underlying23 hi0 hz0 hz1 hz2 rfl (by decide) _ k2 _ rfl (HO3.out.alloc _) ⟨w3.heap.size, 0, none⟩ 1 1 [.int .i64 8, .int .i64 ((k2 : Int) - 1), .int .i64 0, .int .i64 v] rfl rfl (cells4 _ _ (8, ((k2 : Int) - 1), 0, v)) (one4 _ _ _ _) (by decide) (by unfold maxLen; omega) (by omega) (by simp; omega) _ rfl ?_; intro g' cv' w4 hown hgrow hat hlt2; have HAP := Lib.hid (app_after (8, ((k2 : Int) - 1), 0, v) HS3.out HO3.out hgrow hat hown); clear hown hgrow hat hlt2)
        go_wp2
        go_ret
        obtain ⟨y1, y2, y3, y4⟩ := HAP.out
        have := HAB.out
        exact HDT.out _ _ _ _ _ _ _ y1 (HV.out v hv0 (by omega)) y2 (by omega) (by omega) n3 n4 (HB3.out.trans (y3.mono (by omega))) (HT3.out.trans y4)
    · have e3 : (q == 3) = false := by simp; omega
      have e4 : (q == 4) = false := by simp; omega
      have HC := Lib.hid (HIH.out r' hr1 (by omega))
      have HL := Lib.hid (fun (ms : List Nd) (h : Sprout dim r' ns ms) => sprout_len h)
      have HL2 := Lib.hid (fun (ms ps : List Nd) (h : Sprout dim r' ms ps) => sprout_len h)
      have HCS := Lib.hid (fun (W : World) (j : Nat) (hj : j < 6) => cell_six W 3 j hj)
      have hbit : 0 ≤ bitZ div ∧ bitZ div ≤ 1 := by cases div <;> decide
      clear HIH HSP
      generalize hPe : (2 ^ r' : Nat) = P' at *
      generalize hbe : bitZ div = bv at *
      have HBT := Lib.hid hbe
      have HPE := Lib.hid hPe
      obtain ⟨hb0, hb1⟩ := hbit
      clear hPe hbe
      go_wp2_with fail
      refine (l01Bit_any div _).mono ?_
      rintro e wb ⟨rfl, rfl⟩
      rw [HBT.out]
      have hx := below_one w1 (.cells #[.int .i64 3, .int .i64 3, .int .i64 4, .int .i64 5, .int .i64 5, .int .i64 6] 3)
      have HX := Lib.hid hx
      clear hx
      go_wp2_with fail
      refine (srcNext_any g n c A a1 s1 (5 + bv) B _ (srcN_alloc HS1.out _) (rdbN_alloc HR1.out _) hB (by omega) (by omega) l3 l4 hn (by omega) (by omega)).mono ?_
      rintro e w2 ⟨j', a2, s2, rfl, hj0, hj1, m1, m2, m3, m4, hS2, hg2⟩
      obtain ⟨j, rfl⟩ : ∃ j : Nat, j' = j := ⟨j'.toNat, by omega⟩
      have hj6 : j < 6 := by omega
      have hj6' : (j : Int) < 6 := by omega
      have HS2 := Lib.hid hS2
      have HO2 : Hid (OwnN w2 (g + 1) 114 V k cv ns) := Lib.hid ((HO1.out.on HX.out).past (w' := w2) hg2 (Nat.lt_succ_self g))
      have HB2 : Hid (Below B w w2) := Lib.hid ((HB1.out.trans (HX.out.mono (by omega))).trans (grown_below hg2 (by simp; omega) hB))
      have HT2 := Lib.hid ((HT1.out.blw HX.out).src hg2)
      have HR2 : Hid (RdB w2 (· < B) A n) := Lib.hid ((HR1.out.below (HX.out.mono (by omega))).grown hg2 hB)
      have c6 : w2.cell? ⟨w1.heap.size, j, none⟩ = some (.int .i64 (opOf j)) := (World.cell?_of_block (a := ⟨w1.heap.size, j, none⟩) (hg2.block w1.heap.size (by simp) (fun e => by injection e with e; omega))).trans (HCS.out w1 j hj6)
      have hgl2 := hS2.lt
      have hop := opOf_in j
      generalize opOf j = op at *
      obtain ⟨ho3, ho6⟩ := hop
      clear hS2 hg2 HX HCS HS1 HR1 HO1 HB1 HBT
      go_wp2_with fail
      clear c6
      refine (HC.out _ (by have := HRQ.out; omega) V k cv ns a2 s2 w2 HS2.out HR2.out (by omega) (by omega) m3 m4 HO2.out (by omega)).mono ?_
      rintro e w3 ⟨V3, k3, cv3, ms, a3, s3, rfl, hO3, hSp, hS3, n1, n2, n3, n4, bb, tt⟩
      rw [HPE.out] at n2
      have hk3 := hO3.len
      have hl3 := HL.out ms hSp
      have hlo : 0 < k3 := by omega
      have hhi : k3 ≤ 100 := by omega
      have hgl3 := hS3.lt
      have HO3 := Lib.hid hO3
      have HS3 := Lib.hid hS3
      have HR3 := Lib.hid (HR2.out.below bb)
      have HB3 := Lib.hid (HB2.out.trans bb)
      have HT3 := Lib.hid (HT2.out.trans tt)
      have HSM := Lib.hid hSp
      have HK3 := Lib.hid hk3
      clear hO3 hS3 bb tt hSp HL hk3 HS2 HR2 HO2 HB2
      go_wp2_with fail
      refine (HC.out _ (by have := HRQ.out; omega) V3 k3 cv3 ms a3 s3 w3 HS3.out HR3.out (by omega) (by omega) n3 n4 HO3.out (by omega)).mono ?_
      rintro e w4 ⟨V4, k4, cv4, ps, a4, s4, rfl, hO4, hSp, hS4, t1, t2, t3, t4, bb, tt⟩
      rw [HPE.out] at t2
      have hk4 := hO4.len
      have hl4 := HL2.out ms ps hSp
      have hk3 := HK3.out
      have hlo4 : 0 < k4 := by omega
      have hhi4 : k4 ≤ 100 := by omega
      have hgl4 := hS4.lt
      have HO4 := Lib.hid hO4
      have HS4 := Lib.hid hS4
      have HB4 := Lib.hid (HB3.out.trans bb)
      have HT4 := Lib.hid (HT3.out.trans tt)
      have HV := Lib.hid (HSQ.out ms ps (op, (k3 : Int) - 1, (k4 : Int) - 1, 0) HSM.out hSp (fit_two ho3 ho6) (by unfold two; simp; omega) (by rw [hk3]) (by rw [hk4]))
      have HAB := Lib.hid (show a ≤ a4 ∧ a4 + 9 ≤ a + 9 * (P : Int) by omega)
      clear hO4 hS4 bb tt hSp HC HL2 HSQ hk3 hk4 hl3 hl4 HS3 HR3 HO3 HB3 HSM HK3 n1 n2 t1 t2 m1 m2
      go_wp2_with (at_builtin; refine wpList_append_lies _ rfl _ _ 23 rfl (g + 1) 114 i0 _ 4 32 Tryz.underlying23 hi0 hz0 hz1 hz2 rfl (by decide) _ k4 _ rfl (HO4.out.alloc _) ⟨w4.heap.size, 0, none⟩ 1 1 [.int .i64 op, .int .i64 ((k3 : Int) - 1), .int .i64 ((k4 : Int) - 1), .int .i64 0] rfl rfl (cells4 _ _ (op, ((k3 : Int) - 1), ((k4 : Int) - 1), 0)) (one4 _ _ _ _) (by decide) (by unfold maxLen; omega) (by omega) (by simp; omega) _ rfl ?_; intro g' cv' w5 hown hgrow hat hlt2; have HAP := Lib.hid (app_after (op, ((k3 : Int) - 1), ((k4 : Int) - 1), 0) HS4.out HO4.out hgrow hat hown); clear hown hgrow hat hlt2)
      go_wp2
      go_ret
      obtain ⟨y1, y2, y3, y4⟩ := HAP.out
      exact HDT.out _ _ _ _ _ _ _ y1 HV.out y2 HAB.out.1 HAB.out.2 t3 t4 (HB4.out.trans (y3.mono (by omega))) (HT4.out.trans y4)
end Go.Proofs.YtifepoefeamboaaGreatDoor
namespace Nt
open Go Go.RowKit
theorem ownN_cells {w : World} {base n c : Nat} {t : TypeId} {g : Nat} {ns : List Nd} (h : OwnN w base t (some ⟨g, 0, none⟩) n c ns) : ∀ j u, (flatN ns)[j]? = some u → w.cell? ((⟨g, 0, none⟩ : Addr).add j) = some u := fun j u hj => by
  have hlt : j < (flatN ns).length := by
    rcases Nat.lt_or_ge j (flatN ns).length with hh | hh
    · exact hh
    · rw [List.getElem?_eq_none hh] at hj; cases hj
  have hl := h.1
  rw [addN_none, Nat.zero_add]
  exact (h.cellAt j (by omega)).trans hj
theorem ownN_one (ns : List Nd) : ∀ u ∈ flatN ns, u.oneCell' = true := by
  induction ns with
  | nil => intro u hu; cases hu
  | cons x ns ih =>
    intro u hu
    rw [flatN_cons] at hu
    simp only [List.mem_cons] at hu
    rcases hu with rfl | rfl | rfl | rfl | hu
    · rfl
    · rfl
    · rfl
    · rfl
    · exact ih u hu
theorem ownN_at {w w' : World} {base n c b : Nat} {t : TypeId} {ns : List Nd} (h : OwnN w base t (some ⟨b, 0, none⟩) n c ns) (hb : w'.heap[b]? = w.heap[b]?) : OwnN w' base t (some ⟨b, 0, none⟩) n c ns := by
  refine ⟨h.1, ?_⟩
  rcases h.2 with ⟨e, h0⟩ | ⟨g, cap, cur, e', h1, hh, h2⟩
  · exact .inl ⟨e, h0⟩
  · injection e' with e1 e2 e3
    injection e1 with e1
    injection e1 with e1
    subst e1 e3
    exact .inr ⟨b, c, cur, rfl, h1, hb.trans hh, h2⟩
theorem grown_turned {w w1 w2 : World} {g B : Nat} {V V' : Option Addr} (h : w.grownBy w1 (some g)) (bb : Below B w1 w2) (tt : Turned w1 w2 g V V') (hV : ∀ i, V = some ⟨i, 0, none⟩ → w.heap.size ≤ i) : w.grownBy w2 (some g) :=
  ⟨bb.os.trans h.os, bb.tape.trans h.tape, bb.output.trans h.output, Nat.le_trans h.size bb.size, fun i hi hne => (tt.2.1 i (Nat.lt_of_lt_of_le hi h.size) (fun e => hne (by rw [e])) (fun e => by have := hV i e; omega)).trans (h.block i hi hne)⟩
theorem grownN_past {a w w' : World} {g b : Nat} (h : a.grownBy w (some g)) (k : w.grownBy w' (some b)) (hb : a.heap.size ≤ b) : a.grownBy w' (some g) :=
  ⟨k.os.trans h.os, k.tape.trans h.tape, k.output.trans h.output, Nat.le_trans h.size k.size, fun i hi hne => (k.block i (Nat.lt_of_lt_of_le hi h.size) (by intro e; injection e with e; omega)).trans (h.block i hi hne)⟩
end Nt
namespace Go.Proofs.YtifepoefeamboaaGreatDoor
open Go Go.RowKit Nt

set_option maxRecDepth 20000 in
set_option maxHeartbeats 3200000 in
theorem srcExpr_any (A : Option Addr) (n c : Nat) (dim : Int) (hd1 : 1 < dim) (hd4 : dim ≤ 4) (div : Bool) (B g : Nat) (hB : B ≤ g) (hn : n ≤ 1099511627776) (a s : Int) (w : World) (hS : Src w g 90 A n c a s) (hR : RdB w (· < B) A n) (ha0 : 0 ≤ a) (ha1 : a ≤ 137438953472) (hs0 : 0 ≤ s) (hs1 : s < 2147483648) :
    Calls Tryz.prog 37 #[.pointer (some ⟨g, 0, none⟩), .int .i64 dim, .bool div] w fun e w' => ∃ (V : Option Addr) (k cv : Nat) (ms : List Nd) (a' s' : Int), e = .returned (.agg #[.slice V k cv]) ∧ RdN w' (w.heap.size ≤ ·) V k cv ms ∧ Sprout dim 4 [] ms ∧ Src w' g 90 A n c a' s' ∧ a ≤ a' ∧ a' ≤ a + 200 ∧ 0 ≤ s' ∧ s' < 2147483648 ∧ w.grownBy w' (some g) := by
  have hglt := hS.lt
  have HS := Lib.hid hS
  have HR := Lib.hid hR
  clear hS hR
  obtain ⟨i0, hi0, hz0, hz1, hz2⟩ := info_parts infoNode
  go_enter Tryz.func37, Tryz.ntmps37
  go_wp2_with fail
  refine calls_atN (fun V => Src V g 90 A n c a s ∧ RdB V (· < B) A n ∧ SlAt V w.heap.size 25 none 0 0 ∧ OwnN V w.heap.size 114 (some ⟨w.heap.size + 1, 0, none⟩) 0 0 [] ∧ OwnN V (g + 1) 114 (some ⟨w.heap.size + 1 + 1, 0, none⟩) 0 0 [] ∧ Below w.heap.size w V ∧ w.heap.size + 3 ≤ V.heap.size)
    ⟨srcN_alloc (srcN_alloc (srcN_alloc HS.out _) _) _, rdbN_alloc (rdbN_alloc (rdbN_alloc HR.out _) _) _, ((SlAt.new w 25 none 0 0).on (below_one _ _)).on (below_one _ _), ?_, ?_, ?_, ?_⟩ ?_
  · have h := (OwnN.nil (w.alloc (.cells #[.slice none 0 0] 25)) w.heap.size 114 (by simp)).on (below_one _ (.cells #[] 114))
    rw [World.size_alloc] at h
    exact h
  · have h := OwnN.nil ((w.alloc (.cells #[.slice none 0 0] 25)).alloc (.cells #[] 114)) (g + 1) 114 (by simp; omega)
    rw [World.size_alloc, World.size_alloc] at h
    exact h
  · exact (((Below.refl _ _).alloc (Nat.le_refl _) _).alloc (by simp) _).alloc (by simp; omega) _
  · simp
  rintro v0 ⟨x1, x2, x3, x4, x5, x6, x7⟩
  have HX3 := Lib.hid x3
  have HX4 := Lib.hid x4
  have HX5 := Lib.hid x5
  have HX6 := Lib.hid x6
  refine (srcNext_any g n c A a s 3 B v0 x1 x2 hB ha0 (by omega) hs0 hs1 hn (by omega) (by omega)).mono ?_
  rintro e w1 ⟨q, a1, s1, rfl, hq0, hq1, l1, l2, l3, l4, hS1, hg1⟩
  have HS1 := Lib.hid hS1
  have HR1 := Lib.hid (x2.grown hg1 hB)
  have HE1 := Lib.hid (HX3.out.past hg1 (by omega))
  have HV1 := Lib.hid (HX5.out.past hg1 (Nat.lt_succ_self g))
  have HU1 := Lib.hid (HX4.out.past hg1 hglt)
  have HG1 := Lib.hid (grown_trans (below_grown HX6.out (some g)) hg1)
  have hz1' := hg1.size
  clear x1 x2 x3 x4 x5 x6 hS1 hg1 HS HR HX3 HX4 HX5 HX6
  obtain ⟨r, hr⟩ : ∃ r : Nat, 2 + q = r := ⟨(2 + q).toNat, by omega⟩
  have hr2 : 2 ≤ r := by omega
  have hr4 : r ≤ 4 := by omega
  have hp16 : 2 ^ r ≤ 2 ^ 4 := Nat.pow_le_pow_right (by decide) hr4
  have hp16' : ((2 ^ r : Nat) : Int) ≤ 16 := by
    generalize 2 ^ r = P at *
    omega
  have HGR := Lib.hid (fun (rm : Int) (hrm : rm = r) => grow_any A n c dim hd1 hd4 div B g hB hn r (by omega) hr4 rm hrm (some ⟨w.heap.size + 1 + 1, 0, none⟩) 0 0 [] a1 s1 w1 HS1.out HR1.out (by omega) (by generalize ((2 ^ r : Nat) : Int) = P at *; omega) l3 l4 HV1.out (by generalize 2 ^ r = P at *; omega))
  have HPR := Lib.hid hp16'
  have HRR := Lib.hid hr
  have HL := Lib.hid (fun (ms : List Nd) (h : Sprout dim r [] ms) => sprout_len h)
  have HPX := Lib.hid hp16
  clear hr hp16 hp16' HS1 HR1 HV1
  go_wp2_with fail
  refine (HGR.out _ HRR.out).mono ?_
  rintro e w2 ⟨V2, k2, cv2, ms, a2, s2, rfl, hO2, hSp, hS2, m1, m2, m3, m4, bb, tt⟩
  have hAB : a ≤ a2 ∧ a2 ≤ a + 200 := by
    have := HPR.out
    generalize ((2 ^ r : Nat) : Int) = P at *
    omega
  have hl2 : 0 < ms.length ∧ ms.length ≤ 15 := by
    have h1 := HL.out ms hSp
    have h2 := HPX.out
    generalize 2 ^ r = P at *
    have e0 : ([] : List Nd).length = 0 := rfl
    omega
  have hk2 := hO2.len
  have hlo : 0 < k2 := by omega
  have hhi : k2 ≤ 15 := by omega
  obtain ⟨g2, rfl, hgb, hgl, hgc⟩ := hO2.at_ hlo
  have hlt1 : w.heap.size + 3 ≤ w1.heap.size := by omega
  have hE2 : SlAt w2 w.heap.size 25 none 0 0 := (tt.2.1 w.heap.size (by omega) (by omega) (by intro e; injection e with e; injection e with e; omega)).trans HE1.out
  have hU2 := ownN_at HU1.out (tt.2.1 (w.heap.size + 1) (by omega) (by omega) (by intro e; injection e with e; injection e with e; omega))
  have HE2 := Lib.hid hE2
  have HU2 := Lib.hid hU2
  have HO2 := Lib.hid hO2
  have HS2 := Lib.hid hS2
  have HSP := Lib.hid (sprout_mono hSp hr4)
  have HG2 := Lib.hid (grown_turned HG1.out bb tt (fun i e => by injection e with e; injection e with e; omega))
  have HAB := Lib.hid hAB
  have hsz2 := tt.1
  clear hO2 hSp hS2 m1 m2 bb tt hE2 hU2 hAB hl2 HGR HL HE1 HU1 HG1 HPR HPX hk2
  go_wp2_with (at_builtin; refine wpList_append_lies _ rfl _ _ 23 rfl w.heap.size 114 i0 _ 4 32 Tryz.underlying23 hi0 hz0 hz1 hz2 rfl (by decide) _ 0 _ rfl HU2.out ⟨g2, 0, none⟩ k2 cv2 (flatN ms) rfl (by rw [flatN_len, HO2.out.len]) (ownN_cells HO2.out) (ownN_one ms) hlo (by unfold maxLen; omega) (by omega) (by omega) _ rfl ?_; intro g' cv' w3 hown hgrow hat hlt2; have HOW := Lib.hid hown; have HGW := Lib.hid hgrow; have HAT := Lib.hid hat; have hE3 : SlAt w3 w.heap.size 25 none 0 0 := (hgrow.block w.heap.size (by omega) (by intro e; injection e with e; have e : w.heap.size = w.heap.size + 1 := e; omega)).trans HE2.out; have HE3 := Lib.hid hE3; have c0 := hE3.c0; have f0 := hE3.fz; clear hown hgrow hat hE3)
  have hw4 : w3.grownBy (w3.setCell ⟨w.heap.size, 0, none⟩ (.slice (some ⟨g', 0, none⟩) (0 + k2) cv')) (some w.heap.size) := grown_set (World.grownBy.refl _ _) _
  have hgne : g' ≠ w.heap.size := by
    rcases HAT.out with e | e
    · injection e with e
      have e : w.heap.size + 1 = g' := e
      omega
    · omega
  have hO4 : OwnN (w3.setCell ⟨w.heap.size, 0, none⟩ (.slice (some ⟨g', 0, none⟩) (0 + k2) cv')) w.heap.size 114 (some ⟨g', 0, none⟩) (0 + k2) cv' ms := ownN_at (show OwnN w3 w.heap.size 114 (some ⟨g', 0, none⟩) (0 + k2) cv' ms from HOW.out) (hw4.block g' hlt2 (by intro e; injection e with e; exact hgne e))
  have hS4 : Src (w3.setCell ⟨w.heap.size, 0, none⟩ (.slice (some ⟨g', 0, none⟩) (0 + k2) cv')) g 90 A n c a2 s2 := HS2.out.keep ((hw4.block g (by have := HGW.out.size; omega) (by intro e; injection e with e; omega)).trans (HGW.out.block g (by omega) (by intro e; injection e with e; have e : g = w.heap.size + 1 := e; omega)))
  have HR4 := Lib.hid hO4.rd
  have HS4 := Lib.hid hS4
  have HE4 := Lib.hid (HE3.out.set (some ⟨g', 0, none⟩) (0 + k2) cv')
  have HG4 := Lib.hid (grownN_past (grownN_past HG2.out (show w2.grownBy w3 (some (w.heap.size + 1)) from HGW.out) (by omega)) hw4 (Nat.le_refl _))
  clear hO4 hS4 hw4 HO2 HU2 HS2 HE2 HE3
  simp only [Nat.zero_add] at HR4 HS4 HE4 HG4
  go_wp2
  have hab := HAB.out
  exact bodyPost_ret (retExpr rfl _ _ w.heap.size rfl HE4.out) rfl ⟨_, _, _, ms, a2, s2, rfl, HR4.out, HSP.out, HS4.out, hab.1, hab.2, m3, m4, HG4.out⟩

set_option maxHeartbeats 800000 in
theorem exprDrawn_any (A : Option Addr) (n c : Nat) (dim : Int) (hd1 : 1 < dim) (hd4 : dim ≤ 4) (div : Bool) (w : World) (hR : RdB w (· < w.heap.size) A n) (hn : n ≤ 1099511627776) :
    Calls Tryz.prog 9 #[.slice A n c, .int .i64 dim, .bool div] w fun e w' => ∃ (V : Option Addr) (k cv : Nat) (ms : List Nd), e = .returned (.agg #[.slice V k cv]) ∧ RdN w' (w.heap.size ≤ ·) V k cv ms ∧ Sprout dim 4 [] ms ∧ Below w.heap.size w w' := by
  have HR := Lib.hid hR
  clear hR
  go_enter Tryz.func9, Tryz.ntmps9
  go_wp2_with fail
  refine calls_atN (fun V => Below w.heap.size w V ∧ SlAt V w.heap.size 25 none 0 0) ⟨below_one _ _, SlAt.new _ _ _ _ _⟩ ?_
  rintro V ⟨hb, hs⟩
  refine (l00Source_any A n c V hn).mono ?_
  rintro e w1 ⟨s, rfl, hs0, hs1, hS, b1⟩
  have HS := Lib.hid hS
  have HB := Lib.hid (belowN_on hb b1)
  have HT := Lib.hid (hs.on b1)
  have hlt := hs.lt
  have hle := hb.size
  have hsz1 := b1.size
  clear hS hb b1 hs
  go_wp2_with fail
  refine (srcExpr_any A n c dim hd1 hd4 div w.heap.size V.heap.size hle hn 0 s w1 HS.out (HR.out.below HB.out) (by omega) (by omega) hs0 hs1).mono ?_
  rintro e w2 ⟨V2, k2, cv2, ms, a2, s2, rfl, hr2, hsp, _, _, _, _, _, hg⟩
  have HT2 := Lib.hid (HT.out.past hg (by omega))
  have HB2 := Lib.hid (HB.out.trans (grown_below hg (by omega) hle))
  have HR2 := Lib.hid (hr2.mono (Q := (w.heap.size < ·)) fun b hb _ => by omega)
  have HSP := Lib.hid hsp
  clear hr2 hsp hg HS HB HT
  have c0 := HT2.out.c0
  have f0 := HT2.out.fz
  have hw3 : w2.grownBy (w2.setCell ⟨w.heap.size, 0, none⟩ (.slice V2 k2 cv2)) (some w.heap.size) := grown_set (World.grownBy.refl _ _) _
  have HR3 := Lib.hid ((HR2.out.keep hw3.size fun b hb hl => hw3.block b hl (by intro e; injection e with e; omega)).mono (Q := (w.heap.size ≤ ·)) fun b hb _ => by omega)
  have HT3 := Lib.hid (HT2.out.set V2 k2 cv2)
  have HB3 := Lib.hid (belowN_grow HB2.out (Nat.le_refl _) hw3)
  clear hw3 HR2 HT2 HB2
  go_wp2
  exact bodyPost_ret (retExpr rfl _ _ w.heap.size rfl HT3.out) rfl ⟨V2, k2, cv2, ms, rfl, HR3.out, HSP.out, HB3.out⟩
end Go.Proofs.YtifepoefeamboaaGreatDoor
namespace Nt
open Go Go.RowKit
/-- a rational in new blocks, and the code 0 -/
def SayNC (w : World) (r : Rat) (e : Ending) (w' : World) : Prop :=
  ∃ A ca B cb, e = .returned (.tuple #[.agg #[.bool (isNeg r), .slice A (D (nu r)).length ca, .slice B (D r.den).length cb], .int .i64 0]) ∧ RdR w' (w.heap.size ≤ ·) (D (nu r)) (D r.den) A ca B cb ∧ Below w.heap.size w w'
/-- a rational is drawn, in new blocks; the source goes on -/
def DrewRN (t : TypeId) (w : World) (g : Nat) (S : Option Addr) (n c : Nat) (a : Int) (e : Ending) (w' : World) : Prop :=
  ∃ (r : Rat) (A : Option Addr) (ca : Nat) (B : Option Addr) (cb : Nat) (a' s' : Int), (D (nu r)).length ≤ 2 ∧ (D r.den).length ≤ 2 ∧ e = .returned (.agg #[.bool (isNeg r), .slice A (D (nu r)).length ca, .slice B (D r.den).length cb]) ∧
    RdR w' (w.heap.size ≤ ·) (D (nu r)) (D r.den) A ca B cb ∧ Src w' g t S n c a' s' ∧ a ≤ a' ∧ a' ≤ a + 6 ∧ 0 ≤ s' ∧ s' < 2147483648 ∧ w.grownBy w' (some g)
theorem Rd.swap {w w' : World} {P Q : Nat → Prop} {A : Option Addr} {n c : Nat} {xs : List Int} (h : Rd w' P A n c xs) (k : Rd w Q A n c xs) : Rd w' Q A n c xs :=
  ⟨h.1, h.2.1, h.2.2.1, fun hn => by
    obtain ⟨b, o, e, _, hl, hc⟩ := h.2.2.2 hn
    obtain ⟨b', o', e', hq, _⟩ := k.2.2.2 hn
    rw [e] at e'
    injection e' with e'
    injection e' with e1
    subst e1
    exact ⟨b, o, e, hq, hl, hc⟩⟩
/-- the elements' lists lie from base on -/
def LowL (w : World) (base : Nat) (L : List EV) : Prop := ∀ i, i < L.length → RdR w (base ≤ ·) (L.getD i e0).xs (L.getD i e0).ys (L.getD i e0).A (L.getD i e0).ca (L.getD i e0).B (L.getD i e0).cb
theorem LowL.src {w w' : World} {base g : Nat} {L : List EV} (h : LowL w base L) (hg : w.grownBy w' (some g)) (hne : g < base) : LowL w' base L := fun i hi => (h i hi).keep hg.size fun b hb hl => hg.block b hl (fun e => by injection e with e; omega)
theorem parts_src {w w' : World} {base g : Nat} {V : Option Addr} {L : List EV} (h : PartsRd w V L) (k : LowL w base L) (hg : w.grownBy w' (some g)) (hne : g < base) : PartsRd w' V L := fun i hi => ⟨((k.src hg hne) i hi).1.swap (h i hi).1, ((k.src hg hne) i hi).2.swap (h i hi).2⟩
theorem LowL.snoc {w : World} {base : Nat} {L : List EV} {r : EV} (h : LowL w base L) (hr : RdR w (base ≤ ·) r.xs r.ys r.A r.ca r.B r.cb) : LowL w base (L ++ [r]) := by
  intro i hi
  by_cases hlt : i < L.length
  · have e : (L ++ [r]).getD i e0 = L.getD i e0 := by simp [List.getD, List.getElem?_append_left hlt]
    rw [e]; exact h i hlt
  · obtain rfl : i = L.length := by simp at hi; omega
    have e : (L ++ [r]).getD L.length e0 = r := by simp [List.getD]
    rw [e]; exact hr
theorem LowL.at_ {w w' : World} {base : Nat} {V : Option Addr} {L : List EV} (h : LowL w base L) (k : PartsRd w' V L) : LowL w' base L := fun i hi => ⟨(k i hi).1.swap (h i hi).1, (k i hi).2.swap (h i hi).2⟩
theorem own_src3 {w w' : World} {base n c g : Nat} {e : TypeId} {A : Option Addr} {xs : List Value} (h : w.ownsRow base e 3 (.slice A n c) n xs) (hg : w.grownBy w' (some g)) (hne : g < base) : w'.ownsRow base e 3 (.slice A n c) n xs := by
  refine h.kept hg ?_
  cases hA : (Value.slice A n c).ownBlock with
  | none => exact .inl rfl
  | some k => exact .inr (fun e => by injection e with e; have := (h.lt k hA).1; omega)
/-- parts of at most k limbs -/
def Tiny (k : Nat) (qs : List Rat) : Prop := ∀ q ∈ qs, (D (nu q)).length ≤ k ∧ (D q.den).length ≤ k
theorem Tiny.fine {k : Nat} {qs : List Rat} (h : Tiny k qs) (hk : k ≤ 40) : Fine qs := fun q hq => ⟨(D_len_le _ 40).1 (Nat.le_trans (h q hq).1 hk), (D_len_le _ 40).1 (Nat.le_trans (h q hq).2 hk)⟩
theorem Tiny.at_ {k : Nat} {qs : List Rat} (h : Tiny k qs) (i : Nat) (hi : i < qs.length) : (D (nu (qs.getD i 0))).length ≤ k ∧ (D (qs.getD i 0).den).length ≤ k := by
  have e : qs.getD i 0 = qs[i] := by simp [List.getD, hi]
  rw [e]
  exact h _ (List.getElem_mem hi)
end Nt
namespace Go.Proofs.YtifepoefeamboaaGreatDoor
open Go Go.RowKit Nt

set_option maxHeartbeats 1600000 in
theorem specMakeRat_new (n d : Int) (w : World) (h1 : -1000000000 ≤ n) (h2 : n ≤ 1000000000) (h3 : -1000000000 ≤ d) (h4 : d ≤ 1000000000) (hd : d ≠ 0) :
    Calls Tryz.prog 97 #[.int .i64 n, .int .i64 d] w (SayNC w (mkRat n 1 / mkRat d 1)) := by
  obtain ⟨a1, a2, a3, a4⟩ := whole_len n h1 h2
  obtain ⟨b1, b2, b3, b4⟩ := whole_len d h3 h4
  have hb0 : 0 < nu (mkRat d 1) := by omega
  have k1 := small_len (n := nu (mkRat n 1)) (by omega)
  have k2 := small_len (n := nu (mkRat d 1)) (by omega)
  have HQ : Hid (mkRat (sg (isNeg (mkRat n 1) != isNeg (mkRat d 1)) (nu (mkRat n 1))) (nu (mkRat d 1)) = mkRat n 1 / mkRat d 1) := by
    show _ = _
    rw [div_make _ _ hb0, a2, b2, Nat.mul_one, Nat.one_mul]
  have HA := Lib.hid (l02Int_any n · h1 h2)
  have HC := Lib.hid (l02Int_any d · h3 h4)
  have e1 : (decide (-1000000000 ≤ n) && decide (n ≤ 1000000000)) = true := by simp; omega
  have e2 : (decide (-1000000000 ≤ d) && decide (d ≤ 1000000000)) = true := by simp; omega
  have hdz : (d == 0) = false := by simpa using hd
  clear h1 h2 h3 h4 a1 a2 a3 a4 b1 b2 b3 b4 hd
  generalize mkRat n 1 = a at *
  generalize mkRat d 1 = b at *
  go_enter Tryz.func97, Tryz.ntmps97
  go_wp2_with fail
  refine (l01In_any _ _ _ _).mono ?_
  rintro e w1 ⟨rfl, rfl⟩
  rw [e1]
  go_wp2_with fail
  refine (l01In_any _ _ _ _).mono ?_
  rintro e w1 ⟨rfl, rfl⟩
  rw [e2]
  clear e1 e2
  go_wp2_with fail
  refine calls_at (fun W => Below w.heap.size w W ∧ RatAt W w.heap.size 31 false none 0 0 none 0 0) ⟨below1 _ _, RatAt.new _ _ _ _ _ _ _ _ _⟩ ?_
  rintro W ⟨hb, r0⟩
  refine (HA.out W).mono ?_
  rintro e w1 ⟨A1, c1, B1, d1, rfl, o1, b1⟩
  have HB1 := Lib.hid (below_on hb b1)
  have HT1 := Lib.hid (r0.on b1)
  have HO1 := Lib.hid o1
  clear hb r0 o1 b1
  go_wp2_with fail
  refine calls_at (fun V => Below w.heap.size w V ∧ RatAt V w.heap.size 31 false none 0 0 none 0 0 ∧ RatAt V w1.heap.size 31 (isNeg a) A1 (D (nu a)).length c1 B1 (D a.den).length d1 ∧ RdR V (fun _ => True) (D (nu a)) (D a.den) A1 c1 B1 d1) ⟨below_on HB1.out (below1 _ _), HT1.out.on (below1 _ _), RatAt.new _ _ _ _ _ _ _ _ _, HO1.out.on (below1 _ _)⟩ ?_
  rintro V ⟨hb, r0, r1, o1⟩
  clear HB1 HT1 HO1
  refine (HC.out V).mono ?_
  rintro e w2 ⟨A2, c2, B2, d2, rfl, o2, b2⟩
  have HB2 := Lib.hid (below_on hb b2)
  have HT2 := Lib.hid (r0.on b2)
  have HR2 := Lib.hid (r1.on b2)
  have HO12 := Lib.hid (o1.on b2)
  have HO2 := Lib.hid o2
  have hs1 := r1.lt
  have hs2 := b2.size
  clear o2 b2 hb r0 r1 o1
  have q0 := HR2.out.c0
  have q1 := HR2.out.c1
  have hs12 : w1.heap.size < w2.heap.size := by omega
  have hsne : ¬ w1.heap.size = w2.heap.size := by omega
  go_wp2_with fail
  clear q0 q1
  have HBX := Lib.hid (below1 w2 (.cells #[.bool (isNeg b), .slice A2 (D (nu b)).length c2, .slice B2 (D b.den).length d2] 31))
  refine (l02Make_new (isNeg a != isNeg b) A1 A2 _ c1 _ c2 (nu a) (nu b) _ _ _ (HO12.out.on HBX.out).1 (HO2.out.on HBX.out).1 (by omega) (by omega) hb0).mono ?_
  rintro e w3 ⟨A3, c3, B3, d3, rfl, o3, b3⟩
  rw [HQ.out] at o3 ⊢
  have HB3 := Lib.hid (below_on (below_on HB2.out HBX.out) b3)
  have HT3 := Lib.hid ((HT2.out.on HBX.out).on b3)
  have HO3 := Lib.hid (o3.mono (Q := (w.heap.size ≤ ·)) fun _ h _ => Nat.le_trans (Nat.le_trans HB2.out.size HBX.out.size) h)
  have hs3 := HT2.out.lt
  clear o3 b3 HB2 HT2 HO12 HO2 HR2
  generalize a / b = q at *
  have f0 := HT3.out.fz 0
  have f1 := HT3.out.fz 1
  have f2 := HT3.out.fz 2
  have y0 := HT3.out.c0
  have y1 := HT3.out.c1
  have y2 := HT3.out.c2
  go_wp2
  have g2 := fun b u v => setAll_grown w3 w.heap.size (.bool b) u v
  refine bodyPost_ret (retRC rfl _ _ _ rfl (HT3.out.setAll _ _ _ _ _ _ _)) rfl ?_
  exact ⟨A3, c3, B3, d3, rfl, ⟨HO3.out.1.past HT3.out (g2 _ _ _), HO3.out.2.past HT3.out (g2 _ _ _)⟩, below_grow HB3.out (by omega) (g2 _ _ _)⟩

set_option maxHeartbeats 1600000 in
theorem srcRatN_any (g n c : Nat) (A : Option Addr) (a s : Int) (B : Nat) (w : World) (hS : Src w g 90 A n c a s) (hR : RdB w (· < B) A n) (hB : B ≤ g) (ha0 : 0 ≤ a) (ha1 : a ≤ 274877906944) (hs0 : 0 ≤ s) (hs1 : s < 2147483648) (hn : n ≤ 1099511627776) :
    Calls Tryz.prog 68 #[.pointer (some ⟨g, 0, none⟩)] w (DrewRN 90 w g A n c a) := by
  have hglt := hS.lt
  have HS := Lib.hid hS
  have HR := Lib.hid hR
  clear hS hR
  go_enter Tryz.func68, Tryz.ntmps68
  go_wp2_with fail
  refine calls_at (fun W => w.grownBy W (some g) ∧ RatAt W w.heap.size 31 false none 0 0 none 0 0 ∧ Src W g 90 A n c a s ∧ RdB W (· < B) A n)
    ⟨grown_alloc (World.grownBy.refl _ _) _, RatAt.new _ _ _ _ _ _ _ _ _, HS.out.alloc _, HR.out.on (below1 _ _)⟩ ?_
  rintro W ⟨hg, r0, hS, hR⟩
  clear HS HR
  refine (srcNext_any g n c A a s 21 B W hS hR hB ha0 (by omega) hs0 hs1 hn (by omega) (by omega)).mono ?_
  rintro e w1 ⟨r, a1, s1, rfl, hr0, hr1, h1, h2, h3, h4, hS1, hg1⟩
  have HG1 := Lib.hid (grown_trans hg hg1)
  have HT1 := Lib.hid (r0.grown hg1 (by omega))
  have HS1 := Lib.hid hS1
  have HR1 := Lib.hid (hR.grown hg1 hB)
  clear hg r0 hS hR hS1 hg1
  go_wp2_with fail
  refine (srcNext_any g n c A a1 s1 6 B w1 HS1.out HR1.out hB (by omega) (by omega) h3 h4 hn (by omega) (by omega)).mono ?_
  rintro e w2 ⟨r', a2, s2, rfl, hr0', hr1', h1', h2', h3', h4', hS2, hg2⟩
  have HG2 := Lib.hid (grown_trans HG1.out hg2)
  have HT2 := Lib.hid (HT1.out.grown hg2 (by omega))
  have HS2 := Lib.hid hS2
  have haa : a ≤ a2 ∧ a2 ≤ a + 6 := by omega
  have HAA := Lib.hid haa
  clear HG1 HT1 HS1 HR1 hS2 hg2 haa
  go_wp2_with fail
  obtain ⟨p1, p2, p3, p4⟩ := whole_len (r - 10) (by omega) (by omega)
  obtain ⟨b1, b2, b3, b4⟩ := whole_len (1 + r') (by omega) (by omega)
  have HL : Hid ((D (nu (mkRat (r - 10) 1 / mkRat (1 + r') 1))).length ≤ 2 ∧ (D (mkRat (r - 10) 1 / mkRat (1 + r') 1).den).length ≤ 2) := by
    have hl := div_lens (mkRat (r - 10) 1) (mkRat (1 + r') 1) (by omega)
    have k1 : (D (nu (mkRat (r - 10) 1))).length ≤ 1 := (D_len_le _ 1).2 (by rw [p3]; omega)
    have k2 : (D (nu (mkRat (1 + r') 1))).length ≤ 1 := (D_len_le _ 1).2 (by rw [b3]; omega)
    have k3 : (D (mkRat (r - 10) 1).den).length ≤ 1 := (D_len_le _ 1).2 (by rw [p2]; omega)
    have k4 : (D (mkRat (1 + r') 1).den).length ≤ 1 := (D_len_le _ 1).2 (by rw [b2]; omega)
    exact ⟨by omega, by omega⟩
  clear p1 p2 p3 p4 b1 b2 b3 b4
  refine (specMakeRat_new (r - 10) (1 + r') w2 (by omega) (by omega) (by omega) (by omega) (by omega)).mono ?_
  generalize mkRat (r - 10) 1 / mkRat (1 + r') 1 = q at *
  rintro e w3 ⟨A3, c3, B3, d3, rfl, o3, b3⟩
  have HG3 := Lib.hid (grown_trans HG2.out (below_grown b3 (some g)))
  have HT3 := Lib.hid (HT2.out.on b3)
  have HO3 := Lib.hid (o3.mono (Q := (w.heap.size < ·)) fun _ h _ => Nat.lt_of_lt_of_le HT2.out.lt h)
  have HS3 := Lib.hid (HS2.out.below b3)
  have hs2 := HG2.out.size
  have hs3 := b3.size
  have hs4 := HT3.out.lt
  clear o3 b3 HG2 HT2
  have hsne : ¬ w.heap.size = w3.heap.size := by omega
  have f0 := HT3.out.fz 0
  have f1 := HT3.out.fz 1
  have f2 := HT3.out.fz 2
  have y0 := HT3.out.c0
  have y1 := HT3.out.c1
  have y2 := HT3.out.c2
  go_wp2
  have g2 := fun b u v => setAll_grown w3 w.heap.size (.bool b) u v
  refine bodyPost_ret (retR rfl _ _ _ rfl ((HT3.out.setAll _ _ _ _ _ _ _).alloc _)) rfl ?_
  have HX : Hid (RdR _ (w.heap.size < ·) (D (nu q)) (D q.den) A3 c3 B3 d3) := Lib.hid ⟨HO3.out.1.past HT3.out (g2 (isNeg q) (.slice A3 (D (nu q)).length c3) (.slice B3 (D q.den).length d3)), HO3.out.2.past HT3.out (g2 _ _ _)⟩
  have HSX := Lib.hid (HS3.out.keep ((g2 (isNeg q) (.slice A3 (D (nu q)).length c3) (.slice B3 (D q.den).length d3)).block g (by omega) (fun e => by injection e with e; omega)))
  exact ⟨q, A3, c3, B3, d3, a2, s2, HL.out.1, HL.out.2, rfl, (HX.out.on (below1 _ _)).mono fun _ h _ => Nat.le_of_lt h, HSX.out.alloc _, HAA.out.1, HAA.out.2, h3', h4', grown_alloc (grown_past HG3.out (g2 _ _ _) (Nat.le_refl _)) _⟩

set_option maxHeartbeats 3200000 in
theorem srcVec_any (g n c : Nat) (A : Option Addr) (a0 s0 : Int) (B N : Nat) (w : World) (hS : Src w g 90 A n c a0 s0) (hR : RdB w (· < B) A n) (hB : B ≤ g) (ha0 : 0 ≤ a0) (ha1 : a0 ≤ 137438953472) (hs0 : 0 ≤ s0) (hs1 : s0 < 2147483648) (hn : n ≤ 1099511627776) (hN : N ≤ 100) :
    Calls Tryz.prog 38 #[.pointer (some ⟨g, 0, none⟩), .int .i64 (N : Int)] w fun e w' => ∃ (V : Option Addr) (cv : Nat) (qs : List Rat) (a' s' : Int), e = .returned (.slice V N cv) ∧ RdS w' (fun _ => True) V N cv (qs.map rat3) ∧ qs.length = N ∧ Tiny 2 qs ∧ Src w' g 90 A n c a' s' ∧ a0 ≤ a' ∧ a' ≤ a0 + 6 * N ∧ 0 ≤ s' ∧ s' < 2147483648 ∧ w.grownBy w' (some g) := by
  have HS := Lib.hid hS
  have HR := Lib.hid hR
  have hglt := hS.lt
  clear hS hR
  have HG0 := Lib.hid (grown_alloc (World.grownBy.refl w (some g)) (.cells #[] 31))
  have HO0 := Lib.hid (World.ownsRow_lit (e := 31) (size := 3) w #[] 0 (Nat.le_refl _) (by decide) rfl)
  have HS0 := Lib.hid (HS.out.alloc (.cells #[] 31))
  go_enter Tryz.func38, Tryz.ntmps38
  go_wp2
  go_loopw [5, 6] (fun v i wr => ∃ (k : Nat) (V : Option Addr) (cv : Nat) (L : List EV) (qs : List Rat) (a s : Int), k ≤ N ∧ i = .int .i64 k ∧ v = .slice V k cv ∧ Hid (L.map EV.v3 = qs.map rat3) ∧ Hid (Tiny 2 qs) ∧ Hid (wr.ownsRow w.heap.size 31 3 (.slice V k cv) k (flat L)) ∧ Hid (PartsRd wr V L) ∧ Hid (LowL wr w.heap.size L) ∧ Hid (Src wr g 90 A n c a s) ∧ Hid (w.grownBy wr (some g)) ∧ a0 ≤ a ∧ a ≤ a0 + 6 * k ∧ 0 ≤ s ∧ s < 2147483648) (fun _ i _ => N - (intOf i).toNat)
  case atStart => exact ⟨0, _, _, [], [], a0, s0, Nat.zero_le _, rfl, rfl, Lib.hid rfl, Lib.hid (fun q hq => by cases hq), HO0, Lib.hid (fun i hi => by simp at hi), Lib.hid (fun i hi => by simp at hi), HS0, HG0, by omega, by omega, hs0, hs1⟩
  case round =>
    clear HG0 HO0 HS0
    obtain ⟨k, V, cv, L, qs, a, s, hk, rfl, rfl, HV, HTN, HO, HP, HQ, HSr, HG, x1, x2, x3, x4⟩ := hrel
    by_cases hlt : k < N
    · have hkN : (k : Int) < N := by omega
      have hsz := HG.out.size
      go_wp2_with fail
      refine (srcRatN_any g n c A a s B wr HSr.out (HR.out.grown HG.out hB) hB (by omega) (by omega) x3 x4 hn).mono ?_
      rintro e w1 ⟨r, A1, c1, B1, d1, a1, s1, l1, l2, rfl, o1, hS1, y1, y2, y3, y4, hg1⟩
      have HO1 : Hid (w1.ownsRow w.heap.size 31 3 (.slice V k cv) k (flat L)) := Lib.hid (own_src3 HO.out hg1 hglt)
      have HP1 : Hid (PartsRd w1 V (L ++ [EV.mk (isNeg r) A1 c1 B1 d1 (D (nu r)) (D r.den)])) := (parts_src HP.out HQ.out hg1 hglt).snoc (o1.mono fun b h _ => row_ne HO.out (Nat.le_refl _) b h)
      have HQ1 : Hid (LowL w1 w.heap.size (L ++ [EV.mk (isNeg r) A1 c1 B1 d1 (D (nu r)) (D r.den)])) := (HQ.out.src hg1 hglt).snoc (o1.mono fun b h _ => Nat.le_trans hsz h)
      have HV1 : Hid ((L ++ [EV.mk (isNeg r) A1 c1 B1 d1 (D (nu r)) (D r.den)]).map EV.v3 = (qs ++ [r]).map rat3) := by
        show _ = _
        rw [List.map_append, HV.out, List.map_append]
        rfl
      have HTN1 : Hid (Tiny 2 (qs ++ [r])) := fun q hq => by
        rcases List.mem_append.1 hq with h | h
        · exact HTN.out q h
        · rw [List.mem_singleton] at h; subst h; exact ⟨l1, l2⟩
      have HS1 := Lib.hid hS1
      have HG1 := Lib.hid (grown_trans HG.out hg1)
      have hs1' := hg1.size
      clear o1 hS1 hg1 HP HQ HV HO HTN HSr HG l1 l2
      obtain ⟨i0, hi0, hz0, hz1, hz2⟩ := info_parts infoRat
      go_wp2_with (at_builtin; refine wpList_append_lies _ rfl _ _ 27 rfl w.heap.size 31 i0 _ 3 56 Tryz.underlying27 hi0 hz0 hz1 hz2 rfl (by decide) _ k _ rfl (HO1.out.alloc _) ⟨w1.heap.size, 0, none⟩ 1 1 [.bool (isNeg r), .slice A1 (D (nu r)).length c1, .slice B1 (D r.den).length d1] rfl rfl (cells3 _ _ _ _ _ _ _ _ _) (one3 _ _ _ _ _ _ _) (by decide) (by unfold maxLen; omega) (by omega) (by simp; omega) _ rfl ?_; intro g' cv' w2 hown hgrow hat hlt2)
      have hlit := below1 w1 (.cells #[.bool (isNeg r), .slice A1 (D (nu r)).length c1, .slice B1 (D r.den).length d1] 31)
      have HO2 : Hid (w2.ownsRow w.heap.size 31 3 (.slice (some ⟨g', 0, none⟩) (k + 1) cv') (k + 1) (flat (L ++ [EV.mk (isNeg r) A1 c1 B1 d1 (D (nu r)) (D r.den)]))) := by rw [flat_snoc]; exact hown
      have HP2 : Hid (PartsRd w2 (some ⟨g', 0, none⟩) (L ++ [EV.mk (isNeg r) A1 c1 B1 d1 (D (nu r)) (D r.den)])) := (HP1.out.on hlit).appended (HO1.out.alloc _) hgrow hat
      have HQ2 : Hid (LowL w2 w.heap.size (L ++ [EV.mk (isNeg r) A1 c1 B1 d1 (D (nu r)) (D r.den)])) := HQ1.out.at_ HP2.out
      have hbl := rowed3_below (HO1.out.alloc (.cells #[.bool (isNeg r), .slice A1 (D (nu r)).length c1, .slice B1 (D r.den).length d1] 31)) (by simp; omega) hgrow
      have HS2 := Lib.hid ((HS1.out.alloc (.cells #[.bool (isNeg r), .slice A1 (D (nu r)).length c1, .slice B1 (D r.den).length d1] 31)).keep (hbl.block g hglt))
      have HG2 : Hid (w.grownBy w2 (some g)) := Lib.hid ⟨hbl.os.trans (hlit.os.trans HG1.out.os), hbl.tape.trans (hlit.tape.trans HG1.out.tape), hbl.output.trans (hlit.output.trans HG1.out.output), Nat.le_trans HG1.out.size (Nat.le_trans hlit.size hbl.size), fun i hi hne => ((hbl.block i hi).trans (hlit.block i (by omega))).trans (HG1.out.block i hi hne)⟩
      clear hown hgrow hat hlt2 hlit hbl HP1 HQ1 HO1 HS1 HG1
      go_wp2
      go_roundw
      case rel => exact ⟨k + 1, _, _, _, qs ++ [r], a1, s1, by omega, by go_num, rfl, HV1, HTN1, HO2, HP2, HQ2, HS2, HG2, by omega, by omega, y3, y4⟩
      case measure => simp [intOf]; omega
    · obtain rfl : k = N := by omega
      have HF : Hid (RdS wr (fun _ => True) V k cv (qs.map rat3) ∧ qs.length = k) := by
        have := HP.out.rds HO.out
        rw [HV.out] at this
        exact ⟨this, by have := this.len; rw [List.length_map] at this; exact this⟩
      clear HV HP HO
      go_wp2
      go_ret
      exact ⟨V, cv, qs, a, s, rfl, HF.out.1, HF.out.2, HTN.out, HSr.out, x1, x2, x3, x4, HG.out⟩

set_option maxHeartbeats 400000 in
theorem vecDrawn_any (A : Option Addr) (n c N : Nat) (w : World) (hR : RdB w (· < w.heap.size) A n) (hn : n ≤ 1099511627776) (hN : N ≤ 100) :
    Calls Tryz.prog 10 #[.slice A n c, .int .i64 (N : Int)] w fun e w' => ∃ (V : Option Addr) (cv : Nat) (qs : List Rat), e = .returned (.slice V N cv) ∧ RdS w' (fun _ => True) V N cv (qs.map rat3) ∧ qs.length = N ∧ Tiny 2 qs ∧ Below w.heap.size w w' := by
  have HR := Lib.hid hR
  clear hR
  go_enter Tryz.func10, Tryz.ntmps10
  go_wp2_with fail
  refine (l00Source_any A n c w hn).mono ?_
  rintro e w1 ⟨s, rfl, hs0, hs1, hS, hb⟩
  have HS := Lib.hid hS
  have HB := Lib.hid hb
  clear hS hb
  go_wp2_with fail
  refine (srcVec_any w.heap.size n c A 0 s w.heap.size N w1 HS.out (HR.out.below HB.out) (Nat.le_refl _) (by omega) (by omega) hs0 hs1 hn hN).mono ?_
  rintro e w2 ⟨V, cv, qs, a', s', rfl, hr, hl, ht, _, _, _, _, _, hg⟩
  have HO := Lib.hid hr
  have HT := Lib.hid ht
  have HB2 := Lib.hid (HB.out.trans (grown_below hg HB.out.size (Nat.le_refl _)))
  clear hr ht hg
  go_wp2
  go_ret
  exact ⟨V, cv, qs, rfl, HO.out, hl, HT.out, HB2.out⟩

set_option maxHeartbeats 1600000 in
theorem sameVec_any (ps : List Rat) (X Y : Option Addr) (n c d : Nat) (P P' : Nat → Prop) (w : World) (hx : RdS w P X n c (ps.map rat3)) (hy : RdS w P' Y n d (ps.map rat3)) (hp : Fine ps) (hn : n ≤ 100) :
    Calls Tryz.prog 17 #[.slice X n c, .slice Y n d] w fun e w' => e = .returned (.bool true) ∧ Below w.heap.size w w' := by
  have HX := Lib.hid hx.low
  have HY := Lib.hid hy.low
  have HF := Lib.hid hp
  have HL : Hid (ps.length = n) := by have := hx.len; rw [List.length_map] at this; exact this
  have hne : ((n : Int) != (n : Int)) = false := by simp
  clear hx hy hp
  go_enter Tryz.func17, Tryz.ntmps17
  go_wp2
  go_loopw [5] (fun i wr => ∃ k : Nat, k ≤ n ∧ i = .int .i64 k ∧ Hid (Below w.heap.size w wr)) (fun i _ => n - (intOf i).toNat)
  case atStart => exact ⟨0, Nat.zero_le _, rfl, Lib.hid (Below.refl _ _)⟩
  case round =>
    obtain ⟨k, hk, rfl, HB⟩ := hrel
    by_cases hlt : k < n
    · obtain ⟨b, o, rfl, hP, _, hc⟩ := HX.out.at_ (by omega)
      obtain ⟨b', o', rfl, hP', _, hc'⟩ := HY.out.at_ (by omega)
      obtain ⟨Ai, da, Bi, db, q0, q1, q2, hrd⟩ := hc k hlt
      obtain ⟨Ai', da', Bi', db', q0', q1', q2', hrd'⟩ := hc' k hlt
      have hkq : k < ps.length := by rw [HL.out]; exact hlt
      rw [getD_rat ps k hkq] at q0 q1 q2 hrd q0' q1' q2' hrd'
      have hfin := HF.out.at_ k hkq
      have l1 := (D_len_le (nu (ps.getD k 0)) 40).2 hfin.1
      have l2 := (D_len_le (ps.getD k 0).den 40).2 hfin.2
      have HX0 : Hid (C3 wr b (o + k * 3) (isNeg (ps.getD k 0)) Ai (D (nu (ps.getD k 0))).length da Bi (D (ps.getD k 0).den).length db) := C3.below (w := w) ⟨q0, q1, q2⟩ hP HB.out
      have HY0 : Hid (C3 wr b' (o' + k * 3) (isNeg (ps.getD k 0)) Ai' (D (nu (ps.getD k 0))).length da' Bi' (D (ps.getD k 0).den).length db') := C3.below (w := w) ⟨q0', q1', q2'⟩ hP' HB.out
      have HRD := Lib.hid (RdR.below hrd HB.out)
      have HRD' := Lib.hid (RdR.below hrd' HB.out)
      have hbl : b < wr.heap.size := Nat.lt_of_lt_of_le hP HB.out.size
      have hbl' : b' < wr.heap.size := Nat.lt_of_lt_of_le hP' HB.out.size
      have hkn : (k : Int) < n := by omega
      clear q0 q1 q2 hc hrd q0' q1' q2' hc' hrd' hkq hfin
      generalize ps.getD k 0 = p at *
      have HSM := Lib.hid (fun (W : World) (h : RdR W (· < w.heap.size) (D (nu p)) (D p.den) Ai da Bi db) (h' : RdR W (· < w.heap.size) (D (nu p)) (D p.den) Ai' da' Bi' db') => sameRat_any p p Ai Bi Ai' Bi' da db da' db' _ _ W h h' (by omega) (by omega) (by omega) (by omega))
      have hdt : decide (p = p) = true := decide_eq_true rfl
      rw [hdt] at HSM
      clear hdt
      go_wp2_with fail
      go_region_held3 (fun wx => (wx.cell? ⟨b, o + k * 3, none⟩ = some (.bool (isNeg p)) ∧ wx.cell? ⟨b, o + k * 3 + 1, none⟩ = some (.slice Ai (D (nu p)).length da) ∧ wx.cell? ⟨b, o + k * 3 + 2, none⟩ = some (.slice Bi (D p.den).length db)) ∧ (wx.cell? ⟨b', o' + k * 3, none⟩ = some (.bool (isNeg p)) ∧ wx.cell? ⟨b', o' + k * 3 + 1, none⟩ = some (.slice Ai' (D (nu p)).length da') ∧ wx.cell? ⟨b', o' + k * 3 + 2, none⟩ = some (.slice Bi' (D p.den).length db')))
        (first | exact ⟨HX0.out, HY0.out⟩ | exact ⟨HX1.out, HY1.out⟩)
        (first
          | (go_at_call 16; refine (HSM.out _ (by exact HRD.out) (by exact HRD'.out)).mono ?_; rintro e w1 ⟨rfl, bb⟩; have bb := undrew bb; have HB1 := Lib.hid (below_on HB.out bb); have HX1 := Lib.hid (HX0.out.on hbl bb); have HY1 := Lib.hid (HY0.out.on hbl' bb); clear bb))
      go_wp2
      go_roundw
      case rel => exact ⟨k + 1, by omega, by go_num, HB1⟩
      case measure => simp [intOf]; omega
    · go_wp2
      go_ret
      exact ⟨rfl, HB.out⟩
end Go.Proofs.YtifepoefeamboaaGreatDoor
namespace Nt
open Go Go.RowKit

theorem IsRow.none_ {k : IntKind} {w : World} {a : Option Addr} {len cap : Nat} {zs : List Int} (h : IsRow k w a len cap zs) (ha : a = none) : len = 0 ∧ cap = 0 := by
  rcases h with ⟨_, h1, h2, _⟩ | ⟨x, h1, _⟩
  · exact ⟨h1, h2⟩
  · rw [ha] at h1; cases h1
/-- the byte of a cell -/
def cellByte (w : World) (b o : Nat) (i : Nat) : Int := match w.cell? ⟨b, o + i, none⟩ with
  | some (.int .u8 x) => x
  | _ => 0
def cellBytes (w : World) (b o n : Nat) : List Int := (List.range n).map (cellByte w b o)
theorem cellByte_eq {w : World} {b o i : Nat} {x : Int} (h : w.cell? ⟨b, o + i, none⟩ = some (.int .u8 x)) : cellByte w b o i = x := by unfold cellByte; rw [h]
theorem bytes_oneCell (zs : List Int) : ∀ u ∈ zs.map (Value.int .u8), u.oneCell' = true := ints_oneCell .u8 zs
theorem own_rdb {w : World} {base n c : Nat} {e : TypeId} {A : Option Addr} {xs : List Int} (h : w.ownsRow base e 1 (.slice A n c) n (xs.map (Value.int .u8))) (hx : ∀ x ∈ xs, 0 ≤ x ∧ x < 256) : RdB w (fun _ => True) A n := by
  intro hn
  have hlen : xs.length = n := by have := h.1; simpa using this
  rcases h.2 with ⟨_, h0⟩ | ⟨g, cap, cur, e', hb, hh, _⟩
  · omega
  · injection e' with e1 _ e3
    subst e1 e3
    refine ⟨g, 0, rfl, trivial, ?_, fun i hi => ⟨xs.getD i 0, ?_⟩⟩
    · rcases Nat.lt_or_ge g w.heap.size with hlt | hge
      · exact hlt
      · rw [Array.getElem?_eq_none hge] at hh; cases hh
    · have hm : xs.getD i 0 ∈ xs := by
        have : i < xs.length := by omega
        simp [List.getD, this]
      refine ⟨(hx _ hm).1, (hx _ hm).2, ?_⟩
      rw [h.cellAt _ (by omega)]
      simp [List.getD, hlen, hi]
theorem wpList_append_bytes {P : Program} (w : World) {ops : Array Oper} {rest : List Oper} {o : Oper} {a : Act} {Q : Exit → Act → World → Prop} (hgd : o.guard = none) (s x : Operand) (t : TypeId)
    (ho : o.op = .call { callee := .builtin .append, args := #[s, x], argTypes := #[t, t] })
    (base : Nat) (e : TypeId) (ht : P.underlying t = some (.slice e)) (hinfo : (P.info? e).map (fun i => (i.zero, i.size, i.bytes)) = some (some (.int .u8 0), 1, 1))
    (V : Option Addr) (n cv : Nat) (xs : List Int) (hs : a.eval s = .slice V n cv) (hown : w.ownsRow base e 1 (.slice V n cv) n (xs.map (Value.int .u8))) (hxs : ∀ x ∈ xs, 0 ≤ x ∧ x < 256)
    (R : Nat → Prop) (A : Option Addr) (m c : Nat) (hx : a.eval x = .slice A m c) (hnil : A = none → m = 0 ∧ c = 0) (hr : RdB w R A m) (hnm : n + m ≤ 268435456) (hbase : base ≤ w.heap.size)
    (h : ∀ V' c' w', RdB w' (fun _ => True) V' (n + m) → w.grownBy w' (Value.slice V n cv).ownBlock → wpList P ops Q rest (a.put o.dst (.slice V' (n + m) c')) w') :
    wpList P ops Q (o :: rest) a w := by
  obtain ⟨i, h1, h2, h3, h4⟩ : ∃ i, P.info? e = some i ∧ i.zero = some (.int .u8 0) ∧ i.size = 1 ∧ i.bytes = 1 := by
    cases hi : P.info? e with
    | none => rw [hi] at hinfo; cases hinfo
    | some i => rw [hi] at hinfo; simp at hinfo; exact ⟨i, rfl, hinfo⟩
  have hfin : ∀ (ys : List Int) v' w', (∀ x ∈ ys, 0 ≤ x ∧ x < 256) → ys.length = m → w'.ownsRow base e 1 v' (n + m) ((xs ++ ys).map (Value.int .u8)) → w.grownBy w' (Value.slice V n cv).ownBlock → wpList P ops Q rest (a.put o.dst v') w' := by
    intro ys v' w' hy hl hw hg
    have hb : ∀ x ∈ xs ++ ys, 0 ≤ x ∧ x < 256 := fun x hx => by
      rcases List.mem_append.1 hx with h | h
      · exact hxs x h
      · exact hy x h
    rcases hw.2 with ⟨rfl, h0⟩ | ⟨g, cap, cur, rfl, _⟩
    · have hw' : w'.ownsRow base e 1 (.slice none (n + m) 0) (n + m) ((xs ++ ys).map (Value.int .u8)) := by rw [h0] at hw ⊢; exact hw
      have := h none 0 w' (own_rdb hw' hb) hg
      rw [h0] at this
      exact this
    · exact h _ _ w' (own_rdb hw hb) hg
  cases A with
  | none =>
    obtain ⟨rfl, rfl⟩ := hnil rfl
    refine wpList_append_own_none hgd s x t ho base e i 1 ht h1 _ n _ hs hown hx ?_
    exact hfin [] _ w (fun x hx => by cases hx) rfl (by simpa using hown) (World.grownBy.refl _ _)
  | some ad =>
    obtain ⟨b, of, spot⟩ := ad
    refine wpList_append_own w hgd s x t ho base e i _ 1 1 ht h1 h2 h3 h4 rfl (by decide) _ n _ hs hown ⟨b, of, spot⟩ m c ((cellBytes w b of m).map (Value.int .u8)) hx (by simp [cellBytes]) ?_ (bytes_oneCell _) (by unfold maxLen; omega) (by omega) hbase ?_
    · intro j u hj
      rw [List.getElem?_map] at hj
      have hlt : j < m := by
        rcases Nat.lt_or_ge j m with h | h
        · exact h
        · rw [List.getElem?_eq_none (by simp [cellBytes]; exact h)] at hj; cases hj
      obtain ⟨b', o', e', _, _, hc⟩ := hr (by omega)
      injection e' with e'
      injection e' with e1 e2 e3
      subst e1 e2 e3
      obtain ⟨y, _, _, hy⟩ := hc j hlt
      have hu : u = .int .u8 y := by
        have : (cellBytes w b of m)[j]? = some y := by simp [cellBytes, hlt, cellByte_eq hy]
        rw [this] at hj
        simpa using hj.symm
      rw [hu, ← hy]
      unfold Addr.add
      by_cases hj0 : j = 0 <;> simp [hj0]
    · intro v' w' h5 h6 _
      rw [← List.map_append] at h5
      refine hfin _ v' w' ?_ (by simp [cellBytes]) h5 h6
      intro z hz
      obtain ⟨j, hj, rfl⟩ := List.mem_map.1 hz
      have hlt : j < m := List.mem_range.1 hj
      obtain ⟨b', o', e', _, _, hc⟩ := hr (by omega)
      injection e' with e'
      injection e' with e1 e2 e3
      subst e1 e2 e3
      obtain ⟨y, hy0, hy1, hy⟩ := hc j hlt
      rw [cellByte_eq hy]
      exact ⟨hy0, hy1⟩
end Nt
namespace Go.Proofs.YtifepoefeamboaaGreatDoor
open Go Go.RowKit Nt
theorem infoByte : (Tryz.prog.info? 5).map (fun i => (i.zero, i.size, i.bytes)) = some (some (.int .u8 0), 1, 1) := by kernel_rfl
end Go.Proofs.YtifepoefeamboaaGreatDoor
