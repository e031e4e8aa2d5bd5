/-
  What the laws do with expressions: their size, copies, comparisons.
-/
import Derived.Test.YtgeijojkfojfbaaNodeOk
import Derived.Deep.RegionHeld3
import Derived.Laws.ResultCell
namespace Nt
open Go Go.RowKit
/-- block g has m cells, none frozen -/
def BlkN (w : World) (g : Nat) (t : TypeId) (m : Nat) : Prop := ∃ cs : Array Value, cs.size = m ∧ w.heap[g]? = some (.cells cs t (0, 0))
theorem BlkN.lt {w : World} {g m : Nat} {t : TypeId} (h : BlkN w g t m) : g < w.heap.size := by
  obtain ⟨cs, _, h⟩ := h
  rcases Nat.lt_or_ge g w.heap.size with hlt | hge
  · exact hlt
  · rw [Array.getElem?_eq_none hge] at h; cases h
theorem BlkN.cell {w : World} {g m : Nat} {t : TypeId} (h : BlkN w g t m) (i : Nat) (hi : i < m) : ∃ v, w.cell? ⟨g, i, none⟩ = some v := by
  obtain ⟨cs, hc, h⟩ := h
  exact ⟨cs[i], by rw [cell_of_row w g i _ t (0, 0) h]; simp⟩
theorem BlkN.fz {w : World} {g m : Nat} {t : TypeId} (h : BlkN w g t m) (i : Nat) : w.frozen? ⟨g, i, none⟩ = false := by
  obtain ⟨cs, _, h⟩ := h
  exact frozen_of_row w g i _ t h
theorem BlkN.on {w w' : World} {g m : Nat} {t : TypeId} (h : BlkN w g t m) (hb : Below w.heap.size w w') : BlkN w' g t m := by
  have hl := h.lt
  obtain ⟨cs, hc, h⟩ := h
  exact ⟨cs, hc, (hb.block g hl).trans h⟩
/-- four cells of it are set -/
def set4 (w : World) (g k : Nat) (x : Nd) : World := (((w.setCell ⟨g, k, none⟩ (.int .i64 x.1)).setCell ⟨g, k + 1, none⟩ (.int .i64 x.2.1)).setCell ⟨g, k + 2, none⟩ (.int .i64 x.2.2.1)).setCell ⟨g, k + 3, none⟩ (.int .i64 x.2.2.2)
theorem set4_grown (w : World) (g k : Nat) (x : Nd) : w.grownBy (set4 w g k x) (some g) := grown_set (grown_set (grown_set (grown_set (World.grownBy.refl _ _) _) _) _) _
theorem set4_row {w : World} {g k : Nat} {t : TypeId} {cs : Array Value} (h : w.heap[g]? = some (.cells cs t (0, 0))) (x : Nd) : (set4 w g k x).heap[g]? = some (.cells ((((cs.setIfInBounds k (.int .i64 x.1)).setIfInBounds (k + 1) (.int .i64 x.2.1)).setIfInBounds (k + 2) (.int .i64 x.2.2.1)).setIfInBounds (k + 3) (.int .i64 x.2.2.2)) t (0, 0)) :=
  heap_setCell_same _ g _ _ t _ (heap_setCell_same _ g _ _ t _ (heap_setCell_same _ g _ _ t _ (heap_setCell_same w g k _ t _ h)))
theorem BlkN.set4 {w : World} {g m k : Nat} {t : TypeId} (h : BlkN w g t m) (x : Nd) : BlkN (set4 w g k x) g t m := by
  obtain ⟨cs, hc, h⟩ := h
  exact ⟨_, by simpa using hc, set4_row h x⟩
theorem set4_cell {w : World} {g m k : Nat} {t : TypeId} (h : BlkN w g t m) (x : Nd) (i : Nat) (hi : i < k ∨ k + 3 < i) : (Nt.set4 w g k x).cell? ⟨g, i, none⟩ = w.cell? ⟨g, i, none⟩ := by
  obtain ⟨cs, hc, h⟩ := h
  rw [cell_of_row _ g i _ t (0, 0) (set4_row h x), cell_of_row w g i _ t (0, 0) h]
  simp [show ¬ k = i by omega, show ¬ k + 1 = i by omega, show ¬ k + 2 = i by omega, show ¬ k + 3 = i by omega]
theorem set4_el {w : World} {g m k : Nat} {t : TypeId} (h : BlkN w g t m) (x : Nd) (hk : k + 3 < m) : ElN (Nt.set4 w g k x) g k x := by
  obtain ⟨cs, hc, h⟩ := h
  refine ⟨?_, ?_, ?_, ?_⟩
  · rw [cell_of_row _ g _ _ t (0, 0) (set4_row h x)]; simp [hc, show k < m by omega]
  · rw [cell_of_row _ g _ _ t (0, 0) (set4_row h x)]; simp [hc, show k + 1 < m by omega]
  · rw [cell_of_row _ g _ _ t (0, 0) (set4_row h x)]; simp [hc, show k + 2 < m by omega]
  · rw [cell_of_row _ g _ _ t (0, 0) (set4_row h x)]; simp [hc, show k + 3 < m by omega]
theorem ElN.set4 {w : World} {g m k j : Nat} {t : TypeId} {y : Nd} (h : ElN w g j y) (hb : BlkN w g t m) (x : Nd) (hj : j + 3 < k) : ElN (Nt.set4 w g k x) g j y :=
  ⟨(set4_cell hb x _ (.inl (by omega))).trans h.1, (set4_cell hb x _ (.inl (by omega))).trans h.2.1, (set4_cell hb x _ (.inl (by omega))).trans h.2.2.1, (set4_cell hb x _ (.inl (by omega))).trans h.2.2.2⟩
def szN (left : Int) (n : Nat) : Int := if left < n then -1 else left - n
/-- a struct with one slice lies in block b -/
def SlAt (w : World) (b : Nat) (t : TypeId) (A : Option Addr) (n c : Nat) : Prop := w.heap[b]? = some (.cells #[.slice A n c] t (0, 0))
theorem SlAt.c0 {w : World} {b : Nat} {t : TypeId} {A : Option Addr} {n c : Nat} (h : SlAt w b t A n c) : w.cell? ⟨b, 0, none⟩ = some (.slice A n c) := by rw [cell_of_row w b 0 _ t (0, 0) h]; rfl
theorem SlAt.lt {w : World} {b : Nat} {t : TypeId} {A : Option Addr} {n c : Nat} (h : SlAt w b t A n c) : b < w.heap.size := by
  rcases Nat.lt_or_ge b w.heap.size with hlt | hge
  · exact hlt
  · unfold SlAt at h; rw [Array.getElem?_eq_none hge] at h; cases h
theorem SlAt.fz {w : World} {b : Nat} {t : TypeId} {A : Option Addr} {n c : Nat} (h : SlAt w b t A n c) : w.frozen? ⟨b, 0, none⟩ = false := frozen_of_row w b 0 _ t h
theorem SlAt.on {w w' : World} {b : Nat} {t : TypeId} {A : Option Addr} {n c : Nat} (h : SlAt w b t A n c) (hb : Below w.heap.size w w') : SlAt w' b t A n c := (hb.block b h.lt).trans h
theorem SlAt.new (w : World) (t : TypeId) (A : Option Addr) (n c : Nat) : SlAt (w.alloc (.cells #[.slice A n c] t)) w.heap.size t A n c := heap_alloc_new w _
end Nt
namespace Go.Proofs.Ytgeijojkfojfbaa
open Go Go.RowKit Nt

theorem szNodeS_any (A : Option Addr) (n c : Nat) (left : Int) (w : World) (hn : n ≤ 9223372036854775807) (h0 : 0 ≤ left) (h1 : left ≤ 1048576) :
    Calls Try.prog 58 #[.slice A n c, .int .i64 left] w fun e w' => e = .returned (.int .i64 (szN left n)) ∧ w = w' := by
  by_cases hb : left < n
  · have HV : Hid (szN left n = -1) := by show _ = _; unfold szN; rw [if_pos hb]
    have hd : left - (n : Int) < 0 := by omega
    go_enter Try.func58, Try.ntmps58
    go_wp2
    go_ret
    exact ⟨ret_int HV.out.symm, rfl⟩
  · have HV : Hid (szN left n = left - n) := by show _ = _; unfold szN; rw [if_neg hb]
    have hd : 0 ≤ left - (n : Int) := by omega
    go_enter Try.func58, Try.ntmps58
    go_wp2
    go_ret
    exact ⟨ret_int HV.out.symm, rfl⟩
theorem szExpr_any (A : Option Addr) (n c : Nat) (left : Int) (w : World) (hn : n ≤ 9223372036854775807) (h0 : 0 ≤ left) (h1 : left ≤ 1048576) :
    Calls Try.prog 13 #[.agg #[.slice A n c], .int .i64 left] w fun e w' => e = .returned (.int .i64 (szN left n)) ∧ Below w.heap.size w w' := by
  have HB1 := Lib.hid (below_one w (.cells #[.slice A n c] 24))
  by_cases hb : left < n
  · have HV : Hid (szN left n = -1) := by show _ = _; unfold szN; rw [if_pos hb]
    go_enter Try.func13, Try.ntmps13
    go_wp2_with fail
    refine (szNodeS_any A n c left _ hn h0 h1).mono ?_
    rintro e v1 ⟨rfl, rfl⟩
    rw [HV.out]
    go_wp2
    go_ret
    exact ⟨ret_int HV.out.symm, HB1.out⟩
  · have HV : Hid (szN left n = left - n) := by show _ = _; unfold szN; rw [if_neg hb]
    have hd : 0 ≤ left - (n : Int) := by omega
    go_enter Try.func13, Try.ntmps13
    go_wp2_with fail
    refine (szNodeS_any A n c left _ hn h0 h1).mono ?_
    rintro e v1 ⟨rfl, rfl⟩
    rw [HV.out]
    go_wp2
    go_ret
    exact ⟨ret_int HV.out.symm, HB1.out⟩

theorem infoNode : (Try.prog.info? 39).map (fun i => (i.zero, i.size, i.bytes)) = some (some (.agg #[.int .i64 0, .int .i64 0, .int .i64 0, .int .i64 0]), 4, 32) := by kernel_rfl
theorem mk_nodes (n : Nat) (hn : n ≤ 16777216) (w : World) :
    (Instr.makeSlice 27 (.int .i64 (n : Int)) (.int .i64 (n : Int))).run Try.prog w = .ok (.slice (some ⟨w.heap.size, 0, none⟩) n n) (w.alloc (.cells (madeCells #[.int .i64 0, .int .i64 0, .int .i64 0, .int .i64 0] (n * 4)) 39)) := by
  obtain ⟨i, h1, h2, h3, h4⟩ := info_parts infoNode
  have hb : (i.bytes : Int) * (n : Int) ≤ 281474976710656 := by rw [h4]; omega
  have hr := run_make (P := Try.prog) w _ _ i _ Try.underlying27 h1 h2 .i64 .i64 n n (by omega) (by omega) hb (by omega)
  simp only [Int.toNat_natCast] at hr
  rw [hr, h3]
  rfl
theorem retNode {fn : Func} {p : Tmp} {op a b n : Int} (h : fn.results = #[.cell p 39]) (tmps : Array Value) (w : World) (g : Nat) (hp : tmps.getD p undef = .pointer (some ⟨g, 0, none⟩)) (hr : NodeAt w g 39 op a b n) :
    (results fn tmps).run Try.prog w = .ok (.agg #[.int .i64 op, .int .i64 a, .int .i64 b, .int .i64 n]) w := results_cell_row h tmps w g _ _ _ _ hp hr Try.underlying39 rfl (by kernel_rfl)
set_option maxHeartbeats 800000 in
theorem toNode_any (op a b n : Int) (w : World) :
    Calls Try.prog 110 #[.agg #[.int .i64 op, .int .i64 a, .int .i64 b, .int .i64 n]] w fun e w' => e = .returned (.agg #[.int .i64 op, .int .i64 a, .int .i64 b, .int .i64 n]) ∧ Below w.heap.size w w' := by
  go_enter Try.func110, Try.ntmps110
  go_wp2
  refine bodyPost_ret (retNode (op := op) (a := a) (b := b) (n := n) rfl _ _ (w.heap.size + 1) rfl ?_) rfl ⟨rfl, (((Below.refl _ _).alloc (Nat.le_refl _) _).alloc (by simp) _).alloc (by simp; omega) _⟩
  have h1 := NodeAt.new (w.alloc (.cells #[.int .i64 op, .int .i64 a, .int .i64 b, .int .i64 n] 117)) 39 op a b n
  rw [World.size_alloc] at h1
  exact h1.on (below_one _ _)

set_option maxHeartbeats 1600000 in
theorem toNodeS_any (A : Option Addr) (n c : Nat) (ns : List Nd) (w : World) (hr : RdN w (· < w.heap.size) A n c ns) (hn : n ≤ 1048576) :
    Calls Try.prog 64 #[.slice A n c] w fun e w' => ∃ B d, e = .returned (.slice B n d) ∧ RdN w' (w.heap.size ≤ ·) B n d ns ∧ Below w.heap.size w w' := by
  have hmk := mk_nodes n (by omega)
  have HR := Lib.hid hr
  have HL := Lib.hid hr.len
  clear hr
  go_enter Try.func64, Try.ntmps64
  go_wp2
  go_loopw [4] (fun i wr => ∃ k : Nat, k ≤ n ∧ i = .int .i64 k ∧ Hid (BlkN wr w.heap.size 39 (n * 4)) ∧ Hid (∀ j, j < k → ElN wr w.heap.size (j * 4) (ns.getD j nd0)) ∧ Hid (Below w.heap.size w wr)) (fun i _ => n - (intOf i).toNat)
  case atStart => exact ⟨0, Nat.zero_le _, rfl, Lib.hid ⟨_, size_madeCells _ _, heap_alloc_new w _⟩, Lib.hid (fun j hj => by omega), Lib.hid ((Below.refl _ _).alloc (Nat.le_refl _) _)⟩
  case round =>
    obtain ⟨k, hk, rfl, HK, HE, HB⟩ := hrel
    by_cases hlt : k < n
    · obtain ⟨b, o, rfl, hP, _, hc⟩ := HR.out.at_ (by omega)
      obtain ⟨q0, q1, q2, q3⟩ := hc k hlt
      have c0 := (HB.out.cell (p := ⟨b, o + k * 4, none⟩) hP).trans q0
      have c1 := (HB.out.cell (p := ⟨b, o + k * 4 + 1, none⟩) hP).trans q1
      have c2 := (HB.out.cell (p := ⟨b, o + k * 4 + 2, none⟩) hP).trans q2
      have c3 := (HB.out.cell (p := ⟨b, o + k * 4 + 3, none⟩) hP).trans q3
      have HNEW : Hid (∀ (W : World), ElN W w.heap.size (k * 4) (ns.getD k nd0) → (∀ j, j < k → ElN W w.heap.size (j * 4) (ns.getD j nd0)) → ∀ j, j < k + 1 → ElN W w.heap.size (j * 4) (ns.getD j nd0)) := fun W h1 h2 j hj => by
        by_cases e : j = k
        · subst e; exact h1
        · exact h2 j (by omega)
      generalize ns.getD k nd0 = r at *
      obtain ⟨op, x, y, z⟩ := r
      dsimp only at *
      clear q0 q1 q2 q3 hc
      have hsz := HB.out.size
      have hg := HK.out.lt
      go_wp2_with fail
      refine (toNode_any op x y z wr).mono ?_
      rintro e w1 ⟨rfl, b1⟩
      have HB1 := Lib.hid (belowN_on HB.out b1)
      have HK1 := Lib.hid (HK.out.on b1)
      have HE1 : Hid (∀ j, j < k → ElN w1 w.heap.size (j * 4) (ns.getD j nd0)) := fun j hj => (HE.out j hj).keep (b1.block _ hg)
      clear b1 c0 c1 c2 c3 HE HK
      obtain ⟨u0, g0⟩ := HK1.out.cell (k * 4) (by omega)
      obtain ⟨u1, g1⟩ := HK1.out.cell (k * 4 + 1) (by omega)
      obtain ⟨u2, g2⟩ := HK1.out.cell (k * 4 + 2) (by omega)
      obtain ⟨u3, g3⟩ := HK1.out.cell (k * 4 + 3) (by omega)
      have f0 := HK1.out.fz (k * 4)
      have f1 := HK1.out.fz (k * 4 + 1)
      have f2 := HK1.out.fz (k * 4 + 2)
      have f3 := HK1.out.fz (k * 4 + 3)
      have HW := Lib.hid (set4_grown w1 w.heap.size (k * 4) (op, x, y, z))
      have HB2 : Hid (Below w.heap.size w (set4 w1 w.heap.size (k * 4) (op, x, y, z))) := belowN_grow HB1.out (Nat.le_refl _) HW.out
      have HK2 : Hid (BlkN (set4 w1 w.heap.size (k * 4) (op, x, y, z)) w.heap.size 39 (n * 4)) := HK1.out.set4 _
      have HE2 : Hid (∀ j, j < k + 1 → ElN (set4 w1 w.heap.size (k * 4) (op, x, y, z)) w.heap.size (j * 4) (ns.getD j nd0)) := HNEW.out _ (set4_el HK1.out _ (by omega)) fun j hj => (HE1.out j hj).set4 HK1.out _ (by omega)
      clear HNEW HE1 HB1 HK1 HW
      go_wp2
      go_roundw
      case rel => exact ⟨k + 1, by omega, by go_num, HK2, HE2, HB2⟩
      case measure => simp [intOf]; omega
    · obtain rfl : k = n := by omega
      go_wp2
      go_ret
      refine ⟨_, _, rfl, ⟨HL.out, Nat.le_refl _, (fun h => by cases h), fun hn => ⟨w.heap.size, 0, rfl, Nat.le_refl _, HK.out.lt, fun i hi => ?_⟩⟩, HB.out⟩
      rw [Nat.zero_add]
      exact HE.out i hi
theorem retExpr {fn : Func} {p : Tmp} {A : Option Addr} {n c : Nat} (h : fn.results = #[.cell p 29]) (tmps : Array Value) (w : World) (g : Nat) (hp : tmps.getD p undef = .pointer (some ⟨g, 0, none⟩)) (hr : SlAt w g 29 A n c) :
    (results fn tmps).run Try.prog w = .ok (.agg #[.slice A n c]) w := results_cell_row h tmps w g _ _ _ _ hp hr Try.underlying29 rfl (by kernel_rfl)

set_option maxHeartbeats 800000 in
theorem eqNode_same (op a b n : Int) (w : World) :
    Calls Try.prog 116 #[.agg #[.int .i64 op, .int .i64 a, .int .i64 b, .int .i64 n], .agg #[.int .i64 op, .int .i64 a, .int .i64 b, .int .i64 n]] w fun e w' => e = .returned (.bool true) ∧ Below w.heap.size w w' := by
  have HB1 := Lib.hid (((Below.refl w.heap.size w).alloc (Nat.le_refl _) (.cells #[.int .i64 op, .int .i64 a, .int .i64 b, .int .i64 n] 39)).alloc (by simp) (.cells #[.int .i64 op, .int .i64 a, .int .i64 b, .int .i64 n] 39))
  have e0 : (op != op) = false := by simp
  have e1 : (a != a) = false := by simp
  have e2 : (b != b) = false := by simp
  have e3 : (n != n) = false := by simp
  go_enter Try.func116, Try.ntmps116
  go_wp2
  go_ret
  exact ⟨rfl, HB1.out⟩

set_option maxHeartbeats 1600000 in
theorem eqNodeS_same (A B : Option Addr) (n c d : Nat) (ns : List Nd) (P Q : Nat → Prop) (w : World) (hr : RdN w P A n c ns) (hr' : RdN w Q B n d ns) (hn : n ≤ 1048576) :
    Calls Try.prog 69 #[.slice A n c, .slice B n d] w fun e w' => e = .returned (.bool true) ∧ Below w.heap.size w w' := by
  have HR := Lib.hid hr.low
  have HR' := Lib.hid hr'.low
  have hne : ((n : Int) != (n : Int)) = false := by simp
  clear hr hr'
  go_enter Try.func69, Try.ntmps69
  go_wp2
  go_loopw [5] (fun i wr => ∃ k : Nat, k ≤ n ∧ i = .int .i64 k ∧ Hid (Below w.heap.size w wr)) (fun i _ => n - (intOf i).toNat)
  case atStart => exact ⟨0, Nat.zero_le _, rfl, Lib.hid (Below.refl _ _)⟩
  case round =>
    obtain ⟨k, hk, rfl, HB⟩ := hrel
    by_cases hlt : k < n
    · obtain ⟨b, o, rfl, hP, _, hc⟩ := HR.out.at_ (by omega)
      obtain ⟨b', o', rfl, hP', _, hc'⟩ := HR'.out.at_ (by omega)
      have e1 := (hc k hlt).keep (HB.out.block b hP)
      have e2 := (hc' k hlt).keep (HB.out.block b' hP')
      have hkn : (k : Int) < n := by omega
      generalize ns.getD k nd0 = r at *
      obtain ⟨op, x, y, z⟩ := r
      have HC := Lib.hid (show ElN wr b (o + k * 4) (op, x, y, z) ∧ ElN wr b' (o' + k * 4) (op, x, y, z) from ⟨e1, e2⟩)
      obtain ⟨c0, c1, c2, c3⟩ := e1
      obtain ⟨d0, d1, d2, d3⟩ := e2
      dsimp only at *
      clear hc hc'
      go_wp2_with fail
      clear c0 c1 c2 c3 d0 d1 d2 d3
      go_region_held3 (fun wx => wx.cell? ⟨b, o + k * 4, none⟩ = some (.int .i64 op) ∧ wx.cell? ⟨b, o + k * 4 + 1, none⟩ = some (.int .i64 x) ∧ wx.cell? ⟨b, o + k * 4 + 2, none⟩ = some (.int .i64 y) ∧ wx.cell? ⟨b, o + k * 4 + 3, none⟩ = some (.int .i64 z) ∧ wx.cell? ⟨b', o' + k * 4, none⟩ = some (.int .i64 op) ∧ wx.cell? ⟨b', o' + k * 4 + 1, none⟩ = some (.int .i64 x) ∧ wx.cell? ⟨b', o' + k * 4 + 2, none⟩ = some (.int .i64 y) ∧ wx.cell? ⟨b', o' + k * 4 + 3, none⟩ = some (.int .i64 z))
        (first | exact ⟨HC.out.1.1, HC.out.1.2.1, HC.out.1.2.2.1, HC.out.1.2.2.2, HC.out.2.1, HC.out.2.2.1, HC.out.2.2.2.1, HC.out.2.2.2.2⟩ | exact ⟨HC1.out.1.1, HC1.out.1.2.1, HC1.out.1.2.2.1, HC1.out.1.2.2.2, HC1.out.2.1, HC1.out.2.2.1, HC1.out.2.2.2.1, HC1.out.2.2.2.2⟩)
        (first
          | (go_at_call 116; refine (eqNode_same op x y z _).mono ?_; rintro e w1 ⟨rfl, bb⟩; have bb := undrewN bb; have HB1 := Lib.hid (belowN_on HB.out bb); have HC1 : Hid (ElN w1 b (o + k * 4) (op, x, y, z) ∧ ElN w1 b' (o' + k * 4) (op, x, y, z)) := by have hs := HB.out.size; exact ⟨HC.out.1.keep (bb.block b (by show b < _; omega)), HC.out.2.keep (bb.block b' (by show b' < _; omega))⟩))
      go_wp2
      go_roundw
      case rel => exact ⟨k + 1, by omega, by go_num, HB1⟩
      case measure => simp [intOf]; omega
    · go_wp2
      go_ret
      exact ⟨rfl, HB.out⟩
end Go.Proofs.Ytgeijojkfojfbaa
