/-
  What the laws do with lists of rationals: their size, copies, comparisons; and which of them are right.
-/
import Derived.Test.YtcepjcnpokpdcaaGreatDoorRatRow
import Derived.Test.YtcepjcnpokpdcaaGreatDoorGrpC
import Derived.Deep.RegionHeld3
namespace Nt
open Go Go.RowKit
/-- block g has m cells, none frozen -/
def Blk (w : World) (g : Nat) (t : TypeId) (m : Nat) : Prop := ∃ cs : Array Value, cs.size = m ∧ w.heap[g]? = some (.cells cs t (0, 0))
theorem Blk.lt {w : World} {g m : Nat} {t : TypeId} (h : Blk w g t m) : g < w.heap.size := by
  obtain ⟨cs, _, h⟩ := h
  rcases Nat.lt_or_ge g w.heap.size with hlt | hge
  · exact hlt
  · rw [Array.getElem?_eq_none hge] at h; cases h
theorem Blk.cell {w : World} {g m : Nat} {t : TypeId} (h : Blk w g t m) (i : Nat) (hi : i < m) : ∃ v, w.cell? ⟨g, i, none⟩ = some v := by
  obtain ⟨cs, hc, h⟩ := h
  exact ⟨cs[i], by rw [cell_of_row w g i _ t (0, 0) h]; simp⟩
theorem Blk.fz {w : World} {g m : Nat} {t : TypeId} (h : Blk w g t m) (i : Nat) : w.frozen? ⟨g, i, none⟩ = false := by
  obtain ⟨cs, _, h⟩ := h
  exact frozen_of_row w g i _ t h
theorem Blk.on {w w' : World} {g m : Nat} {t : TypeId} (h : Blk w g t m) (hb : Below w.heap.size w w') : Blk w' g t m := by
  have hl := h.lt
  obtain ⟨cs, hc, h⟩ := h
  exact ⟨cs, hc, (hb.block g hl).trans h⟩
/-- three cells of it are set -/
def set3 (w : World) (g k : Nat) (x y z : Value) : World := ((w.setCell ⟨g, k, none⟩ x).setCell ⟨g, k + 1, none⟩ y).setCell ⟨g, k + 2, none⟩ z
theorem set3_grown (w : World) (g k : Nat) (x y z : Value) : w.grownBy (set3 w g k x y z) (some g) := grown_set (grown_set (grown_set (World.grownBy.refl _ _) _) _) _
theorem set3_row {w : World} {g k : Nat} {t : TypeId} {cs : Array Value} (h : w.heap[g]? = some (.cells cs t (0, 0))) (x y z : Value) : (set3 w g k x y z).heap[g]? = some (.cells (((cs.setIfInBounds k x).setIfInBounds (k + 1) y).setIfInBounds (k + 2) z) t (0, 0)) :=
  heap_setCell_same _ g _ _ t z (heap_setCell_same _ g _ _ t y (heap_setCell_same w g k _ t x h))
theorem Blk.set3 {w : World} {g m k : Nat} {t : TypeId} (h : Blk w g t m) (x y z : Value) : Blk (set3 w g k x y z) g t m := by
  obtain ⟨cs, hc, h⟩ := h
  exact ⟨_, by simpa using hc, set3_row h x y z⟩
theorem set3_cell {w : World} {g m k : Nat} {t : TypeId} (h : Blk w g t m) (x y z : Value) (i : Nat) (hi : i < k ∨ k + 2 < i) : (Nt.set3 w g k x y z).cell? ⟨g, i, none⟩ = w.cell? ⟨g, i, none⟩ := by
  obtain ⟨cs, hc, h⟩ := h
  rw [cell_of_row _ g i _ t (0, 0) (set3_row h x y z), cell_of_row w g i _ t (0, 0) h]
  simp [show ¬ k = i by omega, show ¬ k + 1 = i by omega, show ¬ k + 2 = i by omega]
theorem set3_c0 {w : World} {g m k : Nat} {t : TypeId} (h : Blk w g t m) (x y z : Value) (hk : k + 2 < m) : (Nt.set3 w g k x y z).cell? ⟨g, k, none⟩ = some x := by
  obtain ⟨cs, hc, h⟩ := h
  rw [cell_of_row _ g k _ t (0, 0) (set3_row h x y z)]
  simp [hc, show k < m by omega]
theorem set3_c1 {w : World} {g m k : Nat} {t : TypeId} (h : Blk w g t m) (x y z : Value) (hk : k + 2 < m) : (Nt.set3 w g k x y z).cell? ⟨g, k + 1, none⟩ = some y := by
  obtain ⟨cs, hc, h⟩ := h
  rw [cell_of_row _ g _ _ t (0, 0) (set3_row h x y z)]
  simp [hc, show k + 1 < m by omega]
theorem set3_c2 {w : World} {g m k : Nat} {t : TypeId} (h : Blk w g t m) (x y z : Value) (hk : k + 2 < m) : (Nt.set3 w g k x y z).cell? ⟨g, k + 2, none⟩ = some z := by
  obtain ⟨cs, hc, h⟩ := h
  rw [cell_of_row _ g _ _ t (0, 0) (set3_row h x y z)]
  simp [hc, show k + 2 < m by omega]
def okV (rs : List R3) : Bool := decide (1 ≤ rs.length) && decide (rs.length ≤ 4) && rs.all ok3
def codeV (rs : List R3) : Int := if rs.all ok3 then 0 else 1
def Small (rs : List R3) : Prop := ∀ r ∈ rs, r.2.1.length ≤ 1048576 ∧ r.2.2.length ≤ 1048576
theorem Small.at_ {rs : List R3} (h : Small rs) (k : Nat) (hk : k < rs.length) : (rs.getD k r3).2.1.length ≤ 1048576 ∧ (rs.getD k r3).2.2.length ≤ 1048576 := by
  have e : rs.getD k r3 = rs[k] := by simp [List.getD, hk]
  rw [e]
  exact h _ (List.getElem_mem hk)
theorem small_tot : ∀ {rs : List R3}, tot rs ≤ 1048576 → Small rs
  | [], _ => fun r hr => by simp at hr
  | r :: rs, h => by
    have e : tot (r :: rs) = (r.2.1.length + r.2.2.length) + tot rs := by simp [tot]
    intro q hq
    rcases List.mem_cons.1 hq with rfl | hq
    · omega
    · exact small_tot (rs := rs) (by omega) q hq
theorem all_no {rs : List R3} {k : Nat} (hk : k < rs.length) (h : ok3 (rs.getD k r3) = false) : rs.all ok3 = false := by
  rw [Bool.eq_false_iff]
  intro ha
  rw [List.all_eq_true] at ha
  have e : rs.getD k r3 = rs[k] := by simp [List.getD, hk]
  rw [e] at h
  have := ha _ (List.getElem_mem hk)
  rw [h] at this
  cases this
theorem all_yes {rs : List R3} (h : ∀ j, j < rs.length → ok3 (rs.getD j r3) = true) : rs.all ok3 = true := by
  rw [List.all_eq_true]
  intro r hr
  obtain ⟨i, hi, rfl⟩ := List.mem_iff_getElem.1 hr
  have := h i hi
  have e : rs.getD i r3 = rs[i] := by simp [List.getD, hi]
  rwa [e] at this
end Nt
namespace Go.Proofs.YtcepjcnpokpdcaaGreatDoor
open Go Go.RowKit Nt

theorem infoRat : (Tryz.prog.info? 31).map (fun i => (i.zero, i.size, i.bytes)) = some (some (.agg #[.bool false, .slice none 0 0, .slice none 0 0]), 3, 56) := by kernel_rfl
theorem mk_rats (n : Nat) (hn : n ≤ 16777216) (w : World) :
    (Instr.makeSlice 27 (.int .i64 (n : Int)) (.int .i64 (n : Int))).run Tryz.prog w = .ok (.slice (some ⟨w.heap.size, 0, none⟩) n n) (w.alloc (.cells (madeCells #[.bool false, .slice none 0 0, .slice none 0 0] (n * 3)) 31)) := by
  obtain ⟨i, h1, h2, h3, h4⟩ := info_parts infoRat
  have hb : (i.bytes : Int) * (n : Int) ≤ 281474976710656 := by rw [h4]; omega
  have hr := run_make (P := Tryz.prog) w _ _ i _ Tryz.underlying27 h1 h2 .i64 .i64 n n (by omega) (by omega) hb (by omega)
  simp only [Int.toNat_natCast] at hr
  rw [hr, h3]
  rfl

set_option maxHeartbeats 1600000 in
theorem szRatS_any (A : Option Addr) (n c : Nat) (rs : List R3) (left : Int) (w : World) (hr : RdS w (· < w.heap.size) A n c rs) (hsh : Short rs) (hn : n ≤ 9223372036854775807) (h0 : 0 ≤ left) (h1 : left ≤ 1048576) :
    Calls Tryz.prog 21 #[.slice A n c, .int .i64 left] w fun e w' => e = .returned (.int .i64 (szS left rs)) ∧ Below w.heap.size w w' := by
  have HR := Lib.hid hr
  have HS := Lib.hid hsh
  have HL := Lib.hid hr.len
  clear hr hsh
  by_cases hbig : left < n
  · have HZ := Lib.hid (szS_big (left := left) (rs := rs) (by rw [HL.out]; omega))
    have hd : left - (n : Int) < 0 := by omega
    go_enter Tryz.func21, Tryz.ntmps21
    go_wp2
    go_ret
    exact ⟨by rw [HZ.out]; rfl, Below.refl _ _⟩
  have hd : 0 ≤ left - (n : Int) := by omega
  go_enter Tryz.func21, Tryz.ntmps21
  go_wp2
  go_loopw [1, 5] (fun q i wr => ∃ (k : Nat) (L : Int), k ≤ n ∧ i = .int .i64 k ∧ q = .int .i64 L ∧ 0 ≤ L ∧ L ≤ 1048576 ∧ Hid (L = left - n - tot (rs.take k)) ∧ Hid (Below w.heap.size w wr)) (fun _ i _ => n - (intOf i).toNat)
  case atStart => exact ⟨0, left - n, Nat.zero_le _, rfl, rfl, by omega, by omega, Lib.hid (by simp [tot]), Lib.hid (Below.refl _ _)⟩
  case round =>
    obtain ⟨k, L, hk, rfl, rfl, hL0, hL1, HLE, HB⟩ := hrel
    by_cases hlt : k < n
    · obtain ⟨b, o, rfl, hP, _, hc⟩ := HR.out.at_ (by omega)
      obtain ⟨Ai, ca, Bi, cb, q0, q1, q2, _⟩ := hc k hlt
      have c0 := (HB.out.cell (p := ⟨b, o + k * 3, none⟩) hP).trans q0
      have c1 := (HB.out.cell (p := ⟨b, o + k * 3 + 1, none⟩) hP).trans q1
      have c2 := (HB.out.cell (p := ⟨b, o + k * 3 + 2, none⟩) hP).trans q2
      have HT := Lib.hid (tot_snoc rs k (by rw [HL.out]; exact hlt))
      have HTL := Lib.hid (tot_take_le rs (k + 1))
      have hss := HS.out.at_ k (by rw [HL.out]; exact hlt)
      generalize rs.getD k r3 = r at *
      obtain ⟨ng, xs, ys⟩ := r
      dsimp only at *
      clear q0 q1 q2 hc
      by_cases hf : L < xs.length + ys.length
      · have HZ : Hid (szS left rs = -1) := by
          refine szS_big ?_
          have e1 := HT.out
          have e2 := HTL.out
          have e3 := HLE.out
          have e4 := HL.out
          omega
        go_wp2_with fail
        refine (szRat_big ng Ai Bi _ ca _ cb L wr hL0 hL1 hss.1 hss.2 hf).mono ?_
        rintro e w1 ⟨rfl, b1⟩
        have HB1 := Lib.hid (below_on HB.out b1)
        clear b1 c0 c1 c2
        go_wp2
        go_ret
        exact ⟨by rw [HZ.out]; rfl, HB1.out⟩
      · go_wp2_with fail
        refine (szRat_fit ng Ai Bi _ ca _ cb L wr hL0 hL1 (by omega)).mono ?_
        rintro e w1 ⟨rfl, b1⟩
        have HB1 := Lib.hid (below_on HB.out b1)
        have hL2 : 0 ≤ L - (xs.length : Int) - (ys.length : Int) := by omega
        clear b1 c0 c1 c2
        go_wp2
        go_roundw
        case rel => exact ⟨k + 1, _, by omega, by go_num, rfl, hL2, by omega, Lib.hid (by have e1 := HT.out; have e2 := HLE.out; omega), HB1⟩
        case measure => simp [intOf]; omega
    · have HZ : Hid (szS left rs = L) := by
        have e2 := HLE.out
        have e4 := HL.out
        rw [List.take_of_length_le (by omega)] at e2
        show _ = _
        rw [szS_fit (by omega)]
        omega
      clear HLE
      go_wp2
      go_ret
      exact ⟨by rw [HZ.out]; rfl, HB.out⟩

set_option maxHeartbeats 1600000 in
theorem ratCodeS_any (A : Option Addr) (n c : Nat) (rs : List R3) (P : Nat → Prop) (w : World) (hr : RdS w P A n c rs) (hsm : Small rs) (hn : n ≤ 16777216) :
    Calls Tryz.prog 149 #[.slice A n c] w fun e w' => e = .returned (.int .i64 (codeV rs)) ∧ Below w.heap.size w w' := by
  have HR := Lib.hid hr.low
  have HS := Lib.hid hsm
  have HL := Lib.hid hr.len
  clear hr hsm
  go_enter Tryz.func149, Tryz.ntmps149
  go_wp2
  go_loopw [7] (fun i wr => ∃ k : Nat, k ≤ n ∧ i = .int .i64 k ∧ Hid (∀ j, j < k → ok3 (rs.getD j r3) = true) ∧ Hid (Below w.heap.size w wr)) (fun i _ => n - (intOf i).toNat)
  case atStart => exact ⟨0, Nat.zero_le _, rfl, Lib.hid (fun j hj => by omega), Lib.hid (Below.refl _ _)⟩
  case round =>
    obtain ⟨k, hk, rfl, HOK, HB⟩ := hrel
    by_cases hlt : k < n
    · obtain ⟨b, o, rfl, hP, _, hc⟩ := HR.out.at_ (by omega)
      obtain ⟨Ai, ca, Bi, cb, q0, q1, q2, hrd⟩ := hc k hlt
      have c0 := (HB.out.cell (p := ⟨b, o + k * 3, none⟩) hP).trans q0
      have c1 := (HB.out.cell (p := ⟨b, o + k * 3 + 1, none⟩) hP).trans q1
      have c2 := (HB.out.cell (p := ⟨b, o + k * 3 + 2, none⟩) hP).trans q2
      have hkn : (k : Int) < n := by omega
      have hss := HS.out.at_ k (by rw [HL.out]; exact hlt)
      have HNO := Lib.hid (fun h => all_no (rs := rs) (k := k) (by rw [HL.out]; exact hlt) h)
      have HYES : Hid (ok3 (rs.getD k r3) = true → ∀ j, j < k + 1 → ok3 (rs.getD j r3) = true) := fun h j hj => by
        by_cases e : j = k
        · subst e; exact h
        · exact HOK.out j (by omega)
      have HRD := Lib.hid hrd
      generalize rs.getD k r3 = r at *
      obtain ⟨ng, xs, ys⟩ := r
      dsimp only at *
      clear q0 q1 q2 hc hrd
      have hsz := HB.out.size
      go_wp2_with fail
      have hb1 := HB.out.alloc hsz (.cells #[.bool ng, .slice Ai xs.length ca, .slice Bi ys.length cb] 31)
      have hr1 : RdR _ (· < w.heap.size) xs ys Ai ca Bi cb := HRD.out.below hb1
      refine (implRatOK_any ng Ai Bi _ ca _ cb xs ys _ _ _ hr1.1 hr1.2 (by omega) (by omega)).mono ?_
      rintro e w1 ⟨rfl, b1⟩
      have HB1 := Lib.hid (below_on hb1 b1)
      clear hr1 hb1 b1 c0 c1 c2
      by_cases ho : okR ng xs ys = true
      · rw [ho]
        have HO := Lib.hid (HYES.out ho)
        clear ho HYES HNO
        go_wp2
        go_roundw
        case rel => exact ⟨k + 1, by omega, by go_num, HO, HB1⟩
        case measure => simp [intOf]; omega
      · have ho' : okR ng xs ys = false := by simpa using ho
        rw [ho']
        have HC : Hid (codeV rs = 1) := by
          show _ = _
          unfold codeV
          rw [HNO.out ho']
          rfl
        clear ho ho' HYES HNO
        go_wp2
        go_ret
        rw [HC.out]
        exact ⟨rfl, HB1.out⟩
    · have HC : Hid (codeV rs = 0) := by
        show _ = _
        unfold codeV
        rw [all_yes (fun j hj => HOK.out j (by have := HL.out; omega))]
        rfl
      clear HOK
      go_wp2
      go_ret
      rw [HC.out]
      exact ⟨rfl, HB.out⟩

set_option maxHeartbeats 1600000 in
theorem toRatS_any (A : Option Addr) (n c : Nat) (rs : List R3) (w : World) (hr : RdS w (· < w.heap.size) A n c rs) (hsm : Small rs) (hn : n ≤ 1048576) :
    Calls Tryz.prog 23 #[.slice A n c] w fun e w' => ∃ B d, e = .returned (.slice B n d) ∧ RdS w' (w.heap.size ≤ ·) B n d rs ∧ Below w.heap.size w w' := by
  have hmk := mk_rats n (by omega)
  have HR := Lib.hid hr
  have HS := Lib.hid hsm
  have HL := Lib.hid hr.len
  clear hr hsm
  go_enter Tryz.func23, Tryz.ntmps23
  go_wp2
  go_loopw [4] (fun i wr => ∃ k : Nat, k ≤ n ∧ i = .int .i64 k ∧ Hid (Blk wr w.heap.size 31 (n * 3)) ∧ Hid (∀ j, j < k → El wr (w.heap.size < ·) w.heap.size (j * 3) (rs.getD j r3)) ∧ Hid (Below w.heap.size w wr)) (fun i _ => n - (intOf i).toNat)
  case atStart => exact ⟨0, Nat.zero_le _, rfl, Lib.hid ⟨_, size_madeCells _ _, heap_alloc_new w _⟩, Lib.hid (fun j hj => by omega), Lib.hid ((Below.refl _ _).alloc (Nat.le_refl _) _)⟩
  case round =>
    obtain ⟨k, hk, rfl, HK, HE, HB⟩ := hrel
    by_cases hlt : k < n
    · obtain ⟨b, o, rfl, hP, _, hc⟩ := HR.out.at_ (by omega)
      obtain ⟨Ai, ca, Bi, cb, q0, q1, q2, hrd⟩ := hc k hlt
      have c0 := (HB.out.cell (p := ⟨b, o + k * 3, none⟩) hP).trans q0
      have c1 := (HB.out.cell (p := ⟨b, o + k * 3 + 1, none⟩) hP).trans q1
      have c2 := (HB.out.cell (p := ⟨b, o + k * 3 + 2, none⟩) hP).trans q2
      have hss := HS.out.at_ k (by rw [HL.out]; exact hlt)
      have HRD := Lib.hid hrd
      have HNEW : Hid (∀ (W : World), El W (w.heap.size < ·) w.heap.size (k * 3) (rs.getD k r3) → (∀ j, j < k → El W (w.heap.size < ·) w.heap.size (j * 3) (rs.getD j r3)) → ∀ j, j < k + 1 → El W (w.heap.size < ·) w.heap.size (j * 3) (rs.getD j r3)) := fun W h1 h2 j hj => by
        by_cases e : j = k
        · subst e; exact h1
        · exact h2 j (by omega)
      generalize rs.getD k r3 = r at *
      obtain ⟨ng, xs, ys⟩ := r
      dsimp only at *
      clear q0 q1 q2 hc hrd
      have hsz := HB.out.size
      have hg := HK.out.lt
      go_wp2_with fail
      refine (toRat_any ng Ai Bi _ ca _ cb xs ys wr ((HRD.out.below HB.out).mono (Q := (· < wr.heap.size)) fun _ _ h => h).1 ((HRD.out.below HB.out).mono (Q := (· < wr.heap.size)) fun _ _ h => h).2 (by omega) (by omega)).mono ?_
      rintro e w1 ⟨A1, c1', B1, d1, rfl, o1, b1⟩
      have HB1 := Lib.hid (below_on HB.out b1)
      have HK1 := Lib.hid (HK.out.on b1)
      have HE1 : Hid (∀ j, j < k → El w1 (w.heap.size < ·) w.heap.size (j * 3) (rs.getD j r3)) := fun j hj => (HE.out j hj).keep b1.size (fun b _ hl => b1.block b hl) (b1.block _ hg)
      have HO1 : Hid (RdR w1 (w.heap.size < ·) xs ys A1 c1' B1 d1) := o1.rd.mono fun b h _ => Nat.lt_of_lt_of_le hg h
      clear o1 b1 c0 c1 c2 HE HK HRD
      obtain ⟨u0, g0⟩ := HK1.out.cell (k * 3) (by omega)
      obtain ⟨u1, g1⟩ := HK1.out.cell (k * 3 + 1) (by omega)
      obtain ⟨u2, g2⟩ := HK1.out.cell (k * 3 + 2) (by omega)
      have f0 := HK1.out.fz (k * 3)
      have f1 := HK1.out.fz (k * 3 + 1)
      have f2 := HK1.out.fz (k * 3 + 2)
      have HW := Lib.hid (set3_grown w1 w.heap.size (k * 3) (.bool ng) (.slice A1 xs.length c1') (.slice B1 ys.length d1))
      have HB2 : Hid (Below w.heap.size w (set3 w1 w.heap.size (k * 3) (.bool ng) (.slice A1 xs.length c1') (.slice B1 ys.length d1))) := below_grow HB1.out (Nat.le_refl _) HW.out
      have HK2 : Hid (Blk (set3 w1 w.heap.size (k * 3) (.bool ng) (.slice A1 xs.length c1') (.slice B1 ys.length d1)) w.heap.size 31 (n * 3)) := HK1.out.set3 _ _ _
      have HE2 : Hid (∀ j, j < k + 1 → El (set3 w1 w.heap.size (k * 3) (.bool ng) (.slice A1 xs.length c1') (.slice B1 ys.length d1)) (w.heap.size < ·) w.heap.size (j * 3) (rs.getD j r3)) := by
        refine HNEW.out _ ⟨A1, c1', B1, d1, set3_c0 HK1.out _ _ _ (by omega), set3_c1 HK1.out _ _ _ (by omega), set3_c2 HK1.out _ _ _ (by omega), HO1.out.keep HW.out.size fun b hb hl => HW.out.block b hl (fun e => by injection e with e; omega)⟩ ?_
        intro j hj
        obtain ⟨X, cx, Y, cy, e0, e1, e2, e3⟩ := HE1.out j hj
        exact ⟨X, cx, Y, cy, (set3_cell HK1.out _ _ _ _ (.inl (by omega))).trans e0, (set3_cell HK1.out _ _ _ _ (.inl (by omega))).trans e1, (set3_cell HK1.out _ _ _ _ (.inl (by omega))).trans e2, e3.keep HW.out.size fun b hb hl => HW.out.block b hl (fun e => by injection e with e; omega)⟩
      clear HNEW HE1 HO1 HB1 HK1 HW
      go_wp2
      go_roundw
      case rel => exact ⟨k + 1, by omega, by go_num, HK2, HE2, HB2⟩
      case measure => simp [intOf]; omega
    · obtain rfl : k = n := by omega
      go_wp2
      go_ret
      refine ⟨_, _, rfl, ⟨HL.out, Nat.le_refl _, (fun h => by cases h), fun hn => ⟨w.heap.size, 0, rfl, Nat.le_refl _, HK.out.lt, fun i hi => ?_⟩⟩, HB.out⟩
      rw [Nat.zero_add]
      exact (HE.out i hi).mono fun b h _ => Nat.le_of_lt h

set_option maxHeartbeats 1600000 in
theorem eqRatS_same (A B : Option Addr) (n c d : Nat) (rs : List R3) (P Q : Nat → Prop) (w : World) (hr : RdS w P A n c rs) (hr' : RdS w Q B n d rs) (hsm : Small rs) (hn : n ≤ 1048576) :
    Calls Tryz.prog 26 #[.slice A n c, .slice B n d] w fun e w' => e = .returned (.bool true) ∧ Below w.heap.size w w' := by
  have HR := Lib.hid hr.low
  have HR' := Lib.hid hr'.low
  have HS := Lib.hid hsm
  have HL := Lib.hid hr.len
  have hne : ((n : Int) != (n : Int)) = false := by simp
  clear hr hr' hsm
  go_enter Tryz.func26, Tryz.ntmps26
  go_wp2
  go_loopw [5] (fun i wr => ∃ k : Nat, k ≤ n ∧ i = .int .i64 k ∧ Hid (Below w.heap.size w wr)) (fun i _ => n - (intOf i).toNat)
  case atStart => exact ⟨0, Nat.zero_le _, rfl, Lib.hid (Below.refl _ _)⟩
  case round =>
    obtain ⟨k, hk, rfl, HB⟩ := hrel
    by_cases hlt : k < n
    · obtain ⟨b, o, rfl, hP, _, hc⟩ := HR.out.at_ (by omega)
      obtain ⟨b', o', rfl, hP', _, hc'⟩ := HR'.out.at_ (by omega)
      obtain ⟨Ai, ca, Bi, cb, q0, q1, q2, hrd⟩ := hc k hlt
      obtain ⟨Ai', ca', Bi', cb', q0', q1', q2', hrd'⟩ := hc' k hlt
      have c0 := (HB.out.cell (p := ⟨b, o + k * 3, none⟩) hP).trans q0
      have c1 := (HB.out.cell (p := ⟨b, o + k * 3 + 1, none⟩) hP).trans q1
      have c2 := (HB.out.cell (p := ⟨b, o + k * 3 + 2, none⟩) hP).trans q2
      have c0' := (HB.out.cell (p := ⟨b', o' + k * 3, none⟩) hP').trans q0'
      have c1' := (HB.out.cell (p := ⟨b', o' + k * 3 + 1, none⟩) hP').trans q1'
      have c2' := (HB.out.cell (p := ⟨b', o' + k * 3 + 2, none⟩) hP').trans q2'
      have hss := HS.out.at_ k (by rw [HL.out]; exact hlt)
      have H1 := Lib.hid (RdR.below hrd HB.out)
      have H2 := Lib.hid (RdR.below hrd' HB.out)
      have hkn : (k : Int) < n := by omega
      generalize rs.getD k r3 = r at *
      obtain ⟨ng, xs, ys⟩ := r
      dsimp only at *
      clear q0 q1 q2 hc hrd q0' q1' q2' hc' hrd'
      go_wp2_with fail
      have HC := Lib.hid (show wr.cell? ⟨b, o + k * 3, none⟩ = some (.bool ng) ∧ wr.cell? ⟨b, o + k * 3 + 1, none⟩ = some (.slice Ai xs.length ca) ∧ wr.cell? ⟨b, o + k * 3 + 2, none⟩ = some (.slice Bi ys.length cb) ∧ wr.cell? ⟨b', o' + k * 3, none⟩ = some (.bool ng) ∧ wr.cell? ⟨b', o' + k * 3 + 1, none⟩ = some (.slice Ai' xs.length ca') ∧ wr.cell? ⟨b', o' + k * 3 + 2, none⟩ = some (.slice Bi' ys.length cb') from ⟨c0, c1, c2, c0', c1', c2'⟩)
      clear c0 c1 c2 c0' c1' c2'
      go_region_held3 (fun wx => wx.cell? ⟨b, o + k * 3, none⟩ = some (.bool ng) ∧ wx.cell? ⟨b, o + k * 3 + 1, none⟩ = some (.slice Ai xs.length ca) ∧ wx.cell? ⟨b, o + k * 3 + 2, none⟩ = some (.slice Bi ys.length cb) ∧ wx.cell? ⟨b', o' + k * 3, none⟩ = some (.bool ng) ∧ wx.cell? ⟨b', o' + k * 3 + 1, none⟩ = some (.slice Ai' xs.length ca') ∧ wx.cell? ⟨b', o' + k * 3 + 2, none⟩ = some (.slice Bi' ys.length cb'))
        (first | exact HC.out | exact HC1.out)
        (first
          | (go_at_call 24; refine (eqRat_same ng Ai Bi Ai' Bi' ca cb ca' cb' xs ys _ _ _ (by exact H1.out) (by exact H2.out) (by omega) (by omega)).mono ?_; rintro e w1 ⟨rfl, bb⟩; have bb := undrew bb; have HB1 := Lib.hid (below_on HB.out bb); have HC1 : Hid (w1.cell? ⟨b, o + k * 3, none⟩ = some (.bool ng) ∧ w1.cell? ⟨b, o + k * 3 + 1, none⟩ = some (.slice Ai xs.length ca) ∧ w1.cell? ⟨b, o + k * 3 + 2, none⟩ = some (.slice Bi ys.length cb) ∧ w1.cell? ⟨b', o' + k * 3, none⟩ = some (.bool ng) ∧ w1.cell? ⟨b', o' + k * 3 + 1, none⟩ = some (.slice Ai' xs.length ca') ∧ w1.cell? ⟨b', o' + k * 3 + 2, none⟩ = some (.slice Bi' ys.length cb')) := by have hs := HB.out.size; exact ⟨(bb.cell (p := ⟨b, o + k * 3, none⟩) (by show b < _; omega)).trans HC.out.1, (bb.cell (p := ⟨b, o + k * 3 + 1, none⟩) (by show b < _; omega)).trans HC.out.2.1, (bb.cell (p := ⟨b, o + k * 3 + 2, none⟩) (by show b < _; omega)).trans HC.out.2.2.1, (bb.cell (p := ⟨b', o' + k * 3, none⟩) (by show b' < _; omega)).trans HC.out.2.2.2.1, (bb.cell (p := ⟨b', o' + k * 3 + 1, none⟩) (by show b' < _; omega)).trans HC.out.2.2.2.2.1, (bb.cell (p := ⟨b', o' + k * 3 + 2, none⟩) (by show b' < _; omega)).trans HC.out.2.2.2.2.2⟩))
      go_wp2
      go_roundw
      case rel => exact ⟨k + 1, by omega, by go_num, HB1⟩
      case measure => simp [intOf]; omega
    · go_wp2
      go_ret
      exact ⟨rfl, HB.out⟩

set_option maxHeartbeats 1600000 in
theorem implVecOK_any (A : Option Addr) (n c : Nat) (rs : List R3) (P : Nat → Prop) (w : World) (hr : RdS w P A n c rs) (hsm : Small rs) (hn : n ≤ 1048576) :
    Calls Tryz.prog 121 #[.slice A n c] w fun e w' => e = .returned (.bool (okV rs)) ∧ Below w.heap.size w w' := by
  have HR := Lib.hid hr
  have HS := Lib.hid hsm
  have hl := hr.len
  clear hr hsm
  by_cases h0 : n = 0
  · have HV : Hid (okV rs = false) := by show _ = _; unfold okV; simp; omega
    have hz : ¬ 0 < n := by omega
    clear hl h0
    go_enter Tryz.func121, Tryz.ntmps121
    go_wp2
    go_ret
    exact ⟨ret_bool HV.out.symm, Below.refl _ _⟩
  by_cases h4 : 4 < n
  · have HV : Hid (okV rs = false) := by show _ = _; unfold okV; simp; omega
    have hz : 0 < n := by omega
    have hz4 : decide ((n : Int) ≤ 4) = false := by simp; omega
    have hz5 : ¬ n ≤ 4 := by omega
    clear hl h0
    go_enter Tryz.func121, Tryz.ntmps121
    go_wp2
    go_ret
    exact ⟨ret_bool HV.out.symm, Below.refl _ _⟩
  have HV : Hid (okV rs = rs.all ok3) := by show _ = _; unfold okV; rw [decide_eq_true (by omega), decide_eq_true (by omega)]; rfl
  have hz : 0 < n := by omega
  have hz4 : decide ((n : Int) ≤ 4) = true := by simp; omega
  have hz5 : n ≤ 4 := by omega
  clear hl h0
  go_enter Tryz.func121, Tryz.ntmps121
  go_wp2_with fail
  refine (ratCodeS_any A n c rs P w HR.out HS.out (by omega)).mono ?_
  rintro e w1 ⟨rfl, b1⟩
  have HB1 := Lib.hid b1
  clear b1
  by_cases ha : rs.all ok3 = true
  · have hcv : codeV rs = 0 := by unfold codeV; rw [if_pos ha]
    rw [hcv]
    have HA := Lib.hid ha
    clear ha hcv
    go_wp2
    go_ret
    exact ⟨ret_bool (by rw [HV.out, HA.out]), HB1.out⟩
  · have hcv : codeV rs = 1 := by unfold codeV; rw [if_neg ha]
    rw [hcv]
    have HA : Hid (rs.all ok3 = false) := (Bool.not_eq_true _).mp ha
    clear ha hcv
    go_wp2
    go_ret
    exact ⟨ret_bool (by rw [HV.out, HA.out]), HB1.out⟩

set_option maxHeartbeats 1600000 in
theorem specVecOK_any (A : Option Addr) (n c : Nat) (rs : List R3) (P : Nat → Prop) (w : World) (hr : RdS w P A n c rs) (hsm : Small rs) (hn : n ≤ 1048576) :
    Calls Tryz.prog 86 #[.slice A n c] w fun e w' => e = .returned (.bool (okV rs)) ∧ Below w.heap.size w w' := by
  have HR := Lib.hid hr.low
  have HS := Lib.hid hsm
  have HL := Lib.hid hr.len
  clear hr hsm
  by_cases h4 : 4096 < n
  · have HV : Hid (okV rs = false) := by show _ = _; have := HL.out; unfold okV; simp; omega
    have hz4 : decide ((4096 : Int) < n) = true := by simp; omega
    go_enter Tryz.func86, Tryz.ntmps86
    go_wp2
    go_ret
    exact ⟨ret_bool HV.out.symm, Below.refl _ _⟩
  have hz4 : decide ((4096 : Int) < n) = false := by simp; omega
  go_enter Tryz.func86, Tryz.ntmps86
  go_wp2
  go_loopw [3] (fun i wr => ∃ k : Nat, k ≤ n ∧ i = .int .i64 k ∧ Hid (∀ j, j < k → ok3 (rs.getD j r3) = true) ∧ Hid (Below w.heap.size w wr)) (fun i _ => n - (intOf i).toNat)
  case atStart => exact ⟨0, Nat.zero_le _, rfl, Lib.hid (fun j hj => by omega), Lib.hid (Below.refl _ _)⟩
  case round =>
    obtain ⟨k, hk, rfl, HOK, HB⟩ := hrel
    by_cases hlt : k < n
    · obtain ⟨b, o, rfl, hP, _, hc⟩ := HR.out.at_ (by omega)
      obtain ⟨Ai, ca, Bi, cb, q0, q1, q2, hrd⟩ := hc k hlt
      have c0 := (HB.out.cell (p := ⟨b, o + k * 3, none⟩) hP).trans q0
      have c1 := (HB.out.cell (p := ⟨b, o + k * 3 + 1, none⟩) hP).trans q1
      have c2 := (HB.out.cell (p := ⟨b, o + k * 3 + 2, none⟩) hP).trans q2
      have hkn : (k : Int) < n := by omega
      have hss := HS.out.at_ k (by rw [HL.out]; exact hlt)
      have HNO := Lib.hid (fun h => all_no (rs := rs) (k := k) (by rw [HL.out]; exact hlt) h)
      have HYES : Hid (ok3 (rs.getD k r3) = true → ∀ j, j < k + 1 → ok3 (rs.getD j r3) = true) := fun h j hj => by
        by_cases e : j = k
        · subst e; exact h
        · exact HOK.out j (by omega)
      have HRD := Lib.hid hrd
      generalize rs.getD k r3 = r at *
      obtain ⟨ng, xs, ys⟩ := r
      dsimp only at *
      clear q0 q1 q2 hc hrd
      go_wp2_with fail
      have hr1 : RdR _ (· < w.heap.size) xs ys Ai ca Bi cb := HRD.out.below HB.out
      refine (specRatOK_any ng Ai Bi _ ca _ cb xs ys _ _ _ hr1.1 hr1.2 (by omega) (by omega)).mono ?_
      rintro e w1 ⟨rfl, b1⟩
      have HB1 := Lib.hid (below_on HB.out b1)
      clear hr1 b1 c0 c1 c2
      by_cases ho : okR ng xs ys = true
      · rw [ho]
        have HO := Lib.hid (HYES.out ho)
        clear ho HYES HNO
        go_wp2
        go_roundw
        case rel => exact ⟨k + 1, by omega, by go_num, HO, HB1⟩
        case measure => simp [intOf]; omega
      · have ho' : okR ng xs ys = false := by simpa using ho
        rw [ho']
        have HC : Hid (okV rs = false) := by
          show _ = _
          unfold okV
          rw [HNO.out ho']
          simp
        clear ho ho' HYES HNO
        go_wp2
        go_ret
        exact ⟨ret_bool HC.out.symm, HB1.out⟩
    · have HV : Hid (okV rs = (decide ((1 : Int) ≤ n) && decide ((n : Int) ≤ 4))) := by
        have e := HL.out
        show _ = _
        unfold okV
        rw [all_yes (fun j hj => HOK.out j (by omega)), e, Bool.and_true]
        congr 1
        · rw [decide_eq_decide]; omega
        · rw [decide_eq_decide]; omega
      clear HOK
      go_wp2_with (go_at_call 129; refine (l01In_any _ _ _ _).mono ?_; rintro e w1 ⟨rfl, rfl⟩)
      go_ret
      exact ⟨ret_bool HV.out.symm, HB.out⟩
end Go.Proofs.YtcepjcnpokpdcaaGreatDoor
