/-
  Lists of tokens: what a row of the claim tells of one; their size, copies and comparisons in the laws.
-/
import Derived.Test.YtliefhkllpmlmabDoorTokTxt
import Derived.Test.YtliefhkllpmlmabDoorTokLaw
import Derived.Test.YtliefhkllpmlmabDoorRatRow
import Derived.Deep.RegionHeld3
namespace Nt
open Go Go.RowKit Go.Deep Go.ChangeShapes Go.WideShapes
def ShortT (ks : List Tk) : Prop := ∀ i, i < ks.length → (ks.getD i tk0).2.2.size ≤ maxLen
theorem list3' {α : Type} {cs : List α} (h : cs.length = 3) : ∃ c0 c1 c2, cs = [c0, c1, c2] := by
  match cs, h with
  | [c0, c1, c2], _ => exact ⟨c0, c1, c2, rfl⟩
theorem addT_none (b o j : Nat) : (⟨b, o, none⟩ : Addr).add j = ⟨b, o + j, none⟩ := by unfold Addr.add; by_cases h : j = 0 <;> simp [h]
/-- what a row of the claim tells of a slice of tokens that came in -/
theorem open_toks {H : Type} {enc : TypeId × Value → H} {P : Program} {w : World} {base : Nat} {held : Bool} {t e : TypeId} {f0 f1 f2 : Field} {fuel : Nat} {A : Option Addr} {n c : Nat} {x : DataW H × List MemPlace}
    (ht : P.underlying t = some (.slice e)) (he : P.underlying e = some (.struct #[f0, f1, f2])) (hone : oneCellFields P #[f0, f1, f2] = true) (ce : P.cellsOf e = 3)
    (i0 : P.underlying f0.type = some (.int .i64)) (i1 : P.underlying f1.type = some (.int .i64)) (i2 : P.underlying f2.type = some .string)
    (h : DataW.trod enc P w base (fun _ => true) held fuel t [.slice A n c] = some x) :
    ∃ ks, RdT w (· < w.heap.size) A n c ks ∧ ShortT ks ∧ n ≤ 9223372036854775807 := by
  rcases open_slice ht h with ⟨h0, _⟩ | ⟨a, len, cap, m, fu, D, Pl, hcs, hba, hl, hm, hmm, _, hx⟩
  · simp at h0
    obtain ⟨rfl, rfl, rfl⟩ := h0
    exact ⟨[], ⟨rfl, Nat.le_refl _, fun _ => rfl, fun h => absurd h (by omega)⟩, fun i hi => by simp at hi, by omega⟩
  simp at hcs
  obtain ⟨rfl, rfl, rfl⟩ := hcs
  have hlm : n ≤ m := by rw [hmm]; simp; omega
  obtain ⟨o0, k0⟩ := hone_of hone 0 f0 rfl
  obtain ⟨o1, k1⟩ := hone_of hone 1 f1 rfl
  obtain ⟨o2, k2⟩ := hone_of hone 2 f2 rfl
  obtain ⟨b, o, spot⟩ := a
  have hsp : 0 < n → spot = none := by
    intro hn0
    obtain ⟨cs', h1, h2⟩ := hx 0 (by omega)
    rw [ce] at h1
    obtain ⟨_, hlen, hcell⟩ := World.cells?_some h1
    obtain ⟨v0, v1, v2, rfl⟩ := list3' hlen
    have q0 := hcell 0 (by omega)
    simpa [Addr.add] using World.cell?_spot q0
  have each : ∀ i, i < n → ∃ r : Tk, spot = none ∧ ElT w b (o + i * 3) r ∧ r.2.2.size ≤ maxLen := by
    intro i hin
    obtain ⟨cs', h1, h2⟩ := hx i (by omega)
    rw [ce] at h1
    obtain ⟨_, hlen, hcell⟩ := World.cells?_some h1
    obtain ⟨y0, y1, y2, fu', _, _, g0, g1, g2⟩ := trod_struct3 he h2
    obtain ⟨v0, v1, v2, rfl⟩ := list3' hlen
    simp [o0, o1, o2, k0, k1, k2] at g0 g1 g2
    obtain ⟨z0, e0, _⟩ := DataW.trod_int i0 g0
    obtain ⟨z1, e1, _⟩ := DataW.trod_int i1 g1
    obtain ⟨z2, e2, _, hz2⟩ := DataW.trod_string i2 g2
    simp at e0 e1 e2
    subst e0 e1 e2
    have q0 := hcell 0 (by omega)
    have q1 := hcell 1 (by omega)
    have q2 := hcell 2 (by omega)
    have hspot : spot = none := hsp (by omega)
    subst hspot
    rw [addT_none, addT_none] at q0 q1 q2
    exact ⟨(z0, z1, z2), rfl, ⟨by simpa using q0, by simpa using q1, by simpa using q2⟩, by first | exact hz2 | exact hz2.1 | exact hz2.2⟩
  obtain ⟨q, hq⟩ := choose_lt each
  refine ⟨(List.range n).map q, ⟨by simp, hl, (fun h => by cases h), fun hn => ?_⟩, fun i hi => ?_, by unfold maxLen at hm; omega⟩
  · obtain ⟨rfl, hE, _⟩ := hq 0 hn
    have hlt := World.block_lt_of_cell? w _ hE.1
    refine ⟨b, o, rfl, hlt, hlt, fun i hi => ?_⟩
    have : ((List.range n).map q).getD i tk0 = q i := by simp [List.getD, hi]
    rw [this]
    exact (hq i hi).2.1
  · have hi' : i < n := by simpa using hi
    have : ((List.range n).map q).getD i tk0 = q i := by simp [List.getD, hi']
    rw [this]
    exact (hq i hi').2.2
/-- how many letters stand in it -/
def totT (ks : List Tk) : Nat := (ks.map fun x => x.2.2.size).sum
theorem totT_snoc (ks : List Tk) (k : Nat) (h : k < ks.length) : totT (ks.take (k + 1)) = totT (ks.take k) + (ks.getD k tk0).2.2.size := by
  unfold totT
  rw [List.take_succ_eq_append_getElem h, List.map_append, List.sum_append]
  simp [List.getD, h]
theorem totT_le (ks : List Tk) (k : Nat) : totT (ks.take k) ≤ totT ks := by
  have e : totT ks = totT (ks.take k) + totT (ks.drop k) := by
    unfold totT
    rw [← List.sum_append, ← List.map_append, List.take_append_drop]
  omega
theorem smallT_tot {ks : List Tk} (h : totT ks ≤ 1048576) : SmallT ks := by
  intro x hx
  obtain ⟨i, hi, rfl⟩ := List.mem_iff_getElem.1 hx
  have h1 := totT_snoc ks i hi
  have h2 := totT_le ks (i + 1)
  rw [show ks.getD i tk0 = ks[i] by simp [List.getD, hi]] at h1
  omega
def szT (left : Int) (ks : List Tk) : Int := if left < ks.length + totT ks then -1 else left - ks.length - totT ks
theorem szT_big {left : Int} {ks : List Tk} (h : left < ks.length + totT ks) : szT left ks = -1 := by unfold szT; rw [if_pos h]
theorem szT_fit {left : Int} {ks : List Tk} (h : ¬ left < ks.length + totT ks) : szT left ks = left - ks.length - totT ks := by unfold szT; rw [if_neg h]
/-- block g has m cells, none frozen -/
def BlkT (w : World) (g : Nat) (t : TypeId) (m : Nat) : Prop := ∃ cs : Array Value, cs.size = m ∧ w.heap[g]? = some (.cells cs t (0, 0))
theorem BlkT.lt {w : World} {g m : Nat} {t : TypeId} (h : BlkT w g t m) : g < w.heap.size := by
  obtain ⟨cs, _, h⟩ := h
  exact (Array.getElem?_eq_some_iff.1 h).1
theorem BlkT.cell {w : World} {g m : Nat} {t : TypeId} (h : BlkT w g t m) (i : Nat) (hi : i < m) : ∃ v, w.cell? ⟨g, i, none⟩ = some v := by
  obtain ⟨cs, hc, h⟩ := h
  exact ⟨cs[i], by rw [cell_of_row w g i _ t (0, 0) h]; simp⟩
theorem BlkT.fz {w : World} {g m : Nat} {t : TypeId} (h : BlkT w g t m) (i : Nat) : w.frozen? ⟨g, i, none⟩ = false := by
  obtain ⟨cs, _, h⟩ := h
  exact frozen_of_row w g i _ t h
theorem BlkT.on {w w' : World} {g m : Nat} {t : TypeId} (h : BlkT w g t m) (hb : Below w.heap.size w w') : BlkT w' g t m := by
  have hl := h.lt
  obtain ⟨cs, hc, h⟩ := h
  exact ⟨cs, hc, (hb.block g hl).trans h⟩
/-- three cells of it are set -/
def set3 (w : World) (g k : Nat) (x : Tk) : World := ((w.setCell ⟨g, k, none⟩ (.int .i64 x.1)).setCell ⟨g, k + 1, none⟩ (.int .i64 x.2.1)).setCell ⟨g, k + 2, none⟩ (.string x.2.2)
theorem set3_row {w : World} {g k : Nat} {t : TypeId} {cs : Array Value} (h : w.heap[g]? = some (.cells cs t (0, 0))) (x : Tk) : (set3 w g k x).heap[g]? = some (.cells (((cs.setIfInBounds k (.int .i64 x.1)).setIfInBounds (k + 1) (.int .i64 x.2.1)).setIfInBounds (k + 2) (.string x.2.2)) t (0, 0)) :=
  heap_setCell_same _ g _ _ t _ (heap_setCell_same _ g _ _ t _ (heap_setCell_same w g k _ t _ h))
theorem BlkT.set3 {w : World} {g m k : Nat} {t : TypeId} (h : BlkT w g t m) (x : Tk) : BlkT (set3 w g k x) g t m := by
  obtain ⟨cs, hc, h⟩ := h
  exact ⟨_, by simpa using hc, set3_row h x⟩
theorem set3_cell {w : World} {g m k : Nat} {t : TypeId} (h : BlkT w g t m) (x : Tk) (i : Nat) (hi : i < k ∨ k + 2 < i) : (Nt.set3 w g k x).cell? ⟨g, i, none⟩ = w.cell? ⟨g, i, none⟩ := by
  obtain ⟨cs, hc, h⟩ := h
  rw [cell_of_row _ g i _ t (0, 0) (set3_row h x), cell_of_row w g i _ t (0, 0) h]
  simp [show ¬ k = i by omega, show ¬ k + 1 = i by omega, show ¬ k + 2 = i by omega]
theorem set3_el {w : World} {g m k : Nat} {t : TypeId} (h : BlkT w g t m) (x : Tk) (hk : k + 2 < m) : ElT (Nt.set3 w g k x) g k x := by
  obtain ⟨cs, hc, h⟩ := h
  refine ⟨?_, ?_, ?_⟩
  · rw [cell_of_row _ g _ _ t (0, 0) (set3_row h x)]; simp [hc, show k < m by omega]
  · rw [cell_of_row _ g _ _ t (0, 0) (set3_row h x)]; simp [hc, show k + 1 < m by omega]
  · rw [cell_of_row _ g _ _ t (0, 0) (set3_row h x)]; simp [hc, show k + 2 < m by omega]
theorem ElT.set3 {w : World} {g m k j : Nat} {t : TypeId} {y : Tk} (h : ElT w g j y) (hb : BlkT w g t m) (x : Tk) (hj : j + 2 < k) : ElT (Nt.set3 w g k x) g j y :=
  ⟨(set3_cell hb x _ (.inl (by omega))).trans h.1, (set3_cell hb x _ (.inl (by omega))).trans h.2.1, (set3_cell hb x _ (.inl (by omega))).trans h.2.2⟩
theorem set3_below {w0 w : World} {g k : Nat} (x : Tk) (h : Below g w0 w) : Below g w0 (set3 w g k x) :=
  ((h.setCell (p := ⟨g, k, none⟩) (Nat.le_refl _) _).setCell (p := ⟨g, k + 1, none⟩) (Nat.le_refl _) _).setCell (p := ⟨g, k + 2, none⟩) (Nat.le_refl _) _
end Nt
namespace Go.Proofs.YtliefhkllpmlmabDoor
open Go Go.RowKit Nt

set_option maxHeartbeats 1600000 in
theorem szTokenS_any (A : Option Addr) (n c : Nat) (ks : List Tk) (left : Int) (w : World) (hr : RdT w (· < w.heap.size) A n c ks) (hs : ShortT ks) (hn : n ≤ 9223372036854775807) (h0 : 0 ≤ left) (h1 : left ≤ 1048576) :
    Calls Tryd.prog 25 #[.slice A n c, .int .i64 left] w fun e w' => e = .returned (.int .i64 (szT left ks)) ∧ Below w.heap.size w w' := by
  have HL := Lib.hid hr.1
  have HR := Lib.hid hr
  have HS := Lib.hid hs
  clear hr hs
  by_cases hb : left < n
  · have HV : Hid (szT left ks = -1) := szT_big (by rw [HL.out]; omega)
    have hd : left - (n : Int) < 0 := by omega
    go_enter Tryd.func25, Tryd.ntmps25
    go_wp2
    go_ret
    exact ⟨ret_int HV.out.symm, Below.refl _ _⟩
  have hd : 0 ≤ left - (n : Int) := by omega
  have hn' : n ≤ 1048576 := by omega
  go_enter Tryd.func25, Tryd.ntmps25
  go_wp2
  go_loopw [1, 5] (fun l i wr => ∃ k : Nat, k ≤ n ∧ i = .int .i64 k ∧ l = .int .i64 (left - n - totT (ks.take k)) ∧ Hid (0 ≤ left - (n : Int) - totT (ks.take k)) ∧ Hid (Below w.heap.size w wr)) (fun _ i _ => n - (intOf i).toNat)
  case atStart => exact ⟨0, Nat.zero_le _, rfl, by simp [totT], Lib.hid (by simp [totT]; omega), Lib.hid (Below.refl _ _)⟩
  case round =>
    obtain ⟨k, hk, rfl, rfl, HP, HB⟩ := hrel
    by_cases hlt : k < n
    · obtain ⟨b, o, rfl, hP, _, hc⟩ := HR.out.2.2.2 (by omega)
      have e4 := (hc k hlt).keep (HB.out.block b hP)
      have hsn := totT_snoc ks k (by rw [HL.out]; exact hlt)
      have hle := totT_le ks (k + 1)
      have hss := HS.out k (by rw [HL.out]; exact hlt)
      obtain ⟨x, hx⟩ : ∃ x, ks.getD k tk0 = x := ⟨_, rfl⟩
      rw [hx] at e4 hsn hss
      clear hx hc
      obtain ⟨tk, tn, ts⟩ := x
      obtain ⟨q0, q1, q2⟩ := e4
      dsimp only at q0 q1 q2 hsn hss
      have hkn : (k : Int) < n := by omega
      have hp := HP.out
      unfold maxLen at hss
      by_cases hf : left - (n : Int) - totT (ks.take k) < ts.size
      · have HV : Hid (szT left ks = -1) := szT_big (by rw [HL.out]; omega)
        have HSZ : Hid (∀ W : World, Calls Tryd.prog 21 #[.agg #[.int .i64 tk, .int .i64 tn, .string ts], .int .i64 (left - (n : Int) - totT (ks.take k))] W fun e w' => e = .returned (.int .i64 (-1)) ∧ Below W.heap.size W w') := by
          intro W
          generalize left - (n : Int) - totT (ks.take k) = lf at *
          have HB' := Lib.hid (tok_below1 W (.cells #[.int .i64 tk, .int .i64 tn, .string ts] 42))
          have hd' : lf - (ts.size : Int) < 0 := by omega
          clear hsn hle q0 q1 q2
          go_enter Tryd.func21, Tryd.ntmps21
          go_wp2
          go_ret
          exact ⟨rfl, HB'.out⟩
        generalize left - (n : Int) - totT (ks.take k) = lf at *
        clear hsn hle hf
        go_wp2_with fail
        refine (HSZ.out wr).mono ?_
        rintro e w1 ⟨rfl, b1⟩
        have HB1 := Lib.hid (HB.out.trans (b1.mono HB.out.size))
        clear b1 q0 q1 q2
        go_wp2
        go_ret
        exact ⟨ret_int HV.out.symm, HB1.out⟩
      · have HNX : Hid (left - (n : Int) - totT (ks.take k) - ts.size = left - n - totT (ks.take (k + 1))) := by show _ = _; rw [hsn]; omega
        have HPX : Hid (0 ≤ left - (n : Int) - totT (ks.take (k + 1))) := by show _ ≤ _; rw [hsn]; omega
        have HSZ : Hid (∀ W : World, Calls Tryd.prog 21 #[.agg #[.int .i64 tk, .int .i64 tn, .string ts], .int .i64 (left - (n : Int) - totT (ks.take k))] W fun e w' => e = .returned (.int .i64 (left - (n : Int) - totT (ks.take k) - ts.size)) ∧ Below W.heap.size W w') := by
          intro W
          have hl1 : left - (n : Int) - totT (ks.take k) ≤ 1048576 := by omega
          generalize left - (n : Int) - totT (ks.take k) = lf at *
          have HB' := Lib.hid (tok_below1 W (.cells #[.int .i64 tk, .int .i64 tn, .string ts] 42))
          have hd' : 0 ≤ lf - (ts.size : Int) := by omega
          have hts : (ts.size : Int) ≤ 1048576 := by omega
          clear hsn hle q0 q1 q2
          go_enter Tryd.func21, Tryd.ntmps21
          go_wp2
          go_ret
          exact ⟨rfl, HB'.out⟩
        have hq : 0 ≤ left - (n : Int) - totT (ks.take k) - ts.size := by omega
        generalize left - (n : Int) - totT (ks.take k) = lf at *
        clear hsn hle hf
        go_wp2_with fail
        refine (HSZ.out wr).mono ?_
        rintro e w1 ⟨rfl, b1⟩
        have HB1 := Lib.hid (HB.out.trans (b1.mono HB.out.size))
        clear b1 q0 q1 q2
        go_wp2
        go_roundw
        case rel => exact ⟨k + 1, by omega, by go_num, by rw [HNX.out], HPX, HB1⟩
        case measure => simp [intOf]; omega
    · obtain rfl : k = n := by omega
      have ht : ks.take k = ks := List.take_of_length_le (by rw [HL.out]; exact Nat.le_refl _)
      rw [ht] at HP
      have HV : Hid (szT left ks = left - k - totT ks) := by
        have h := HP.out
        show _ = _
        rw [szT_fit (by rw [HL.out]; omega), HL.out]
      rw [ht]
      clear ht HP
      go_wp2
      go_ret
      exact ⟨ret_int HV.out.symm, HB.out⟩

theorem infoTok : (Tryd.prog.info? 45).map (fun i => (i.zero, i.size, i.bytes)) = some (some (.agg #[.int .i64 0, .int .i64 0, .string ⟨#[]⟩]), 3, 32) := by kernel_rfl
theorem mk_toks (n : Nat) (hn : n ≤ 16777216) (w : World) :
    (Instr.makeSlice 51 (.int .i64 (n : Int)) (.int .i64 (n : Int))).run Tryd.prog w = .ok (.slice (some ⟨w.heap.size, 0, none⟩) n n) (w.alloc (.cells (madeCells #[.int .i64 0, .int .i64 0, .string ⟨#[]⟩] (n * 3)) 45)) := by
  obtain ⟨i, h1, h2, h3, h4⟩ := info_parts infoTok
  have hb : (i.bytes : Int) * (n : Int) ≤ 281474976710656 := by rw [h4]; omega
  have hr := run_make (P := Tryd.prog) w _ _ i _ Tryd.underlying51 h1 h2 .i64 .i64 n n (by omega) (by omega) hb (by omega)
  simp only [Int.toNat_natCast] at hr
  rw [hr, h3]
  rfl

set_option maxHeartbeats 1600000 in
theorem toTokenS_any (A : Option Addr) (n c : Nat) (ks : List Tk) (w : World) (hr : RdT w (· < w.heap.size) A n c ks) (hn : n ≤ 1048576) :
    Calls Tryd.prog 27 #[.slice A n c] w fun e w' => ∃ B d, e = .returned (.slice B n d) ∧ RdT w' (w.heap.size ≤ ·) B n d ks ∧ Below w.heap.size w w' := by
  have hmk := mk_toks n (by omega)
  have HR := Lib.hid hr
  have HL := Lib.hid hr.1
  clear hr
  go_enter Tryd.func27, Tryd.ntmps27
  go_wp2
  go_loopw [4] (fun i wr => ∃ k : Nat, k ≤ n ∧ i = .int .i64 k ∧ Hid (BlkT wr w.heap.size 45 (n * 3)) ∧ Hid (∀ j, j < k → ElT wr w.heap.size (j * 3) (ks.getD j tk0)) ∧ Hid (Below w.heap.size w wr)) (fun i _ => n - (intOf i).toNat)
  case atStart => exact ⟨0, Nat.zero_le _, rfl, Lib.hid ⟨_, size_madeCells _ _, heap_alloc_new w _⟩, Lib.hid (fun j hj => by omega), Lib.hid ((Below.refl _ _).alloc (Nat.le_refl _) _)⟩
  case round =>
    obtain ⟨k, hk, rfl, HK, HE, HB⟩ := hrel
    by_cases hlt : k < n
    · obtain ⟨b, o, rfl, hP, _, hc⟩ := HR.out.2.2.2 (by omega)
      obtain ⟨q0, q1, q2⟩ := hc k hlt
      have c0 := (HB.out.cell (p := ⟨b, o + k * 3, none⟩) hP).trans q0
      have c1 := (HB.out.cell (p := ⟨b, o + k * 3 + 1, none⟩) hP).trans q1
      have c2 := (HB.out.cell (p := ⟨b, o + k * 3 + 2, none⟩) hP).trans q2
      have HNEW : Hid (∀ (W : World), ElT W w.heap.size (k * 3) (ks.getD k tk0) → (∀ j, j < k → ElT W w.heap.size (j * 3) (ks.getD j tk0)) → ∀ j, j < k + 1 → ElT W w.heap.size (j * 3) (ks.getD j tk0)) := fun W h1 h2 j hj => by
        by_cases e : j = k
        · subst e; exact h1
        · exact h2 j (by omega)
      generalize ks.getD k tk0 = r at *
      obtain ⟨tk, tn, ts⟩ := r
      dsimp only at *
      clear q0 q1 q2 hc
      have hsz := HB.out.size
      have hg := HK.out.lt
      go_wp2_with fail
      refine (toToken_any tk tn ts wr).mono ?_
      rintro e w1 ⟨rfl, b1⟩
      have HB1 := Lib.hid (HB.out.trans (b1.mono HB.out.size))
      have HK1 := Lib.hid (HK.out.on b1)
      have HE1 : Hid (∀ j, j < k → ElT w1 w.heap.size (j * 3) (ks.getD j tk0)) := fun j hj => (HE.out j hj).keep (b1.block _ hg)
      clear b1 c0 c1 c2 HE HK
      obtain ⟨u0, g0⟩ := HK1.out.cell (k * 3) (by omega)
      obtain ⟨u1, g1⟩ := HK1.out.cell (k * 3 + 1) (by omega)
      obtain ⟨u2, g2⟩ := HK1.out.cell (k * 3 + 2) (by omega)
      have f0 := HK1.out.fz (k * 3)
      have f1 := HK1.out.fz (k * 3 + 1)
      have f2 := HK1.out.fz (k * 3 + 2)
      have HB2 : Hid (Below w.heap.size w (set3 w1 w.heap.size (k * 3) (tk, tn, ts))) := set3_below _ HB1.out
      have HK2 : Hid (BlkT (set3 w1 w.heap.size (k * 3) (tk, tn, ts)) w.heap.size 45 (n * 3)) := HK1.out.set3 _
      have HE2 : Hid (∀ j, j < k + 1 → ElT (set3 w1 w.heap.size (k * 3) (tk, tn, ts)) w.heap.size (j * 3) (ks.getD j tk0)) := HNEW.out _ (set3_el HK1.out _ (by omega)) fun j hj => (HE1.out j hj).set3 HK1.out _ (by omega)
      clear HNEW HE1 HB1 HK1
      go_wp2
      go_roundw
      case rel => exact ⟨k + 1, by omega, by go_num, HK2, HE2, HB2⟩
      case measure => simp [intOf]; omega
    · obtain rfl : k = n := by omega
      go_wp2
      go_ret
      refine ⟨_, _, rfl, ⟨HL.out, Nat.le_refl _, (fun h => by cases h), fun hn => ⟨w.heap.size, 0, rfl, Nat.le_refl _, HK.out.lt, fun i hi => ?_⟩⟩, HB.out⟩
      rw [Nat.zero_add]
      exact HE.out i hi

set_option maxHeartbeats 800000 in
theorem eqToken_same (k n : Int) (s : ByteArray) (w : World) :
    Calls Tryd.prog 60 #[.agg #[.int .i64 k, .int .i64 n, .string s], .agg #[.int .i64 k, .int .i64 n, .string s]] w fun e w' => e = .returned (.bool true) ∧ Below w.heap.size w w' := by
  have HB1 := Lib.hid (((Below.refl w.heap.size w).alloc (Nat.le_refl _) (.cells #[.int .i64 k, .int .i64 n, .string s] 45)).alloc (by simp) (.cells #[.int .i64 k, .int .i64 n, .string s] 45))
  have e0 : (k != k) = false := by simp
  have e1 : (n != n) = false := by simp
  go_enter Tryd.func60, Tryd.ntmps60
  go_wp2
  go_ret
  exact ⟨rfl, HB1.out⟩

theorem undrewT {W w1 : World} (h : Below W.drew.heap.size W.drew w1) : Below W.heap.size W w1 := (below_drewN (Below.refl W.heap.size W) 1).trans h
set_option maxHeartbeats 1600000 in
theorem eqTokenS_same (A B : Option Addr) (n c d : Nat) (ks : List Tk) (P Q : Nat → Prop) (w : World) (hr : RdT w P A n c ks) (hr' : RdT w Q B n d ks) (hn : n ≤ 1048576) :
    Calls Tryd.prog 29 #[.slice A n c, .slice B n d] w fun e w' => e = .returned (.bool true) ∧ Below w.heap.size w w' := by
  have HR := Lib.hid (hr.mono (Q := (· < w.heap.size)) fun _ _ h => h)
  have HR' := Lib.hid (hr'.mono (Q := (· < w.heap.size)) fun _ _ h => h)
  have hne : ((n : Int) != (n : Int)) = false := by simp
  clear hr hr'
  go_enter Tryd.func29, Tryd.ntmps29
  go_wp2
  go_loopw [5] (fun i wr => ∃ k : Nat, k ≤ n ∧ i = .int .i64 k ∧ Hid (Below w.heap.size w wr)) (fun i _ => n - (intOf i).toNat)
  case atStart => exact ⟨0, Nat.zero_le _, rfl, Lib.hid (Below.refl _ _)⟩
  case round =>
    obtain ⟨k, hk, rfl, HB⟩ := hrel
    by_cases hlt : k < n
    · obtain ⟨b, o, rfl, hP, _, hc⟩ := HR.out.2.2.2 (by omega)
      obtain ⟨b', o', rfl, hP', _, hc'⟩ := HR'.out.2.2.2 (by omega)
      have e1 := (hc k hlt).keep (HB.out.block b hP)
      have e2 := (hc' k hlt).keep (HB.out.block b' hP')
      have hkn : (k : Int) < n := by omega
      generalize ks.getD k tk0 = r at *
      obtain ⟨x, y, z⟩ := r
      have HC := Lib.hid (show ElT wr b (o + k * 3) (x, y, z) ∧ ElT wr b' (o' + k * 3) (x, y, z) from ⟨e1, e2⟩)
      obtain ⟨c0, c1, c2⟩ := e1
      obtain ⟨d0, d1, d2⟩ := e2
      dsimp only at *
      clear hc hc'
      go_wp2_with fail
      clear c0 c1 c2 d0 d1 d2
      go_region_held3 (fun wx => wx.cell? ⟨b, o + k * 3, none⟩ = some (.int .i64 x) ∧ wx.cell? ⟨b, o + k * 3 + 1, none⟩ = some (.int .i64 y) ∧ wx.cell? ⟨b, o + k * 3 + 2, none⟩ = some (.string z) ∧ wx.cell? ⟨b', o' + k * 3, none⟩ = some (.int .i64 x) ∧ wx.cell? ⟨b', o' + k * 3 + 1, none⟩ = some (.int .i64 y) ∧ wx.cell? ⟨b', o' + k * 3 + 2, none⟩ = some (.string z))
        (first | exact ⟨HC.out.1.1, HC.out.1.2.1, HC.out.1.2.2, HC.out.2.1, HC.out.2.2.1, HC.out.2.2.2⟩ | exact ⟨HC1.out.1.1, HC1.out.1.2.1, HC1.out.1.2.2, HC1.out.2.1, HC1.out.2.2.1, HC1.out.2.2.2⟩)
        (first
          | (go_at_call 60; refine (eqToken_same x y z _).mono ?_; rintro e w1 ⟨rfl, bb⟩; have bb := undrewT bb; have HB1 := Lib.hid (HB.out.trans (bb.mono HB.out.size)); have HC1 : Hid (ElT w1 b (o + k * 3) (x, y, z) ∧ ElT w1 b' (o' + k * 3) (x, y, z)) := by have hs := HB.out.size; exact ⟨HC.out.1.keep (bb.block b (by show b < _; omega)), HC.out.2.keep (bb.block b' (by show b' < _; omega))⟩))
      go_wp2
      go_roundw
      case rel => exact ⟨k + 1, by omega, by go_num, HB1⟩
      case measure => simp [intOf]; omega
    · go_wp2
      go_ret
      exact ⟨rfl, HB.out⟩
end Go.Proofs.YtliefhkllpmlmabDoor
