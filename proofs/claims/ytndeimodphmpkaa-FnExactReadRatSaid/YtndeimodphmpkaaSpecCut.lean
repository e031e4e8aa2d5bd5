/-
  A text cut at strokes: l00Cut of the model.
-/
import Derived.Test.YtndeimodphmpkaaReadRatMath
import Derived.Test.YtndeimodphmpkaaGrpC
import Derived.Test.YtndeimodphmpkaaSrc
namespace Nt
open Go Go.RowKit
def strV (l : List UInt8) : Value := .string (tb l)
theorem ext_tb (s : ByteArray) (f i : Nat) : s.extract f i = tb ((s.data.toList.drop f).take (i - f)) := by
  apply ByteArray.ext
  simp only [ByteArray.data_extract, tb]
  apply Array.toList_inj.1
  simp [List.extract_eq_take_drop]
theorem size_list (s : ByteArray) : s.data.toList.length = s.size := by simp
theorem byteAt_list (s : ByteArray) (k : Nat) (h : byteAt s k = 47) : s.data.toList.getD k 0 = 47 := by
  unfold byteAt at h
  exact UInt8.toNat_inj.1 (by show _ = 47; omega)
theorem byteAt_not (s : ByteArray) (k : Nat) (h : ¬ byteAt s k = 47) : s.data.toList.getD k 0 ≠ 47 := fun e => h (by unfold byteAt; rw [e]; rfl)
theorem getD_drop (l : List UInt8) (f j : Nat) : (l.drop f).getD j 0 = l.getD (f + j) 0 := by simp [List.getD]
theorem segs_len_le : ∀ l : List UInt8, 1 ≤ (segs l).length ∧ (segs l).length ≤ l.length + 1
  | [] => by simp [segs]
  | c :: l => by
    have ih := segs_len_le l
    by_cases h : c = 47
    · rw [segs, if_pos h]; simp; omega
    · rw [segs, if_neg h]
      split <;> simp_all <;> omega
end Nt
namespace Go.Proofs.Ytndeimodphmpkaa
open Go Go.RowKit Nt

theorem infoStrC : (Try.prog.info? 9).map (fun i => (i.zero, i.size, i.bytes)) = some (some (.string ⟨#[]⟩), 1, 16) := by kernel_rfl
theorem one_newC (w : World) (e : TypeId) (x : Value) : ∀ (j : Nat) (u : Value), [x][j]? = some u → (w.alloc (.cells #[x] e)).cell? ((⟨w.heap.size, 0, none⟩ : Addr).add j) = some u := by
  intro j u hj
  have ha : (⟨w.heap.size, 0, none⟩ : Addr).add j = ⟨w.heap.size, 0 + j, none⟩ := by unfold Addr.add; by_cases h : j = 0 <;> simp [h]
  rw [ha, Nat.zero_add, cell_of_row _ w.heap.size j _ e (0, 0) (heap_alloc_new w _)]
  simpa using hj
theorem own_keepC {w w' : World} {base n c : Nat} {e : TypeId} {A : Option Addr} {xs : List Value} (h : w.ownsRow base e 1 (.slice A n c) n xs) (hb : Below w.heap.size w w') : w'.ownsRow base e 1 (.slice A n c) n xs := by
  refine h.kept (row := none) ⟨hb.os, hb.tape, hb.output, hb.size, fun k hk _ => hb.block k hk⟩ ?_
  cases hA : (Value.slice A n c).ownBlock with
  | none => exact .inl rfl
  | some g => exact .inr (by simp)
theorem own_succC {w : World} {base n : Nat} {e : TypeId} {size : Nat} {v : Value} {xs : List Value} (h : w.ownsRow base e size v (n + 1) xs) : ∃ g cap, v = .slice (some ⟨g, 0, none⟩) (n + 1) cap ∧ n + 1 ≤ cap := by
  rcases h.2 with ⟨_, h0⟩ | ⟨g, cap, cur, e', _, _, hc, _⟩
  · omega
  · exact ⟨g, cap, e', hc⟩

set_option maxRecDepth 20000 in
set_option maxHeartbeats 3200000 in
theorem l00Cut_any (s : ByteArray) (w : World) (hs : s.size ≤ 16777216) :
    Calls Try.prog 69 #[.string s, .int .u8 47] w fun e w' => ∃ V c, e = .returned (.slice V (segs s.data.toList).length c) ∧ w'.ownsRow w.heap.size 9 1 (.slice V (segs s.data.toList).length c) (segs s.data.toList).length ((segs s.data.toList).map strV) ∧ Below w.heap.size w w' := by
  obtain ⟨i0, hi0, hz0, hz1, hz2⟩ := info_parts infoStrC
  have HI := Lib.hid (And.intro hi0 (And.intro hz0 (And.intro hz1 hz2)))
  have HSL := Lib.hid (segs_len_le s.data.toList)
  have HSZ := Lib.hid (size_list s)
  clear hi0 hz0 hz1 hz2
  go_enter Try.func69, Try.ntmps69
  go_wp2
  go_loopw [5, 6, 7] (fun a f i wr => ∃ (k fr ii : Nat) (V : Option Addr) (c : Nat) (out : List (List UInt8)), ii ≤ s.size ∧ fr ≤ ii ∧ k ≤ fr ∧ a = .slice V k c ∧ f = .int .i64 (fr : Int) ∧ i = .int .i64 (ii : Int) ∧ Hid (out.length = k) ∧ Hid (segs s.data.toList = out ++ segs (s.data.toList.drop fr)) ∧ Hid (∀ j, fr ≤ j → j < ii → s.data.toList.getD j 0 ≠ 47) ∧ Hid (wr.ownsRow w.heap.size 9 1 (.slice V k c) k (out.map strV)) ∧ Hid (Below w.heap.size w wr)) (fun _ _ i _ => s.size - (intOf i).toNat)
  case atStart => exact ⟨0, 0, 0, _, _, [], Nat.zero_le _, Nat.le_refl _, Nat.le_refl _, rfl, rfl, rfl, Lib.hid rfl, Lib.hid rfl, Lib.hid (fun j h1 h2 => by omega), Lib.hid (World.ownsRow_lit w #[] 0 (Nat.le_refl _) (by decide) rfl), Lib.hid (below1 _ _)⟩
  case round =>
    obtain ⟨k, fr, ii, V, c, out, hii, hfr, hkf, rfl, rfl, rfl, HOL, HSE, HNO, HO, HB⟩ := hrel
    have hsz0 := HB.out.size
    by_cases hlt : ii < s.size
    · have hltI : (ii : Int) < s.size := by omega
      have hbk := byteAt_eq s ii hlt
      by_cases h47 : byteAt s ii = 47
      · have hc47 : (byteAt s ii == 47) = true := by rw [h47]; rfl
        have HNEW : Hid (segs s.data.toList = (out ++ [(s.data.toList.drop fr).take (ii - fr)]) ++ segs (s.data.toList.drop (ii + 1))) := by
          show _ = _
          rw [HSE.out, segs_cut (s.data.toList.drop fr) (ii - fr) (fun j hj => by rw [getD_drop]; exact HNO.out _ (by omega) (by omega)) (by rw [List.length_drop, HSZ.out]; omega) (by rw [getD_drop, show fr + (ii - fr) = ii by omega]; exact byteAt_list s ii h47), List.drop_drop, show fr + (ii - fr + 1) = ii + 1 by omega]
          simp
        have HEX := Lib.hid (ext_tb s fr ii)
        clear h47 HSE HNO
        go_wp2_with (at_builtin; refine wpList_append_own _ rfl _ _ 112 rfl w.heap.size 9 i0 _ 1 16 Try.underlying112 HI.out.1 HI.out.2.1 HI.out.2.2.1 HI.out.2.2.2 rfl (by decide) _ k _ rfl (World.ownsRow.alloc HO.out _) ⟨wr.heap.size, 0, none⟩ 1 1 [.string (s.extract fr ii)] rfl rfl (one_newC _ _ _) (by simp [Value.oneCell']) (by unfold maxLen; omega) (by omega) (by simp; omega) ?_; intro v' w3 hown hgr _; obtain ⟨g', cap', rfl, _⟩ := own_succC hown; have HO2 : Hid (w3.ownsRow w.heap.size 9 1 (.slice (some ⟨g', 0, none⟩) (k + 1) cap') (k + 1) ((out ++ [(s.data.toList.drop fr).take (ii - fr)]).map strV)) := (by rw [List.map_append]; show World.ownsRow _ _ _ _ _ _ (_ ++ [Value.string (tb _)]); rw [← HEX.out]; exact hown); have HB2 : Hid (Below w.heap.size w w3) := (HB.out.trans (((below1 wr _).mono hsz0).trans ⟨hgr.os, hgr.tape, hgr.output, hgr.size, fun q hq => hgr.block q (by rw [World.size_alloc]; omega) (fun e => by have := (HO.out.lt q e.symm).1; omega)⟩)); clear hown hgr)
        go_roundw
        case rel => exact ⟨k + 1, ii + 1, ii + 1, some ⟨g', 0, none⟩, cap', _, by omega, Nat.le_refl _, by omega, rfl, by go_num, by go_num, Lib.hid (by simp [HOL.out]), HNEW, Lib.hid (fun j h1 h2 => by omega), HO2, HB2⟩
        case measure => simp [intOf]; omega
      · have hc47 : (byteAt s ii == 47) = false := beq_eq_false_iff_ne.2 h47
        have HNO2 : Hid (∀ j, fr ≤ j → j < ii + 1 → s.data.toList.getD j 0 ≠ 47) := fun j h1 h2 => by
          by_cases e : j = ii
          · subst e; exact byteAt_not s j h47
          · exact HNO.out j h1 (by omega)
        clear h47 HNO
        go_wp2
        go_roundw
        case rel => exact ⟨k, fr, ii + 1, V, c, out, by omega, by omega, hkf, rfl, rfl, by go_num, HOL, HSE, HNO2, HO, HB⟩
        case measure => simp [intOf]; omega
    · obtain rfl : ii = s.size := by omega
      have HFIN : Hid (segs s.data.toList = out ++ [(s.data.toList.drop fr).take (s.size - fr)]) := by
        show _ = _
        rw [HSE.out, segs_none (s.data.toList.drop fr) (fun j hj => by rw [getD_drop]; rw [List.length_drop, HSZ.out] at hj; exact HNO.out _ (by omega) (by omega)), List.take_of_length_le (by rw [List.length_drop, HSZ.out]; exact Nat.le_refl _)]
      have HEX := Lib.hid (ext_tb s fr s.size)
      have hfI : (fr : Int) ≤ s.size := by omega
      clear HSE HNO
      go_wp2_with (at_builtin; refine wpList_append_own _ rfl _ _ 112 rfl w.heap.size 9 i0 _ 1 16 Try.underlying112 HI.out.1 HI.out.2.1 HI.out.2.2.1 HI.out.2.2.2 rfl (by decide) _ k _ rfl (World.ownsRow.alloc HO.out _) ⟨wr.heap.size, 0, none⟩ 1 1 [.string (s.extract fr s.size)] rfl rfl (one_newC _ _ _) (by simp [Value.oneCell']) (by unfold maxLen; omega) (by omega) (by simp; omega) ?_; intro v' w3 hown hgr _; obtain ⟨g', cap', rfl, _⟩ := own_succC hown; have HO2 : Hid (w3.ownsRow w.heap.size 9 1 (.slice (some ⟨g', 0, none⟩) (k + 1) cap') (k + 1) ((out ++ [(s.data.toList.drop fr).take (s.size - fr)]).map strV)) := (by rw [List.map_append]; show World.ownsRow _ _ _ _ _ _ (_ ++ [Value.string (tb _)]); rw [← HEX.out]; exact hown); have HB2 : Hid (Below w.heap.size w w3) := (HB.out.trans (((below1 wr _).mono hsz0).trans ⟨hgr.os, hgr.tape, hgr.output, hgr.size, fun q hq => hgr.block q (by rw [World.size_alloc]; omega) (fun e => by have := (HO.out.lt q e.symm).1; omega)⟩)); clear hown hgr)
      go_ret
      rw [HFIN.out]
      refine ⟨some ⟨g', 0, none⟩, cap', ?_, ?_, HB2.out⟩
      · rw [List.length_append, HOL.out]; rfl
      · rw [List.length_append, HOL.out]; exact HO2.out
end Go.Proofs.Ytndeimodphmpkaa
