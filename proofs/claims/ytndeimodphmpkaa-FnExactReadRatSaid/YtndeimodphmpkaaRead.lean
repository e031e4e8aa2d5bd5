/-
  ReadNat of the program.
-/
import Derived.Test.YtndeimodphmpkaaReadMath
import Derived.Test.YtndeimodphmpkaaGrpB
namespace Nt
open Go Go.RowKit
theorem isEmpty_no {s : ByteArray} (h : ¬ s.size = 0) : s.toList.isEmpty = false := by
  rw [← Go.decide_eq_emptyBytes s, decide_eq_false_iff_not]
  intro hk
  rw [hk] at h
  exact h rfl
theorem own_none (w : World) (base : Nat) (e : TypeId) : w.ownsRow base e 1 (.slice none 0 0) 0 ((([] : List Int)).map (Value.int .i64)) := ⟨rfl, .inl ⟨rfl, rfl⟩⟩
end Nt
namespace Go.Proofs.Ytndeimodphmpkaa
open Go Go.RowKit Nt

set_option maxHeartbeats 6400000 in
theorem implReadNat_any (s : ByteArray) (w : World) (hs : s.size ≤ 16777216) :
    Calls Try.prog 39 #[.string s] w (RetCode 3 w (readL s) (readC s)) := by
  by_cases hlong : 65536 < s.size
  · obtain ⟨h1, h2⟩ := read_long hlong
    rw [h1, h2]
    have h' : decide ((65536 : Int) < s.size) = true := by simp; omega
    clear h1 h2
    go_enter Try.func39, Try.ntmps39
    go_wp2
    go_ret2
    exact ⟨none, 0, rfl, own_none _ _ _, Below.refl _ _⟩
  have h' : decide ((65536 : Int) < s.size) = false := by simp; omega
  by_cases h0 : s.size = 0
  · obtain ⟨h1, h2⟩ := read_bad hlong (.inl h0)
    rw [h1, h2]
    clear h1 h2
    obtain rfl : s = ByteArray.empty := by
      cases s with | mk d => simp only [ByteArray.size] at h0; exact congrArg ByteArray.mk (Array.eq_empty_of_size_eq_zero h0)
    go_enter Try.func39, Try.ntmps39
    go_wp2
    go_ret2
    exact ⟨none, 0, rfl, own_none _ _ _, Below.refl _ _⟩
  have hE := isEmpty_no h0
  by_cases h160 : 160 < s.size
  · obtain ⟨h1, h2⟩ := read_bad hlong (.inr (.inl h160))
    rw [h1, h2]
    clear h1 h2
    have h3 : decide ((160 : Int) < s.size) = true := by simp; omega
    go_enter Try.func39, Try.ntmps39
    go_wp2
    go_ret2
    exact ⟨none, 0, rfl, own_none _ _ _, Below.refl _ _⟩
  have h3 : decide ((160 : Int) < s.size) = false := by simp; omega
  have hp0 : 0 < s.size := by omega
  have hb0 := byteAt_eq s 0 hp0
  by_cases hz : byteAt s 0 = 48 ∧ 1 < s.size
  · obtain ⟨h1, h2⟩ := read_bad hlong (.inr (.inr hz))
    rw [h1, h2]
    rw [← hb0] at hz
    obtain ⟨hz1, hz2⟩ := hz
    have hz1' : (((s[0]'hp0).toNat : Int) == 48) = true := by simpa using hz1
    have hz2' : decide ((1 : Int) < s.size) = true := by simp; omega
    clear h1 h2 hz1 hb0
    go_enter Try.func39, Try.ntmps39
    go_wp2
    go_ret2
    exact ⟨none, 0, rfl, own_none _ _ _, Below.refl _ _⟩
  have HBAD : Hid (¬ badT s) := by
    show ¬ _
    unfold badT
    omega
  have hz0 := zero40
  by_cases hz1 : byteAt s 0 = 48
  · have hz1' : (((s[0]'hp0).toNat : Int) == 48) = true := by rw [hb0]; simpa using hz1
    have hz2' : decide ((1 : Int) < s.size) = false := by simp; omega
    clear hb0 hz1 hz
    go_enter Try.func39, Try.ntmps39
    go_wp2
    go_loopw [5, 6] (fun p e wr => ∃ k : Nat, p = .int .i64 k ∧ e = .int .i64 ((s.size : Int) - 4 * k) ∧ 4 * k < s.size + 4 ∧ (∀ i, s.size - 4 * k ≤ i → i < s.size → digB (byteAt s i) = true) ∧ Arr wr w.heap.size 117 (rl s s.size k ++ zeros (40 - k)) ∧ Below w.heap.size w wr) (fun _ e _ => (intOf e).toNat)
    case atStart => exact ⟨0, rfl, by simp, by omega, fun i h1 h2 => absurd h2 (by omega), Arr.new w _ (zeros 40), (Below.refl _ _).alloc (Nat.le_refl _) _⟩
    case round =>
      obtain ⟨k, rfl, rfl, hk, hdig, harr, hbel⟩ := hrel
      have HD := Lib.hid hdig
      have HA := Lib.hid harr
      have HB := Lib.hid hbel
      clear hdig harr hbel
      by_cases hlt : 4 * k < s.size
      · obtain ⟨lo, hlo⟩ : ∃ lo, lo = s.size - 4 * (k + 1) := ⟨_, rfl⟩
        have HLO := Lib.hid hlo
        have hlo1 : lo ≤ s.size - 4 * k := by omega
        have hlo2 : s.size - 4 * k ≤ lo + 4 := by omega
        clear hlo
        have hgt : decide ((0 : Int) < (s.size : Int) - 4 * k) = true := by simp; omega
        go_wp2
        all_goals
          go_loopw [7] (fun v wr => ∃ j : Nat, v = .int .i64 ((lo + j : Nat) : Int) ∧ lo + j ≤ s.size - 4 * k ∧ (∀ i, i < j → digB (byteAt s (lo + i)) = true) ∧ Arr wr w.heap.size 117 (rl s s.size k ++ [ch s lo j] ++ zeros (39 - k)) ∧ Below w.heap.size w wr) (fun v _ => (s.size - 4 * k) - (intOf v).toNat)
          case atStart =>
            refine ⟨0, ?_, by omega, fun i hi => absurd hi (by omega), ?_, HB.out⟩
            · have hlo := HLO.out; congr 1; omega
            · have := HA.out
              rwa [open_digit _ _ (by omega), show 40 - k - 1 = 39 - k from by omega] at this
          case round =>
            obtain ⟨j, rfl, hj, hdj, haj, hbj⟩ := hrel
            have HDJ := Lib.hid hdj
            have HAJ := Lib.hid haj
            have HBJ := Lib.hid hbj
            clear hdj haj hbj HA HB
            by_cases hlt2 : lo + j < s.size - 4 * k
            · have hin : lo + j < s.size := by omega
              have hbk := byteAt_eq s (lo + j) hin
              have hltI : decide (((lo + j : Nat) : Int) < (s.size : Int) - 4 * k) = true := by simp; omega
              by_cases hd : digB (byteAt s (lo + j)) = true
              · have hrange : 48 ≤ byteAt s (lo + j) ∧ byteAt s (lo + j) ≤ 57 := by
                  have := hd; simp only [digB, Bool.and_eq_true, decide_eq_true_eq] at this; exact this
                have hdd := hd
                rw [← hbk] at hdd
                have hchb := ch_small (s := s) (lo := lo) (k := j) (by omega) HDJ.out
                have HDJ' : Hid (∀ i, i < j + 1 → digB (byteAt s (lo + i)) = true) := by
                  intro i hi
                  by_cases hij : i = j
                  · subst hij; exact hd
                  · exact HDJ.out i (by omega)
                have hcell := HAJ.out.cell k (by simp [rl_len, zeros_len])
                rw [get_digit _ k _ _ (rl_len s s.size k)] at hcell
                have hfz := HAJ.out.frozen k
                have hst := HAJ.out.set_ k (ch s lo (j + 1))
                rw [set_digit _ k _ _ _ (rl_len s s.size k)] at hst
                have HST := Lib.hid hst
                have HBT := Lib.hid (HBJ.out.setCell (p := ⟨w.heap.size, k, none⟩) (Nat.le_refl _) (.int .i64 (ch s lo (j + 1))))
                have hk40 : (k : Int) < 40 := by omega
                have HCH := Lib.hid (show ch s lo (j + 1) = ch s lo j * 10 + (byteAt s (lo + j) - 48) from rfl)
                have HBK := Lib.hid hbk
                rw [← hbk] at hrange
                clear hst hd hbk HAJ
                generalize ch s lo j = c0 at *
                go_wp2_with (go_at_call 75; refine (isDigit_any _ _).mono ?_; rintro e w' ⟨rfl, rfl⟩; rw [hdd])
                go_region
                rw [show c0 * 10 + (((s[lo + j]'hin).toNat : Int) - 48) = ch s lo (j + 1) from by rw [HCH.out, HBK.out]]
                generalize hw2 : wr.setCell ⟨w.heap.size, k, none⟩ (.int .i64 (ch s lo (j + 1))) = w2 at *
                clear hw2 hcell hfz
                go_wp2
                go_roundw
                case rel => exact ⟨j + 1, by go_num, by omega, HDJ'.out, HST.out, ⟨HBT.out.os, HBT.out.tape, HBT.out.output, HBT.out.size, HBT.out.block⟩⟩
                case measure => simp [intOf]; omega
              · have hd' : digB (byteAt s (lo + j)) = false := by simpa using hd
                obtain ⟨h1, h2⟩ := read_form hlong (allD_bad (lo + j) hin hd')
                have HL1 := Lib.hid h1
                have HL2 := Lib.hid h2
                rw [← hbk] at hd'
                clear h1 h2 hd hbk
                go_wp2_with (go_at_call 75; refine (isDigit_any _ _).mono ?_; rintro e w' ⟨rfl, rfl⟩; rw [hd'])
                go_ret2
                rw [HL1.out, HL2.out]
                exact ⟨none, 0, rfl, own_none _ _ _, HBJ.out⟩
            · have hltI : decide (((lo + j : Nat) : Int) < (s.size : Int) - 4 * k) = false := by simp; omega
              have HJ : Hid (j = s.size - 4 * k - lo) := by show _ = _; omega
              go_wp2
              go_roundw
              case rel =>
                refine ⟨k + 1, by go_num, by congr 1; omega, by omega, ?_, ?_, HBJ.out⟩
                · intro i h1 h2
                  by_cases hi : s.size - 4 * k ≤ i
                  · exact HD.out i hi h2
                  · have := HDJ.out (i - lo) (by have := HLO.out; omega)
                    rwa [show lo + (i - lo) = i from by have := HLO.out; omega] at this
                · have := HAJ.out
                  rw [show 40 - (k + 1) = 39 - k from by omega, rl, ← HLO.out, ← HJ.out]
                  exact this
              case measure => simp [intOf]; omega
      · have hgt : decide ((0 : Int) < (s.size : Int) - 4 * k) = false := by simp; omega
        have HK : Hid (k = (s.size + 3) / 4) := by show _ = _; omega
        obtain ⟨h1, h2⟩ := read_good hlong HBAD.out (allD_good fun i hi => HD.out i (by omega) hi)
        have HL1 := Lib.hid h1
        have HL2 := Lib.hid h2
        have HLM := Lib.hid (rl_limbs (s := s) (L := s.size) k HD.out)
        have HRN : Hid (natOf (rl s s.size k) = readN s) := by show _ = _; unfold readN; rw [← HK.out]
        have hk40 : k ≤ 40 := by omega
        have hrd := HA.out.rd (fun _ => True) trivial 0 k 40 (by simp [rl_len, zeros_len]) hk40
        have htk : ((rl s s.size k ++ zeros (40 - k)).drop 0).take k = rl s s.size k := by
          rw [List.drop_zero, List.take_append_of_le_length (by rw [rl_len]; omega)]
          exact List.take_of_length_le (by rw [rl_len]; omega)
        rw [htk] at hrd
        have HR := Lib.hid hrd
        have hsl := fun w' => run_cut_arr (P := Try.prog) 117 3 40 Try.underlying117 infoInt w.heap.size k hk40 w'
        have hbig : (k : Int) ≤ 40 := by omega
        clear h1 h2 hrd htk
        go_wp2_with fail
        refine (trimmed_any _ k 40 (rl s s.size k) (fun _ => True) _ HR.out HLM.out (by omega)).mono ?_
        rintro e w2 ⟨rfl, rfl⟩
        have hrt := trim_fresh_rd HR.out HLM.out
        rw [HRN.out] at hrt ⊢
        have HRT := Lib.hid hrt
        have hlr : (D (readN s)).length ≤ 40 := by have := hrt.cap; omega
        clear hrt
        go_wp2_with fail
        refine (fresh_any _ _ 40 (D (readN s)) _ wr HRT.out (by omega)).mono ?_
        rintro e w3 ⟨A1, c1, rfl, ho1, hb1⟩
        have HO1 := Lib.hid (own_mono ho1 HB.out.size)
        have HB1 := Lib.hid (HB.out.trans (hb1.mono HB.out.size))
        clear ho1 hb1
        go_wp2
        go_ret2
        rw [HL1.out, HL2.out]
        exact ⟨A1, c1, rfl, HO1.out, HB1.out⟩
  · have hz1' : (((s[0]'hp0).toNat : Int) == 48) = false := by rw [hb0]; simpa using hz1
    clear hb0 hz1 hz
    go_enter Try.func39, Try.ntmps39
    go_wp2
    go_loopw [5, 6] (fun p e wr => ∃ k : Nat, p = .int .i64 k ∧ e = .int .i64 ((s.size : Int) - 4 * k) ∧ 4 * k < s.size + 4 ∧ (∀ i, s.size - 4 * k ≤ i → i < s.size → digB (byteAt s i) = true) ∧ Arr wr w.heap.size 117 (rl s s.size k ++ zeros (40 - k)) ∧ Below w.heap.size w wr) (fun _ e _ => (intOf e).toNat)
    case atStart => exact ⟨0, rfl, by simp, by omega, fun i h1 h2 => absurd h2 (by omega), Arr.new w _ (zeros 40), (Below.refl _ _).alloc (Nat.le_refl _) _⟩
    case round =>
      obtain ⟨k, rfl, rfl, hk, hdig, harr, hbel⟩ := hrel
      have HD := Lib.hid hdig
      have HA := Lib.hid harr
      have HB := Lib.hid hbel
      clear hdig harr hbel
      by_cases hlt : 4 * k < s.size
      · obtain ⟨lo, hlo⟩ : ∃ lo, lo = s.size - 4 * (k + 1) := ⟨_, rfl⟩
        have HLO := Lib.hid hlo
        have hlo1 : lo ≤ s.size - 4 * k := by omega
        have hlo2 : s.size - 4 * k ≤ lo + 4 := by omega
        clear hlo
        have hgt : decide ((0 : Int) < (s.size : Int) - 4 * k) = true := by simp; omega
        go_wp2
        all_goals
          go_loopw [7] (fun v wr => ∃ j : Nat, v = .int .i64 ((lo + j : Nat) : Int) ∧ lo + j ≤ s.size - 4 * k ∧ (∀ i, i < j → digB (byteAt s (lo + i)) = true) ∧ Arr wr w.heap.size 117 (rl s s.size k ++ [ch s lo j] ++ zeros (39 - k)) ∧ Below w.heap.size w wr) (fun v _ => (s.size - 4 * k) - (intOf v).toNat)
          case atStart =>
            refine ⟨0, ?_, by omega, fun i hi => absurd hi (by omega), ?_, HB.out⟩
            · have hlo := HLO.out; congr 1; omega
            · have := HA.out
              rwa [open_digit _ _ (by omega), show 40 - k - 1 = 39 - k from by omega] at this
          case round =>
            obtain ⟨j, rfl, hj, hdj, haj, hbj⟩ := hrel
            have HDJ := Lib.hid hdj
            have HAJ := Lib.hid haj
            have HBJ := Lib.hid hbj
            clear hdj haj hbj HA HB
            by_cases hlt2 : lo + j < s.size - 4 * k
            · have hin : lo + j < s.size := by omega
              have hbk := byteAt_eq s (lo + j) hin
              have hltI : decide (((lo + j : Nat) : Int) < (s.size : Int) - 4 * k) = true := by simp; omega
              by_cases hd : digB (byteAt s (lo + j)) = true
              · have hrange : 48 ≤ byteAt s (lo + j) ∧ byteAt s (lo + j) ≤ 57 := by
                  have := hd; simp only [digB, Bool.and_eq_true, decide_eq_true_eq] at this; exact this
                have hdd := hd
                rw [← hbk] at hdd
                have hchb := ch_small (s := s) (lo := lo) (k := j) (by omega) HDJ.out
                have HDJ' : Hid (∀ i, i < j + 1 → digB (byteAt s (lo + i)) = true) := by
                  intro i hi
                  by_cases hij : i = j
                  · subst hij; exact hd
                  · exact HDJ.out i (by omega)
                have hcell := HAJ.out.cell k (by simp [rl_len, zeros_len])
                rw [get_digit _ k _ _ (rl_len s s.size k)] at hcell
                have hfz := HAJ.out.frozen k
                have hst := HAJ.out.set_ k (ch s lo (j + 1))
                rw [set_digit _ k _ _ _ (rl_len s s.size k)] at hst
                have HST := Lib.hid hst
                have HBT := Lib.hid (HBJ.out.setCell (p := ⟨w.heap.size, k, none⟩) (Nat.le_refl _) (.int .i64 (ch s lo (j + 1))))
                have hk40 : (k : Int) < 40 := by omega
                have HCH := Lib.hid (show ch s lo (j + 1) = ch s lo j * 10 + (byteAt s (lo + j) - 48) from rfl)
                have HBK := Lib.hid hbk
                rw [← hbk] at hrange
                clear hst hd hbk HAJ
                generalize ch s lo j = c0 at *
                go_wp2_with (go_at_call 75; refine (isDigit_any _ _).mono ?_; rintro e w' ⟨rfl, rfl⟩; rw [hdd])
                go_region
                rw [show c0 * 10 + (((s[lo + j]'hin).toNat : Int) - 48) = ch s lo (j + 1) from by rw [HCH.out, HBK.out]]
                generalize hw2 : wr.setCell ⟨w.heap.size, k, none⟩ (.int .i64 (ch s lo (j + 1))) = w2 at *
                clear hw2 hcell hfz
                go_wp2
                go_roundw
                case rel => exact ⟨j + 1, by go_num, by omega, HDJ'.out, HST.out, ⟨HBT.out.os, HBT.out.tape, HBT.out.output, HBT.out.size, HBT.out.block⟩⟩
                case measure => simp [intOf]; omega
              · have hd' : digB (byteAt s (lo + j)) = false := by simpa using hd
                obtain ⟨h1, h2⟩ := read_form hlong (allD_bad (lo + j) hin hd')
                have HL1 := Lib.hid h1
                have HL2 := Lib.hid h2
                rw [← hbk] at hd'
                clear h1 h2 hd hbk
                go_wp2_with (go_at_call 75; refine (isDigit_any _ _).mono ?_; rintro e w' ⟨rfl, rfl⟩; rw [hd'])
                go_ret2
                rw [HL1.out, HL2.out]
                exact ⟨none, 0, rfl, own_none _ _ _, HBJ.out⟩
            · have hltI : decide (((lo + j : Nat) : Int) < (s.size : Int) - 4 * k) = false := by simp; omega
              have HJ : Hid (j = s.size - 4 * k - lo) := by show _ = _; omega
              go_wp2
              go_roundw
              case rel =>
                refine ⟨k + 1, by go_num, by congr 1; omega, by omega, ?_, ?_, HBJ.out⟩
                · intro i h1 h2
                  by_cases hi : s.size - 4 * k ≤ i
                  · exact HD.out i hi h2
                  · have := HDJ.out (i - lo) (by have := HLO.out; omega)
                    rwa [show lo + (i - lo) = i from by have := HLO.out; omega] at this
                · have := HAJ.out
                  rw [show 40 - (k + 1) = 39 - k from by omega, rl, ← HLO.out, ← HJ.out]
                  exact this
              case measure => simp [intOf]; omega
      · have hgt : decide ((0 : Int) < (s.size : Int) - 4 * k) = false := by simp; omega
        have HK : Hid (k = (s.size + 3) / 4) := by show _ = _; omega
        obtain ⟨h1, h2⟩ := read_good hlong HBAD.out (allD_good fun i hi => HD.out i (by omega) hi)
        have HL1 := Lib.hid h1
        have HL2 := Lib.hid h2
        have HLM := Lib.hid (rl_limbs (s := s) (L := s.size) k HD.out)
        have HRN : Hid (natOf (rl s s.size k) = readN s) := by show _ = _; unfold readN; rw [← HK.out]
        have hk40 : k ≤ 40 := by omega
        have hrd := HA.out.rd (fun _ => True) trivial 0 k 40 (by simp [rl_len, zeros_len]) hk40
        have htk : ((rl s s.size k ++ zeros (40 - k)).drop 0).take k = rl s s.size k := by
          rw [List.drop_zero, List.take_append_of_le_length (by rw [rl_len]; omega)]
          exact List.take_of_length_le (by rw [rl_len]; omega)
        rw [htk] at hrd
        have HR := Lib.hid hrd
        have hsl := fun w' => run_cut_arr (P := Try.prog) 117 3 40 Try.underlying117 infoInt w.heap.size k hk40 w'
        have hbig : (k : Int) ≤ 40 := by omega
        clear h1 h2 hrd htk
        go_wp2_with fail
        refine (trimmed_any _ k 40 (rl s s.size k) (fun _ => True) _ HR.out HLM.out (by omega)).mono ?_
        rintro e w2 ⟨rfl, rfl⟩
        have hrt := trim_fresh_rd HR.out HLM.out
        rw [HRN.out] at hrt ⊢
        have HRT := Lib.hid hrt
        have hlr : (D (readN s)).length ≤ 40 := by have := hrt.cap; omega
        clear hrt
        go_wp2_with fail
        refine (fresh_any _ _ 40 (D (readN s)) _ wr HRT.out (by omega)).mono ?_
        rintro e w3 ⟨A1, c1, rfl, ho1, hb1⟩
        have HO1 := Lib.hid (own_mono ho1 HB.out.size)
        have HB1 := Lib.hid (HB.out.trans (hb1.mono HB.out.size))
        clear ho1 hb1
        go_wp2
        go_ret2
        rw [HL1.out, HL2.out]
        exact ⟨A1, c1, rfl, HO1.out, HB1.out⟩

end Go.Proofs.Ytndeimodphmpkaa
