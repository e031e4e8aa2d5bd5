/-
  ReadNat of the model.
-/
import Derived.Test.YtndeimodphmpkaaRead
namespace Nt
open Go Go.RowKit
def readOk (s : ByteArray) : Bool := !decide (badT s) && allD s
def readX (s : ByteArray) : List Int := if readOk s = true then D (readN s) else []
theorem readOk_bad {s : ByteArray} (h : badT s) : readOk s = false ∧ readX s = [] := by
  have : readOk s = false := by unfold readOk; simp [h]
  exact ⟨this, by unfold readX; rw [this]; rfl⟩
theorem readOk_form {s : ByteArray} (h : allD s = false) : readOk s = false ∧ readX s = [] := by
  have : readOk s = false := by unfold readOk; simp [h]
  exact ⟨this, by unfold readX; rw [this]; rfl⟩
theorem readOk_good {s : ByteArray} (h : ¬ badT s) (ha : allD s = true) : readOk s = true ∧ readX s = D (readN s) := by
  have : readOk s = true := by unfold readOk; simp [h, ha]
  exact ⟨this, by unfold readX; rw [if_pos this]⟩
theorem read_ok {s : ByteArray} (hl : ¬ 65536 < s.size) (h : readOk s = true) : readL s = readX s ∧ readC s = 0 := by
  have h' := h
  unfold readOk at h
  simp only [Bool.and_eq_true, Bool.not_eq_true', decide_eq_false_iff_not] at h
  obtain ⟨h1, h2⟩ := read_good hl h.1 h.2
  exact ⟨by rw [h1]; unfold readX; rw [if_pos h'], h2⟩
theorem read_no {s : ByteArray} (hl : ¬ 65536 < s.size) (h : readOk s = false) : readL s = [] ∧ readC s = 3 := by
  by_cases hb : badT s
  · exact read_bad hl hb
  · have : allD s = false := by
      unfold readOk at h; simpa [hb] using h
    exact read_form hl this
end Nt
namespace Go.Proofs.Ytndeimodphmpkaa
open Go Go.RowKit Nt

set_option maxHeartbeats 6400000 in
theorem l01Read_any (s : ByteArray) (w : World) (hs : s.size ≤ 16777216) :
    Calls Try.prog 70 #[.string s] w fun e w' => ∃ A c, e = .returned (.tuple #[.slice A (readX s).length c, .bool (readOk s)]) ∧ w'.ownsRow w.heap.size 3 1 (.slice A (readX s).length c) (readX s).length ((readX s).map (Value.int .i64)) ∧ Below w.heap.size w w' := by
  by_cases h0 : s.size = 0
  · obtain ⟨h1, h2⟩ := readOk_bad (s := s) (.inl h0)
    rw [h1, h2]
    clear h1 h2
    obtain rfl : s = ByteArray.empty := by
      cases s with | mk d => simp only [ByteArray.size] at h0; exact congrArg ByteArray.mk (Array.eq_empty_of_size_eq_zero h0)
    go_enter Try.func70, Try.ntmps70
    go_wp2
    go_ret2
    exact ⟨_, _, rfl, World.ownsRow_lit _ #[] 0 (Nat.le_refl _) (by decide) rfl, (Below.refl _ _).alloc (Nat.le_refl _) _⟩
  have hE := isEmpty_no h0
  by_cases h160 : 160 < s.size
  · obtain ⟨h1, h2⟩ := readOk_bad (s := s) (.inr (.inl h160))
    rw [h1, h2]
    clear h1 h2
    have h3 : decide ((160 : Int) < s.size) = true := by simp; omega
    go_enter Try.func70, Try.ntmps70
    go_wp2
    go_ret2
    exact ⟨_, _, rfl, World.ownsRow_lit _ #[] 0 (Nat.le_refl _) (by decide) rfl, (Below.refl _ _).alloc (Nat.le_refl _) _⟩
  have h3 : decide ((160 : Int) < s.size) = false := by simp; omega
  have hp0 : 0 < s.size := by omega
  have hb0 := byteAt_eq s 0 hp0
  by_cases hz : byteAt s 0 = 48 ∧ 1 < s.size
  · obtain ⟨h1, h2⟩ := readOk_bad (s := s) (.inr (.inr hz))
    rw [h1, h2]
    rw [← hb0] at hz
    obtain ⟨hz1, hz2⟩ := hz
    have hz1' : (((s[0]'hp0).toNat : Int) == 48) = true := by simpa using hz1
    have hz2' : decide ((1 : Int) < s.size) = true := by simp; omega
    clear h1 h2 hz1 hb0
    go_enter Try.func70, Try.ntmps70
    go_wp2
    go_ret2
    exact ⟨_, _, rfl, World.ownsRow_lit _ #[] 0 (Nat.le_refl _) (by decide) rfl, (Below.refl _ _).alloc (Nat.le_refl _) _⟩
  have HBAD : Hid (¬ badT s) := by
    show ¬ _
    unfold badT
    omega
  by_cases hz1 : byteAt s 0 = 48
  · have hz1' : (((s[0]'hp0).toNat : Int) == 48) = true := by rw [hb0]; simpa using hz1
    have hz2' : decide ((1 : Int) < s.size) = false := by simp; omega
    clear hb0 hz1 hz
    go_enter Try.func70, Try.ntmps70
    go_wp2
    go_loop [4] (fun i => ∃ k : Nat, k ≤ s.size ∧ i = .int .i64 k ∧ ∀ j, j < k → digB (byteAt s j) = true) (fun i => s.size - (intOf i).toNat)
    case atStart => exact ⟨0, Nat.zero_le _, rfl, fun j hj => absurd hj (by omega)⟩
    case round =>
      obtain ⟨k, hk, rfl, hall⟩ := hrel
      have HALL := Lib.hid hall
      clear hall
      by_cases hlt : k < s.size
      · have hbk := byteAt_eq s k hlt
        by_cases hd : digB (byteAt s k) = true
        · have HA' : Hid (∀ j, j < k + 1 → digB (byteAt s j) = true) := by
            intro j hj
            by_cases hjk : j = k
            · subst hjk; exact hd
            · exact HALL.out j (by omega)
          rw [← hbk] at hd
          clear hbk HALL
          go_wp2_with (go_at_call 114; refine (l00Digit_any _ _).mono ?_; rintro e w' ⟨rfl, rfl⟩; rw [hd])
          go_round
          case rel => exact ⟨k + 1, by omega, by go_num, HA'.out⟩
          case measure => simp [intOf]; omega
        · have hd' : digB (byteAt s k) = false := by simpa using hd
          obtain ⟨h1, h2⟩ := readOk_form (allD_bad k hlt hd')
          have HL1 := Lib.hid h1
          have HL2 := Lib.hid h2
          rw [← hbk] at hd'
          clear h1 h2 hd hbk HALL
          go_wp2_with (go_at_call 114; refine (l00Digit_any _ _).mono ?_; rintro e w' ⟨rfl, rfl⟩; rw [hd'])
          go_ret2
          rw [HL1.out, HL2.out]
          exact ⟨_, _, rfl, World.ownsRow_lit _ #[] 0 (Nat.le_refl _) (by decide) rfl, (Below.refl _ _).alloc (Nat.le_refl _) _⟩
      · have HDG : Hid (∀ j, j < s.size → digB (byteAt s j) = true) := fun j hj => HALL.out j (by omega)
        clear HALL
        go_wp2
        go_loopw [5, 6] (fun v e wr => ∃ (k : Nat) (V : Option Addr) (cv : Nat), e = .int .i64 ((s.size : Int) - 4 * k) ∧ v = .slice V k cv ∧ 4 * k < s.size + 4 ∧ wr.ownsRow w.heap.size 3 1 (.slice V k cv) k ((rl s s.size k).map (Value.int .i64)) ∧ Below w.heap.size w wr) (fun _ e _ => (intOf e).toNat)
        case atStart => exact ⟨0, _, _, by simp, rfl, by omega, World.ownsRow_lit _ #[] 0 (Nat.le_refl _) (by decide) rfl, (Below.refl _ _).alloc (Nat.le_refl _) _⟩
        case round =>
          obtain ⟨k, V, cv, rfl, rfl, hk4, hown, hbel⟩ := hrel
          have HO := Lib.hid hown
          have HB := Lib.hid hbel
          clear hown hbel
          by_cases hlt4 : 4 * k < s.size
          · obtain ⟨lo, hlo⟩ : ∃ lo, lo = s.size - 4 * (k + 1) := ⟨_, rfl⟩
            have HLO := Lib.hid hlo
            have hlo1 : lo ≤ s.size - 4 * k := by omega
            have hlo2 : s.size - 4 * k ≤ lo + 4 := by omega
            clear hlo
            have hgt : decide ((0 : Int) < (s.size : Int) - 4 * k) = true := by simp; omega
            go_wp2
            all_goals
              go_loop [7, 8] (fun n v => ∃ j : Nat, n = .int .i64 (ch s lo j) ∧ v = .int .i64 ((lo + j : Nat) : Int) ∧ lo + j ≤ s.size - 4 * k) (fun _ v => (s.size - 4 * k) - (intOf v).toNat)
              case atStart =>
                refine ⟨0, rfl, ?_, by omega⟩
                have hlo := HLO.out; congr 1; omega
              case round =>
                obtain ⟨j, rfl, rfl, hj⟩ := hrel
                have hchb := ch_small (s := s) (lo := lo) (k := j) (by omega) (fun i hi => HDG.out _ (by omega))
                by_cases hlt2 : lo + j < s.size - 4 * k
                · have hin : lo + j < s.size := by omega
                  have hbk := byteAt_eq s (lo + j) hin
                  have hltI : decide (((lo + j : Nat) : Int) < (s.size : Int) - 4 * k) = true := by simp; omega
                  have hrange : 48 ≤ byteAt s (lo + j) ∧ byteAt s (lo + j) ≤ 57 := by
                    have := HDG.out _ hin; simp only [digB, Bool.and_eq_true, decide_eq_true_eq] at this; exact this
                  have HCH := Lib.hid (show ch s lo (j + 1) = ch s lo j * 10 + (byteAt s (lo + j) - 48) from rfl)
                  have HBK := Lib.hid hbk
                  rw [← hbk] at hrange
                  clear hbk
                  generalize ch s lo j = c0 at *
                  go_wp2
                  go_round
                  case rel => exact ⟨j + 1, by rw [HCH.out, ← HBK.out]; congr 1; omega, by go_num, by omega⟩
                  case measure => simp [intOf]; omega
                · have hltI : decide (((lo + j : Nat) : Int) < (s.size : Int) - 4 * k) = false := by simp; omega
                  have HJ : Hid (j = s.size - 4 * k - lo) := by show _ = _; omega
                  have HRL : Hid (rl s s.size (k + 1) = rl s s.size k ++ [ch s lo j]) := by show _ = _; rw [rl, ← HLO.out, ← HJ.out]
                  generalize ch s lo j = c0 at *
                  go_wp2_with (at_builtin; refine wpList_append_ints _ rfl _ _ 32 rfl w.heap.size 3 Try.underlying32 infoInt V k cv (rl s s.size k) rfl (HO.out.alloc _) _ (some ⟨wr.heap.size, 0, none⟩) 1 1 [c0] rfl (rd_one _ _ _) (by omega) (by have := HB.out.size; simp; omega) ?_; intro V' c' w1 hown hg; have HO' := Lib.hid hown; have HB' := Lib.hid (below_app HB.out HO.out hg); clear hown hg)
                  go_roundw
                  case rel => exact ⟨k + 1, V', c', by congr 1; omega, rfl, by omega, by rw [HRL.out]; exact HO'.out, HB'.out⟩
                  case measure => simp [intOf]; omega
          · have hgt : decide ((0 : Int) < (s.size : Int) - 4 * k) = false := by simp; omega
            have HK : Hid (k = (s.size + 3) / 4) := by show _ = _; omega
            obtain ⟨h1, h2⟩ := readOk_good HBAD.out (allD_good HDG.out)
            have HL1 := Lib.hid h1
            have HL2 := Lib.hid h2
            have HLM := Lib.hid (rl_limbs (s := s) (L := s.size) k (fun i _ hi => HDG.out i hi))
            have HRN : Hid (natOf (rl s s.size k) = readN s) := by show _ = _; unfold readN; rw [← HK.out]
            have HRD := Lib.hid (own_rd' HO.out)
            have hk40 : (k : Int) ≤ 40 := by omega
            clear h1 h2
            go_wp2_with fail
            refine (l01Trim_any _ k _ (rl s s.size k) _ wr HRD.out HLM.out (by omega)).mono ?_
            rintro e w1 ⟨A1, c1, rfl, ho, hb1⟩
            rw [HRN.out] at ho ⊢
            have HO1 := Lib.hid (own_mono ho HB.out.size)
            have HB1 := Lib.hid (HB.out.trans (hb1.mono HB.out.size))
            clear ho hb1
            go_wp2
            go_ret2
            rw [HL1.out, HL2.out]
            exact ⟨A1, c1, rfl, HO1.out, HB1.out⟩
  · have hz1' : (((s[0]'hp0).toNat : Int) == 48) = false := by rw [hb0]; simpa using hz1
    clear hb0 hz1 hz
    go_enter Try.func70, Try.ntmps70
    go_wp2
    go_loop [4] (fun i => ∃ k : Nat, k ≤ s.size ∧ i = .int .i64 k ∧ ∀ j, j < k → digB (byteAt s j) = true) (fun i => s.size - (intOf i).toNat)
    case atStart => exact ⟨0, Nat.zero_le _, rfl, fun j hj => absurd hj (by omega)⟩
    case round =>
      obtain ⟨k, hk, rfl, hall⟩ := hrel
      have HALL := Lib.hid hall
      clear hall
      by_cases hlt : k < s.size
      · have hbk := byteAt_eq s k hlt
        by_cases hd : digB (byteAt s k) = true
        · have HA' : Hid (∀ j, j < k + 1 → digB (byteAt s j) = true) := by
            intro j hj
            by_cases hjk : j = k
            · subst hjk; exact hd
            · exact HALL.out j (by omega)
          rw [← hbk] at hd
          clear hbk HALL
          go_wp2_with (go_at_call 114; refine (l00Digit_any _ _).mono ?_; rintro e w' ⟨rfl, rfl⟩; rw [hd])
          go_round
          case rel => exact ⟨k + 1, by omega, by go_num, HA'.out⟩
          case measure => simp [intOf]; omega
        · have hd' : digB (byteAt s k) = false := by simpa using hd
          obtain ⟨h1, h2⟩ := readOk_form (allD_bad k hlt hd')
          have HL1 := Lib.hid h1
          have HL2 := Lib.hid h2
          rw [← hbk] at hd'
          clear h1 h2 hd hbk HALL
          go_wp2_with (go_at_call 114; refine (l00Digit_any _ _).mono ?_; rintro e w' ⟨rfl, rfl⟩; rw [hd'])
          go_ret2
          rw [HL1.out, HL2.out]
          exact ⟨_, _, rfl, World.ownsRow_lit _ #[] 0 (Nat.le_refl _) (by decide) rfl, (Below.refl _ _).alloc (Nat.le_refl _) _⟩
      · have HDG : Hid (∀ j, j < s.size → digB (byteAt s j) = true) := fun j hj => HALL.out j (by omega)
        clear HALL
        go_wp2
        go_loopw [5, 6] (fun v e wr => ∃ (k : Nat) (V : Option Addr) (cv : Nat), e = .int .i64 ((s.size : Int) - 4 * k) ∧ v = .slice V k cv ∧ 4 * k < s.size + 4 ∧ wr.ownsRow w.heap.size 3 1 (.slice V k cv) k ((rl s s.size k).map (Value.int .i64)) ∧ Below w.heap.size w wr) (fun _ e _ => (intOf e).toNat)
        case atStart => exact ⟨0, _, _, by simp, rfl, by omega, World.ownsRow_lit _ #[] 0 (Nat.le_refl _) (by decide) rfl, (Below.refl _ _).alloc (Nat.le_refl _) _⟩
        case round =>
          obtain ⟨k, V, cv, rfl, rfl, hk4, hown, hbel⟩ := hrel
          have HO := Lib.hid hown
          have HB := Lib.hid hbel
          clear hown hbel
          by_cases hlt4 : 4 * k < s.size
          · obtain ⟨lo, hlo⟩ : ∃ lo, lo = s.size - 4 * (k + 1) := ⟨_, rfl⟩
            have HLO := Lib.hid hlo
            have hlo1 : lo ≤ s.size - 4 * k := by omega
            have hlo2 : s.size - 4 * k ≤ lo + 4 := by omega
            clear hlo
            have hgt : decide ((0 : Int) < (s.size : Int) - 4 * k) = true := by simp; omega
            go_wp2
            all_goals
              go_loop [7, 8] (fun n v => ∃ j : Nat, n = .int .i64 (ch s lo j) ∧ v = .int .i64 ((lo + j : Nat) : Int) ∧ lo + j ≤ s.size - 4 * k) (fun _ v => (s.size - 4 * k) - (intOf v).toNat)
              case atStart =>
                refine ⟨0, rfl, ?_, by omega⟩
                have hlo := HLO.out; congr 1; omega
              case round =>
                obtain ⟨j, rfl, rfl, hj⟩ := hrel
                have hchb := ch_small (s := s) (lo := lo) (k := j) (by omega) (fun i hi => HDG.out _ (by omega))
                by_cases hlt2 : lo + j < s.size - 4 * k
                · have hin : lo + j < s.size := by omega
                  have hbk := byteAt_eq s (lo + j) hin
                  have hltI : decide (((lo + j : Nat) : Int) < (s.size : Int) - 4 * k) = true := by simp; omega
                  have hrange : 48 ≤ byteAt s (lo + j) ∧ byteAt s (lo + j) ≤ 57 := by
                    have := HDG.out _ hin; simp only [digB, Bool.and_eq_true, decide_eq_true_eq] at this; exact this
                  have HCH := Lib.hid (show ch s lo (j + 1) = ch s lo j * 10 + (byteAt s (lo + j) - 48) from rfl)
                  have HBK := Lib.hid hbk
                  rw [← hbk] at hrange
                  clear hbk
                  generalize ch s lo j = c0 at *
                  go_wp2
                  go_round
                  case rel => exact ⟨j + 1, by rw [HCH.out, ← HBK.out]; congr 1; omega, by go_num, by omega⟩
                  case measure => simp [intOf]; omega
                · have hltI : decide (((lo + j : Nat) : Int) < (s.size : Int) - 4 * k) = false := by simp; omega
                  have HJ : Hid (j = s.size - 4 * k - lo) := by show _ = _; omega
                  have HRL : Hid (rl s s.size (k + 1) = rl s s.size k ++ [ch s lo j]) := by show _ = _; rw [rl, ← HLO.out, ← HJ.out]
                  generalize ch s lo j = c0 at *
                  go_wp2_with (at_builtin; refine wpList_append_ints _ rfl _ _ 32 rfl w.heap.size 3 Try.underlying32 infoInt V k cv (rl s s.size k) rfl (HO.out.alloc _) _ (some ⟨wr.heap.size, 0, none⟩) 1 1 [c0] rfl (rd_one _ _ _) (by omega) (by have := HB.out.size; simp; omega) ?_; intro V' c' w1 hown hg; have HO' := Lib.hid hown; have HB' := Lib.hid (below_app HB.out HO.out hg); clear hown hg)
                  go_roundw
                  case rel => exact ⟨k + 1, V', c', by congr 1; omega, rfl, by omega, by rw [HRL.out]; exact HO'.out, HB'.out⟩
                  case measure => simp [intOf]; omega
          · have hgt : decide ((0 : Int) < (s.size : Int) - 4 * k) = false := by simp; omega
            have HK : Hid (k = (s.size + 3) / 4) := by show _ = _; omega
            obtain ⟨h1, h2⟩ := readOk_good HBAD.out (allD_good HDG.out)
            have HL1 := Lib.hid h1
            have HL2 := Lib.hid h2
            have HLM := Lib.hid (rl_limbs (s := s) (L := s.size) k (fun i _ hi => HDG.out i hi))
            have HRN : Hid (natOf (rl s s.size k) = readN s) := by show _ = _; unfold readN; rw [← HK.out]
            have HRD := Lib.hid (own_rd' HO.out)
            have hk40 : (k : Int) ≤ 40 := by omega
            clear h1 h2
            go_wp2_with fail
            refine (l01Trim_any _ k _ (rl s s.size k) _ wr HRD.out HLM.out (by omega)).mono ?_
            rintro e w1 ⟨A1, c1, rfl, ho, hb1⟩
            rw [HRN.out] at ho ⊢
            have HO1 := Lib.hid (own_mono ho HB.out.size)
            have HB1 := Lib.hid (HB.out.trans (hb1.mono HB.out.size))
            clear ho hb1
            go_wp2
            go_ret2
            rw [HL1.out, HL2.out]
            exact ⟨A1, c1, rfl, HO1.out, HB1.out⟩

end Go.Proofs.Ytndeimodphmpkaa
