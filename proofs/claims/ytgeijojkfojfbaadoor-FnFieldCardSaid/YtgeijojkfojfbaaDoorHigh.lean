/-
  How often one goes into another, guessed: highValue, guessTimes.
-/
import Derived.Test.YtgeijojkfojfbaaDoorTakeX
import Derived.Test.YtgeijojkfojfbaaDoorDivMath
namespace Nt
open Go
/-- a guess that is not too high -/
def Guess (n : Nat) (v : Int) (e : Ending) : Prop := ∃ t : Int, 0 ≤ t ∧ t ≤ 9999 ∧ (n : Int) * t ≤ v ∧ e = .returned (.int .i64 t)
end Nt
namespace Go.Proofs.YtgeijojkfojfbaaDoor
open Go Go.RowKit Nt

set_option maxHeartbeats 400000 in
theorem highValue_any (A : Option Addr) (n c low : Nat) (xs : List Int) (P : Nat → Prop) (w : World) (hr : Rd w P A n c xs) (hl : Limbs xs) (hlow : low ≤ n) (hn : n ≤ low + 4) (hn2 : n ≤ 10000) :
    Calls Tryd.prog 87 #[.slice A n c, .int .i64 (low : Int)] w fun e w' => e = .returned (.int .i64 (vd xs low)) ∧ w = w' := by
  have HL := Lib.hid hl
  have HN := Lib.hid hr.len
  clear hl
  go_enter Tryd.func87, Tryd.ntmps87
  go_wp2
  go_loop [5, 6] (fun v p => ∃ k : Nat, low ≤ k ∧ k ≤ n ∧ p = .int .i64 ((k : Int) - 1) ∧ v = .int .i64 (vd xs k)) (fun _ p => (intOf p + 1).toNat)
  case atStart => exact ⟨n, hlow, Nat.le_refl _, rfl, by rw [vd_end xs n (by have := HN.out; omega)]⟩
  case round =>
    obtain ⟨k, hk1, hk2, rfl, rfl⟩ := hrel
    have hv0 := vd_nonneg HL.out k
    by_cases hlt : low < k
    · obtain ⟨k, rfl⟩ : ∃ j, k = j + 1 := ⟨k - 1, by omega⟩
      obtain ⟨b, o, rfl, hP, _, hc⟩ := hr.at_ (by omega)
      have hcx := hc k (by omega)
      have hb := limbs_getD HL.out k
      have hv1 := vd_small HL.out (k + 1) (by have := HN.out; omega)
      have HS := Lib.hid (vd_step xs k)
      have ek : ((k + 1 : Nat) : Int) - 1 = (k : Int) := by omega
      rw [ek]
      generalize xs.getD k 0 = x at *
      generalize vd xs (k + 1) = v at *
      clear hc hr ek
      have hlk : (low : Int) ≤ k := by omega
      have hkn : (k : Int) < n := by omega
      go_wp2
      go_round
      case rel => exact ⟨k, by omega, by omega, by go_num, by rw [HS.out]; go_num⟩
      case measure => simp [intOf]
    · obtain rfl : k = low := by omega
      generalize hvv : vd xs k = v at *
      have HVV := Lib.hid hvv
      clear hr hvv
      go_wp2
      go_ret
      exact ⟨ret_int HVV.out.symm, rfl⟩

set_option maxHeartbeats 400000 in
theorem guessTimes_any (A B : Option Addr) (nz cz lb cb n : Nat) (zs : List Int) (P Q : Nat → Prop) (w : World) (hz : Rd w P A nz cz zs) (hb : Rd w Q B lb cb (D n)) (hl : Limbs zs) (hn0 : 0 < n) (h1 : lb ≤ nz) (h2 : nz ≤ lb + 1) (hlb : lb ≤ 1000) (hv : val zs < 10000 * n) :
    Calls Tryd.prog 80 #[.slice A nz cz, .slice B lb cb] w fun e w' => Guess n (val zs) e ∧ w = w' := by
  have HZ := Lib.hid hz
  have HB := Lib.hid hb
  have HL := Lib.hid hl
  have HV := Lib.hid hv
  have HZL := Lib.hid hz.len
  have HBL := Lib.hid hb.len
  clear hz hb hl hv
  by_cases h3 : lb < 3
  · have hneg : (lb : Int) - 3 < 0 := by omega
    have hd0 := vd_nonneg (limbs_D n) 0
    have hz0 := vd_nonneg HL.out 0
    have hd1 := vd_small (limbs_D n) 0 (by have := HBL.out; omega)
    have hz1 := vd_small4 HL.out 0 (by have := HZL.out; omega)
    have HG := Lib.hid (guess_low (zs := zs) n hn0)
    have HE : Hid (vd zs 0 = val zs ∧ vd (D n) 0 = n) := ⟨rfl, by rw [vd_zero, val_D]⟩
    have hdp : 0 < vd (D n) 0 := by have := HE.out.2; omega
    go_enter Tryd.func80, Tryd.ntmps80
    go_wp2_with fail
    refine (highValue_any B lb cb 0 (D n) _ w HB.out (limbs_D n) (by omega) (by omega) (by omega)).mono ?_
    rintro e w1 ⟨rfl, rfl⟩
    generalize vd (D n) 0 = d at *
    go_wp2_with fail
    refine (highValue_any A nz cz 0 zs _ w HZ.out HL.out (by omega) (by omega) (by omega)).mono ?_
    rintro e w1 ⟨rfl, rfl⟩
    generalize vd zs 0 = v at *
    go_wp2
    go_ret
    obtain ⟨e1, e2⟩ := HE.out
    have hg := HG.out
    refine ⟨⟨v / d, Int.ediv_nonneg hz0 (by omega), ?_, ?_, rfl⟩, rfl⟩
    · rw [e1, e2]; exact guess_lt hg HV.out
    · rw [e1, e2]; exact hg
  obtain ⟨low, rfl⟩ : ∃ low, lb = low + 3 := ⟨lb - 3, by omega⟩
  by_cases hl0 : low = 0
  · subst hl0
    have hd0 := vd_nonneg (limbs_D n) 0
    have hz0 := vd_nonneg HL.out 0
    have hd1 := vd_small (limbs_D n) 0 (by have := HBL.out; omega)
    have hz1 := vd_small4 HL.out 0 (by have := HZL.out; omega)
    have HG := Lib.hid (guess_low (zs := zs) n hn0)
    have HE : Hid (vd zs 0 = val zs ∧ vd (D n) 0 = n) := ⟨rfl, by rw [vd_zero, val_D]⟩
    have hdp : 0 < vd (D n) 0 := by have := HE.out.2; omega
    go_enter Tryd.func80, Tryd.ntmps80
    go_wp2_with fail
    refine (highValue_any B (0 + 3) cb 0 (D n) _ w HB.out (limbs_D n) (by omega) (by omega) (by omega)).mono ?_
    rintro e w1 ⟨rfl, rfl⟩
    generalize vd (D n) 0 = d at *
    go_wp2_with fail
    refine (highValue_any A nz cz 0 zs _ w HZ.out HL.out (by omega) (by omega) (by omega)).mono ?_
    rintro e w1 ⟨rfl, rfl⟩
    generalize vd zs 0 = v at *
    go_wp2
    go_ret
    obtain ⟨e1, e2⟩ := HE.out
    have hg := HG.out
    refine ⟨⟨v / d, Int.ediv_nonneg hz0 (by omega), ?_, ?_, rfl⟩, rfl⟩
    · rw [e1, e2]; exact guess_lt hg HV.out
    · rw [e1, e2]; exact hg
  · have hd0 := vd_nonneg (limbs_D n) low
    have hz0 := vd_nonneg HL.out low
    have hd1 := vd_small (limbs_D n) low (by have := HBL.out; omega)
    have hz1 := vd_small4 HL.out low (by have := HZL.out; omega)
    have HG := Lib.hid (guess_high HL.out n low)
    have hlow : (0 : Int) < low := by omega
    go_enter Tryd.func80, Tryd.ntmps80
    go_wp2_with fail
    refine (highValue_any B (low + 3) cb low (D n) _ w HB.out (limbs_D n) (by omega) (by omega) (by omega)).mono ?_
    rintro e w1 ⟨rfl, rfl⟩
    generalize vd (D n) low = d at *
    go_wp2_with fail
    refine (highValue_any A nz cz low zs _ w HZ.out HL.out (by omega) (by omega) (by omega)).mono ?_
    rintro e w1 ⟨rfl, rfl⟩
    generalize vd zs low = v at *
    go_wp2
    go_ret
    have hg := HG.out
    exact ⟨⟨v / (d + 1), Int.ediv_nonneg hz0 (by omega), guess_lt hg HV.out, hg, rfl⟩, rfl⟩
end Go.Proofs.YtgeijojkfojfbaaDoor
