/-
  A natural's text reads as the natural.
-/
import Derived.Test.YtliefhkllpmlmabDoorNatTxt
import Derived.Test.YtliefhkllpmlmabDoorReadMath
namespace Nt
open Go Go.RowKit
def dstep (a : Int) (b : UInt8) : Int := a * 10 + ((b.toNat : Int) - 48)
/-- the number that digits write -/
def dvl (l : List UInt8) : Int := l.foldl dstep 0
theorem dvl_snoc (l : List UInt8) (b : UInt8) : dvl (l ++ [b]) = dvl l * 10 + ((b.toNat : Int) - 48) := by simp [dvl, List.foldl_append, dstep]
theorem foldl_pow (l : List UInt8) : ∀ a : Int, l.foldl dstep a = a * 10 ^ l.length + dvl l := by
  induction l with
  | nil => intro a; simp [dvl]
  | cons b l ih =>
    intro a
    unfold dvl
    rw [List.foldl_cons, List.foldl_cons, ih, ih (dstep 0 b), List.length_cons, Int.pow_succ]
    unfold dstep
    have e : (a * 10 + ((b.toNat : Int) - 48)) * 10 ^ l.length = a * (10 ^ l.length * 10) + (0 * 10 + ((b.toNat : Int) - 48)) * 10 ^ l.length := by
      rw [Int.add_mul, Int.zero_mul, Int.zero_add, Int.mul_assoc, Int.mul_comm 10]
    omega
theorem ch_dvl (l : List UInt8) (lo : Nat) : ∀ k, lo + k ≤ l.length → ch ⟨l.toArray⟩ lo k = dvl ((l.drop lo).take k)
  | 0, _ => by simp [ch, dvl]
  | k + 1, h => by
    have hk : k < (l.drop lo).length := by rw [List.length_drop]; omega
    rw [ch, ch_dvl l lo k (by omega), List.take_succ_eq_append_getElem hk, dvl_snoc]
    congr 2
    unfold byteAt
    simp [List.getD, show lo + k < l.length by omega]
theorem byte48 {k : Nat} (h : k < 10) : (UInt8.ofNat (48 + k)).toNat = 48 + k := by rw [UInt8.toNat_ofNat']; omega
theorem dvl_dec (n : Nat) : dvl (Lib.decDigits n) = n := by
  induction n using Nat.strongRecOn with
  | _ n ih =>
    by_cases h : n < 10
    · rw [Lib.decDigits_one h, show [UInt8.ofNat (48 + n)] = [] ++ [UInt8.ofNat (48 + n)] from rfl, dvl_snoc, byte48 h]
      simp [dvl]
      omega
    · rw [Lib.decDigits, dif_neg h, dvl_snoc, ih _ (by omega), byte48 (by omega)]
      omega
def Dig (l : List UInt8) : Prop := ∀ b ∈ l, 48 ≤ b.toNat ∧ b.toNat ≤ 57
theorem dig_dec (n : Nat) : Dig (Lib.decDigits n) := by
  induction n using Nat.strongRecOn with
  | _ n ih =>
    intro b hb
    by_cases h : n < 10
    · rw [Lib.decDigits_one h] at hb
      rw [List.mem_singleton.1 hb, byte48 h]
      omega
    · rw [Lib.decDigits, dif_neg h] at hb
      rcases List.mem_append.1 hb with hb | hb
      · exact ih _ (by omega) b hb
      · rw [List.mem_singleton.1 hb, byte48 (by omega)]
        omega
theorem Dig.drop {l : List UInt8} (h : Dig l) (k : Nat) : Dig (l.drop k) := fun b hb => h b (List.mem_of_mem_drop hb)
theorem Dig.app {a b : List UInt8} (h : Dig a) (k : Dig b) : Dig (a ++ b) := fun x hx => (List.mem_append.1 hx).elim (h x) (k x)
theorem dec_len {n k : Nat} (h1 : 10 ^ k ≤ n) (h2 : n < 10 ^ (k + 1)) : (Lib.decDigits n).length = k + 1 := by rw [Lib.decDigits_length, Lib.nDigits_unique k n h1 h2]
theorem limb4_is {x : Nat} (h : x < 10000) : (limb4 (x : Int)).length = 4 ∧ dvl (limb4 (x : Int)) = x ∧ Dig (limb4 (x : Int)) := by
  have hl : (Lib.decDigits (10000 + x)).length = 5 := dec_len (k := 4) (by omega) (by omega)
  have hv := dvl_dec (10000 + x)
  have hd := dig_dec (10000 + x)
  have e : limb4 (x : Int) = (Lib.decDigits (10000 + x)).drop 1 := rfl
  have h4 : (limb4 (x : Int)).length = 4 := by rw [e, List.length_drop, hl]
  refine ⟨h4, ?_, by rw [e]; exact hd.drop 1⟩
  obtain ⟨b, r, hbr⟩ : ∃ b r, Lib.decDigits (10000 + x) = b :: r := by
    cases hc : Lib.decDigits (10000 + x) with
    | nil => rw [hc] at hl; cases hl
    | cons b r => exact ⟨b, r, rfl⟩
  rw [hbr] at hv hd e
  have er : limb4 (x : Int) = r := by rw [e]; rfl
  have hb := hd b List.mem_cons_self
  rw [er] at h4 ⊢
  have hlt : 0 ≤ dvl r ∧ dvl r < 10000 := by
    have hr : Dig r := fun c hc => hd c (List.mem_cons_of_mem _ hc)
    match r, h4, hr with
    | [a, b, c, d], _, hr =>
      have ha := hr a (by simp)
      have hb := hr b (by simp)
      have hc := hr c (by simp)
      have hd := hr d (by simp)
      simp only [dvl, List.foldl_cons, List.foldl_nil, dstep]
      omega
  have hv2 : dvl (b :: r) = ((b.toNat : Int) - 48) * 10 ^ r.length + dvl r := by
    show (b :: r).foldl dstep 0 = _
    rw [List.foldl_cons, foldl_pow]
    unfold dstep
    rw [Int.zero_mul, Int.zero_add]
  rw [hv2, h4] at hv
  have h10 : (10 : Int) ^ 4 = 10000 := by decide
  rw [h10] at hv
  omega
theorem dec_lead {y : Nat} (h1 : 1 ≤ y) (h2 : y < 10000) : 1 ≤ (Lib.decDigits y).length ∧ (Lib.decDigits y).length ≤ 4 ∧ ((Lib.decDigits y).getD 0 0).toNat ≠ 48 := by
  have key : ∀ k, k ≤ 3 → 10 ^ k ≤ y → y < 10 ^ (k + 1) → (Lib.decDigits y).length = k + 1 ∧ ((Lib.decDigits y).getD 0 0).toNat ≠ 48 := by
    intro k hk a b
    refine ⟨dec_len a b, ?_⟩
    rw [Lib.decDigits_eq, Lib.nDigits_unique k y a b]
    simp only [List.getD, List.range_succ_eq_map, List.map_cons, List.getElem?_cons_zero, Option.getD_some]
    unfold Lib.dg
    have hq : y / 10 ^ (k + 1 - 1 - 0) = y / 10 ^ k := by rw [show k + 1 - 1 - 0 = k by omega]
    rw [hq]
    have q1 : 1 ≤ y / 10 ^ k := Nat.div_pos a (Nat.pow_pos (by decide))
    have q2 : y / 10 ^ k < 10 := by
      rw [Nat.pow_succ] at b
      exact Nat.div_lt_of_lt_mul b
    rw [byte48 (by omega)]
    omega
  rcases Nat.lt_or_ge y 10 with h | h
  · have := key 0 (by omega) (by omega) (by omega); omega
  rcases Nat.lt_or_ge y 100 with h' | h'
  · have := key 1 (by omega) (by omega) (by omega); omega
  rcases Nat.lt_or_ge y 1000 with h'' | h''
  · have := key 2 (by omega) (by omega) (by omega); omega
  · have := key 3 (by omega) (by omega) (by omega); omega
theorem limb_at {xs : List Int} {k : Nat} (hl : Limbs xs) (hk : xs.length = k + 1) {j : Nat} (hj : j ≤ k) : ∃ x : Nat, xs.getD j 0 = (x : Int) ∧ x < 10000 := by
  have := limbs_get hl (k := j) (by omega)
  exact ⟨(xs.getD j 0).toNat, by omega, by omega⟩
theorem txtK_is {xs : List Int} {k y : Nat} (hl : Limbs xs) (hk : xs.length = k + 1) (hy : xs.getD k 0 = (y : Int)) : ∀ m, m ≤ k → (txtK xs m).length = (Lib.decDigits y).length + 4 * m ∧ Dig (txtK xs m)
  | 0, _ => by
    rw [txtK_zero, hk, Nat.add_sub_cancel, hy]
    exact ⟨by simp, dig_dec y⟩
  | m + 1, h => by
    have ih := txtK_is hl hk hy m (by omega)
    obtain ⟨x, hx, hx4⟩ := limb_at hl hk (j := k - 1 - m) (by omega)
    rw [txtK_succ (by omega), show xs.length - 2 - m = k - 1 - m by omega, hx, List.length_append, ih.1, (limb4_is hx4).1]
    exact ⟨by omega, ih.2.app (limb4_is hx4).2.2⟩
theorem txtK_split {xs : List Int} {k : Nat} (hk : xs.length = k + 1) : ∀ p, p ≤ k → ∃ R, txtK xs k = txtK xs (k - p) ++ R
  | 0, _ => ⟨[], by simp⟩
  | p + 1, h => by
    obtain ⟨R, hR⟩ := txtK_split hk p (by omega)
    have e := txtK_succ (xs := xs) (m := k - (p + 1)) (by omega)
    rw [show k - (p + 1) + 1 = k - p by omega] at e
    exact ⟨limb4 (xs.getD (xs.length - 2 - (k - (p + 1))) 0) ++ R, by rw [hR, e, List.append_assoc]⟩
theorem piece {xs : List Int} {k y : Nat} (hl : Limbs xs) (hk : xs.length = k + 1) (hy : xs.getD k 0 = (y : Int)) {p : Nat} (hp : p < k) : ((txtK xs k).drop ((txtK xs k).length - 4 * (p + 1))).take 4 = limb4 (xs.getD p 0) := by
  obtain ⟨R, hR⟩ := txtK_split hk p (by omega)
  have e := txtK_succ (xs := xs) (m := k - p - 1) (by omega)
  rw [show k - p - 1 + 1 = k - p by omega, show xs.length - 2 - (k - p - 1) = p by omega] at e
  obtain ⟨x, hx, hx4⟩ := limb_at hl hk (j := p) (by omega)
  have l1 := (txtK_is hl hk hy k (Nat.le_refl _)).1
  have l2 := (txtK_is hl hk hy (k - p - 1) (by omega)).1
  have l4 : (limb4 (xs.getD p 0)).length = 4 := by rw [hx]; exact (limb4_is hx4).1
  have hd : (txtK xs k).length - 4 * (p + 1) = (txtK xs (k - p - 1)).length := by rw [l1, l2]; omega
  rw [hd, hR, e, List.append_assoc, List.drop_left, ← l4, List.take_left]
theorem rl_txt {xs : List Int} {k y : Nat} (hl : Limbs xs) (hk : xs.length = k + 1) (hy : xs.getD k 0 = (y : Int)) (h4 : (Lib.decDigits y).length ≤ 4) : ∀ p, p ≤ k → rl ⟨(txtK xs k).toArray⟩ (txtK xs k).length p = xs.take p
  | 0, _ => by simp [rl]
  | p + 1, h => by
    have l1 := (txtK_is hl hk hy k (Nat.le_refl _)).1
    obtain ⟨x, hx, hx4⟩ := limb_at hl hk (j := p) (by omega)
    have hpl : p < xs.length := by omega
    rw [rl, rl_txt hl hk hy h4 p (by omega), List.take_succ_eq_append_getElem hpl]
    congr 2
    rw [show (txtK xs k).length - 4 * p - ((txtK xs k).length - 4 * (p + 1)) = 4 by omega, ch_dvl _ _ _ (by omega), piece hl hk hy (by omega), hx, (limb4_is hx4).2.1, ← hx]
    simp [List.getD, hpl]
theorem rl_all {xs : List Int} {k y : Nat} (hl : Limbs xs) (hk : xs.length = k + 1) (hy : xs.getD k 0 = (y : Int)) (h4 : (Lib.decDigits y).length ≤ 4) (h1 : 1 ≤ (Lib.decDigits y).length) : rl ⟨(txtK xs k).toArray⟩ (txtK xs k).length (((txtK xs k).length + 3) / 4) = xs := by
  have l1 := (txtK_is hl hk hy k (Nat.le_refl _)).1
  obtain ⟨R, hR⟩ := txtK_split hk k (Nat.le_refl _)
  rw [Nat.sub_self, txtK_zero, hk, Nat.add_sub_cancel, hy] at hR
  have hR : txtK xs k = Lib.decDigits y ++ R := hR
  rw [show ((txtK xs k).length + 3) / 4 = k + 1 by omega, rl, rl_txt hl hk hy h4 k (Nat.le_refl _), show (txtK xs k).length - 4 * (k + 1) = 0 by omega, show (txtK xs k).length - 4 * k - 0 = (Lib.decDigits y).length by omega, ch_dvl _ _ _ (by omega)]
  rw [List.drop_zero]
  have e : (txtK xs k).take (Lib.decDigits y).length = Lib.decDigits y := by rw [hR, List.take_left]
  rw [e, dvl_dec]
  have hkl : k < xs.length := by omega
  have := List.take_succ_eq_append_getElem hkl
  rw [List.take_of_length_le (by omega)] at this
  rw [← hy]
  conv => rhs; rw [this]
  simp [List.getD, hkl]
theorem digB_of {l : List UInt8} (h : Dig l) {i : Nat} (hi : i < l.length) : digB (byteAt ⟨l.toArray⟩ i) = true := by
  have := h l[i] (List.getElem_mem hi)
  unfold digB byteAt
  simp [List.getD, hi]
  omega
/-- a natural's text, read -/
theorem read_txt {m : Nat} (hm : m < Top) : readL ⟨(txtN (D m)).toArray⟩ = D m ∧ readC ⟨(txtN (D m)).toArray⟩ = 0 ∧ (txtN (D m)).length ≤ 160 ∧ 1 ≤ (txtN (D m)).length := by
  by_cases h0 : D m = []
  · have e : txtN (D m) = [48] := by unfold txtN; rw [if_pos h0]
    rw [e, h0]
    exact ⟨by decide +kernel, by decide +kernel, by simp, by simp⟩
  · have hlp : 0 < (D m).length := List.length_pos_iff.2 h0
    have hl40 := (D_len_le m 40).2 hm
    obtain ⟨k, hk⟩ : ∃ k, (D m).length = k + 1 := ⟨(D m).length - 1, by omega⟩
    have e : txtN (D m) = txtK (D m) k := by unfold txtN; rw [if_neg h0, hk]; rfl
    obtain ⟨y, hy, hy4⟩ := limb_at (limbs_D m) hk (j := k) (Nat.le_refl _)
    have hy1 : 1 ≤ y := by
      rcases last_D m with h | h
      · exact absurd h h0
      · rw [hk, Nat.add_sub_cancel, hy] at h
        omega
    obtain ⟨d1, d2, d3⟩ := dec_lead hy1 hy4
    have hi := txtK_is (limbs_D m) hk hy k (Nat.le_refl _)
    have hsz : (⟨(txtK (D m) k).toArray⟩ : ByteArray).size = (txtK (D m) k).length := rfl
    have hL : (txtK (D m) k).length ≤ 160 := by omega
    rw [e]
    have hbad : ¬ badT ⟨(txtK (D m) k).toArray⟩ := by
      unfold badT
      rw [hsz]
      rintro (h | h | ⟨h, _⟩)
      · omega
      · omega
      · obtain ⟨R, hR⟩ := txtK_split hk k (Nat.le_refl _)
        rw [Nat.sub_self, txtK_zero, hk, Nat.add_sub_cancel, hy] at hR
        have hR : txtK (D m) k = Lib.decDigits y ++ R := hR
        apply d3
        unfold byteAt at h
        have h : ((txtK (D m) k).getD 0 0).toNat = 48 := by
          have h' : (((txtK (D m) k).getD 0 0).toNat : Int) = 48 := by simpa using h
          omega
        rw [hR] at h
        have : (Lib.decDigits y ++ R).getD 0 0 = (Lib.decDigits y).getD 0 0 := by simp [List.getD, List.getElem?_append_left (show 0 < (Lib.decDigits y).length by omega)]
        rwa [this] at h
    have hall : allD ⟨(txtK (D m) k).toArray⟩ = true := allD_good fun i hi' => digB_of hi.2 (by rw [hsz] at hi'; exact hi')
    obtain ⟨r1, r2⟩ := read_good (s := ⟨(txtK (D m) k).toArray⟩) (by rw [hsz]; omega) hbad hall
    refine ⟨?_, r2, hL, by omega⟩
    rw [r1]
    unfold readN
    rw [hsz, rl_all (limbs_D m) hk hy d2 d1, natOf_D]
/-- a nought ahead is told -/
theorem read_nought {l : List UInt8} (h1 : 1 ≤ l.length) (h2 : l.length ≤ 160) : readL ⟨(48 :: l).toArray⟩ = [] ∧ readC ⟨(48 :: l).toArray⟩ = 3 := by
  have hsz : (⟨(48 :: l).toArray⟩ : ByteArray).size = l.length + 1 := rfl
  refine read_bad (by rw [hsz]; omega) ?_
  unfold badT
  rw [hsz]
  exact .inr (.inr ⟨rfl, by omega⟩)
end Nt
