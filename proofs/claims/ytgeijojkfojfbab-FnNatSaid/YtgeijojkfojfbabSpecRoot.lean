/-
  Roots of the model: l01Root, RootNat.
-/
import Derived.Test.YtgeijojkfojfbabRoot
namespace Nt
theorem D_small (x : Nat) (h : 0 < x) (h2 : x < 10000) : D x = [(x : Int)] := by
  rw [D_pos x h, show x / 10000 = 0 from by omega, D_zero, show x % 10000 = x from by omega]
theorem codeL_nil (xs : List Int) : codeL [xs, []] = codeL [xs] := by
  unfold codeL
  have e1 : okL [] = true := rfl
  simp [e1]
theorem rt_lt_top {m : Nat} (h : m < Top) : rt m < Top := by
  have := rt_le m
  rcases Nat.eq_zero_or_pos (rt m) with h0 | h0
  · rw [h0]; exact npow_pos 40
  · have := Nat.le_mul_of_pos_left (rt m) h0
    omega
end Nt
namespace Go.Proofs.Ytgeijojkfojfbab
open Go Go.RowKit Nt

theorem rd_lit {w : World} (e : TypeId) (x : Nat) (h : 0 < x) (h2 : x < 10000) : Rd (w.alloc (.cells #[.int .i64 (x : Int)] e)) (fun b => b = w.heap.size) (some ⟨w.heap.size, 0, none⟩) 1 1 (D x) := by
  rw [D_small x h h2]
  exact rd_one w e x

set_option maxHeartbeats 1600000 in
theorem l01Root_any (A : Option Addr) (la ca m : Nat) (P : Nat → Prop) (w : World) (hx0 : Rd w P A la ca (D m)) (hla : la ≤ 40) :
    Calls Try.prog 55 #[.slice A la ca] w (RetNew 3 w (D (rt m))) := by
  have hx : Rd w (· < w.heap.size) A la ca (D m) := hx0.mono fun _ _ h => h
  have HX := Lib.hid hx
  have HLA := Lib.hid hx.len
  clear hx0 hx
  have HM : Hid (m < 10000 ^ 40) := (D_len_le m 40).1 (by have := HLA.out; omega)
  go_enter Try.func55, Try.ntmps55
  go_wp2_with fail
  have hb0 : Below w.heap.size w ((w.alloc (.cells #[] 3)).alloc (.cells #[.int .i64 1] 3)) := ((Below.refl _ _).alloc (Nat.le_refl _) _).alloc (by simp) _
  have hlow0 : ((w.alloc (.cells #[] 3)).alloc (.cells #[.int .i64 1] 3)).ownsRow w.heap.size 3 1 (.slice (some ⟨w.heap.size, 0, none⟩) (D 0).length 0) (D 0).length ((D 0).map (Value.int .i64)) := (World.ownsRow_lit w #[] 0 (Nat.le_refl _) (by decide) rfl).alloc _
  have hone : Rd ((w.alloc (.cells #[] 3)).alloc (.cells #[.int .i64 1] 3)) (fun b => b = w.heap.size + 1) (some ⟨w.heap.size + 1, 0, none⟩) 1 1 (D 1) := by
    have := rd_lit (w := w.alloc (.cells #[] 3)) 3 1 (by omega) (by omega)
    rw [World.size_alloc] at this
    exact this
  refine (l01Add_any A (some ⟨w.heap.size + 1, 0, none⟩) la ca 1 1 m 1 _ _ _ (HX.out.below hb0) hone (by omega) (by omega)).mono ?_
  rintro e w1 ⟨V1, c1, rfl, ho1, hb1⟩
  have HLO := Lib.hid (own_keep hlow0 hb1)
  have HHI := Lib.hid ((own_rd' ho1).mono (Q := fun _ => True) fun _ _ _ => trivial)
  have HB1 := Lib.hid (hb0.trans (hb1.mono hb0.size))
  clear hb0 hlow0 hone ho1 hb1
  go_wp2
  go_loopg [3, 4] (m + 1) (fun gk x y wr => ∃ (lo hi : Nat) (V W : Option Addr) (cv cw : Nat), gk = hi - lo ∧ lo < hi ∧ hi ≤ m + 1 ∧ x = .slice V (D lo).length cv ∧ y = .slice W (D hi).length cw ∧ lo * lo ≤ m ∧ m < hi * hi ∧ wr.ownsRow w.heap.size 3 1 (.slice V (D lo).length cv) (D lo).length ((D lo).map (Value.int .i64)) ∧ Rd wr (fun _ => True) W (D hi).length cw (D hi) ∧ Below w.heap.size w wr)
  case atStart =>
    refine ⟨0, m + 1, _, V1, _, c1, by omega, by omega, Nat.le_refl _, rfl, rfl, by omega, ?_, HLO.out, HHI.out, HB1.out⟩
    have := Nat.le_mul_of_pos_left (m + 1) (show 0 < m + 1 by omega)
    omega
  case round =>
    obtain ⟨lo, hi, V, W, cv, cw, hgk, hlh, hhi, rfl, rfl, hl2, hh2, hlo, hrh, hb⟩ := hrel
    have HGK := Lib.hid hgk
    have HL2 := Lib.hid hl2
    have HH2 := Lib.hid hh2
    have HLO' := Lib.hid hlo
    have HRH := Lib.hid hrh
    have HB := Lib.hid hb
    clear hgk hl2 hh2 hlo hrh hb HLO HHI HB1
    have hsz := HB.out.size
    have hll : (D lo).length ≤ 41 := (D_len_le lo 41).2 (by have := HM.out; rw [Nat.pow_succ]; omega)
    have hhl : (D hi).length ≤ 41 := (D_len_le hi 41).2 (by have := HM.out; rw [Nat.pow_succ]; omega)
    go_wp2_with fail
    refine (l01Add_any V W _ cv _ cw lo hi _ _ wr (own_rd' HLO'.out) HRH.out (by omega) (by omega)).mono ?_
    rintro e w1 ⟨V1, c1, rfl, ho1, hb1⟩
    have hsl : (D (lo + hi)).length ≤ 42 := (D_len_le _ 42).2 (by have := HM.out; rw [Nat.pow_succ, Nat.pow_succ]; omega)
    have HO1 := Lib.hid ho1
    have HB1 := Lib.hid hb1
    clear ho1 hb1
    have HBA : Hid (Below w1.heap.size w1 (w1.alloc (.cells #[.int .i64 2] 3))) := (Below.refl _ _).alloc (Nat.le_refl _) _
    have HR1 := Lib.hid (((own_rd' HO1.out).mono (Q := (· < w1.heap.size)) fun _ _ h => h).below HBA.out)
    go_wp2_with fail
    refine (l01Div_any V1 (some ⟨w1.heap.size, 0, none⟩) _ c1 1 1 (lo + hi) 2 _ _ _ (by exact HR1.out) (rd_lit (w := w1) 3 2 (by omega) (by omega)) (by omega) (by omega) (by omega)).mono ?_
    rintro e w2 ⟨V2, c2, A2, c2', rfl, ho2, hr2, hb2⟩
    have hs1 := HB1.out.size
    have HB2 : Hid (Below wr.heap.size wr w2) := by
      have h := HB1.out.trans ((HBA.out.mono hs1).trans ((hb2.mono (by simp)).mono (Nat.le_trans hs1 (show w1.heap.size ≤ w1.heap.size + 1 by omega))))
      exact h
    obtain ⟨mid, hmid⟩ : ∃ mid, mid = (lo + hi) / 2 := ⟨_, rfl⟩
    rw [← hmid] at ho2 ⊢
    have HO2 := Lib.hid (own_mono ho2 (show w.heap.size ≤ (w1.alloc (.cells #[.int .i64 2] 3)).heap.size by simp; omega))
    have HLO2 := Lib.hid (own_keep HLO'.out HB2.out)
    have HRH2 := Lib.hid (HRH.out.keep HB2.out.size fun b _ hbl => HB2.out.block b hbl)
    have HW2 := Lib.hid (HB.out.trans (HB2.out.mono hsz))
    have hml : (D mid).length ≤ 41 := (D_len_le mid 41).2 (by have := HM.out; rw [Nat.pow_succ]; omega)
    have hmid1 : lo ≤ mid := by omega
    have hmid2 : mid < hi := by omega
    have HMID := Lib.hid hmid
    clear ho2 hr2 hb2 HO1 HB1 HBA HR1 HLO' HRH HB HB2 hmid
    go_wp2_with fail
    refine (l01Cmp_any V2 V _ c2 _ cv mid lo _ _ w2 (own_rd' HO2.out) (own_rd' HLO2.out) (by omega) (by omega)).mono ?_
    rintro e w3 ⟨rfl, hd3⟩
    have HO3 := Lib.hid (own_keep HO2.out (hd3.below _))
    have HLO3 := Lib.hid (own_keep HLO2.out (hd3.below _))
    have HRH3 := Lib.hid (hd3.rd HRH2.out)
    have HW3 := Lib.hid (HW2.out.trans (hd3.below _))
    clear hd3 HO2 HLO2 HRH2 HW2
    by_cases heq : mid = lo
    · have hc : cmpI mid lo = 0 := by unfold cmpI; rw [if_neg (by omega), if_pos heq]
      rw [hc]
      have HRT : Hid (lo = rt m) := by
        show _ = _
        have h1 := HMID.out
        have h2 : hi = lo + 1 := by omega
        have h3 := HH2.out
        rw [h2] at h3
        exact rt_unique HL2.out h3
      clear hc
      go_wp2
      go_ret
      rw [← HRT.out]
      exact ⟨V, cv, rfl, HLO3.out, HW3.out⟩
    · rw [cmpI_gt (show lo < mid by omega)]
      go_wp2_with fail
      refine (l01Mul_any V2 V2 _ c2 _ c2 mid mid _ _ w3 (own_rd' HO3.out) (own_rd' HO3.out) (by omega) (by omega)).mono ?_
      rintro e w4 ⟨V4, c4, rfl, ho4, hb4⟩
      have HO4 := Lib.hid ho4
      have HW4 := Lib.hid (HW3.out.trans (hb4.mono HW3.out.size))
      have HM4 := Lib.hid (own_keep HO3.out hb4)
      have HLO4 := Lib.hid (own_keep HLO3.out hb4)
      have HRH4 := Lib.hid (HRH3.out.keep hb4.size fun b _ hbl => hb4.block b hbl)
      have hl4 : (D (mid * mid)).length ≤ 82 := by
        have h1 := (D_len_le mid 41).1 hml
        rw [D_len_le, show 82 = 41 + 41 from rfl, Nat.pow_add]
        exact Nat.mul_lt_mul'' h1 h1
      clear ho4 hb4 HO3 HLO3 HRH3 HW3
      go_wp2_with fail
      refine (l01Cmp_any V4 A _ c4 la ca (mid * mid) m _ _ w4 (own_rd' HO4.out) (HX.out.below HW4.out) (by omega) (by omega)).mono ?_
      rintro e w5 ⟨rfl, hd5⟩
      have HM5 := Lib.hid (own_keep HM4.out (hd5.below _))
      have HLO5 := Lib.hid (own_keep HLO4.out (hd5.below _))
      have HRH5 := Lib.hid (hd5.rd HRH4.out)
      have HW5 := Lib.hid (HW4.out.trans (hd5.below _))
      clear hd5 HM4 HLO4 HRH4 HW4 HO4
      by_cases hle : mid * mid ≤ m
      · obtain ⟨hcz2, hcz⟩ := cmpI_le hle
        generalize cmpI (mid * mid) m = cz at *
        have HLE := Lib.hid hle
        clear hle
        go_wp2
        go_roundg (hi - mid)
        case measure => have := HGK.out; omega
        case rel => exact ⟨mid, hi, V2, W, c2, cw, rfl, hmid2, hhi, rfl, rfl, HLE.out, HH2.out, HM5.out, HRH5.out, HW5.out⟩
      · rw [cmpI_gt (show m < mid * mid by omega)]
        have HLE : Hid (m < mid * mid) := by show _ < _; omega
        clear hle
        go_wp2
        go_roundg (mid - lo)
        case measure => have := HGK.out; omega
        case rel => exact ⟨lo, mid, V, V2, cv, c2, rfl, by omega, by omega, rfl, rfl, HL2.out, HLE.out, HLO5.out, (own_rd' HM5.out).mono (fun _ _ _ => trivial), HW5.out⟩

set_option maxHeartbeats 400000 in
theorem specRootNat_any (la ca : Nat) (A : Option Addr) (xs : List Int) (P : Nat → Prop) (w : World) (hx : Rd w P A la ca xs) (hla : la ≤ 16777216) :
    Calls Try.prog 29 #[.slice A la ca] w (RetCode 3 w (resL (codeL [xs]) (D (rt (natOf xs)))) (codeL [xs])) := by
  have h1 := hx.len
  by_cases ha : 4096 < la
  · have hx2 : codeL [xs] = 2 := codeL_long (N := 1) (xss := fun _ => xs) 0 (by omega) (by show 4096 < xs.length; omega)
    rw [hx2]
    clear h1 hx hx2
    go_enter Try.func29, Try.ntmps29
    go_wp2
    go_ret2
    exact ⟨_, _, rfl, World.ownsRow_lit _ #[] 0 (Nat.le_refl _) (by decide) rfl, (Below.refl _ _).alloc (Nat.le_refl _) _⟩
  have ha' : (la : Int) ≤ 4096 := by omega
  have HR := Lib.hid (hx.mono (Q := (· < w.heap.size)) fun _ _ h => h)
  clear hx h1
  have hb0 : Below w.heap.size w (w.alloc (.cells #[] 3)) := (Below.refl _ _).alloc (Nat.le_refl _) _
  have HB0 := Lib.hid hb0
  have HR0 := Lib.hid (HR.out.below hb0)
  clear hb0
  go_enter Try.func29, Try.ntmps29
  go_wp2_with fail
  refine (l01Ask_any la ca 0 0 A (some ⟨w.heap.size, 0, none⟩) xs [] _ (fun _ => True) _ (by exact HR0.out) (Rd.nil_ _ _ _ _ (fun h => by cases h)) hla (by omega)).mono ?_
  rintro e w1 ⟨rfl, rfl⟩
  rw [codeL_nil]
  by_cases hcode : codeL [xs] = 0
  · have HC := Lib.hid hcode
    obtain ⟨m, hm, rfl⟩ := codeL1_ok hcode
    have hla' : la ≤ 40 := by rw [← HR.out.len]; exact (D_len_le m 40).2 hm
    rw [hcode]
    clear hcode
    go_wp2_with fail
    refine (l01Root_any A la ca m _ _ HR0.out hla').mono ?_
    rintro e w1 ⟨A1, c1, rfl, ho, hb⟩
    have HO := Lib.hid (own_mono ho HB0.out.size)
    have HB := Lib.hid (HB0.out.trans (hb.mono HB0.out.size))
    clear ho hb
    go_wp2
    go_ret2
    rw [HC.out, natOf_D]
    exact ⟨A1, c1, rfl, HO.out, HB.out⟩
  · have HC := Lib.hid hcode
    have hne : (codeL [xs] != 0) = true := by simpa using hcode
    generalize hc : codeL [xs] = c at *
    clear hcode hc
    go_wp2
    go_ret2
    obtain ⟨e1, e2⟩ := res_bad HC.out (D (rt (natOf xs))) 0
    rw [e1]
    have hl := World.ownsRow_lit (base := w.heap.size) (e := 3) (size := 1) (w.alloc (.cells #[] 3)) #[] 0 HB0.out.size (by decide) rfl
    rw [World.size_alloc] at hl
    exact ⟨_, _, rfl, hl, HB0.out.alloc HB0.out.size _⟩
theorem root_len (xs : List Int) : (resL (codeL [xs]) (D (rt (natOf xs)))).length ≤ 40 := by
  by_cases h : codeL [xs] = 0
  · obtain ⟨m, hm, rfl⟩ := codeL1_ok h
    rw [h, natOf_D]
    exact (D_len_le _ 40).2 (rt_lt_top hm)
  · rw [(res_bad h _ 0).1]; simp
end Go.Proofs.Ytgeijojkfojfbab
