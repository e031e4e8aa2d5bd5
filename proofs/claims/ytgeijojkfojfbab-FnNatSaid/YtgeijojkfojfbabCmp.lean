/-
  Orders: two naturals are held against each other.
-/
import Derived.Test.YtgeijojkfojfbabOk
namespace Go.Proofs.Ytgeijojkfojfbab
open Go Go.RowKit Nt

set_option maxHeartbeats 400000 in
theorem compare_any (a b : Int) (w : World) : Calls Try.prog 62 #[.int .i64 a, .int .i64 b] w fun e w' => e = .returned (.int .i64 (cmpZ a b)) ∧ w = w' := by
  have ha : (a != a) = false := by simp
  have hb : (b != b) = false := by simp
  by_cases h1 : a < b
  · have HC : Hid (cmpZ a b = -1) := by show _ = _; unfold cmpZ; rw [if_pos h1]
    go_enter Try.func62, Try.ntmps62
    go_wp2
    go_ret
    exact ⟨ret_int HC.out.symm, rfl⟩
  · by_cases h2 : b < a
    · have HC : Hid (cmpZ a b = 1) := by show _ = _; unfold cmpZ; rw [if_neg h1, if_pos h2]
      go_enter Try.func62, Try.ntmps62
      go_wp2
      go_ret
      exact ⟨ret_int HC.out.symm, rfl⟩
    · have HC : Hid (cmpZ a b = 0) := by show _ = _; unfold cmpZ; rw [if_neg h1, if_neg h2]
      go_enter Try.func62, Try.ntmps62
      go_wp2
      go_ret
      exact ⟨ret_int HC.out.symm, rfl⟩

set_option maxHeartbeats 800000 in
theorem compareLimbs_any (A A' : Option Addr) (la c la' c' m n : Nat) (P P' : Nat → Prop) (w : World) (hr : Rd w P A la c (D m)) (hr' : Rd w P' A' la' c' (D n)) (hn : la ≤ 16777216) (hn' : la' ≤ 16777216) :
    Calls Try.prog 44 #[.slice A la c, .slice A' la' c'] w fun e w' => e = .returned (.int .i64 (cmpI m n)) ∧ Drawn w w' := by
  have hl := hr.len
  have hl' := hr'.len
  by_cases hne : la = la'
  · subst hne
    have hne' : ((la : Int) != (la : Int)) = false := by simp
    have HL : Hid ((D m).length = (D n).length) := by show _ = _; omega
    have HM := Lib.hid hl
    clear hl hl'
    go_enter Try.func44, Try.ntmps44
    go_wp2
    go_loopw [5] (fun i wr => ∃ k : Nat, k ≤ la ∧ i = .int .i64 ((k : Int) - 1) ∧ (∀ j, k ≤ j → j < (D m).length → (D m).getD j 0 = (D n).getD j 0) ∧ Drawn w wr) (fun i _ => (intOf i + 1).toNat)
    case atStart => exact ⟨la, Nat.le_refl _, rfl, fun j h1 h2 => absurd h2 (by have := HM.out; omega), Drawn.refl _⟩
    case round =>
      obtain ⟨k, hk, rfl, hall, hq⟩ := hrel
      have HQ := Lib.hid hq
      have HA := Lib.hid hall
      clear hall
      by_cases hlt : 0 < k
      · obtain ⟨k, rfl⟩ : ∃ j, k = j + 1 := ⟨k - 1, by omega⟩
        obtain ⟨b, o, rfl, hP, _, hc⟩ := hr.at_ (by omega)
        obtain ⟨b', o', rfl, hP', _, hc'⟩ := hr'.at_ (by omega)
        have hcx : wr.cell? ⟨b, o + k, none⟩ = some (.int .i64 ((D m).getD k 0)) := hq.cell (hc k (by omega))
        have hcy : wr.cell? ⟨b', o' + k, none⟩ = some (.int .i64 ((D n).getD k 0)) := hq.cell (hc' k (by omega))
        have ek : ((k + 1 : Nat) : Int) - 1 = (k : Int) := by omega
        rw [ek]
        have hlt' : (k : Int) < (la : Int) := by omega
        have hge : (0 : Int) ≤ (k : Int) := by omega
        by_cases hxy : (D m).getD k 0 = (D n).getD k 0
        · have HA' : Hid (∀ j, k ≤ j → j < (D m).length → (D m).getD j 0 = (D n).getD j 0) := by
            intro j h1 h2
            by_cases hjk : j = k
            · subst hjk; exact hxy
            · exact HA.out j (by omega) h2
          rw [← hxy] at hcy
          generalize (D m).getD k 0 = x at *
          have hxx : ((x : Int) != x) = false := by simp
          clear hc hc' hr hr' hP hP' HA hxy ek hq
          go_wp2
          go_quiet (fail)
          go_wp2
          go_roundw
          case rel => exact ⟨k, by omega, by go_num, HA'.out, HQ.out.more _⟩
          case measure => simp [intOf]
        · have HC := Lib.hid (D_cmp HL.out k (by have := HM.out; omega) (fun j h1 h2 => HA.out j (by omega) h2) hxy)
          have hxy' : ((D m).getD k 0 != (D n).getD k 0) = true := by simpa using hxy
          generalize (D m).getD k 0 = x at *
          generalize (D n).getD k 0 = y at *
          clear hc hc' hr hr' hP hP' HA hxy ek hq
          go_wp2
          go_quiet (fail)
          go_wp2
          go_quiet ((go_at_call 62; exact quiet_add_left (compare_any _ _ _)))
          go_wp2
          go_ret
          exact ⟨ret_int HC.out, (HQ.out.more _).more _⟩
      · obtain rfl : k = 0 := by omega
        have HC := Lib.hid (D_same HL.out (fun j h => HA.out j (by omega) h))
        clear hr hr' hq
        go_wp2
        go_ret
        exact ⟨ret_int HC.out.symm, HQ.out⟩
  · have HC := Lib.hid (cmp_len (m := m) (n := n) (by omega))
    have hne' : ((la : Int) != (la' : Int)) = true := by rw [bne_iff_ne]; omega
    have HL : Hid ((D m).length = la ∧ (D n).length = la') := ⟨hl, hl'⟩
    clear hr hr' hl hl' hne
    go_enter Try.func44, Try.ntmps44
    go_wp2_with (go_at_call 62; refine (compare_any _ _ _).mono ?_; rintro e w' ⟨rfl, rfl⟩)
    go_ret
    refine ⟨ret_int ?_, Drawn.refl _⟩
    rw [← HC.out, HL.out.1, HL.out.2]
theorem bitZ_bd (b : Bool) : 0 ≤ bitZ b ∧ bitZ b ≤ 1 := by cases b <;> simp [bitZ]
theorem l01Bit_any (b : Bool) (w : World) : Calls Try.prog 65 #[.bool b] w fun e w' => e = .returned (.int .i64 (bitZ b)) ∧ w = w' := by
  cases b
  · go_enter Try.func65, Try.ntmps65
    go_wp2
    go_ret
    exact ⟨rfl, rfl⟩
  · go_enter Try.func65, Try.ntmps65
    go_wp2
    go_ret
    exact ⟨rfl, rfl⟩

set_option maxHeartbeats 800000 in
theorem l01Cmp_any (A A' : Option Addr) (la c la' c' m n : Nat) (P P' : Nat → Prop) (w : World) (hr : Rd w P A la c (D m)) (hr' : Rd w P' A' la' c' (D n)) (hn : la ≤ 16777216) (hn' : la' ≤ 16777216) :
    Calls Try.prog 56 #[.slice A la c, .slice A' la' c'] w fun e w' => e = .returned (.int .i64 (cmpI m n)) ∧ Drawn w w' := by
  have hl := hr.len
  have hl' := hr'.len
  by_cases hne : la = la'
  · subst hne
    have hne' : ((la : Int) != (la : Int)) = false := by simp
    have HL : Hid ((D m).length = (D n).length) := by show _ = _; omega
    have HM := Lib.hid hl
    clear hl hl'
    go_enter Try.func56, Try.ntmps56
    go_wp2
    go_loopw [5] (fun i wr => ∃ k : Nat, k ≤ la ∧ i = .int .i64 ((k : Int) - 1) ∧ (∀ j, k ≤ j → j < (D m).length → (D m).getD j 0 = (D n).getD j 0) ∧ Drawn w wr) (fun i _ => (intOf i + 1).toNat)
    case atStart => exact ⟨la, Nat.le_refl _, rfl, fun j h1 h2 => absurd h2 (by have := HM.out; omega), Drawn.refl _⟩
    case round =>
      obtain ⟨k, hk, rfl, hall, hq⟩ := hrel
      have HQ := Lib.hid hq
      have HA := Lib.hid hall
      clear hall
      by_cases hlt : 0 < k
      · obtain ⟨k, rfl⟩ : ∃ j, k = j + 1 := ⟨k - 1, by omega⟩
        obtain ⟨b, o, rfl, hP, _, hc⟩ := hr.at_ (by omega)
        obtain ⟨b', o', rfl, hP', _, hc'⟩ := hr'.at_ (by omega)
        have hcx : wr.cell? ⟨b, o + k, none⟩ = some (.int .i64 ((D m).getD k 0)) := hq.cell (hc k (by omega))
        have hcy : wr.cell? ⟨b', o' + k, none⟩ = some (.int .i64 ((D n).getD k 0)) := hq.cell (hc' k (by omega))
        have ek : ((k + 1 : Nat) : Int) - 1 = (k : Int) := by omega
        rw [ek]
        have hlt' : (k : Int) < (la : Int) := by omega
        have hge : (0 : Int) ≤ (k : Int) := by omega
        by_cases hxy : (D m).getD k 0 = (D n).getD k 0
        · have HA' : Hid (∀ j, k ≤ j → j < (D m).length → (D m).getD j 0 = (D n).getD j 0) := by
            intro j h1 h2
            by_cases hjk : j = k
            · subst hjk; exact hxy
            · exact HA.out j (by omega) h2
          rw [← hxy] at hcy
          generalize (D m).getD k 0 = x at *
          have hxx : ((x : Int) != x) = false := by simp
          clear hc hc' hr hr' hP hP' HA hxy ek hq
          go_wp2
          go_quiet (fail)
          go_wp2
          go_roundw
          case rel => exact ⟨k, by omega, by go_num, HA'.out, HQ.out.more _⟩
          case measure => simp [intOf]
        · have HC := Lib.hid (D_cmp HL.out k (by have := HM.out; omega) (fun j h1 h2 => HA.out j (by omega) h2) hxy)
          have hxy' : ((D m).getD k 0 != (D n).getD k 0) = true := by simpa using hxy
          generalize (D m).getD k 0 = x at *
          generalize (D n).getD k 0 = y at *
          have HB := Lib.hid (bit_cmp x y hxy)
          have hb1 := bitZ_bd (decide (y < x))
          obtain ⟨hb1, hb2⟩ := hb1
          have hw1 : IntKind.i64.wrap (2 * bitZ (decide (y < x))) = 2 * bitZ (decide (y < x)) := IntWalk.i64_in _ (by omega)
          have hw2 : IntKind.i64.wrap (2 * bitZ (decide (y < x)) - 1) = 2 * bitZ (decide (y < x)) - 1 := IntWalk.i64_in _ (by omega)
          clear hc hc' hr hr' hP hP' HA hxy ek hq
          go_wp2
          go_quiet (fail)
          go_wp2
          go_quiet ((go_at_call 65; exact quiet_add_left (l01Bit_any _ _)))
          go_wp2
          go_ret
          exact ⟨ret_int (HB.out.trans HC.out), (HQ.out.more _).more _⟩
      · obtain rfl : k = 0 := by omega
        have HC := Lib.hid (D_same HL.out (fun j h => HA.out j (by omega) h))
        clear hr hr' hq
        go_wp2
        go_ret
        exact ⟨ret_int HC.out.symm, HQ.out⟩
  · have HC := Lib.hid (cmp_len (m := m) (n := n) (by omega))
    have hne' : ((la : Int) != (la' : Int)) = true := by rw [bne_iff_ne]; omega
    have HL : Hid ((D m).length = la ∧ (D n).length = la') := ⟨hl, hl'⟩
    have HN : Hid ((la : Int) ≠ la') := by show (la : Int) ≠ la'; omega
    clear hr hr' hl hl' hne
    go_enter Try.func56, Try.ntmps56
    go_wp2_with (go_at_call 65; refine (l01Bit_any _ _).mono ?_; rintro e w' ⟨rfl, rfl⟩; have hb1 := bitZ_bd (decide (la' < la)); obtain ⟨hb1, hb2⟩ := hb1)
    go_ret
    refine ⟨ret_int ?_, Drawn.refl _⟩
    rw [← HC.out, HL.out.1, HL.out.2, ← bit_cmp _ _ HN.out, show decide ((la' : Int) < (la : Int)) = decide (la' < la) from by simp]

theorem rangeAny_no {N : Nat} {p : Nat → Bool} (h : ∀ j, j < N → p j = false) : (List.range N).any p = false := by
  rw [List.any_eq_false]
  intro x hx
  rw [h x (List.mem_range.1 hx)]
  simp
theorem rangeAny_yes {N : Nat} {p : Nat → Bool} {k : Nat} (hk : k < N) (h : p k = true) : (List.range N).any p = true := List.any_eq_true.2 ⟨k, List.mem_range.2 hk, h⟩
set_option maxHeartbeats 800000 in
theorem anyLongInt_any (g N : Nat) (A : Nat → Option Addr) (n c : Nat → Nat) (w : World) (hN : N ≤ 1000) (h0 : ∀ i, i < N → w.cell? ⟨g, i, none⟩ = some (.slice (A i) (n i) (c i))) (hn : ∀ i, i < N → n i ≤ 16777216) :
    Calls Try.prog 60 #[.slice (some ⟨g, 0, none⟩) N N] w fun e w' => e = .returned (.bool ((List.range N).any fun i => decide (4096 < n i))) ∧ w = w' := by
  have H0 := Lib.hid h0
  have HN := Lib.hid hn
  clear h0 hn
  go_enter Try.func60, Try.ntmps60
  go_wp2
  go_loop [4, 7] (fun _ i => ∃ k : Nat, k ≤ N ∧ i = .int .i64 k ∧ Hid (∀ j, j < k → n j ≤ 4096)) (fun _ i => N - (intOf i).toNat)
  case atStart => exact ⟨0, Nat.zero_le _, rfl, Lib.hid fun j hj => by omega⟩
  case round =>
    obtain ⟨k, hk, rfl, HK⟩ := hrel
    by_cases hlt : k < N
    · have c0 := H0.out k hlt
      have hkN : (k : Int) < N := by omega
      have hnk := HN.out k hlt
      have HS : Hid (n k ≤ 4096 → ∀ j, j < k + 1 → n j ≤ 4096) := fun h j hj => by
        by_cases e : j = k
        · subst e; exact h
        · exact HK.out j (by omega)
      have HY : Hid (4096 < n k → (List.range N).any (fun i => decide (4096 < n i)) = true) := fun h => rangeAny_yes hlt (by simpa using h)
      generalize n k = m at *
      generalize A k = B at *
      generalize c k = d at *
      by_cases hb : 4096 < m
      · have hb' : decide ((4096 : Int) < m) = true := by simp; omega
        have HF := Lib.hid (HY.out hb)
        clear HY HS
        go_wp2
        go_ret
        exact ⟨ret_bool HF.out.symm, rfl⟩
      · have hb' : decide ((4096 : Int) < m) = false := by simp; omega
        have HF := Lib.hid (HS.out (by omega))
        clear HY HS
        go_wp2
        go_round
        case rel => exact ⟨k + 1, by omega, by go_num, HF⟩
        case measure => simp [intOf]; omega
    · have HF : Hid ((List.range N).any (fun i => decide (4096 < n i)) = false) := rangeAny_no fun j hj => by simpa using HK.out j (by omega)
      clear HK
      go_wp2
      go_ret
      exact ⟨ret_bool HF.out.symm, rfl⟩
set_option maxHeartbeats 800000 in
theorem natCode_any (g N : Nat) (As : Nat → Option Addr) (ns cs : Nat → Nat) (xss : Nat → List Int) (P : Nat → Prop) (w : World) (hN : N ≤ 1000)
    (hcell : ∀ i, i < N → w.cell? ⟨g, i, none⟩ = some (.slice (As i) (ns i) (cs i))) (hrd : ∀ i, i < N → Rd w P (As i) (ns i) (cs i) (xss i)) (hns : ∀ i, i < N → ns i ≤ 16777216) :
    Calls Try.prog 38 #[.slice (some ⟨g, 0, none⟩) N N] w fun e w' => e = .returned (.int .i64 (codeL ((List.range N).map xss))) ∧ w = w' := by
  have HC := Lib.hid hcell
  have HR := Lib.hid hrd
  have HS := Lib.hid hns
  clear hcell hrd hns
  go_enter Try.func38, Try.ntmps38
  go_wp2_with fail
  refine (anyLongInt_any g N As ns cs w hN HC.out HS.out).mono ?_
  rintro e w1 ⟨rfl, rfl⟩
  by_cases hl : (List.range N).any (fun i => decide (4096 < ns i)) = true
  · have HX : Hid (codeL ((List.range N).map xss) = 2) := by
      obtain ⟨k, hk, hb⟩ := List.any_eq_true.1 hl
      have hlt := List.mem_range.1 hk
      exact codeL_long (N := N) (xss := xss) k hlt (by have := (HR.out k hlt).len; have := of_decide_eq_true hb; omega)
    rw [hl]
    clear hl
    go_wp2
    go_ret
    exact ⟨ret_int HX.out.symm, rfl⟩
  have HA : Hid (∀ j, j < N → (xss j).length ≤ 4096) := fun j hj => by
    have := (HR.out j hj).len
    rcases Nat.lt_or_ge 4096 (ns j) with hb | hb
    · exact absurd (rangeAny_yes hj (decide_eq_true hb)) hl
    · omega
  rw [(Bool.not_eq_true _).mp hl]
  clear hl
  go_wp2
  go_loop [9] (fun i => ∃ j : Nat, j ≤ N ∧ i = .int .i64 j ∧ ∀ i, i < j → okL (xss i) = true) (fun i => N - (intOf i).toNat)
  case atStart => exact ⟨0, Nat.zero_le _, rfl, fun j hj => absurd hj (by omega)⟩
  case round =>
    obtain ⟨j, hj, rfl, hall⟩ := hrel
    have HB := Lib.hid hall
    clear hall
    by_cases hlt' : j < N
    · have hcx := HC.out j hlt'
      have hr := HR.out j hlt'
      have hs := HS.out j hlt'
      by_cases hok : okL (xss j) = true
      · have HB' : Hid (∀ i, i < j + 1 → okL (xss i) = true) := by
          intro i hi
          by_cases hij : i = j
          · subst hij; exact hok
          · exact HB.out i (by omega)
        clear HB
        have HK := Lib.hid hok
        clear hok
        generalize As j = a at *
        generalize ns j = nk at *
        generalize cs j = ck at *
        have HRJ := Lib.hid hr
        clear hr
        go_wp2_with (go_at_call 21; refine (implNatOK_any _ _ _ _ P _ HRJ.out hs).mono ?_; rintro e w' ⟨rfl, rfl⟩; rw [HK.out])
        go_round
        case rel => exact ⟨j + 1, by omega, by go_num, HB'.out⟩
        case measure => simp [intOf]; omega
      · have hok' : okL (xss j) = false := by simpa using hok
        have HX := Lib.hid (codeL_bad (N := N) (xss := xss) HA.out j hlt' hok')
        have HK := Lib.hid hok'
        clear hok hok'
        generalize As j = a at *
        generalize ns j = nk at *
        generalize cs j = ck at *
        have HRJ := Lib.hid hr
        clear hr
        go_wp2_with (go_at_call 21; refine (implNatOK_any _ _ _ _ P _ HRJ.out hs).mono ?_; rintro e w' ⟨rfl, rfl⟩; rw [HK.out])
        go_ret
        exact ⟨ret_int HX.out.symm, rfl⟩
    · obtain rfl : j = N := by omega
      have HX := Lib.hid (codeL_good (N := j) (xss := xss) HA.out HB.out)
      go_wp2
      go_ret
      exact ⟨ret_int HX.out.symm, rfl⟩

/-- two lists -/
theorem natCode2 (g la ca lb cb : Nat) (A B : Option Addr) (xs ys : List Int) (P : Nat → Prop) (w : World) (h0 : w.cell? ⟨g, 0, none⟩ = some (.slice A la ca)) (h1 : w.cell? ⟨g, 1, none⟩ = some (.slice B lb cb))
    (hx : Rd w P A la ca xs) (hy : Rd w P B lb cb ys) (hla : la ≤ 16777216) (hlb : lb ≤ 16777216) :
    Calls Try.prog 38 #[.slice (some ⟨g, 0, none⟩) 2 2] w fun e w' => e = .returned (.int .i64 (codeL [xs, ys])) ∧ w = w' := by
  have h := natCode_any g 2 (fun i => if i = 0 then A else B) (fun i => if i = 0 then la else lb) (fun i => if i = 0 then ca else cb) (fun i => if i = 0 then xs else ys) P w (by omega)
    (fun i hi => by
      rcases (show i = 0 ∨ i = 1 by omega) with rfl | rfl
      · exact h0
      · exact h1)
    (fun i hi => by
      rcases (show i = 0 ∨ i = 1 by omega) with rfl | rfl
      · exact hx
      · exact hy)
    (fun i hi => by
      rcases (show i = 0 ∨ i = 1 by omega) with rfl | rfl
      · exact hla
      · exact hlb)
  exact h
/-- one list -/
theorem natCode1 (g la ca : Nat) (A : Option Addr) (xs : List Int) (P : Nat → Prop) (w : World) (h0 : w.cell? ⟨g, 0, none⟩ = some (.slice A la ca))
    (hx : Rd w P A la ca xs) (hla : la ≤ 16777216) :
    Calls Try.prog 38 #[.slice (some ⟨g, 0, none⟩) 1 1] w fun e w' => e = .returned (.int .i64 (codeL [xs])) ∧ w = w' := by
  have h := natCode_any g 1 (fun _ => A) (fun _ => la) (fun _ => ca) (fun _ => xs) P w (by omega)
    (fun i hi => by
      obtain rfl : i = 0 := by omega
      exact h0)
    (fun i hi => hx) (fun i hi => hla)
  exact h

set_option maxHeartbeats 800000 in
theorem l01Ask_any (la ca lb cb : Nat) (A B : Option Addr) (xs ys : List Int) (P Q : Nat → Prop) (w : World)
    (hx : Rd w P A la ca xs) (hy : Rd w Q B lb cb ys) (hla : la ≤ 16777216) (hlb : lb ≤ 16777216) :
    Calls Try.prog 41 #[.slice A la ca, .slice B lb cb] w fun e w' => e = .returned (.int .i64 (codeL [xs, ys])) ∧ w = w' := by
  have h1 := hx.len
  have h2 := hy.len
  by_cases ha : 4096 < la
  · have HX : Hid (codeL [xs, ys] = 2) := codeL_long (N := 2) (xss := fun i => if i = 0 then xs else ys) 0 (by omega) (by simp; omega)
    have ha' : decide ((4096 : Int) < la) = true := by simp; omega
    clear h1 h2 hx hy
    go_enter Try.func41, Try.ntmps41
    go_wp2
    go_ret
    exact ⟨ret_int HX.out.symm, rfl⟩
  have ha' : decide ((4096 : Int) < la) = false := by simp; omega
  by_cases hb : 4096 < lb
  · have HX : Hid (codeL [xs, ys] = 2) := codeL_long (N := 2) (xss := fun i => if i = 0 then xs else ys) 1 (by omega) (by simp; omega)
    have hb' : decide ((4096 : Int) < lb) = true := by simp; omega
    clear h1 h2 hx hy
    go_enter Try.func41, Try.ntmps41
    go_wp2
    go_ret
    exact ⟨ret_int HX.out.symm, rfl⟩
  have hb' : decide ((4096 : Int) < lb) = false := by simp; omega
  have hlen : ∀ j, j < 2 → ((fun i => if i = 0 then xs else ys : Nat → List Int) j).length ≤ 4096 := by
    intro j hj
    rcases (show j = 0 ∨ j = 1 by omega) with rfl | rfl
    · simp; omega
    · simp; omega
  have HR := Lib.hid hx
  have HS := Lib.hid hy
  clear hx hy h1 h2
  by_cases hox : okL xs = true
  · by_cases hoy : okL ys = true
    · have HX : Hid (codeL [xs, ys] = 0) := codeL_good (N := 2) (xss := fun i => if i = 0 then xs else ys) hlen (fun j hj => by
        rcases (show j = 0 ∨ j = 1 by omega) with rfl | rfl
        · exact hox
        · exact hoy)
      have HK := Lib.hid hox
      have HL := Lib.hid hoy
      clear hlen hox hoy
      go_enter Try.func41, Try.ntmps41
      go_wp2_with fail
      refine (specNatOK_any _ _ _ _ _ _ HR.out hla).mono ?_
      rintro e w' ⟨rfl, rfl⟩
      rw [HK.out]
      go_wp2_with fail
      refine (specNatOK_any _ _ _ _ _ _ HS.out hlb).mono ?_
      rintro e w' ⟨rfl, rfl⟩
      rw [HL.out]
      go_wp2
      go_ret
      exact ⟨ret_int HX.out.symm, rfl⟩
    · have hoy' : okL ys = false := by simpa using hoy
      have HX : Hid (codeL [xs, ys] = 1) := codeL_bad (N := 2) (xss := fun i => if i = 0 then xs else ys) hlen 1 (by omega) hoy'
      have HK := Lib.hid hox
      have HL := Lib.hid hoy'
      clear hlen hox hoy hoy'
      go_enter Try.func41, Try.ntmps41
      go_wp2_with fail
      refine (specNatOK_any _ _ _ _ _ _ HR.out hla).mono ?_
      rintro e w' ⟨rfl, rfl⟩
      rw [HK.out]
      go_wp2_with fail
      refine (specNatOK_any _ _ _ _ _ _ HS.out hlb).mono ?_
      rintro e w' ⟨rfl, rfl⟩
      rw [HL.out]
      go_wp2
      go_ret
      exact ⟨ret_int HX.out.symm, rfl⟩
  · have hox' : okL xs = false := by simpa using hox
    have HX : Hid (codeL [xs, ys] = 1) := codeL_bad (N := 2) (xss := fun i => if i = 0 then xs else ys) hlen 0 (by omega) hox'
    have HK := Lib.hid hox'
    clear hlen hox hox'
    go_enter Try.func41, Try.ntmps41
    go_wp2_with fail
    refine (specNatOK_any _ _ _ _ _ _ HR.out hla).mono ?_
    rintro e w' ⟨rfl, rfl⟩
    rw [HK.out]
    go_wp2
    go_ret
    exact ⟨ret_int HX.out.symm, rfl⟩
end Go.Proofs.Ytgeijojkfojfbab
