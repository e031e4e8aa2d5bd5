/-
  GcdNat of the program and of the model.
-/
import Derived.Test.YtnagmhmjhhfmcabSpecDiv
namespace Nt
open Go Go.RowKit
theorem gcd_next (m n : Nat) : Nat.gcd n (m % n) = Nat.gcd m n := by
  rw [Nat.gcd_comm n (m % n), ← Nat.gcd_rec, Nat.gcd_comm]
theorem gcd_lt_top {m n : Nat} (hm : m < Top) (hn : n < Top) : Nat.gcd m n < Top := by
  rcases Nat.eq_zero_or_pos m with h | h
  · subst h; rw [Nat.gcd_zero_left]; exact hn
  · exact Nat.lt_of_le_of_lt (Nat.gcd_le_left n h) hm
end Nt
namespace Go.Proofs.Ytnagmhmjhhfmcab
open Go Go.RowKit Nt

set_option maxHeartbeats 1600000 in
theorem implGcdNat_any (la ca lb cb : Nat) (A B : Option Addr) (xs ys : List Int) (P : Nat → Prop) (w : World)
    (hx0 : Rd w P A la ca xs) (hy0 : Rd w P B lb cb ys) (hla : la ≤ 16777216) (hlb : lb ≤ 16777216) :
    Calls Try.prog 12 #[.slice A la ca, .slice B lb cb] w (RetCode 3 w (resL (codeL [xs, ys]) (D (Nat.gcd (natOf xs) (natOf ys)))) (codeL [xs, ys])) := by
  have hx : Rd w (· < w.heap.size) A la ca xs := hx0.mono fun _ _ h => h
  have hy : Rd w (· < w.heap.size) B lb cb ys := hy0.mono fun _ _ h => h
  have HX := Lib.hid hx
  have HY := Lib.hid hy
  clear hx0 hy0 hx hy
  go_enter Try.func12, Try.ntmps12
  go_wp2_with fail
  have hb : Below w.heap.size w (w.alloc (.cells #[.slice A la ca, .slice B lb cb] 22)) := (Below.refl _ _).alloc (Nat.le_refl _) _
  refine (natCode2 w.heap.size la ca lb cb A B xs ys (· < w.heap.size) _ (by simp [World.cell?_alloc_at]) (by simp [World.cell?_alloc_at]) (HX.out.below hb) (HY.out.below hb) hla hlb).mono ?_
  rintro e w1 ⟨rfl, rfl⟩
  have HB := Lib.hid hb
  have hs1 := hb.size
  clear hb
  generalize w.alloc (.cells #[.slice A la ca, .slice B lb cb] 22) = W1 at *
  by_cases hcode : codeL [xs, ys] = 0
  · obtain ⟨m, n, hm, hn, rfl, rfl⟩ := codeL2_ok hcode
    have HC := Lib.hid hcode
    rw [hcode]
    clear hcode
    have hla' : la ≤ 40 := by rw [← HX.out.len]; exact (D_len_le m 40).2 hm
    have hlb' : lb ≤ 40 := by rw [← HY.out.len]; exact (D_len_le n 40).2 hn
    have hz := zero40
    have HB1 := Lib.hid (HB.out.alloc hs1 (.cells (cellsOf (zeros 40)) 41))
    have HB2 := Lib.hid (HB1.out.alloc (by simp; omega) (.cells (cellsOf (zeros 40)) 41))
    have HB3 := Lib.hid (HB2.out.alloc (by simp; omega) (.cells (cellsOf (zeros 40)) 41))
    have HAQ : Hid (Arr (((W1.alloc (.cells (cellsOf (zeros 40)) 41)).alloc (.cells (cellsOf (zeros 40)) 41)).alloc (.cells (cellsOf (zeros 40)) 41)) W1.heap.size 41 (zeros 40)) := (Below.heap_alloc _ _ _ (by simp; omega)).trans (heap_alloc2_old W1 _ _)
    have HAX : Hid (Arr (((W1.alloc (.cells (cellsOf (zeros 40)) 41)).alloc (.cells (cellsOf (zeros 40)) 41)).alloc (.cells (cellsOf (zeros 40)) 41)) (W1.heap.size + 1) 41 (zeros 40)) := (Below.heap_alloc _ _ _ (by simp)).trans (heap_alloc2_new W1 _ _)
    have HAY : Hid (Arr (((W1.alloc (.cells (cellsOf (zeros 40)) 41)).alloc (.cells (cellsOf (zeros 40)) 41)).alloc (.cells (cellsOf (zeros 40)) 41)) (W1.heap.size + 2) 41 (zeros 40)) := by
      have := heap_alloc2_new (W1.alloc (.cells (cellsOf (zeros 40)) 41)) (.cells (cellsOf (zeros 40)) 41) (.cells (cellsOf (zeros 40)) 41)
      rw [World.size_alloc] at this
      exact this
    have hsl := fun w => run_cut_arr (P := Try.prog) 41 3 40 Try.underlying41 infoInt (W1.heap.size + 1) la hla' w
    have hsl2 := fun w => run_cut_arr (P := Try.prog) 41 3 40 Try.underlying41 infoInt (W1.heap.size + 2) lb hlb' w
    have HRX := Lib.hid (HX.out.below HB3.out)
    go_wp2_with (first
      | ((with_reducible show wpList _ _ _ (⟨some 21, _, _, _, _, _⟩ :: _) _ _); refine wpList_copy_ints _ rfl (.tmp 19) (.tmp 20) 22 rfl 3 Try.underlying22 infoInt (W1.heap.size + 1) 40 40 41 (zeros 40) rfl (by exact HAX.out) (by rw [zeros_len]; exact Nat.le_refl _) _ A la ca (D m) rfl (by exact HRX.out) (by omega) ?_; intro w3 hcp hgr; have HCX := Lib.hid hcp; have HQ3 := Lib.hid (HAQ.out.keep (hgr.block _ HAQ.out.lt (fun e => by injection e with e; omega))); have HY3 := Lib.hid (HAY.out.keep (hgr.block _ HAY.out.lt (fun e => by injection e with e; omega))); have HB4 := Lib.hid (HB3.out.trans (grown_below (B := w.heap.size) hgr (by simp; omega) (by omega))); clear hcp hgr; have HRY := Lib.hid (HY.out.below HB4.out))
      | ((with_reducible show wpList _ _ _ (⟨some 25, _, _, _, _, _⟩ :: _) _ _); refine wpList_copy_ints _ rfl (.tmp 23) (.tmp 24) 22 rfl 3 Try.underlying22 infoInt (W1.heap.size + 2) 40 40 41 (zeros 40) rfl (by exact HY3.out) (by rw [zeros_len]; exact Nat.le_refl _) _ B lb cb (D n) rfl (by exact HRY.out) (by omega) ?_; intro w4 hcp hgr; have HCY := Lib.hid hcp; have HQ4 := Lib.hid (HQ3.out.keep (hgr.block _ HQ3.out.lt (fun e => by injection e with e; omega))); have HX4 := Lib.hid (HCX.out.keep (hgr.block _ HCX.out.lt (fun e => by injection e with e; omega))); have HB5 := Lib.hid (HB4.out.trans (grown_below (B := w.heap.size) hgr (by have := HB4.out.size; omega) (by omega))); clear hcp hgr)
      | fail)
    clear hsl hsl2 hz HAQ HAX HAY HRX HB1 HB2 HB3 HCX HQ3 HY3 HB4 HRY
    have HXL := Lib.hid HX.out.len
    have HYL := Lib.hid HY.out.len
    have hxl := HX.out.len
    have hyl := HY.out.len
    subst hxl hyl
    go_loopg [10, 11] n (fun n' x y wr => ∃ (gx gy m' : Nat) (fx fy qs : List Int), gx ≠ gy ∧ W1.heap.size < gx ∧ W1.heap.size < gy ∧ x = .slice (some ⟨gx, 0, none⟩) (D m').length 40 ∧ y = .slice (some ⟨gy, 0, none⟩) (D n').length 40 ∧ (D m').length ≤ 40 ∧ (D n').length ≤ 40 ∧ Nat.gcd m' n' = Nat.gcd m n ∧ Arr wr gx 41 (D m' ++ fx) ∧ Arr wr gy 41 (D n' ++ fy) ∧ Arr wr W1.heap.size 41 qs ∧ qs.length = 40 ∧ Below w.heap.size w wr)
    case atStart => exact ⟨W1.heap.size + 1, W1.heap.size + 2, m, _, _, zeros 40, by omega, by omega, by omega, rfl, rfl, hla', hlb', rfl, HX4.out, HCY.out, HQ4.out, zeros_len 40, HB5.out⟩
    case round =>
      obtain ⟨gx, gy, m', fx, fy, qs, hne, hgx, hgy, rfl, rfl, hml, hnl, hg, hax, hay, haq, hql, hb⟩ := hrel
      have HG := Lib.hid hg
      have HAX := Lib.hid hax
      have HAY := Lib.hid hay
      have HAQ := Lib.hid haq
      have HQL := Lib.hid hql
      have HBR := Lib.hid hb
      clear hg hax hay haq hql hb HX4 HCY HQ4 HB5
      have hsz := HBR.out.size
      by_cases h0 : 0 < gk
      · have hlen : 0 < (D gk).length := by
          rw [List.length_pos_iff]
          intro e
          have := (D_nil_iff gk).1 e
          omega
        have hlen' : (0 : Int) < (D gk).length := by omega
        have hry : Rd wr (fun k => k ≠ W1.heap.size ∧ k ≠ gx) (some ⟨gy, 0, none⟩) (D gk).length 40 (D gk) := by
          have := HAY.out.rd (fun k => k ≠ W1.heap.size ∧ k ≠ gx) ⟨by omega, fun e => hne e.symm⟩ 0 (D gk).length 40 (by simp) hnl
          rwa [List.drop_zero, List.take_append_of_le_length (Nat.le_refl _), List.take_length] at this
        have HRY := Lib.hid hry
        clear hry
        go_wp2_with fail
        refine (divideRest_any W1.heap.size gx 40 40 (D m').length 40 41 41 qs (D m') fx (some ⟨gy, 0, none⟩) (D gk).length 40 gk wr HAQ.out HQL.out HAX.out rfl (limbs_D m') hml HRY.out h0 (by omega) hml (by omega) (by omega) (by omega)).mono ?_
        rintro e w4 ⟨rfl, qs2, rs, hql, hqm, hqv, hqa, hrl, hrm, hrv, hra, htw⟩
        rw [val_D] at hrv
        have hnr := natOf_mod hrm hrv
        have HNR := Lib.hid hnr
        have hle := trim_len_le hrm
        have htt := take_trim hrm
        have HRT : Hid (Rd w4 (fun _ => True) (some ⟨gx, 0, none⟩) (D m').length 40 rs) := by
          have := hra.rd (fun _ => True) trivial 0 (D m').length 40 (by simp [hrl]) hml
          rwa [List.drop_zero, List.take_append_of_le_length (by omega), List.take_of_length_le (by omega)] at this
        have HRA : Hid (Arr w4 gx 41 (D (m' % gk) ++ (rs.drop (D (m' % gk)).length ++ fx))) := by
          show Arr _ _ _ _
          rw [hnr] at htt
          rw [← List.append_assoc]
          have e : D (m' % gk) ++ rs.drop (D (m' % gk)).length = rs := by
            conv => lhs; lhs; rw [← htt]
            exact List.take_append_drop _ _
          rw [e]
          exact hra
        have HYA := Lib.hid (HAY.out.keep (htw.block _ HAY.out.lt (by omega) (fun e => hne e.symm)))
        have HQA := Lib.hid hqa
        have HQ2 := Lib.hid hql
        have HRM := Lib.hid hrm
        have HB4 := Lib.hid (HBR.out.trans (htw.below hsz (by omega) (by omega)))
        have hle2 : (D (m' % gk)).length ≤ 40 := by rw [← hnr]; omega
        clear hql hqm hqv hqa hrl hrm hrv hra htw hnr hle htt
        go_wp2_with fail
        refine (trimmed_any _ (D m').length 40 rs (fun _ => True) w4 HRT.out HRM.out (by omega)).mono ?_
        rintro e w5 ⟨rfl, rfl⟩
        rw [HNR.out]
        go_wp2
        go_roundg (m' % gk)
        case measure => exact Nat.mod_lt _ h0
        case rel => exact ⟨gy, gx, gk, fy, _, qs2, fun e => hne e.symm, hgy, hgx, rfl, rfl, hnl, hle2, by rw [gcd_next]; exact HG.out, HYA.out, HRA.out, HQA.out, HQ2.out, HB4.out⟩
      · obtain rfl : gk = 0 := by omega
        have HGE : Hid (m' = Nat.gcd m n) := by show _ = _; rw [← HG.out, Nat.gcd_zero_right]
        have hrx : Rd wr (fun _ => True) (some ⟨gx, 0, none⟩) (D m').length 40 (D m') := by
          have := HAX.out.rd (fun _ => True) trivial 0 (D m').length 40 (by simp) hml
          rwa [List.drop_zero, List.take_append_of_le_length (Nat.le_refl _), List.take_length] at this
        have HRX := Lib.hid hrx
        clear hrx
        have hd0 : (D 0).length = 0 := rfl
        go_wp2_with fail
        refine (fresh_any _ _ 40 (D m') _ wr HRX.out (by omega)).mono ?_
        rintro e w6 ⟨A1, c1, rfl, ho1, hb1⟩
        have HO1 := Lib.hid (own_mono ho1 hsz)
        have HB6 := Lib.hid (HBR.out.trans (hb1.mono hsz))
        clear ho1 hb1
        go_wp2
        go_ret2
        rw [HC.out, natOf_D, natOf_D, ← HGE.out]
        exact ⟨A1, c1, rfl, HO1.out, HB6.out⟩
  · have HC := Lib.hid hcode
    have hne : (codeL [xs, ys] != 0) = true := by simpa using hcode
    generalize hc : codeL [xs, ys] = c at *
    clear hcode hc
    go_wp2
    go_ret2
    obtain ⟨e1, e2⟩ := res_bad HC.out (D (Nat.gcd (natOf xs) (natOf ys))) 0
    rw [e1]
    exact ⟨none, 0, rfl, World.ownsRow_nil _ _ _ _, HB.out⟩

set_option maxHeartbeats 800000 in
theorem l01Gcd_any (A B : Option Addr) (la ca lb cb m n : Nat) (P Q : Nat → Prop) (w : World) (hx0 : Rd w P A la ca (D m)) (hy0 : Rd w Q B lb cb (D n)) (hla : la ≤ 1000) (hlb : lb ≤ 1000) :
    Calls Try.prog 30 #[.slice A la ca, .slice B lb cb] w (RetNew 3 w (D (Nat.gcd m n))) := by
  have hxl := hx0.len
  have hyl := hy0.len
  subst hxl hyl
  have HX := Lib.hid (hx0.mono (Q := fun _ => True) fun _ _ _ => trivial)
  have HY := Lib.hid (hy0.mono (Q := fun _ => True) fun _ _ _ => trivial)
  clear hx0 hy0
  go_enter Try.func30, Try.ntmps30
  go_wp2
  go_loopg [0, 1] n (fun n' x y wr => ∃ (m' : Nat) (A' B' : Option Addr) (ca' cb' : Nat), x = .slice A' (D m').length ca' ∧ y = .slice B' (D n').length cb' ∧ (D m').length ≤ 1000 ∧ (D n').length ≤ 1000 ∧ Nat.gcd m' n' = Nat.gcd m n ∧ Rd wr (fun _ => True) A' (D m').length ca' (D m') ∧ Rd wr (fun _ => True) B' (D n').length cb' (D n') ∧ Below w.heap.size w wr)
  case atStart => exact ⟨m, A, B, ca, cb, rfl, rfl, hla, hlb, rfl, HX.out, HY.out, Below.refl _ _⟩
  case round =>
    obtain ⟨m', A', B', ca', cb', rfl, rfl, hml, hnl, hg, hrx, hry, hb⟩ := hrel
    have HG := Lib.hid hg
    have HRX := Lib.hid hrx
    have HRY := Lib.hid hry
    have HB := Lib.hid hb
    clear hg hrx hry hb HX HY
    have hsz := HB.out.size
    by_cases h0 : 0 < gk
    · have hlen : 0 < (D gk).length := by
        rw [List.length_pos_iff]
        intro e
        have := (D_nil_iff gk).1 e
        omega
      have hlen' : (0 : Int) < (D gk).length := by omega
      go_wp2_with fail
      refine (l01Div_any A' B' _ ca' _ cb' m' gk _ _ wr HRX.out HRY.out hml hnl h0).mono ?_
      rintro e w1 ⟨A1, c1, A2, c2, rfl, ho, hr, hb⟩
      have HR2 := Lib.hid (hr.mono (Q := fun _ => True) fun _ _ _ => trivial)
      have HY2 := Lib.hid (HRY.out.keep hb.size fun b _ hbl => hb.block b hbl)
      have HB2 := Lib.hid (HB.out.trans (hb.mono hsz))
      have hle : (D (m' % gk)).length ≤ 1000 := by
        have h1 := (D_len_le gk (D gk).length).1 (Nat.le_refl _)
        have h2 := Nat.mod_lt m' h0
        have := (D_len_le (m' % gk) (D gk).length).2 (by omega)
        omega
      clear ho hr hb
      go_wp2
      go_roundg (m' % gk)
      case measure => exact Nat.mod_lt _ h0
      case rel => exact ⟨gk, B', A2, cb', c2, rfl, rfl, hnl, hle, by rw [gcd_next]; exact HG.out, HY2.out, HR2.out, HB2.out⟩
    · obtain rfl : gk = 0 := by omega
      have HGE : Hid (m' = Nat.gcd m n) := by show _ = _; rw [← HG.out, Nat.gcd_zero_right]
      have hd0 : (D 0).length = 0 := rfl
      have HRC := Lib.hid ((HRX.out.mono (Q := (· < wr.heap.size)) fun _ _ h => h).below ((Below.refl wr.heap.size wr).alloc (Nat.le_refl _) (.cells #[] 3)))
      go_wp2_with (at_builtin; refine wpList_append_ints _ rfl _ _ 22 rfl wr.heap.size 3 Try.underlying22 infoInt (some ⟨wr.heap.size, 0, none⟩) 0 0 [] rfl (World.ownsRow_lit _ #[] 0 (Nat.le_refl _) (by decide) rfl) _ A' (D m').length ca' (D m') rfl HRC.out (by omega) (by simp) ?_; intro V' c' w1 hown hg)
      go_ret
      simp only [Nat.zero_add, List.nil_append] at hown
      have hbb : Below wr.heap.size wr w1 := ((Below.refl _ _).alloc (Nat.le_refl _) _).grown hg (by simp) (fun j h => by simp [Value.ownBlock] at h; omega)
      rw [← HGE.out]
      refine ⟨V', c', by simp, own_mono hown hsz, HB.out.trans (hbb.mono hsz)⟩

set_option maxHeartbeats 400000 in
theorem specGcdNat_any (la ca lb cb : Nat) (A B : Option Addr) (xs ys : List Int) (P Q : Nat → Prop) (w : World)
    (hx : Rd w P A la ca xs) (hy : Rd w Q B lb cb ys) (hla : la ≤ 16777216) (hlb : lb ≤ 16777216) :
    Calls Try.prog 10 #[.slice A la ca, .slice B lb cb] w (RetCode 3 w (resL (codeL [xs, ys]) (D (Nat.gcd (natOf xs) (natOf ys)))) (codeL [xs, ys])) := by
  have h1 := hx.len
  have h2 := hy.len
  by_cases ha : 4096 < la
  · have hx2 : codeL [xs, ys] = 2 := codeL_long (N := 2) (xss := fun i => if i = 0 then xs else ys) 0 (by omega) (by simp; omega)
    rw [hx2]
    have ha' : decide ((4096 : Int) < la) = true := by simp; omega
    clear h1 h2 hx hy hx2
    go_enter Try.func10, Try.ntmps10
    go_wp2
    go_ret2
    exact ⟨_, _, rfl, World.ownsRow_lit _ #[] 0 (Nat.le_refl _) (by decide) rfl, (Below.refl _ _).alloc (Nat.le_refl _) _⟩
  have ha' : decide ((4096 : Int) < la) = false := by simp; omega
  by_cases hb : 4096 < lb
  · have hx2 : codeL [xs, ys] = 2 := codeL_long (N := 2) (xss := fun i => if i = 0 then xs else ys) 1 (by omega) (by simp; omega)
    rw [hx2]
    have hb' : decide ((4096 : Int) < lb) = true := by simp; omega
    clear h1 h2 hx hy hx2
    go_enter Try.func10, Try.ntmps10
    go_wp2
    go_ret2
    exact ⟨_, _, rfl, World.ownsRow_lit _ #[] 0 (Nat.le_refl _) (by decide) rfl, (Below.refl _ _).alloc (Nat.le_refl _) _⟩
  have hb' : decide ((4096 : Int) < lb) = false := by simp; omega
  have HR := Lib.hid hx
  have HS := Lib.hid hy
  clear hx hy h1 h2
  by_cases hcode : codeL [xs, ys] = 0
  · have HC := Lib.hid hcode
    obtain ⟨m, n, hm, hn, rfl, rfl⟩ := codeL2_ok hcode
    have hla' : la ≤ 40 := by rw [← HR.out.len]; exact (D_len_le m 40).2 hm
    have hlb' : lb ≤ 40 := by rw [← HS.out.len]; exact (D_len_le n 40).2 hn
    rw [hcode, natOf_D, natOf_D]
    clear hcode
    go_enter Try.func10, Try.ntmps10
    go_wp2_with fail
    refine (l01Ask_any _ _ _ _ _ _ _ _ _ _ _ HR.out HS.out hla hlb).mono ?_
    rintro e w1 ⟨rfl, rfl⟩
    rw [HC.out]
    go_wp2_with fail
    refine (l01Gcd_any A B la ca lb cb m n _ _ _ HR.out HS.out (by omega) (by omega)).mono ?_
    rintro e w1 ⟨A1, c1, rfl, ho, hb⟩
    have HO := Lib.hid ho
    have HB := Lib.hid hb
    clear ho hb
    go_wp2
    go_ret2
    exact ⟨A1, c1, rfl, HO.out, HB.out⟩
  · have HC := Lib.hid hcode
    have hne : (codeL [xs, ys] != 0) = true := by simpa using hcode
    go_enter Try.func10, Try.ntmps10
    go_wp2_with fail
    refine (l01Ask_any _ _ _ _ _ _ _ _ _ _ _ HR.out HS.out hla hlb).mono ?_
    rintro e w1 ⟨rfl, rfl⟩
    generalize hc : codeL [xs, ys] = c at *
    clear hcode hc
    go_wp2
    go_ret2
    obtain ⟨e1, e2⟩ := res_bad HC.out (D (Nat.gcd (natOf xs) (natOf ys))) 0
    rw [e1]
    exact ⟨_, _, rfl, World.ownsRow_lit _ #[] 0 (Nat.le_refl _) (by decide) rfl, (Below.refl _ _).alloc (Nat.le_refl _) _⟩
theorem gcd_len (xs ys : List Int) : (resL (codeL [xs, ys]) (D (Nat.gcd (natOf xs) (natOf ys)))).length ≤ 40 := by
  by_cases h : codeL [xs, ys] = 0
  · obtain ⟨m, n, hm, hn, rfl, rfl⟩ := codeL2_ok h
    rw [h, natOf_D, natOf_D]
    exact (D_len_le _ 40).2 (gcd_lt_top hm hn)
  · rw [(res_bad h _ 0).1]; simp
end Go.Proofs.Ytnagmhmjhhfmcab
