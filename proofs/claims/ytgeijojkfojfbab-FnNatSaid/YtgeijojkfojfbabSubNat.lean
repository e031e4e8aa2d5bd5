/-
  SubNat of the program.
-/
import Derived.Test.YtgeijojkfojfbabTake
namespace Go.Proofs.Ytgeijojkfojfbab
open Go Go.RowKit Nt

set_option maxHeartbeats 800000 in
theorem implSubNat_any (la ca lb cb : Nat) (A B : Option Addr) (xs ys : List Int) (P : Nat → Prop) (w : World)
    (hx0 : Rd w P A la ca xs) (hy0 : Rd w P B lb cb ys) (hla : la ≤ 16777216) (hlb : lb ≤ 16777216) :
    Calls Try.prog 18 #[.slice A la ca, .slice B lb cb] w (RetCode 3 w (resL (codeL [xs, ys]) (subL (natOf xs) (natOf ys))) (resC (codeL [xs, ys]) (subC (natOf xs) (natOf ys)))) := by
  have hx : Rd w (· < w.heap.size) A la ca xs := hx0.mono fun _ _ h => h
  have hy : Rd w (· < w.heap.size) B lb cb ys := hy0.mono fun _ _ h => h
  have HX := Lib.hid hx
  have HY := Lib.hid hy
  clear hx0 hy0 hx hy
  go_enter Try.func18, Try.ntmps18
  go_wp2_with fail
  have hb : Below w.heap.size w (w.alloc (.cells #[.slice A la ca, .slice B lb cb] 23)) := (Below.refl _ _).alloc (Nat.le_refl _) _
  refine (natCode2 w.heap.size la ca lb cb A B xs ys (· < w.heap.size) _ (by simp [World.cell?_alloc_at]) (by simp [World.cell?_alloc_at]) (HX.out.below hb) (HY.out.below hb) hla hlb).mono ?_
  rintro e w1 ⟨rfl, rfl⟩
  have HB := Lib.hid hb
  clear hb
  by_cases hcode : codeL [xs, ys] = 0
  · obtain ⟨m, n, hm, hn, rfl, rfl⟩ := codeL2_ok hcode
    have HC := Lib.hid hcode
    rw [hcode]
    clear hcode
    have hla' : la ≤ 40 := by rw [← HX.out.len]; exact (D_len_le m 40).2 hm
    have hlb' : lb ≤ 40 := by rw [← HY.out.len]; exact (D_len_le n 40).2 hn
    go_wp2_with fail
    refine (compareLimbs_any A B la ca lb cb m n (· < w.heap.size) (· < w.heap.size) _ (HX.out.below HB.out) (HY.out.below HB.out) hla hlb).mono ?_
    rintro e w2 ⟨rfl, hd⟩
    have HB2 := Lib.hid (HB.out.trans (hd.below _))
    clear hd HB
    by_cases hmn : m < n
    · rw [cmpI_lt hmn]
      go_wp2
      go_ret2
      rw [HC.out, natOf_D, natOf_D, (subL_lt hmn).1, (subL_lt hmn).2]
      exact ⟨none, 0, rfl, World.ownsRow_nil _ _ _ _, HB2.out⟩
    · obtain ⟨hc0, hc1⟩ := cmpI_ge hmn
      generalize cmpI m n = cc at *
      have HBA := Lib.hid (HB2.out.alloc HB2.out.size (.cells (cellsOf (zeros 40)) 46))
      have harr := Arr.new w2 46 (zeros 40)
      have HAR := Lib.hid harr
      have HRX := Lib.hid (HX.out.below HBA.out)
      have hs2 := HB2.out.size
      have hsl := fun w => run_cut_arr (P := Try.prog) 46 3 40 Try.underlying46 infoInt w2.heap.size la hla' w
      clear harr
      go_wp2_with (first | ((with_reducible show wpList _ _ _ (⟨some 22, _, _, _, _, _⟩ :: _) _ _); refine wpList_copy_ints _ rfl (.tmp 20) (.tmp 21) 23 rfl 3 Try.underlying23 infoInt w2.heap.size 40 40 46 (zeros 40) rfl (by exact HAR.out) (by rw [zeros_len]; exact Nat.le_refl _) _ A la ca (D m) rfl (by exact HRX.out) (by omega) ?_; intro w3 hcp hgr; have HCP := Lib.hid hcp; have HB3 := Lib.hid (HBA.out.trans (grown_below (B := w.heap.size) hgr (by simp; omega) hs2)); clear hcp hgr) | fail)
      have HLA := Lib.hid HX.out.len
      clear hsl
      refine (takeTimes_any w2.heap.size 0 la 40 46 [] (D m) (List.drop la (zeros 40)) B lb cb n 1 w3 HCP.out rfl HLA.out ((HY.out.below HB3.out).mono (fun b h _ => by omega)) (limbs_D m) (by omega) (by omega) (by rw [val_D]; omega) (by omega) (by omega) (by omega)).mono ?_
      rintro e w4 ⟨rfl, zs, hzl, hzz, hzv, hza, hzg⟩
      have hs3 := HB3.out.size
      have HB4 := Lib.hid (HB3.out.trans (grown_below hzg (by omega) hs2))
      have hnat : natOf zs = m - n := by have := natOf_val hzz; rw [val_D] at hzv; omega
      have hrd : Rd w4 (fun _ => True) (some ⟨w2.heap.size, 0, none⟩) la 40 zs := by
        have := hza.rd (fun _ => True) trivial 0 la 40 (by simp [hzl]) hla'
        rw [List.drop_zero, List.nil_append, List.take_append_of_le_length (by omega), List.take_of_length_le (by omega)] at this
        exact this
      have HRD := Lib.hid hrd
      have HZZ := Lib.hid hzz
      have HZL := Lib.hid hzl
      have HNT := Lib.hid hnat
      clear hzl hzz hzv hza hzg hnat hrd
      go_wp2_with fail
      refine (trimmed_any _ la 40 zs (fun _ => True) w4 HRD.out HZZ.out hla).mono ?_
      rintro e w5 ⟨rfl, rfl⟩
      have hle := trim_len_le HZZ.out
      have htt := take_trim HZZ.out
      have hrd2 := HRD.out.cut (D (natOf zs)).length (by have := HZL.out; omega)
      rw [htt] at hrd2
      rw [HNT.out] at hle hrd2 ⊢
      have HR2 := Lib.hid hrd2
      clear htt hrd2
      go_wp2_with fail
      refine (fitting_any _ _ 40 (D (m - n)) (fun _ => True) w4 HR2.out (by have := HZL.out; omega)).mono ?_
      rintro e w6 ⟨A', c', rfl, ho, hb⟩
      have HO := Lib.hid ho
      have HB6 := Lib.hid (HB4.out.trans (hb.mono HB4.out.size))
      have hs4 := HB4.out.size
      clear ho hb
      go_wp2
      go_ret2
      rw [HC.out, natOf_D, natOf_D, (subL_ge hmn).1, (subL_ge hmn).2]
      have hfit := fit_D (m := m - n) (by omega)
      have ho := HO.out
      rw [hfit.1] at ho
      rw [hfit.1, hfit.2]
      exact ⟨A', c', rfl, own_mono ho hs4, HB6.out⟩
  · have HC := Lib.hid hcode
    have hne : (codeL [xs, ys] != 0) = true := by simpa using hcode
    generalize hc : codeL [xs, ys] = c at *
    clear hcode hc
    go_wp2
    go_ret2
    obtain ⟨e1, e2⟩ := res_bad HC.out (subL (natOf xs) (natOf ys)) (subC (natOf xs) (natOf ys))
    rw [e1, e2]
    exact ⟨none, 0, rfl, World.ownsRow_nil _ _ _ _, HB.out⟩
end Go.Proofs.Ytgeijojkfojfbab
