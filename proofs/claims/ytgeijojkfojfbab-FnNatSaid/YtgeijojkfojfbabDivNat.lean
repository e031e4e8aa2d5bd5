/-
  DivNat of the program.
-/
import Derived.Test.YtgeijojkfojfbabDivX
import Derived.Test.YtgeijojkfojfbabDiv
namespace Nt
open Go Go.RowKit
def divQ (m n : Nat) : List Int := if n = 0 then [] else D (m / n)
def divR (m n : Nat) : List Int := if n = 0 then [] else D (m % n)
def divC (n : Nat) : Int := if n = 0 then 9 else 0
theorem div_zero (m : Nat) : divQ m 0 = [] ∧ divR m 0 = [] ∧ divC 0 = 9 := ⟨rfl, rfl, rfl⟩
theorem div_pos (m : Nat) {n : Nat} (h : 0 < n) : divQ m n = D (m / n) ∧ divR m n = D (m % n) ∧ divC n = 0 := by
  unfold divQ divR divC
  rw [if_neg (by omega), if_neg (by omega), if_neg (by omega)]
  exact ⟨rfl, rfl, rfl⟩
/-- two new lists, each memory of its own, and a code -/
def RetDiv (t : TypeId) (w : World) (q r : List Int) (code : Int) (e : Ending) (w' : World) : Prop :=
  ∃ A1 c1 A2 c2 B2, e = .returned (.tuple #[.slice A1 q.length c1, .slice A2 r.length c2, .int .i64 code]) ∧ w'.ownsRow w.heap.size t 1 (.slice A1 q.length c1) q.length (q.map (Value.int .i64)) ∧
    (∀ g, (Value.slice A1 q.length c1).ownBlock = some g → g < B2) ∧ w.heap.size ≤ B2 ∧ w'.ownsRow B2 t 1 (.slice A2 r.length c2) r.length (r.map (Value.int .i64)) ∧ Below w.heap.size w w'
theorem own_slice {w : World} {base n : Nat} {e : TypeId} {A : Option Addr} {c : Nat} {xs : List Int} (h : w.ownsRow base e 1 (.slice A n c) n (xs.map (Value.int .i64))) : xs.length = n := by simpa using h.1
theorem natOf_div {qs : List Int} {m n : Nat} (h : Limbs qs) (hv : val qs = (m : Int) / n) : natOf qs = m / n := by
  have := natOf_val h
  rw [hv, ← Int.natCast_ediv] at this
  omega
theorem natOf_mod {qs : List Int} {m n : Nat} (h : Limbs qs) (hv : val qs = (m : Int) % n) : natOf qs = m % n := by
  have := natOf_val h
  rw [hv, ← Int.natCast_emod] at this
  omega
end Nt
namespace Go.Proofs.Ytgeijojkfojfbab
open Go Go.RowKit Nt

theorem zero40 (w : World) : (zeroValue 46).run Try.prog w = .ok (.agg (cellsOf (zeros 40))) w := by kernel_rfl

/-- a list that is trimmed and copied -/
theorem trim_fresh_rd {w : World} {P : Nat → Prop} {A : Option Addr} {n c : Nat} {xs : List Int} (h : Rd w P A n c xs) (hl : Limbs xs) : Rd w P A (D (natOf xs)).length c (D (natOf xs)) := by
  have hle := trim_len_le hl
  have := h.cut (D (natOf xs)).length (by have := h.len; omega)
  rwa [take_trim hl] at this

set_option maxHeartbeats 1600000 in
theorem implDivNat_any (la ca lb cb : Nat) (A B : Option Addr) (xs ys : List Int) (P : Nat → Prop) (w : World)
    (hx0 : Rd w P A la ca xs) (hy0 : Rd w P B lb cb ys) (hla : la ≤ 16777216) (hlb : lb ≤ 16777216) :
    Calls Try.prog 24 #[.slice A la ca, .slice B lb cb] w (RetDiv 3 w (resL (codeL [xs, ys]) (divQ (natOf xs) (natOf ys))) (resL (codeL [xs, ys]) (divR (natOf xs) (natOf ys))) (resC (codeL [xs, ys]) (divC (natOf ys)))) := by
  have hx : Rd w (· < w.heap.size) A la ca xs := hx0.mono fun _ _ h => h
  have hy : Rd w (· < w.heap.size) B lb cb ys := hy0.mono fun _ _ h => h
  have HX := Lib.hid hx
  have HY := Lib.hid hy
  clear hx0 hy0 hx hy
  go_enter Try.func24, Try.ntmps24
  go_wp2_with fail
  have hb : Below w.heap.size w (w.alloc (.cells #[.slice A la ca, .slice B lb cb] 23)) := (Below.refl _ _).alloc (Nat.le_refl _) _
  refine (natCode2 w.heap.size la ca lb cb A B xs ys (· < w.heap.size) _ (by simp [World.cell?_alloc_at]) (by simp [World.cell?_alloc_at]) (HX.out.below hb) (HY.out.below hb) hla hlb).mono ?_
  rintro e w1 ⟨rfl, rfl⟩
  have HB := Lib.hid hb
  have hs1 := hb.size
  clear hb
  generalize hW1 : w.alloc (.cells #[.slice A la ca, .slice B lb cb] 23) = W1 at *
  have hsz : W1.heap.size = w.heap.size + 1 := by rw [← hW1]; simp
  have HSZ := Lib.hid hsz
  clear hW1 hsz
  by_cases hcode : codeL [xs, ys] = 0
  · obtain ⟨m, n, hm, hn, rfl, rfl⟩ := codeL2_ok hcode
    have HC := Lib.hid hcode
    rw [hcode]
    clear hcode
    have hla' : la ≤ 40 := by rw [← HX.out.len]; exact (D_len_le m 40).2 hm
    have hlb' : lb ≤ 40 := by rw [← HY.out.len]; exact (D_len_le n 40).2 hn
    by_cases hn0 : n = 0
    · subst hn0
      obtain rfl : lb = 0 := by rw [← HY.out.len]; rfl
      go_wp2
      go_ret3
      rw [HC.out, natOf_D, natOf_D]
      exact ⟨none, 0, none, 0, w.heap.size, rfl, World.ownsRow_nil _ _ _ _, fun g h => by simp [Value.ownBlock] at h, Nat.le_refl _, World.ownsRow_nil _ _ _ _, HB.out⟩
    · have hlb0 : 0 < lb := by
        rw [← HY.out.len]
        rw [List.length_pos_iff]
        intro e
        exact hn0 ((D_nil_iff n).1 e)
      have hne0 : ((lb : Int) == 0) = false := by simp; omega
      have hz := zero40
      have hz2 := HB.out.size
      have HBA := Lib.hid ((HB.out.alloc hs1 (.cells (cellsOf (zeros 40)) 46)).alloc (by simp; omega) (.cells (cellsOf (zeros 40)) 46))
      have HAQ : Hid (Arr ((W1.alloc (.cells (cellsOf (zeros 40)) 46)).alloc (.cells (cellsOf (zeros 40)) 46)) W1.heap.size 46 (zeros 40)) := heap_alloc2_old W1 _ _
      have HAR : Hid (Arr ((W1.alloc (.cells (cellsOf (zeros 40)) 46)).alloc (.cells (cellsOf (zeros 40)) 46)) (W1.heap.size + 1) 46 (zeros 40)) := heap_alloc2_new W1 _ _
      have HRX := Lib.hid (HX.out.below HBA.out)
      have hsl := fun w => run_cut_arr (P := Try.prog) 46 3 40 Try.underlying46 infoInt (W1.heap.size + 1) la hla' w
      go_wp2_with (first | ((with_reducible show wpList _ _ _ (⟨some 23, _, _, _, _, _⟩ :: _) _ _); refine wpList_copy_ints _ rfl (.tmp 21) (.tmp 22) 23 rfl 3 Try.underlying23 infoInt (W1.heap.size + 1) 40 40 46 (zeros 40) rfl (by exact HAR.out) (by rw [zeros_len]; exact Nat.le_refl _) _ A la ca (D m) rfl (by exact HRX.out) (by omega) ?_; intro w3 hcp hgr; have HCP := Lib.hid hcp; have HQ3 := Lib.hid (HAQ.out.keep (hgr.block _ HAQ.out.lt (fun e => by injection e with e; omega))); have HB3 := Lib.hid (HBA.out.trans (grown_below (B := w.heap.size) hgr (by simp; omega) (by omega))); clear hcp hgr) | fail)
      clear hsl hz HAQ HAR HRX HBA
      have HLA := Lib.hid HX.out.len
      refine (divideRest_any W1.heap.size (W1.heap.size + 1) 40 40 la 40 46 46 (zeros 40) (D m) ((zeros 40).drop la) B lb cb n w3 HQ3.out (zeros_len 40) HCP.out HLA.out (limbs_D m) hla' ((HY.out.below HB3.out).mono (fun b h _ => by constructor <;> omega)) (by omega) (by omega) hla' (by omega) (by omega) (by omega)).mono ?_
      rintro e w4 ⟨rfl, qs, rs, hql, hqm, hqv, hqa, hrl, hrm, hrv, hra, htw⟩
      rw [val_D] at hqv hrv
      have HNQ := Lib.hid (natOf_div hqm hqv)
      have HNR := Lib.hid (natOf_mod hrm hrv)
      have hs3 := HB3.out.size
      have HB4 := Lib.hid (HB3.out.trans (htw.below hs3 (by omega) (by omega)))
      have HRQ := Lib.hid (trim_fresh_rd (hqa.rd_all (fun k => k < w4.heap.size) hqa.lt 40 40 hql.symm (Nat.le_refl _)) hqm)
      have HRA := Lib.hid (hqa.rd_all (fun _ => True) trivial 40 40 hql.symm (Nat.le_refl _))
      have hrr : Rd w4 (fun k => k < w4.heap.size) (some ⟨W1.heap.size + 1, 0, none⟩) la 40 rs := by
        have := hra.rd (fun k => k < w4.heap.size) hra.lt 0 la 40 (by simp [hrl]) hla'
        rwa [List.drop_zero, List.take_append_of_le_length (by omega), List.take_of_length_le (by omega)] at this
      have HRR := Lib.hid hrr
      have HQM := Lib.hid hqm
      have HRM := Lib.hid hrm
      clear hql hqm hqv hqa hrl hrm hrv hra htw hrr HCP HQ3 HB3
      go_wp2_with fail
      refine (trimmed_any _ 40 40 qs (fun _ => True) w4 HRA.out HQM.out (by omega)).mono ?_
      rintro e w5 ⟨rfl, rfl⟩
      rw [HNQ.out]
      have hrq := HRQ.out
      rw [HNQ.out] at hrq
      have HRQ2 := Lib.hid hrq
      have hlq : (D (m / n)).length ≤ 40 := by have := hrq.cap; omega
      clear hrq HRQ HRA
      go_wp2_with fail
      refine (fresh_any _ _ 40 (D (m / n)) _ w4 HRQ2.out (by omega)).mono ?_
      rintro e w6 ⟨A1, c1, rfl, ho1, hb1⟩
      have HO1 := Lib.hid ho1
      have HB5 := Lib.hid hb1
      have hs5 := hb1.size
      clear ho1 hb1
      go_wp2_with fail
      refine (trimmed_any _ la 40 rs _ w6 (HRR.out.below HB5.out) HRM.out (by omega)).mono ?_
      rintro e w7 ⟨rfl, rfl⟩
      have hrq := trim_fresh_rd (HRR.out.below HB5.out) HRM.out
      rw [HNR.out] at hrq ⊢
      have HRR2 := Lib.hid hrq
      have hlr : (D (m % n)).length ≤ 40 := by have := hrq.cap; omega
      clear hrq
      go_wp2_with fail
      refine (fresh_any _ _ 40 (D (m % n)) _ w6 HRR2.out (by omega)).mono ?_
      rintro e w8 ⟨A2, c2, rfl, ho2, hb2⟩
      have HO2 := Lib.hid ho2
      have HB6 := Lib.hid hb2
      have hs6 := hb2.size
      clear ho2 hb2
      have hs4 := HB4.out.size
      go_wp2
      go_ret3
      rw [HC.out, natOf_D, natOf_D]
      obtain ⟨e1, e2, e3⟩ := div_pos m (show 0 < n by omega)
      rw [e1, e2, e3]
      refine ⟨A1, c1, A2, c2, w6.heap.size, rfl, own_mono (own_keep HO1.out HB6.out) hs4, fun g hg => (own_lt HO1.out g hg).2, by omega, HO2.out, HB4.out.trans ((HB5.out.mono hs4).trans (HB6.out.mono (by omega)))⟩
  · have HC := Lib.hid hcode
    have hne : (codeL [xs, ys] != 0) = true := by simpa using hcode
    generalize hc : codeL [xs, ys] = c at *
    clear hcode hc
    go_wp2
    go_ret3
    obtain ⟨e1, e2⟩ := res_bad HC.out (divQ (natOf xs) (natOf ys)) (divC (natOf ys))
    obtain ⟨e3, _⟩ := res_bad HC.out (divR (natOf xs) (natOf ys)) 0
    rw [e1, e2, e3]
    exact ⟨none, 0, none, 0, w.heap.size, rfl, World.ownsRow_nil _ _ _ _, fun g h => by simp [Value.ownBlock] at h, Nat.le_refl _, World.ownsRow_nil _ _ _ _, HB.out⟩
end Go.Proofs.Ytgeijojkfojfbab
