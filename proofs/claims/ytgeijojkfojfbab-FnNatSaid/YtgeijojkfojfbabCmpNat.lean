/-
  CmpNat of the program and of the model, and the law.
-/
import Derived.Test.YtgeijojkfojfbabCmp
namespace Nt
def cmpR (xs ys : List Int) : Int := if codeL [xs, ys] = 0 then cmpI (natOf xs) (natOf ys) else 0
theorem cmpR_bad {xs ys : List Int} (h : codeL [xs, ys] ≠ 0) : cmpR xs ys = 0 := by unfold cmpR; rw [if_neg h]
theorem cmpR_D {m n : Nat} (h : codeL [D m, D n] = 0) : cmpR (D m) (D n) = cmpI m n := by unfold cmpR; rw [if_pos h, natOf_D, natOf_D]
end Nt
namespace Go.Proofs.Ytgeijojkfojfbab
open Go Go.RowKit Nt

theorem ret_two {a b a' b' : Int} (h : a = a') (k : b = b') : Ending.returned (.tuple #[.int .i64 a, .int .i64 b]) = .returned (.tuple #[.int .i64 a', .int .i64 b']) := by rw [h, k]
set_option maxHeartbeats 400000 in
theorem implCmpNat_any (la ca lb cb : Nat) (A B : Option Addr) (xs ys : List Int) (P : Nat → Prop) (w : World)
    (hx0 : Rd w P A la ca xs) (hy0 : Rd w P B lb cb ys) (hla : la ≤ 16777216) (hlb : lb ≤ 16777216) :
    Calls Try.prog 19 #[.slice A la ca, .slice B lb cb] w fun e w' => e = .returned (.tuple #[.int .i64 (cmpR xs ys), .int .i64 (codeL [xs, ys])]) ∧ Below w.heap.size w w' := by
  have hx : Rd w (· < w.heap.size) A la ca xs := hx0.mono fun _ _ h => h
  have hy : Rd w (· < w.heap.size) B lb cb ys := hy0.mono fun _ _ h => h
  have HX := Lib.hid hx
  have HY := Lib.hid hy
  clear hx0 hy0 hx hy
  go_enter Try.func19, Try.ntmps19
  go_wp2_with fail
  have hb : Below w.heap.size w (w.alloc (.cells #[.slice A la ca, .slice B lb cb] 23)) := (Below.refl _ _).alloc (Nat.le_refl _) _
  refine (natCode2 w.heap.size la ca lb cb A B xs ys (· < w.heap.size) _ (by simp [World.cell?_alloc_at]) (by simp [World.cell?_alloc_at]) (HX.out.below hb) (HY.out.below hb) hla hlb).mono ?_
  rintro e w1 ⟨rfl, rfl⟩
  have HB := Lib.hid hb
  clear hb
  by_cases hcode : codeL [xs, ys] = 0
  · obtain ⟨m, n, hm, hn, rfl, rfl⟩ := codeL2_ok hcode
    have HC := Lib.hid hcode
    rw [hcode]
    clear hcode
    go_wp2_with fail
    refine (compareLimbs_any A B la ca lb cb m n (· < w.heap.size) (· < w.heap.size) _ (HX.out.below HB.out) (HY.out.below HB.out) hla hlb).mono ?_
    rintro e w1 ⟨rfl, hd⟩
    have HD := Lib.hid (HB.out.trans (hd.below _))
    clear hd
    go_wp2
    go_ret2
    exact ⟨ret_two (cmpR_D HC.out).symm HC.out.symm, HD.out⟩
  · have HC := Lib.hid hcode
    have hne : (codeL [xs, ys] != 0) = true := by simpa using hcode
    generalize hc : codeL [xs, ys] = c at *
    have HCC := Lib.hid hc
    clear hcode hc
    go_wp2
    go_ret2
    exact ⟨ret_two (cmpR_bad (by rw [HCC.out]; exact HC.out)).symm HCC.out.symm, HB.out⟩

set_option maxHeartbeats 400000 in
theorem specCmpNat_any (la ca lb cb : Nat) (A B : Option Addr) (xs ys : List Int) (P Q : Nat → Prop) (w : World)
    (hx : Rd w P A la ca xs) (hy : Rd w Q B lb cb ys) (hla : la ≤ 16777216) (hlb : lb ≤ 16777216) :
    Calls Try.prog 30 #[.slice A la ca, .slice B lb cb] w fun e w' => e = .returned (.tuple #[.int .i64 (cmpR xs ys), .int .i64 (codeL [xs, ys])]) ∧ Drawn w w' := by
  have h1 := hx.len
  have h2 := hy.len
  by_cases ha : 4096 < la
  · have hx2 : codeL [xs, ys] = 2 := codeL_long (N := 2) (xss := fun i => if i = 0 then xs else ys) 0 (by omega) (by simp; omega)
    have HX := Lib.hid hx2
    have ha' : decide ((4096 : Int) < la) = true := by simp; omega
    clear h1 h2 hx hy hx2
    go_enter Try.func30, Try.ntmps30
    go_wp2
    go_ret2
    exact ⟨ret_two (cmpR_bad (by rw [HX.out]; decide)).symm HX.out.symm, Drawn.refl _⟩
  have ha' : decide ((4096 : Int) < la) = false := by simp; omega
  by_cases hb : 4096 < lb
  · have hx2 : codeL [xs, ys] = 2 := codeL_long (N := 2) (xss := fun i => if i = 0 then xs else ys) 1 (by omega) (by simp; omega)
    have HX := Lib.hid hx2
    have hb' : decide ((4096 : Int) < lb) = true := by simp; omega
    clear h1 h2 hx hy hx2
    go_enter Try.func30, Try.ntmps30
    go_wp2
    go_ret2
    exact ⟨ret_two (cmpR_bad (by rw [HX.out]; decide)).symm HX.out.symm, Drawn.refl _⟩
  have hb' : decide ((4096 : Int) < lb) = false := by simp; omega
  have HR := Lib.hid hx
  have HS := Lib.hid hy
  clear hx hy h1 h2
  go_enter Try.func30, Try.ntmps30
  go_wp2_with fail
  refine (l01Ask_any _ _ _ _ _ _ _ _ _ _ _ HR.out HS.out hla hlb).mono ?_
  rintro e w1 ⟨rfl, rfl⟩
  by_cases hcode : codeL [xs, ys] = 0
  · obtain ⟨m, n, hm, hn, rfl, rfl⟩ := codeL2_ok hcode
    have HC := Lib.hid hcode
    rw [hcode]
    clear hcode
    go_wp2_with fail
    refine (l01Cmp_any A B la ca lb cb m n _ _ _ HR.out HS.out hla hlb).mono ?_
    rintro e w1 ⟨rfl, hd⟩
    have HD := Lib.hid hd
    clear hd
    go_wp2
    go_ret2
    exact ⟨ret_two (cmpR_D HC.out).symm HC.out.symm, HD.out⟩
  · have HC := Lib.hid hcode
    have hne : (codeL [xs, ys] != 0) = true := by simpa using hcode
    generalize hc : codeL [xs, ys] = c at *
    have HCC := Lib.hid hc
    clear hcode hc
    go_wp2
    go_ret2
    exact ⟨ret_two (cmpR_bad (by rw [HCC.out]; exact HC.out)).symm HCC.out.symm, Drawn.refl _⟩
end Go.Proofs.Ytgeijojkfojfbab
