/-
  AddNat of the program.
-/
import Derived.Test.YtgeijojkfojfbabAdd
namespace Nt
open Go Go.RowKit
/-- an answer with a code: nothing beside a code that is not 0 -/
def resL (code : Int) (xs : List Int) : List Int := if code = 0 then xs else []
def resC (code c : Int) : Int := if code = 0 then c else code
theorem res_ok (xs : List Int) (c : Int) : resL 0 xs = xs ∧ resC 0 c = c := ⟨rfl, rfl⟩
theorem resL_fit (code : Int) (xs : List Int) : (resL code (fitL xs)).length ≤ 40 := by
  unfold resL fitL
  split
  · split
    · assumption
    · simp
  · simp
theorem res_bad {code : Int} (h : code ≠ 0) (xs : List Int) (c : Int) : resL code xs = [] ∧ resC code c = code := by unfold resL resC; rw [if_neg h, if_neg h]; exact ⟨rfl, rfl⟩
end Nt
namespace Go.Proofs.Ytgeijojkfojfbab
open Go Go.RowKit Nt

set_option maxHeartbeats 400000 in
theorem implAddNat_any (la ca lb cb : Nat) (A B : Option Addr) (xs ys : List Int) (P : Nat → Prop) (w : World)
    (hx0 : Rd w P A la ca xs) (hy0 : Rd w P B lb cb ys) (hla : la ≤ 16777216) (hlb : lb ≤ 16777216) :
    Calls Try.prog 16 #[.slice A la ca, .slice B lb cb] w (RetCode 3 w (resL (codeL [xs, ys]) (fitL (D (natOf xs + natOf ys)))) (resC (codeL [xs, ys]) (fitC (D (natOf xs + natOf ys))))) := by
  have hx : Rd w (· < w.heap.size) A la ca xs := hx0.mono fun _ _ h => h
  have hy : Rd w (· < w.heap.size) B lb cb ys := hy0.mono fun _ _ h => h
  have HX := Lib.hid hx
  have HY := Lib.hid hy
  clear hx0 hy0 hx hy
  go_enter Try.func16, Try.ntmps16
  go_wp2_with fail
  have hb : Below w.heap.size w (w.alloc (.cells #[.slice A la ca, .slice B lb cb] 23)) := (Below.refl _ _).alloc (Nat.le_refl _) _
  refine (natCode2 w.heap.size la ca lb cb A B xs ys (· < w.heap.size) _ (by simp [World.cell?_alloc_at]) (by simp [World.cell?_alloc_at]) (HX.out.below hb) (HY.out.below hb) hla hlb).mono ?_
  rintro e w1 ⟨rfl, rfl⟩
  have HB := Lib.hid hb
  clear hb
  by_cases hcode : codeL [xs, ys] = 0
  · obtain ⟨m, n, hm, hn, rfl, rfl⟩ := codeL2_ok hcode
    have HC := Lib.hid hcode
    rw [hcode]
    clear hcode
    go_wp2_with fail
    have hla' : la ≤ 40 := by rw [← HX.out.len]; exact (D_len_le m 40).2 hm
    have hlb' : lb ≤ 40 := by rw [← HY.out.len]; exact (D_len_le n 40).2 hn
    refine (addInto_any (w.heap.size + 1) 41 42 (zeros 41) A B la ca lb cb m n _ ?ha (zeros_len 41) ?hx ?hy (by omega) (by omega) (by omega)).mono ?_
    case ha => exact heap_alloc2_new w _ _
    case hx => exact (HX.out.below (HB.out.alloc (by simp) _)).mono (fun b h _ => by omega)
    case hy => exact (HY.out.below (HB.out.alloc (by simp) _)).mono (fun b h _ => by omega)
    rintro e w2 ⟨rfl, full, hfl, harr, htk, hle, hgr⟩
    have HB2 := Lib.hid ((HB.out.alloc (by simp) _).trans (grown_below hgr (by simp <;> omega) (by omega)))
    have hrd := (harr.rd (fun _ => True) trivial 0 (D (m + n)).length 41 (by omega) hle)
    rw [List.drop_zero, htk] at hrd
    have HR := Lib.hid hrd
    clear hrd hfl harr htk hgr
    go_wp2_with fail
    refine (fitting_any _ _ 41 (D (m + n)) (fun _ => True) w2 HR.out (by omega)).mono ?_
    rintro e w3 ⟨A', c', rfl, ho, hb⟩
    have HO := Lib.hid ho
    have HB3 := Lib.hid (HB2.out.trans (hb.mono HB2.out.size))
    clear ho hb
    go_wp2
    go_ret2
    rw [HC.out, natOf_D, natOf_D]
    exact ⟨A', c', rfl, own_mono HO.out HB2.out.size, HB3.out⟩
  · have HC := Lib.hid hcode
    have hne : (codeL [xs, ys] != 0) = true := by simpa using hcode
    generalize hc : codeL [xs, ys] = c at *
    clear hcode hc
    go_wp2
    go_ret2
    obtain ⟨e1, e2⟩ := res_bad HC.out (fitL (D (natOf xs + natOf ys))) (fitC (D (natOf xs + natOf ys)))
    rw [e1, e2]
    exact ⟨none, 0, rfl, World.ownsRow_nil _ _ _ _, HB.out⟩
end Go.Proofs.Ytgeijojkfojfbab
