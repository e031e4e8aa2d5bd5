/-
  NatText of the program and of the model.
-/
import Derived.Test.YtliefhkllpmlmabDoorNatTxt
namespace Nt
open Go Go.RowKit
/-- a text's answer under a code -/
def txtC (code : Int) (t : List UInt8) : List UInt8 := if code = 0 then t else []
theorem codeL_none (xs : List Int) : codeL [xs, []] = codeL [xs] := by
  unfold codeL
  simp [okL]
end Nt
namespace Go.Proofs.YtliefhkllpmlmabDoor
open Go Go.RowKit Nt

set_option maxHeartbeats 1600000 in
theorem implNatText_any (A : Option Addr) (n c : Nat) (xs : List Int) (P : Nat → Prop) (w : World) (hr : Rd w P A n c xs) (hn : n ≤ 1048576) (ht : Pow10 w) :
    Calls Tryd.prog 11 #[.slice A n c] w fun e w' => e = .returned (.tuple #[.string ⟨(txtC (codeL [xs]) (txtN xs)).toArray⟩, .int .i64 (codeL [xs])]) ∧ Below w.heap.size w w' := by
  have HB0 : Hid (Below w.heap.size w (w.alloc (.cells #[.slice A n c] 22))) := (Below.refl _ _).alloc (Nat.le_refl _) _
  have HR := Lib.hid (hr.mono (Q := (· < w.heap.size)) fun _ _ h => h)
  have HC := Lib.hid (natCode1 w.heap.size n c A xs (· < w.heap.size) (w.alloc (.cells #[.slice A n c] 22)) (by have := cell_of_row (w.alloc (.cells #[.slice A n c] 22)) w.heap.size 0 #[.slice A n c] 22 (0, 0) (heap_alloc_new w _); rw [this]; rfl) (HR.out.below HB0.out) (by omega))
  have HT := Lib.hid ht
  clear hr ht
  go_enter Tryd.func11, Tryd.ntmps11
  go_wp2_with fail
  refine HC.out.mono ?_
  rintro e w1 ⟨rfl, rfl⟩
  by_cases hc : codeL [xs] = 0
  · obtain ⟨m, hm, rfl⟩ := codeL1_ok hc
    have HV : Hid (txtC 0 (txtN (D m)) = txtN (D m)) := rfl
    have hnl : n ≤ 40 := by have := HR.out.len; have := (D_len_le m 40).2 hm; omega
    rw [hc]
    go_wp2_with fail
    refine (limbsText_any A n c (D m) (· < w.heap.size) _ (HR.out.below HB0.out) (limbs_D m) (by omega) (pow10_on HT.out HB0.out)).mono ?_
    rintro e w2 ⟨rfl, b2⟩
    have HB2 := Lib.hid (HB0.out.trans (b2.mono HB0.out.size))
    have HCC := Lib.hid hc
    clear b2 hc
    go_wp2
    go_ret2
    exact ⟨by rw [HCC.out, HV.out]; rfl, HB2.out⟩
  · have hne : (codeL [xs] != 0) = true := by simpa using hc
    have HV : Hid (txtC (codeL [xs]) (txtN xs) = []) := by show _ = _; unfold txtC; rw [if_neg hc]
    obtain ⟨code, hcd⟩ : ∃ code, codeL [xs] = code := ⟨_, rfl⟩
    rw [hcd] at hne HV ⊢
    have HCD := Lib.hid hcd
    clear hc hcd HC
    go_wp2
    go_ret2
    exact ⟨by rw [HCD.out, HV.out]; rfl, HB0.out⟩

set_option maxHeartbeats 1600000 in
theorem specNatText_any (A : Option Addr) (n c : Nat) (xs : List Int) (P : Nat → Prop) (w : World) (hr : Rd w P A n c xs) (hn : n ≤ 1048576) :
    Calls Tryd.prog 9 #[.slice A n c] w fun e w' => e = .returned (.tuple #[.string ⟨(txtC (codeL [xs]) (txtN xs)).toArray⟩, .int .i64 (codeL [xs])]) ∧ Below w.heap.size w w' := by
  by_cases h4 : 4096 < n
  · have hl := hr.len
    have hx2 : codeL [xs] = 2 := codeL_long (N := 1) (xss := fun _ => xs) 0 (by omega) (by show 4096 < xs.length; omega)
    have HV : Hid (txtC 2 (txtN xs) = []) := rfl
    have z1 : decide ((4096 : Int) < n) = true := by simp; omega
    have HX2 := Lib.hid hx2
    clear hr hx2
    go_enter Tryd.func9, Tryd.ntmps9
    go_wp2
    go_ret2
    exact ⟨by rw [HX2.out, HV.out]; rfl, Below.refl _ _⟩
  have z1 : decide ((4096 : Int) < n) = false := by simp; omega
  have HB0 : Hid (Below w.heap.size w (w.alloc (.cells #[] 3))) := (Below.refl _ _).alloc (Nat.le_refl _) _
  have HR := Lib.hid (hr.mono (Q := (· < w.heap.size)) fun _ _ h => h)
  have HC := Lib.hid (l01Ask_any n c 0 0 A (some ⟨w.heap.size, 0, none⟩) xs [] (· < w.heap.size) (fun _ => True) (w.alloc (.cells #[] 3)) (HR.out.below HB0.out) (Rd.nil_ _ _ _ _ (fun h => by cases h)) (by omega) (by omega))
  rw [codeL_none] at HC
  clear hr
  go_enter Tryd.func9, Tryd.ntmps9
  go_wp2_with fail
  refine HC.out.mono ?_
  rintro e w1 ⟨rfl, rfl⟩
  by_cases hc : codeL [xs] = 0
  · obtain ⟨m, hm, rfl⟩ := codeL1_ok hc
    have HV : Hid (txtC 0 (txtN (D m)) = txtN (D m)) := rfl
    have hnl : n ≤ 40 := by have := HR.out.len; have := (D_len_le m 40).2 hm; omega
    rw [hc]
    go_wp2_with fail
    refine (l01Text_any A n c (D m) (· < w.heap.size) _ (HR.out.below HB0.out) (limbs_D m) (by omega)).mono ?_
    rintro e w2 ⟨rfl, b2⟩
    have HB2 := Lib.hid (HB0.out.trans (b2.mono HB0.out.size))
    have HCC := Lib.hid hc
    clear b2 hc
    go_wp2
    go_ret2
    exact ⟨by rw [HCC.out, HV.out]; rfl, HB2.out⟩
  · have hne : (codeL [xs] != 0) = true := by simpa using hc
    have HV : Hid (txtC (codeL [xs]) (txtN xs) = []) := by show _ = _; unfold txtC; rw [if_neg hc]
    obtain ⟨code, hcd⟩ : ∃ code, codeL [xs] = code := ⟨_, rfl⟩
    rw [hcd] at hne HV ⊢
    have HCD := Lib.hid hcd
    clear hc hcd HC
    go_wp2
    go_ret2
    exact ⟨by rw [HCD.out, HV.out]; rfl, HB0.out⟩
end Go.Proofs.YtliefhkllpmlmabDoor
