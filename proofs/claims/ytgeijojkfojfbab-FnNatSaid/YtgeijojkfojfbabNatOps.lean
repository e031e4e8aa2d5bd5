/-
  The calls on naturals, at naturals: what the laws over drawn naturals need.
-/
import Derived.Test.YtgeijojkfojfbabDraw
import Derived.Test.YtgeijojkfojfbabSpecRoot
import Derived.Test.YtgeijojkfojfbabCmpNat
import Derived.Test.YtgeijojkfojfbabGcd
import Derived.Test.YtgeijojkfojfbabCommon
namespace Nt
open Go Go.RowKit

theorem len_pos {m : Nat} (h : 0 < m) : 0 < (D m).length := (D_len_gt m 0).2 (by rw [Nat.pow_zero]; exact h)
theorem len_top {m : Nat} (h : m < Top) : (D m).length ≤ 40 := (D_len_le m 40).2 h
theorem codeL_DD {m n : Nat} (hm : m < Top) (hn : n < Top) : codeL [D m, D n] = 0 := by
  have h1 := len_top hm
  have h2 := len_top hn
  have h3 := okL_D m hm
  have h4 := okL_D n hn
  unfold codeL
  rw [if_pos (by simp; omega), if_pos (by simp [h3, h4])]
theorem codeL_D1 {m : Nat} (hm : m < Top) : codeL [D m] = 0 := by
  have h1 := len_top hm
  have h3 := okL_D m hm
  unfold codeL
  rw [if_pos (by simp; omega), if_pos (by simp [h3])]
def Say (w : World) (m : Nat) (code : Int) (e : Ending) (w' : World) : Prop :=
  ∃ A c, e = .returned (.tuple #[.slice A (D m).length c, .int .i64 code]) ∧ Nm w' A c m ∧ Below w.heap.size w w'
def SayDiv (w : World) (q r : Nat) (code : Int) (e : Ending) (w' : World) : Prop :=
  ∃ A1 c1 A2 c2, e = .returned (.tuple #[.slice A1 (D q).length c1, .slice A2 (D r).length c2, .int .i64 code]) ∧ Nm w' A1 c1 q ∧ Nm w' A2 c2 r ∧ Below w.heap.size w w'
theorem say_of {t : TypeId} {w w' : World} {xs : List Int} {m : Nat} {code code' : Int} {e : Ending} (h : RetCode t w xs code' e w') (hx : xs = D m) (hc : code' = code) : Say w m code e w' := by
  subst hx hc
  obtain ⟨A, c, rfl, ho, hb⟩ := h
  exact ⟨A, c, rfl, (own_rd' ho).mono fun _ _ _ => trivial, hb⟩
theorem sayDiv_of {t : TypeId} {w w' : World} {xs ys : List Int} {q r : Nat} {code code' : Int} {e : Ending} (h : RetDiv t w xs ys code' e w') (hx : xs = D q) (hy : ys = D r) (hc : code' = code) : SayDiv w q r code e w' := by
  subst hx hy hc
  obtain ⟨A1, c1, A2, c2, B2, rfl, ho, _, _, ho2, hb⟩ := h
  exact ⟨A1, c1, A2, c2, rfl, (own_rd' ho).mono fun _ _ _ => trivial, (own_rd' ho2).mono fun _ _ _ => trivial, hb⟩
theorem sayDivS_of {w w' : World} {xs ys : List Int} {q r : Nat} {code code' : Int} {e : Ending} (h : RetDivS w xs ys code' e w') (hx : xs = D q) (hy : ys = D r) (hc : code' = code) : SayDiv w q r code e w' := by
  subst hx hy hc
  obtain ⟨A1, c1, A2, c2, rfl, ho, ho2, hb⟩ := h
  exact ⟨A1, c1, A2, c2, rfl, ho.mono fun _ _ _ => trivial, ho2.mono fun _ _ _ => trivial, hb⟩
theorem small_top {m : Nat} (k : Nat) (hk : k ≤ 40) (h : m < 10000 ^ k) : m < Top := Nat.lt_of_lt_of_le h (Nat.pow_le_pow_right (by decide) hk)
end Nt
namespace Go.Proofs.Ytgeijojkfojfbab
open Go Go.RowKit Nt
variable {A B : Option Addr} {ca cb m n : Nat} {w : World}

theorem addN (hx : Nm w A ca m) (hy : Nm w B cb n) (hm : m < Top) (hn : n < Top) (h : m + n < Top) :
    Calls Try.prog 16 #[.slice A (D m).length ca, .slice B (D n).length cb] w (Say w (m + n) 0) :=
  (implAddNat_any _ ca _ cb A B (D m) (D n) (fun _ => True) w hx hy (by have := len_top hm; omega) (by have := len_top hn; omega)).mono fun _ _ r =>
    say_of r (by rw [codeL_DD hm hn, natOf_D, natOf_D, (res_ok _ 0).1, (fit_D h).1]) (by rw [codeL_DD hm hn, natOf_D, natOf_D, (res_ok [] _).2, (fit_D h).2])
theorem addS (hx : Nm w A ca m) (hy : Nm w B cb n) (hm : m < Top) (hn : n < Top) (h : m + n < Top) :
    Calls Try.prog 17 #[.slice A (D m).length ca, .slice B (D n).length cb] w (Say w (m + n) 0) :=
  (specAddNat_any _ ca _ cb A B (D m) (D n) (fun _ => True) (fun _ => True) w hx hy (by have := len_top hm; omega) (by have := len_top hn; omega)).mono fun _ _ r =>
    say_of r (by rw [codeL_DD hm hn, natOf_D, natOf_D, (res_ok _ 0).1, (fit_D h).1]) (by rw [codeL_DD hm hn, natOf_D, natOf_D, (res_ok [] _).2, (fit_D h).2])
theorem mulN (hx : Nm w A ca m) (hy : Nm w B cb n) (hm : m < Top) (hn : n < Top) (h : m * n < Top) :
    Calls Try.prog 22 #[.slice A (D m).length ca, .slice B (D n).length cb] w (Say w (m * n) 0) :=
  (implMulNat_any _ ca _ cb A B (D m) (D n) (fun _ => True) w hx hy (by have := len_top hm; omega) (by have := len_top hn; omega)).mono fun _ _ r =>
    say_of r (by rw [codeL_DD hm hn, natOf_D, natOf_D, (res_ok _ 0).1, (fit_D h).1]) (by rw [codeL_DD hm hn, natOf_D, natOf_D, (res_ok [] _).2, (fit_D h).2])
theorem mulS (hx : Nm w A ca m) (hy : Nm w B cb n) (hm : m < Top) (hn : n < Top) (h : m * n < Top) :
    Calls Try.prog 23 #[.slice A (D m).length ca, .slice B (D n).length cb] w (Say w (m * n) 0) :=
  (specMulNat_any _ ca _ cb A B (D m) (D n) (fun _ => True) (fun _ => True) w hx hy (by have := len_top hm; omega) (by have := len_top hn; omega)).mono fun _ _ r =>
    say_of r (by rw [codeL_DD hm hn, natOf_D, natOf_D, (res_ok _ 0).1, (fit_D h).1]) (by rw [codeL_DD hm hn, natOf_D, natOf_D, (res_ok [] _).2, (fit_D h).2])
theorem subN (hx : Nm w A ca m) (hy : Nm w B cb n) (hm : m < Top) (hn : n < Top) (h : n ≤ m) :
    Calls Try.prog 18 #[.slice A (D m).length ca, .slice B (D n).length cb] w (Say w (m - n) 0) :=
  (implSubNat_any _ ca _ cb A B (D m) (D n) (fun _ => True) w hx hy (by have := len_top hm; omega) (by have := len_top hn; omega)).mono fun _ _ r =>
    say_of r (by rw [codeL_DD hm hn, natOf_D, natOf_D, (res_ok _ 0).1, (subL_ge (by omega)).1]) (by rw [codeL_DD hm hn, natOf_D, natOf_D, (res_ok [] _).2, (subL_ge (by omega)).2])
theorem subN_any (hx : Nm w A ca m) (hy : Nm w B cb n) (hm : m < Top) (hn : n < Top) :
    Calls Try.prog 18 #[.slice A (D m).length ca, .slice B (D n).length cb] w (Say w (m - n) (subC m n)) :=
  (implSubNat_any _ ca _ cb A B (D m) (D n) (fun _ => True) w hx hy (by have := len_top hm; omega) (by have := len_top hn; omega)).mono fun _ _ r =>
    say_of r (by
      rw [codeL_DD hm hn, natOf_D, natOf_D, (res_ok _ 0).1]
      by_cases h : m < n
      · rw [(subL_lt h).1, show m - n = 0 from by omega]; rfl
      · rw [(subL_ge h).1]) (by rw [codeL_DD hm hn, natOf_D, natOf_D, (res_ok [] _).2])
theorem cmpN (hx : Nm w A ca m) (hy : Nm w B cb n) (hm : m < Top) (hn : n < Top) :
    Calls Try.prog 19 #[.slice A (D m).length ca, .slice B (D n).length cb] w (fun e w' => e = .returned (.tuple #[.int .i64 (cmpI m n), .int .i64 0]) ∧ Below w.heap.size w w') :=
  (implCmpNat_any _ ca _ cb A B (D m) (D n) (fun _ => True) w hx hy (by have := len_top hm; omega) (by have := len_top hn; omega)).mono fun _ _ ⟨h1, h2⟩ =>
    ⟨by rw [h1, cmpR_D (codeL_DD hm hn), codeL_DD hm hn], h2⟩
theorem divN (hx : Nm w A ca m) (hy : Nm w B cb n) (hm : m < Top) (hn : n < Top) (h : 0 < n) :
    Calls Try.prog 24 #[.slice A (D m).length ca, .slice B (D n).length cb] w (SayDiv w (m / n) (m % n) 0) :=
  (implDivNat_any _ ca _ cb A B (D m) (D n) (fun _ => True) w hx hy (by have := len_top hm; omega) (by have := len_top hn; omega)).mono fun _ _ r =>
    sayDiv_of r (by rw [codeL_DD hm hn, natOf_D, natOf_D, (res_ok _ 0).1, (div_pos m h).1]) (by rw [codeL_DD hm hn, natOf_D, natOf_D, (res_ok _ 0).1, (div_pos m h).2.1]) (by rw [codeL_DD hm hn, natOf_D, (res_ok [] _).2, (div_pos m h).2.2])
theorem divN0 (hx : Nm w A ca m) (hy : Nm w B cb 0) (hm : m < Top) :
    Calls Try.prog 24 #[.slice A (D m).length ca, .slice B (D 0).length cb] w (SayDiv w 0 0 9) :=
  (implDivNat_any _ ca _ cb A B (D m) (D 0) (fun _ => True) w hx hy (by have := len_top hm; omega) (by decide)).mono fun _ _ r =>
    sayDiv_of r (by rw [codeL_DD hm (by decide), natOf_D, natOf_D, (res_ok _ 0).1]; rfl) (by rw [codeL_DD hm (by decide), natOf_D, natOf_D, (res_ok _ 0).1]; rfl) (by rw [codeL_DD hm (by decide), natOf_D, (res_ok [] _).2]; rfl)
theorem divS (hx : Nm w A ca m) (hy : Nm w B cb n) (hm : m < Top) (hn : n < Top) (h : 0 < n) :
    Calls Try.prog 25 #[.slice A (D m).length ca, .slice B (D n).length cb] w (SayDiv w (m / n) (m % n) 0) :=
  (specDivNat_any _ ca _ cb A B (D m) (D n) (fun _ => True) (fun _ => True) w hx hy (by have := len_top hm; omega) (by have := len_top hn; omega)).mono fun _ _ r =>
    sayDivS_of r (by rw [codeL_DD hm hn, natOf_D, natOf_D, (res_ok _ 0).1, (div_pos m h).1]) (by rw [codeL_DD hm hn, natOf_D, natOf_D, (res_ok _ 0).1, (div_pos m h).2.1]) (by rw [codeL_DD hm hn, natOf_D, (res_ok [] _).2, (div_pos m h).2.2])
theorem gcdN (hx : Nm w A ca m) (hy : Nm w B cb n) (hm : m < Top) (hn : n < Top) :
    Calls Try.prog 26 #[.slice A (D m).length ca, .slice B (D n).length cb] w (Say w (Nat.gcd m n) 0) :=
  (implGcdNat_any _ ca _ cb A B (D m) (D n) (fun _ => True) w hx hy (by have := len_top hm; omega) (by have := len_top hn; omega)).mono fun _ _ r =>
    say_of r (by rw [codeL_DD hm hn, natOf_D, natOf_D, (res_ok _ 0).1]) (codeL_DD hm hn)
theorem gcdS (hx : Nm w A ca m) (hy : Nm w B cb n) (hm : m < Top) (hn : n < Top) :
    Calls Try.prog 27 #[.slice A (D m).length ca, .slice B (D n).length cb] w (Say w (Nat.gcd m n) 0) :=
  (specGcdNat_any _ ca _ cb A B (D m) (D n) (fun _ => True) (fun _ => True) w hx hy (by have := len_top hm; omega) (by have := len_top hn; omega)).mono fun _ _ r =>
    say_of r (by rw [codeL_DD hm hn, natOf_D, natOf_D, (res_ok _ 0).1]) (codeL_DD hm hn)
theorem rootN (hx : Nm w A ca m) (hm : m < Top) :
    Calls Try.prog 28 #[.slice A (D m).length ca] w (Say w (rt m) 0) :=
  (implRootNat_any _ ca A (D m) (fun _ => True) w hx (by have := len_top hm; omega)).mono fun _ _ r =>
    say_of r (by rw [codeL_D1 hm, natOf_D, (res_ok _ 0).1]) (codeL_D1 hm)
theorem rootS (hx : Nm w A ca m) (hm : m < Top) :
    Calls Try.prog 29 #[.slice A (D m).length ca] w (Say w (rt m) 0) :=
  (specRootNat_any _ ca A (D m) (fun _ => True) w hx (by have := len_top hm; omega)).mono fun _ _ r =>
    say_of r (by rw [codeL_D1 hm, natOf_D, (res_ok _ 0).1]) (codeL_D1 hm)
theorem okN (hx : Nm w A ca m) (hm : m < Top) :
    Calls Try.prog 21 #[.slice A (D m).length ca] w fun e w' => e = .returned (.bool true) ∧ w = w' :=
  (implNatOK_any A _ ca (D m) (fun _ => True) w hx (by have := len_top hm; omega)).mono fun _ _ ⟨h1, h2⟩ => ⟨by rw [h1, okL_D m hm], h2⟩
theorem drawN (cc nn : Nat) (hR : RdB w (· < w.heap.size) A nn) (hn : nn ≤ 1099511627776) :
    Calls Try.prog 15 #[.slice A nn cc] w (fun e w' => ∃ m : Nat, m < 10000 ^ 4 ∧ ∃ A' c', e = .returned (.slice A' (D m).length c') ∧ Nm w' A' c' m ∧ Below w.heap.size w w') :=
  (natDrawn_any A nn cc w hR hn).mono fun _ _ ⟨m, hm, h⟩ => ⟨m, hm, new_of h⟩
theorem sameN (hx : Nm w A ca m) (hy : Nm w B cb m) (hm : m < Top) :
    Calls Try.prog 20 #[.slice A (D m).length ca, .slice B (D m).length cb] w fun e w' => e = .returned (.bool true) ∧ Drawn w w' :=
  sameInts_same A B _ ca _ cb (D m) _ _ w hx hy (by have := len_top hm; omega)

end Go.Proofs.Ytgeijojkfojfbab
