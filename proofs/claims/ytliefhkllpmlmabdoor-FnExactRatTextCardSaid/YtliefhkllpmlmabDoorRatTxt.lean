/-
  The text of a rational: RatText of the program and of the model.
-/
import Derived.Test.YtliefhkllpmlmabDoorNatText
import Derived.Test.YtliefhkllpmlmabDoorGrpC
namespace Nt
open Go Go.RowKit
def sgnT (neg : Bool) : List UInt8 := if neg then [45] else []
def denT (d : Nat) : List UInt8 := if d = 1 then [] else 47 :: txtN (D d)
/-- the text of a rational, by its parts -/
def txtR (neg : Bool) (m d : Nat) : List UInt8 := sgnT neg ++ txtN (D m) ++ denT d
/-- the text and the code of whatever lists -/
def ratT (neg : Bool) (xs ys : List Int) : List UInt8 := if okR neg xs ys = true then txtR neg (natOf xs) (natOf ys) else []
def ratK (neg : Bool) (xs ys : List Int) : Int := if okR neg xs ys = true then 0 else 1
end Nt
namespace Nt
open Go Go.RowKit
theorem RatAt.under1 {w w' : World} {b N : Nat} {t : TypeId} {neg : Bool} {A B : Option Addr} {la ca lb cb : Nat} (h : RatAt w b t neg A la ca B lb cb) (hb : b < N) (hw : Below N w w') : RatAt w' b t neg A la ca B lb cb := (hw.block b hb).trans h
end Nt
namespace Go.Proofs.YtliefhkllpmlmabDoor
open Go Go.RowKit Nt
theorem txtN_len (m : Nat) (h : (D m).length ≤ 1000) : (txtN (D m)).length ≤ 100000000 := by
  unfold txtN
  split
  · simp
  · rename_i hne
    have h0 : 0 < (D m).length := List.length_pos_iff.2 hne
    have := txtK_len (limbs_D m) h0 ((D m).length - 1) (by omega)
    omega
theorem str_app1 (a : ByteArray) (x : UInt8) (l : List UInt8) (h : a = ⟨#[x]⟩) : (a ++ ⟨l.toArray⟩ : ByteArray) = ⟨(x :: l).toArray⟩ := by
  subst h
  exact str_app [x] l
theorem str_app2 (a : ByteArray) (x : UInt8) (l : List UInt8) (h : a = ⟨#[x]⟩) : (⟨l.toArray⟩ ++ a : ByteArray) = ⟨(l ++ [x]).toArray⟩ := by
  subst h
  exact str_app l [x]

set_option maxHeartbeats 1600000 in
theorem text_any (neg : Bool) (m d : Nat) (A B : Option Addr) (ca cb : Nat) (P : Nat → Prop) (w : World) (hr : RdR w P (D m) (D d) A ca B cb) (l1 : (D m).length ≤ 1000) (l2 : (D d).length ≤ 1000) (ht : Pow10 w) :
    Calls Tryd.prog 48 #[.agg #[.bool neg, .slice A (D m).length ca, .slice B (D d).length cb]] w fun e w' => e = .returned (.string ⟨(txtR neg m d).toArray⟩) ∧ Below w.heap.size w w' := by
  have HR := Lib.hid (hr.mono (Q := (· < w.heap.size)) fun _ _ h => h)
  have HT := Lib.hid ht
  have HV : Hid (txtR neg m d = sgnT neg ++ txtN (D m) ++ denT d) := rfl
  have k1 := txtN_len m l1
  have k2 := txtN_len d l2
  clear hr ht
  have HN := Lib.hid (fun (W : World) (h : RdR W (· < w.heap.size) (D m) (D d) A ca B cb) (k : Pow10 W) => limbsText_any A _ ca (D m) _ W h.1 (limbs_D m) l1 k)
  have HD := Lib.hid (fun (W : World) (h : RdR W (· < w.heap.size) (D m) (D d) A ca B cb) (k : Pow10 W) => limbsText_any B _ cb (D d) _ W h.2 (limbs_D d) l2 k)
  have HDN : Hid (denT d = if d = 1 then [] else 47 :: txtN (D d)) := rfl
  generalize txtN (D m) = tm at *
  generalize txtN (D d) = td at *
  obtain ⟨dt, hdt⟩ : ∃ dt, dt = denT d := ⟨_, rfl⟩
  rw [← hdt] at HDN HV
  clear hdt
  go_enter Tryd.func48, Tryd.ntmps48
  go_wp2_with fail
  refine calls_at (fun V => Below w.heap.size w V ∧ RatAt V w.heap.size 37 neg A (D m).length ca B (D d).length cb) ⟨below1 _ _, RatAt.new _ _ _ _ _ _ _ _ _⟩ ?_
  rintro v0 ⟨b0, r0⟩
  refine (HN.out v0 (HR.out.below b0) (pow10_on HT.out b0)).mono ?_
  rintro e v1 ⟨rfl, b1⟩
  have HB1 := Lib.hid (below_on b0 b1)
  have HR1 := Lib.hid (r0.on b1)
  clear b0 r0 b1
  have q0 := HR1.out.c0
  have q1 := HR1.out.c1
  have q2 := HR1.out.c2
  have hs1 : ¬ 9223372036854775807 < 1 + tm.length := by omega
  have HCT : Hid (∀ (sg : List UInt8) (_ : sg.length ≤ 1), True) := fun _ _ => trivial
  cases neg with
  | false =>
    go_wp2_with fail
    refine (isOne_any B _ cb d _ v1 (HR.out.below HB1.out).2 (by omega)).mono ?_
    rintro e v2 ⟨rfl, b2⟩
    have HB2 := Lib.hid (below_on HB1.out b2)
    have HR2 := Lib.hid (HR1.out.on b2)
    clear b2 q0 q1 q2 HB1 HR1
    by_cases hd : d = 1
    · subst hd
      have HE : Hid (txtR false m 1 = tm) := by show _ = _; rw [HV.out, HDN.out]; simp [sgnT]
      have z1 : decide ((1 : Nat) = 1) = true := rfl
      rw [z1]
      go_wp2
      go_ret
      exact ⟨ret_str' (by rw [HE.out]), HB2.out⟩
    · have HE : Hid (txtR false m d = tm ++ [47] ++ td) := by show _ = _; rw [HV.out, HDN.out, if_neg hd]; simp [sgnT]
      rw [decide_eq_false hd]
      have q2 := HR2.out.c2
      have hs2 : ¬ 9223372036854775807 < tm.length + 1 := by omega
      have HS2 := Lib.hid (fun a => str_app2 a 47 tm)
      clear hd HDN
      go_wp2_with fail
      refine (HD.out v2 (HR.out.below HB2.out) (pow10_on HT.out HB2.out)).mono ?_
      rintro e v3 ⟨rfl, b3⟩
      have HB3 := Lib.hid (below_on HB2.out b3)
      rw [HS2.out _ rfl]
      have hs3 : ¬ 9223372036854775807 < (tm ++ [47]).length + td.length := by simp; omega
      generalize hg : tm ++ [47] = tg at *
      have HG := Lib.hid hg
      clear b3 q2 HB2 HR2 hg
      go_wp2
      go_ret
      exact ⟨ret_str' (by rw [HE.out, str_app]), HB3.out⟩
  | true =>
    have HS1 := Lib.hid (fun a => str_app1 a 45 tm)
    go_wp2_with fail
    refine (isOne_any B _ cb d _ v1 (HR.out.below HB1.out).2 (by omega)).mono ?_
    rintro e v2 ⟨rfl, b2⟩
    rw [HS1.out _ rfl]
    have HB2 := Lib.hid (below_on HB1.out b2)
    have HR2 := Lib.hid (HR1.out.on b2)
    clear b2 q0 q1 q2 HB1 HR1
    by_cases hd : d = 1
    · subst hd
      have HE : Hid (txtR true m 1 = 45 :: tm) := by show _ = _; rw [HV.out, HDN.out]; simp [sgnT]
      have z1 : decide ((1 : Nat) = 1) = true := rfl
      rw [z1]
      go_wp2
      go_ret
      exact ⟨ret_str' (by rw [HE.out]), HB2.out⟩
    · have HE : Hid (txtR true m d = 45 :: tm ++ [47] ++ td) := by show _ = _; rw [HV.out, HDN.out, if_neg hd]; simp [sgnT]
      rw [decide_eq_false hd]
      have q2 := HR2.out.c2
      have hs2 : ¬ 9223372036854775807 < (45 :: tm).length + 1 := by simp; omega
      have HS2 := Lib.hid (fun a => str_app2 a 47 (45 :: tm))
      have hs3 : ¬ 9223372036854775807 < (45 :: tm ++ [47]).length + td.length := by simp; omega
      generalize 45 :: tm = tn at *
      clear hd HDN
      go_wp2_with fail
      refine (HD.out v2 (HR.out.below HB2.out) (pow10_on HT.out HB2.out)).mono ?_
      rintro e v3 ⟨rfl, b3⟩
      have HB3 := Lib.hid (below_on HB2.out b3)
      rw [HS2.out _ rfl]
      generalize hg : tn ++ [47] = tg at *
      clear b3 q2 HB2 HR2 hg
      go_wp2
      go_ret
      exact ⟨ret_str' (by rw [HE.out, str_app]), HB3.out⟩

theorem cmpI_one (d : Nat) : (cmpI d 1 != 0) = !decide (d = 1) := by
  unfold cmpI
  by_cases h : d < 1
  · rw [if_pos h]
    have : ¬ d = 1 := by omega
    simp [this]
  · rw [if_neg h]
    by_cases h2 : d = 1
    · simp [h2]
    · simp [h2]

set_option maxHeartbeats 1600000 in
theorem l02Text_any (neg : Bool) (m d : Nat) (A B : Option Addr) (ca cb : Nat) (P : Nat → Prop) (w : World) (hr : RdR w P (D m) (D d) A ca B cb) (l1 : (D m).length ≤ 1000) (l2 : (D d).length ≤ 1000) :
    Calls Tryd.prog 46 #[.agg #[.bool neg, .slice A (D m).length ca, .slice B (D d).length cb]] w fun e w' => e = .returned (.string ⟨(txtR neg m d).toArray⟩) ∧ Below w.heap.size w w' := by
  have HR := Lib.hid (hr.mono (Q := (· < w.heap.size)) fun _ _ h => h)
  have HV : Hid (txtR neg m d = sgnT neg ++ txtN (D m) ++ denT d) := rfl
  have k1 := txtN_len m l1
  have k2 := txtN_len d l2
  clear hr
  have HN := Lib.hid (fun (W : World) (h : RdR W (· < w.heap.size) (D m) (D d) A ca B cb) => l01Text_any A _ ca (D m) _ W h.1 (limbs_D m) l1)
  have HD := Lib.hid (fun (W : World) (h : RdR W (· < w.heap.size) (D m) (D d) A ca B cb) => l01Text_any B _ cb (D d) _ W h.2 (limbs_D d) l2)
  have HDN : Hid (denT d = if d = 1 then [] else 47 :: txtN (D d)) := rfl
  have HCM := Lib.hid (cmpI_one d)
  generalize txtN (D m) = tm at *
  generalize txtN (D d) = td at *
  obtain ⟨dt, hdt⟩ : ∃ dt, dt = denT d := ⟨_, rfl⟩
  rw [← hdt] at HDN HV
  clear hdt
  go_enter Tryd.func46, Tryd.ntmps46
  go_wp2_with fail
  refine calls_at (fun V => Below w.heap.size w V ∧ RatAt V w.heap.size 37 neg A (D m).length ca B (D d).length cb) ⟨below1 _ _, RatAt.new _ _ _ _ _ _ _ _ _⟩ ?_
  rintro v0 ⟨b0, r0⟩
  refine (HN.out v0 (HR.out.below b0)).mono ?_
  rintro e v1 ⟨rfl, b1⟩
  have HB1 := Lib.hid (below_on b0 b1)
  have HR1 := Lib.hid (r0.on b1)
  clear b0 r0 b1
  have q0 := HR1.out.c0
  have q1 := HR1.out.c1
  have q2 := HR1.out.c2
  have hs1 : ¬ 9223372036854775807 < 1 + tm.length := by omega
  cases neg with
  | false =>
    go_wp2_with fail
    refine calls_at (fun V => Below w.heap.size w V ∧ RatAt V w.heap.size 37 false A (D m).length ca B (D d).length cb ∧ Nm V (some ⟨v1.heap.size, 0, none⟩) 1 1) ⟨below_on HB1.out (below1 _ _), HR1.out.on (below1 _ _), Nm.lit _ _⟩ ?_
    rintro v2 ⟨b2, r2, n2⟩
    refine (l01Cmp_any B _ _ cb _ 1 d 1 _ _ v2 (HR.out.below b2).2 n2 (by omega) (by have : (D 1).length = 1 := rfl; omega)).mono ?_
    rintro e v3 ⟨rfl, dd⟩
    have b3 := dd.below v2.heap.size
    have HB3 := Lib.hid (below_on b2 b3)
    have HR3 := Lib.hid (r2.on b3)
    clear b2 r2 n2 dd b3 q0 q1 q2 HB1 HR1
    have hcm := HCM.out
    by_cases hd : d = 1
    · have HE : Hid (txtR false m d = tm) := by show _ = _; rw [HV.out, HDN.out, if_pos hd]; simp [sgnT]
      rw [decide_eq_true hd] at hcm
      generalize cmpI d 1 = cc at *
      clear hd HDN
      go_wp2
      go_ret
      exact ⟨ret_str' (by rw [HE.out]), HB3.out⟩
    · have HE : Hid (txtR false m d = tm ++ (47 :: td)) := by show _ = _; rw [HV.out, HDN.out, if_neg hd]; simp [sgnT]
      rw [decide_eq_false hd] at hcm
      generalize cmpI d 1 = cc at *
      have q2 := HR3.out.c2
      have hs2 : ¬ 9223372036854775807 < 1 + td.length := by omega
      have hs3 : ¬ 9223372036854775807 < (tm).length + (1 + td.length) := by simp; omega
      have HS2 := Lib.hid (fun a => str_app1 a 47 td)
      clear hd HDN
      go_wp2_with fail
      refine (HD.out v3 (HR.out.below HB3.out)).mono ?_
      rintro e v4 ⟨rfl, b4⟩
      have HB4 := Lib.hid (below_on HB3.out b4)
      clear b4 q2 HB3 HR3
      go_wp2
      go_ret
      exact ⟨ret_str' (by rw [HE.out, HS2.out _ rfl, str_app]), HB4.out⟩
  | true =>
    have HS1 := Lib.hid (fun a => str_app1 a 45 tm)
    go_wp2_with fail
    rw [HS1.out _ rfl]
    refine calls_at (fun V => Below w.heap.size w V ∧ RatAt V w.heap.size 37 true A (D m).length ca B (D d).length cb ∧ Nm V (some ⟨v1.heap.size, 0, none⟩) 1 1) ⟨below_on HB1.out (below1 _ _), HR1.out.on (below1 _ _), Nm.lit _ _⟩ ?_
    rintro v2 ⟨b2, r2, n2⟩
    refine (l01Cmp_any B _ _ cb _ 1 d 1 _ _ v2 (HR.out.below b2).2 n2 (by omega) (by have : (D 1).length = 1 := rfl; omega)).mono ?_
    rintro e v3 ⟨rfl, dd⟩
    have b3 := dd.below v2.heap.size
    have HB3 := Lib.hid (below_on b2 b3)
    have HR3 := Lib.hid (r2.on b3)
    clear b2 r2 n2 dd b3 q0 q1 q2 HB1 HR1
    have hcm := HCM.out
    by_cases hd : d = 1
    · have HE : Hid (txtR true m d = 45 :: tm) := by show _ = _; rw [HV.out, HDN.out, if_pos hd]; simp [sgnT]
      rw [decide_eq_true hd] at hcm
      generalize cmpI d 1 = cc at *
      clear hd HDN
      go_wp2
      go_ret
      exact ⟨ret_str' (by rw [HE.out]), HB3.out⟩
    · have HE : Hid (txtR true m d = 45 :: tm ++ (47 :: td)) := by show _ = _; rw [HV.out, HDN.out, if_neg hd]; simp [sgnT]
      rw [decide_eq_false hd] at hcm
      generalize cmpI d 1 = cc at *
      have q2 := HR3.out.c2
      have hs2 : ¬ 9223372036854775807 < 1 + td.length := by omega
      have hs3 : ¬ 9223372036854775807 < (45 :: tm).length + (1 + td.length) := by simp; omega
      have HS2 := Lib.hid (fun a => str_app1 a 47 td)
      generalize 45 :: tm = tn at *
      clear hd HDN
      go_wp2_with fail
      refine (HD.out v3 (HR.out.below HB3.out)).mono ?_
      rintro e v4 ⟨rfl, b4⟩
      have HB4 := Lib.hid (below_on HB3.out b4)
      clear b4 q2 HB3 HR3
      go_wp2
      go_ret
      exact ⟨ret_str' (by rw [HE.out, HS2.out _ rfl, str_app]), HB4.out⟩

set_option maxHeartbeats 1600000 in
theorem implRatText_any (neg : Bool) (xs ys : List Int) (A B : Option Addr) (ca cb : Nat) (P : Nat → Prop) (w : World) (hr : RdR w P xs ys A ca B cb) (l1 : xs.length ≤ 1048576) (l2 : ys.length ≤ 1048576) (ht : Pow10 w) :
    Calls Tryd.prog 19 #[.agg #[.bool neg, .slice A xs.length ca, .slice B ys.length cb]] w fun e w' => e = .returned (.tuple #[.string ⟨(ratT neg xs ys).toArray⟩, .int .i64 (ratK neg xs ys)]) ∧ Below w.heap.size w w' := by
  have HR := Lib.hid (hr.mono (Q := (· < w.heap.size)) fun _ _ h => h)
  have HT := Lib.hid ht
  have HB0 := Lib.hid (below1 w (.cells #[.bool neg, .slice A xs.length ca, .slice B ys.length cb] 37))
  have HQ0 := Lib.hid (RatAt.new w 37 neg A B xs.length ca ys.length cb)
  have hrl := HR.out.below HB0.out
  have hcd := ratCode1 ⟨neg, A, xs.length, ca, B, ys.length, cb, xs, ys⟩ (w.alloc (.cells #[.bool neg, .slice A xs.length ca, .slice B ys.length cb] 37)) _ rfl ⟨hrl.1.mono fun _ _ h => h, hrl.2.mono fun _ _ h => h⟩ ⟨by show xs.length ≤ _; omega, by show ys.length ≤ _; omega⟩
  rw [World.size_alloc] at hcd
  have HC := Lib.hid hcd
  clear hr ht hcd hrl
  by_cases hok : okR neg xs ys = true
  · have HV : Hid (ratT neg xs ys = txtR neg (natOf xs) (natOf ys) ∧ ratK neg xs ys = 0) := by unfold ratT ratK; rw [if_pos hok, if_pos hok]; exact ⟨rfl, rfl⟩
    obtain ⟨q, rfl, rfl, rfl, t1, t2⟩ := okR_out hok
    rw [natOf_D, natOf_D] at HV
    have k1 := (D_len_le (nu q) 40).2 t1
    have k2 := (D_len_le q.den 40).2 t2
    have hz : codeR [(⟨isNeg q, A, (D (nu q)).length, ca, B, (D q.den).length, cb, D (nu q), D q.den⟩ : RV)] = 0 := by unfold codeR; rw [if_pos]; simp [RV.ok, hok]
    rw [hz] at HC
    have HX := Lib.hid (fun (W : World) (h : RdR W (· < w.heap.size) (D (nu q)) (D q.den) A ca B cb) (k : Pow10 W) => text_any (isNeg q) (nu q) q.den A B ca cb _ W h (by omega) (by omega) k)
    clear hok hz
    have HE : Hid (∀ t, t = txtR (isNeg q) (nu q) q.den → txtR (isNeg q) (nu q) q.den = t) := fun t h => h.symm
    go_enter Tryd.func19, Tryd.ntmps19
    go_wp2_with fail
    refine HC.out.mono ?_
    rintro e v1 ⟨rfl, b1⟩
    have b1 : Below _ _ v1 := b1
    have HB1 := Lib.hid (HB0.out.trans (b1.mono (by simp)))
    have HR1 := Lib.hid (HQ0.out.under1 (by simp) b1)
    clear b1 HC
    have q0 := HR1.out.c0
    have q1 := HR1.out.c1
    have q2 := HR1.out.c2
    go_wp2_with fail
    refine (HX.out v1 (HR.out.below HB1.out) (pow10_on HT.out HB1.out)).mono ?_
    rintro e v2 ⟨rfl, b2⟩
    have HB2 := Lib.hid (below_on HB1.out b2)
    clear b2 q0 q1 q2
    go_wp2
    go_ret2
    exact ⟨by rw [HV.out.1, HV.out.2]; rfl, HB2.out⟩
  · have hno : okR neg xs ys = false := (Bool.not_eq_true _).mp hok
    have HV : Hid (ratT neg xs ys = [] ∧ ratK neg xs ys = 1) := by unfold ratT ratK; rw [if_neg hok, if_neg hok]; exact ⟨rfl, rfl⟩
    have hz : codeR [(⟨neg, A, xs.length, ca, B, ys.length, cb, xs, ys⟩ : RV)] = 1 := by unfold codeR; rw [if_neg]; simp [RV.ok, hno]
    rw [hz] at HC
    clear hok hz hno
    go_enter Tryd.func19, Tryd.ntmps19
    go_wp2_with fail
    refine HC.out.mono ?_
    rintro e v1 ⟨rfl, b1⟩
    have HB1 := Lib.hid (HB0.out.trans (b1.mono (by simp)))
    clear b1 HC
    go_wp2
    go_ret2
    exact ⟨by rw [HV.out.1, HV.out.2]; rfl, HB1.out⟩

set_option maxHeartbeats 1600000 in
theorem specRatText_any (neg : Bool) (xs ys : List Int) (A B : Option Addr) (ca cb : Nat) (P : Nat → Prop) (w : World) (hr : RdR w P xs ys A ca B cb) (l1 : xs.length ≤ 1048576) (l2 : ys.length ≤ 1048576) :
    Calls Tryd.prog 17 #[.agg #[.bool neg, .slice A xs.length ca, .slice B ys.length cb]] w fun e w' => e = .returned (.tuple #[.string ⟨(ratT neg xs ys).toArray⟩, .int .i64 (ratK neg xs ys)]) ∧ Below w.heap.size w w' := by
  have HR := Lib.hid (hr.mono (Q := (· < w.heap.size)) fun _ _ h => h)
  have HB0 := Lib.hid (below1 w (.cells #[.bool neg, .slice A xs.length ca, .slice B ys.length cb] 37))
  have HQ0 := Lib.hid (RatAt.new w 37 neg A B xs.length ca ys.length cb)
  have hrl := HR.out.below HB0.out
  clear hr hrl
  by_cases hok : okR neg xs ys = true
  · have HV : Hid (ratT neg xs ys = txtR neg (natOf xs) (natOf ys) ∧ ratK neg xs ys = 0) := by unfold ratT ratK; rw [if_pos hok, if_pos hok]; exact ⟨rfl, rfl⟩
    obtain ⟨q, rfl, rfl, rfl, t1, t2⟩ := okR_out hok
    rw [natOf_D, natOf_D] at HV
    have k1 := (D_len_le (nu q) 40).2 t1
    have k2 := (D_len_le q.den 40).2 t2
    have HX := Lib.hid (fun (W : World) (h : RdR W (· < w.heap.size) (D (nu q)) (D q.den) A ca B cb) => l02Text_any (isNeg q) (nu q) q.den A B ca cb _ W h (by omega) (by omega))
    have HOK := Lib.hid hok
    clear hok
    have HE : Hid (∀ t, t = txtR (isNeg q) (nu q) q.den → txtR (isNeg q) (nu q) q.den = t) := fun t h => h.symm
    go_enter Tryd.func17, Tryd.ntmps17
    go_wp2_with fail
    refine calls_at (fun V => Below w.heap.size w V ∧ RatAt V w.heap.size 37 (isNeg q) A (D (nu q)).length ca B (D q.den).length cb) ⟨HB0.out, HQ0.out⟩ ?_
    rintro v0 ⟨b0, r0⟩
    have hr0 := HR.out.below b0
    refine (specRatOK_any (isNeg q) A B _ ca _ cb _ _ _ _ v0 hr0.1 hr0.2 (by omega) (by omega)).mono ?_
    rintro e v1 ⟨rfl, b1⟩
    rw [HOK.out]
    have HB1 := Lib.hid (below_on b0 b1)
    have HR1 := Lib.hid (r0.on b1)
    clear b0 r0 b1 hr0
    have q0 := HR1.out.c0
    have q1 := HR1.out.c1
    have q2 := HR1.out.c2
    go_wp2_with fail
    refine (HX.out v1 (HR.out.below HB1.out)).mono ?_
    rintro e v2 ⟨rfl, b2⟩
    have HB2 := Lib.hid (below_on HB1.out b2)
    clear b2 q0 q1 q2
    go_wp2
    go_ret2
    exact ⟨by rw [HV.out.1, HV.out.2]; rfl, HB2.out⟩
  · have hno : okR neg xs ys = false := (Bool.not_eq_true _).mp hok
    have HV : Hid (ratT neg xs ys = [] ∧ ratK neg xs ys = 1) := by unfold ratT ratK; rw [if_neg hok, if_neg hok]; exact ⟨rfl, rfl⟩
    have HOK := Lib.hid hno
    clear hok hno
    go_enter Tryd.func17, Tryd.ntmps17
    go_wp2_with fail
    refine calls_at (fun V => Below w.heap.size w V) HB0.out ?_
    rintro v0 b0
    have hr0 := HR.out.below b0
    refine (specRatOK_any neg A B _ ca _ cb _ _ _ _ v0 hr0.1 hr0.2 (by omega) (by omega)).mono ?_
    rintro e v1 ⟨rfl, b1⟩
    rw [HOK.out]
    have HB1 := Lib.hid (below_on b0 b1)
    clear b0 b1 hr0
    go_wp2
    go_ret2
    exact ⟨by rw [HV.out.1, HV.out.2]; rfl, HB1.out⟩

end Go.Proofs.YtliefhkllpmlmabDoor
