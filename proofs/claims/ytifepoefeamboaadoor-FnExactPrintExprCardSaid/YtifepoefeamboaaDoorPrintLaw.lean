/-
  PrintExpr of the program and of the model; what the law does with them.
-/
import Derived.Test.YtifepoefeamboaaDoorSpecTwo
import Derived.Test.YtifepoefeamboaaDoorGrpF
import Derived.Test.YtifepoefeamboaaDoorGrpE
import Derived.ProofKit
import Derived.OpenShut
import Derived.ShutString
import Derived.ChangeOld
namespace Nt
/-- an expression's text -/
def prA (ns : List Nd) : List UInt8 := if okE ns = true then pr ns (ns.length - 1) else []
end Nt
namespace Go.Proofs.YtifepoefeamboaaDoor
open Go Go.RowKit Nt

set_option maxHeartbeats 1600000 in
/-- the whole expression's text, by that of its last node -/
theorem exprWhole_of (A : Option Addr) (n c k : Nat) (T : ByteArray) (w : World) (hk : n = k + 1) (h60 : n ≤ 60) (hx : ∀ V, Below w.heap.size w V → Calls Tryd.prog 59 #[.agg #[.slice A n c], .int .i64 (k : Int)] V fun e w' => e = .returned (.string T) ∧ Below V.heap.size V w') :
    Calls Tryd.prog 37 #[.agg #[.slice A n c]] w fun e w' => e = .returned (.string T) ∧ Below w.heap.size w w' := by
  have HX := Lib.hid hx
  have HB0 := Lib.hid (below_one w (.cells #[.slice A n c] 46))
  have hki : (n : Int) - 1 = (k : Int) := by omega
  have hwk : IntKind.i64.wrap ((n : Int) - 1) = (k : Int) := by rw [hki]; exact IntWalk.i64_in _ (by omega)
  clear hx hk h60 hki
  go_enter Tryd.func37, Tryd.ntmps37
  go_wp2_with fail
  refine calls_atN (fun v => Below w.heap.size w v) HB0.out ?_
  intro v1 pB
  refine (HX.out v1 pB).mono ?_
  rintro e v2 ⟨rfl, bb⟩
  have HB := Lib.hid (belowN_on pB bb)
  clear pB bb HB0
  go_wp2
  go_ret
  exact ⟨rfl, HB.out⟩

set_option maxHeartbeats 1600000 in
theorem implPrintExpr_any (A : Option Addr) (n c : Nat) (ns : List Nd) (P : Nat → Prop) (w : World) (hr : RdN w P A n c ns) (hn : n ≤ 1048576) (hpw : Pow10 w) (hsg : Signs w) :
    Calls Tryd.prog 20 #[.agg #[.slice A n c]] w fun e w' => e = .returned (.tuple #[.string ⟨(prA ns).toArray⟩, .int .i64 (codE ns)]) ∧ Below w.heap.size w w' := by
  have HL := Lib.hid hr.len
  have HR := Lib.hid hr.low
  have HPW := Lib.hid hpw
  have HSG := Lib.hid hsg
  have HB0 := Lib.hid (below_one w (.cells #[.slice A n c] 46))
  clear hr hpw hsg
  go_enter Tryd.func20, Tryd.ntmps20
  go_wp2_with fail
  refine calls_atN (fun v => SlAt v w.heap.size 46 A n c ∧ Below w.heap.size w v) ⟨SlAt.new _ _ _ _ _, HB0.out⟩ ?_
  rintro v1 ⟨pS, pB⟩
  refine (implExprOK_any A n c ns _ v1 (HR.out.below pB) hn).mono ?_
  rintro e v2 ⟨rfl, bb⟩
  have HS := Lib.hid (pS.on bb)
  have HB := Lib.hid (belowN_on pB bb)
  clear pS pB bb HB0
  cases hok : okE ns with
  | false =>
    have H1 : Hid (prA ns = []) := by show _ = _; unfold prA; rw [hok]; rfl
    have H2 : Hid (codE ns = 1) := by show _ = _; unfold codE; rw [hok]; rfl
    clear hok
    go_wp2
    go_ret2
    exact ⟨by rw [H1.out, H2.out]; rfl, HB.out⟩
  | true =>
    obtain ⟨q1, q2, q3, ts, _, hN, hT, hl, _, hd⟩ := okE_out hok
    have e := HL.out
    have s0 := HS.out.c0
    have h1 : 1 ≤ n := by omega
    have h60 : n ≤ 60 := by omega
    obtain ⟨k, hk⟩ : ∃ k, n = k + 1 := ⟨n - 1, by omega⟩
    have hkn : k < n := by omega
    have H1 : Hid (prA ns = pr ns k) := by show _ = _; unfold prA; rw [hok, if_pos rfl, e, hk]; rfl
    have H2 : Hid (codE ns = 0) := by show _ = _; unfold codE; rw [hok]; rfl
    have hdd : (ts.getD k tr0).2 ≤ 12 := by rw [e, hk] at hd; exact hd
    have HX := Lib.hid (exprText_any A n c ns ts v2 ((HR.out.below HB.out).mono fun _ h _ => Nat.lt_of_lt_of_le h HB.out.size) h60 (fun j hj => q3 j (by omega)) hT (by omega) hN (pow10_on HPW.out HB.out) (HSG.out.on HB.out) 12 k)
    have HW := Lib.hid (exprWhole_of A n c k ⟨(pr ns k).toArray⟩ v2 hk h60 fun V hb => HX.out V (Nat.le_refl _) hkn hdd hb)
    clear hok q1 q2 q3 e hN hT hl hd hdd hk hkn HX
    go_wp2_with fail
    clear s0
    refine HW.out.mono ?_
    rintro e v3 ⟨rfl, bb⟩
    have HB3 := Lib.hid (belowN_on HB.out bb)
    clear bb
    go_wp2
    go_ret2
    exact ⟨by rw [H1.out, H2.out]; rfl, HB3.out⟩

set_option maxHeartbeats 1600000 in
theorem specPrintExpr_any (A : Option Addr) (n c : Nat) (ns : List Nd) (P : Nat → Prop) (w : World) (hr : RdN w P A n c ns) (hn : n ≤ 1048576) :
    Calls Tryd.prog 18 #[.agg #[.slice A n c]] w fun e w' => e = .returned (.tuple #[.string ⟨(prA ns).toArray⟩, .int .i64 (codE ns)]) ∧ Below w.heap.size w w' := by
  have HL := Lib.hid hr.len
  have HR := Lib.hid hr.low
  have HB0 := Lib.hid (below_one w (.cells #[.slice A n c] 46))
  clear hr
  go_enter Tryd.func18, Tryd.ntmps18
  go_wp2_with fail
  refine calls_atN (fun v => SlAt v w.heap.size 46 A n c ∧ Below w.heap.size w v) ⟨SlAt.new _ _ _ _ _, HB0.out⟩ ?_
  rintro v1 ⟨pS, pB⟩
  refine (specExprOK_any A n c ns _ v1 (HR.out.below pB) hn).mono ?_
  rintro e v2 ⟨rfl, bb⟩
  have HS := Lib.hid (pS.on bb)
  have HB := Lib.hid (belowN_on pB bb)
  clear pS pB bb HB0
  cases hok : okE ns with
  | false =>
    have H1 : Hid (prA ns = []) := by show _ = _; unfold prA; rw [hok]; rfl
    have H2 : Hid (codE ns = 1) := by show _ = _; unfold codE; rw [hok]; rfl
    clear hok
    go_wp2
    go_ret2
    exact ⟨by rw [H1.out, H2.out]; rfl, HB.out⟩
  | true =>
    obtain ⟨q1, q2, q3, ts, _, hN, hT, hl, _, hd⟩ := okE_out hok
    have e := HL.out
    have s0 := HS.out.c0
    have h1 : 1 ≤ n := by omega
    have h60 : n ≤ 60 := by omega
    obtain ⟨k, hk⟩ : ∃ k, n = k + 1 := ⟨n - 1, by omega⟩
    have hkn : k < n := by omega
    have hki : (n : Int) - 1 = (k : Int) := by omega
    have hwk : IntKind.i64.wrap ((n : Int) - 1) = (k : Int) := by rw [hki]; exact IntWalk.i64_in _ (by omega)
    have H1 : Hid (prA ns = pr ns k) := by show _ = _; unfold prA; rw [hok, if_pos rfl, e, hk]; rfl
    have H2 : Hid (codE ns = 0) := by show _ = _; unfold codE; rw [hok]; rfl
    have hdd : (ts.getD k tr0).2 ≤ 12 := by rw [e, hk] at hd; exact hd
    have HX := Lib.hid (l05Text_any A n c ns ts v2 ((HR.out.below HB.out).mono fun _ h _ => Nat.lt_of_lt_of_le h HB.out.size) h60 (fun j hj => q3 j (by omega)) hT (by omega) hN (l05Text_two A n c ns ts v2 ((HR.out.below HB.out).mono fun _ h _ => Nat.lt_of_lt_of_le h HB.out.size) h60 (fun j hj => q3 j (by omega)) hT (by omega) hN) 12 k v2 (Nat.le_refl _) hkn hdd (Below.refl _ _))
    clear hok q1 q2 q3 e hN hT hl hd hdd hk hkn
    go_wp2_with fail
    clear s0
    refine HX.out.mono ?_
    rintro e v3 ⟨rfl, bb⟩
    have HB3 := Lib.hid (belowN_on HB.out bb)
    clear bb
    go_wp2
    go_ret2
    exact ⟨by rw [H1.out, H2.out]; rfl, HB3.out⟩

set_option maxHeartbeats 3200000 in
theorem lawPrintExpr_any (A0 : Option Addr) (n c : Nat) (ns : List Nd) (w : World) (hr0 : RdN w (· < w.heap.size) A0 n c ns) (hn0 : n ≤ 9223372036854775807) (hpw : Pow10 w) (hsg : Signs w) :
    Calls Tryd.prog 5 #[.agg #[.slice A0 n c]] w fun e w' => e = .returned (.bool true) ∧ Below w.heap.size w w' := by
  have HR := Lib.hid hr0
  have HPW := Lib.hid hpw
  have HSG := Lib.hid hsg
  clear hr0 hpw hsg
  go_enter Tryd.func5, Tryd.ntmps5
  go_wp2_with fail
  refine calls_atN (fun v => SlAt v w.heap.size 42 A0 n c ∧ Below w.heap.size w v) ⟨SlAt.new _ _ _ _ _, below_one _ _⟩ ?_
  rintro v0 ⟨pS, pB⟩
  have HS := Lib.hid pS
  have HB := Lib.hid pB
  clear pS pB
  refine (szExpr_any A0 n c 1048576 v0 hn0 (by omega) (by omega)).mono ?_
  rintro e v1 ⟨rfl, bb⟩
  replace HS := Lib.hid (HS.out.on bb)
  replace HB := Lib.hid (belowN_on HB.out bb)
  clear bb
  by_cases hf : (1048576 : Int) < n
  · rw [show szN 1048576 n = -1 from if_pos hf]
    clear hf
    go_wp2
    go_ret
    exact ⟨rfl, HB.out⟩
  rw [show szN 1048576 n = 1048576 - (n : Int) from if_neg hf]
  have hp : 0 ≤ 1048576 - (n : Int) := by omega
  have hc : n ≤ 1048576 := by omega
  have s0 := HS.out.c0
  go_wp2_with fail
  clear s0
  refine (toExpr_any A0 n c ns v1 ((HR.out.below HB.out).mono fun _ h _ => Nat.lt_of_lt_of_le h HB.out.size) hc).mono ?_
  rintro e v2 ⟨B, d, rfl, oo, bb⟩
  replace HS := Lib.hid (HS.out.on bb)
  replace HB := Lib.hid (belowN_on HB.out bb)
  have HT := Lib.hid oo.all
  clear oo bb
  go_wp2_with fail
  refine (specPrintExpr_any B n d ns _ v2 HT.out hc).mono ?_
  rintro e v3 ⟨rfl, bb⟩
  replace HS := Lib.hid (HS.out.on bb)
  replace HB := Lib.hid (belowN_on HB.out bb)
  clear bb HT
  have s0 := HS.out.c0
  go_wp2_with fail
  clear s0
  refine (toExpr_any A0 n c ns v3 ((HR.out.below HB.out).mono fun _ h _ => Nat.lt_of_lt_of_le h HB.out.size) hc).mono ?_
  rintro e v4 ⟨X, x, rfl, oo, bb⟩
  replace HS := Lib.hid (HS.out.on bb)
  replace HB := Lib.hid (belowN_on HB.out bb)
  have HX := Lib.hid oo.all
  clear oo bb
  go_wp2_with fail
  refine calls_atN (fun v => SlAt v w.heap.size 42 A0 n c ∧ SlAt v v4.heap.size 46 X n x ∧ RdN v (fun _ => True) X n x ns ∧ Below w.heap.size w v) ⟨HS.out.on (below_one _ _), SlAt.new _ _ _ _ _, HX.out.on (below_one _ _), belowN_on HB.out (below_one _ _)⟩ ?_
  rintro v5 ⟨pS, pY, pX, pB⟩
  replace HS := Lib.hid pS
  have HY := Lib.hid pY
  replace HX := Lib.hid pX
  replace HB := Lib.hid pB
  clear pS pY pX pB
  refine (implPrintExpr_any X n x ns _ v5 HX.out hc (pow10_on HPW.out HB.out) (HSG.out.on HB.out)).mono ?_
  rintro e v6 ⟨rfl, bb⟩
  replace HS := Lib.hid (HS.out.on bb)
  replace HY := Lib.hid (HY.out.on bb)
  replace HX := Lib.hid (HX.out.on bb)
  replace HB := Lib.hid (belowN_on HB.out bb)
  clear bb
  have hne2 : (codE ns != codE ns) = false := by simp
  generalize prA ns = J at *
  generalize codE ns = K0 at *
  have s0 := HS.out.c0
  have y0 := HY.out.c0
  go_wp2_with fail
  have HC := Lib.hid (show _ ∧ _ from ⟨s0, y0⟩)
  clear s0 y0
  go_region_held3 (fun wx => wx.cell? ⟨w.heap.size, 0, none⟩ = some (.slice A0 n c) ∧ wx.cell? ⟨v4.heap.size, 0, none⟩ = some (.slice X n x))
    (first | exact HC.out | exact HC1.out | exact HC2.out)
    (first
      | (go_at_call 19; refine (toExpr_any A0 n c ns _ (by exact ((HR.out.below HB.out).mono (Q := (· < v6.heap.size)) fun _ h _ => Nat.lt_of_lt_of_le h HB.out.size).drew) hc).mono ?_; rintro e v7 ⟨Y, y, rfl, oo, bb⟩; have bb := undrewN bb; have HS7 := Lib.hid (HS.out.on bb); have HY7 := Lib.hid (HY.out.on bb); have HX7 := Lib.hid (HX.out.on bb); have HB7 := Lib.hid (belowN_on HB.out bb); have HZ7 := Lib.hid oo.all; have HC1 := Lib.hid (show _ ∧ _ from ⟨HS7.out.c0, HY7.out.c0⟩); clear oo bb)
      | (go_at_call 21; refine (eqExpr_same X Y n x y ns _ _ _ (by exact HX7.out) (by exact HZ7.out) hc).mono ?_; rintro e v8 ⟨rfl, bb⟩; have HB8 := Lib.hid (belowN_on HB7.out bb); have HC2 := Lib.hid (show _ ∧ _ from ⟨(HS7.out.on bb).c0, (HY7.out.on bb).c0⟩); clear bb))
  go_wp2
  go_ret
  exact ⟨rfl, HB8.out⟩
end Go.Proofs.YtifepoefeamboaaDoor
