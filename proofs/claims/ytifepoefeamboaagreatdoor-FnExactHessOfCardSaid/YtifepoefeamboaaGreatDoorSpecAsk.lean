/-
  A list of noughts; what is asked of a place: the model's.
-/
import Derived.Test.YtifepoefeamboaaGreatDoorSpecQuad3
import Derived.Test.YtifepoefeamboaaGreatDoorQuadRow
import Derived.Test.YtifepoefeamboaaGreatDoorGrpH
import Derived.Test.YtifepoefeamboaaGreatDoorPlaceMath
import Derived.Test.YtifepoefeamboaaGreatDoorGrpF
import Derived.Test.YtifepoefeamboaaGreatDoorGrpE
namespace Nt
open Go Go.RowKit
theorem emptyRow (w : World) (t : TypeId) (sz : Nat) : (w.alloc (.cells #[] t)).ownsRow w.heap.size t sz (.slice (some ⟨w.heap.size, 0, none⟩) 0 0) 0 [] :=
  ⟨by simp, .inr ⟨w.heap.size, 0, #[], rfl, Nat.le_refl _, heap_alloc_new _ _, Nat.le_refl _, Nat.zero_le _, by simp, by simp⟩⟩
theorem emptyFree (w : World) (t : TypeId) : Free (w.alloc (.cells #[] t)) (some ⟨w.heap.size, 0, none⟩) := by
  intro g e cur t' f hc u hu
  injection e with e
  injection e with e
  subst e
  have := (heap_alloc_new w (.cells #[] t)).symm.trans hc
  injection this with this
  injection this with this
  subst this
  simp at hu
end Nt
namespace Go.Proofs.YtifepoefeamboaaGreatDoor
open Go Go.RowKit Nt

set_option maxRecDepth 20000 in
set_option maxHeartbeats 3200000 in
theorem l06Zeros_any (n : Nat) (hn : n ≤ 4096) (w : World) :
    Calls Tryz.prog 61 #[.int .i64 n] w fun e w' => ∃ V d, e = .returned (.slice V n d) ∧ RdS w' (fun _ => True) V n d ((noughts n).map rat3) ∧ Below w.heap.size w w' := by
  obtain ⟨i0, hi0, hz0, hz1, hz2⟩ := info_parts infoRat
  go_enter Tryz.func61, Tryz.ntmps61
  go_wp2
  go_loopw [3, 4] (fun v i wr => ∃ (k : Nat) (V : Option Addr) (cv : Nat) (L : List EV), k ≤ n ∧ i = .int .i64 k ∧ v = .slice V k cv ∧ Hid (L.map EV.v3 = (noughts k).map rat3) ∧ Hid (wr.ownsRow w.heap.size 31 3 (.slice V k cv) k (flat L)) ∧ Hid (PartsRd wr V L) ∧ Hid (Free wr V) ∧ Hid (Below w.heap.size w wr)) (fun _ i _ => n - (intOf i).toNat)
  case atStart => exact ⟨0, _, 0, [], Nat.zero_le _, rfl, rfl, Lib.hid rfl, Lib.hid (emptyRow _ _ _), Lib.hid (fun i hi => by simp at hi), Lib.hid (emptyFree _ _), Lib.hid (below1 _ _)⟩
  case round =>
    obtain ⟨k, V, cv, L, hk, rfl, rfl, HV, HO, HP, HF, HB⟩ := hrel
    by_cases hlt : k < n
    · have hkN : (k : Int) < n := by omega
      go_wp2_with fail
      refine (op_int 0 (by decide) (by decide) wr).mono ?_
      rintro e w1 ⟨A1, c1, B1, d1, rfl, o1, b1⟩
      have HO1 := Lib.hid (own_keep3 HO.out b1)
      have HF1 := Lib.hid (HF.out.on b1 (own_ltF HO.out))
      have HP1 : Hid (PartsRd w1 V (L ++ [EV.mk (isNeg ((0 : Int) : Rat)) A1 c1 B1 d1 (D (nu ((0 : Int) : Rat))) (D ((0 : Int) : Rat).den)])) := (HP.out.on b1).snoc (o1.beside HF1.out)
      have HV1 : Hid ((L ++ [EV.mk (isNeg ((0 : Int) : Rat)) A1 c1 B1 d1 (D (nu ((0 : Int) : Rat))) (D ((0 : Int) : Rat).den)]).map EV.v3 = (noughts (k + 1)).map rat3) := by
        show _ = _
        rw [List.map_append, HV.out, noughts_snoc, List.map_append]
        rfl
      have HB1 := Lib.hid (below_on HB.out b1)
      have hs1 := HB1.out.size
      clear o1 b1 HP HV HO HF HB
      generalize ((0 : Int) : Rat) = p at *
      go_wp2_with (at_builtin; refine wpList_append_free _ rfl _ _ 27 rfl w.heap.size 31 i0 _ 3 56 Tryz.underlying27 hi0 hz0 hz1 hz2 rfl (by decide) (by decide) _ k _ _ rfl (HO1.out.alloc _) ⟨w1.heap.size, 0, none⟩ 1 1 [.bool (isNeg p), .slice A1 (D (nu p)).length c1, .slice B1 (D p.den).length d1] rfl rfl (cells3 _ _ _ _ _ _ _ _ _) (one3 _ _ _ _ _ _ _) (by simp [noInt]) (by decide) (by unfold maxLen; omega) (by omega) (by simp; omega) (HF1.out.on (below1 _ _) (own_ltF HO1.out)) _ rfl ?_; intro g' cv' w2 hown hgrow hat hfree)
      have hlit := below1 w1 (.cells #[.bool (isNeg p), .slice A1 (D (nu p)).length c1, .slice B1 (D p.den).length d1] 31)
      have HO2 : Hid (w2.ownsRow w.heap.size 31 3 (.slice (some ⟨g', 0, none⟩) (k + 1) cv') (k + 1) (flat (L ++ [EV.mk (isNeg p) A1 c1 B1 d1 (D (nu p)) (D p.den)]))) := by rw [flat_snoc]; exact hown
      have HP2 : Hid (PartsRd w2 (some ⟨g', 0, none⟩) (L ++ [EV.mk (isNeg p) A1 c1 B1 d1 (D (nu p)) (D p.den)])) := (HP1.out.on hlit).appended (HO1.out.alloc _) hgrow hat
      have HF2 := Lib.hid hfree
      have HB2 := Lib.hid ((below_on HB1.out hlit).trans (rowed3_below (HO1.out.alloc _) (by simp; omega) hgrow))
      clear hown hgrow hat hfree hlit HP1 HO1 HF1 HB1
      go_wp2
      go_roundw
      case rel => exact ⟨k + 1, _, _, _, by omega, by go_num, rfl, HV1, HO2, HP2, HF2, HB2⟩
      case measure => simp [intOf]; omega
    · obtain rfl : k = n := by omega
      go_wp2
      exact bodyPost_ret (results_tmp rfl _ _ _) rfl ⟨V, cv, rfl, by have h := PartsRd.rds HP.out HO.out; rw [HV.out] at h; exact h, HB.out⟩

set_option maxHeartbeats 1600000 in
theorem l06Ask_any (A X : Option Addr) (n c m d : Nat) (ns : List Nd) (rs : List R3) (P P' : Nat → Prop) (w : World) (hr : RdN w P A n c ns) (hx : RdS w P' X m d rs) (hsm : Small rs) (hn : n ≤ 1048576) (hm : m ≤ 1048576) :
    Calls Tryz.prog 43 #[.agg #[.slice A n c], .slice X m d] w fun e w' => e = .returned (.int .i64 (ptCode (okE ns) ns m rs)) ∧ Below w.heap.size w w' := by
  have HLN : Hid (ns.length = n) := hr.len
  have HR := Lib.hid (hr.mono (Q := (· < w.heap.size)) fun _ _ h => h)
  have HX := Lib.hid hx.low
  have HS := Lib.hid hsm
  have HOK : Hid (okE ns = true → (∀ j, j < ns.length → fitN (ns.getD j nd0) = true) ∧ 1 ≤ n ∧ n ≤ 60) := fun h => by
    obtain ⟨h1, h60, hf, -⟩ := okE_out h
    have := HLN.out
    exact ⟨hf, by omega, by omega⟩
  clear hr hx hsm
  by_cases h1 : 4096 < m
  · have HC : Hid (ptCode (okE ns) ns m rs = 2) := Lib.hid (by simp [ptCode, h1])
    have z1 : decide ((4096 : Int) < m) = true := by simp; omega
    clear h1
    go_enter Tryz.func43, Tryz.ntmps43
    go_wp2
    exact bodyPost_ret (results_tmp rfl _ _ _) rfl ⟨by rw [HC.out]; rfl, below1 _ _⟩
  have z1 : decide ((4096 : Int) < m) = false := by simp; omega
  have H1 := Lib.hid h1
  clear h1
  go_enter Tryz.func43, Tryz.ntmps43
  go_upto_region 3 with fail
  refine wp_at (fun v0 => Below w.heap.size w v0 ∧ SlAt v0 w.heap.size 25 A n c) ⟨below1 _ _, SlAt.new _ _ _ _ _⟩ ?_
  rintro v0 ⟨hb, r0⟩
  have HB0 := Lib.hid hb
  have HT0 := Lib.hid r0
  have t0 := r0.c0
  clear hb r0
  go_wp2_with fail
  refine (specExprOK_any A n c ns _ v0 (HR.out.below HB0.out) hn).mono ?_
  rintro e w1 ⟨rfl, b1⟩
  have HB1 := Lib.hid (below_on HB0.out b1)
  have HT1 := Lib.hid (HT0.out.on b1)
  clear b1 HB0 HT0 t0
  cases hok : okE ns with
  | false =>
    have HC : Hid (ptCode (okE ns) ns m rs = 1) := Lib.hid (by simp [ptCode, H1.out, hok])
    clear hok HOK
    go_wp2
    exact bodyPost_ret (results_tmp rfl _ _ _) rfl ⟨by rw [HC.out]; rfl, HB1.out⟩
  | true =>
    obtain ⟨hf, hn1, hn60⟩ := HOK.out hok
    have HF := Lib.hid hf
    have HK := Lib.hid hok
    clear hok hf HOK
    go_wp2_with fail
    refine (specVecOK_any X m d rs _ w1 (HX.out.below HB1.out) HS.out hm).mono ?_
    rintro e w2 ⟨rfl, b2⟩
    have HB2 := Lib.hid (below_on HB1.out b2)
    have HT2 := Lib.hid (HT1.out.on b2)
    clear b2 HB1 HT1
    cases hv : okV rs with
    | false =>
      have HC : Hid (ptCode (okE ns) ns m rs = 1) := Lib.hid (by simp [ptCode, H1.out, hv, HK.out])
      clear hv
      go_wp2
      exact bodyPost_ret (results_tmp rfl _ _ _) rfl ⟨by rw [HC.out]; rfl, HB2.out⟩
    | true =>
      have HC : Hid (ptCode (okE ns) ns m rs = if (m : Int) < dimE ns then 8 else 0) := Lib.hid (by simp [ptCode, H1.out, hv, HK.out])
      have t0 := HT2.out.c0
      clear hv
      go_wp2_with fail
      refine (l05Dim_any A n c ns _ w2 (HR.out.below HB2.out) HF.out hn1 hn60).mono ?_
      rintro e w3 ⟨rfl, b3⟩
      have HB3 := Lib.hid (below_on HB2.out b3)
      clear b3 t0 HB2 HT2
      generalize dimE ns = D at *
      by_cases h8 : (m : Int) < D
      · have HC2 : Hid (ptCode (okE ns) ns m rs = 8) := Lib.hid (by rw [HC.out, if_pos h8])
        go_wp2
        exact bodyPost_ret (results_tmp rfl _ _ _) rfl ⟨by rw [HC2.out]; rfl, HB3.out⟩
      · have HC2 : Hid (ptCode (okE ns) ns m rs = 0) := Lib.hid (by rw [HC.out, if_neg h8])
        go_wp2
        exact bodyPost_ret (results_tmp rfl _ _ _) rfl ⟨by rw [HC2.out]; rfl, HB3.out⟩

end Go.Proofs.YtifepoefeamboaaGreatDoor
