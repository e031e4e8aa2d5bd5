/-
  A way along an axis: l06Unit of the model.
-/
import Derived.Test.YtifepoefeamboaaGreatDoorSpecAsk
import Derived.Test.YtifepoefeamboaaGreatDoorGradMath
namespace Nt
open Go Go.RowKit
theorem getD_set3 (rs : List R3) (k i : Nat) (r : R3) (hk : k < rs.length) : (rs.set k r).getD i r3 = if i = k then r else rs.getD i r3 := by
  simp only [List.getD, List.getElem?_set]
  by_cases h : k = i
  · subst h; simp [hk]
  · rw [if_neg h, if_neg (fun e => h e.symm)]
/-- an element put into a row of the call's own -/
theorem row_put {w : World} {base g tr n cap : Nat} {L : List EV} {r : EV} {k : Nat} (ho : w.ownsRow base tr 3 (.slice (some ⟨g, 0, none⟩) n cap) n (flat L)) (hP : PartsRd w (some ⟨g, 0, none⟩) L) (hr : RdR w (fun b => some (⟨g, 0, none⟩ : Addr) ≠ some ⟨b, 0, none⟩) r.xs r.ys r.A r.ca r.B r.cb) (hk : k < n) :
    RdS (((w.setCell ⟨g, k * 3, none⟩ (.bool r.neg)).setCell ⟨g, k * 3 + 1, none⟩ (.slice r.A r.xs.length r.ca)).setCell ⟨g, k * 3 + 2, none⟩ (.slice r.B r.ys.length r.cb)) (fun _ => True) (some ⟨g, 0, none⟩) n cap ((L.map EV.v3).set k r.v3) ∧ w.grownBy (((w.setCell ⟨g, k * 3, none⟩ (.bool r.neg)).setCell ⟨g, k * 3 + 1, none⟩ (.slice r.A r.xs.length r.ca)).setCell ⟨g, k * 3 + 2, none⟩ (.slice r.B r.ys.length r.cb)) (some g) := by
  have hl : L.length = n := by have h1 := ho.1; rw [flat_len] at h1; omega
  have h1 := ho.stored (k * 3) (.bool r.neg)
  have h2 := h1.1.stored (k * 3 + 1) (.slice r.A r.xs.length r.ca)
  have h3 := h2.1.stored (k * 3 + 2) (.slice r.B r.ys.length r.cb)
  have hg : w.grownBy (((w.setCell ⟨g, k * 3, none⟩ (.bool r.neg)).setCell ⟨g, k * 3 + 1, none⟩ (.slice r.A r.xs.length r.ca)).setCell ⟨g, k * 3 + 2, none⟩ (.slice r.B r.ys.length r.cb)) (some g) := (h1.2.trans h2.2).trans h3.2
  obtain ⟨g', e, _, hlt, hnc⟩ := row_at ho (by omega)
  injection e with e
  injection e with e
  subst e
  refine ⟨⟨by rw [List.length_set, List.length_map, hl], hnc, fun h => (by cases h), fun hn => ⟨g, 0, rfl, trivial, Nat.lt_of_lt_of_le hlt hg.size, fun i hi => ?_⟩⟩, hg⟩
  have keep : ∀ {xs ys : List Int} {A B : Option Addr} {ca cb : Nat}, RdR w (fun b => some (⟨g, 0, none⟩ : Addr) ≠ some ⟨b, 0, none⟩) xs ys A ca B cb → RdR (((w.setCell ⟨g, k * 3, none⟩ (.bool r.neg)).setCell ⟨g, k * 3 + 1, none⟩ (.slice r.A r.xs.length r.ca)).setCell ⟨g, k * 3 + 2, none⟩ (.slice r.B r.ys.length r.cb)) (fun _ => True) xs ys A ca B cb := fun h => (h.keep hg.size fun b hb hl => hg.block b hl (fun e => hb (by injection e with e; subst e; rfl))).mono fun _ _ _ => trivial
  rw [Nat.zero_add, getD_set3 _ _ _ _ (by rw [List.length_map]; omega), getD_map]
  have hfl := flat_len L
  have hc := fun j (hj : j < n * 3) => h3.1.cellAt j hj
  simp only [List.getElem?_set, List.length_set] at hc
  by_cases e : i = k
  · subst e
    rw [if_pos rfl]
    refine ⟨_, _, _, _, (hc (i * 3) (by omega)).trans ?_, (hc (i * 3 + 1) (by omega)).trans ?_, (hc (i * 3 + 2) (by omega)).trans ?_, keep hr⟩
    · rw [if_neg (by omega), if_neg (by omega), if_pos rfl, if_pos (by omega)]; rfl
    · rw [if_neg (by omega), if_pos rfl, if_pos (by omega)]; rfl
    · rw [if_pos rfl, if_pos (by omega)]; rfl
  · rw [if_neg e]
    obtain ⟨f0, f1, f2⟩ := flat_get L i (by omega)
    refine ⟨_, _, _, _, (hc (i * 3) (by omega)).trans ?_, (hc (i * 3 + 1) (by omega)).trans ?_, (hc (i * 3 + 2) (by omega)).trans ?_, keep (hP i (by omega))⟩
    · rw [if_neg (by omega), if_neg (by omega), if_neg (by omega)]; exact f0
    · rw [if_neg (by omega), if_neg (by omega), if_neg (by omega)]; exact f1
    · rw [if_neg (by omega), if_neg (by omega), if_neg (by omega)]; exact f2
theorem unitL_set (n k : Nat) : ((noughts n).map rat3).set k (rat3 1) = (unitL n k).map rat3 := by
  apply List.ext_getElem
  · simp [unitL]
  · intro i h1 h2
    simp only [List.length_set, List.length_map, List.length_replicate] at h1
    simp only [List.getElem_set, List.getElem_map, List.getElem_replicate, unitL, List.getElem_range]
    by_cases e : k = i
    · subst e; simp
    · rw [if_neg e, if_neg (fun h => e h.symm)]
end Nt
namespace Go.Proofs.YtifepoefeamboaaGreatDoor
open Go Go.RowKit Nt

set_option maxRecDepth 20000 in
set_option maxHeartbeats 3200000 in
/-- a list of noughts in a row of the call's own -/
theorem l06Zeros_own (n : Nat) (hn : n ≤ 4096) (w : World) :
    Calls Tryz.prog 61 #[.int .i64 n] w fun e w' => ∃ V d L, e = .returned (.slice V n d) ∧ L.map EV.v3 = (noughts n).map rat3 ∧ w'.ownsRow w.heap.size 31 3 (.slice V n d) n (flat L) ∧ PartsRd w' V L ∧ Free w' V ∧ Below w.heap.size w w' := by
  obtain ⟨i0, hi0, hz0, hz1, hz2⟩ := info_parts infoRat
  go_enter Tryz.func61, Tryz.ntmps61
  go_wp2
  go_loopw [3, 4] (fun v i wr => ∃ (k : Nat) (V : Option Addr) (cv : Nat) (L : List EV), k ≤ n ∧ i = .int .i64 k ∧ v = .slice V k cv ∧ Hid (L.map EV.v3 = (noughts k).map rat3) ∧ Hid (wr.ownsRow w.heap.size 31 3 (.slice V k cv) k (flat L)) ∧ Hid (PartsRd wr V L) ∧ Hid (Free wr V) ∧ Hid (Below w.heap.size w wr)) (fun _ i _ => n - (intOf i).toNat)
  case atStart => exact ⟨0, _, 0, [], Nat.zero_le _, rfl, rfl, Lib.hid rfl, Lib.hid (emptyRow _ _ _), Lib.hid (fun i hi => by simp at hi), Lib.hid (emptyFree _ _), Lib.hid (below1 _ _)⟩
  case round =>
    obtain ⟨k, V, cv, L, hk, rfl, rfl, HV, HO, HP, HF, HB⟩ := hrel
    by_cases hlt : k < n
    · have hkN : (k : Int) < n := by omega
      go_wp2_with fail
      refine (op_int 0 (by decide) (by decide) wr).mono ?_
      rintro e w1 ⟨A1, c1, B1, d1, rfl, o1, b1⟩
      have HO1 := Lib.hid (own_keep3 HO.out b1)
      have HF1 := Lib.hid (HF.out.on b1 (own_ltF HO.out))
      have HP1 : Hid (PartsRd w1 V (L ++ [EV.mk (isNeg ((0 : Int) : Rat)) A1 c1 B1 d1 (D (nu ((0 : Int) : Rat))) (D ((0 : Int) : Rat).den)])) := (HP.out.on b1).snoc (o1.beside HF1.out)
      have HV1 : Hid ((L ++ [EV.mk (isNeg ((0 : Int) : Rat)) A1 c1 B1 d1 (D (nu ((0 : Int) : Rat))) (D ((0 : Int) : Rat).den)]).map EV.v3 = (noughts (k + 1)).map rat3) := by
        show _ = _
        rw [List.map_append, HV.out, noughts_snoc, List.map_append]
        rfl
      have HB1 := Lib.hid (below_on HB.out b1)
      have hs1 := HB1.out.size
      clear o1 b1 HP HV HO HF HB
      generalize ((0 : Int) : Rat) = p at *
      go_wp2_with (at_builtin; refine wpList_append_free _ rfl _ _ 27 rfl w.heap.size 31 i0 _ 3 56 Tryz.underlying27 hi0 hz0 hz1 hz2 rfl (by decide) (by decide) _ k _ _ rfl (HO1.out.alloc _) ⟨w1.heap.size, 0, none⟩ 1 1 [.bool (isNeg p), .slice A1 (D (nu p)).length c1, .slice B1 (D p.den).length d1] rfl rfl (cells3 _ _ _ _ _ _ _ _ _) (one3 _ _ _ _ _ _ _) (by simp [noInt]) (by decide) (by unfold maxLen; omega) (by omega) (by simp; omega) (HF1.out.on (below1 _ _) (own_ltF HO1.out)) _ rfl ?_; intro g' cv' w2 hown hgrow hat hfree)
      have hlit := below1 w1 (.cells #[.bool (isNeg p), .slice A1 (D (nu p)).length c1, .slice B1 (D p.den).length d1] 31)
      have HO2 : Hid (w2.ownsRow w.heap.size 31 3 (.slice (some ⟨g', 0, none⟩) (k + 1) cv') (k + 1) (flat (L ++ [EV.mk (isNeg p) A1 c1 B1 d1 (D (nu p)) (D p.den)]))) := by rw [flat_snoc]; exact hown
      have HP2 : Hid (PartsRd w2 (some ⟨g', 0, none⟩) (L ++ [EV.mk (isNeg p) A1 c1 B1 d1 (D (nu p)) (D p.den)])) := (HP1.out.on hlit).appended (HO1.out.alloc _) hgrow hat
      have HF2 := Lib.hid hfree
      have HB2 := Lib.hid ((below_on HB1.out hlit).trans (rowed3_below (HO1.out.alloc _) (by simp; omega) hgrow))
      clear hown hgrow hat hfree hlit HP1 HO1 HF1 HB1
      go_wp2
      go_roundw
      case rel => exact ⟨k + 1, _, _, _, by omega, by go_num, rfl, HV1, HO2, HP2, HF2, HB2⟩
      case measure => simp [intOf]; omega
    · obtain rfl : k = n := by omega
      go_wp2
      exact bodyPost_ret (results_tmp rfl _ _ _) rfl ⟨V, cv, L, rfl, HV.out, HO.out, HP.out, HF.out, HB.out⟩


set_option maxRecDepth 20000 in
set_option maxHeartbeats 3200000 in
theorem l06Unit_any (n k : Nat) (hk : k < n) (hn : n ≤ 4096) (w : World) :
    Calls Tryz.prog 64 #[.int .i64 n, .int .i64 k] w fun e w' => ∃ V d, e = .returned (.slice V n d) ∧ RdS w' (fun _ => True) V n d ((unitL n k).map rat3) ∧ Below w.heap.size w w' := by
  have hkn : (k : Int) < n := by omega
  go_enter Tryz.func64, Tryz.ntmps64
  go_wp2_with fail
  refine (l06Zeros_own n hn w).mono ?_
  rintro e w1 ⟨V, d, L, rfl, hv, ho, hp, hf, b1⟩
  obtain ⟨g, rfl, hg0, hlt, _⟩ := row_at ho (by omega)
  have hll : L.length = n := by have h1 := ho.1; rw [flat_len] at h1; omega
  have HV := Lib.hid hv
  have HO := Lib.hid ho
  have HP := Lib.hid hp
  have HF := Lib.hid hf
  have HB1 := Lib.hid b1
  obtain ⟨f0, f1, f2⟩ := flat_get L k (by omega)
  clear hv ho hp hf b1
  have HC : Hid (∀ W, Below w1.heap.size w1 W → (W.cell? ⟨g, k * 3, none⟩ = some (.bool (L.getD k e0).neg) ∧ W.cell? ⟨g, k * 3 + 1, none⟩ = some (.slice (L.getD k e0).A (L.getD k e0).xs.length (L.getD k e0).ca) ∧ W.cell? ⟨g, k * 3 + 2, none⟩ = some (.slice (L.getD k e0).B (L.getD k e0).ys.length (L.getD k e0).cb)) ∧ W.frozen? ⟨g, k * 3, none⟩ = false ∧ W.frozen? ⟨g, k * 3 + 1, none⟩ = false ∧ W.frozen? ⟨g, k * 3 + 2, none⟩ = false) := Lib.hid fun W hb => by
    have h := own_keep3 HO.out hb
    exact ⟨⟨(h.cellAt _ (by omega)).trans f0, (h.cellAt _ (by omega)).trans f1, (h.cellAt _ (by omega)).trans f2⟩, h.frozenAt _, h.frozenAt _, h.frozenAt _⟩
  clear f0 f1 f2
  go_wp2_with (go_at_call 87; refine (op_int 1 (by decide) (by decide) _).mono ?_; rintro e w2 ⟨A1, c1, B1, d1, rfl, o1, b2⟩; have HO1 := Lib.hid o1; have HB2 := Lib.hid b2; obtain ⟨⟨q0, q1, q2⟩, z0, z1, z2⟩ := HC.out w2 b2; clear o1 b2)
  have hput := row_put (r := EV.mk (isNeg ((1 : Int) : Rat)) A1 c1 B1 d1 (D (nu ((1 : Int) : Rat))) (D ((1 : Int) : Rat).den)) (own_keep3 HO.out HB2.out) (HP.out.on HB2.out) (HO1.out.beside (HF.out.on HB2.out (own_ltF HO.out))) hk
  rw [HV.out] at hput
  have hs2 := HB2.out.size
  exact bodyPost_ret (results_tmp rfl _ _ _) rfl ⟨some ⟨g, 0, none⟩, d, rfl, by have := hput.1; rw [show EV.v3 _ = rat3 1 from rfl, unitL_set n k] at this; exact this, below_grow (below_on HB1.out HB2.out) hg0 hput.2⟩
end Go.Proofs.YtifepoefeamboaaGreatDoor
