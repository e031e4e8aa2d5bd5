/-
  GradMath ImplGrad in one text.
-/
import Derived.Test.YtifepoefeamboaaGreatDoorJoD
import Derived.Test.YtifepoefeamboaaGreatDoorJoE
import Derived.Laws.AppendOwnNone
namespace Nt
open Go Go.RowKit
/-- so many numbers, 1 at i and 0 elsewhere -/
def unitL (m i : Nat) : List Rat := (List.range m).map fun k => if k = i then 1 else 0
theorem unitL_len (m i : Nat) : (unitL m i).length = m := by simp [unitL]
theorem unitL_snoc (m i : Nat) : unitL (m + 1) i = unitL m i ++ [if m = i then 1 else 0] := by simp [unitL, List.range_succ]
theorem fine_unitL (m i : Nat) : Fine (unitL m i) := by
  intro q hq
  unfold unitL at hq
  obtain ⟨k, -, rfl⟩ := List.mem_map.1 hq
  split <;> decide
/-- what R tells of each of so many, till one of them stops it -/
def rowsTo (R : Nat → Rat × Int) : Nat → List Rat × Int
  | 0 => ([], 0)
  | k + 1 => if (rowsTo R k).2 = 0 then (if (R k).2 = 0 then ((rowsTo R k).1 ++ [(R k).1], 0) else ([], (R k).2)) else rowsTo R k
theorem rowsTo_more {R : Nat → Rat × Int} {k : Nat} {L : List Rat} (h : rowsTo R k = (L, 0)) (h0 : (R k).2 = 0) : rowsTo R (k + 1) = (L ++ [(R k).1], 0) := by
  rw [rowsTo, h, if_pos rfl, if_pos h0]
theorem rowsTo_past {R : Nat → Rat × Int} {k : Nat} (h : (rowsTo R k).2 ≠ 0) : ∀ d, rowsTo R (k + d) = rowsTo R k
  | 0 => rfl
  | d + 1 => by
    have ih := rowsTo_past h d
    rw [← Nat.add_assoc, rowsTo, ih, if_neg h]
theorem rowsTo_stop {R : Nat → Rat × Int} {k m : Nat} {L : List Rat} (h : rowsTo R k = (L, 0)) (h0 : (R k).2 ≠ 0) (hk : k < m) : rowsTo R m = ([], (R k).2) := by
  have e : rowsTo R (k + 1) = ([], (R k).2) := by rw [rowsTo, h, if_pos rfl, if_neg h0]
  obtain ⟨d, rfl⟩ : ∃ d, m = k + 1 + d := ⟨m - (k + 1), by omega⟩
  rw [rowsTo_past (by rw [e]; exact h0), e]
theorem rowsTo_congr {R R' : Nat → Rat × Int} : ∀ m, (∀ k, k < m → R k = R' k) → rowsTo R m = rowsTo R' m
  | 0, _ => rfl
  | m + 1, h => by rw [rowsTo, rowsTo, rowsTo_congr m fun k hk => h k (by omega), h m (by omega)]
theorem rowsTo_len {R : Nat → Rat × Int} : ∀ m, (rowsTo R m).2 = 0 → (rowsTo R m).1.length = m
  | 0, _ => rfl
  | m + 1, h => by
    rw [rowsTo] at h ⊢
    by_cases h1 : (rowsTo R m).2 = 0
    · rw [if_pos h1] at h ⊢
      by_cases h2 : (R m).2 = 0
      · rw [if_pos h2, List.length_append, rowsTo_len m h1]; rfl
      · rw [if_neg h2] at h; exact absurd h h2
    · rw [if_neg h1] at h; exact absurd h h1
theorem rowsTo_none {R : Nat → Rat × Int} : ∀ m, (rowsTo R m).2 ≠ 0 → (rowsTo R m).1 = []
  | 0, h => absurd rfl h
  | m + 1, h => by
    rw [rowsTo] at h ⊢
    by_cases h1 : (rowsTo R m).2 = 0
    · rw [if_pos h1] at h ⊢
      by_cases h2 : (R m).2 = 0
      · rw [if_pos h2] at h; exact absurd rfl h
      · rw [if_neg h2]
    · rw [if_neg h1]; exact rowsTo_none m h1
theorem rowsTo_fit {R : Nat → Rat × Int} (p : Rat → Prop) : ∀ m, (∀ k, k < m → (R k).2 = 0 → p (R k).1) → ∀ q ∈ (rowsTo R m).1, p q
  | 0, _, q, hq => by simp [rowsTo] at hq
  | m + 1, h, q, hq => by
    rw [rowsTo] at hq
    have ih := rowsTo_fit p m fun k hk => h k (by omega)
    by_cases h1 : (rowsTo R m).2 = 0
    · rw [if_pos h1] at hq
      by_cases h2 : (R m).2 = 0
      · rw [if_pos h2] at hq
        rcases List.mem_append.1 hq with hq | hq
        · exact ih q hq
        · rw [List.mem_singleton.1 hq]; exact h m (by omega) h2
      · rw [if_neg h2] at hq; simp at hq
    · rw [if_neg h1] at hq; exact ih q hq
/-- the slope along axis i and, where there is one, a way more: the program's -/
def rowJ (qs : List Rat) (vs : Nat → Nat → List Rat) (N : Nat) (ns : List Nd) (i : Nat) : Rat × Int :=
  (numJ ((evalJ (varsJ qs (vs i) N qs.length) ns).1.getD (ns.length - 1) j0) N, (evalJ (varsJ qs (vs i) N qs.length) ns).2)
end Nt
namespace Nt
open Go Go.RowKit
theorem EVnew_v3 (L : List EV) (ps : List Rat) (p : Rat) (A B : Option Addr) (c d : Nat) (h : L.map EV.v3 = ps.map rat3) : (L ++ [EV.mk (isNeg p) A c B d (D (nu p)) (D p.den)]).map EV.v3 = (ps ++ [p]).map rat3 := by
  rw [List.map_append, h, List.map_append]; rfl
end Nt
namespace Go.Proofs.YtifepoefeamboaaGreatDoor
open Go Go.RowKit Nt

set_option maxRecDepth 20000 in
set_option maxHeartbeats 3200000 in
/-- the way along an axis -/
theorem axis_any (i m : Nat) (hm : m ≤ 4096) (w : World) :
    Calls Tryz.prog 65 #[.int .i64 i, .int .i64 m] w fun e w' => ∃ V d, e = .returned (.slice V m d) ∧ RdS w' (fun _ => True) V m d ((unitL m i).map rat3) ∧ Below w.heap.size w w' := by
  obtain ⟨i0, hi0, hz0, hz1, hz2⟩ := info_parts infoRat
  go_enter Tryz.func65, Tryz.ntmps65
  go_wp2
  go_loopw [5, 8] (fun v j wr => ∃ (k : Nat) (V : Option Addr) (cv : Nat) (L : List EV), k ≤ m ∧ j = .int .i64 k ∧ v = .slice V k cv ∧ Hid (L.map EV.v3 = (unitL k i).map rat3) ∧ Hid (wr.ownsRow w.heap.size 31 3 (.slice V k cv) k (flat L)) ∧ Hid (PartsRd wr V L) ∧ Hid (Free wr V) ∧ Hid (Below w.heap.size w wr)) (fun _ j _ => m - (intOf j).toNat)
  case atStart => exact ⟨0, none, 0, [], Nat.zero_le _, rfl, rfl, Lib.hid rfl, Lib.hid (World.ownsRow_nil _ _ _ _), Lib.hid (fun i hi => by simp at hi), Lib.hid (Free.nil _), Lib.hid (Below.refl _ _)⟩
  case round =>
    obtain ⟨k, V, cv, L, hk, rfl, rfl, HV, HO, HP, HF, HB⟩ := hrel
    by_cases hlt : k < m
    · have hkN : (k : Int) < m := by omega
      have HSN := Lib.hid (unitL_snoc k i)
      have HW : ∀ (z : Int), Hid (-1000000 ≤ z ∧ z ≤ 1000000 → Calls Tryz.prog 73 #[.int .i64 z] wr (SayR wr (isNeg (z : Rat)) (D (nu (z : Rat))) (D (z : Rat).den))) := fun z => Lib.hid (fun h => whole_int z wr (by omega) (by omega))
      by_cases hik : k = i
      · have hb : ((k : Int) == i) = true := by simp; omega
        rw [if_pos hik] at HSN
        have HC := Lib.hid ((HW 1).out ⟨by decide, by decide⟩)
        clear hik HW
        go_wp2_with fail
        refine HC.out.mono ?_
        rintro e w1 ⟨A1, c1, B1, d1, rfl, o1, b1⟩
        have HO1 := Lib.hid (own_keep3 HO.out b1)
        have HF1 := Lib.hid (HF.out.on b1 (own_ltF HO.out))
        have HP1 : Hid (PartsRd w1 V (L ++ [EV.mk (isNeg ((1 : Int) : Rat)) A1 c1 B1 d1 (D (nu ((1 : Int) : Rat))) (D ((1 : Int) : Rat).den)])) := (HP.out.on b1).snoc (o1.beside HF1.out)
        have HV1 : Hid ((L ++ [EV.mk (isNeg ((1 : Int) : Rat)) A1 c1 B1 d1 (D (nu ((1 : Int) : Rat))) (D ((1 : Int) : Rat).den)]).map EV.v3 = (unitL (k + 1) i).map rat3) := Lib.hid (by rw [HSN.out]; exact EVnew_v3 L _ _ A1 B1 c1 d1 HV.out)
        have HB1 := Lib.hid (below_on HB.out b1)
        have hs1 := HB1.out.size
        clear o1 b1 HP HV HO HF HB HC HSN
        generalize ((1 : Int) : Rat) = p at *
        go_wp2_with (at_builtin; refine wpList_append_free _ rfl _ _ 27 rfl w.heap.size 31 i0 _ 3 56 Tryz.underlying27 hi0 hz0 hz1 hz2 rfl (by decide) (by decide) _ k _ _ rfl (HO1.out.alloc _) ⟨w1.heap.size, 0, none⟩ 1 1 [.bool (isNeg p), .slice A1 (D (nu p)).length c1, .slice B1 (D p.den).length d1] rfl rfl (cells3 _ _ _ _ _ _ _ _ _) (one3 _ _ _ _ _ _ _) (by simp [noInt]) (by decide) (by unfold maxLen; omega) (by omega) (by simp; omega) (HF1.out.on (below1 _ _) (own_ltF HO1.out)) _ rfl ?_; intro g' cv' w2 hown hgrow hat hfree)
        have hlit := below1 w1 (.cells #[.bool (isNeg p), .slice A1 (D (nu p)).length c1, .slice B1 (D p.den).length d1] 31)
        have HO2 : Hid (w2.ownsRow w.heap.size 31 3 (.slice (some ⟨g', 0, none⟩) (k + 1) cv') (k + 1) (flat (L ++ [EV.mk (isNeg p) A1 c1 B1 d1 (D (nu p)) (D p.den)]))) := by rw [flat_snoc]; exact hown
        have HP2 : Hid (PartsRd w2 (some ⟨g', 0, none⟩) (L ++ [EV.mk (isNeg p) A1 c1 B1 d1 (D (nu p)) (D p.den)])) := (HP1.out.on hlit).appended (HO1.out.alloc _) hgrow hat
        have HF2 := Lib.hid hfree
        have hrb := rowed3_below (HO1.out.alloc _) (by simp; omega) hgrow
        have HB2 := Lib.hid ((below_on HB1.out hlit).trans hrb)
        clear hown hgrow hat hfree hlit hrb HP1 HO1 HF1 HB1
        go_wp2
        go_roundw
        case rel => exact ⟨k + 1, _, _, _, by omega, by go_num, rfl, HV1, HO2, HP2, HF2, HB2⟩
        case measure => simp [intOf]; omega
      · have hb : ((k : Int) == i) = false := by simp; omega
        rw [if_neg hik] at HSN
        have HC := Lib.hid ((HW 0).out ⟨by decide, by decide⟩)
        clear hik HW
        go_wp2_with fail
        refine HC.out.mono ?_
        rintro e w1 ⟨A1, c1, B1, d1, rfl, o1, b1⟩
        have HO1 := Lib.hid (own_keep3 HO.out b1)
        have HF1 := Lib.hid (HF.out.on b1 (own_ltF HO.out))
        have HP1 : Hid (PartsRd w1 V (L ++ [EV.mk (isNeg ((0 : Int) : Rat)) A1 c1 B1 d1 (D (nu ((0 : Int) : Rat))) (D ((0 : Int) : Rat).den)])) := (HP.out.on b1).snoc (o1.beside HF1.out)
        have HV1 : Hid ((L ++ [EV.mk (isNeg ((0 : Int) : Rat)) A1 c1 B1 d1 (D (nu ((0 : Int) : Rat))) (D ((0 : Int) : Rat).den)]).map EV.v3 = (unitL (k + 1) i).map rat3) := Lib.hid (by rw [HSN.out]; exact EVnew_v3 L _ _ A1 B1 c1 d1 HV.out)
        have HB1 := Lib.hid (below_on HB.out b1)
        have hs1 := HB1.out.size
        clear o1 b1 HP HV HO HF HB HC HSN
        generalize ((0 : Int) : Rat) = p at *
        go_wp2_with (at_builtin; refine wpList_append_free _ rfl _ _ 27 rfl w.heap.size 31 i0 _ 3 56 Tryz.underlying27 hi0 hz0 hz1 hz2 rfl (by decide) (by decide) _ k _ _ rfl (HO1.out.alloc _) ⟨w1.heap.size, 0, none⟩ 1 1 [.bool (isNeg p), .slice A1 (D (nu p)).length c1, .slice B1 (D p.den).length d1] rfl rfl (cells3 _ _ _ _ _ _ _ _ _) (one3 _ _ _ _ _ _ _) (by simp [noInt]) (by decide) (by unfold maxLen; omega) (by omega) (by simp; omega) (HF1.out.on (below1 _ _) (own_ltF HO1.out)) _ rfl ?_; intro g' cv' w2 hown hgrow hat hfree)
        have hlit := below1 w1 (.cells #[.bool (isNeg p), .slice A1 (D (nu p)).length c1, .slice B1 (D p.den).length d1] 31)
        have HO2 : Hid (w2.ownsRow w.heap.size 31 3 (.slice (some ⟨g', 0, none⟩) (k + 1) cv') (k + 1) (flat (L ++ [EV.mk (isNeg p) A1 c1 B1 d1 (D (nu p)) (D p.den)]))) := by rw [flat_snoc]; exact hown
        have HP2 : Hid (PartsRd w2 (some ⟨g', 0, none⟩) (L ++ [EV.mk (isNeg p) A1 c1 B1 d1 (D (nu p)) (D p.den)])) := (HP1.out.on hlit).appended (HO1.out.alloc _) hgrow hat
        have HF2 := Lib.hid hfree
        have hrb := rowed3_below (HO1.out.alloc _) (by simp; omega) hgrow
        have HB2 := Lib.hid ((below_on HB1.out hlit).trans hrb)
        clear hown hgrow hat hfree hlit hrb HP1 HO1 HF1 HB1
        go_wp2
        go_roundw
        case rel => exact ⟨k + 1, _, _, _, by omega, by go_num, rfl, HV1, HO2, HP2, HF2, HB2⟩
        case measure => simp [intOf]; omega
    · obtain rfl : k = m := by omega
      go_wp2
      exact bodyPost_ret (results_tmp rfl _ _ _) rfl ⟨V, cv, rfl, by have h := PartsRd.rds HP.out HO.out; rw [HV.out] at h; exact h, HB.out⟩

theorem varsJ_dep2 (qs : List Rat) (vs : Nat → List Rat) (N m : Nat) (h : N ≤ 2) : ∀ j ∈ varsJ qs vs N m, j.dep ≤ 2 := fun j hj => Nat.le_trans (varsJ_dep _ _ _ _ j hj) h
theorem infoVecs : (Tryz.prog.info? 27).map (fun i => (i.zero, i.size, i.bytes)) = some (some (.slice none 0 0), 1, 24) := by kernel_rfl
theorem newRow1 (w : World) (t : TypeId) (v : Value) : (w.alloc (.cells #[v] t)).ownsRow w.heap.size t 1 (.slice (some ⟨w.heap.size, 0, none⟩) 1 1) 1 [v] :=
  ⟨by simp, .inr ⟨w.heap.size, 1, #[v], rfl, Nat.le_refl _, heap_alloc_new _ _, Nat.le_refl _, by decide, by simp, by simp⟩⟩
set_option maxRecDepth 20000 in
set_option maxHeartbeats 6400000 in
/-- the slope along each axis -/
theorem slopesAt_none (A X : Option Addr) (n c m d : Nat) (ns : List Nd) (qs : List Rat) (P P' : Nat → Prop) (w : World) (ad : Addr) (hE : ErrAt 195 w ad) (hr : RdN w P A n c ns) (hx : RdS w P' X m d (qs.map rat3)) (hf : Fine qs)
    (hg : ∀ k, k < n → fitN (ns.getD k nd0) = true ∧ behind (ns.getD k nd0) k = true ∧ ((ns.getD k nd0).1 = 2 → (ns.getD k nd0).2.2.2 < m)) (hn1 : 1 ≤ n) (hn : n ≤ 60) (hm : m ≤ 100) (R : List Rat) (code : Int) (hR : rowsTo (rowJ qs (fun i _ => unitL m i) 1 ns) m = (R, code)) :
    Calls Tryz.prog 46 #[.agg #[.slice A n c], .slice X m d, .slice none 0 0] w (RetVC 31 3 w (R.map rat3) code) := by
  obtain ⟨i0, hi0, hz0, hz1, hz2⟩ := info_parts infoRat
  have hql : qs.length = m := by have := hx.len; rw [List.length_map] at this; exact this
  have hln : ns.length = n := hr.len
  obtain ⟨i1, hi1, -⟩ := Option.map_eq_some_iff.1 infoVecs
  have HFIT := Lib.hid (fun k (h : (rowJ qs (fun i _ => unitL m i) 1 ns k).2 = 0) => (last_L2 (n := n) (varsJ_dep2 qs ((fun i _ => unitL m i) k) 1 qs.length (by decide)) hln hn1 (js := (evalJ (varsJ qs ((fun i _ => unitL m i) k) 1 qs.length) ns).1) (by rw [← h]; rfl)).2)
  have HJ := Lib.hid (fun (k : Nat) (g cg : Nat) (V : Option Addr) (dz : Nat) (W : World) (hw : Below w.heap.size w W) (hW : WaysAt W (some ⟨g, 0, none⟩) 1 m (fun t => V) (fun t => dz) (fun _ => unitL m k)) => exprJetAt_any A X n c m d ns qs (fun _ => unitL m k) (some ⟨g, 0, none⟩) 1 cg _ _ _ _ W ad (hE.on hw) (hr.on hw) (hx.on hw) hW (varsJ_dep2 qs _ 1 m (by decide)) (varsJ_L2 (by omega) hf (fun t _ => fine_unitL _ _) m) hg hn1 hn (by omega) hm (evalJ (varsJ qs (fun _ => unitL m k) 1 m) ns).1 (evalJ (varsJ qs (fun _ => unitL m k) 1 m) ns).2 rfl)
  have HRO := Lib.hid hR
  have HQL := Lib.hid hql
  have HLN := Lib.hid hln
  clear hE hr hx hf hg hR hql hln
  go_enter Tryz.func46, Tryz.ntmps46
  go_wp2
  go_loopw [8, 15] (fun v j wr => ∃ (k : Nat) (V : Option Addr) (cv : Nat) (L : List EV) (ps : List Rat), k ≤ m ∧ j = .int .i64 k ∧ v = .slice V k cv ∧ Hid (rowsTo (rowJ qs (fun i _ => unitL m i) 1 ns) k = (ps, 0)) ∧ Hid (L.map EV.v3 = ps.map rat3) ∧ Hid (wr.ownsRow (w.heap.size + 1) 31 3 (.slice V k cv) k (flat L)) ∧ Hid (PartsRd wr V L) ∧ Hid (Free wr V) ∧ Hid (SlAt wr w.heap.size 25 A n c) ∧ Hid (Below w.heap.size w wr)) (fun _ j _ => m - (intOf j).toNat)
  case atStart => exact ⟨0, none, 0, [], [], Nat.zero_le _, rfl, rfl, Lib.hid rfl, Lib.hid rfl, Lib.hid (World.ownsRow_nil _ _ _ _), Lib.hid (fun i hi => by simp at hi), Lib.hid (Free.nil _), Lib.hid (SlAt.new _ _ _ _ _), Lib.hid (below1 _ _)⟩
  case round =>
    obtain ⟨k, V, cv, L, ps, hk, rfl, rfl, HRK, HV, HO, HP, HF, HS, HB⟩ := hrel
    by_cases hlt : k < m
    · have hkN : (k : Int) < m := by omega
      have HLT := Lib.hid hlt
      have hbs := HS.out.lt
      have HFK := Lib.hid (HFIT.out k)
      obtain ⟨js, cd, HEV⟩ : ∃ js cd, Hid (evalJ (varsJ qs (fun _ => unitL m k) 1 m) ns = (js, cd)) := ⟨_, _, Lib.hid rfl⟩
      have HRW : Hid (rowJ qs (fun i _ => unitL m i) 1 ns k = (numJ (js.getD (n - 1) j0) 1, cd)) := Lib.hid (by unfold rowJ; dsimp only; rw [HQL.out, HEV.out, HLN.out])
      have HJK := Lib.hid (HJ.out k)
      rw [HEV.out] at HJK
      dsimp only at HJK
      go_wp2_with fail
      refine (axis_any k m (by omega) wr).mono ?_
      rintro e w1 ⟨Va, da, rfl, oa, b1⟩
      have HB1 := Lib.hid (below_on HB.out b1)
      have HS1 := Lib.hid (HS.out.on b1)
      have HO1 := Lib.hid (own_keep3 HO.out b1)
      have HF1 := Lib.hid (HF.out.on b1 (own_ltF HO.out))
      have HP1 := Lib.hid (HP.out.on b1)
      have HA1 := Lib.hid oa
      have hs1 := b1.size
      clear oa b1 HO HF HP HB HS
      have t0 := (HS1.out.on (below1 w1 (.cells #[.slice Va m da] 27))).c0
      go_wp2_with (at_builtin; refine wpList_append_own_none rfl _ _ 93 rfl w1.heap.size 27 i1 1 Tryz.underlying93 hi1 _ 1 [.slice Va m da] rfl (newRow1 _ _ _) rfl ?_)
      refine calls_at (fun W => Below w1.heap.size w1 W ∧ W.cell? ⟨w1.heap.size, 0, none⟩ = some (.slice Va m da) ∧ w1.heap.size < W.heap.size) ⟨below1 _ _, by rw [cell_of_row _ _ 0 _ _ (0, 0) (heap_alloc_new w1 _)]; rfl, by simp⟩ ?_
      rintro W ⟨bW, cW, hW⟩
      have HWA : Hid (WaysAt W (some ⟨w1.heap.size, 0, none⟩) 1 m (fun _ => Va) (fun _ => da) (fun _ => unitL m k)) := Lib.hid (WaysAt.one hW cW (HA1.out.on bW))
      have HBW := Lib.hid (below_on HB1.out bW)
      have HSW := Lib.hid (HS1.out.on bW)
      have HOW := Lib.hid (own_keep3 HO1.out bW)
      have HFW := Lib.hid (HF1.out.on bW (own_ltF HO1.out))
      have HPW := Lib.hid (HP1.out.on bW)
      have hsW := bW.size
      clear bW cW HB1 HS1 HO1 HF1 HP1 HA1 t0
      refine (HJK.out w1.heap.size 1 Va da W HBW.out HWA.out).mono ?_
      rintro e w2 ⟨h2, b2⟩
      have HB2 := Lib.hid (below_on HBW.out b2)
      have HS2 := Lib.hid (HSW.out.on b2)
      have HOJ := Lib.hid (own_keep3 HOW.out b2)
      have HFJ := Lib.hid (HFW.out.on b2 (own_ltF HOW.out))
      have HPJ := Lib.hid (HPW.out.on b2)
      have hs2 := b2.size
      clear b2 HBW HSW HOW HFW HPW HWA HJK
      rcases h2 with ⟨h0, t, x, rfl, hj⟩ | ⟨h0, rfl⟩
      · have H0 := Lib.hid h0
        subst h0
        have HAL := Lib.hid (fun W hb => along_any (js.getD (n - 1) j0) 1 (.iface t x) _ W (by omega) (JAt.on hb hj))
        have HRM := Lib.hid (rowsTo_more HRK.out (by rw [HRW.out]))
        rw [HRW.out] at HRM
        dsimp only at HRM
        clear hj HFK
        generalize numJ (js.getD (n - 1) j0) 1 = p at *
        go_wp2_with fail
        refine (HAL.out w2 (Below.refl _ _)).mono ?_
        rintro e w3 ⟨A1, c1, B1, d1, rfl, o1, b3⟩
        have HO1 := Lib.hid (own_keep3 HOJ.out b3)
        have HF1 := Lib.hid (HFJ.out.on b3 (own_ltF HOJ.out))
        have HP1 : Hid (PartsRd w3 V (L ++ [EV.mk (isNeg p) A1 c1 B1 d1 (D (nu p)) (D p.den)])) := (HPJ.out.on b3).snoc (o1.beside HF1.out)
        have HV1 : Hid ((L ++ [EV.mk (isNeg p) A1 c1 B1 d1 (D (nu p)) (D p.den)]).map EV.v3 = (ps ++ [p]).map rat3) := Lib.hid (EVnew_v3 L _ _ A1 B1 c1 d1 HV.out)
        have HB3 := Lib.hid (below_on HB2.out b3)
        have HS3 := Lib.hid (HS2.out.on b3)
        have hs3 := HB3.out.size
        have hz3 := HS3.out.lt
        clear o1 b3 HPJ HV HOJ HFJ HB2 HS2 HAL HRK HRW HEV
        go_wp2_with (at_builtin; refine wpList_append_free _ rfl _ _ 27 rfl (w.heap.size + 1) 31 i0 _ 3 56 Tryz.underlying27 hi0 hz0 hz1 hz2 rfl (by decide) (by decide) _ k _ _ rfl (HO1.out.alloc _) ⟨w3.heap.size, 0, none⟩ 1 1 [.bool (isNeg p), .slice A1 (D (nu p)).length c1, .slice B1 (D p.den).length d1] rfl rfl (cells3 _ _ _ _ _ _ _ _ _) (one3 _ _ _ _ _ _ _) (by simp [noInt]) (by decide) (by unfold maxLen; omega) (by omega) (by simp; omega) (HF1.out.on (below1 _ _) (own_ltF HO1.out)) _ rfl ?_; intro g' cv' w4 hown hgrow hat hfree)
        have hlit := below1 w3 (.cells #[.bool (isNeg p), .slice A1 (D (nu p)).length c1, .slice B1 (D p.den).length d1] 31)
        have HO2 : Hid (w4.ownsRow (w.heap.size + 1) 31 3 (.slice (some ⟨g', 0, none⟩) (k + 1) cv') (k + 1) (flat (L ++ [EV.mk (isNeg p) A1 c1 B1 d1 (D (nu p)) (D p.den)]))) := by rw [flat_snoc]; exact hown
        have HP2 : Hid (PartsRd w4 (some ⟨g', 0, none⟩) (L ++ [EV.mk (isNeg p) A1 c1 B1 d1 (D (nu p)) (D p.den)])) := (HP1.out.on hlit).appended (HO1.out.alloc _) hgrow hat
        have HF2 := Lib.hid hfree
        have hrb := rowed3_below (HO1.out.alloc _) (by simp; omega) hgrow
        have HB4 := Lib.hid ((below_on HB3.out hlit).trans (hrb.mono (by omega)))
        have HS4 : Hid (SlAt w4 w.heap.size 25 A n c) := Lib.hid ((hrb.block _ (by omega)).trans (HS3.out.on hlit))
        clear hown hgrow hat hfree hlit hrb HP1 HO1 HF1 HB3 HS3
        go_wp2
        go_roundw
        case rel => exact ⟨k + 1, _, _, _, _, by omega, by go_num, rfl, HRM, HV1, HO2, HP2, HF2, HS4, HB4⟩
        case measure => simp [intOf]; omega
      · have hb : (cd != 0) = true := by simpa using h0
        have HST := Lib.hid (rowsTo_stop HRK.out (by rw [HRW.out]; exact h0) HLT.out)
        rw [HRW.out, HRO.out] at HST
        dsimp only at HST
        clear h0 HFK
        go_wp2
        have hc : code = cd := congrArg Prod.snd HST.out
        have hr0 : R = [] := congrArg Prod.fst HST.out
        subst hc hr0
        exact bodyPost_ret (results_tmp2 rfl _ _ _) rfl ⟨none, 0, [], rfl, ⟨World.ownsRow_nil _ _ _ _, fun i hi => by simp at hi, fun i j _ hj => by simp at hj⟩, rfl, HB2.out⟩
    · obtain rfl : k = m := by omega
      have HRE := Lib.hid (HRO.out.symm.trans HRK.out)
      have hc : code = 0 := congrArg Prod.snd HRE.out
      have hr0 : R = ps := congrArg Prod.fst HRE.out
      subst hc hr0
      have hfq : ∀ q ∈ R, fitQ q := by
        have := rowsTo_fit (R := rowJ qs (fun i _ => unitL k i) 1 ns) fitQ k fun j _ h0 => by
          have hh := HFIT.out j h0
          unfold rowJ
          rw [HLN.out]
          exact hh.2.2.2.1
        rw [HRK.out] at this
        exact this
      have hpl : R.length = k := by
        have := rowsTo_len (R := rowJ qs (fun i _ => unitL k i) 1 ns) k (by rw [HRK.out])
        rw [HRK.out] at this
        exact this
      have HVY := Lib.hid (fV_yes (ps := R) fun j hj => hfq _ (by
        have e : R.getD j 0 = R[j] := by simp [List.getD, hj]
        rw [e]; exact List.getElem_mem hj))
      have HFV := Lib.hid (fittedVec_any R V k cv (fun _ => True) wr (by
        have := HP.out.rds HO.out
        rw [HV.out] at this
        exact this) (fun p hp => by have := hfq p hp; exact ⟨Nat.le_trans this.1 (by decide), Nat.le_trans this.2 (by decide)⟩) (by omega))
      rw [HVY.out.1, HVY.out.2] at HFV
      clear HP HO HF HV hfq HVY HRE hpl
      go_wp2_with fail
      refine HFV.out.mono ?_
      rintro e w4 ⟨V4, d4, L4, rfl, o4, hm4, b4⟩
      have HO4 := Lib.hid (show OwnV 31 3 w4 w.heap.size V4 _ d4 L4 from ⟨own_mono3 o4.1 HB.out.size, fun i hi => OwnR.mono (o4.2.1 i hi) HB.out.size, o4.2.2⟩)
      have HM4 := Lib.hid hm4
      have HB4 := Lib.hid (below_on HB.out b4)
      clear o4 b4 hm4
      go_wp2
      exact bodyPost_ret (results_tmp2 rfl _ _ _) rfl ⟨V4, d4, L4, by rw [List.length_map]; rfl, HO4.out, HM4.out, HB4.out⟩

set_option maxRecDepth 20000 in
set_option maxHeartbeats 3200000 in
/-- the slopes, or what stopped them -/
theorem implGradOf_ok (A X : Option Addr) (n c m d : Nat) (ns : List Nd) (qs : List Rat) (P P' : Nat → Prop) (w : World) (ad : Addr) (hE : ErrAt 195 w ad) (hr : RdN w P A n c ns) (hx : RdS w P' X m d (qs.map rat3)) (hf : Fine qs) (hn : n ≤ 1048576) (hm : m ≤ 1048576) (hcode : ptCode (okE ns) ns m (qs.map rat3) = 0) (R : List Rat) (code : Int) (hR : rowsTo (rowJ qs (fun i _ => unitL m i) 1 ns) m = (R, code)) :
    Calls Tryz.prog 14 #[.agg #[.slice A n c], .slice X m d] w (RetVC 31 3 w (R.map rat3) code) := by
  obtain ⟨h4, hright, hok, hdim⟩ := ptCode_zero hcode
  have hln : ns.length = n := hr.len
  obtain ⟨hg, hn1, hn60⟩ := okE_at hln hright hdim
  have hm4 : m ≤ 100 := by have := (okV_out hok).2.1; have h2 := hx.len; rw [List.length_map] at this h2; omega
  have HP := Lib.hid (fun (W : World) (hw : Below w.heap.size w W) => placeCode_none A X n c m d ns (qs.map rat3) _ _ W (hr.on hw) (hx.on hw) (small_fine hf) hn hm)
  have HL := Lib.hid (fun (W : World) (hw : Below w.heap.size w W) => slopesAt_none A X n c m d ns qs _ _ W ad (hE.on hw) (hr.on hw) (hx.on hw) hf hg hn1 hn60 hm4 R code hR)
  rw [hcode] at HP
  clear h4 hright hok hdim hln hg hn1 hn60 hm4 hE hr hx hf hcode hR
  go_enter Tryz.func14, Tryz.ntmps14
  go_wp2_with fail
  refine calls_at (fun W => Below w.heap.size w W ∧ SlAt W w.heap.size 25 A n c) ⟨below1 _ _, SlAt.new _ _ _ _ _⟩ ?_
  rintro W ⟨hw, s0⟩
  refine (HP.out W hw).mono ?_
  rintro e w1 ⟨rfl, b1⟩
  have HB1 := Lib.hid (below_on hw b1)
  have HS1 := Lib.hid (s0.on b1)
  have t0 := HS1.out.c0
  clear hw s0 b1 HP
  go_wp2_with fail
  refine (HL.out w1 HB1.out).mono ?_
  rintro e w4 ⟨V4, d4, L4, rfl, o4, hm4, b4⟩
  have HO4 := Lib.hid (show OwnV 31 3 w4 w.heap.size V4 _ d4 L4 from ⟨own_mono3 o4.1 (HB1.out.size), fun i hi => OwnR.mono (o4.2.1 i hi) (HB1.out.size), o4.2.2⟩)
  have HM4 := Lib.hid hm4
  have HB4 := Lib.hid (below_on HB1.out b4)
  clear o4 b4 hm4 t0
  go_wp2
  exact bodyPost_ret (results_tmp2 rfl _ _ _) rfl ⟨V4, d4, L4, by rw [List.length_map]; rfl, HO4.out, HM4.out, HB4.out⟩

end Go.Proofs.YtifepoefeamboaaGreatDoor
