/-
  What the variables are, the numbers of a list of jets, and what is asked of the point: jetsAlong, numbersAlong, pointCode of the program.
-/
import Derived.Test.YtifepoefeamboaaGreatDoorImplJetsOf
import Derived.Test.YtifepoefeamboaaGreatDoorGrpF
namespace Nt
open Go Go.RowKit
/-- variable i: the point's number, and how it goes along each way -/
def varJ (xs : List Rat) (vs : Nat → List Rat) (i : Nat) : Nat → Jt
  | 0 => .fx (xs.getD i 0)
  | t + 1 => .mv (varJ xs vs i t) (.fx ((vs t).getD i 0))
def varsJ (xs : List Rat) (vs : Nat → List Rat) (N m : Nat) : List Jt := (List.range m).map fun i => varJ xs vs i N
theorem varsJ_len (xs : List Rat) (vs : Nat → List Rat) (N m : Nat) : (varsJ xs vs N m).length = m := by simp [varsJ]
theorem varsJ_snoc (xs : List Rat) (vs : Nat → List Rat) (N k : Nat) : varsJ xs vs N (k + 1) = varsJ xs vs N k ++ [varJ xs vs k N] := by simp [varsJ, List.range_succ]
theorem varsJ_zero (xs : List Rat) (vs : Nat → List Rat) : varsJ xs vs 0 xs.length = xs.map Jt.fx := by
  apply List.ext_getElem
  · simp [varsJ]
  · intro i h1 h2
    simp only [varsJ, List.length_map, List.length_range] at h1
    simp [varsJ, varJ, List.getD, h1]
/-- the ways lie in one block, a slice each -/
def WaysAt (w : World) (G : Option Addr) (N m : Nat) (A : Nat → Option Addr) (c : Nat → Nat) (vs : Nat → List Rat) : Prop :=
  (0 < N → ∃ g, G = some ⟨g, 0, none⟩ ∧ g < w.heap.size ∧ ∀ i, i < N → w.cell? ⟨g, i, none⟩ = some (.slice (A i) m (c i))) ∧ ∀ i, i < N → RdS w (fun _ => True) (A i) m (c i) ((vs i).map rat3)
theorem WaysAt.nil (w : World) (G : Option Addr) (m : Nat) (A : Nat → Option Addr) (c : Nat → Nat) (vs : Nat → List Rat) : WaysAt w G 0 m A c vs := ⟨fun h => absurd h (Nat.lt_irrefl _), fun _ h => absurd h (Nat.not_lt_zero _)⟩
theorem WaysAt.on {w w' : World} {G : Option Addr} {N m : Nat} {A : Nat → Option Addr} {c : Nat → Nat} {vs : Nat → List Rat} (h : WaysAt w G N m A c vs) (hb : Below w.heap.size w w') : WaysAt w' G N m A c vs :=
  ⟨fun hN => by
    obtain ⟨g, e, hl, hc⟩ := h.1 hN
    exact ⟨g, e, Nat.lt_of_lt_of_le hl hb.size, fun i hi => (World.cell?_of_block (a := ⟨g, i, none⟩) (hb.block _ hl)).trans (hc i hi)⟩, fun i hi => (h.2 i hi).on hb⟩
def ptCode (right : Bool) (ns : List Nd) (m : Nat) (rs : List R3) : Int := if 4096 < m then 2 else if right && okV rs then (if (m : Int) < dimE ns then 8 else 0) else 1
theorem dim_var (ns : List Nd) : ∀ k, k ≤ ns.length → ∀ j, j < k → (ns.getD j nd0).1 = 2 → (ns.getD j nd0).2.2.2 + 1 ≤ (ns.take k).foldl dimOne 0
  | 0, _, j, hj, _ => by omega
  | k + 1, hk, j, hj, h2 => by
    rw [dim_take ns k (by omega)]
    by_cases e : j = k
    · subst e
      unfold dimOne
      rw [if_pos h2]
      omega
    · have := dim_var ns k (by omega) j (by omega) h2
      generalize (ns.take k).foldl dimOne 0 = D at *
      unfold dimOne
      split <;> omega
theorem dim_less {ns : List Nd} {j : Nat} {m : Nat} (hj : j < ns.length) (h2 : (ns.getD j nd0).1 = 2) (hm : ¬ (m : Int) < dimE ns) : (ns.getD j nd0).2.2.2 < m := by
  have := dim_var ns ns.length (Nat.le_refl _) j hj h2
  rw [List.take_length] at this
  unfold dimE at hm
  omega
theorem ptCode_zero {right : Bool} {ns : List Nd} {m : Nat} {rs : List R3} (h : ptCode right ns m rs = 0) : m ≤ 4096 ∧ right = true ∧ okV rs = true ∧ ¬ (m : Int) < dimE ns := by
  unfold ptCode at h
  split at h
  · cases h
  · split at h
    · rename_i h1 h2
      rw [Bool.and_eq_true] at h2
      split at h
      · cases h
      · rename_i h3; exact ⟨by omega, h2.1, h2.2, h3⟩
    · cases h
end Nt
namespace Go.Proofs.YtifepoefeamboaaGreatDoor
open Go Go.RowKit Nt

theorem anyLongRat_none (w : World) : Calls Tryz.prog 98 #[.slice none 0 0] w fun e w' => e = .returned (.bool false) ∧ w = w' := by
  go_enter Tryz.func98, Tryz.ntmps98
  go_wp2
  refine wp_loop_rounds 1 ?_
  rw [rounds_succ]
  go_wp2
  go_ret
  exact ⟨rfl, rfl⟩

set_option maxHeartbeats 1600000 in
/-- what is asked of a point alone -/
theorem pointCode_none (right : Bool) (ns : List Nd) (A X : Option Addr) (n c m d : Nat) (rs : List R3) (P P' : Nat → Prop) (w : World) (hr : RdN w P A n c ns) (hx : RdS w P' X m d rs) (hsm : Small rs) (hm : m ≤ 1048576)
    (hok : right = true → (∀ j, j < ns.length → fitN (ns.getD j nd0) = true) ∧ 1 ≤ n ∧ n ≤ 60) :
    Calls Tryz.prog 69 #[.bool right, .slice A n c, .slice X m d, .slice none 0 0] w fun e w' => e = .returned (.int .i64 (ptCode right ns m rs)) ∧ Below w.heap.size w w' := by
  have HR := Lib.hid (hr.mono (Q := (· < w.heap.size)) fun _ _ h => h)
  have HX := Lib.hid hx.low
  have HS := Lib.hid hsm
  have HK := Lib.hid hok
  clear hr hx hsm hok
  go_enter Tryz.func69, Tryz.ntmps69
  go_wp2_with fail
  refine calls_at (fun W => Below w.heap.size w W ∧ W.cell? ⟨w.heap.size, 0, none⟩ = some (.slice X m d)) ⟨below1 _ _, by rw [cell_of_row _ _ 0 _ _ (0, 0) (heap_alloc_new w _)]; rfl⟩ ?_
  rintro W ⟨bW, cW⟩
  have HB := Lib.hid bW
  refine (anyLongRat_any w.heap.size 1 (fun _ => X) (fun _ => m) (fun _ => d) W (by omega) (at0 (p := fun i => W.cell? ⟨w.heap.size, i, none⟩ = some (.slice X m d)) cW) (fun _ _ => hm)).mono ?_
  rintro e w1 ⟨rfl, rfl⟩
  have e1 : ((List.range 1).any fun _ => decide (4096 < m)) = decide (4096 < m) := by simp [List.range_succ]
  rw [e1]
  clear cW e1 bW
  by_cases h1 : 4096 < m
  · rw [decide_eq_true h1]
    go_wp2
    refine bodyPost_ret (results_tmp rfl _ _ _) rfl ⟨by simp [ptCode, h1], HB.out⟩
  rw [decide_eq_false h1]
  have H1 := Lib.hid h1
  clear h1
  go_upto_region 3 with (go_at_call 98; refine (anyLongRat_none _).mono ?_; rintro e w2 ⟨rfl, rfl⟩)
  cases right with
  | false =>
    go_wp2
    refine bodyPost_ret (results_tmp rfl _ _ _) rfl ⟨by simp [ptCode, H1.out], HB.out⟩
  | true =>
    obtain ⟨hf, hn1, hn60⟩ := HK.out rfl
    go_wp2_with fail
    refine (implVecOK_any X m d rs _ _ (HX.out.below HB.out) HS.out hm).mono ?_
    rintro e w2 ⟨rfl, b2⟩
    have HB2 := Lib.hid (below_on HB.out b2)
    clear b2
    cases hv : okV rs with
    | false =>
      have HC : Hid (ptCode true ns m rs = 1) := Lib.hid (by simp [ptCode, H1.out, hv])
      clear hv
      go_wp2
      refine bodyPost_ret (results_tmp rfl _ _ _) rfl ⟨by rw [HC.out]; rfl, HB2.out⟩
    | true =>
      have HC : Hid (ptCode true ns m rs = if (m : Int) < dimE ns then 8 else 0) := Lib.hid (by simp [ptCode, H1.out, hv])
      clear hv
      go_wp2_with fail
      refine (axesOf_any A n c ns _ w2 (HR.out.below HB2.out) hf hn1 hn60).mono ?_
      rintro e w3 ⟨rfl, b3⟩
      have HB3 := Lib.hid (below_on HB2.out b3)
      clear b3
      generalize dimE ns = D at *
      by_cases h8 : (m : Int) < D
      · have HC2 : Hid (ptCode true ns m rs = 8) := Lib.hid (by rw [HC.out, if_pos h8])
        go_wp2
        refine bodyPost_ret (results_tmp rfl _ _ _) rfl ⟨by rw [HC2.out]; rfl, HB3.out⟩
      · have HC2 : Hid (ptCode true ns m rs = 0) := Lib.hid (by rw [HC.out, if_neg h8])
        go_wp2
        refine wp_loop_rounds 1 ?_
        rw [rounds_succ]
        go_wp2
        refine bodyPost_ret (results_tmp rfl _ _ _) rfl ⟨by rw [HC2.out]; rfl, HB3.out⟩

set_option maxRecDepth 20000 in
set_option maxHeartbeats 3200000 in
/-- what the variables are -/
theorem jetsAlong_any (xs : List Rat) (vs : Nat → List Rat) (X : Option Addr) (m d : Nat) (G : Option Addr) (N cG : Nat) (A : Nat → Option Addr) (c : Nat → Nat) (P : Nat → Prop) (w : World) (hx : RdS w P X m d (xs.map rat3)) (hw : WaysAt w G N m A c vs) (hN : N ≤ 2) (hm : m ≤ 100) :
    Calls Tryz.prog 72 #[.slice X m d, .slice G N cG] w fun e w' => ∃ V cv, e = .returned (.slice V m cv) ∧ RdJ 105 103 w' V m cv (varsJ xs vs N m) ∧ Below w.heap.size w w' := by
  have HX := Lib.hid hx.low
  have HW := Lib.hid hw
  have HLX : Hid (xs.length = m) := by have := hx.len; rw [List.length_map] at this; exact this
  clear hx hw
  obtain ⟨i0, hi0, hz⟩ := Option.map_eq_some_iff.1 infoJet
  simp only [Prod.mk.injEq] at hz
  obtain ⟨hz0, hz1, hz2⟩ := hz
  go_enter Tryz.func72, Tryz.ntmps72
  go_wp2
  go_loopw [5, 13] (fun v i wr => ∃ (k : Nat) (V : Option Addr) (cv : Nat) (us : List Value), k ≤ m ∧ i = .int .i64 k ∧ v = .slice V k cv ∧ Hid (wr.ownsRow w.heap.size 64 1 (.slice V k cv) k us) ∧ Hid (PartsJ 105 103 wr V (varsJ xs vs N k) us) ∧ Hid (Free wr V) ∧ Hid (Below w.heap.size w wr)) (fun _ i _ => m - (intOf i).toNat)
  case atStart => exact ⟨0, none, 0, [], Nat.zero_le _, rfl, rfl, Lib.hid (World.ownsRow_nil _ _ _ _), Lib.hid (PartsJ.nil _ _ _ _), Lib.hid (Free.nil _), Lib.hid (Below.refl _ _)⟩
  case round =>
    obtain ⟨k, V, cv, us, hk, rfl, rfl, HO, HP, HF, HB⟩ := hrel
    by_cases hlt : k < m
    · obtain ⟨b, o, rfl, hP, _, hc⟩ := HX.out.at_ (by omega)
      obtain ⟨Ai, da, Bi, db, q0, q1, q2, hrd⟩ := hc k hlt
      have hkq : k < xs.length := by rw [HLX.out]; exact hlt
      rw [getD_rat xs k hkq] at q0 q1 q2 hrd
      have c0 := (HB.out.cell (p := ⟨b, o + k * 3, none⟩) hP).trans q0
      have c1 := (HB.out.cell (p := ⟨b, o + k * 3 + 1, none⟩) hP).trans q1
      have c2 := (HB.out.cell (p := ⟨b, o + k * 3 + 2, none⟩) hP).trans q2
      have HV0 : Hid (varJ xs vs k 0 = .fx (xs.getD k 0)) := rfl
      have hkN : (k : Int) < m := by omega
      have hbs := HB.out.size
      have HRD := Lib.hid (RdR.below hrd HB.out)
      clear q0 q1 q2 hc hkq hrd
      generalize xs.getD k 0 = q at *
      simp only [rat3] at c0 c1 c2
      go_upto_region 5 with fail
      refine wp_atJ (fun v0 => Below wr.heap.size wr v0 ∧ RatAt v0 wr.heap.size 31 (isNeg q) Ai (D (nu q)).length da Bi (D q.den).length db) ⟨below1 _ _, RatAt.new _ _ _ _ _ _ _ _ _⟩ ?_
      rintro v0 ⟨bv, r0⟩
      have a0 := r0.c0
      have a1 := r0.c1
      have a2 := r0.c2
      have HB0 := Lib.hid (below_on HB.out bv)
      have HO0 := Lib.hid (own_keep3 HO.out bv)
      have HP0 := Lib.hid (HP.out.on bv)
      have HF0 := Lib.hid (HF.out.on bv (own_ltF HO.out))
      have HJ0 : Hid (JAt 105 103 v0 (fun _ => True) (varJ xs vs k 0) (.iface 105 (.agg #[.bool (isNeg q), .slice Ai (D (nu q)).length da, .slice Bi (D q.den).length db]))) := by
        show JAt _ _ _ _ _ _
        rw [HV0.out]
        exact ⟨Ai, da, Bi, db, rfl, (HRD.out.on bv).mono fun _ _ _ => trivial⟩
      have hs0 := bv.size
      clear bv r0 HO HP HF HB HRD HV0 c0 c1 c2
      go_wp2
      go_loop [8, 23] (fun v i => ∃ (t ty : Nat) (y : Value), t ≤ N ∧ i = .int .i64 t ∧ v = .iface ty y ∧ Hid (JAt 105 103 v0 (fun _ => True) (varJ xs vs k t) (.iface ty y))) (fun _ i => N - (intOf i).toNat)
      case atStart => exact ⟨0, _, _, Nat.zero_le _, rfl, rfl, HJ0⟩
      case round =>
        obtain ⟨t, ty, y, ht, rfl, rfl, HJ⟩ := hrel
        by_cases hlt2 : t < N
        · obtain ⟨g, rfl, hgl, hgc⟩ := (HW.out.on HB0.out).1 (by omega)
          have e0 := hgc t hlt2
          have HWT := Lib.hid ((HW.out.on HB0.out).2 t hlt2)
          have htN : (t : Int) < N := by omega
          obtain ⟨b2, o2, hA, _, _, hc2⟩ := HWT.out.at_ (by omega)
          obtain ⟨Aj, dj, Bj, ej, p0, p1, p2, hrd2⟩ := hc2 k hlt
          have hlv : (vs t).length = m := by have := HWT.out.len; rw [List.length_map] at this; exact this
          rw [getD_rat (vs t) k (by omega)] at p0 p1 p2 hrd2
          rw [hA] at e0
          have HVS : Hid (varJ xs vs k (t + 1) = .mv (varJ xs vs k t) (.fx ((vs t).getD k 0))) := rfl
          have HRD2 := Lib.hid hrd2
          clear hc2 hrd2 hgc HWT hlv hA
          generalize (vs t).getD k 0 = q' at *
          simp only [rat3] at p0 p1 p2
          go_wp2
          go_round
          case rel => exact ⟨t + 1, _, _, by omega, by go_num, rfl, by rw [HVS.out]; exact Lib.hid ⟨_, _, rfl, HJ.out, Aj, dj, Bj, ej, rfl, HRD2.out.mono fun _ _ _ => trivial⟩⟩
          case measure => simp [intOf]; omega
        · obtain rfl : t = N := by omega
          have HP1 := Lib.hid (HP0.out.snoc (HJ.out.beside HF0.out))
          clear HP0 HJ0
          go_wp2_with (at_builtin; refine wpList_append_free _ rfl _ _ 96 rfl w.heap.size 64 i0 _ 1 16 Tryz.underlying96 hi0 hz0 hz1 hz2 rfl (by decide) (by decide) _ k _ us rfl (HO0.out.alloc _) ⟨v0.heap.size, 0, none⟩ 1 1 [.iface ty y] rfl rfl (cellJ _ _ _) (oneJ _ _) (by simp [noInt]) (by decide) (by unfold maxLen; omega) (by omega) (by simp; omega) (HF0.out.on (below1 _ _) (own_ltF HO0.out)) _ rfl ?_; intro g' cv' w3 hown hgrow hat hfree)
          have hlit := below1 v0 (.cells #[.iface ty y] 64)
          have HO3 : Hid (w3.ownsRow w.heap.size 64 1 (.slice (some ⟨g', 0, none⟩) (k + 1) cv') (k + 1) (us ++ [.iface ty y])) := hown
          have HP3 : Hid (PartsJ 105 103 w3 (some ⟨g', 0, none⟩) (varsJ xs vs t (k + 1)) (us ++ [.iface ty y])) := by
            show PartsJ _ _ _ _ _ _
            rw [varsJ_snoc]
            exact (HP1.out.on hlit).appended (HO0.out.alloc _) hgrow hat
          have HF3 := Lib.hid hfree
          have HB3 := Lib.hid ((below_on HB0.out hlit).trans (row1_below (HO0.out.alloc _) (by simp; omega) hgrow))
          clear hown hgrow hat hfree hlit HP1 HO0 HF0 HB0 HJ
          go_wp2
          go_roundw
          case rel => exact ⟨k + 1, _, _, _, by omega, by go_num, rfl, HO3, HP3, HF3, HB3⟩
          case measure => simp [intOf]; omega
    · obtain rfl : k = m := by omega
      have HJ := Lib.hid (HP.out.rdj HO.out)
      clear HP HO HF
      go_wp2
      exact bodyPost_ret (results_tmp rfl _ _ _) rfl ⟨V, cv, rfl, HJ.out, HB.out⟩

end Go.Proofs.YtifepoefeamboaaGreatDoor
