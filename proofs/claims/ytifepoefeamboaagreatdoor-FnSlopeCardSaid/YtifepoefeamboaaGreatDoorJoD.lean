/-
  ImplJetV JetFx PlaceMath PlaceWay SlopeMath Quad in one text.
-/
import Derived.Test.YtifepoefeamboaaGreatDoorJoC
import Derived.Test.YtifepoefeamboaaGreatDoorGrpF
import Derived.Test.YtifepoefeamboaaGreatDoorGrpG
import Derived.Test.YtifepoefeamboaaGreatDoorGrpH
namespace Nt
open Go Go.RowKit
/-- variable i: the point's number, and how it goes along each way -/
def varJ (xs : List Rat) (vs : Nat → List Rat) (i : Nat) : Nat → Jt
  | 0 => .fx (xs.getD i 0)
  | t + 1 => .mv (varJ xs vs i t) (.fx ((vs t).getD i 0))
def varsJ (xs : List Rat) (vs : Nat → List Rat) (N m : Nat) : List Jt := (List.range m).map fun i => varJ xs vs i N
theorem varsJ_snoc (xs : List Rat) (vs : Nat → List Rat) (N k : Nat) : varsJ xs vs N (k + 1) = varsJ xs vs N k ++ [varJ xs vs k N] := by simp [varsJ, List.range_succ]
theorem varsJ_zero (xs : List Rat) (vs : Nat → List Rat) : varsJ xs vs 0 xs.length = xs.map Jt.fx := by
  apply List.ext_getElem
  · simp [varsJ]
  · intro i h1 h2
    simp only [varsJ, List.length_map, List.length_range] at h1
    simp [varsJ, varJ, List.getD, h1]
/-- the ways lie in one block, a slice each -/
def WaysAt (w : World) (G : Option Addr) (N m : Nat) (A : Nat → Option Addr) (c : Nat → Nat) (vs : Nat → List Rat) : Prop :=
  (0 < N → ∃ g, G = some ⟨g, 0, none⟩ ∧ g < w.heap.size ∧ ∀ i, i < N → w.cell? ⟨g, i, none⟩ = some (.slice (A i) m (c i))) ∧ ∀ i, i < N → RdS w (fun _ => True) (A i) m (c i) ((vs i).map rat3)
theorem WaysAt.nil (w : World) (G : Option Addr) (m : Nat) (A : Nat → Option Addr) (c : Nat → Nat) (vs : Nat → List Rat) : WaysAt w G 0 m A c vs := ⟨fun h => absurd h (Nat.lt_irrefl _), fun _ h => absurd h (Nat.not_lt_zero _)⟩
theorem WaysAt.on {w w' : World} {G : Option Addr} {N m : Nat} {A : Nat → Option Addr} {c : Nat → Nat} {vs : Nat → List Rat} (h : WaysAt w G N m A c vs) (hb : Below w.heap.size w w') : WaysAt w' G N m A c vs :=
  ⟨fun hN => by
    obtain ⟨g, e, hl, hc⟩ := h.1 hN
    exact ⟨g, e, Nat.lt_of_lt_of_le hl hb.size, fun i hi => (World.cell?_of_block (a := ⟨g, i, none⟩) (hb.block _ hl)).trans (hc i hi)⟩, fun i hi => (h.2 i hi).on hb⟩
def ptCode (right : Bool) (ns : List Nd) (m : Nat) (rs : List R3) : Int := if 4096 < m then 2 else if right && okV rs then (if (m : Int) < dimE ns then 8 else 0) else 1
theorem dim_var (ns : List Nd) : ∀ k, k ≤ ns.length → ∀ j, j < k → (ns.getD j nd0).1 = 2 → (ns.getD j nd0).2.2.2 + 1 ≤ (ns.take k).foldl dimOne 0
  | 0, _, j, hj, _ => by omega
  | k + 1, hk, j, hj, h2 => by
    rw [dim_take ns k (by omega)]
    by_cases e : j = k
    · subst e
      unfold dimOne
      rw [if_pos h2]
      omega
    · have := dim_var ns k (by omega) j (by omega) h2
      generalize (ns.take k).foldl dimOne 0 = D at *
      unfold dimOne
      split <;> omega
theorem dim_less {ns : List Nd} {j : Nat} {m : Nat} (hj : j < ns.length) (h2 : (ns.getD j nd0).1 = 2) (hm : ¬ (m : Int) < dimE ns) : (ns.getD j nd0).2.2.2 < m := by
  have := dim_var ns ns.length (Nat.le_refl _) j hj h2
  rw [List.take_length] at this
  unfold dimE at hm
  omega
theorem ptCode_zero {right : Bool} {ns : List Nd} {m : Nat} {rs : List R3} (h : ptCode right ns m rs = 0) : m ≤ 4096 ∧ right = true ∧ okV rs = true ∧ ¬ (m : Int) < dimE ns := by
  unfold ptCode at h
  split at h
  · cases h
  · split at h
    · rename_i h1 h2
      rw [Bool.and_eq_true] at h2
      split at h
      · cases h
      · rename_i h3; exact ⟨by omega, h2.1, h2.2, h3⟩
    · cases h
end Nt
namespace Go.Proofs.YtifepoefeamboaaGreatDoor
open Go Go.RowKit Nt

theorem anyLongRat_none (w : World) : Calls Tryz.prog 98 #[.slice none 0 0] w fun e w' => e = .returned (.bool false) ∧ w = w' := by
  go_enter Tryz.func98, Tryz.ntmps98
  go_wp2
  refine wp_loop_rounds 1 ?_
  rw [rounds_succ]
  go_wp2
  go_ret
  exact ⟨rfl, rfl⟩

set_option maxHeartbeats 1600000 in
/-- what is asked of a point alone -/
theorem pointCode_none (right : Bool) (ns : List Nd) (A X : Option Addr) (n c m d : Nat) (rs : List R3) (P P' : Nat → Prop) (w : World) (hr : RdN w P A n c ns) (hx : RdS w P' X m d rs) (hsm : Small rs) (hm : m ≤ 1048576)
    (hok : right = true → (∀ j, j < ns.length → fitN (ns.getD j nd0) = true) ∧ 1 ≤ n ∧ n ≤ 60) :
    Calls Tryz.prog 69 #[.bool right, .slice A n c, .slice X m d, .slice none 0 0] w fun e w' => e = .returned (.int .i64 (ptCode right ns m rs)) ∧ Below w.heap.size w w' := by
  have HR := Lib.hid (hr.mono (Q := (· < w.heap.size)) fun _ _ h => h)
  have HX := Lib.hid hx.low
  have HS := Lib.hid hsm
  have HK := Lib.hid hok
  clear hr hx hsm hok
  go_enter Tryz.func69, Tryz.ntmps69
  go_wp2_with fail
  refine calls_at (fun W => Below w.heap.size w W ∧ W.cell? ⟨w.heap.size, 0, none⟩ = some (.slice X m d)) ⟨below1 _ _, by rw [cell_of_row _ _ 0 _ _ (0, 0) (heap_alloc_new w _)]; rfl⟩ ?_
  rintro W ⟨bW, cW⟩
  have HB := Lib.hid bW
  refine (anyLongRat_any w.heap.size 1 (fun _ => X) (fun _ => m) (fun _ => d) W (by omega) (at0 (p := fun i => W.cell? ⟨w.heap.size, i, none⟩ = some (.slice X m d)) cW) (fun _ _ => hm)).mono ?_
  rintro e w1 ⟨rfl, rfl⟩
  have e1 : ((List.range 1).any fun _ => decide (4096 < m)) = decide (4096 < m) := by simp [List.range_succ]
  rw [e1]
  clear cW e1 bW
  by_cases h1 : 4096 < m
  · rw [decide_eq_true h1]
    go_wp2
    refine bodyPost_ret (results_tmp rfl _ _ _) rfl ⟨by simp [ptCode, h1], HB.out⟩
  rw [decide_eq_false h1]
  have H1 := Lib.hid h1
  clear h1
  go_upto_region 3 with (go_at_call 98; refine (anyLongRat_none _).mono ?_; rintro e w2 ⟨rfl, rfl⟩)
  cases right with
  | false =>
    go_wp2
    refine bodyPost_ret (results_tmp rfl _ _ _) rfl ⟨by simp [ptCode, H1.out], HB.out⟩
  | true =>
    obtain ⟨hf, hn1, hn60⟩ := HK.out rfl
    go_wp2_with fail
    refine (implVecOK_any X m d rs _ _ (HX.out.below HB.out) HS.out hm).mono ?_
    rintro e w2 ⟨rfl, b2⟩
    have HB2 := Lib.hid (below_on HB.out b2)
    clear b2
    cases hv : okV rs with
    | false =>
      have HC : Hid (ptCode true ns m rs = 1) := Lib.hid (by simp [ptCode, H1.out, hv])
      clear hv
      go_wp2
      refine bodyPost_ret (results_tmp rfl _ _ _) rfl ⟨by rw [HC.out]; rfl, HB2.out⟩
    | true =>
      have HC : Hid (ptCode true ns m rs = if (m : Int) < dimE ns then 8 else 0) := Lib.hid (by simp [ptCode, H1.out, hv])
      clear hv
      go_wp2_with fail
      refine (axesOf_any A n c ns _ w2 (HR.out.below HB2.out) hf hn1 hn60).mono ?_
      rintro e w3 ⟨rfl, b3⟩
      have HB3 := Lib.hid (below_on HB2.out b3)
      clear b3
      generalize dimE ns = D at *
      by_cases h8 : (m : Int) < D
      · have HC2 : Hid (ptCode true ns m rs = 8) := Lib.hid (by rw [HC.out, if_pos h8])
        go_wp2
        refine bodyPost_ret (results_tmp rfl _ _ _) rfl ⟨by rw [HC2.out]; rfl, HB3.out⟩
      · have HC2 : Hid (ptCode true ns m rs = 0) := Lib.hid (by rw [HC.out, if_neg h8])
        go_wp2
        refine wp_loop_rounds 1 ?_
        rw [rounds_succ]
        go_wp2
        refine bodyPost_ret (results_tmp rfl _ _ _) rfl ⟨by rw [HC2.out]; rfl, HB3.out⟩

set_option maxRecDepth 20000 in
set_option maxHeartbeats 3200000 in
/-- what the variables are -/
theorem jetsAlong_any (xs : List Rat) (vs : Nat → List Rat) (X : Option Addr) (m d : Nat) (G : Option Addr) (N cG : Nat) (A : Nat → Option Addr) (c : Nat → Nat) (P : Nat → Prop) (w : World) (hx : RdS w P X m d (xs.map rat3)) (hw : WaysAt w G N m A c vs) (hN : N ≤ 2) (hm : m ≤ 100) :
    Calls Tryz.prog 72 #[.slice X m d, .slice G N cG] w fun e w' => ∃ V cv, e = .returned (.slice V m cv) ∧ RdJ 105 103 w' V m cv (varsJ xs vs N m) ∧ Below w.heap.size w w' := by
  have HX := Lib.hid hx.low
  have HW := Lib.hid hw
  have HLX : Hid (xs.length = m) := by have := hx.len; rw [List.length_map] at this; exact this
  clear hx hw
  obtain ⟨i0, hi0, hz⟩ := Option.map_eq_some_iff.1 infoJet
  simp only [Prod.mk.injEq] at hz
  obtain ⟨hz0, hz1, hz2⟩ := hz
  go_enter Tryz.func72, Tryz.ntmps72
  go_wp2
  go_loopw [5, 13] (fun v i wr => ∃ (k : Nat) (V : Option Addr) (cv : Nat) (us : List Value), k ≤ m ∧ i = .int .i64 k ∧ v = .slice V k cv ∧ Hid (wr.ownsRow w.heap.size 64 1 (.slice V k cv) k us) ∧ Hid (PartsJ 105 103 wr V (varsJ xs vs N k) us) ∧ Hid (Free wr V) ∧ Hid (Below w.heap.size w wr)) (fun _ i _ => m - (intOf i).toNat)
  case atStart => exact ⟨0, none, 0, [], Nat.zero_le _, rfl, rfl, Lib.hid (World.ownsRow_nil _ _ _ _), Lib.hid (PartsJ.nil _ _ _ _), Lib.hid (Free.nil _), Lib.hid (Below.refl _ _)⟩
  case round =>
    obtain ⟨k, V, cv, us, hk, rfl, rfl, HO, HP, HF, HB⟩ := hrel
    by_cases hlt : k < m
    · obtain ⟨b, o, rfl, hP, _, hc⟩ := HX.out.at_ (by omega)
      obtain ⟨Ai, da, Bi, db, q0, q1, q2, hrd⟩ := hc k hlt
      have hkq : k < xs.length := by rw [HLX.out]; exact hlt
      rw [getD_rat xs k hkq] at q0 q1 q2 hrd
      have c0 := (HB.out.cell (p := ⟨b, o + k * 3, none⟩) hP).trans q0
      have c1 := (HB.out.cell (p := ⟨b, o + k * 3 + 1, none⟩) hP).trans q1
      have c2 := (HB.out.cell (p := ⟨b, o + k * 3 + 2, none⟩) hP).trans q2
      have HV0 : Hid (varJ xs vs k 0 = .fx (xs.getD k 0)) := rfl
      have hkN : (k : Int) < m := by omega
      have hbs := HB.out.size
      have HRD := Lib.hid (RdR.below hrd HB.out)
      clear q0 q1 q2 hc hkq hrd
      generalize xs.getD k 0 = q at *
      simp only [rat3] at c0 c1 c2
      go_upto_region 5 with fail
      refine wp_atJ (fun v0 => Below wr.heap.size wr v0 ∧ RatAt v0 wr.heap.size 31 (isNeg q) Ai (D (nu q)).length da Bi (D q.den).length db) ⟨below1 _ _, RatAt.new _ _ _ _ _ _ _ _ _⟩ ?_
      rintro v0 ⟨bv, r0⟩
      have a0 := r0.c0
      have a1 := r0.c1
      have a2 := r0.c2
      have HB0 := Lib.hid (below_on HB.out bv)
      have HO0 := Lib.hid (own_keep3 HO.out bv)
      have HP0 := Lib.hid (HP.out.on bv)
      have HF0 := Lib.hid (HF.out.on bv (own_ltF HO.out))
      have HJ0 : Hid (JAt 105 103 v0 (fun _ => True) (varJ xs vs k 0) (.iface 105 (.agg #[.bool (isNeg q), .slice Ai (D (nu q)).length da, .slice Bi (D q.den).length db]))) := by
        show JAt _ _ _ _ _ _
        rw [HV0.out]
        exact ⟨Ai, da, Bi, db, rfl, (HRD.out.on bv).mono fun _ _ _ => trivial⟩
      have hs0 := bv.size
      clear bv r0 HO HP HF HB HRD HV0 c0 c1 c2
      go_wp2
      go_loop [8, 23] (fun v i => ∃ (t ty : Nat) (y : Value), t ≤ N ∧ i = .int .i64 t ∧ v = .iface ty y ∧ Hid (JAt 105 103 v0 (fun _ => True) (varJ xs vs k t) (.iface ty y))) (fun _ i => N - (intOf i).toNat)
      case atStart => exact ⟨0, _, _, Nat.zero_le _, rfl, rfl, HJ0⟩
      case round =>
        obtain ⟨t, ty, y, ht, rfl, rfl, HJ⟩ := hrel
        by_cases hlt2 : t < N
        · obtain ⟨g, rfl, hgl, hgc⟩ := (HW.out.on HB0.out).1 (by omega)
          have e0 := hgc t hlt2
          have HWT := Lib.hid ((HW.out.on HB0.out).2 t hlt2)
          have htN : (t : Int) < N := by omega
          obtain ⟨b2, o2, hA, _, _, hc2⟩ := HWT.out.at_ (by omega)
          obtain ⟨Aj, dj, Bj, ej, p0, p1, p2, hrd2⟩ := hc2 k hlt
          have hlv : (vs t).length = m := by have := HWT.out.len; rw [List.length_map] at this; exact this
          rw [getD_rat (vs t) k (by omega)] at p0 p1 p2 hrd2
          rw [hA] at e0
          have HVS : Hid (varJ xs vs k (t + 1) = .mv (varJ xs vs k t) (.fx ((vs t).getD k 0))) := rfl
          have HRD2 := Lib.hid hrd2
          clear hc2 hrd2 hgc HWT hlv hA
          generalize (vs t).getD k 0 = q' at *
          simp only [rat3] at p0 p1 p2
          go_wp2
          go_round
          case rel => exact ⟨t + 1, _, _, by omega, by go_num, rfl, by rw [HVS.out]; exact Lib.hid ⟨_, _, rfl, HJ.out, Aj, dj, Bj, ej, rfl, HRD2.out.mono fun _ _ _ => trivial⟩⟩
          case measure => simp [intOf]; omega
        · obtain rfl : t = N := by omega
          have HP1 := Lib.hid (HP0.out.snoc (HJ.out.beside HF0.out))
          clear HP0 HJ0
          go_wp2_with (at_builtin; refine wpList_append_free _ rfl _ _ 96 rfl w.heap.size 64 i0 _ 1 16 Tryz.underlying96 hi0 hz0 hz1 hz2 rfl (by decide) (by decide) _ k _ us rfl (HO0.out.alloc _) ⟨v0.heap.size, 0, none⟩ 1 1 [.iface ty y] rfl rfl (cellJ _ _ _) (oneJ _ _) (by simp [noInt]) (by decide) (by unfold maxLen; omega) (by omega) (by simp; omega) (HF0.out.on (below1 _ _) (own_ltF HO0.out)) _ rfl ?_; intro g' cv' w3 hown hgrow hat hfree)
          have hlit := below1 v0 (.cells #[.iface ty y] 64)
          have HO3 : Hid (w3.ownsRow w.heap.size 64 1 (.slice (some ⟨g', 0, none⟩) (k + 1) cv') (k + 1) (us ++ [.iface ty y])) := hown
          have HP3 : Hid (PartsJ 105 103 w3 (some ⟨g', 0, none⟩) (varsJ xs vs t (k + 1)) (us ++ [.iface ty y])) := by
            show PartsJ _ _ _ _ _ _
            rw [varsJ_snoc]
            exact (HP1.out.on hlit).appended (HO0.out.alloc _) hgrow hat
          have HF3 := Lib.hid hfree
          have HB3 := Lib.hid ((below_on HB0.out hlit).trans (row1_below (HO0.out.alloc _) (by simp; omega) hgrow))
          clear hown hgrow hat hfree hlit HP1 HO0 HF0 HB0 HJ
          go_wp2
          go_roundw
          case rel => exact ⟨k + 1, _, _, _, by omega, by go_num, rfl, HO3, HP3, HF3, HB3⟩
          case measure => simp [intOf]; omega
    · obtain rfl : k = m := by omega
      have HJ := Lib.hid (HP.out.rdj HO.out)
      clear HP HO HF
      go_wp2
      exact bodyPost_ret (results_tmp rfl _ _ _) rfl ⟨V, cv, rfl, HJ.out, HB.out⟩

end Go.Proofs.YtifepoefeamboaaGreatDoor
namespace Nt
open Go Go.RowKit
theorem fx_dep (qs : List Rat) : ∀ j ∈ qs.map Jt.fx, j.dep ≤ 0 := by
  intro j hj
  obtain ⟨q, -, rfl⟩ := List.mem_map.1 hj
  exact Nat.le_refl _
theorem fx_L2 {qs : List Rat} (h : Fine qs) : ∀ j ∈ qs.map Jt.fx, L2 j 40 40 40 40 := by
  intro j hj
  obtain ⟨q, hq, rfl⟩ := List.mem_map.1 hj
  have := h q hq
  have hl : lim q 40 := ⟨(D_len_le _ 40).2 this.1, (D_len_le _ 40).2 this.2⟩
  exact (L2.fx hl).mono (by omega) (by omega) (by omega) (by omega)
end Nt
namespace Nt
open Go Go.RowKit
/-- so many noughts -/
abbrev noughts (n : Nat) : List Rat := List.replicate n 0
theorem noughts_snoc (n : Nat) : noughts (n + 1) = noughts n ++ [0] := List.replicate_succ'
theorem fine_noughts (n : Nat) : Fine (noughts n) := by
  intro q hq
  rw [List.eq_of_mem_replicate hq]
  decide
/-- an expression that is right, and a place that is right for it -/
theorem okE_at {ns : List Nd} {n m : Nat} (hl : ns.length = n) (h : okE ns = true) (hm : ¬ (m : Int) < dimE ns) :
    (∀ k, k < n → fitN (ns.getD k nd0) = true ∧ behind (ns.getD k nd0) k = true ∧ ((ns.getD k nd0).1 = 2 → (ns.getD k nd0).2.2.2 < m)) ∧ 1 ≤ n ∧ n ≤ 60 := by
  obtain ⟨h1, h60, hf, -⟩ := okE_out h
  refine ⟨fun k hk => ?_, by omega, by omega⟩
  have := okE_steps h k (by omega)
  unfold stepN at this
  rw [Bool.and_eq_true] at this
  exact ⟨this.1, this.2, fun h2 => dim_less (by omega) h2 hm⟩
end Nt
namespace Nt
open Go Go.RowKit
/-- what stands against a place and one way from it -/
def ptCode1 (right : Bool) (ns : List Nd) (m mv : Nat) (rs sv : List R3) : Int := if 4096 < m ∨ 4096 < mv then 2 else if right && okV rs then (if (m : Int) < dimE ns then 8 else askV m mv rs sv) else 1
theorem ptCode1_zero {right : Bool} {ns : List Nd} {m mv : Nat} {rs sv : List R3} (h : ptCode1 right ns m mv rs sv = 0) : m ≤ 4096 ∧ mv = m ∧ right = true ∧ okV rs = true ∧ okV sv = true ∧ ¬ (m : Int) < dimE ns := by
  unfold ptCode1 at h
  split at h
  · cases h
  · split at h
    · rename_i h1 h2
      rw [Bool.and_eq_true] at h2
      split at h
      · cases h
      · rename_i h3
        unfold askV at h
        rw [if_neg h1] at h
        split at h
        · rename_i h4
          rw [Bool.and_eq_true] at h4
          split at h
          · cases h
          · exact ⟨by omega, by omega, h2.1, h2.2, h4.2, h3⟩
        · cases h
    · cases h
/-- two numbers in memory of their own, and a code -/
def RetRRC (t : TypeId) (w : World) (n : Bool) (xs ys : List Int) (n' : Bool) (xs' ys' : List Int) (code : Int) (e : Ending) (w' : World) : Prop :=
  ∃ A ca B cb A' ca' B' cb' M, e = .returned (.tuple #[.agg #[.bool n, .slice A xs.length ca, .slice B ys.length cb], .agg #[.bool n', .slice A' xs'.length ca', .slice B' ys'.length cb'], .int .i64 code]) ∧ OwnR t w' w.heap.size xs ys A ca B cb ∧ OwnR t w' M xs' ys' A' ca' B' cb' ∧ (w.heap.size ≤ M ∧ M ≤ w'.heap.size ∧ ∀ g, A = some ⟨g, 0, none⟩ ∨ B = some ⟨g, 0, none⟩ → g < M) ∧ Below w.heap.size w w'
/-- the last step's number and its slope in memory of their own, or a code -/
def RetVal2 (t : TypeId) (w : World) (r s : Rat) (code : Int) (e : Ending) (w' : World) : Prop :=
  (code = 0 ∧ RetRRC t w (isNeg r) (D (nu r)) (D r.den) (isNeg s) (D (nu s)) (D s.den) 0 e w') ∨ (code ≠ 0 ∧ RetRRC t w false [] [] false [] [] code e w')
theorem WaysAt.one {w : World} {g m : Nat} {A : Nat → Option Addr} {c : Nat → Nat} {vs : Nat → List Rat} (hg : g < w.heap.size) (hc : w.cell? ⟨g, 0, none⟩ = some (.slice (A 0) m (c 0))) (hr : RdS w (fun _ => True) (A 0) m (c 0) ((vs 0).map rat3)) : WaysAt w (some ⟨g, 0, none⟩) 1 m A c vs := by
  refine ⟨fun _ => ⟨g, rfl, hg, fun i hi => ?_⟩, fun i hi => ?_⟩
  · obtain rfl : i = 0 := by omega
    exact hc
  · obtain rfl : i = 0 := by omega
    exact hr
/-- the variables along one way, or two -/
theorem varsJ_mem {xs : List Rat} {vs : Nat → List Rat} {N m : Nat} {j : Jt} (h : j ∈ varsJ xs vs N m) : ∃ i, i < m ∧ j = varJ xs vs i N := by
  unfold varsJ at h
  obtain ⟨i, hi, rfl⟩ := List.mem_map.1 h
  exact ⟨i, List.mem_range.1 hi, rfl⟩
theorem fine_lim {qs : List Rat} (h : Fine qs) (i : Nat) : lim (qs.getD i 0) 40 := by
  by_cases hi : i < qs.length
  · have := h.at_ i hi
    exact ⟨(D_len_le _ 40).2 this.1, (D_len_le _ 40).2 this.2⟩
  · have e : qs.getD i 0 = 0 := by simp [List.getD, hi]
    rw [e]; exact lim_mono lim_zero (by decide)
theorem varJ_dep (xs : List Rat) (vs : Nat → List Rat) (i : Nat) : ∀ N, (varJ xs vs i N).dep ≤ N
  | 0 => by simp [varJ, Jt.dep]
  | N + 1 => by
    have := varJ_dep xs vs i N
    simp only [varJ, Jt.dep]
    omega
theorem varsJ_dep (xs : List Rat) (vs : Nat → List Rat) (N m : Nat) : ∀ j ∈ varsJ xs vs N m, j.dep ≤ N := fun j hj => by
  obtain ⟨i, -, rfl⟩ := varsJ_mem hj
  exact varJ_dep xs vs i N
theorem varsJ_L2 {xs : List Rat} {vs : Nat → List Rat} {N : Nat} (hN : N ≤ 2) (hx : Fine xs) (hv : ∀ t, t < N → Fine (vs t)) (m : Nat) : ∀ j ∈ varsJ xs vs N m, L2 j 40 40 40 40 := fun j hj => by
  obtain ⟨i, -, rfl⟩ := varsJ_mem hj
  have z : lim (0 : Rat) 40 := lim_mono lim_zero (by decide)
  refine ⟨Nat.le_trans (varJ_dep xs vs i N) hN, ?_⟩
  match N, hN, hv with
  | 0, _, _ => exact ⟨by simpa [varJ, numJ] using fine_lim hx i, by simpa [varJ, numJ, Jt.at_] using z, by simpa [varJ, numJ] using z, by simpa [varJ, numJ] using z⟩
  | 1, _, hv => exact ⟨by simpa [varJ, numJ] using fine_lim hx i, by simpa [varJ, numJ, Jt.at_] using z, by simpa [varJ, numJ] using fine_lim (hv 0 (by omega)) i, by simpa [varJ, numJ] using z⟩
  | 2, _, hv => exact ⟨by simpa [varJ, numJ] using fine_lim hx i, by simpa [varJ, numJ, Jt.at_] using fine_lim (hv 0 (by omega)) i, by simpa [varJ, numJ] using fine_lim (hv 1 (by omega)) i, by simpa [varJ, numJ] using z⟩
theorem getD_varsJ (xs : List Rat) (vs : Nat → List Rat) (N m i : Nat) (h : i < m) : (varsJ xs vs N m).getD i j0 = varJ xs vs i N := by
  simp [varsJ, List.getD, h]
theorem getD_past (xs : List Rat) (i : Nat) (h : xs.length ≤ i) : xs.getD i 0 = 0 := by
  simp [List.getD, List.getElem?_eq_none h]
/-- the model's jets along one way, by the program's -/
theorem eval_one (qs us : List Rat) (ns : List Nd) (h : us.length = qs.length) : eval4 qs (noughts qs.length) us ns = ((evalJ (varsJ qs (fun _ => us) 1 qs.length) ns).1.map r4, (evalJ (varsJ qs (fun _ => us) 1 qs.length) ns).2) := by
  have h0 : ∀ i, (noughts qs.length).getD i 0 = 0 := fun i => by
    by_cases h : i < qs.length
    · simp [List.getD, h]
    · simp [List.getD, h]
  have := eval_r4 (X := qs) (V := noughts qs.length) (W := us) (vars := varsJ qs (fun _ => us) 1 qs.length) (fun j hj => Nat.le_trans (varsJ_dep _ _ _ _ j hj) (by decide)) (fun i => by
    unfold varQ
    rw [h0]
    by_cases hi : i < qs.length
    · rw [getD_varsJ _ _ _ _ _ hi]
      simp [varJ, r4, numJ, Jt.at_]
    · have e : (varsJ qs (fun _ => us) 1 qs.length).getD i j0 = .fx 0 := by
        simp [List.getD, varsJ, hi, j0]
      rw [e, r4_fx, getD_past qs i (by omega), getD_past us i (by omega)]
      rfl) ns ns.length (Nat.le_refl _)
  rwa [List.take_length] at this
/-- the last step's jet is not too long -/
theorem last_L2 {vars : List Jt} (hd : ∀ j ∈ vars, j.dep ≤ 2) {ns : List Nd} {js : List Jt} {n : Nat} (hn : ns.length = n) (h1 : 1 ≤ n) (hR : evalJ vars ns = (js, 0)) : js.length = n ∧ L2 (js.getD (n - 1) j0) 40 40 40 40 := by
  have := evalJ_ok hd ns ns.length (Nat.le_refl _) (by rw [List.take_length, hR])
  rw [List.take_length, hR] at this
  have hl : n - 1 < js.length := by have := this.len; dsimp only at this; omega
  have e : js.getD (n - 1) j0 = js[n - 1] := by simp [List.getD, hl]
  rw [e]
  exact ⟨by have := this.len; dsimp only at this; omega, L2.of_fits (this.dep _ (List.getElem_mem hl)) (this.fit _ (List.getElem_mem hl))⟩
theorem vcode2W (n m : Nat) (rs ss : List R3) : vcode 2 (fun i => if i = 0 then n else m) (fun i => if i = 0 then rs else ss) = askV n m rs ss := by
  unfold vcode askV
  simp only [List.range_succ, List.range_zero, List.nil_append, List.cons_append, List.any_cons, List.any_nil, Bool.or_false, if_true, Nat.succ_ne_zero, if_false]
  by_cases h : 4096 < n ∨ 4096 < m
  · rw [if_pos h, if_pos]
    simp only [Bool.or_eq_true, decide_eq_true_eq]
    exact h
  · rw [if_neg h, if_neg (by simp only [Bool.or_eq_true, decide_eq_true_eq]; exact h)]
    cases h1 : okV rs <;> cases h2 : okV ss <;> simp
    by_cases e : n = m
    · simp [e]
    · simp [e, Ne.symm e]
theorem two_cellsW (w : World) (t : TypeId) (x y : Value) : ∀ i, i < 2 → (w.alloc (.cells #[x, y] t)).cell? ⟨w.heap.size, i, none⟩ = some (if i = 0 then x else y) := by
  intro i hi
  rw [cell_of_row _ _ _ _ t (0, 0) (heap_alloc_new w _)]
  match i, hi with
  | 0, _ => rfl
  | 1, _ => rfl
end Nt
namespace Nt
open Go Go.RowKit
/-- the sum of so many -/
def sumTo (g : Nat → Rat) : Nat → Rat
  | 0 => 0
  | m + 1 => sumTo g m + g m
theorem sumTo_congr {g h : Nat → Rat} : ∀ m, (∀ i, i < m → g i = h i) → sumTo g m = sumTo h m
  | 0, _ => rfl
  | m + 1, e => by rw [sumTo, sumTo, sumTo_congr m fun i hi => e i (by omega), e m (by omega)]
theorem sumTo_zero : ∀ m, sumTo (fun _ => 0) m = 0
  | 0 => rfl
  | m + 1 => by rw [sumTo, sumTo_zero m, Rat.add_zero]
theorem sumTo_add (g h : Nat → Rat) : ∀ m, sumTo (fun i => g i + h i) m = sumTo g m + sumTo h m
  | 0 => (Rat.add_zero 0).symm
  | m + 1 => by rw [sumTo, sumTo, sumTo, sumTo_add g h m]; grind
theorem sumTo_mul (a : Rat) (g : Nat → Rat) : ∀ m, sumTo (fun i => g i * a) m = sumTo g m * a
  | 0 => by simp [sumTo]
  | m + 1 => by rw [sumTo, sumTo, sumTo_mul a g m]; grind
theorem sumTo_neg (g : Nat → Rat) : ∀ m, sumTo (fun i => -g i) m = -sumTo g m
  | 0 => by simp [sumTo]
  | m + 1 => by rw [sumTo, sumTo, sumTo_neg g m]; grind
/-- a jet and others of the same value, whose slopes make its own -/
structure Lin (m : Nat) (c : Nat → Rat) (q : Q4) (p : Nat → Q4) : Prop where
  f : ∀ i, i < m → (p i).f = q.f
  w : q.w = sumTo (fun i => c i * (p i).w) m
variable {m : Nat} {c : Nat → Rat}
theorem Lin.con (r : Rat) : Lin m c (con4 r) (fun _ => con4 r) := ⟨fun _ _ => rfl, by
  show (0 : Rat) = sumTo (fun i => c i * 0) m
  rw [sumTo_congr (h := fun _ => 0) m fun i _ => Rat.mul_zero _, sumTo_zero]⟩
theorem Lin.add {a b : Q4} {p q : Nat → Q4} (h : Lin m c a p) (h' : Lin m c b q) : Lin m c (add4 a b) (fun i => add4 (p i) (q i)) :=
  ⟨fun i hi => by show (p i).f + (q i).f = a.f + b.f; rw [h.f i hi, h'.f i hi], by
    show a.w + b.w = sumTo (fun i => c i * ((p i).w + (q i).w)) m
    rw [h.w, h'.w, ← sumTo_add]
    exact sumTo_congr m fun i _ => by grind⟩
theorem Lin.neg {a : Q4} {p : Nat → Q4} (h : Lin m c a p) : Lin m c (neg4 a) (fun i => neg4 (p i)) :=
  ⟨fun i hi => by show -(p i).f = -a.f; rw [h.f i hi], by
    show -a.w = sumTo (fun i => c i * -(p i).w) m
    rw [h.w, ← sumTo_neg]
    exact sumTo_congr m fun i _ => by grind⟩
theorem Lin.mul {a b : Q4} {p q : Nat → Q4} (h : Lin m c a p) (h' : Lin m c b q) : Lin m c (mul4 a b) (fun i => mul4 (p i) (q i)) :=
  ⟨fun i hi => by show (p i).f * (q i).f = a.f * b.f; rw [h.f i hi, h'.f i hi], by
    show a.w * b.f + a.f * b.w = sumTo (fun i => c i * ((p i).w * (q i).f + (p i).f * (q i).w)) m
    rw [sumTo_congr (h := fun i => c i * (p i).w * b.f + c i * (q i).w * a.f) m fun i hi => by rw [h.f i hi, h'.f i hi]; grind]
    rw [sumTo_add, sumTo_mul, sumTo_mul, ← h.w, ← h'.w]
    grind⟩
theorem Lin.over {a : Q4} {p : Nat → Q4} (h : Lin m c a p) : Lin m c (over4 a) (fun i => over4 (p i)) :=
  ⟨fun i hi => by show 1 / (p i).f = 1 / a.f; rw [h.f i hi], by
    show -(a.w * (1 / a.f * (1 / a.f))) = sumTo (fun i => c i * -((p i).w * (1 / (p i).f * (1 / (p i).f)))) m
    rw [sumTo_congr (h := fun i => -(c i * (p i).w * (1 / a.f * (1 / a.f)))) m fun i hi => by rw [h.f i hi]; grind]
    rw [sumTo_neg, sumTo_mul, ← h.w]⟩
theorem Lin.pow {a : Q4} {p : Nat → Q4} (h : Lin m c a p) : ∀ t, Lin m c (toPow4 a t) (fun i => toPow4 (p i) t)
  | 0 => Lin.con 1
  | t + 1 => (Lin.pow h t).mul h
/-- lists of jets, place by place -/
def Lins (m : Nat) (c : Nat → Rat) (js : List Q4) (ps : Nat → List Q4) : Prop := ∀ j, Lin m c (js.getD j q40) (fun i => (ps i).getD j q40)
theorem Lins.step {X V W : List Rat} {Ws : Nat → List Rat} (hW : ∀ t, W.getD t 0 = sumTo (fun i => c i * (Ws i).getD t 0) m) {js : List Q4} {ps : Nat → List Q4} (h : Lins m c js ps) (x : Nd) {q : Q4} {p : Nat → Q4} (hq : step4 X V W js x = some q) (hp : ∀ i, i < m → step4 X V (Ws i) (ps i) x = some (p i)) : Lin m c q p := by
  have key : ∀ {q' : Q4} {p' : Nat → Q4}, Lin m c q' p' → q' = q → (∀ i, i < m → p' i = p i) → Lin m c q p := fun h e e' => ⟨fun i hi => by rw [← e' i hi, ← e]; exact h.f i hi, by rw [← e, h.w]; exact sumTo_congr m fun i hi => by rw [e' i hi]⟩
  unfold step4 at hq hp
  by_cases h1 : x.1 = 1
  · simp only [h1, ↓reduceIte, Option.some.injEq] at hq hp
    exact key (Lin.con _) hq hp
  by_cases h2 : x.1 = 2
  · simp only [h2, ↓reduceIte] at hq hp
    exact key (p' := fun i => varQ X V (Ws i) x.2.2.2.toNat) (q' := varQ X V W x.2.2.2.toNat) ⟨fun _ _ => rfl, hW _⟩ (by simpa using hq) (fun i hi => by simpa using hp i hi)
  by_cases h3 : x.1 = 3
  · simp only [h3, Int.reduceEq, ↓reduceIte, Option.some.injEq] at hq hp
    exact key ((h _).add (h _)) hq hp
  by_cases h4 : x.1 = 4
  · simp only [h4, Int.reduceEq, ↓reduceIte, Option.some.injEq] at hq hp
    exact key ((h _).add (h _).neg) hq hp
  by_cases h5 : x.1 = 5
  · simp only [h5, Int.reduceEq, ↓reduceIte, Option.some.injEq] at hq hp
    exact key ((h _).mul (h _)) hq hp
  by_cases h6 : x.1 = 6
  · simp only [h6, Int.reduceEq, ↓reduceIte] at hq hp
    by_cases hz : nu (js.getD x.2.2.1.toNat q40).f = 0
    · rw [if_pos hz] at hq; cases hq
    · rw [if_neg hz] at hq
      refine key ((h x.2.1.toNat).mul (h x.2.2.1.toNat).over) (by simpa using hq) fun i hi => ?_
      have := hp i hi
      rw [if_neg (by rw [(h x.2.2.1.toNat).f i hi]; exact hz)] at this
      simpa using this
  by_cases h7 : x.1 = 7
  · simp only [h7, Int.reduceEq, ↓reduceIte, Option.some.injEq] at hq hp
    exact key (h _).neg hq hp
  · simp only [h1, h2, h3, h4, h5, h6, h7, ↓reduceIte, Option.some.injEq] at hq hp
    exact key ((h _).pow _) hq hp
/-- a step that is taken -/
theorem eval4_some {X V W : List Rat} {ns : List Nd} {k : Nat} (hk : k < ns.length) (h : (eval4 X V W (ns.take (k + 1))).2 = 0) : (eval4 X V W (ns.take k)).2 = 0 ∧ ∃ q, step4 X V W (eval4 X V W (ns.take k)).1 (ns.getD k nd0) = some q ∧ eval4 X V W (ns.take (k + 1)) = ((eval4 X V W (ns.take k)).1 ++ [q], 0) := by
  rw [eval4_take X V W ns k hk] at h ⊢
  by_cases hs : (eval4 X V W (ns.take k)).2 = 0
  · refine ⟨hs, ?_⟩
    unfold estep4 at h ⊢
    rw [if_pos hs] at h ⊢
    cases hq : step4 X V W (eval4 X V W (ns.take k)).1 (ns.getD k nd0) with
    | none => rw [hq] at h; simp at h
    | some q =>
      rw [hq] at h
      dsimp only at h ⊢
      by_cases hf : fit4 q
      · rw [if_pos hf]; exact ⟨q, rfl, rfl⟩
      · rw [if_neg hf] at h; simp at h
  · rw [estep4_stop X V W hs] at h
    exact absurd h hs
theorem Lins.eval {X V W : List Rat} {Ws : Nat → List Rat} (hW : ∀ t, W.getD t 0 = sumTo (fun i => c i * (Ws i).getD t 0) m) (ns : List Nd) : ∀ k, k ≤ ns.length → (eval4 X V W (ns.take k)).2 = 0 → (∀ i, i < m → (eval4 X V (Ws i) (ns.take k)).2 = 0) → Lins m c (eval4 X V W (ns.take k)).1 (fun i => (eval4 X V (Ws i) (ns.take k)).1)
  | 0, _, _, _ => by
    intro j
    rw [List.take_zero]
    exact Lin.con 0
  | k + 1, hk, h, hs => by
    obtain ⟨h0, q, hq, he⟩ := eval4_some (by omega) h
    have hs0 : ∀ i, i < m → (eval4 X V (Ws i) (ns.take k)).2 = 0 := fun i hi => (eval4_some (by omega) (hs i hi)).1
    have ih := Lins.eval hW ns k (by omega) h0 hs0
    have hp : ∀ i, ∃ p, i < m → step4 X V (Ws i) (eval4 X V (Ws i) (ns.take k)).1 (ns.getD k nd0) = some p ∧ eval4 X V (Ws i) (ns.take (k + 1)) = ((eval4 X V (Ws i) (ns.take k)).1 ++ [p], 0) := fun i => by
      by_cases hi : i < m
      · obtain ⟨-, p, hp, he⟩ := eval4_some (by omega) (hs i hi)
        exact ⟨p, fun _ => ⟨hp, he⟩⟩
      · exact ⟨q40, fun h => absurd h hi⟩
    obtain ⟨p, hp⟩ : ∃ p : Nat → Q4, ∀ i, i < m → step4 X V (Ws i) (eval4 X V (Ws i) (ns.take k)).1 (ns.getD k nd0) = some (p i) ∧ eval4 X V (Ws i) (ns.take (k + 1)) = ((eval4 X V (Ws i) (ns.take k)).1 ++ [p i], 0) := ⟨fun i => Classical.choose (hp i), fun i => Classical.choose_spec (hp i)⟩
    have hl := (eval4_ok X V W ns k (by omega) h0).1
    have hls := fun i hi => (eval4_ok X V (Ws i) ns k (by omega) (hs0 i hi)).1
    have hlin := Lins.step hW ih (ns.getD k nd0) hq fun i hi => (hp i hi).1
    intro j
    rw [he]
    have key : ∀ {q' : Q4} {p' : Nat → Q4} {p'' : Nat → Q4}, Lin m c q' p' → (∀ i, i < m → p' i = p'' i) → Lin m c q' p'' := fun h e => ⟨fun i hi => by rw [← e i hi]; exact h.f i hi, by rw [h.w]; exact sumTo_congr m fun i hi => by rw [e i hi]⟩
    by_cases hj : j < k
    · have e1 : ((eval4 X V W (ns.take k)).1 ++ [q]).getD j q40 = (eval4 X V W (ns.take k)).1.getD j q40 := by simp [List.getD, List.getElem?_append_left (show j < (eval4 X V W (ns.take k)).1.length by rw [hl]; exact hj)]
      dsimp only
      rw [e1]
      refine key (ih j) fun i hi => ?_
      rw [(hp i hi).2]
      simp [List.getD, List.getElem?_append_left (show j < (eval4 X V (Ws i) (ns.take k)).1.length by rw [hls i hi]; exact hj)]
    · by_cases hj2 : j = k
      · subst hj2
        have e1 : ((eval4 X V W (ns.take j)).1 ++ [q]).getD j q40 = q := by simp [List.getD, hl]
        dsimp only
        rw [e1]
        refine key hlin fun i hi => ?_
        rw [(hp i hi).2]
        simp [List.getD, hls i hi]
      · have e1 : ((eval4 X V W (ns.take k)).1 ++ [q]).getD j q40 = q40 := by
          rw [List.getD, List.getElem?_eq_none (by simp; omega)]; rfl
        dsimp only
        rw [e1]
        refine key (Lin.con 0) fun i hi => ?_
        rw [(hp i hi).2, List.getD, List.getElem?_eq_none (by simp; rw [hls i hi]; omega)]
        rfl
theorem pow_f {a b : Q4} (h : a.f = b.f) : ∀ t, (toPow4 a t).f = (toPow4 b t).f
  | 0 => rfl
  | t + 1 => by show (toPow4 a t).f * a.f = (toPow4 b t).f * b.f; rw [pow_f h t, h]
/-- jets of the same values: the next one's value is the same, too -/
theorem step_f {X V V' W W' : List Rat} {js ps : List Q4} (h : ∀ j, (ps.getD j q40).f = (js.getD j q40).f) (x : Nd) {q : Q4} (hq : step4 X V W js x = some q) : ∃ p, step4 X V' W' ps x = some p ∧ p.f = q.f := by
  unfold step4 at hq ⊢
  by_cases h1 : x.1 = 1
  · simp only [h1, ↓reduceIte, Option.some.injEq] at hq ⊢
    exact ⟨_, rfl, by rw [← hq]⟩
  by_cases h2 : x.1 = 2
  · simp only [h2, Int.reduceEq, ↓reduceIte, Option.some.injEq] at hq ⊢
    exact ⟨_, rfl, by rw [← hq]; rfl⟩
  by_cases h3 : x.1 = 3
  · simp only [h3, Int.reduceEq, ↓reduceIte, Option.some.injEq] at hq ⊢
    exact ⟨_, rfl, by rw [← hq]; show _ + _ = _ + _; rw [h, h]⟩
  by_cases h4 : x.1 = 4
  · simp only [h4, Int.reduceEq, ↓reduceIte, Option.some.injEq] at hq ⊢
    exact ⟨_, rfl, by rw [← hq]; show _ + -_ = _ + -_; rw [h, h]⟩
  by_cases h5 : x.1 = 5
  · simp only [h5, Int.reduceEq, ↓reduceIte, Option.some.injEq] at hq ⊢
    exact ⟨_, rfl, by rw [← hq]; show _ * _ = _ * _; rw [h, h]⟩
  by_cases h6 : x.1 = 6
  · simp only [h6, Int.reduceEq, ↓reduceIte] at hq ⊢
    by_cases hz : nu (js.getD x.2.2.1.toNat q40).f = 0
    · rw [if_pos hz] at hq; cases hq
    · rw [if_neg hz] at hq
      rw [if_neg (by rw [h]; exact hz)]
      simp only [Option.some.injEq] at hq ⊢
      exact ⟨_, rfl, by rw [← hq]; show _ * (1 / _) = _ * (1 / _); rw [h, h]⟩
  by_cases h7 : x.1 = 7
  · simp only [h7, Int.reduceEq, ↓reduceIte, Option.some.injEq] at hq ⊢
    exact ⟨_, rfl, by rw [← hq]; show -_ = -_; rw [h]⟩
  · simp only [h1, h2, h3, h4, h5, h6, h7, ↓reduceIte, Option.some.injEq] at hq ⊢
    exact ⟨_, rfl, by rw [← hq]; exact pow_f (h _) _⟩
/-- where a value is, no slope says that there is none; and the values are the same -/
theorem same_f {X V V' W W' : List Rat} (ns : List Nd) (h : (eval4 X V W ns).2 = 0) : ∀ k, k ≤ ns.length → (eval4 X V' W' (ns.take k)).2 ≠ 10 ∧ ((eval4 X V' W' (ns.take k)).2 = 0 → ∀ j, ((eval4 X V' W' (ns.take k)).1.getD j q40).f = ((eval4 X V W (ns.take k)).1.getD j q40).f) := by
  have h0 : ∀ k, k ≤ ns.length → (eval4 X V W (ns.take k)).2 = 0 := fun k hk => by
    by_cases h1 : (eval4 X V W (ns.take k)).2 = 0
    · exact h1
    · rw [eval4_stop X V W ns k h1] at h; exact absurd h h1
  intro k
  induction k with
  | zero => intro _; rw [List.take_zero]; exact ⟨show (0 : Int) ≠ 10 by decide, fun _ j => rfl⟩
  | succ k ih =>
    intro hk
    obtain ⟨ih1, ih2⟩ := ih (by omega)
    obtain ⟨g0, q, hq, he⟩ := eval4_some (by omega) (h0 (k + 1) hk)
    by_cases hs : (eval4 X V' W' (ns.take k)).2 = 0
    · have hf := ih2 hs
      obtain ⟨p, hp, hpf⟩ := step_f hf (ns.getD k nd0) hq
      have hl := (eval4_ok X V W ns k (by omega) g0).1
      have hl' := (eval4_ok X V' W' ns k (by omega) hs).1
      rw [eval4_take X V' W' ns k (by omega), he]
      unfold estep4
      rw [if_pos hs, hp]
      dsimp only
      by_cases hfit : fit4 p
      · rw [if_pos hfit]
        refine ⟨show (0 : Int) ≠ 10 by decide, fun _ j => ?_⟩
        dsimp only
        by_cases hj : j < k
        · have e1 : ((eval4 X V' W' (ns.take k)).1 ++ [p]).getD j q40 = (eval4 X V' W' (ns.take k)).1.getD j q40 := by simp [List.getD, List.getElem?_append_left (show j < (eval4 X V' W' (ns.take k)).1.length by rw [hl']; exact hj)]
          have e2 : ((eval4 X V W (ns.take k)).1 ++ [q]).getD j q40 = (eval4 X V W (ns.take k)).1.getD j q40 := by simp [List.getD, List.getElem?_append_left (show j < (eval4 X V W (ns.take k)).1.length by rw [hl]; exact hj)]
          rw [e1, e2]; exact hf j
        · by_cases hj2 : j = k
          · subst hj2
            have e1 : ((eval4 X V' W' (ns.take j)).1 ++ [p]).getD j q40 = p := by simp [List.getD, hl']
            have e2 : ((eval4 X V W (ns.take j)).1 ++ [q]).getD j q40 = q := by simp [List.getD, hl]
            rw [e1, e2]; exact hpf
          · have e1 : ((eval4 X V' W' (ns.take k)).1 ++ [p]).getD j q40 = q40 := by
              rw [List.getD, List.getElem?_eq_none (by simp; omega)]; rfl
            have e2 : ((eval4 X V W (ns.take k)).1 ++ [q]).getD j q40 = q40 := by
              rw [List.getD, List.getElem?_eq_none (by simp; omega)]; rfl
            rw [e1, e2]
      · rw [if_neg hfit]
        exact ⟨show (7 : Int) ≠ 10 by decide, fun h => absurd h (show (7 : Int) ≠ 0 by decide)⟩
    · rw [eval4_take X V' W' ns k (by omega), estep4_stop X V' W' hs]
      exact ⟨ih1, fun h => absurd h hs⟩
theorem no_domain {X V V' W W' : List Rat} (ns : List Nd) (h : (eval4 X V W ns).2 = 0) : (eval4 X V' W' ns).2 ≠ 10 := by
  have := (same_f (V' := V') (W' := W') ns h ns.length (Nat.le_refl _)).1
  rwa [List.take_length] at this
theorem all_f {X V V' W W' : List Rat} (ns : List Nd) (h : (eval4 X V W ns).2 = 0) (h' : (eval4 X V' W' ns).2 = 0) (j : Nat) : ((eval4 X V' W' ns).1.getD j q40).f = ((eval4 X V W ns).1.getD j q40).f := by
  have := (same_f (V' := V') (W' := W') ns h ns.length (Nat.le_refl _)).2
  rw [List.take_length] at this
  exact this h' j
end Nt
namespace Nt
open Go Go.RowKit
def Q4At (w : World) (b : Nat) (t : TypeId) (x0 x1 x2 x3 x4 x5 x6 x7 x8 x9 x10 x11 : Value) : Prop := w.heap[b]? = some (.cells #[x0, x1, x2, x3, x4, x5, x6, x7, x8, x9, x10, x11] t (0, 0))
section
variable {w w' : World} {b : Nat} {t : TypeId} {x0 x1 x2 x3 x4 x5 x6 x7 x8 x9 x10 x11 y0 y1 y2 y3 y4 y5 y6 y7 y8 y9 y10 y11 : Value}
theorem Q4At.c0 (h : Q4At w b t x0 x1 x2 x3 x4 x5 x6 x7 x8 x9 x10 x11) : w.cell? ⟨b, 0, none⟩ = some x0 := by rw [cell_of_row w b 0 _ t (0, 0) h]; rfl
theorem Q4At.c1 (h : Q4At w b t x0 x1 x2 x3 x4 x5 x6 x7 x8 x9 x10 x11) : w.cell? ⟨b, 1, none⟩ = some x1 := by rw [cell_of_row w b 1 _ t (0, 0) h]; rfl
theorem Q4At.c2 (h : Q4At w b t x0 x1 x2 x3 x4 x5 x6 x7 x8 x9 x10 x11) : w.cell? ⟨b, 2, none⟩ = some x2 := by rw [cell_of_row w b 2 _ t (0, 0) h]; rfl
theorem Q4At.c3 (h : Q4At w b t x0 x1 x2 x3 x4 x5 x6 x7 x8 x9 x10 x11) : w.cell? ⟨b, 3, none⟩ = some x3 := by rw [cell_of_row w b 3 _ t (0, 0) h]; rfl
theorem Q4At.c4 (h : Q4At w b t x0 x1 x2 x3 x4 x5 x6 x7 x8 x9 x10 x11) : w.cell? ⟨b, 4, none⟩ = some x4 := by rw [cell_of_row w b 4 _ t (0, 0) h]; rfl
theorem Q4At.c5 (h : Q4At w b t x0 x1 x2 x3 x4 x5 x6 x7 x8 x9 x10 x11) : w.cell? ⟨b, 5, none⟩ = some x5 := by rw [cell_of_row w b 5 _ t (0, 0) h]; rfl
theorem Q4At.c6 (h : Q4At w b t x0 x1 x2 x3 x4 x5 x6 x7 x8 x9 x10 x11) : w.cell? ⟨b, 6, none⟩ = some x6 := by rw [cell_of_row w b 6 _ t (0, 0) h]; rfl
theorem Q4At.c7 (h : Q4At w b t x0 x1 x2 x3 x4 x5 x6 x7 x8 x9 x10 x11) : w.cell? ⟨b, 7, none⟩ = some x7 := by rw [cell_of_row w b 7 _ t (0, 0) h]; rfl
theorem Q4At.c8 (h : Q4At w b t x0 x1 x2 x3 x4 x5 x6 x7 x8 x9 x10 x11) : w.cell? ⟨b, 8, none⟩ = some x8 := by rw [cell_of_row w b 8 _ t (0, 0) h]; rfl
theorem Q4At.c9 (h : Q4At w b t x0 x1 x2 x3 x4 x5 x6 x7 x8 x9 x10 x11) : w.cell? ⟨b, 9, none⟩ = some x9 := by rw [cell_of_row w b 9 _ t (0, 0) h]; rfl
theorem Q4At.c10 (h : Q4At w b t x0 x1 x2 x3 x4 x5 x6 x7 x8 x9 x10 x11) : w.cell? ⟨b, 10, none⟩ = some x10 := by rw [cell_of_row w b 10 _ t (0, 0) h]; rfl
theorem Q4At.c11 (h : Q4At w b t x0 x1 x2 x3 x4 x5 x6 x7 x8 x9 x10 x11) : w.cell? ⟨b, 11, none⟩ = some x11 := by rw [cell_of_row w b 11 _ t (0, 0) h]; rfl
theorem Q4At.fz (h : Q4At w b t x0 x1 x2 x3 x4 x5 x6 x7 x8 x9 x10 x11) (i : Nat) : w.frozen? ⟨b, i, none⟩ = false := frozen_of_row w b i _ t h
theorem Q4At.lt (h : Q4At w b t x0 x1 x2 x3 x4 x5 x6 x7 x8 x9 x10 x11) : b < w.heap.size := by
  rcases Nat.lt_or_ge b w.heap.size with hlt | hge
  · exact hlt
  · unfold Q4At at h; rw [Array.getElem?_eq_none hge] at h; cases h
theorem Q4At.on (h : Q4At w b t x0 x1 x2 x3 x4 x5 x6 x7 x8 x9 x10 x11) (hb : Below w.heap.size w w') : Q4At w' b t x0 x1 x2 x3 x4 x5 x6 x7 x8 x9 x10 x11 := (hb.block b h.lt).trans h
theorem Q4At.new (w : World) (t : TypeId) (x0 x1 x2 x3 x4 x5 x6 x7 x8 x9 x10 x11 : Value) : Q4At (w.alloc (.cells #[x0, x1, x2, x3, x4, x5, x6, x7, x8, x9, x10, x11] t)) w.heap.size t x0 x1 x2 x3 x4 x5 x6 x7 x8 x9 x10 x11 := heap_alloc_new w _
theorem Q4At.past {g : Nat} (h : Q4At w b t x0 x1 x2 x3 x4 x5 x6 x7 x8 x9 x10 x11) (hg : w.grownBy w' (some g)) (hne : b ≠ g) : Q4At w' b t x0 x1 x2 x3 x4 x5 x6 x7 x8 x9 x10 x11 := (hg.block b h.lt (fun e => hne (by injection e))).trans h
theorem Q4At.set0 (h : Q4At w b t x0 x1 x2 x3 x4 x5 x6 x7 x8 x9 x10 x11) (u : Value) : Q4At (w.setCell ⟨b, 0, none⟩ u) b t u x1 x2 x3 x4 x5 x6 x7 x8 x9 x10 x11 := by
  unfold Q4At at h ⊢
  rw [heap_setCell_same w b 0 _ t _ h]; rfl
theorem Q4At.set1 (h : Q4At w b t x0 x1 x2 x3 x4 x5 x6 x7 x8 x9 x10 x11) (u : Value) : Q4At (w.setCell ⟨b, 1, none⟩ u) b t x0 u x2 x3 x4 x5 x6 x7 x8 x9 x10 x11 := by
  unfold Q4At at h ⊢
  rw [heap_setCell_same w b 1 _ t _ h]; rfl
theorem Q4At.set2 (h : Q4At w b t x0 x1 x2 x3 x4 x5 x6 x7 x8 x9 x10 x11) (u : Value) : Q4At (w.setCell ⟨b, 2, none⟩ u) b t x0 x1 u x3 x4 x5 x6 x7 x8 x9 x10 x11 := by
  unfold Q4At at h ⊢
  rw [heap_setCell_same w b 2 _ t _ h]; rfl
theorem Q4At.set3 (h : Q4At w b t x0 x1 x2 x3 x4 x5 x6 x7 x8 x9 x10 x11) (u : Value) : Q4At (w.setCell ⟨b, 3, none⟩ u) b t x0 x1 x2 u x4 x5 x6 x7 x8 x9 x10 x11 := by
  unfold Q4At at h ⊢
  rw [heap_setCell_same w b 3 _ t _ h]; rfl
theorem Q4At.set4 (h : Q4At w b t x0 x1 x2 x3 x4 x5 x6 x7 x8 x9 x10 x11) (u : Value) : Q4At (w.setCell ⟨b, 4, none⟩ u) b t x0 x1 x2 x3 u x5 x6 x7 x8 x9 x10 x11 := by
  unfold Q4At at h ⊢
  rw [heap_setCell_same w b 4 _ t _ h]; rfl
theorem Q4At.set5 (h : Q4At w b t x0 x1 x2 x3 x4 x5 x6 x7 x8 x9 x10 x11) (u : Value) : Q4At (w.setCell ⟨b, 5, none⟩ u) b t x0 x1 x2 x3 x4 u x6 x7 x8 x9 x10 x11 := by
  unfold Q4At at h ⊢
  rw [heap_setCell_same w b 5 _ t _ h]; rfl
theorem Q4At.set6 (h : Q4At w b t x0 x1 x2 x3 x4 x5 x6 x7 x8 x9 x10 x11) (u : Value) : Q4At (w.setCell ⟨b, 6, none⟩ u) b t x0 x1 x2 x3 x4 x5 u x7 x8 x9 x10 x11 := by
  unfold Q4At at h ⊢
  rw [heap_setCell_same w b 6 _ t _ h]; rfl
theorem Q4At.set7 (h : Q4At w b t x0 x1 x2 x3 x4 x5 x6 x7 x8 x9 x10 x11) (u : Value) : Q4At (w.setCell ⟨b, 7, none⟩ u) b t x0 x1 x2 x3 x4 x5 x6 u x8 x9 x10 x11 := by
  unfold Q4At at h ⊢
  rw [heap_setCell_same w b 7 _ t _ h]; rfl
theorem Q4At.set8 (h : Q4At w b t x0 x1 x2 x3 x4 x5 x6 x7 x8 x9 x10 x11) (u : Value) : Q4At (w.setCell ⟨b, 8, none⟩ u) b t x0 x1 x2 x3 x4 x5 x6 x7 u x9 x10 x11 := by
  unfold Q4At at h ⊢
  rw [heap_setCell_same w b 8 _ t _ h]; rfl
theorem Q4At.set9 (h : Q4At w b t x0 x1 x2 x3 x4 x5 x6 x7 x8 x9 x10 x11) (u : Value) : Q4At (w.setCell ⟨b, 9, none⟩ u) b t x0 x1 x2 x3 x4 x5 x6 x7 x8 u x10 x11 := by
  unfold Q4At at h ⊢
  rw [heap_setCell_same w b 9 _ t _ h]; rfl
theorem Q4At.set10 (h : Q4At w b t x0 x1 x2 x3 x4 x5 x6 x7 x8 x9 x10 x11) (u : Value) : Q4At (w.setCell ⟨b, 10, none⟩ u) b t x0 x1 x2 x3 x4 x5 x6 x7 x8 x9 u x11 := by
  unfold Q4At at h ⊢
  rw [heap_setCell_same w b 10 _ t _ h]; rfl
theorem Q4At.set11 (h : Q4At w b t x0 x1 x2 x3 x4 x5 x6 x7 x8 x9 x10 x11) (u : Value) : Q4At (w.setCell ⟨b, 11, none⟩ u) b t x0 x1 x2 x3 x4 x5 x6 x7 x8 x9 x10 u := by
  unfold Q4At at h ⊢
  rw [heap_setCell_same w b 11 _ t _ h]; rfl
theorem Q4At.setAll (h : Q4At w b t x0 x1 x2 x3 x4 x5 x6 x7 x8 x9 x10 x11) (y0 y1 y2 y3 y4 y5 y6 y7 y8 y9 y10 y11 : Value) : Q4At ((((((((((((w.setCell ⟨b, 0, none⟩ y0).setCell ⟨b, 1, none⟩ y1).setCell ⟨b, 2, none⟩ y2).setCell ⟨b, 3, none⟩ y3).setCell ⟨b, 4, none⟩ y4).setCell ⟨b, 5, none⟩ y5).setCell ⟨b, 6, none⟩ y6).setCell ⟨b, 7, none⟩ y7).setCell ⟨b, 8, none⟩ y8).setCell ⟨b, 9, none⟩ y9).setCell ⟨b, 10, none⟩ y10).setCell ⟨b, 11, none⟩ y11) b t y0 y1 y2 y3 y4 y5 y6 y7 y8 y9 y10 y11 := ((((((((((((h.set0 _).set1 _).set2 _).set3 _).set4 _).set5 _).set6 _).set7 _).set8 _).set9 _).set10 _).set11 _)
end
theorem Q4At.row {w : World} {b : Nat} {t : TypeId} {x0 x1 x2 x3 x4 x5 x6 x7 x8 x9 x10 x11 : Value} (h : Q4At w b t x0 x1 x2 x3 x4 x5 x6 x7 x8 x9 x10 x11) (y0 y1 y2 y3 y4 y5 y6 y7 y8 y9 y10 y11 : Value) : Q4At (w.setRow b #[y0, y1, y2, y3, y4, y5, y6, y7, y8, y9, y10, y11]) b t y0 y1 y2 y3 y4 y5 y6 y7 y8 y9 y10 y11 := setRow_heap w b _ _ t _ h
theorem set12_grown (w : World) (b : Nat) (y0 y1 y2 y3 y4 y5 y6 y7 y8 y9 y10 y11 : Value) : w.grownBy ((((((((((((w.setCell ⟨b, 0, none⟩ y0).setCell ⟨b, 1, none⟩ y1).setCell ⟨b, 2, none⟩ y2).setCell ⟨b, 3, none⟩ y3).setCell ⟨b, 4, none⟩ y4).setCell ⟨b, 5, none⟩ y5).setCell ⟨b, 6, none⟩ y6).setCell ⟨b, 7, none⟩ y7).setCell ⟨b, 8, none⟩ y8).setCell ⟨b, 9, none⟩ y9).setCell ⟨b, 10, none⟩ y10).setCell ⟨b, 11, none⟩ y11) (some b) := grown_set (grown_set (grown_set (grown_set (grown_set (grown_set (grown_set (grown_set (grown_set (grown_set (grown_set (grown_set (World.grownBy.refl _ _) _) _) _) _) _) _) _) _) _) _) _) _
/-- numbers that are read beside a block without integers -/
theorem Rd.pastF {w w' : World} {P : Nat → Prop} {A : Option Addr} {n c : Nat} {xs : List Int} {r : Nat} {cur : Array Value} {t : TypeId} {f : Nat × Nat} (h : Rd w P A n c xs) (hr : w.heap[r]? = some (.cells cur t f)) (hn : ∀ u ∈ cur.toList, noInt u = true) (hg : w.grownBy w' (some r)) : Rd w' P A n c xs := by
  refine ⟨h.1, h.2.1, h.2.2.1, fun h0 => ?_⟩
  obtain ⟨b, o, e, hp, hlt, hc⟩ := h.2.2.2 h0
  have hne : b ≠ r := by
    rintro rfl
    obtain ⟨cur', t', f', h1, h2⟩ := cell_mem (hc 0 h0)
    rw [hr] at h1
    injection h1 with h1
    injection h1 with h1
    subst h1
    have := hn _ h2
    cases this
  have hk := hg.block b hlt (fun e => hne (by injection e))
  exact ⟨b, o, e, hp, Nat.lt_of_lt_of_le hlt hg.size, fun i hi => (World.cell?_of_block (a := ⟨b, o + i, none⟩) hk).trans (hc i hi)⟩
theorem RdR.pastF {w w' : World} {P : Nat → Prop} {A B : Option Addr} {ca cb : Nat} {xs ys : List Int} {r : Nat} {cur : Array Value} {t : TypeId} {f : Nat × Nat} (h : RdR w P xs ys A ca B cb) (hr : w.heap[r]? = some (.cells cur t f)) (hn : ∀ u ∈ cur.toList, noInt u = true) (hg : w.grownBy w' (some r)) : RdR w' P xs ys A ca B cb := ⟨h.1.pastF hr hn hg, h.2.pastF hr hn hg⟩
end Nt
