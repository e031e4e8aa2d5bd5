/-
  A copy of a rational, by the model: l02Own.
-/
import Derived.Test.YtgeijojkfojfbaaDoorRatOps1
import Derived.Deep.RegionLaw
namespace Nt
open Go Go.RowKit
/-- below N nothing has turned, and no block with cells has -/
def Grew (N : Nat) (w w' : World) : Prop :=
  Below N w w' ∧ ∀ k, k < w.heap.size → w'.heap[k]? = w.heap[k]? ∨ ∃ t, w.heap[k]? = some (.cells #[] t (0, 0))
theorem Grew.refl (N : Nat) (w : World) : Grew N w w := ⟨Below.refl _ _, fun _ _ => .inl rfl⟩
theorem Grew.trans {N : Nat} {u v w : World} (h : Grew N u v) (k : Grew N v w) : Grew N u w := by
  refine ⟨h.1.trans k.1, fun i hi => ?_⟩
  rcases h.2 i hi with e | e
  · rcases k.2 i (Nat.lt_of_lt_of_le hi h.1.size) with e2 | ⟨t, e2⟩
    · exact .inl (e2.trans e)
    · exact .inr ⟨t, e.symm.trans e2⟩
  · exact .inr e
theorem Grew.alloc {N : Nat} {u w : World} (h : Grew N u w) (hN : N ≤ u.heap.size) (o : Obj) : Grew N u (w.alloc o) :=
  h.trans ⟨(Below.refl N w).alloc (Nat.le_trans hN h.1.size) o, fun _ hk => .inl (Below.heap_alloc _ _ _ hk)⟩
theorem Grew.drew {N : Nat} (w : World) : Grew N w w.drew := ⟨below_drewN (Below.refl N w) 1, fun _ _ => .inl rfl⟩
theorem Rd.grew {N : Nat} {w w' : World} {P : Nat → Prop} {A : Option Addr} {n c : Nat} {xs : List Int} (h : Rd w P A n c xs) (hg : Grew N w w') : Rd w' P A n c xs := by
  refine ⟨h.1, h.2.1, h.2.2.1, fun hn => ?_⟩
  obtain ⟨b, o, e, hp, hlt, hc⟩ := h.2.2.2 hn
  have hb : w'.heap[b]? = w.heap[b]? := by
    rcases hg.2 b hlt with e | ⟨t, e⟩
    · exact e
    · have h0 := hc 0 hn
      rw [cell_of_row w b _ _ t (0, 0) e] at h0
      simp at h0
  exact ⟨b, o, e, hp, Nat.lt_of_lt_of_le hlt hg.1.size, fun i hi => (World.cell?_of_block (a := ⟨b, o + i, none⟩) hb).trans (hc i hi)⟩
theorem RatAt.grew {N : Nat} {w w' : World} {b : Nat} {t : TypeId} {neg : Bool} {A B : Option Addr} {la ca lb cb : Nat} (h : RatAt w b t neg A la ca B lb cb) (hg : Grew N w w') : RatAt w' b t neg A la ca B lb cb := by
  rcases hg.2 b h.lt with e | ⟨t', e⟩
  · exact e.trans h
  · unfold RatAt at h
    rw [h] at e
    injection e with e
    injection e with e
    injection e with e
    cases e
/-- append of numbers onto an empty literal, as one step of a region that draws -/
theorem step_append_lit {P : Program} {ops : Array Oper} {o : Oper} {a : Act} {w : World} {K : Act → World → Prop} {Q : Exit → Act → World → Prop} {E : Prop} (N : Nat)
    (hg : o.guard = none) (s x : Operand) (t : TypeId) (hop : o.op = .call { callee := .builtin .append, args := #[s, x], argTypes := #[t, t] })
    (e : TypeId) (ht : P.underlying t = some (.slice e)) (hinfo : (P.info? e).map (fun i => (i.zero, i.size, i.bytes)) = some (some (.int .i64 0), 1, 8))
    (g : Nat) (hs : a.eval s = .slice (some ⟨g, 0, none⟩) 0 0) (hgN : N ≤ g) (hempty : w.heap[g]? = some (.cells #[] e (0, 0)))
    (R : Nat → Prop) (A : Option Addr) (m c : Nat) (ys : List Int) (hx : a.eval x = .slice A m c) (hr : Rd w R A m c ys) (hm : m ≤ 16777216) (hNw : N ≤ w.heap.size)
    (h : ∀ V' c' w', Rd w' (fun _ => True) V' m c' ys → Grew N w w' → w.grownBy w' (some g) → K (a.put o.dst (.slice V' m c')) w') :
    if Region.wanted o (yielded ops a.tmps) = true then Oper.wp P o a w K Q else E := by
  have hw : Region.wanted o (yielded ops a.tmps) = true := by simp [Region.wanted, hg]
  rw [if_pos hw]
  obtain ⟨i, h1, h2, h3, h4⟩ := info_parts hinfo
  have hown : w.ownsRow N e 1 (.slice (some ⟨g, 0, none⟩) 0 0) 0 ((([] : List Int)).map (Value.int .i64)) := ⟨rfl, .inr ⟨g, 0, #[], rfl, hgN, hempty, Nat.le_refl _, Nat.zero_le _, rfl, rfl⟩⟩
  cases A with
  | none =>
    have hc0 := hr.2.2.1 rfl
    have hm0 : m = 0 := by have := hr.cap; omega
    subst hc0 hm0
    have hrun := run_append_owned_none (P := P) (w := w) N t o.type e i 1 ht h1 _ 0 _ hown
    unfold Oper.wp
    simp [execOp, hop, resolve, invoke, builtin, hs, hx, hrun, Result.andThen]
    have hy : ys = [] := List.eq_nil_of_length_eq_zero hr.len
    subst hy
    exact h _ _ _ (Rd.nil_ _ _ _ _ (fun h => by cases h)) (Grew.refl _ _) (World.grownBy.refl _ _)
  | some ad =>
    refine wp_append_own w s x t hop N e i _ 1 8 ht h1 h2 h3 h4 rfl (by decide) _ 0 _ hs hown ad m c (ys.map (Value.int .i64)) hx (by simpa using hr.len) ?_ (ints_oneCell _ _) (by unfold maxLen; omega) (by omega) hNw ?_
    · intro j u hj
      rw [List.getElem?_map] at hj
      have hlt : j < ys.length := by
        rcases Nat.lt_or_ge j ys.length with h | h
        · exact h
        · rw [List.getElem?_eq_none h] at hj; cases hj
      obtain ⟨b, o', e', _, _, hc⟩ := hr.at_ (by have := hr.len; omega)
      injection e' with e'
      subst e'
      have := hc j (by have := hr.len; omega)
      rw [List.getElem?_eq_getElem hlt] at hj
      simp only [Option.map_some, Option.some.injEq] at hj
      rw [← hj]
      have e2 : ys.getD j 0 = ys[j] := by simp [List.getD, hlt]
      rw [e2] at this
      rw [← this]
      unfold Addr.add
      by_cases hj0 : j = 0 <;> simp [hj0]
    · intro v' w' h5 h6 _
      rw [← List.map_append, List.nil_append, Nat.zero_add] at h5
      obtain ⟨A', c', rfl, hrd⟩ := own_rd h5
      have h6' : w.grownBy w' (some g) := h6
      refine h A' c' w' (hrd.mono fun _ _ _ => trivial) ⟨grown_below h6' hNw hgN, fun k hk => ?_⟩ h6'
      by_cases hkg : k = g
      · subst hkg; exact .inr ⟨e, hempty⟩
      · exact .inl (h6'.block k hk (fun e => hkg (by injection e)))
theorem Rd.past {w w' : World} {P : Nat → Prop} {A : Option Addr} {n c : Nat} {xs : List Int} {r : Nat} {t : TypeId} {neg : Bool} {A' B' : Option Addr} {la ca lb cb : Nat} (h : Rd w P A n c xs) (hr : RatAt w r t neg A' la ca B' lb cb) (hg : w.grownBy w' (some r)) : Rd w' P A n c xs := by
  refine ⟨h.1, h.2.1, h.2.2.1, fun hn => ?_⟩
  obtain ⟨b, o, e, hp, hlt, hc⟩ := h.2.2.2 hn
  have hne : b ≠ r := by
    intro e2
    subst e2
    have h0 := hc 0 hn
    rw [cell_of_row w b _ _ t (0, 0) hr] at h0
    match o, h0 with
    | 0, h0 => simp at h0
    | 1, h0 => simp at h0
    | 2, h0 => simp at h0
    | (k + 3), h0 => simp at h0
  exact ⟨b, o, e, hp, Nat.lt_of_lt_of_le hlt hg.size, fun i hi => (World.cell?_of_block (a := ⟨b, o + i, none⟩) (hg.block b hlt (fun e => hne (by injection e)))).trans (hc i hi)⟩
theorem two_empty (W : World) (t : TypeId) (k : Nat) (hk : k = W.heap.size ∨ k = W.heap.size + 1) : ((W.drew.alloc (.cells #[] t)).alloc (.cells #[] t)).heap[k]? = some (.cells #[] t (0, 0)) := by
  rcases hk with rfl | rfl
  · exact heap_alloc2_old W.drew _ _
  · exact heap_alloc2_new W.drew _ _
theorem two_kept {W w1 : World} {t : TypeId} {g : Nat} (hg : ((W.drew.alloc (.cells #[] t)).alloc (.cells #[] t)).grownBy w1 (some g)) (k : Nat) (hk : k = W.heap.size ∨ k = W.heap.size + 1) (hne : k ≠ g) : w1.heap[k]? = some (.cells #[] t (0, 0)) := by
  have hs : ((W.drew.alloc (.cells #[] t)).alloc (.cells #[] t)).heap.size = W.heap.size + 1 + 1 := by
    rw [World.size_alloc, World.size_alloc]; rfl
  exact (hg.block k (by omega) (fun e => hne (by injection e))).trans (two_empty W t k hk)
theorem grew1 (W : World) (N : Nat) (hN : N ≤ W.heap.size) (o : Obj) : Grew N W (W.drew.alloc o) := (Grew.drew W).alloc hN o
theorem grew2 (W : World) (N : Nat) (hN : N ≤ W.heap.size) (o o' : Obj) : Grew N W ((W.drew.alloc o).alloc o') := (grew1 W N hN o).alloc hN o'
end Nt
namespace Go.Proofs.YtgeijojkfojfbaaDoor
open Go Go.RowKit Nt
/-- a rational that can be read -/
def SayR (w : World) (neg : Bool) (xs ys : List Int) (e : Ending) (w' : World) : Prop :=
  ∃ A ca B cb, e = .returned (.agg #[.bool neg, .slice A xs.length ca, .slice B ys.length cb]) ∧ RdR w' (fun _ => True) xs ys A ca B cb ∧ Below w.heap.size w w'

set_option maxRecDepth 20000 in
set_option maxHeartbeats 1600000 in
theorem l02Own_any (neg : Bool) (A B : Option Addr) (ca cb : Nat) (xs ys : List Int) (P : Nat → Prop) (w : World) (h0 : RdR w P xs ys A ca B cb) (hx : xs.length ≤ 16777216) (hy : ys.length ≤ 16777216) :
    Calls Tryd.prog 56 #[.agg #[.bool neg, .slice A xs.length ca, .slice B ys.length cb]] w (SayR w neg xs ys) := by
  have H := Lib.hid (h0.mono (Q := (· < w.heap.size)) fun _ _ h => h)
  clear h0
  go_enter Tryd.func56, Tryd.ntmps56
  go_upto_region 1 with fail
  have HB0 : Hid (Below w.heap.size w ((w.alloc (.cells #[.bool neg, .slice A xs.length ca, .slice B ys.length cb] 25)).alloc (.cells #[.bool false, .slice none 0 0, .slice none 0 0] 25))) := below2 _ _ _
  have HR0 : Hid (RatAt ((w.alloc (.cells #[.bool neg, .slice A xs.length ca, .slice B ys.length cb] 25)).alloc (.cells #[.bool false, .slice none 0 0, .slice none 0 0] 25)) w.heap.size 25 neg A xs.length ca B ys.length cb) := (RatAt.new _ _ _ _ _ _ _ _ _).alloc _
  have HR1 : Hid (RatAt ((w.alloc (.cells #[.bool neg, .slice A xs.length ca, .slice B ys.length cb] 25)).alloc (.cells #[.bool false, .slice none 0 0, .slice none 0 0] 25)) (w.heap.size + 1) 25 false none 0 0 none 0 0) := RatAt.new1 _ _ _ _ _ _ _ _ _ _
  generalize (w.alloc (.cells #[.bool neg, .slice A xs.length ca, .slice B ys.length cb] 25)).alloc (.cells #[.bool false, .slice none 0 0, .slice none 0 0] 25) = W at *
  have hs := HR1.out.lt
  have HRX := Lib.hid (H.out.below HB0.out)
  go_region_held3 (fun wx => wx.cell? ⟨w.heap.size, 0, none⟩ = some (.bool neg) ∧ wx.cell? ⟨w.heap.size, 1, none⟩ = some (.slice A xs.length ca) ∧ wx.cell? ⟨w.heap.size, 2, none⟩ = some (.slice B ys.length cb))
    (first | exact ⟨(HR0.out).c0, (HR0.out).c1, (HR0.out).c2⟩ | exact ⟨(HR0.out.alloc (.cells #[] 3)).c0, (HR0.out.alloc (.cells #[] 3)).c1, (HR0.out.alloc (.cells #[] 3)).c2⟩ | exact ⟨((HR0.out.alloc (.cells #[] 3)).alloc (.cells #[] 3)).c0, ((HR0.out.alloc (.cells #[] 3)).alloc (.cells #[] 3)).c1, ((HR0.out.alloc (.cells #[] 3)).alloc (.cells #[] 3)).c2⟩ | exact ⟨(HQ0.out).c0, (HQ0.out).c1, (HQ0.out).c2⟩ | exact ⟨(HQ0.out.alloc (.cells #[] 3)).c0, (HQ0.out.alloc (.cells #[] 3)).c1, (HQ0.out.alloc (.cells #[] 3)).c2⟩ | exact ⟨(HS0.out).c0, (HS0.out).c1, (HS0.out).c2⟩ | exact ⟨(HS0.out.grown (setAll_grown _ _ _ _ _) (by omega)).c0, (HS0.out.grown (setAll_grown _ _ _ _ _) (by omega)).c1, (HS0.out.grown (setAll_grown _ _ _ _ _) (by omega)).c2⟩)
    (first
      | (refine step_append_lit W.heap.size rfl (.tmp 5) (.tmp 7) 23 rfl 3 Tryd.underlying23 infoInt _ rfl (by first | exact HG1.out.1.size | exact Nat.le_refl _ | exact Nat.le_succ _) (by first | exact heap_alloc_new w1 _ | exact two_kept HGR.out _ (.inl rfl) (by simp) | exact two_kept HGR.out _ (.inr rfl) (by simp)) (· < w.heap.size) A _ ca xs rfl (by first | exact HRX.out.1.grew HG1.out | exact HRX.out.1.grew (HG1.out.alloc (Nat.le_refl _) (.cells #[] 3))) hx (by first | exact HG1.out.1.size | exact (HG1.out.alloc (Nat.le_refl _) (.cells #[] 3)).1.size) ?_; intro V2 d2 w2 rr2 gg2 gr2; have HFX := Lib.hid rr2; have HG2 : Hid (Grew W.heap.size W w2) := (by first | exact HG1.out.trans gg2 | exact (HG1.out.alloc (Nat.le_refl _) (.cells #[] 3)).trans gg2); have HFO := (by first | exact Lib.hid (HFY.out.grew gg2) | exact Lib.hid ((HFY.out.grew ((Grew.refl W.heap.size w1).alloc HG1.out.1.size (.cells #[] 3))).grew gg2)); have HS0 := Lib.hid (HR0.out.grew HG2.out); have HT1 := Lib.hid (HR1.out.grew HG2.out); have f0 := HT1.out.fz 0; have f1 := HT1.out.fz 1; have f2 := HT1.out.fz 2; have y0 := HT1.out.c0; have y1 := HT1.out.c1; have y2 := HT1.out.c2; clear rr2 gg2 gr2)
      | (refine step_append_lit W.heap.size rfl (.tmp 9) (.tmp 11) 23 rfl 3 Tryd.underlying23 infoInt _ rfl (by first | exact HG1.out.1.size | exact Nat.le_refl _ | exact Nat.le_succ _) (by first | exact heap_alloc_new w1 _ | exact two_kept HGR.out _ (.inl rfl) (by simp) | exact two_kept HGR.out _ (.inr rfl) (by simp)) (· < w.heap.size) B _ cb ys rfl (by first | exact HRX.out.2.grew HG1.out | exact HRX.out.2.grew (HG1.out.alloc (Nat.le_refl _) (.cells #[] 3))) hy (by first | exact HG1.out.1.size | exact (HG1.out.alloc (Nat.le_refl _) (.cells #[] 3)).1.size) ?_; intro V2 d2 w2 rr2 gg2 gr2; have HFY := Lib.hid rr2; have HG2 : Hid (Grew W.heap.size W w2) := (by first | exact HG1.out.trans gg2 | exact (HG1.out.alloc (Nat.le_refl _) (.cells #[] 3)).trans gg2); have HFO := (by first | exact Lib.hid (HFX.out.grew gg2) | exact Lib.hid ((HFX.out.grew ((Grew.refl W.heap.size w1).alloc HG1.out.1.size (.cells #[] 3))).grew gg2)); have HS0 := Lib.hid (HR0.out.grew HG2.out); have HT1 := Lib.hid (HR1.out.grew HG2.out); have f0 := HT1.out.fz 0; have f1 := HT1.out.fz 1; have f2 := HT1.out.fz 2; have y0 := HT1.out.c0; have y1 := HT1.out.c1; have y2 := HT1.out.c2; clear rr2 gg2 gr2)
      | (refine step_append_lit W.heap.size rfl (.tmp 5) (.tmp 7) 23 rfl 3 Tryd.underlying23 infoInt _ rfl (by first | exact Nat.le_refl _ | exact Nat.le_succ _) (by first | exact heap_alloc_new W.drew _ | exact two_empty W _ _ (.inl rfl) | exact two_empty W _ _ (.inr rfl)) (· < w.heap.size) A _ ca xs rfl (by first | exact HRX.out.1.grew (grew1 W W.heap.size (Nat.le_refl _) (.cells #[] 3)) | exact HRX.out.1.grew (grew2 W W.heap.size (Nat.le_refl _) (.cells #[] 3) (.cells #[] 3))) hx (by first | exact (grew1 W W.heap.size (Nat.le_refl _) (.cells #[] 3)).1.size | exact (grew2 W W.heap.size (Nat.le_refl _) (.cells #[] 3) (.cells #[] 3)).1.size) ?_; intro V1 d1 w1 rr1 gg1 gr1; have HFX := Lib.hid rr1; have HGR := Lib.hid gr1; have HG1 : Hid (Grew W.heap.size W w1) := (by first | exact (grew1 W W.heap.size (Nat.le_refl _) (.cells #[] 3)).trans gg1 | exact (grew2 W W.heap.size (Nat.le_refl _) (.cells #[] 3) (.cells #[] 3)).trans gg1); have HQ0 := Lib.hid (HR0.out.grew HG1.out); clear rr1 gg1 gr1)
      | (refine step_append_lit W.heap.size rfl (.tmp 9) (.tmp 11) 23 rfl 3 Tryd.underlying23 infoInt _ rfl (by first | exact Nat.le_refl _ | exact Nat.le_succ _) (by first | exact heap_alloc_new W.drew _ | exact two_empty W _ _ (.inl rfl) | exact two_empty W _ _ (.inr rfl)) (· < w.heap.size) B _ cb ys rfl (by first | exact HRX.out.2.grew (grew1 W W.heap.size (Nat.le_refl _) (.cells #[] 3)) | exact HRX.out.2.grew (grew2 W W.heap.size (Nat.le_refl _) (.cells #[] 3) (.cells #[] 3))) hy (by first | exact (grew1 W W.heap.size (Nat.le_refl _) (.cells #[] 3)).1.size | exact (grew2 W W.heap.size (Nat.le_refl _) (.cells #[] 3) (.cells #[] 3)).1.size) ?_; intro V1 d1 w1 rr1 gg1 gr1; have HFY := Lib.hid rr1; have HGR := Lib.hid gr1; have HG1 : Hid (Grew W.heap.size W w1) := (by first | exact (grew1 W W.heap.size (Nat.le_refl _) (.cells #[] 3)).trans gg1 | exact (grew2 W W.heap.size (Nat.le_refl _) (.cells #[] 3) (.cells #[] 3)).trans gg1); have HQ0 := Lib.hid (HR0.out.grew HG1.out); clear rr1 gg1 gr1))
  all_goals
    go_wp2
    have g2 := setAll_grown w2 (w.heap.size + 1) (.bool neg)
    refine bodyPost_ret (retR rfl _ _ _ rfl (HT1.out.setAll _ _ _ _ _ _ _)) rfl ?_
    refine ⟨_, _, _, _, rfl, ⟨?_, ?_⟩, below_grow (HB0.out.trans (HG2.out.1.mono HB0.out.size)) (by omega) (g2 _ _)⟩
    · first | exact HFO.out.past HT1.out (g2 _ _) | exact HFX.out.past HT1.out (g2 _ _)
    · first | exact HFY.out.past HT1.out (g2 _ _) | exact HFO.out.past HT1.out (g2 _ _)
end Go.Proofs.YtgeijojkfojfbaaDoor
