/-
  From expressions to tapes: Compile of the program.
-/
import Derived.Test.YtndeimodphmpkaaImplTape
import Derived.Test.YtndeimodphmpkaaGrpF
import Derived.Test.YtndeimodphmpkaaGrowRow
import Derived.Test.YtndeimodphmpkaaCompMath
import Derived.Test.YtndeimodphmpkaaMine
namespace Nt
open Go Go.RowKit
theorem stepsE_snd (ss : List Nd) : (stepsE ss).map Prod.snd = ss := by
  unfold stepsE
  rw [List.map_map]
  apply List.ext_getElem
  · simp
  · intro i h1 h2
    simp [List.getD, h2]
theorem KpS.none_ {tI n₀ n₁ : Nat} {W W' : World} (h : W.grownBy W' none) (hn : n₀ ≤ W.heap.size) : KpS tI n₀ n₁ W W' :=
  ⟨h.size, fun b hb => h.block b (by omega) (by simp), fun b o _ ho _ => (h.block b (Array.getElem?_eq_some_iff.1 ho).1 (by simp)).trans ho⟩
theorem KpS.some_ {tI n₀ n₁ : Nat} {W W' : World} {row : Option Nat} (h : W.grownBy W' row) (hn : n₀ ≤ W.heap.size) (h0 : ∀ r, row = some r → n₀ ≤ r) (hr : ∀ r o, row = some r → n₁ ≤ r → W.heap[r]? = some o → stepObj tI o = false) : KpS tI n₀ n₁ W W' :=
  ⟨h.size, fun b hb => h.block b (by omega) (fun e => by have := h0 b e.symm; omega), fun b o hb ho hs => (h.block b (Array.getElem?_eq_some_iff.1 ho).1 (fun e => by have := hr b o e.symm hb ho; rw [hs] at this; cases this)).trans ho⟩
/-- the row of its own is cells of nodes -/
theorem OwnN.obj {w : World} {base : Nat} {t : TypeId} {V : Option Addr} {n c : Nat} {ns : List Nd} (h : OwnN w base t V n c ns) : ∀ r, (Value.slice V n c).ownBlock = some r → base ≤ r ∧ r < w.heap.size ∧ ∃ cs, w.heap[r]? = some (.cells cs t (0, 0)) := fun r e => by
  rcases h.2 with ⟨e1, _⟩ | ⟨g, cap, cur, e1, hb, hh, _⟩
  · rw [e1] at e; cases e
  · rw [e1] at e
    have e : g = r := by simpa [Value.ownBlock] using e
    subst e
    exact ⟨hb, (Array.getElem?_eq_some_iff.1 hh).1, cur, hh⟩
theorem OwnN.mine {w : World} {base : Nat} {t : TypeId} {V : Option Addr} {n c : Nat} {ns : List Nd} (h : OwnN w base t V n c ns) : MineN w base t V n c ns := ⟨h.rd, fun hn => by
  rcases h.2 with ⟨_, h0⟩ | ⟨g, cap, cur, e1, hb, hh, hc, _, hs, _⟩
  · omega
  · injection e1 with e1 e2 e3
    exact ⟨g, cur.size, e1, ⟨cur, rfl, hh⟩, by rw [hs]; exact Nat.mul_le_mul_right 4 hc, hb⟩⟩
end Nt
namespace Go.Proofs.Ytndeimodphmpkaa
open Go Go.RowKit Nt Go.Shelf
theorem retTC {fn : Func} {p u : Tmp} {A : Option Addr} {n c : Nat} {o : Int} (h : fn.results = #[.cell p 45, .tmp u]) (tmps : Array Value) (w : World) (g : Nat) (hp : tmps.getD p undef = .pointer (some ⟨g, 0, none⟩)) (hr : TpAt w g 45 A n c o) :
    (results fn tmps).run Try.prog w = .ok (.tuple #[.agg #[.slice A n c, .int .i64 o], tmps.getD u undef]) w := by
  rw [results_cell_tmp h, hp]
  simp [asAddr, run_loadVar_row w g _ _ _ _ _ hr Try.underlying45 rfl (by kernel_rfl), Result.andThen]
attribute [local go_sem] Oper.semAt_some

set_option maxRecDepth 100000 in
set_option maxHeartbeats 8000000 in
theorem implCompile_any (A : Option Addr) (n c : Nat) (ns : List Nd) (P : Nat → Prop) (w : World) (hr : RdN w P A n c ns) (hn : n ≤ 1048576) :
    Calls Try.prog 18 #[.agg #[.slice A n c]] w fun e w' => Below w.heap.size w w' ∧ ((okE ns = false ∧ e = .returned (.tuple #[.agg #[.slice none 0 0, .int .i64 0], .int .i64 1])) ∨
      (okE ns = true ∧ ∃ V cv, e = .returned (.tuple #[.agg #[.slice V (comp ns).1.length cv, .int .i64 (((comp ns).1.length : Int) - 1)], .int .i64 0]) ∧ MineN w' w.heap.size 30 V (comp ns).1.length cv (comp ns).1)) := by
  have HL := Lib.hid hr.len
  have HR := Lib.hid hr.low
  clear hr
  obtain ⟨E0, hE0⟩ : ∃ E0, (w.alloc (.cells #[.slice A n c] 25)).alloc (.cells #[.slice none 0 0, .int .i64 0] 45) = E0 := ⟨_, rfl⟩
  have hBE : Below w.heap.size w E0 := by rw [← hE0]; exact ((Below.refl _ _).alloc (Nat.le_refl _) _).alloc (by simp) _
  have hSE : SlAt E0 w.heap.size 25 A n c := by rw [← hE0]; exact (SlAt.new _ _ _ _ _).on (below_one _ _)
  have hTE : TpAt E0 (w.heap.size + 1) 45 none 0 0 0 := by
    rw [← hE0]
    have h := TpAt.new (w.alloc (.cells #[.slice A n c] 25)) 45 none 0 0 0
    rwa [World.size_alloc] at h
  have HX := Lib.hid (implExprOK_any A n c ns _ E0 (HR.out.below hBE) hn)
  have HE0 := Lib.hid hE0
  clear hE0
  have HBE := Lib.hid hBE
  have HSE := Lib.hid hSE
  have HTE := Lib.hid hTE
  clear hBE hSE hTE
  cases hok : okE ns with
  | false =>
    rw [hok] at HX
    go_enter Try.func18, Try.ntmps18
    go_wp2_with (go_at_call 33; rw [HE0.out]; refine HX.out.mono ?_; rintro e w1 ⟨rfl, bb⟩; have hT := HTE.out.on bb; have c0 := hT.c0; have c1 := hT.c1; have f0 := hT.fz 0; have f1 := hT.fz 1; have HB1 := Lib.hid (belowN_on HBE.out bb); clear bb)
    have hT1 := (hT.set0 none 0 0).set1 0
    have hk := grown_set (i := 1) (grown_set (i := 0) (World.grownBy.refl w1 (some (w.heap.size + 1))) (.slice none 0 0)) (.int .i64 0)
    refine bodyPost_ret (retTC rfl _ _ (w.heap.size + 1) rfl hT1) rfl ⟨belowN_grow HB1.out (Nat.le_succ _) hk, .inl ⟨trivial, rfl⟩⟩
  | true =>
    rw [hok] at HX
    have HALL := Lib.hid (okE_steps hok)
    have h60 : 1 ≤ n ∧ n ≤ 60 := by have := okE_out hok; have := HL.out; omega
    refine (callsIn_wide (n := 9)).1 ?_
    refine callsIn_of_wp_marks Try.func18 rfl trivial ?_ rfl
    simp only [Try.ntmps18, List.size_toArray, List.length_cons, List.length_nil, Nat.reduceAdd, Nat.reduceSub, Array.replicate_succ, Array.replicate_zero, List.push_toArray, List.append_toArray, List.nil_append, List.cons_append]
    gi_wp2_with (first
      | (refine ⟨trivial, ?_⟩; gi_at_call 33; rw [HE0.out]; refine (callsIn_wide.2 HX.out).mono ?_; rintro e w1 ⟨rfl, bb⟩; have HT := Lib.hid (HTE.out.on bb); have HS := Lib.hid (HSE.out.on bb); have s0 := (HS.out.on (below_one w1 (.cells #[.slice none 0 0, .int .i64 0] 45))).c0; have HB1 := Lib.hid (belowN_on HBE.out bb); clear bb)
      | (refine ⟨trivial, ?_⟩; gi_at_call 48; refine (newSteps_in _ _ _ _ _).mono ?_; rintro e w2 ⟨rfl, rfl⟩))
    clear s0
    have hB1 := HB1.out
    have hws : w.heap.size + 1 < w1.heap.size := HT.out.lt
    have hBW : Below w.heap.size w ((w1.alloc (.cells #[.slice none 0 0, .int .i64 0] 45)).alloc (.cells #[.slice A n c] 23)) := (hB1.alloc hB1.size _).alloc (by have := hB1.size; simp; omega) _
    have hBx : Boxed ((w1.alloc (.cells #[.slice none 0 0, .int .i64 0] 45)).alloc (.cells #[.slice A n c] 23)) (w1.heap.size + 1) 23 (.slice A n c) := by
      have h := Boxed.new (w1.alloc (.cells #[.slice none 0 0, .int .i64 0] 45)) 23 (.slice A n c)
      rwa [World.size_alloc] at h
    have hT4 : TpAt ((w1.alloc (.cells #[.slice none 0 0, .int .i64 0] 45)).alloc (.cells #[.slice A n c] 23)) w1.heap.size 45 none 0 0 0 := (TpAt.new _ _ _ _ _ _).on (below_one _ _)
    have hT2 : TpAt ((w1.alloc (.cells #[.slice none 0 0, .int .i64 0] 45)).alloc (.cells #[.slice A n c] 23)) (w.heap.size + 1) 45 none 0 0 0 := (HT.out.on (below_one _ _)).on (below_one _ _)
    have hs0 : ((w1.alloc (.cells #[.slice none 0 0, .int .i64 0] 45)).alloc (.cells #[.slice A n c] 23)).heap.size = w1.heap.size + 2 := by simp
    obtain ⟨W0, hW0⟩ : ∃ W0, (w1.alloc (.cells #[.slice none 0 0, .int .i64 0] 45)).alloc (.cells #[.slice A n c] 23) = W0 := ⟨_, rfl⟩
    rw [hW0] at hBx hT4 hT2 hBW hs0 ⊢
    clear hW0
    obtain ⟨i0, hi, hz0, hz1, hz2⟩ := info_parts infoNode
    have hI : ∀ (s : List (Nat × Nd)) (W W' : World) (row : Option Nat), (∃ V cv, TpAt W w1.heap.size 45 V s.length cv (lastE s) ∧ OwnN W W0.heap.size 30 V s.length cv (s.map Prod.snd) ∧ Below w.heap.size w W ∧ TpAt W (w.heap.size + 1) 45 none 0 0 0 ∧ W0.heap.size ≤ W.heap.size) → W.grownBy W' row →
        (∀ r, row = some r → W0.heap.size ≤ r ∧ ∃ o : Obj, W.heap[r]? = some o ∧ (o.isCells = false ∨ stepObj 3 o = true)) →
        (∃ V cv, TpAt W' w1.heap.size 45 V s.length cv (lastE s) ∧ OwnN W' W0.heap.size 30 V s.length cv (s.map Prod.snd) ∧ Below w.heap.size w W' ∧ TpAt W' (w.heap.size + 1) 45 none 0 0 0 ∧ W0.heap.size ≤ W'.heap.size) := by
      rintro s W W' row ⟨V, cv, h1, h2, h3, h4, h5⟩ hg hr
      refine ⟨V, cv, (hg.block _ h1.lt (fun e => by have := (hr _ e.symm).1; omega)).trans h1, h2.kept hg ?_, h3.trans ⟨hg.os, hg.tape, hg.output, hg.size, fun i hi => hg.block i (by omega) (fun e => by have := (hr _ e.symm).1; omega)⟩, (hg.block _ h4.lt (fun e => by have := (hr _ e.symm).1; omega)).trans h4, Nat.le_trans h5 hg.size⟩
      cases hA : (Value.slice V s.length cv).ownBlock with
      | none => exact .inl rfl
      | some g =>
        refine .inr fun e => ?_
        obtain ⟨_, _, cs, hcs⟩ := h2.obj g hA
        obtain ⟨_, o, ho, hk⟩ := hr g e.symm
        rw [hcs] at ho
        injection ho with ho
        subst ho
        rcases hk with hk | hk
        · cases hk
        · simp [stepObj] at hk
    refine range_own (stepObj 3) rfl (by omega) (gf := 88) (lb := #[.pointer (some ⟨w1.heap.size + 1, 0, none⟩)]) rfl trivial (enters_of Try.func88 (by kernel_rfl) rfl)
      (encs := fun x : Nat × Nd => #[.int .i64 (x.1 : Int), .agg #[.int .i64 x.2.1, .int .i64 x.2.2.1, .int .i64 x.2.2.2.1, .int .i64 x.2.2.2.2]]) (Kp := KpS 3 w.heap.size W0.heap.size) (S := fun xs => xs = stepsE (comp ns).1) (N := n) (w0 := W0)
      (fun l J W hW hJ hY h0 => newSteps1_in _ (by omega) l (w1.heap.size + 1) w.heap.size W0.heap.size A n c ns h60.2 (by have := HALL.out; rwa [HL.out] at this) J W hJ ((hW.block _ hBx.lt).trans hBx) (HR.out.below (hBW.trans (hW.mono (by omega)))) (by have := hW.size; omega) hW.size hY h0)
      KpS.trans (fun W l r r' hl h => KpS.put (by omega) h) (Below.refl _ _) (fun _ => rfl) _ hI
      ⟨none, 0, hT4, World.ownsRow_nil _ _ _ _, hBW, hT2, Nat.le_refl _⟩
      (fun x a' W => ∃ B6, NodeAt W B6 30 x.2.1 x.2.2.1 x.2.2.2.1 x.2.2.2.2 ∧ W0.heap.size ≤ B6 ∧ a' = { tmps := #[.agg #[.slice A n c], .pointer (some ⟨w.heap.size, 0, none⟩), .pointer (some ⟨w.heap.size + 1, 0, none⟩), .int .i64 0, .pointer (some ⟨w1.heap.size, 0, none⟩), .int .i64 (x.1 : Int), .pointer (some ⟨B6, 0, none⟩), .agg #[.slice A n c], .bool true, .bool false, undef, .pointer (some ⟨w.heap.size, 0, none⟩), .slice A n c, .func (.func 88) #[] #[.pointer (some ⟨w1.heap.size + 1, 0, none⟩)], .int .i64 (x.1 : Int), .agg #[.int .i64 x.2.1, .int .i64 x.2.2.1, .int .i64 x.2.2.2.1, .int .i64 x.2.2.2.2], undef, undef, undef, undef, undef, undef, undef, undef, undef], defers := [] })
      ?hax ?assign ?body ?done
    case hax =>
      rintro x a' W W' l r ⟨B6, hN, hb, e⟩ hl hg
      refine ⟨B6, (hg.block B6 hN.lt (fun e' => ?_)).trans hN, hb, e⟩
      injection e' with e'
      subst e'
      unfold NodeAt at hN
      rw [hl] at hN
      cases hN
    case assign =>
      rintro l pre x W K hI0 hK
      gi_wp2
      have hgA := World.grownBy_alloc W (.cells #[.int .i64 x.2.1, .int .i64 x.2.2.1, .int .i64 x.2.2.2.1, .int .i64 x.2.2.2.2] 30) none
      have hsz : W0.heap.size ≤ W.heap.size := by obtain ⟨_, _, _, _, _, _, h⟩ := hI0; exact h
      exact hK _ _ (KeepsFrom.of_grownBy hgA (fun j e => by cases e)) (KpS.none_ hgA (by omega)) (hI _ _ _ none hI0 hgA (fun r e => by cases e)) ⟨W.heap.size, NodeAt.new _ _ _ _ _ _, hsz, rfl⟩
    case body =>
      rintro l pre x a' W ⟨V, cv, h1, h2, h3, h4, h5⟩ ⟨B6, hN, hb6, rfl⟩ hlen
      have t0 := h1.c0
      have t1 := h1.c1
      have f0 := h1.fz 0
      have c0 := hN.c0
      have c1 := hN.c1
      have c2 := hN.c2
      have c3 := hN.c3
      obtain ⟨xp, op, xa, xb, xn⟩ := x
      dsimp only at *
      have hA3 : ∀ (w3 : World), (W.alloc (.cells #[.int .i64 op, .int .i64 xa, .int .i64 xb, .int .i64 xn] 30)).grownBy w3 (Value.slice V pre.length cv).ownBlock → TpAt w3 w1.heap.size 45 V pre.length cv (lastE pre) := fun w3 hg => by
        have ha := h1.on (below_one W (.cells #[.int .i64 op, .int .i64 xa, .int .i64 xb, .int .i64 xn] 30))
        exact (hg.block _ ha.lt (fun e => by have := (h2.obj _ e.symm).1; omega)).trans ha
      gi_wp2_with (gi_at_builtin; refine wpListIn_append_own _ rfl _ _ 23 rfl W0.heap.size 30 i0 (.agg #[.int .i64 0, .int .i64 0, .int .i64 0, .int .i64 0]) 4 32 Try.underlying23 hi hz0 hz1 hz2 rfl (by decide) _ _ _ rfl (h2.alloc _) ⟨W.heap.size, 0, none⟩ 1 1 [.int .i64 op, .int .i64 xa, .int .i64 xb, .int .i64 xn] rfl rfl (cells4 _ _ (op, xa, xb, xn)) (one4 _ _ _ _) (by unfold maxLen; omega) (by omega) (by simp; omega) ?_; intro v' w3 hown' hgr _; obtain ⟨g', cap', rfl⟩ := ownsRow_succ hown'; have hT3 := hA3 _ hgr; have hT5 := hT3.set0 (some ⟨g', 0, none⟩) (pre.length + 1) cap'; have z0 := hT3.c0; have zf := hT3.fz 0; have z1 := hT5.c1; have zg := hT5.fz 1)
      have hl1 : w1.heap.size < W.heap.size := h1.lt
      have hg1 := World.grownBy_alloc W (.cells #[.int .i64 op, .int .i64 xa, .int .i64 xb, .int .i64 xn] 30) none
      have hob : ∀ r, (Value.slice V pre.length cv).ownBlock = some r → W0.heap.size ≤ r ∧ ∃ cs, (W.alloc (.cells #[.int .i64 op, .int .i64 xa, .int .i64 xb, .int .i64 xn] 30)).heap[r]? = some (.cells cs 30 (0, 0)) := fun r e => by
        obtain ⟨q1, q2, cs, q3⟩ := h2.obj r e
        exact ⟨q1, cs, (hg1.block r q2 (by simp)).trans q3⟩
      have hg3 := grown_set (i := 1) (grown_set (i := 0) (World.grownBy.refl w3 (some w1.heap.size)) (.slice (some ⟨g', 0, none⟩) (pre.length + 1) cap')) (.int .i64 (xp : Int))
      have hs3 := hgr.size
      rw [World.size_alloc] at hs3
      have hB3 : Below W0.heap.size W w3 := ((Below.refl _ W).alloc h5 _).trans ⟨hgr.os, hgr.tape, hgr.output, hgr.size, fun i hi => hgr.block i (by rw [World.size_alloc]; omega) (fun e => by have := (hob i e.symm).1; omega)⟩
      have hT6 := hT5.set1 (xp : Int)
      have hTT := (hB3.block _ (by omega)).trans h4
      refine ⟨(KeepsFrom.of_grownBy hg1 (fun j e => by cases e)).trans (((KeepsOthers.of_grownBy hgr (fun r o e ho => by obtain ⟨_, cs, q⟩ := hob r e; rw [q] at ho; injection ho with ho; subst ho; rfl)).from _).trans (KeepsFrom.of_grownBy hg3 (fun j e => by injection e with e; omega))),
        (KpS.none_ hg1 (by omega)).trans ((KpS.some_ hgr (by rw [World.size_alloc]; omega) (fun r e => by have := (hob r e).1; omega) (fun r o e _ ho => by obtain ⟨_, cs, q⟩ := hob r e; rw [q] at ho; injection ho with ho; subst ho; simp [stepObj])).trans (KpS.some_ hg3 (by omega) (fun r e => by injection e with e; omega) (fun r o e hr _ => by injection e with e; omega))), ?_⟩
      dsimp only
      rw [List.length_append, lastE_snoc, List.map_append]
      refine ⟨some ⟨g', 0, none⟩, cap', hT6, ?_, h3.trans ((hB3.mono (by omega)).trans ⟨hg3.os, hg3.tape, hg3.output, hg3.size, fun i hi => hg3.block i (by omega) (fun e => by injection e with e; omega)⟩), (hg3.block _ (by omega) (fun e => by injection e with e; omega)).trans hTT, by have := hg3.size; omega⟩
      have hO3 : OwnN w3 W0.heap.size 30 (some ⟨g', 0, none⟩) (pre.length + 1) cap' (pre.map Prod.snd ++ [(op, xa, xb, xn)]) := by
        unfold OwnN
        have e : flatN (pre.map Prod.snd ++ [(op, xa, xb, xn)]) = flatN (pre.map Prod.snd) ++ [.int .i64 op, .int .i64 xa, .int .i64 xb, .int .i64 xn] := by simp [flatN, nodeCs]
        rw [e]
        exact hown'
      exact hO3.past hg3 (by omega)
    case done =>
      rintro D xs W hD rfl ⟨V, cv, h1, h2, h3, h4, h5⟩ hK
      have hsm : 1 ≤ (comp ns).1.length := by
        have h := (comp_ok ns ns.length (Nat.le_refl _)).some_ (by rw [HL.out]; exact h60.1)
        rwa [List.take_length] at h
      rw [stepsE_length, lastE_steps hsm] at h1
      rw [stepsE_length, stepsE_snd] at h2
      have t0 := h1.c0
      have t1 := h1.c1
      have y0 := h4.c0
      have y1 := h4.c1
      have yf0 := h4.fz 0
      have yf1 := h4.fz 1
      obtain ⟨ss, hss⟩ : ∃ ss, (comp ns).1 = ss := ⟨_, rfl⟩
      rw [hss] at h1 h2 hsm t0 t1
      have HSS := Lib.hid hss
      clear hss
      gi_wp2
      have hg4 := grown_set (i := 1) (grown_set (i := 0) (World.grownBy.refl W (some (w.heap.size + 1))) (.slice V ss.length cv)) (.int .i64 ((ss.length : Int) - 1))
      have hT6 := (h4.set0 V ss.length cv).set1 ((ss.length : Int) - 1)
      have hO6 := h2.past hg4 (by omega)
      have hDl : D < W.heap.size := (Array.getElem?_eq_some_iff.1 hK).1
      have hK4 := (hg4.block D hDl (fun e => by injection e with e; omega)).trans hK
      refine ⟨by simp, .inl ⟨_, _, rfl, run_takeDeferred hK4, ?_⟩⟩
      have hgD := grownBy_putObj' ((W.setCell ⟨w.heap.size + 1, 0, none⟩ (.slice V ss.length cv)).setCell ⟨w.heap.size + 1, 1, none⟩ (.int .i64 ((ss.length : Int) - 1))) D (.deferred none)
      have hT7 := (hgD.block _ hT6.lt (fun e => by injection e with e; omega)).trans hT6
      have hO7 : OwnN _ W0.heap.size 30 V ss.length cv ss := ownsRow_putObj hO6 (.deferred none) hK4 rfl
      have hs4 := hg4.size
      rw [HSS.out]
      refine ⟨_, retTC rfl _ _ (w.heap.size + 1) rfl hT7, ?_, .inr ⟨by first | trivial | rfl, V, cv, rfl, hO7.mine.less (by omega)⟩⟩
      exact h3.trans ((grownBy_below hg4 (by omega)).trans (grownBy_below hgD (by omega)) |>.mono (Nat.le_refl _))
end Go.Proofs.Ytndeimodphmpkaa
