/-
  Where the trees of an expression's nodes begin, and how deep they are: treesOf of the program.
-/
import Derived.Test.YtgeijojkfojfbaaTreeIter
import Derived.Test.YtgeijojkfojfbaaTreeKids
import Derived.Test.YtgeijojkfojfbaaLastStore
namespace Nt
open Go Go.RowKit
/-- a tree's struct lies in block b -/
def TrAt (w : World) (b : Nat) (t : TypeId) (x : Tr) : Prop := w.heap[b]? = some (.cells #[.int .i64 x.1, .int .i64 x.2] t (0, 0))
section
variable {w w' : World} {b : Nat} {t : TypeId} {x : Tr}
theorem TrAt.c0 (h : TrAt w b t x) : w.cell? ⟨b, 0, none⟩ = some (.int .i64 x.1) := by rw [cell_of_row w b 0 _ t (0, 0) h]; rfl
theorem TrAt.c1 (h : TrAt w b t x) : w.cell? ⟨b, 1, none⟩ = some (.int .i64 x.2) := by rw [cell_of_row w b 1 _ t (0, 0) h]; rfl
theorem TrAt.fz (h : TrAt w b t x) (i : Nat) : w.frozen? ⟨b, i, none⟩ = false := frozen_of_row w b i _ t h
theorem TrAt.lt (h : TrAt w b t x) : b < w.heap.size := by
  rcases Nat.lt_or_ge b w.heap.size with hlt | hge
  · exact hlt
  · unfold TrAt at h; rw [Array.getElem?_eq_none hge] at h; cases h
theorem TrAt.on (h : TrAt w b t x) (hb : Below w.heap.size w w') : TrAt w' b t x := (hb.block b h.lt).trans h
theorem TrAt.new (w : World) (t : TypeId) (x : Tr) : TrAt (w.alloc (.cells #[.int .i64 x.1, .int .i64 x.2] t)) w.heap.size t x := heap_alloc_new w _
theorem TrAt.set2 (h : TrAt w b t x) (y : Tr) : TrAt ((w.setCell ⟨b, 0, none⟩ (.int .i64 y.1)).setCell ⟨b, 1, none⟩ (.int .i64 y.2)) b t y := by
  have h1 := heap_setCell_same _ b 1 _ t (.int .i64 y.2) (heap_setCell_same w b 0 _ t (.int .i64 y.1) h)
  unfold TrAt
  rw [h1]
  rfl
end
theorem set2_grown (w : World) (b : Nat) (u v : Value) : w.grownBy ((w.setCell ⟨b, 0, none⟩ u).setCell ⟨b, 1, none⟩ v) (some b) := grown_set (grown_set (World.grownBy.refl _ _) _) _
/-- trees as cells -/
def flatT (ts : List Tr) : List Value := ts.flatMap fun t => [.int .i64 t.1, .int .i64 t.2]
theorem flatT_len (ts : List Tr) : (flatT ts).length = ts.length * 2 := by
  induction ts with
  | nil => rfl
  | cons t ts ih => unfold flatT at ih ⊢; rw [List.flatMap_cons, List.length_append, ih]; simp; omega
theorem flatT_snoc (ts : List Tr) (t : Tr) : flatT (ts ++ [t]) = flatT ts ++ [.int .i64 t.1, .int .i64 t.2] := by unfold flatT; simp
theorem flatT_get : ∀ (ts : List Tr) (i : Nat), i < ts.length → (flatT ts)[i * 2]? = some (.int .i64 (ts.getD i tr0).1) ∧ (flatT ts)[i * 2 + 1]? = some (.int .i64 (ts.getD i tr0).2)
  | [], i, h => by simp at h
  | t :: ts, 0, _ => ⟨rfl, rfl⟩
  | t :: ts, i + 1, h => by
    have ih := flatT_get ts i (by simpa using h)
    have e : flatT (t :: ts) = .int .i64 t.1 :: .int .i64 t.2 :: flatT ts := rfl
    rw [e, show (i + 1) * 2 = i * 2 + 1 + 1 by omega]
    exact ⟨by simpa using ih.1, by simpa using ih.2⟩
/-- the slice reads as trees -/
def RdT (w : World) (V : Option Addr) (n : Nat) (ts : List Tr) : Prop := ∃ g, V = some ⟨g, 0, none⟩ ∧ g < w.heap.size ∧ ∀ i, i < n → w.cell? ⟨g, i * 2, none⟩ = some (.int .i64 (ts.getD i tr0).1) ∧ w.cell? ⟨g, i * 2 + 1, none⟩ = some (.int .i64 (ts.getD i tr0).2)
theorem own_rdT {w : World} {base n c : Nat} {e : TypeId} {V : Option Addr} {ts : List Tr} (h : w.ownsRow base e 2 (.slice V n c) n (flatT ts)) (hl : ts.length = n) (hn : 0 < n) : RdT w V n ts := by
  rcases h.2 with ⟨_, h0⟩ | ⟨g, cap, cur, e', hb, hh, hnc, _, hs, ht⟩
  · omega
  · injection e' with e1
    refine ⟨g, e1, ?_, fun i hi => ?_⟩
    · rcases Nat.lt_or_ge g w.heap.size with hlt | hge
      · exact hlt
      · rw [Array.getElem?_eq_none hge] at hh; cases hh
    · have q := flatT_get ts i (by omega)
      have hc : ∀ j, j < n * 2 → w.cell? ⟨g, j, none⟩ = (flatT ts)[j]? := fun j hj => by
        rw [cell_of_row w g j _ e _ hh, ← ht, List.getElem?_take, if_pos hj, Array.getElem?_toList]
      exact ⟨(hc _ (by omega)).trans q.1, (hc _ (by omega)).trans q.2⟩
theorem RdT.on {w w' : World} {V : Option Addr} {n : Nat} {ts : List Tr} (h : RdT w V n ts) (hb : Below w.heap.size w w') : RdT w' V n ts := by
  obtain ⟨g, rfl, hg, hc⟩ := h
  exact ⟨g, rfl, by have := hb.size; omega, fun i hi => ⟨(hb.cell (p := ⟨g, i * 2, none⟩) hg).trans (hc i hi).1, (hb.cell (p := ⟨g, i * 2 + 1, none⟩) hg).trans (hc i hi).2⟩⟩
/-- the marks of the ranges that are over -/
def Marks (B : Nat) : List Deferred → Nat → World → Prop
  | [], _, _ => True
  | d :: ds, N, w => ∃ D, d = { target := .collected D, args := #[] } ∧ B ≤ D ∧ D < N ∧ w.heap[D]? = some (.deferred (some [])) ∧ Marks B ds D w
theorem Marks.keep {B : Nat} : ∀ {ds : List Deferred} {N : Nat} {w w' : World}, Marks B ds N w → (∀ D, D < N → w.heap[D]? = some (.deferred (some [])) → w'.heap[D]? = some (.deferred (some []))) → Marks B ds N w'
  | [], _, _, _, _, _ => trivial
  | _ :: _, _, _, _, ⟨D, h1, h2, h3, h4, h5⟩, hk => ⟨D, h1, h2, h3, hk D h3 h4, h5.keep fun D' hD' => hk D' (by omega)⟩
theorem Marks.le {B : Nat} : ∀ {ds : List Deferred} {N M : Nat} {w : World}, Marks B ds N w → N ≤ M → Marks B ds M w
  | [], _, _, _, _, _ => trivial
  | _ :: _, _, _, _, ⟨D, h1, h2, h3, h4, h5⟩, hk => ⟨D, h1, h2, by omega, h4, h5⟩
/-- what is left behind the marks: all cells, and all below -/
def Rest (B : Nat) (w w' : World) : Prop := Below B w w' ∧ ∀ (b : Nat) (cs : Array Value) (t : TypeId) (fr : Nat × Nat), w.heap[b]? = some (Obj.cells cs t fr) → w'.heap[b]? = some (Obj.cells cs t fr)
theorem leaves_marks {F : Fence} {n : Nat} {P : Program} {fn : Func} {tmps : Array Value} {R : Ending → World → Prop} {B : Nat} : ∀ (ds : List Deferred) (N : Nat) (w : World), Marks B ds N w → B ≤ w.heap.size → (∀ w', Rest B w w' → ∃ v, (results fn tmps).run P w' = .ok v w' ∧ R (.returned v) w') → LeavesInM F n P fn tmps R ds .returning w
  | [], _, w, _, _, h => h w ⟨Below.refl _ _, fun _ _ _ _ h => h⟩
  | _ :: ds, _, w, ⟨D, rfl, hB, hN, hD, hm⟩, hs, h => by
    have hg := grownBy_putObj' w D (.deferred none)
    have hb : Below B w (w.putObj D (.deferred none)) := ⟨hg.os, hg.tape, hg.output, hg.size, fun k hk => hg.block k (by omega) (fun e => by injection e with e; omega)⟩
    refine ⟨by simp, .inl ⟨D, _, rfl, run_takeDeferred hD, leaves_marks ds D _ (hm.keep fun D' h1 h2 => ?_) (Nat.le_trans hs hg.size) fun w' hw' => h w' ⟨hb.trans hw'.1, fun b cs t fr hc => hw'.2 b cs t fr ?_⟩⟩⟩
    · exact (hg.block D' (by have := (Array.getElem?_eq_some_iff.1 hD).1; omega) (fun e => by injection e with e; omega)).trans h2
    · refine (hg.block b ((Array.getElem?_eq_some_iff.1 hc).1) (fun e => ?_)).trans hc
      injection e with e
      subst e
      rw [hD] at hc
      cases hc
theorem grown_trans_some {A B C : World} {r : Nat} (h : A.grownBy B (some r)) (k : B.grownBy C (some r)) : A.grownBy C (some r) :=
  ⟨k.os.trans h.os, k.tape.trans h.tape, k.output.trans h.output, Nat.le_trans h.size k.size, fun i hi hne => (k.block i (Nat.lt_of_lt_of_le hi h.size) hne).trans (h.block i hi hne)⟩
/-- a box that is stored what it holds -/
theorem boxed_same {W : World} {B : Nat} {t : TypeId} {v : Value} (h : Boxed W B t v) : (W.setCell ⟨B, 0, none⟩ v).heap[B]? = W.heap[B]? := (Boxed.set v h).trans h.symm
theorem grown_far {A B C : World} {r : Nat} {row : Option Nat} (h : A.grownBy B (some r)) (k : B.grownBy C row) (hr : ∀ q, row = some q → A.heap.size ≤ q) : A.grownBy C (some r) :=
  ⟨k.os.trans h.os, k.tape.trans h.tape, k.output.trans h.output, Nat.le_trans h.size k.size, fun i hi hne => (k.block i (Nat.lt_of_lt_of_le hi h.size) (fun e => by have := hr i e.symm; omega)).trans (h.block i hi hne)⟩
theorem own_keepN {w w' : World} {base n c size : Nat} {e : TypeId} {A : Option Addr} {xs : List Value} (h : w.ownsRow base e size (.slice A n c) n xs) (hb : Below w.heap.size w w') : w'.ownsRow base e size (.slice A n c) n xs := by
  refine h.kept (row := none) (below_grown hb none) ?_
  rcases h.2 with ⟨e', _⟩ | ⟨g, cap, cur, e', _⟩
  · exact .inl (by rw [e']; rfl)
  · rw [e']; exact .inr (by simp [Value.ownBlock])
theorem cell_two_new (w : World) (e : TypeId) (x y : Value) : ∀ (j : Nat) (u : Value), [x, y][j]? = some u → (w.alloc (.cells #[x, y] e)).cell? ((⟨w.heap.size, 0, none⟩ : Addr).add j) = some u := by
  intro j u hj
  rw [addN_none, Nat.zero_add, cell_of_row _ w.heap.size j _ e (0, 0) (heap_alloc_new w _)]
  simpa using hj
theorem kinT_bounds {ts : List Tr} {k : Nat} (hN : Nest ts) (hl : ts.length = k) : ∀ (cs : List Int) (t u : Tr), 0 ≤ t.1 → t.1 ≤ k → 1 ≤ t.2 → t.2 ≤ k + 1 → kinT ts t cs = some u → 0 ≤ u.1 ∧ u.1 ≤ k ∧ 1 ≤ u.2 ∧ u.2 ≤ k + 1
  | [], t, u, h1, h2, h3, h4, h => by
    have h : some t = some u := h
    injection h with h
    subst h
    exact ⟨h1, h2, h3, h4⟩
  | c :: cs, t, u, h1, h2, h3, h4, h => by
    have h : (if 0 ≤ c ∧ c = t.1 - 1 then kinT ts ((ts.getD c.toNat tr0).1, max t.2 ((ts.getD c.toNat tr0).2 + 1)) cs else none) = some u := h
    by_cases hc : 0 ≤ c ∧ c = t.1 - 1
    · rw [if_pos hc] at h
      have hn := (hN c.toNat (by omega)).1
      exact kinT_bounds hN hl cs ((ts.getD c.toNat tr0).1, max t.2 ((ts.getD c.toNat tr0).2 + 1)) u hn.1 (by dsimp only; omega) (by dsimp only; omega) (by dsimp only; omega) h
    · rw [if_neg hc] at h; cases h
end Nt
namespace Go.Proofs.Ytgeijojkfojfbaa
open Go Go.RowKit Nt Go.Shelf
attribute [local go_sem] Oper.semAt_some

/-- how the loop over the nodes stands -/
def TS (w wr : World) (k : Nat) (ts : List Tr) (V : Option Addr) (cv : Nat) (ds : List Deferred) : Prop :=
  Boxed wr w.heap.size 83 (.slice none 0 0) ∧ Boxed wr (w.heap.size + 1) 4 (.bool false) ∧ Boxed wr (w.heap.size + 1 + 1) 83 (.slice V k cv) ∧ wr.ownsRow (w.heap.size + 2) 87 2 (.slice V k cv) k (flatT ts) ∧ Below w.heap.size w wr ∧ Marks (w.heap.size + 2) ds wr.heap.size wr ∧ w.heap.size + 3 ≤ wr.heap.size
theorem infoTree : (Try.prog.info? 87).map (fun i => (i.zero, i.size, i.bytes)) = some (some (.agg #[.int .i64 0, .int .i64 0]), 2, 16) := by kernel_rfl
set_option maxRecDepth 100000 in
set_option maxHeartbeats 16000000 in
theorem treesOf_any (A : Option Addr) (n c : Nat) (ns : List Nd) (w : World) (hr : RdN w (· < w.heap.size) A n c ns) (h1 : 1 ≤ n) (hn : n ≤ 60) :
    Calls Try.prog 68 #[.slice A n c] w fun e w' => Below w.heap.size w w' ∧ ((trees ns = none ∧ e = .returned (.tuple #[.slice none 0 0, .bool false])) ∨ (∃ ts V d, trees ns = some ts ∧ e = .returned (.tuple #[.slice V n d, .bool true]) ∧ RdT w' V n ts)) := by
  obtain ⟨b, o, rfl, _, hP, hc⟩ := hr.at_ (by omega)
  have HL := Lib.hid hr.len
  have HC := Lib.hid hc
  clear hr hc
  obtain ⟨i0, hi, hz0, hz1, hz2⟩ := info_parts infoTree
  refine (callsIn_wide (n := 9)).1 ?_
  refine callsIn_of_wp_marks Try.func68 rfl trivial ?_ rfl
  simp only [Try.ntmps68, List.size_toArray, List.length_cons, List.length_nil, Nat.reduceAdd, Nat.reduceSub, Array.replicate_succ, Array.replicate_zero, List.push_toArray, List.append_toArray, List.nil_append, List.cons_append]
  gi_wp2
  refine wpIn_loop (fun a' wr => ∃ (k : Nat) (ts : List Tr) (V : Option Addr) (cv : Nat) (ds : List Deferred) (u5 u6 u7 u13 u14 u15 u16 u17 u18 u19 u20 u21 u48 u49 u50 u51 u52 : Value), k ≤ n ∧ trees (ns.take k) = some ts ∧ TS w wr k ts V cv ds ∧ a' = { tmps := #[.slice (some ⟨b, o, none⟩) n c, undef, .pointer (some ⟨w.heap.size, 0, none⟩), .pointer (some ⟨w.heap.size + 1, 0, none⟩), .pointer (some ⟨w.heap.size + 1 + 1, 0, none⟩), u5, u6, u7, undef, undef, .slice (some ⟨b, o, none⟩) n c, .int .i64 (n : Int), .int .i64 (k : Int), u13, u14, u15, u16, u17, u18, u19, u20, u21, undef, undef, undef, undef, undef, undef, undef, undef, undef, undef, undef, undef, undef, undef, undef, undef, undef, undef, undef, undef, undef, undef, undef, undef, undef, undef, u48, u49, u50, u51, u52, undef], defers := ds }) (fun a' _ => n - (intOf (a'.tmps.getD 12 undef)).toNat) ?_ ?_
  · refine ⟨0, [], none, 0, [], undef, undef, undef, undef, undef, undef, undef, undef, undef, undef, undef, undef, undef, undef, undef, undef, undef, Nat.zero_le _, trees_nil, ⟨?_, ?_, ?_, ?_, ?_, trivial, by simp⟩, rfl⟩
    · exact ((Boxed.new w _ _).alloc _).alloc _
    · have h := (Boxed.new (w.alloc (.cells #[.slice none 0 0] 83)) 4 (.bool false)).alloc (.cells #[.slice none 0 0] 83)
      rw [World.size_alloc] at h
      exact h
    · have h := Boxed.new ((w.alloc (.cells #[.slice none 0 0] 83)).alloc (.cells #[.bool false] 4)) 83 (.slice none 0 0)
      rw [World.size_alloc, World.size_alloc] at h
      exact h
    · exact World.ownsRow_nil _ _ _ _
    · exact (((Below.refl _ _).alloc (Nat.le_refl _) _).alloc (by simp) _).alloc (by simp; omega) _
  · rintro a' wr ⟨k, ts, V, cv, ds, u5, u6, u7, u13, u14, u15, u16, u17, u18, u19, u20, u21, u48, u49, u50, u51, u52, hk, ht, ⟨bR1, bR2, bTB, hrow, hB, hM, hsz⟩, rfl⟩
    have HT := Lib.hid ht
    obtain ⟨hNest, _, hTl⟩ := trees_good ns k ts (by have := HL.out; omega) ht
    by_cases hlt : k < n
    · have e4 := (HC.out k hlt).keep (hB.block b hP)
      have HGR := Lib.hid (grow_kin ts (ns.getD k nd0))
      have HMORE : Hid (∀ t, growT ts (ns.getD k nd0) = some t → trees (ns.take (k + 1)) = some (ts ++ [t])) := fun t hg => trees_more (by rw [HL.out]; exact hlt) HT.out hg
      have HCUT : Hid (growT ts (ns.getD k nd0) = none → trees ns = none) := fun hg => by
        refine trees_none (k := k + 1) ?_
        rw [trees_take ns k (by rw [HL.out]; exact hlt), HT.out]
        show (growT ts (ns.getD k nd0)).map _ = none
        rw [hg]
        rfl
      obtain ⟨x, hx⟩ : ∃ x, ns.getD k nd0 = x := ⟨_, rfl⟩
      rw [hx] at e4 HGR HMORE HCUT
      clear hx ht
      obtain ⟨op, xa, xb, xn⟩ := x
      obtain ⟨q0, q1, q2, q3⟩ := e4
      dsimp only at q0 q1 q2 q3
      have hkn : (k : Int) < n := by omega
      have hTW : TrAt ((wr.alloc (.cells #[.int .i64 op, .int .i64 xa, .int .i64 xb, .int .i64 xn] 39)).alloc (.cells #[.int .i64 (k : Int), .int .i64 1] 87)) (wr.heap.size + 1) 87 ((k : Int), 1) := by
        have h := TrAt.new (wr.alloc (.cells #[.int .i64 op, .int .i64 xa, .int .i64 xb, .int .i64 xn] 39)) 87 ((k : Int), 1)
        rw [World.size_alloc] at h
        exact h
      have hBW : Below wr.heap.size wr ((wr.alloc (.cells #[.int .i64 op, .int .i64 xa, .int .i64 xb, .int .i64 xn] 39)).alloc (.cells #[.int .i64 (k : Int), .int .i64 1] 87)) := ((Below.refl _ _).alloc (Nat.le_refl _) _).alloc (by simp) _
      gi_wp2_with (first
        | (refine ⟨trivial, ?_⟩; gi_at_call 115; refine (callsIn_wide.2 (children_any op xa xb xn _)).mono ?_; rintro e w1 ⟨g, rfl, hgb, hgc, bb⟩)
        | (refine ⟨trivial, ?_⟩; gi_at_call 114; refine (backward_in _ _ _ _ _).mono ?_; rintro e w2 ⟨rfl, rfl⟩))
      clear q0 q1 q2 q3 hkn
      have hN2 := arity_le op
      have HKU := Lib.hid (kids_upto op xa xb xn)
      obtain ⟨N, hNe⟩ : ∃ N, (arityN op).toNat = N := ⟨_, rfl⟩
      rw [hNe] at hN2 HKU ⊢
      clear hNe
      have hgl : g < w1.heap.size := (Array.getElem?_eq_some_iff.1 hgc).1
      have hgb' : wr.heap.size + 2 ≤ g := by simpa using hgb
      have hTW1 := hTW.on bb
      have hBW1 : Below wr.heap.size wr w1 := hBW.trans (bb.mono (by simp; omega))
      have hs1 : wr.heap.size + 2 ≤ w1.heap.size := by have := bb.size; simpa using this
      have hTW0 : TrAt (w1.alloc (.cells #[.slice (some ⟨g, 0, none⟩) N 2] 41)) (wr.heap.size + 1) 87 ((k : Int), 1) := hTW1.on (below_one _ _)
      have hBW0 : Below wr.heap.size wr (w1.alloc (.cells #[.slice (some ⟨g, 0, none⟩) N 2] 41)) := hBW1.alloc (by omega) _
      have hBx : Boxed (w1.alloc (.cells #[.slice (some ⟨g, 0, none⟩) N 2] 41)) w1.heap.size 41 (.slice (some ⟨g, 0, none⟩) N 2) := Boxed.new _ _ _
      have hgc0 : (w1.alloc (.cells #[.slice (some ⟨g, 0, none⟩) N 2] 41)).heap[g]? = some (.cells #[.int .i64 xa, .int .i64 xb] 3 (0, 0)) := ((below_one w1 _).block g hgl).trans hgc
      have hs0 : (w1.alloc (.cells #[.slice (some ⟨g, 0, none⟩) N 2] 41)).heap.size = w1.heap.size + 1 := by simp
      obtain ⟨W0, hW0⟩ : ∃ W0, w1.alloc (.cells #[.slice (some ⟨g, 0, none⟩) N 2] 41) = W0 := ⟨_, rfl⟩
      rw [hW0] at hTW0 hBW0 hBx hgc0 hs0 ⊢
      clear hW0 hTW hBW hTW1 hBW1 bb hgc hgb
      -- what a world that has only turned the tree still holds
      have hR1 : ∀ W, W0.grownBy W (some (wr.heap.size + 1)) → Boxed W w.heap.size 83 (.slice none 0 0) := fun W hG => (hG.block w.heap.size (by omega) (fun e => by injection e with e; omega)).trans ((hBW0.block _ (by omega)).trans bR1)
      have hR2 : ∀ W, W0.grownBy W (some (wr.heap.size + 1)) → Boxed W (w.heap.size + 1) 4 (.bool false) := fun W hG => (hG.block (w.heap.size + 1) (by omega) (fun e => by injection e with e; omega)).trans ((hBW0.block _ (by omega)).trans bR2)
      have hTB : ∀ W, W0.grownBy W (some (wr.heap.size + 1)) → Boxed W (w.heap.size + 1 + 1) 83 (.slice V k cv) := fun W hG => (hG.block (w.heap.size + 1 + 1) (by omega) (fun e => by injection e with e; omega)).trans ((hBW0.block _ (by omega)).trans bTB)
      have hGW : ∀ W, W0.grownBy W (some (wr.heap.size + 1)) → Below wr.heap.size wr W := fun W hG => hBW0.trans ⟨hG.os, hG.tape, hG.output, hG.size, fun i hi => hG.block i (by omega) (fun e => by injection e with e; omega)⟩
      have hOW : ∀ W, W0.grownBy W (some (wr.heap.size + 1)) → W.ownsRow (w.heap.size + 2) 87 2 (.slice V k cv) k (flatT ts) := fun W hG => own_keepN hrow (hGW W hG)
      have hMW : ∀ W, W0.grownBy W (some (wr.heap.size + 1)) → Marks (w.heap.size + 2) ds wr.heap.size W := fun W hG => hM.keep fun D' h1 h2 => ((hGW W hG).block D' h1).trans h2
      refine wpIn_rangeFunc_ownH rfl (by omega) (gf := 154) (lb := #[.pointer (some ⟨w1.heap.size, 0, none⟩)]) rfl trivial (enters_of Try.func154 (by kernel_rfl) rfl)
        (backward_stops _ (by omega) w1.heap.size g N xa xb hN2 W0 hBx hgc0 (by omega))
        KZ.trans (fun W l o1 o2 hl ho hc hw => ⟨(grownBy_putObj' W l o2).size, (grownBy_putObj' W l o2).block g (by have := (Array.getElem?_eq_some_iff.1 ho).1; omega) (fun e => by injection e with e; omega), (grownBy_putObj' W l o2).block w1.heap.size (by have := (Array.getElem?_eq_some_iff.1 ho).1; omega) (fun e => by injection e with e; omega)⟩) (Below.refl _ _) (fun _ => rfl)
        (fun pre W => ∃ t, kinT ts ((k : Int), 1) (pre.map Prod.snd) = some t ∧ TrAt W (wr.heap.size + 1) 87 t ∧ W0.grownBy W (some (wr.heap.size + 1)))
        (fun c' pre W => c' = .ret ∧ kinT ts ((k : Int), 1) (pre.map Prod.snd) = none ∧ W0.grownBy W (some (wr.heap.size + 1)))
        (fun pre W W' row hs hg' hr' => by
          obtain ⟨t, h1, h2, h3⟩ := hs
          exact ⟨t, h1, (hg'.block _ h2.lt (fun e => by have := (hr' _ e.symm).1; omega)).trans h2, grown_far h3 hg' (fun q e => (hr' q e).1)⟩)
        (fun c' pre W W' row hs hg' hr' => ⟨hs.1, hs.2.1, grown_far hs.2.2 hg' (fun q e => (hr' q e).1)⟩)
        ⟨_, rfl, hTW0, World.grownBy.refl _ _⟩
        (fun x a' _ => a' = { tmps := #[.slice (some ⟨b, o, none⟩) n c, undef, .pointer (some ⟨w.heap.size, 0, none⟩), .pointer (some ⟨w.heap.size + 1, 0, none⟩), .pointer (some ⟨w.heap.size + 1 + 1, 0, none⟩), .int .i64 (k : Int), .pointer (some ⟨wr.heap.size, 0, none⟩), .pointer (some ⟨wr.heap.size + 1, 0, none⟩), undef, .int .i64 x.2, .slice (some ⟨b, o, none⟩) n c, .int .i64 (n : Int), .int .i64 (k : Int), .bool true, .int .i64 (k : Int), .pointer (some ⟨b, o + k * 4, none⟩), .agg #[.int .i64 op, .int .i64 xa, .int .i64 xb, .int .i64 xn], .int .i64 (k : Int), .agg #[.int .i64 (k : Int), .int .i64 1], .agg #[.int .i64 op, .int .i64 xa, .int .i64 xb, .int .i64 xn], .slice (some ⟨g, 0, none⟩) N 2, .func (.func 154) #[] #[.pointer (some ⟨w1.heap.size, 0, none⟩)], .int .i64 x.1, .int .i64 x.2, undef, undef, undef, undef, undef, undef, undef, undef, undef, undef, undef, undef, undef, undef, undef, undef, undef, undef, undef, undef, undef, undef, undef, undef, u48, u49, u50, u51, u52, undef], defers := [] })
        (fun x a' _ _ _ _ hs _ _ => hs)
        ?assign ?body ?done ?stop
      case assign =>
        rintro l pre x W K hI hK
        gi_wp2
        exact hK _ _ (KeepsFrom.refl _ _) (KZ.refl _ _ _) hI rfl
      case body =>
        rintro l pre x a' W hl ⟨r, hr⟩ ⟨t, hrun, hT, hG⟩ rfl hlt'
        obtain ⟨ci, cx⟩ := x
        have hbd := kinT_bounds hNest hTl (pre.map Prod.snd) ((k : Int), 1) t (by dsimp only; omega) (by dsimp only; omega) (by dsimp only; omega) (by dsimp only; omega) hrun
        have hsn : kinT ts ((k : Int), 1) ((pre ++ [(ci, cx)]).map Prod.snd) = if 0 ≤ cx ∧ cx = t.1 - 1 then some ((ts.getD cx.toNat tr0).1, max t.2 ((ts.getD cx.toNat tr0).2 + 1)) else none := by
          rw [List.map_append, List.map_cons, List.map_nil, kinT_append, hrun]
          rfl
        have p0 := hT.c0
        have p1 := hT.c1
        have f0 := hT.fz 0
        have f1 := hT.fz 1
        obtain ⟨tf, td⟩ := t
        dsimp only at hbd hsn p0 p1 ⊢
        obtain ⟨hb0, hb1, hb2, hb3⟩ := hbd
        have hwt : IntKind.i64.wrap (tf - 1) = tf - 1 := IntWalk.i64_in _ (by omega)
        have cT := (hTB W hG).cell
        have hWl : W0.heap.size ≤ W.heap.size := hG.size
        by_cases hcc : 0 ≤ cx ∧ cx = tf - 1
        · rw [if_pos hcc] at hsn
          obtain ⟨j, rfl⟩ : ∃ j : Nat, cx = j := ⟨cx.toNat, by omega⟩
          rw [Int.toNat_natCast] at hsn
          have d1 : decide ((j : Int) < 0) = false := by simp
          have e1 : ((j : Int) != tf - 1) = false := by simpa using hcc.2
          have e2 : ((j : Int) != IntKind.i64.wrap (tf - 1)) = false := by rw [hwt]; exact e1
          have hjk : j < k := by omega
          obtain ⟨gV, rfl, hgV, hcV⟩ := own_rdT (hOW W hG) hTl (by omega)
          obtain ⟨v0, v1⟩ := hcV j hjk
          have hjb := (hNest j (by omega)).1
          generalize (ts.getD j tr0).1 = yf at *
          generalize (ts.getD j tr0).2 = yd at *
          obtain ⟨hj1, hj2, hj3, hj4⟩ := hjb
          have hjI : (j : Int) < k := by omega
          have hwy : IntKind.i64.wrap (yd + 1) = yd + 1 := IntWalk.i64_in _ (by omega)
          obtain ⟨m, hm⟩ : ∃ m, max td (yd + 1) = m := ⟨_, rfl⟩
          have hmx : (if td < yd + 1 then yd + 1 else td) = m := by rw [← hm]; split <;> omega
          rw [hm] at hsn
          have HSN := Lib.hid hsn
          clear hsn hm hcV hrun hcc
          gi_wp2
          refine region_lastL (by simp) (by kernel_rfl) (by kernel_rfl) (by kernel_rfl) ?_
          simp only [List.dropLast, List.getLast, idle, List.cons_append, List.nil_append]
          repeat (gi_big_quiet_step (fail))
          refine wpQuietIn_nil ?_
          rintro w' ⟨nq, rfl⟩
          have hT' : TrAt (W.drewN nq) (wr.heap.size + 1) 87 (tf, td) := hT
          have hgd : W.grownBy (((W.drewN nq).setCell ⟨wr.heap.size + 1, 0, none⟩ (.int .i64 yf)).setCell ⟨wr.heap.size + 1, 1, none⟩ (.int .i64 m)) (some (wr.heap.size + 1)) := grown_trans_some (grown_drewN (World.grownBy.refl W _) nq) (set2_grown (W.drewN nq) (wr.heap.size + 1) (.int .i64 yf) (.int .i64 m))
          have HGD := Lib.hid hgd
          have HTW := Lib.hid (TrAt.set2 hT' (yf, m))
          have HKZ : Hid (KZ g w1.heap.size W (((W.drewN nq).setCell ⟨wr.heap.size + 1, 0, none⟩ (.int .i64 yf)).setCell ⟨wr.heap.size + 1, 1, none⟩ (.int .i64 m))) := ⟨hgd.size, hgd.block g (by omega) (fun e => by injection e with e; omega), hgd.block w1.heap.size (by omega) (fun e => by injection e with e; omega)⟩
          have HKO : Hid (KeepsOthers W (((W.drewN nq).setCell ⟨wr.heap.size + 1, 0, none⟩ (.int .i64 yf)).setCell ⟨wr.heap.size + 1, 1, none⟩ (.int .i64 m))) := KeepsOthers.of_grownBy hgd (fun j' o' e ho => by injection e with e; subst e; rw [show W.heap[wr.heap.size + 1]? = _ from hT] at ho; injection ho with ho; subst ho; rfl)
          have p0' := hT'.c0
          have p1' := hT'.c1
          have f0' := hT'.fz 0
          have f1' := hT'.fz 1
          clear hgd
          gi_wp2
          exact ⟨HKO.out.from _, HKZ.out, ⟨_, _, HSN.out, HTW.out, grown_trans_some hG HGD.out⟩⟩
        · rw [if_neg hcc] at hsn
          have bR1' := hR1 W hG
          have bR2' := hR2 W hG
          have r1 := bR1'.cell
          have r2 := bR2'.cell
          have z1 := bR1'.frozen
          have z2 := bR2'.frozen
          have hG2 : W0.grownBy ((W.setCell ⟨w.heap.size, 0, none⟩ (.slice none 0 0)).setCell ⟨w.heap.size + 1, 0, none⟩ (.bool false)) (some (wr.heap.size + 1)) := by
            have k1 := grownBy_setCell' W w.heap.size (.slice none 0 0)
            have bR2'' : Boxed (W.setCell ⟨w.heap.size, 0, none⟩ (.slice none 0 0)) (w.heap.size + 1) 4 (.bool false) := bR2'.other (by omega) _
            have k2 := grownBy_setCell' (W.setCell ⟨w.heap.size, 0, none⟩ (.slice none 0 0)) (w.heap.size + 1) (.bool false)
            refine ⟨k2.os.trans (k1.os.trans hG.os), k2.tape.trans (k1.tape.trans hG.tape), k2.output.trans (k1.output.trans hG.output), Nat.le_trans hG.size (Nat.le_trans k1.size k2.size), fun i hi hne => ?_⟩
            refine Eq.trans ?_ (hG.block i hi hne)
            by_cases e2 : i = w.heap.size + 1
            · subst e2
              exact (boxed_same bR2'').trans (k1.block _ (by omega) (fun e => by injection e with e; omega))
            · refine (k2.block i (by have := k1.size; omega) (fun e => e2 (by injection e))).trans ?_
              by_cases e1 : i = w.heap.size
              · subst e1
                exact boxed_same bR1'
              · exact k1.block i (by omega) (fun e => e1 (by injection e))
          have HSN := Lib.hid hsn
          clear hsn hrun
          by_cases c0 : cx < 0
          · have d1 : decide (cx < 0) = true := decide_eq_true c0
            clear hcc
            gi_wp2
            exact ⟨((KeepsOthers.setCell _ _ _).trans (KeepsOthers.setCell _ _ _)).from _, rfl, HSN.out, hG2⟩
          · have d1 : decide (cx < 0) = false := decide_eq_false c0
            have e1 : (cx != tf - 1) = true := by simp; omega
            have e2 : (cx != IntKind.i64.wrap (tf - 1)) = true := by rw [hwt]; exact e1
            clear hcc
            gi_wp2
            exact ⟨((KeepsOthers.setCell _ _ _).trans (KeepsOthers.setCell _ _ _)).from _, rfl, HSN.out, hG2⟩
      case done =>
        rintro D0 zs W hD rfl ⟨t, hrun, hT, hG⟩ hK
        rw [HKU.out] at hrun
        have hgrow : growT ts (op, xa, xb, xn) = some t := by rw [HGR.out, hTl]; exact hrun
        have HM1 := Lib.hid (HMORE.out t hgrow)
        obtain ⟨tf, td⟩ := t
        have p0 := hT.c0
        have p1 := hT.c1
        dsimp only at p0 p1
        have hv := hTB W hG
        have hro := hOW W hG
        have cT := hv.cell
        have hWl : W0.heap.size ≤ W.heap.size := hG.size
        have hwk : IntKind.i64.wrap ((k : Int) + 1) = (k : Int) + 1 := IntWalk.i64_in _ (by omega)
        have hR1' := hR1 W hG
        have hR2' := hR2 W hG
        have hMW' := hMW W hG
        have hGW' := hGW W hG
        clear hR1 hR2 hTB hGW hOW hMW hrun hgrow HKU
        gi_wp2_with (gi_at_builtin; refine wpListIn_append_own _ rfl _ _ 83 rfl (w.heap.size + 2) 87 i0 (.agg #[.int .i64 0, .int .i64 0]) 2 16 Try.underlying83 hi hz0 hz1 hz2 rfl (by decide) _ _ _ rfl (hro.alloc _) ⟨W.heap.size, 0, none⟩ 1 1 [.int .i64 tf, .int .i64 td] rfl rfl (cell_two_new _ _ _ _) (by simp [Value.oneCell']) (by unfold maxLen; omega) (by omega) (by simp; omega) ?_; intro v' w3 hown' hgr _; obtain ⟨g', cap', rfl⟩ := ownsRow_succ hown'; obtain ⟨hv1, hv2, hr2, hk2, hb2⟩ := hv.appended (by decide) hro (by omega) (by omega) hown' hgr; have hc1 := hv1.cell; have hf1 := hv1.frozen)
        have hk1 : ((k + 1 : Nat) : Int) = (k : Int) + 1 := by omega
        have hs2 := hb2.size
        refine ⟨⟨k + 1, ts ++ [(tf, td)], some ⟨g', 0, none⟩, cap', { target := .collected D0, args := #[] } :: ds, _, _, _, _, _, _, _, _, _, _, _, _, _, _, _, _, _, by omega, HM1.out, ⟨(hb2.block w.heap.size (by omega)).trans hR1', (hb2.block (w.heap.size + 1) (by omega)).trans hR2', hv2, by rw [flatT_snoc]; exact hr2, hB.trans ((hGW'.mono (by omega)).trans (hb2.mono (by omega))), ⟨D0, rfl, by omega, ?_, hk2.same D0 _ hK rfl, (hMW'.keep fun D' h1 h2 => hk2.same D' _ h2 rfl).le (by omega)⟩, by omega⟩, by rw [hk1]⟩, ?_⟩
        · exact (Array.getElem?_eq_some_iff.1 (hk2.same D0 _ hK rfl)).1
        · simp [intOf]; omega
      case stop =>
        rintro D0 c' pre W hD ⟨j, hj, rfl⟩ ⟨rfl, hrun, hG⟩ hK
        have HN : Hid (trees ns = none) := by
          refine HCUT.out ?_
          obtain ⟨zs, hzs⟩ := uptoN_take (kidAt N xa xb) j N hj
          rw [HGR.out, hTl, ← HKU.out, hzs, List.map_append]
          exact kinT_none ts _ _ _ hrun
        have hR1' := hR1 W hG
        have hR2' := hR2 W hG
        have hMW' := hMW W hG
        have hGW' := hGW W hG
        have hWl : W0.heap.size ≤ W.heap.size := hG.size
        clear hR1 hR2 hTB hGW hOW hMW hrun HKU HGR HMORE HCUT
        gi_wp2
        refine leaves_marks (B := w.heap.size + 2) ({ target := .collected D0, args := #[] } :: ds) W.heap.size W ⟨D0, rfl, by omega, (Array.getElem?_eq_some_iff.1 hK).1, hK, hMW'.le (by omega)⟩ (by omega) ?_
        intro w' hw'
        have c1 := Boxed.cell (show Boxed w' w.heap.size 83 (.slice none 0 0) from hw'.2 _ _ _ _ hR1')
        have c2 := Boxed.cell (show Boxed w' (w.heap.size + 1) 4 (.bool false) from hw'.2 _ _ _ _ hR2')
        refine ⟨.tuple #[.slice none 0 0, .bool false], ?_, hB.trans ((hGW'.mono (by omega)).trans (hw'.1.mono (by omega))), .inl ⟨HN.out, rfl⟩⟩
        simp [results, Try.f68, go_sem, c1, c2]
    · obtain rfl : k = n := by omega
      have c1 := bR1.cell
      have z1 := bR1.frozen
      have c2 := bR2.cell
      have z2 := bR2.frozen
      have cT := bTB.cell
      have hd0 : decide ((k : Int) < k) = false := by simp
      have HTN : Hid (trees ns = some ts) := by
        have e := HL.out
        have h := HT.out
        rwa [← e, List.take_length] at h
      obtain ⟨gV, rfl, hgV, hcV⟩ := own_rdT hrow hTl (by omega)
      have hgb : w.heap.size + 2 ≤ gV := (hrow.lt gV rfl).1
      have k1 := grownBy_setCell' wr w.heap.size (.slice (some ⟨gV, 0, none⟩) k cv)
      have k2 := grownBy_setCell' (wr.setCell ⟨w.heap.size, 0, none⟩ (.slice (some ⟨gV, 0, none⟩) k cv)) (w.heap.size + 1) (.bool true)
      have b1 : Boxed ((wr.setCell ⟨w.heap.size, 0, none⟩ (.slice (some ⟨gV, 0, none⟩) k cv)).setCell ⟨w.heap.size + 1, 0, none⟩ (.bool true)) w.heap.size 83 (.slice (some ⟨gV, 0, none⟩) k cv) := Boxed.other (Boxed.set _ bR1) (by omega) _
      have b2 : Boxed ((wr.setCell ⟨w.heap.size, 0, none⟩ (.slice (some ⟨gV, 0, none⟩) k cv)).setCell ⟨w.heap.size + 1, 0, none⟩ (.bool true)) (w.heap.size + 1) 4 (.bool true) := Boxed.set _ (Boxed.other bR2 (by omega) _)
      have hko : KeepsOthers wr ((wr.setCell ⟨w.heap.size, 0, none⟩ (.slice (some ⟨gV, 0, none⟩) k cv)).setCell ⟨w.heap.size + 1, 0, none⟩ (.bool true)) := (KeepsOthers.setCell _ _ _).trans (KeepsOthers.setCell _ _ _)
      have hBB : Below w.heap.size w ((wr.setCell ⟨w.heap.size, 0, none⟩ (.slice (some ⟨gV, 0, none⟩) k cv)).setCell ⟨w.heap.size + 1, 0, none⟩ (.bool true)) := (hB.setCell (p := ⟨w.heap.size, 0, none⟩) (Nat.le_refl _) _).setCell (p := ⟨w.heap.size + 1, 0, none⟩) (by simp) _
      have hgq : ((wr.setCell ⟨w.heap.size, 0, none⟩ (.slice (some ⟨gV, 0, none⟩) k cv)).setCell ⟨w.heap.size + 1, 0, none⟩ (.bool true)).heap[gV]? = wr.heap[gV]? := (k2.block gV (by have := k1.size; omega) (fun e => by injection e with e; omega)).trans (k1.block gV hgV (fun e => by injection e with e; omega))
      have hMk := hM.keep (w' := (wr.setCell ⟨w.heap.size, 0, none⟩ (.slice (some ⟨gV, 0, none⟩) k cv)).setCell ⟨w.heap.size + 1, 0, none⟩ (.bool true)) fun D' _ h2 => hko.same D' _ h2 rfl
      gi_wp2
      refine leaves_marks (B := w.heap.size + 2) ds wr.heap.size _ hMk (by have := hko.size; omega) ?_
      intro w' hw'
      have d1 := Boxed.cell (show Boxed w' w.heap.size 83 (.slice (some ⟨gV, 0, none⟩) k cv) from hw'.2 _ _ _ _ b1)
      have d2 := Boxed.cell (show Boxed w' (w.heap.size + 1) 4 (.bool true) from hw'.2 _ _ _ _ b2)
      have hrT : RdT w' (some ⟨gV, 0, none⟩) k ts := by
        rcases hrow.2 with ⟨e', h0⟩ | ⟨g, cap, cur, e', _, hh, _⟩
        · omega
        · injection e' with e1
          injection e1 with e1
          injection e1 with e1
          subst e1
          have hh2 := hw'.2 _ _ _ _ (hgq.trans hh)
          exact ⟨gV, rfl, (Array.getElem?_eq_some_iff.1 hh2).1, fun i hi => ⟨(World.cell?_of_block (a := ⟨gV, i * 2, none⟩) (hh2.trans hh.symm)).trans (hcV i hi).1, (World.cell?_of_block (a := ⟨gV, i * 2 + 1, none⟩) (hh2.trans hh.symm)).trans (hcV i hi).2⟩⟩
      refine ⟨.tuple #[.slice (some ⟨gV, 0, none⟩) k cv, .bool true], ?_, hBB.trans (hw'.1.mono (by omega)), .inr ⟨ts, _, cv, HTN.out, rfl, hrT⟩⟩
      simp [results, Try.f68, go_sem, d1, d2]
end Go.Proofs.Ytgeijojkfojfbaa
