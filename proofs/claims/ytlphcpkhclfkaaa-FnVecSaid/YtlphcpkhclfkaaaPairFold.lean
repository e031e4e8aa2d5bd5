/-
  A vector out of two vectors' pairs: eachPair of the program, whatever joins a pair.
-/
import Derived.Test.YtlphcpkhclfkaaaDotFold
import Derived.Test.YtlphcpkhclfkaaaVecScale
import Derived.Test.YtlphcpkhclfkaaaNewSum
namespace Nt
open Go Go.RowKit
/-- a list of rationals in a row of the call's own, in a box -/
def RowAt (W : World) (b base : Nat) (ts tr : TypeId) (rs : List R3) : Prop :=
  ∃ V cv L, Boxed W b ts (.slice V L.length cv) ∧ W.ownsRow base tr 3 (.slice V L.length cv) L.length (flat L) ∧ PartsRd W V L ∧ L.map EV.v3 = rs
theorem own_own {X Y : World} {base n B0 : Nat} {tr : TypeId} {v : Value} {xs : List Value} {row : Option Nat} (h : X.ownsRow base tr 3 v n xs) (hg : X.grownBy Y row) (hr : ∀ r, row = some r → B0 ≤ r ∧ ∃ o : Obj, X.heap[r]? = some o ∧ o.isCells = false) : Y.ownsRow base tr 3 v n xs := by
  rcases h with ⟨h1, h2 | ⟨g, cap, cur, e', hb, hh, h3⟩⟩
  · exact ⟨h1, .inl h2⟩
  · refine ⟨h1, .inr ⟨g, cap, cur, e', hb, (hg.block g ?_ ?_).trans hh, h3⟩⟩
    · rcases Nat.lt_or_ge g X.heap.size with hlt | hge
      · exact hlt
      · rw [Array.getElem?_eq_none hge] at hh; cases hh
    · intro e
      obtain ⟨_, o, ho, hc⟩ := hr g e.symm
      rw [hh] at ho
      injection ho with ho
      subst ho
      cases hc
theorem RowAt.own {X Y : World} {b base B0 : Nat} {ts tr : TypeId} {rs : List R3} {row : Option Nat} (h : RowAt X b base ts tr rs) (hg : X.grownBy Y row) (hr : ∀ r, row = some r → B0 ≤ r ∧ ∃ o : Obj, X.heap[r]? = some o ∧ o.isCells = false) : RowAt Y b base ts tr rs := by
  obtain ⟨V, cv, L, h1, h2, h3, h4⟩ := h
  exact ⟨V, cv, L, (Own.from (boxed_own b ts fun (_ : Unit) => Value.slice V L.length cv) B0) () X Y row h1 hg hr, own_own h2 hg hr, fun i hi => ⟨(h3 i hi).1.own hg hr, (h3 i hi).2.own hg hr⟩, h4⟩
theorem RowAt.on {X Y : World} {b base : Nat} {ts tr : TypeId} {rs : List R3} (h : RowAt X b base ts tr rs) (hb : Below X.heap.size X Y) : RowAt Y b base ts tr rs := by
  obtain ⟨V, cv, L, h1, h2, h3, h4⟩ := h
  exact ⟨V, cv, L, (hb.block b h1.lt).trans h1, own_keep3 h2 hb, h3.on hb, h4⟩
theorem Rd.pastB {w w' : World} {P : Nat → Prop} {A : Option Addr} {n c : Nat} {xs : List Int} {r : Nat} {t : TypeId} {V : Option Addr} {m d : Nat} (h : Rd w P A n c xs) (hr : Boxed w r t (.slice V m d)) (hg : w.grownBy w' (some r)) : Rd w' P A n c xs := by
  refine ⟨h.1, h.2.1, h.2.2.1, fun hn => ?_⟩
  obtain ⟨b, o, e, hp, hlt, hc⟩ := h.2.2.2 hn
  have hne : b ≠ r := by
    intro e2
    subst e2
    have h0 := hc 0 hn
    rw [cell_of_row w b _ _ t (0, 0) hr] at h0
    match o, h0 with
    | 0, h0 => simp at h0
    | (k + 1), h0 => simp at h0
  exact ⟨b, o, e, hp, Nat.lt_of_lt_of_le hlt hg.size, fun i hi => (World.cell?_of_block (a := ⟨b, o + i, none⟩) (hg.block b hlt (fun e => hne (by injection e)))).trans (hc i hi)⟩
theorem PartsRd.set {w w' : World} {V : Option Addr} {L : List EV} {r : Nat} {t : TypeId} {U : Option Addr} {m d : Nat} (h : PartsRd w V L) (hg : w.grownBy w' (some r)) (hr : Boxed w r t (.slice U m d)) : PartsRd w' V L := fun i hi => ⟨(h i hi).1.pastB hr hg, (h i hi).2.pastB hr hg⟩
theorem row_set {w w' : World} {base n r : Nat} {tr : TypeId} {v : Value} {xs : List Value} (h : w.ownsRow base tr 3 v n xs) (hg : w.grownBy w' (some r)) (hr : r < base) : w'.ownsRow base tr 3 v n xs := by
  rcases h with ⟨h1, h2 | ⟨g, cap, cur, e', hb, hh, h3⟩⟩
  · exact ⟨h1, .inl h2⟩
  · refine ⟨h1, .inr ⟨g, cap, cur, e', hb, (hg.block g ?_ ?_).trans hh, h3⟩⟩
    · rcases Nat.lt_or_ge g w.heap.size with hlt | hge
      · exact hlt
      · rw [Array.getElem?_eq_none hge] at hh; cases hh
    · intro e; injection e with e; omega
/-- one more element: what the closure of eachPair answers -/
def EachAt (P : Program) (f jb : Nat) (tr : TypeId) (w0 : World) (n₀ : Nat) (g : EV → EV → Rat) : Prop :=
  ∀ (p q : EV) (V : Option Addr) (cv : Nat) (L : List EV) (base : Nat) (W : World), GoodE w0 n₀ p → GoodE w0 n₀ q → Below n₀ w0 W → n₀ ≤ base → base ≤ W.heap.size → L.length < 100 → W.ownsRow base tr 3 (.slice V L.length cv) L.length (flat L) → PartsRd W V L →
    Calls P f #[.slice V L.length cv, p.val, q.val, .pointer (some ⟨jb, 0, none⟩)] W fun e W' => ∃ V' cv' r, e = .returned (.slice V' (L.length + 1) cv') ∧ W'.ownsRow base tr 3 (.slice V' (L.length + 1) cv') (L.length + 1) (flat (L ++ [r])) ∧ PartsRd W' V' (L ++ [r]) ∧ r.v3 = rat3 (g p q) ∧ Below base W W' ∧ KeepsOthers W W'
def joined {w : World} {n₀ : Nat} (g : EV → EV → Rat) (pre : List (EP w n₀)) : List R3 := pre.map fun x => rat3 (g x.1.1 x.1.2)
theorem joined_snoc {w : World} {n₀ : Nat} (g : EV → EV → Rat) (pre : List (EP w n₀)) (x : EP w n₀) : joined g (pre ++ [x]) = joined g pre ++ [rat3 (g x.1.1 x.1.2)] := by simp [joined]
end Nt
namespace Go.Proofs.Ytlphcpkhclfkaaa
open Go Go.RowKit Nt Go.Shelf
attribute [local go_sem] Oper.semAt_some

set_option maxRecDepth 100000 in
set_option maxHeartbeats 4000000 in
theorem foldRow_in (jb : Nat) (g : EV → EV → Rat) (X : Option Addr) (Y : Option Addr) (N cx cy : Nat) (rs ss : List R3) (w : World) (hx : RdS w (· < w.heap.size) X N cx rs) (hy : RdS w (· < w.heap.size) Y N cy ss) (hrs : rs.all ok3 = true) (hss : ss.all ok3 = true) (hE : EachAt Try.prog 113 jb 28 w w.heap.size g) (h0 : 0 < N) (hN : N ≤ 3 + 1) :
    Calls Try.prog 112 #[.slice X N cx, .slice Y N cy, .slice none 0 0, .func (.func 113) #[] #[.pointer (some ⟨jb, 0, none⟩)]] w fun e w' => ∃ (l : List (EP w w.heap.size)) (V : Option Addr) (cv : Nat), l.map (fun x => x.1.1.v3) = rs ∧ l.map (fun x => x.1.2.v3) = ss ∧ e = .returned (.slice V N cv) ∧ RdS w' (fun _ => True) V N cv (joined g l) ∧ Below w.heap.size w w' := by
  obtain ⟨bx, ox, XE, rfl, hbx, _, hXe, hXg⟩ := hx.evs h0
  obtain ⟨b2, oy, YE, rfl, hb2, _, hYe, hYg⟩ := hy.evs h0
  have gx : ∀ i, GoodE w w.heap.size (XE i) := fun i => ⟨(hXg i).1, by
    obtain ⟨qs, rfl, hf⟩ := all_out hrs
    obtain ⟨q, hq, e⟩ := List.mem_map.1 (hXg i).2
    exact ⟨q, e.symm, (hf q hq).1, (hf q hq).2⟩⟩
  have gy : ∀ i, GoodE w w.heap.size (YE i) := fun i => ⟨(hYg i).1, by
    obtain ⟨qs, rfl, hf⟩ := all_out hss
    obtain ⟨q, hq, e⟩ := List.mem_map.1 (hYg i).2
    exact ⟨q, e.symm, (hf q hq).1, (hf q hq).2⟩⟩
  have HV1 : Hid ((upto (fun i => (⟨(XE i, YE i), gx i, gy i⟩ : EP w w.heap.size)) N).map (fun x => x.1.1.v3) = rs) := by
    have l1 := hx.len
    refine List.ext_getElem (by simp [upto, l1]) fun i h1 h2 => ?_
    have := (hXe i (by omega)).2
    simp only [upto, List.getElem_map, List.getElem_range]
    rw [this]
    simp [List.getD, h2]
  have HV2 : Hid ((upto (fun i => (⟨(XE i, YE i), gx i, gy i⟩ : EP w w.heap.size)) N).map (fun x => x.1.2.v3) = ss) := by
    have l1 := hy.len
    refine List.ext_getElem (by simp [upto, l1]) fun i h1 h2 => ?_
    have := (hYe i (by omega)).2
    simp only [upto, List.getElem_map, List.getElem_range]
    rw [this]
    simp [List.getD, h2]
  have HXe := Lib.hid hXe
  have HYe := Lib.hid hYe
  have HE := Lib.hid hE
  clear hXg hYg hrs hss hXe hYe hx hy hE
  refine (callsIn_wide (n := 9)).1 ?_
  refine callsIn_of_wp_marks Try.func112 rfl trivial ?_ rfl
  simp only [Try.ntmps112, List.size_toArray, List.length_cons, List.length_nil, Nat.reduceAdd, Nat.reduceSub, Array.replicate_succ, Array.replicate_zero, List.push_toArray, List.append_toArray, List.nil_append, List.cons_append]
  gi_wp2_with (refine ⟨trivial, ?_⟩; gi_at_call 169; refine (pairs_in _ _ _ _ _ _ _ _).mono ?_; rintro e w' ⟨rfl, rfl⟩)
  have hsz : ((((w.alloc (.cells #[.func (.func 113) #[] #[.pointer (some ⟨jb, 0, none⟩)]] 138)).alloc (.cells #[.slice none 0 0] 24)).alloc (.cells #[.slice (some ⟨bx, ox, none⟩) N cx] 24)).alloc (.cells #[.slice (some ⟨b2, oy, none⟩) N cy] 24)).heap.size = w.heap.size + 4 := by simp
  have bJ := (((Boxed.new w 138 (.func (.func 113) #[] #[.pointer (some ⟨jb, 0, none⟩)])).alloc (.cells #[.slice none 0 0] 24)).alloc (.cells #[.slice (some ⟨bx, ox, none⟩) N cx] 24)).alloc (.cells #[.slice (some ⟨b2, oy, none⟩) N cy] 24)
  have bS := ((Boxed.new (w.alloc (.cells #[.func (.func 113) #[] #[.pointer (some ⟨jb, 0, none⟩)]] 138)) 24 (.slice none 0 0)).alloc (.cells #[.slice (some ⟨bx, ox, none⟩) N cx] 24)).alloc (.cells #[.slice (some ⟨b2, oy, none⟩) N cy] 24)
  have bX := (Boxed.new ((w.alloc (.cells #[.func (.func 113) #[] #[.pointer (some ⟨jb, 0, none⟩)]] 138)).alloc (.cells #[.slice none 0 0] 24)) 24 (.slice (some ⟨bx, ox, none⟩) N cx)).alloc (.cells #[.slice (some ⟨b2, oy, none⟩) N cy] 24)
  have bY := Boxed.new (((w.alloc (.cells #[.func (.func 113) #[] #[.pointer (some ⟨jb, 0, none⟩)]] 138)).alloc (.cells #[.slice none 0 0] 24)).alloc (.cells #[.slice (some ⟨bx, ox, none⟩) N cx] 24)) 24 (.slice (some ⟨b2, oy, none⟩) N cy)
  simp only [World.size_alloc] at bS bX bY
  have hB0 : Below w.heap.size w ((((w.alloc (.cells #[.func (.func 113) #[] #[.pointer (some ⟨jb, 0, none⟩)]] 138)).alloc (.cells #[.slice none 0 0] 24)).alloc (.cells #[.slice (some ⟨bx, ox, none⟩) N cx] 24)).alloc (.cells #[.slice (some ⟨b2, oy, none⟩) N cy] 24)) := (((below1 w _).alloc (by simp) _).alloc (by simp; omega) _).alloc (by simp; omega) _
  obtain ⟨W0, hW0⟩ : ∃ W0, (((w.alloc (.cells #[.func (.func 113) #[] #[.pointer (some ⟨jb, 0, none⟩)]] 138)).alloc (.cells #[.slice none 0 0] 24)).alloc (.cells #[.slice (some ⟨bx, ox, none⟩) N cx] 24)).alloc (.cells #[.slice (some ⟨b2, oy, none⟩) N cy] 24) = W0 := ⟨_, rfl⟩
  rw [hW0] at bJ bS bX bY hB0 hsz ⊢
  clear hW0
  have bS0 : RowAt W0 (w.heap.size + 1) (w.heap.size + 4) 24 28 (joined g ([] : List (EP w w.heap.size))) := ⟨none, 0, [], bS, World.ownsRow_nil _ _ _ _, fun i hi => by simp at hi, rfl⟩
  clear bS
  refine wpIn_rangeFunc_ownH rfl (by omega) (gf := 192) (lb := #[.pointer (some ⟨w.heap.size + 1 + 1, 0, none⟩), .pointer (some ⟨w.heap.size + 1 + 1 + 1, 0, none⟩)]) rfl trivial (enters_of Try.func192 (by kernel_rfl) rfl)
    (pairs_stops _ (by omega) w (w.heap.size + 1 + 1) (w.heap.size + 1 + 1 + 1) w.heap.size bx ox cx b2 oy cy N (fun i => ⟨(XE i, YE i), gx i, gy i⟩) (by omega) hbx hb2 W0 (by omega) bX bY (fun j hj => (HXe.out j hj).1.below hbx hB0) (fun j hj => (HYe.out j hj).1.below hb2 hB0))
    KY.trans (fun W l o o' hl ho hc hw => ⟨belowK_b (w := W0) (by omega) W l o o' hl ho hc hw, (grownBy_putObj' W l o').block _ (by have := (Array.getElem?_eq_some_iff.1 ho).1; omega) (fun e => by injection e with e; omega)⟩) (Below.refl _ _) (fun _ => rfl)
    (fun pre W => (RowAt W (w.heap.size + 1) (w.heap.size + 4) 24 28 (joined g pre) ∧ (Boxed W w.heap.size 138 (.func (.func 113) #[] #[.pointer (some ⟨jb, 0, none⟩)]) ∧ Boxed W (w.heap.size + 1 + 1 + 1) 24 (.slice (some ⟨b2, oy, none⟩) N cy))) ∧ Below w.heap.size w W)
    (fun _ _ _ => False)
    (OwnFrom.and (OwnFrom.and (fun _ _ _ _ hs hg hr => hs.own hg hr) (OwnFrom.and (Own.from (boxed_own _ _ _) _) (Own.from (boxed_own _ _ _) _))) (ownFrom_below (Nat.le_refl _) (by omega)))
    (fun _ _ _ _ _ hs _ _ => hs)
    ⟨⟨bS0, bJ, bY⟩, hB0⟩
    (fun x a' W => ∃ Bp Bq, w.heap.size + 1 + 1 + 1 < Bp ∧ w.heap.size + 1 + 1 + 1 < Bq ∧ RatAt W Bp 28 x.1.1.neg x.1.1.A x.1.1.xs.length x.1.1.ca x.1.1.B x.1.1.ys.length x.1.1.cb ∧ RatAt W Bq 28 x.1.2.neg x.1.2.A x.1.2.xs.length x.1.2.ca x.1.2.B x.1.2.ys.length x.1.2.cb ∧ a' = { tmps := #[.slice (some ⟨bx, ox, none⟩) N cx, .slice (some ⟨b2, oy, none⟩) N cy, .slice none 0 0, .func (.func 113) #[] #[.pointer (some ⟨jb, 0, none⟩)], undef, undef, undef, .pointer (some ⟨w.heap.size, 0, none⟩), .slice none 0 0, .pointer (some ⟨w.heap.size + 1, 0, none⟩), .pointer (some ⟨Bp, 0, none⟩), .pointer (some ⟨Bq, 0, none⟩), .slice none 0 0, .slice (some ⟨bx, ox, none⟩) N cx, .slice (some ⟨b2, oy, none⟩) N cy, .func (.func 192) #[] #[.pointer (some ⟨w.heap.size + 1 + 1, 0, none⟩), .pointer (some ⟨w.heap.size + 1 + 1 + 1, 0, none⟩)], x.1.1.val, x.1.2.val, undef, undef, undef, undef, undef, undef], defers := [] })
    (fun x a' _ X Y row hs hg hr => by obtain ⟨Bp, Bq, h1, h2, h3, h4, h5⟩ := hs; exact ⟨Bp, Bq, h1, h2, h3.own hg hr, h4.own hg hr, h5⟩)
    ?assign ?body ?done ?stop
  case assign =>
    rintro l pre x W K ⟨⟨bS1, bJ1, bY1⟩, hB1⟩ hK
    have hs1 := hB1.size
    have hyl := bY1.lt
    simp only [EV.val]
    gi_wp2
    have hal := below2 W (.cells #[.bool x.1.1.neg, .slice x.1.1.A x.1.1.xs.length x.1.1.ca, .slice x.1.1.B x.1.1.ys.length x.1.1.cb] 28) (.cells #[.bool x.1.2.neg, .slice x.1.2.A x.1.2.xs.length x.1.2.ca, .slice x.1.2.B x.1.2.ys.length x.1.2.cb] 28)
    refine hK _ _ (((KeepsOthers.alloc _ _).trans (KeepsOthers.alloc _ _)).from _) ⟨((Below.refl _ W).alloc hs1 _).alloc (by simp; omega) _, (Below.heap_alloc _ _ _ (by simp; omega)).trans (Below.heap_alloc W _ _ hyl)⟩ ⟨⟨bS1.on hal, (bJ1.alloc _).alloc _, (bY1.alloc _).alloc _⟩, (hB1.alloc hs1 _).alloc (by simp; omega) _⟩ ⟨W.heap.size, W.heap.size + 1, by omega, by omega, (RatAt.new _ _ _ _ _ _ _ _ _).alloc _, RatAt.new1 _ _ _ _ _ _ _ _ _ _, rfl⟩
  case body =>
    rintro l pre x a' W hl ⟨r, hr⟩ ⟨⟨bS1, bJ1, bY1⟩, hB1⟩ ⟨Bp, Bq, hBp, hBq, rp, rq, rfl⟩ hlt
    obtain ⟨V, cv, L, cS1, oL, pL, eL⟩ := bS1
    have cS := cS1.cell
    have cJ := bJ1.cell
    have p0 := rp.c0
    have p1 := rp.c1
    have p2 := rp.c2
    have q0 := rq.c0
    have q1 := rq.c1
    have q2 := rq.c2
    have hs1 := hB1.size
    have hyl := bY1.lt
    have hlen : L.length = pre.length := by have := congrArg List.length eL; simpa [joined] using this
    have hcall := HE.out x.1.1 x.1.2 V cv L (w.heap.size + 4) W x.2.1 x.2.2 hB1 (by omega) (by omega) (by omega) oL pL
    have HEL := Lib.hid eL
    simp only [EV.val] at hcall ⊢
    clear eL hlen oL pL
    gi_wp2_with (refine ⟨trivial, ?_⟩; gi_at_call 113; refine (CallsIn.inRound l (callsIn_wide.2 hcall)).mono ?_; rintro e w1 ⟨V', cv', r', rfl, o', p', er, hb1, hk1⟩; have bS2 : Boxed w1 _ _ _ := (hb1.block _ (by omega)).trans cS1; have bJ2 : Boxed w1 _ _ _ := (hb1.block _ (by omega)).trans bJ1; have bY2 : Boxed w1 _ _ _ := (hb1.block _ (by omega)).trans bY1; have cS2 := bS2.cell; have fS2 := bS2.frozen)
    have hb2' := (hb1.mono (show w.heap.size ≤ w.heap.size + 4 by omega)).setCell (p := ⟨w.heap.size + 1, 0, none⟩) (by simp) (.slice V' (L.length + 1) cv')
    have g2 := grownBy_setCell' w1 (w.heap.size + 1) (.slice V' (L.length + 1) cv')
    refine ⟨(hk1.trans (KeepsOthers.setCell _ _ _)).from _, ⟨hb2', (bY2.other (by omega) _).trans bY1.symm⟩, ⟨⟨?_, bJ2.other (by omega) _, bY2.other (by omega) _⟩, hB1.trans hb2'⟩⟩
    refine ⟨V', cv', L ++ [r'], ?_, ?_, ?_, ?_⟩
    · rw [List.length_append, List.length_singleton]; exact bS2.set _
    · rw [List.length_append, List.length_singleton]; exact row_set o' g2 (by omega)
    · exact p'.set g2 bS2
    · rw [List.map_append, HEL.out, joined_snoc, ← er]; rfl
  case done =>
    rintro D0 zs W hD rfl ⟨⟨bS1, bJ1, bY1⟩, hB1⟩ hK
    obtain ⟨V, cv, L, cS1, oL, pL, eL⟩ := bS1
    have cS := cS1.cell
    have hlen : L.length = N := by have := congrArg List.length eL; simpa [joined, upto] using this
    have gp := grownBy_putObj' W D0 (.deferred none)
    have hrow : ∀ r : Nat, some D0 = some r → 0 ≤ r ∧ ∃ o : Obj, W.heap[r]? = some o ∧ o.isCells = false := fun r e => by injection e with e; subst e; exact ⟨Nat.zero_le _, _, hK, rfl⟩
    have HR := Lib.hid (PartsRd.rds (fun i hi => ⟨(pL i hi).1.own gp hrow, (pL i hi).2.own gp hrow⟩) (own_own oL gp hrow))
    rw [eL, hlen] at HR
    rw [hlen] at cS
    gi_wp2
    refine ⟨by simp, .inl ⟨_, _, rfl, run_takeDeferred hK, ?_⟩⟩
    exact ⟨_, results_tmp rfl _ _ _, _, V, cv, HV1.out, HV2.out, rfl, HR.out, hB1.trans (belowK_b (w := w) (Nat.le_refl _) W D0 _ _ (by omega) hK rfl rfl)⟩
  case stop =>
    rintro D c pre W _ _ h _
    exact h.elim
end Go.Proofs.Ytlphcpkhclfkaaa
