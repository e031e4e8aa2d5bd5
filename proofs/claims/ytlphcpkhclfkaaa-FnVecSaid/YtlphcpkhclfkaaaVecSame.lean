/-
  Vectors that are alike: SameVec of the program (a fold over pairs that a function yields) and of the model.
-/
import Derived.Test.YtlphcpkhclfkaaaVecFold
import Derived.Test.YtlphcpkhclfkaaaGrpD
namespace Nt
open Go Go.RowKit
theorem rat3_inj {a b : Rat} (h : rat3 a = rat3 b) : a = b := by
  unfold rat3 at h
  injection h with h1 h2
  injection h2 with h2 h3
  have n1 : nu a = nu b := by rw [← natOf_D (nu a), ← natOf_D (nu b), h2]
  have n2 : a.den = b.den := by rw [← natOf_D a.den, ← natOf_D b.den, h3]
  refine Rat.ext ?_ n2
  unfold isNeg at h1
  unfold nu at n1
  rw [decide_eq_decide] at h1
  omega
theorem cmpQ_zero (a b : Rat) : (cmpQ a b == 0) = decide (rat3 a = rat3 b) := by
  rw [Bool.eq_iff_iff, beq_iff_eq, decide_eq_true_eq]
  unfold cmpQ
  rw [Int.sign_eq_zero_iff_zero, Rat.num_eq_zero]
  constructor
  · intro h
    have : a = b := by
      have h2 : a - b + b = 0 + b := by rw [h]
      rwa [Rat.sub_add_cancel, Rat.zero_add] at h2
    rw [this]
  · intro h
    rw [rat3_inj h, Rat.sub_self]
/-- the elements of a vector, and where they lie -/
theorem RdS.evs {w : World} {P : Nat → Prop} {A : Option Addr} {n c : Nat} {rs : List R3} (h : RdS w P A n c rs) (hn : 0 < n) :
    ∃ b o, ∃ X : Nat → EV, A = some ⟨b, o, none⟩ ∧ P b ∧ b < w.heap.size ∧ (∀ i, i < n → El3 w b (o + i * 3) (X i) ∧ (X i).v3 = rs.getD i r3) ∧ ∀ i, RdR w P (X i).xs (X i).ys (X i).A (X i).ca (X i).B (X i).cb ∧ (X i).v3 ∈ rs := by
  obtain ⟨b, o, e, hP, hlt, hc⟩ := h.at_ hn
  have hl := h.len
  have each : ∀ i, i < n → ∃ x : EV, El3 w b (o + i * 3) x ∧ x.v3 = rs.getD i r3 ∧ RdR w P x.xs x.ys x.A x.ca x.B x.cb := by
    intro i hi
    obtain ⟨A, ca, B, cb, h0, h1, h2, h3⟩ := hc i hi
    exact ⟨⟨(rs.getD i r3).1, A, ca, B, cb, (rs.getD i r3).2.1, (rs.getD i r3).2.2⟩, ⟨h0, h1, h2⟩, rfl, h3⟩
  have each' : ∀ i, ∃ x : EV, (i < n → El3 w b (o + i * 3) x ∧ x.v3 = rs.getD i r3) ∧ RdR w P x.xs x.ys x.A x.ca x.B x.cb ∧ x.v3 ∈ rs := by
    intro i
    by_cases hi : i < n
    · obtain ⟨x, h1, h2, h3⟩ := each i hi
      refine ⟨x, fun _ => ⟨h1, h2⟩, h3, ?_⟩
      rw [h2, show rs.getD i r3 = rs[i]'(by omega) from by simp [List.getD, show i < rs.length by omega]]
      exact List.getElem_mem _
    · obtain ⟨x, h1, h2, h3⟩ := each 0 hn
      refine ⟨x, fun h => absurd h hi, h3, ?_⟩
      rw [h2, show rs.getD 0 r3 = rs[0]'(by omega) from by simp [List.getD, show 0 < rs.length by omega]]
      exact List.getElem_mem _
  obtain ⟨X, hX⟩ := Classical.axiomOfChoice each'
  exact ⟨b, o, X, e, hP, hlt, fun i hi => (hX i).1 hi, fun i => (hX i).2⟩
theorem GoodE.on {w : World} {n₀ : Nat} {r : EV} (h : GoodE w n₀ r) {W : World} (hb : Below n₀ w W) : ∃ q : Rat, r.neg = isNeg q ∧ r.xs = D (nu q) ∧ r.ys = D q.den ∧ RdR W (· < n₀) (D (nu q)) (D q.den) r.A r.ca r.B r.cb ∧ (D (nu q)).length ≤ 40 ∧ (D q.den).length ≤ 40 ∧ r.v3 = rat3 q := by
  obtain ⟨hr, q, hq, t1, t2⟩ := h
  have e : (r.neg, r.xs, r.ys) = (isNeg q, D (nu q), D q.den) := hq
  injection e with e1 e2
  injection e2 with e2 e3
  refine ⟨q, e1, e2, e3, ?_, (D_len_le _ 40).2 t1, (D_len_le _ 40).2 t2, hq⟩
  rw [e2, e3] at hr
  exact hr.below hb
def sameAcc {w : World} {n₀ : Nat} (pre : List (EP w n₀)) : Bool := pre.all fun x => decide (x.1.1.v3 = x.1.2.v3)
theorem sameAcc_snoc {w : World} {n₀ : Nat} (pre : List (EP w n₀)) (x : EP w n₀) : sameAcc (pre ++ [x]) = (sameAcc pre && decide (x.1.1.v3 = x.1.2.v3)) := by simp [sameAcc]
theorem RatAt.own {B0 Bp : Nat} {t : TypeId} {neg : Bool} {A B : Option Addr} {la ca lb cb : Nat} {X Y : World} {row : Option Nat} (h : RatAt X Bp t neg A la ca B lb cb) (hg : X.grownBy Y row) (hr : ∀ r, row = some r → B0 ≤ r ∧ ∃ o : Obj, X.heap[r]? = some o ∧ o.isCells = false) : RatAt Y Bp t neg A la ca B lb cb := by
  refine (hg.block Bp h.lt (fun e => ?_)).trans h
  obtain ⟨_, o, ho, hc⟩ := hr Bp e.symm
  unfold RatAt at h
  rw [h] at ho
  injection ho with ho
  subst ho
  cases hc
theorem keeps_below {W W' : World} (h : Below W.heap.size W W') : KeepsOthers W W' := KeepsOthers.of_grownBy (below_grown h none) (fun r o e _ => by cases e)
end Nt
namespace Go.Proofs.Ytlphcpkhclfkaaa
open Go Go.RowKit Nt Go.Shelf
attribute [local go_sem] Oper.semAt_some

set_option maxHeartbeats 800000 in
theorem alike1_any (same : Bool) (p q : EV) (w0 : World) (n₀ : Nat) (w : World) (hp : GoodE w0 n₀ p) (hq : GoodE w0 n₀ q) (hb : Below n₀ w0 w) (hn : n₀ ≤ w.heap.size) :
    Calls Try.prog 132 #[.bool same, p.val, q.val] w fun e w' => e = .returned (.bool (same && decide (p.v3 = q.v3))) ∧ Below w.heap.size w w' := by
  obtain ⟨a, a1, a2, a3, a4, a5, a6, a7⟩ := hp.on hb
  obtain ⟨b, b1, b2, b3, b4, b5, b6, b7⟩ := hq.on hb
  have HR : Hid ((same && decide (p.v3 = q.v3)) = (same && (cmpQ a b == 0))) := by show _ = _; rw [cmpQ_zero, a7, b7]
  rw [HR.out]
  clear HR a7 b7 hp hq
  unfold EV.val
  rw [a1, a2, a3, b1, b2, b3]
  have HA := Lib.hid a4
  have HB := Lib.hid b4
  have HW := Lib.hid (below2 w (.cells #[.bool (isNeg a), .slice p.A (D (nu a)).length p.ca, .slice p.B (D a.den).length p.cb] 28) (.cells #[.bool (isNeg b), .slice q.A (D (nu b)).length q.ca, .slice q.B (D b.den).length q.cb] 28))
  clear a1 a2 a3 a4 b1 b2 b3 b4 hb
  cases same with
  | false =>
    go_enter Try.func132, Try.ntmps132
    go_wp2
    go_ret
    exact ⟨rfl, HW.out⟩
  | true =>
    go_enter Try.func132, Try.ntmps132
    go_wp2_with fail
    refine (compareQ_any a b p.A p.B p.ca p.cb q.A q.B q.ca q.cb _ _ _ (HA.out.below (HW.out.mono hn)) (HB.out.below (HW.out.mono hn)) (by omega) (by omega) (by omega) (by omega)).mono ?_
    rintro e w1 ⟨rfl, b1⟩
    have HB1 := Lib.hid (below_on HW.out b1)
    clear b1
    go_wp2
    go_ret
    exact ⟨by rw [Bool.true_and]; rfl, HB1.out⟩

theorem pairs_in (n : Nat) (X : Option Addr) (lx cx : Nat) (Y : Option Addr) (ly cy : Nat) (w : World) :
    CallsIn Fence.wide n Try.prog 169 #[.slice X lx cx, .slice Y ly cy] w fun e w' => e = .returned (.func (.func 192) #[] #[.pointer (some ⟨w.heap.size, 0, none⟩), .pointer (some ⟨w.heap.size + 1, 0, none⟩)]) ∧ w' = (w.alloc (.cells #[.slice X lx cx] 24)).alloc (.cells #[.slice Y ly cy] 24) := by
  refine callsIn_of_wp Try.func169 rfl trivial ?_ rfl
  simp only [Try.ntmps169, List.size_toArray, List.length_cons, List.length_nil, Nat.reduceAdd, Nat.reduceSub, Array.replicate_succ, Array.replicate_zero, List.push_toArray, List.append_toArray, List.nil_append, List.cons_append]
  gi_wp2
  go_ret
  exact ⟨rfl, rfl⟩

theorem pairs_stops (n : Nat) (hn : 1 ≤ n) (w0 : World) (Bx By n₀ bx ox cx b2 oy cy N : Nat) (f : Nat → EP w0 n₀) (hN : N ≤ 100) (hbx : bx < n₀) (hb2 : b2 < n₀) (w : World) (hn0 : n₀ ≤ w.heap.size) (hBx : Boxed w Bx 24 (.slice (some ⟨bx, ox, none⟩) N cx)) (hBy : Boxed w By 24 (.slice (some ⟨b2, oy, none⟩) N cy))
    (hcx : ∀ j, j < N → El3 w bx (ox + j * 3) (f j).1.1) (hcy : ∀ j, j < N → El3 w b2 (oy + j * 3) (f j).1.2) :
    SeqStopsK Fence.wide n Try.prog 192 #[.pointer (some ⟨Bx, 0, none⟩), .pointer (some ⟨By, 0, none⟩)] (fun x : EP w0 n₀ => #[x.1.1.val, x.1.2.val]) (KY n₀ By) (fun ys => ys = upto f N) (fun _ => True) N w := fun l J Jx W hW hJA _ hY h0 => by
  refine (pairs1_in n hn w0 l Bx By n₀ bx ox cx b2 oy cy N f hN hbx hb2 J Jx hY W (Nat.le_trans hn0 hW.size) hJA ((hW.cell (p := ⟨Bx, 0, none⟩) hBx.lt).trans hBx.cell) ((hW.block By hBy.lt).trans hBy) (fun j hj => (hcx j hj).below hbx (hW.mono hn0)) (fun j hj => (hcy j hj).below hb2 (hW.mono hn0)) h0).mono ?_
  rintro e W' ⟨he, ⟨ys, rfl, hj⟩ | ⟨pre, _, hj⟩⟩
  · exact ⟨he, .inl ⟨_, rfl, hj⟩⟩
  · exact ⟨he, .inr ⟨_, trivial, hj⟩⟩

set_option maxRecDepth 100000 in
set_option maxHeartbeats 4000000 in
theorem foldSame_in (X : Option Addr) (Y : Option Addr) (N cx cy : Nat) (rs ss : List R3) (w : World) (hx : RdS w (· < w.heap.size) X N cx rs) (hy : RdS w (· < w.heap.size) Y N cy ss) (hrs : rs.all ok3 = true) (hss : ss.all ok3 = true) (h0 : 0 < N) (hN : N ≤ 100) :
    Calls Try.prog 131 #[.slice X N cx, .slice Y N cy, .bool true, .func (.func 132) #[] #[]] w fun e w' => e = .returned (.bool (decide (rs = ss))) ∧ Below w.heap.size w w' := by
  obtain ⟨bx, ox, XE, rfl, hbx, _, hXe, hXg⟩ := hx.evs h0
  obtain ⟨b2, oy, YE, rfl, hb2, _, hYe, hYg⟩ := hy.evs h0
  have gx : ∀ i, GoodE w w.heap.size (XE i) := fun i => ⟨(hXg i).1, by
    obtain ⟨qs, rfl, hf⟩ := all_out hrs
    obtain ⟨q, hq, e⟩ := List.mem_map.1 (hXg i).2
    exact ⟨q, e.symm, (hf q hq).1, (hf q hq).2⟩⟩
  have gy : ∀ i, GoodE w w.heap.size (YE i) := fun i => ⟨(hYg i).1, by
    obtain ⟨qs, rfl, hf⟩ := all_out hss
    obtain ⟨q, hq, e⟩ := List.mem_map.1 (hYg i).2
    exact ⟨q, e.symm, (hf q hq).1, (hf q hq).2⟩⟩
  refine (callsIn_wide (n := 9)).1 ?_
  refine callsIn_of_wp_marks Try.func131 rfl trivial ?_ rfl
  simp only [Try.ntmps131, List.size_toArray, List.length_cons, List.length_nil, Nat.reduceAdd, Nat.reduceSub, Array.replicate_succ, Array.replicate_zero, List.push_toArray, List.append_toArray, List.nil_append, List.cons_append]
  gi_wp2_with (refine ⟨trivial, ?_⟩; gi_at_call 169; refine (pairs_in _ _ _ _ _ _ _ _).mono ?_; rintro e w' ⟨rfl, rfl⟩)
  have hsz : ((((w.alloc (.cells #[.func (.func 132) #[] #[]] 150)).alloc (.cells #[.bool true] 4)).alloc (.cells #[.slice (some ⟨bx, ox, none⟩) N cx] 24)).alloc (.cells #[.slice (some ⟨b2, oy, none⟩) N cy] 24)).heap.size = w.heap.size + 4 := by simp
  have bJ := (((Boxed.new w 150 (.func (.func 132) #[] #[])).alloc (.cells #[.bool true] 4)).alloc (.cells #[.slice (some ⟨bx, ox, none⟩) N cx] 24)).alloc (.cells #[.slice (some ⟨b2, oy, none⟩) N cy] 24)
  have bS := ((Boxed.new (w.alloc (.cells #[.func (.func 132) #[] #[]] 150)) 4 (.bool true)).alloc (.cells #[.slice (some ⟨bx, ox, none⟩) N cx] 24)).alloc (.cells #[.slice (some ⟨b2, oy, none⟩) N cy] 24)
  have bX := (Boxed.new ((w.alloc (.cells #[.func (.func 132) #[] #[]] 150)).alloc (.cells #[.bool true] 4)) 24 (.slice (some ⟨bx, ox, none⟩) N cx)).alloc (.cells #[.slice (some ⟨b2, oy, none⟩) N cy] 24)
  have bY := Boxed.new (((w.alloc (.cells #[.func (.func 132) #[] #[]] 150)).alloc (.cells #[.bool true] 4)).alloc (.cells #[.slice (some ⟨bx, ox, none⟩) N cx] 24)) 24 (.slice (some ⟨b2, oy, none⟩) N cy)
  simp only [World.size_alloc] at bS bX bY
  have hB0 : Below w.heap.size w ((((w.alloc (.cells #[.func (.func 132) #[] #[]] 150)).alloc (.cells #[.bool true] 4)).alloc (.cells #[.slice (some ⟨bx, ox, none⟩) N cx] 24)).alloc (.cells #[.slice (some ⟨b2, oy, none⟩) N cy] 24)) := (((below1 w _).alloc (by simp) _).alloc (by simp; omega) _).alloc (by simp; omega) _
  obtain ⟨W0, hW0⟩ : ∃ W0, (((w.alloc (.cells #[.func (.func 132) #[] #[]] 150)).alloc (.cells #[.bool true] 4)).alloc (.cells #[.slice (some ⟨bx, ox, none⟩) N cx] 24)).alloc (.cells #[.slice (some ⟨b2, oy, none⟩) N cy] 24) = W0 := ⟨_, rfl⟩
  rw [hW0] at bJ bS bX bY hB0 hsz ⊢
  clear hW0
  have HV : Hid (sameAcc (upto (fun i => (⟨(XE i, YE i), gx i, gy i⟩ : EP w w.heap.size)) N) = decide (rs = ss)) := by
    show _ = _
    rw [Bool.eq_iff_iff, decide_eq_true_eq]
    unfold sameAcc
    rw [List.all_eq_true]
    have l1 := hx.len
    have l2 := hy.len
    constructor
    · intro h
      refine List.ext_getElem (by omega) fun i h1 h2 => ?_
      have := h _ (List.mem_map.2 ⟨i, List.mem_range.2 (show i < N by omega), rfl⟩)
      rw [decide_eq_true_eq] at this
      have e : (XE i).v3 = (YE i).v3 := this
      rw [(hXe i (by omega)).2, (hYe i (by omega)).2] at e
      simpa [List.getD, h1, h2] using e
    · rintro rfl x hxm
      obtain ⟨i, hi, rfl⟩ := List.mem_map.1 hxm
      have hi := List.mem_range.1 hi
      rw [decide_eq_true_eq]
      show (XE i).v3 = (YE i).v3
      rw [(hXe i hi).2, (hYe i hi).2]
  have HXe := Lib.hid hXe
  have HYe := Lib.hid hYe
  clear hXg hYg hrs hss hXe hYe hx hy
  refine wpIn_rangeFunc_ownH rfl (by omega) (gf := 192) (lb := #[.pointer (some ⟨w.heap.size + 1 + 1, 0, none⟩), .pointer (some ⟨w.heap.size + 1 + 1 + 1, 0, none⟩)]) rfl trivial (enters_of Try.func192 (by kernel_rfl) rfl)
    (pairs_stops _ (by omega) w (w.heap.size + 1 + 1) (w.heap.size + 1 + 1 + 1) w.heap.size bx ox cx b2 oy cy N (fun i => ⟨(XE i, YE i), gx i, gy i⟩) hN hbx hb2 W0 (by omega) bX bY (fun j hj => (HXe.out j hj).1.below hbx hB0) (fun j hj => (HYe.out j hj).1.below hb2 hB0))
    KY.trans (fun W l o o' hl ho hc hw => ⟨belowK_b (w := W0) (by omega) W l o o' hl ho hc hw, (grownBy_putObj' W l o').block _ (by have := (Array.getElem?_eq_some_iff.1 ho).1; omega) (fun e => by injection e with e; omega)⟩) (Below.refl _ _) (fun _ => rfl)
    (fun pre W => (Boxed W (w.heap.size + 1) 4 (.bool (sameAcc pre)) ∧ (Boxed W w.heap.size 150 (.func (.func 132) #[] #[]) ∧ Boxed W (w.heap.size + 1 + 1 + 1) 24 (.slice (some ⟨b2, oy, none⟩) N cy))) ∧ Below w.heap.size w W)
    (fun _ _ _ => False)
    (OwnFrom.and (OwnFrom.and (Own.from (boxed_own _ _ _) _) (OwnFrom.and (Own.from (boxed_own _ _ _) _) (Own.from (boxed_own _ _ _) _))) (ownFrom_below (Nat.le_refl _) (by omega)))
    (fun _ _ _ _ _ hs _ _ => hs)
    ⟨⟨bS, bJ, bY⟩, hB0⟩
    (fun x a' W => ∃ Bp Bq, w.heap.size + 1 + 1 + 1 < Bp ∧ w.heap.size + 1 + 1 + 1 < Bq ∧ RatAt W Bp 28 x.1.1.neg x.1.1.A x.1.1.xs.length x.1.1.ca x.1.1.B x.1.1.ys.length x.1.1.cb ∧ RatAt W Bq 28 x.1.2.neg x.1.2.A x.1.2.xs.length x.1.2.ca x.1.2.B x.1.2.ys.length x.1.2.cb ∧ a' = { tmps := #[.slice (some ⟨bx, ox, none⟩) N cx, .slice (some ⟨b2, oy, none⟩) N cy, .bool true, .func (.func 132) #[] #[], undef, undef, undef, .pointer (some ⟨w.heap.size, 0, none⟩), .bool false, .pointer (some ⟨w.heap.size + 1, 0, none⟩), .pointer (some ⟨Bp, 0, none⟩), .pointer (some ⟨Bq, 0, none⟩), .bool true, .slice (some ⟨bx, ox, none⟩) N cx, .slice (some ⟨b2, oy, none⟩) N cy, .func (.func 192) #[] #[.pointer (some ⟨w.heap.size + 1 + 1, 0, none⟩), .pointer (some ⟨w.heap.size + 1 + 1 + 1, 0, none⟩)], x.1.1.val, x.1.2.val, undef, undef, undef, undef, undef, undef], defers := [] })
    (fun x a' _ X Y row hs hg hr => by obtain ⟨Bp, Bq, h1, h2, h3, h4, h5⟩ := hs; exact ⟨Bp, Bq, h1, h2, h3.own hg hr, h4.own hg hr, h5⟩)
    ?assign ?body ?done ?stop
  case assign =>
    rintro l pre x W K ⟨⟨bS1, bJ1, bY1⟩, hB1⟩ hK
    have hs1 := hB1.size
    have hyl := bY1.lt
    simp only [EV.val]
    gi_wp2
    refine hK _ _ (((KeepsOthers.alloc _ _).trans (KeepsOthers.alloc _ _)).from _) ⟨((Below.refl _ W).alloc hs1 _).alloc (by simp; omega) _, (Below.heap_alloc _ _ _ (by simp; omega)).trans (Below.heap_alloc W _ _ hyl)⟩ ⟨⟨(bS1.alloc _).alloc _, (bJ1.alloc _).alloc _, (bY1.alloc _).alloc _⟩, (hB1.alloc hs1 _).alloc (by simp; omega) _⟩ ⟨W.heap.size, W.heap.size + 1, by omega, by omega, (RatAt.new _ _ _ _ _ _ _ _ _).alloc _, RatAt.new1 _ _ _ _ _ _ _ _ _ _, rfl⟩
  case body =>
    rintro l pre x a' W hl ⟨r, hr⟩ ⟨⟨bS1, bJ1, bY1⟩, hB1⟩ ⟨Bp, Bq, hBp, hBq, rp, rq, rfl⟩ hlt
    have cS := bS1.cell
    have cJ := bJ1.cell
    have p0 := rp.c0
    have p1 := rp.c1
    have p2 := rp.c2
    have q0 := rq.c0
    have q1 := rq.c1
    have q2 := rq.c2
    have hs1 := hB1.size
    have hyl := bY1.lt
    have hcall := alike1_any (sameAcc pre) x.1.1 x.1.2 w w.heap.size W x.2.1 x.2.2 hB1 hs1
    simp only [EV.val] at hcall ⊢
    gi_wp2_with (refine ⟨trivial, ?_⟩; gi_at_call 132; refine (CallsIn.inRound l (callsIn_wide.2 hcall)).mono ?_; rintro e w1 ⟨rfl, hb1⟩; have bS2 : Boxed w1 _ _ _ := (hb1.block _ bS1.lt).trans bS1; have bJ2 : Boxed w1 _ _ _ := (hb1.block _ bJ1.lt).trans bJ1; have bY2 : Boxed w1 _ _ _ := (hb1.block _ bY1.lt).trans bY1; have cS2 := bS2.cell; have fS2 := bS2.frozen)
    have hb2' := (hb1.mono hs1).setCell (p := ⟨w.heap.size + 1, 0, none⟩) (by simp) (.bool (sameAcc pre && decide (x.1.1.v3 = x.1.2.v3)))
    exact ⟨((keeps_below hb1).trans (KeepsOthers.setCell _ _ _)).from _, ⟨hb2', (bY2.other (by omega) _).trans bY1.symm⟩, ⟨⟨by rw [sameAcc_snoc]; exact bS2.set _, bJ2.other (by omega) _, bY2.other (by omega) _⟩, hB1.trans hb2'⟩⟩
  case done =>
    rintro D zs W hD rfl ⟨⟨bS1, bJ1, bY1⟩, hB1⟩ hK
    have cS := bS1.cell
    rw [HV.out] at cS
    gi_wp2
    refine ⟨by simp, .inl ⟨_, _, rfl, run_takeDeferred hK, ?_⟩⟩
    exact ⟨_, results_tmp rfl _ _ _, rfl, hB1.trans (belowK_b (w := w) (Nat.le_refl _) W D _ _ (by omega) hK rfl rfl)⟩
  case stop =>
    rintro D c pre W _ _ h _
    exact h.elim
end Go.Proofs.Ytlphcpkhclfkaaa
