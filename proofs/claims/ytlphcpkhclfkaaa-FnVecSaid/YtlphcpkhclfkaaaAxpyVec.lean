/-
  Axpy of the program.
-/
import Derived.Test.YtlphcpkhclfkaaaPairFold
import Derived.Test.YtlphcpkhclfkaaaSameVec
import Derived.Test.YtlphcpkhclfkaaaScaleVec
namespace Nt
open Go Go.RowKit
/-- a times each of the one, and the other -/
def axL (a : Rat) (ps qs : List Rat) : List Rat := List.zipWith (fun p q => a * p + q) ps qs
theorem axL_len (a : Rat) {ps qs : List Rat} (h : ps.length = qs.length) : (axL a ps qs).length = ps.length := by unfold axL; rw [List.length_zipWith]; omega
theorem axL_get (a : Rat) {ps qs : List Rat} {k : Nat} (h1 : k < ps.length) (h2 : k < qs.length) : (axL a ps qs).getD k 0 = a * ps.getD k 0 + qs.getD k 0 := by
  unfold axL
  simp [List.getD, List.getElem?_zipWith, h1, h2]
theorem ax_lens (a p q : Rat) : (D (nu (a * p + q))).length ≤ max ((D (nu a)).length + (D (nu p)).length + (D q.den).length) ((D (nu q)).length + (D a.den).length + (D p.den).length) + 1 ∧ (D (a * p + q).den).length ≤ (D a.den).length + (D p.den).length + (D q.den).length := by
  have m := mul_lens a p
  have s := add_lens (a * p) q
  omega
theorem axL_mem {a : Rat} {ps qs : List Rat} (ha : (D (nu a)).length ≤ 40 ∧ (D a.den).length ≤ 40) (hp : Fine ps) (hq : Fine qs) : ∀ r ∈ axL a ps qs, (D (nu r)).length ≤ 121 ∧ (D r.den).length ≤ 120 := by
  intro r hr
  unfold axL at hr
  rw [List.mem_iff_getElem] at hr
  obtain ⟨i, hi, rfl⟩ := hr
  rw [List.getElem_zipWith]
  rw [List.length_zipWith] at hi
  have k1 := hp _ (List.getElem_mem (show i < ps.length by omega))
  have k2 := hq _ (List.getElem_mem (show i < qs.length by omega))
  have k3 := (D_len_le _ 40).2 k1.1
  have k4 := (D_len_le _ 40).2 k1.2
  have k5 := (D_len_le _ 40).2 k2.1
  have k6 := (D_len_le _ 40).2 k2.2
  have := ax_lens a ps[i] qs[i]
  omega
theorem joined_ax {w : World} {n₀ : Nat} (a : Rat) (l : List (EP w n₀)) (ps qs : List Rat) (h1 : l.map (fun x => x.1.1.v3) = ps.map rat3) (h2 : l.map (fun x => x.1.2.v3) = qs.map rat3) : joined (fun p q => a * qOf p + qOf q) l = (axL a ps qs).map rat3 := by
  have l1 : l.length = ps.length := by simpa using congrArg List.length h1
  have l2 : l.length = qs.length := by simpa using congrArg List.length h2
  unfold joined axL
  refine List.ext_getElem (by simp; omega) fun i a1 b1 => ?_
  have hi : i < l.length := by simpa using a1
  have e1 := congrArg (fun t => t[i]?) h1
  have e2 := congrArg (fun t => t[i]?) h2
  simp only [List.getElem?_map, List.getElem?_eq_getElem hi, List.getElem?_eq_getElem (show i < ps.length by omega), List.getElem?_eq_getElem (show i < qs.length by omega), Option.map_some, Option.some.injEq] at e1 e2
  simp only [List.getElem_map, List.getElem_zipWith]
  rw [qOf_eq e1, qOf_eq e2]
theorem keeps_row {w w' : World} {base n c : Nat} {tr : TypeId} {V : Option Addr} {xs : List Value} (ho : w.ownsRow base tr 3 (.slice V n c) n xs) (hg : w.grownBy w' (Value.slice V n c).ownBlock) : KeepsOthers w w' := by
  refine KeepsOthers.of_grownBy hg fun j o e hj => ?_
  rcases ho.2 with ⟨e', _⟩ | ⟨g, cap, cur, e', hb, hh, _⟩
  · rw [e'] at e; cases e
  · rw [e'] at e
    injection e with e
    have e : g = j := e
    subst e
    rw [hh] at hj
    injection hj with hj
    subst hj
    rfl
end Nt
namespace Go.Proofs.Ytlphcpkhclfkaaa
open Go Go.RowKit Nt Go.Shelf

set_option maxRecDepth 20000 in
set_option maxHeartbeats 1600000 in
theorem axpy1_any (a : Rat) (ab : Nat) (Aa Ba : Option Addr) (ca cb : Nat) (p q : EV) (w0 : World) (n₀ : Nat) (w : World) (ha : RatAt w0 ab 28 (isNeg a) Aa (D (nu a)).length ca Ba (D a.den).length cb) (hab : ab < n₀) (har : RdR w0 (· < n₀) (D (nu a)) (D a.den) Aa ca Ba cb) (l1 : (D (nu a)).length ≤ 40) (l2 : (D a.den).length ≤ 40) (hp : GoodE w0 n₀ p) (hq : GoodE w0 n₀ q) (hb : Below n₀ w0 w) (hn : n₀ ≤ w.heap.size) :
    Calls Try.prog 62 #[p.val, q.val, .pointer (some ⟨ab, 0, none⟩)] w (SayN w (isNeg (a * qOf p + qOf q)) (D (nu (a * qOf p + qOf q))) (D (a * qOf p + qOf q).den)) := by
  obtain ⟨x, a1, a2, a3, a4, a5, a6, a7⟩ := hp.on hb
  obtain ⟨y, b1, b2, b3, b4, b5, b6, b7⟩ := hq.on hb
  rw [qOf_eq a7, qOf_eq b7]
  unfold EV.val
  rw [a1, a2, a3, b1, b2, b3]
  have HA := Lib.hid ((har.below hb).mono (Q := (· < w.heap.size)) fun _ _ h => h)
  have HX := Lib.hid (a4.mono (Q := (· < w.heap.size)) fun _ _ h => h)
  have HY := Lib.hid (b4.mono (Q := (· < w.heap.size)) fun _ _ h => h)
  have HBA : Hid (RatAt w ab 28 (isNeg a) Aa (D (nu a)).length ca Ba (D a.den).length cb) := (hb.block ab hab).trans ha
  have hm := mul_lens a x
  have habw : ab < w.heap.size := by omega
  clear a1 a2 a3 a4 b1 b2 b3 b4 a7 b7 hb hp hq ha har
  have HT := Lib.hid (fun (W : World) (h0 : RdR W (· < w.heap.size) (D (nu a)) (D a.den) Aa ca Ba cb) (h1 : RdR W (· < w.heap.size) (D (nu x)) (D x.den) p.A p.ca p.B p.cb) => times_any a x Aa Ba ca cb p.A p.B p.ca p.cb _ _ W h0 h1 (by omega) (by omega) (by omega) (by omega))
  have HP := Lib.hid (fun (W : World) (Am Bm : Option Addr) (cm dm : Nat) (h0 : RdR W (fun _ => True) (D (nu (a * x))) (D (a * x).den) Am cm Bm dm) (h1 : RdR W (· < w.heap.size) (D (nu y)) (D y.den) q.A q.ca q.B q.cb) => plus_new (a * x) y Am Bm cm dm q.A q.B q.ca q.cb _ _ W h0 h1 (by omega) (by omega) (by omega) (by omega))
  generalize a * x = m at *
  generalize m + y = r at *
  go_enter Try.func62, Try.ntmps62
  go_upto_region 1 with fail
  refine wp_at (fun v0 => Below w.heap.size w v0 ∧ RatAt v0 ab 28 (isNeg a) Aa (D (nu a)).length ca Ba (D a.den).length cb ∧ RatAt v0 w.heap.size 28 (isNeg x) p.A (D (nu x)).length p.ca p.B (D x.den).length p.cb ∧ RatAt v0 (w.heap.size + 1) 28 (isNeg y) q.A (D (nu y)).length q.ca q.B (D y.den).length q.cb ∧ RatAt v0 (w.heap.size + 1 + 1) 28 false none 0 0 none 0 0)
    ⟨below3 _ _ _ _, HBA.out.on (below3 _ _ _ _), ((RatAt.new _ _ _ _ _ _ _ _ _).alloc _).alloc _, (RatAt.new1 _ _ _ _ _ _ _ _ _ _).alloc _, RatAt.new2 _ _ _ _ _ _ _ _ _ _ _⟩ ?_
  rintro v0 ⟨hb, rA, r0, r1, r2⟩
  have HB0 := Lib.hid hb
  have HQ0 := Lib.hid rA
  have HR0 := Lib.hid r0
  have HU0 := Lib.hid r1
  have HZ0 := Lib.hid r2
  have HA0 := Lib.hid (HA.out.below HB0.out)
  have HX0 := Lib.hid (HX.out.below HB0.out)
  clear hb rA r0 r1 r2
  go_region_held3 (fun wx => (wx.cell? ⟨ab, 0, none⟩ = some (.bool (isNeg a)) ∧ wx.cell? ⟨ab, 1, none⟩ = some (.slice Aa (D (nu a)).length ca) ∧ wx.cell? ⟨ab, 2, none⟩ = some (.slice Ba (D a.den).length cb)) ∧ (wx.cell? ⟨w.heap.size, 0, none⟩ = some (.bool (isNeg x)) ∧ wx.cell? ⟨w.heap.size, 1, none⟩ = some (.slice p.A (D (nu x)).length p.ca) ∧ wx.cell? ⟨w.heap.size, 2, none⟩ = some (.slice p.B (D x.den).length p.cb)) ∧ (wx.cell? ⟨w.heap.size + 1, 0, none⟩ = some (.bool (isNeg y)) ∧ wx.cell? ⟨w.heap.size + 1, 1, none⟩ = some (.slice q.A (D (nu y)).length q.ca) ∧ wx.cell? ⟨w.heap.size + 1, 2, none⟩ = some (.slice q.B (D y.den).length q.cb)))
    (first | exact ⟨⟨HQ0.out.c0, HQ0.out.c1, HQ0.out.c2⟩, ⟨HR0.out.c0, HR0.out.c1, HR0.out.c2⟩, ⟨HU0.out.c0, HU0.out.c1, HU0.out.c2⟩⟩ | exact ⟨⟨HQ1.out.c0, HQ1.out.c1, HQ1.out.c2⟩, ⟨HR1.out.c0, HR1.out.c1, HR1.out.c2⟩, ⟨HU1.out.c0, HU1.out.c1, HU1.out.c2⟩⟩ | exact ⟨⟨HQ2.out.c0, HQ2.out.c1, HQ2.out.c2⟩, ⟨HR2.out.c0, HR2.out.c1, HR2.out.c2⟩, ⟨HU2.out.c0, HU2.out.c1, HU2.out.c2⟩⟩ | exact ⟨⟨(HQ2.out.grown (setAll_grown _ _ _ _ _) (by omega)).c0, (HQ2.out.grown (setAll_grown _ _ _ _ _) (by omega)).c1, (HQ2.out.grown (setAll_grown _ _ _ _ _) (by omega)).c2⟩, ⟨(HR2.out.grown (setAll_grown _ _ _ _ _) (by omega)).c0, (HR2.out.grown (setAll_grown _ _ _ _ _) (by omega)).c1, (HR2.out.grown (setAll_grown _ _ _ _ _) (by omega)).c2⟩, ⟨(HU2.out.grown (setAll_grown _ _ _ _ _) (by omega)).c0, (HU2.out.grown (setAll_grown _ _ _ _ _) (by omega)).c1, (HU2.out.grown (setAll_grown _ _ _ _ _) (by omega)).c2⟩⟩)
    (first
      | (go_at_call 64; refine (HP.out _ A1 B1 c1 d1 (by exact HM1.out) (by exact HY.out.below HB1.out)).mono ?_; rintro e v2 ⟨A2, c2, B2, d2, rfl, o2, bb⟩; have HB2 := Lib.hid (below_on HB1.out bb); have HQ2 := Lib.hid (HQ1.out.on bb); have HR2 := Lib.hid (HR1.out.on bb); have HU2 := Lib.hid (HU1.out.on bb); have HZ2 := Lib.hid (HZ1.out.on bb); have HO2 := Lib.hid (o2.mono (Q := (w.heap.size ≤ ·)) fun _ h _ => Nat.le_trans HB1.out.size h); have f0 := HZ2.out.fz 0; have f1 := HZ2.out.fz 1; have f2 := HZ2.out.fz 2; have y0 := HZ2.out.c0; have y1 := HZ2.out.c1; have y2 := HZ2.out.c2; clear o2 bb)
      | (go_at_call 63; refine (HT.out _ (by exact HA0.out) (by exact HX0.out)).mono ?_; rintro e v1 ⟨A1, c1, B1, d1, rfl, o1, bb⟩; have bb := undrew bb; have HB1 := Lib.hid (below_on HB0.out bb); have HQ1 := Lib.hid (HQ0.out.on bb); have HR1 := Lib.hid (HR0.out.on bb); have HU1 := Lib.hid (HU0.out.on bb); have HZ1 := Lib.hid (HZ0.out.on bb); have HM1 := Lib.hid o1; clear o1 bb))
  go_wp2
  have g2 := fun b u v => setAll_grown v2 (w.heap.size + 1 + 1) (.bool b) u v
  refine bodyPost_ret (retR rfl _ _ _ rfl (HZ2.out.setAll _ _ _ _ _ _ _)) rfl ?_
  exact ⟨A2, c2, B2, d2, rfl, ⟨HO2.out.1.past HZ2.out (g2 _ _ _), HO2.out.2.past HZ2.out (g2 _ _ _)⟩, below_grow HB2.out (by omega) (g2 _ _ _)⟩

set_option maxHeartbeats 1600000 in
theorem eachPair1_axpy (a : Rat) (ab jb : Nat) (Aa Ba : Option Addr) (ca cb : Nat) (w0 : World) (n₀ : Nat) (hj : Boxed w0 jb 88 (.func (.func 62) #[] #[.pointer (some ⟨ab, 0, none⟩)])) (hjb : jb < n₀) (ha : RatAt w0 ab 28 (isNeg a) Aa (D (nu a)).length ca Ba (D a.den).length cb) (hab : ab < n₀) (har : RdR w0 (· < n₀) (D (nu a)) (D a.den) Aa ca Ba cb) (l1 : (D (nu a)).length ≤ 40) (l2 : (D a.den).length ≤ 40) :
    EachAt Try.prog 113 jb 28 w0 n₀ (fun p q => a * qOf p + qOf q) := by
  intro p q V cv L base W hp hq hb hnb hbs hL ho hpr
  have HJ : Hid (Boxed W jb 88 (.func (.func 62) #[] #[.pointer (some ⟨ab, 0, none⟩)])) := (hb.block jb hjb).trans hj
  have HC := Lib.hid (fun (W' : World) (h : Below n₀ w0 W') (hs : n₀ ≤ W'.heap.size) => axpy1_any a ab Aa Ba ca cb p q w0 n₀ W' ha hab har l1 l2 hp hq h hs)
  have HB := Lib.hid hb
  have HO := Lib.hid ho
  have HP := Lib.hid hpr
  have hsz := hb.size
  clear hp hq hb ha har hj ho hpr
  obtain ⟨r, hr⟩ : ∃ r, r = a * qOf p + qOf q := ⟨_, rfl⟩
  rw [← hr] at HC
  have HRR := Lib.hid hr
  clear hr
  simp only [EV.val] at HC ⊢
  generalize L.length = k at *
  go_enter Try.func113, Try.ntmps113
  have cJ := HJ.out.cell
  have hjl : jb < W.heap.size := HJ.out.lt
  go_wp2_with fail
  refine calls_at (fun V => Below W.heap.size W V) (by first | exact below2 _ _ _ | exact below1 _ _ | exact Below.refl _ _) ?_
  intro v0 b0
  refine (HC.out v0 (HB.out.trans (b0.mono (by omega))) (by have := b0.size; omega)).mono ?_
  rintro e w1 ⟨A1, c1, B1, d1, rfl, o1, b1⟩
  have b01 := below_on b0 b1
  have HB1 := Lib.hid b01
  have HO1 := Lib.hid (own_keep3 HO.out b01)
  have HN1 : Hid (RdR w1 (fun b => V ≠ some ⟨b, 0, none⟩) (D (nu r)) (D r.den) A1 c1 B1 d1) := o1.mono fun b h _ => row_ne HO.out b0.size b h
  have HP1 : Hid (PartsRd w1 V (L ++ [EV.mk (isNeg r) A1 c1 B1 d1 (D (nu r)) (D r.den)])) := (HP.out.on b01).snoc HN1.out
  have hs1 := b01.size
  clear o1 b0 b1 b01 HN1 HP HO cJ HJ HC
  obtain ⟨i0, hi0, hz0, hz1, hz2⟩ := info_parts infoRat
  go_wp2_with (at_builtin; refine wpList_append_lies _ rfl _ _ 24 rfl base 28 i0 _ 3 56 Try.underlying24 hi0 hz0 hz1 hz2 rfl (by decide) _ k _ rfl (HO1.out.alloc _) ⟨w1.heap.size, 0, none⟩ 1 1 [.bool (isNeg r), .slice A1 (D (nu r)).length c1, .slice B1 (D r.den).length d1] rfl rfl (cells3 _ _ _ _ _ _ _ _ _) (one3 _ _ _ _ _ _ _) (by decide) (by unfold maxLen; omega) (by omega) (by simp; omega) _ rfl ?_; intro g' cv' w2 hown hgrow hat hlt2)
  have hlit := below1 w1 (.cells #[.bool (isNeg r), .slice A1 (D (nu r)).length c1, .slice B1 (D r.den).length d1] 28)
  have HO2 : Hid (w2.ownsRow base 28 3 (.slice (some ⟨g', 0, none⟩) (k + 1) cv') (k + 1) (flat (L ++ [EV.mk (isNeg r) A1 c1 B1 d1 (D (nu r)) (D r.den)]))) := by rw [flat_snoc]; exact hown
  have HP2 : Hid (PartsRd w2 (some ⟨g', 0, none⟩) (L ++ [EV.mk (isNeg r) A1 c1 B1 d1 (D (nu r)) (D r.den)])) := (HP1.out.on hlit).appended (HO1.out.alloc _) hgrow hat
  have HB2 := Lib.hid (((HB1.out.mono hbs).trans (hlit.mono (by omega))).trans (rowed3_below (HO1.out.alloc _) (by simp; omega) hgrow))
  have HK2 := Lib.hid ((keeps_below HB1.out).trans ((keeps_below hlit).trans (keeps_row (HO1.out.alloc _) hgrow)))
  clear hown hgrow hat hlt2 hlit HP1 HO1 HB1
  go_wp2
  go_ret
  exact ⟨_, _, EV.mk (isNeg r) A1 c1 B1 d1 (D (nu r)) (D r.den), rfl, HO2.out, HP2.out, congrArg rat3 HRR.out, HB2.out, HK2.out⟩

set_option maxHeartbeats 1600000 in
theorem eachPair_axpy (a : Rat) (ab : Nat) (Aa Ba : Option Addr) (ca cb : Nat) (ps qs : List Rat) (X Y : Option Addr) (n cx cy : Nat) (P P' : Nat → Prop) (w : World) (hx : RdS w P X n cx (ps.map rat3)) (hy : RdS w P' Y n cy (qs.map rat3)) (hp : (ps.map rat3).all ok3 = true) (hq : (qs.map rat3).all ok3 = true) (ha : RatAt w ab 28 (isNeg a) Aa (D (nu a)).length ca Ba (D a.den).length cb) (har : RdR w (· < w.heap.size) (D (nu a)) (D a.den) Aa ca Ba cb) (l1 : (D (nu a)).length ≤ 40) (l2 : (D a.den).length ≤ 40) (h0 : 0 < n) (hn : n ≤ 3 + 1) :
    Calls Try.prog 61 #[.slice X n cx, .slice Y n cy, .func (.func 62) #[] #[.pointer (some ⟨ab, 0, none⟩)]] w fun e w' => ∃ V d, e = .returned (.slice V n d) ∧ RdS w' (fun _ => True) V n d ((axL a ps qs).map rat3) ∧ Below w.heap.size w w' := by
  have HX := Lib.hid hx.low
  have HY := Lib.hid hy.low
  have HP := Lib.hid hp
  have HQ := Lib.hid hq
  have HE := Lib.hid (eachPair1_axpy a ab w.heap.size Aa Ba ca cb (w.alloc (.cells #[.func (.func 62) #[] #[.pointer (some ⟨ab, 0, none⟩)]] 88)) (w.heap.size + 1) (Boxed.new _ _ _) (by omega) (ha.alloc _) (Nat.lt_succ_of_lt ha.lt) ((har.on (below1 _ _)).mono fun _ h _ => Nat.lt_succ_of_lt h) l1 l2)
  have HBW := Lib.hid (below1 w (.cells #[.func (.func 62) #[] #[.pointer (some ⟨ab, 0, none⟩)]] 88))
  clear hx hy hp hq ha har
  go_enter Try.func61, Try.ntmps61
  go_wp2_with fail
  refine calls_at (fun V => EachAt Try.prog 113 w.heap.size 28 V V.heap.size (fun p q => a * qOf p + qOf q) ∧ Below w.heap.size w V) ⟨by simpa using HE.out, HBW.out⟩ ?_
  rintro v0 ⟨e0, b0⟩
  refine (foldRow_in w.heap.size _ X Y n cx cy _ _ v0 (HX.out.below b0).low (HY.out.below b0).low HP.out HQ.out e0 h0 hn).mono ?_
  rintro e w1 ⟨l, V, d, e1, e2, rfl, r1, b1⟩
  rw [joined_ax a l ps qs e1 e2] at r1
  have HB1 := Lib.hid (below_on b0 b1)
  have HR1 := Lib.hid r1
  clear e0 b0 b1 r1 e1 e2 HE
  go_wp2
  go_ret
  exact ⟨V, d, rfl, HR1.out, HB1.out⟩

set_option maxHeartbeats 1600000 in
theorem implAxpy_code (ng : Bool) (Aa Ba : Option Addr) (la ca lb cb : Nat) (X : Option Addr) (n c : Nat) (rs : List R3) (Y : Option Addr) (m d : Nat) (ss : List R3) (P P' : Nat → Prop) (w : World) (hx : RdS w P X n c rs) (hy : RdS w P' Y m d ss) (hs : Small rs) (hs' : Small ss) (hn : n ≤ 1048576) (hm : m ≤ 1048576) (code : Int) (hcode : askV n m rs ss = code) (hc0 : code ≠ 0) :
    Calls Try.prog 14 #[.agg #[.bool ng, .slice Aa la ca, .slice Ba lb cb], .slice X n c, .slice Y m d] w (RetVC 28 3 w [] code) := by
  have HC := Lib.hid (vecCode_any (w.heap.size + 1) 2 (fun i => if i = 0 then X else Y) (fun i => if i = 0 then n else m) (fun i => if i = 0 then c else d) (fun i => if i = 0 then rs else ss) ((w.alloc (.cells #[.bool ng, .slice Aa la ca, .slice Ba lb cb] 28)).alloc (.cells #[.slice X n c, .slice Y m d] 24)) (by omega) (by omega) (by simp)
    (fun i hi => by
      have := two_cells (w.alloc (.cells #[.bool ng, .slice Aa la ca, .slice Ba lb cb] 28)) 24 (.slice X n c) (.slice Y m d) i hi
      rw [World.size_alloc] at this
      rw [this]
      by_cases e : i = 0 <;> simp [e])
    (fun i hi => by
      by_cases e : i = 0
      · simp only [e, if_true]; exact (hx.low.below (below2 _ _ _)).low
      · simp only [e, if_false]; exact (hy.low.below (below2 _ _ _)).low)
    (fun i hi => by by_cases e : i = 0 <;> simp only [e, if_true, if_false] <;> assumption)
    (fun i hi => by by_cases e : i = 0 <;> simp only [e, if_true, if_false] <;> assumption))
  rw [vcode2, hcode] at HC
  have hbc : (code != 0) = true := by simpa using hc0
  have HBW := Lib.hid (below2 w (.cells #[.bool ng, .slice Aa la ca, .slice Ba lb cb] 28) (.cells #[.slice X n c, .slice Y m d] 24))
  clear hx hy hs hs' hcode hc0
  go_enter Try.func14, Try.ntmps14
  go_wp2_with fail
  refine HC.out.mono ?_
  rintro e w1 ⟨rfl, b1⟩
  have HB1 := Lib.hid (below_on HBW.out b1)
  clear b1 HC HBW
  go_wp2
  go_ret2
  exact ⟨none, 0, [], rfl, ⟨World.ownsRow_nil _ _ _ _, fun i hi => by simp at hi, fun i j _ hj => by simp at hj⟩, rfl, HB1.out⟩

set_option maxHeartbeats 1600000 in
theorem implAxpy_rest (ng : Bool) (xs ys : List Int) (Aa Ba : Option Addr) (ca cb : Nat) (X : Option Addr) (n c : Nat) (rs : List R3) (Y : Option Addr) (d : Nat) (ss : List R3) (P P' P'' : Nat → Prop) (w : World) (ha : RdR w P xs ys Aa ca Ba cb) (hx : RdS w P' X n c rs) (hy : RdS w P'' Y n d ss) (hs : Small rs) (hs' : Small ss) (hl1 : xs.length ≤ 1048576) (hl2 : ys.length ≤ 1048576) (hask : askV n n rs ss = 0) (hn : n ≤ 1048576) (res : List R3) (code : Int)
    (hbad : okR ng xs ys = false → res = [] ∧ code = 1)
    (hok : okR ng xs ys = true → ∀ W : World, RdS W (· < w.heap.size) X n c rs → RdS W (· < w.heap.size) Y n d ss → RdR W (· < w.heap.size) xs ys Aa ca Ba cb → RatAt W w.heap.size 28 ng Aa xs.length ca Ba ys.length cb →
      Calls Try.prog 61 #[.slice X n c, .slice Y n d, .func (.func 62) #[] #[.pointer (some ⟨w.heap.size, 0, none⟩)]] W fun e w' => ∃ V d, e = .returned (.slice V n d) ∧ Calls Try.prog 60 #[.slice V n d] w' (RetVC 28 3 w' res code) ∧ Below W.heap.size W w') :
    Calls Try.prog 14 #[.agg #[.bool ng, .slice Aa xs.length ca, .slice Ba ys.length cb], .slice X n c, .slice Y n d] w (RetVC 28 3 w res code) := by
  have HC := Lib.hid (vecCode_any (w.heap.size + 1) 2 (fun i => if i = 0 then X else Y) (fun i => if i = 0 then n else n) (fun i => if i = 0 then c else d) (fun i => if i = 0 then rs else ss) ((w.alloc (.cells #[.bool ng, .slice Aa xs.length ca, .slice Ba ys.length cb] 28)).alloc (.cells #[.slice X n c, .slice Y n d] 24)) (by omega) (by omega) (by simp)
    (fun i hi => by
      have := two_cells (w.alloc (.cells #[.bool ng, .slice Aa xs.length ca, .slice Ba ys.length cb] 28)) 24 (.slice X n c) (.slice Y n d) i hi
      rw [World.size_alloc] at this
      rw [this]
      by_cases e : i = 0 <;> simp [e])
    (fun i hi => by
      by_cases e : i = 0
      · simp only [e, if_true]; exact (hx.low.below (below2 _ _ _)).low
      · simp only [e, if_false]; exact (hy.low.below (below2 _ _ _)).low)
    (fun i hi => by by_cases e : i = 0 <;> simp only [e, if_true, if_false] <;> assumption)
    (fun i hi => by by_cases e : i = 0 <;> simp only [e, if_true, if_false] <;> assumption))
  rw [vcode2, hask] at HC
  have HA := Lib.hid (ha.mono (Q := (· < w.heap.size)) fun _ _ h => h)
  have HX := Lib.hid hx.low
  have HY := Lib.hid hy.low
  have HBW := Lib.hid (below2 w (.cells #[.bool ng, .slice Aa xs.length ca, .slice Ba ys.length cb] 28) (.cells #[.slice X n c, .slice Y n d] 24))
  have HR0 := Lib.hid ((RatAt.new w 28 ng Aa Ba xs.length ca ys.length cb).alloc (.cells #[.slice X n c, .slice Y n d] 24))
  have HBAD := Lib.hid hbad
  have HOK := Lib.hid hok
  clear hx hy hs hs' hask ha hbad hok
  go_enter Try.func14, Try.ntmps14
  go_wp2_with fail
  refine HC.out.mono ?_
  rintro e w1 ⟨rfl, b1⟩
  have HB1 := Lib.hid (below_on HBW.out b1)
  have HR1 := Lib.hid (HR0.out.on b1)
  clear b1 HC HBW HR0
  have q0 := HR1.out.c0
  have q1 := HR1.out.c1
  have q2 := HR1.out.c2
  go_wp2_with fail
  have hlit := below1 w1 (.cells #[.bool ng, .slice Aa xs.length ca, .slice Ba ys.length cb] 28)
  refine (ratCodeS_any (some ⟨w1.heap.size, 0, none⟩) 1 1 [(ng, xs, ys)] _ _ (rds_one w1 28 ng xs ys Aa Ba ca cb _ (HA.out.below HB1.out)) (fun r hr => by simp at hr; subst hr; exact ⟨hl1, hl2⟩) (by omega)).mono ?_
  rintro e w2 ⟨rfl, b2⟩
  have HB2 := Lib.hid (below_on (below_on HB1.out hlit) b2)
  have HR2 := Lib.hid ((HR1.out.on hlit).on b2)
  clear hlit b2 q0 q1 q2 HB1 HR1
  by_cases hr : okR ng xs ys = true
  · have hcv : codeV [(ng, xs, ys)] = 0 := by unfold codeV; rw [if_pos]; simp [ok3, hr]
    rw [hcv]
    go_wp2_with fail
    refine (HOK.out hr w2 (HX.out.below HB2.out) (HY.out.below HB2.out) (HA.out.below HB2.out) HR2.out).mono ?_
    rintro e w3 ⟨V, d3, rfl, hf, b3⟩
    have HF := Lib.hid hf
    have HB3 := Lib.hid (below_on HB2.out b3)
    have hs3 := HB3.out.size
    clear hf b3 HOK HBAD hr hcv
    go_wp2_with fail
    refine HF.out.mono ?_
    rintro e w4 ⟨V4, d4, L, rfl, o4, v4, b4⟩
    have HO4 := Lib.hid o4
    have HV4 := Lib.hid v4
    have HB4 := Lib.hid (below_on HB3.out b4)
    clear o4 v4 b4
    go_wp2
    go_ret2
    exact ⟨V4, d4, L, rfl, ⟨own_mono3 HO4.out.1 hs3, fun i hi => OwnR.mono (HO4.out.2.1 i hi) hs3, HO4.out.2.2⟩, HV4.out, HB4.out⟩
  · have hr' := (Bool.not_eq_true _).mp hr
    have hcv : codeV [(ng, xs, ys)] = 1 := by unfold codeV; rw [if_neg]; simp [ok3, hr']
    obtain ⟨rfl, rfl⟩ := HBAD.out hr'
    rw [hcv]
    clear HOK HBAD hr hr' hcv
    go_wp2
    go_ret2
    exact ⟨none, 0, [], rfl, ⟨World.ownsRow_nil _ _ _ _, fun i hi => by simp at hi, fun i j _ hj => by simp at hj⟩, rfl, HB2.out⟩

theorem implAxpy_bad (ng : Bool) (xs ys : List Int) (Aa Ba : Option Addr) (ca cb : Nat) (X : Option Addr) (n c : Nat) (rs : List R3) (Y : Option Addr) (d : Nat) (ss : List R3) (P P' P'' : Nat → Prop) (w : World) (ha : RdR w P xs ys Aa ca Ba cb) (hx : RdS w P' X n c rs) (hy : RdS w P'' Y n d ss) (hs : Small rs) (hs' : Small ss) (hl1 : xs.length ≤ 1048576) (hl2 : ys.length ≤ 1048576) (hask : askV n n rs ss = 0) (hn : n ≤ 1048576) (hbad : okR ng xs ys = false) :
    Calls Try.prog 14 #[.agg #[.bool ng, .slice Aa xs.length ca, .slice Ba ys.length cb], .slice X n c, .slice Y n d] w (RetVC 28 3 w [] 1) :=
  implAxpy_rest ng xs ys Aa Ba ca cb X n c rs Y d ss P P' P'' w ha hx hy hs hs' hl1 hl2 hask hn [] 1 (fun _ => ⟨rfl, rfl⟩) (fun h => by rw [hbad] at h; cases h)

theorem implAxpy_ok (a : Rat) (ps qs : List Rat) (Aa Ba : Option Addr) (ca cb : Nat) (X Y : Option Addr) (n c d : Nat) (P P' P'' : Nat → Prop) (w : World) (ha : RdR w P (D (nu a)) (D a.den) Aa ca Ba cb) (hx : RdS w P' X n c (ps.map rat3)) (hy : RdS w P'' Y n d (qs.map rat3)) (h1 : nu a < Top) (h2 : a.den < Top) (hp : Fine ps) (hq : Fine qs) (hask : askV n n (ps.map rat3) (qs.map rat3) = 0) :
    Calls Try.prog 14 #[.agg #[.bool (isNeg a), .slice Aa (D (nu a)).length ca, .slice Ba (D a.den).length cb], .slice X n c, .slice Y n d] w (RetVC 28 3 w (fV (axL a ps qs)) (fVK (axL a ps qs))) := by
  obtain ⟨o1, o2, _, _⟩ := sameVV_yes hask
  have q1 := okV_out o1
  have hlp : ps.length = n := by have := hx.len; rw [List.length_map] at this; exact this
  have hlq : qs.length = n := by have := hy.len; rw [List.length_map] at this; exact this
  have q2 := q1.1
  have q3 := q1.2.1
  rw [List.length_map] at q2 q3
  have k1 := (D_len_le (nu a) 40).2 h1
  have k2 := (D_len_le a.den 40).2 h2
  have A1 : (ps.map rat3).all ok3 = true := by unfold okV at o1; simp only [Bool.and_eq_true] at o1; exact o1.2
  have A2 : (qs.map rat3).all ok3 = true := by unfold okV at o2; simp only [Bool.and_eq_true] at o2; exact o2.2
  refine implAxpy_rest _ _ _ Aa Ba ca cb X n c _ Y d _ P P' P'' w ha hx hy (small_fine hp) (small_fine hq) (by omega) (by omega) hask (by omega) _ _ (fun h => by rw [okR_rat a h1 h2] at h; cases h) (fun _ W kx ky ka kr => ?_)
  refine (eachPair_axpy a w.heap.size Aa Ba ca cb ps qs X Y n c d _ _ W kx ky A1 A2 kr (ka.mono fun _ h h2 => h2) k1 k2 (by omega) (by omega)).mono ?_
  rintro e w1 ⟨V, d1, rfl, r1, b1⟩
  exact ⟨V, d1, rfl, fittedVec_any (axL a ps qs) V n d1 _ w1 r1 (fun r hr => by have := axL_mem ⟨k1, k2⟩ hp hq r hr; omega) (by omega), b1⟩
end Go.Proofs.Ytlphcpkhclfkaaa
