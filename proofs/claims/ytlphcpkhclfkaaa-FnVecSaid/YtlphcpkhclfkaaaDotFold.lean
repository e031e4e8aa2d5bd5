/-
  The sum of two vectors' products: dotted of the program.
-/
import Derived.Test.YtlphcpkhclfkaaaVecSame
import Derived.Test.YtlphcpkhclfkaaaGrpD
namespace Nt
open Go Go.RowKit
theorem RatAt.rowedD {w w' : World} {b base : Nat} {t te : TypeId} {neg : Bool} {A B : Option Addr} {la ca lb cb : Nat} {V : Option Addr} {n c : Nat} {xs : List Value} (h : RatAt w b t neg A la ca B lb cb) (ho : w.ownsRow base te 1 (.slice V n c) n xs) (hb : b < base) (hg : w.grownBy w' (Value.slice V n c).ownBlock) : RatAt w' b t neg A la ca B lb cb :=
  (hg.block b h.lt (fun e => by have := (ho.lt _ e.symm).1; omega)).trans h
/-- an element's number -/
def qOf (r : EV) : Rat := mkRat (sg r.neg (natOf r.xs)) (natOf r.ys)
theorem qOf_eq {r : EV} {q : Rat} (h : r.v3 = rat3 q) : qOf r = q := by
  have e : (r.neg, r.xs, r.ys) = (isNeg q, D (nu q), D q.den) := h
  injection e with e1 e2
  injection e2 with e2 e3
  unfold qOf
  rw [e1, e2, e3, natOf_D, natOf_D]
  have : sg (isNeg q) (nu q) = q.num := by
    unfold sg isNeg nu
    by_cases h : q.num < 0
    · rw [decide_eq_true h]; simp; omega
    · rw [decide_eq_false h]; simp; omega
  rw [this, Rat.mkRat_self]
def dotL : List (EV × EV) → Rat
  | [] => 0
  | x :: r => dotL r + qOf x.1 * qOf x.2
def accQ {w : World} {n₀ : Nat} (pre : List (EP w n₀)) : Rat := dotL ((pre.map fun x => x.1).reverse)
theorem accQ_snoc {w : World} {n₀ : Nat} (pre : List (EP w n₀)) (x : EP w n₀) : accQ (pre ++ [x]) = accQ pre + qOf x.1.1 * qOf x.1.2 := by simp [accQ, dotL]
theorem zero_lens : (D (nu (0 : Rat))).length = 0 ∧ (D (0 : Rat).den).length = 1 := ⟨by decide, by decide⟩
theorem add_mul_lens {s a b : Rat} {k : Nat} (h1 : (D (nu s)).length ≤ 81 * k + 1) (h2 : (D s.den).length ≤ 80 * k + 1) (a1 : (D (nu a)).length ≤ 40) (a2 : (D a.den).length ≤ 40) (b1 : (D (nu b)).length ≤ 40) (b2 : (D b.den).length ≤ 40) : (D (nu (s + a * b))).length ≤ 81 * (k + 1) + 1 ∧ (D (s + a * b).den).length ≤ 80 * (k + 1) + 1 := by
  have m := mul_lens a b
  have p := add_lens s (a * b)
  omega
theorem accQ_lens {w : World} {n₀ : Nat} (pre : List (EP w n₀)) : (D (nu (accQ pre))).length ≤ 81 * pre.length + 1 ∧ (D (accQ pre).den).length ≤ 80 * pre.length + 1 := by
  have key : ∀ l : List (EP w n₀), (D (nu (dotL (l.map fun x => x.1)))).length ≤ 81 * l.length + 1 ∧ (D (dotL (l.map fun x => x.1)).den).length ≤ 80 * l.length + 1 := by
    intro l
    induction l with
    | nil => have := zero_lens; simp only [List.map_nil, dotL, List.length_nil]; omega
    | cons x l ih =>
      obtain ⟨qa, _, _, _, _, a1, a2, ea⟩ := x.2.1.on (Below.refl _ _)
      obtain ⟨qb, _, _, _, _, b1, b2, eb⟩ := x.2.2.on (Below.refl _ _)
      simp only [List.map_cons, dotL, List.length_cons]
      rw [qOf_eq ea, qOf_eq eb]
      exact add_mul_lens ih.1 ih.2 a1 a2 b1 b2
  have := key pre.reverse
  rw [List.map_reverse, List.length_reverse] at this
  exact this
theorem Rd.own {X Y : World} {P : Nat → Prop} {A : Option Addr} {n c B0 : Nat} {xs : List Int} {row : Option Nat} (h : Rd X P A n c xs) (hg : X.grownBy Y row) (hr : ∀ r, row = some r → B0 ≤ r ∧ ∃ o : Obj, X.heap[r]? = some o ∧ o.isCells = false) : Rd Y P A n c xs := by
  refine ⟨h.1, h.2.1, h.2.2.1, fun hn => ?_⟩
  obtain ⟨b, o, e, hp, hlt, hc⟩ := h.2.2.2 hn
  have hne : row ≠ some b := by
    intro er
    obtain ⟨_, ob, ho, hcl⟩ := hr b er
    have := hc 0 hn
    rw [Nat.add_zero] at this
    unfold World.cell? at this
    simp only [ho] at this
    cases ob <;> simp_all [Obj.isCells]
  exact ⟨b, o, e, hp, Nat.lt_of_lt_of_le hlt hg.size, fun i hi => (World.cell?_of_block (a := ⟨b, o + i, none⟩) (hg.block b hlt (fun e => hne e.symm))).trans (hc i hi)⟩
/-- a rational in a box, and its lists -/
def SumAt (W : World) (b : Nat) (t : TypeId) (s : Rat) : Prop := ∃ A ca B cb, RatAt W b t (isNeg s) A (D (nu s)).length ca B (D s.den).length cb ∧ RdR W (fun _ => True) (D (nu s)) (D s.den) A ca B cb
theorem SumAt.own {X Y : World} {b B0 : Nat} {t : TypeId} {s : Rat} {row : Option Nat} (h : SumAt X b t s) (hg : X.grownBy Y row) (hr : ∀ r, row = some r → B0 ≤ r ∧ ∃ o : Obj, X.heap[r]? = some o ∧ o.isCells = false) : SumAt Y b t s := by
  obtain ⟨A, ca, B, cb, h1, h2⟩ := h
  exact ⟨A, ca, B, cb, h1.own hg hr, h2.1.own hg hr, h2.2.own hg hr⟩
theorem SumAt.on {X Y : World} {b : Nat} {t : TypeId} {s : Rat} (h : SumAt X b t s) (hb : Below X.heap.size X Y) : SumAt Y b t s := by
  obtain ⟨A, ca, B, cb, h1, h2⟩ := h
  exact ⟨A, ca, B, cb, h1.on hb, h2.on hb⟩
theorem SumAt.lt {X : World} {b : Nat} {t : TypeId} {s : Rat} (h : SumAt X b t s) : b < X.heap.size := by
  obtain ⟨A, ca, B, cb, h1, h2⟩ := h
  exact h1.lt
end Nt
namespace Go.Proofs.Ytlphcpkhclfkaaa
open Go Go.RowKit Nt Go.Shelf
attribute [local go_sem] Oper.semAt_some

set_option maxHeartbeats 800000 in
theorem wholeRat_dot (m : Nat) (w : World) (hm : m ≤ 1000000000) :
    Calls Try.prog 128 #[.int .i64 ((m : Int))] w (SayR w false (D m) (D 1)) := by
  have HN5 := Lib.hid (small_len (n := m) (by omega))
  have hmax : max (m : Int) (-(m : Int)) = m := by omega
  have hle : -(m : Int) ≤ (m : Int) := by omega
  have hng : decide ((m : Int) < 0) = false := decide_eq_false (by omega)
  go_enter Try.func128, Try.ntmps128
  go_wp2
  go_loopw [3, 4] (fun v q wr => ∃ (j l : Nat) (out : List Int) (V : Option Addr) (cv : Nat), j ≤ m ∧ q = .int .i64 j ∧ v = .slice V l cv ∧ Hid (out.length = l) ∧ Hid (D m = out ++ D j) ∧ Hid (wr.ownsRow (w.heap.size + 1) 3 1 (.slice V l cv) l (out.map (Value.int .i64))) ∧ Hid (RatAt wr w.heap.size 28 false none 0 0 none 0 0) ∧ Hid (Below w.heap.size w wr)) (fun _ q _ => (intOf q).toNat)
  case atStart => exact ⟨m, 0, [], _, _, Nat.le_refl _, rfl, rfl, Lib.hid rfl, Lib.hid rfl, Lib.hid ⟨rfl, .inl ⟨rfl, rfl⟩⟩, Lib.hid (RatAt.new _ _ _ _ _ _ _ _ _), Lib.hid (below1 _ _)⟩
  case round =>
    obtain ⟨j, l, out, V, cv, hj, rfl, rfl, HOL, HD, HO, HT, HB⟩ := hrel
    have hl5 : l ≤ 5 := by
      have := congrArg List.length HD.out
      rw [List.length_append, HOL.out] at this
      have := HN5.out
      omega
    have hsz := HT.out.lt
    by_cases h0 : 0 < j
    · have hj0 : (0 : Int) < j := by omega
      have HD' : Hid (D m = (out ++ [((j % 10000 : Nat) : Int)]) ++ D (j / 10000)) := by
        show _ = _
        rw [HD.out, D_pos j h0]; simp
      clear HD
      go_wp2_with (at_builtin; refine wpList_append_ints _ rfl _ _ 26 rfl (w.heap.size + 1) 3 Try.underlying26 infoInt V l cv out rfl (HO.out.alloc _) _ (some ⟨wr.heap.size, 0, none⟩) 1 1 [(j : Int) % 10000] rfl (rd_one _ _ _) (by omega) (by simp; omega) ?_; intro V' c' w1 hown hg; have HO' := Lib.hid hown; have HT' := Lib.hid ((HT.out.alloc _).rowedD (HO.out.alloc _) (Nat.lt_succ_self _) hg); have HB' := Lib.hid (below_app HB.out (own_mono HO.out (Nat.le_succ _)) hg); clear hown hg)
      go_roundw
      case rel => exact ⟨j / 10000, l + 1, out ++ [((j % 10000 : Nat) : Int)], V', c', by omega, by congr 1, rfl, Lib.hid (by simp [HOL.out]), HD', HO', HT', HB'⟩
      case measure => simp [intOf]; omega
    · obtain rfl : j = 0 := by omega
      have HD' : Hid (D m = out) := by show _ = _; rw [HD.out, D_zero, List.append_nil]
      clear HD
      have HT1 := Lib.hid (HT.out.alloc (.cells #[.int .i64 1] 3))
      have HL1 := Lib.hid (Nm.lit wr 3)
      have HM1 : Hid (Nm (wr.alloc (.cells #[.int .i64 1] 3)) V cv m) := by
        have h := (own_rd' HO.out).mono (Q := fun _ => True) fun _ _ _ => trivial
        have h2 : Nm wr V cv m := by show Rd wr _ V (D m).length cv (D m); rw [HD'.out, HOL.out]; exact h
        exact h2.on (below1 _ _)
      have HB1 := Lib.hid (below_on HB.out (below1 wr (.cells #[.int .i64 1] 3)))
      have HLEN : Hid ((D m).length = l) := by show _ = _; rw [HD'.out]; exact HOL.out
      have f0 := HT1.out.fz 0
      have f1 := HT1.out.fz 1
      have f2 := HT1.out.fz 2
      have y0 := HT1.out.c0
      have y1 := HT1.out.c1
      have y2 := HT1.out.c2
      clear HO HD' HOL hsz
      go_wp2
      have g2 := fun b u v => setAll_grown (wr.alloc (.cells #[.int .i64 1] 3)) w.heap.size (.bool b) u v
      refine bodyPost_ret (retR rfl _ _ _ rfl (HT1.out.setAll _ _ _ _ _ _ _)) rfl ?_
      exact ⟨V, cv, _, 1, by rw [HLEN.out]; rfl, ⟨Rd.past HM1.out HT1.out (g2 _ _ _), Rd.past HL1.out HT1.out (g2 _ _ _)⟩, below_grow HB1.out (by omega) (g2 _ _ _)⟩


set_option maxRecDepth 20000 in
set_option maxHeartbeats 1600000 in
theorem dotted1_any (s : Rat) (As Bs : Option Addr) (cs ds : Nat) (p q : EV) (w0 : World) (n₀ : Nat) (w : World) (hs : RdR w (fun _ => True) (D (nu s)) (D s.den) As cs Bs ds) (hp : GoodE w0 n₀ p) (hq : GoodE w0 n₀ q) (hb : Below n₀ w0 w) (hn : n₀ ≤ w.heap.size) (l1 : (D (nu s)).length ≤ 300) (l2 : (D s.den).length ≤ 300) :
    Calls Try.prog 129 #[.agg #[.bool (isNeg s), .slice As (D (nu s)).length cs, .slice Bs (D s.den).length ds], p.val, q.val] w (SayR w (isNeg (s + qOf p * qOf q)) (D (nu (s + qOf p * qOf q))) (D (s + qOf p * qOf q).den)) := by
  obtain ⟨a, a1, a2, a3, a4, a5, a6, a7⟩ := hp.on hb
  obtain ⟨b, b1, b2, b3, b4, b5, b6, b7⟩ := hq.on hb
  rw [qOf_eq a7, qOf_eq b7]
  unfold EV.val
  rw [a1, a2, a3, b1, b2, b3]
  have HS := Lib.hid (hs.mono (Q := (· < w.heap.size)) fun _ _ h => h)
  have HA := Lib.hid (a4.mono (Q := (· < w.heap.size)) fun _ _ h => h)
  have HC := Lib.hid (b4.mono (Q := (· < w.heap.size)) fun _ _ h => h)
  have hm := mul_lens a b
  clear a1 a2 a3 a4 b1 b2 b3 b4 a7 b7 hb hs hp hq
  have HT := Lib.hid (fun (W : World) (h0 : RdR W (· < w.heap.size) (D (nu a)) (D a.den) p.A p.ca p.B p.cb) (h1 : RdR W (· < w.heap.size) (D (nu b)) (D b.den) q.A q.ca q.B q.cb) => times_any a b p.A p.B p.ca p.cb q.A q.B q.ca q.cb _ _ W h0 h1 (by omega) (by omega) (by omega) (by omega))
  have HP := Lib.hid (fun (W : World) (Am Bm : Option Addr) (cm dm : Nat) (h0 : RdR W (· < w.heap.size) (D (nu s)) (D s.den) As cs Bs ds) (h1 : RdR W (fun _ => True) (D (nu (a * b))) (D (a * b).den) Am cm Bm dm) => plus_any s (a * b) As Bs cs ds Am Bm cm dm _ _ W h0 h1 (by omega) (by omega) (by omega) (by omega))
  generalize a * b = m at *
  generalize s + m = r at *
  go_enter Try.func129, Try.ntmps129
  go_upto_region 1 with fail
  refine wp_at (fun v0 => Below w.heap.size w v0 ∧ RatAt v0 w.heap.size 28 (isNeg s) As (D (nu s)).length cs Bs (D s.den).length ds ∧ RatAt v0 (w.heap.size + 1) 28 (isNeg a) p.A (D (nu a)).length p.ca p.B (D a.den).length p.cb ∧ RatAt v0 (w.heap.size + 1 + 1) 28 (isNeg b) q.A (D (nu b)).length q.ca q.B (D b.den).length q.cb ∧ RatAt v0 (w.heap.size + 1 + 1 + 1) 28 false none 0 0 none 0 0)
    ⟨(below3 _ _ _ _).alloc (by simp; omega) _, (((RatAt.new _ _ _ _ _ _ _ _ _).alloc _).alloc _).alloc _, ((RatAt.new1 _ _ _ _ _ _ _ _ _ _).alloc _).alloc _, (RatAt.new2 _ _ _ _ _ _ _ _ _ _ _).alloc _, by have := RatAt.new (((w.alloc (.cells #[.bool (isNeg s), .slice As (D (nu s)).length cs, .slice Bs (D s.den).length ds] 28)).alloc (.cells #[.bool (isNeg a), .slice p.A (D (nu a)).length p.ca, .slice p.B (D a.den).length p.cb] 28)).alloc (.cells #[.bool (isNeg b), .slice q.A (D (nu b)).length q.ca, .slice q.B (D b.den).length q.cb] 28)) 28 false none none 0 0 0 0; rwa [World.size_alloc, World.size_alloc, World.size_alloc] at this⟩ ?_
  rintro v0 ⟨hb, r0, r1, r2, r3⟩
  have HB0 := Lib.hid hb
  have HR0 := Lib.hid r0
  have HU0 := Lib.hid r1
  have HV0 := Lib.hid r2
  have HZ0 := Lib.hid r3
  have HA0 := Lib.hid (HA.out.below HB0.out)
  have HC0 := Lib.hid (HC.out.below HB0.out)
  clear hb r0 r1 r2 r3
  go_region_held3 (fun wx => (wx.cell? ⟨w.heap.size, 0, none⟩ = some (.bool (isNeg s)) ∧ wx.cell? ⟨w.heap.size, 1, none⟩ = some (.slice As (D (nu s)).length cs) ∧ wx.cell? ⟨w.heap.size, 2, none⟩ = some (.slice Bs (D s.den).length ds)) ∧ (wx.cell? ⟨w.heap.size + 1, 0, none⟩ = some (.bool (isNeg a)) ∧ wx.cell? ⟨w.heap.size + 1, 1, none⟩ = some (.slice p.A (D (nu a)).length p.ca) ∧ wx.cell? ⟨w.heap.size + 1, 2, none⟩ = some (.slice p.B (D a.den).length p.cb)) ∧ (wx.cell? ⟨w.heap.size + 1 + 1, 0, none⟩ = some (.bool (isNeg b)) ∧ wx.cell? ⟨w.heap.size + 1 + 1, 1, none⟩ = some (.slice q.A (D (nu b)).length q.ca) ∧ wx.cell? ⟨w.heap.size + 1 + 1, 2, none⟩ = some (.slice q.B (D b.den).length q.cb)))
    (first | exact ⟨⟨HR0.out.c0, HR0.out.c1, HR0.out.c2⟩, ⟨HU0.out.c0, HU0.out.c1, HU0.out.c2⟩, ⟨HV0.out.c0, HV0.out.c1, HV0.out.c2⟩⟩ | exact ⟨⟨HR1.out.c0, HR1.out.c1, HR1.out.c2⟩, ⟨HU1.out.c0, HU1.out.c1, HU1.out.c2⟩, ⟨HV1.out.c0, HV1.out.c1, HV1.out.c2⟩⟩ | exact ⟨⟨HR2.out.c0, HR2.out.c1, HR2.out.c2⟩, ⟨HU2.out.c0, HU2.out.c1, HU2.out.c2⟩, ⟨HV2.out.c0, HV2.out.c1, HV2.out.c2⟩⟩ | exact ⟨⟨(HR2.out.grown (setAll_grown _ _ _ _ _) (by omega)).c0, (HR2.out.grown (setAll_grown _ _ _ _ _) (by omega)).c1, (HR2.out.grown (setAll_grown _ _ _ _ _) (by omega)).c2⟩, ⟨(HU2.out.grown (setAll_grown _ _ _ _ _) (by omega)).c0, (HU2.out.grown (setAll_grown _ _ _ _ _) (by omega)).c1, (HU2.out.grown (setAll_grown _ _ _ _ _) (by omega)).c2⟩, ⟨(HV2.out.grown (setAll_grown _ _ _ _ _) (by omega)).c0, (HV2.out.grown (setAll_grown _ _ _ _ _) (by omega)).c1, (HV2.out.grown (setAll_grown _ _ _ _ _) (by omega)).c2⟩⟩)
    (first
      | (go_at_call 64; refine (HP.out _ A1 B1 c1 d1 (by exact HS.out.below HB1.out) (by exact HM1.out)).mono ?_; rintro e v2 ⟨A2, c2, B2, d2, rfl, o2, bb⟩; have HB2 := Lib.hid (below_on HB1.out bb); have HR2 := Lib.hid (HR1.out.on bb); have HU2 := Lib.hid (HU1.out.on bb); have HV2 := Lib.hid (HV1.out.on bb); have HZ2 := Lib.hid (HZ1.out.on bb); have HO2 := Lib.hid o2; have f0 := HZ2.out.fz 0; have f1 := HZ2.out.fz 1; have f2 := HZ2.out.fz 2; have y0 := HZ2.out.c0; have y1 := HZ2.out.c1; have y2 := HZ2.out.c2; clear o2 bb)
      | (go_at_call 63; refine (HT.out _ (by exact HA0.out) (by exact HC0.out)).mono ?_; rintro e v1 ⟨A1, c1, B1, d1, rfl, o1, bb⟩; have bb := undrew bb; have HB1 := Lib.hid (below_on HB0.out bb); have HR1 := Lib.hid (HR0.out.on bb); have HU1 := Lib.hid (HU0.out.on bb); have HV1 := Lib.hid (HV0.out.on bb); have HZ1 := Lib.hid (HZ0.out.on bb); have HM1 := Lib.hid o1; clear o1 bb))
  go_wp2
  have g2 := fun b u v => setAll_grown v2 (w.heap.size + 1 + 1 + 1) (.bool b) u v
  refine bodyPost_ret (retR rfl _ _ _ rfl (HZ2.out.setAll _ _ _ _ _ _ _)) rfl ?_
  exact ⟨A2, c2, B2, d2, rfl, ⟨HO2.out.1.past HZ2.out (g2 _ _ _), HO2.out.2.past HZ2.out (g2 _ _ _)⟩, below_grow HB2.out (by omega) (g2 _ _ _)⟩

set_option maxRecDepth 100000 in
set_option maxHeartbeats 4000000 in
theorem foldDot_in (X : Option Addr) (Y : Option Addr) (N cx cy : Nat) (rs ss : List R3) (s0 : Rat) (As Bs : Option Addr) (cs ds : Nat) (w : World) (hx : RdS w (· < w.heap.size) X N cx rs) (hy : RdS w (· < w.heap.size) Y N cy ss) (hrs : rs.all ok3 = true) (hss : ss.all ok3 = true) (hs0 : s0 = 0) (hs : RdR w (fun _ => True) (D (nu s0)) (D s0.den) As cs Bs ds) (h0 : 0 < N) (hN : N ≤ 3 + 1) :
    Calls Try.prog 127 #[.slice X N cx, .slice Y N cy, .agg #[.bool (isNeg s0), .slice As (D (nu s0)).length cs, .slice Bs (D s0.den).length ds], .func (.func 129) #[] #[]] w fun e w' => ∃ l : List (EP w w.heap.size), l.map (fun x => x.1.1.v3) = rs ∧ l.map (fun x => x.1.2.v3) = ss ∧ SayR w (isNeg (accQ l)) (D (nu (accQ l))) (D (accQ l).den) e w' := by
  obtain ⟨bx, ox, XE, rfl, hbx, _, hXe, hXg⟩ := hx.evs h0
  obtain ⟨b2, oy, YE, rfl, hb2, _, hYe, hYg⟩ := hy.evs h0
  have gx : ∀ i, GoodE w w.heap.size (XE i) := fun i => ⟨(hXg i).1, by
    obtain ⟨qs, rfl, hf⟩ := all_out hrs
    obtain ⟨q, hq, e⟩ := List.mem_map.1 (hXg i).2
    exact ⟨q, e.symm, (hf q hq).1, (hf q hq).2⟩⟩
  have gy : ∀ i, GoodE w w.heap.size (YE i) := fun i => ⟨(hYg i).1, by
    obtain ⟨qs, rfl, hf⟩ := all_out hss
    obtain ⟨q, hq, e⟩ := List.mem_map.1 (hYg i).2
    exact ⟨q, e.symm, (hf q hq).1, (hf q hq).2⟩⟩
  have HV1 : Hid ((upto (fun i => (⟨(XE i, YE i), gx i, gy i⟩ : EP w w.heap.size)) N).map (fun x => x.1.1.v3) = rs) := by
    have l1 := hx.len
    refine List.ext_getElem (by simp [upto, l1]) fun i h1 h2 => ?_
    have := (hXe i (by omega)).2
    simp only [upto, List.getElem_map, List.getElem_range]
    rw [this]
    simp [List.getD, h2]
  have HV2 : Hid ((upto (fun i => (⟨(XE i, YE i), gx i, gy i⟩ : EP w w.heap.size)) N).map (fun x => x.1.2.v3) = ss) := by
    have l1 := hy.len
    refine List.ext_getElem (by simp [upto, l1]) fun i h1 h2 => ?_
    have := (hYe i (by omega)).2
    simp only [upto, List.getElem_map, List.getElem_range]
    rw [this]
    simp [List.getD, h2]
  have HXe := Lib.hid hXe
  have HYe := Lib.hid hYe
  have HS0 := Lib.hid hs0
  have HSR := Lib.hid hs
  clear hXg hYg hrs hss hXe hYe hx hy hs0 hs
  refine (callsIn_wide (n := 9)).1 ?_
  refine callsIn_of_wp_marks Try.func127 rfl trivial ?_ rfl
  simp only [Try.ntmps127, List.size_toArray, List.length_cons, List.length_nil, Nat.reduceAdd, Nat.reduceSub, Array.replicate_succ, Array.replicate_zero, List.push_toArray, List.append_toArray, List.nil_append, List.cons_append]
  gi_wp2_with (refine ⟨trivial, ?_⟩; gi_at_call 169; refine (pairs_in _ _ _ _ _ _ _ _).mono ?_; rintro e w' ⟨rfl, rfl⟩)
  have hsz : ((((((w.alloc (.cells #[.bool (isNeg s0), .slice As (D (nu s0)).length cs, .slice Bs (D s0.den).length ds] 28)).alloc (.cells #[.func (.func 129) #[] #[]] 147)).alloc (.cells #[.bool false, .slice none 0 0, .slice none 0 0] 28)).alloc (.cells #[.bool (isNeg s0), .slice As (D (nu s0)).length cs, .slice Bs (D s0.den).length ds] 28)).alloc (.cells #[.slice (some ⟨bx, ox, none⟩) N cx] 24)).alloc (.cells #[.slice (some ⟨b2, oy, none⟩) N cy] 24)).heap.size = w.heap.size + 6 := by simp
  have bJ := ((((Boxed.new (w.alloc (.cells #[.bool (isNeg s0), .slice As (D (nu s0)).length cs, .slice Bs (D s0.den).length ds] 28)) 147 (.func (.func 129) #[] #[])).alloc (.cells #[.bool false, .slice none 0 0, .slice none 0 0] 28)).alloc (.cells #[.bool (isNeg s0), .slice As (D (nu s0)).length cs, .slice Bs (D s0.den).length ds] 28)).alloc (.cells #[.slice (some ⟨bx, ox, none⟩) N cx] 24)).alloc (.cells #[.slice (some ⟨b2, oy, none⟩) N cy] 24)
  have bR := (((RatAt.new ((w.alloc (.cells #[.bool (isNeg s0), .slice As (D (nu s0)).length cs, .slice Bs (D s0.den).length ds] 28)).alloc (.cells #[.func (.func 129) #[] #[]] 147)) 28 false none none 0 0 0 0).alloc (.cells #[.bool (isNeg s0), .slice As (D (nu s0)).length cs, .slice Bs (D s0.den).length ds] 28)).alloc (.cells #[.slice (some ⟨bx, ox, none⟩) N cx] 24)).alloc (.cells #[.slice (some ⟨b2, oy, none⟩) N cy] 24)
  have bS := ((RatAt.new (((w.alloc (.cells #[.bool (isNeg s0), .slice As (D (nu s0)).length cs, .slice Bs (D s0.den).length ds] 28)).alloc (.cells #[.func (.func 129) #[] #[]] 147)).alloc (.cells #[.bool false, .slice none 0 0, .slice none 0 0] 28)) 28 (isNeg s0) As Bs (D (nu s0)).length cs (D s0.den).length ds).alloc (.cells #[.slice (some ⟨bx, ox, none⟩) N cx] 24)).alloc (.cells #[.slice (some ⟨b2, oy, none⟩) N cy] 24)
  have bX := (Boxed.new ((((w.alloc (.cells #[.bool (isNeg s0), .slice As (D (nu s0)).length cs, .slice Bs (D s0.den).length ds] 28)).alloc (.cells #[.func (.func 129) #[] #[]] 147)).alloc (.cells #[.bool false, .slice none 0 0, .slice none 0 0] 28)).alloc (.cells #[.bool (isNeg s0), .slice As (D (nu s0)).length cs, .slice Bs (D s0.den).length ds] 28)) 24 (.slice (some ⟨bx, ox, none⟩) N cx)).alloc (.cells #[.slice (some ⟨b2, oy, none⟩) N cy] 24)
  have bY := Boxed.new (((((w.alloc (.cells #[.bool (isNeg s0), .slice As (D (nu s0)).length cs, .slice Bs (D s0.den).length ds] 28)).alloc (.cells #[.func (.func 129) #[] #[]] 147)).alloc (.cells #[.bool false, .slice none 0 0, .slice none 0 0] 28)).alloc (.cells #[.bool (isNeg s0), .slice As (D (nu s0)).length cs, .slice Bs (D s0.den).length ds] 28)).alloc (.cells #[.slice (some ⟨bx, ox, none⟩) N cx] 24)) 24 (.slice (some ⟨b2, oy, none⟩) N cy)
  simp only [World.size_alloc] at bJ bR bS bX bY
  have hB0 : Below w.heap.size w ((((((w.alloc (.cells #[.bool (isNeg s0), .slice As (D (nu s0)).length cs, .slice Bs (D s0.den).length ds] 28)).alloc (.cells #[.func (.func 129) #[] #[]] 147)).alloc (.cells #[.bool false, .slice none 0 0, .slice none 0 0] 28)).alloc (.cells #[.bool (isNeg s0), .slice As (D (nu s0)).length cs, .slice Bs (D s0.den).length ds] 28)).alloc (.cells #[.slice (some ⟨bx, ox, none⟩) N cx] 24)).alloc (.cells #[.slice (some ⟨b2, oy, none⟩) N cy] 24)) := (((((below1 w _).alloc (by simp) _).alloc (by simp; omega) _).alloc (by simp; omega) _).alloc (by simp; omega) _).alloc (by simp; omega) _
  obtain ⟨W0, hW0⟩ : ∃ W0, ((((((w.alloc (.cells #[.bool (isNeg s0), .slice As (D (nu s0)).length cs, .slice Bs (D s0.den).length ds] 28)).alloc (.cells #[.func (.func 129) #[] #[]] 147)).alloc (.cells #[.bool false, .slice none 0 0, .slice none 0 0] 28)).alloc (.cells #[.bool (isNeg s0), .slice As (D (nu s0)).length cs, .slice Bs (D s0.den).length ds] 28)).alloc (.cells #[.slice (some ⟨bx, ox, none⟩) N cx] 24)).alloc (.cells #[.slice (some ⟨b2, oy, none⟩) N cy] 24)) = W0 := ⟨_, rfl⟩
  rw [hW0] at bJ bR bS bX bY hB0 hsz ⊢
  clear hW0
  have bS0 : SumAt W0 (w.heap.size + 1 + 1 + 1) 28 (accQ ([] : List (EP w w.heap.size))) := by
    show SumAt _ _ _ (0 : Rat)
    rw [← HS0.out]
    exact ⟨As, cs, Bs, ds, bS, HSR.out.on hB0⟩
  clear bS
  refine wpIn_rangeFunc_ownH rfl (by omega) (gf := 192) (lb := #[.pointer (some ⟨w.heap.size + 1 + 1 + 1 + 1, 0, none⟩), .pointer (some ⟨w.heap.size + 1 + 1 + 1 + 1 + 1, 0, none⟩)]) rfl trivial (enters_of Try.func192 (by kernel_rfl) rfl)
    (pairs_stops _ (by omega) w (w.heap.size + 1 + 1 + 1 + 1) (w.heap.size + 1 + 1 + 1 + 1 + 1) w.heap.size bx ox cx b2 oy cy N (fun i => ⟨(XE i, YE i), gx i, gy i⟩) (by omega) hbx hb2 W0 (by omega) bX bY (fun j hj => (HXe.out j hj).1.below hbx hB0) (fun j hj => (HYe.out j hj).1.below hb2 hB0))
    KY.trans (fun W l o o' hl ho hc hw => ⟨belowK_b (w := W0) (by omega) W l o o' hl ho hc hw, (grownBy_putObj' W l o').block _ (by have := (Array.getElem?_eq_some_iff.1 ho).1; omega) (fun e => by injection e with e; omega)⟩) (Below.refl _ _) (fun _ => rfl)
    (fun pre W => (SumAt W (w.heap.size + 1 + 1 + 1) 28 (accQ pre) ∧ (Boxed W (w.heap.size + 1) 147 (.func (.func 129) #[] #[]) ∧ (Boxed W (w.heap.size + 1 + 1 + 1 + 1 + 1) 24 (.slice (some ⟨b2, oy, none⟩) N cy) ∧ RatAt W (w.heap.size + 1 + 1) 28 false none 0 0 none 0 0))) ∧ Below w.heap.size w W)
    (fun _ _ _ => False)
    (OwnFrom.and (OwnFrom.and (fun _ _ _ _ hs hg hr => hs.own hg hr) (OwnFrom.and (Own.from (boxed_own _ _ _) _) (OwnFrom.and (Own.from (boxed_own _ _ _) _) (fun _ _ _ _ hs hg hr => RatAt.own hs hg hr)))) (ownFrom_below (Nat.le_refl _) (by omega)))
    (fun _ _ _ _ _ hs _ _ => hs)
    ⟨⟨bS0, bJ, bY, bR⟩, hB0⟩
    (fun x a' W => ∃ Bp Bq, w.heap.size + 1 + 1 + 1 + 1 + 1 < Bp ∧ w.heap.size + 1 + 1 + 1 + 1 + 1 < Bq ∧ RatAt W Bp 28 x.1.1.neg x.1.1.A x.1.1.xs.length x.1.1.ca x.1.1.B x.1.1.ys.length x.1.1.cb ∧ RatAt W Bq 28 x.1.2.neg x.1.2.A x.1.2.xs.length x.1.2.ca x.1.2.B x.1.2.ys.length x.1.2.cb ∧ a' = { tmps := #[.slice (some ⟨bx, ox, none⟩) N cx, .slice (some ⟨b2, oy, none⟩) N cy, .agg #[.bool (isNeg s0), .slice As (D (nu s0)).length cs, .slice Bs (D s0.den).length ds], .func (.func 129) #[] #[], undef, undef, .pointer (some ⟨w.heap.size, 0, none⟩), .pointer (some ⟨w.heap.size + 1, 0, none⟩), .pointer (some ⟨w.heap.size + 1 + 1, 0, none⟩), .pointer (some ⟨w.heap.size + 1 + 1 + 1, 0, none⟩), .pointer (some ⟨Bp, 0, none⟩), .pointer (some ⟨Bq, 0, none⟩), .agg #[.bool (isNeg s0), .slice As (D (nu s0)).length cs, .slice Bs (D s0.den).length ds], .slice (some ⟨bx, ox, none⟩) N cx, .slice (some ⟨b2, oy, none⟩) N cy, .func (.func 192) #[] #[.pointer (some ⟨w.heap.size + 1 + 1 + 1 + 1, 0, none⟩), .pointer (some ⟨w.heap.size + 1 + 1 + 1 + 1 + 1, 0, none⟩)], x.1.1.val, x.1.2.val, undef, undef, undef, undef, undef, undef], defers := [] })
    (fun x a' _ X Y row hs hg hr => by obtain ⟨Bp, Bq, h1, h2, h3, h4, h5⟩ := hs; exact ⟨Bp, Bq, h1, h2, h3.own hg hr, h4.own hg hr, h5⟩)
    ?assign ?body ?done ?stop
  case assign =>
    rintro l pre x W K ⟨⟨bS1, bJ1, bY1, bR1⟩, hB1⟩ hK
    have hs1 := hB1.size
    have hyl := bY1.lt
    simp only [EV.val]
    gi_wp2
    have hal := below2 W (.cells #[.bool x.1.1.neg, .slice x.1.1.A x.1.1.xs.length x.1.1.ca, .slice x.1.1.B x.1.1.ys.length x.1.1.cb] 28) (.cells #[.bool x.1.2.neg, .slice x.1.2.A x.1.2.xs.length x.1.2.ca, .slice x.1.2.B x.1.2.ys.length x.1.2.cb] 28)
    refine hK _ _ (((KeepsOthers.alloc _ _).trans (KeepsOthers.alloc _ _)).from _) ⟨((Below.refl _ W).alloc hs1 _).alloc (by simp; omega) _, (Below.heap_alloc _ _ _ (by simp; omega)).trans (Below.heap_alloc W _ _ hyl)⟩ ⟨⟨bS1.on hal, (bJ1.alloc _).alloc _, (bY1.alloc _).alloc _, bR1.on hal⟩, (hB1.alloc hs1 _).alloc (by simp; omega) _⟩ ⟨W.heap.size, W.heap.size + 1, by omega, by omega, (RatAt.new _ _ _ _ _ _ _ _ _).alloc _, RatAt.new1 _ _ _ _ _ _ _ _ _ _, rfl⟩
  case body =>
    rintro l pre x a' W hl ⟨r, hr⟩ ⟨⟨bS1, bJ1, bY1, bR1⟩, hB1⟩ ⟨Bp, Bq, hBp, hBq, rp, rq, rfl⟩ hlt
    obtain ⟨Ap, cp, Bp', dp, rS, hS⟩ := bS1
    have cJ := bJ1.cell
    have p0 := rp.c0
    have p1 := rp.c1
    have p2 := rp.c2
    have q0 := rq.c0
    have q1 := rq.c1
    have q2 := rq.c2
    have t0 := rS.c0
    have t1 := rS.c1
    have t2 := rS.c2
    have hs1 := hB1.size
    have hyl := bY1.lt
    have hln := accQ_lens pre
    have hcall := dotted1_any (accQ pre) Ap Bp' cp dp x.1.1 x.1.2 w w.heap.size W hS x.2.1 x.2.2 hB1 hs1 (by omega) (by omega)
    rw [← accQ_snoc] at hcall
    obtain ⟨s2, hs2⟩ : ∃ s2, s2 = accQ (pre ++ [x]) := ⟨_, rfl⟩
    rw [← hs2] at hcall
    have HS2 := Lib.hid hs2
    simp only [EV.val] at hcall ⊢
    clear hln hs2
    gi_wp2_with (refine ⟨trivial, ?_⟩; gi_at_call 129; refine (CallsIn.inRound l (callsIn_wide.2 hcall)).mono ?_; rintro e w1 ⟨A3, c3, B3, d3, rfl, o3, hb1⟩; have rS2 := rS.on hb1; have bJ2 : Boxed w1 _ _ _ := (hb1.block _ bJ1.lt).trans bJ1; have bY2 : Boxed w1 _ _ _ := (hb1.block _ bY1.lt).trans bY1; have bR2 := bR1.on hb1; have u0 := rS2.c0; have u1 := rS2.c1; have u2 := rS2.c2; have f0 := rS2.fz 0; have f1 := rS2.fz 1; have f2 := rS2.fz 2)
    have g2 := setAll_grown w1 (w.heap.size + 1 + 1 + 1) (.bool (isNeg s2)) (.slice A3 (D (nu s2)).length c3) (.slice B3 (D s2.den).length d3)
    have hb2' : Below w.heap.size W (((w1.setCell ⟨w.heap.size + 1 + 1 + 1, 0, none⟩ (.bool (isNeg s2))).setCell ⟨w.heap.size + 1 + 1 + 1, 1, none⟩ (.slice A3 (D (nu s2)).length c3)).setCell ⟨w.heap.size + 1 + 1 + 1, 2, none⟩ (.slice B3 (D s2.den).length d3)) := (hb1.mono hs1).trans (grown_below g2 (by have := hb1.size; omega) (by omega))
    have hkb : ∀ (b : Nat) (t : TypeId) (v : Value), Boxed w1 b t v → b ≠ w.heap.size + 1 + 1 + 1 → Boxed (((w1.setCell ⟨w.heap.size + 1 + 1 + 1, 0, none⟩ (.bool (isNeg s2))).setCell ⟨w.heap.size + 1 + 1 + 1, 1, none⟩ (.slice A3 (D (nu s2)).length c3)).setCell ⟨w.heap.size + 1 + 1 + 1, 2, none⟩ (.slice B3 (D s2.den).length d3)) b t v := fun b t v h hne => (g2.block b h.lt (fun e => hne (by injection e))).trans h
    refine ⟨((keeps_below hb1).trans ((KeepsOthers.setCell _ _ _).trans ((KeepsOthers.setCell _ _ _).trans (KeepsOthers.setCell _ _ _)))).from _, ⟨hb2', (hkb _ _ _ bY2 (by omega)).trans bY1.symm⟩, ⟨⟨by rw [← HS2.out]; exact ⟨A3, c3, B3, d3, rS2.setAll _ _ _ _ _ _ _, o3.1.past rS2 g2, o3.2.past rS2 g2⟩, hkb _ _ _ bJ2 (by omega), hkb _ _ _ bY2 (by omega), bR2.grown g2 (by omega)⟩, hB1.trans hb2'⟩⟩
  case done =>
    rintro D0 zs W hD rfl ⟨⟨bS1, bJ1, bY1, bR1⟩, hB1⟩ hK
    obtain ⟨Ap, cp, Bp', dp, rS, hS⟩ := bS1
    have t0 := rS.c0
    have t1 := rS.c1
    have t2 := rS.c2
    have f0 := bR1.fz 0
    have f1 := bR1.fz 1
    have f2 := bR1.fz 2
    have y0 := bR1.c0
    have y1 := bR1.c1
    have y2 := bR1.c2
    gi_wp2
    have g2 := fun b u v => setAll_grown W (w.heap.size + 1 + 1) (.bool b) u v
    have hdl := (Array.getElem?_eq_some_iff.1 hK).1
    have hK3 := fun b u v => ((g2 b u v).block D0 hdl (fun e => by injection e with e; omega)).trans hK
    refine ⟨by simp, .inl ⟨_, _, rfl, run_takeDeferred (hK3 _ _ _), ?_⟩⟩
    have gp := fun V => grownBy_putObj' V D0 (.deferred none)
    have hrow : ∀ (b : Bool) (u v : Value) (r : Nat), some D0 = some r → 0 ≤ r ∧ ∃ o : Obj, (((W.setCell ⟨w.heap.size + 1 + 1, 0, none⟩ (.bool b)).setCell ⟨w.heap.size + 1 + 1, 1, none⟩ u).setCell ⟨w.heap.size + 1 + 1, 2, none⟩ v).heap[r]? = some o ∧ o.isCells = false := fun b u v r e => by
      injection e with e
      subst e
      exact ⟨Nat.zero_le _, _, hK3 b u v, rfl⟩
    exact ⟨_, retR rfl _ _ _ rfl ((bR1.setAll _ _ _ _ _ _ _).own (gp _) (hrow _ _ _)), _, HV1.out, HV2.out, Ap, cp, Bp', dp, rfl, ⟨(hS.1.past bR1 (g2 _ _ _)).own (gp _) (hrow _ _ _), (hS.2.past bR1 (g2 _ _ _)).own (gp _) (hrow _ _ _)⟩, (below_grow hB1 (by omega) (g2 _ _ _)).trans (belowK_b (w := w) (Nat.le_refl _) _ D0 _ _ (by omega) (hK3 _ _ _) rfl rfl)⟩
  case stop =>
    rintro D c pre W _ _ h _
    exact h.elim
end Go.Proofs.Ytlphcpkhclfkaaa
