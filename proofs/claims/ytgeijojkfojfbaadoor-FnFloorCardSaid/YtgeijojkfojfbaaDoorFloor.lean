/-
  Floors: floor of the program, l02Floor of the model.
-/
import Derived.Test.YtgeijojkfojfbaaDoorGrpD
namespace Nt
open Go Go.RowKit
theorem lit_first {v v1 : World} {n c1 : Nat} {A1 : Option Addr} {t : TypeId} {xs : List Value} (ho : v1.ownsRow (v.alloc (.cells #[.int .i64 1] t)).drew.heap.size t 1 (.slice A1 n c1) n xs)
    (hb : Below (v.alloc (.cells #[.int .i64 1] t)).drew.heap.size (v.alloc (.cells #[.int .i64 1] t)).drew v1) :
    Arr v1 v.heap.size t [1] ∧ v1.ownsRow v.heap.size t 1 (.slice A1 n c1) n xs ∧ (∀ g, A1 = some ⟨g, 0, none⟩ → g ≠ v.heap.size) ∧ Below v.heap.size v v1 := by
  have hs : (v.alloc (.cells #[.int .i64 1] t)).drew.heap.size = v.heap.size + 1 := by show (v.alloc _).heap.size = _; simp
  refine ⟨(Arr.new v t [1]).keep (hb.block _ (by omega)), own_mono ho (by omega), fun g hg => by have := own_block ho hg; omega, ?_⟩
  exact (below_drewN ((Below.refl v.heap.size v).alloc (Nat.le_refl _) _) 1).trans (hb.mono (by omega))
theorem lit_at {v : World} {t : TypeId} {V : Option Addr} {c k : Nat} (h : Nm v V c k) : Below v.heap.size v (v.alloc (.cells #[.int .i64 1] t)).drew ∧ Arr (v.alloc (.cells #[.int .i64 1] t)).drew v.heap.size t [1] ∧ Nm (v.alloc (.cells #[.int .i64 1] t)).drew V c k ∧ v.heap.size < (v.alloc (.cells #[.int .i64 1] t)).drew.heap.size :=
  ⟨below_drewN (below1 _ _) 1, Arr.new v t [1], Rd.drew (h.on (below1 _ _)), by show _ < (v.alloc _).heap.size; simp⟩
theorem lit_at' {v : World} {t : TypeId} {V : Option Addr} {c k : Nat} (h : Nm v V c k) : Below v.heap.size v (v.drew.alloc (.cells #[.int .i64 1] t)) ∧ Arr (v.drew.alloc (.cells #[.int .i64 1] t)) v.heap.size t [1] ∧ Nm (v.drew.alloc (.cells #[.int .i64 1] t)) V c k ∧ v.heap.size < (v.drew.alloc (.cells #[.int .i64 1] t)).heap.size :=
  ⟨undrew (below1 _ _), Arr.new v.drew t [1], Nm.on (Rd.drew h) (below1 _ _), by rw [World.size_alloc]; exact Nat.lt_succ_self _⟩
theorem lit_named {v u v1 : World} {n c1 : Nat} {A1 : Option Addr} {t : TypeId} {xs : List Value} (hbu : Below v.heap.size v u) (ha : Arr u v.heap.size t [1]) (hs : v.heap.size < u.heap.size) (ho : v1.ownsRow u.heap.size t 1 (.slice A1 n c1) n xs) (hb : Below u.heap.size u v1) :
    Arr v1 v.heap.size t [1] ∧ v1.ownsRow v.heap.size t 1 (.slice A1 n c1) n xs ∧ (∀ g, A1 = some ⟨g, 0, none⟩ → g ≠ v.heap.size) ∧ Below v.heap.size v v1 :=
  ⟨ha.keep (hb.block _ hs), own_mono ho (by omega), fun g hg => by have := own_block ho hg; omega, hbu.trans (hb.mono (by omega))⟩
theorem lit_last {v v1 : World} {n c1 : Nat} {A1 : Option Addr} {t : TypeId} {xs : List Value} (ho : v1.ownsRow v.drew.heap.size t 1 (.slice A1 n c1) n xs) (hb : Below v.drew.heap.size v.drew v1) :
    Arr (v1.alloc (.cells #[.int .i64 1] t)) v1.heap.size t [1] ∧ (v1.alloc (.cells #[.int .i64 1] t)).ownsRow v.heap.size t 1 (.slice A1 n c1) n xs ∧ (∀ g, A1 = some ⟨g, 0, none⟩ → g ≠ v1.heap.size) ∧ Below v.heap.size v (v1.alloc (.cells #[.int .i64 1] t)) := by
  have hs : v.heap.size ≤ v1.heap.size := hb.size
  have h0 : Below v.heap.size v v1 := (below_drewN (Below.refl v.heap.size v) 1).trans hb
  exact ⟨Arr.new v1 t [1], World.ownsRow.alloc ho _, fun g hg => by have := own_block ho hg; omega, h0.alloc hs _⟩
end Nt
namespace Go.Proofs.YtgeijojkfojfbaaDoor
open Go Go.RowKit Nt

set_option maxRecDepth 20000 in
set_option maxHeartbeats 3200000 in
theorem floor_core (n : Bool) (x y k q r s : Nat) (hy : 0 < y) (hqq : x / y = q) (hrr : x % y = r) (hss : q + 1 = s) (hk1 : n = true ∧ 0 < r → k = s) (hk2 : ¬ (n = true ∧ 0 < r) → k = q) (A B : Option Addr) (ca cb : Nat) (P : Nat → Prop) (w : World) (h0 : RdR w P (D x) (D y) A ca B cb) (l1 : (D x).length ≤ 400) (l2 : (D y).length ≤ 400) :
    Calls Tryd.prog 39 #[.agg #[.bool n, .slice A (D x).length ca, .slice B (D y).length cb]] w (RetR 3 w n (D k) [1]) := by
  have H := Lib.hid (h0.mono (Q := (· < w.heap.size)) fun _ _ h => h)
  have H1 := Lib.hid hk1
  have H2 := Lib.hid hk2
  have lq : (D q).length ≤ 400 := by have := D_len_div x y; rw [hqq] at this; omega
  have lr : (D r).length ≤ 400 := by have := D_len_mod' x y; rw [hrr] at this; omega
  have ls : (D s).length ≤ 401 := by have := D_len_add q 1; rw [hss] at this; have : (D 1).length = 1 := rfl; omega
  have HQQ := Lib.hid hqq
  have HRR := Lib.hid hrr
  have HSS := Lib.hid hss
  clear h0 hk1 hk2 hqq hrr hss
  go_enter Tryd.func39, Tryd.ntmps39
  go_wp2_with fail
  refine calls_at (fun W => Below w.heap.size w W ∧ RatAt W w.heap.size 25 n A (D x).length ca B (D y).length cb ∧ RatAt W (w.heap.size + 1) 25 false none 0 0 none 0 0)
    ⟨below2 _ _ _, (RatAt.new _ _ _ _ _ _ _ _ _).alloc _, RatAt.new1 _ _ _ _ _ _ _ _ _ _⟩ ?_
  rintro W ⟨hb, r0, r1⟩
  refine (dividedLimbs_any A B _ ca _ cb x y _ _ W (H.out.below hb).1 (H.out.below hb).2 (by omega) (by omega) hy).mono ?_
  rintro e w1 hnew
  rw [HQQ.out, HRR.out] at hnew
  obtain ⟨A1, c1, A2, c2, rfl, q1, q2, b1⟩ := hnew

  have HB := Lib.hid (below_on hb b1)
  have HR := Lib.hid (r0.on b1)
  have HT := Lib.hid (r1.on b1)
  have HQ : Hid (Nm w1 A1 c1 q) := q1
  clear hb r0 r1 b1 q1 q2
  cases n with
  | false =>
    have HK : Hid (k = q) := H2.out (fun h => by cases h.1)
    have c0 := HR.out.c0
    go_upto_region 4 with fail
    clear c0
    have HQd := Lib.hid (Rd.drew HQ.out)
    have hsT := HT.out.lt
    go_region_held3 (fun wx => wx.cell? ⟨w.heap.size, 0, none⟩ = some (.bool false))
      (first | with_reducible exact HR.out.c0 | with_reducible exact (HR.out.alloc _).c0 | with_reducible exact HRa.out.c0 | with_reducible exact (HRa.out.alloc _).c0 | with_reducible exact ((HRa.out.alloc (.cells #[.int .i64 1] 3)).grown (setAll_grown _ _ _ _ _) (by omega)).c0 | with_reducible exact (HRa.out.grown (setAll_grown _ _ _ _ _) (by omega)).c0 | exact HR.out.c0 | exact (HR.out.alloc _).c0)
      (first
        | (go_at_call 59; (first | (with_reducible show Calls _ _ _ (World.drew (World.alloc _ _)) _) | (with_reducible show Calls _ _ _ (World.alloc (World.drew _) _) _)); refine calls_at (fun u => Below w1.heap.size w1 u ∧ Arr u w1.heap.size 3 [1] ∧ Nm u A1 c1 q ∧ w1.heap.size < u.heap.size) (by first | exact lit_at HQ.out | exact lit_at' HQ.out) ?_; rintro u ⟨bu, au, nq, su⟩; refine (fresh_any A1 _ c1 (D q) (fun _ => True) u nq (by omega)).mono ?_; rintro e v1 ⟨A7, c7, rfl, o7, bb⟩; have HF := Lib.hid (lit_named bu au su o7 bb); have bb := HF.out.2.2.2; have HRa := Lib.hid (HR.out.on bb); have HTl := Lib.hid (HT.out.on bb); have sV := bb.size; have f0 := HTl.out.fz 0; have f1 := HTl.out.fz 1; have f2 := HTl.out.fz 2; have y0 := HTl.out.c0; have y1 := HTl.out.c1; have y2 := HTl.out.c2; clear o7 bb bu au nq)
        | (go_at_call 59; refine (fresh_any A1 _ c1 (D q) (fun _ => True) w1.drew HQd.out (by omega)).mono ?_; rintro e v1 ⟨A7, c7, rfl, o7, bb⟩; have HF := Lib.hid (lit_last o7 bb); have bb := undrew bb; have HRa := Lib.hid (HR.out.on bb); have HTa := Lib.hid (HT.out.on bb); have HTl := Lib.hid (HTa.out.alloc (.cells #[.int .i64 1] 3)); have sV := bb.size; have f0 := HTl.out.fz 0; have f1 := HTl.out.fz 1; have f2 := HTl.out.fz 2; have y0 := HTl.out.c0; have y1 := HTl.out.c1; have y2 := HTl.out.c2; clear o7 bb))
    all_goals
      go_wp2
      have g2 := fun u v1 v2 => setAll_grown u (w.heap.size + 1) (.bool false) v1 v2
      refine bodyPost_ret (retR rfl _ _ _ rfl (HTl.out.setAll _ _ _ _ _ _ _)) rfl ?_
      obtain ⟨h1, h2, h3, h4⟩ := HF.out
      rw [HK.out]
      refine ⟨A7, c7, _, 1, rfl, ⟨own_mono (own_gone h2 (g2 _ _ _) (fun k hk => by have := own_block h2 hk; omega)) (by omega), own_mono (own_gone (h1.own w1.heap.size (by first | exact Nat.le_refl _ | exact sV) 1 1 rfl rfl (by decide)) (g2 _ _ _) (fun k hk => by injection hk with hk; injection hk with hk; omega)) (by omega), fun g h e1 e2 => by injection e2 with e2; injection e2 with e2; have := h3 g e1; omega⟩, below_grow (below_on HB.out h4) (by omega) (g2 _ _ _)⟩
  | true =>
    by_cases hr : 0 < r
    · have HK : Hid (k = s) := H1.out ⟨rfl, hr⟩
      have hlen : (0 : Int) < (D r).length := by have := D_len_pos hr; omega
      have c0 := HR.out.c0
      go_wp2_with fail
      clear c0
      refine calls_at (fun u => Below w.heap.size w u ∧ RatAt u w.heap.size 25 true A (D x).length ca B (D y).length cb ∧ RatAt u (w.heap.size + 1) 25 false none 0 0 none 0 0 ∧ Nm u A1 c1 q ∧ Nm u (some ⟨w1.heap.size, 0, none⟩) 1 1)
        ⟨below_on HB.out (below1 _ _), HR.out.alloc _, HT.out.alloc _, HQ.out.on (below1 _ _), Nm.lit _ _⟩ ?_
      rintro u ⟨hb, r0, r1, q1, q2⟩
      refine (sumLimbs_any A1 _ _ c1 _ 1 q 1 _ _ u q1 q2 (by omega) (by decide)).mono ?_
      rintro e w2 hnew
      rw [HSS.out] at hnew
      obtain ⟨A3, c3, rfl, m3, b3⟩ := new_of hnew
      have HB3 := Lib.hid (below_on hb b3)
      have HR3 := Lib.hid (r0.on b3)
      have HT3 := Lib.hid (r1.on b3)
      have HQ3 := Lib.hid m3
      clear hnew hb r0 r1 q1 q2 m3 b3 HB HR HT HQ
      have HB := HB3
      have HR := HR3
      have HT := HT3
      have HQ := HQ3
      clear HB3 HR3 HT3 HQ3
      have c0 := HR.out.c0
      go_upto_region 4 with fail
      clear c0
      have HQd := Lib.hid (Rd.drew HQ.out)
      have hsT := HT.out.lt
      go_region_held3 (fun wx => wx.cell? ⟨w.heap.size, 0, none⟩ = some (.bool true))
        (first | with_reducible exact HR.out.c0 | with_reducible exact (HR.out.alloc _).c0 | with_reducible exact HRa.out.c0 | with_reducible exact (HRa.out.alloc _).c0 | with_reducible exact ((HRa.out.alloc (.cells #[.int .i64 1] 3)).grown (setAll_grown _ _ _ _ _) (by omega)).c0 | with_reducible exact (HRa.out.grown (setAll_grown _ _ _ _ _) (by omega)).c0 | exact HR.out.c0 | exact (HR.out.alloc _).c0)
        (first
          | (go_at_call 59; (first | (with_reducible show Calls _ _ _ (World.drew (World.alloc _ _)) _) | (with_reducible show Calls _ _ _ (World.alloc (World.drew _) _) _)); refine calls_at (fun u => Below w2.heap.size w2 u ∧ Arr u w2.heap.size 3 [1] ∧ Nm u A3 c3 s ∧ w2.heap.size < u.heap.size) (by first | exact lit_at HQ.out | exact lit_at' HQ.out) ?_; rintro u ⟨bu, au, nq, su⟩; refine (fresh_any A3 _ c3 (D s) (fun _ => True) u nq (by omega)).mono ?_; rintro e v1 ⟨A7, c7, rfl, o7, bb⟩; have HF := Lib.hid (lit_named bu au su o7 bb); have bb := HF.out.2.2.2; have HRa := Lib.hid (HR.out.on bb); have HTl := Lib.hid (HT.out.on bb); have sV := bb.size; have f0 := HTl.out.fz 0; have f1 := HTl.out.fz 1; have f2 := HTl.out.fz 2; have y0 := HTl.out.c0; have y1 := HTl.out.c1; have y2 := HTl.out.c2; clear o7 bb bu au nq)
          | (go_at_call 59; refine (fresh_any A3 _ c3 (D s) (fun _ => True) w2.drew HQd.out (by omega)).mono ?_; rintro e v1 ⟨A7, c7, rfl, o7, bb⟩; have HF := Lib.hid (lit_last o7 bb); have bb := undrew bb; have HRa := Lib.hid (HR.out.on bb); have HTa := Lib.hid (HT.out.on bb); have HTl := Lib.hid (HTa.out.alloc (.cells #[.int .i64 1] 3)); have sV := bb.size; have f0 := HTl.out.fz 0; have f1 := HTl.out.fz 1; have f2 := HTl.out.fz 2; have y0 := HTl.out.c0; have y1 := HTl.out.c1; have y2 := HTl.out.c2; clear o7 bb))
      all_goals
        go_wp2
        have g2 := fun u v1 v2 => setAll_grown u (w.heap.size + 1) (.bool true) v1 v2
        refine bodyPost_ret (retR rfl _ _ _ rfl (HTl.out.setAll _ _ _ _ _ _ _)) rfl ?_
        obtain ⟨h1, h2, h3, h4⟩ := HF.out
        rw [HK.out]
        refine ⟨A7, c7, _, 1, rfl, ⟨own_mono (own_gone h2 (g2 _ _ _) (fun k hk => by have := own_block h2 hk; omega)) (by omega), own_mono (own_gone (h1.own w2.heap.size (by first | exact Nat.le_refl _ | exact sV) 1 1 rfl rfl (by decide)) (g2 _ _ _) (fun k hk => by injection hk with hk; injection hk with hk; omega)) (by omega), fun g h e1 e2 => by injection e2 with e2; injection e2 with e2; have := h3 g e1; omega⟩, below_grow (below_on HB.out h4) (by omega) (g2 _ _ _)⟩
    · have HK : Hid (k = q) := H2.out (fun h => hr h.2)
      have hlen : decide (0 < (D r).length) = false := decide_eq_false (by rw [show r = 0 from by omega]; decide)
      clear hr
      have c0 := HR.out.c0
      go_upto_region 4 with fail
      clear c0
      have HQd := Lib.hid (Rd.drew HQ.out)
      have hsT := HT.out.lt
      go_region_held3 (fun wx => wx.cell? ⟨w.heap.size, 0, none⟩ = some (.bool true))
        (first | with_reducible exact HR.out.c0 | with_reducible exact (HR.out.alloc _).c0 | with_reducible exact HRa.out.c0 | with_reducible exact (HRa.out.alloc _).c0 | with_reducible exact ((HRa.out.alloc (.cells #[.int .i64 1] 3)).grown (setAll_grown _ _ _ _ _) (by omega)).c0 | with_reducible exact (HRa.out.grown (setAll_grown _ _ _ _ _) (by omega)).c0 | exact HR.out.c0 | exact (HR.out.alloc _).c0)
        (first
          | (go_at_call 59; (first | (with_reducible show Calls _ _ _ (World.drew (World.alloc _ _)) _) | (with_reducible show Calls _ _ _ (World.alloc (World.drew _) _) _)); refine calls_at (fun u => Below w1.heap.size w1 u ∧ Arr u w1.heap.size 3 [1] ∧ Nm u A1 c1 q ∧ w1.heap.size < u.heap.size) (by first | exact lit_at HQ.out | exact lit_at' HQ.out) ?_; rintro u ⟨bu, au, nq, su⟩; refine (fresh_any A1 _ c1 (D q) (fun _ => True) u nq (by omega)).mono ?_; rintro e v1 ⟨A7, c7, rfl, o7, bb⟩; have HF := Lib.hid (lit_named bu au su o7 bb); have bb := HF.out.2.2.2; have HRa := Lib.hid (HR.out.on bb); have HTl := Lib.hid (HT.out.on bb); have sV := bb.size; have f0 := HTl.out.fz 0; have f1 := HTl.out.fz 1; have f2 := HTl.out.fz 2; have y0 := HTl.out.c0; have y1 := HTl.out.c1; have y2 := HTl.out.c2; clear o7 bb bu au nq)
          | (go_at_call 59; refine (fresh_any A1 _ c1 (D q) (fun _ => True) w1.drew HQd.out (by omega)).mono ?_; rintro e v1 ⟨A7, c7, rfl, o7, bb⟩; have HF := Lib.hid (lit_last o7 bb); have bb := undrew bb; have HRa := Lib.hid (HR.out.on bb); have HTa := Lib.hid (HT.out.on bb); have HTl := Lib.hid (HTa.out.alloc (.cells #[.int .i64 1] 3)); have sV := bb.size; have f0 := HTl.out.fz 0; have f1 := HTl.out.fz 1; have f2 := HTl.out.fz 2; have y0 := HTl.out.c0; have y1 := HTl.out.c1; have y2 := HTl.out.c2; clear o7 bb))
      all_goals
        go_wp2
        have g2 := fun u v1 v2 => setAll_grown u (w.heap.size + 1) (.bool true) v1 v2
        refine bodyPost_ret (retR rfl _ _ _ rfl (HTl.out.setAll _ _ _ _ _ _ _)) rfl ?_
        obtain ⟨h1, h2, h3, h4⟩ := HF.out
        rw [HK.out]
        refine ⟨A7, c7, _, 1, rfl, ⟨own_mono (own_gone h2 (g2 _ _ _) (fun k hk => by have := own_block h2 hk; omega)) (by omega), own_mono (own_gone (h1.own w1.heap.size (by first | exact Nat.le_refl _ | exact sV) 1 1 rfl rfl (by decide)) (g2 _ _ _) (fun k hk => by injection hk with hk; injection hk with hk; omega)) (by omega), fun g h e1 e2 => by injection e2 with e2; injection e2 with e2; have := h3 g e1; omega⟩, below_grow (below_on HB.out h4) (by omega) (g2 _ _ _)⟩

set_option maxRecDepth 20000 in
set_option maxHeartbeats 3200000 in
theorem l02Floor_core (n : Bool) (x y k q r s : Nat) (hy : 0 < y) (hqq : x / y = q) (hrr : x % y = r) (hss : q + 1 = s) (hk1 : n = true ∧ 0 < r → k = s) (hk2 : ¬ (n = true ∧ 0 < r) → k = q) (A B : Option Addr) (ca cb : Nat) (P : Nat → Prop) (w : World) (h0 : RdR w P (D x) (D y) A ca B cb) (l1 : (D x).length ≤ 400) (l2 : (D y).length ≤ 400) :
    Calls Tryd.prog 41 #[.agg #[.bool n, .slice A (D x).length ca, .slice B (D y).length cb]] w (SayR w (isNeg (mkRat (sg n k) 1)) (D (nu (mkRat (sg n k) 1))) (D (mkRat (sg n k) 1).den)) := by
  have H := Lib.hid (h0.mono (Q := (· < w.heap.size)) fun _ _ h => h)
  have H1 := Lib.hid hk1
  have H2 := Lib.hid hk2
  have lq : (D q).length ≤ 400 := by have := D_len_div x y; rw [hqq] at this; omega
  have lr : (D r).length ≤ 400 := by have := D_len_mod' x y; rw [hrr] at this; omega
  have ls : (D s).length ≤ 401 := by have := D_len_add q 1; rw [hss] at this; have : (D 1).length = 1 := rfl; omega
  have HQQ := Lib.hid hqq
  have HRR := Lib.hid hrr
  have HSS := Lib.hid hss
  clear h0 hk1 hk2 hqq hrr hss
  go_enter Tryd.func41, Tryd.ntmps41
  go_wp2_with fail
  refine calls_at (fun W => Below w.heap.size w W ∧ RatAt W w.heap.size 25 n A (D x).length ca B (D y).length cb ∧ RatAt W (w.heap.size + 1) 25 false none 0 0 none 0 0)
    ⟨below2 _ _ _, (RatAt.new _ _ _ _ _ _ _ _ _).alloc _, RatAt.new1 _ _ _ _ _ _ _ _ _ _⟩ ?_
  rintro W ⟨hb, r0, r1⟩
  refine (l01Div_any A B _ ca _ cb x y _ _ W (H.out.below hb).1 (H.out.below hb).2 (by omega) (by omega) hy).mono ?_
  rintro e w1 hnew
  rw [HQQ.out, HRR.out] at hnew
  obtain ⟨A1, c1, A2, c2, rfl, o1, q2, b1⟩ := hnew
  have q1 : Nm w1 A1 c1 q := (own_rd' o1).mono fun _ _ _ => trivial
  clear o1
  have HB := Lib.hid (below_on hb b1)
  have HR := Lib.hid (r0.on b1)
  have HT := Lib.hid (r1.on b1)
  have HQ : Hid (Nm w1 A1 c1 q) := q1
  clear hb r0 r1 b1 q1 q2
  cases n with
  | false =>
    have HK : Hid (k = q) := H2.out (fun h => by cases h.1)
    have c0 := HR.out.c0
    go_wp2_with fail
    clear c0
    refine calls_at (fun u => Below w.heap.size w u ∧ RatAt u (w.heap.size + 1) 25 false none 0 0 none 0 0 ∧ Nm u A1 c1 (q) ∧ Nm u (some ⟨w1.heap.size, 0, none⟩) 1 1)
      ⟨below_on HB.out (below1 _ _), HT.out.alloc _, HQ.out.on (below1 _ _), Nm.lit _ _⟩ ?_
    rintro u ⟨hb, rt, q1, q2⟩
    refine (l02Make_any false A1 _ _ c1 _ 1 (q) 1 _ _ u q1 q2 (by omega) (by decide) (by decide)).mono ?_
    rintro e u2 ⟨A8, c8, B8, d8, rfl, o8, bb⟩
    have HB8 := Lib.hid (below_on hb bb)
    have HT8 := Lib.hid (rt.on bb)
    have HO8 := Lib.hid o8
    clear hb rt q1 q2 o8 bb
    have f0 := HT8.out.fz 0
    have f1 := HT8.out.fz 1
    have f2 := HT8.out.fz 2
    have y0 := HT8.out.c0
    have y1 := HT8.out.c1
    have y2 := HT8.out.c2
    go_wp2
    have g2 := fun b u v => setAll_grown u2 (w.heap.size + 1) (.bool b) u v
    refine bodyPost_ret (retR rfl _ _ _ rfl (HT8.out.setAll _ _ _ _ _ _ _)) rfl ?_
    rw [HK.out]
    exact ⟨A8, c8, B8, d8, rfl, ⟨HO8.out.1.past HT8.out (g2 _ _ _), HO8.out.2.past HT8.out (g2 _ _ _)⟩, below_grow HB8.out (by omega) (g2 _ _ _)⟩
  | true =>
    by_cases hr : 0 < r
    · have HK : Hid (k = s) := H1.out ⟨rfl, hr⟩
      have hlen : (0 : Int) < (D r).length := by have := D_len_pos hr; omega
      have c0 := HR.out.c0
      go_wp2_with fail
      clear c0
      refine calls_at (fun u => Below w.heap.size w u ∧ RatAt u w.heap.size 25 true A (D x).length ca B (D y).length cb ∧ RatAt u (w.heap.size + 1) 25 false none 0 0 none 0 0 ∧ Nm u A1 c1 q ∧ Nm u (some ⟨w1.heap.size, 0, none⟩) 1 1)
        ⟨below_on HB.out (below1 _ _), HR.out.alloc _, HT.out.alloc _, HQ.out.on (below1 _ _), Nm.lit _ _⟩ ?_
      rintro u ⟨hb, r0, r1, q1, q2⟩
      refine (l01Add_any A1 _ _ c1 _ 1 q 1 _ _ u q1 q2 (by omega) (by decide)).mono ?_
      rintro e w2 hnew
      rw [HSS.out] at hnew
      obtain ⟨A3, c3, rfl, m3, b3⟩ := new_of hnew
      have HB3 := Lib.hid (below_on hb b3)
      have HR3 := Lib.hid (r0.on b3)
      have HT3 := Lib.hid (r1.on b3)
      have HQ3 := Lib.hid m3
      clear hnew hb r0 r1 q1 q2 m3 b3 HB HR HT HQ
      have HB := HB3
      have HR := HR3
      have HT := HT3
      have HQ := HQ3
      clear HB3 HR3 HT3 HQ3
      have c0 := HR.out.c0
      go_wp2_with fail
      clear c0
      refine calls_at (fun u => Below w.heap.size w u ∧ RatAt u (w.heap.size + 1) 25 false none 0 0 none 0 0 ∧ Nm u A3 c3 (s) ∧ Nm u (some ⟨w2.heap.size, 0, none⟩) 1 1)
        ⟨below_on HB.out (below1 _ _), HT.out.alloc _, HQ.out.on (below1 _ _), Nm.lit _ _⟩ ?_
      rintro u ⟨hb, rt, q1, q2⟩
      refine (l02Make_any true A3 _ _ c3 _ 1 (s) 1 _ _ u q1 q2 (by omega) (by decide) (by decide)).mono ?_
      rintro e u2 ⟨A8, c8, B8, d8, rfl, o8, bb⟩
      have HB8 := Lib.hid (below_on hb bb)
      have HT8 := Lib.hid (rt.on bb)
      have HO8 := Lib.hid o8
      clear hb rt q1 q2 o8 bb
      have f0 := HT8.out.fz 0
      have f1 := HT8.out.fz 1
      have f2 := HT8.out.fz 2
      have y0 := HT8.out.c0
      have y1 := HT8.out.c1
      have y2 := HT8.out.c2
      go_wp2
      have g2 := fun b u v => setAll_grown u2 (w.heap.size + 1) (.bool b) u v
      refine bodyPost_ret (retR rfl _ _ _ rfl (HT8.out.setAll _ _ _ _ _ _ _)) rfl ?_
      rw [HK.out]
      exact ⟨A8, c8, B8, d8, rfl, ⟨HO8.out.1.past HT8.out (g2 _ _ _), HO8.out.2.past HT8.out (g2 _ _ _)⟩, below_grow HB8.out (by omega) (g2 _ _ _)⟩
    · have HK : Hid (k = q) := H2.out (fun h => hr h.2)
      have hlen : decide (0 < (D r).length) = false := decide_eq_false (by rw [show r = 0 from by omega]; decide)
      clear hr
      have c0 := HR.out.c0
      go_wp2_with fail
      clear c0
      refine calls_at (fun u => Below w.heap.size w u ∧ RatAt u (w.heap.size + 1) 25 false none 0 0 none 0 0 ∧ Nm u A1 c1 (q) ∧ Nm u (some ⟨w1.heap.size, 0, none⟩) 1 1)
        ⟨below_on HB.out (below1 _ _), HT.out.alloc _, HQ.out.on (below1 _ _), Nm.lit _ _⟩ ?_
      rintro u ⟨hb, rt, q1, q2⟩
      refine (l02Make_any true A1 _ _ c1 _ 1 (q) 1 _ _ u q1 q2 (by omega) (by decide) (by decide)).mono ?_
      rintro e u2 ⟨A8, c8, B8, d8, rfl, o8, bb⟩
      have HB8 := Lib.hid (below_on hb bb)
      have HT8 := Lib.hid (rt.on bb)
      have HO8 := Lib.hid o8
      clear hb rt q1 q2 o8 bb
      have f0 := HT8.out.fz 0
      have f1 := HT8.out.fz 1
      have f2 := HT8.out.fz 2
      have y0 := HT8.out.c0
      have y1 := HT8.out.c1
      have y2 := HT8.out.c2
      go_wp2
      have g2 := fun b u v => setAll_grown u2 (w.heap.size + 1) (.bool b) u v
      refine bodyPost_ret (retR rfl _ _ _ rfl (HT8.out.setAll _ _ _ _ _ _ _)) rfl ?_
      rw [HK.out]
      exact ⟨A8, c8, B8, d8, rfl, ⟨HO8.out.1.past HT8.out (g2 _ _ _), HO8.out.2.past HT8.out (g2 _ _ _)⟩, below_grow HB8.out (by omega) (g2 _ _ _)⟩

end Go.Proofs.YtgeijojkfojfbaaDoor
