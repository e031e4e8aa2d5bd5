/-
  An expression's slope along a way: SlopeOf of the program.
-/
import Derived.Test.YtifepoefeamboaaGreatDoorJoE
import Derived.Test.YtifepoefeamboaaGreatDoorGrpC
namespace Go.Proofs.YtifepoefeamboaaGreatDoor
open Go Go.RowKit Nt

/-- what SlopeOf makes ahead of its first call -/
theorem slope_heads (w : World) (A Y : Option Addr) (n c mv dv : Nat) (W : World) (hW : W = (((w.alloc (.cells #[.slice A n c] 25)).alloc (.cells #[.bool false, .slice none 0 0, .slice none 0 0] 31)).alloc (.cells #[.bool false, .slice none 0 0, .slice none 0 0] 31)).alloc (.cells #[.slice Y mv dv] 27)) :
    Below w.heap.size w W ∧ SlAt W w.heap.size 25 A n c ∧ RatAt W (w.heap.size + 1) 31 false none 0 0 none 0 0 ∧ RatAt W (w.heap.size + 1 + 1) 31 false none 0 0 none 0 0 ∧ W.cell? ⟨w.heap.size + 1 + 1 + 1, 0, none⟩ = some (.slice Y mv dv) ∧ w.heap.size + 1 + 1 + 1 < W.heap.size := by
  subst hW
  refine ⟨(below3 _ _ _ _).alloc (by simp; omega) _, (((SlAt.new _ _ _ _ _).on (below1 _ _)).on (below1 _ _)).on (below1 _ _), ?_, ?_, ?_, by simp⟩
  · have := ((RatAt.new (w.alloc (.cells #[.slice A n c] 25)) 31 false none none 0 0 0 0).on (below1 _ (.cells #[.bool false, .slice none 0 0, .slice none 0 0] 31))).on (below1 _ (.cells #[.slice Y mv dv] 27))
    rwa [World.size_alloc] at this
  · have := (RatAt.new ((w.alloc (.cells #[.slice A n c] 25)).alloc (.cells #[.bool false, .slice none 0 0, .slice none 0 0] 31)) 31 false none none 0 0 0 0).on (below1 _ (.cells #[.slice Y mv dv] 27))
    rwa [World.size_alloc, World.size_alloc] at this
  · have := cell_of_row ((((w.alloc (.cells #[.slice A n c] 25)).alloc (.cells #[.bool false, .slice none 0 0, .slice none 0 0] 31)).alloc (.cells #[.bool false, .slice none 0 0, .slice none 0 0] 31)).alloc (.cells #[.slice Y mv dv] 27)) _ 0 _ _ (0, 0) (heap_alloc_new _ (.cells #[.slice Y mv dv] 27))
    rw [World.size_alloc, World.size_alloc, World.size_alloc] at this
    rw [this]; rfl

/-- nothing at all is memory of its own -/
theorem none_RRC (w w' : World) (code : Int) (hb : Below w.heap.size w w') : RetRRC 3 w false [] [] false [] [] code (.returned (.tuple #[.agg #[.bool false, .slice none 0 0, .slice none 0 0], .agg #[.bool false, .slice none 0 0, .slice none 0 0], .int .i64 code])) w' :=
  ⟨none, 0, none, 0, none, 0, none, 0, w.heap.size, rfl, ⟨World.ownsRow_nil _ _ _ _, World.ownsRow_nil _ _ _ _, fun g h e => by cases e⟩, ⟨World.ownsRow_nil _ _ _ _, World.ownsRow_nil _ _ _ _, fun g h e => by cases e⟩, ⟨Nat.le_refl _, hb.size, fun g h => by rcases h with e | e <;> cases e⟩, hb⟩

set_option maxRecDepth 20000 in
set_option maxHeartbeats 3200000 in
/-- a number and its slope, or what stopped them -/
theorem implSlopeOf_ok (A X Y : Option Addr) (n c m d dv : Nat) (ns : List Nd) (qs us : List Rat) (P P' P2 : Nat → Prop) (w : World) (ad : Addr) (hE : ErrAt 195 w ad) (hr : RdN w P A n c ns) (hx : RdS w P' X m d (qs.map rat3)) (hy : RdS w P2 Y m dv (us.map rat3)) (hf : Fine qs) (hfu : Fine us) (hn : n ≤ 1048576) (hm : m ≤ 1048576) (hcode : ptCode1 (okE ns) ns m m (qs.map rat3) (us.map rat3) = 0) (js : List Jt) (code : Int) (hR : evalJ (varsJ qs (fun _ => us) 1 m) ns = (js, code)) :
    Calls Tryz.prog 13 #[.agg #[.slice A n c], .slice X m d, .slice Y m dv] w (RetVal2 3 w (numJ (js.getD (n - 1) j0) 0) (numJ (js.getD (n - 1) j0) 1) code) := by
  obtain ⟨h4, -, hright, hok, hok', hdim⟩ := ptCode1_zero hcode
  have hln : ns.length = n := hr.len
  obtain ⟨hg, hn1, hn60⟩ := okE_at hln hright hdim
  have hql : qs.length = m := by have := hx.len; rw [List.length_map] at this; exact this
  have hm4 : m ≤ 100 := by have := (okV_out hok).2.1; rw [List.length_map] at this; omega
  have hdep : ∀ j ∈ varsJ qs (fun _ => us) 1 m, j.dep ≤ 2 := fun j hj => Nat.le_trans (varsJ_dep _ _ _ _ j hj) (by decide)
  have HP := Lib.hid (fun (W : World) (g : Nat) (hw : Below w.heap.size w W) (hg : g < W.heap.size) (hc : W.cell? ⟨g, 0, none⟩ = some (.slice Y m dv)) => placeCode_one A X Y g n c m d m dv ns (qs.map rat3) (us.map rat3) _ _ _ W (hr.on hw) (hx.on hw) (hy.on hw) (small_fine hf) (small_fine hfu) hn hm hm hg hc)
  rw [hcode] at HP
  have HJ := Lib.hid (fun (W : World) (g : Nat) (hw : Below w.heap.size w W) (hg' : g < W.heap.size) (hc : W.cell? ⟨g, 0, none⟩ = some (.slice Y m dv)) => exprJetAt_any A X n c m d ns qs (fun _ => us) (some ⟨g, 0, none⟩) 1 1 (fun _ => Y) (fun _ => dv) _ _ W ad (hE.on hw) (hr.on hw) (hx.on hw) (WaysAt.one hg' hc ((hy.on hw).mono fun _ _ _ => trivial)) hdep (varsJ_L2 (by omega) hf (fun _ _ => hfu) m) hg hn1 hn60 (by omega) hm4 js code hR)
  have HFIT : Hid (code = 0 → L2 (js.getD (n - 1) j0) 40 40 40 40) := fun h => (last_L2 hdep hln hn1 (by rw [hR, h])).2
  clear h4 hright hok hok' hdim hln hql hg hn1 hn60 hm4 hdep hE hr hx hy hf hfu hcode hR
  go_enter Tryz.func13, Tryz.ntmps13
  go_wp2_with fail
  refine calls_at (fun W => Below w.heap.size w W ∧ SlAt W w.heap.size 25 A n c ∧ RatAt W (w.heap.size + 1) 31 false none 0 0 none 0 0 ∧ RatAt W (w.heap.size + 1 + 1) 31 false none 0 0 none 0 0 ∧ W.cell? ⟨w.heap.size + 1 + 1 + 1, 0, none⟩ = some (.slice Y m dv) ∧ w.heap.size + 1 + 1 + 1 < W.heap.size) (slope_heads w A Y n c m dv _ rfl) ?_
  rintro W ⟨hw, s0, r0, r1, hc, hg⟩
  refine (HP.out W _ hw hg hc).mono ?_
  rintro e w1 ⟨rfl, b1⟩
  have HB1 := Lib.hid (below_on hw b1)
  have HS1 := Lib.hid (s0.on b1)
  have HT1 := Lib.hid (r0.on b1)
  have HU1 := Lib.hid (r1.on b1)
  have t0 := HS1.out.c0
  clear hw s0 r0 r1 hc hg b1 HP
  go_wp2_with fail
  refine calls_at (fun V => Below w1.heap.size w1 V ∧ V.cell? ⟨w1.heap.size, 0, none⟩ = some (.slice Y m dv) ∧ w1.heap.size < V.heap.size) ⟨below1 _ _, by rw [cell_of_row _ _ 0 _ _ (0, 0) (heap_alloc_new w1 _)]; rfl, by simp⟩ ?_
  rintro V ⟨bV, cV, hV⟩
  refine (HJ.out V _ (below_on HB1.out bV) hV cV).mono ?_
  rintro e w2 ⟨h2, b2⟩
  have HB2 := Lib.hid (below_on (below_on HB1.out bV) b2)
  have HT2 := Lib.hid ((HT1.out.on bV).on b2)
  have HU2 := Lib.hid ((HU1.out.on bV).on b2)
  clear b2 bV cV hV t0 HB1 HS1 HT1 HU1
  rcases h2 with ⟨h0, t, x, rfl, hj⟩ | ⟨h0, rfl⟩
  · have hfit := HFIT.out h0
    have HF := Lib.hid hfit
    subst h0
    have HA0 := Lib.hid (fun W hb => along_any (js.getD (n - 1) j0) 0 (.iface t x) _ W (by omega) (JAt.on hb hj))
    have HA1 := Lib.hid (fun W hb => along_any (js.getD (n - 1) j0) 1 (.iface t x) _ W (by omega) (JAt.on hb hj))
    have hr1 : (D (nu (numJ (js.getD (n - 1) j0) 0))).length ≤ 16777216 := Nat.le_trans hfit.2.1.1 (by decide)
    have hr2 : (D (numJ (js.getD (n - 1) j0) 0).den).length ≤ 16777216 := Nat.le_trans hfit.2.1.2 (by decide)
    have hs1 : (D (nu (numJ (js.getD (n - 1) j0) 1))).length ≤ 16777216 := Nat.le_trans hfit.2.2.2.1.1 (by decide)
    have hs2 : (D (numJ (js.getD (n - 1) j0) 1).den).length ≤ 16777216 := Nat.le_trans hfit.2.2.2.1.2 (by decide)
    generalize numJ (js.getD (n - 1) j0) 0 = r at *
    generalize numJ (js.getD (n - 1) j0) 1 = s at *
    have hsz := HU2.out.lt
    clear hj HFIT HJ hfit HF
    go_wp2_with fail
    refine (HA0.out w2 (Below.refl _ _)).mono ?_
    rintro e w3 ⟨A3, c3, B3, d3, rfl, o3, b3⟩
    have HB3 := Lib.hid (below_on HB2.out b3)
    have HT3 := Lib.hid (HT2.out.on b3)
    have HU3 := Lib.hid (HU2.out.on b3)
    have HC3 := Lib.hid b3
    have HO3 := Lib.hid o3
    clear o3 b3
    go_wp2_with fail
    refine (apart_any (isNeg r) A3 B3 c3 d3 (D (nu r)) (D r.den) _ w3 HO3.out hr1 hr2).mono ?_
    rintro e w4 ⟨A4, c4, B4, d4, rfl, o4, b4⟩
    have HB4 := Lib.hid (below_on HB3.out b4)
    have HT4 := Lib.hid (HT3.out.on b4)
    have HU4 := Lib.hid (HU3.out.on b4)
    have HC4 := Lib.hid (below_on HC3.out b4)
    have HO4 := Lib.hid o4
    clear o4 b4
    go_wp2_with fail
    refine (HA1.out w4 HC4.out).mono ?_
    rintro e w5 ⟨A5, c5, B5, d5, rfl, o5, b5⟩
    have HB5 := Lib.hid (below_on HB4.out b5)
    have HT5 := Lib.hid (HT4.out.on b5)
    have HU5 := Lib.hid (HU4.out.on b5)
    have HO4' := Lib.hid (HO4.out.on b5)
    have HO5 := Lib.hid o5
    have HL4 := Lib.hid (fun g (h : A4 = some ⟨g, 0, none⟩ ∨ B4 = some ⟨g, 0, none⟩) => Nat.lt_of_lt_of_le (HO4.out.lt g h) b5.size)
    clear o5 b5
    go_wp2_with fail
    refine (apart_any (isNeg s) A5 B5 c5 d5 (D (nu s)) (D s.den) _ w5 HO5.out hs1 hs2).mono ?_
    rintro e w6 ⟨A6, c6, B6, d6, rfl, o6, b6⟩
    have HB6 := Lib.hid (below_on HB5.out b6)
    have HT6 := Lib.hid (HT5.out.on b6)
    have HU6 := Lib.hid (HU5.out.on b6)
    have HO4'' := Lib.hid (HO4'.out.on b6)
    have HO6 := Lib.hid o6
    have HC6 := Lib.hid b6.size
    have hz3 := HU3.out.lt
    have hz5 := HU5.out.lt
    clear o6 b6 HB3 HB4 HT3 HT4 HT5 HU3 HU4 HC3 HC4 HO3 HO4 HO4' HO5
    have f0 := HT6.out.fz 0
    have f1 := HT6.out.fz 1
    have f2 := HT6.out.fz 2
    have y0 := HT6.out.c0
    have y1 := HT6.out.c1
    have y2 := HT6.out.c2
    have k0 := HU6.out.fz 0
    have k1 := HU6.out.fz 1
    have k2 := HU6.out.fz 2
    have z0 := HU6.out.c0
    have z1 := HU6.out.c1
    have z2 := HU6.out.c2
    go_wp2
    have g2 := fun W b u v => setAll_grown W (w.heap.size + 1) (.bool b) u v
    have g3 := fun W b u v => setAll_grown W (w.heap.size + 1 + 1) (.bool b) u v
    have hg2 := g2 w6 (isNeg r) (.slice A4 (D (nu r)).length c4) (.slice B4 (D r.den).length d4)
    have hg3 := fun W => g3 W (isNeg s) (.slice A6 (D (nu s)).length c6) (.slice B6 (D s.den).length d6)
    refine bodyPost_ret (retRR rfl _ _ _ _ rfl rfl ((HT6.out.setAll _ _ _ _ _ _ _).grown (hg3 _) (by omega)) ((HU6.out.grown hg2 (by omega)).setAll _ _ _ _ _ _ _)) rfl ?_
    have own : ∀ {W : World} {base : Nat} {xs ys : List Int} {A B : Option Addr} {ca cb : Nat}, OwnR 3 W base xs ys A ca B cb → ∀ (b : Nat) (W' : World), W.grownBy W' (some b) → b < base → OwnR 3 W' base xs ys A ca B cb := fun h b W' hg hb => ⟨own_gone h.1 hg (fun k hk => by have := own_block h.1 hk; omega), own_gone h.2.1 hg (fun k hk => by have := own_block h.2.1 hk; omega), h.2.2⟩
    refine .inl ⟨rfl, A4, c4, B4, d4, A6, c6, B6, d6, w5.heap.size, rfl, OwnR.mono (own (own HO4''.out _ _ hg2 (by omega)) _ _ (hg3 _) (by omega)) (by omega), own (own HO6.out _ _ hg2 (by omega)) _ _ (hg3 _) (by omega), ⟨by omega, Nat.le_trans HC6.out (Nat.le_trans hg2.size (hg3 _).size), HL4.out⟩, below_grow (below_grow HB6.out (by omega) hg2) (by omega) (hg3 _)⟩
  · have hb : (code != 0) = true := by simpa using h0
    have H0 := Lib.hid h0
    clear h0 HFIT HJ
    have f0 := HT2.out.fz 0
    have f1 := HT2.out.fz 1
    have f2 := HT2.out.fz 2
    have y0 := HT2.out.c0
    have y1 := HT2.out.c1
    have y2 := HT2.out.c2
    have k0 := HU2.out.fz 0
    have k1 := HU2.out.fz 1
    have k2 := HU2.out.fz 2
    have z0 := HU2.out.c0
    have z1 := HU2.out.c1
    have z2 := HU2.out.c2
    go_wp2
    have g2 := fun W b u v => setAll_grown W (w.heap.size + 1) (.bool b) u v
    have g3 := fun W b u v => setAll_grown W (w.heap.size + 1 + 1) (.bool b) u v
    refine bodyPost_ret (retRR rfl _ _ _ _ rfl rfl ((HT2.out.setAll false none 0 0 none 0 0).grown (g3 _ false (.slice none 0 0) (.slice none 0 0)) (by omega)) ((HU2.out.grown (g2 _ false (.slice none 0 0) (.slice none 0 0)) (by omega)).setAll false none 0 0 none 0 0)) rfl ?_
    exact .inr ⟨H0.out, none_RRC _ _ _ (below_grow (below_grow HB2.out (by omega) (g2 _ false (.slice none 0 0) (.slice none 0 0))) (by omega) (g3 _ false (.slice none 0 0) (.slice none 0 0)))⟩
end Go.Proofs.YtifepoefeamboaaGreatDoor
