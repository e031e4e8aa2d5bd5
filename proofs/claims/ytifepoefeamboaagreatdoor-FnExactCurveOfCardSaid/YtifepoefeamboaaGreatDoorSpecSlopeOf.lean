/-
  An expression's slope along a way: l06Two, SlopeOf of the model.
-/
import Derived.Test.YtifepoefeamboaaGreatDoorSpecAsk
import Derived.Test.YtifepoefeamboaaGreatDoorSpecEval
import Derived.Test.YtifepoefeamboaaGreatDoorImplJetA
import Derived.Test.YtifepoefeamboaaGreatDoorSpecVecA
import Derived.Test.YtifepoefeamboaaGreatDoorPlaceWay
import Derived.Deep.CutRange
namespace Nt
open Go Go.RowKit
/-- two numbers that can be read, and a code -/
def SayRRC (w : World) (n : Bool) (xs ys : List Int) (n' : Bool) (xs' ys' : List Int) (code : Int) (e : Ending) (w' : World) : Prop :=
  ∃ A ca B cb A' ca' B' cb', e = .returned (.tuple #[.agg #[.bool n, .slice A xs.length ca, .slice B ys.length cb], .agg #[.bool n', .slice A' xs'.length ca', .slice B' ys'.length cb'], .int .i64 code]) ∧ RdR w' (fun _ => True) xs ys A ca B cb ∧ RdR w' (fun _ => True) xs' ys' A' ca' B' cb' ∧ Below w.heap.size w w'
/-- the last node's number and its slope, or a code -/
def SayVal2 (w : World) (n : Nat) (js : List Q4) (code : Int) (e : Ending) (w' : World) : Prop :=
  (code = 0 ∧ SayRRC w (isNeg (js.getD (n - 1) q40).f) (D (nu (js.getD (n - 1) q40).f)) (D (js.getD (n - 1) q40).f.den) (isNeg (js.getD (n - 1) q40).v) (D (nu (js.getD (n - 1) q40).v)) (D (js.getD (n - 1) q40).v.den) 0 e w') ∨ (code ≠ 0 ∧ SayRRC w false [] [] false [] [] code e w')
theorem two_code {right : Bool} {ns : List Nd} {m mv : Nat} {rs sv : List R3} (h : ¬ 4096 < m) (h' : ¬ 4096 < mv) : ptCode1 right ns m mv rs sv = if ptCode right ns m rs = 0 then askV m mv rs sv else ptCode right ns m rs := by
  unfold ptCode1 ptCode
  rw [if_neg (by omega), if_neg h]
  by_cases h1 : (right && okV rs) = true
  · rw [if_pos h1, if_pos h1]
    by_cases h2 : (m : Int) < dimE ns
    · rw [if_pos h2, if_pos h2, if_neg (by decide)]
    · rw [if_neg h2, if_neg h2, if_pos rfl]
  · rw [if_neg h1, if_neg h1, if_neg (by decide)]
end Nt
namespace Go.Proofs.YtifepoefeamboaaGreatDoor
open Go Go.RowKit Nt

/-- what l06Eval says, in one form -/
theorem l06Eval_gen (A X XV XW : Option Addr) (n c m d dv dw : Nat) (ns : List Nd) (qs vs ws : List Rat) (js : List Q4) (code : Int) (P P' P1 P2 : Nat → Prop) (w : World) (hr : RdN w P A n c ns) (hx : RdS w P' X m d (qs.map rat3)) (hxv : RdS w P1 XV m dv (vs.map rat3)) (hxw : RdS w P2 XW m dw (ws.map rat3)) (hf : Fine qs) (hfv : Fine vs) (hfw : Fine ws)
    (hg : ∀ k, k < n → fitN (ns.getD k nd0) = true ∧ behind (ns.getD k nd0) k = true ∧ ((ns.getD k nd0).1 = 2 → (ns.getD k nd0).2.2.2 < m)) (hn1 : 1 ≤ n) (hn : n ≤ 60) (hR : eval4 qs vs ws ns = (js, code)) :
    Calls Tryz.prog 60 #[.agg #[.slice A n c], .slice X m d, .slice XV m dv, .slice XW m dw] w fun e w' => ∃ (nb0 : Bool) (Ea0 : Option Addr) (ea0 ec0 : Nat) (Fb0 : Option Addr) (fb0 fd0 : Nat) (nb1 : Bool) (Ea1 : Option Addr) (ea1 ec1 : Nat) (Fb1 : Option Addr) (fb1 fd1 : Nat) (nb2 : Bool) (Ea2 : Option Addr) (ea2 ec2 : Nat) (Fb2 : Option Addr) (fb2 fd2 : Nat) (nb3 : Bool) (Ea3 : Option Addr) (ea3 ec3 : Nat) (Fb3 : Option Addr) (fb3 fd3 : Nat), e = .returned (.tuple #[.agg #[.bool nb0, .slice Ea0 ea0 ec0, .slice Fb0 fb0 fd0, .bool nb1, .slice Ea1 ea1 ec1, .slice Fb1 fb1 fd1, .bool nb2, .slice Ea2 ea2 ec2, .slice Fb2 fb2 fd2, .bool nb3, .slice Ea3 ea3 ec3, .slice Fb3 fb3 fd3], .int .i64 code]) ∧ (code = 0 → Q4V w' (js.getD (n - 1) q40) (.agg #[.bool nb0, .slice Ea0 ea0 ec0, .slice Fb0 fb0 fd0, .bool nb1, .slice Ea1 ea1 ec1, .slice Fb1 fb1 fd1, .bool nb2, .slice Ea2 ea2 ec2, .slice Fb2 fb2 fd2, .bool nb3, .slice Ea3 ea3 ec3, .slice Fb3 fb3 fd3]) ∧ lims (js.getD (n - 1) q40) 40) ∧ Below w.heap.size w w' := by
  have hln : ns.length = n := hr.len
  refine (l06Eval_any A X XV XW n c m d dv dw ns qs vs ws _ _ _ _ w hr hx hxv hxw hf hfv hfw hg hn1 hn).mono ?_
  intro e w' h
  rw [hR] at h
  rcases h with ⟨h0, v, rfl, hq, hb⟩ | ⟨h0, rfl, hb⟩
  · dsimp only at h0
    subst h0
    have hl : lims (js.getD (n - 1) q40) 40 := by
      have := eval4_ok qs vs ws ns ns.length (Nat.le_refl _) (by rw [List.take_length, hR])
      rw [List.take_length, hR] at this
      exact getQ_fit this.2 (n - 1) (by rw [this.1]; omega)
    obtain ⟨A0, c0, B0, d0, A1, c1, B1, d1, A2, c2, B2, d2, A3, c3, B3, d3, rfl, h0, h1, h2, h3⟩ := hq
    exact ⟨_, _, _, _, _, _, _, _, _, _, _, _, _, _, _, _, _, _, _, _, _, _, _, _, _, _, _, _, rfl, fun _ => ⟨⟨A0, c0, B0, d0, A1, c1, B1, d1, A2, c2, B2, d2, A3, c3, B3, d3, rfl, h0, h1, h2, h3⟩, hl⟩, hb⟩
  · exact ⟨_, _, _, _, _, _, _, _, _, _, _, _, _, _, _, _, _, _, _, _, _, _, _, _, _, _, _, _, rfl, fun h => absurd h h0, hb⟩

set_option maxRecDepth 100000 in
set_option maxHeartbeats 12800000 in
theorem l06Two_any (A X Y : Option Addr) (n c m d mv dv : Nat) (ns : List Nd) (rs sv : List R3) (P P' P2 : Nat → Prop) (w : World) (hr : RdN w P A n c ns) (hx : RdS w P' X m d rs) (hy : RdS w P2 Y mv dv sv) (hsm : Small rs) (hsv : Small sv) (hn : n ≤ 1048576) (hm : m ≤ 1048576) (hmv : mv ≤ 1048576) (h4 : ¬ 4096 < m) (h4' : ¬ 4096 < mv) :
    Calls Tryz.prog 59 #[.agg #[.slice A n c], .slice X m d, .slice Y mv dv] w fun e w' => e = .returned (.int .i64 (ptCode1 (okE ns) ns m mv rs sv)) ∧ Below w.heap.size w w' := by
  have HC := Lib.hid (two_code (right := okE ns) (ns := ns) (rs := rs) (sv := sv) h4 h4')
  have HA := Lib.hid (fun W (hw : Below w.heap.size w W) => l06Ask_any A X n c m d ns rs _ _ W (hr.on hw) (hx.on hw) hsm hn hm)
  have HL := Lib.hid (fun W (hw : Below w.heap.size w W) => l03Ask_any X m d rs Y mv dv sv _ _ W (hx.on hw) (hy.on hw) hsm hsv hm hmv)
  clear hr hx hy hsm hsv h4 h4'
  generalize ptCode (okE ns) ns m rs = k1 at *
  generalize askV m mv rs sv = k2 at *
  go_enter Tryz.func59, Tryz.ntmps59
  go_upto_region 1 with fail
  refine wp_at (fun W => Below w.heap.size w W ∧ SlAt W w.heap.size 25 A n c) ⟨below1 _ _, SlAt.new _ _ _ _ _⟩ ?_
  rintro W ⟨hw, s0⟩
  have t0 := s0.c0
  go_wp2_with fail
  refine (HA.out W hw).mono ?_
  rintro e w1 ⟨rfl, b1⟩
  have HB1 := Lib.hid (below_on hw b1)
  clear hw s0 b1 t0
  by_cases h0 : k1 = 0
  · have hb : (k1 != 0) = false := by simpa using h0
    have HC2 : Hid (ptCode1 (okE ns) ns m mv rs sv = k2) := Lib.hid (by rw [HC.out, if_pos h0])
    clear h0 HC
    go_wp2_with fail
    refine (HL.out w1 HB1.out).mono ?_
    rintro e w2 ⟨rfl, b2⟩
    have HB2 := Lib.hid (below_on HB1.out b2)
    clear b2
    go_wp2
    exact bodyPost_ret (results_tmp rfl _ _ _) rfl ⟨by rw [HC2.out]; rfl, HB2.out⟩
  · have hb : (k1 != 0) = true := by simpa using h0
    have HC2 : Hid (ptCode1 (okE ns) ns m mv rs sv = k1) := Lib.hid (by rw [HC.out, if_neg h0])
    clear h0 HC
    go_wp2
    exact bodyPost_ret (results_tmp rfl _ _ _) rfl ⟨by rw [HC2.out]; rfl, HB1.out⟩

theorem six_one {w w' : World} {b r : Nat} {t : TypeId} {x0 x1 x2 x3 x4 x5 x6 x7 x8 x9 xa xb : Value} (h : Q4At w b t x0 x1 x2 x3 x4 x5 x6 x7 x8 x9 xa xb) (hg : w.grownBy w' (some r)) (hne : b ≠ r) :
    w'.cell? ⟨b, 0, none⟩ = some x0 ∧ w'.cell? ⟨b, 1, none⟩ = some x1 ∧ w'.cell? ⟨b, 2, none⟩ = some x2 ∧ w'.cell? ⟨b, 3, none⟩ = some x3 ∧ w'.cell? ⟨b, 4, none⟩ = some x4 ∧ w'.cell? ⟨b, 5, none⟩ = some x5 := by
  have := h.past hg hne
  exact ⟨this.c0, this.c1, this.c2, this.c3, this.c4, this.c5⟩
theorem six_past {w w' w'' : World} {b r s : Nat} {t : TypeId} {x0 x1 x2 x3 x4 x5 x6 x7 x8 x9 xa xb : Value} (h : Q4At w b t x0 x1 x2 x3 x4 x5 x6 x7 x8 x9 xa xb) (hg : w.grownBy w' (some r)) (hg' : w'.grownBy w'' (some s)) (hne : b ≠ r) (hne' : b ≠ s) :
    w''.cell? ⟨b, 0, none⟩ = some x0 ∧ w''.cell? ⟨b, 1, none⟩ = some x1 ∧ w''.cell? ⟨b, 2, none⟩ = some x2 ∧ w''.cell? ⟨b, 3, none⟩ = some x3 ∧ w''.cell? ⟨b, 4, none⟩ = some x4 ∧ w''.cell? ⟨b, 5, none⟩ = some x5 := six_one (h.past hg hne) hg' hne'
/-- what SlopeOf of the model makes ahead of all -/
theorem slope_boxes (w : World) (A : Option Addr) (n c : Nat) (W : World) (hW : W = ((w.alloc (.cells #[.slice A n c] 25)).alloc (.cells #[.bool false, .slice none 0 0, .slice none 0 0] 31)).alloc (.cells #[.bool false, .slice none 0 0, .slice none 0 0] 31)) :
    Below w.heap.size w W ∧ SlAt W w.heap.size 25 A n c ∧ RatAt W (w.heap.size + 1) 31 false none 0 0 none 0 0 ∧ RatAt W (w.heap.size + 1 + 1) 31 false none 0 0 none 0 0 := by
  subst hW
  refine ⟨below3 _ _ _ _, ((SlAt.new _ _ _ _ _).on (below1 _ _)).on (below1 _ _), ?_, ?_⟩
  · have := (RatAt.new (w.alloc (.cells #[.slice A n c] 25)) 31 false none none 0 0 0 0).on (below1 _ (.cells #[.bool false, .slice none 0 0, .slice none 0 0] 31))
    rwa [World.size_alloc] at this
  · have := RatAt.new ((w.alloc (.cells #[.slice A n c] 25)).alloc (.cells #[.bool false, .slice none 0 0, .slice none 0 0] 31)) 31 false none none 0 0 0 0
    rwa [World.size_alloc, World.size_alloc] at this
theorem none_SayRRC (w w' : World) (code : Int) (hb : Below w.heap.size w w') : SayRRC w false [] [] false [] [] code (.returned (.tuple #[.agg #[.bool false, .slice none 0 0, .slice none 0 0], .agg #[.bool false, .slice none 0 0, .slice none 0 0], .int .i64 code])) w' :=
  ⟨none, 0, none, 0, none, 0, none, 0, rfl, ⟨Rd.nil_ _ _ _ _ (fun _ => rfl), Rd.nil_ _ _ _ _ (fun _ => rfl)⟩, ⟨Rd.nil_ _ _ _ _ (fun _ => rfl), Rd.nil_ _ _ _ _ (fun _ => rfl)⟩, hb⟩

set_option maxRecDepth 100000 in
set_option maxHeartbeats 12800000 in
theorem specSlopeOf_code (A X Y : Option Addr) (n c m d mv dv : Nat) (ns : List Nd) (rs sv : List R3) (P P' P2 : Nat → Prop) (w : World) (hr : RdN w P A n c ns) (hx : RdS w P' X m d rs) (hy : RdS w P2 Y mv dv sv) (hsm : Small rs) (hsv : Small sv) (hn : n ≤ 1048576) (hm : m ≤ 1048576) (hmv : mv ≤ 1048576) (code : Int) (hcode : ptCode1 (okE ns) ns m mv rs sv = code) (h0 : code ≠ 0) :
    Calls Tryz.prog 30 #[.agg #[.slice A n c], .slice X m d, .slice Y mv dv] w (SayRRC w false [] [] false [] [] code) := by
  have hb : (code != 0) = true := by simpa using h0
  by_cases h1 : 4096 < m ∨ 4096 < mv
  · have HC : code = 2 := by rw [← hcode]; unfold ptCode1; rw [if_pos h1]
    subst HC
    by_cases h2 : 4096 < m
    · have z1 : decide ((4096 : Int) < m) = true := by simp; omega
      clear h1 h2 hr hx hy hsm hsv hcode h0 hb
      go_enter Tryz.func30, Tryz.ntmps30
      go_upto_region 1 with fail
      refine wp_at (fun W => Below w.heap.size w W ∧ SlAt W w.heap.size 25 A n c ∧ RatAt W (w.heap.size + 1) 31 false none 0 0 none 0 0 ∧ RatAt W (w.heap.size + 1 + 1) 31 false none 0 0 none 0 0) (slope_boxes w A n c _ rfl) ?_
      rintro w1 ⟨hw, -, r0, r1⟩
      have HB1 := Lib.hid hw
      have HT1 := Lib.hid r0
      have HU1 := Lib.hid r1
      clear hw r0 r1
      have f0 := HT1.out.fz 0
      have y0 := HT1.out.c0
      have k0 := HU1.out.fz 0
      have z0 := HU1.out.c0
      have f1 := HT1.out.fz 1
      have y1 := HT1.out.c1
      have k1 := HU1.out.fz 1
      have z1 := HU1.out.c1
      have f2 := HT1.out.fz 2
      have y2 := HT1.out.c2
      have k2 := HU1.out.fz 2
      have z2 := HU1.out.c2
      go_wp2
      have g2 := fun W b u v => setAll_grown W (w.heap.size + 1) (.bool b) u v
      have g3 := fun W b u v => setAll_grown W (w.heap.size + 1 + 1) (.bool b) u v
      refine bodyPost_ret (retRR rfl _ _ _ _ rfl rfl ((HT1.out.setAll false none 0 0 none 0 0).grown (g3 _ false (.slice none 0 0) (.slice none 0 0)) (by omega)) ((HU1.out.grown (g2 _ false (.slice none 0 0) (.slice none 0 0)) (by omega)).setAll false none 0 0 none 0 0)) rfl ?_
      exact none_SayRRC _ _ _ (below_grow (below_grow HB1.out (by omega) (g2 _ false (.slice none 0 0) (.slice none 0 0))) (by omega) (g3 _ false (.slice none 0 0) (.slice none 0 0)))
    · have z1 : decide ((4096 : Int) < m) = false := by simp; omega
      have z2 : decide ((4096 : Int) < mv) = true := by simp; omega
      clear h1 h2 hr hx hy hsm hsv hcode h0 hb
      go_enter Tryz.func30, Tryz.ntmps30
      go_upto_region 1 with fail
      refine wp_at (fun W => Below w.heap.size w W ∧ SlAt W w.heap.size 25 A n c ∧ RatAt W (w.heap.size + 1) 31 false none 0 0 none 0 0 ∧ RatAt W (w.heap.size + 1 + 1) 31 false none 0 0 none 0 0) (slope_boxes w A n c _ rfl) ?_
      rintro w1 ⟨hw, -, r0, r1⟩
      have HB1 := Lib.hid hw
      have HT1 := Lib.hid r0
      have HU1 := Lib.hid r1
      clear hw r0 r1
      have f0 := HT1.out.fz 0
      have y0 := HT1.out.c0
      have k0 := HU1.out.fz 0
      have z0 := HU1.out.c0
      have f1 := HT1.out.fz 1
      have y1 := HT1.out.c1
      have k1 := HU1.out.fz 1
      have z1 := HU1.out.c1
      have f2 := HT1.out.fz 2
      have y2 := HT1.out.c2
      have k2 := HU1.out.fz 2
      have z2 := HU1.out.c2
      go_wp2
      have g2 := fun W b u v => setAll_grown W (w.heap.size + 1) (.bool b) u v
      have g3 := fun W b u v => setAll_grown W (w.heap.size + 1 + 1) (.bool b) u v
      refine bodyPost_ret (retRR rfl _ _ _ _ rfl rfl ((HT1.out.setAll false none 0 0 none 0 0).grown (g3 _ false (.slice none 0 0) (.slice none 0 0)) (by omega)) ((HU1.out.grown (g2 _ false (.slice none 0 0) (.slice none 0 0)) (by omega)).setAll false none 0 0 none 0 0)) rfl ?_
      exact none_SayRRC _ _ _ (below_grow (below_grow HB1.out (by omega) (g2 _ false (.slice none 0 0) (.slice none 0 0))) (by omega) (g3 _ false (.slice none 0 0) (.slice none 0 0)))
  have h4 : ¬ 4096 < m := by omega
  have h4' : ¬ 4096 < mv := by omega
  have z1 : decide ((4096 : Int) < m) = false := by simp; omega
  have z2 : decide ((4096 : Int) < mv) = false := by simp; omega
  have HA := Lib.hid (fun W (hw : Below w.heap.size w W) => l06Two_any A X Y n c m d mv dv ns rs sv _ _ _ W (hr.on hw) (hx.on hw) (hy.on hw) hsm hsv hn hm hmv h4 h4')
  rw [hcode] at HA
  clear h1 h4 h4' hr hx hy hsm hsv hcode h0
  go_enter Tryz.func30, Tryz.ntmps30
  go_upto_region 1 with fail
  refine wp_at (fun W => Below w.heap.size w W ∧ SlAt W w.heap.size 25 A n c ∧ RatAt W (w.heap.size + 1) 31 false none 0 0 none 0 0 ∧ RatAt W (w.heap.size + 1 + 1) 31 false none 0 0 none 0 0) (slope_boxes w A n c _ rfl) ?_
  rintro W ⟨hw, s0, r0, r1⟩
  have t0 := s0.c0
  go_wp2_with fail
  refine (HA.out W hw).mono ?_
  rintro e w1 ⟨rfl, b1⟩
  have HB1 := Lib.hid (below_on hw b1)
  have HT1 := Lib.hid (r0.on b1)
  have HU1 := Lib.hid (r1.on b1)
  clear hw s0 r0 r1 b1 t0
  have f0 := HT1.out.fz 0
  have y0 := HT1.out.c0
  have k0 := HU1.out.fz 0
  have z0 := HU1.out.c0
  have f1 := HT1.out.fz 1
  have y1 := HT1.out.c1
  have k1 := HU1.out.fz 1
  have z1 := HU1.out.c1
  have f2 := HT1.out.fz 2
  have y2 := HT1.out.c2
  have k2 := HU1.out.fz 2
  have z2 := HU1.out.c2
  go_wp2
  have g2 := fun W b u v => setAll_grown W (w.heap.size + 1) (.bool b) u v
  have g3 := fun W b u v => setAll_grown W (w.heap.size + 1 + 1) (.bool b) u v
  refine bodyPost_ret (retRR rfl _ _ _ _ rfl rfl ((HT1.out.setAll false none 0 0 none 0 0).grown (g3 _ false (.slice none 0 0) (.slice none 0 0)) (by omega)) ((HU1.out.grown (g2 _ false (.slice none 0 0) (.slice none 0 0)) (by omega)).setAll false none 0 0 none 0 0)) rfl ?_
  exact none_SayRRC _ _ _ (below_grow (below_grow HB1.out (by omega) (g2 _ false (.slice none 0 0) (.slice none 0 0))) (by omega) (g3 _ false (.slice none 0 0) (.slice none 0 0)))

set_option maxRecDepth 100000 in
set_option maxHeartbeats 12800000 in
theorem specSlopeOf_ok (A X Y : Option Addr) (n c m d dv : Nat) (ns : List Nd) (qs us : List Rat) (P P' P2 : Nat → Prop) (w : World) (hr : RdN w P A n c ns) (hx : RdS w P' X m d (qs.map rat3)) (hy : RdS w P2 Y m dv (us.map rat3)) (hf : Fine qs) (hfu : Fine us) (hn : n ≤ 1048576) (hm : m ≤ 1048576) (hcode : ptCode1 (okE ns) ns m m (qs.map rat3) (us.map rat3) = 0) (js : List Q4) (code : Int) (hR : eval4 qs us (noughts m) ns = (js, code)) :
    Calls Tryz.prog 30 #[.agg #[.slice A n c], .slice X m d, .slice Y m dv] w (SayVal2 w n js code) := by
  obtain ⟨h4, -, hright, hok, hok', hdim⟩ := ptCode1_zero hcode
  have hln : ns.length = n := hr.len
  obtain ⟨hg, hn1, hn60⟩ := okE_at hln hright hdim
  have z1 : decide ((4096 : Int) < m) = false := by simp; omega
  have HA := Lib.hid (fun W (hw : Below w.heap.size w W) => l06Two_any A X Y n c m d m dv ns (qs.map rat3) (us.map rat3) _ _ _ W (hr.on hw) (hx.on hw) (hy.on hw) (small_fine hf) (small_fine hfu) hn hm hm (by omega) (by omega))
  rw [hcode] at HA
  have HE := Lib.hid (fun (Z : Option Addr) (dz : Nat) (W : World) (hb : Below w.heap.size w W) (hz : RdS W (fun _ => True) Z m dz ((noughts m).map rat3)) => l06Eval_gen A X Y Z n c m d dv dz ns qs us (noughts m) js code _ _ _ _ W (hr.on hb) (hx.on hb) (hy.on hb) hz hf hfu (fine_noughts m) hg hn1 hn60 hR)
  have HFIT : Hid (code = 0 → lims (js.getD (n - 1) q40) 40) := fun h => by
    have := eval4_ok qs us (noughts m) ns ns.length (Nat.le_refl _) (by rw [List.take_length, hR]; exact h)
    rw [List.take_length, hR] at this
    exact getQ_fit this.2 (n - 1) (by rw [this.1]; omega)
  clear hright hok hok' hdim hln hg hn1 hn60 hr hx hy hf hfu hcode hR
  obtain ⟨q, HQQ⟩ : ∃ q, Hid ((js.getD (n - 1) q40) = q) := ⟨_, Lib.hid rfl⟩
  rw [HQQ.out] at HE HFIT
  go_enter Tryz.func30, Tryz.ntmps30
  go_upto_region 1 with fail
  refine wp_at (fun W => Below w.heap.size w W ∧ SlAt W w.heap.size 25 A n c ∧ RatAt W (w.heap.size + 1) 31 false none 0 0 none 0 0 ∧ RatAt W (w.heap.size + 1 + 1) 31 false none 0 0 none 0 0) (slope_boxes w A n c _ rfl) ?_
  rintro W ⟨hw, s0, r0, r1⟩
  have t0 := s0.c0
  go_upto_region 6 with (go_at_call 59; refine (HA.out W hw).mono ?_; rintro e w1 ⟨rfl, b1⟩)
  have HB0 := Lib.hid (below_on hw b1)
  have HS0 := Lib.hid (s0.on b1)
  have HT0 := Lib.hid (r0.on b1)
  have HU0 := Lib.hid (r1.on b1)
  have hU0 := HU0.out.lt
  clear hw s0 r0 r1 b1 t0 HA z1
  go_cut [10, 11] (fun s1 s2 wx => ∃ (zb : Nat) (nb0 : Bool) (Ea0 : Option Addr) (ea0 ec0 : Nat) (Fb0 : Option Addr) (fb0 fd0 : Nat) (nb1 : Bool) (Ea1 : Option Addr) (ea1 ec1 : Nat) (Fb1 : Option Addr) (fb1 fd1 : Nat) (nb2 : Bool) (Ea2 : Option Addr) (ea2 ec2 : Nat) (Fb2 : Option Addr) (fb2 fd2 : Nat) (nb3 : Bool) (Ea3 : Option Addr) (ea3 ec3 : Nat) (Fb3 : Option Addr) (fb3 fd3 : Nat), w.heap.size + 1 + 1 < zb ∧ s1 = .pointer (some ⟨zb, 0, none⟩) ∧ s2 = .int .i64 code ∧ (Below w.heap.size w wx) ∧ (SlAt wx w.heap.size 25 A n c) ∧ (RatAt wx (w.heap.size + 1) 31 false none 0 0 none 0 0) ∧ (RatAt wx (w.heap.size + 1 + 1) 31 false none 0 0 none 0 0) ∧ Q4At wx zb 84 (.bool nb0) (.slice Ea0 ea0 ec0) (.slice Fb0 fb0 fd0) (.bool nb1) (.slice Ea1 ea1 ec1) (.slice Fb1 fb1 fd1) (.bool nb2) (.slice Ea2 ea2 ec2) (.slice Fb2 fb2 fd2) (.bool nb3) (.slice Ea3 ea3 ec3) (.slice Fb3 fb3 fd3) ∧ (code = 0 → Q4V wx q (.agg #[.bool nb0, .slice Ea0 ea0 ec0, .slice Fb0 fb0 fd0, .bool nb1, .slice Ea1 ea1 ec1, .slice Fb1 fb1 fd1, .bool nb2, .slice Ea2 ea2 ec2, .slice Fb2 fb2 fd2, .bool nb3, .slice Ea3 ea3 ec3, .slice Fb3 fb3 fd3])))
  case first =>
    go_region_held3 (fun wx => wx.cell? ⟨w.heap.size, 0, none⟩ = some (.slice A n c))
      (first | with_reducible exact HS2.out.c0 | with_reducible exact HS1.out.c0 | with_reducible exact HS0.out.c0 | with_reducible exact (HS2.out.on (below1 _ _)).c0 | with_reducible exact (HS1.out.on (below1 _ _)).c0 | with_reducible exact (HS0.out.on (below1 _ _)).c0 | with_reducible exact (HS2.out.past (set12_grown _ _ _ _ _ _ _ _ _ _ _ _ _ _) (by omega)).c0 | exact (HS2.out.past (set12_grown _ _ _ _ _ _ _ _ _ _ _ _ _ _) (by omega)).c0 | exact HS0.out.c0 | exact (HS0.out.on (below1 _ _)).c0)
      (first
        | (go_at_call 61; (first | (with_reducible show Calls _ _ _ (World.drew (World.alloc _ _)) _) | (with_reducible show Calls _ _ _ (World.alloc (World.drew _) _) _)); refine calls_at (fun V => Below w1.heap.size w1 V ∧ Q4At V w1.heap.size 84 (.bool false) (.slice none 0 0) (.slice none 0 0) (.bool false) (.slice none 0 0) (.slice none 0 0) (.bool false) (.slice none 0 0) (.slice none 0 0) (.bool false) (.slice none 0 0) (.slice none 0 0)) (by first | exact ⟨below1 _ _, Q4At.new _ _ _ _ _ _ _ _ _ _ _ _ _ _⟩ | exact ⟨below_drewN (below1 _ _) 1, Q4At.new _ _ _ _ _ _ _ _ _ _ _ _ _ _⟩ | exact ⟨undrew (below1 _ _), Q4At.new _ _ _ _ _ _ _ _ _ _ _ _ _ _⟩) ?_; rintro y0 ⟨bu, pz⟩; have su0 := bu.size; have HB0 := Lib.hid (below_on HB0.out bu); have HS0 := Lib.hid (HS0.out.on bu); have HT0 := Lib.hid (HT0.out.on bu); have HU0 := Lib.hid (HU0.out.on bu); have HZ0 := Lib.hid pz; clear bu pz; refine (l06Zeros_any m h4 _).mono ?_; rintro e u1 ⟨Zz, dz, rfl, oo, bb⟩; have sv1 := bb.size; have HB1 := Lib.hid (below_on HB0.out bb); have HS1 := Lib.hid (HS0.out.on bb); have HT1 := Lib.hid (HT0.out.on bb); have HU1 := Lib.hid (HU0.out.on bb); have HZ1 := Lib.hid (HZ0.out.on bb); have HZZ1 := Lib.hid oo; clear oo; clear bb)
        | (go_at_call 61; refine (l06Zeros_any m h4 _).mono ?_; rintro e u1 ⟨Zz, dz, rfl, oo, bb⟩; have bb := undrew bb; have sv1 := bb.size; have HB1 := Lib.hid (below_on HB0.out bb); have HS1 := Lib.hid (HS0.out.on bb); have HT1 := Lib.hid (HT0.out.on bb); have HU1 := Lib.hid (HU0.out.on bb); have HZZ1 := Lib.hid oo; clear oo; clear bb)
        | (go_at_call 60; (with_reducible show Calls _ _ _ (World.alloc _ _) _); refine calls_at (fun V => Below u1.heap.size u1 V ∧ Q4At V u1.heap.size 84 (.bool false) (.slice none 0 0) (.slice none 0 0) (.bool false) (.slice none 0 0) (.slice none 0 0) (.bool false) (.slice none 0 0) (.slice none 0 0) (.bool false) (.slice none 0 0) (.slice none 0 0)) (by first | exact ⟨below1 _ _, Q4At.new _ _ _ _ _ _ _ _ _ _ _ _ _ _⟩ | exact ⟨below_drewN (below1 _ _) 1, Q4At.new _ _ _ _ _ _ _ _ _ _ _ _ _ _⟩ | exact ⟨undrew (below1 _ _), Q4At.new _ _ _ _ _ _ _ _ _ _ _ _ _ _⟩) ?_; rintro y1 ⟨bu, pz⟩; have su1 := bu.size; have HB1 := Lib.hid (below_on HB1.out bu); have HS1 := Lib.hid (HS1.out.on bu); have HT1 := Lib.hid (HT1.out.on bu); have HU1 := Lib.hid (HU1.out.on bu); have HZZ1 := Lib.hid (HZZ1.out.on bu); have HZ1 := Lib.hid pz; clear bu pz; refine (HE.out Zz dz _ (by exact HB1.out) (by exact HZZ1.out)).mono ?_; rintro e u2 ⟨nb0, Ea0, ea0, ec0, Fb0, fb0, fd0, nb1, Ea1, ea1, ec1, Fb1, fb1, fd1, nb2, Ea2, ea2, ec2, Fb2, fb2, fd2, nb3, Ea3, ea3, ec3, Fb3, fb3, fd3, rfl, oo, bb⟩; have sv2 := bb.size; have HB2 := Lib.hid (below_on HB1.out bb); have HS2 := Lib.hid (HS1.out.on bb); have HT2 := Lib.hid (HT1.out.on bb); have HU2 := Lib.hid (HU1.out.on bb); have HZZ2 := Lib.hid (HZZ1.out.on bb); have HZ2 := Lib.hid (HZ1.out.on bb); have HQ2 := Lib.hid (fun h => (oo h).1); clear oo; have f0 := HZ2.out.fz 0; have y0 := HZ2.out.c0; have f1 := HZ2.out.fz 1; have y1 := HZ2.out.c1; have f2 := HZ2.out.fz 2; have y2 := HZ2.out.c2; have f3 := HZ2.out.fz 3; have y3 := HZ2.out.c3; have f4 := HZ2.out.fz 4; have y4 := HZ2.out.c4; have f5 := HZ2.out.fz 5; have y5 := HZ2.out.c5; have f6 := HZ2.out.fz 6; have y6 := HZ2.out.c6; have f7 := HZ2.out.fz 7; have y7 := HZ2.out.c7; have f8 := HZ2.out.fz 8; have y8 := HZ2.out.c8; have f9 := HZ2.out.fz 9; have y9 := HZ2.out.c9; have f10 := HZ2.out.fz 10; have y10 := HZ2.out.c10; have f11 := HZ2.out.fz 11; have y11 := HZ2.out.c11; clear bb)
        | (go_at_call 60; refine (HE.out Zz dz _ (by exact HB1.out) (by exact HZZ1.out)).mono ?_; rintro e u2 ⟨nb0, Ea0, ea0, ec0, Fb0, fb0, fd0, nb1, Ea1, ea1, ec1, Fb1, fb1, fd1, nb2, Ea2, ea2, ec2, Fb2, fb2, fd2, nb3, Ea3, ea3, ec3, Fb3, fb3, fd3, rfl, oo, bb⟩; have sv2 := bb.size; have HB2 := Lib.hid (below_on HB1.out bb); have HS2 := Lib.hid (HS1.out.on bb); have HT2 := Lib.hid (HT1.out.on bb); have HU2 := Lib.hid (HU1.out.on bb); have HZZ2 := Lib.hid (HZZ1.out.on bb); have HQ2 := Lib.hid (fun h => (oo h).1); clear oo; (try (have HZ2 := Lib.hid (HZ1.out.on bb); have f0 := HZ2.out.fz 0; have y0 := HZ2.out.c0; have f1 := HZ2.out.fz 1; have y1 := HZ2.out.c1; have f2 := HZ2.out.fz 2; have y2 := HZ2.out.c2; have f3 := HZ2.out.fz 3; have y3 := HZ2.out.c3; have f4 := HZ2.out.fz 4; have y4 := HZ2.out.c4; have f5 := HZ2.out.fz 5; have y5 := HZ2.out.c5; have f6 := HZ2.out.fz 6; have y6 := HZ2.out.c6; have f7 := HZ2.out.fz 7; have y7 := HZ2.out.c7; have f8 := HZ2.out.fz 8; have y8 := HZ2.out.c8; have f9 := HZ2.out.fz 9; have y9 := HZ2.out.c9; have f10 := HZ2.out.fz 10; have y10 := HZ2.out.c10; have f11 := HZ2.out.fz 11; have y11 := HZ2.out.c11)); clear bb)
        | fail)
    all_goals
      go_wp2_with fail
      go_meet
    all_goals first | (have HZc := HZ2; exact ⟨_, nb0, Ea0, ea0, ec0, Fb0, fb0, fd0, nb1, Ea1, ea1, ec1, Fb1, fb1, fd1, nb2, Ea2, ea2, ec2, Fb2, fb2, fd2, nb3, Ea3, ea3, ec3, Fb3, fb3, fd3, by omega, rfl, rfl, HB2.out.trans (grown_below (set12_grown _ _ _ _ _ _ _ _ _ _ _ _ _ _) (by omega) (by omega)), HS2.out.past (set12_grown _ _ _ _ _ _ _ _ _ _ _ _ _ _) (by omega), HT2.out.grown (set12_grown _ _ _ _ _ _ _ _ _ _ _ _ _ _) (by omega), HU2.out.grown (set12_grown _ _ _ _ _ _ _ _ _ _ _ _ _ _) (by omega), HZ2.out.setAll _ _ _ _ _ _ _ _ _ _ _ _, fun h => (HQ2.out h).past HZ2.out (by simp [noInt]) (set12_grown _ _ _ _ _ _ _ _ _ _ _ _ _ _)⟩) | exact ⟨_, nb0, Ea0, ea0, ec0, Fb0, fb0, fd0, nb1, Ea1, ea1, ec1, Fb1, fb1, fd1, nb2, Ea2, ea2, ec2, Fb2, fb2, fd2, nb3, Ea3, ea3, ec3, Fb3, fb3, fd3, by omega, rfl, rfl, below_on HB2.out (below1 _ _), HS2.out.on (below1 _ _), HT2.out.on (below1 _ _), HU2.out.on (below1 _ _), Q4At.new _ _ _ _ _ _ _ _ _ _ _ _ _ _, fun h => (HQ2.out h).on (below1 _ _)⟩
  obtain ⟨zb, nb0, Ea0, ea0, ec0, Fb0, fb0, fd0, nb1, Ea1, ea1, ec1, Fb1, fb1, fd1, nb2, Ea2, ea2, ec2, Fb2, fb2, fd2, nb3, Ea3, ea3, ec3, Fb3, fb3, fd3, hzb, rfl, rfl, pB, pS, pT, pU, pV, pQ⟩ := hcut
  by_cases h0 : code = 0
  · have hfit := HFIT.out h0
    obtain ⟨A0, c0, B0, d0, A1, c1, B1, d1, A2, c2, B2, d2, A3, c3, B3, d3, e, o0, o1, -, -⟩ := pQ h0
    simp only [Value.agg.injEq] at e
    have e := congrArg Array.toList e
    simp only [List.cons.injEq, Value.bool.injEq, Value.slice.injEq] at e
    obtain ⟨e0, ⟨e1, e1b, e1c⟩, ⟨e2, e2b, e2c⟩, e3, ⟨e4, e4b, e4c⟩, ⟨e5, e5b, e5c⟩, -⟩ := e
    subst e0 e1 e1b e1c e2 e2b e2c e3 e4 e4b e4c e5 e5b e5c
    subst h0
    have l1 : (D (nu q.f)).length ≤ 16777216 := Nat.le_trans hfit.1.1 (by decide)
    have l2 : (D q.f.den).length ≤ 16777216 := Nat.le_trans hfit.1.2 (by decide)
    have l3 : (D (nu q.v)).length ≤ 16777216 := Nat.le_trans hfit.2.1.1 (by decide)
    have l4 : (D q.v.den).length ≤ 16777216 := Nat.le_trans hfit.2.1.2 (by decide)
    have HB3 := Lib.hid pB
    have HT3 := Lib.hid pT
    have HU3 := Lib.hid pU
    have HV3 := Lib.hid pV
    have HO0 := Lib.hid o0
    have HO1 := Lib.hid o1
    have hzl := HV3.out.lt
    have hul := HU3.out.lt
    clear pB pS pT pU pV pQ o0 o1 hfit HFIT HE HB0 HS0 HT0 HU0
    have q0 := HV3.out.c0
    have q1 := HV3.out.c1
    have q2 := HV3.out.c2
    have q3 := HV3.out.c3
    have q4 := HV3.out.c4
    have q5 := HV3.out.c5
    go_upto_region 9 with fail
    go_region_with (first
        | (go_at_call_of 62 Ea1; refine (l02Own_any (isNeg q.v) Ea1 Fb1 ec1 fd1 (D (nu q.v)) (D q.v.den) _ _ (by exact HP4.out) l3 l4).mono ?_; rintro e w5 ⟨A6, c6, B6, d6, rfl, oo, bb⟩; have HB5 := Lib.hid (below_on HB4.out bb); have HT5 := Lib.hid (HT4.out.on bb); have HU5 := Lib.hid (HU4.out.on bb); have HV5 := Lib.hid (HV4.out.on bb); have HO5 := Lib.hid (HO4.out.on bb); have HP5 := Lib.hid oo; have f0 := HT5.out.fz 0; have f1 := HT5.out.fz 1; have f2 := HT5.out.fz 2; have y0 := HT5.out.c0; have y1 := HT5.out.c1; have y2 := HT5.out.c2; have k0 := HU5.out.fz 0; have k1 := HU5.out.fz 1; have k2 := HU5.out.fz 2; have z0 := HU5.out.c0; have z1 := HU5.out.c1; have z2 := HU5.out.c2; clear oo bb)
        | (go_at_call_of 62 Ea0; refine (l02Own_any (isNeg q.f) Ea0 Fb0 ec0 fd0 (D (nu q.f)) (D q.f.den) _ _ (by first | exact HO0.out | exact HO0.out.on (below_drewN (Below.refl _ _) 1)) l1 l2).mono ?_; rintro e w4 ⟨A5, c5, B5, d5, rfl, oo, bb⟩; have bb := undrew bb; have HB4 := Lib.hid (below_on HB3.out bb); have HT4 := Lib.hid (HT3.out.on bb); have HU4 := Lib.hid (HU3.out.on bb); have HV4 := Lib.hid (HV3.out.on bb); have HO4 := Lib.hid oo; have HP4 := Lib.hid (HO1.out.on bb); have q3 := HV4.out.c3; have q4 := HV4.out.c4; have q5 := HV4.out.c5; clear oo bb))
    all_goals
      go_wp2
      have g2 := fun W b u v => setAll_grown W (w.heap.size + 1) (.bool b) u v
      have g3 := fun W b u v => setAll_grown W (w.heap.size + 1 + 1) (.bool b) u v
      have hg2 := g2 w5 (isNeg q.f) (.slice A5 (D (nu q.f)).length c5) (.slice B5 (D q.f.den).length d5)
      have hg3 := fun W => g3 W (isNeg q.v) (.slice A6 (D (nu q.v)).length c6) (.slice B6 (D q.v.den).length d6)
      refine bodyPost_ret (retRR rfl _ _ _ _ rfl rfl ((HT5.out.setAll _ _ _ _ _ _ _).grown (hg3 _) (by omega)) ((HU5.out.grown hg2 (by omega)).setAll _ _ _ _ _ _ _)) rfl ?_
      unfold SayVal2
      rw [HQQ.out]
      have hU2 := HU5.out.grown hg2 (by omega)
      exact .inl ⟨rfl, A5, c5, B5, d5, A6, c6, B6, d6, rfl, ⟨(HO5.out.1.past HT5.out hg2).past hU2 (hg3 _), (HO5.out.2.past HT5.out hg2).past hU2 (hg3 _)⟩, ⟨(HP5.out.1.past HT5.out hg2).past hU2 (hg3 _), (HP5.out.2.past HT5.out hg2).past hU2 (hg3 _)⟩, below_grow (below_grow HB5.out (by omega) hg2) (by omega) (hg3 _)⟩
  · have hb : (code != 0) = true := by simpa using h0
    have H0 := Lib.hid h0
    have HB3 := Lib.hid pB
    have HT3 := Lib.hid pT
    have HU3 := Lib.hid pU
    have hul := HU3.out.lt
    clear pB pS pT pU pV pQ h0 HFIT HE HB0 HS0 HT0 HU0
    have f0 := HT3.out.fz 0
    have y0 := HT3.out.c0
    have k0 := HU3.out.fz 0
    have z0 := HU3.out.c0
    have f1 := HT3.out.fz 1
    have y1 := HT3.out.c1
    have k1 := HU3.out.fz 1
    have z1 := HU3.out.c1
    have f2 := HT3.out.fz 2
    have y2 := HT3.out.c2
    have k2 := HU3.out.fz 2
    have z2 := HU3.out.c2
    go_wp2
    have g2 := fun W b u v => setAll_grown W (w.heap.size + 1) (.bool b) u v
    have g3 := fun W b u v => setAll_grown W (w.heap.size + 1 + 1) (.bool b) u v
    refine bodyPost_ret (retRR rfl _ _ _ _ rfl rfl ((HT3.out.setAll false none 0 0 none 0 0).grown (g3 _ false (.slice none 0 0) (.slice none 0 0)) (by omega)) ((HU3.out.grown (g2 _ false (.slice none 0 0) (.slice none 0 0)) (by omega)).setAll false none 0 0 none 0 0)) rfl ?_
    exact .inr ⟨H0.out, none_SayRRC _ _ _ (below_grow (below_grow HB3.out (by omega) (g2 _ false (.slice none 0 0) (.slice none 0 0))) (by omega) (g3 _ false (.slice none 0 0) (.slice none 0 0)))⟩

end Go.Proofs.YtifepoefeamboaaGreatDoor
