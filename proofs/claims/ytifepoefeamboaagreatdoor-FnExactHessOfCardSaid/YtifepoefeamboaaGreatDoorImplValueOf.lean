/-
  An expression at a place: placeCode, jetAt, ValueOf of the program.
-/
import Derived.Test.YtifepoefeamboaaGreatDoorImplJetV
import Derived.Test.YtifepoefeamboaaGreatDoorGrpF
import Derived.Test.YtifepoefeamboaaGreatDoorImplJetN
import Derived.Test.YtifepoefeamboaaGreatDoorGrpD
import Derived.Test.YtifepoefeamboaaGreatDoorPlaceMath
import Derived.Test.YtifepoefeamboaaGreatDoorGrpH
namespace Nt
open Go Go.RowKit
/-- the last step's jet, or a code -/
def SayJ1 (tF tM : TypeId) (w : World) (n : Nat) (js : List Jt) (code : Int) (e : Ending) (w' : World) : Prop :=
  ((code = 0 ∧ ∃ t x, e = .returned (.tuple #[.iface t x, .int .i64 0]) ∧ JAt tF tM w' (fun _ => True) (js.getD (n - 1) j0) (.iface t x)) ∨ (code ≠ 0 ∧ e = .returned (.tuple #[.nilIface, .int .i64 code]))) ∧ Below w.heap.size w w'
/-- the last step's number in memory of its own, or a code -/
def RetVal (t : TypeId) (w : World) (r : Rat) (code : Int) (e : Ending) (w' : World) : Prop :=
  (code = 0 ∧ RetRC t w (isNeg r) (D (nu r)) (D r.den) 0 e w') ∨ (code ≠ 0 ∧ RetRC t w false [] [] code e w')
/-- the model's jets of a place without ways, by the program's -/
theorem eval_noughts (qs : List Rat) (ns : List Nd) (m : Nat) : eval4 qs (noughts m) (noughts m) ns = ((evalJ (qs.map Jt.fx) ns).1.map r4, (evalJ (qs.map Jt.fx) ns).2) := by
  have h0 : ∀ i, (noughts m).getD i 0 = 0 := fun i => by
    by_cases h : i < m
    · simp [List.getD, h]
    · simp [List.getD, h]
  have := eval_r4 (X := qs) (V := noughts m) (W := noughts m) (vars := qs.map Jt.fx) (fun j hj => Nat.le_trans (fx_dep qs j hj) (by decide)) (fun i => by
    have e : (qs.map Jt.fx).getD i j0 = Jt.fx (qs.getD i 0) := by
      by_cases h : i < qs.length
      · simp [List.getD, h]
      · simp [List.getD, h, j0]
    rw [e, r4_fx]
    unfold varQ con4
    rw [h0]) ns ns.length (Nat.le_refl _)
  rwa [List.take_length] at this
/-- the last step's number is not too long -/
theorem last_lim {qs : List Rat} {ns : List Nd} {js : List Jt} {n : Nat} (hn : ns.length = n) (h1 : 1 ≤ n) (hR : evalJ (qs.map Jt.fx) ns = (js, 0)) : lim (numJ (js.getD (n - 1) j0) 0) 40 := by
  have := evalJ_ok (fx_dep qs) ns ns.length (Nat.le_refl _) (by rw [List.take_length, hR])
  rw [List.take_length, hR] at this
  have hl : n - 1 < js.length := by have := this.len; dsimp only at this; omega
  have e : js.getD (n - 1) j0 = js[n - 1] := by simp [List.getD, hl]
  rw [e]
  exact (L2.of_fits (Nat.le_trans (this.dep _ (List.getElem_mem hl)) (by decide)) (this.fit _ (List.getElem_mem hl))).2.1
end Nt
namespace Go.Proofs.YtifepoefeamboaaGreatDoor
open Go Go.RowKit Nt

set_option maxRecDepth 20000 in
set_option maxHeartbeats 3200000 in
/-- what stands against a place alone -/
theorem placeCode_none (A X : Option Addr) (n c m d : Nat) (ns : List Nd) (rs : List R3) (P P' : Nat → Prop) (w : World) (hr : RdN w P A n c ns) (hx : RdS w P' X m d rs) (hsm : Small rs) (hn : n ≤ 1048576) (hm : m ≤ 1048576) :
    Calls Tryz.prog 39 #[.agg #[.slice A n c], .slice X m d, .slice none 0 0] w fun e w' => e = .returned (.int .i64 (ptCode (okE ns) ns m rs)) ∧ Below w.heap.size w w' := by
  have HLN : Hid (ns.length = n) := hr.len
  have HR := Lib.hid (hr.mono (Q := (· < w.heap.size)) fun _ _ h => h)
  have HX := Lib.hid hx.low
  have HS := Lib.hid hsm
  have HOK : Hid (okE ns = true → (∀ j, j < ns.length → fitN (ns.getD j nd0) = true) ∧ 1 ≤ n ∧ n ≤ 60) := fun h => by
    obtain ⟨h1, h60, hf, -⟩ := okE_out h
    have := HLN.out
    exact ⟨hf, by omega, by omega⟩
  clear hr hx hsm
  go_enter Tryz.func39, Tryz.ntmps39
  go_upto_region 1 with fail
  refine wp_atJ (fun v0 => Below w.heap.size w v0 ∧ SlAt v0 w.heap.size 25 A n c) ⟨below1 _ _, SlAt.new _ _ _ _ _⟩ ?_
  rintro v0 ⟨hb, r0⟩
  have HB0 := Lib.hid hb
  have HT0 := Lib.hid r0
  have HC0 := Lib.hid r0.c0
  clear hb r0
  go_region_held3 (fun wx => wx.cell? ⟨w.heap.size, 0, none⟩ = some (.slice A n c))
    (first | exact HC0.out | exact HC1.out | exact HC2.out)
    (first
      | (go_at_call 70; refine (implExprOK_any A n c ns _ _ (by first | exact HR.out.below HB0.out | exact (HR.out.below HB0.out).drew) hn).mono ?_; rintro e w1 ⟨rfl, bb⟩; have bb := undrew bb; have HB1 := Lib.hid (below_on HB0.out bb); have HT1 := Lib.hid (HT0.out.on bb); have HC1 := Lib.hid HT1.out.c0; clear bb)
      | (go_at_call 69; refine (pointCode_none _ ns A X n c m d rs _ _ _ (by exact HR.out.below HB1.out) (by exact HX.out.below HB1.out) HS.out hm HOK.out).mono ?_; rintro e w2 ⟨rfl, bb⟩; have HB2 := Lib.hid (below_on HB1.out bb); have HT2 := Lib.hid (HT1.out.on bb); have HC2 := Lib.hid HT2.out.c0; clear bb))
  go_wp2
  exact bodyPost_ret (results_tmp rfl _ _ _) rfl ⟨rfl, HB2.out⟩

set_option maxRecDepth 20000 in
set_option maxHeartbeats 3200000 in
/-- the last step's jet along so many ways -/
theorem exprJetAt_any (A X : Option Addr) (n c m d : Nat) (ns : List Nd) (qs : List Rat) (vs : Nat → List Rat) (G : Option Addr) (N cG : Nat) (Aw : Nat → Option Addr) (cw : Nat → Nat) (P P' : Nat → Prop) (w : World) (ad : Addr) (hE : ErrAt 195 w ad) (hr : RdN w P A n c ns) (hx : RdS w P' X m d (qs.map rat3)) (hw : WaysAt w G N m Aw cw vs)
    (hd : ∀ j ∈ varsJ qs vs N m, j.dep ≤ 2) (hL : ∀ j ∈ varsJ qs vs N m, L2 j 40 40 40 40) (hg : ∀ k, k < n → fitN (ns.getD k nd0) = true ∧ behind (ns.getD k nd0) k = true ∧ ((ns.getD k nd0).1 = 2 → (ns.getD k nd0).2.2.2 < m)) (hn1 : 1 ≤ n) (hn : n ≤ 60) (hN : N ≤ 2) (hm : m ≤ 100) (js : List Jt) (code : Int) (hR : evalJ (varsJ qs vs N m) ns = (js, code)) :
    Calls Tryz.prog 40 #[.agg #[.slice A n c], .slice X m d, .slice G N cG] w (SayJ1 105 103 w n js code) := by
  have HLN : Hid (ns.length = n) := hr.len
  have HR := Lib.hid (hr.mono (Q := (· < w.heap.size)) fun _ _ h => h)
  have HX := Lib.hid hx.low
  have HW := Lib.hid hw
  have HE := Lib.hid hE
  have HD := Lib.hid hd
  have HL := Lib.hid hL
  have HG := Lib.hid hg
  have HY1 : Hid ((evalJ (varsJ qs vs N m) ns).1 = js) := Lib.hid (by rw [hR])
  have HY2 : Hid ((evalJ (varsJ qs vs N m) ns).2 = code) := Lib.hid (by rw [hR])
  have HJL : Hid (code = 0 → js.length = n) := fun h => by
    have e := HLN.out
    have := (evalJ_ok hd ns ns.length (Nat.le_refl _) (by rw [List.take_length, hR]; exact h)).len
    rw [List.take_length, hR] at this
    rw [← e]; exact this
  clear hr hx hw hE hd hL hg hR
  go_enter Tryz.func40, Tryz.ntmps40
  go_upto_region 1 with fail
  refine wp_atJ (fun v0 => Below w.heap.size w v0 ∧ SlAt v0 w.heap.size 25 A n c) ⟨below1 _ _, SlAt.new _ _ _ _ _⟩ ?_
  rintro v0 ⟨hb, r0⟩
  have HB0 := Lib.hid hb
  have HT0 := Lib.hid r0
  have HC0 := Lib.hid r0.c0
  have HW0 := Lib.hid (HW.out.on hb)
  clear hb r0
  go_region_held3 (fun wx => wx.cell? ⟨w.heap.size, 0, none⟩ = some (.slice A n c))
    (first | exact HC0.out | exact HC1.out | exact HC2.out)
    (first
      | (go_at_call 72; refine (jetsAlong_any qs vs X m d G N cG Aw cw _ _ (by first | exact HX.out.below HB0.out | exact (HX.out.below HB0.out).on (below_drewJ (Below.refl _ _))) (by first | exact HW0.out | exact HW0.out.on (below_drewJ (Below.refl _ _))) hN hm).mono ?_; rintro e w1 ⟨V, cv, rfl, hj, bb⟩; have bb := undrew bb; have HJ := Lib.hid hj; have HB1 := Lib.hid (below_on HB0.out bb); have HT1 := Lib.hid (HT0.out.on bb); have HC1 := Lib.hid HT1.out.c0; clear bb hj)
      | (go_at_call 71; refine (jetsOf_fits ns (varsJ qs vs N m) A V n c m cv _ _ ad (HE.out.on HB1.out) (by exact HR.out.below HB1.out) (by exact HJ.out) HD.out HL.out HG.out hn).mono ?_; rintro e w2 ⟨V4, c4, rfl, hj, bb⟩; rw [HY1.out] at hj; rw [HY1.out, HY2.out]; have HJ4 := Lib.hid hj; have HB2 := Lib.hid (below_on HB1.out bb); have HT2 := Lib.hid (HT1.out.on bb); have HC2 := Lib.hid HT2.out.c0; clear bb hj))
  all_goals
    clear HC0 HC1 HT0 HT1 HB0 HB1 HJ HW0
    by_cases h0 : code = 0
    · subst h0
      have hl := HJL.out rfl
      obtain ⟨q, rfl⟩ : ∃ q, n = q + 1 := ⟨n - 1, by omega⟩
      obtain ⟨gb, go, t, x, rfl, hgl, hcell, hj⟩ := HJ4.out.at_ (i := q) (by omega)
      have HK := Lib.hid hj
      rw [hl]
      clear hj HJ4 HJL HY1 HY2 hl hgl
      go_wp2
      exact bodyPost_ret (results_tmp2 rfl _ _ _) rfl ⟨.inl ⟨rfl, t, x, rfl, by rw [Nat.add_sub_cancel]; exact HK.out⟩, HB2.out⟩
    · have hb : (code != 0) = true := by simpa using h0
      have H0 := Lib.hid h0
      clear h0
      go_wp2
      exact bodyPost_ret (results_tmp2 rfl _ _ _) rfl ⟨.inr ⟨H0.out, rfl⟩, HB2.out⟩
set_option maxRecDepth 20000 in
set_option maxHeartbeats 3200000 in
/-- a value that a code stops ahead of it -/
theorem implValueOf_code (A X : Option Addr) (n c m d : Nat) (ns : List Nd) (rs : List R3) (P P' : Nat → Prop) (w : World) (hr : RdN w P A n c ns) (hx : RdS w P' X m d rs) (hsm : Small rs) (hn : n ≤ 1048576) (hm : m ≤ 1048576) (code : Int) (hcode : ptCode (okE ns) ns m rs = code) (h0 : code ≠ 0) :
    Calls Tryz.prog 11 #[.agg #[.slice A n c], .slice X m d] w (RetRC 3 w false [] [] code) := by
  have hb : (code != 0) = true := by simpa using h0
  have HP := Lib.hid (fun W (hw : Below w.heap.size w W) => placeCode_none A X n c m d ns rs _ _ W (hr.on hw) (hx.on hw) hsm hn hm)
  rw [hcode] at HP
  clear hr hx hsm hcode h0
  go_enter Tryz.func11, Tryz.ntmps11
  go_wp2_with fail
  refine calls_at (fun W => Below w.heap.size w W ∧ RatAt W (w.heap.size + 1) 31 false none 0 0 none 0 0) ⟨below2 _ _ _, by
    have := RatAt.new (w.alloc (.cells #[.slice A n c] 25)) 31 false none none 0 0 0 0
    rwa [World.size_alloc] at this⟩ ?_
  rintro W ⟨hw, r0⟩
  refine (HP.out W hw).mono ?_
  rintro e w1 ⟨rfl, b1⟩
  have HB1 := Lib.hid (below_on hw b1)
  have HT1 := Lib.hid (r0.on b1)
  clear hw r0 b1
  have f0 := HT1.out.fz 0
  have f1 := HT1.out.fz 1
  have f2 := HT1.out.fz 2
  have y0 := HT1.out.c0
  have y1 := HT1.out.c1
  have y2 := HT1.out.c2
  go_wp2
  have g2 := fun b u v => setAll_grown w1 (w.heap.size + 1) (.bool b) u v
  refine bodyPost_ret (retRC rfl _ _ _ rfl (HT1.out.setAll _ _ _ _ _ _ _)) rfl ?_
  exact ⟨none, 0, none, 0, rfl, ⟨World.ownsRow_nil _ _ _ _, World.ownsRow_nil _ _ _ _, fun g h e => by cases e⟩, below_grow HB1.out (by omega) (g2 _ _ _)⟩

set_option maxRecDepth 20000 in
set_option maxHeartbeats 3200000 in
/-- a value, or what stopped it -/
theorem implValueOf_ok (A X : Option Addr) (n c m d : Nat) (ns : List Nd) (qs : List Rat) (P P' : Nat → Prop) (w : World) (ad : Addr) (hE : ErrAt 195 w ad) (hr : RdN w P A n c ns) (hx : RdS w P' X m d (qs.map rat3)) (hf : Fine qs) (hn : n ≤ 1048576) (hm : m ≤ 1048576) (hcode : ptCode (okE ns) ns m (qs.map rat3) = 0) (js : List Jt) (code : Int) (hR : evalJ (qs.map Jt.fx) ns = (js, code)) :
    Calls Tryz.prog 11 #[.agg #[.slice A n c], .slice X m d] w (RetVal 3 w (numJ (js.getD (n - 1) j0) 0) code) := by
  obtain ⟨h4, hright, hok, hdim⟩ := ptCode_zero hcode
  have hln : ns.length = n := hr.len
  have hql : qs.length = m := by have := hx.len; rw [List.length_map] at this; exact this
  obtain ⟨hg, hn1, hn60⟩ := okE_at hln hright hdim
  have hm4 : m ≤ 100 := by have := (okV_out hok).2.1; rw [List.length_map] at this; omega
  have hvj : varsJ qs (fun _ => []) 0 m = qs.map Jt.fx := hql ▸ varsJ_zero qs _
  have HP := Lib.hid (fun W (hw : Below w.heap.size w W) => placeCode_none A X n c m d ns (qs.map rat3) _ _ W (hr.on hw) (hx.on hw) (small_fine hf) hn hm)
  rw [hcode] at HP
  have HJ := Lib.hid (fun W (hw : Below w.heap.size w W) => exprJetAt_any A X n c m d ns qs (fun _ => []) none 0 0 (fun _ => none) (fun _ => 0) _ _ W ad (hE.on hw) (hr.on hw) (hx.on hw) (WaysAt.nil _ _ _ _ _ _) (by rw [hvj]; exact fun j hj => Nat.le_trans (fx_dep qs j hj) (by decide)) (by rw [hvj]; exact fx_L2 hf) hg hn1 hn60 (by omega) hm4 js code (by rw [hvj]; exact hR))
  have HFIT : Hid (code = 0 → lim (numJ (js.getD (n - 1) j0) 0) 40) := fun h => by
    have := evalJ_ok (fx_dep qs) ns ns.length (Nat.le_refl _) (by rw [List.take_length, hR]; exact h)
    rw [List.take_length, hR] at this
    have hl : n - 1 < js.length := by have := this.len; dsimp only at this; omega
    have e : js.getD (n - 1) j0 = js[n - 1] := by simp [List.getD, hl]
    rw [e]
    exact (L2.of_fits (Nat.le_trans (this.dep _ (List.getElem_mem hl)) (by decide)) (this.fit _ (List.getElem_mem hl))).2.1
  clear h4 hright hok hdim hln hql hg hn1 hn60 hm4 hvj hE hr hx hf hcode hR
  go_enter Tryz.func11, Tryz.ntmps11
  go_wp2_with fail
  refine calls_at (fun W => Below w.heap.size w W ∧ SlAt W w.heap.size 25 A n c ∧ RatAt W (w.heap.size + 1) 31 false none 0 0 none 0 0) ⟨below2 _ _ _, (SlAt.new _ _ _ _ _).on (below1 _ _), by
    have := RatAt.new (w.alloc (.cells #[.slice A n c] 25)) 31 false none none 0 0 0 0
    rwa [World.size_alloc] at this⟩ ?_
  rintro W ⟨hw, s0, r0⟩
  refine (HP.out W hw).mono ?_
  rintro e w1 ⟨rfl, b1⟩
  have HB1 := Lib.hid (below_on hw b1)
  have HS1 := Lib.hid (s0.on b1)
  have HT1 := Lib.hid (r0.on b1)
  have t0 := HS1.out.c0
  clear hw s0 r0 b1
  go_wp2_with fail
  refine (HJ.out w1 HB1.out).mono ?_
  rintro e w2 ⟨h2, b2⟩
  have HB2 := Lib.hid (below_on HB1.out b2)
  have HT2 := Lib.hid (HT1.out.on b2)
  clear b2 t0 HB1 HS1 HT1
  rcases h2 with ⟨h0, t, x, rfl, hj⟩ | ⟨h0, rfl⟩
  · have hfit := HFIT.out h0
    subst h0
    have HA := Lib.hid (along_any (js.getD (n - 1) j0) 0 (.iface t x) _ w2 (by omega) hj)
    generalize numJ (js.getD (n - 1) j0) 0 = r at *
    have hs2 := HT2.out.lt
    clear hj HFIT HJ HP
    go_wp2_with fail
    refine HA.out.mono ?_
    rintro e w3 ⟨A5, c5, B5, d5, rfl, o5, b3⟩
    have HB3 := Lib.hid (below_on HB2.out b3)
    have HT3 := Lib.hid (HT2.out.on b3)
    have HO5 := Lib.hid o5
    clear o5 b3
    go_wp2_with fail
    refine (fitted_yes (isNeg r) A5 B5 c5 d5 (D (nu r)) (D r.den) _ w3 HO5.out hfit.1 hfit.2).mono ?_
    rintro e w4 ⟨A1, d1, A2, d2, rfl, o3, b4⟩
    have HB4 := Lib.hid (below_on HB3.out b4)
    have HT4 := Lib.hid (HT3.out.on b4)
    have HO3 := Lib.hid o3
    have hs3 := HT3.out.lt
    have hs4 := b4.size
    clear o3 b4
    have f0 := HT4.out.fz 0
    have f1 := HT4.out.fz 1
    have f2 := HT4.out.fz 2
    have y0 := HT4.out.c0
    have y1 := HT4.out.c1
    have y2 := HT4.out.c2
    go_wp2
    have g2 := fun b u v => setAll_grown w4 (w.heap.size + 1) (.bool b) u v
    refine bodyPost_ret (retRC rfl _ _ _ rfl (HT4.out.setAll _ _ _ _ _ _ _)) rfl ?_
    exact .inl ⟨rfl, A1, d1, A2, d2, rfl, ⟨own_mono (own_gone HO3.out.1 (g2 _ _ _) (fun k hk => by have := own_block HO3.out.1 hk; omega)) (by have := HB3.out.size; omega), own_mono (own_gone HO3.out.2.1 (g2 _ _ _) (fun k hk => by have := own_block HO3.out.2.1 hk; omega)) (by have := HB3.out.size; omega), HO3.out.2.2⟩, below_grow HB4.out (by omega) (g2 _ _ _)⟩
  · have hb : (code != 0) = true := by simpa using h0
    have H0 := Lib.hid h0
    clear h0 HFIT HJ HP
    have f0 := HT2.out.fz 0
    have f1 := HT2.out.fz 1
    have f2 := HT2.out.fz 2
    have y0 := HT2.out.c0
    have y1 := HT2.out.c1
    have y2 := HT2.out.c2
    go_wp2
    have g2 := fun b u v => setAll_grown w2 (w.heap.size + 1) (.bool b) u v
    refine bodyPost_ret (retRC rfl _ _ _ rfl (HT2.out.setAll _ _ _ _ _ _ _)) rfl ?_
    exact .inr ⟨H0.out, none, 0, none, 0, rfl, ⟨World.ownsRow_nil _ _ _ _, World.ownsRow_nil _ _ _ _, fun g h e => by cases e⟩, below_grow HB2.out (by omega) (g2 _ _ _)⟩
end Go.Proofs.YtifepoefeamboaaGreatDoor
