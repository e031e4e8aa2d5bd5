/-
  What an expression means, node by node: l06Eval of the model.
-/
import Derived.Test.YtifepoefeamboaaGreatDoorSpecEvA
import Derived.Deep.RegionHeld3
import Derived.Deep.CutBlock
namespace Go.Proofs.YtifepoefeamboaaGreatDoor
open Go Go.RowKit Nt
theorem infoQ : (Tryz.prog.info? 84).map (fun i => (i.zero, i.size, i.bytes)) = some (some (.agg #[.bool false, .slice none 0 0, .slice none 0 0, .bool false, .slice none 0 0, .slice none 0 0, .bool false, .slice none 0 0, .slice none 0 0, .bool false, .slice none 0 0, .slice none 0 0]), 12, 224) := by kernel_rfl
theorem retQC {fn : Func} {p u : Tmp} {x0 x1 x2 x3 x4 x5 x6 x7 x8 x9 x10 x11 : Value} (h : fn.results = #[.cell p 84, .tmp u]) (tmps : Array Value) (w : World) (b : Nat) (hp : tmps.getD p undef = .pointer (some ⟨b, 0, none⟩)) (hr : Q4At w b 84 x0 x1 x2 x3 x4 x5 x6 x7 x8 x9 x10 x11) :
    (results fn tmps).run Tryz.prog w = .ok (.tuple #[.agg #[x0, x1, x2, x3, x4, x5, x6, x7, x8, x9, x10, x11], tmps.getD u undef]) w := results_cell_tmp_row h tmps w b _ _ _ _ hp hr Tryz.underlying84 rfl (by kernel_rfl)
/-- the last node's jet, or a code -/
def SayE4 (w : World) (n : Nat) (R : List Q4 × Int) (e : Ending) (w' : World) : Prop :=
  (R.2 = 0 ∧ ∃ v, e = .returned (.tuple #[v, .int .i64 0]) ∧ Q4V w' (R.1.getD (n - 1) q40) v ∧ Below w.heap.size w w') ∨ (R.2 ≠ 0 ∧ e = .returned (.tuple #[.agg #[.bool false, .slice none 0 0, .slice none 0 0, .bool false, .slice none 0 0, .slice none 0 0, .bool false, .slice none 0 0, .slice none 0 0, .bool false, .slice none 0 0, .slice none 0 0], .int .i64 R.2]) ∧ Below w.heap.size w w')

set_option maxRecDepth 100000 in
set_option maxHeartbeats 25600000 in
/-- each node's jet, the last one answered, or a code -/
theorem l06Eval_any (A X XV XW : Option Addr) (n c m d dv dw : Nat) (ns : List Nd) (qs vs ws : List Rat) (P P' P1 P2 : Nat → Prop) (w : World) (hr : RdN w P A n c ns) (hx : RdS w P' X m d (qs.map rat3)) (hxv : RdS w P1 XV m dv (vs.map rat3)) (hxw : RdS w P2 XW m dw (ws.map rat3)) (hf : Fine qs) (hfv : Fine vs) (hfw : Fine ws)
    (hg : ∀ k, k < n → fitN (ns.getD k nd0) = true ∧ behind (ns.getD k nd0) k = true ∧ ((ns.getD k nd0).1 = 2 → (ns.getD k nd0).2.2.2 < m)) (hn1 : 1 ≤ n) (hn : n ≤ 60) :
    Calls Tryz.prog 60 #[.agg #[.slice A n c], .slice X m d, .slice XV m dv, .slice XW m dw] w (SayE4 w n (eval4 qs vs ws ns)) := by
  have HLN : Hid (ns.length = n) := hr.len
  have HLX : Hid (qs.length = m) := by have := hx.len; rw [List.length_map] at this; exact this
  have HLV : Hid (vs.length = m) := by have := hxv.len; rw [List.length_map] at this; exact this
  have HLW : Hid (ws.length = m) := by have := hxw.len; rw [List.length_map] at this; exact this
  have HR := Lib.hid (hr.mono (Q := (· < w.heap.size)) fun _ _ h => h)
  have HX := Lib.hid hx.low
  have HXV := Lib.hid hxv.low
  have HXW := Lib.hid hxw.low
  have HFI := Lib.hid hf
  have HFV := Lib.hid hfv
  have HFW := Lib.hid hfw
  have HG := Lib.hid hg
  clear hr hx hxv hxw hf hfv hfw hg
  obtain ⟨i0, hi0, hz⟩ := Option.map_eq_some_iff.1 infoQ
  simp only [Prod.mk.injEq] at hz
  obtain ⟨hz0, hz1, hz2⟩ := hz
  go_enter Tryz.func60, Tryz.ntmps60
  go_wp2
  go_loopw [10, 11] (fun v i wr => ∃ (k : Nat) (V : Option Addr) (cv : Nat) (L : List (List Value)) (js : List Q4), k ≤ n ∧ i = .int .i64 k ∧ v = .slice V k cv ∧ Hid (eval4 qs vs ws (ns.take k) = (js, 0)) ∧ Hid (EvSt 84 25 w wr A n c V k cv L js)) (fun _ i _ => n - (intOf i).toNat)
  case atStart =>
    refine ⟨0, _, 0, [], [], Nat.zero_le _, rfl, rfl, Lib.hid rfl, Lib.hid ⟨?_, ⟨rfl, rfl, fun i hi => absurd hi (Nat.not_lt_zero _)⟩, ((SlAt.new _ _ _ _ _).on (below1 _ _)).on (below1 _ _), ?_, ?_, below3 _ _ _ _⟩⟩
    · refine ⟨by simp, .inr ⟨w.heap.size + 1 + 1, 0, #[], rfl, Nat.le_refl _, ?_, Nat.le_refl _, Nat.zero_le _, by simp, by simp⟩⟩
      have := heap_alloc_new ((w.alloc (.cells #[.slice A n c] 25)).alloc (.cells #[.bool false, .slice none 0 0, .slice none 0 0, .bool false, .slice none 0 0, .slice none 0 0, .bool false, .slice none 0 0, .slice none 0 0, .bool false, .slice none 0 0, .slice none 0 0] 84)) (.cells #[] 84)
      rwa [World.size_alloc, World.size_alloc] at this
    · have := (Q4At.new (w.alloc (.cells #[.slice A n c] 25)) 84 (.bool false) (.slice none 0 0) (.slice none 0 0) (.bool false) (.slice none 0 0) (.slice none 0 0) (.bool false) (.slice none 0 0) (.slice none 0 0) (.bool false) (.slice none 0 0) (.slice none 0 0)).on (below1 _ (.cells #[] 84))
      rwa [World.size_alloc] at this
    · intro g e cur t f hc u hu
      injection e with e
      injection e with e
      subst e
      have := heap_alloc_new ((w.alloc (.cells #[.slice A n c] 25)).alloc (.cells #[.bool false, .slice none 0 0, .slice none 0 0, .bool false, .slice none 0 0, .slice none 0 0, .bool false, .slice none 0 0, .slice none 0 0, .bool false, .slice none 0 0, .slice none 0 0] 84)) (.cells #[] 84)
      rw [World.size_alloc, World.size_alloc] at this
      have := this.symm.trans hc
      injection this with this
      injection this with this
      subst this
      simp at hu
  case round =>
    obtain ⟨k, V, cv, L, js, hk, rfl, rfl, HEV, HS⟩ := hrel
    have t0 := HS.out.2.2.1.c0
    by_cases hlt : k < n
    · obtain ⟨b, o, rfl, _, hP, hc⟩ := HR.out.at_ (by omega)
      obtain ⟨q0, q1, q2, q3⟩ := hc k hlt
      have hkN : (k : Int) < n := by omega
      have hkl : k < ns.length := by rw [HLN.out]; exact hlt
      obtain ⟨gf, gb, gv⟩ := HG.out k hlt
      have HNO := Lib.hid (fun h => ev4_none hkl HEV.out h)
      have HFU := Lib.hid (fun j h h' => ev4_full (j := j) hkl HEV.out h h')
      have HMO := Lib.hid (fun j h h' => ev4_more (j := j) hkl HEV.out h h')
      have HJF : Hid (js.length = k ∧ ∀ q ∈ js, fit4 q) := by
        have := eval4_ok qs vs ws ns k (by omega) (by rw [HEV.out])
        rw [HEV.out] at this
        exact this
      obtain ⟨x, hxx⟩ : ∃ x, ns.getD k nd0 = x := ⟨_, rfl⟩
      rw [hxx] at q0 q1 q2 q3 gf gb gv HNO HFU HMO
      have HBW := HS.out.2.2.2.2.2
      have q0 := (HBW.cell (p := ⟨b, o + k * 4, none⟩) hP).trans q0
      have q1 := (HBW.cell (p := ⟨b, o + k * 4 + 1, none⟩) hP).trans q1
      have q2 := (HBW.cell (p := ⟨b, o + k * 4 + 2, none⟩) hP).trans q2
      have q3 := (HBW.cell (p := ⟨b, o + k * 4 + 3, none⟩) hP).trans q3
      clear hxx hc hkl HEV HBW
      obtain ⟨op, xa, xb, xn⟩ := x
      dsimp only at q0 q1 q2 q3 gv
      unfold fitN mostN at gf
      unfold behind at gb
      simp only [Bool.and_eq_true, decide_eq_true_eq] at gf gb
      obtain ⟨⟨⟨⟨⟨f1, f2⟩, f3⟩, f4⟩, -⟩, -⟩ := gf
      obtain ⟨gb1, gb2⟩ := gb
      have f9 : xn ≤ 999999999 := by
        refine Int.le_trans f4 ?_
        by_cases z1 : op = 1
        · rw [if_pos z1]; omega
        · rw [if_neg z1]
          by_cases z2 : op = 2
          · rw [if_pos z2]; omega
          · rw [if_neg z2]
            by_cases z8 : op = 8
            · rw [if_pos z8]; omega
            · rw [if_neg z8]; omega
      go_wp2_with fail
      refine calls_at (fun W => Below wr.heap.size wr W ∧ NodeAt W wr.heap.size 114 op xa xb xn) ⟨below1 _ _, NodeAt.new _ _ _ _ _ _⟩ ?_
      rintro W ⟨bW, nW⟩
      have HSW := Lib.hid (HS.out.on bW)
      have hnb := nW.lt
      have hwb := HS.out.box
      clear t0 q0 q1 q2 q3
      refine (op_int 0 (by decide) (by decide) W).mono ?_
      rintro e w0 ⟨A1, c1, B1, d1, rfl, o1, b1⟩
      have HS1 := Lib.hid (HSW.out.on b1)
      have HN1 := Lib.hid (nW.on b1)
      have HO1 := Lib.hid o1
      have hs1 := b1.size
      clear b1 o1 nW HS HSW
      go_wp2_with fail
      refine (l06Const_any ((0 : Int) : Rat) A1 B1 c1 d1 _ w0 HO1.out).mono ?_
      rintro e w1 ⟨vz, rfl, qz, b1⟩
      obtain ⟨Az0, cz0, Bz0, dz0, Az1, cz1, Bz1, dz1, Az2, cz2, Bz2, dz2, Az3, cz3, Bz3, dz3, rfl, qz⟩ := qz
      have HS2 := Lib.hid (HS1.out.on b1)
      have HN2 := Lib.hid (HN1.out.on b1)
      have hs2 := b1.size
      clear b1 qz HS1 HN1 HO1
      go_upto_region 7 with fail
      refine wp_at (fun v0 => Below w1.heap.size w1 v0 ∧ Q4At v0 w1.heap.size 84 (.bool (isNeg (con4 ((0 : Int) : Rat)).f)) (.slice Az0 (D (nu (con4 ((0 : Int) : Rat)).f)).length cz0) (.slice Bz0 (D (con4 ((0 : Int) : Rat)).f.den).length dz0) (.bool (isNeg (con4 ((0 : Int) : Rat)).v)) (.slice Az1 (D (nu (con4 ((0 : Int) : Rat)).v)).length cz1) (.slice Bz1 (D (con4 ((0 : Int) : Rat)).v.den).length dz1) (.bool (isNeg (con4 ((0 : Int) : Rat)).w)) (.slice Az2 (D (nu (con4 ((0 : Int) : Rat)).w)).length cz2) (.slice Bz2 (D (con4 ((0 : Int) : Rat)).w.den).length dz2) (.bool (isNeg (con4 ((0 : Int) : Rat)).vw)) (.slice Az3 (D (nu (con4 ((0 : Int) : Rat)).vw)).length cz3) (.slice Bz3 (D (con4 ((0 : Int) : Rat)).vw.den).length dz3)) ⟨below1 _ _, Q4At.new _ _ _ _ _ _ _ _ _ _ _ _ _ _⟩ ?_
      rintro v0 ⟨b0, r0⟩
      have HS0 := Lib.hid (HS2.out.on b0)
      have HN0 := Lib.hid (HN2.out.on b0)
      have hrow : ∀ x, V = some ⟨x, 0, none⟩ → x ≠ w1.heap.size := fun x hx => Nat.ne_of_lt (HS2.out.lt x hx)
      have hnr : wr.heap.size ≠ w1.heap.size := by omega
      have hwr : w.heap.size + 1 < w1.heap.size := HS2.out.box
      have n0 := HN0.out.c0
      clear b0 HN2 HS2
      obtain ⟨z0, z1, z2, z3, z4, z5, z6, z7, z8, z9, za, zb, HR0, HFR⟩ : ∃ z0 z1 z2 z3 z4 z5 z6 z7 z8 z9 za zb, Hid (Q4At v0 w1.heap.size 84 z0 z1 z2 z3 z4 z5 z6 z7 z8 z9 za zb) ∧ Hid (∀ u ∈ (#[z0, z1, z2, z3, z4, z5, z6, z7, z8, z9, za, zb] : Array Value).toList, noInt u = true) := ⟨_, _, _, _, _, _, _, _, _, _, _, _, Lib.hid r0, Lib.hid (by simp [noInt])⟩
      clear r0
      go_upto_block 2 with fail
      go_cut [] from 16 to 149 (fun wx => ∃ p, step4 qs vs ws js (op, xa, xb, xn) = some p ∧ lims p 16777216 ∧ ∃ (Ap0 : Option Addr) (cp0 : Nat) (Bp0 : Option Addr) (dp0 : Nat) (Ap1 : Option Addr) (cp1 : Nat) (Bp1 : Option Addr) (dp1 : Nat) (Ap2 : Option Addr) (cp2 : Nat) (Bp2 : Option Addr) (dp2 : Nat) (Ap3 : Option Addr) (cp3 : Nat) (Bp3 : Option Addr) (dp3 : Nat), Q4At wx w1.heap.size 84 (.bool (isNeg p.f)) (.slice Ap0 (D (nu p.f)).length cp0) (.slice Bp0 (D p.f.den).length dp0) (.bool (isNeg p.v)) (.slice Ap1 (D (nu p.v)).length cp1) (.slice Bp1 (D p.v.den).length dp1) (.bool (isNeg p.w)) (.slice Ap2 (D (nu p.w)).length cp2) (.slice Bp2 (D p.w.den).length dp2) (.bool (isNeg p.vw)) (.slice Ap3 (D (nu p.vw)).length cp3) (.slice Bp3 (D p.vw.den).length dp3) ∧ (RdR wx (fun _ => True) (D (nu p.f)) (D p.f.den) Ap0 cp0 Bp0 dp0 ∧ RdR wx (fun _ => True) (D (nu p.v)) (D p.v.den) Ap1 cp1 Bp1 dp1 ∧ RdR wx (fun _ => True) (D (nu p.w)) (D p.w.den) Ap2 cp2 Bp2 dp2 ∧ RdR wx (fun _ => True) (D (nu p.vw)) (D p.vw.den) Ap3 cp3 Bp3 dp3) ∧ EvSt 84 25 w wx (some ⟨b, o, none⟩) n c V k cv L js)
      case first =>
        rename_i J9 K9 hJ9 hK9
        have hcase : op = 1 ∨ op = 2 ∨ op = 3 ∨ op = 4 ∨ op = 5 ∨ op = 6 ∨ op = 7 ∨ op = 8 := by omega
        rcases hcase with rfl | rfl | rfl | rfl | rfl | rfl | rfl | rfl
        · obtain ⟨p, hp, hpe⟩ : ∃ p, step4 qs vs ws js (1, xa, xb, xn) = some p ∧ p = con4 (xn : Rat) := ⟨con4 (xn : Rat), by simp only [step4, ↓reduceIte], rfl⟩
          have hlp : lims p 16777216 := by rw [hpe]; exact lims_mono (con_lims (lim_num4 xn f3 f9) (by decide)) (by decide)
          have n3 := HN0.out.c3
          have HC := Lib.hid (fun (A2 B2 : Option Addr) (c2 d2 : Nat) W hr => l06Const_any (xn : Rat) A2 B2 c2 d2 (fun _ => True) W hr)
          rw [← hpe] at HC
          clear hpe
          go_wp2_with (first
            | (go_at_call 87; refine (op_int xn (by omega) (by omega) _).mono ?_; rintro e w2 ⟨A2, c2, B2, d2, rfl, oo, bb⟩; have HO2 := Lib.hid oo; have HS2 := Lib.hid (HS0.out.on bb); have HR2 := Lib.hid (HR0.out.on bb); clear oo bb)
            | (go_at_call 86; refine (HC.out A2 B2 c2 d2 _ HO2.out).mono ?_; rintro e w3 ⟨vr, rfl, qr, bb⟩; obtain ⟨Ar0, cr0, Br0, dr0, Ar1, cr1, Br1, dr1, Ar2, cr2, Br2, dr2, Ar3, cr3, Br3, dr3, rfl, qr⟩ := qr; have HO3 := Lib.hid qr; have HS3 := Lib.hid (HS2.out.on bb); have HR3 := Lib.hid (HR2.out.on bb); have uf0 := HR3.out.fz 0; have uy0 := HR3.out.c0; have uf1 := HR3.out.fz 1; have uy1 := HR3.out.c1; have uf2 := HR3.out.fz 2; have uy2 := HR3.out.c2; have uf3 := HR3.out.fz 3; have uy3 := HR3.out.c3; have uf4 := HR3.out.fz 4; have uy4 := HR3.out.c4; have uf5 := HR3.out.fz 5; have uy5 := HR3.out.c5; have uf6 := HR3.out.fz 6; have uy6 := HR3.out.c6; have uf7 := HR3.out.fz 7; have uy7 := HR3.out.c7; have uf8 := HR3.out.fz 8; have uy8 := HR3.out.c8; have uf9 := HR3.out.fz 9; have uy9 := HR3.out.c9; have uf10 := HR3.out.fz 10; have uy10 := HR3.out.c10; have uf11 := HR3.out.fz 11; have uy11 := HR3.out.c11; clear qr bb))
          clear n0 n3 uf0 uy0 uf1 uy1 uf2 uy2 uf3 uy3 uf4 uy4 uf5 uy5 uf6 uy6 uf7 uy7 uf8 uy8 uf9 uy9 uf10 uy10 uf11 uy11
          go_meet
          exact ⟨p, hp, hlp, ⟨Ar0, cr0, Br0, dr0, Ar1, cr1, Br1, dr1, Ar2, cr2, Br2, dr2, Ar3, cr3, Br3, dr3, HR3.out.setAll _ _ _ _ _ _ _ _ _ _ _ _, ⟨HO3.out.1.pastF HR3.out HFR.out (set12_grown _ _ _ _ _ _ _ _ _ _ _ _ _ _), HO3.out.2.1.pastF HR3.out HFR.out (set12_grown _ _ _ _ _ _ _ _ _ _ _ _ _ _), HO3.out.2.2.1.pastF HR3.out HFR.out (set12_grown _ _ _ _ _ _ _ _ _ _ _ _ _ _), HO3.out.2.2.2.pastF HR3.out HFR.out (set12_grown _ _ _ _ _ _ _ _ _ _ _ _ _ _)⟩, HS3.out.set HR3.out HFR.out (set12_grown _ _ _ _ _ _ _ _ _ _ _ _ _ _) hwr hrow⟩⟩
        · have hvm := gv rfl
          clear gv
          obtain ⟨i, rfl⟩ : ∃ i : Nat, xn = i := ⟨xn.toNat, by omega⟩
          have him : i < m := by omega
          have HI : (i : Int) < m := by omega
          obtain ⟨p, hp, hpe⟩ : ∃ p, step4 qs vs ws js (2, xa, xb, (i : Int)) = some p ∧ p = varQ qs vs ws i := ⟨varQ qs vs ws i, by simp only [step4, Int.toNat_natCast, Int.reduceEq, ↓reduceIte], rfl⟩
          obtain ⟨bx, ox, rfl, lx, _, hcx⟩ := HX.out.at_ (by omega)
          obtain ⟨Ax, ax, Bx, ex, p0x, p1x, p2x, rx⟩ := hcx i him
          rw [getD_rat qs i (by rw [HLX.out]; exact him)] at p0x p1x p2x rx
          have fix := HFI.out.at_ i (by rw [HLX.out]; exact him)
          have lmx : lim (qs.getD i 0) 40 := ⟨(D_len_le _ 40).2 fix.1, (D_len_le _ 40).2 fix.2⟩
          have Rrx := Lib.hid rx
          clear hcx rx fix
          obtain ⟨bv, ov, rfl, lv, _, hcv⟩ := HXV.out.at_ (by omega)
          obtain ⟨Av, av, Bv, ev, p0v, p1v, p2v, rv⟩ := hcv i him
          rw [getD_rat vs i (by rw [HLV.out]; exact him)] at p0v p1v p2v rv
          have fiv := HFV.out.at_ i (by rw [HLV.out]; exact him)
          have lmv : lim (vs.getD i 0) 40 := ⟨(D_len_le _ 40).2 fiv.1, (D_len_le _ 40).2 fiv.2⟩
          have Rrv := Lib.hid rv
          clear hcv rv fiv
          obtain ⟨bw, ow, rfl, lw, _, hcw⟩ := HXW.out.at_ (by omega)
          obtain ⟨Aw, aw, Bw, ew, p0w, p1w, p2w, rw⟩ := hcw i him
          rw [getD_rat ws i (by rw [HLW.out]; exact him)] at p0w p1w p2w rw
          have fiw := HFW.out.at_ i (by rw [HLW.out]; exact him)
          have lmw : lim (ws.getD i 0) 40 := ⟨(D_len_le _ 40).2 fiw.1, (D_len_le _ 40).2 fiw.2⟩
          have Rrw := Lib.hid rw
          clear hcw rw fiw
          have hlp : lims p 16777216 := by rw [hpe]; exact ⟨lim_mono lmx (by decide), lim_mono lmv (by decide), lim_mono lmw (by decide), lim_mono lim_zero (by decide)⟩
          have hz4 : Op0 87 0 (isNeg 0) (D (nu 0)) (D (0 : Rat).den) := op_int 0 (by decide) (by decide)
          have HZ4 := Lib.hid hz4
          have ep : p = ⟨qs.getD i 0, vs.getD i 0, ws.getD i 0, 0⟩ := hpe
          clear hpe hz4 lmx lmv lmw
          generalize qs.getD i 0 = gx at *
          generalize vs.getD i 0 = gv at *
          generalize ws.getD i 0 = gw at *
          subst ep
          simp only [rat3] at p0x p1x p2x p0v p1v p2v p0w p1w p2w
          have HK := Lib.hid (fun W (hb : Below w.heap.size w W) => (show (W.cell? ⟨bx, ox + i * 3, none⟩ = some (.bool (isNeg gx)) ∧ W.cell? ⟨bx, ox + i * 3 + 1, none⟩ = some (.slice Ax (D (nu gx)).length ax) ∧ W.cell? ⟨bx, ox + i * 3 + 2, none⟩ = some (.slice Bx (D gx.den).length ex)) ∧ (W.cell? ⟨bv, ov + i * 3, none⟩ = some (.bool (isNeg gv)) ∧ W.cell? ⟨bv, ov + i * 3 + 1, none⟩ = some (.slice Av (D (nu gv)).length av) ∧ W.cell? ⟨bv, ov + i * 3 + 2, none⟩ = some (.slice Bv (D gv.den).length ev)) ∧ (W.cell? ⟨bw, ow + i * 3, none⟩ = some (.bool (isNeg gw)) ∧ W.cell? ⟨bw, ow + i * 3 + 1, none⟩ = some (.slice Aw (D (nu gw)).length aw) ∧ W.cell? ⟨bw, ow + i * 3 + 2, none⟩ = some (.slice Bw (D gw.den).length ew)) from ⟨⟨(hb.cell (p := ⟨bx, ox + i * 3, none⟩) lx).trans p0x, (hb.cell (p := ⟨bx, ox + i * 3 + 1, none⟩) lx).trans p1x, (hb.cell (p := ⟨bx, ox + i * 3 + 2, none⟩) lx).trans p2x⟩, ⟨(hb.cell (p := ⟨bv, ov + i * 3, none⟩) lv).trans p0v, (hb.cell (p := ⟨bv, ov + i * 3 + 1, none⟩) lv).trans p1v, (hb.cell (p := ⟨bv, ov + i * 3 + 2, none⟩) lv).trans p2v⟩, ⟨(hb.cell (p := ⟨bw, ow + i * 3, none⟩) lw).trans p0w, (hb.cell (p := ⟨bw, ow + i * 3 + 1, none⟩) lw).trans p1w, (hb.cell (p := ⟨bw, ow + i * 3 + 2, none⟩) lw).trans p2w⟩⟩))
          clear p0x p1x p2x p0v p1v p2v p0w p1w p2w
          have HB0 := Lib.hid HS0.out.2.2.2.2.2
          go_upto_region 16 with fail
          clear n0
          go_region_held3 (fun wx => (wx.cell? ⟨wr.heap.size, 0, none⟩ = some (.int .i64 2) ∧ wx.cell? ⟨wr.heap.size, 1, none⟩ = some (.int .i64 xa) ∧ wx.cell? ⟨wr.heap.size, 2, none⟩ = some (.int .i64 xb) ∧ wx.cell? ⟨wr.heap.size, 3, none⟩ = some (.int .i64 (i : Int))) ∧ (wx.cell? ⟨bx, ox + i * 3, none⟩ = some (.bool (isNeg gx)) ∧ wx.cell? ⟨bx, ox + i * 3 + 1, none⟩ = some (.slice Ax (D (nu gx)).length ax) ∧ wx.cell? ⟨bx, ox + i * 3 + 2, none⟩ = some (.slice Bx (D gx.den).length ex)) ∧ (wx.cell? ⟨bv, ov + i * 3, none⟩ = some (.bool (isNeg gv)) ∧ wx.cell? ⟨bv, ov + i * 3 + 1, none⟩ = some (.slice Av (D (nu gv)).length av) ∧ wx.cell? ⟨bv, ov + i * 3 + 2, none⟩ = some (.slice Bv (D gv.den).length ev)) ∧ (wx.cell? ⟨bw, ow + i * 3, none⟩ = some (.bool (isNeg gw)) ∧ wx.cell? ⟨bw, ow + i * 3 + 1, none⟩ = some (.slice Aw (D (nu gw)).length aw) ∧ wx.cell? ⟨bw, ow + i * 3 + 2, none⟩ = some (.slice Bw (D gw.den).length ew)))
            (first | with_reducible exact ⟨HN2.out.four, HK.out _ HB2.out⟩ | with_reducible exact ⟨HN0.out.four, HK.out _ HB0.out⟩ | exact ⟨(HN2.out.pastZ (set12_grown _ _ _ _ _ _ _ _ _ _ _ _ _ _) hnr).four, HK.out _ (below_grow HB2.out (by omega) (set12_grown _ _ _ _ _ _ _ _ _ _ _ _ _ _))⟩ | exact ⟨HN0.out.four, HK.out _ (below_drewN HB0.out 1)⟩)
            (first
              | (go_at_call 87; refine (HZ4.out _).mono ?_; rintro e w2 ⟨Az, cz, Bz, dz, rfl, oo, bb⟩; have bb := undrew bb; have HO2 := Lib.hid oo; have HS2 := Lib.hid (HS0.out.on bb); have HB2 := Lib.hid HS2.out.2.2.2.2.2; have HN2 := Lib.hid (HN0.out.on bb); have HR2 := Lib.hid (HR0.out.on bb); have uf0 := HR2.out.fz 0; have uy0 := HR2.out.c0; have uf1 := HR2.out.fz 1; have uy1 := HR2.out.c1; have uf2 := HR2.out.fz 2; have uy2 := HR2.out.c2; have uf3 := HR2.out.fz 3; have uy3 := HR2.out.c3; have uf4 := HR2.out.fz 4; have uy4 := HR2.out.c4; have uf5 := HR2.out.fz 5; have uy5 := HR2.out.c5; have uf6 := HR2.out.fz 6; have uy6 := HR2.out.c6; have uf7 := HR2.out.fz 7; have uy7 := HR2.out.c7; have uf8 := HR2.out.fz 8; have uy8 := HR2.out.c8; have uf9 := HR2.out.fz 9; have uy9 := HR2.out.c9; have uf10 := HR2.out.fz 10; have uy10 := HR2.out.c10; have uf11 := HR2.out.fz 11; have uy11 := HR2.out.c11; clear oo bb)
              | fail)
          go_wp2_with fail
          clear uf0 uy0 uf1 uy1 uf2 uy2 uf3 uy3 uf4 uy4 uf5 uy5 uf6 uy6 uf7 uy7 uf8 uy8 uf9 uy9 uf10 uy10 uf11 uy11
          have HBw := Lib.hid HS2.out.2.2.2.2.2
          go_meet
          exact ⟨⟨gx, gv, gw, 0⟩, hp, hlp, Ax, ax, Bx, ex, Av, av, Bv, ev, Aw, aw, Bw, ew, Az, cz, Bz, dz, HR2.out.setAll _ _ _ _ _ _ _ _ _ _ _ _, ⟨(RdR.mono (Q := fun _ => True) (Rrx.out.below HBw.out) fun _ _ _ => trivial).pastF HR2.out HFR.out (set12_grown _ _ _ _ _ _ _ _ _ _ _ _ _ _), (RdR.mono (Q := fun _ => True) (Rrv.out.below HBw.out) fun _ _ _ => trivial).pastF HR2.out HFR.out (set12_grown _ _ _ _ _ _ _ _ _ _ _ _ _ _), (RdR.mono (Q := fun _ => True) (Rrw.out.below HBw.out) fun _ _ _ => trivial).pastF HR2.out HFR.out (set12_grown _ _ _ _ _ _ _ _ _ _ _ _ _ _), HO2.out.pastF HR2.out HFR.out (set12_grown _ _ _ _ _ _ _ _ _ _ _ _ _ _)⟩, HS2.out.set HR2.out HFR.out (set12_grown _ _ _ _ _ _ _ _ _ _ _ _ _ _) hwr hrow⟩
        · exact ev3_any qs vs ws w v0 b o n c k cv _ _ V L js _ _ _ _ _ _ _ _ _ _ _ _ _ _ _ _ _ _ _ _ _ _ _ _ _ _ _ _ _ _ _ _ _ _ _ _ _ _ _ _ _ _ _ _ _ _ _ _ _ _ _ _ _ _ _ _ _ _ _ _ _ _ _ _ _ _ _ _ _ _ _ _ _ _ _ _ _ _ _ _ _ _ _ _ _ _ _ _ _ _ _ _ _ _ _ _ _ _ _ _ _ _ _ _ _ _ _ _ _ _ _ _ _ _ _ _ _ _ _ _ _ _ _ _ _ _ _ _ _ _ _ _ _ _ _ _ _ _ _ _ _ _ _ _ _ _ _ _ _ _ _ _ _ _ _ _ _ _ _ _ _ _ _ _ _ _ _ (by simp [two, one] at gb1 gb2; omega) HJF HS0 HN0 HR0 HFR hrow hnr hwr J9 K9 _ hJ9 hK9
        · exact ev4_any qs vs ws w v0 b o n c k cv _ _ V L js _ _ _ _ _ _ _ _ _ _ _ _ _ _ _ _ _ _ _ _ _ _ _ _ _ _ _ _ _ _ _ _ _ _ _ _ _ _ _ _ _ _ _ _ _ _ _ _ _ _ _ _ _ _ _ _ _ _ _ _ _ _ _ _ _ _ _ _ _ _ _ _ _ _ _ _ _ _ _ _ _ _ _ _ _ _ _ _ _ _ _ _ _ _ _ _ _ _ _ _ _ _ _ _ _ _ _ _ _ _ _ _ _ _ _ _ _ _ _ _ _ _ _ _ _ _ _ _ _ _ _ _ _ _ _ _ _ _ _ _ _ _ _ _ _ _ _ _ _ _ _ _ _ _ _ _ _ _ _ _ _ _ _ _ _ _ _ (by simp [two, one] at gb1 gb2; omega) HJF HS0 HN0 HR0 HFR hrow hnr hwr J9 K9 _ hJ9 hK9
        · exact ev5_any qs vs ws w v0 b o n c k cv _ _ V L js _ _ _ _ _ _ _ _ _ _ _ _ _ _ _ _ _ _ _ _ _ _ _ _ _ _ _ _ _ _ _ _ _ _ _ _ _ _ _ _ _ _ _ _ _ _ _ _ _ _ _ _ _ _ _ _ _ _ _ _ _ _ _ _ _ _ _ _ _ _ _ _ _ _ _ _ _ _ _ _ _ _ _ _ _ _ _ _ _ _ _ _ _ _ _ _ _ _ _ _ _ _ _ _ _ _ _ _ _ _ _ _ _ _ _ _ _ _ _ _ _ _ _ _ _ _ _ _ _ _ _ _ _ _ _ _ _ _ _ _ _ _ _ _ _ _ _ _ _ _ _ _ _ _ _ _ _ _ _ _ _ _ _ _ _ _ _ (by simp [two, one] at gb1 gb2; omega) HJF HS0 HN0 HR0 HFR hrow hnr hwr J9 K9 _ hJ9 hK9
        · have hb1 : (0 ≤ xa ∧ xa < k) ∧ 0 ≤ xb ∧ xb < k := by
            simp [two, one] at gb1 gb2
            omega
          obtain ⟨i, rfl⟩ : ∃ i : Nat, xa = i := ⟨xa.toNat, by omega⟩
          obtain ⟨l, rfl⟩ : ∃ l : Nat, xb = l := ⟨xb.toNat, by omega⟩
          have hi : i < k := by omega
          have hl : l < k := by omega
          have HI : (i : Int) < k := by omega
          have HL : (l : Int) < k := by omega
          have hfi := getQ_fit HJF.out.2 i (by rw [HJF.out.1]; exact hi)
          have hfl := getQ_fit HJF.out.2 l (by rw [HJF.out.1]; exact hl)
          obtain ⟨vb, vo, Ai0, ci0, Bi0, di0, Ai1, ci1, Bi1, di1, Ai2, ci2, Bi2, di2, Ai3, ci3, Bi3, di3, Al0, cl0, Bl0, dl0, Al1, cl1, Bl1, dl1, Al2, cl2, Bl2, dl2, Al3, cl3, Bl3, dl3, hV, hvl, hci, hcl, hri, hrl⟩ := HS0.out.two hi hl
          have hvr : vb ≠ w1.heap.size := by
            rcases HS0.out.1.2 with ⟨e, _⟩ | ⟨z, cap, cur, e, _⟩
            · injection e with e; rw [hV] at e; cases e
            · injection e with e; rw [hV] at e; injection e with e; injection e with e1 e2; exact e1 ▸ hrow z (by rw [hV]; simp [e1, e2])
          have HI0 : Hid (C12 v0 vb (vo + i * 12) (.bool (isNeg (js.getD i q40).f)) (.slice Ai0 (D (nu (js.getD i q40).f)).length ci0) (.slice Bi0 (D (js.getD i q40).f.den).length di0) (.bool (isNeg (js.getD i q40).v)) (.slice Ai1 (D (nu (js.getD i q40).v)).length ci1) (.slice Bi1 (D (js.getD i q40).v.den).length di1) (.bool (isNeg (js.getD i q40).w)) (.slice Ai2 (D (nu (js.getD i q40).w)).length ci2) (.slice Bi2 (D (js.getD i q40).w.den).length di2) (.bool (isNeg (js.getD i q40).vw)) (.slice Ai3 (D (nu (js.getD i q40).vw)).length ci3) (.slice Bi3 (D (js.getD i q40).vw.den).length di3)) := Lib.hid ⟨hvl, hci⟩
          have HL0 : Hid (C12 v0 vb (vo + l * 12) (.bool (isNeg (js.getD l q40).f)) (.slice Al0 (D (nu (js.getD l q40).f)).length cl0) (.slice Bl0 (D (js.getD l q40).f.den).length dl0) (.bool (isNeg (js.getD l q40).v)) (.slice Al1 (D (nu (js.getD l q40).v)).length cl1) (.slice Bl1 (D (js.getD l q40).v.den).length dl1) (.bool (isNeg (js.getD l q40).w)) (.slice Al2 (D (nu (js.getD l q40).w)).length cl2) (.slice Bl2 (D (js.getD l q40).w.den).length dl2) (.bool (isNeg (js.getD l q40).vw)) (.slice Al3 (D (nu (js.getD l q40).vw)).length cl3) (.slice Bl3 (D (js.getD l q40).vw.den).length dl3)) := Lib.hid ⟨hvl, hcl⟩
          have HQI0 : Hid (Q4V v0 (js.getD i q40) (.agg #[.bool (isNeg (js.getD i q40).f), .slice Ai0 (D (nu (js.getD i q40).f)).length ci0, .slice Bi0 (D (js.getD i q40).f.den).length di0, .bool (isNeg (js.getD i q40).v), .slice Ai1 (D (nu (js.getD i q40).v)).length ci1, .slice Bi1 (D (js.getD i q40).v.den).length di1, .bool (isNeg (js.getD i q40).w), .slice Ai2 (D (nu (js.getD i q40).w)).length ci2, .slice Bi2 (D (js.getD i q40).w.den).length di2, .bool (isNeg (js.getD i q40).vw), .slice Ai3 (D (nu (js.getD i q40).vw)).length ci3, .slice Bi3 (D (js.getD i q40).vw.den).length di3])) := Lib.hid ⟨Ai0, ci0, Bi0, di0, Ai1, ci1, Bi1, di1, Ai2, ci2, Bi2, di2, Ai3, ci3, Bi3, di3, rfl, hri⟩
          have HQL0 : Hid (Q4V v0 (js.getD l q40) (.agg #[.bool (isNeg (js.getD l q40).f), .slice Al0 (D (nu (js.getD l q40).f)).length cl0, .slice Bl0 (D (js.getD l q40).f.den).length dl0, .bool (isNeg (js.getD l q40).v), .slice Al1 (D (nu (js.getD l q40).v)).length cl1, .slice Bl1 (D (js.getD l q40).v.den).length dl1, .bool (isNeg (js.getD l q40).w), .slice Al2 (D (nu (js.getD l q40).w)).length cl2, .slice Bl2 (D (js.getD l q40).w.den).length dl2, .bool (isNeg (js.getD l q40).vw), .slice Al3 (D (nu (js.getD l q40).vw)).length cl3, .slice Bl3 (D (js.getD l q40).vw.den).length dl3])) := Lib.hid ⟨Al0, cl0, Bl0, dl0, Al1, cl1, Bl1, dl1, Al2, cl2, Bl2, dl2, Al3, cl3, Bl3, dl3, rfl, hrl⟩
          clear hci hcl hri hrl
          have n2 := HN0.out.c2
          have e0 := HL0.out.2.1
          have e1 := HL0.out.2.2.1
          have e2 := HL0.out.2.2.2.1
          have HZERO := Lib.hid (l02Zero_any (isNeg (js.getD l q40).f) Al0 Bl0 (D (nu (js.getD l q40).f)).length cl0 (D (js.getD l q40).f.den).length dl0 v0 (Nat.le_trans hfl.1.1 (by decide)))
          by_cases hz : nu (js.getD l q40).f = 0
          · have HRES := Lib.hid (HNO.out (by simp only [step4, Int.toNat_natCast, Int.reduceEq, ↓reduceIte]; rw [if_pos hz]))
            have hzl : (((D (nu (js.getD l q40).f)).length : Int) == 0) = true := by rw [hz, D_zero]; rfl
            rw [hzl] at HZERO
            subst hV
            clear HNO HFU HMO hz hzl HI0 HQI0 HQL0
            generalize js.getD i q40 = f at *
            generalize js.getD l q40 = g at *
            go_wp2_with (go_at_call 91; refine HZERO.out.mono ?_; rintro e w2 ⟨rfl, b2⟩; have HZ5 := Lib.hid (HS0.out.on b2).2.2.2.1; have HB5 := Lib.hid (HS0.out.on b2).2.2.2.2.2; have uf0 := HZ5.out.fz 0; have uy0 := HZ5.out.c0; have uf1 := HZ5.out.fz 1; have uy1 := HZ5.out.c1; have uf2 := HZ5.out.fz 2; have uy2 := HZ5.out.c2; have uf3 := HZ5.out.fz 3; have uy3 := HZ5.out.c3; have uf4 := HZ5.out.fz 4; have uy4 := HZ5.out.c4; have uf5 := HZ5.out.fz 5; have uy5 := HZ5.out.c5; have uf6 := HZ5.out.fz 6; have uy6 := HZ5.out.c6; have uf7 := HZ5.out.fz 7; have uy7 := HZ5.out.c7; have uf8 := HZ5.out.fz 8; have uy8 := HZ5.out.c8; have uf9 := HZ5.out.fz 9; have uy9 := HZ5.out.c9; have uf10 := HZ5.out.fz 10; have uy10 := HZ5.out.c10; have uf11 := HZ5.out.fz 11; have uy11 := HZ5.out.c11; clear b2)
            refine bodyPost_ret (retQC rfl _ _ _ rfl (HZ5.out.setAll _ _ _ _ _ _ _ _ _ _ _ _)) rfl ?_
            rw [HRES.out]
            exact .inr ⟨by decide, rfl, below_grow HB5.out (by omega) (set12_grown _ _ _ _ _ _ _ _ _ _ _ _ _ _)⟩
          have hpos : 0 < nu (js.getD l q40).f := by omega
          have hzl : (((D (nu (js.getD l q40).f)).length : Int) == 0) = false := by rw [beq_eq_false_iff_ne]; have := D_len_pos hpos; omega
          rw [hzl] at HZERO
          obtain ⟨p, hp, hpe⟩ : ∃ p, step4 qs vs ws js (6, (i : Int), (l : Int), xn) = some p ∧ p = mul4 (js.getD i q40) (over4 (js.getD l q40)) := ⟨mul4 (js.getD i q40) (over4 (js.getD l q40)), by simp only [step4, Int.toNat_natCast, Int.reduceEq, ↓reduceIte]; rw [if_neg hz], rfl⟩
          generalize js.getD i q40 = f at *
          generalize js.getD l q40 = g at *
          have hlp : lims p 16777216 := by rw [hpe]; exact lims_mono (mul_lims hfi (over_lims hfl)) (by decide)
          have HC1 := Lib.hid (fun (va : Value) (W : World) (h1 : Q4V W g va) => l06Over_any g va W h1 hfl hpos)
          have HC2 := Lib.hid (fun (va vb' : Value) (W : World) (h1 : Q4V W f va) (h2 : Q4V W (over4 g) vb') => l06Mul_any f (over4 g) va vb' W 40 400 h1 h2 hfi (over_lims hfl) (by decide))
          rw [← hpe] at HC2
          generalize over4 g = h at *
          subst hV
          clear hpe
          go_upto_region 26 with (go_at_call 91; refine HZERO.out.mono ?_; rintro e wz ⟨rfl, bb⟩; have HS9 := Lib.hid (HS0.out.on bb); have HN9 := Lib.hid (HN0.out.on bb); have HI9 := Lib.hid (HI0.out.on bb); have HL9 := Lib.hid (HL0.out.on bb); have HQI9 := Lib.hid (HQI0.out.on bb); have HQL9 := Lib.hid (HQL0.out.on bb); have HR9 := Lib.hid (HR0.out.on bb); clear bb)
          clear n0 n2 e0 e1 e2 HZERO hpos hzl HI0 HL0 HQI0 HQL0 HS0 HN0 HR0
          have HI0 := HI9
          have HL0 := HL9
          have HQI0 := HQI9
          have HQL0 := HQL9
          have HS0 := HS9
          have HN0 := HN9
          have HR0 := HR9
          clear HI9 HL9 HQI9 HQL9 HS9 HN9 HR9
          go_region_held3 (fun wx => (wx.cell? ⟨wr.heap.size, 0, none⟩ = some (.int .i64 6) ∧ wx.cell? ⟨wr.heap.size, 1, none⟩ = some (.int .i64 (i : Int)) ∧ wx.cell? ⟨wr.heap.size, 2, none⟩ = some (.int .i64 (l : Int)) ∧ wx.cell? ⟨wr.heap.size, 3, none⟩ = some (.int .i64 xn)) ∧ (wx.cell? ⟨vb, vo + i * 12, none⟩ = some (.bool (isNeg f.f)) ∧ wx.cell? ⟨vb, vo + i * 12 + 1, none⟩ = some (.slice Ai0 (D (nu f.f)).length ci0) ∧ wx.cell? ⟨vb, vo + i * 12 + 2, none⟩ = some (.slice Bi0 (D f.f.den).length di0) ∧ wx.cell? ⟨vb, vo + i * 12 + 3, none⟩ = some (.bool (isNeg f.v)) ∧ wx.cell? ⟨vb, vo + i * 12 + 4, none⟩ = some (.slice Ai1 (D (nu f.v)).length ci1) ∧ wx.cell? ⟨vb, vo + i * 12 + 5, none⟩ = some (.slice Bi1 (D f.v.den).length di1) ∧ wx.cell? ⟨vb, vo + i * 12 + 6, none⟩ = some (.bool (isNeg f.w)) ∧ wx.cell? ⟨vb, vo + i * 12 + 7, none⟩ = some (.slice Ai2 (D (nu f.w)).length ci2) ∧ wx.cell? ⟨vb, vo + i * 12 + 8, none⟩ = some (.slice Bi2 (D f.w.den).length di2) ∧ wx.cell? ⟨vb, vo + i * 12 + 9, none⟩ = some (.bool (isNeg f.vw)) ∧ wx.cell? ⟨vb, vo + i * 12 + 10, none⟩ = some (.slice Ai3 (D (nu f.vw)).length ci3) ∧ wx.cell? ⟨vb, vo + i * 12 + 11, none⟩ = some (.slice Bi3 (D f.vw.den).length di3)) ∧ (wx.cell? ⟨vb, vo + l * 12, none⟩ = some (.bool (isNeg g.f)) ∧ wx.cell? ⟨vb, vo + l * 12 + 1, none⟩ = some (.slice Al0 (D (nu g.f)).length cl0) ∧ wx.cell? ⟨vb, vo + l * 12 + 2, none⟩ = some (.slice Bl0 (D g.f.den).length dl0) ∧ wx.cell? ⟨vb, vo + l * 12 + 3, none⟩ = some (.bool (isNeg g.v)) ∧ wx.cell? ⟨vb, vo + l * 12 + 4, none⟩ = some (.slice Al1 (D (nu g.v)).length cl1) ∧ wx.cell? ⟨vb, vo + l * 12 + 5, none⟩ = some (.slice Bl1 (D g.v.den).length dl1) ∧ wx.cell? ⟨vb, vo + l * 12 + 6, none⟩ = some (.bool (isNeg g.w)) ∧ wx.cell? ⟨vb, vo + l * 12 + 7, none⟩ = some (.slice Al2 (D (nu g.w)).length cl2) ∧ wx.cell? ⟨vb, vo + l * 12 + 8, none⟩ = some (.slice Bl2 (D g.w.den).length dl2) ∧ wx.cell? ⟨vb, vo + l * 12 + 9, none⟩ = some (.bool (isNeg g.vw)) ∧ wx.cell? ⟨vb, vo + l * 12 + 10, none⟩ = some (.slice Al3 (D (nu g.vw)).length cl3) ∧ wx.cell? ⟨vb, vo + l * 12 + 11, none⟩ = some (.slice Bl3 (D g.vw.den).length dl3)))
            (first | with_reducible exact ⟨HN3.out.four, HI3.out.2, HL3.out.2⟩ | with_reducible exact ⟨HN2.out.four, HI2.out.2, HL2.out.2⟩ | with_reducible exact ⟨HN0.out.four, HI0.out.2, HL0.out.2⟩ | exact ⟨(HN3.out.pastZ (set12_grown _ _ _ _ _ _ _ _ _ _ _ _ _ _) hnr).four, (HI3.out.past (set12_grown _ _ _ _ _ _ _ _ _ _ _ _ _ _) hvr).2, (HL3.out.past (set12_grown _ _ _ _ _ _ _ _ _ _ _ _ _ _) hvr).2⟩ | exact ⟨HN0.out.four, HI0.out.2, HL0.out.2⟩)
            (first
              | (have HG2 := HQI2; go_at_call 90; refine (HC2.out _ _ _ (by exact HQI2.out) (by exact HQR2.out)).mono ?_; rintro e w3 ⟨vr, rfl, qr, bb⟩; obtain ⟨Ar0, cr0, Br0, dr0, Ar1, cr1, Br1, dr1, Ar2, cr2, Br2, dr2, Ar3, cr3, Br3, dr3, rfl, qr⟩ := qr; have HO3 := Lib.hid qr; have HS3 := Lib.hid (HS2.out.on bb); have HN3 := Lib.hid (HN2.out.on bb); have HI3 := Lib.hid (HI2.out.on bb); have HL3 := Lib.hid (HL2.out.on bb); have HQI3 := Lib.hid (HQI2.out.on bb); have HQL3 := Lib.hid (HQL2.out.on bb); have HR3 := Lib.hid (HR2.out.on bb); have uf0 := HR3.out.fz 0; have uy0 := HR3.out.c0; have uf1 := HR3.out.fz 1; have uy1 := HR3.out.c1; have uf2 := HR3.out.fz 2; have uy2 := HR3.out.c2; have uf3 := HR3.out.fz 3; have uy3 := HR3.out.c3; have uf4 := HR3.out.fz 4; have uy4 := HR3.out.c4; have uf5 := HR3.out.fz 5; have uy5 := HR3.out.c5; have uf6 := HR3.out.fz 6; have uy6 := HR3.out.c6; have uf7 := HR3.out.fz 7; have uy7 := HR3.out.c7; have uf8 := HR3.out.fz 8; have uy8 := HR3.out.c8; have uf9 := HR3.out.fz 9; have uy9 := HR3.out.c9; have uf10 := HR3.out.fz 10; have uy10 := HR3.out.c10; have uf11 := HR3.out.fz 11; have uy11 := HR3.out.c11; clear qr bb)
              | (go_at_call 92; refine (HC1.out _ _ (by first | exact HQL0.out | exact HQL0.out.on (below_drewN (Below.refl _ _) 1))).mono ?_; rintro e w2 ⟨vr2, rfl, qr, bb⟩; have bb := undrew bb; obtain ⟨As0, cs0, Bs0, ds0, As1, cs1, Bs1, ds1, As2, cs2, Bs2, ds2, As3, cs3, Bs3, ds3, rfl, qr⟩ := qr; have HQR2 : Hid (Q4V w2 h (.agg #[.bool (isNeg h.f), .slice As0 (D (nu h.f)).length cs0, .slice Bs0 (D h.f.den).length ds0, .bool (isNeg h.v), .slice As1 (D (nu h.v)).length cs1, .slice Bs1 (D h.v.den).length ds1, .bool (isNeg h.w), .slice As2 (D (nu h.w)).length cs2, .slice Bs2 (D h.w.den).length ds2, .bool (isNeg h.vw), .slice As3 (D (nu h.vw)).length cs3, .slice Bs3 (D h.vw.den).length ds3])) := Lib.hid ⟨As0, cs0, Bs0, ds0, As1, cs1, Bs1, ds1, As2, cs2, Bs2, ds2, As3, cs3, Bs3, ds3, rfl, qr⟩; have HS2 := Lib.hid (HS0.out.on bb); have HN2 := Lib.hid (HN0.out.on bb); have HI2 := Lib.hid (HI0.out.on bb); have HL2 := Lib.hid (HL0.out.on bb); have HQI2 := Lib.hid (HQI0.out.on bb); have HQL2 := Lib.hid (HQL0.out.on bb); have HR2 := Lib.hid (HR0.out.on bb); clear qr bb)
              | fail)
          go_wp2_with fail
          clear uf0 uy0 uf1 uy1 uf2 uy2 uf3 uy3 uf4 uy4 uf5 uy5 uf6 uy6 uf7 uy7 uf8 uy8 uf9 uy9 uf10 uy10 uf11 uy11 HI0 HL0 HQI0 HQL0 HI2 HL2 HQI2 HQL2 HQR2 HI3 HL3 HQI3 HQL3
          go_meet
          exact ⟨p, hp, hlp, ⟨Ar0, cr0, Br0, dr0, Ar1, cr1, Br1, dr1, Ar2, cr2, Br2, dr2, Ar3, cr3, Br3, dr3, HR3.out.setAll _ _ _ _ _ _ _ _ _ _ _ _, ⟨HO3.out.1.pastF HR3.out HFR.out (set12_grown _ _ _ _ _ _ _ _ _ _ _ _ _ _), HO3.out.2.1.pastF HR3.out HFR.out (set12_grown _ _ _ _ _ _ _ _ _ _ _ _ _ _), HO3.out.2.2.1.pastF HR3.out HFR.out (set12_grown _ _ _ _ _ _ _ _ _ _ _ _ _ _), HO3.out.2.2.2.pastF HR3.out HFR.out (set12_grown _ _ _ _ _ _ _ _ _ _ _ _ _ _)⟩, HS3.out.set HR3.out HFR.out (set12_grown _ _ _ _ _ _ _ _ _ _ _ _ _ _) hwr hrow⟩⟩
        · have hb1 : 0 ≤ xa ∧ xa < k := by
            simp [two, one] at gb1
            omega
          obtain ⟨i, rfl⟩ : ∃ i : Nat, xa = i := ⟨xa.toNat, by omega⟩
          have hi : i < k := by omega
          have HI : (i : Int) < k := by omega
          have hfi := getQ_fit HJF.out.2 i (by rw [HJF.out.1]; exact hi)
          obtain ⟨vb, vo, Ai0, ci0, Bi0, di0, Ai1, ci1, Bi1, di1, Ai2, ci2, Bi2, di2, Ai3, ci3, Bi3, di3, Al0, cl0, Bl0, dl0, Al1, cl1, Bl1, dl1, Al2, cl2, Bl2, dl2, Al3, cl3, Bl3, dl3, hV, hvl, hci, hcl, hri, hrl⟩ := HS0.out.two hi hi
          have hvr : vb ≠ w1.heap.size := by
            rcases HS0.out.1.2 with ⟨e, _⟩ | ⟨z, cap, cur, e, _⟩
            · injection e with e; rw [hV] at e; cases e
            · injection e with e; rw [hV] at e; injection e with e; injection e with e1 e2; exact e1 ▸ hrow z (by rw [hV]; simp [e1, e2])
          have HI0 : Hid (C12 v0 vb (vo + i * 12) (.bool (isNeg (js.getD i q40).f)) (.slice Ai0 (D (nu (js.getD i q40).f)).length ci0) (.slice Bi0 (D (js.getD i q40).f.den).length di0) (.bool (isNeg (js.getD i q40).v)) (.slice Ai1 (D (nu (js.getD i q40).v)).length ci1) (.slice Bi1 (D (js.getD i q40).v.den).length di1) (.bool (isNeg (js.getD i q40).w)) (.slice Ai2 (D (nu (js.getD i q40).w)).length ci2) (.slice Bi2 (D (js.getD i q40).w.den).length di2) (.bool (isNeg (js.getD i q40).vw)) (.slice Ai3 (D (nu (js.getD i q40).vw)).length ci3) (.slice Bi3 (D (js.getD i q40).vw.den).length di3)) := Lib.hid ⟨hvl, hci⟩
          have HL0 : Hid (C12 v0 vb (vo + i * 12) (.bool (isNeg (js.getD i q40).f)) (.slice Al0 (D (nu (js.getD i q40).f)).length cl0) (.slice Bl0 (D (js.getD i q40).f.den).length dl0) (.bool (isNeg (js.getD i q40).v)) (.slice Al1 (D (nu (js.getD i q40).v)).length cl1) (.slice Bl1 (D (js.getD i q40).v.den).length dl1) (.bool (isNeg (js.getD i q40).w)) (.slice Al2 (D (nu (js.getD i q40).w)).length cl2) (.slice Bl2 (D (js.getD i q40).w.den).length dl2) (.bool (isNeg (js.getD i q40).vw)) (.slice Al3 (D (nu (js.getD i q40).vw)).length cl3) (.slice Bl3 (D (js.getD i q40).vw.den).length dl3)) := Lib.hid ⟨hvl, hcl⟩
          have HQI0 : Hid (Q4V v0 (js.getD i q40) (.agg #[.bool (isNeg (js.getD i q40).f), .slice Ai0 (D (nu (js.getD i q40).f)).length ci0, .slice Bi0 (D (js.getD i q40).f.den).length di0, .bool (isNeg (js.getD i q40).v), .slice Ai1 (D (nu (js.getD i q40).v)).length ci1, .slice Bi1 (D (js.getD i q40).v.den).length di1, .bool (isNeg (js.getD i q40).w), .slice Ai2 (D (nu (js.getD i q40).w)).length ci2, .slice Bi2 (D (js.getD i q40).w.den).length di2, .bool (isNeg (js.getD i q40).vw), .slice Ai3 (D (nu (js.getD i q40).vw)).length ci3, .slice Bi3 (D (js.getD i q40).vw.den).length di3])) := Lib.hid ⟨Ai0, ci0, Bi0, di0, Ai1, ci1, Bi1, di1, Ai2, ci2, Bi2, di2, Ai3, ci3, Bi3, di3, rfl, hri⟩
          have HQL0 : Hid (Q4V v0 (js.getD i q40) (.agg #[.bool (isNeg (js.getD i q40).f), .slice Al0 (D (nu (js.getD i q40).f)).length cl0, .slice Bl0 (D (js.getD i q40).f.den).length dl0, .bool (isNeg (js.getD i q40).v), .slice Al1 (D (nu (js.getD i q40).v)).length cl1, .slice Bl1 (D (js.getD i q40).v.den).length dl1, .bool (isNeg (js.getD i q40).w), .slice Al2 (D (nu (js.getD i q40).w)).length cl2, .slice Bl2 (D (js.getD i q40).w.den).length dl2, .bool (isNeg (js.getD i q40).vw), .slice Al3 (D (nu (js.getD i q40).vw)).length cl3, .slice Bl3 (D (js.getD i q40).vw.den).length dl3])) := Lib.hid ⟨Al0, cl0, Bl0, dl0, Al1, cl1, Bl1, dl1, Al2, cl2, Bl2, dl2, Al3, cl3, Bl3, dl3, rfl, hrl⟩
          clear hci hcl hri hrl
          obtain ⟨p, hp, hpe⟩ : ∃ p, step4 qs vs ws js (7, (i : Int), xb, xn) = some p ∧ p = neg4 (js.getD i q40) := ⟨neg4 (js.getD i q40), by simp only [step4, Int.toNat_natCast, Int.reduceEq, ↓reduceIte], rfl⟩
          generalize js.getD i q40 = f at *
          have hlp : lims p 16777216 := by rw [hpe]; exact lims_mono (neg_lims hfi) (by decide)
          have HC1 := Lib.hid (fun (va : Value) (W : World) (h1 : Q4V W f va) => l06Neg_any f va W h1 (lims_mono hfi (by decide)))
          rw [← hpe] at HC1
          have n1 := HN0.out.c1
          obtain ⟨-, e0, e1, e2, e3, e4, e5, e6, e7, e8, e9, e10, e11⟩ := HI0.out
          subst hV
          clear hpe
          go_wp2_with (go_at_call 89; refine (HC1.out _ _ HQI0.out).mono ?_; rintro e w2 ⟨vr, rfl, qr, bb⟩; obtain ⟨Ar0, cr0, Br0, dr0, Ar1, cr1, Br1, dr1, Ar2, cr2, Br2, dr2, Ar3, cr3, Br3, dr3, rfl, qr⟩ := qr; have HO2 := Lib.hid qr; have HS2 := Lib.hid (HS0.out.on bb); have HR2 := Lib.hid (HR0.out.on bb); have uf0 := HR2.out.fz 0; have uy0 := HR2.out.c0; have uf1 := HR2.out.fz 1; have uy1 := HR2.out.c1; have uf2 := HR2.out.fz 2; have uy2 := HR2.out.c2; have uf3 := HR2.out.fz 3; have uy3 := HR2.out.c3; have uf4 := HR2.out.fz 4; have uy4 := HR2.out.c4; have uf5 := HR2.out.fz 5; have uy5 := HR2.out.c5; have uf6 := HR2.out.fz 6; have uy6 := HR2.out.c6; have uf7 := HR2.out.fz 7; have uy7 := HR2.out.c7; have uf8 := HR2.out.fz 8; have uy8 := HR2.out.c8; have uf9 := HR2.out.fz 9; have uy9 := HR2.out.c9; have uf10 := HR2.out.fz 10; have uy10 := HR2.out.c10; have uf11 := HR2.out.fz 11; have uy11 := HR2.out.c11; clear qr bb)
          clear n0 n1 e0 e1 e2 e3 e4 e5 e6 e7 e8 e9 e10 e11 uf0 uy0 uf1 uy1 uf2 uy2 uf3 uy3 uf4 uy4 uf5 uy5 uf6 uy6 uf7 uy7 uf8 uy8 uf9 uy9 uf10 uy10 uf11 uy11 HI0 HL0 HQI0 HQL0
          go_meet
          exact ⟨p, hp, hlp, ⟨Ar0, cr0, Br0, dr0, Ar1, cr1, Br1, dr1, Ar2, cr2, Br2, dr2, Ar3, cr3, Br3, dr3, HR2.out.setAll _ _ _ _ _ _ _ _ _ _ _ _, ⟨HO2.out.1.pastF HR2.out HFR.out (set12_grown _ _ _ _ _ _ _ _ _ _ _ _ _ _), HO2.out.2.1.pastF HR2.out HFR.out (set12_grown _ _ _ _ _ _ _ _ _ _ _ _ _ _), HO2.out.2.2.1.pastF HR2.out HFR.out (set12_grown _ _ _ _ _ _ _ _ _ _ _ _ _ _), HO2.out.2.2.2.pastF HR2.out HFR.out (set12_grown _ _ _ _ _ _ _ _ _ _ _ _ _ _)⟩, HS2.out.set HR2.out HFR.out (set12_grown _ _ _ _ _ _ _ _ _ _ _ _ _ _) hwr hrow⟩⟩
        · have hb1 : 0 ≤ xa ∧ xa < k := by
            simp [two, one] at gb1
            omega
          obtain ⟨i, rfl⟩ : ∃ i : Nat, xa = i := ⟨xa.toNat, by omega⟩
          have hi : i < k := by omega
          have HI : (i : Int) < k := by omega
          have hfi := getQ_fit HJF.out.2 i (by rw [HJF.out.1]; exact hi)
          obtain ⟨vb, vo, Ai0, ci0, Bi0, di0, Ai1, ci1, Bi1, di1, Ai2, ci2, Bi2, di2, Ai3, ci3, Bi3, di3, Al0, cl0, Bl0, dl0, Al1, cl1, Bl1, dl1, Al2, cl2, Bl2, dl2, Al3, cl3, Bl3, dl3, hV, hvl, hci, hcl, hri, hrl⟩ := HS0.out.two hi hi
          have hvr : vb ≠ w1.heap.size := by
            rcases HS0.out.1.2 with ⟨e, _⟩ | ⟨z, cap, cur, e, _⟩
            · injection e with e; rw [hV] at e; cases e
            · injection e with e; rw [hV] at e; injection e with e; injection e with e1 e2; exact e1 ▸ hrow z (by rw [hV]; simp [e1, e2])
          have HI0 : Hid (C12 v0 vb (vo + i * 12) (.bool (isNeg (js.getD i q40).f)) (.slice Ai0 (D (nu (js.getD i q40).f)).length ci0) (.slice Bi0 (D (js.getD i q40).f.den).length di0) (.bool (isNeg (js.getD i q40).v)) (.slice Ai1 (D (nu (js.getD i q40).v)).length ci1) (.slice Bi1 (D (js.getD i q40).v.den).length di1) (.bool (isNeg (js.getD i q40).w)) (.slice Ai2 (D (nu (js.getD i q40).w)).length ci2) (.slice Bi2 (D (js.getD i q40).w.den).length di2) (.bool (isNeg (js.getD i q40).vw)) (.slice Ai3 (D (nu (js.getD i q40).vw)).length ci3) (.slice Bi3 (D (js.getD i q40).vw.den).length di3)) := Lib.hid ⟨hvl, hci⟩
          have HL0 : Hid (C12 v0 vb (vo + i * 12) (.bool (isNeg (js.getD i q40).f)) (.slice Al0 (D (nu (js.getD i q40).f)).length cl0) (.slice Bl0 (D (js.getD i q40).f.den).length dl0) (.bool (isNeg (js.getD i q40).v)) (.slice Al1 (D (nu (js.getD i q40).v)).length cl1) (.slice Bl1 (D (js.getD i q40).v.den).length dl1) (.bool (isNeg (js.getD i q40).w)) (.slice Al2 (D (nu (js.getD i q40).w)).length cl2) (.slice Bl2 (D (js.getD i q40).w.den).length dl2) (.bool (isNeg (js.getD i q40).vw)) (.slice Al3 (D (nu (js.getD i q40).vw)).length cl3) (.slice Bl3 (D (js.getD i q40).vw.den).length dl3)) := Lib.hid ⟨hvl, hcl⟩
          have HQI0 : Hid (Q4V v0 (js.getD i q40) (.agg #[.bool (isNeg (js.getD i q40).f), .slice Ai0 (D (nu (js.getD i q40).f)).length ci0, .slice Bi0 (D (js.getD i q40).f.den).length di0, .bool (isNeg (js.getD i q40).v), .slice Ai1 (D (nu (js.getD i q40).v)).length ci1, .slice Bi1 (D (js.getD i q40).v.den).length di1, .bool (isNeg (js.getD i q40).w), .slice Ai2 (D (nu (js.getD i q40).w)).length ci2, .slice Bi2 (D (js.getD i q40).w.den).length di2, .bool (isNeg (js.getD i q40).vw), .slice Ai3 (D (nu (js.getD i q40).vw)).length ci3, .slice Bi3 (D (js.getD i q40).vw.den).length di3])) := Lib.hid ⟨Ai0, ci0, Bi0, di0, Ai1, ci1, Bi1, di1, Ai2, ci2, Bi2, di2, Ai3, ci3, Bi3, di3, rfl, hri⟩
          have HQL0 : Hid (Q4V v0 (js.getD i q40) (.agg #[.bool (isNeg (js.getD i q40).f), .slice Al0 (D (nu (js.getD i q40).f)).length cl0, .slice Bl0 (D (js.getD i q40).f.den).length dl0, .bool (isNeg (js.getD i q40).v), .slice Al1 (D (nu (js.getD i q40).v)).length cl1, .slice Bl1 (D (js.getD i q40).v.den).length dl1, .bool (isNeg (js.getD i q40).w), .slice Al2 (D (nu (js.getD i q40).w)).length cl2, .slice Bl2 (D (js.getD i q40).w.den).length dl2, .bool (isNeg (js.getD i q40).vw), .slice Al3 (D (nu (js.getD i q40).vw)).length cl3, .slice Bl3 (D (js.getD i q40).vw.den).length dl3])) := Lib.hid ⟨Al0, cl0, Bl0, dl0, Al1, cl1, Bl1, dl1, Al2, cl2, Bl2, dl2, Al3, cl3, Bl3, dl3, rfl, hrl⟩
          clear hci hcl hri hrl
          simp at f4
          obtain ⟨q, rfl⟩ : ∃ q : Nat, xn = q := ⟨xn.toNat, by omega⟩
          obtain ⟨p, hp, hpe⟩ : ∃ p, step4 qs vs ws js (8, (i : Int), xb, (q : Int)) = some p ∧ p = toPow4 (js.getD i q40) q := ⟨toPow4 (js.getD i q40) q, by simp only [step4, Int.toNat_natCast, Int.reduceEq, ↓reduceIte], rfl⟩
          generalize js.getD i q40 = f at *
          have hlp : lims p 16777216 := by rw [hpe]; exact lims_mono (pow_lims hfi q (by omega)) (by decide)
          have hone : Op0 87 1 (isNeg 1) (D (nu 1)) (D (1 : Rat).den) := op_int 1 (by decide) (by decide)
          have HONE := Lib.hid hone
          have HC0 : Hid (∀ (A2 B2 : Option Addr) (c2 d2 : Nat) (W : World), RdR W (fun _ => True) (D (nu 1)) (D (1 : Rat).den) A2 c2 B2 d2 → Calls Tryz.prog 86 #[.agg #[.bool (isNeg 1), .slice A2 (D (nu 1)).length c2, .slice B2 (D (1 : Rat).den).length d2]] W (Say4 W (toPow4 f 0))) := Lib.hid (fun A2 B2 c2 d2 W hr => l06Const_any 1 A2 B2 c2 d2 (fun _ => True) W hr)
          have HMUL : Hid (∀ (t : Nat), t ≤ 8 → ∀ (va vb' : Value) (W : World), Q4V W (toPow4 f t) va → Q4V W f vb' → Calls Tryz.prog 90 #[va, vb'] W (Say4 W (toPow4 f (t + 1)))) := Lib.hid (fun t ht va vb' W h1 h2 => l06Mul_any (toPow4 f t) f va vb' W 800 40 h1 h2 (pow_lims hfi t ht) hfi (by decide))
          have HPE := Lib.hid hpe
          subst hV
          clear hpe hone HL0 HQL0
          go_wp2_with (first
            | (go_at_call 87; refine (HONE.out _).mono ?_; rintro e w2 ⟨A2, c2, B2, d2, rfl, oo, bb⟩; have HO2 := Lib.hid oo; have HS2 := Lib.hid (HS0.out.on bb); have HN2 := Lib.hid (HN0.out.on bb); have HI2 := Lib.hid (HI0.out.on bb); have HQI2 := Lib.hid (HQI0.out.on bb); have HR2 := Lib.hid (HR0.out.on bb); clear oo bb)
            | (go_at_call 86; refine (HC0.out A2 B2 c2 d2 _ HO2.out).mono ?_; rintro e w3 ⟨vr, rfl, qr, bb⟩; obtain ⟨Ar0, cr0, Br0, dr0, Ar1, cr1, Br1, dr1, Ar2, cr2, Br2, dr2, Ar3, cr3, Br3, dr3, rfl, qr⟩ := qr; have HO3 := Lib.hid qr; have HS3 := Lib.hid (HS2.out.on bb); have HN3 := Lib.hid (HN2.out.on bb); have HI3 := Lib.hid (HI2.out.on bb); have HQI3 := Lib.hid (HQI2.out.on bb); have HR3 := Lib.hid (HR2.out.on bb); have uf0 := HR3.out.fz 0; have uy0 := HR3.out.c0; have uf1 := HR3.out.fz 1; have uy1 := HR3.out.c1; have uf2 := HR3.out.fz 2; have uy2 := HR3.out.c2; have uf3 := HR3.out.fz 3; have uy3 := HR3.out.c3; have uf4 := HR3.out.fz 4; have uy4 := HR3.out.c4; have uf5 := HR3.out.fz 5; have uy5 := HR3.out.c5; have uf6 := HR3.out.fz 6; have uy6 := HR3.out.c6; have uf7 := HR3.out.fz 7; have uy7 := HR3.out.c7; have uf8 := HR3.out.fz 8; have uy8 := HR3.out.c8; have uf9 := HR3.out.fz 9; have uy9 := HR3.out.c9; have uf10 := HR3.out.fz 10; have uy10 := HR3.out.c10; have uf11 := HR3.out.fz 11; have uy11 := HR3.out.c11; clear qr bb))
          clear n0 uf0 uy0 uf1 uy1 uf2 uy2 uf3 uy3 uf4 uy4 uf5 uy5 uf6 uy6 uf7 uy7 uf8 uy8 uf9 uy9 uf10 uy10 uf11 uy11
          go_loopw [14] (fun iv wx => ∃ (t : Nat) (Ar0 : Option Addr) (cr0 : Nat) (Br0 : Option Addr) (dr0 : Nat) (Ar1 : Option Addr) (cr1 : Nat) (Br1 : Option Addr) (dr1 : Nat) (Ar2 : Option Addr) (cr2 : Nat) (Br2 : Option Addr) (dr2 : Nat) (Ar3 : Option Addr) (cr3 : Nat) (Br3 : Option Addr) (dr3 : Nat), t ≤ q ∧ iv = .int .i64 t ∧ Hid (Q4At wx w1.heap.size 84 (.bool (isNeg (toPow4 f t).f)) (.slice Ar0 (D (nu (toPow4 f t).f)).length cr0) (.slice Br0 (D (toPow4 f t).f.den).length dr0) (.bool (isNeg (toPow4 f t).v)) (.slice Ar1 (D (nu (toPow4 f t).v)).length cr1) (.slice Br1 (D (toPow4 f t).v.den).length dr1) (.bool (isNeg (toPow4 f t).w)) (.slice Ar2 (D (nu (toPow4 f t).w)).length cr2) (.slice Br2 (D (toPow4 f t).w.den).length dr2) (.bool (isNeg (toPow4 f t).vw)) (.slice Ar3 (D (nu (toPow4 f t).vw)).length cr3) (.slice Br3 (D (toPow4 f t).vw.den).length dr3)) ∧ Hid (RdR wx (fun _ => True) (D (nu (toPow4 f t).f)) (D (toPow4 f t).f.den) Ar0 cr0 Br0 dr0 ∧ RdR wx (fun _ => True) (D (nu (toPow4 f t).v)) (D (toPow4 f t).v.den) Ar1 cr1 Br1 dr1 ∧ RdR wx (fun _ => True) (D (nu (toPow4 f t).w)) (D (toPow4 f t).w.den) Ar2 cr2 Br2 dr2 ∧ RdR wx (fun _ => True) (D (nu (toPow4 f t).vw)) (D (toPow4 f t).vw.den) Ar3 cr3 Br3 dr3) ∧ Hid (EvSt 84 25 w wx (some ⟨b, o, none⟩) n c (some (⟨vb, vo, none⟩ : Addr)) k cv L js) ∧ Hid (NodeAt wx wr.heap.size 114 8 (i : Int) xb (q : Int)) ∧ Hid (C12 wx vb (vo + i * 12) (.bool (isNeg f.f)) (.slice Ai0 (D (nu f.f)).length ci0) (.slice Bi0 (D f.f.den).length di0) (.bool (isNeg f.v)) (.slice Ai1 (D (nu f.v)).length ci1) (.slice Bi1 (D f.v.den).length di1) (.bool (isNeg f.w)) (.slice Ai2 (D (nu f.w)).length ci2) (.slice Bi2 (D f.w.den).length di2) (.bool (isNeg f.vw)) (.slice Ai3 (D (nu f.vw)).length ci3) (.slice Bi3 (D f.vw.den).length di3)) ∧ Hid (Q4V wx f (.agg #[.bool (isNeg f.f), .slice Ai0 (D (nu f.f)).length ci0, .slice Bi0 (D f.f.den).length di0, .bool (isNeg f.v), .slice Ai1 (D (nu f.v)).length ci1, .slice Bi1 (D f.v.den).length di1, .bool (isNeg f.w), .slice Ai2 (D (nu f.w)).length ci2, .slice Bi2 (D f.w.den).length di2, .bool (isNeg f.vw), .slice Ai3 (D (nu f.vw)).length ci3, .slice Bi3 (D f.vw.den).length di3]))) (fun iv _ => q - (intOf iv).toNat)
          case atStart => exact ⟨0, Ar0, cr0, Br0, dr0, Ar1, cr1, Br1, dr1, Ar2, cr2, Br2, dr2, Ar3, cr3, Br3, dr3, Nat.zero_le _, rfl, Lib.hid (HR3.out.setAll _ _ _ _ _ _ _ _ _ _ _ _), Lib.hid ⟨HO3.out.1.pastF HR3.out HFR.out (set12_grown _ _ _ _ _ _ _ _ _ _ _ _ _ _), HO3.out.2.1.pastF HR3.out HFR.out (set12_grown _ _ _ _ _ _ _ _ _ _ _ _ _ _), HO3.out.2.2.1.pastF HR3.out HFR.out (set12_grown _ _ _ _ _ _ _ _ _ _ _ _ _ _), HO3.out.2.2.2.pastF HR3.out HFR.out (set12_grown _ _ _ _ _ _ _ _ _ _ _ _ _ _)⟩, Lib.hid (HS3.out.set HR3.out HFR.out (set12_grown _ _ _ _ _ _ _ _ _ _ _ _ _ _) hwr hrow), Lib.hid (HN3.out.pastZ (set12_grown _ _ _ _ _ _ _ _ _ _ _ _ _ _) hnr), Lib.hid (HI3.out.past (set12_grown _ _ _ _ _ _ _ _ _ _ _ _ _ _) hvr), Lib.hid (HQI3.out.past HR3.out HFR.out (set12_grown _ _ _ _ _ _ _ _ _ _ _ _ _ _))⟩
          case round =>
            obtain ⟨t, Ar0, cr0, Br0, dr0, Ar1, cr1, Br1, dr1, Ar2, cr2, Br2, dr2, Ar3, cr3, Br3, dr3, ht, rfl, HRt, HOt, HSt, HNt, HIt, HQt⟩ := hrel
            have n3 := HNt.out.c3
            by_cases htq : t < q
            · have hti : (t : Int) < q := by omega
              have HM := Lib.hid (HMUL.out t (by omega))
              have HQP : Hid (Q4V wr (toPow4 f t) (.agg #[.bool (isNeg (toPow4 f t).f), .slice Ar0 (D (nu (toPow4 f t).f)).length cr0, .slice Br0 (D (toPow4 f t).f.den).length dr0, .bool (isNeg (toPow4 f t).v), .slice Ar1 (D (nu (toPow4 f t).v)).length cr1, .slice Br1 (D (toPow4 f t).v.den).length dr1, .bool (isNeg (toPow4 f t).w), .slice Ar2 (D (nu (toPow4 f t).w)).length cr2, .slice Br2 (D (toPow4 f t).w.den).length dr2, .bool (isNeg (toPow4 f t).vw), .slice Ar3 (D (nu (toPow4 f t).vw)).length cr3, .slice Br3 (D (toPow4 f t).vw.den).length dr3])) := Lib.hid ⟨Ar0, cr0, Br0, dr0, Ar1, cr1, Br1, dr1, Ar2, cr2, Br2, dr2, Ar3, cr3, Br3, dr3, rfl, HOt.out⟩
              have HF2 : Hid (∀ u ∈ (#[.bool (isNeg (toPow4 f t).f), .slice Ar0 (D (nu (toPow4 f t).f)).length cr0, .slice Br0 (D (toPow4 f t).f.den).length dr0, .bool (isNeg (toPow4 f t).v), .slice Ar1 (D (nu (toPow4 f t).v)).length cr1, .slice Br1 (D (toPow4 f t).v.den).length dr1, .bool (isNeg (toPow4 f t).w), .slice Ar2 (D (nu (toPow4 f t).w)).length cr2, .slice Br2 (D (toPow4 f t).w.den).length dr2, .bool (isNeg (toPow4 f t).vw), .slice Ar3 (D (nu (toPow4 f t).vw)).length cr3, .slice Br3 (D (toPow4 f t).vw.den).length dr3] : Array Value).toList, noInt u = true) := Lib.hid (by simp [noInt])
              have n1 := HNt.out.c1
              have b0 := HRt.out.c0
              have b1 := HRt.out.c1
              have b2 := HRt.out.c2
              have b3 := HRt.out.c3
              have b4 := HRt.out.c4
              have b5 := HRt.out.c5
              have b6 := HRt.out.c6
              have b7 := HRt.out.c7
              have b8 := HRt.out.c8
              have b9 := HRt.out.c9
              have b10 := HRt.out.c10
              have b11 := HRt.out.c11
              obtain ⟨-, e0, e1, e2, e3, e4, e5, e6, e7, e8, e9, e10, e11⟩ := HIt.out
              clear HMUL HC0 HONE
              go_wp2_with fail
              go_region_with (first | (go_at_call 90; refine (HM.out _ _ _ (by first | exact HQP.out | exact HQP.out.on (below_drewN (Below.refl _ _) 1)) (by first | exact HQt.out | exact HQt.out.on (below_drewN (Below.refl _ _) 1))).mono ?_; rintro e w4 ⟨vr4, rfl, qr, bb⟩; have bb := undrew bb; obtain ⟨As0, cs0, Bs0, ds0, As1, cs1, Bs1, ds1, As2, cs2, Bs2, ds2, As3, cs3, Bs3, ds3, rfl, qr⟩ := qr; have HO4 := Lib.hid qr; have HS4 := Lib.hid (HSt.out.on bb); have HN4 := Lib.hid (HNt.out.on bb); have HI4 := Lib.hid (HIt.out.on bb); have HQ4 := Lib.hid (HQt.out.on bb); have HR4 := Lib.hid (HRt.out.on bb); have uf0 := HR4.out.fz 0; have uy0 := HR4.out.c0; have uf1 := HR4.out.fz 1; have uy1 := HR4.out.c1; have uf2 := HR4.out.fz 2; have uy2 := HR4.out.c2; have uf3 := HR4.out.fz 3; have uy3 := HR4.out.c3; have uf4 := HR4.out.fz 4; have uy4 := HR4.out.c4; have uf5 := HR4.out.fz 5; have uy5 := HR4.out.c5; have uf6 := HR4.out.fz 6; have uy6 := HR4.out.c6; have uf7 := HR4.out.fz 7; have uy7 := HR4.out.c7; have uf8 := HR4.out.fz 8; have uy8 := HR4.out.c8; have uf9 := HR4.out.fz 9; have uy9 := HR4.out.c9; have uf10 := HR4.out.fz 10; have uy10 := HR4.out.c10; have uf11 := HR4.out.fz 11; have uy11 := HR4.out.c11; clear qr bb))
              all_goals
                clear uf0 uy0 uf1 uy1 uf2 uy2 uf3 uy3 uf4 uy4 uf5 uy5 uf6 uy6 uf7 uy7 uf8 uy8 uf9 uy9 uf10 uy10 uf11 uy11 b0 e0 b1 e1 b2 e2 b3 e3 b4 e4 b5 e5 b6 e6 b7 e7 b8 e8 b9 e9 b10 e10 b11 e11 n1 n3
                go_wp2
                go_roundw
                case rel => exact ⟨t + 1, As0, cs0, Bs0, ds0, As1, cs1, Bs1, ds1, As2, cs2, Bs2, ds2, As3, cs3, Bs3, ds3, by omega, by go_num, Lib.hid (HR4.out.setAll _ _ _ _ _ _ _ _ _ _ _ _), Lib.hid ⟨HO4.out.1.pastF HR4.out HF2.out (set12_grown _ _ _ _ _ _ _ _ _ _ _ _ _ _), HO4.out.2.1.pastF HR4.out HF2.out (set12_grown _ _ _ _ _ _ _ _ _ _ _ _ _ _), HO4.out.2.2.1.pastF HR4.out HF2.out (set12_grown _ _ _ _ _ _ _ _ _ _ _ _ _ _), HO4.out.2.2.2.pastF HR4.out HF2.out (set12_grown _ _ _ _ _ _ _ _ _ _ _ _ _ _)⟩, Lib.hid (HS4.out.set HR4.out HF2.out (set12_grown _ _ _ _ _ _ _ _ _ _ _ _ _ _) hwr hrow), Lib.hid (HN4.out.pastZ (set12_grown _ _ _ _ _ _ _ _ _ _ _ _ _ _) hnr), Lib.hid (HI4.out.past (set12_grown _ _ _ _ _ _ _ _ _ _ _ _ _ _) hvr), Lib.hid (HQ4.out.past HR4.out HF2.out (set12_grown _ _ _ _ _ _ _ _ _ _ _ _ _ _))⟩
                case measure => simp [intOf]; omega
            · obtain rfl : t = q := by omega
              go_wp2_with fail
              clear n3
              go_meet
              exact ⟨p, hp, hlp, (by rw [HPE.out]; exact ⟨Ar0, cr0, Br0, dr0, Ar1, cr1, Br1, dr1, Ar2, cr2, Br2, dr2, Ar3, cr3, Br3, dr3, HRt.out, HOt.out, HSt.out⟩)⟩
      case rest =>
        obtain ⟨p, hp, hlp, Ap0, cp0, Bp0, dp0, Ap1, cp1, Bp1, dp1, Ap2, cp2, Bp2, dp2, Ap3, cp3, Bp3, dp3, r9, o9, s9⟩ := hcut
        have HR9 := Lib.hid r9
        have HO9 := Lib.hid o9
        have HS9 := Lib.hid s9
        clear r9 o9 s9
        have HFUL := Lib.hid (fun h => HFU.out p hp h)
        have HMOR := Lib.hid (fun h => HMO.out p hp h)
        clear hp HNO HFU HMO HN0 HS0 HR0
        have b0 := HR9.out.c0
        have b1 := HR9.out.c1
        have b2 := HR9.out.c2
        have b3 := HR9.out.c3
        have b4 := HR9.out.c4
        have b5 := HR9.out.c5
        have b6 := HR9.out.c6
        have b7 := HR9.out.c7
        have b8 := HR9.out.c8
        have b9 := HR9.out.c9
        have b10 := HR9.out.c10
        have b11 := HR9.out.c11
        have HQV : Hid (Q4V wc p (.agg #[.bool (isNeg p.f), .slice Ap0 (D (nu p.f)).length cp0, .slice Bp0 (D p.f.den).length dp0, .bool (isNeg p.v), .slice Ap1 (D (nu p.v)).length cp1, .slice Bp1 (D p.v.den).length dp1, .bool (isNeg p.w), .slice Ap2 (D (nu p.w)).length cp2, .slice Bp2 (D p.w.den).length dp2, .bool (isNeg p.vw), .slice Ap3 (D (nu p.vw)).length cp3, .slice Bp3 (D p.vw.den).length dp3])) := Lib.hid ⟨Ap0, cp0, Bp0, dp0, Ap1, cp1, Bp1, dp1, Ap2, cp2, Bp2, dp2, Ap3, cp3, Bp3, dp3, rfl, HO9.out⟩
        by_cases hfp : fit4 p
        · go_wp2_with fail
          refine (l06Fits_any p _ wc HQV.out hlp).mono ?_
          rintro e w5 ⟨rfl, bq⟩
          rw [decide_eq_true hfp]
          have HR5 := Lib.hid (HR9.out.on bq)
          have HO5 : Hid (RdR w5 (fun _ => True) (D (nu p.f)) (D p.f.den) Ap0 cp0 Bp0 dp0 ∧ RdR w5 (fun _ => True) (D (nu p.v)) (D p.v.den) Ap1 cp1 Bp1 dp1 ∧ RdR w5 (fun _ => True) (D (nu p.w)) (D p.w.den) Ap2 cp2 Bp2 dp2 ∧ RdR w5 (fun _ => True) (D (nu p.vw)) (D p.vw.den) Ap3 cp3 Bp3 dp3) := Lib.hid ⟨HO9.out.1.on bq, HO9.out.2.1.on bq, HO9.out.2.2.1.on bq, HO9.out.2.2.2.on bq⟩
          have HS5 := Lib.hid (HS9.out.on bq)
          have b0 := HR5.out.c0
          have b1 := HR5.out.c1
          have b2 := HR5.out.c2
          have b3 := HR5.out.c3
          have b4 := HR5.out.c4
          have b5 := HR5.out.c5
          have b6 := HR5.out.c6
          have b7 := HR5.out.c7
          have b8 := HR5.out.c8
          have b9 := HR5.out.c9
          have b10 := HR5.out.c10
          have b11 := HR5.out.c11
          have HP5 : Hid (Q4L w5 (fun b => V ≠ some ⟨b, 0, none⟩) p [.bool (isNeg p.f), .slice Ap0 (D (nu p.f)).length cp0, .slice Bp0 (D p.f.den).length dp0, .bool (isNeg p.v), .slice Ap1 (D (nu p.v)).length cp1, .slice Bp1 (D p.v.den).length dp1, .bool (isNeg p.w), .slice Ap2 (D (nu p.w)).length cp2, .slice Bp2 (D p.w.den).length dp2, .bool (isNeg p.vw), .slice Ap3 (D (nu p.vw)).length cp3, .slice Bp3 (D p.vw.den).length dp3]) := Lib.hid ⟨Ap0, cp0, Bp0, dp0, Ap1, cp1, Bp1, dp1, Ap2, cp2, Bp2, dp2, Ap3, cp3, Bp3, dp3, rfl, HO5.out.1.beside HS5.out.2.2.2.2.1, HO5.out.2.1.beside HS5.out.2.2.2.2.1, HO5.out.2.2.1.beside HS5.out.2.2.2.2.1, HO5.out.2.2.2.beside HS5.out.2.2.2.2.1⟩
          have hs5 : w.heap.size + 2 ≤ w5.heap.size := HS5.out.box
          have HLJ := Lib.hid HS5.out.2.1
          clear bq HR9 HO9 HS9 HQV HO5 HR5
          go_wp2_with (at_builtin; refine wpList_append_free _ rfl _ _ 119 rfl (w.heap.size + 2) 84 i0 _ 12 224 Tryz.underlying119 hi0 hz0 hz1 hz2 rfl (by decide) (by decide) _ k _ _ rfl (HS5.out.1.alloc _) ⟨w5.heap.size, 0, none⟩ 1 1 [.bool (isNeg p.f), .slice Ap0 (D (nu p.f)).length cp0, .slice Bp0 (D p.f.den).length dp0, .bool (isNeg p.v), .slice Ap1 (D (nu p.v)).length cp1, .slice Bp1 (D p.v.den).length dp1, .bool (isNeg p.w), .slice Ap2 (D (nu p.w)).length cp2, .slice Bp2 (D p.w.den).length dp2, .bool (isNeg p.vw), .slice Ap3 (D (nu p.vw)).length cp3, .slice Bp3 (D p.vw.den).length dp3] rfl rfl (World.news_of_block (heap_alloc_new _ _)) (oneQ _ _ _ _ _ _ _ _ _ _ _ _ _ _ _ _ _ _ _ _ _ _ _ _ _ _ _ _) (by simp [noInt]) (by decide) (by unfold maxLen; omega) (by omega) (by simp; omega) (HS5.out.2.2.2.2.1.on (below1 _ _) (own_ltF HS5.out.1)) _ rfl ?_; intro g' cv' w7 hown hgrow hat hfree)
          have hlit := below1 w5 (.cells #[.bool (isNeg p.f), .slice Ap0 (D (nu p.f)).length cp0, .slice Bp0 (D p.f.den).length dp0, .bool (isNeg p.v), .slice Ap1 (D (nu p.v)).length cp1, .slice Bp1 (D p.v.den).length dp1, .bool (isNeg p.w), .slice Ap2 (D (nu p.w)).length cp2, .slice Bp2 (D p.w.den).length dp2, .bool (isNeg p.vw), .slice Ap3 (D (nu p.vw)).length cp3, .slice Bp3 (D p.vw.den).length dp3] 84)
          have hrb := row1_below (HS5.out.1.alloc _) (by simp; omega) hgrow
          have HS7 : Hid (EvSt 84 25 w w7 (some ⟨b, o, none⟩) n c (some ⟨g', 0, none⟩) (k + 1) cv' (L ++ [[.bool (isNeg p.f), .slice Ap0 (D (nu p.f)).length cp0, .slice Bp0 (D p.f.den).length dp0, .bool (isNeg p.v), .slice Ap1 (D (nu p.v)).length cp1, .slice Bp1 (D p.v.den).length dp1, .bool (isNeg p.w), .slice Ap2 (D (nu p.w)).length cp2, .slice Bp2 (D p.w.den).length dp2, .bool (isNeg p.vw), .slice Ap3 (D (nu p.vw)).length cp3, .slice Bp3 (D p.vw.den).length dp3]]) (js ++ [p])) := by
            refine Lib.hid ⟨by rw [List.flatten_append]; simpa using hown, ⟨by rw [List.length_append, HLJ.out.1]; rfl, by rw [List.length_append, HLJ.out.2.1]; rfl, fun i hi => ?_⟩, (hrb.block _ (by omega)).trans (HS5.out.2.2.1.on hlit), (hrb.block _ (by omega)).trans (HS5.out.2.2.2.1.on hlit), hfree, (below_on HS5.out.2.2.2.2.2 hlit).trans (hrb.mono (by omega))⟩
            by_cases e : i = k
            · subst e
              rw [getDQ_at HLJ.out.2.1, getDL_at HLJ.out.1]
              exact (HP5.out.on hlit).appended (HS5.out.1.alloc _) hgrow hat
            · rw [getDQ_snoc js p i (by rw [HLJ.out.2.1]; omega), getDL_snoc L _ i (by rw [HLJ.out.1]; omega)]
              exact ((HLJ.out.2.2 i (by omega)).on hlit).appended (HS5.out.1.alloc _) hgrow hat
          clear hown hgrow hat hfree hlit hrb HP5 HS5 HLJ b0 b1 b2 b3 b4 b5 b6 b7 b8 b9 b10 b11
          go_wp2
          go_roundw
          case rel => exact ⟨k + 1, _, _, _, _, by omega, by go_num, rfl, Lib.hid (HMOR.out hfp), HS7⟩
          case measure => simp [intOf]; omega
        · have HRES := Lib.hid (HFUL.out hfp)
          go_wp2_with fail
          refine (l06Fits_any p _ wc HQV.out hlp).mono ?_
          rintro e w5 ⟨rfl, bq⟩
          rw [decide_eq_false hfp]
          have HZ5 := Lib.hid (HS9.out.on bq).2.2.2.1
          have HB5 := Lib.hid (HS9.out.on bq).2.2.2.2.2
          have uf0 := HZ5.out.fz 0
          have uy0 := HZ5.out.c0
          have uf1 := HZ5.out.fz 1
          have uy1 := HZ5.out.c1
          have uf2 := HZ5.out.fz 2
          have uy2 := HZ5.out.c2
          have uf3 := HZ5.out.fz 3
          have uy3 := HZ5.out.c3
          have uf4 := HZ5.out.fz 4
          have uy4 := HZ5.out.c4
          have uf5 := HZ5.out.fz 5
          have uy5 := HZ5.out.c5
          have uf6 := HZ5.out.fz 6
          have uy6 := HZ5.out.c6
          have uf7 := HZ5.out.fz 7
          have uy7 := HZ5.out.c7
          have uf8 := HZ5.out.fz 8
          have uy8 := HZ5.out.c8
          have uf9 := HZ5.out.fz 9
          have uy9 := HZ5.out.c9
          have uf10 := HZ5.out.fz 10
          have uy10 := HZ5.out.c10
          have uf11 := HZ5.out.fz 11
          have uy11 := HZ5.out.c11
          clear bq HR9 HO9 HS9 HQV b0 b1 b2 b3 b4 b5 b6 b7 b8 b9 b10 b11
          go_wp2
          refine bodyPost_ret (retQC rfl _ _ _ rfl (HZ5.out.setAll _ _ _ _ _ _ _ _ _ _ _ _)) rfl ?_
          rw [HRES.out]
          exact .inr ⟨by decide, rfl, below_grow HB5.out (by omega) (set12_grown _ _ _ _ _ _ _ _ _ _ _ _ _ _)⟩
    · obtain rfl : k = n := by omega
      have HT : Hid (eval4 qs vs ws ns = (js, 0)) := by
        show _ = _
        rw [← HEV.out, List.take_of_length_le (by rw [HLN.out]; exact Nat.le_refl _)]
      obtain ⟨q, rfl⟩ : ∃ q, k = q + 1 := ⟨k - 1, by omega⟩
      obtain ⟨vb, vo, Ai0, ci0, Bi0, di0, Ai1, ci1, Bi1, di1, Ai2, ci2, Bi2, di2, Ai3, ci3, Bi3, di3, Al0, cl0, Bl0, dl0, Al1, cl1, Bl1, dl1, Al2, cl2, Bl2, dl2, Al3, cl3, Bl3, dl3, hV, hvl, hci, -, hri, -⟩ := HS.out.two (i := q) (l := q) (by omega) (by omega)
      have HZ5 := Lib.hid HS.out.2.2.2.1
      have HB5 := Lib.hid HS.out.2.2.2.2.2
      have HQQ := Lib.hid hri
      have hq60 : q ≤ 60 := by omega
      subst hV
      obtain ⟨e0, e1, e2, e3, e4, e5, e6, e7, e8, e9, e10, e11⟩ := hci
      have uf0 := HZ5.out.fz 0
      have uy0 := HZ5.out.c0
      have uf1 := HZ5.out.fz 1
      have uy1 := HZ5.out.c1
      have uf2 := HZ5.out.fz 2
      have uy2 := HZ5.out.c2
      have uf3 := HZ5.out.fz 3
      have uy3 := HZ5.out.c3
      have uf4 := HZ5.out.fz 4
      have uy4 := HZ5.out.c4
      have uf5 := HZ5.out.fz 5
      have uy5 := HZ5.out.c5
      have uf6 := HZ5.out.fz 6
      have uy6 := HZ5.out.c6
      have uf7 := HZ5.out.fz 7
      have uy7 := HZ5.out.c7
      have uf8 := HZ5.out.fz 8
      have uy8 := HZ5.out.c8
      have uf9 := HZ5.out.fz 9
      have uy9 := HZ5.out.c9
      have uf10 := HZ5.out.fz 10
      have uy10 := HZ5.out.c10
      have uf11 := HZ5.out.fz 11
      have uy11 := HZ5.out.c11
      clear HEV HS hri
      generalize hj : js.getD q q40 = J at *
      go_wp2
      refine bodyPost_ret (retQC rfl _ _ _ rfl (HZ5.out.setAll _ _ _ _ _ _ _ _ _ _ _ _)) rfl ?_
      rw [HT.out]
      refine .inl ⟨rfl, _, rfl, ?_, below_grow HB5.out (by omega) (set12_grown _ _ _ _ _ _ _ _ _ _ _ _ _ _)⟩
      show Q4V _ (js.getD (q + 1 - 1) q40) _
      rw [Nat.add_sub_cancel, hj]
      have hfree : ∀ u ∈ (#[.bool false, .slice none 0 0, .slice none 0 0, .bool false, .slice none 0 0, .slice none 0 0, .bool false, .slice none 0 0, .slice none 0 0, .bool false, .slice none 0 0, .slice none 0 0] : Array Value).toList, noInt u = true := by simp [noInt]
      exact ⟨Ai0, ci0, Bi0, di0, Ai1, ci1, Bi1, di1, Ai2, ci2, Bi2, di2, Ai3, ci3, Bi3, di3, rfl, HQQ.out.1.pastF HZ5.out hfree (set12_grown _ _ _ _ _ _ _ _ _ _ _ _ _ _), HQQ.out.2.1.pastF HZ5.out hfree (set12_grown _ _ _ _ _ _ _ _ _ _ _ _ _ _), HQQ.out.2.2.1.pastF HZ5.out hfree (set12_grown _ _ _ _ _ _ _ _ _ _ _ _ _ _), HQQ.out.2.2.2.pastF HZ5.out hfree (set12_grown _ _ _ _ _ _ _ _ _ _ _ _ _ _)⟩
end Go.Proofs.YtifepoefeamboaaGreatDoor
