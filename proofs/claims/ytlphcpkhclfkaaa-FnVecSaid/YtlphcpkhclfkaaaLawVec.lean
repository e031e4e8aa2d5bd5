/-
  The law FnVec: products of vectors go over sums, and a vector's with itself is 0 just of 0. No condition.
-/
import Derived.Test.YtlphcpkhclfkaaaVecBack
import Derived.Test.YtlphcpkhclfkaaaLawAt
import Derived.ProofKit
import Derived.OpenShut
import Derived.ShutString
import Derived.ChangeOld
namespace Go.Proofs.Ytlphcpkhclfkaaa
open Go Go.RowKit Nt
open Go.ChangeShapes Go.WideShapes Go.ChangeAt
open Go.ChangeMaps (open_string shut_string)

/-- a box that holds a rational -/
def BoxQ (w : World) (g : Nat) (r : Rat) (A : Option Addr) (ca : Nat) (B : Option Addr) (cb : Nat) : Prop :=
  RatAt w g 28 (isNeg r) A (D (nu r)).length ca B (D r.den).length cb ∧ RdR w (fun _ => True) (D (nu r)) (D r.den) A ca B cb
theorem BoxQ.on {w w' : World} {g : Nat} {r : Rat} {A : Option Addr} {ca : Nat} {B : Option Addr} {cb : Nat} (h : BoxQ w g r A ca B cb) (hb : Below w.heap.size w w') : BoxQ w' g r A ca B cb := ⟨h.1.on hb, h.2.on hb⟩
theorem BoxQ.new {w : World} {r : Rat} {A : Option Addr} {ca : Nat} {B : Option Addr} {cb : Nat} (h : RdR w (fun _ => True) (D (nu r)) (D r.den) A ca B cb) : BoxQ (w.alloc (.cells #[.bool (isNeg r), .slice A (D (nu r)).length ca, .slice B (D r.den).length cb] 28)) w.heap.size r A ca B cb := ⟨RatAt.new _ _ _ _ _ _ _ _ _, h.on (below1 _ _)⟩

set_option maxRecDepth 20000 in
set_option maxHeartbeats 25600000 in
theorem lawVec_any (pA : Option Addr) (pn pc : Nat) (qA : Option Addr) (qn qc : Nat) (w : World) (hp : RdB w (· < w.heap.size) pA pn) (ple : pn ≤ 9223372036854775807) (hq : RdB w (· < w.heap.size) qA qn) (qle : qn ≤ 9223372036854775807) :
    Calls Try.prog 3 #[.slice pA pn pc, .slice qA qn qc] w fun e w' => e = .returned (.bool true) ∧ Below w.heap.size w w' := by
  have Rp := Lib.hid hp
  clear hp
  have Rq := Lib.hid hq
  clear hq
  by_cases bigp : 1048576 < pn
  · have bigp' : (1048576 : Int) < pn := by omega
    go_enter Try.func3, Try.ntmps3
    go_wp2
    go_ret
    exact ⟨rfl, Below.refl _ _⟩
  have smp : (pn : Int) ≤ 1048576 := by omega
  by_cases bigq : 1048576 < qn
  · have bigq' : (1048576 : Int) < qn := by omega
    go_enter Try.func3, Try.ntmps3
    go_wp2
    go_ret
    exact ⟨rfl, Below.refl _ _⟩
  have smq : (qn : Int) ≤ 1048576 := by omega
  go_enter Try.func3, Try.ntmps3
  go_wp2_with fail
  refine (at_any pA pn pc 0 4 _ w Rp.out (by omega) (by omega) (by omega) (by omega)).mono ?_
  rintro e v1 ⟨N0, rfl, hN0, b⟩
  have HB := Lib.hid b
  clear b
  obtain ⟨N, hN⟩ : ∃ N : Nat, N = 1 + N0 := ⟨_, rfl⟩
  have hNv : (1 + (N0 : Int)) = (N : Int) := by omega
  have N1 : 1 ≤ N := by omega
  have N4 : N ≤ 4 := by omega
  clear hN hN0
  go_wp2_with fail
  clear hNv
  refine (vecDrawn_any pA pn pc N v1 ((Rp.out.below HB.out).mono fun _ h _ => Nat.lt_of_lt_of_le h HB.out.size) (by omega) (by omega)).mono ?_
  rintro e v2 ⟨Xx, cx, xs, rfl, o, lx, tx, b⟩
  replace HB := Lib.hid (below_on HB.out b)
  have Vx := Lib.hid o
  clear o b
  go_wp2_with fail
  refine (vecDrawn_any qA qn qc N v2 ((Rq.out.below HB.out).mono fun _ h _ => Nat.lt_of_lt_of_le h HB.out.size) (by omega) (by omega)).mono ?_
  rintro e v3 ⟨Xy, cy, ys, rfl, o, ly, ty, b⟩
  replace HB := Lib.hid (below_on HB.out b)
  replace Vx := Lib.hid (Vx.out.on b)
  have Vy := Lib.hid o
  clear o b
  go_wp2_with fail
  refine (ratDrawn_any qA qn qc v3 ((Rq.out.below HB.out).mono fun _ h _ => Nat.lt_of_lt_of_le h HB.out.size) (by omega)).mono ?_
  rintro e v4 ⟨a, na, ma, Aa, ca, Ba, da, rfl, o, b⟩
  replace HB := Lib.hid (below_on HB.out b)
  replace Vx := Lib.hid (Vx.out.on b)
  replace Vy := Lib.hid (Vy.out.on b)
  have HN := Lib.hid o
  clear o b
  obtain ⟨zs, hz⟩ : ∃ z, axL a xs ys = z := ⟨_, rfl⟩
  obtain ⟨q, hqq⟩ : ∃ z, dotK xs xs N = z := ⟨_, rfl⟩
  obtain ⟨r, hr⟩ : ∃ z, dotK xs ys N = z := ⟨_, rfl⟩
  obtain ⟨p, hp⟩ : ∃ z, dotK zs xs N = z := ⟨_, rfl⟩
  obtain ⟨s, hs⟩ : ∃ z, a * q = z := ⟨_, rfl⟩
  obtain ⟨g, hg⟩ : ∃ z, a + a = z := ⟨_, rfl⟩
  obtain ⟨vs, hv⟩ : ∃ z, (xs.map fun q => a * q) = z := ⟨_, rfl⟩
  obtain ⟨ws, hw⟩ : ∃ z, axL a xs vs = z := ⟨_, rfl⟩
  have htp : s + r = p := by rw [← hs, ← hp, ← hqq, ← hr, ← hz]; exact (dot_axpy a (by omega) N (by omega)).symm
  have hlw : (xs.map fun q => g * q) = ws := by rw [← hw, ← hv, ← hg]; exact (scale_twice a xs).symm
  have lz : zs.length = N := by rw [← hz, axL_len a (by omega)]; exact lx
  have lv : vs.length = N := by rw [← hv, List.length_map]; exact lx
  have lw : ws.length = N := by rw [← hlw, List.length_map]; exact lx
  have zl : ∀ j, j < zs.length → (D (nu (zs.getD j 0))).length ≤ 7 ∧ (D (zs.getD j 0).den).length ≤ 6 := fun j hj => by
    have h1 := tx.at_ j (by omega)
    have h2 := ty.at_ j (by omega)
    have h3 := ax_lens a (xs.getD j 0) (ys.getD j 0)
    rw [← hz, axL_get a (by omega) (by omega)]
    omega
  have vl : ∀ j, j < vs.length → (D (nu (vs.getD j 0))).length ≤ 4 ∧ (D (vs.getD j 0).den).length ≤ 4 := fun j hj => by
    have h1 := tx.at_ j (by omega)
    have h3 := mul_lens a (xs.getD j 0)
    have e : vs.getD j 0 = a * xs.getD j 0 := by rw [← hv]; simp [List.getD, show j < xs.length by omega]
    rw [e]
    omega
  have ol := add_lens a a
  rw [hg] at ol
  have wl : ∀ j, j < ws.length → (D (nu (ws.getD j 0))).length ≤ 7 ∧ (D (ws.getD j 0).den).length ≤ 6 := fun j hj => by
    have h1 := tx.at_ j (by omega)
    have h3 := mul_lens g (xs.getD j 0)
    have e : ws.getD j 0 = g * xs.getD j 0 := by rw [← hlw]; simp [List.getD, show j < xs.length by omega]
    rw [e]
    omega
  have fineOf : ∀ (k1 k2 : Nat) (L : List Rat), k1 ≤ 40 → k2 ≤ 40 → (∀ j, j < L.length → (D (nu (L.getD j 0))).length ≤ k1 ∧ (D (L.getD j 0).den).length ≤ k2) → Fine L ∧ ∀ j, j < L.length → fitQ (L.getD j 0) := fun k1 k2 L hk1 hk2 h => ⟨fun x hx => by
    obtain ⟨j, hj, rfl⟩ := List.mem_iff_getElem.1 hx
    have := h j hj
    rw [show L.getD j 0 = L[j] by simp [List.getD, hj]] at this
    exact ⟨(D_len_le _ 40).1 (by omega), (D_len_le _ 40).1 (by omega)⟩, fun j hj => by have := h j hj; exact ⟨by omega, by omega⟩⟩
  have FX := Lib.hid (tx.fine (by decide))
  have FY := Lib.hid (ty.fine (by decide))
  have FZ := Lib.hid (fineOf 7 6 zs (by decide) (by decide) zl)
  have FV := Lib.hid (fineOf 4 4 vs (by decide) (by decide) vl)
  have FW := Lib.hid (fineOf 7 6 ws (by decide) (by decide) wl)
  have pl := dotK_small (ps := zs) (qs := xs) 8 9 2 (by omega) (fun j h1 h2 => by have a1 := zl j h1; have a2 := tx.at_ j h2; omega) N (by omega) (by omega)
  have ql := dotK_small (ps := xs) (qs := xs) 4 4 1 (by omega) (fun j h1 h2 => by have a1 := tx.at_ j h1; omega) N (by omega) (by omega)
  have rl := dotK_small (ps := xs) (qs := ys) 4 4 1 (by omega) (fun j h1 h2 => by have a1 := tx.at_ j h1; have a2 := ty.at_ j h2; omega) N (by omega) (by omega)
  rw [hp] at pl
  rw [hqq] at ql
  rw [hr] at rl
  have sl := mul_lens a q
  rw [hs] at sl
  have Fa : Hid (fitQ a) := Lib.hid ⟨by omega, by omega⟩
  have Fp : Hid (fitQ p) := Lib.hid ⟨by omega, by omega⟩
  have Fq : Hid (fitQ q) := Lib.hid ⟨by omega, by omega⟩
  have Fr : Hid (fitQ r) := Lib.hid ⟨by omega, by omega⟩
  have Fs : Hid (fitQ s) := Lib.hid ⟨by omega, by omega⟩
  have Fg : Hid (fitQ g) := Lib.hid ⟨by omega, by omega⟩
  have hpos := dot_pos xs N (by omega)
  rw [hqq] at hpos
  have HNEG := Lib.hid (neg_no hpos.1)
  have HZ0 := Lib.hid hpos.2
  have Ez := Lib.hid hz
  have Eq := Lib.hid hqq
  have Er := Lib.hid hr
  have Ep := Lib.hid hp
  have Es := Lib.hid hs
  have Eg := Lib.hid hg
  have Ev := Lib.hid hv
  have Ew := Lib.hid hw
  have Et := Lib.hid htp
  have El := Lib.hid hlw
  have LX := Lib.hid lx
  have LY := Lib.hid ly
  have LZ := Lib.hid lz
  have LV := Lib.hid lv
  have LW := Lib.hid lw
  clear hz hqq hr hp hs hg hv hw htp hlw zl vl wl ol fineOf pl ql rl sl hpos na ma tx ty lx ly lz lv lw ple qle smp smq bigp bigq Rp Rq
  go_wp2_with fail
  refine calls_at (fun V => Below w.heap.size w V ∧ BoxQ V v4.heap.size a Aa ca Ba da ∧ RdS V (fun _ => True) Xx N cx (xs.map rat3) ∧ RdS V (fun _ => True) Xy N cy (ys.map rat3))
    ⟨below_on HB.out (below1 _ _), BoxQ.new HN.out, Vx.out.on (below1 _ _), Vy.out.on (below1 _ _)⟩ ?_
  rintro v5 ⟨pB, pa, ux, uy⟩
  clear HB HN Vx Vy
  have HB := Lib.hid pB
  have Ha := Lib.hid pa
  have Vx := Lib.hid ux
  have Vy := Lib.hid uy
  clear pB pa ux uy
  refine (axB a Aa Ba ca da N cx cy Xx Xy xs ys zs v5 Ha.out.2 Vx.out Vy.out Fa.out FX.out FY.out N1 N4 LX.out LY.out Ez.out FZ.out.2).mono ?_
  rintro e v6 ⟨Xz, cz, rfl, o, b⟩
  replace HB := Lib.hid (below_on HB.out b)
  replace Ha := Lib.hid (Ha.out.on b)
  replace Vx := Lib.hid (Vx.out.on b)
  replace Vy := Lib.hid (Vy.out.on b)
  have Vz := Lib.hid o
  clear o b
  have qa0 := Ha.out.1.c0
  have qa1 := Ha.out.1.c1
  have qa2 := Ha.out.1.c2
  have ka := Ha.out.1.lt
  go_wp2_with fail
  clear qa0 qa1 qa2 ka
  refine (axSB a Aa Ba ca da N cx cy Xx Xy xs ys zs v6 Ha.out.2 Vx.out Vy.out Fa.out FX.out FY.out N1 N4 LX.out LY.out Ez.out FZ.out.2).mono ?_
  rintro e v7 ⟨Xm, cm, rfl, o, b⟩
  replace HB := Lib.hid (below_on HB.out b)
  replace Ha := Lib.hid (Ha.out.on b)
  replace Vx := Lib.hid (Vx.out.on b)
  replace Vy := Lib.hid (Vy.out.on b)
  replace Vz := Lib.hid (Vz.out.on b)
  have Vm := Lib.hid o
  clear o b
  go_wp2_with fail
  refine (dotB N cz cx Xz Xx zs xs p v7 Vz.out Vx.out FZ.out.1 FX.out N1 N4 LZ.out LX.out Ep.out Fp.out).mono ?_
  rintro e v8 ⟨Ap, cp, Bp, dp, rfl, o, b⟩
  replace HB := Lib.hid (below_on HB.out b)
  replace Ha := Lib.hid (Ha.out.on b)
  replace Vx := Lib.hid (Vx.out.on b)
  replace Vy := Lib.hid (Vy.out.on b)
  replace Vz := Lib.hid (Vz.out.on b)
  replace Vm := Lib.hid (Vm.out.on b)
  have HN := Lib.hid o
  clear o b
  go_wp2_with fail
  refine calls_at (fun V => Below w.heap.size w V ∧ BoxQ V v4.heap.size a Aa ca Ba da ∧ BoxQ V v8.heap.size p Ap cp Bp dp ∧ RdS V (fun _ => True) Xx N cx (xs.map rat3) ∧ RdS V (fun _ => True) Xy N cy (ys.map rat3) ∧ RdS V (fun _ => True) Xz N cz (zs.map rat3) ∧ RdS V (fun _ => True) Xm N cm (zs.map rat3))
    ⟨below_on HB.out (below1 _ _), Ha.out.on (below1 _ _), BoxQ.new HN.out, Vx.out.on (below1 _ _), Vy.out.on (below1 _ _), Vz.out.on (below1 _ _), Vm.out.on (below1 _ _)⟩ ?_
  rintro v9 ⟨pB, pa, pp, ux, uy, uz, um⟩
  clear HB HN Ha Vx Vy Vz Vm
  have HB := Lib.hid pB
  have Ha := Lib.hid pa
  have Hp := Lib.hid pp
  have Vx := Lib.hid ux
  have Vy := Lib.hid uy
  have Vz := Lib.hid uz
  have Vm := Lib.hid um
  clear pB pa pp ux uy uz um
  refine (dotB N cx cx Xx Xx xs xs q v9 Vx.out Vx.out FX.out FX.out N1 N4 LX.out LX.out Eq.out Fq.out).mono ?_
  rintro e v10 ⟨Aq, cq, Bq, dq, rfl, o, b⟩
  replace HB := Lib.hid (below_on HB.out b)
  replace Ha := Lib.hid (Ha.out.on b)
  replace Hp := Lib.hid (Hp.out.on b)
  replace Vx := Lib.hid (Vx.out.on b)
  replace Vy := Lib.hid (Vy.out.on b)
  replace Vz := Lib.hid (Vz.out.on b)
  replace Vm := Lib.hid (Vm.out.on b)
  have HN := Lib.hid o
  clear o b
  go_wp2_with fail
  refine calls_at (fun V => Below w.heap.size w V ∧ BoxQ V v4.heap.size a Aa ca Ba da ∧ BoxQ V v8.heap.size p Ap cp Bp dp ∧ BoxQ V v10.heap.size q Aq cq Bq dq ∧ RdS V (fun _ => True) Xx N cx (xs.map rat3) ∧ RdS V (fun _ => True) Xy N cy (ys.map rat3) ∧ RdS V (fun _ => True) Xz N cz (zs.map rat3) ∧ RdS V (fun _ => True) Xm N cm (zs.map rat3))
    ⟨below_on HB.out (below1 _ _), Ha.out.on (below1 _ _), Hp.out.on (below1 _ _), BoxQ.new HN.out, Vx.out.on (below1 _ _), Vy.out.on (below1 _ _), Vz.out.on (below1 _ _), Vm.out.on (below1 _ _)⟩ ?_
  rintro v11 ⟨pB, pa, pp, pq, ux, uy, uz, um⟩
  clear HB HN Ha Hp Vx Vy Vz Vm
  have HB := Lib.hid pB
  have Ha := Lib.hid pa
  have Hp := Lib.hid pp
  have Hq := Lib.hid pq
  have Vx := Lib.hid ux
  have Vy := Lib.hid uy
  have Vz := Lib.hid uz
  have Vm := Lib.hid um
  clear pB pa pp pq ux uy uz um
  refine (dotB N cx cy Xx Xy xs ys r v11 Vx.out Vy.out FX.out FY.out N1 N4 LX.out LY.out Er.out Fr.out).mono ?_
  rintro e v12 ⟨Ar, cr, Br, dr, rfl, o, b⟩
  replace HB := Lib.hid (below_on HB.out b)
  replace Ha := Lib.hid (Ha.out.on b)
  replace Hp := Lib.hid (Hp.out.on b)
  replace Hq := Lib.hid (Hq.out.on b)
  replace Vx := Lib.hid (Vx.out.on b)
  replace Vy := Lib.hid (Vy.out.on b)
  replace Vz := Lib.hid (Vz.out.on b)
  replace Vm := Lib.hid (Vm.out.on b)
  have HN := Lib.hid o
  clear o b
  have qa0 := Ha.out.1.c0
  have qa1 := Ha.out.1.c1
  have qa2 := Ha.out.1.c2
  have ka := Ha.out.1.lt
  have qq0 := Hq.out.1.c0
  have qq1 := Hq.out.1.c1
  have qq2 := Hq.out.1.c2
  have kq := Hq.out.1.lt
  go_wp2_with fail
  clear qa0 qa1 qa2 ka qq0 qq1 qq2 kq
  refine calls_at (fun V => Below w.heap.size w V ∧ BoxQ V v4.heap.size a Aa ca Ba da ∧ BoxQ V v8.heap.size p Ap cp Bp dp ∧ BoxQ V v10.heap.size q Aq cq Bq dq ∧ BoxQ V v12.heap.size r Ar cr Br dr ∧ RdS V (fun _ => True) Xx N cx (xs.map rat3) ∧ RdS V (fun _ => True) Xy N cy (ys.map rat3) ∧ RdS V (fun _ => True) Xz N cz (zs.map rat3) ∧ RdS V (fun _ => True) Xm N cm (zs.map rat3))
    ⟨below_on HB.out (below1 _ _), Ha.out.on (below1 _ _), Hp.out.on (below1 _ _), Hq.out.on (below1 _ _), BoxQ.new HN.out, Vx.out.on (below1 _ _), Vy.out.on (below1 _ _), Vz.out.on (below1 _ _), Vm.out.on (below1 _ _)⟩ ?_
  rintro v13 ⟨pB, pa, pp, pq, pr, ux, uy, uz, um⟩
  clear HB HN Ha Hp Hq Vx Vy Vz Vm
  have HB := Lib.hid pB
  have Ha := Lib.hid pa
  have Hp := Lib.hid pp
  have Hq := Lib.hid pq
  have Hr := Lib.hid pr
  have Vx := Lib.hid ux
  have Vy := Lib.hid uy
  have Vz := Lib.hid uz
  have Vm := Lib.hid um
  clear pB pa pp pq pr ux uy uz um
  refine (mulV a q Aa Ba ca da Aq Bq cq dq v13 Ha.out.2 Hq.out.2 Fa.out Fq.out s Es.out Fs.out).mono ?_
  rintro e v14 ⟨As, cs, Bs, ds, rfl, o, b⟩
  replace HB := Lib.hid (below_on HB.out b)
  replace Ha := Lib.hid (Ha.out.on b)
  replace Hp := Lib.hid (Hp.out.on b)
  replace Hq := Lib.hid (Hq.out.on b)
  replace Hr := Lib.hid (Hr.out.on b)
  replace Vx := Lib.hid (Vx.out.on b)
  replace Vy := Lib.hid (Vy.out.on b)
  replace Vz := Lib.hid (Vz.out.on b)
  replace Vm := Lib.hid (Vm.out.on b)
  have HN := Lib.hid o
  clear o b
  have qr0 := Hr.out.1.c0
  have qr1 := Hr.out.1.c1
  have qr2 := Hr.out.1.c2
  have kr := Hr.out.1.lt
  go_wp2_with fail
  clear qr0 qr1 qr2 kr
  refine calls_at (fun V => Below w.heap.size w V ∧ BoxQ V v4.heap.size a Aa ca Ba da ∧ BoxQ V v8.heap.size p Ap cp Bp dp ∧ BoxQ V v10.heap.size q Aq cq Bq dq ∧ BoxQ V v12.heap.size r Ar cr Br dr ∧ BoxQ V v14.heap.size s As cs Bs ds ∧ RdS V (fun _ => True) Xx N cx (xs.map rat3) ∧ RdS V (fun _ => True) Xy N cy (ys.map rat3) ∧ RdS V (fun _ => True) Xz N cz (zs.map rat3) ∧ RdS V (fun _ => True) Xm N cm (zs.map rat3))
    ⟨below_on HB.out (below1 _ _), Ha.out.on (below1 _ _), Hp.out.on (below1 _ _), Hq.out.on (below1 _ _), Hr.out.on (below1 _ _), BoxQ.new HN.out, Vx.out.on (below1 _ _), Vy.out.on (below1 _ _), Vz.out.on (below1 _ _), Vm.out.on (below1 _ _)⟩ ?_
  rintro v15 ⟨pB, pa, pp, pq, pr, ps, ux, uy, uz, um⟩
  clear HB HN Ha Hp Hq Hr Vx Vy Vz Vm
  have HB := Lib.hid pB
  have Ha := Lib.hid pa
  have Hp := Lib.hid pp
  have Hq := Lib.hid pq
  have Hr := Lib.hid pr
  have Hs := Lib.hid ps
  have Vx := Lib.hid ux
  have Vy := Lib.hid uy
  have Vz := Lib.hid uz
  have Vm := Lib.hid um
  clear pB pa pp pq pr ps ux uy uz um
  refine (addV s r As Bs cs ds Ar Br cr dr v15 Hs.out.2 Hr.out.2 Fs.out Fr.out p Et.out Fp.out).mono ?_
  rintro e v16 ⟨At, ct, Bt, dt, rfl, o1, b⟩
  replace HB := Lib.hid (below_on HB.out b)
  replace Ha := Lib.hid (Ha.out.on b)
  replace Hp := Lib.hid (Hp.out.on b)
  replace Hq := Lib.hid (Hq.out.on b)
  replace Hr := Lib.hid (Hr.out.on b)
  replace Hs := Lib.hid (Hs.out.on b)
  replace Vx := Lib.hid (Vx.out.on b)
  replace Vy := Lib.hid (Vy.out.on b)
  replace Vz := Lib.hid (Vz.out.on b)
  replace Vm := Lib.hid (Vm.out.on b)
  have HN := Lib.hid o1
  clear o1 b
  go_wp2_with fail
  refine calls_at (fun V => Below w.heap.size w V ∧ BoxQ V v4.heap.size a Aa ca Ba da ∧ BoxQ V v8.heap.size p Ap cp Bp dp ∧ BoxQ V v10.heap.size q Aq cq Bq dq ∧ BoxQ V v12.heap.size r Ar cr Br dr ∧ BoxQ V v14.heap.size s As cs Bs ds ∧ BoxQ V v16.heap.size p At ct Bt dt ∧ RdS V (fun _ => True) Xx N cx (xs.map rat3) ∧ RdS V (fun _ => True) Xy N cy (ys.map rat3) ∧ RdS V (fun _ => True) Xz N cz (zs.map rat3) ∧ RdS V (fun _ => True) Xm N cm (zs.map rat3))
    ⟨below_on HB.out (below1 _ _), Ha.out.on (below1 _ _), Hp.out.on (below1 _ _), Hq.out.on (below1 _ _), Hr.out.on (below1 _ _), Hs.out.on (below1 _ _), BoxQ.new HN.out, Vx.out.on (below1 _ _), Vy.out.on (below1 _ _), Vz.out.on (below1 _ _), Vm.out.on (below1 _ _)⟩ ?_
  rintro v17 ⟨pB, pa, pp, pq, pr, ps, pt, ux, uy, uz, um⟩
  clear HB HN Ha Hp Hq Hr Hs Vx Vy Vz Vm
  have HB := Lib.hid pB
  have Ha := Lib.hid pa
  have Hp := Lib.hid pp
  have Hq := Lib.hid pq
  have Hr := Lib.hid pr
  have Hs := Lib.hid ps
  have Ht := Lib.hid pt
  have Vx := Lib.hid ux
  have Vy := Lib.hid uy
  have Vz := Lib.hid uz
  have Vm := Lib.hid um
  clear pB pa pp pq pr ps pt ux uy uz um
  refine (normB N cx Xx xs q v17 Vx.out FX.out N1 N4 LX.out Eq.out Fq.out).mono ?_
  rintro e v18 ⟨Au, cu, Bu, du, rfl, o1, b⟩
  replace HB := Lib.hid (below_on HB.out b)
  replace Ha := Lib.hid (Ha.out.on b)
  replace Hp := Lib.hid (Hp.out.on b)
  replace Hq := Lib.hid (Hq.out.on b)
  replace Hr := Lib.hid (Hr.out.on b)
  replace Hs := Lib.hid (Hs.out.on b)
  replace Ht := Lib.hid (Ht.out.on b)
  replace Vx := Lib.hid (Vx.out.on b)
  replace Vy := Lib.hid (Vy.out.on b)
  replace Vz := Lib.hid (Vz.out.on b)
  replace Vm := Lib.hid (Vm.out.on b)
  have HN := Lib.hid o1
  clear o1 b
  have qa0 := Ha.out.1.c0
  have qa1 := Ha.out.1.c1
  have qa2 := Ha.out.1.c2
  have ka := Ha.out.1.lt
  go_wp2_with fail
  clear qa0 qa1 qa2 ka
  refine calls_at (fun V => Below w.heap.size w V ∧ BoxQ V v4.heap.size a Aa ca Ba da ∧ BoxQ V v8.heap.size p Ap cp Bp dp ∧ BoxQ V v10.heap.size q Aq cq Bq dq ∧ BoxQ V v12.heap.size r Ar cr Br dr ∧ BoxQ V v14.heap.size s As cs Bs ds ∧ BoxQ V v16.heap.size p At ct Bt dt ∧ BoxQ V v18.heap.size q Au cu Bu du ∧ RdS V (fun _ => True) Xx N cx (xs.map rat3) ∧ RdS V (fun _ => True) Xy N cy (ys.map rat3) ∧ RdS V (fun _ => True) Xz N cz (zs.map rat3) ∧ RdS V (fun _ => True) Xm N cm (zs.map rat3))
    ⟨below_on HB.out (below1 _ _), Ha.out.on (below1 _ _), Hp.out.on (below1 _ _), Hq.out.on (below1 _ _), Hr.out.on (below1 _ _), Hs.out.on (below1 _ _), Ht.out.on (below1 _ _), BoxQ.new HN.out, Vx.out.on (below1 _ _), Vy.out.on (below1 _ _), Vz.out.on (below1 _ _), Vm.out.on (below1 _ _)⟩ ?_
  rintro v19 ⟨pB, pa, pp, pq, pr, ps, pt, pu, ux, uy, uz, um⟩
  clear HB HN Ha Hp Hq Hr Hs Ht Vx Vy Vz Vm
  have HB := Lib.hid pB
  have Ha := Lib.hid pa
  have Hp := Lib.hid pp
  have Hq := Lib.hid pq
  have Hr := Lib.hid pr
  have Hs := Lib.hid ps
  have Ht := Lib.hid pt
  have Hu := Lib.hid pu
  have Vx := Lib.hid ux
  have Vy := Lib.hid uy
  have Vz := Lib.hid uz
  have Vm := Lib.hid um
  clear pB pa pp pq pr ps pt pu ux uy uz um
  refine (scaleB a Aa Ba ca da N cx Xx xs vs v19 Ha.out.2 Vx.out Fa.out FX.out N1 N4 LX.out Ev.out FV.out.2).mono ?_
  rintro e v20 ⟨Xv, cv, rfl, o, b⟩
  replace HB := Lib.hid (below_on HB.out b)
  replace Ha := Lib.hid (Ha.out.on b)
  replace Hp := Lib.hid (Hp.out.on b)
  replace Hq := Lib.hid (Hq.out.on b)
  replace Hr := Lib.hid (Hr.out.on b)
  replace Hs := Lib.hid (Hs.out.on b)
  replace Ht := Lib.hid (Ht.out.on b)
  replace Hu := Lib.hid (Hu.out.on b)
  replace Vx := Lib.hid (Vx.out.on b)
  replace Vy := Lib.hid (Vy.out.on b)
  replace Vz := Lib.hid (Vz.out.on b)
  replace Vm := Lib.hid (Vm.out.on b)
  have Vv := Lib.hid o
  clear o b
  have qa0 := Ha.out.1.c0
  have qa1 := Ha.out.1.c1
  have qa2 := Ha.out.1.c2
  have ka := Ha.out.1.lt
  go_wp2_with fail
  clear qa0 qa1 qa2 ka
  refine (axB a Aa Ba ca da N cx cv Xx Xv xs vs ws v20 Ha.out.2 Vx.out Vv.out Fa.out FX.out FV.out.1 N1 N4 LX.out LV.out Ew.out FW.out.2).mono ?_
  rintro e v21 ⟨Xw, cw, rfl, o, b⟩
  replace HB := Lib.hid (below_on HB.out b)
  replace Ha := Lib.hid (Ha.out.on b)
  replace Hp := Lib.hid (Hp.out.on b)
  replace Hq := Lib.hid (Hq.out.on b)
  replace Hr := Lib.hid (Hr.out.on b)
  replace Hs := Lib.hid (Hs.out.on b)
  replace Ht := Lib.hid (Ht.out.on b)
  replace Hu := Lib.hid (Hu.out.on b)
  replace Vx := Lib.hid (Vx.out.on b)
  replace Vy := Lib.hid (Vy.out.on b)
  replace Vz := Lib.hid (Vz.out.on b)
  replace Vm := Lib.hid (Vm.out.on b)
  replace Vv := Lib.hid (Vv.out.on b)
  have Vw := Lib.hid o
  clear o b
  have qa0 := Ha.out.1.c0
  have qa1 := Ha.out.1.c1
  have qa2 := Ha.out.1.c2
  have ka := Ha.out.1.lt
  go_wp2_with fail
  clear qa0 qa1 qa2 ka
  refine (addV a a Aa Ba ca da Aa Ba ca da v21 Ha.out.2 Ha.out.2 Fa.out Fa.out g Eg.out Fg.out).mono ?_
  rintro e v22 ⟨Ag, cg, Bg, dg, rfl, o, b⟩
  replace HB := Lib.hid (below_on HB.out b)
  replace Ha := Lib.hid (Ha.out.on b)
  replace Hp := Lib.hid (Hp.out.on b)
  replace Hq := Lib.hid (Hq.out.on b)
  replace Hr := Lib.hid (Hr.out.on b)
  replace Hs := Lib.hid (Hs.out.on b)
  replace Ht := Lib.hid (Ht.out.on b)
  replace Hu := Lib.hid (Hu.out.on b)
  replace Vx := Lib.hid (Vx.out.on b)
  replace Vy := Lib.hid (Vy.out.on b)
  replace Vz := Lib.hid (Vz.out.on b)
  replace Vm := Lib.hid (Vm.out.on b)
  replace Vv := Lib.hid (Vv.out.on b)
  replace Vw := Lib.hid (Vw.out.on b)
  have HN := Lib.hid o
  clear o b
  go_wp2_with fail
  refine calls_at (fun V => Below w.heap.size w V ∧ BoxQ V v4.heap.size a Aa ca Ba da ∧ BoxQ V v8.heap.size p Ap cp Bp dp ∧ BoxQ V v10.heap.size q Aq cq Bq dq ∧ BoxQ V v12.heap.size r Ar cr Br dr ∧ BoxQ V v14.heap.size s As cs Bs ds ∧ BoxQ V v16.heap.size p At ct Bt dt ∧ BoxQ V v18.heap.size q Au cu Bu du ∧ BoxQ V v22.heap.size g Ag cg Bg dg ∧ RdS V (fun _ => True) Xx N cx (xs.map rat3) ∧ RdS V (fun _ => True) Xy N cy (ys.map rat3) ∧ RdS V (fun _ => True) Xz N cz (zs.map rat3) ∧ RdS V (fun _ => True) Xm N cm (zs.map rat3) ∧ RdS V (fun _ => True) Xv N cv (vs.map rat3) ∧ RdS V (fun _ => True) Xw N cw (ws.map rat3))
    ⟨below_on HB.out (below1 _ _), Ha.out.on (below1 _ _), Hp.out.on (below1 _ _), Hq.out.on (below1 _ _), Hr.out.on (below1 _ _), Hs.out.on (below1 _ _), Ht.out.on (below1 _ _), Hu.out.on (below1 _ _), BoxQ.new HN.out, Vx.out.on (below1 _ _), Vy.out.on (below1 _ _), Vz.out.on (below1 _ _), Vm.out.on (below1 _ _), Vv.out.on (below1 _ _), Vw.out.on (below1 _ _)⟩ ?_
  rintro v23 ⟨pB, pa, pp, pq, pr, ps, pt, pu, pg, ux, uy, uz, um, uv, uw⟩
  clear HB HN Ha Hp Hq Hr Hs Ht Hu Vx Vy Vz Vm Vv Vw
  have HB := Lib.hid pB
  have Ha := Lib.hid pa
  have Hp := Lib.hid pp
  have Hq := Lib.hid pq
  have Hr := Lib.hid pr
  have Hs := Lib.hid ps
  have Ht := Lib.hid pt
  have Hu := Lib.hid pu
  have Hg := Lib.hid pg
  have Vx := Lib.hid ux
  have Vy := Lib.hid uy
  have Vz := Lib.hid uz
  have Vm := Lib.hid um
  have Vv := Lib.hid uv
  have Vw := Lib.hid uw
  clear pB pa pp pq pr ps pt pu pg ux uy uz um uv uw
  refine (scaleB g Ag Bg cg dg N cx Xx xs ws v23 Hg.out.2 Vx.out Fg.out FX.out N1 N4 LX.out El.out FW.out.2).mono ?_
  rintro e v24 ⟨Xl, cl, rfl, o, b⟩
  replace HB := Lib.hid (below_on HB.out b)
  replace Ha := Lib.hid (Ha.out.on b)
  replace Hp := Lib.hid (Hp.out.on b)
  replace Hq := Lib.hid (Hq.out.on b)
  replace Hr := Lib.hid (Hr.out.on b)
  replace Hs := Lib.hid (Hs.out.on b)
  replace Ht := Lib.hid (Ht.out.on b)
  replace Hu := Lib.hid (Hu.out.on b)
  replace Hg := Lib.hid (Hg.out.on b)
  replace Vx := Lib.hid (Vx.out.on b)
  replace Vy := Lib.hid (Vy.out.on b)
  replace Vz := Lib.hid (Vz.out.on b)
  replace Vm := Lib.hid (Vm.out.on b)
  replace Vv := Lib.hid (Vv.out.on b)
  replace Vw := Lib.hid (Vw.out.on b)
  have Vl := Lib.hid o
  clear o b
  clear Ha
  clear Hr
  clear Hs
  clear Hg
  go_wp2
  go_loop [33, 34] (fun z i => ∃ k : Nat, k ≤ N ∧ i = .int .i64 k ∧ z = .bool ((xs.take k).all fun q => decide (q = 0))) (fun _ i => N - (intOf i).toNat)
  case atStart => exact ⟨0, Nat.zero_le _, rfl, rfl⟩
  case round =>
    obtain ⟨k, hk, rfl, rfl⟩ := hrel
    by_cases hlt : k < N
    · obtain ⟨bx, ox, hXX, hPx, _, hc⟩ := Vx.out.at_ (by omega)
      obtain ⟨Ai, da, Bi, db, q0, q1, q2, hrd⟩ := hc k hlt
      have hkx : k < xs.length := by rw [LX.out]; exact hlt
      rw [getD_rat xs k hkx] at q1
      have q1' : v24.cell? ⟨bx, ox + k * 3 + 1, none⟩ = some (.slice Ai (D (nu (xs.getD k 0))).length da) := q1
      have HST : Hid (((xs.take (k + 1)).all fun q => decide (q = 0)) = (((xs.take k).all fun q => decide (q = 0)) && decide (xs.getD k 0 = 0))) := by
        show _ = _
        rw [List.take_succ_eq_append_getElem hkx, List.all_append]
        simp [List.getD, hkx]
      have hln := len_zero (r := xs.getD k 0)
      have hkN : (k : Int) < N := by omega
      clear hc q0 q1 q2 hrd hkx
      generalize xs.getD k 0 = x at *
      generalize ((xs.take k).all fun q => decide (q = 0)) = Z at *
      generalize decide (x = 0) = E at *
      subst hXX
      cases Z with
      | false =>
        go_wp2
        go_round
        case rel => exact ⟨k + 1, by omega, by go_num, by rw [HST.out]; rfl⟩
        case measure => simp [intOf]; omega
      | true =>
        go_wp2
        go_round
        case rel => exact ⟨k + 1, by omega, by go_num, by rw [HST.out]; rfl⟩
        case measure => simp [intOf]; omega
    · obtain rfl : N = k := by omega
      have hZ : ((((D (nu q)).length : Nat) : Int) == 0) = ((xs.take N).all fun q => decide (q = 0)) := by
        rw [len_zero, Bool.eq_iff_iff, decide_eq_true_eq, HZ0.out, List.take_of_length_le (by rw [LX.out]; exact Nat.le_refl _), List.all_eq_true]
        constructor
        · intro h x hx
          obtain ⟨j, hj, rfl⟩ := List.mem_iff_getElem.1 hx
          have := h j (by rw [← LX.out]; exact hj)
          rw [show xs.getD j 0 = xs[j] by simp [List.getD, hj]] at this
          exact decide_eq_true this
        · intro h j hj
          have hj' : j < xs.length := by rw [LX.out]; exact hj
          rw [show xs.getD j 0 = xs[j] by simp [List.getD, hj']]
          exact of_decide_eq_true (h _ (List.getElem_mem hj'))
      generalize ((xs.take N).all fun q => decide (q = 0)) = Z at *
      have HZZ := Lib.hid hZ
      clear hZ
      go_wp2_with fail
      refine (sameVec_any zs Xz Xm N cz cm _ _ v24 Vz.out Vm.out FZ.out.1 (by omega)).mono ?_
      rintro e v25 ⟨rfl, b⟩
      replace HB := Lib.hid (below_on HB.out b)
      replace Hp := Lib.hid (Hp.out.on b)
      replace Hq := Lib.hid (Hq.out.on b)
      replace Ht := Lib.hid (Ht.out.on b)
      replace Hu := Lib.hid (Hu.out.on b)
      replace Vx := Lib.hid (Vx.out.on b)
      replace Vy := Lib.hid (Vy.out.on b)
      replace Vz := Lib.hid (Vz.out.on b)
      replace Vm := Lib.hid (Vm.out.on b)
      replace Vv := Lib.hid (Vv.out.on b)
      replace Vw := Lib.hid (Vw.out.on b)
      replace Vl := Lib.hid (Vl.out.on b)
      clear b
      have qp0 := Hp.out.1.c0
      have qp1 := Hp.out.1.c1
      have qp2 := Hp.out.1.c2
      have kp := Hp.out.1.lt
      have qt0 := Ht.out.1.c0
      have qt1 := Ht.out.1.c1
      have qt2 := Ht.out.1.c2
      have kt := Ht.out.1.lt
      go_wp2_with fail
      clear qp0 qp1 qp2 kp qt0 qt1 qt2 kt
      refine (sameRat_any p p Ap Bp At Bt cp dp ct dt _ _ v25 Hp.out.2 Ht.out.2 (Nat.le_trans Fp.out.1 (by decide)) (Nat.le_trans Fp.out.2 (by decide)) (Nat.le_trans Fp.out.1 (by decide)) (Nat.le_trans Fp.out.2 (by decide))).mono ?_
      rintro e v26 ⟨rfl, b⟩
      replace HB := Lib.hid (below_on HB.out b)
      replace Hp := Lib.hid (Hp.out.on b)
      replace Hq := Lib.hid (Hq.out.on b)
      replace Ht := Lib.hid (Ht.out.on b)
      replace Hu := Lib.hid (Hu.out.on b)
      replace Vx := Lib.hid (Vx.out.on b)
      replace Vy := Lib.hid (Vy.out.on b)
      replace Vz := Lib.hid (Vz.out.on b)
      replace Vm := Lib.hid (Vm.out.on b)
      replace Vv := Lib.hid (Vv.out.on b)
      replace Vw := Lib.hid (Vw.out.on b)
      replace Vl := Lib.hid (Vl.out.on b)
      clear b
      rw [decide_eq_true (rfl : p = p)]
      have qu0 := Hu.out.1.c0
      have qu1 := Hu.out.1.c1
      have qu2 := Hu.out.1.c2
      have ku := Hu.out.1.lt
      have qq0 := Hq.out.1.c0
      have qq1 := Hq.out.1.c1
      have qq2 := Hq.out.1.c2
      have kq := Hq.out.1.lt
      go_wp2_with fail
      clear qu0 qu1 qu2 ku qq0 qq1 qq2 kq
      refine (sameRat_any q q Au Bu Aq Bq cu du cq dq _ _ v26 Hu.out.2 Hq.out.2 (Nat.le_trans Fq.out.1 (by decide)) (Nat.le_trans Fq.out.2 (by decide)) (Nat.le_trans Fq.out.1 (by decide)) (Nat.le_trans Fq.out.2 (by decide))).mono ?_
      rintro e v27 ⟨rfl, b⟩
      replace HB := Lib.hid (below_on HB.out b)
      replace Hp := Lib.hid (Hp.out.on b)
      replace Hq := Lib.hid (Hq.out.on b)
      replace Ht := Lib.hid (Ht.out.on b)
      replace Hu := Lib.hid (Hu.out.on b)
      replace Vx := Lib.hid (Vx.out.on b)
      replace Vy := Lib.hid (Vy.out.on b)
      replace Vz := Lib.hid (Vz.out.on b)
      replace Vm := Lib.hid (Vm.out.on b)
      replace Vv := Lib.hid (Vv.out.on b)
      replace Vw := Lib.hid (Vw.out.on b)
      replace Vl := Lib.hid (Vl.out.on b)
      clear b
      rw [decide_eq_true (rfl : q = q)]
      have hneg := HNEG.out
      have hzz := HZZ.out
      have qu0 := Hu.out.1.c0
      have qu1 := Hu.out.1.c1
      have qu2 := Hu.out.1.c2
      have ku := Hu.out.1.lt
      go_wp2_with fail
      clear qu0 qu1 qu2 ku
      clear hneg hzz
      refine (sameVec_any ws Xw Xl N cw cl _ _ v27 Vw.out Vl.out FW.out.1 (by omega)).mono ?_
      rintro e v28 ⟨rfl, b⟩
      replace HB := Lib.hid (below_on HB.out b)
      replace Hp := Lib.hid (Hp.out.on b)
      replace Hq := Lib.hid (Hq.out.on b)
      replace Ht := Lib.hid (Ht.out.on b)
      replace Hu := Lib.hid (Hu.out.on b)
      replace Vx := Lib.hid (Vx.out.on b)
      replace Vy := Lib.hid (Vy.out.on b)
      replace Vz := Lib.hid (Vz.out.on b)
      replace Vm := Lib.hid (Vm.out.on b)
      replace Vv := Lib.hid (Vv.out.on b)
      replace Vw := Lib.hid (Vw.out.on b)
      replace Vl := Lib.hid (Vl.out.on b)
      clear b
      go_wp2_with fail
      refine (sameIB N cw cl Xw Xl ws v28 Vw.out Vl.out FW.out.1 N1 N4 LW.out).mono ?_
      rintro e v29 ⟨rfl, b⟩
      replace HB := Lib.hid (below_on HB.out b)
      replace Hp := Lib.hid (Hp.out.on b)
      replace Hq := Lib.hid (Hq.out.on b)
      replace Ht := Lib.hid (Ht.out.on b)
      replace Hu := Lib.hid (Hu.out.on b)
      replace Vx := Lib.hid (Vx.out.on b)
      replace Vy := Lib.hid (Vy.out.on b)
      replace Vz := Lib.hid (Vz.out.on b)
      replace Vm := Lib.hid (Vm.out.on b)
      replace Vv := Lib.hid (Vv.out.on b)
      replace Vw := Lib.hid (Vw.out.on b)
      replace Vl := Lib.hid (Vl.out.on b)
      clear b
      go_wp2
      go_ret
      exact ⟨rfl, HB.out⟩

theorem own_fnVec : ownKnob Try.prog.godebug = none := by kernel_rfl
theorem laidOut_fnVec : laidOutB Try.prog = true := by kernel_rfl
set_option maxRecDepth 100000 in
set_option linter.unusedVariables false in
theorem fnVec_lifted (os : Os) (started : os.Started) (H : Type) (enc : TypeId × Value → H) :
    ReturnsInHanded {} Try.checked os 3 .any (Rows.fnVecSpec.pre6 enc Try.prog Try.f3 Rows.fnVecRow.domain false) (Rows.fnVecSpec.post enc Try.prog Try.f3 false true false false) := by
  refine returnsInHanded_of_change (C := Try.checked) own_fnVec started (by kernel_rfl) Try.func3
    (ChangeSpec.witness6 (enc := enc) (C := Try.checked) false ⟨#[], #[.slice none 0 0, .slice none 0 0], []⟩ 8 (by kernel_rfl) (by kernel_rfl) (by kernel_rfl) (by kernel_rfl)) ?_
  intro W base args ds gs before hval0 hW hcnd _
  have hval : ∀ (j : Nat) t v, Try.f3.params[j]? = some t → args[j]? = some v → Value.okWide Try.prog W .any base t v := hval0
  have hW' := hW
  obtain ⟨p, q, hA0, hV, rfl, hfz, hnd⟩ := hW
  have hA : DataW.TrodAll enc Try.prog W 0 (fun _ => true) true Try.f3.params.toList args.toList ds p := hA0
  rw [Try.params3] at hA hval
  obtain ⟨v0, vs0, d0, ds0, p0, q0, hargs, rfl, rfl, h0, r0⟩ := trodAll_cons hA
  obtain ⟨v1, vs1, d1, ds1, p1, q1, rfl, rfl, rfl, h1, r1⟩ := trodAll_cons r0
  obtain ⟨rfl, rfl, rfl⟩ := trodAll_nil r1
  obtain rfl : args = #[v0, v1] := by cases args; simp_all
  obtain ⟨rfl, rfl⟩ := trodVars_none hV
  obtain ⟨a0, len0, cap0, rfl⟩ := okWide_slice Try.underlying22 (hval 0 22 v0 rfl rfl)
  have k0 := h0
  have lt0 : ∀ x ∈ p0, x.block < W.heap.size := by obtain ⟨m, hm⟩ := k0; exact DataW.trod_lt m _ _ _ hm
  obtain ⟨z0, w0⟩ : ∃ zs, IsRow .u8 W a0 len0 cap0 zs := by
    obtain ⟨fuel, hf⟩ := h0
    rcases open_ints Try.underlying22 Try.underlying5 (by kernel_rfl) hf with ⟨hcs, _⟩ | ⟨x, l, c, zs, hcs, _, hl, hm, hz, _, hcell, hwz⟩
    · simp [Value.cells] at hcs
      obtain ⟨rfl, rfl, rfl⟩ := hcs
      exact ⟨[], .inl ⟨rfl, rfl, rfl, rfl⟩⟩
    · simp [Value.cells] at hcs
      obtain ⟨rfl, rfl, rfl⟩ := hcs
      exact ⟨zs, .inr ⟨_, rfl, hl, hm, by simpa using hz, hcell, hwz⟩⟩
  obtain ⟨a1, len1, cap1, rfl⟩ := okWide_slice Try.underlying22 (hval 1 22 v1 rfl rfl)
  have k1 := h1
  have lt1 : ∀ x ∈ p1, x.block < W.heap.size := by obtain ⟨m, hm⟩ := k1; exact DataW.trod_lt m _ _ _ hm
  obtain ⟨z1, w1⟩ : ∃ zs, IsRow .u8 W a1 len1 cap1 zs := by
    obtain ⟨fuel, hf⟩ := h1
    rcases open_ints Try.underlying22 Try.underlying5 (by kernel_rfl) hf with ⟨hcs, _⟩ | ⟨x, l, c, zs, hcs, _, hl, hm, hz, _, hcell, hwz⟩
    · simp [Value.cells] at hcs
      obtain ⟨rfl, rfl, rfl⟩ := hcs
      exact ⟨[], .inl ⟨rfl, rfl, rfl, rfl⟩⟩
    · simp [Value.cells] at hcs
      obtain ⟨rfl, rfl, rfl⟩ := hcs
      exact ⟨zs, .inr ⟨_, rfl, hl, hm, by simpa using hz, hcell, hwz⟩⟩
  clear hA0 hval0
  refine (lawVec_any a0 len0 cap0 a1 len1 cap1 W w0.rdb w0.le w1.rdb w1.le).mono fun e W' ⟨he, bel⟩ => ?_
  subst he
  exact ⟨_, rfl, _, _, _, [], _, [], hW', trodAll_mk1 (shut_bool Try.underlying4 _), (trodAll_cons_mk (Below.trod laidOut_fnVec (by kernel_rfl) (of_decide_eq_true (by kernel_rfl)) k0 bel lt0) (trodAll_cons_mk (Below.trod laidOut_fnVec (by kernel_rfl) (of_decide_eq_true (by kernel_rfl)) k1 bel lt1) trodAll_mk0)), rfl, bel.frame _, fun h => by cases h⟩

theorem fnVec_over : Rows.fnVecRow.holds Try.pinned (OpenSpec.ofChange Rows.fnVecSpec) :=
  OpenClaim.holds_of_wide 3 Try.f3 rfl rfl rfl rfl rfl rfl rfl ⟨rfl, rfl, rfl, rfl, rfl⟩ rfl rfl rfl rfl rfl (by kernel_rfl) Try.func3 (by kernel_rfl)
    (of_decide_eq_true (by kernel_rfl)) (by unfold Func.isWrapper; first | (rw [if_pos (by decide +kernel)]; kernel_rfl) | (rw [if_neg (by decide +kernel)]; exact ⟨rfl, rfl⟩))
    (fun os started H enc _ => fnVec_lifted os started H enc)

theorem fnVec_holds : Rows.FnVecSaid := fnVec_over

end Go.Proofs.Ytlphcpkhclfkaaa
