/-
  One node's jet: jet of the program, a case for each operation.
-/
import Derived.Test.YtifepoefeamboaaGreatDoorImplJetG
import Derived.Test.YtifepoefeamboaaGreatDoorImplJetS
import Derived.Test.YtifepoefeamboaaGreatDoorGrpH
import Derived.Test.YtifepoefeamboaaGreatDoorGrpE
import Derived.Deep.RegionHeld3
namespace Nt
open Go Go.RowKit
/-- a node's struct, and two cells of the list of jets -/
def HeldJ (w : World) (nb : Nat) (tN : TypeId) (op i k n : Int) (b p q : Nat) (u v : Value) : Prop := NodeAt w nb tN op i k n ∧ b < w.heap.size ∧ w.cell? ⟨b, p, none⟩ = some u ∧ w.cell? ⟨b, q, none⟩ = some v
theorem HeldJ.on {w w' : World} {nb : Nat} {tN : TypeId} {op i k n : Int} {b p q : Nat} {u v : Value} (h : HeldJ w nb tN op i k n b p q u v) (hb : Below w.heap.size w w') : HeldJ w' nb tN op i k n b p q u v :=
  ⟨h.1.on hb, Nat.lt_of_lt_of_le h.2.1 hb.size, (World.cell?_of_block (a := ⟨b, p, none⟩) (hb.block _ h.2.1)).trans h.2.2.1, (World.cell?_of_block (a := ⟨b, q, none⟩) (hb.block _ h.2.1)).trans h.2.2.2⟩
theorem HeldJ.cells {w : World} {nb : Nat} {tN : TypeId} {op i k n : Int} {b p q : Nat} {u v : Value} (h : HeldJ w nb tN op i k n b p q u v) : (w.cell? ⟨nb, 0, none⟩ = some (.int .i64 op) ∧ w.cell? ⟨nb, 1, none⟩ = some (.int .i64 i) ∧ w.cell? ⟨nb, 2, none⟩ = some (.int .i64 k) ∧ w.cell? ⟨nb, 3, none⟩ = some (.int .i64 n)) ∧ w.cell? ⟨b, p, none⟩ = some u ∧ w.cell? ⟨b, q, none⟩ = some v := ⟨h.1.four, h.2.2.1, h.2.2.2⟩
theorem RdJ.two {tF tM : TypeId} {w : World} {A : Option Addr} {n c : Nat} {js : List Jt} (h : RdJ tF tM w A n c js) {i k : Nat} (hi : i < n) (hk : k < n) :
    ∃ b o t x s y, A = some ⟨b, o, none⟩ ∧ b < w.heap.size ∧ (w.cell? ⟨b, o + i, none⟩ = some (.iface t x) ∧ JAt tF tM w (fun _ => True) (js.getD i j0) (.iface t x)) ∧ (w.cell? ⟨b, o + k, none⟩ = some (.iface s y) ∧ JAt tF tM w (fun _ => True) (js.getD k j0) (.iface s y)) := by
  obtain ⟨b, o, e, hl, hc⟩ := h.2.2 (by omega)
  obtain ⟨t, x, h1, h2⟩ := hc i hi
  obtain ⟨s, y, h3, h4⟩ := hc k hk
  exact ⟨b, o, t, x, s, y, e, hl, ⟨h1, h2⟩, h3, h4⟩
theorem RdJ.at_ {tF tM : TypeId} {w : World} {A : Option Addr} {n c : Nat} {js : List Jt} (h : RdJ tF tM w A n c js) {i : Nat} (hi : i < n) :
    ∃ b o t x, A = some ⟨b, o, none⟩ ∧ b < w.heap.size ∧ w.cell? ⟨b, o + i, none⟩ = some (.iface t x) ∧ JAt tF tM w (fun _ => True) (js.getD i j0) (.iface t x) := by
  obtain ⟨b, o, t, x, s, y, e, hl, h1, h2⟩ := h.two hi hi
  exact ⟨b, o, t, x, e, hl, h1⟩
end Nt
namespace Go.Proofs.YtifepoefeamboaaGreatDoor
open Go Go.RowKit Nt

set_option maxRecDepth 20000 in
set_option maxHeartbeats 3200000 in
theorem jet_const (a b n : Int) (h0 : 0 ≤ n) (h1 : n ≤ 999999999) (X V : Option Addr) (mx dx m cv : Nat) (w : World) :
    Calls Tryz.prog 105 #[.agg #[.int .i64 1, .int .i64 a, .int .i64 b, .int .i64 n], .slice X mx dx, .slice V m cv] w (SayJE 105 103 w (.fx ((n : Int) : Rat))) := by
  go_enter Tryz.func105, Tryz.ntmps105
  go_wp2_with (go_at_call 73; refine (whole_int n _ (by omega) (by omega)).mono ?_; rintro e w1 ⟨A1, c1, B1, d1, rfl, o, bb⟩; have HO := Lib.hid o; have HB := Lib.hid (below_on (below1 _ _) bb); clear o bb)
  exact bodyPost_ret (results_tmp2 rfl _ _ _) rfl ⟨_, _, rfl, ⟨A1, c1, B1, d1, rfl, HO.out⟩, HB.out⟩

set_option maxRecDepth 20000 in
set_option maxHeartbeats 3200000 in
theorem jet_var (a b : Int) (i : Nat) (X V : Option Addr) (mx dx m cv : Nat) (vars : List Jt) (w : World) (hv : RdJ 105 103 w X mx dx vars) (hi : i < mx) :
    Calls Tryz.prog 105 #[.agg #[.int .i64 2, .int .i64 a, .int .i64 b, .int .i64 (i : Int)], .slice X mx dx, .slice V m cv] w (SayJE 105 103 w (vars.getD i j0)) := by
  have HI : (i : Int) < mx := by omega
  obtain ⟨bv, ov, t, x, rfl, hlb, hc, hj⟩ := hv.at_ hi
  have HJ := Lib.hid hj
  clear hv hj
  go_enter Tryz.func105, Tryz.ntmps105
  go_upto_region 1 with fail
  refine wp_atJ (fun v0 => Below w.heap.size w v0 ∧ NodeAt v0 w.heap.size 114 2 a b (i : Int)) ⟨below1 _ _, NodeAt.new _ _ _ _ _ _⟩ ?_
  rintro v0 ⟨hb, r0⟩
  have n0 := r0.c0
  have n3 := r0.c3
  have e0 := (World.cell?_of_block (a := ⟨bv, ov + i, none⟩) (hb.block _ hlb)).trans hc
  have HB0 := Lib.hid hb
  have HJ0 := Lib.hid (HJ.out.on hb)
  clear hb r0 hc
  go_wp2
  exact bodyPost_ret (results_tmp2 rfl _ _ _) rfl ⟨_, _, rfl, HJ0.out, HB0.out⟩

set_option maxRecDepth 20000 in
set_option maxHeartbeats 3200000 in
theorem jet_add (n : Int) (i k : Nat) (X V : Option Addr) (mx dx m cv : Nat) (acc : List Jt) (w : World) (ha : RdJ 105 103 w V m cv acc) (hi : i < m) (hk : k < m) (hfit : Hid (SumFit (acc.getD i j0) (acc.getD k j0))) :
    Calls Tryz.prog 105 #[.agg #[.int .i64 3, .int .i64 (i : Int), .int .i64 (k : Int), .int .i64 n], .slice X mx dx, .slice V m cv] w (SayJE 105 103 w (sumJ (acc.getD i j0) (acc.getD k j0))) := by
  have HI : (i : Int) < m := by omega
  have HK : (k : Int) < m := by omega
  obtain ⟨bv, ov, t, x, s, y, rfl, hlb, ⟨hc1, hj1⟩, hc2, hj2⟩ := ha.two hi hk
  have HJ1 := Lib.hid hj1
  have HJ2 := Lib.hid hj2
  clear ha hj1 hj2
  go_enter Tryz.func105, Tryz.ntmps105
  go_upto_region 1 with fail
  refine wp_atJ (fun v0 => Below w.heap.size w v0 ∧ NodeAt v0 w.heap.size 114 3 (i : Int) (k : Int) n) ⟨below1 _ _, NodeAt.new _ _ _ _ _ _⟩ ?_
  rintro v0 ⟨hb, r0⟩
  have HH0 : Hid (HeldJ v0 w.heap.size 114 3 (i : Int) (k : Int) n bv (ov + i) (ov + k) (.iface t x) (.iface s y)) := ⟨r0, Nat.lt_of_lt_of_le hlb hb.size, (World.cell?_of_block (a := ⟨bv, ov + i, none⟩) (hb.block _ hlb)).trans hc1, (World.cell?_of_block (a := ⟨bv, ov + k, none⟩) (hb.block _ hlb)).trans hc2⟩
  have HB0 := Lib.hid hb
  have HJ10 := Lib.hid (HJ1.out.on hb)
  have HJ20 := Lib.hid (HJ2.out.on hb)
  have n0 := r0.c0
  clear hb r0 hc1 hc2
  go_upto_region 7 with fail
  clear n0
  go_region_held3 (fun wx => (wx.cell? ⟨w.heap.size, 0, none⟩ = some (.int .i64 3) ∧ wx.cell? ⟨w.heap.size, 1, none⟩ = some (.int .i64 (i : Int)) ∧ wx.cell? ⟨w.heap.size, 2, none⟩ = some (.int .i64 (k : Int)) ∧ wx.cell? ⟨w.heap.size, 3, none⟩ = some (.int .i64 n)) ∧ wx.cell? ⟨bv, ov + i, none⟩ = some (.iface t x) ∧ wx.cell? ⟨bv, ov + k, none⟩ = some (.iface s y))
    (first | exact HH0.out.cells | exact HH1.out.cells)
    (first | (go_at_call 131; refine (sumOf_any _ _ _ _ _ _ _ (by first | exact HJ10.out | exact HJ10.out.on (below_drewJ (Below.refl _ _))) (by first | exact HJ20.out | exact HJ20.out.on (below_drewJ (Below.refl _ _))) hfit.out).mono ?_; rintro e w1 ⟨v1, rfl, j1, bb⟩; have bb := undrew bb; obtain ⟨t1, x1, rfl⟩ := j1.shape; have HR := Lib.hid j1; have HH1 := Lib.hid (HH0.out.on bb); have HB1 := Lib.hid (below_on HB0.out bb); clear j1 bb))
  go_wp2
  exact bodyPost_ret (results_tmp2 rfl _ _ _) rfl ⟨_, _, rfl, HR.out, HB1.out⟩

set_option maxRecDepth 20000 in
set_option maxHeartbeats 3200000 in
theorem jet_mul (n : Int) (i k : Nat) (X V : Option Addr) (mx dx m cv : Nat) (acc : List Jt) (w : World) (ha : RdJ 105 103 w V m cv acc) (hi : i < m) (hk : k < m) (hfit : Hid (ProdFit (acc.getD i j0) (acc.getD k j0))) :
    Calls Tryz.prog 105 #[.agg #[.int .i64 5, .int .i64 (i : Int), .int .i64 (k : Int), .int .i64 n], .slice X mx dx, .slice V m cv] w (SayJE 105 103 w (prodJ (acc.getD i j0) (acc.getD k j0))) := by
  have HI : (i : Int) < m := by omega
  have HK : (k : Int) < m := by omega
  obtain ⟨bv, ov, t, x, s, y, rfl, hlb, ⟨hc1, hj1⟩, hc2, hj2⟩ := ha.two hi hk
  have HJ1 := Lib.hid hj1
  have HJ2 := Lib.hid hj2
  clear ha hj1 hj2
  go_enter Tryz.func105, Tryz.ntmps105
  go_upto_region 1 with fail
  refine wp_atJ (fun v0 => Below w.heap.size w v0 ∧ NodeAt v0 w.heap.size 114 5 (i : Int) (k : Int) n) ⟨below1 _ _, NodeAt.new _ _ _ _ _ _⟩ ?_
  rintro v0 ⟨hb, r0⟩
  have HH0 : Hid (HeldJ v0 w.heap.size 114 5 (i : Int) (k : Int) n bv (ov + i) (ov + k) (.iface t x) (.iface s y)) := ⟨r0, Nat.lt_of_lt_of_le hlb hb.size, (World.cell?_of_block (a := ⟨bv, ov + i, none⟩) (hb.block _ hlb)).trans hc1, (World.cell?_of_block (a := ⟨bv, ov + k, none⟩) (hb.block _ hlb)).trans hc2⟩
  have HB0 := Lib.hid hb
  have HJ10 := Lib.hid (HJ1.out.on hb)
  have HJ20 := Lib.hid (HJ2.out.on hb)
  have n0 := r0.c0
  clear hb r0 hc1 hc2
  go_upto_region 11 with fail
  clear n0
  go_region_held3 (fun wx => (wx.cell? ⟨w.heap.size, 0, none⟩ = some (.int .i64 5) ∧ wx.cell? ⟨w.heap.size, 1, none⟩ = some (.int .i64 (i : Int)) ∧ wx.cell? ⟨w.heap.size, 2, none⟩ = some (.int .i64 (k : Int)) ∧ wx.cell? ⟨w.heap.size, 3, none⟩ = some (.int .i64 n)) ∧ wx.cell? ⟨bv, ov + i, none⟩ = some (.iface t x) ∧ wx.cell? ⟨bv, ov + k, none⟩ = some (.iface s y))
    (first | exact HH0.out.cells | exact HH1.out.cells)
    (first | (go_at_call 133; refine (productOf_any _ _ _ _ _ _ _ (by first | exact HJ10.out | exact HJ10.out.on (below_drewJ (Below.refl _ _))) (by first | exact HJ20.out | exact HJ20.out.on (below_drewJ (Below.refl _ _))) hfit.out).mono ?_; rintro e w1 ⟨v1, rfl, j1, bb⟩; have bb := undrew bb; obtain ⟨t1, x1, rfl⟩ := j1.shape; have HR := Lib.hid j1; have HH1 := Lib.hid (HH0.out.on bb); have HB1 := Lib.hid (below_on HB0.out bb); clear j1 bb))
  go_wp2
  exact bodyPost_ret (results_tmp2 rfl _ _ _) rfl ⟨_, _, rfl, HR.out, HB1.out⟩

set_option maxRecDepth 20000 in
set_option maxHeartbeats 3200000 in
theorem jet_sub (n : Int) (i k : Nat) (X V : Option Addr) (mx dx m cv : Nat) (acc : List Jt) (w : World) (ha : RdJ 105 103 w V m cv acc) (hi : i < m) (hk : k < m) (hneg : Hid (ProdFit (.fx ((-1 : Int) : Rat)) (acc.getD k j0))) (hfit : Hid (SumFit (acc.getD i j0) (timesJ (-1) (acc.getD k j0)))) :
    Calls Tryz.prog 105 #[.agg #[.int .i64 4, .int .i64 (i : Int), .int .i64 (k : Int), .int .i64 n], .slice X mx dx, .slice V m cv] w (SayJE 105 103 w (sumJ (acc.getD i j0) (timesJ (-1) (acc.getD k j0)))) := by
  have HI : (i : Int) < m := by omega
  have HK : (k : Int) < m := by omega
  obtain ⟨bv, ov, t, x, s, y, rfl, hlb, ⟨hc1, hj1⟩, hc2, hj2⟩ := ha.two hi hk
  have HJ1 := Lib.hid hj1
  have HJ2 := Lib.hid hj2
  clear ha hj1 hj2
  go_enter Tryz.func105, Tryz.ntmps105
  go_upto_region 1 with fail
  refine wp_atJ (fun v0 => Below w.heap.size w v0 ∧ NodeAt v0 w.heap.size 114 4 (i : Int) (k : Int) n) ⟨below1 _ _, NodeAt.new _ _ _ _ _ _⟩ ?_
  rintro v0 ⟨hb, r0⟩
  have HH0 : Hid (HeldJ v0 w.heap.size 114 4 (i : Int) (k : Int) n bv (ov + i) (ov + k) (.iface t x) (.iface s y)) := ⟨r0, Nat.lt_of_lt_of_le hlb hb.size, (World.cell?_of_block (a := ⟨bv, ov + i, none⟩) (hb.block _ hlb)).trans hc1, (World.cell?_of_block (a := ⟨bv, ov + k, none⟩) (hb.block _ hlb)).trans hc2⟩
  have HB0 := Lib.hid hb
  have HJ10 := Lib.hid (HJ1.out.on hb)
  have HJ20 := Lib.hid (HJ2.out.on hb)
  have n0 := r0.c0
  clear hb r0 hc1 hc2
  go_upto_region 9 with fail
  clear n0
  go_region_held3 (fun wx => (wx.cell? ⟨w.heap.size, 0, none⟩ = some (.int .i64 4) ∧ wx.cell? ⟨w.heap.size, 1, none⟩ = some (.int .i64 (i : Int)) ∧ wx.cell? ⟨w.heap.size, 2, none⟩ = some (.int .i64 (k : Int)) ∧ wx.cell? ⟨w.heap.size, 3, none⟩ = some (.int .i64 n)) ∧ wx.cell? ⟨bv, ov + i, none⟩ = some (.iface t x) ∧ wx.cell? ⟨bv, ov + k, none⟩ = some (.iface s y))
    (first | exact HH0.out.cells | exact HH1.out.cells | exact HH2.out.cells)
    (first
      | (go_at_call 132; refine (timesOf_any (-1) _ _ _ _ (by first | exact HJ20.out | exact HJ20.out.on (below_drewJ (Below.refl _ _))) (by decide) (by decide) hneg.out).mono ?_; rintro e w1 ⟨v1, rfl, j1, bb⟩; have bb := undrew bb; obtain ⟨t1, x1, rfl⟩ := j1.shape; have HR1 := Lib.hid j1; have HJ11 := Lib.hid (HJ10.out.on bb); have HH1 := Lib.hid (HH0.out.on bb); have HB1 := Lib.hid (below_on HB0.out bb); clear j1 bb)
      | (go_at_call 131; refine (sumOf_any _ _ _ _ _ _ _ (by exact HJ11.out) (by exact HR1.out) hfit.out).mono ?_; rintro e w2 ⟨v2, rfl, j2, bb⟩; obtain ⟨t2, x2, rfl⟩ := j2.shape; have HR := Lib.hid j2; have HH2 := Lib.hid (HH1.out.on bb); have HB2 := Lib.hid (below_on HB1.out bb); clear j2 bb))
  go_wp2
  exact bodyPost_ret (results_tmp2 rfl _ _ _) rfl ⟨_, _, rfl, HR.out, HB2.out⟩

set_option maxRecDepth 20000 in
set_option maxHeartbeats 3200000 in
theorem jet_neg (n b : Int) (i : Nat) (X V : Option Addr) (mx dx m cv : Nat) (acc : List Jt) (w : World) (ha : RdJ 105 103 w V m cv acc) (hi : i < m) (hneg : Hid (ProdFit (.fx ((-1 : Int) : Rat)) (acc.getD i j0))) :
    Calls Tryz.prog 105 #[.agg #[.int .i64 7, .int .i64 (i : Int), .int .i64 b, .int .i64 n], .slice X mx dx, .slice V m cv] w (SayJE 105 103 w (timesJ (-1) (acc.getD i j0))) := by
  have HI : (i : Int) < m := by omega
  obtain ⟨bv, ov, t, x, rfl, hlb, hc, hj⟩ := ha.at_ hi
  have HJ := Lib.hid hj
  clear ha hj
  go_enter Tryz.func105, Tryz.ntmps105
  go_upto_region 1 with fail
  refine wp_atJ (fun v0 => Below w.heap.size w v0 ∧ NodeAt v0 w.heap.size 114 7 (i : Int) b n) ⟨below1 _ _, NodeAt.new _ _ _ _ _ _⟩ ?_
  rintro v0 ⟨hb, r0⟩
  have n0 := r0.c0
  have n1 := r0.c1
  have e0 := (World.cell?_of_block (a := ⟨bv, ov + i, none⟩) (hb.block _ hlb)).trans hc
  have HB0 := Lib.hid hb
  have HJ0 := Lib.hid (HJ.out.on hb)
  clear hb r0 hc
  go_wp2_with (go_at_call 132; refine (timesOf_any (-1) _ _ _ _ (by exact HJ0.out) (by decide) (by decide) hneg.out).mono ?_; rintro e w1 ⟨v1, rfl, j1, bb⟩; obtain ⟨t1, x1, rfl⟩ := j1.shape; have HR := Lib.hid j1; have HB1 := Lib.hid (below_on HB0.out bb); clear j1 bb)
  exact bodyPost_ret (results_tmp2 rfl _ _ _) rfl ⟨_, _, rfl, HR.out, HB1.out⟩

set_option maxRecDepth 20000 in
set_option maxHeartbeats 3200000 in
theorem jet_pow (b : Int) (p i : Nat) (X V : Option Addr) (mx dx m cv : Nat) (R : Jt) (bv ov : Nat) (t : TypeId) (x : Value) (K : FuncId) (w : World) (hV : V = some ⟨bv, ov, none⟩) (hlb : bv < w.heap.size) (hc1 : w.cell? ⟨bv, ov + i, none⟩ = some (.iface t x)) (hi : i < m) (ma : ∀ w, (Go.method 334 t x "loop.example/g00615/impl.raised").run Tryz.prog w = .ok (K, x) w)
    (h1 : Hid (∀ W, Below w.heap.size w W → Calls Tryz.prog K #[x, .int .i64 (p : Int)] W (SayJ 105 103 W R))) (hk : K = 194 ∨ K = 191) :
    Calls Tryz.prog 105 #[.agg #[.int .i64 8, .int .i64 (i : Int), .int .i64 b, .int .i64 (p : Int)], .slice X mx dx, .slice V m cv] w (SayJE 105 103 w R) := by
  have HI : (i : Int) < m := by omega
  subst hV
  rcases hk with rfl | rfl
  all_goals (
    go_enter Tryz.func105, Tryz.ntmps105
    go_upto_region 1 with fail
    refine wp_atJ (fun v0 => Below w.heap.size w v0 ∧ NodeAt v0 w.heap.size 114 8 (i : Int) b (p : Int)) ⟨below1 _ _, NodeAt.new _ _ _ _ _ _⟩ ?_
    rintro v0 ⟨hb, r0⟩
    have HH0 : Hid (HeldJ v0 w.heap.size 114 8 (i : Int) b (p : Int) bv (ov + i) (ov + i) (.iface t x) (.iface t x)) := ⟨r0, Nat.lt_of_lt_of_le hlb hb.size, (World.cell?_of_block (a := ⟨bv, ov + i, none⟩) (hb.block _ hlb)).trans hc1, (World.cell?_of_block (a := ⟨bv, ov + i, none⟩) (hb.block _ hlb)).trans hc1⟩
    have HB0 := Lib.hid hb
    have n0 := r0.c0
    clear hb r0
    go_upto_region 19 with fail
    clear n0
    go_region_held3 (fun wx => (wx.cell? ⟨w.heap.size, 0, none⟩ = some (.int .i64 8) ∧ wx.cell? ⟨w.heap.size, 1, none⟩ = some (.int .i64 (i : Int)) ∧ wx.cell? ⟨w.heap.size, 2, none⟩ = some (.int .i64 b) ∧ wx.cell? ⟨w.heap.size, 3, none⟩ = some (.int .i64 (p : Int))) ∧ wx.cell? ⟨bv, ov + i, none⟩ = some (.iface t x) ∧ wx.cell? ⟨bv, ov + i, none⟩ = some (.iface t x))
      (first | exact HH0.out.cells | exact HH1.out.cells)
      (first
        | (go_at_call_of 194 x; refine (h1.out _ (by first | exact HB0.out | exact below_drewJ HB0.out)).mono ?_; rintro e w1 ⟨v1, rfl, j1, bb⟩; have bb := undrew bb; obtain ⟨t1, x1, rfl⟩ := j1.shape; have HR := Lib.hid j1; have HH1 := Lib.hid (HH0.out.on bb); have HB1 := Lib.hid (below_on HB0.out bb); clear j1 bb)
        | (go_at_call_of 191 x; refine (h1.out _ (by first | exact HB0.out | exact below_drewJ HB0.out)).mono ?_; rintro e w1 ⟨v1, rfl, j1, bb⟩; have bb := undrew bb; obtain ⟨t1, x1, rfl⟩ := j1.shape; have HR := Lib.hid j1; have HH1 := Lib.hid (HH0.out.on bb); have HB1 := Lib.hid (below_on HB0.out bb); clear j1 bb))
    go_wp2
    exact bodyPost_ret (results_tmp2 rfl _ _ _) rfl ⟨_, _, rfl, HR.out, HB1.out⟩)

set_option maxRecDepth 20000 in
set_option maxHeartbeats 3200000 in
theorem jet_div (n : Int) (i k : Nat) (X V : Option Addr) (mx dx m cv : Nat) (bv ov : Nat) (t s : TypeId) (x y : Value) (K : FuncId) (w : World) (hV : V = some ⟨bv, ov, none⟩) (hlb : bv < w.heap.size) (hc1 : w.cell? ⟨bv, ov + i, none⟩ = some (.iface t x)) (hc2 : w.cell? ⟨bv, ov + k, none⟩ = some (.iface s y)) (hi : i < m) (hk0 : k < m) (ma : ∀ w, (Go.method 334 s y "loop.example/g00615/impl.inverse").run Tryz.prog w = .ok (K, y) w) (F I : Jt)
    (h1 : Hid (∀ W, Below w.heap.size w W → Calls Tryz.prog K #[y] W (SayJE 105 103 W I))) (hj : Hid (JAt 105 103 w (fun _ => True) F (.iface t x))) (hfit : Hid (ProdFit F I)) (hk : K = 193 ∨ K = 190) :
    Calls Tryz.prog 105 #[.agg #[.int .i64 6, .int .i64 (i : Int), .int .i64 (k : Int), .int .i64 n], .slice X mx dx, .slice V m cv] w (SayJE 105 103 w (prodJ F I)) := by
  have HI : (i : Int) < m := by omega
  have HK : (k : Int) < m := by omega
  subst hV
  rcases hk with rfl | rfl
  all_goals (
    go_enter Tryz.func105, Tryz.ntmps105
    go_upto_region 1 with fail
    refine wp_atJ (fun v0 => Below w.heap.size w v0 ∧ NodeAt v0 w.heap.size 114 6 (i : Int) (k : Int) n) ⟨below1 _ _, NodeAt.new _ _ _ _ _ _⟩ ?_
    rintro v0 ⟨hb, r0⟩
    have HH0 : Hid (HeldJ v0 w.heap.size 114 6 (i : Int) (k : Int) n bv (ov + i) (ov + k) (.iface t x) (.iface s y)) := ⟨r0, Nat.lt_of_lt_of_le hlb hb.size, (World.cell?_of_block (a := ⟨bv, ov + i, none⟩) (hb.block _ hlb)).trans hc1, (World.cell?_of_block (a := ⟨bv, ov + k, none⟩) (hb.block _ hlb)).trans hc2⟩
    have HB0 := Lib.hid hb
    have n0 := r0.c0
    have n2 := r0.c2
    have e2 := HH0.out.2.2.2
    clear hb r0
    go_wp2_with (first
      | (go_at_call_of 193 y; refine (h1.out _ HB0.out).mono ?_; rintro e w1 ⟨t1, x1, rfl, j1, bb⟩; have HR1 := Lib.hid j1; have HH1 := Lib.hid (HH0.out.on bb); have HB1 := Lib.hid (below_on HB0.out bb); have n1 := HH1.out.1.c1; have e1 := HH1.out.2.2.1; clear j1 bb)
      | (go_at_call_of 190 y; refine (h1.out _ HB0.out).mono ?_; rintro e w1 ⟨t1, x1, rfl, j1, bb⟩; have HR1 := Lib.hid j1; have HH1 := Lib.hid (HH0.out.on bb); have HB1 := Lib.hid (below_on HB0.out bb); have n1 := HH1.out.1.c1; have e1 := HH1.out.2.2.1; clear j1 bb)
      | (go_at_call 133; refine (productOf_any _ _ _ _ _ _ _ (by exact hj.out.on HB1.out) (by exact HR1.out) hfit.out).mono ?_; rintro e w2 ⟨v2, rfl, j2, bb⟩; obtain ⟨t2, x2, rfl⟩ := j2.shape; have HR := Lib.hid j2; have HB2 := Lib.hid (below_on HB1.out bb); clear j2 bb))
    exact bodyPost_ret (results_tmp2 rfl _ _ _) rfl ⟨_, _, rfl, HR.out, HB2.out⟩)

set_option maxRecDepth 20000 in
set_option maxHeartbeats 3200000 in
theorem jet_over (n : Int) (i k : Nat) (X V : Option Addr) (mx dx m cv : Nat) (bv ov : Nat) (t s : TypeId) (x y : Value) (K : FuncId) (w : World) (hV : V = some ⟨bv, ov, none⟩) (hlb : bv < w.heap.size) (hc1 : w.cell? ⟨bv, ov + i, none⟩ = some (.iface t x)) (hc2 : w.cell? ⟨bv, ov + k, none⟩ = some (.iface s y)) (hi : i < m) (hk0 : k < m) (ma : ∀ w, (Go.method 334 s y "loop.example/g00615/impl.inverse").run Tryz.prog w = .ok (K, y) w) (ad : Addr)
    (h1 : Hid (∀ W, Below w.heap.size w W → Calls Tryz.prog K #[y] W (SayE 195 ad W))) (hk : K = 193 ∨ K = 190) :
    Calls Tryz.prog 105 #[.agg #[.int .i64 6, .int .i64 (i : Int), .int .i64 (k : Int), .int .i64 n], .slice X mx dx, .slice V m cv] w (SayE 195 ad w) := by
  have HI : (i : Int) < m := by omega
  have HK : (k : Int) < m := by omega
  subst hV
  rcases hk with rfl | rfl
  all_goals (
    go_enter Tryz.func105, Tryz.ntmps105
    go_upto_region 1 with fail
    refine wp_atJ (fun v0 => Below w.heap.size w v0 ∧ NodeAt v0 w.heap.size 114 6 (i : Int) (k : Int) n) ⟨below1 _ _, NodeAt.new _ _ _ _ _ _⟩ ?_
    rintro v0 ⟨hb, r0⟩
    have HH0 : Hid (HeldJ v0 w.heap.size 114 6 (i : Int) (k : Int) n bv (ov + i) (ov + k) (.iface t x) (.iface s y)) := ⟨r0, Nat.lt_of_lt_of_le hlb hb.size, (World.cell?_of_block (a := ⟨bv, ov + i, none⟩) (hb.block _ hlb)).trans hc1, (World.cell?_of_block (a := ⟨bv, ov + k, none⟩) (hb.block _ hlb)).trans hc2⟩
    have HB0 := Lib.hid hb
    have n0 := r0.c0
    have n2 := r0.c2
    have e2 := HH0.out.2.2.2
    clear hb r0
    go_wp2_with (first
      | (go_at_call_of 193 y; refine (h1.out _ HB0.out).mono ?_; rintro e w1 ⟨v1, rfl, bb⟩; have HB1 := Lib.hid (below_on HB0.out bb); clear bb)
      | (go_at_call_of 190 y; refine (h1.out _ HB0.out).mono ?_; rintro e w1 ⟨v1, rfl, bb⟩; have HB1 := Lib.hid (below_on HB0.out bb); clear bb))
    exact bodyPost_ret (results_tmp2 rfl _ _ _) rfl ⟨_, rfl, HB1.out⟩)

/-- what a node asks of where it stands -/
def goodN (x : Nd) (m mx : Nat) : Prop := fitN x = true ∧ behind x m = true ∧ (x.1 = 2 → x.2.2.2 < mx)
theorem memL {acc : List Jt} {i : Nat} (hl : ∀ j ∈ acc, L2 j 40 40 40 40) (hi : i < acc.length) : L2 (acc.getD i j0) 40 40 40 40 := hl _ (getD_mem hi)

set_option maxHeartbeats 1600000 in
/-- one node's jet, whatever the node -/
theorem jet_any (x : Nd) (vars acc : List Jt) (X V : Option Addr) (mx dx m cv : Nat) (w : World) (ad : Addr) (hE : ErrAt 195 w ad) (hv : RdJ 105 103 w X mx dx vars) (ha : RdJ 105 103 w V m cv acc) (hg : goodN x m mx) (hl : ∀ j ∈ acc, L2 j 40 40 40 40) :
    (∀ j, stepJ vars acc x = some j → Calls Tryz.prog 105 #[.agg #[.int .i64 x.1, .int .i64 x.2.1, .int .i64 x.2.2.1, .int .i64 x.2.2.2], .slice X mx dx, .slice V m cv] w (SayJE 105 103 w j)) ∧
    (stepJ vars acc x = none → Calls Tryz.prog 105 #[.agg #[.int .i64 x.1, .int .i64 x.2.1, .int .i64 x.2.2.1, .int .i64 x.2.2.2], .slice X mx dx, .slice V m cv] w (SayE 195 ad w)) := by
  obtain ⟨op, a, b, n⟩ := x
  obtain ⟨hf, hb, hm⟩ := hg
  have hlen := ha.1
  unfold fitN mostN at hf
  unfold behind at hb
  simp only [Bool.and_eq_true, decide_eq_true_eq] at hf hb hm
  obtain ⟨⟨⟨⟨⟨f1, f2⟩, f3⟩, f4⟩, f5⟩, f6⟩ := hf
  obtain ⟨b1, b2⟩ := hb
  unfold stepJ
  dsimp only
  have hcase : op = 1 ∨ op = 2 ∨ op = 3 ∨ op = 4 ∨ op = 5 ∨ op = 6 ∨ op = 7 ∨ op = 8 := by omega
  rcases hcase with rfl | rfl | rfl | rfl | rfl | rfl | rfl | rfl
  · simp at f4
    refine ⟨fun j hj => ?_, fun hj => by simp at hj⟩
    simp at hj; subst hj
    exact jet_const a b n f3 f4 X V mx dx m cv w
  · have hn := hm rfl
    refine ⟨fun j hj => ?_, fun hj => by simp at hj⟩
    simp at hj; subst hj
    obtain ⟨i, rfl⟩ : ∃ i : Nat, n = i := ⟨n.toNat, by omega⟩
    rw [Int.toNat_natCast]
    exact jet_var a b i X V mx dx m cv vars w hv (by omega)
  · have hb1 : (0 ≤ a ∧ a < m) ∧ 0 ≤ b ∧ b < m := by
      simp [two, one] at b1 b2
      omega
    obtain ⟨i, rfl⟩ : ∃ i : Nat, a = i := ⟨a.toNat, by omega⟩
    obtain ⟨k, rfl⟩ : ∃ k : Nat, b = k := ⟨b.toNat, by omega⟩
    have hi : i < m := by omega
    have hk : k < m := by omega
    have Li := memL hl (i := i) (by omega)
    have Lk := memL hl (i := k) (by omega)
    rw [Int.toNat_natCast, Int.toNat_natCast]
    refine ⟨fun j hj => ?_, fun hj => by simp at hj⟩
    simp at hj; subst hj
    exact jet_add n i k X V mx dx m cv acc w ha hi hk (Lib.hid (Li.sumFit Lk (by omega) (by omega) (by omega) (by omega) (by omega) (by omega) (by omega) (by omega)))
  · have hb1 : (0 ≤ a ∧ a < m) ∧ 0 ≤ b ∧ b < m := by
      simp [two, one] at b1 b2
      omega
    obtain ⟨i, rfl⟩ : ∃ i : Nat, a = i := ⟨a.toNat, by omega⟩
    obtain ⟨k, rfl⟩ : ∃ k : Nat, b = k := ⟨b.toNat, by omega⟩
    have hi : i < m := by omega
    have hk : k < m := by omega
    have Li := memL hl (i := i) (by omega)
    have Lk := memL hl (i := k) (by omega)
    rw [Int.toNat_natCast, Int.toNat_natCast]
    refine ⟨fun j hj => ?_, fun hj => by simp at hj⟩
    simp at hj; subst hj
    exact jet_sub n i k X V mx dx m cv acc w ha hi hk (Lib.hid Lk.negFit) (Lib.hid (Li.sumFit Lk.neg (by omega) (by omega) (by omega) (by omega) (by omega) (by omega) (by omega) (by omega)))
  · have hb1 : (0 ≤ a ∧ a < m) ∧ 0 ≤ b ∧ b < m := by
      simp [two, one] at b1 b2
      omega
    obtain ⟨i, rfl⟩ : ∃ i : Nat, a = i := ⟨a.toNat, by omega⟩
    obtain ⟨k, rfl⟩ : ∃ k : Nat, b = k := ⟨b.toNat, by omega⟩
    have hi : i < m := by omega
    have hk : k < m := by omega
    have Li := memL hl (i := i) (by omega)
    have Lk := memL hl (i := k) (by omega)
    rw [Int.toNat_natCast, Int.toNat_natCast]
    refine ⟨fun j hj => ?_, fun hj => by simp at hj⟩
    simp at hj; subst hj
    exact jet_mul n i k X V mx dx m cv acc w ha hi hk (Lib.hid (Li.mulFit Lk))
  · have hb1 : (0 ≤ a ∧ a < m) ∧ 0 ≤ b ∧ b < m := by
      simp [two, one] at b1 b2
      omega
    obtain ⟨i, rfl⟩ : ∃ i : Nat, a = i := ⟨a.toNat, by omega⟩
    obtain ⟨k, rfl⟩ : ∃ k : Nat, b = k := ⟨b.toNat, by omega⟩
    have hi : i < m := by omega
    have hk : k < m := by omega
    have Li := memL hl (i := i) (by omega)
    have Lk := memL hl (i := k) (by omega)
    rw [Int.toNat_natCast, Int.toNat_natCast]
    obtain ⟨bv, ov, t, x, s, y, rfl, hlb, ⟨hc1, hj1⟩, hc2, hj2⟩ := ha.two hi hk
    obtain ⟨K, k1, k2, k3⟩ := jinv_any _ s y _ w ad hE hj2 Lk.invFit
    refine ⟨fun j hj => ?_, fun hj => ?_⟩
    · simp only [Int.reduceEq, ↓reduceIte] at hj
      by_cases h0 : nu (numJ (acc.getD k j0) 0) = 0
      · rw [if_pos h0] at hj; cases hj
      · rw [if_neg h0] at hj
        cases hj
        exact jet_div n i k X _ mx dx m cv bv ov t s x y K w rfl hlb hc1 hc2 hi hk k2 _ _ (Lib.hid fun W hb => (k3 W hb).1 (by omega)) (Lib.hid hj1) (Lib.hid (Li.quoFit Lk)) k1
    · simp only [Int.reduceEq, ↓reduceIte] at hj
      by_cases h0 : nu (numJ (acc.getD k j0) 0) = 0
      · exact jet_over n i k X _ mx dx m cv bv ov t s x y K w rfl hlb hc1 hc2 hi hk k2 ad (Lib.hid fun W hb => (k3 W hb).2 h0) k1
      · rw [if_neg h0] at hj; cases hj
  · have hb1 : 0 ≤ a ∧ a < m := by
      simp [two, one] at b1
      omega
    obtain ⟨i, rfl⟩ : ∃ i : Nat, a = i := ⟨a.toNat, by omega⟩
    have hi : i < m := by omega
    have Li := memL hl (i := i) (by omega)
    rw [Int.toNat_natCast]
    refine ⟨fun j hj => ?_, fun hj => by simp at hj⟩
    simp at hj; subst hj
    exact jet_neg n b i X V mx dx m cv acc w ha hi (Lib.hid Li.negFit)
  · have hb1 : 0 ≤ a ∧ a < m := by
      simp [two, one] at b1
      omega
    obtain ⟨i, rfl⟩ : ∃ i : Nat, a = i := ⟨a.toNat, by omega⟩
    have hi : i < m := by omega
    have Li := memL hl (i := i) (by omega)
    rw [Int.toNat_natCast]
    refine ⟨fun j hj => ?_, fun hj => by simp at hj⟩
    simp at hj; subst hj
    simp at f4
    obtain ⟨p, rfl⟩ : ∃ p : Nat, n = p := ⟨n.toNat, by omega⟩
    rw [Int.toNat_natCast]
    obtain ⟨bv, ov, t, x, hV, hlb, hc1, hj1⟩ := ha.at_ hi
    obtain ⟨K, k1, k2, k3⟩ := jraised_any _ p t x _ w (by omega) hj1 (Li.raiseFit (by omega))
    exact jet_pow b p i X V mx dx m cv _ bv ov t x K w hV hlb hc1 hi k2 (Lib.hid k3) k1
end Go.Proofs.YtifepoefeamboaaGreatDoor
