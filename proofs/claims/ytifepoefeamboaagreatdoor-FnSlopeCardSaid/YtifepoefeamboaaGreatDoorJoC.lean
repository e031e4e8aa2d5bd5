/-
  ImplJetE ImplJetF ImplJetN AppendFree ImplJetsOf in one text.
-/
import Derived.Test.YtifepoefeamboaaGreatDoorJoB
import Derived.Test.YtifepoefeamboaaGreatDoorGrpH
import Derived.Test.YtifepoefeamboaaGreatDoorGrpE
import Derived.Deep.RegionHeld3
import Derived.Deep.AppendLies
import Derived.Test.YtifepoefeamboaaGreatDoorGrpG
namespace Nt
open Go Go.RowKit
/-- a node's struct, and two cells of the list of jets -/
def HeldJ (w : World) (nb : Nat) (tN : TypeId) (op i k n : Int) (b p q : Nat) (u v : Value) : Prop := NodeAt w nb tN op i k n ∧ b < w.heap.size ∧ w.cell? ⟨b, p, none⟩ = some u ∧ w.cell? ⟨b, q, none⟩ = some v
theorem HeldJ.on {w w' : World} {nb : Nat} {tN : TypeId} {op i k n : Int} {b p q : Nat} {u v : Value} (h : HeldJ w nb tN op i k n b p q u v) (hb : Below w.heap.size w w') : HeldJ w' nb tN op i k n b p q u v :=
  ⟨h.1.on hb, Nat.lt_of_lt_of_le h.2.1 hb.size, (World.cell?_of_block (a := ⟨b, p, none⟩) (hb.block _ h.2.1)).trans h.2.2.1, (World.cell?_of_block (a := ⟨b, q, none⟩) (hb.block _ h.2.1)).trans h.2.2.2⟩
theorem HeldJ.cells {w : World} {nb : Nat} {tN : TypeId} {op i k n : Int} {b p q : Nat} {u v : Value} (h : HeldJ w nb tN op i k n b p q u v) : (w.cell? ⟨nb, 0, none⟩ = some (.int .i64 op) ∧ w.cell? ⟨nb, 1, none⟩ = some (.int .i64 i) ∧ w.cell? ⟨nb, 2, none⟩ = some (.int .i64 k) ∧ w.cell? ⟨nb, 3, none⟩ = some (.int .i64 n)) ∧ w.cell? ⟨b, p, none⟩ = some u ∧ w.cell? ⟨b, q, none⟩ = some v := ⟨h.1.four, h.2.2.1, h.2.2.2⟩
theorem RdJ.two {tF tM : TypeId} {w : World} {A : Option Addr} {n c : Nat} {js : List Jt} (h : RdJ tF tM w A n c js) {i k : Nat} (hi : i < n) (hk : k < n) :
    ∃ b o t x s y, A = some ⟨b, o, none⟩ ∧ b < w.heap.size ∧ (w.cell? ⟨b, o + i, none⟩ = some (.iface t x) ∧ JAt tF tM w (fun _ => True) (js.getD i j0) (.iface t x)) ∧ (w.cell? ⟨b, o + k, none⟩ = some (.iface s y) ∧ JAt tF tM w (fun _ => True) (js.getD k j0) (.iface s y)) := by
  obtain ⟨b, o, e, hl, hc⟩ := h.2.2 (by omega)
  obtain ⟨t, x, h1, h2⟩ := hc i hi
  obtain ⟨s, y, h3, h4⟩ := hc k hk
  exact ⟨b, o, t, x, s, y, e, hl, ⟨h1, h2⟩, h3, h4⟩
theorem RdJ.at_ {tF tM : TypeId} {w : World} {A : Option Addr} {n c : Nat} {js : List Jt} (h : RdJ tF tM w A n c js) {i : Nat} (hi : i < n) :
    ∃ b o t x, A = some ⟨b, o, none⟩ ∧ b < w.heap.size ∧ w.cell? ⟨b, o + i, none⟩ = some (.iface t x) ∧ JAt tF tM w (fun _ => True) (js.getD i j0) (.iface t x) := by
  obtain ⟨b, o, t, x, s, y, e, hl, h1, h2⟩ := h.two hi hi
  exact ⟨b, o, t, x, e, hl, h1⟩
end Nt
namespace Go.Proofs.YtifepoefeamboaaGreatDoor
open Go Go.RowKit Nt

set_option maxRecDepth 20000 in
set_option maxHeartbeats 3200000 in
theorem jet_const (a b n : Int) (h0 : 0 ≤ n) (h1 : n ≤ 999999999) (X V : Option Addr) (mx dx m cv : Nat) (w : World) :
    Calls Tryz.prog 105 #[.agg #[.int .i64 1, .int .i64 a, .int .i64 b, .int .i64 n], .slice X mx dx, .slice V m cv] w (SayJE 105 103 w (.fx ((n : Int) : Rat))) := by
  go_enter Tryz.func105, Tryz.ntmps105
  go_wp2_with (go_at_call 73; refine (whole_int n _ (by omega) (by omega)).mono ?_; rintro e w1 ⟨A1, c1, B1, d1, rfl, o, bb⟩; have HO := Lib.hid o; have HB := Lib.hid (below_on (below1 _ _) bb); clear o bb)
  exact bodyPost_ret (results_tmp2 rfl _ _ _) rfl ⟨_, _, rfl, ⟨A1, c1, B1, d1, rfl, HO.out⟩, HB.out⟩

set_option maxRecDepth 20000 in
set_option maxHeartbeats 3200000 in
theorem jet_var (a b : Int) (i : Nat) (X V : Option Addr) (mx dx m cv : Nat) (vars : List Jt) (w : World) (hv : RdJ 105 103 w X mx dx vars) (hi : i < mx) :
    Calls Tryz.prog 105 #[.agg #[.int .i64 2, .int .i64 a, .int .i64 b, .int .i64 (i : Int)], .slice X mx dx, .slice V m cv] w (SayJE 105 103 w (vars.getD i j0)) := by
  have HI : (i : Int) < mx := by omega
  obtain ⟨bv, ov, t, x, rfl, hlb, hc, hj⟩ := hv.at_ hi
  have HJ := Lib.hid hj
  clear hv hj
  go_enter Tryz.func105, Tryz.ntmps105
  go_upto_region 1 with fail
  refine wp_atJ (fun v0 => Below w.heap.size w v0 ∧ NodeAt v0 w.heap.size 114 2 a b (i : Int)) ⟨below1 _ _, NodeAt.new _ _ _ _ _ _⟩ ?_
  rintro v0 ⟨hb, r0⟩
  have n0 := r0.c0
  have n3 := r0.c3
  have e0 := (World.cell?_of_block (a := ⟨bv, ov + i, none⟩) (hb.block _ hlb)).trans hc
  have HB0 := Lib.hid hb
  have HJ0 := Lib.hid (HJ.out.on hb)
  clear hb r0 hc
  go_wp2
  exact bodyPost_ret (results_tmp2 rfl _ _ _) rfl ⟨_, _, rfl, HJ0.out, HB0.out⟩

set_option maxRecDepth 20000 in
set_option maxHeartbeats 3200000 in
theorem jet_add (n : Int) (i k : Nat) (X V : Option Addr) (mx dx m cv : Nat) (acc : List Jt) (w : World) (ha : RdJ 105 103 w V m cv acc) (hi : i < m) (hk : k < m) (hfit : Hid (SumFit (acc.getD i j0) (acc.getD k j0))) :
    Calls Tryz.prog 105 #[.agg #[.int .i64 3, .int .i64 (i : Int), .int .i64 (k : Int), .int .i64 n], .slice X mx dx, .slice V m cv] w (SayJE 105 103 w (sumJ (acc.getD i j0) (acc.getD k j0))) := by
  have HI : (i : Int) < m := by omega
  have HK : (k : Int) < m := by omega
  obtain ⟨bv, ov, t, x, s, y, rfl, hlb, ⟨hc1, hj1⟩, hc2, hj2⟩ := ha.two hi hk
  have HJ1 := Lib.hid hj1
  have HJ2 := Lib.hid hj2
  clear ha hj1 hj2
  go_enter Tryz.func105, Tryz.ntmps105
  go_upto_region 1 with fail
  refine wp_atJ (fun v0 => Below w.heap.size w v0 ∧ NodeAt v0 w.heap.size 114 3 (i : Int) (k : Int) n) ⟨below1 _ _, NodeAt.new _ _ _ _ _ _⟩ ?_
  rintro v0 ⟨hb, r0⟩
  have HH0 : Hid (HeldJ v0 w.heap.size 114 3 (i : Int) (k : Int) n bv (ov + i) (ov + k) (.iface t x) (.iface s y)) := ⟨r0, Nat.lt_of_lt_of_le hlb hb.size, (World.cell?_of_block (a := ⟨bv, ov + i, none⟩) (hb.block _ hlb)).trans hc1, (World.cell?_of_block (a := ⟨bv, ov + k, none⟩) (hb.block _ hlb)).trans hc2⟩
  have HB0 := Lib.hid hb
  have HJ10 := Lib.hid (HJ1.out.on hb)
  have HJ20 := Lib.hid (HJ2.out.on hb)
  have n0 := r0.c0
  clear hb r0 hc1 hc2
  go_upto_region 7 with fail
  clear n0
  go_region_held3 (fun wx => (wx.cell? ⟨w.heap.size, 0, none⟩ = some (.int .i64 3) ∧ wx.cell? ⟨w.heap.size, 1, none⟩ = some (.int .i64 (i : Int)) ∧ wx.cell? ⟨w.heap.size, 2, none⟩ = some (.int .i64 (k : Int)) ∧ wx.cell? ⟨w.heap.size, 3, none⟩ = some (.int .i64 n)) ∧ wx.cell? ⟨bv, ov + i, none⟩ = some (.iface t x) ∧ wx.cell? ⟨bv, ov + k, none⟩ = some (.iface s y))
    (first | exact HH0.out.cells | exact HH1.out.cells)
    (first | (go_at_call 131; refine (sumOf_any _ _ _ _ _ _ _ (by first | exact HJ10.out | exact HJ10.out.on (below_drewJ (Below.refl _ _))) (by first | exact HJ20.out | exact HJ20.out.on (below_drewJ (Below.refl _ _))) hfit.out).mono ?_; rintro e w1 ⟨v1, rfl, j1, bb⟩; have bb := undrew bb; obtain ⟨t1, x1, rfl⟩ := j1.shape; have HR := Lib.hid j1; have HH1 := Lib.hid (HH0.out.on bb); have HB1 := Lib.hid (below_on HB0.out bb); clear j1 bb))
  go_wp2
  exact bodyPost_ret (results_tmp2 rfl _ _ _) rfl ⟨_, _, rfl, HR.out, HB1.out⟩

set_option maxRecDepth 20000 in
set_option maxHeartbeats 3200000 in
theorem jet_mul (n : Int) (i k : Nat) (X V : Option Addr) (mx dx m cv : Nat) (acc : List Jt) (w : World) (ha : RdJ 105 103 w V m cv acc) (hi : i < m) (hk : k < m) (hfit : Hid (ProdFit (acc.getD i j0) (acc.getD k j0))) :
    Calls Tryz.prog 105 #[.agg #[.int .i64 5, .int .i64 (i : Int), .int .i64 (k : Int), .int .i64 n], .slice X mx dx, .slice V m cv] w (SayJE 105 103 w (prodJ (acc.getD i j0) (acc.getD k j0))) := by
  have HI : (i : Int) < m := by omega
  have HK : (k : Int) < m := by omega
  obtain ⟨bv, ov, t, x, s, y, rfl, hlb, ⟨hc1, hj1⟩, hc2, hj2⟩ := ha.two hi hk
  have HJ1 := Lib.hid hj1
  have HJ2 := Lib.hid hj2
  clear ha hj1 hj2
  go_enter Tryz.func105, Tryz.ntmps105
  go_upto_region 1 with fail
  refine wp_atJ (fun v0 => Below w.heap.size w v0 ∧ NodeAt v0 w.heap.size 114 5 (i : Int) (k : Int) n) ⟨below1 _ _, NodeAt.new _ _ _ _ _ _⟩ ?_
  rintro v0 ⟨hb, r0⟩
  have HH0 : Hid (HeldJ v0 w.heap.size 114 5 (i : Int) (k : Int) n bv (ov + i) (ov + k) (.iface t x) (.iface s y)) := ⟨r0, Nat.lt_of_lt_of_le hlb hb.size, (World.cell?_of_block (a := ⟨bv, ov + i, none⟩) (hb.block _ hlb)).trans hc1, (World.cell?_of_block (a := ⟨bv, ov + k, none⟩) (hb.block _ hlb)).trans hc2⟩
  have HB0 := Lib.hid hb
  have HJ10 := Lib.hid (HJ1.out.on hb)
  have HJ20 := Lib.hid (HJ2.out.on hb)
  have n0 := r0.c0
  clear hb r0 hc1 hc2
  go_upto_region 11 with fail
  clear n0
  go_region_held3 (fun wx => (wx.cell? ⟨w.heap.size, 0, none⟩ = some (.int .i64 5) ∧ wx.cell? ⟨w.heap.size, 1, none⟩ = some (.int .i64 (i : Int)) ∧ wx.cell? ⟨w.heap.size, 2, none⟩ = some (.int .i64 (k : Int)) ∧ wx.cell? ⟨w.heap.size, 3, none⟩ = some (.int .i64 n)) ∧ wx.cell? ⟨bv, ov + i, none⟩ = some (.iface t x) ∧ wx.cell? ⟨bv, ov + k, none⟩ = some (.iface s y))
    (first | exact HH0.out.cells | exact HH1.out.cells)
    (first | (go_at_call 133; refine (productOf_any _ _ _ _ _ _ _ (by first | exact HJ10.out | exact HJ10.out.on (below_drewJ (Below.refl _ _))) (by first | exact HJ20.out | exact HJ20.out.on (below_drewJ (Below.refl _ _))) hfit.out).mono ?_; rintro e w1 ⟨v1, rfl, j1, bb⟩; have bb := undrew bb; obtain ⟨t1, x1, rfl⟩ := j1.shape; have HR := Lib.hid j1; have HH1 := Lib.hid (HH0.out.on bb); have HB1 := Lib.hid (below_on HB0.out bb); clear j1 bb))
  go_wp2
  exact bodyPost_ret (results_tmp2 rfl _ _ _) rfl ⟨_, _, rfl, HR.out, HB1.out⟩

set_option maxRecDepth 20000 in
set_option maxHeartbeats 3200000 in
theorem jet_sub (n : Int) (i k : Nat) (X V : Option Addr) (mx dx m cv : Nat) (acc : List Jt) (w : World) (ha : RdJ 105 103 w V m cv acc) (hi : i < m) (hk : k < m) (hneg : Hid (ProdFit (.fx ((-1 : Int) : Rat)) (acc.getD k j0))) (hfit : Hid (SumFit (acc.getD i j0) (timesJ (-1) (acc.getD k j0)))) :
    Calls Tryz.prog 105 #[.agg #[.int .i64 4, .int .i64 (i : Int), .int .i64 (k : Int), .int .i64 n], .slice X mx dx, .slice V m cv] w (SayJE 105 103 w (sumJ (acc.getD i j0) (timesJ (-1) (acc.getD k j0)))) := by
  have HI : (i : Int) < m := by omega
  have HK : (k : Int) < m := by omega
  obtain ⟨bv, ov, t, x, s, y, rfl, hlb, ⟨hc1, hj1⟩, hc2, hj2⟩ := ha.two hi hk
  have HJ1 := Lib.hid hj1
  have HJ2 := Lib.hid hj2
  clear ha hj1 hj2
  go_enter Tryz.func105, Tryz.ntmps105
  go_upto_region 1 with fail
  refine wp_atJ (fun v0 => Below w.heap.size w v0 ∧ NodeAt v0 w.heap.size 114 4 (i : Int) (k : Int) n) ⟨below1 _ _, NodeAt.new _ _ _ _ _ _⟩ ?_
  rintro v0 ⟨hb, r0⟩
  have HH0 : Hid (HeldJ v0 w.heap.size 114 4 (i : Int) (k : Int) n bv (ov + i) (ov + k) (.iface t x) (.iface s y)) := ⟨r0, Nat.lt_of_lt_of_le hlb hb.size, (World.cell?_of_block (a := ⟨bv, ov + i, none⟩) (hb.block _ hlb)).trans hc1, (World.cell?_of_block (a := ⟨bv, ov + k, none⟩) (hb.block _ hlb)).trans hc2⟩
  have HB0 := Lib.hid hb
  have HJ10 := Lib.hid (HJ1.out.on hb)
  have HJ20 := Lib.hid (HJ2.out.on hb)
  have n0 := r0.c0
  clear hb r0 hc1 hc2
  go_upto_region 9 with fail
  clear n0
  go_region_held3 (fun wx => (wx.cell? ⟨w.heap.size, 0, none⟩ = some (.int .i64 4) ∧ wx.cell? ⟨w.heap.size, 1, none⟩ = some (.int .i64 (i : Int)) ∧ wx.cell? ⟨w.heap.size, 2, none⟩ = some (.int .i64 (k : Int)) ∧ wx.cell? ⟨w.heap.size, 3, none⟩ = some (.int .i64 n)) ∧ wx.cell? ⟨bv, ov + i, none⟩ = some (.iface t x) ∧ wx.cell? ⟨bv, ov + k, none⟩ = some (.iface s y))
    (first | exact HH0.out.cells | exact HH1.out.cells | exact HH2.out.cells)
    (first
      | (go_at_call 132; refine (timesOf_any (-1) _ _ _ _ (by first | exact HJ20.out | exact HJ20.out.on (below_drewJ (Below.refl _ _))) (by decide) (by decide) hneg.out).mono ?_; rintro e w1 ⟨v1, rfl, j1, bb⟩; have bb := undrew bb; obtain ⟨t1, x1, rfl⟩ := j1.shape; have HR1 := Lib.hid j1; have HJ11 := Lib.hid (HJ10.out.on bb); have HH1 := Lib.hid (HH0.out.on bb); have HB1 := Lib.hid (below_on HB0.out bb); clear j1 bb)
      | (go_at_call 131; refine (sumOf_any _ _ _ _ _ _ _ (by exact HJ11.out) (by exact HR1.out) hfit.out).mono ?_; rintro e w2 ⟨v2, rfl, j2, bb⟩; obtain ⟨t2, x2, rfl⟩ := j2.shape; have HR := Lib.hid j2; have HH2 := Lib.hid (HH1.out.on bb); have HB2 := Lib.hid (below_on HB1.out bb); clear j2 bb))
  go_wp2
  exact bodyPost_ret (results_tmp2 rfl _ _ _) rfl ⟨_, _, rfl, HR.out, HB2.out⟩

set_option maxRecDepth 20000 in
set_option maxHeartbeats 3200000 in
theorem jet_neg (n b : Int) (i : Nat) (X V : Option Addr) (mx dx m cv : Nat) (acc : List Jt) (w : World) (ha : RdJ 105 103 w V m cv acc) (hi : i < m) (hneg : Hid (ProdFit (.fx ((-1 : Int) : Rat)) (acc.getD i j0))) :
    Calls Tryz.prog 105 #[.agg #[.int .i64 7, .int .i64 (i : Int), .int .i64 b, .int .i64 n], .slice X mx dx, .slice V m cv] w (SayJE 105 103 w (timesJ (-1) (acc.getD i j0))) := by
  have HI : (i : Int) < m := by omega
  obtain ⟨bv, ov, t, x, rfl, hlb, hc, hj⟩ := ha.at_ hi
  have HJ := Lib.hid hj
  clear ha hj
  go_enter Tryz.func105, Tryz.ntmps105
  go_upto_region 1 with fail
  refine wp_atJ (fun v0 => Below w.heap.size w v0 ∧ NodeAt v0 w.heap.size 114 7 (i : Int) b n) ⟨below1 _ _, NodeAt.new _ _ _ _ _ _⟩ ?_
  rintro v0 ⟨hb, r0⟩
  have n0 := r0.c0
  have n1 := r0.c1
  have e0 := (World.cell?_of_block (a := ⟨bv, ov + i, none⟩) (hb.block _ hlb)).trans hc
  have HB0 := Lib.hid hb
  have HJ0 := Lib.hid (HJ.out.on hb)
  clear hb r0 hc
  go_wp2_with (go_at_call 132; refine (timesOf_any (-1) _ _ _ _ (by exact HJ0.out) (by decide) (by decide) hneg.out).mono ?_; rintro e w1 ⟨v1, rfl, j1, bb⟩; obtain ⟨t1, x1, rfl⟩ := j1.shape; have HR := Lib.hid j1; have HB1 := Lib.hid (below_on HB0.out bb); clear j1 bb)
  exact bodyPost_ret (results_tmp2 rfl _ _ _) rfl ⟨_, _, rfl, HR.out, HB1.out⟩

set_option maxRecDepth 20000 in
set_option maxHeartbeats 3200000 in
theorem jet_pow (b : Int) (p i : Nat) (X V : Option Addr) (mx dx m cv : Nat) (R : Jt) (bv ov : Nat) (t : TypeId) (x : Value) (K : FuncId) (w : World) (hV : V = some ⟨bv, ov, none⟩) (hlb : bv < w.heap.size) (hc1 : w.cell? ⟨bv, ov + i, none⟩ = some (.iface t x)) (hi : i < m) (ma : ∀ w, (Go.method 334 t x "loop.example/g00615/impl.raised").run Tryz.prog w = .ok (K, x) w)
    (h1 : Hid (∀ W, Below w.heap.size w W → Calls Tryz.prog K #[x, .int .i64 (p : Int)] W (SayJ 105 103 W R))) (hk : K = 194 ∨ K = 191) :
    Calls Tryz.prog 105 #[.agg #[.int .i64 8, .int .i64 (i : Int), .int .i64 b, .int .i64 (p : Int)], .slice X mx dx, .slice V m cv] w (SayJE 105 103 w R) := by
  have HI : (i : Int) < m := by omega
  subst hV
  rcases hk with rfl | rfl
  all_goals (
    go_enter Tryz.func105, Tryz.ntmps105
    go_upto_region 1 with fail
    refine wp_atJ (fun v0 => Below w.heap.size w v0 ∧ NodeAt v0 w.heap.size 114 8 (i : Int) b (p : Int)) ⟨below1 _ _, NodeAt.new _ _ _ _ _ _⟩ ?_
    rintro v0 ⟨hb, r0⟩
    have HH0 : Hid (HeldJ v0 w.heap.size 114 8 (i : Int) b (p : Int) bv (ov + i) (ov + i) (.iface t x) (.iface t x)) := ⟨r0, Nat.lt_of_lt_of_le hlb hb.size, (World.cell?_of_block (a := ⟨bv, ov + i, none⟩) (hb.block _ hlb)).trans hc1, (World.cell?_of_block (a := ⟨bv, ov + i, none⟩) (hb.block _ hlb)).trans hc1⟩
    have HB0 := Lib.hid hb
    have n0 := r0.c0
    clear hb r0
    go_upto_region 19 with fail
    clear n0
    go_region_held3 (fun wx => (wx.cell? ⟨w.heap.size, 0, none⟩ = some (.int .i64 8) ∧ wx.cell? ⟨w.heap.size, 1, none⟩ = some (.int .i64 (i : Int)) ∧ wx.cell? ⟨w.heap.size, 2, none⟩ = some (.int .i64 b) ∧ wx.cell? ⟨w.heap.size, 3, none⟩ = some (.int .i64 (p : Int))) ∧ wx.cell? ⟨bv, ov + i, none⟩ = some (.iface t x) ∧ wx.cell? ⟨bv, ov + i, none⟩ = some (.iface t x))
      (first | exact HH0.out.cells | exact HH1.out.cells)
      (first
        | (go_at_call_of 194 x; refine (h1.out _ (by first | exact HB0.out | exact below_drewJ HB0.out)).mono ?_; rintro e w1 ⟨v1, rfl, j1, bb⟩; have bb := undrew bb; obtain ⟨t1, x1, rfl⟩ := j1.shape; have HR := Lib.hid j1; have HH1 := Lib.hid (HH0.out.on bb); have HB1 := Lib.hid (below_on HB0.out bb); clear j1 bb)
        | (go_at_call_of 191 x; refine (h1.out _ (by first | exact HB0.out | exact below_drewJ HB0.out)).mono ?_; rintro e w1 ⟨v1, rfl, j1, bb⟩; have bb := undrew bb; obtain ⟨t1, x1, rfl⟩ := j1.shape; have HR := Lib.hid j1; have HH1 := Lib.hid (HH0.out.on bb); have HB1 := Lib.hid (below_on HB0.out bb); clear j1 bb))
    go_wp2
    exact bodyPost_ret (results_tmp2 rfl _ _ _) rfl ⟨_, _, rfl, HR.out, HB1.out⟩)

set_option maxRecDepth 20000 in
set_option maxHeartbeats 3200000 in
theorem jet_div (n : Int) (i k : Nat) (X V : Option Addr) (mx dx m cv : Nat) (bv ov : Nat) (t s : TypeId) (x y : Value) (K : FuncId) (w : World) (hV : V = some ⟨bv, ov, none⟩) (hlb : bv < w.heap.size) (hc1 : w.cell? ⟨bv, ov + i, none⟩ = some (.iface t x)) (hc2 : w.cell? ⟨bv, ov + k, none⟩ = some (.iface s y)) (hi : i < m) (hk0 : k < m) (ma : ∀ w, (Go.method 334 s y "loop.example/g00615/impl.inverse").run Tryz.prog w = .ok (K, y) w) (F I : Jt)
    (h1 : Hid (∀ W, Below w.heap.size w W → Calls Tryz.prog K #[y] W (SayJE 105 103 W I))) (hj : Hid (JAt 105 103 w (fun _ => True) F (.iface t x))) (hfit : Hid (ProdFit F I)) (hk : K = 193 ∨ K = 190) :
    Calls Tryz.prog 105 #[.agg #[.int .i64 6, .int .i64 (i : Int), .int .i64 (k : Int), .int .i64 n], .slice X mx dx, .slice V m cv] w (SayJE 105 103 w (prodJ F I)) := by
  have HI : (i : Int) < m := by omega
  have HK : (k : Int) < m := by omega
  subst hV
  rcases hk with rfl | rfl
  all_goals (
    go_enter Tryz.func105, Tryz.ntmps105
    go_upto_region 1 with fail
    refine wp_atJ (fun v0 => Below w.heap.size w v0 ∧ NodeAt v0 w.heap.size 114 6 (i : Int) (k : Int) n) ⟨below1 _ _, NodeAt.new _ _ _ _ _ _⟩ ?_
    rintro v0 ⟨hb, r0⟩
    have HH0 : Hid (HeldJ v0 w.heap.size 114 6 (i : Int) (k : Int) n bv (ov + i) (ov + k) (.iface t x) (.iface s y)) := ⟨r0, Nat.lt_of_lt_of_le hlb hb.size, (World.cell?_of_block (a := ⟨bv, ov + i, none⟩) (hb.block _ hlb)).trans hc1, (World.cell?_of_block (a := ⟨bv, ov + k, none⟩) (hb.block _ hlb)).trans hc2⟩
    have HB0 := Lib.hid hb
    have n0 := r0.c0
    have n2 := r0.c2
    have e2 := HH0.out.2.2.2
    clear hb r0
    go_wp2_with (first
      | (go_at_call_of 193 y; refine (h1.out _ HB0.out).mono ?_; rintro e w1 ⟨t1, x1, rfl, j1, bb⟩; have HR1 := Lib.hid j1; have HH1 := Lib.hid (HH0.out.on bb); have HB1 := Lib.hid (below_on HB0.out bb); have n1 := HH1.out.1.c1; have e1 := HH1.out.2.2.1; clear j1 bb)
      | (go_at_call_of 190 y; refine (h1.out _ HB0.out).mono ?_; rintro e w1 ⟨t1, x1, rfl, j1, bb⟩; have HR1 := Lib.hid j1; have HH1 := Lib.hid (HH0.out.on bb); have HB1 := Lib.hid (below_on HB0.out bb); have n1 := HH1.out.1.c1; have e1 := HH1.out.2.2.1; clear j1 bb)
      | (go_at_call 133; refine (productOf_any _ _ _ _ _ _ _ (by exact hj.out.on HB1.out) (by exact HR1.out) hfit.out).mono ?_; rintro e w2 ⟨v2, rfl, j2, bb⟩; obtain ⟨t2, x2, rfl⟩ := j2.shape; have HR := Lib.hid j2; have HB2 := Lib.hid (below_on HB1.out bb); clear j2 bb))
    exact bodyPost_ret (results_tmp2 rfl _ _ _) rfl ⟨_, _, rfl, HR.out, HB2.out⟩)

set_option maxRecDepth 20000 in
set_option maxHeartbeats 3200000 in
theorem jet_over (n : Int) (i k : Nat) (X V : Option Addr) (mx dx m cv : Nat) (bv ov : Nat) (t s : TypeId) (x y : Value) (K : FuncId) (w : World) (hV : V = some ⟨bv, ov, none⟩) (hlb : bv < w.heap.size) (hc1 : w.cell? ⟨bv, ov + i, none⟩ = some (.iface t x)) (hc2 : w.cell? ⟨bv, ov + k, none⟩ = some (.iface s y)) (hi : i < m) (hk0 : k < m) (ma : ∀ w, (Go.method 334 s y "loop.example/g00615/impl.inverse").run Tryz.prog w = .ok (K, y) w) (ad : Addr)
    (h1 : Hid (∀ W, Below w.heap.size w W → Calls Tryz.prog K #[y] W (SayE 195 ad W))) (hk : K = 193 ∨ K = 190) :
    Calls Tryz.prog 105 #[.agg #[.int .i64 6, .int .i64 (i : Int), .int .i64 (k : Int), .int .i64 n], .slice X mx dx, .slice V m cv] w (SayE 195 ad w) := by
  have HI : (i : Int) < m := by omega
  have HK : (k : Int) < m := by omega
  subst hV
  rcases hk with rfl | rfl
  all_goals (
    go_enter Tryz.func105, Tryz.ntmps105
    go_upto_region 1 with fail
    refine wp_atJ (fun v0 => Below w.heap.size w v0 ∧ NodeAt v0 w.heap.size 114 6 (i : Int) (k : Int) n) ⟨below1 _ _, NodeAt.new _ _ _ _ _ _⟩ ?_
    rintro v0 ⟨hb, r0⟩
    have HH0 : Hid (HeldJ v0 w.heap.size 114 6 (i : Int) (k : Int) n bv (ov + i) (ov + k) (.iface t x) (.iface s y)) := ⟨r0, Nat.lt_of_lt_of_le hlb hb.size, (World.cell?_of_block (a := ⟨bv, ov + i, none⟩) (hb.block _ hlb)).trans hc1, (World.cell?_of_block (a := ⟨bv, ov + k, none⟩) (hb.block _ hlb)).trans hc2⟩
    have HB0 := Lib.hid hb
    have n0 := r0.c0
    have n2 := r0.c2
    have e2 := HH0.out.2.2.2
    clear hb r0
    go_wp2_with (first
      | (go_at_call_of 193 y; refine (h1.out _ HB0.out).mono ?_; rintro e w1 ⟨v1, rfl, bb⟩; have HB1 := Lib.hid (below_on HB0.out bb); clear bb)
      | (go_at_call_of 190 y; refine (h1.out _ HB0.out).mono ?_; rintro e w1 ⟨v1, rfl, bb⟩; have HB1 := Lib.hid (below_on HB0.out bb); clear bb))
    exact bodyPost_ret (results_tmp2 rfl _ _ _) rfl ⟨_, rfl, HB1.out⟩)

/-- what a node asks of where it stands -/
def goodN (x : Nd) (m mx : Nat) : Prop := fitN x = true ∧ behind x m = true ∧ (x.1 = 2 → x.2.2.2 < mx)
theorem memL {acc : List Jt} {i : Nat} (hl : ∀ j ∈ acc, L2 j 40 40 40 40) (hi : i < acc.length) : L2 (acc.getD i j0) 40 40 40 40 := hl _ (getD_mem hi)

set_option maxHeartbeats 1600000 in
/-- one node's jet, whatever the node -/
theorem jet_any (x : Nd) (vars acc : List Jt) (X V : Option Addr) (mx dx m cv : Nat) (w : World) (ad : Addr) (hE : ErrAt 195 w ad) (hv : RdJ 105 103 w X mx dx vars) (ha : RdJ 105 103 w V m cv acc) (hg : goodN x m mx) (hl : ∀ j ∈ acc, L2 j 40 40 40 40) :
    (∀ j, stepJ vars acc x = some j → Calls Tryz.prog 105 #[.agg #[.int .i64 x.1, .int .i64 x.2.1, .int .i64 x.2.2.1, .int .i64 x.2.2.2], .slice X mx dx, .slice V m cv] w (SayJE 105 103 w j)) ∧
    (stepJ vars acc x = none → Calls Tryz.prog 105 #[.agg #[.int .i64 x.1, .int .i64 x.2.1, .int .i64 x.2.2.1, .int .i64 x.2.2.2], .slice X mx dx, .slice V m cv] w (SayE 195 ad w)) := by
  obtain ⟨op, a, b, n⟩ := x
  obtain ⟨hf, hb, hm⟩ := hg
  have hlen := ha.1
  unfold fitN mostN at hf
  unfold behind at hb
  simp only [Bool.and_eq_true, decide_eq_true_eq] at hf hb hm
  obtain ⟨⟨⟨⟨⟨f1, f2⟩, f3⟩, f4⟩, f5⟩, f6⟩ := hf
  obtain ⟨b1, b2⟩ := hb
  unfold stepJ
  dsimp only
  have hcase : op = 1 ∨ op = 2 ∨ op = 3 ∨ op = 4 ∨ op = 5 ∨ op = 6 ∨ op = 7 ∨ op = 8 := by omega
  rcases hcase with rfl | rfl | rfl | rfl | rfl | rfl | rfl | rfl
  · simp at f4
    refine ⟨fun j hj => ?_, fun hj => by simp at hj⟩
    simp at hj; subst hj
    exact jet_const a b n f3 f4 X V mx dx m cv w
  · have hn := hm rfl
    refine ⟨fun j hj => ?_, fun hj => by simp at hj⟩
    simp at hj; subst hj
    obtain ⟨i, rfl⟩ : ∃ i : Nat, n = i := ⟨n.toNat, by omega⟩
    rw [Int.toNat_natCast]
    exact jet_var a b i X V mx dx m cv vars w hv (by omega)
  · have hb1 : (0 ≤ a ∧ a < m) ∧ 0 ≤ b ∧ b < m := by
      simp [two, one] at b1 b2
      omega
    obtain ⟨i, rfl⟩ : ∃ i : Nat, a = i := ⟨a.toNat, by omega⟩
    obtain ⟨k, rfl⟩ : ∃ k : Nat, b = k := ⟨b.toNat, by omega⟩
    have hi : i < m := by omega
    have hk : k < m := by omega
    have Li := memL hl (i := i) (by omega)
    have Lk := memL hl (i := k) (by omega)
    rw [Int.toNat_natCast, Int.toNat_natCast]
    refine ⟨fun j hj => ?_, fun hj => by simp at hj⟩
    simp at hj; subst hj
    exact jet_add n i k X V mx dx m cv acc w ha hi hk (Lib.hid (Li.sumFit Lk (by omega) (by omega) (by omega) (by omega) (by omega) (by omega) (by omega) (by omega)))
  · have hb1 : (0 ≤ a ∧ a < m) ∧ 0 ≤ b ∧ b < m := by
      simp [two, one] at b1 b2
      omega
    obtain ⟨i, rfl⟩ : ∃ i : Nat, a = i := ⟨a.toNat, by omega⟩
    obtain ⟨k, rfl⟩ : ∃ k : Nat, b = k := ⟨b.toNat, by omega⟩
    have hi : i < m := by omega
    have hk : k < m := by omega
    have Li := memL hl (i := i) (by omega)
    have Lk := memL hl (i := k) (by omega)
    rw [Int.toNat_natCast, Int.toNat_natCast]
    refine ⟨fun j hj => ?_, fun hj => by simp at hj⟩
    simp at hj; subst hj
    exact jet_sub n i k X V mx dx m cv acc w ha hi hk (Lib.hid Lk.negFit) (Lib.hid (Li.sumFit Lk.neg (by omega) (by omega) (by omega) (by omega) (by omega) (by omega) (by omega) (by omega)))
  · have hb1 : (0 ≤ a ∧ a < m) ∧ 0 ≤ b ∧ b < m := by
      simp [two, one] at b1 b2
      omega
    obtain ⟨i, rfl⟩ : ∃ i : Nat, a = i := ⟨a.toNat, by omega⟩
    obtain ⟨k, rfl⟩ : ∃ k : Nat, b = k := ⟨b.toNat, by omega⟩
    have hi : i < m := by omega
    have hk : k < m := by omega
    have Li := memL hl (i := i) (by omega)
    have Lk := memL hl (i := k) (by omega)
    rw [Int.toNat_natCast, Int.toNat_natCast]
    refine ⟨fun j hj => ?_, fun hj => by simp at hj⟩
    simp at hj; subst hj
    exact jet_mul n i k X V mx dx m cv acc w ha hi hk (Lib.hid (Li.mulFit Lk))
  · have hb1 : (0 ≤ a ∧ a < m) ∧ 0 ≤ b ∧ b < m := by
      simp [two, one] at b1 b2
      omega
    obtain ⟨i, rfl⟩ : ∃ i : Nat, a = i := ⟨a.toNat, by omega⟩
    obtain ⟨k, rfl⟩ : ∃ k : Nat, b = k := ⟨b.toNat, by omega⟩
    have hi : i < m := by omega
    have hk : k < m := by omega
    have Li := memL hl (i := i) (by omega)
    have Lk := memL hl (i := k) (by omega)
    rw [Int.toNat_natCast, Int.toNat_natCast]
    obtain ⟨bv, ov, t, x, s, y, rfl, hlb, ⟨hc1, hj1⟩, hc2, hj2⟩ := ha.two hi hk
    obtain ⟨K, k1, k2, k3⟩ := jinv_any _ s y _ w ad hE hj2 Lk.invFit
    refine ⟨fun j hj => ?_, fun hj => ?_⟩
    · simp only [Int.reduceEq, ↓reduceIte] at hj
      by_cases h0 : nu (numJ (acc.getD k j0) 0) = 0
      · rw [if_pos h0] at hj; cases hj
      · rw [if_neg h0] at hj
        cases hj
        exact jet_div n i k X _ mx dx m cv bv ov t s x y K w rfl hlb hc1 hc2 hi hk k2 _ _ (Lib.hid fun W hb => (k3 W hb).1 (by omega)) (Lib.hid hj1) (Lib.hid (Li.quoFit Lk)) k1
    · simp only [Int.reduceEq, ↓reduceIte] at hj
      by_cases h0 : nu (numJ (acc.getD k j0) 0) = 0
      · exact jet_over n i k X _ mx dx m cv bv ov t s x y K w rfl hlb hc1 hc2 hi hk k2 ad (Lib.hid fun W hb => (k3 W hb).2 h0) k1
      · rw [if_neg h0] at hj; cases hj
  · have hb1 : 0 ≤ a ∧ a < m := by
      simp [two, one] at b1
      omega
    obtain ⟨i, rfl⟩ : ∃ i : Nat, a = i := ⟨a.toNat, by omega⟩
    have hi : i < m := by omega
    have Li := memL hl (i := i) (by omega)
    rw [Int.toNat_natCast]
    refine ⟨fun j hj => ?_, fun hj => by simp at hj⟩
    simp at hj; subst hj
    exact jet_neg n b i X V mx dx m cv acc w ha hi (Lib.hid Li.negFit)
  · have hb1 : 0 ≤ a ∧ a < m := by
      simp [two, one] at b1
      omega
    obtain ⟨i, rfl⟩ : ∃ i : Nat, a = i := ⟨a.toNat, by omega⟩
    have hi : i < m := by omega
    have Li := memL hl (i := i) (by omega)
    rw [Int.toNat_natCast]
    refine ⟨fun j hj => ?_, fun hj => by simp at hj⟩
    simp at hj; subst hj
    simp at f4
    obtain ⟨p, rfl⟩ : ∃ p : Nat, n = p := ⟨n.toNat, by omega⟩
    rw [Int.toNat_natCast]
    obtain ⟨bv, ov, t, x, hV, hlb, hc1, hj1⟩ := ha.at_ hi
    obtain ⟨K, k1, k2, k3⟩ := jraised_any _ p t x _ w (by omega) hj1 (Li.raiseFit (by omega))
    exact jet_pow b p i X V mx dx m cv _ bv ov t x K w hV hlb hc1 hi k2 (Lib.hid k3) k1
end Go.Proofs.YtifepoefeamboaaGreatDoor
namespace Go.Proofs.YtifepoefeamboaaGreatDoor
open Go Go.RowKit Nt

theorem meth_fits_f (v : Value) (w : World) : (Go.method 334 105 v "loop.example/g00615/impl.fits").run Tryz.prog w = .ok (192, v) w := by kernel_rfl
theorem meth_fits_m (v : Value) (w : World) : (Go.method 334 103 v "loop.example/g00615/impl.fits").run Tryz.prog w = .ok (189, v) w := by kernel_rfl

set_option maxRecDepth 20000 in
set_option maxHeartbeats 1600000 in
theorem fits_fx (q : Rat) (A B : Option Addr) (ca cb : Nat) (P : Nat → Prop) (w : World) (hr : RdR w P (D (nu q)) (D q.den) A ca B cb) (l1 : (D (nu q)).length ≤ 16777216) (l2 : (D q.den).length ≤ 16777216) :
    Calls Tryz.prog 192 #[.agg #[.bool (isNeg q), .slice A (D (nu q)).length ca, .slice B (D q.den).length cb]] w fun e w' => e = .returned (.bool (fitsJ (.fx q))) ∧ Below w.heap.size w w' := by
  have HR := Lib.hid hr
  clear hr
  go_enter Tryz.func192, Tryz.ntmps192
  go_upto_region 1 with fail
  refine wp_atJ (fun v0 => Below w.heap.size w v0 ∧ RatAt v0 w.heap.size 105 (isNeg q) A (D (nu q)).length ca B (D q.den).length cb) ⟨below1 _ _, RatAt.new _ _ _ _ _ _ _ _ _⟩ ?_
  rintro v0 ⟨hb, r0⟩
  have HB0 := Lib.hid hb
  have a0 := r0.c0
  have a1 := r0.c1
  have a2 := r0.c2
  clear hb r0
  go_wp2_with (go_at_call 42; refine (fitted_any q A B ca cb _ _ (by exact HR.out.on HB0.out) l1 l2).mono ?_; rintro e w1 ⟨A5, c5, B5, d5, rfl, o5, bb⟩; have HB1 := Lib.hid (below_on HB0.out bb); clear o5 bb)
  refine bodyPost_ret (results_tmp rfl _ _ _) rfl ?_
  refine ⟨?_, below_on HB1.out (below1 _ _)⟩
  have e : (fK q == 0) = fitsJ (.fx q) := by
    unfold fK; by_cases hq : fitQ q <;> simp [fitsJ, hq]
  rw [← e]; rfl

set_option maxRecDepth 20000 in
set_option maxHeartbeats 1600000 in
theorem fits_step (a s : Jt) (ta ts : TypeId) (xa xs : Value) (K L : FuncId) (w : World) (ma : ∀ w, (Go.method 334 ta xa "loop.example/g00615/impl.fits").run Tryz.prog w = .ok (K, xa) w) (ms : ∀ w, (Go.method 334 ts xs "loop.example/g00615/impl.fits").run Tryz.prog w = .ok (L, xs) w)
    (ha : Hid (∀ W, Below w.heap.size w W → Calls Tryz.prog K #[xa] W fun e w' => e = .returned (.bool (fitsJ a)) ∧ Below W.heap.size W w')) (hs : Hid (∀ W, Below w.heap.size w W → Calls Tryz.prog L #[xs] W fun e w' => e = .returned (.bool (fitsJ s)) ∧ Below W.heap.size W w'))
    (hk : K = 192 ∨ K = 189) (hl : L = 192 ∨ L = 189) :
    Calls Tryz.prog 189 #[.agg #[.iface ta xa, .iface ts xs]] w fun e w' => e = .returned (.bool (fitsJ (.mv a s))) ∧ Below w.heap.size w w' := by
  rw [fitsJ]
  generalize fitsJ a = p at *
  generalize fitsJ s = q at *
  rcases hk with rfl | rfl <;> rcases hl with rfl | rfl
  all_goals (
    go_enter Tryz.func189, Tryz.ntmps189
    go_upto_region 1 with fail
    refine wp_atJ (fun v0 => Below w.heap.size w v0 ∧ v0.cell? ⟨w.heap.size, 0, none⟩ = some (.iface ta xa) ∧ v0.cell? ⟨w.heap.size, 1, none⟩ = some (.iface ts xs) ∧ w.heap.size < v0.heap.size) ⟨below1 _ _, by rw [cell_of_row _ _ 0 _ _ (0, 0) (heap_alloc_new w _)]; rfl, by rw [cell_of_row _ _ 1 _ _ (0, 0) (heap_alloc_new w _)]; rfl, by simp⟩ ?_
    rintro v0 ⟨hb, c0, c1, hlt⟩
    have HB0 := Lib.hid hb
    have HC1 := Lib.hid c1
    have HLT := Lib.hid hlt
    clear hb hlt
    cases p
    · go_wp2_with (first
        | (go_at_call_of 192 xa; refine (ha.out _ HB0.out).mono ?_; rintro e w1 ⟨rfl, bb⟩; have HB1 := Lib.hid (below_on HB0.out bb); have d1 := (World.cell?_of_block (a := ⟨w.heap.size, 1, none⟩) (bb.block _ HLT.out)).trans HC1.out; clear bb)
        | (go_at_call_of 189 xa; refine (ha.out _ HB0.out).mono ?_; rintro e w1 ⟨rfl, bb⟩; have HB1 := Lib.hid (below_on HB0.out bb); have d1 := (World.cell?_of_block (a := ⟨w.heap.size, 1, none⟩) (bb.block _ HLT.out)).trans HC1.out; clear bb))
      exact bodyPost_ret (results_tmp rfl _ _ _) rfl ⟨rfl, HB1.out⟩
    · go_wp2_with (first
        | (go_at_call_of 192 xa; refine (ha.out _ HB0.out).mono ?_; rintro e w1 ⟨rfl, bb⟩; have HB1 := Lib.hid (below_on HB0.out bb); have d1 := (World.cell?_of_block (a := ⟨w.heap.size, 1, none⟩) (bb.block _ HLT.out)).trans HC1.out; clear bb)
        | (go_at_call_of 189 xa; refine (ha.out _ HB0.out).mono ?_; rintro e w1 ⟨rfl, bb⟩; have HB1 := Lib.hid (below_on HB0.out bb); have d1 := (World.cell?_of_block (a := ⟨w.heap.size, 1, none⟩) (bb.block _ HLT.out)).trans HC1.out; clear bb)
        | (go_at_call_of 192 xs; refine (hs.out _ HB1.out).mono ?_; rintro e w2 ⟨rfl, bb⟩; have HB2 := Lib.hid (below_on HB1.out bb); clear bb)
        | (go_at_call_of 189 xs; refine (hs.out _ HB1.out).mono ?_; rintro e w2 ⟨rfl, bb⟩; have HB2 := Lib.hid (below_on HB1.out bb); clear bb))
      exact bodyPost_ret (results_tmp rfl _ _ _) rfl ⟨rfl, HB2.out⟩)

/-- whether a jet fits: by its own method, and what that says -/
theorem fits_any : ∀ (j : Jt) (t : TypeId) (x : Value) (P : Nat → Prop) (w : World), JAt 105 103 w P j (.iface t x) → Each 16777216 j →
    ∃ K, (K = 192 ∨ K = 189) ∧ (∀ w, (Go.method 334 t x "loop.example/g00615/impl.fits").run Tryz.prog w = .ok (K, x) w) ∧ ∀ W, Below w.heap.size w W → Calls Tryz.prog K #[x] W fun e w' => e = .returned (.bool (fitsJ j)) ∧ Below W.heap.size W w'
  | .fx q, t, x, P, w, h, he => by
    obtain ⟨A, ca, B, cb, e, hr⟩ := h
    cases e
    exact ⟨_, .inl rfl, fun w => meth_fits_f _ w, fun W hb => fits_fx q A B ca cb _ W (hr.on hb) he.1 he.2⟩
  | .mv a s, t, x, P, w, h, he => by
    obtain ⟨va, vs, e, ha, hs⟩ := h
    obtain ⟨ta, xa, rfl⟩ := ha.shape
    obtain ⟨ts, xs, rfl⟩ := hs.shape
    cases e
    obtain ⟨K, k1, k2, k3⟩ := fits_any a ta xa P w ha he.1
    obtain ⟨L, l1, l2, l3⟩ := fits_any s ts xs P w hs he.2
    exact ⟨_, .inr rfl, fun w => meth_fits_m _ w, fun W hb => fits_step a s ta ts xa xs K L W k2 l2 (Lib.hid fun V hv => k3 V (below_on hb hv)) (Lib.hid fun V hv => l3 V (below_on hb hv)) k1 l1⟩
end Go.Proofs.YtifepoefeamboaaGreatDoor
namespace Go.Proofs.YtifepoefeamboaaGreatDoor
open Go Go.RowKit Nt

set_option maxRecDepth 20000 in
set_option maxHeartbeats 1600000 in
theorem along_fx0 (q : Rat) (A B : Option Addr) (ca cb : Nat) (P : Nat → Prop) (w : World) (hr : RdR w P (D (nu q)) (D q.den) A ca B cb) :
    Calls Tryz.prog 41 #[.iface 105 (.agg #[.bool (isNeg q), .slice A (D (nu q)).length ca, .slice B (D q.den).length cb]), .int .i64 0] w (SayR w (isNeg q) (D (nu q)) (D q.den)) := by
  have h1 := as_fm
  have h2 := as_ff
  have HR := Lib.hid (hr.mono (Q := fun _ => True) fun _ _ _ => trivial)
  clear hr
  go_enter Tryz.func41, Tryz.ntmps41
  go_upto_region 10 with fail
  refine wp_atJ (fun v0 => Below w.heap.size w v0 ∧ RatAt v0 w.heap.size 31 false none 0 0 none 0 0 ∧ RatAt v0 (w.heap.size + 1) 105 (isNeg q) A (D (nu q)).length ca B (D q.den).length cb) ⟨below2 _ _ _, (RatAt.new _ _ _ _ _ _ _ _ _).alloc _, RatAt.new1 _ _ _ _ _ _ _ _ _ _⟩ ?_
  rintro v0 ⟨hb, r0, r1⟩
  have HB0 := Lib.hid hb
  have HT := Lib.hid r0
  have f0 := r0.fz 0
  have f1 := r0.fz 1
  have f2 := r0.fz 2
  have y0 := r0.c0
  have y1 := r0.c1
  have y2 := r0.c2
  have a0 := r1.c0
  have a1 := r1.c1
  have a2 := r1.c2
  clear hb r0 r1
  go_wp2
  have g2 := fun b u v => setAll_grown v0 w.heap.size (.bool b) u v
  refine bodyPost_ret (retR rfl _ _ _ rfl (HT.out.setAll _ _ _ _ _ _ _)) rfl ?_
  exact ⟨A, ca, B, cb, rfl, ⟨(HR.out.on HB0.out).1.past HT.out (g2 _ _ _), (HR.out.on HB0.out).2.past HT.out (g2 _ _ _)⟩, below_grow HB0.out (Nat.le_refl _) (g2 _ _ _)⟩

set_option maxRecDepth 20000 in
set_option maxHeartbeats 1600000 in
theorem along_fxS (n : Bool) (A B : Option Addr) (la ca lb cb : Nat) (m : Int) (hm : (m == 0) = false) (w : World) :
    Calls Tryz.prog 41 #[.iface 105 (.agg #[.bool n, .slice A la ca, .slice B lb cb]), .int .i64 m] w (SayR w (isNeg 0) (D (nu 0)) (D (0 : Rat).den)) := by
  have h1 := as_fm
  have h2 := as_ff
  have hw := whole_int 0
  rw [show (((0 : Int)) : Rat) = 0 from rfl] at hw
  have HW := Lib.hid hw
  clear hw
  go_enter Tryz.func41, Tryz.ntmps41
  go_upto_region 11 with fail
  refine wp_atJ (fun v0 => Below w.heap.size w v0 ∧ RatAt v0 w.heap.size 31 false none 0 0 none 0 0) ⟨below2 _ _ _, (RatAt.new _ _ _ _ _ _ _ _ _).alloc _⟩ ?_
  rintro v0 ⟨hb, r0⟩
  have HB0 := Lib.hid hb
  have HT0 := Lib.hid r0
  clear hb r0
  go_wp2_with (go_at_call 73; refine (HW.out _ (by decide) (by decide)).mono ?_; rintro e w1 ⟨A5, c5, B5, d5, rfl, o, bb⟩; have HO := Lib.hid o; have HT := Lib.hid (HT0.out.on bb); have HB1 := Lib.hid (below_on HB0.out bb); clear o bb; have f0 := HT.out.fz 0; have f1 := HT.out.fz 1; have f2 := HT.out.fz 2; have y0 := HT.out.c0; have y1 := HT.out.c1; have y2 := HT.out.c2)
  have g2 := fun b u v => setAll_grown w1 w.heap.size (.bool b) u v
  refine bodyPost_ret (retR rfl _ _ _ rfl (HT.out.setAll _ _ _ _ _ _ _)) rfl ?_
  exact ⟨A5, c5, B5, d5, rfl, ⟨HO.out.1.past HT.out (g2 _ _ _), HO.out.2.past HT.out (g2 _ _ _)⟩, below_grow HB1.out (Nat.le_refl _) (g2 _ _ _)⟩

set_option maxRecDepth 20000 in
set_option maxHeartbeats 1600000 in
theorem along_at (r : Rat) (ta ts : TypeId) (xa xs : Value) (w : World) (hi : Hid (∀ W, Below w.heap.size w W → Calls Tryz.prog 41 #[.iface ta xa, .int .i64 0] W (SayR W (isNeg r) (D (nu r)) (D r.den)))) :
    Calls Tryz.prog 41 #[.iface 103 (.agg #[.iface ta xa, .iface ts xs]), .int .i64 0] w (SayR w (isNeg r) (D (nu r)) (D r.den)) := by
  have h1 := as_mm
  go_enter Tryz.func41, Tryz.ntmps41
  go_upto_region 6 with fail
  refine wp_atJ (fun v0 => Below w.heap.size w v0 ∧ RatAt v0 w.heap.size 31 false none 0 0 none 0 0 ∧ v0.cell? ⟨w.heap.size + 1, 0, none⟩ = some (.iface ta xa)) ⟨below2 _ _ _, (RatAt.new _ _ _ _ _ _ _ _ _).alloc _, by rw [← World.size_alloc w, cell_of_row _ _ 0 _ _ (0, 0) (heap_alloc_new _ _)]; rfl⟩ ?_
  rintro v0 ⟨hb, r0, c0⟩
  have HB0 := Lib.hid hb
  have HT0 := Lib.hid r0
  clear hb r0
  go_wp2_with (go_at_call 41; refine (hi.out _ HB0.out).mono ?_; rintro e w1 ⟨A5, c5, B5, d5, rfl, o, bb⟩; have HO := Lib.hid o; have HT := Lib.hid (HT0.out.on bb); have HB1 := Lib.hid (below_on HB0.out bb); clear o bb; have f0 := HT.out.fz 0; have f1 := HT.out.fz 1; have f2 := HT.out.fz 2; have y0 := HT.out.c0; have y1 := HT.out.c1; have y2 := HT.out.c2)
  have g2 := fun b u v => setAll_grown w1 w.heap.size (.bool b) u v
  refine bodyPost_ret (retR rfl _ _ _ rfl (HT.out.setAll _ _ _ _ _ _ _)) rfl ?_
  exact ⟨A5, c5, B5, d5, rfl, ⟨HO.out.1.past HT.out (g2 _ _ _), HO.out.2.past HT.out (g2 _ _ _)⟩, below_grow HB1.out (Nat.le_refl _) (g2 _ _ _)⟩

set_option maxRecDepth 20000 in
set_option maxHeartbeats 1600000 in
theorem along_sl (r : Rat) (m : Int) (hm : 0 < m) (hm2 : m ≤ 9) (ta ts : TypeId) (xa xs : Value) (w : World) (hi : Hid (∀ W, Below w.heap.size w W → Calls Tryz.prog 41 #[.iface ts xs, .int .i64 (m - 1)] W (SayR W (isNeg r) (D (nu r)) (D r.den)))) :
    Calls Tryz.prog 41 #[.iface 103 (.agg #[.iface ta xa, .iface ts xs]), .int .i64 m] w (SayR w (isNeg r) (D (nu r)) (D r.den)) := by
  have h1 := as_mm
  go_enter Tryz.func41, Tryz.ntmps41
  go_upto_region 5 with fail
  refine wp_atJ (fun v0 => Below w.heap.size w v0 ∧ RatAt v0 w.heap.size 31 false none 0 0 none 0 0 ∧ v0.cell? ⟨w.heap.size + 1, 1, none⟩ = some (.iface ts xs)) ⟨below2 _ _ _, (RatAt.new _ _ _ _ _ _ _ _ _).alloc _, by rw [← World.size_alloc w, cell_of_row _ _ 1 _ _ (0, 0) (heap_alloc_new _ _)]; rfl⟩ ?_
  rintro v0 ⟨hb, r0, c0⟩
  have HB0 := Lib.hid hb
  have HT0 := Lib.hid r0
  clear hb r0
  go_wp2_with (go_at_call 41; refine (hi.out _ HB0.out).mono ?_; rintro e w1 ⟨A5, c5, B5, d5, rfl, o, bb⟩; have HO := Lib.hid o; have HT := Lib.hid (HT0.out.on bb); have HB1 := Lib.hid (below_on HB0.out bb); clear o bb; have f0 := HT.out.fz 0; have f1 := HT.out.fz 1; have f2 := HT.out.fz 2; have y0 := HT.out.c0; have y1 := HT.out.c1; have y2 := HT.out.c2)
  have g2 := fun b u v => setAll_grown w1 w.heap.size (.bool b) u v
  refine bodyPost_ret (retR rfl _ _ _ rfl (HT.out.setAll _ _ _ _ _ _ _)) rfl ?_
  exact ⟨A5, c5, B5, d5, rfl, ⟨HO.out.1.past HT.out (g2 _ _ _), HO.out.2.past HT.out (g2 _ _ _)⟩, below_grow HB1.out (Nat.le_refl _) (g2 _ _ _)⟩

/-- a jet's number along so many ways -/
theorem along_any : ∀ (j : Jt) (k : Nat) (v : Value) (P : Nat → Prop) (w : World), k ≤ 9 → JAt 105 103 w P j v →
    Calls Tryz.prog 41 #[v, .int .i64 (k : Int)] w (SayR w (isNeg (numJ j k)) (D (nu (numJ j k))) (D (numJ j k).den))
  | .fx q, 0, v, P, w, _, h => by
    obtain ⟨A, ca, B, cb, rfl, hr⟩ := h
    rw [numJ_fx0]; exact along_fx0 q A B ca cb P w hr
  | .fx q, k + 1, v, P, w, _, h => by
    obtain ⟨A, ca, B, cb, rfl, hr⟩ := h
    rw [numJ_fx1]; exact along_fxS _ A B _ ca _ cb _ (by simp; omega) w
  | .mv a s, 0, v, P, w, hk, h => by
    obtain ⟨va, vs, rfl, ha, hs⟩ := h
    obtain ⟨ta, xa, rfl⟩ := ha.shape
    obtain ⟨ts, xs, rfl⟩ := hs.shape
    rw [numJ]
    exact along_at _ ta ts xa xs w (Lib.hid fun W hb => along_any a 0 _ P W hk (ha.on hb))
  | .mv a s, k + 1, v, P, w, hk, h => by
    obtain ⟨va, vs, rfl, ha, hs⟩ := h
    obtain ⟨ta, xa, rfl⟩ := ha.shape
    obtain ⟨ts, xs, rfl⟩ := hs.shape
    rw [numJ_mv]
    refine along_sl _ _ (by omega) (by omega) ta ts xa xs w (Lib.hid fun W hb => ?_)
    have := along_any s k _ P W (by omega) (hs.on hb)
    rwa [show ((k + 1 : Nat) : Int) - 1 = (k : Int) by omega]
end Go.Proofs.YtifepoefeamboaaGreatDoor
namespace Nt
open Go Go.RowKit
def noInt (u : Value) : Bool := match u with
  | .int _ _ => false
  | _ => true
/-- no cell of the slice's block holds an integer -/
def Free (w : World) (V : Option Addr) : Prop := ∀ g, V = some ⟨g, 0, none⟩ → ∀ cur t f, w.heap[g]? = some (.cells cur t f) → ∀ u ∈ cur.toList, noInt u = true
theorem Free.nil (w : World) : Free w none := fun g h => by cases h
theorem cell_mem {w : World} {b i : Nat} {u : Value} (h : w.cell? ⟨b, i, none⟩ = some u) : ∃ cur t f, w.heap[b]? = some (.cells cur t f) ∧ u ∈ cur.toList := by
  unfold World.cell? at h
  dsimp only at h
  cases e : w.heap[b]? with
  | none => rw [e] at h; cases h
  | some o =>
    rw [e] at h
    cases o with
    | cells c t f =>
      refine ⟨c, t, f, rfl, ?_⟩
      simp at h
      have := Array.mem_of_getElem? h
      simpa using this
    | _ => cases h
theorem Free.on {w w' : World} {V : Option Addr} (h : Free w V) (hb : Below w.heap.size w w') (hl : ∀ g, V = some ⟨g, 0, none⟩ → g < w.heap.size) : Free w' V :=
  fun g e cur t f hg => h g e cur t f ((hb.block g (hl g e)).symm.trans hg)
theorem own_ltF {w : World} {base k cv tr sz : Nat} {V : Option Addr} {vs : List Value} (ho : w.ownsRow base tr sz (.slice V k cv) k vs) : ∀ g, V = some ⟨g, 0, none⟩ → g < w.heap.size := by
  rintro g rfl
  exact (ho.lt g rfl).2
theorem Rd.beside {w : World} {P : Nat → Prop} {V A : Option Addr} {n c : Nat} {xs : List Int} (h : Rd w P A n c xs) (hf : Free w V) : Rd w (fun b => V ≠ some ⟨b, 0, none⟩) A n c xs :=
  ⟨h.1, h.2.1, h.2.2.1, fun hn => by
    obtain ⟨b, o, e, hp, hlt, hc⟩ := h.2.2.2 hn
    refine ⟨b, o, e, fun hV => ?_, hlt, hc⟩
    obtain ⟨cur, t, f, h1, h2⟩ := cell_mem (hc 0 hn)
    have := hf b hV cur t f h1 _ h2
    cases this⟩
theorem RdR.beside {w : World} {P : Nat → Prop} {V A B : Option Addr} {ca cb : Nat} {xs ys : List Int} (h : RdR w P xs ys A ca B cb) (hf : Free w V) : RdR w (fun b => V ≠ some ⟨b, 0, none⟩) xs ys A ca B cb := ⟨h.1.beside hf, h.2.beside hf⟩
theorem JAt.beside {tF tM : TypeId} {w : World} {P : Nat → Prop} {V : Option Addr} (hf : Free w V) : ∀ {j : Jt} {v : Value}, JAt tF tM w P j v → JAt tF tM w (fun b => V ≠ some ⟨b, 0, none⟩) j v
  | .fx _, _, ⟨A, ca, B, cb, e, h⟩ => ⟨A, ca, B, cb, e, RdR.beside h hf⟩
  | .mv _ _, _, ⟨va, vs, e, h1, h2⟩ => ⟨va, vs, e, JAt.beside hf h1, JAt.beside hf h2⟩
theorem zero_free {z : Array Value} {n : Nat} (h : ∀ u ∈ z.toList, noInt u = true) : ∀ u ∈ (Builtin.zeroCells z n).toList, noInt u = true := by
  intro u hu
  unfold Builtin.zeroCells at hu
  simp at hu
  obtain ⟨i, hi, rfl⟩ := hu
  apply h
  have hz : 0 < z.size := by
    rcases Nat.eq_zero_or_pos z.size with e | e
    · rw [e] at hi; omega
    · exact e
  have hm := Nat.mod_lt i hz
  rw [getElem!_pos z _ hm]
  simp
section
variable {P : Program} (w : World)
/-- append keeps a row's block free of integers -/
theorem append_free (t ty : TypeId) (base : Nat) (e : TypeId) (i : TypeInfo) (z : Value) (size bytes : Nat) (ht : P.underlying t = some (.slice e)) (hi : P.info? e = some i) (hz : i.zero = some z)
    (hsize : i.size = size) (hby : i.bytes = bytes) (hzs : z.cells.size = size) (hsz : 0 < size)
    (v : Option Addr) (n cv : Nat) (xs : List Value) (hown : w.ownsRow base e size (.slice v n cv) n xs)
    (ad : Addr) (m c : Nat) (news : List Value) (hl : news.length = m * size) (hnews : ∀ j u, news[j]? = some u → w.cell? (ad.add j) = some u) (h1 : ∀ u ∈ news, u.oneCell' = true)
    (hm : 0 < m) (h63 : n + m ≤ maxLen) (hbytes : (n + m) * bytes ≤ 140737488355328)
    (hF : Free w v) (hN : ∀ u ∈ news, noInt u = true) (hZ : ∀ u ∈ z.cells.toList, noInt u = true) (V' : Option Addr) (n' c' : Nat) (w' : World)
    (hr : (Builtin.append_ #[t, t] ty #[.slice v n cv, .slice (some ad) m c]).run P w = .ok (.slice V' n' c') w') : Free w' V' := by
  subst hsize
  subst hby
  simp only [maxLen] at h63
  have fresh : ∀ (o : Nat) (ys : List Value) (k : Nat), (∀ u ∈ ys, noInt u = true) → V' = some ⟨w.heap.size, 0, none⟩ → w' = w.drew.alloc (.cells (ys.toArray ++ Builtin.zeroCells z.cells k) e) → Free w' V' := by
    intro o ys k hys e1 e2 g hg cur t' f hc u hu
    rw [e1] at hg
    injection hg with hg
    injection hg with hg
    subst hg
    rw [e2] at hc
    have := (heap_alloc_new w.drew (.cells (ys.toArray ++ Builtin.zeroCells z.cells k) e)).symm.trans hc
    injection this with this
    injection this with this
    subst this
    rw [Array.toList_append, List.mem_append] at hu
    rcases hu with hu | hu
    · exact hys u (by simpa using hu)
    · exact zero_free hZ u hu
  rcases hown.2 with ⟨hv, h0⟩ | ⟨g, cap, cur, hv, hbg, hg, hnc, hcm, hcs, htake⟩
  · injection hv with e1 e2 e3
    subst e1 e2 e3
    have hr2 := run_append_nil (P := P) w t ty e i z ht hi hz ad m c news hl hnews hm (by omega) (by have hb := hbytes; simp only [Nat.zero_add] at hb; omega)
    rw [hr2] at hr
    injection hr with a1 a2
    injection a1 with a1
    exact fresh 0 news _ hN a1.symm a2.symm
  · injection hv with e1 e2 e3
    subst e1 e3
    by_cases hroom : n + m ≤ cv
    · have hfit : n * i.size + news.length ≤ cur.size := by rw [hl, hcs, ← Nat.add_mul]; exact Nat.mul_le_mul_right _ hroom
      have hr2 := run_append_room (P := P) w t ty e i ht hi g n cv cur hg ad m c news hl hnews h1 hroom hfit
      rw [hr2] at hr
      injection hr with a1 a2
      injection a1 with a1
      rintro g' hg' cur' t' f hc u hu
      rw [← a1] at hg'
      injection hg' with hg'
      injection hg' with hg'
      subst hg'
      rw [← a2] at hc
      have := (setRow_heap w g cur _ e _ hg).symm.trans hc
      injection this with this
      injection this with this
      subst this
      simp only [List.mem_append] at hu
      rcases hu with (hu | hu) | hu
      · exact hF g rfl cur _ _ hg u (List.mem_of_mem_take hu)
      · exact hN u hu
      · exact hF g rfl cur _ _ hg u (List.mem_of_mem_drop hu)
    · have holds : ∀ j u, xs[j]? = some u → w.cell? ((⟨g, 0, none⟩ : Addr).add j) = some u := hown.cells (g := g) rfl
      have hr2 := run_append_grow (P := P) w t ty e i z ht hi hz ⟨g, 0, none⟩ n cv xs hown.1 holds ad m c news hl hnews (by omega) (by omega) (growslice_fits (by omega) hbytes)
      rw [hr2] at hr
      injection hr with a1 a2
      injection a1 with a1
      refine fresh 0 (xs ++ news) (grownCap w (n + m) cv e - (n + m)) (fun u hu => ?_) a1.symm (by rw [← a2]; simp)
      rcases List.mem_append.1 hu with hu | hu
      · rw [← htake] at hu
        exact hF g rfl cur _ _ hg u (List.mem_of_mem_take hu)
      · exact hN u hu
/-- the same at a region's list -/
theorem wpList_append_free {ops : Array Oper} {rest : List Oper} {o : Oper} {a : Act} {Q : Exit → Act → World → Prop} (hgd : o.guard = none) (s x : Operand) (t : TypeId)
    (ho : o.op = .call { callee := .builtin .append, args := #[s, x], argTypes := #[t, t] })
    (base : Nat) (e : TypeId) (i : TypeInfo) (z : Value) (size bytes : Nat) (ht : P.underlying t = some (.slice e)) (hi : P.info? e = some i) (hz : i.zero = some z)
    (hsize : i.size = size) (hby : i.bytes = bytes) (hzs : z.cells.size = size) (hsz : 0 < size) (hZ : ∀ u ∈ z.cells.toList, noInt u = true)
    (v : Option Addr) (n cv : Nat) (xs : List Value) (hs : a.eval s = .slice v n cv) (hown : w.ownsRow base e size (.slice v n cv) n xs)
    (ad : Addr) (m c : Nat) (news : List Value) (hx : a.eval x = .slice (some ad) m c) (hl : news.length = m * size) (hnews : ∀ j u, news[j]? = some u → w.cell? (ad.add j) = some u) (h1 : ∀ u ∈ news, u.oneCell' = true) (hN : ∀ u ∈ news, noInt u = true)
    (hm : 0 < m) (h63 : n + m ≤ maxLen) (hbytes : (n + m) * bytes ≤ 140737488355328) (hbase : base ≤ w.heap.size) (hF : Free w v) (H : Nat) (hH : w.heap.size = H)
    (h : ∀ g cap w', w'.ownsRow base e size (.slice (some ⟨g, 0, none⟩) (n + m) cap) (n + m) (xs ++ news) → w.grownBy w' (Value.slice v n cv).ownBlock → ((Value.slice v n cv).ownBlock = some g ∨ g = H) → Free w' (some ⟨g, 0, none⟩) → wpList P ops Q rest (a.put o.dst (.slice (some ⟨g, 0, none⟩) (n + m) cap)) w') : wpList P ops Q (o :: rest) a w := by
  obtain ⟨g, cap, w', hr, h2, h3, h4, h5⟩ := run_append_lies (P := P) w t o.type base e i z size bytes ht hi hz hsize hby hzs hsz (.slice v n cv) n xs hown ad m c news hl hnews h1 hm h63 hbytes hbase H hH
  have h6 := append_free (P := P) w t o.type base e i z size bytes ht hi hz hsize hby hzs hsz v n cv xs hown ad m c news hl hnews h1 hm h63 hbytes hF hN hZ _ _ _ w' hr
  refine wpList_plain hgd fun K hK => ?_
  unfold Oper.wp execOp
  simp only [ho, resolve, invoke, builtin, Sem.run_bind, Sem.run_pure, Result.andThen_ok, List.map_toArray, List.map_cons, List.map_nil, hs, hx, hr]
  exact hK _ _ (h g cap w' h2 h3 h4 h6)
end
end Nt
namespace Nt
open Go Go.RowKit
theorem getD_L2 {acc : List Jt} (h : ∀ j ∈ acc, L2 j 40 40 40 40) (i : Nat) : L2 (acc.getD i j0) 40 40 40 40 := by
  by_cases hi : i < acc.length
  · exact h _ (getD_mem hi)
  · have : acc.getD i j0 = j0 := by simp [List.getD, Nat.le_of_not_lt hi]
    rw [this]; exact (L2.fx lim_zero).mono (by omega) (by omega) (by omega) (by omega)
theorem lim_big (n : Int) (h0 : 0 ≤ n) (h1 : n ≤ 999999999) : lim (n : Rat) 40 := by
  constructor
  · have e : nu (n : Rat) = n.natAbs := by unfold nu; rw [Rat.num_intCast]
    rw [e]; refine (D_len_le _ 40).2 (Nat.lt_of_le_of_lt (show n.natAbs ≤ 999999999 by omega) (by decide))
  · rw [Rat.den_intCast, D_1_len]; omega
/-- no number of a node's jet is longer than this -/
theorem step_L2 {vars acc : List Jt} {x : Nd} {j : Jt} (hf : fitN x = true) (hv : ∀ j ∈ vars, L2 j 40 40 40 40) (ha : ∀ j ∈ acc, L2 j 40 40 40 40) (h : stepJ vars acc x = some j) : L2 j 3600 3600 3600 3600 := by
  have hA := getD_L2 ha x.2.1.toNat
  have hB := getD_L2 ha x.2.2.1.toNat
  have hV := getD_L2 hv x.2.2.2.toNat
  unfold fitN mostN at hf
  simp only [Bool.and_eq_true, decide_eq_true_eq] at hf
  obtain ⟨⟨⟨⟨⟨f1, f2⟩, f3⟩, f4⟩, -⟩, -⟩ := hf
  unfold stepJ at h
  generalize acc.getD x.2.1.toNat j0 = f at *
  generalize acc.getD x.2.2.1.toNat j0 = g at *
  split at h
  · rename_i e; cases h
    rw [if_pos e] at f4
    exact (L2.fx (lim_big _ f3 f4)).mono (by omega) (by omega) (by omega) (by omega)
  split at h
  · cases h; exact hV.mono (by omega) (by omega) (by omega) (by omega)
  split at h
  · cases h; exact (hA.sum hB).mono (by omega) (by omega) (by omega) (by omega)
  split at h
  · cases h; exact (hA.sum hB.neg).mono (by omega) (by omega) (by omega) (by omega)
  split at h
  · cases h; exact (hA.prod hB).mono (by omega) (by omega) (by omega) (by omega)
  split at h
  · split at h
    · cases h
    · cases h; exact (hA.prod (hB.inv (by omega))).mono (by omega) (by omega) (by omega) (by omega)
  split at h
  · cases h; exact hA.neg.mono (by omega) (by omega) (by omega) (by omega)
  · cases h
    have : x.2.2.2.toNat ≤ 8 := by
      rename_i e1 e2 e3 e4 e5 e6 e7
      have e8 : x.1 = 8 := by omega
      rw [if_neg e1, if_neg e2, if_pos e8] at f4
      omega
    exact (hA.raise this).mono (by omega) (by omega) (by omega) (by omega)
/-- jets that can be read, and a code -/
def SayJs (tF tM : TypeId) (w : World) (js : List Jt) (code : Int) (e : Ending) (w' : World) : Prop :=
  ∃ V cv, e = .returned (.tuple #[.slice V js.length cv, .int .i64 code]) ∧ RdJ tF tM w' V js.length cv js ∧ Below w.heap.size w w'
theorem rdj_nil (tF tM : TypeId) (w : World) (A : Option Addr) (c : Nat) : RdJ tF tM w A 0 c [] := ⟨rfl, Nat.zero_le _, fun h => absurd h (Nat.lt_irrefl _)⟩
theorem js_none {vars : List Jt} {ns : List Nd} {k : Nat} {js : List Jt} (hk : k < ns.length) (hj : evalJ vars (ns.take k) = (js, 0)) (hs : stepJ vars js (ns.getD k nd0) = none) : evalJ vars ns = ([], 10) := by
  have e : evalJ vars (ns.take (k + 1)) = ([], 10) := by rw [evalJ_take vars ns k hk, hj]; unfold estep; rw [if_pos rfl]; dsimp only; rw [hs]
  rw [evalJ_stop vars ns (k + 1) (by rw [e]; decide), e]
theorem js_full {vars : List Jt} {ns : List Nd} {k : Nat} {js : List Jt} {j : Jt} (hk : k < ns.length) (hj : evalJ vars (ns.take k) = (js, 0)) (hs : stepJ vars js (ns.getD k nd0) = some j) (hf : fitsJ j = false) : evalJ vars ns = ([], 7) := by
  have e : evalJ vars (ns.take (k + 1)) = ([], 7) := by rw [evalJ_take vars ns k hk, hj]; unfold estep; rw [if_pos rfl]; dsimp only; rw [hs]; dsimp only; rw [if_neg (by rw [hf]; decide)]
  rw [evalJ_stop vars ns (k + 1) (by rw [e]; decide), e]
theorem js_more {vars : List Jt} {ns : List Nd} {k : Nat} {js : List Jt} {j : Jt} (hk : k < ns.length) (hj : evalJ vars (ns.take k) = (js, 0)) (hs : stepJ vars js (ns.getD k nd0) = some j) (hf : fitsJ j = true) : evalJ vars (ns.take (k + 1)) = (js ++ [j], 0) := by
  rw [evalJ_take vars ns k hk, hj]; unfold estep; rw [if_pos rfl]; dsimp only; rw [hs]; dsimp only; rw [if_pos hf]
theorem js_L2 {d : Nat} (hd : d ≤ 2) {vars : List Jt} {ns : List Nd} {k : Nat} {js : List Jt} (hv : ∀ j ∈ vars, j.dep ≤ d) (hk : k ≤ ns.length) (hj : evalJ vars (ns.take k) = (js, 0)) : js.length = k ∧ ∀ j ∈ js, L2 j 40 40 40 40 := by
  have ok := evalJ_ok hv ns k hk (by rw [hj])
  rw [hj] at ok
  exact ⟨ok.len, fun j h => L2.of_fits (Nat.le_trans (ok.dep j h) hd) (ok.fit j h)⟩
theorem js_dep {d : Nat} {vars : List Jt} {ns : List Nd} {k : Nat} {js : List Jt} {x : Nd} {j : Jt} (hv : ∀ j ∈ vars, j.dep ≤ d) (hk : k ≤ ns.length) (hj : evalJ vars (ns.take k) = (js, 0)) (hs : stepJ vars js x = some j) : j.dep ≤ d := by
  have ok := evalJ_ok hv ns k hk (by rw [hj])
  rw [hj] at ok
  exact stepJ_dep hv ok.dep hs
end Nt
namespace Go.Proofs.YtifepoefeamboaaGreatDoor
open Go Go.RowKit Nt

theorem infoJet : (Tryz.prog.info? 64).map (fun i => (i.zero, i.size, i.bytes)) = some (some .nilIface, 1, 16) := by kernel_rfl



set_option maxRecDepth 40000 in
set_option maxHeartbeats 6400000 in
/-- all nodes' jets: the first at fault gives the code -/
theorem jetsOf_fits (ns : List Nd) (vars : List Jt) (A X : Option Addr) (n c mx dx : Nat) (P : Nat → Prop) (w : World) (ad : Addr) (hE : ErrAt 195 w ad) (hr : RdN w P A n c ns) (hv : RdJ 105 103 w X mx dx vars) (hd : ∀ j ∈ vars, j.dep ≤ 2) (hL : ∀ j ∈ vars, L2 j 40 40 40 40)
    (hg : ∀ k, k < n → fitN (ns.getD k nd0) = true ∧ behind (ns.getD k nd0) k = true ∧ ((ns.getD k nd0).1 = 2 → (ns.getD k nd0).2.2.2 < mx)) (hn : n ≤ 60) :
    Calls Tryz.prog 71 #[.slice A n c, .slice X mx dx, .func (.methodOf 64 "loop.example/g00615/impl.fits") #[] #[]] w (SayJs 105 103 w (evalJ vars ns).1 (evalJ vars ns).2) := by
  have HLN : Hid (ns.length = n) := hr.len
  have HR := Lib.hid (hr.mono (Q := (· < w.heap.size)) fun _ _ h => h)
  have HV := Lib.hid hv
  have HD := Lib.hid hd
  have HL := Lib.hid hL
  have HG := Lib.hid hg
  have HE := Lib.hid hE
  have hg0 := hE.2
  clear hr hv hd hL hg hE
  obtain ⟨i0, hi0, hz⟩ := Option.map_eq_some_iff.1 infoJet
  simp only [Prod.mk.injEq] at hz
  obtain ⟨hz0, hz1, hz2⟩ := hz
  go_enter Tryz.func71, Tryz.ntmps71
  go_wp2
  go_loopw [8, 15] (fun v i wr => ∃ (k : Nat) (V : Option Addr) (cv : Nat) (js : List Jt) (vs : List Value), k ≤ n ∧ i = .int .i64 k ∧ v = .slice V k cv ∧ Hid (evalJ vars (ns.take k) = (js, 0)) ∧ Hid (wr.ownsRow w.heap.size 64 1 (.slice V k cv) k vs) ∧ Hid (PartsJ 105 103 wr V js vs) ∧ Hid (Free wr V) ∧ Hid (Below w.heap.size w wr)) (fun _ i _ => n - (intOf i).toNat)
  case atStart => exact ⟨0, none, 0, [], [], Nat.zero_le _, rfl, rfl, Lib.hid rfl, Lib.hid (World.ownsRow_nil _ _ _ _), Lib.hid (PartsJ.nil _ _ _ _), Lib.hid (Free.nil _), Lib.hid (Below.refl _ _)⟩
  case round =>
    obtain ⟨k, V, cv, js, vs, hk, rfl, rfl, HEV, HO, HP, HF, HB⟩ := hrel
    by_cases hlt : k < n
    · obtain ⟨b, o, rfl, _, hP, hc⟩ := HR.out.at_ (by omega)
      obtain ⟨q0, q1, q2, q3⟩ := hc k hlt
      have hkN : (k : Int) < n := by omega
      have hkl : k < ns.length := by rw [HLN.out]; exact hlt
      have HGK := Lib.hid (HG.out k hlt)
      have HL2 := Lib.hid (js_L2 (by decide : 2 ≤ 2) HD.out (by omega) HEV.out)
      have HNO := Lib.hid (fun h => js_none hkl HEV.out h)
      have HFU := Lib.hid (fun j h h' => js_full (j := j) hkl HEV.out h h')
      have HMO := Lib.hid (fun j h h' => js_more (j := j) hkl HEV.out h h')
      have HDP := Lib.hid (fun x j h => js_dep (x := x) (j := j) HD.out (by omega) HEV.out h)
      have hbs := HB.out.size
      obtain ⟨x, hx⟩ : ∃ x, ns.getD k nd0 = x := ⟨_, rfl⟩
      rw [hx] at q0 q1 q2 q3 HGK HNO HFU HMO
      have q0 := (HB.out.cell (p := ⟨b, o + k * 4, none⟩) hP).trans q0
      have q1 := (HB.out.cell (p := ⟨b, o + k * 4 + 1, none⟩) hP).trans q1
      have q2 := (HB.out.cell (p := ⟨b, o + k * 4 + 2, none⟩) hP).trans q2
      have q3 := (HB.out.cell (p := ⟨b, o + k * 4 + 3, none⟩) hP).trans q3
      clear hx hc hkl HEV
      obtain ⟨op, xa, xb, xn⟩ := x
      dsimp only at q0 q1 q2 q3
      go_wp2_with fail
      refine calls_at (fun W => Below wr.heap.size wr W) (below1 _ _) ?_
      rintro W bW
      have HBW := Lib.hid (below_on HB.out bW)
      have hja := jet_any (op, xa, xb, xn) vars js X V mx dx k cv W ad (HE.out.on HBW.out) (HV.out.on HBW.out) ((HP.out.rdj HO.out).on bW) HGK.out HL2.out.2
      cases hs : stepJ vars js (op, xa, xb, xn) with
      | none =>
        refine (hja.2 hs).mono ?_
        rintro e w1 ⟨v1, rfl, b1⟩
        have HB1 := Lib.hid (below_on HBW.out b1)
        have HRES := Lib.hid (HNO.out hs)
        have hgl := (HE.out.on HB1.out).1
        clear b1 bW hja hs HP HO HF HNO HFU HMO q0 q1 q2 q3
        go_wp2_with (go_at_call 106; refine (isErr_same ad _).mono ?_; rintro e w2 ⟨rfl, rfl⟩)
        refine bodyPost_ret (results_tmp2 rfl _ _ _) rfl ?_
        rw [HRES.out]
        exact ⟨none, 0, rfl, rdj_nil _ _ _ _ _, HB1.out⟩
      | some j =>
        refine (hja.1 j hs).mono ?_
        rintro e w1 ⟨t1, x1, rfl, j1, b1⟩
        have bWw := below_on bW b1
        have HB1 := Lib.hid (below_on HBW.out b1)
        have HJ1 := Lib.hid j1
        have HO1 := Lib.hid (own_keep3 HO.out bWw)
        have HP1 := Lib.hid (HP.out.on bWw)
        have HF1 := Lib.hid (HF.out.on bWw (own_ltF HO.out))
        have HLJ := Lib.hid (step_L2 HGK.out.1 HL.out HL2.out.2 hs)
        have hdj := HDP.out _ j hs
        have HFUL := Lib.hid (fun h => HFU.out j hs h)
        have HMOR := Lib.hid (fun h => HMO.out j hs h)
        have hgl := (HE.out.on HB1.out).1
        have hs1 : wr.heap.size ≤ w1.heap.size := bWw.size
        clear b1 bW bWw hja hs HP HO HF HNO HFU HMO HDP HL2 HGK q0 q1 q2 q3 j1
        go_upto_region 8 with (go_at_call 106; refine (isErr_nil ad _).mono ?_; rintro e w2 ⟨rfl, rfl⟩)
        clear hgl
        obtain ⟨K, k1, k2, k3⟩ := fits_any j t1 x1 _ _ HJ1.out (HLJ.out.each (by omega) (by omega) (by omega) (by omega))
        rcases k1 with rfl | rfl
        all_goals (
          generalize hfj : fitsJ j = fj at *
          cases fj
          · go_wp2_with (first | (go_at_call_of 192 x1; refine (k3 _ (Below.refl _ _)).mono ?_; rintro e w2 ⟨rfl, bf⟩; have HB2 := Lib.hid (below_on HB1.out bf)) | (go_at_call_of 189 x1; refine (k3 _ (Below.refl _ _)).mono ?_; rintro e w2 ⟨rfl, bf⟩; have HB2 := Lib.hid (below_on HB1.out bf)))
            refine bodyPost_ret (results_tmp2 rfl _ _ _) rfl ?_
            rw [HFUL.out (by simp)]
            exact ⟨none, 0, rfl, rdj_nil _ _ _ _ _, HB2.out⟩
          · go_upto_region 10 with (first | (go_at_call_of 192 x1; refine (k3 _ (Below.refl _ _)).mono ?_; rintro e w2 ⟨rfl, bf⟩; have HB2 := Lib.hid (below_on HB1.out bf)) | (go_at_call_of 189 x1; refine (k3 _ (Below.refl _ _)).mono ?_; rintro e w2 ⟨rfl, bf⟩; have HB2 := Lib.hid (below_on HB1.out bf)))
            have HJ2 := Lib.hid (HJ1.out.on bf)
            have HO2 := Lib.hid (own_keep3 HO1.out bf)
            have HF2 := Lib.hid (HF1.out.on bf (own_ltF HO1.out))
            have HP2 := Lib.hid ((HP1.out.on bf).snoc (HJ2.out.beside HF2.out))
            have hs2 := bf.size
            clear bf HJ1 HO1 HF1 HP1 HJ2 HB1
            go_wp2_with (at_builtin; refine wpList_append_free _ rfl _ _ 96 rfl w.heap.size 64 i0 _ 1 16 Tryz.underlying96 hi0 hz0 hz1 hz2 rfl (by decide) (by decide) _ k _ vs rfl (HO2.out.alloc _) ⟨w2.heap.size, 0, none⟩ 1 1 [.iface t1 x1] rfl rfl (cellJ _ _ _) (oneJ _ _) (by simp [noInt]) (by decide) (by unfold maxLen; omega) (by omega) (by simp; omega) (HF2.out.on (below1 _ _) (own_ltF HO2.out)) _ rfl ?_; intro g' cv' w3 hown hgrow hat hfree)
            have hlit := below1 w2 (.cells #[.iface t1 x1] 64)
            have HO3 : Hid (w3.ownsRow w.heap.size 64 1 (.slice (some ⟨g', 0, none⟩) (k + 1) cv') (k + 1) (vs ++ [.iface t1 x1])) := hown
            have HP3 := Lib.hid ((HP2.out.on hlit).appended (HO2.out.alloc _) hgrow hat)
            have HF3 := Lib.hid hfree
            have HB3 := Lib.hid ((below_on HB2.out hlit).trans (row1_below (HO2.out.alloc _) (by simp; omega) hgrow))
            clear hown hgrow hat hfree hlit HP2 HO2 HF2 HB2
            go_wp2
            go_roundw
            case rel => exact ⟨k + 1, _, _, _, _, by omega, by go_num, rfl, Lib.hid (HMOR.out (by simp)), HO3, HP3, HF3, HB3⟩
            case measure => simp [intOf]; omega)
    · obtain rfl : k = n := by omega
      have HT : Hid (evalJ vars ns = (js, 0)) := by
        show _ = _
        rw [← HEV.out, List.take_of_length_le (by rw [HLN.out]; exact Nat.le_refl _)]
      have hjl : js.length = k := by rw [HP.out.1]; have := HO.out.1; omega
      have HJ := Lib.hid (HP.out.rdj HO.out)
      clear HEV HP HO HF
      go_wp2
      refine bodyPost_ret (results_tmp2 rfl _ _ _) rfl ?_
      rw [HT.out, SayJs]
      dsimp only
      rw [hjl]
      exact ⟨V, cv, rfl, HJ.out, HB.out⟩
end Go.Proofs.YtifepoefeamboaaGreatDoor
