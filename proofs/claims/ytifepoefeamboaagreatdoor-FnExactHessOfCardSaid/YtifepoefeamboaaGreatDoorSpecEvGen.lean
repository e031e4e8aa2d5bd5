/-
  What l06Eval of the model says, in one form; what is asked of a place and a way: l06Two.
-/
import Derived.Test.YtifepoefeamboaaGreatDoorSpecAsk
import Derived.Test.YtifepoefeamboaaGreatDoorSpecEval
import Derived.Test.YtifepoefeamboaaGreatDoorSpecVecA
import Derived.Test.YtifepoefeamboaaGreatDoorPlaceWay
import Derived.Deep.CutRange
namespace Nt
open Go Go.RowKit
theorem two_code {right : Bool} {ns : List Nd} {m mv : Nat} {rs sv : List R3} (h : ¬ 4096 < m) (h' : ¬ 4096 < mv) : ptCode1 right ns m mv rs sv = if ptCode right ns m rs = 0 then askV m mv rs sv else ptCode right ns m rs := by
  unfold ptCode1 ptCode
  rw [if_neg (by omega), if_neg h]
  by_cases h1 : (right && okV rs) = true
  · rw [if_pos h1, if_pos h1]
    by_cases h2 : (m : Int) < dimE ns
    · rw [if_pos h2, if_pos h2, if_neg (by decide)]
    · rw [if_neg h2, if_neg h2, if_pos rfl]
  · rw [if_neg h1, if_neg h1, if_neg (by decide)]
end Nt
namespace Go.Proofs.YtifepoefeamboaaGreatDoor
open Go Go.RowKit Nt

/-- what l06Eval says, in one form -/
theorem l06Eval_gen (A X XV XW : Option Addr) (n c m d dv dw : Nat) (ns : List Nd) (qs vs ws : List Rat) (js : List Q4) (code : Int) (P P' P1 P2 : Nat → Prop) (w : World) (hr : RdN w P A n c ns) (hx : RdS w P' X m d (qs.map rat3)) (hxv : RdS w P1 XV m dv (vs.map rat3)) (hxw : RdS w P2 XW m dw (ws.map rat3)) (hf : Fine qs) (hfv : Fine vs) (hfw : Fine ws)
    (hg : ∀ k, k < n → fitN (ns.getD k nd0) = true ∧ behind (ns.getD k nd0) k = true ∧ ((ns.getD k nd0).1 = 2 → (ns.getD k nd0).2.2.2 < m)) (hn1 : 1 ≤ n) (hn : n ≤ 60) (hR : eval4 qs vs ws ns = (js, code)) :
    Calls Tryz.prog 60 #[.agg #[.slice A n c], .slice X m d, .slice XV m dv, .slice XW m dw] w fun e w' => ∃ (nb0 : Bool) (Ea0 : Option Addr) (ea0 ec0 : Nat) (Fb0 : Option Addr) (fb0 fd0 : Nat) (nb1 : Bool) (Ea1 : Option Addr) (ea1 ec1 : Nat) (Fb1 : Option Addr) (fb1 fd1 : Nat) (nb2 : Bool) (Ea2 : Option Addr) (ea2 ec2 : Nat) (Fb2 : Option Addr) (fb2 fd2 : Nat) (nb3 : Bool) (Ea3 : Option Addr) (ea3 ec3 : Nat) (Fb3 : Option Addr) (fb3 fd3 : Nat), e = .returned (.tuple #[.agg #[.bool nb0, .slice Ea0 ea0 ec0, .slice Fb0 fb0 fd0, .bool nb1, .slice Ea1 ea1 ec1, .slice Fb1 fb1 fd1, .bool nb2, .slice Ea2 ea2 ec2, .slice Fb2 fb2 fd2, .bool nb3, .slice Ea3 ea3 ec3, .slice Fb3 fb3 fd3], .int .i64 code]) ∧ (code = 0 → Q4V w' (js.getD (n - 1) q40) (.agg #[.bool nb0, .slice Ea0 ea0 ec0, .slice Fb0 fb0 fd0, .bool nb1, .slice Ea1 ea1 ec1, .slice Fb1 fb1 fd1, .bool nb2, .slice Ea2 ea2 ec2, .slice Fb2 fb2 fd2, .bool nb3, .slice Ea3 ea3 ec3, .slice Fb3 fb3 fd3]) ∧ lims (js.getD (n - 1) q40) 40) ∧ Below w.heap.size w w' := by
  have hln : ns.length = n := hr.len
  refine (l06Eval_any A X XV XW n c m d dv dw ns qs vs ws _ _ _ _ w hr hx hxv hxw hf hfv hfw hg hn1 hn).mono ?_
  intro e w' h
  rw [hR] at h
  rcases h with ⟨h0, v, rfl, hq, hb⟩ | ⟨h0, rfl, hb⟩
  · dsimp only at h0
    subst h0
    have hl : lims (js.getD (n - 1) q40) 40 := by
      have := eval4_ok qs vs ws ns ns.length (Nat.le_refl _) (by rw [List.take_length, hR])
      rw [List.take_length, hR] at this
      exact getQ_fit this.2 (n - 1) (by rw [this.1]; omega)
    obtain ⟨A0, c0, B0, d0, A1, c1, B1, d1, A2, c2, B2, d2, A3, c3, B3, d3, rfl, h0, h1, h2, h3⟩ := hq
    exact ⟨_, _, _, _, _, _, _, _, _, _, _, _, _, _, _, _, _, _, _, _, _, _, _, _, _, _, _, _, rfl, fun _ => ⟨⟨A0, c0, B0, d0, A1, c1, B1, d1, A2, c2, B2, d2, A3, c3, B3, d3, rfl, h0, h1, h2, h3⟩, hl⟩, hb⟩
  · exact ⟨_, _, _, _, _, _, _, _, _, _, _, _, _, _, _, _, _, _, _, _, _, _, _, _, _, _, _, _, rfl, fun h => absurd h h0, hb⟩

set_option maxRecDepth 100000 in
set_option maxHeartbeats 12800000 in
theorem l06Two_any (A X Y : Option Addr) (n c m d mv dv : Nat) (ns : List Nd) (rs sv : List R3) (P P' P2 : Nat → Prop) (w : World) (hr : RdN w P A n c ns) (hx : RdS w P' X m d rs) (hy : RdS w P2 Y mv dv sv) (hsm : Small rs) (hsv : Small sv) (hn : n ≤ 1048576) (hm : m ≤ 1048576) (hmv : mv ≤ 1048576) (h4 : ¬ 4096 < m) (h4' : ¬ 4096 < mv) :
    Calls Tryz.prog 59 #[.agg #[.slice A n c], .slice X m d, .slice Y mv dv] w fun e w' => e = .returned (.int .i64 (ptCode1 (okE ns) ns m mv rs sv)) ∧ Below w.heap.size w w' := by
  have HC := Lib.hid (two_code (right := okE ns) (ns := ns) (rs := rs) (sv := sv) h4 h4')
  have HA := Lib.hid (fun W (hw : Below w.heap.size w W) => l06Ask_any A X n c m d ns rs _ _ W (hr.on hw) (hx.on hw) hsm hn hm)
  have HL := Lib.hid (fun W (hw : Below w.heap.size w W) => l03Ask_any X m d rs Y mv dv sv _ _ W (hx.on hw) (hy.on hw) hsm hsv hm hmv)
  clear hr hx hy hsm hsv h4 h4'
  generalize ptCode (okE ns) ns m rs = k1 at *
  generalize askV m mv rs sv = k2 at *
  go_enter Tryz.func59, Tryz.ntmps59
  go_upto_region 1 with fail
  refine wp_at (fun W => Below w.heap.size w W ∧ SlAt W w.heap.size 25 A n c) ⟨below1 _ _, SlAt.new _ _ _ _ _⟩ ?_
  rintro W ⟨hw, s0⟩
  have t0 := s0.c0
  go_wp2_with fail
  refine (HA.out W hw).mono ?_
  rintro e w1 ⟨rfl, b1⟩
  have HB1 := Lib.hid (below_on hw b1)
  clear hw s0 b1 t0
  by_cases h0 : k1 = 0
  · have hb : (k1 != 0) = false := by simpa using h0
    have HC2 : Hid (ptCode1 (okE ns) ns m mv rs sv = k2) := Lib.hid (by rw [HC.out, if_pos h0])
    clear h0 HC
    go_wp2_with fail
    refine (HL.out w1 HB1.out).mono ?_
    rintro e w2 ⟨rfl, b2⟩
    have HB2 := Lib.hid (below_on HB1.out b2)
    clear b2
    go_wp2
    exact bodyPost_ret (results_tmp rfl _ _ _) rfl ⟨by rw [HC2.out]; rfl, HB2.out⟩
  · have hb : (k1 != 0) = true := by simpa using h0
    have HC2 : Hid (ptCode1 (okE ns) ns m mv rs sv = k1) := Lib.hid (by rw [HC.out, if_neg h0])
    clear h0 HC
    go_wp2
    exact bodyPost_ret (results_tmp rfl _ _ _) rfl ⟨by rw [HC2.out]; rfl, HB1.out⟩
end Go.Proofs.YtifepoefeamboaaGreatDoor
