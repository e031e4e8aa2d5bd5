/-
  SpecVecA SpecEvGen in one text.
-/
import Derived.Test.YtifepoefeamboaaGreatDoorGrpH
import Derived.Test.YtifepoefeamboaaGreatDoorJoE
import Derived.Test.YtifepoefeamboaaGreatDoorSpecEval
import Derived.Test.YtifepoefeamboaaGreatDoorJoD
import Derived.Deep.CutRange
namespace Go.Proofs.YtifepoefeamboaaGreatDoor
open Go Go.RowKit Nt

end Go.Proofs.YtifepoefeamboaaGreatDoor
namespace Nt
open Go Go.RowKit
end Nt
namespace Go.Proofs.YtifepoefeamboaaGreatDoor
open Go Go.RowKit Nt

/-- what l06Eval says, in one form -/
theorem l06Eval_gen (A X XV XW : Option Addr) (n c m d dv dw : Nat) (ns : List Nd) (qs vs ws : List Rat) (js : List Q4) (code : Int) (P P' P1 P2 : Nat → Prop) (w : World) (hr : RdN w P A n c ns) (hx : RdS w P' X m d (qs.map rat3)) (hxv : RdS w P1 XV m dv (vs.map rat3)) (hxw : RdS w P2 XW m dw (ws.map rat3)) (hf : Fine qs) (hfv : Fine vs) (hfw : Fine ws)
    (hg : ∀ k, k < n → fitN (ns.getD k nd0) = true ∧ behind (ns.getD k nd0) k = true ∧ ((ns.getD k nd0).1 = 2 → (ns.getD k nd0).2.2.2 < m)) (hn1 : 1 ≤ n) (hn : n ≤ 60) (hR : eval4 qs vs ws ns = (js, code)) :
    Calls Tryz.prog 60 #[.agg #[.slice A n c], .slice X m d, .slice XV m dv, .slice XW m dw] w fun e w' => ∃ (nb0 : Bool) (Ea0 : Option Addr) (ea0 ec0 : Nat) (Fb0 : Option Addr) (fb0 fd0 : Nat) (nb1 : Bool) (Ea1 : Option Addr) (ea1 ec1 : Nat) (Fb1 : Option Addr) (fb1 fd1 : Nat) (nb2 : Bool) (Ea2 : Option Addr) (ea2 ec2 : Nat) (Fb2 : Option Addr) (fb2 fd2 : Nat) (nb3 : Bool) (Ea3 : Option Addr) (ea3 ec3 : Nat) (Fb3 : Option Addr) (fb3 fd3 : Nat), e = .returned (.tuple #[.agg #[.bool nb0, .slice Ea0 ea0 ec0, .slice Fb0 fb0 fd0, .bool nb1, .slice Ea1 ea1 ec1, .slice Fb1 fb1 fd1, .bool nb2, .slice Ea2 ea2 ec2, .slice Fb2 fb2 fd2, .bool nb3, .slice Ea3 ea3 ec3, .slice Fb3 fb3 fd3], .int .i64 code]) ∧ (code = 0 → Q4V w' (js.getD (n - 1) q40) (.agg #[.bool nb0, .slice Ea0 ea0 ec0, .slice Fb0 fb0 fd0, .bool nb1, .slice Ea1 ea1 ec1, .slice Fb1 fb1 fd1, .bool nb2, .slice Ea2 ea2 ec2, .slice Fb2 fb2 fd2, .bool nb3, .slice Ea3 ea3 ec3, .slice Fb3 fb3 fd3]) ∧ lims (js.getD (n - 1) q40) 40) ∧ Below w.heap.size w w' := by
  have hln : ns.length = n := hr.len
  refine (l06Eval_any A X XV XW n c m d dv dw ns qs vs ws _ _ _ _ w hr hx hxv hxw hf hfv hfw hg hn1 hn).mono ?_
  intro e w' h
  rw [hR] at h
  rcases h with ⟨h0, v, rfl, hq, hb⟩ | ⟨h0, rfl, hb⟩
  · dsimp only at h0
    subst h0
    have hl : lims (js.getD (n - 1) q40) 40 := by
      have := eval4_ok qs vs ws ns ns.length (Nat.le_refl _) (by rw [List.take_length, hR])
      rw [List.take_length, hR] at this
      exact getQ_fit this.2 (n - 1) (by rw [this.1]; omega)
    obtain ⟨A0, c0, B0, d0, A1, c1, B1, d1, A2, c2, B2, d2, A3, c3, B3, d3, rfl, h0, h1, h2, h3⟩ := hq
    exact ⟨_, _, _, _, _, _, _, _, _, _, _, _, _, _, _, _, _, _, _, _, _, _, _, _, _, _, _, _, rfl, fun _ => ⟨⟨A0, c0, B0, d0, A1, c1, B1, d1, A2, c2, B2, d2, A3, c3, B3, d3, rfl, h0, h1, h2, h3⟩, hl⟩, hb⟩
  · exact ⟨_, _, _, _, _, _, _, _, _, _, _, _, _, _, _, _, _, _, _, _, _, _, _, _, _, _, _, _, rfl, fun h => absurd h h0, hb⟩

end Go.Proofs.YtifepoefeamboaaGreatDoor
