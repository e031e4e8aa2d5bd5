/-
  The number that a law draws off its bytes (at): it is from 0 up to n, n left out.
-/
import Derived.Test.YtlphcpkhclfkaaaDraw
import Derived.BigQuiet
namespace Go.Proofs.Ytlphcpkhclfkaaa
open Go Go.RowKit Nt

set_option maxHeartbeats 3200000 in
theorem at_any (A : Option Addr) (len c i n : Nat) (P : Nat → Prop) (w : World) (hr : RdB w P A len) (hl : len ≤ 1048576) (hi : i ≤ 100) (h2 : 2 ≤ n) (hn : n ≤ 1000) :
    Calls Try.prog 11 #[.slice A len c, .int .i64 (i : Int), .int .i64 (n : Int)] w fun e w' => ∃ v : Nat, e = .returned (.int .i64 (v : Int)) ∧ v < n ∧ Below w.heap.size w w' := by
  have hn1 : decide ((n : Int) ≤ 1) = false := by simp; omega
  have hnp : (0 : Int) < n := by omega
  by_cases h0 : len = 0
  · subst h0
    have hw : IntKind.i64.wrap ((i : Int) * 7) = (i : Int) * 7 := IntWalk.i64_in _ (by omega)
    have HV : Hid ((i : Int) * 7 % n = ((i * 7 % n : Nat) : Int)) := by
      show _ = _
      rw [Int.natCast_emod, Int.natCast_mul]
      rfl
    have HL := Lib.hid (Nat.mod_lt (i * 7) (show 0 < n by omega))
    clear hr
    go_enter Try.func11, Try.ntmps11
    go_wp2
    go_ret
    exact ⟨i * 7 % n, by rw [← HV.out]; rfl, HL.out, Below.refl _ _⟩
  · have hlp : 0 < len := by omega
    obtain ⟨b, o, rfl, _, hlt, hc⟩ := hr hlp
    obtain ⟨j1, hj1⟩ : ∃ j, i % len = j := ⟨_, rfl⟩
    obtain ⟨j2, hj2⟩ : ∃ j, (i + 1) % len = j := ⟨_, rfl⟩
    obtain ⟨d, hd⟩ : ∃ j, i / len = j := ⟨_, rfl⟩
    have b1 : j1 < len := by rw [← hj1]; exact Nat.mod_lt _ hlp
    have b2 : j2 < len := by rw [← hj2]; exact Nat.mod_lt _ hlp
    have b3 : d ≤ 100 := by rw [← hd]; exact Nat.le_trans (Nat.div_le_self _ _) hi
    have e1 : (i : Int) % (len : Int) = (j1 : Int) := by rw [← hj1, Int.natCast_emod]
    have e2 : ((i : Int) + 1) % (len : Int) = (j2 : Int) := by rw [← hj2, Int.natCast_emod]; rfl
    have e3 : (i : Int) / (len : Int) = (d : Int) := by rw [← hd, Int.natCast_ediv]
    obtain ⟨x, x0, x1, cx⟩ := hc j1 b1
    obtain ⟨y, y0, y1, cy⟩ := hc j2 b2
    have hl0 : ((len : Int) == 0) = false := by simp; omega
    have hlen : (0 : Int) < len := by omega
    have hb1 : (j1 : Int) < len := by omega
    have hb2 : (j2 : Int) < len := by omega
    obtain ⟨z, hz⟩ : ∃ z : Nat, x * 31 + y + (d : Int) = (z : Int) := ⟨(x * 31 + y + (d : Int)).toNat, by omega⟩
    have HZ := Lib.hid hz
    have hzb : z ≤ 10000 := by omega
    have HV : Hid ((z : Int) % n = ((z % n : Nat) : Int)) := by show _ = _; rw [Int.natCast_emod]
    have HL := Lib.hid (Nat.mod_lt z (show 0 < n by omega))
    have hne : ((n : Int) == 0) = false := by simp; omega
    clear hr hc hj1 hj2 hd
    go_enter Try.func11, Try.ntmps11
    go_wp2_with fail
    go_quiet (fail)
    go_wp2
    go_ret
    exact ⟨z % n, by rw [← HV.out]; rfl, HL.out, below_drewN (Below.refl _ _) _⟩
end Go.Proofs.Ytlphcpkhclfkaaa
