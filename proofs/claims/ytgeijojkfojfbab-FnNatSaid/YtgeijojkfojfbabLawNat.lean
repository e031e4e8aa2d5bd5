/-
  The law FnNat. No condition but the length of the codes.
-/
import Derived.Test.YtgeijojkfojfbabNatOps
import Derived.ProofKit
import Derived.OpenShut
import Derived.ShutString
import Derived.ChangeOld
namespace Go.Proofs.Ytgeijojkfojfbab
open Go Go.RowKit Nt
open Go.ChangeShapes Go.WideShapes Go.ChangeAt
open Go.ChangeMaps (open_string shut_string)

theorem nat_facts (a b : Nat) : (b = 0 ∧ cmpI (a + b) a = 0 ∨ 0 < b ∧ cmpI (a + b) a = 1) ∧ (cmpI a b = -1 ∧ cmpI b a = 1 ∧ subC a b = 11 ∨ cmpI a b = 0 ∧ cmpI b a = 0 ∧ subC a b = 0 ∨ cmpI a b = 1 ∧ cmpI b a = -1 ∧ subC a b = 0) := by
  unfold cmpI subC
  constructor
  · rcases Nat.eq_zero_or_pos b with h | h
    · exact .inl ⟨h, by rw [if_neg (by omega), if_pos (by omega)]⟩
    · exact .inr ⟨h, by rw [if_neg (by omega), if_neg (by omega)]⟩
  · rcases Nat.lt_trichotomy a b with h | h | h
    · exact .inl ⟨by rw [if_pos h], by rw [if_neg (by omega), if_neg (by omega)], by rw [if_pos h]⟩
    · exact .inr (.inl ⟨by rw [if_neg (by omega), if_pos h], by rw [if_neg (by omega), if_pos h.symm], by rw [if_neg (by omega)]⟩)
    · exact .inr (.inr ⟨by rw [if_neg (by omega), if_neg (by omega)], by rw [if_pos h], by rw [if_neg (by omega)]⟩)

set_option maxHeartbeats 25600000 in
theorem lawNat_any (pA : Option Addr) (pn pc : Nat) (qA : Option Addr) (qn qc : Nat) (w : World) (hp : RdB w (· < w.heap.size) pA pn) (ple : pn ≤ 9223372036854775807) (hq : RdB w (· < w.heap.size) qA qn) (qle : qn ≤ 9223372036854775807) :
    Calls Try.prog 3 #[.slice pA pn pc, .slice qA qn qc] w fun e w' => e = .returned (.bool true) ∧ Below w.heap.size w w' := by
  have Rp := Lib.hid hp
  clear hp
  have Rq := Lib.hid hq
  clear hq
  by_cases bigp : 1048576 < pn
  · have bigp' : (1048576 : Int) < pn := by omega
    go_enter Try.func3, Try.ntmps3
    go_wp2
    go_ret
    exact ⟨rfl, Below.refl _ _⟩
  have smp : (pn : Int) ≤ 1048576 := by omega
  by_cases bigq : 1048576 < qn
  · have bigq' : (1048576 : Int) < qn := by omega
    go_enter Try.func3, Try.ntmps3
    go_wp2
    go_ret
    exact ⟨rfl, Below.refl _ _⟩
  have smq : (qn : Int) ≤ 1048576 := by omega
  go_enter Try.func3, Try.ntmps3
  go_wp2_with fail
  refine (drawN pc pn Rp.out (by omega)).mono ?_
  rintro e w1 ⟨a, ha, Aa, ca, rfl, na, b⟩
  have B1 := Lib.hid b
  have Na := Lib.hid na
  clear na
  clear b
  have ta : a < Top := small_top 4 (by decide) ha
  have sa : a < 10000000000000000 := ha
  clear ha
  go_wp2_with fail
  refine (drawN qc qn (Rq.out.below B1.out |>.mono fun _ _ h => h) (by omega)).mono ?_
  rintro e w2 ⟨b, hb, Ab, cb, rfl, nb, b⟩
  have B2 := Lib.hid (B1.out.trans (b.mono B1.out.size))
  replace Na := Lib.hid (Na.out.on b)
  have Nb := Lib.hid nb
  clear nb
  clear b
  have tb : b < Top := small_top 4 (by decide) hb
  have sb : b < 10000000000000000 := hb
  clear hb
  have tx : a + b < Top := small_top 5 (by decide) (Nat.lt_of_lt_of_le (Nat.add_lt_add sa sb) (by decide))
  obtain ⟨hf1, hf2⟩ := nat_facts a b
  have HF1 := Lib.hid hf1
  have HF2 := Lib.hid hf2
  clear hf1 hf2
  go_wp2_with fail
  refine (addN Na.out Nb.out ta tb tx).mono ?_
  rintro e w3 ⟨Ax, cx, rfl, nx, b⟩
  have B3 := Lib.hid (B2.out.trans (b.mono B2.out.size))
  replace Na := Lib.hid (Na.out.on b)
  replace Nb := Lib.hid (Nb.out.on b)
  have Nx := Lib.hid nx
  clear nx
  clear b
  go_wp2_with fail
  refine (addS Na.out Nb.out ta tb tx).mono ?_
  rintro e w4 ⟨Av, cv, rfl, nv, b⟩
  have B4 := Lib.hid (B3.out.trans (b.mono B3.out.size))
  replace Na := Lib.hid (Na.out.on b)
  replace Nb := Lib.hid (Nb.out.on b)
  replace Nx := Lib.hid (Nx.out.on b)
  have Nv := Lib.hid nv
  clear nv
  clear b
  go_wp2_with fail
  have hk := addN Nb.out Na.out tb ta (by rw [Nat.add_comm]; exact tx)
  rw [Nat.add_comm b a] at hk
  refine hk.mono ?_
  clear hk
  rintro e w5 ⟨Ay, cy, rfl, ny, b⟩
  have B5 := Lib.hid (B4.out.trans (b.mono B4.out.size))
  replace Na := Lib.hid (Na.out.on b)
  replace Nb := Lib.hid (Nb.out.on b)
  replace Nx := Lib.hid (Nx.out.on b)
  replace Nv := Lib.hid (Nv.out.on b)
  have Ny := Lib.hid ny
  clear ny
  clear b
  go_wp2_with fail
  have hk := subN Nx.out Nb.out tx tb (by omega)
  rw [Nat.add_sub_cancel] at hk
  refine hk.mono ?_
  clear hk
  rintro e w6 ⟨Az, cz, rfl, nz, b⟩
  have B6 := Lib.hid (B5.out.trans (b.mono B5.out.size))
  replace Na := Lib.hid (Na.out.on b)
  replace Nb := Lib.hid (Nb.out.on b)
  replace Nx := Lib.hid (Nx.out.on b)
  replace Nv := Lib.hid (Nv.out.on b)
  replace Ny := Lib.hid (Ny.out.on b)
  have Nz := Lib.hid nz
  clear nz
  clear b
  go_wp2_with fail
  refine (cmpN Nx.out Na.out tx ta).mono ?_
  rintro e w7 ⟨rfl, b⟩
  have B7 := Lib.hid (B6.out.trans (b.mono B6.out.size))
  replace Na := Lib.hid (Na.out.on b)
  replace Nb := Lib.hid (Nb.out.on b)
  replace Nx := Lib.hid (Nx.out.on b)
  replace Nv := Lib.hid (Nv.out.on b)
  replace Ny := Lib.hid (Ny.out.on b)
  replace Nz := Lib.hid (Nz.out.on b)
  clear b
  go_wp2_with fail
  refine (cmpN Na.out Nb.out ta tb).mono ?_
  rintro e w8 ⟨rfl, b⟩
  have B8 := Lib.hid (B7.out.trans (b.mono B7.out.size))
  replace Na := Lib.hid (Na.out.on b)
  replace Nb := Lib.hid (Nb.out.on b)
  replace Nx := Lib.hid (Nx.out.on b)
  replace Nv := Lib.hid (Nv.out.on b)
  replace Ny := Lib.hid (Ny.out.on b)
  replace Nz := Lib.hid (Nz.out.on b)
  clear b
  go_wp2_with fail
  refine (cmpN Nb.out Na.out tb ta).mono ?_
  rintro e w9 ⟨rfl, b⟩
  have B9 := Lib.hid (B8.out.trans (b.mono B8.out.size))
  replace Na := Lib.hid (Na.out.on b)
  replace Nb := Lib.hid (Nb.out.on b)
  replace Nx := Lib.hid (Nx.out.on b)
  replace Nv := Lib.hid (Nv.out.on b)
  replace Ny := Lib.hid (Ny.out.on b)
  replace Nz := Lib.hid (Nz.out.on b)
  clear b
  go_wp2_with fail
  refine (subN_any Na.out Nb.out ta tb ).mono ?_
  rintro e w10 ⟨Au, cu, rfl, nu, b⟩
  have B10 := Lib.hid (B9.out.trans (b.mono B9.out.size))
  replace Na := Lib.hid (Na.out.on b)
  replace Nb := Lib.hid (Nb.out.on b)
  replace Nx := Lib.hid (Nx.out.on b)
  replace Nv := Lib.hid (Nv.out.on b)
  replace Ny := Lib.hid (Ny.out.on b)
  replace Nz := Lib.hid (Nz.out.on b)
  have Nu := Lib.hid nu
  clear nu
  clear b
  have HL := Lib.hid (show b = 0 ∧ (D b).length = 0 ∨ 0 < b ∧ 0 < (D b).length from (Nat.eq_zero_or_pos b).elim (fun h => .inl ⟨h, by rw [h]; rfl⟩) (fun h => .inr ⟨h, len_pos h⟩))
  generalize cmpI (a + b) a = K at *
  generalize cmpI a b = L at *
  generalize cmpI b a = M at *
  generalize subC a b = I at *
  have HL1 : ((D b).length = 0 ∧ K = 0) ∨ (0 < (D b).length ∧ K = 1) := by
    rcases HF1.out with ⟨h1, h2⟩ | ⟨h1, h2⟩ <;> rcases HL.out with ⟨h3, h4⟩ | ⟨h3, h4⟩
    · exact .inl ⟨h4, h2⟩
    · omega
    · omega
    · exact .inr ⟨h4, h2⟩
  have HL2 := HF2.out
  clear HF1 HF2 HL
  rcases HL1 with ⟨hl, rfl⟩ | ⟨hl, rfl⟩ <;> rcases HL2 with ⟨rfl, rfl, rfl⟩ | ⟨rfl, rfl, rfl⟩ | ⟨rfl, rfl, rfl⟩
  · skip
    go_wp2_with fail
    refine (sameN Nx.out Nv.out tx).mono ?_
    rintro e w11 ⟨rfl, b⟩
    have B11 := Lib.hid (B10.out.trans (b.below _))
    replace Na := Lib.hid (Na.out.drawn b)
    replace Nb := Lib.hid (Nb.out.drawn b)
    replace Nx := Lib.hid (Nx.out.drawn b)
    replace Nv := Lib.hid (Nv.out.drawn b)
    replace Ny := Lib.hid (Ny.out.drawn b)
    replace Nz := Lib.hid (Nz.out.drawn b)
    replace Nu := Lib.hid (Nu.out.drawn b)
    clear b
    go_wp2_with fail
    refine (sameN Ny.out Nx.out tx).mono ?_
    rintro e w12 ⟨rfl, b⟩
    have B12 := Lib.hid (B11.out.trans (b.below _))
    replace Na := Lib.hid (Na.out.drawn b)
    replace Nb := Lib.hid (Nb.out.drawn b)
    replace Nx := Lib.hid (Nx.out.drawn b)
    replace Nv := Lib.hid (Nv.out.drawn b)
    replace Ny := Lib.hid (Ny.out.drawn b)
    replace Nz := Lib.hid (Nz.out.drawn b)
    replace Nu := Lib.hid (Nu.out.drawn b)
    clear b
    go_wp2_with fail
    refine (sameN Nz.out Na.out ta).mono ?_
    rintro e w13 ⟨rfl, b⟩
    have B13 := Lib.hid (B12.out.trans (b.below _))
    replace Na := Lib.hid (Na.out.drawn b)
    replace Nb := Lib.hid (Nb.out.drawn b)
    replace Nx := Lib.hid (Nx.out.drawn b)
    replace Nv := Lib.hid (Nv.out.drawn b)
    replace Ny := Lib.hid (Ny.out.drawn b)
    replace Nz := Lib.hid (Nz.out.drawn b)
    replace Nu := Lib.hid (Nu.out.drawn b)
    clear b
    go_wp2_with fail
    refine (okN Nx.out tx).mono ?_
    rintro e wz ⟨rfl, rfl⟩
    go_wp2
    go_ret
    exact ⟨rfl, B13.out⟩
  · skip
    go_wp2_with fail
    refine (sameN Nx.out Nv.out tx).mono ?_
    rintro e w11 ⟨rfl, b⟩
    have B11 := Lib.hid (B10.out.trans (b.below _))
    replace Na := Lib.hid (Na.out.drawn b)
    replace Nb := Lib.hid (Nb.out.drawn b)
    replace Nx := Lib.hid (Nx.out.drawn b)
    replace Nv := Lib.hid (Nv.out.drawn b)
    replace Ny := Lib.hid (Ny.out.drawn b)
    replace Nz := Lib.hid (Nz.out.drawn b)
    replace Nu := Lib.hid (Nu.out.drawn b)
    clear b
    go_wp2_with fail
    refine (sameN Ny.out Nx.out tx).mono ?_
    rintro e w12 ⟨rfl, b⟩
    have B12 := Lib.hid (B11.out.trans (b.below _))
    replace Na := Lib.hid (Na.out.drawn b)
    replace Nb := Lib.hid (Nb.out.drawn b)
    replace Nx := Lib.hid (Nx.out.drawn b)
    replace Nv := Lib.hid (Nv.out.drawn b)
    replace Ny := Lib.hid (Ny.out.drawn b)
    replace Nz := Lib.hid (Nz.out.drawn b)
    replace Nu := Lib.hid (Nu.out.drawn b)
    clear b
    go_wp2_with fail
    refine (sameN Nz.out Na.out ta).mono ?_
    rintro e w13 ⟨rfl, b⟩
    have B13 := Lib.hid (B12.out.trans (b.below _))
    replace Na := Lib.hid (Na.out.drawn b)
    replace Nb := Lib.hid (Nb.out.drawn b)
    replace Nx := Lib.hid (Nx.out.drawn b)
    replace Nv := Lib.hid (Nv.out.drawn b)
    replace Ny := Lib.hid (Ny.out.drawn b)
    replace Nz := Lib.hid (Nz.out.drawn b)
    replace Nu := Lib.hid (Nu.out.drawn b)
    clear b
    go_wp2_with fail
    refine (okN Nx.out tx).mono ?_
    rintro e wz ⟨rfl, rfl⟩
    go_wp2
    go_ret
    exact ⟨rfl, B13.out⟩
  · skip
    go_wp2_with fail
    refine (sameN Nx.out Nv.out tx).mono ?_
    rintro e w11 ⟨rfl, b⟩
    have B11 := Lib.hid (B10.out.trans (b.below _))
    replace Na := Lib.hid (Na.out.drawn b)
    replace Nb := Lib.hid (Nb.out.drawn b)
    replace Nx := Lib.hid (Nx.out.drawn b)
    replace Nv := Lib.hid (Nv.out.drawn b)
    replace Ny := Lib.hid (Ny.out.drawn b)
    replace Nz := Lib.hid (Nz.out.drawn b)
    replace Nu := Lib.hid (Nu.out.drawn b)
    clear b
    go_wp2_with fail
    refine (sameN Ny.out Nx.out tx).mono ?_
    rintro e w12 ⟨rfl, b⟩
    have B12 := Lib.hid (B11.out.trans (b.below _))
    replace Na := Lib.hid (Na.out.drawn b)
    replace Nb := Lib.hid (Nb.out.drawn b)
    replace Nx := Lib.hid (Nx.out.drawn b)
    replace Nv := Lib.hid (Nv.out.drawn b)
    replace Ny := Lib.hid (Ny.out.drawn b)
    replace Nz := Lib.hid (Nz.out.drawn b)
    replace Nu := Lib.hid (Nu.out.drawn b)
    clear b
    go_wp2_with fail
    refine (sameN Nz.out Na.out ta).mono ?_
    rintro e w13 ⟨rfl, b⟩
    have B13 := Lib.hid (B12.out.trans (b.below _))
    replace Na := Lib.hid (Na.out.drawn b)
    replace Nb := Lib.hid (Nb.out.drawn b)
    replace Nx := Lib.hid (Nx.out.drawn b)
    replace Nv := Lib.hid (Nv.out.drawn b)
    replace Ny := Lib.hid (Ny.out.drawn b)
    replace Nz := Lib.hid (Nz.out.drawn b)
    replace Nu := Lib.hid (Nu.out.drawn b)
    clear b
    go_wp2_with fail
    refine (okN Nx.out tx).mono ?_
    rintro e wz ⟨rfl, rfl⟩
    go_wp2
    go_ret
    exact ⟨rfl, B13.out⟩
  · skip
    have hq : (((D b).length : Int) == 0) = false := beq_eq_false_iff_ne.2 (by omega)
    go_wp2_with fail
    refine (sameN Nx.out Nv.out tx).mono ?_
    rintro e w11 ⟨rfl, b⟩
    have B11 := Lib.hid (B10.out.trans (b.below _))
    replace Na := Lib.hid (Na.out.drawn b)
    replace Nb := Lib.hid (Nb.out.drawn b)
    replace Nx := Lib.hid (Nx.out.drawn b)
    replace Nv := Lib.hid (Nv.out.drawn b)
    replace Ny := Lib.hid (Ny.out.drawn b)
    replace Nz := Lib.hid (Nz.out.drawn b)
    replace Nu := Lib.hid (Nu.out.drawn b)
    clear b
    go_wp2_with fail
    refine (sameN Ny.out Nx.out tx).mono ?_
    rintro e w12 ⟨rfl, b⟩
    have B12 := Lib.hid (B11.out.trans (b.below _))
    replace Na := Lib.hid (Na.out.drawn b)
    replace Nb := Lib.hid (Nb.out.drawn b)
    replace Nx := Lib.hid (Nx.out.drawn b)
    replace Nv := Lib.hid (Nv.out.drawn b)
    replace Ny := Lib.hid (Ny.out.drawn b)
    replace Nz := Lib.hid (Nz.out.drawn b)
    replace Nu := Lib.hid (Nu.out.drawn b)
    clear b
    go_wp2_with fail
    refine (sameN Nz.out Na.out ta).mono ?_
    rintro e w13 ⟨rfl, b⟩
    have B13 := Lib.hid (B12.out.trans (b.below _))
    replace Na := Lib.hid (Na.out.drawn b)
    replace Nb := Lib.hid (Nb.out.drawn b)
    replace Nx := Lib.hid (Nx.out.drawn b)
    replace Nv := Lib.hid (Nv.out.drawn b)
    replace Ny := Lib.hid (Ny.out.drawn b)
    replace Nz := Lib.hid (Nz.out.drawn b)
    replace Nu := Lib.hid (Nu.out.drawn b)
    clear b
    go_wp2_with fail
    refine (okN Nx.out tx).mono ?_
    rintro e wz ⟨rfl, rfl⟩
    go_wp2
    go_ret
    exact ⟨rfl, B13.out⟩
  · skip
    have hq : (((D b).length : Int) == 0) = false := beq_eq_false_iff_ne.2 (by omega)
    go_wp2_with fail
    refine (sameN Nx.out Nv.out tx).mono ?_
    rintro e w11 ⟨rfl, b⟩
    have B11 := Lib.hid (B10.out.trans (b.below _))
    replace Na := Lib.hid (Na.out.drawn b)
    replace Nb := Lib.hid (Nb.out.drawn b)
    replace Nx := Lib.hid (Nx.out.drawn b)
    replace Nv := Lib.hid (Nv.out.drawn b)
    replace Ny := Lib.hid (Ny.out.drawn b)
    replace Nz := Lib.hid (Nz.out.drawn b)
    replace Nu := Lib.hid (Nu.out.drawn b)
    clear b
    go_wp2_with fail
    refine (sameN Ny.out Nx.out tx).mono ?_
    rintro e w12 ⟨rfl, b⟩
    have B12 := Lib.hid (B11.out.trans (b.below _))
    replace Na := Lib.hid (Na.out.drawn b)
    replace Nb := Lib.hid (Nb.out.drawn b)
    replace Nx := Lib.hid (Nx.out.drawn b)
    replace Nv := Lib.hid (Nv.out.drawn b)
    replace Ny := Lib.hid (Ny.out.drawn b)
    replace Nz := Lib.hid (Nz.out.drawn b)
    replace Nu := Lib.hid (Nu.out.drawn b)
    clear b
    go_wp2_with fail
    refine (sameN Nz.out Na.out ta).mono ?_
    rintro e w13 ⟨rfl, b⟩
    have B13 := Lib.hid (B12.out.trans (b.below _))
    replace Na := Lib.hid (Na.out.drawn b)
    replace Nb := Lib.hid (Nb.out.drawn b)
    replace Nx := Lib.hid (Nx.out.drawn b)
    replace Nv := Lib.hid (Nv.out.drawn b)
    replace Ny := Lib.hid (Ny.out.drawn b)
    replace Nz := Lib.hid (Nz.out.drawn b)
    replace Nu := Lib.hid (Nu.out.drawn b)
    clear b
    go_wp2_with fail
    refine (okN Nx.out tx).mono ?_
    rintro e wz ⟨rfl, rfl⟩
    go_wp2
    go_ret
    exact ⟨rfl, B13.out⟩
  · skip
    have hq : (((D b).length : Int) == 0) = false := beq_eq_false_iff_ne.2 (by omega)
    go_wp2_with fail
    refine (sameN Nx.out Nv.out tx).mono ?_
    rintro e w11 ⟨rfl, b⟩
    have B11 := Lib.hid (B10.out.trans (b.below _))
    replace Na := Lib.hid (Na.out.drawn b)
    replace Nb := Lib.hid (Nb.out.drawn b)
    replace Nx := Lib.hid (Nx.out.drawn b)
    replace Nv := Lib.hid (Nv.out.drawn b)
    replace Ny := Lib.hid (Ny.out.drawn b)
    replace Nz := Lib.hid (Nz.out.drawn b)
    replace Nu := Lib.hid (Nu.out.drawn b)
    clear b
    go_wp2_with fail
    refine (sameN Ny.out Nx.out tx).mono ?_
    rintro e w12 ⟨rfl, b⟩
    have B12 := Lib.hid (B11.out.trans (b.below _))
    replace Na := Lib.hid (Na.out.drawn b)
    replace Nb := Lib.hid (Nb.out.drawn b)
    replace Nx := Lib.hid (Nx.out.drawn b)
    replace Nv := Lib.hid (Nv.out.drawn b)
    replace Ny := Lib.hid (Ny.out.drawn b)
    replace Nz := Lib.hid (Nz.out.drawn b)
    replace Nu := Lib.hid (Nu.out.drawn b)
    clear b
    go_wp2_with fail
    refine (sameN Nz.out Na.out ta).mono ?_
    rintro e w13 ⟨rfl, b⟩
    have B13 := Lib.hid (B12.out.trans (b.below _))
    replace Na := Lib.hid (Na.out.drawn b)
    replace Nb := Lib.hid (Nb.out.drawn b)
    replace Nx := Lib.hid (Nx.out.drawn b)
    replace Nv := Lib.hid (Nv.out.drawn b)
    replace Ny := Lib.hid (Ny.out.drawn b)
    replace Nz := Lib.hid (Nz.out.drawn b)
    replace Nu := Lib.hid (Nu.out.drawn b)
    clear b
    go_wp2_with fail
    refine (okN Nx.out tx).mono ?_
    rintro e wz ⟨rfl, rfl⟩
    go_wp2
    go_ret
    exact ⟨rfl, B13.out⟩


theorem own_fnNat : ownKnob Try.prog.godebug = none := by kernel_rfl
theorem laidOut_fnNat : laidOutB Try.prog = true := by kernel_rfl
set_option maxRecDepth 100000 in
set_option linter.unusedVariables false in
theorem fnNat_lifted (os : Os) (started : os.Started) (H : Type) (enc : TypeId × Value → H) :
    ReturnsInHanded {} Try.checked os 3 .any (Rows.fnNatSpec.pre6 enc Try.prog Try.f3 Rows.fnNatRow.domain false) (Rows.fnNatSpec.post enc Try.prog Try.f3 false true false false) := by
  refine returnsInHanded_of_change (C := Try.checked) own_fnNat started (by kernel_rfl) Try.func3
    (ChangeSpec.witness6 (enc := enc) (C := Try.checked) false ⟨#[], #[.slice none 0 0, .slice none 0 0], []⟩ 8 (by kernel_rfl) (by kernel_rfl) (by kernel_rfl) (by kernel_rfl)) ?_
  intro W base args ds gs before hval0 hW hcnd _
  have hval : ∀ (j : Nat) t v, Try.f3.params[j]? = some t → args[j]? = some v → Value.okWide Try.prog W .any base t v := hval0
  have hW' := hW
  obtain ⟨p, q, hA0, hV, rfl, hfz, hnd⟩ := hW
  have hA : DataW.TrodAll enc Try.prog W 0 (fun _ => true) true Try.f3.params.toList args.toList ds p := hA0
  rw [Try.params3] at hA hval
  obtain ⟨v0, vs0, d0, ds0, p0, q0, hargs, rfl, rfl, h0, r0⟩ := trodAll_cons hA
  obtain ⟨v1, vs1, d1, ds1, p1, q1, rfl, rfl, rfl, h1, r1⟩ := trodAll_cons r0
  obtain ⟨rfl, rfl, rfl⟩ := trodAll_nil r1
  obtain rfl : args = #[v0, v1] := by cases args; simp_all
  obtain ⟨rfl, rfl⟩ := trodVars_none hV
  obtain ⟨a0, len0, cap0, rfl⟩ := okWide_slice Try.underlying22 (hval 0 22 v0 rfl rfl)
  have k0 := h0
  have lt0 : ∀ x ∈ p0, x.block < W.heap.size := by obtain ⟨m, hm⟩ := k0; exact DataW.trod_lt m _ _ _ hm
  obtain ⟨z0, w0⟩ : ∃ zs, IsRow .u8 W a0 len0 cap0 zs := by
    obtain ⟨fuel, hf⟩ := h0
    rcases open_ints Try.underlying22 Try.underlying5 (by kernel_rfl) hf with ⟨hcs, _⟩ | ⟨x, l, c, zs, hcs, _, hl, hm, hz, _, hcell, hwz⟩
    · simp [Value.cells] at hcs
      obtain ⟨rfl, rfl, rfl⟩ := hcs
      exact ⟨[], .inl ⟨rfl, rfl, rfl, rfl⟩⟩
    · simp [Value.cells] at hcs
      obtain ⟨rfl, rfl, rfl⟩ := hcs
      exact ⟨zs, .inr ⟨_, rfl, hl, hm, by simpa using hz, hcell, hwz⟩⟩
  obtain ⟨a1, len1, cap1, rfl⟩ := okWide_slice Try.underlying22 (hval 1 22 v1 rfl rfl)
  have k1 := h1
  have lt1 : ∀ x ∈ p1, x.block < W.heap.size := by obtain ⟨m, hm⟩ := k1; exact DataW.trod_lt m _ _ _ hm
  obtain ⟨z1, w1⟩ : ∃ zs, IsRow .u8 W a1 len1 cap1 zs := by
    obtain ⟨fuel, hf⟩ := h1
    rcases open_ints Try.underlying22 Try.underlying5 (by kernel_rfl) hf with ⟨hcs, _⟩ | ⟨x, l, c, zs, hcs, _, hl, hm, hz, _, hcell, hwz⟩
    · simp [Value.cells] at hcs
      obtain ⟨rfl, rfl, rfl⟩ := hcs
      exact ⟨[], .inl ⟨rfl, rfl, rfl, rfl⟩⟩
    · simp [Value.cells] at hcs
      obtain ⟨rfl, rfl, rfl⟩ := hcs
      exact ⟨zs, .inr ⟨_, rfl, hl, hm, by simpa using hz, hcell, hwz⟩⟩
  clear hA0 hval0
  refine (lawNat_any a0 len0 cap0 a1 len1 cap1 W w0.rdb w0.le w1.rdb w1.le).mono fun e W' ⟨he, bel⟩ => ?_
  subst he
  exact ⟨_, rfl, _, _, _, [], _, [], hW', trodAll_mk1 (shut_bool Try.underlying4 _), (trodAll_cons_mk (Below.trod laidOut_fnNat (by kernel_rfl) (of_decide_eq_true (by kernel_rfl)) k0 bel lt0) (trodAll_cons_mk (Below.trod laidOut_fnNat (by kernel_rfl) (of_decide_eq_true (by kernel_rfl)) k1 bel lt1) trodAll_mk0)), rfl, bel.frame _, fun h => by cases h⟩

theorem fnNat_over : Rows.fnNatRow.holds Try.pinned (OpenSpec.ofChange Rows.fnNatSpec) :=
  OpenClaim.holds_of_wide 3 Try.f3 rfl rfl rfl rfl rfl rfl rfl ⟨rfl, rfl, rfl, rfl, rfl⟩ rfl rfl rfl rfl rfl (by kernel_rfl) Try.func3 (by kernel_rfl)
    (of_decide_eq_true (by kernel_rfl)) (by unfold Func.isWrapper; first | (rw [if_pos (by decide +kernel)]; kernel_rfl) | (rw [if_neg (by decide +kernel)]; exact ⟨rfl, rfl⟩))
    (fun os started H enc _ => fnNat_lifted os started H enc)

theorem fnNat_holds : Rows.FnNatSaid := fnNat_over

end Go.Proofs.Ytgeijojkfojfbab
