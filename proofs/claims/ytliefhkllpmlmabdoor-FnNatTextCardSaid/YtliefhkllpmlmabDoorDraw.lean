/-
  Naturals that are drawn; sameInts of the laws.
-/
import Derived.Test.YtliefhkllpmlmabDoorGrpB
import Derived.Test.YtliefhkllpmlmabDoorSrc
namespace Nt
open Go Go.RowKit
theorem Arr.grown {w w' : World} {g b : Nat} {t : TypeId} {xs : List Int} (h : Arr w b t xs) (hg : w.grownBy w' (some g)) (hne : b ≠ g) : Arr w' b t xs :=
  h.keep (hg.block b h.lt (fun e => by injection e with e; omega))
theorem alloc_block (w : World) (o : Obj) (i : Nat) (hi : i < w.heap.size) : (w.alloc o).heap[i]? = w.heap[i]? := ((Below.refl w.heap.size w).alloc (Nat.le_refl _) o).block i hi
theorem grown_alloc {a w : World} {r : Option Nat} (h : a.grownBy w r) (o : Obj) : a.grownBy (w.alloc o) r :=
  ⟨h.os, h.tape, h.output, by have := h.size; simp; omega, fun i hi hne => (alloc_block w o i (by have := h.size; omega)).trans (h.block i hi hne)⟩
theorem natOf_small {xs : List Int} (h : Limbs xs) (k : Nat) (hk : xs.length ≤ k) : natOf xs < 10000 ^ k := by
  rw [← D_len_le]
  exact Nat.le_trans (trim_len_le h) hk
theorem app_block {w wr w1 : World} {o : Obj} {V : Option Addr} {n c : Nat} {e : TypeId} {xs : List Value} (hs : w.heap.size ≤ wr.heap.size) (ho : wr.ownsRow w.heap.size e 1 (.slice V n c) n xs)
    (hg : (wr.alloc o).grownBy w1 (Value.slice V n c).ownBlock) (i : Nat) (hi : i < w.heap.size) : w1.heap[i]? = wr.heap[i]? :=
  (hg.block i (by simp; omega) (fun e => by have := (ho.lt i e.symm).1; omega)).trans (alloc_block wr o i (by omega))
theorem grown_app {w wr w1 : World} {o : Obj} {V : Option Addr} {n c g : Nat} {e : TypeId} {xs : List Value} (h : w.grownBy wr (some g)) (ho : wr.ownsRow w.heap.size e 1 (.slice V n c) n xs)
    (hg : (wr.alloc o).grownBy w1 (Value.slice V n c).ownBlock) : w.grownBy w1 (some g) :=
  ⟨hg.os.trans h.os, hg.tape.trans h.tape, hg.output.trans h.output, by have := h.size; have := hg.size; simp at this; omega, fun i hi hne => (app_block h.size ho hg i hi).trans (h.block i hi hne)⟩
theorem Src.alloc {w : World} {g : Nat} {t : TypeId} {A : Option Addr} {n c : Nat} {a s : Int} (h : Src w g t A n c a s) (o : Obj) : Src (w.alloc o) g t A n c a s := h.keep (alloc_block w o g h.lt)
end Nt
namespace Go.Proofs.YtliefhkllpmlmabDoor
open Go Go.RowKit Nt

set_option maxHeartbeats 3200000 in
theorem srcNat_any (g n c : Nat) (A : Option Addr) (a0 s0 : Int) (B : Nat) (w : World) (hS : Src w g 102 A n c a0 s0) (hR : RdB w (· < B) A n) (hB : B ≤ g) (ha0 : 0 ≤ a0) (ha1 : a0 ≤ 274877906944) (hs0 : 0 ≤ s0) (hs1 : s0 < 2147483648) (hn : n ≤ 1099511627776) :
    Calls Tryd.prog 40 #[.pointer (some ⟨g, 0, none⟩)] w (fun e w' => ∃ (m : Nat) (A' : Option Addr) (c' : Nat) (a' s' : Int), e = .returned (.slice A' (D m).length c') ∧ m < 10000 ^ 4 ∧
      w'.ownsRow w.heap.size 3 1 (.slice A' (D m).length c') (D m).length ((D m).map (Value.int .i64)) ∧ Src w' g 102 A n c a' s' ∧ a0 ≤ a' ∧ a' ≤ a0 + 39 ∧ 0 ≤ s' ∧ s' < 2147483648 ∧ w.grownBy w' (some g)) := by
  have HS := Lib.hid hS
  have HR := Lib.hid hR
  have hglt := hS.lt
  clear hS hR
  go_enter Tryd.func40, Tryd.ntmps40
  go_wp2_with fail
  have HG0 := Lib.hid (grown_alloc (World.grownBy.refl w (some g)) (.cells #[] 3))
  refine (srcNext_any g n c A a0 s0 5 B _ (HS.out.alloc _) (HR.out.grown HG0.out hB) hB ha0 (by omega) hs0 hs1 hn (by omega) (by omega)).mono ?_
  rintro e w1 ⟨r, a1, s1, rfl, hr0, hr1, h1, h2, h3, h4, hS1, hg1⟩
  obtain ⟨k0, rfl⟩ : ∃ k : Nat, r = k := ⟨r.toNat, by omega⟩
  have HO1 := Lib.hid (own_other (World.ownsRow_lit (e := 3) (size := 1) w #[] 0 (Nat.le_refl _) (by decide) rfl) hg1 hglt)
  have HS1 := Lib.hid hS1
  have HG1 := Lib.hid (grown_trans HG0.out hg1)
  clear hS1 hg1
  go_wp2
  go_loopw [3, 4] (fun v i wr => ∃ (k : Nat) (out : List Int) (V : Option Addr) (cv : Nat) (a s : Int), k ≤ 4 ∧ i = .int .i64 k ∧ v = .slice V out.length cv ∧ out.length + k ≤ 4 ∧ Limbs out ∧ wr.ownsRow w.heap.size 3 1 (.slice V out.length cv) out.length (out.map (Value.int .i64)) ∧ Src wr g 102 A n c a s ∧ w.grownBy wr (some g) ∧ a0 ≤ a ∧ a ≤ a0 + 3 + 9 * (4 - k) ∧ 0 ≤ s ∧ s < 2147483648) (fun _ i _ => (intOf i).toNat)
  case atStart => exact ⟨k0, [], _, _, a1, s1, by omega, rfl, rfl, by simp; omega, limbs_nil, HO1.out, HS1.out, HG1.out, by omega, by omega, h3, h4⟩
  case round =>
    obtain ⟨k, out, V, cv, a, s, hk, rfl, rfl, hkl, hlim, hown, hsrc, hgr, hb0, hb1, hb2, hb3⟩ := hrel
    have HLM := Lib.hid hlim
    have HO := Lib.hid hown
    have HS2 := Lib.hid hsrc
    have HG2 := Lib.hid hgr
    clear hlim hown hsrc hgr
    by_cases hpos : 0 < k
    · go_wp2_with fail
      refine (srcNext_any g n c A a s 10000 B _ HS2.out (HR.out.grown HG2.out hB) hB (by omega) (by omega) hb2 hb3 hn (by omega) (by omega)).mono ?_
      rintro e w3 ⟨r1, a3, s3, rfl, hx0, hx1, h13, h23, h33, h43, hS3, hg3⟩
      have HO3 := Lib.hid ((own_other HO.out hg3 hglt).alloc (.cells (cellsOf [r1, 9999, 0]) 3))
      have HS3 := Lib.hid (hS3.alloc (.cells (cellsOf [r1, 9999, 0]) 3))
      have HG3 := Lib.hid (grown_alloc (grown_trans HG2.out hg3) (.cells (cellsOf [r1, 9999, 0]) 3))
      have HA3 := Lib.hid (Arr.new w3 3 [r1, 9999, 0])
      have hne3 : w3.heap.size ≠ g := by have := hS3.lt; omega
      clear hS3 hg3
      go_wp2_with fail
      refine (srcNext_any g n c A a3 s3 9 B _ HS3.out (HR.out.grown HG3.out hB) hB (by omega) (by omega) h33 h43 hn (by omega) (by omega)).mono ?_
      rintro e w4 ⟨r2, a4, s4, rfl, hy0, hy1, h14, h24, h34, h44, hS4, hg4⟩
      have HO4 := Lib.hid (own_other HO3.out hg4 hglt)
      have HS4 := Lib.hid hS4
      have HG4 := Lib.hid (grown_trans HG3.out hg4)
      have HA4 := Lib.hid (HA3.out.grown hg4 hne3)
      clear hS4 hg4 HO3 HS3 HG3 HA3 HO HS2 HG2
      generalize w3.heap.size = g3 at *
      rcases Int.lt_or_le r2 7 with hq | hq
      · have hqv : r2 / 7 = 0 := by omega
        go_wp2_with fail
        try rw [hqv]
        refine (srcNext_any g n c A a4 s4 2 B _ HS4.out (HR.out.grown HG4.out hB) hB (by omega) (by omega) h34 h44 hn (by omega) (by omega)).mono ?_
        rintro e w5 ⟨r3, a5, s5, rfl, hz0, hz1, h15, h25, h35, h45, hS5, hg5⟩
        have HO5 := Lib.hid (own_other HO4.out hg5 hglt)
        have HS5 := Lib.hid hS5
        have HG5 := Lib.hid (grown_trans HG4.out hg5)
        have HA5 := Lib.hid (HA4.out.grown hg5 hne3)
        clear hS5 hg5 HO4 HS4 HG4 HA4
        have hr3 : r3 = 0 ∨ r3 = 1 := by omega
        rcases hr3 with rfl | rfl
        · have hcell : w5.cell? ⟨g3, 0, none⟩ = some (.int .i64 r1) := HA5.out.cell 0 (by simp)
          have HLM' := Lib.hid (limbs_append.2 ⟨HLM.out, limbs_cons.2 ⟨(show 0 ≤ r1 ∧ r1 < 10000 from by omega), limbs_nil⟩⟩)
          go_wp2_with (at_builtin; refine wpList_append_ints _ rfl _ _ 22 rfl w.heap.size 3 Tryd.underlying22 infoInt V out.length cv out rfl (HO5.out.alloc _) _ (some ⟨w5.heap.size, 0, none⟩) 1 1 [r1] rfl (rd_one _ _ _) (by omega) (by have := HG5.out.size; simp; omega) ?_; intro V' c' w6 hown hg; have HO6 := Lib.hid hown; have HG6 := Lib.hid (grown_app HG5.out HO5.out hg); have HS6 := Lib.hid (HS5.out.keep (app_block HG5.out.size HO5.out hg g hglt)); clear hown hg)
          go_roundw
          case rel => exact ⟨k - 1, out ++ [r1], V', c', a5, s5, by omega, by go_num, by simp, by simp; omega, HLM'.out, by simpa using HO6.out, HS6.out, HG6.out, by omega, by omega, h35, h45⟩
          case measure => simp [intOf]; omega
        · have hcell : w5.cell? ⟨g3, 0, none⟩ = some (.int .i64 r1) := HA5.out.cell 0 (by simp)
          have HLM' := Lib.hid (limbs_append.2 ⟨HLM.out, limbs_cons.2 ⟨(show 0 ≤ r1 ∧ r1 < 10000 from by omega), limbs_nil⟩⟩)
          go_wp2_with (at_builtin; refine wpList_append_ints _ rfl _ _ 22 rfl w.heap.size 3 Tryd.underlying22 infoInt V out.length cv out rfl (HO5.out.alloc _) _ (some ⟨w5.heap.size, 0, none⟩) 1 1 [r1] rfl (rd_one _ _ _) (by omega) (by have := HG5.out.size; simp; omega) ?_; intro V' c' w6 hown hg; have HO6 := Lib.hid hown; have HG6 := Lib.hid (grown_app HG5.out HO5.out hg); have HS6 := Lib.hid (HS5.out.keep (app_block HG5.out.size HO5.out hg g hglt)); clear hown hg)
          go_roundw
          case rel => exact ⟨k - 1, out ++ [r1], V', c', a5, s5, by omega, by go_num, by simp, by simp; omega, HLM'.out, by simpa using HO6.out, HS6.out, HG6.out, by omega, by omega, h35, h45⟩
          case measure => simp [intOf]; omega
      · have hqv : r2 / 7 = 1 := by omega
        go_wp2_with fail
        try rw [hqv]
        refine (srcNext_any g n c A a4 s4 2 B _ HS4.out (HR.out.grown HG4.out hB) hB (by omega) (by omega) h34 h44 hn (by omega) (by omega)).mono ?_
        rintro e w5 ⟨r3, a5, s5, rfl, hz0, hz1, h15, h25, h35, h45, hS5, hg5⟩
        have HO5 := Lib.hid (own_other HO4.out hg5 hglt)
        have HS5 := Lib.hid hS5
        have HG5 := Lib.hid (grown_trans HG4.out hg5)
        have HA5 := Lib.hid (HA4.out.grown hg5 hne3)
        clear hS5 hg5 HO4 HS4 HG4 HA4
        have hr3 : r3 = 0 ∨ r3 = 1 := by omega
        rcases hr3 with rfl | rfl
        · have hcell : w5.cell? ⟨g3, 1, none⟩ = some (.int .i64 (9999 : Int)) := HA5.out.cell 1 (by simp)
          have HLM' := Lib.hid (limbs_append.2 ⟨HLM.out, limbs_cons.2 ⟨(show 0 ≤ (9999 : Int) ∧ (9999 : Int) < 10000 from by omega), limbs_nil⟩⟩)
          go_wp2_with (at_builtin; refine wpList_append_ints _ rfl _ _ 22 rfl w.heap.size 3 Tryd.underlying22 infoInt V out.length cv out rfl (HO5.out.alloc _) _ (some ⟨w5.heap.size, 0, none⟩) 1 1 [(9999 : Int)] rfl (rd_one _ _ _) (by omega) (by have := HG5.out.size; simp; omega) ?_; intro V' c' w6 hown hg; have HO6 := Lib.hid hown; have HG6 := Lib.hid (grown_app HG5.out HO5.out hg); have HS6 := Lib.hid (HS5.out.keep (app_block HG5.out.size HO5.out hg g hglt)); clear hown hg)
          go_roundw
          case rel => exact ⟨k - 1, out ++ [(9999 : Int)], V', c', a5, s5, by omega, by go_num, by simp, by simp; omega, HLM'.out, by simpa using HO6.out, HS6.out, HG6.out, by omega, by omega, h35, h45⟩
          case measure => simp [intOf]; omega
        · have hcell : w5.cell? ⟨g3, 2, none⟩ = some (.int .i64 (0 : Int)) := HA5.out.cell 2 (by simp)
          have HLM' := Lib.hid (limbs_append.2 ⟨HLM.out, limbs_cons.2 ⟨(show 0 ≤ (0 : Int) ∧ (0 : Int) < 10000 from by omega), limbs_nil⟩⟩)
          go_wp2_with (at_builtin; refine wpList_append_ints _ rfl _ _ 22 rfl w.heap.size 3 Tryd.underlying22 infoInt V out.length cv out rfl (HO5.out.alloc _) _ (some ⟨w5.heap.size, 0, none⟩) 1 1 [(0 : Int)] rfl (rd_one _ _ _) (by omega) (by have := HG5.out.size; simp; omega) ?_; intro V' c' w6 hown hg; have HO6 := Lib.hid hown; have HG6 := Lib.hid (grown_app HG5.out HO5.out hg); have HS6 := Lib.hid (HS5.out.keep (app_block HG5.out.size HO5.out hg g hglt)); clear hown hg)
          go_roundw
          case rel => exact ⟨k - 1, out ++ [(0 : Int)], V', c', a5, s5, by omega, by go_num, by simp, by simp; omega, HLM'.out, by simpa using HO6.out, HS6.out, HG6.out, by omega, by omega, h35, h45⟩
          case measure => simp [intOf]; omega
    · obtain rfl : k = 0 := by omega
      have HRD := Lib.hid (own_rd' HO.out)
      have HSM := Lib.hid (natOf_small HLM.out 4 (by omega))
      go_wp2_with fail
      refine (l01Trim_any _ out.length _ out _ wr HRD.out HLM.out (by omega)).mono ?_
      rintro e w6 ⟨A1, c1, rfl, ho, hb⟩
      have HO6 := Lib.hid (own_mono ho HG2.out.size)
      have HS6 := Lib.hid (HS2.out.keep (hb.block g HS2.out.lt))
      have HG6 := Lib.hid (grown_trans HG2.out (below_grown hb (some g)))
      clear ho hb
      go_wp2
      go_ret
      exact ⟨natOf out, A1, c1, a, s, rfl, HSM.out, HO6.out, HS6.out, by omega, by omega, hb2, hb3, HG6.out⟩

set_option maxHeartbeats 400000 in
theorem natDrawn_any (A : Option Addr) (n c : Nat) (w : World) (hR : RdB w (· < w.heap.size) A n) (hn : n ≤ 1099511627776) :
    Calls Tryd.prog 13 #[.slice A n c] w (fun e w' => ∃ m : Nat, m < 10000 ^ 4 ∧ RetNew 3 w (D m) e w') := by
  have HR := Lib.hid hR
  clear hR
  go_enter Tryd.func13, Tryd.ntmps13
  go_wp2_with fail
  refine (l00Source_any A n c w hn).mono ?_
  rintro e w1 ⟨s, rfl, hs0, hs1, hS, hb⟩
  have HS := Lib.hid hS
  have HB := Lib.hid hb
  clear hS hb
  go_wp2_with fail
  refine (srcNat_any w.heap.size n c A 0 s w.heap.size w1 HS.out (HR.out.below HB.out) (Nat.le_refl _) (by omega) (by omega) hs0 hs1 hn).mono ?_
  rintro e w2 ⟨m, A', c', a', s', rfl, hm, ho, _, _, _, _, _, hg⟩
  have HO := Lib.hid (own_mono ho HB.out.size)
  have HB2 := Lib.hid (HB.out.trans (grown_below hg HB.out.size (Nat.le_refl _)))
  clear ho hg
  go_wp2
  go_ret
  exact ⟨m, hm, A', c', rfl, HO.out, HB2.out⟩

set_option maxHeartbeats 400000 in
theorem sameInts_same (A A' : Option Addr) (n c n' c' : Nat) (xs : List Int) (P P' : Nat → Prop) (w : World) (hr : Rd w P A n c xs) (hr' : Rd w P' A' n' c' xs) (hn : n ≤ 16777216) :
    Calls Tryd.prog 15 #[.slice A n c, .slice A' n' c'] w fun e w' => e = .returned (.bool true) ∧ Drawn w w' := by
  have h1 := hr.len
  have h2 := hr'.len
  obtain rfl : n' = n := by omega
  have hne : ((n' : Int) != (n' : Int)) = false := by simp
  clear h1 h2
  go_enter Tryd.func15, Tryd.ntmps15
  go_wp2
  go_loopw [5] (fun i wr => ∃ k : Nat, k ≤ n' ∧ i = .int .i64 k ∧ ∃ m, wr = w.drewN m) (fun i _ => n' - (intOf i).toNat)
  case atStart => exact ⟨0, Nat.zero_le _, rfl, 0, rfl⟩
  case round =>
    obtain ⟨k, hk, rfl, m, rfl⟩ := hrel
    by_cases hlt : k < n'
    · obtain ⟨b, o, rfl, hP, _, hc⟩ := hr.at_ (by omega)
      obtain ⟨b', o', rfl, hP', _, hc'⟩ := hr'.at_ (by omega)
      have hcx : w.cell? ⟨b, o + k, none⟩ = some (.int .i64 (xs.getD k 0)) := hc k hlt
      have hcy : w.cell? ⟨b', o' + k, none⟩ = some (.int .i64 (xs.getD k 0)) := hc' k hlt
      have hlt' : (k : Int) < (n' : Int) := by omega
      generalize xs.getD k 0 = x at *
      have hxx : ((x : Int) != x) = false := by simp
      clear hc hc' hr hr' hP hP'
      go_wp2
      go_quiet (fail)
      go_wp2
      go_roundw
      case rel => exact ⟨k + 1, by omega, by go_num, _, rfl⟩
      case measure => simp [intOf]; omega
    · go_wp2
      go_ret
      exact ⟨rfl, _, rfl⟩

end Go.Proofs.YtliefhkllpmlmabDoor
