/-
  What the laws do with nodes of a slice's own: copies, marks, and whether the marks are held.
-/
import Derived.Test.YtifepoefeamboaaGreatDoorTapeCopy
import Derived.Test.YtifepoefeamboaaGreatDoorMine
namespace Nt
open Go Go.RowKit
def markN (k n : Nat) : List Nd := (List.range n).map fun i => (((k + 4 * i : Nat) : Int), ((k + 4 * i + 1 : Nat) : Int), ((k + 4 * i + 2 : Nat) : Int), ((k + 4 * i + 3 : Nat) : Int))
theorem markN_len (k n : Nat) : (markN k n).length = n := by simp [markN]
theorem markN_get (k n i : Nat) (h : i < n) : (markN k n).getD i nd0 = (((k + 4 * i : Nat) : Int), ((k + 4 * i + 1 : Nat) : Int), ((k + 4 * i + 2 : Nat) : Int), ((k + 4 * i + 3 : Nat) : Int)) := by
  simp [markN, List.getD, h]
end Nt
namespace Go.Proofs.YtifepoefeamboaaGreatDoor
open Go Go.RowKit Nt

set_option maxHeartbeats 1600000 in
theorem toNodeS_own (A : Option Addr) (n c : Nat) (ns : List Nd) (w : World) (hr : RdN w (· < w.heap.size) A n c ns) (hn : n ≤ 1048576) :
    Calls Tryz.prog 52 #[.slice A n c] w fun e w' => ∃ B d, e = .returned (.slice B n d) ∧ MineN w' w.heap.size 114 B n d ns ∧ Below w.heap.size w w' := by
  have hmk := mk_nodes n (by omega)
  have HR := Lib.hid hr
  have HL := Lib.hid hr.len
  clear hr
  go_enter Tryz.func52, Tryz.ntmps52
  go_wp2
  go_loopw [4] (fun i wr => ∃ k : Nat, k ≤ n ∧ i = .int .i64 k ∧ Hid (BlkN wr w.heap.size 114 (n * 4)) ∧ Hid (∀ j, j < k → ElN wr w.heap.size (j * 4) (ns.getD j nd0)) ∧ Hid (Below w.heap.size w wr)) (fun i _ => n - (intOf i).toNat)
  case atStart => exact ⟨0, Nat.zero_le _, rfl, Lib.hid ⟨_, size_madeCells _ _, heap_alloc_new w _⟩, Lib.hid (fun j hj => by omega), Lib.hid ((Below.refl _ _).alloc (Nat.le_refl _) _)⟩
  case round =>
    obtain ⟨k, hk, rfl, HK, HE, HB⟩ := hrel
    by_cases hlt : k < n
    · obtain ⟨b, o, rfl, hP, _, hc⟩ := HR.out.at_ (by omega)
      obtain ⟨q0, q1, q2, q3⟩ := hc k hlt
      have c0 := (HB.out.cell (p := ⟨b, o + k * 4, none⟩) hP).trans q0
      have c1 := (HB.out.cell (p := ⟨b, o + k * 4 + 1, none⟩) hP).trans q1
      have c2 := (HB.out.cell (p := ⟨b, o + k * 4 + 2, none⟩) hP).trans q2
      have c3 := (HB.out.cell (p := ⟨b, o + k * 4 + 3, none⟩) hP).trans q3
      have HNEW : Hid (∀ (W : World), ElN W w.heap.size (k * 4) (ns.getD k nd0) → (∀ j, j < k → ElN W w.heap.size (j * 4) (ns.getD j nd0)) → ∀ j, j < k + 1 → ElN W w.heap.size (j * 4) (ns.getD j nd0)) := fun W h1 h2 j hj => by
        by_cases e : j = k
        · subst e; exact h1
        · exact h2 j (by omega)
      generalize ns.getD k nd0 = r at *
      obtain ⟨op, x, y, z⟩ := r
      dsimp only at *
      clear q0 q1 q2 q3 hc
      have hsz := HB.out.size
      have hg := HK.out.lt
      go_wp2_with fail
      refine (toNode_any op x y z wr).mono ?_
      rintro e w1 ⟨rfl, b1⟩
      have HB1 := Lib.hid (belowN_on HB.out b1)
      have HK1 := Lib.hid (HK.out.on b1)
      have HE1 : Hid (∀ j, j < k → ElN w1 w.heap.size (j * 4) (ns.getD j nd0)) := fun j hj => (HE.out j hj).keep (b1.block _ hg)
      clear b1 c0 c1 c2 c3 HE HK
      obtain ⟨u0, g0⟩ := HK1.out.cell (k * 4) (by omega)
      obtain ⟨u1, g1⟩ := HK1.out.cell (k * 4 + 1) (by omega)
      obtain ⟨u2, g2⟩ := HK1.out.cell (k * 4 + 2) (by omega)
      obtain ⟨u3, g3⟩ := HK1.out.cell (k * 4 + 3) (by omega)
      have f0 := HK1.out.fz (k * 4)
      have f1 := HK1.out.fz (k * 4 + 1)
      have f2 := HK1.out.fz (k * 4 + 2)
      have f3 := HK1.out.fz (k * 4 + 3)
      have HW := Lib.hid (set4_grown w1 w.heap.size (k * 4) (op, x, y, z))
      have HB2 : Hid (Below w.heap.size w (set4 w1 w.heap.size (k * 4) (op, x, y, z))) := belowN_grow HB1.out (Nat.le_refl _) HW.out
      have HK2 : Hid (BlkN (set4 w1 w.heap.size (k * 4) (op, x, y, z)) w.heap.size 114 (n * 4)) := HK1.out.set4 _
      have HE2 : Hid (∀ j, j < k + 1 → ElN (set4 w1 w.heap.size (k * 4) (op, x, y, z)) w.heap.size (j * 4) (ns.getD j nd0)) := HNEW.out _ (set4_el HK1.out _ (by omega)) fun j hj => (HE1.out j hj).set4 HK1.out _ (by omega)
      clear HNEW HE1 HB1 HK1 HW
      go_wp2
      go_roundw
      case rel => exact ⟨k + 1, by omega, by go_num, HK2, HE2, HB2⟩
      case measure => simp [intOf]; omega
    · obtain rfl : k = n := by omega
      go_wp2
      go_ret
      refine ⟨_, _, rfl, ⟨⟨HL.out, Nat.le_refl _, (fun h => by cases h), fun hn => ⟨w.heap.size, 0, rfl, Nat.le_refl _, HK.out.lt, fun i hi => ?_⟩⟩, fun _ => ⟨w.heap.size, k * 4, rfl, HK.out, Nat.le_refl _, Nat.le_refl _⟩⟩, HB.out⟩
      rw [Nat.zero_add]
      exact HE.out i hi

set_option maxHeartbeats 1600000 in
theorem toExpr_own (A : Option Addr) (n c : Nat) (ns : List Nd) (w : World) (hr : RdN w (· < w.heap.size) A n c ns) (hn : n ≤ 1048576) :
    Calls Tryz.prog 21 #[.agg #[.slice A n c]] w fun e w' => ∃ B d, e = .returned (.agg #[.slice B n d]) ∧ MineN w' w.heap.size 114 B n d ns ∧ Below w.heap.size w w' := by
  have HR := Lib.hid hr
  clear hr
  go_enter Tryz.func21, Tryz.ntmps21
  go_wp2_with fail
  refine calls_atN (fun v => SlAt v (w.heap.size + 1) 25 none 0 0 ∧ SlAt v (w.heap.size + 1 + 1) 25 none 0 0 ∧ Below w.heap.size w v ∧ w.heap.size + 3 ≤ v.heap.size) ⟨?_, ?_, ?_, by simp⟩ ?_
  · have h := (SlAt.new (w.alloc (.cells #[.slice A n c] 45)) 25 none 0 0).on (below_one _ (.cells #[.slice none 0 0] 25))
    rw [World.size_alloc] at h
    exact h
  · have h := SlAt.new ((w.alloc (.cells #[.slice A n c] 45)).alloc (.cells #[.slice none 0 0] 25)) 25 none 0 0
    rw [World.size_alloc, World.size_alloc] at h
    exact h
  · exact (((Below.refl _ _).alloc (Nat.le_refl _) _).alloc (by simp) _).alloc (by simp; omega) _
  rintro v1 ⟨p1, p2, pB, pz⟩
  refine (toNodeS_own A n c ns v1 ((HR.out.below pB).mono fun _ h _ => Nat.lt_of_lt_of_le h pB.size) hn).mono ?_
  rintro e v2 ⟨B, d, rfl, hrd, bb⟩
  have q1 := p1.on bb
  have q2 := p2.on bb
  have hB2 := belowN_on pB bb
  have c2 := q2.c0
  have f2 := q2.fz
  have c1 := q1.c0
  have f1 := q1.fz
  have k2 := set1_grown v2 (w.heap.size + 1 + 1) (.slice B n d)
  have k1 := set1_grown (v2.setCell ⟨w.heap.size + 1 + 1, 0, none⟩ (.slice B n d)) (w.heap.size + 1) (.slice B n d)
  have r1 : SlAt ((v2.setCell ⟨w.heap.size + 1 + 1, 0, none⟩ (.slice B n d)).setCell ⟨w.heap.size + 1, 0, none⟩ (.slice B n d)) (w.heap.size + 1) 25 B n d := (q1.past k2 (by omega)).set B n d
  have hrd2 : MineN ((v2.setCell ⟨w.heap.size + 1 + 1, 0, none⟩ (.slice B n d)).setCell ⟨w.heap.size + 1, 0, none⟩ (.slice B n d)) w.heap.size 114 B n d ns :=
    (hrd.keep (Nat.le_trans k2.size k1.size) (fun b hb hl => (k1.block b (Nat.lt_of_lt_of_le hl k2.size) (fun e => by injection e with e; omega)).trans (k2.block b hl (fun e => by injection e with e; omega)))).less (by omega)
  have hBf : Below w.heap.size w ((v2.setCell ⟨w.heap.size + 1 + 1, 0, none⟩ (.slice B n d)).setCell ⟨w.heap.size + 1, 0, none⟩ (.slice B n d)) := (hB2.setCell (p := ⟨w.heap.size + 1 + 1, 0, none⟩) (by show w.heap.size ≤ w.heap.size + 1 + 1; omega) _).setCell (p := ⟨w.heap.size + 1, 0, none⟩) (by show w.heap.size ≤ w.heap.size + 1; omega) _
  have HR1 := Lib.hid r1
  have HRD := Lib.hid hrd2
  have HBF := Lib.hid hBf
  clear p1 p2 pB q1 q2 hrd bb k1 k2 r1 hrd2 hBf hB2
  go_wp2
  exact bodyPost_ret (retExpr rfl _ _ (w.heap.size + 1) rfl HR1.out) rfl ⟨B, d, rfl, HRD.out, HBF.out⟩


set_option maxHeartbeats 1600000 in
theorem markNodeS_any (A : Option Addr) (n c : Nat) (ns : List Nd) (k0 base : Nat) (w : World) (h : MineN w base 114 A n c ns) (hn : n ≤ 1048576) (hk0 : k0 ≤ 40000000) :
    Calls Tryz.prog 56 #[.slice A n c, .int .i64 (k0 : Int)] w fun e w' => e = .returned (.int .i64 ((k0 + 4 * n : Nat) : Int)) ∧ MineN w' base 114 A n c (markN k0 n) ∧ w.grownBy w' (rowOf A n) := by
  rcases Nat.eq_zero_or_pos n with rfl | hpos
  · have HM : Hid (MineN w base 114 A 0 c (markN k0 0)) := by
      obtain ⟨⟨_, h2, h3, _⟩, _⟩ := h
      exact ⟨⟨rfl, h2, h3, fun h => by omega⟩, fun h => by omega⟩
    clear h
    go_enter Tryz.func56, Tryz.ntmps56
    go_wp2
    go_loop [1, 5] (fun q i => i = .int .i64 0 ∧ q = .int .i64 (k0 : Int)) (fun _ _ => 0)
    case atStart => exact ⟨rfl, rfl⟩
    case round =>
      obtain ⟨rfl, rfl⟩ := hrel
      go_wp2
      go_ret
      exact ⟨rfl, HM.out, World.grownBy.refl _ _⟩
  obtain ⟨g, m, rfl, hb, hm, hg⟩ := h.2 hpos
  have HA := Lib.hid h.1.2.1
  have HBK := Lib.hid hb
  clear h hb
  go_enter Tryz.func56, Tryz.ntmps56
  go_wp2
  go_loopw [1, 5] (fun q i wr => ∃ (k K : Nat), k ≤ n ∧ i = .int .i64 k ∧ q = .int .i64 (K : Int) ∧ K ≤ 50000000 ∧ Hid (K = k0 + 4 * k) ∧ Hid (BlkN wr g 114 m) ∧ Hid (∀ j, j < k → ElN wr g (j * 4) ((markN k0 n).getD j nd0)) ∧ Hid (w.grownBy wr (some g))) (fun _ i _ => n - (intOf i).toNat)
  case atStart => exact ⟨0, k0, Nat.zero_le _, rfl, rfl, by omega, Lib.hid rfl, HBK, Lib.hid (fun j hj => by omega), Lib.hid (World.grownBy.refl _ _)⟩
  case round =>
    clear HBK
    obtain ⟨k, K, hk, rfl, rfl, hK, HK, HBK, HE, HG⟩ := hrel
    by_cases hlt : k < n
    · have HMG : Hid ((markN k0 n).getD k nd0 = ((K : Int), (K : Int) + 1, (K : Int) + 1 + 1, (K : Int) + 1 + 1 + 1)) := by
        have e := HK.out
        show _ = _
        rw [markN_get k0 n k hlt, e]
        refine Prod.ext rfl (Prod.ext ?_ (Prod.ext ?_ ?_)) <;> (dsimp only; omega)
      obtain ⟨u0, g0⟩ := HBK.out.cell (k * 4) (by omega)
      obtain ⟨u1, g1⟩ := HBK.out.cell (k * 4 + 1) (by omega)
      obtain ⟨u2, g2⟩ := HBK.out.cell (k * 4 + 2) (by omega)
      obtain ⟨u3, g3⟩ := HBK.out.cell (k * 4 + 3) (by omega)
      have f0 := HBK.out.fz (k * 4)
      have f1 := HBK.out.fz (k * 4 + 1)
      have f2 := HBK.out.fz (k * 4 + 2)
      have f3 := HBK.out.fz (k * 4 + 3)
      have HW : Hid (w.grownBy (set4 wr g (k * 4) ((K : Int), (K : Int) + 1, (K : Int) + 1 + 1, (K : Int) + 1 + 1 + 1)) (some g)) := grown2s HG.out (set4_grown wr g (k * 4) _)
      have HK2 : Hid (BlkN (set4 wr g (k * 4) ((K : Int), (K : Int) + 1, (K : Int) + 1 + 1, (K : Int) + 1 + 1 + 1)) g 114 m) := HBK.out.set4 _
      have HE2 : Hid (∀ j, j < k + 1 → ElN (set4 wr g (k * 4) ((K : Int), (K : Int) + 1, (K : Int) + 1 + 1, (K : Int) + 1 + 1 + 1)) g (j * 4) ((markN k0 n).getD j nd0)) := fun j hj => by
        by_cases e : j = k
        · subst e
          rw [HMG.out]
          exact set4_el HBK.out _ (by omega)
        · exact (HE.out j (by omega)).set4 HBK.out _ (by omega)
      have HKN : Hid (K + 1 + 1 + 1 + 1 = k0 + 4 * (k + 1)) := by have := HK.out; show _ = _; omega
      have hKb : K + 4 ≤ 50000000 := by have := HK.out; omega
      have hp1 : 0 ≤ (K : Int) + 1 := by omega
      have hp2 : 0 ≤ (K : Int) + 1 + 1 := by omega
      have hp3 : 0 ≤ (K : Int) + 1 + 1 + 1 := by omega
      have hp4 : 0 ≤ (K : Int) + 1 + 1 + 1 + 1 := by omega
      clear HE HBK HG HMG HK
      go_wp2
      go_roundw
      case rel => exact ⟨k + 1, K + 1 + 1 + 1 + 1, by omega, by go_num, by congr 1, by omega, HKN, HK2, HE2, HW⟩
      case measure => simp [intOf]; omega
    · obtain rfl : k = n := by omega
      go_wp2
      go_ret
      refine ⟨by rw [HK.out]; rfl, ⟨⟨markN_len _ _, HA.out, (fun h => by cases h), fun hn => ⟨g, 0, rfl, hg, HBK.out.lt, fun i hi => ?_⟩⟩, fun _ => ⟨g, m, rfl, HBK.out, hm, hg⟩⟩, by rw [show rowOf (some ⟨g, 0, none⟩) k = some g from by unfold rowOf; rw [if_neg (by omega)]; rfl]; exact HG.out⟩
      rw [Nat.zero_add]
      exact HE.out i hi

theorem markExpr_any (A : Option Addr) (n c : Nat) (ns : List Nd) (k0 base : Nat) (w : World) (h : MineN w base 114 A n c ns) (hn : n ≤ 1048576) (hk0 : k0 ≤ 40000000) :
    Calls Tryz.prog 26 #[.agg #[.slice A n c], .int .i64 (k0 : Int)] w fun e w' => e = .returned (.int .i64 ((k0 + 4 * n : Nat) : Int)) ∧ MineN w' base 114 A n c (markN k0 n) ∧ (w.alloc (.cells #[.slice A n c] 25)).grownBy w' (rowOf A n) := by
  have H := Lib.hid (h.on (below_one w (.cells #[.slice A n c] 25)))
  clear h
  go_enter Tryz.func26, Tryz.ntmps26
  go_wp2_with fail
  refine (markNodeS_any A n c ns k0 base _ H.out hn hk0).mono ?_
  rintro e w1 ⟨rfl, h1, h2⟩
  have H1 := Lib.hid h1
  have H2 := Lib.hid h2
  clear h1 h2
  go_wp2
  go_ret
  exact ⟨rfl, H1.out, H2.out⟩
end Go.Proofs.YtifepoefeamboaaGreatDoor
