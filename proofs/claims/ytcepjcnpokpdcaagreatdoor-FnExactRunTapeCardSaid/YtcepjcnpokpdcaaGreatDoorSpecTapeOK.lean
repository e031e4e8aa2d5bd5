/-
  Which tapes are right: TapeOK of the model.
-/
import Derived.Test.YtcepjcnpokpdcaaGreatDoorSpecTape
import Derived.Test.YtcepjcnpokpdcaaGreatDoorTapeCopy
import Derived.Deep.RegionHeld3
import Derived.Deep.RegionWith
namespace Nt
open Go Go.RowKit
theorem find_first (ns : List Nd) (x : Nd) (k : Nat) : findN (ns.take k) x k = findN ns x k := findN_ext k fun j hj => getDN_take ns k j hj
end Nt
namespace Go.Proofs.YtcepjcnpokpdcaaGreatDoor
open Go Go.RowKit Nt

set_option linter.unusedSimpArgs false in
set_option linter.unusedVariables false in
set_option maxRecDepth 20000 in
set_option maxHeartbeats 8000000 in
theorem specTapeOK_any (A : Option Addr) (n c : Nat) (ns : List Nd) (ot : Int) (P : Nat → Prop) (w : World) (hr : RdN w P A n c ns) (hn : n ≤ 1048576) :
    Calls Tryz.prog 105 #[.agg #[.slice A n c, .int .i64 ot]] w fun e w' => e = .returned (.bool (okTp ns ot)) ∧ Below w.heap.size w w' := by
  have HL := Lib.hid hr.len
  have HR := Lib.hid hr.low
  have HB0 := Lib.hid (below_one w (.cells #[.slice A n c, .int .i64 ot] 63))
  have HT0 := Lib.hid (TpAt.new w 63 A n c ot)
  clear hr
  have hwr : IntKind.i64.wrap ((n : Int) - 1) = (n : Int) - 1 := IntWalk.i64_in _ (by omega)
  by_cases hlen : ¬ (1 ≤ n ∧ n ≤ 60)
  · have HV : Hid (okTp ns ot = false) := by have := HL.out; exact okTp_len (by omega)
    have hin : (decide ((1 : Int) ≤ n) && decide ((n : Int) ≤ 60)) = false := by
      rw [Bool.and_eq_false_iff, decide_eq_false_iff_not, decide_eq_false_iff_not]; omega
    go_enter Tryz.func105, Tryz.ntmps105
    go_wp2_with (go_at_call 129; refine (l01In_any _ _ _ _).mono ?_; rintro e w1 ⟨rfl, rfl⟩; rw [hin])
    go_ret
    exact ⟨ret_bool HV.out.symm, HB0.out⟩
  obtain ⟨hl1, hl60⟩ := Classical.not_not.1 hlen
  clear hlen
  have hin : (decide ((1 : Int) ≤ n) && decide ((n : Int) ≤ 60)) = true := by
    rw [Bool.and_eq_true, decide_eq_true_eq, decide_eq_true_eq]; omega
  by_cases ho : ¬ ot = (n : Int) - 1
  · have HV : Hid (okTp ns ot = false) := by have := HL.out; exact okTp_len (by omega)
    have e1 : (ot != (n : Int) - 1) = true := by simpa using ho
    have e2 : (ot != IntKind.i64.wrap ((n : Int) - 1)) = true := by rw [hwr]; exact e1
    go_enter Tryz.func105, Tryz.ntmps105
    go_wp2_with (go_at_call 129; refine (l01In_any _ _ _ _).mono ?_; rintro e w1 ⟨rfl, rfl⟩; rw [hin])
    go_ret
    exact ⟨ret_bool HV.out.symm, HB0.out⟩
  obtain rfl := Classical.not_not.1 ho
  clear ho
  have e1 : (((n : Int) - 1) != (n : Int) - 1) = false := by simp
  have e2 : (((n : Int) - 1) != IntKind.i64.wrap ((n : Int) - 1)) = false := by rw [hwr]; exact e1
  obtain ⟨b, o, rfl, _, hP, hc⟩ := HR.out.at_ (by omega)
  have HC := Lib.hid hc
  clear hc
  go_enter Tryz.func105, Tryz.ntmps105
  go_wp2_with (go_at_call 129; refine (l01In_any _ _ _ _).mono ?_; rintro e w1 ⟨rfl, rfl⟩; rw [hin])
  clear e1 e2 hin hwr
  go_loopw [3] (fun i wr => ∃ k : Nat, k ≤ n ∧ i = .int .i64 k ∧ Hid (AllSt ns k ∧ Lone ns k) ∧ Hid (Below w.heap.size w wr) ∧ Hid (TpAt wr w.heap.size 63 (some ⟨b, o, none⟩) n c ((n : Int) - 1))) (fun i _ => n - (intOf i).toNat)
  case atStart => exact ⟨0, Nat.zero_le _, rfl, Lib.hid ⟨fun i hi => by omega, fun i hi => by omega⟩, HB0, HT0⟩
  case round =>
    obtain ⟨k, hk, rfl, HK, HB, HT⟩ := hrel
    have s0 := HT.out.c0
    by_cases hlt : k < n
    · have e4 := (HC.out k hlt).keep (HB.out.block b hP)
      have HBAD : Hid (stepN (ns.getD k nd0) k = false → okTp ns ((n : Int) - 1) = false) := fun h => okTp_step (by rw [HL.out]; exact hlt) h
      have HTW : Hid (0 ≤ findN (ns.take k) (ns.getD k nd0) k → okTp ns ((n : Int) - 1) = false) := fun h => by
        rw [find_first] at h
        rcases findN_cases ns (ns.getD k nd0) k with ⟨h1, _⟩ | ⟨j, hj, h1, h2⟩
        · omega
        · exact okTp_twice (by rw [HL.out]; exact hlt) hj h2
      have HNEXT : Hid (stepN (ns.getD k nd0) k = true → ¬ 0 ≤ findN (ns.take k) (ns.getD k nd0) k → AllSt ns (k + 1) ∧ Lone ns (k + 1)) := fun h h' => by
        rw [find_first] at h'
        refine ⟨allSt_more HK.out.1 h, lone_more HK.out.2 ?_⟩
        rcases findN_cases ns (ns.getD k nd0) k with ⟨_, h2⟩ | ⟨j, hj, h1, h2⟩
        · exact h2
        · omega
      obtain ⟨x, hx⟩ : ∃ x, ns.getD k nd0 = x := ⟨_, rfl⟩
      have HE := Lib.hid (HC.out k hlt)
      rw [hx] at e4 HBAD HTW HNEXT HE
      clear hx
      obtain ⟨op, xa, xb, xn⟩ := x
      obtain ⟨q0, q1, q2, q3⟩ := e4
      dsimp only at q0 q1 q2 q3
      have hkn : (k : Int) < n := by omega
      have hkc : k ≤ c := by have := HR.out.2.1; omega
      have hkcI : (k : Int) ≤ c := by omega
      have hkc' : ¬ (c : Int) < k := by omega
      have hk0 : ¬ (k : Int) < 0 := by omega
      have hRF : ∀ v, Below w.heap.size w v → RdN v (· < w.heap.size) (some ⟨b, o, none⟩) k c (ns.take k) := fun v hv => (HR.out.below hv).first hk
      have HRF := Lib.hid hRF
      clear hRF
      go_wp2_with fail
      have HC0 := Lib.hid (show _ ∧ _ ∧ _ ∧ _ ∧ _ from ⟨s0, q0, q1, q2, q3⟩)
      clear s0 q0 q1 q2 q3
      have HS := Lib.hid (l07Step_any op xa xb xn k)
      have HF := Lib.hid (l07Find_any (some ⟨b, o, none⟩) k c (ns.take k) op xa xb xn)
      cases hst : stepN (op, xa, xb, xn) k with
      | false =>
        have HV := Lib.hid (HBAD.out hst)
        have HST := Lib.hid hst
        clear hst HBAD HTW HNEXT
        refine wp_region_held_drew (S := fun wx => wx.cell? ⟨w.heap.size, 0, none⟩ = some (.slice (some ⟨b, o, none⟩) n c) ∧ wx.cell? ⟨b, o + k * 4, none⟩ = some (.int .i64 op) ∧ wx.cell? ⟨b, o + k * 4 + 1, none⟩ = some (.int .i64 xa) ∧ wx.cell? ⟨b, o + k * 4 + 2, none⟩ = some (.int .i64 xb) ∧ wx.cell? ⟨b, o + k * 4 + 3, none⟩ = some (.int .i64 xn)) (by kernel_rfl) HC0.out (fun hHeld => ?_)
        refine wpAnyH_take (i := 0) (v := ?_) rfl (by kernel_rfl) (by kernel_rfl) (by kernel_rfl) (fun _ _ _ h => h) (Or.inl ⟨by rfl, ?_⟩) (by assumption) ?_
        rotate_left
        · intro wz hSz
          (try dsimp only at hSz)
          obtain ⟨g0, g1, g2, g3, g4⟩ := hSz
          go_simp
          (try with_reducible rfl)
        (try simp only [Act.put, List.getElem_toArray, List.getElem_cons_succ, List.getElem_cons_zero, List.setIfInBounds_toArray, List.set_cons_zero, List.set_cons_succ])
        refine wpAnyH_take (i := 1) (v := ?_) rfl (by kernel_rfl) (by kernel_rfl) (by kernel_rfl) (fun _ _ _ h => h) (Or.inl ⟨by rfl, ?_⟩) (by assumption) ?_
        rotate_left
        · intro wz hSz
          (try dsimp only at hSz)
          obtain ⟨g0, g1, g2, g3, g4⟩ := hSz
          go_simp
          (try with_reducible rfl)
        (try simp only [Act.put, List.getElem_toArray, List.getElem_cons_succ, List.getElem_cons_zero, List.setIfInBounds_toArray, List.set_cons_zero, List.set_cons_succ])
        refine wpAnyH_take (i := 2) (v := ?_) rfl (by kernel_rfl) (by kernel_rfl) (by kernel_rfl) (fun _ _ _ h => h) (Or.inl ⟨by rfl, ?_⟩) (by assumption) ?_
        rotate_left
        · intro wz hSz
          (try dsimp only at hSz)
          obtain ⟨g0, g1, g2, g3, g4⟩ := hSz
          go_simp
          (try with_reducible rfl)
        (try simp only [Act.put, List.getElem_toArray, List.getElem_cons_succ, List.getElem_cons_zero, List.setIfInBounds_toArray, List.set_cons_zero, List.set_cons_succ])
        refine wpAnyH_take (i := 3) (v := ?_) rfl (by kernel_rfl) (by kernel_rfl) (by kernel_rfl) (fun _ _ _ h => h) (Or.inl ⟨by rfl, ?_⟩) (by assumption) ?_
        rotate_left
        · intro wz hSz
          (try dsimp only at hSz)
          obtain ⟨g0, g1, g2, g3, g4⟩ := hSz
          go_simp
          (try with_reducible rfl)
        (try simp only [Act.put, List.getElem_toArray, List.getElem_cons_succ, List.getElem_cons_zero, List.setIfInBounds_toArray, List.set_cons_zero, List.set_cons_succ])
        refine wpAnyH_take (i := 4) (v := ?_) rfl (by kernel_rfl) (by kernel_rfl) (by kernel_rfl) (fun _ _ _ h => h) (Or.inl ⟨by rfl, ?_⟩) (by assumption) ?_
        rotate_left
        · intro wz hSz
          (try dsimp only at hSz)
          obtain ⟨g0, g1, g2, g3, g4⟩ := hSz
          go_simp
          (try with_reducible rfl)
        (try simp only [Act.put, List.getElem_toArray, List.getElem_cons_succ, List.getElem_cons_zero, List.setIfInBounds_toArray, List.set_cons_zero, List.set_cons_succ])
        refine wpAnyH_take (i := 5) (v := ?_) rfl (by kernel_rfl) (by kernel_rfl) (by kernel_rfl) (fun _ _ _ h => h) (Or.inl ⟨by rfl, ?_⟩) (by assumption) ?_
        rotate_left
        · intro wz hSz
          (try dsimp only at hSz)
          obtain ⟨g0, g1, g2, g3, g4⟩ := hSz
          go_simp
          (try with_reducible rfl)
        (try simp only [Act.put, List.getElem_toArray, List.getElem_cons_succ, List.getElem_cons_zero, List.setIfInBounds_toArray, List.set_cons_zero, List.set_cons_succ])
        refine wpAnyH_ready (rs := [6]) (by kernel_rfl) (by simp) ?_
        refine AllReadyH.cons rfl (fun K hK => ?_) AllReadyH.nil
        go_simp
        refine (HS.out _ (by omega) (by omega)).mono ?_
        rintro e v1 ⟨rfl, bb⟩
        have bb := undrewN bb
        have HB1 := Lib.hid (belowN_on HB.out bb)
        have HT1 := Lib.hid (HT.out.on bb)
        have HC1 := Lib.hid (show _ ∧ _ ∧ _ ∧ _ ∧ _ from ⟨HT1.out.c0, HE.out.keep (HB1.out.block b hP)⟩)
        clear bb
        rw [HST.out]
        (try go_wp2_with fail)
        refine hK.out _ _ HC1.out (fun hHeld1 => ?_)
        clear hK K hHeld
        (try simp only [Act.put, List.getElem_toArray, List.getElem_cons_succ, List.getElem_cons_zero, List.setIfInBounds_toArray, List.set_cons_zero, List.set_cons_succ])
        refine wpAnyH_take (i := 7) (v := ?_) rfl (by kernel_rfl) (by kernel_rfl) (by kernel_rfl) (fun _ _ _ h => h) (Or.inl ⟨by rfl, ?_⟩) (by assumption) ?_
        rotate_left
        · intro wz hSz
          (try dsimp only at hSz)
          obtain ⟨g0, g1, g2, g3, g4⟩ := hSz
          go_simp
          (try with_reducible rfl)
        (try simp only [Act.put, List.getElem_toArray, List.getElem_cons_succ, List.getElem_cons_zero, List.setIfInBounds_toArray, List.set_cons_zero, List.set_cons_succ])
        refine wpAnyH_take (i := 8) (v := ?_) rfl (by kernel_rfl) (by kernel_rfl) (by kernel_rfl) (fun _ _ _ h => h) (Or.inl ⟨by rfl, ?_⟩) (by assumption) ?_
        rotate_left
        · intro wz hSz
          (try dsimp only at hSz)
          obtain ⟨g0, g1, g2, g3, g4⟩ := hSz
          go_simp
          (try with_reducible rfl)
        (try simp only [Act.put, List.getElem_toArray, List.getElem_cons_succ, List.getElem_cons_zero, List.setIfInBounds_toArray, List.set_cons_zero, List.set_cons_succ])
        refine wpAnyH_take (i := 9) (v := undef) rfl (by kernel_rfl) (by kernel_rfl) (by kernel_rfl) (fun _ _ _ h => h) (Or.inr ⟨by rfl, rfl⟩) (by assumption) ?_
        (try simp only [Act.put, List.getElem_toArray, List.getElem_cons_succ, List.getElem_cons_zero, List.setIfInBounds_toArray, List.set_cons_zero, List.set_cons_succ])
        refine wpAnyH_take (i := 10) (v := undef) rfl (by kernel_rfl) (by kernel_rfl) (by kernel_rfl) (fun _ _ _ h => h) (Or.inr ⟨by rfl, rfl⟩) (by assumption) ?_
        (try simp only [Act.put, List.getElem_toArray, List.getElem_cons_succ, List.getElem_cons_zero, List.setIfInBounds_toArray, List.set_cons_zero, List.set_cons_succ])
        refine wpAnyH_take (i := 11) (v := undef) rfl (by kernel_rfl) (by kernel_rfl) (by kernel_rfl) (fun _ _ _ h => h) (Or.inr ⟨by rfl, rfl⟩) (by assumption) ?_
        (try simp only [Act.put, List.getElem_toArray, List.getElem_cons_succ, List.getElem_cons_zero, List.setIfInBounds_toArray, List.set_cons_zero, List.set_cons_succ])
        refine wpAnyH_take (i := 12) (v := undef) rfl (by kernel_rfl) (by kernel_rfl) (by kernel_rfl) (fun _ _ _ h => h) (Or.inr ⟨by rfl, rfl⟩) (by assumption) ?_
        (try simp only [Act.put, List.getElem_toArray, List.getElem_cons_succ, List.getElem_cons_zero, List.setIfInBounds_toArray, List.set_cons_zero, List.set_cons_succ])
        refine wpAnyH_take (i := 13) (v := undef) rfl (by kernel_rfl) (by kernel_rfl) (by kernel_rfl) (fun _ _ _ h => h) (Or.inr ⟨by rfl, rfl⟩) (by assumption) ?_
        (try simp only [Act.put, List.getElem_toArray, List.getElem_cons_succ, List.getElem_cons_zero, List.setIfInBounds_toArray, List.set_cons_zero, List.set_cons_succ])
        refine wpAnyH_take (i := 14) (v := undef) rfl (by kernel_rfl) (by kernel_rfl) (by kernel_rfl) (fun _ _ _ h => h) (Or.inr ⟨by rfl, rfl⟩) (by assumption) ?_
        (try simp only [Act.put, List.getElem_toArray, List.getElem_cons_succ, List.getElem_cons_zero, List.setIfInBounds_toArray, List.set_cons_zero, List.set_cons_succ])
        refine wpAnyH_take (i := 15) (v := undef) rfl (by kernel_rfl) (by kernel_rfl) (by kernel_rfl) (fun _ _ _ h => h) (Or.inr ⟨by rfl, rfl⟩) (by assumption) ?_
        (try simp only [Act.put, List.getElem_toArray, List.getElem_cons_succ, List.getElem_cons_zero, List.setIfInBounds_toArray, List.set_cons_zero, List.set_cons_succ])
        refine wpAnyH_take (i := 16) (v := undef) rfl (by kernel_rfl) (by kernel_rfl) (by kernel_rfl) (fun _ _ _ h => h) (Or.inr ⟨by rfl, rfl⟩) (by assumption) ?_
        (try simp only [Act.put, List.getElem_toArray, List.getElem_cons_succ, List.getElem_cons_zero, List.setIfInBounds_toArray, List.set_cons_zero, List.set_cons_succ])
        refine wpAnyH_take (i := 17) (v := undef) rfl (by kernel_rfl) (by kernel_rfl) (by kernel_rfl) (fun _ _ _ h => h) (Or.inr ⟨by rfl, rfl⟩) (by assumption) ?_
        (try simp only [Act.put, List.getElem_toArray, List.getElem_cons_succ, List.getElem_cons_zero, List.setIfInBounds_toArray, List.set_cons_zero, List.set_cons_succ])
        refine wpAnyH_take (i := 18) (v := undef) rfl (by kernel_rfl) (by kernel_rfl) (by kernel_rfl) (fun _ _ _ h => h) (Or.inr ⟨by rfl, rfl⟩) (by assumption) ?_
        (try simp only [Act.put, List.getElem_toArray, List.getElem_cons_succ, List.getElem_cons_zero, List.setIfInBounds_toArray, List.set_cons_zero, List.set_cons_succ])
        refine wpAnyH_take (i := 19) (v := undef) rfl (by kernel_rfl) (by kernel_rfl) (by kernel_rfl) (fun _ _ _ h => h) (Or.inr ⟨by rfl, rfl⟩) (by assumption) ?_
        (try simp only [Act.put, List.getElem_toArray, List.getElem_cons_succ, List.getElem_cons_zero, List.setIfInBounds_toArray, List.set_cons_zero, List.set_cons_succ])
        refine wpAnyH_take (i := 20) (v := ?_) rfl (by kernel_rfl) (by kernel_rfl) (by kernel_rfl) (fun _ _ _ h => h) (Or.inl ⟨by rfl, ?_⟩) (by assumption) ?_
        rotate_left
        · intro wz hSz
          (try dsimp only at hSz)
          obtain ⟨g0, g1, g2, g3, g4⟩ := hSz
          go_simp
          (try with_reducible rfl)
        (try simp only [Act.put, List.getElem_toArray, List.getElem_cons_succ, List.getElem_cons_zero, List.setIfInBounds_toArray, List.set_cons_zero, List.set_cons_succ])
        refine wpAnyH_done (by kernel_rfl) ?_ _
        try simp only [Act.put, List.getElem_toArray, List.getElem_cons_succ, List.getElem_cons_zero, List.setIfInBounds_toArray, List.set_cons_zero, List.set_cons_succ]
        go_wp2
        go_ret
        exact ⟨ret_bool HV.out.symm, HB1.out⟩
      | true =>
        obtain ⟨f, hf⟩ : ∃ f, findN (ns.take k) (op, xa, xb, xn) k = f := ⟨_, rfl⟩
        rw [hf] at HF HTW HNEXT
        have HST := Lib.hid hst
        by_cases hd0 : 0 ≤ f
        · have HV := Lib.hid (HTW.out hd0)
          have hd : decide (0 ≤ f) = true := decide_eq_true hd0
          clear hst HBAD HTW HNEXT hd0 hf
          go_region_held3 (fun wx => wx.cell? ⟨w.heap.size, 0, none⟩ = some (.slice (some ⟨b, o, none⟩) n c) ∧ wx.cell? ⟨b, o + k * 4, none⟩ = some (.int .i64 op) ∧ wx.cell? ⟨b, o + k * 4 + 1, none⟩ = some (.int .i64 xa) ∧ wx.cell? ⟨b, o + k * 4 + 2, none⟩ = some (.int .i64 xb) ∧ wx.cell? ⟨b, o + k * 4 + 3, none⟩ = some (.int .i64 xn))
            (first | exact HC0.out | exact HC1.out | exact HC2.out)
            (first
              | (go_at_call 140; refine (HS.out _ (by omega) (by omega)).mono ?_; rintro e v1 ⟨rfl, bb⟩; have bb := undrewN bb; have HB1 := Lib.hid (belowN_on HB.out bb); have HT1 := Lib.hid (HT.out.on bb); have HC1 := Lib.hid (show _ ∧ _ ∧ _ ∧ _ ∧ _ from ⟨HT1.out.c0, HE.out.keep (HB1.out.block b hP)⟩); clear bb; rw [HST.out])
              | (go_at_call 141; refine (HF.out _ _ (HRF.out _ HB1.out) (by omega)).mono ?_; rintro e v2 ⟨rfl, bb⟩; have HB2 := Lib.hid (belowN_on HB1.out bb); have HT2 := Lib.hid (HT1.out.on bb); have HC2 := Lib.hid (show _ ∧ _ ∧ _ ∧ _ ∧ _ from ⟨HT2.out.c0, HE.out.keep (HB2.out.block b hP)⟩); clear bb))
          go_wp2
          go_ret
          exact ⟨ret_bool HV.out.symm, HB2.out⟩
        · have HN := Lib.hid (HNEXT.out hst (by omega))
          have hd : decide (0 ≤ f) = false := decide_eq_false hd0
          clear hst HBAD HTW HNEXT hd0 hf
          go_region_held3 (fun wx => wx.cell? ⟨w.heap.size, 0, none⟩ = some (.slice (some ⟨b, o, none⟩) n c) ∧ wx.cell? ⟨b, o + k * 4, none⟩ = some (.int .i64 op) ∧ wx.cell? ⟨b, o + k * 4 + 1, none⟩ = some (.int .i64 xa) ∧ wx.cell? ⟨b, o + k * 4 + 2, none⟩ = some (.int .i64 xb) ∧ wx.cell? ⟨b, o + k * 4 + 3, none⟩ = some (.int .i64 xn))
            (first | exact HC0.out | exact HC1.out | exact HC2.out)
            (first
              | (go_at_call 140; refine (HS.out _ (by omega) (by omega)).mono ?_; rintro e v1 ⟨rfl, bb⟩; have bb := undrewN bb; have HB1 := Lib.hid (belowN_on HB.out bb); have HT1 := Lib.hid (HT.out.on bb); have HC1 := Lib.hid (show _ ∧ _ ∧ _ ∧ _ ∧ _ from ⟨HT1.out.c0, HE.out.keep (HB1.out.block b hP)⟩); clear bb; rw [HST.out])
              | (go_at_call 141; refine (HF.out _ _ (HRF.out _ HB1.out) (by omega)).mono ?_; rintro e v2 ⟨rfl, bb⟩; have HB2 := Lib.hid (belowN_on HB1.out bb); have HT2 := Lib.hid (HT1.out.on bb); have HC2 := Lib.hid (show _ ∧ _ ∧ _ ∧ _ ∧ _ from ⟨HT2.out.c0, HE.out.keep (HB2.out.block b hP)⟩); clear bb))
          go_wp2
          go_roundw
          case rel => exact ⟨k + 1, by omega, by go_num, HN, HB2, HT2⟩
          case measure => simp [intOf]; omega
    · obtain rfl : k = n := by omega
      have HV : Hid (okTp ns ((k : Int) - 1) = true) := by
        have e := HL.out
        exact okTp_yes (by omega) (by omega) (by omega) (by rw [e]; exact HK.out.1) (by rw [e]; exact HK.out.2)
      clear HK
      go_wp2
      go_ret
      exact ⟨ret_bool HV.out.symm, HB.out⟩
end Go.Proofs.YtcepjcnpokpdcaaGreatDoor
