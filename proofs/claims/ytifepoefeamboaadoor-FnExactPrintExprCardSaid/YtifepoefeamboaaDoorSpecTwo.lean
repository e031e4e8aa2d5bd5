/-
  The text of an expression, of the model: a node with two children.
-/
import Derived.Test.YtifepoefeamboaaDoorSpecTxt
import Derived.Deep.RegionHeld3
namespace Nt
open Go Go.RowKit
theorem below_drew1 (w : World) (o : Obj) : Below w.heap.size w (w.drew.alloc o) := (below_drewN (Below.refl w.heap.size w) 1).trans (below_one w.drew o)
end Nt
namespace Go.Proofs.YtifepoefeamboaaDoor
open Go Go.RowKit Nt

theorem cell_signs (w : World) (t : TypeId) (op : Int) (q : Nat) (hq : q < 4) (h : op = (q : Int) + 3) : (w.alloc (.cells #[.string ⟨#[43]⟩, .string ⟨#[45]⟩, .string ⟨#[42]⟩, .string ⟨#[47]⟩] t)).cell? ⟨w.heap.size, q, none⟩ = some (.string ⟨(signT op).toArray⟩) := by
  rw [cell_of_row _ w.heap.size q _ t (0, 0) (heap_alloc_new w _)]
  subst h
  rcases (show q = 0 ∨ q = 1 ∨ q = 2 ∨ q = 3 by omega) with rfl | rfl | rfl | rfl <;> rfl
set_option linter.unusedSimpArgs false in
set_option linter.unusedVariables false in
set_option maxRecDepth 20000 in
set_option maxHeartbeats 3200000 in
theorem l05Text_two (A : Option Addr) (n c : Nat) (ns : List Nd) (ts : List Tr) (w0 : World) (hr : RdN w0 (· < w0.heap.size) A n c ns) (hn : n ≤ 60) (hf : ∀ j, j < n → fitN (ns.getD j nd0) = true) (hT : Tied ns ts) (hl : ts.length = n) (hN : Nest ts) :
    ∀ (d i : Nat) (w : World), d < 12 → i < n → (ts.getD i tr0).2 ≤ d + 1 → two (ns.getD i nd0).1 = true → Below w0.heap.size w0 w →
      (∀ (j : Nat) (hj : j < n) (hdj : (ts.getD j tr0).2 ≤ d) (W : World) (hW : Below w0.heap.size w0 W), Calls Tryd.prog 55 #[.agg #[.slice A n c], .int .i64 (j : Int)] W fun e w' => e = .returned (.string ⟨(partP ns (pr ns j) j true).toArray⟩) ∧ Below W.heap.size W w') →
      Calls Tryd.prog 35 #[.agg #[.slice A n c], .int .i64 (i : Int)] w fun e w' => e = .returned (.string ⟨(pr ns i).toArray⟩) ∧ Below w.heap.size w w' := by
  intro d i w hd12 hi hd htw hw hIN
  have hns : ns.length = n := hr.len
  have HPA := Lib.hid hIN
  have HLA := Lib.hid (fun (j : Nat) (hj : j < n) (hdj : (ts.getD j tr0).2 ≤ d) => Nat.le_trans (pr_len (ns := ns) (ts := ts) (fun k hk => hf k (by omega)) hT (by omega) hN d j (by omega) hdj) (lenB_12 (by omega)))
  obtain ⟨t1, t2, t3⟩ := hT i (by omega)
  obtain ⟨b, o, rfl, hP, _, hc⟩ := hr.at_ (by omega)
  have e4 := (hc i hi).keep (hw.block b hP)
  have hbl : b < w.heap.size := Nat.lt_of_lt_of_le hP hw.size
  have hin : (i : Int) < n := by omega
  have HW := Lib.hid hw
  have hp2 := @pr_two ns i
  obtain ⟨x, hx⟩ : ∃ x, ns.getD i nd0 = x := ⟨_, rfl⟩
  rw [hx] at e4 t1 t2 t3 hp2 htw
  obtain ⟨op, xa, xb, xn⟩ := x
  obtain ⟨q0, q1, q2, q3⟩ := e4
  dsimp only at q0 q1 q2 q3 t1 t2 t3 hp2 htw
  have HB0 := Lib.hid (below_one w (.cells #[.slice (some ⟨b, o, none⟩) n c] 46))
  have HB1 : Hid (Below w.heap.size w ((w.alloc (.cells #[.slice (some ⟨b, o, none⟩) n c] 46)).alloc (.cells #[.int .i64 op, .int .i64 xa, .int .i64 xb, .int .i64 xn] 58))) := HB0.out.alloc HB0.out.size _
  have HW1 : Hid (Below w0.heap.size w0 ((w.alloc (.cells #[.slice (some ⟨b, o, none⟩) n c] 46)).alloc (.cells #[.int .i64 op, .int .i64 xa, .int .i64 xb, .int .i64 xn] 58))) := HW.out.trans (HB1.out.mono HW.out.size)
  obtain ⟨a, b', ea, eb, ha, hb', _, ed⟩ := t1 htw
  have ea : xa = (a : Int) := ea
  have eb : xb = (b' : Int) := eb
  subst ea eb
  obtain ⟨q, hq4, hopq⟩ : ∃ q : Nat, q < 4 ∧ op = (q : Int) + 3 := by
    have hop : 3 ≤ op ∧ op ≤ 6 := by unfold two at htw; simpa using htw
    exact ⟨(op - 3).toNat, by omega, by omega⟩
  have HV := Lib.hid (hp2 htw rfl rfl ha hb')
  have HPa := Lib.hid (HPA.out a (by omega) (by omega))
  have HPb := Lib.hid (HPA.out b' (by omega) (by omega))
  have hpl := partP_len ns (pr ns a) a true
  have hal := HLA.out a (by omega) (by omega)
  have hpl' := partP_len ns (pr ns b') b' true
  have hal' := HLA.out b' (by omega) (by omega)
  have hsl := signT_len op
  have HCS := Lib.hid (fun (W : World) => cell_signs W 9 op q hq4 hopq)
  have HAP := Lib.hid (str5 (partP ns (pr ns a) a true) (signT op) (partP ns (pr ns b') b' true))
  generalize partP ns (pr ns a) a true = ta at *
  generalize partP ns (pr ns b') b' true = tb at *
  have hwr : IntKind.i64.wrap (op - 3) = (q : Int) := by rw [show op - 3 = (q : Int) by omega]; exact IntWalk.i64_in _ (by omega)
  have z1 : (op == 1) = false := by simp; omega
  have z2 : (op == 2) = false := by simp; omega
  have z7 : (op == 7) = false := by simp; omega
  have z8 : (op == 8) = false := by simp; omega
  have hop3 : 3 ≤ op := by omega
  have hop6 : op ≤ 6 := by omega
  have hsub : op - 3 = (q : Int) := by omega
  generalize signT op = st at *
  have hs1 : ¬ 9223372036854775807 < ta.length + 1 := by omega
  have hs2 : ¬ 9223372036854775807 < ta.length + 1 + st.length := by omega
  have hs3 : ¬ 9223372036854775807 < ta.length + 1 + st.length + 1 := by omega
  have hs4 : ¬ 9223372036854775807 < ta.length + 1 + st.length + 1 + tb.length := by omega
  have hq4' : (q : Int) < 4 := by omega
  clear hopq hsl
  have HE0 := Lib.hid ((SlAt.new w 46 (some ⟨b, o, none⟩) n c).on (below_one _ (.cells #[.int .i64 op, .int .i64 (a : Int), .int .i64 (b' : Int), .int .i64 xn] 58)))
  have hn0 := NodeAt.new (w.alloc (.cells #[.slice (some ⟨b, o, none⟩) n c] 46)) 58 op (a : Int) (b' : Int) xn
  rw [World.size_alloc] at hn0
  have HN0 := Lib.hid hn0
  clear hp2 t1 t2 t3 HPA HLA hpl hal hpl' hal' htw hn0 hIN hc hx hr hw hf hT hN ed
  go_enter Tryd.func35, Tryd.ntmps35
  go_wp2_with fail
  refine wp_atN (fun V => Below w.heap.size w V ∧ Below w0.heap.size w0 V ∧ SlAt V w.heap.size 46 (some ⟨b, o, none⟩) n c ∧ NodeAt V (w.heap.size + 1) 58 op (a : Int) (b' : Int) xn) ⟨HB1.out, HW1.out, HE0.out, HN0.out⟩ ?_
  rintro v0 ⟨vb, vw, ve, vn⟩
  have HVB := Lib.hid vb
  have HVW := Lib.hid vw
  have HVE := Lib.hid ve
  have HVN := Lib.hid vn
  have e0 := ve.c0
  have n0 := vn.c0
  have n1 := vn.c1
  have n2 := vn.c2
  have hz0 : w.heap.size + 1 < v0.heap.size := vn.lt
  have hy0 : w.heap.size < v0.heap.size := by omega
  clear vb vw ve vn HB0 HB1 HW1 HE0 HN0 q0 q1 q2 q3
  have hc0 := HCS.out v0.drew
  have hq00 : (0 : Int) ≤ q := by omega
  have hwq : IntKind.i64.wrap (q : Int) = (q : Int) := IntWalk.i64_in _ (by omega)
  refine wp_region_held_drew (S := fun wx => wx.cell? ⟨w.heap.size, 0, none⟩ = some (.slice (some ⟨b, o, none⟩) n c) ∧ wx.cell? ⟨w.heap.size + 1, 0, none⟩ = some (.int .i64 op) ∧ wx.cell? ⟨w.heap.size + 1, 1, none⟩ = some (.int .i64 (a : Int)) ∧ wx.cell? ⟨w.heap.size + 1, 2, none⟩ = some (.int .i64 (b' : Int))) (by kernel_rfl) ⟨e0, n0, n1, n2⟩ (fun hHeld => ?_)
  refine wpAnyH_take (i := 0) (v := ?_) rfl (by kernel_rfl) (by kernel_rfl) (by kernel_rfl) (fun _ _ _ h => h) (Or.inl ⟨by rfl, ?_⟩) (by assumption) ?_
  rotate_left
  · intro wz hSz
    (try dsimp only at hSz)
    go_simp
    (try with_reducible rfl)
  (try simp only [Act.put, List.setIfInBounds_toArray, List.set_cons_zero, List.set_cons_succ])
  refine wpAnyH_take (i := 1) (v := ?_) rfl (by kernel_rfl) (by kernel_rfl) (by kernel_rfl) (fun _ _ _ h => h) (Or.inl ⟨by rfl, ?_⟩) (by assumption) ?_
  rotate_left
  · intro wz hSz
    (try dsimp only at hSz)
    go_simp
    (try with_reducible rfl)
  (try simp only [Act.put, List.setIfInBounds_toArray, List.set_cons_zero, List.set_cons_succ])
  refine wpAnyH_take (i := 2) (v := ?_) rfl (by kernel_rfl) (by kernel_rfl) (by kernel_rfl) (fun _ _ _ h => h) (Or.inl ⟨by rfl, ?_⟩) (by assumption) ?_
  rotate_left
  · intro wz hSz
    (try dsimp only at hSz)
    go_simp
    (try with_reducible rfl)
  (try simp only [Act.put, List.setIfInBounds_toArray, List.set_cons_zero, List.set_cons_succ])
  refine wpAnyH_take (i := 6) (v := ?_) rfl (by kernel_rfl) (by kernel_rfl) (by kernel_rfl) (fun _ _ _ h => h) (Or.inl ⟨by rfl, ?_⟩) (by assumption) ?_
  rotate_left
  · intro wz hSz
    (try dsimp only at hSz)
    go_simp
    (try with_reducible rfl)
  (try simp only [Act.put, List.setIfInBounds_toArray, List.set_cons_zero, List.set_cons_succ])
  refine wpAnyH_take (i := 7) (v := ?_) rfl (by kernel_rfl) (by kernel_rfl) (by kernel_rfl) (fun _ _ _ h => h) (Or.inl ⟨by rfl, ?_⟩) (by assumption) ?_
  rotate_left
  · intro wz hSz
    (try dsimp only at hSz)
    go_simp
    (try with_reducible rfl)
  (try simp only [Act.put, List.setIfInBounds_toArray, List.set_cons_zero, List.set_cons_succ])
  refine wpAnyH_take (i := 8) (v := ?_) rfl (by kernel_rfl) (by kernel_rfl) (by kernel_rfl) (fun _ _ _ h => h) (Or.inl ⟨by rfl, ?_⟩) (by assumption) ?_
  rotate_left
  · intro wz hSz
    (try dsimp only at hSz)
    go_simp
    (try with_reducible rfl)
  (try simp only [Act.put, List.setIfInBounds_toArray, List.set_cons_zero, List.set_cons_succ])
  refine wpAnyH_take (i := 13) (v := ?_) rfl (by kernel_rfl) (by kernel_rfl) (by kernel_rfl) (fun _ _ _ h => h) (Or.inl ⟨by rfl, ?_⟩) (by assumption) ?_
  rotate_left
  · intro wz hSz
    (try dsimp only at hSz)
    go_simp
    (try with_reducible rfl)
  (try simp only [Act.put, List.setIfInBounds_toArray, List.set_cons_zero, List.set_cons_succ])
  refine wpAnyH_take (i := 14) (v := ?_) rfl (by kernel_rfl) (by kernel_rfl) (by kernel_rfl) (fun _ _ _ h => h) (Or.inl ⟨by rfl, ?_⟩) (by assumption) ?_
  rotate_left
  · intro wz hSz
    (try dsimp only at hSz)
    go_simp
    (try with_reducible rfl)
  (try simp only [Act.put, List.setIfInBounds_toArray, List.set_cons_zero, List.set_cons_succ])
  refine wpAnyH_take (i := 15) (v := ?_) rfl (by kernel_rfl) (by kernel_rfl) (by kernel_rfl) (fun _ _ _ h => h) (Or.inl ⟨by rfl, ?_⟩) (by assumption) ?_
  rotate_left
  · intro wz hSz
    (try dsimp only at hSz)
    go_simp
    (try with_reducible rfl)
  (try simp only [Act.put, List.setIfInBounds_toArray, List.set_cons_zero, List.set_cons_succ])
  refine wpAnyH_ready (rs := [3, 5]) (by kernel_rfl) (by simp) ?_
  refine AllReadyH.cons rfl (fun K hK => ?_) ?_
  · go_simp
    refine (HPa.out _ (below_drewN HVW.out 1)).mono ?_
    rintro e v1 ⟨rfl, bb⟩
    have bv : Below v0.heap.size v0 v1 := undrewT' bb
    have HXB := Lib.hid (belowN_on HVB.out bv)
    have HXW := Lib.hid (HVW.out.trans (bv.mono HVW.out.size))
    have HXE := Lib.hid (HVE.out.on bv)
    have HXN := Lib.hid (HVN.out.on bv)
    have hyx : w.heap.size < v1.heap.size := HXE.out.lt
    clear bb bv
    (try go_wp2_with fail)
    refine hK.out _ _ ?_ (fun hHeld => ?_)
    · exact ⟨HXE.out.c0, HXN.out.c0, HXN.out.c1, HXN.out.c2⟩
    clear hK K
    (try simp only [Act.put, List.setIfInBounds_toArray, List.set_cons_zero, List.set_cons_succ])
    refine wpAnyH_take (i := 4) (v := ?_) rfl (by kernel_rfl) (by kernel_rfl) (by kernel_rfl) (fun _ _ _ h => h) (Or.inl ⟨by rfl, ?_⟩) (by assumption) ?_
    rotate_left
    · intro wz hSz
      (try dsimp only at hSz)
      go_simp
      (try with_reducible rfl)
    (try simp only [Act.put, List.setIfInBounds_toArray, List.set_cons_zero, List.set_cons_succ])
    refine wpAnyH_ready (rs := [5, 16]) (by kernel_rfl) (by simp) ?_
    refine AllReadyH.cons rfl (fun K hK => ?_) ?_
    · have hcs := HCS.out v1
      go_simp
      refine hK.out _ _ ?_ (fun hHeld => ?_)
      · exact ⟨(HXE.out.on (below_one _ _)).c0, (HXN.out.on (below_one _ _)).c0, (HXN.out.on (below_one _ _)).c1, (HXN.out.on (below_one _ _)).c2⟩
      clear hK K
      (try simp only [Act.put, List.setIfInBounds_toArray, List.set_cons_zero, List.set_cons_succ])
      refine wpAnyH_take (i := 9) (v := ?_) rfl (by kernel_rfl) (by kernel_rfl) (by kernel_rfl) (fun _ _ _ h => h) (Or.inl ⟨by rfl, ?_⟩) (by assumption) ?_
      rotate_left
      · intro wz hSz
        (try dsimp only at hSz)
        go_simp
        (try with_reducible rfl)
      (try simp only [Act.put, List.setIfInBounds_toArray, List.set_cons_zero, List.set_cons_succ])
      refine wpAnyH_ready (rs := [10, 16]) (by kernel_rfl) (by simp) ?_
      refine AllReadyH.cons rfl (fun K hK => ?_) ?_
      · have hcs := HCS.out v1
        go_simp
        refine hK.out _ _ ?_ (fun hHeld => ?_)
        · exact ⟨(HXE.out.on (below_one _ _)).c0, (HXN.out.on (below_one _ _)).c0, (HXN.out.on (below_one _ _)).c1, (HXN.out.on (below_one _ _)).c2⟩
        clear hK K
        (try simp only [Act.put, List.setIfInBounds_toArray, List.set_cons_zero, List.set_cons_succ])
        refine wpAnyH_take (i := 11) (v := ?_) rfl (by kernel_rfl) (by kernel_rfl) (by kernel_rfl) (fun _ _ _ h => h) (Or.inl ⟨by rfl, ?_⟩) (by assumption) ?_
        rotate_left
        · intro wz hSz
          (try dsimp only at hSz)
          go_simp
          (try with_reducible rfl)
        (try simp only [Act.put, List.setIfInBounds_toArray, List.set_cons_zero, List.set_cons_succ])
        refine wpAnyH_take (i := 12) (v := ?_) rfl (by kernel_rfl) (by kernel_rfl) (by kernel_rfl) (fun _ _ _ h => h) (Or.inl ⟨by rfl, ?_⟩) (by assumption) ?_
        rotate_left
        · intro wz hSz
          (try dsimp only at hSz)
          go_simp
          (try with_reducible rfl)
        (try simp only [Act.put, List.setIfInBounds_toArray, List.set_cons_zero, List.set_cons_succ])
        refine wpAnyH_ready (rs := [16]) (by kernel_rfl) (by simp) ?_
        refine AllReadyH.cons rfl (fun K hK => ?_) ?_
        · go_simp
          refine (HPb.out _ (HXW.out.alloc HXW.out.size _)).mono ?_
          rintro e v2 ⟨rfl, bb⟩
          have bv : Below v1.heap.size v1 v2 := ((Below.refl v1.heap.size v1).alloc (Nat.le_refl _) _).trans (bb.mono (show v1.heap.size ≤ _ by simp))
          have sh : v2.cell? ⟨v1.heap.size, q, none⟩ = some (.string ⟨st.toArray⟩) := (bb.cell (p := ⟨v1.heap.size, q, none⟩) (by simp)).trans (HCS.out v1)
          have HYB := Lib.hid (belowN_on HXB.out bv)
          have HYE := Lib.hid (HXE.out.on bv)
          have HYN := Lib.hid (HXN.out.on bv)
          clear bb bv
          (try go_wp2_with fail)
          refine hK.out _ _ ?_ (fun hHeld => ?_)
          · exact ⟨HYE.out.c0, HYN.out.c0, HYN.out.c1, HYN.out.c2⟩
          clear hK K
          (try simp only [Act.put, List.setIfInBounds_toArray, List.set_cons_zero, List.set_cons_succ])
          refine wpAnyH_take (i := 17) (v := ?_) rfl (by kernel_rfl) (by kernel_rfl) (by kernel_rfl) (fun _ _ _ h => h) (Or.inl ⟨by rfl, ?_⟩) (by assumption) ?_
          rotate_left
          · intro wz hSz
            (try dsimp only at hSz)
            go_simp
            (try with_reducible rfl)
          (try simp only [Act.put, List.setIfInBounds_toArray, List.set_cons_zero, List.set_cons_succ])
          refine wpAnyH_take (i := 18) (v := ?_) rfl (by kernel_rfl) (by kernel_rfl) (by kernel_rfl) (fun _ _ _ h => h) (Or.inl ⟨by rfl, ?_⟩) (by assumption) ?_
          rotate_left
          · intro wz hSz
            (try dsimp only at hSz)
            go_simp
            (try with_reducible rfl)
          (try simp only [Act.put, List.setIfInBounds_toArray, List.set_cons_zero, List.set_cons_succ])
          refine wpAnyH_done (by kernel_rfl) ?_ _
          simp only [Act.put, List.getElem_toArray, List.getElem_cons_succ, List.getElem_cons_zero, List.setIfInBounds_toArray, List.set_cons_zero, List.set_cons_succ]
          go_wp2
          go_ret
          refine ⟨ret_str' (by rw [HV.out]; exact HAP.out), ?_⟩
          first
            | exact HYB.out
            | exact HYB.out.alloc HYB.out.size _
        exact AllReadyH.nil
      refine AllReadyH.cons rfl (fun K hK => ?_) ?_
      · go_simp
        refine (HPb.out _ (HXW.out.alloc HXW.out.size _)).mono ?_
        rintro e v2 ⟨rfl, bb⟩
        have bv : Below v1.heap.size v1 v2 := ((Below.refl v1.heap.size v1).alloc (Nat.le_refl _) _).trans (bb.mono (show v1.heap.size ≤ _ by simp))
        have sh : v2.cell? ⟨v1.heap.size, q, none⟩ = some (.string ⟨st.toArray⟩) := (bb.cell (p := ⟨v1.heap.size, q, none⟩) (by simp)).trans (HCS.out v1)
        have HYB := Lib.hid (belowN_on HXB.out bv)
        have HYE := Lib.hid (HXE.out.on bv)
        have HYN := Lib.hid (HXN.out.on bv)
        clear bb bv
        (try go_wp2_with fail)
        refine hK.out _ _ ?_ (fun hHeld => ?_)
        · exact ⟨HYE.out.c0, HYN.out.c0, HYN.out.c1, HYN.out.c2⟩
        clear hK K
        (try simp only [Act.put, List.setIfInBounds_toArray, List.set_cons_zero, List.set_cons_succ])
        refine wpAnyH_ready (rs := [10]) (by kernel_rfl) (by simp) ?_
        refine AllReadyH.cons rfl (fun K hK => ?_) ?_
        · skip
          go_simp
          refine hK.out _ _ ?_ (fun hHeld => ?_)
          · exact ⟨HYE.out.c0, HYN.out.c0, HYN.out.c1, HYN.out.c2⟩
          clear hK K
          (try simp only [Act.put, List.setIfInBounds_toArray, List.set_cons_zero, List.set_cons_succ])
          refine wpAnyH_take (i := 11) (v := ?_) rfl (by kernel_rfl) (by kernel_rfl) (by kernel_rfl) (fun _ _ _ h => h) (Or.inl ⟨by rfl, ?_⟩) (by assumption) ?_
          rotate_left
          · intro wz hSz
            (try dsimp only at hSz)
            go_simp
            (try with_reducible rfl)
          (try simp only [Act.put, List.setIfInBounds_toArray, List.set_cons_zero, List.set_cons_succ])
          refine wpAnyH_take (i := 12) (v := ?_) rfl (by kernel_rfl) (by kernel_rfl) (by kernel_rfl) (fun _ _ _ h => h) (Or.inl ⟨by rfl, ?_⟩) (by assumption) ?_
          rotate_left
          · intro wz hSz
            (try dsimp only at hSz)
            go_simp
            (try with_reducible rfl)
          (try simp only [Act.put, List.setIfInBounds_toArray, List.set_cons_zero, List.set_cons_succ])
          refine wpAnyH_take (i := 17) (v := ?_) rfl (by kernel_rfl) (by kernel_rfl) (by kernel_rfl) (fun _ _ _ h => h) (Or.inl ⟨by rfl, ?_⟩) (by assumption) ?_
          rotate_left
          · intro wz hSz
            (try dsimp only at hSz)
            go_simp
            (try with_reducible rfl)
          (try simp only [Act.put, List.setIfInBounds_toArray, List.set_cons_zero, List.set_cons_succ])
          refine wpAnyH_take (i := 18) (v := ?_) rfl (by kernel_rfl) (by kernel_rfl) (by kernel_rfl) (fun _ _ _ h => h) (Or.inl ⟨by rfl, ?_⟩) (by assumption) ?_
          rotate_left
          · intro wz hSz
            (try dsimp only at hSz)
            go_simp
            (try with_reducible rfl)
          (try simp only [Act.put, List.setIfInBounds_toArray, List.set_cons_zero, List.set_cons_succ])
          refine wpAnyH_done (by kernel_rfl) ?_ _
          simp only [Act.put, List.getElem_toArray, List.getElem_cons_succ, List.getElem_cons_zero, List.setIfInBounds_toArray, List.set_cons_zero, List.set_cons_succ]
          go_wp2
          go_ret
          refine ⟨ret_str' (by rw [HV.out]; exact HAP.out), ?_⟩
          first
            | exact HYB.out
            | exact HYB.out.alloc HYB.out.size _
        exact AllReadyH.nil
      exact AllReadyH.nil
    refine AllReadyH.cons rfl (fun K hK => ?_) ?_
    · go_simp
      refine (HPb.out _ (HXW.out)).mono ?_
      rintro e v2 ⟨rfl, bb⟩
      have bv : Below v1.heap.size v1 v2 := bb
      have HYB := Lib.hid (belowN_on HXB.out bv)
      have HYE := Lib.hid (HXE.out.on bv)
      have HYN := Lib.hid (HXN.out.on bv)
      clear bb bv
      (try go_wp2_with fail)
      refine hK.out _ _ ?_ (fun hHeld => ?_)
      · exact ⟨HYE.out.c0, HYN.out.c0, HYN.out.c1, HYN.out.c2⟩
      clear hK K
      (try simp only [Act.put, List.setIfInBounds_toArray, List.set_cons_zero, List.set_cons_succ])
      refine wpAnyH_ready (rs := [5]) (by kernel_rfl) (by simp) ?_
      refine AllReadyH.cons rfl (fun K hK => ?_) ?_
      · have hcs := HCS.out v2
        go_simp
        refine hK.out _ _ ?_ (fun hHeld => ?_)
        · exact ⟨(HYE.out.on (below_one _ _)).c0, (HYN.out.on (below_one _ _)).c0, (HYN.out.on (below_one _ _)).c1, (HYN.out.on (below_one _ _)).c2⟩
        clear hK K
        (try simp only [Act.put, List.setIfInBounds_toArray, List.set_cons_zero, List.set_cons_succ])
        refine wpAnyH_take (i := 9) (v := ?_) rfl (by kernel_rfl) (by kernel_rfl) (by kernel_rfl) (fun _ _ _ h => h) (Or.inl ⟨by rfl, ?_⟩) (by assumption) ?_
        rotate_left
        · intro wz hSz
          (try dsimp only at hSz)
          go_simp
          (try with_reducible rfl)
        (try simp only [Act.put, List.setIfInBounds_toArray, List.set_cons_zero, List.set_cons_succ])
        refine wpAnyH_ready (rs := [10]) (by kernel_rfl) (by simp) ?_
        refine AllReadyH.cons rfl (fun K hK => ?_) ?_
        · have hcs := HCS.out v2
          go_simp
          refine hK.out _ _ ?_ (fun hHeld => ?_)
          · exact ⟨(HYE.out.on (below_one _ _)).c0, (HYN.out.on (below_one _ _)).c0, (HYN.out.on (below_one _ _)).c1, (HYN.out.on (below_one _ _)).c2⟩
          clear hK K
          (try simp only [Act.put, List.setIfInBounds_toArray, List.set_cons_zero, List.set_cons_succ])
          refine wpAnyH_take (i := 11) (v := ?_) rfl (by kernel_rfl) (by kernel_rfl) (by kernel_rfl) (fun _ _ _ h => h) (Or.inl ⟨by rfl, ?_⟩) (by assumption) ?_
          rotate_left
          · intro wz hSz
            (try dsimp only at hSz)
            go_simp
            (try with_reducible rfl)
          (try simp only [Act.put, List.setIfInBounds_toArray, List.set_cons_zero, List.set_cons_succ])
          refine wpAnyH_take (i := 12) (v := ?_) rfl (by kernel_rfl) (by kernel_rfl) (by kernel_rfl) (fun _ _ _ h => h) (Or.inl ⟨by rfl, ?_⟩) (by assumption) ?_
          rotate_left
          · intro wz hSz
            (try dsimp only at hSz)
            go_simp
            (try with_reducible rfl)
          (try simp only [Act.put, List.setIfInBounds_toArray, List.set_cons_zero, List.set_cons_succ])
          refine wpAnyH_take (i := 17) (v := ?_) rfl (by kernel_rfl) (by kernel_rfl) (by kernel_rfl) (fun _ _ _ h => h) (Or.inl ⟨by rfl, ?_⟩) (by assumption) ?_
          rotate_left
          · intro wz hSz
            (try dsimp only at hSz)
            go_simp
            (try with_reducible rfl)
          (try simp only [Act.put, List.setIfInBounds_toArray, List.set_cons_zero, List.set_cons_succ])
          refine wpAnyH_take (i := 18) (v := ?_) rfl (by kernel_rfl) (by kernel_rfl) (by kernel_rfl) (fun _ _ _ h => h) (Or.inl ⟨by rfl, ?_⟩) (by assumption) ?_
          rotate_left
          · intro wz hSz
            (try dsimp only at hSz)
            go_simp
            (try with_reducible rfl)
          (try simp only [Act.put, List.setIfInBounds_toArray, List.set_cons_zero, List.set_cons_succ])
          refine wpAnyH_done (by kernel_rfl) ?_ _
          simp only [Act.put, List.getElem_toArray, List.getElem_cons_succ, List.getElem_cons_zero, List.setIfInBounds_toArray, List.set_cons_zero, List.set_cons_succ]
          go_wp2
          go_ret
          refine ⟨ret_str' (by rw [HV.out]; exact HAP.out), ?_⟩
          first
            | exact HYB.out
            | exact HYB.out.alloc HYB.out.size _
        exact AllReadyH.nil
      exact AllReadyH.nil
    exact AllReadyH.nil
  refine AllReadyH.cons rfl (fun K hK => ?_) ?_
  · have hcs := HCS.out v0.drew
    rw [show v0.drew.heap.size = v0.heap.size from rfl] at hcs
    go_simp
    refine hK.out _ _ ?_ (fun hHeld => ?_)
    · exact ⟨(HVE.out.on (below_drew1 _ _)).c0, (HVN.out.on (below_drew1 _ _)).c0, (HVN.out.on (below_drew1 _ _)).c1, (HVN.out.on (below_drew1 _ _)).c2⟩
    clear hK K
    (try simp only [Act.put, List.setIfInBounds_toArray, List.set_cons_zero, List.set_cons_succ])
    refine wpAnyH_take (i := 9) (v := ?_) rfl (by kernel_rfl) (by kernel_rfl) (by kernel_rfl) (fun _ _ _ h => h) (Or.inl ⟨by rfl, ?_⟩) (by assumption) ?_
    rotate_left
    · intro wz hSz
      (try dsimp only at hSz)
      go_simp
      (try with_reducible rfl)
    (try simp only [Act.put, List.setIfInBounds_toArray, List.set_cons_zero, List.set_cons_succ])
    refine wpAnyH_ready (rs := [3, 10]) (by kernel_rfl) (by simp) ?_
    refine AllReadyH.cons rfl (fun K hK => ?_) ?_
    · go_simp
      refine (HPa.out _ ((below_drewN HVW.out 1).alloc (below_drewN HVW.out 1).size _)).mono ?_
      rintro e v1 ⟨rfl, bb⟩
      have bv : Below v0.heap.size v0 v1 := (below_drew1 v0 _).trans (bb.mono (show v0.heap.size ≤ _ by simp))
      have hb1 : v0.heap.size < v1.heap.size := Nat.lt_of_lt_of_le (by simp) bb.size
      have sg : v1.cell? ⟨v0.heap.size, q, none⟩ = some (.string ⟨st.toArray⟩) := (bb.cell (p := ⟨v0.heap.size, q, none⟩) (by simp)).trans (HCS.out v0.drew)
      have HXB := Lib.hid (belowN_on HVB.out bv)
      have HXW := Lib.hid (HVW.out.trans (bv.mono HVW.out.size))
      have HXE := Lib.hid (HVE.out.on bv)
      have HXN := Lib.hid (HVN.out.on bv)
      have hyx : w.heap.size < v1.heap.size := HXE.out.lt
      clear bb bv
      (try go_wp2_with fail)
      refine hK.out _ _ ?_ (fun hHeld => ?_)
      · exact ⟨HXE.out.c0, HXN.out.c0, HXN.out.c1, HXN.out.c2⟩
      clear hK K
      (try simp only [Act.put, List.setIfInBounds_toArray, List.set_cons_zero, List.set_cons_succ])
      refine wpAnyH_take (i := 4) (v := ?_) rfl (by kernel_rfl) (by kernel_rfl) (by kernel_rfl) (fun _ _ _ h => h) (Or.inl ⟨by rfl, ?_⟩) (by assumption) ?_
      rotate_left
      · intro wz hSz
        (try dsimp only at hSz)
        go_simp
        (try with_reducible rfl)
      (try simp only [Act.put, List.setIfInBounds_toArray, List.set_cons_zero, List.set_cons_succ])
      refine wpAnyH_ready (rs := [10, 16]) (by kernel_rfl) (by simp) ?_
      refine AllReadyH.cons rfl (fun K hK => ?_) ?_
      · skip
        go_simp
        refine hK.out _ _ ?_ (fun hHeld => ?_)
        · exact ⟨HXE.out.c0, HXN.out.c0, HXN.out.c1, HXN.out.c2⟩
        clear hK K
        (try simp only [Act.put, List.setIfInBounds_toArray, List.set_cons_zero, List.set_cons_succ])
        refine wpAnyH_take (i := 11) (v := ?_) rfl (by kernel_rfl) (by kernel_rfl) (by kernel_rfl) (fun _ _ _ h => h) (Or.inl ⟨by rfl, ?_⟩) (by assumption) ?_
        rotate_left
        · intro wz hSz
          (try dsimp only at hSz)
          go_simp
          (try with_reducible rfl)
        (try simp only [Act.put, List.setIfInBounds_toArray, List.set_cons_zero, List.set_cons_succ])
        refine wpAnyH_take (i := 12) (v := ?_) rfl (by kernel_rfl) (by kernel_rfl) (by kernel_rfl) (fun _ _ _ h => h) (Or.inl ⟨by rfl, ?_⟩) (by assumption) ?_
        rotate_left
        · intro wz hSz
          (try dsimp only at hSz)
          go_simp
          (try with_reducible rfl)
        (try simp only [Act.put, List.setIfInBounds_toArray, List.set_cons_zero, List.set_cons_succ])
        refine wpAnyH_ready (rs := [16]) (by kernel_rfl) (by simp) ?_
        refine AllReadyH.cons rfl (fun K hK => ?_) ?_
        · go_simp
          refine (HPb.out _ (HXW.out)).mono ?_
          rintro e v2 ⟨rfl, bb⟩
          have bv : Below v1.heap.size v1 v2 := bb
          have sh := (bv.cell (p := ⟨v0.heap.size, q, none⟩) hb1).trans sg
          have HYB := Lib.hid (belowN_on HXB.out bv)
          have HYE := Lib.hid (HXE.out.on bv)
          have HYN := Lib.hid (HXN.out.on bv)
          clear bb bv
          (try go_wp2_with fail)
          refine hK.out _ _ ?_ (fun hHeld => ?_)
          · exact ⟨HYE.out.c0, HYN.out.c0, HYN.out.c1, HYN.out.c2⟩
          clear hK K
          (try simp only [Act.put, List.setIfInBounds_toArray, List.set_cons_zero, List.set_cons_succ])
          refine wpAnyH_take (i := 17) (v := ?_) rfl (by kernel_rfl) (by kernel_rfl) (by kernel_rfl) (fun _ _ _ h => h) (Or.inl ⟨by rfl, ?_⟩) (by assumption) ?_
          rotate_left
          · intro wz hSz
            (try dsimp only at hSz)
            go_simp
            (try with_reducible rfl)
          (try simp only [Act.put, List.setIfInBounds_toArray, List.set_cons_zero, List.set_cons_succ])
          refine wpAnyH_take (i := 18) (v := ?_) rfl (by kernel_rfl) (by kernel_rfl) (by kernel_rfl) (fun _ _ _ h => h) (Or.inl ⟨by rfl, ?_⟩) (by assumption) ?_
          rotate_left
          · intro wz hSz
            (try dsimp only at hSz)
            go_simp
            (try with_reducible rfl)
          (try simp only [Act.put, List.setIfInBounds_toArray, List.set_cons_zero, List.set_cons_succ])
          refine wpAnyH_done (by kernel_rfl) ?_ _
          simp only [Act.put, List.getElem_toArray, List.getElem_cons_succ, List.getElem_cons_zero, List.setIfInBounds_toArray, List.set_cons_zero, List.set_cons_succ]
          go_wp2
          go_ret
          refine ⟨ret_str' (by rw [HV.out]; exact HAP.out), ?_⟩
          first
            | exact HYB.out
            | exact HYB.out.alloc HYB.out.size _
        exact AllReadyH.nil
      refine AllReadyH.cons rfl (fun K hK => ?_) ?_
      · go_simp
        refine (HPb.out _ (HXW.out)).mono ?_
        rintro e v2 ⟨rfl, bb⟩
        have bv : Below v1.heap.size v1 v2 := bb
        have sh := (bv.cell (p := ⟨v0.heap.size, q, none⟩) hb1).trans sg
        have HYB := Lib.hid (belowN_on HXB.out bv)
        have HYE := Lib.hid (HXE.out.on bv)
        have HYN := Lib.hid (HXN.out.on bv)
        clear bb bv
        (try go_wp2_with fail)
        refine hK.out _ _ ?_ (fun hHeld => ?_)
        · exact ⟨HYE.out.c0, HYN.out.c0, HYN.out.c1, HYN.out.c2⟩
        clear hK K
        (try simp only [Act.put, List.setIfInBounds_toArray, List.set_cons_zero, List.set_cons_succ])
        refine wpAnyH_ready (rs := [10]) (by kernel_rfl) (by simp) ?_
        refine AllReadyH.cons rfl (fun K hK => ?_) ?_
        · skip
          go_simp
          refine hK.out _ _ ?_ (fun hHeld => ?_)
          · exact ⟨HYE.out.c0, HYN.out.c0, HYN.out.c1, HYN.out.c2⟩
          clear hK K
          (try simp only [Act.put, List.setIfInBounds_toArray, List.set_cons_zero, List.set_cons_succ])
          refine wpAnyH_take (i := 11) (v := ?_) rfl (by kernel_rfl) (by kernel_rfl) (by kernel_rfl) (fun _ _ _ h => h) (Or.inl ⟨by rfl, ?_⟩) (by assumption) ?_
          rotate_left
          · intro wz hSz
            (try dsimp only at hSz)
            go_simp
            (try with_reducible rfl)
          (try simp only [Act.put, List.setIfInBounds_toArray, List.set_cons_zero, List.set_cons_succ])
          refine wpAnyH_take (i := 12) (v := ?_) rfl (by kernel_rfl) (by kernel_rfl) (by kernel_rfl) (fun _ _ _ h => h) (Or.inl ⟨by rfl, ?_⟩) (by assumption) ?_
          rotate_left
          · intro wz hSz
            (try dsimp only at hSz)
            go_simp
            (try with_reducible rfl)
          (try simp only [Act.put, List.setIfInBounds_toArray, List.set_cons_zero, List.set_cons_succ])
          refine wpAnyH_take (i := 17) (v := ?_) rfl (by kernel_rfl) (by kernel_rfl) (by kernel_rfl) (fun _ _ _ h => h) (Or.inl ⟨by rfl, ?_⟩) (by assumption) ?_
          rotate_left
          · intro wz hSz
            (try dsimp only at hSz)
            go_simp
            (try with_reducible rfl)
          (try simp only [Act.put, List.setIfInBounds_toArray, List.set_cons_zero, List.set_cons_succ])
          refine wpAnyH_take (i := 18) (v := ?_) rfl (by kernel_rfl) (by kernel_rfl) (by kernel_rfl) (fun _ _ _ h => h) (Or.inl ⟨by rfl, ?_⟩) (by assumption) ?_
          rotate_left
          · intro wz hSz
            (try dsimp only at hSz)
            go_simp
            (try with_reducible rfl)
          (try simp only [Act.put, List.setIfInBounds_toArray, List.set_cons_zero, List.set_cons_succ])
          refine wpAnyH_done (by kernel_rfl) ?_ _
          simp only [Act.put, List.getElem_toArray, List.getElem_cons_succ, List.getElem_cons_zero, List.setIfInBounds_toArray, List.set_cons_zero, List.set_cons_succ]
          go_wp2
          go_ret
          refine ⟨ret_str' (by rw [HV.out]; exact HAP.out), ?_⟩
          first
            | exact HYB.out
            | exact HYB.out.alloc HYB.out.size _
        exact AllReadyH.nil
      exact AllReadyH.nil
    refine AllReadyH.cons rfl (fun K hK => ?_) ?_
    · have hcs := HCS.out v0.drew
      rw [show v0.drew.heap.size = v0.heap.size from rfl] at hcs
      have hct : ((v0.alloc (.cells #[.string ⟨#[43]⟩, .string ⟨#[45]⟩, .string ⟨#[42]⟩, .string ⟨#[47]⟩] 9)).drew).cell? ⟨v0.heap.size, q, none⟩ = some (.string ⟨st.toArray⟩) := HCS.out v0
      go_simp
      refine hK.out _ _ ?_ (fun hHeld => ?_)
      · exact ⟨(HVE.out.on (below_drew1 _ _)).c0, (HVN.out.on (below_drew1 _ _)).c0, (HVN.out.on (below_drew1 _ _)).c1, (HVN.out.on (below_drew1 _ _)).c2⟩
      clear hK K
      (try simp only [Act.put, List.setIfInBounds_toArray, List.set_cons_zero, List.set_cons_succ])
      refine wpAnyH_ready (rs := [3]) (by kernel_rfl) (by simp) ?_
      refine AllReadyH.cons rfl (fun K hK => ?_) ?_
      · go_simp
        refine (HPa.out _ ((below_drewN HVW.out 1).alloc (below_drewN HVW.out 1).size _)).mono ?_
        rintro e v1 ⟨rfl, bb⟩
        have bv : Below v0.heap.size v0 v1 := (below_drew1 v0 _).trans (bb.mono (show v0.heap.size ≤ _ by simp))
        have hb1 : v0.heap.size < v1.heap.size := Nat.lt_of_lt_of_le (by simp) bb.size
        have sg : v1.cell? ⟨v0.heap.size, q, none⟩ = some (.string ⟨st.toArray⟩) := (bb.cell (p := ⟨v0.heap.size, q, none⟩) (by simp)).trans (HCS.out v0.drew)
        have HXB := Lib.hid (belowN_on HVB.out bv)
        have HXW := Lib.hid (HVW.out.trans (bv.mono HVW.out.size))
        have HXE := Lib.hid (HVE.out.on bv)
        have HXN := Lib.hid (HVN.out.on bv)
        have hyx : w.heap.size < v1.heap.size := HXE.out.lt
        clear bb bv
        (try go_wp2_with fail)
        refine hK.out _ _ ?_ (fun hHeld => ?_)
        · exact ⟨HXE.out.c0, HXN.out.c0, HXN.out.c1, HXN.out.c2⟩
        clear hK K
        (try simp only [Act.put, List.setIfInBounds_toArray, List.set_cons_zero, List.set_cons_succ])
        refine wpAnyH_take (i := 4) (v := ?_) rfl (by kernel_rfl) (by kernel_rfl) (by kernel_rfl) (fun _ _ _ h => h) (Or.inl ⟨by rfl, ?_⟩) (by assumption) ?_
        rotate_left
        · intro wz hSz
          (try dsimp only at hSz)
          go_simp
          (try with_reducible rfl)
        (try simp only [Act.put, List.setIfInBounds_toArray, List.set_cons_zero, List.set_cons_succ])
        refine wpAnyH_take (i := 11) (v := ?_) rfl (by kernel_rfl) (by kernel_rfl) (by kernel_rfl) (fun _ _ _ h => h) (Or.inl ⟨by rfl, ?_⟩) (by assumption) ?_
        rotate_left
        · intro wz hSz
          (try dsimp only at hSz)
          go_simp
          (try with_reducible rfl)
        (try simp only [Act.put, List.setIfInBounds_toArray, List.set_cons_zero, List.set_cons_succ])
        refine wpAnyH_take (i := 12) (v := ?_) rfl (by kernel_rfl) (by kernel_rfl) (by kernel_rfl) (fun _ _ _ h => h) (Or.inl ⟨by rfl, ?_⟩) (by assumption) ?_
        rotate_left
        · intro wz hSz
          (try dsimp only at hSz)
          go_simp
          (try with_reducible rfl)
        (try simp only [Act.put, List.setIfInBounds_toArray, List.set_cons_zero, List.set_cons_succ])
        refine wpAnyH_ready (rs := [16]) (by kernel_rfl) (by simp) ?_
        refine AllReadyH.cons rfl (fun K hK => ?_) ?_
        · go_simp
          refine (HPb.out _ (HXW.out)).mono ?_
          rintro e v2 ⟨rfl, bb⟩
          have bv : Below v1.heap.size v1 v2 := bb
          have sh := (bv.cell (p := ⟨v0.heap.size, q, none⟩) hb1).trans sg
          have HYB := Lib.hid (belowN_on HXB.out bv)
          have HYE := Lib.hid (HXE.out.on bv)
          have HYN := Lib.hid (HXN.out.on bv)
          clear bb bv
          (try go_wp2_with fail)
          refine hK.out _ _ ?_ (fun hHeld => ?_)
          · exact ⟨HYE.out.c0, HYN.out.c0, HYN.out.c1, HYN.out.c2⟩
          clear hK K
          (try simp only [Act.put, List.setIfInBounds_toArray, List.set_cons_zero, List.set_cons_succ])
          refine wpAnyH_take (i := 17) (v := ?_) rfl (by kernel_rfl) (by kernel_rfl) (by kernel_rfl) (fun _ _ _ h => h) (Or.inl ⟨by rfl, ?_⟩) (by assumption) ?_
          rotate_left
          · intro wz hSz
            (try dsimp only at hSz)
            go_simp
            (try with_reducible rfl)
          (try simp only [Act.put, List.setIfInBounds_toArray, List.set_cons_zero, List.set_cons_succ])
          refine wpAnyH_take (i := 18) (v := ?_) rfl (by kernel_rfl) (by kernel_rfl) (by kernel_rfl) (fun _ _ _ h => h) (Or.inl ⟨by rfl, ?_⟩) (by assumption) ?_
          rotate_left
          · intro wz hSz
            (try dsimp only at hSz)
            go_simp
            (try with_reducible rfl)
          (try simp only [Act.put, List.setIfInBounds_toArray, List.set_cons_zero, List.set_cons_succ])
          refine wpAnyH_done (by kernel_rfl) ?_ _
          simp only [Act.put, List.getElem_toArray, List.getElem_cons_succ, List.getElem_cons_zero, List.setIfInBounds_toArray, List.set_cons_zero, List.set_cons_succ]
          go_wp2
          go_ret
          refine ⟨ret_str' (by rw [HV.out]; exact HAP.out), ?_⟩
          first
            | exact HYB.out
            | exact HYB.out.alloc HYB.out.size _
        exact AllReadyH.nil
      exact AllReadyH.nil
    exact AllReadyH.nil
  exact AllReadyH.nil
end Go.Proofs.YtifepoefeamboaaDoor
