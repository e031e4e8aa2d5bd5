/-
  The value of each step: jetsAt, RunTape of the program.
-/
import Derived.Test.YtcepjcnpokpdcaaGreatDoorImplJetV
import Derived.Test.YtcepjcnpokpdcaaGreatDoorImplTape
import Derived.Deep.RegionHeld3
namespace Nt
open Go Go.RowKit
theorem fx_dep (qs : List Rat) : ∀ j ∈ qs.map Jt.fx, j.dep ≤ 0 := by
  intro j hj
  obtain ⟨q, -, rfl⟩ := List.mem_map.1 hj
  exact Nat.le_refl _
theorem fx_L2 {qs : List Rat} (h : Fine qs) : ∀ j ∈ qs.map Jt.fx, L2 j 40 40 40 40 := by
  intro j hj
  obtain ⟨q, hq, rfl⟩ := List.mem_map.1 hj
  have := h q hq
  have hl : lim q 40 := ⟨(D_len_le _ 40).2 this.1, (D_len_le _ 40).2 this.2⟩
  exact (L2.fx hl).mono (by omega) (by omega) (by omega) (by omega)
theorem num_fx (qs : List Rat) : (qs.map Jt.fx).map (fun j => numJ j 0) = qs := by
  rw [List.map_map]
  conv => rhs; rw [← List.map_id qs]
  apply List.map_congr_left
  intro q _
  exact numJ_fx0 q
end Nt
namespace Go.Proofs.YtcepjcnpokpdcaaGreatDoor
open Go Go.RowKit Nt

set_option maxRecDepth 20000 in
set_option maxHeartbeats 3200000 in
/-- each step's jet, at a point alone -/
theorem jetsAt_none (A X : Option Addr) (n c m d : Nat) (ns : List Nd) (ot : Int) (rs : List R3) (qs : List Rat) (P P' : Nat → Prop) (w : World) (ad : Addr) (hE : ErrAt 221 w ad) (hr : RdN w P A n c ns) (hx : RdS w P' X m d rs) (hsm : Small rs) (hn : n ≤ 1048576) (hm : m ≤ 1048576) (code : Int) (hcode : ptCode (okTp ns ot) ns m rs = code) (hq : code = 0 → rs = qs.map rat3 ∧ Fine qs) (js : List Jt) (cd : Int) (hyes : code = 0 → (evalJ (qs.map Jt.fx) ns).1 = js ∧ (evalJ (qs.map Jt.fx) ns).2 = cd) (hno : code ≠ 0 → js = [] ∧ cd = code) :
    Calls Tryz.prog 75 #[.agg #[.slice A n c, .int .i64 ot], .slice X m d, .slice none 0 0] w (SayJs 118 116 w js cd) := by
  have HLN : Hid (ns.length = n) := hr.len
  have HLX : Hid (rs.length = m) := hx.len
  have HR := Lib.hid (hr.mono (Q := (· < w.heap.size)) fun _ _ h => h)
  have HX := Lib.hid hx.low
  have HS := Lib.hid hsm
  have HE := Lib.hid hE
  have HC := Lib.hid hcode
  have HQ := Lib.hid hq
  have HYES := Lib.hid hyes
  have HNO := Lib.hid hno
  clear hyes hno
  have HOK : Hid (okTp ns ot = true → (∀ j, j < ns.length → fitN (ns.getD j nd0) = true) ∧ 1 ≤ n ∧ n ≤ 60) := fun h => by
    have ok := okTp_out h
    refine ⟨fun j hj => ?_, by have := HLN.out; omega, by have := HLN.out; omega⟩
    have := ok.2.2.2.1 j hj
    unfold stepN at this
    exact (Bool.and_eq_true_iff.1 this).1
  clear hr hx hsm hE hcode hq
  go_enter Tryz.func75, Tryz.ntmps75
  go_upto_region 1 with fail
  refine wp_atJ (fun v0 => Below w.heap.size w v0 ∧ TpAt v0 w.heap.size 63 A n c ot) ⟨below1 _ _, TpAt.new _ _ _ _ _ _⟩ ?_
  rintro v0 ⟨hb, r0⟩
  have HB0 := Lib.hid hb
  have HT0 := Lib.hid r0
  have HC0 := Lib.hid (show _ ∧ _ from ⟨r0.c0, r0.c1⟩)
  clear hb r0
  go_region_held3 (fun wx => wx.cell? ⟨w.heap.size, 0, none⟩ = some (.slice A n c) ∧ wx.cell? ⟨w.heap.size, 1, none⟩ = some (.int .i64 ot))
    (first | exact HC0.out | exact HC1.out | exact HC2.out)
    (first
      | (go_at_call 114; refine (implTapeOK_any A n c ns ot _ _ (by first | exact HR.out.below HB0.out | exact (HR.out.below HB0.out).drew) hn).mono ?_; rintro e w1 ⟨rfl, bb⟩; have bb := undrew bb; have HB1 := Lib.hid (below_on HB0.out bb); have HT1 := Lib.hid (HT0.out.on bb); have HC1 := Lib.hid (show _ ∧ _ from ⟨HT1.out.c0, HT1.out.c1⟩); clear bb)
      | (go_at_call 80; refine (pointCode_none _ ns A X n c m d rs _ _ _ (by exact HR.out.below HB1.out) (by exact HX.out.below HB1.out) HS.out hm HOK.out).mono ?_; rintro e w2 ⟨rfl, bb⟩; rw [HC.out]; have HB2 := Lib.hid (below_on HB1.out bb); have HT2 := Lib.hid (HT1.out.on bb); have HC2 := Lib.hid (show _ ∧ _ from ⟨HT2.out.c0, HT2.out.c1⟩); clear bb))
  clear HC0 HC1 HT0 HT1 HB0 HB1
  by_cases h0 : code = 0
  · subst h0
    obtain ⟨h4, hright, hok, hdim⟩ := ptCode_zero HC.out
    obtain ⟨hqs, hfine⟩ := HQ.out rfl
    have HGO := Lib.hid (okTp_out hright)
    have hn60 : n ≤ 60 := by have := HGO.out; have := HLN.out; omega
    have hm4 : m ≤ 100 := by have := (okV_out hok).2.1; have := HLX.out; omega
    have HG : Hid (∀ k, k < n → fitN (ns.getD k nd0) = true ∧ behind (ns.getD k nd0) k = true ∧ ((ns.getD k nd0).1 = 2 → (ns.getD k nd0).2.2.2 < m)) := by
      intro k hk
      have := HGO.out.2.2.2.1 k (by have := HLN.out; omega)
      unfold stepN at this
      rw [Bool.and_eq_true] at this
      exact ⟨this.1, this.2, fun h2 => dim_less (by have := HLN.out; omega) h2 hdim⟩
    have HFI := Lib.hid hfine
    have HXQ := Lib.hid (show RdS w (· < w.heap.size) X m d (qs.map rat3) from hqs ▸ HX.out)
    have hql : qs.length = m := by have := HXQ.out.len; rw [List.length_map] at this; exact this
    have HVJ := Lib.hid (show varsJ qs (fun _ => []) 0 m = qs.map Jt.fx from hql ▸ varsJ_zero qs _)
    obtain ⟨y1, y2⟩ := HYES.out rfl
    have HY1 := Lib.hid y1
    have HY2 := Lib.hid y2
    clear y1 y2 HYES HNO HC HQ HOK HGO hqs hfine hok hdim hright HS HX
    go_upto_region 4 with fail
    have HC2 := Lib.hid (show _ ∧ _ from ⟨HT2.out.c0, HT2.out.c1⟩)
    go_region_held3 (fun wx => wx.cell? ⟨w.heap.size, 0, none⟩ = some (.slice A n c) ∧ wx.cell? ⟨w.heap.size, 1, none⟩ = some (.int .i64 ot))
      (first | exact HC2.out | exact HC3.out | exact HC4.out)
      (first
        | (go_at_call 83; refine (jetsAlong_any qs (fun _ => []) X m d none 0 0 (fun _ => none) (fun _ => 0) _ _ (by first | exact HXQ.out.below HB2.out | exact (HXQ.out.below HB2.out).on (below_drewJ (Below.refl _ _))) (WaysAt.nil _ _ _ _ _ _) (by omega) hm4).mono ?_; rintro e w3 ⟨V, cv, rfl, hj, bb⟩; have bb := undrew bb; rw [HVJ.out] at hj; have HJ := Lib.hid hj; have HB3 := Lib.hid (below_on HB2.out bb); have HT3 := Lib.hid (HT2.out.on bb); have HC3 := Lib.hid (show _ ∧ _ from ⟨HT3.out.c0, HT3.out.c1⟩); clear bb hj)
        | (go_at_call 82; refine (jetsOf_vals ns (qs.map Jt.fx) A V n c m cv _ _ ad (HE.out.on HB3.out) (by exact HR.out.below HB3.out) (by exact HJ.out) (fx_dep qs) (fx_L2 HFI.out) HG.out hn60).mono ?_; rintro e w4 ⟨V4, c4, rfl, hj, bb⟩; rw [HY1.out] at hj; rw [HY1.out, HY2.out]; have HJ4 := Lib.hid hj; have HB4 := Lib.hid (below_on HB3.out bb); have HT4 := Lib.hid (HT3.out.on bb); have HC4 := Lib.hid (show _ ∧ _ from ⟨HT4.out.c0, HT4.out.c1⟩); clear bb hj))
    go_wp2
    exact bodyPost_ret (results_tmp2 rfl _ _ _) rfl ⟨V4, c4, rfl, HJ4.out, HB4.out⟩
  · have hb : (code != 0) = true := by simpa using h0
    obtain ⟨rfl, rfl⟩ := HNO.out h0
    clear h0
    go_wp2
    exact bodyPost_ret (results_tmp2 rfl _ _ _) rfl ⟨none, 0, rfl, rdj_nil _ _ _ _ _, HB2.out⟩

set_option maxRecDepth 20000 in
set_option maxHeartbeats 3200000 in
/-- a run that a code stops ahead of it -/
theorem implRunTape_code (A X : Option Addr) (n c m d : Nat) (ns : List Nd) (ot : Int) (rs : List R3) (P P' : Nat → Prop) (w : World) (ad : Addr) (hE : ErrAt 221 w ad) (hr : RdN w P A n c ns) (hx : RdS w P' X m d rs) (hsm : Small rs) (hn : n ≤ 1048576) (hm : m ≤ 1048576) (code : Int) (hcode : ptCode (okTp ns ot) ns m rs = code) (h0 : code ≠ 0) :
    Calls Tryz.prog 40 #[.agg #[.slice A n c, .int .i64 ot], .slice X m d] w (RetVC 31 3 w [] code) := by
  have hb : (code != 0) = true := by simpa using h0
  have HJ := Lib.hid (fun W (hw : Below w.heap.size w W) => jetsAt_none A X n c m d ns ot rs [] _ _ W ad (hE.on hw) (hr.on hw) (hx.on hw) hsm hn hm code hcode (fun h => absurd h h0) [] code (fun h => absurd h h0) (fun _ => ⟨rfl, rfl⟩))
  clear hE hr hx hsm hcode h0
  go_enter Tryz.func40, Tryz.ntmps40
  go_wp2_with (go_at_call 75; refine (HJ.out _ (below1 _ _)).mono ?_; rintro e w1 ⟨V, cv, rfl, hj, bb⟩; have HB1 := Lib.hid (below_on (below1 _ _) bb); clear bb hj)
  exact bodyPost_ret (results_tmp2 rfl _ _ _) rfl ⟨none, 0, [], rfl, ⟨World.ownsRow_nil _ _ _ _, fun i hi => by simp at hi, fun i j _ hj => by simp at hj⟩, rfl, HB1.out⟩

set_option maxRecDepth 20000 in
set_option maxHeartbeats 3200000 in
/-- a run: the values of the steps, or what stopped it -/
theorem implRunTape_ok (A X : Option Addr) (n c m d : Nat) (ns : List Nd) (ot : Int) (qs : List Rat) (P P' : Nat → Prop) (w : World) (ad : Addr) (hE : ErrAt 221 w ad) (hr : RdN w P A n c ns) (hx : RdS w P' X m d (qs.map rat3)) (hf : Fine qs) (hn : n ≤ 1048576) (hm : m ≤ 1048576) (hcode : ptCode (okTp ns ot) ns m (qs.map rat3) = 0) :
    Calls Tryz.prog 40 #[.agg #[.slice A n c, .int .i64 ot], .slice X m d] w (RetVC 31 3 w ((evalQ qs ns).1.map rat3) (evalQ qs ns).2) := by
  have HJ := Lib.hid (fun W (hw : Below w.heap.size w W) => jetsAt_none A X n c m d ns ot (qs.map rat3) qs _ _ W ad (hE.on hw) (hr.on hw) (hx.on hw) (small_fine hf) hn hm 0 hcode (fun _ => ⟨rfl, hf⟩) ((evalQ qs ns).1.map Jt.fx) (evalQ qs ns).2 (fun _ => by rw [eval_fx]; exact ⟨rfl, rfl⟩) (fun h => absurd rfl h))
  have HBAD := Lib.hid (evalQ_bad qs ns)
  have hlen : ns.length ≤ 60 := (okTp_out (ptCode_zero hcode).2.1).2.1
  have HOKQ : Hid ((evalQ qs ns).2 = 0 → (evalQ qs ns).1.length ≤ 60 ∧ ∀ q ∈ (evalQ qs ns).1, fitQ q) := fun h => by
    have e : ns.take ns.length = ns := List.take_length
    have := evalQ_ok qs ns ns.length (Nat.le_refl _) (by rw [e]; exact h)
    rw [e] at this
    exact ⟨by omega, this.2⟩
  clear hE hr hx hf hcode hlen
  generalize evalQ qs ns = R at *
  obtain ⟨ps, code⟩ := R
  dsimp only at HJ HBAD HOKQ ⊢
  go_enter Tryz.func40, Tryz.ntmps40
  go_upto_region 2 with (go_at_call 75; refine (HJ.out _ (below1 _ _)).mono ?_; rintro e w1 ⟨V, cv, rfl, hj, bb⟩; have HB1 := Lib.hid (below_on (below1 _ _) bb); have HJ1 := Lib.hid hj; clear bb hj)
  by_cases h0 : code = 0
  · subst h0
    obtain ⟨hl60, hfit⟩ := HOKQ.out rfl
    have HFV := Lib.hid (fV_yes (ps := ps) (fun j hj => hfit _ (by have : ps.getD j 0 = ps[j] := by simp [List.getD, hj]
                                                                   rw [this]; exact List.getElem_mem hj)))
    have HN0 := (numbersAlong_any (ps.map Jt.fx) 0 V _ cv w1 HJ1.out (fun j hj => by
      obtain ⟨q, hq, rfl⟩ := List.mem_map.1 hj
      rw [numJ_fx0]
      have := hfit q hq
      exact ⟨Nat.le_trans this.1 (by decide), Nat.le_trans this.2 (by decide)⟩) (by omega) (by rw [List.length_map]; omega))
    rw [num_fx, HFV.out.1, HFV.out.2, List.length_map] at HN0
    have HN : Hid (Calls Tryz.prog 76 #[.slice V ps.length cv, .int .i64 0] w1 (RetVC 31 3 w1 (ps.map rat3) 0)) := Lib.hid HN0
    clear HN0
    clear HFV hfit HOKQ HBAD HJ HJ1
    go_wp2_with (go_at_call 76; refine HN.out.mono ?_; rintro e w2 ⟨V2, d2, L2, rfl, o2, hm2, b2⟩; have HO2 := Lib.hid (show OwnV 31 3 w2 w.heap.size V2 _ d2 L2 from ⟨own_mono3 o2.1 HB1.out.size, fun i hi => OwnR.mono (o2.2.1 i hi) HB1.out.size, o2.2.2⟩); have HM2 := Lib.hid hm2; have HB2 := Lib.hid (below_on HB1.out b2); clear o2 hm2 b2)
    exact bodyPost_ret (results_tmp2 rfl _ _ _) rfl ⟨V2, d2, L2, by rw [List.length_map]; rfl, HO2.out, HM2.out, HB2.out⟩
  · have hb : (code != 0) = true := by simpa using h0
    obtain rfl := HBAD.out h0
    clear HOKQ HBAD HJ HJ1 h0
    go_wp2
    exact bodyPost_ret (results_tmp2 rfl _ _ _) rfl ⟨none, 0, [], rfl, ⟨World.ownsRow_nil _ _ _ _, fun i hi => by simp at hi, fun i j _ hj => by simp at hj⟩, rfl, HB1.out⟩
end Go.Proofs.YtcepjcnpokpdcaaGreatDoor
