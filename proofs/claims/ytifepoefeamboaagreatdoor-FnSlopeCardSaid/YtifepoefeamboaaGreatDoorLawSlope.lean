/-
  The law FnSlope: whatever is drawn, the slope along a way is the gradient with it. No condition.
-/
import Derived.Test.YtifepoefeamboaaGreatDoorJoH
import Derived.Test.YtifepoefeamboaaGreatDoorImplSlopeOf
import Derived.Test.YtifepoefeamboaaGreatDoorSpecSlopeOf
import Derived.Test.YtifepoefeamboaaGreatDoorSpecValue
import Derived.Test.YtifepoefeamboaaGreatDoorJoI
import Derived.ProofKit
import Derived.OpenShut
import Derived.ShutString
import Derived.ChangeOld
namespace Nt
open Go Go.RowKit
theorem fine_okS {ps : List Rat} (h : Fine ps) (h1 : 1 ≤ ps.length) (h4 : ps.length ≤ 4) : okV (ps.map rat3) = true := by
  have ha : (ps.map rat3).all ok3 = true := by
    rw [List.all_eq_true]
    intro r hr
    obtain ⟨q, hq, rfl⟩ := List.mem_map.1 hr
    exact ok3_rat q (h q hq).1 (h q hq).2
  unfold okV
  rw [ha, List.length_map, decide_eq_true h1, decide_eq_true h4]
  rfl
theorem ptCode_fine {ns : List Nd} {qs : List Rat} {m : Nat} (hok : okE ns = true) (hd : dimE ns ≤ m) (hf : Fine qs) (hl : qs.length = m) (h1 : 1 ≤ m) (h4 : m ≤ 4) : ptCode (okE ns) ns m (qs.map rat3) = 0 := by
  unfold ptCode
  rw [if_neg (by omega), hok, fine_okS hf (by omega) (by omega), if_pos (by rfl), if_neg (by omega)]
theorem ask_fine {qs us : List Rat} {m : Nat} (hf : Fine qs) (hl : qs.length = m) (hf' : Fine us) (hl' : us.length = m) (h1 : 1 ≤ m) (h4 : m ≤ 4) : askV m m (qs.map rat3) (us.map rat3) = 0 := by
  unfold askV
  rw [if_neg (by omega), fine_okS hf (by omega) (by omega), fine_okS hf' (by omega) (by omega), if_pos (by rfl), if_neg (by omega)]
theorem ptCode1_fine {ns : List Nd} {qs us : List Rat} {m : Nat} (hok : okE ns = true) (hd : dimE ns ≤ m) (hf : Fine qs) (hl : qs.length = m) (hf' : Fine us) (hl' : us.length = m) (h1 : 1 ≤ m) (h4 : m ≤ 4) : ptCode1 (okE ns) ns m m (qs.map rat3) (us.map rat3) = 0 := by
  unfold ptCode1
  rw [if_neg (by omega), hok, fine_okS hf (by omega) (by omega), if_pos (by rfl), if_neg (by omega), ask_fine hf hl hf' hl' h1 h4]
theorem retRC_rd {t : TypeId} {w w' : World} {N : Bool} {X Y : List Int} {k : Int} {e : Ending} (h : RetRC t w N X Y k e w') : SayRC' w N X Y k e w' := by
  obtain ⟨A, c, B, d, he, o, b⟩ := h
  exact ⟨A, c, B, d, he, o.rdt, b⟩
theorem retRRC_rd {t : TypeId} {w w' : World} {N N' : Bool} {X Y X' Y' : List Int} {k : Int} {e : Ending} (h : RetRRC t w N X Y N' X' Y' k e w') : SayRRC w N X Y N' X' Y' k e w' := by
  obtain ⟨A, c, B, d, A', c', B', d', M, he, o, o', -, b⟩ := h
  exact ⟨A, c, B, d, A', c', B', d', he, o.rdt, o'.rdt, b⟩
theorem retVC_rd {t i : TypeId} {w w' : World} {rs : List R3} {k : Int} {e : Ending} (h : RetVC t i w rs k e w') : SayVC w rs k e w' := by
  obtain ⟨V, d, L, he, o, hv, b⟩ := h
  have hr := o.rd.all
  rw [hv] at hr
  exact ⟨V, d, he, hr, b⟩
end Nt
namespace Go.Proofs.YtifepoefeamboaaGreatDoor
open Go Go.RowKit Nt

/-- the value, by the program and by the model -/
theorem value_both (A X : Option Addr) (n c m d : Nat) (ns : List Nd) (qs : List Rat) (w : World) (ad : Addr) (hE : ErrAt 195 w ad) (hr : RdN w (fun _ => True) A n c ns) (hx : RdS w (fun _ => True) X m d (qs.map rat3)) (hf : Fine qs) (hn : n ≤ 1048576) (hm : m ≤ 1048576) (hcode : ptCode (okE ns) ns m (qs.map rat3) = 0) (js : List Jt) (a : Int) (hR : evalJ (qs.map Jt.fx) ns = (js, a)) :
    ∃ (N : Bool) (Y Z : List Int), Y.length ≤ 1000 ∧ Z.length ≤ 1000 ∧ (a = 0 → N = isNeg (numJ (js.getD (n - 1) j0) 0) ∧ Y = D (nu (numJ (js.getD (n - 1) j0) 0)) ∧ Z = D (numJ (js.getD (n - 1) j0) 0).den) ∧ (∀ W, Below w.heap.size w W → Calls Tryz.prog 11 #[.agg #[.slice A n c], .slice X m d] W (SayRC' W N Y Z a)) ∧ (∀ W, Below w.heap.size w W → Calls Tryz.prog 12 #[.agg #[.slice A n c], .slice X m d] W (SayRC' W N Y Z a)) := by
  have hln : ns.length = n := hr.len
  have hql : qs.length = m := by have h2 := hx.len; rw [List.length_map] at h2; exact h2
  obtain ⟨h4, hright, hok, hdim⟩ := ptCode_zero hcode
  obtain ⟨-, h1, h60⟩ := okE_at hln hright hdim
  have hQ := eval_noughts qs ns m
  rw [hR] at hQ
  dsimp only at hQ
  have hI := fun W (hb : Below w.heap.size w W) => implValueOf_ok A X n c m d ns qs _ _ W ad (hE.on hb) (hr.on hb) (hx.on hb) hf hn hm hcode js a hR
  have hS := fun W (hb : Below w.heap.size w W) => specValueOf_ok A X n c m d ns qs _ _ W (hr.on hb) (hx.on hb) hf hn hm hcode _ a hQ
  by_cases h0 : a = 0
  · subst h0
    have hlim := last_lim hln h1 hR
    refine ⟨_, _, _, Nat.le_trans hlim.1 (by decide), Nat.le_trans hlim.2 (by decide), fun _ => ⟨rfl, rfl, rfl⟩, fun W hb => (hI W hb).mono fun e w' h => ?_, fun W hb => (hS W hb).mono fun e w' h => ?_⟩
    · rcases h with ⟨-, h⟩ | ⟨h, -⟩
      · exact retRC_rd h
      · exact absurd rfl h
    · rcases h with ⟨-, h⟩ | ⟨h, -⟩
      · rw [getD_r4] at h; exact h
      · exact absurd rfl h
  · refine ⟨false, [], [], by decide, by decide, fun h => absurd h h0, fun W hb => (hI W hb).mono fun e w' h => ?_, fun W hb => (hS W hb).mono fun e w' h => ?_⟩
    · rcases h with ⟨h, -⟩ | ⟨-, h⟩
      · exact absurd h h0
      · exact retRC_rd h
    · rcases h with ⟨h, -⟩ | ⟨-, h⟩
      · exact absurd h h0
      · exact h
/-- the slope, by the program -/
theorem slope_impl (A X Y : Option Addr) (n c m d dv : Nat) (ns : List Nd) (qs us : List Rat) (w : World) (ad : Addr) (hE : ErrAt 195 w ad) (hr : RdN w (fun _ => True) A n c ns) (hx : RdS w (fun _ => True) X m d (qs.map rat3)) (hy : RdS w (fun _ => True) Y m dv (us.map rat3)) (hf : Fine qs) (hfu : Fine us) (hn : n ≤ 1048576) (hm : m ≤ 1048576) (hcode : ptCode1 (okE ns) ns m m (qs.map rat3) (us.map rat3) = 0) (ks : List Jt) (a : Int) (hR : evalJ (varsJ qs (fun _ => us) 1 m) ns = (ks, a)) :
    ∃ (N : Bool) (Z U : List Int) (N' : Bool) (Z' U' : List Int), (Z.length ≤ 1000 ∧ U.length ≤ 1000 ∧ Z'.length ≤ 1000 ∧ U'.length ≤ 1000) ∧ (a = 0 → (N = isNeg (numJ (ks.getD (n - 1) j0) 0) ∧ Z = D (nu (numJ (ks.getD (n - 1) j0) 0)) ∧ U = D (numJ (ks.getD (n - 1) j0) 0).den) ∧ (N' = isNeg (numJ (ks.getD (n - 1) j0) 1) ∧ Z' = D (nu (numJ (ks.getD (n - 1) j0) 1)) ∧ U' = D (numJ (ks.getD (n - 1) j0) 1).den) ∧ fitQ (numJ (ks.getD (n - 1) j0) 1)) ∧ (∀ W, Below w.heap.size w W → Calls Tryz.prog 13 #[.agg #[.slice A n c], .slice X m d, .slice Y m dv] W (SayRRC W N Z U N' Z' U' a)) := by
  have hln : ns.length = n := hr.len
  obtain ⟨h4, -, hright, hok, -, hdim⟩ := ptCode1_zero hcode
  obtain ⟨-, h1, h60⟩ := okE_at hln hright hdim
  have hI := fun W (hb : Below w.heap.size w W) => implSlopeOf_ok A X Y n c m d dv ns qs us _ _ _ W ad (hE.on hb) (hr.on hb) (hx.on hb) (hy.on hb) hf hfu hn hm hcode ks a hR
  by_cases h0 : a = 0
  · subst h0
    have hlim := (last_L2 (fun j hj => Nat.le_trans (varsJ_dep _ _ _ _ j hj) (by decide)) hln h1 hR).2
    refine ⟨_, _, _, _, _, _, ⟨Nat.le_trans hlim.2.1.1 (by decide), Nat.le_trans hlim.2.1.2 (by decide), Nat.le_trans hlim.2.2.2.1.1 (by decide), Nat.le_trans hlim.2.2.2.1.2 (by decide)⟩, fun _ => ⟨⟨rfl, rfl, rfl⟩, ⟨rfl, rfl, rfl⟩, hlim.2.2.2.1⟩, fun W hb => (hI W hb).mono fun e w' h => ?_⟩
    rcases h with ⟨-, h⟩ | ⟨h, -⟩
    · exact retRRC_rd h
    · exact absurd rfl h
  · refine ⟨false, [], [], false, [], [], by decide, fun h => absurd h h0, fun W hb => (hI W hb).mono fun e w' h => ?_⟩
    rcases h with ⟨h, -⟩ | ⟨-, h⟩
    · exact absurd h h0
    · exact retRRC_rd h
/-- the gradient, by the program and by the model -/
theorem grad_both (A X : Option Addr) (n c m d : Nat) (ns : List Nd) (qs : List Rat) (w : World) (ad : Addr) (hE : ErrAt 195 w ad) (hr : RdN w (fun _ => True) A n c ns) (hx : RdS w (fun _ => True) X m d (qs.map rat3)) (hf : Fine qs) (hn : n ≤ 1048576) (hm : m ≤ 1048576) (hcode : ptCode (okE ns) ns m (qs.map rat3) = 0) (R : List Rat) (a : Int) (hR : rowsTo (rowJ qs (fun i _ => unitL qs.length i) 1 ns) qs.length = (R, a)) :
    (∀ W, Below w.heap.size w W → Calls Tryz.prog 14 #[.agg #[.slice A n c], .slice X m d] W (SayVC W (R.map rat3) a)) ∧ (∀ W, Below w.heap.size w W → Calls Tryz.prog 15 #[.agg #[.slice A n c], .slice X m d] W (SayVC W (R.map rat3) a)) := by
  have hql : qs.length = m := by have h2 := hx.len; rw [List.length_map] at h2; exact h2
  have hQ := (grad_rows qs ns).trans hR
  rw [hql] at hR hQ
  exact ⟨fun W hb => (implGradOf_ok A X n c m d ns qs _ _ W ad (hE.on hb) (hr.on hb) (hx.on hb) hf hn hm hcode R a hR).mono fun e w' h => retVC_rd h, fun W hb => specGradOf_ok A X n c m d ns qs _ _ W (hr.on hb) (hx.on hb) hf hn hm hcode R a hQ⟩

set_option linter.unusedSimpArgs false in
set_option maxRecDepth 20000 in
set_option maxHeartbeats 12800000 in
theorem lawFnSlope_any (pA : Option Addr) (pn pc : Nat) (qA : Option Addr) (qn qc : Nat) (w : World) (hp : RdB w (· < w.heap.size) pA pn) (ple : pn ≤ 9223372036854775807) (hq : RdB w (· < w.heap.size) qA qn) (qle : qn ≤ 9223372036854775807) (qnil : qA = none → qn = 0 ∧ qc = 0) (ad : Addr) (hE : ErrAt 195 w ad) :
    Calls Tryz.prog 3 #[.slice pA pn pc, .slice qA qn qc] w fun e w' => e = .returned (.bool true) ∧ Below w.heap.size w w' := by
  have Rp := Lib.hid hp
  have Rq := Lib.hid hq
  have ER := Lib.hid hE
  clear hp hq hE
  by_cases bigp : 1048576 < pn
  · have bigp' : (1048576 : Int) < pn := by omega
    go_enter Tryz.func3, Tryz.ntmps3
    go_wp2
    go_ret
    exact ⟨rfl, Below.refl _ _⟩
  have smp : (pn : Int) ≤ 1048576 := by omega
  by_cases bigq : 1048576 < qn
  · have bigq' : (1048576 : Int) < qn := by omega
    go_enter Tryz.func3, Tryz.ntmps3
    go_wp2
    go_ret
    exact ⟨rfl, Below.refl _ _⟩
  have smq : (qn : Int) ≤ 1048576 := by omega
  go_enter Tryz.func3, Tryz.ntmps3
  go_wp2_with fail
  refine (exprDrawn_any pA pn pc 3 (by decide) (by decide) true w Rp.out (by omega)).mono ?_
  rintro e v1 ⟨V, k, cv, ms, rfl, hm, hsp, bb⟩
  have hk : ms.length = k := hm.len
  have hsl := (sprout_len hsp).2
  have hHP := Lib.hid hsp
  have HKL := Lib.hid hk
  have hk60 : k ≤ 60 := by rw [← hk]; simp at hsl; omega
  have HBv1 := Lib.hid bb
  have HMv1 := Lib.hid (hm.mono (Q := fun _ => True) fun _ _ _ => trivial)
  clear bb hm hsp hk hsl
  go_wp2_with fail
  refine calls_at (fun W => (v1.heap.size + 1 ≤ W.heap.size) ∧ (Below w.heap.size w W) ∧ (RdN W (fun _ => True) V k cv ms) ∧ (SlAt W v1.heap.size 25 V k cv))
    ⟨by simp, below_on HBv1.out (below1 _ _), HMv1.out.on (below1 _ _), SlAt.new _ _ _ _ _⟩ ?_
  rintro v2 ⟨sv2, pB, pM, pE⟩
  have HBv2 := Lib.hid pB
  have HMv2 := Lib.hid pM
  have HEv2 := Lib.hid pE
  clear pB pM pE HBv1 HMv1
  refine (vecDrawn_any qA qn qc 3 v2 ((Rq.out.below HBv2.out).mono fun _ h _ => Nat.lt_of_lt_of_le h HBv2.out.size) (by omega) (by decide)).mono ?_
  rintro e v3 ⟨X, cx, qs, rfl, hx, hql, hxt, bb⟩
  have sv3 : v2.heap.size ≤ v3.heap.size := bb.size
  have HBv3 := Lib.hid (below_on HBv2.out bb)
  have HMv3 := Lib.hid (HMv2.out.on bb)
  have HEv3 := Lib.hid (HEv2.out.on bb)
  have HXv3 := Lib.hid hx
  clear bb HBv2 HMv2 HEv2
  have HFQ := Lib.hid (hxt.fine (by decide))
  have HQL := Lib.hid hql
  clear hx hxt hql
  have RQ := Lib.hid (Rq.out.below (HBv3.out.trans (((Below.refl v3.heap.size v3).alloc (Nat.le_refl _) (.cells #[.int .u8 5] 5)).mono HBv3.out.size)))
  have O7 := Lib.hid (World.ownsRow_lit (e := 5) (size := 1) v3 #[.int .u8 5] 1 (Nat.le_refl _) (by decide) rfl)
  go_wp2_with (at_builtin; refine wpList_append_bytes _ rfl _ _ 22 rfl v3.heap.size 5 Tryz.underlying22 infoByte (some ⟨v3.heap.size, 0, none⟩) 1 1 [5] rfl O7.out (by simp) (· < w.heap.size) qA qn qc rfl qnil RQ.out (by omega) (by simp) ?_; intro V' c' v4 hr hg; have RV := Lib.hid (hr.mono (Q := (· < v4.heap.size)) fun _ _ h => h); have hg2 := Lib.hid hg; clear hr hg)
  have bb : Below v3.heap.size v3 v4 := ((Below.refl v3.heap.size v3).alloc (Nat.le_refl _) (.cells #[.int .u8 5] 5)).trans (grown_below (g := v3.heap.size) hg2.out (by simp) (Nat.le_refl _))
  have HBv4 := Lib.hid (below_on HBv3.out bb)
  have HMv4 := Lib.hid (HMv3.out.on bb)
  have HEv4 := Lib.hid (HEv3.out.on bb)
  have HXv4 := Lib.hid (HXv3.out.on bb)
  have sv4 : v3.heap.size ≤ v4.heap.size := bb.size
  clear bb hg2 O7 RQ HBv3 HMv3 HEv3 HXv3
  refine (vecDrawn_any V' (1 + qn) c' 3 v4 RV.out (by omega) (by decide)).mono ?_
  rintro e v5 ⟨Y, cy, us, rfl, hy, hul, hyt, bb⟩
  have sv5 : v4.heap.size ≤ v5.heap.size := bb.size
  have HBv5 := Lib.hid (below_on HBv4.out bb)
  have HMv5 := Lib.hid (HMv4.out.on bb)
  have HEv5 := Lib.hid (HEv4.out.on bb)
  have HXv5 := Lib.hid (HXv4.out.on bb)
  have HYv5 := Lib.hid hy
  clear bb HBv4 HMv4 HEv4 HXv4
  have HFU := Lib.hid (hyt.fine (by decide))
  have HUL := Lib.hid hul
  clear hy hyt hul RV
  have hE0 : Hid (ErrAt 195 v5 ad) := Lib.hid (ER.out.on HBv5.out)
  obtain ⟨hok, -⟩ := sprout_ok hHP.out (by decide) (by rw [HKL.out]; exact hk60)
  have hdim := sprout_dim hHP.out (by decide)
  have hpt := ptCode_fine (m := 3) hok hdim HFQ.out HQL.out (by decide) (by decide)
  have hpt1 := ptCode1_fine (m := 3) hok hdim HFQ.out HQL.out HFU.out HUL.out (by decide) (by decide)
  have HASK := Lib.hid (fun (R : List Rat) (hR : Fine R) (hl : R.length = 3) => ask_fine hR hl HFU.out HUL.out (by decide) (by decide))
  obtain ⟨js, a, hJ⟩ : ∃ js a, evalJ (qs.map Jt.fx) ms = (js, a) := ⟨_, _, rfl⟩
  obtain ⟨ks, c, hK⟩ : ∃ ks c, evalJ (varsJ qs (fun _ => us) 1 qs.length) ms = (ks, c) := ⟨_, _, rfl⟩
  obtain ⟨R, d, hR⟩ : ∃ R d, rowsTo (rowJ qs (fun i _ => unitL qs.length i) 1 ms) qs.length = (R, d) := ⟨_, _, rfl⟩
  have hul : us.length = qs.length := by rw [HUL.out, HQL.out]
  have h1 : 1 ≤ ms.length := (okE_out hok).1
  have hfit := rows_fit (qs := qs) (vs := fun i _ => unitL qs.length i) (N := 1) (.inl rfl) (ns := ms) h1 qs.length
  rw [hR] at hfit
  have HFR : Hid (Fine R) := Lib.hid (fun q hq => ⟨(D_len_le _ 40).1 (hfit q hq).1, (D_len_le _ 40).1 (hfit q hq).2⟩)
  have HRL : Hid (d = 0 → R.length = 3) := Lib.hid (fun h => by have := rowsTo_len (R := rowJ qs (fun i _ => unitL qs.length i) 1 ms) qs.length (by rw [hR, h]); rw [hR, HQL.out] at this; exact this)
  have hsh := rows_short (R := rowJ qs (fun i _ => unitL qs.length i) 1 ms) (m := qs.length) (by rw [HQL.out]; decide)
  rw [hR] at hsh
  dsimp only at hsh
  have H5 := Lib.hid (slope_five qs us ms hul js ks a c R d hJ hK hR)
  have HNUM := Lib.hid (fun (h0 : a = 0) (h2 : c = 0) (h3 : d = 0) => slope_numbers qs us ms hul js ks R (by rw [hJ, h0]) (by rw [hK, h2]) (by rw [hR, h3]))
  have hK3 := hK
  rw [HQL.out] at hK3
  obtain ⟨N, X1, Y1, lx1, ly1, hval, hvi, hvs⟩ := value_both V X k cv 3 cx ms qs v5 ad hE0.out HMv5.out HXv5.out HFQ.out (by omega) (by decide) hpt js a hJ
  obtain ⟨N2, X2, Y2, N3, X3, Y3, ⟨lx2, ly2, lx3, ly3⟩, hslo, hsi⟩ := slope_impl V X Y k cv 3 cx cy ms qs us v5 ad hE0.out HMv5.out HXv5.out HYv5.out HFQ.out HFU.out (by omega) (by decide) hpt1 ks c hK3
  obtain ⟨hgi, hgs⟩ := grad_both V X k cv 3 cx ms qs v5 ad hE0.out HMv5.out HXv5.out HFQ.out (by omega) (by decide) hpt R d hR
  have HVAL := Lib.hid hval
  have HVI := Lib.hid hvi
  have HVS := Lib.hid hvs
  have HSLO := Lib.hid hslo
  have HSI := Lib.hid hsi
  have HGI := Lib.hid hgi
  have HGS := Lib.hid hgs
  clear hval hvi hvs hslo hsi hgi hgs hok hdim hpt hpt1 hJ hK hK3 hR hul h1 hfit hE0 hHP ER Rp Rq
  have HZv5 : Hid (Below v5.heap.size v5 v5) := Lib.hid (Below.refl _ _)
  have qE0 := HEv5.out.c0
  have kE := HEv5.out.lt
  have lE : v1.heap.size < v5.heap.size + 1 := by omega
  go_wp2_with fail
  clear qE0 kE lE
  refine (HVI.out v5 HZv5.out).mono ?_
  rintro e v6 ⟨A1, c1, B1, d1, rfl, o1, bb⟩
  have sv6 : v5.heap.size ≤ v6.heap.size := bb.size
  have HBv6 := Lib.hid (below_on HBv5.out bb)
  have HMv6 := Lib.hid (HMv5.out.on bb)
  have HEv6 := Lib.hid (HEv5.out.on bb)
  have HXv6 := Lib.hid (HXv5.out.on bb)
  have HYv6 := Lib.hid (HYv5.out.on bb)
  have HZv6 := Lib.hid (below_on HZv5.out bb)
  have HFv6 := Lib.hid o1
  clear bb HBv5 HMv5 HEv5 HXv5 HYv5 HZv5
  clear o1
  have qE0 := HEv6.out.c0
  have kE := HEv6.out.lt
  have lE : v1.heap.size < v6.heap.size + 1 := by omega
  go_wp2_with fail
  clear qE0 kE lE
  refine calls_at (fun W => (v6.heap.size + 1 ≤ W.heap.size) ∧ (Below w.heap.size w W) ∧ (RdN W (fun _ => True) V k cv ms) ∧ (SlAt W v1.heap.size 25 V k cv) ∧ (RdS W (fun _ => True) X 3 cx (qs.map rat3)) ∧ (RdS W (fun _ => True) Y 3 cy (us.map rat3)) ∧ (Below v5.heap.size v5 W) ∧ (RdR W (fun _ => True) X1 Y1 A1 c1 B1 d1) ∧ (RatAt W v6.heap.size 31 N A1 X1.length c1 B1 Y1.length d1))
    ⟨by simp, below_on HBv6.out (below1 _ _), HMv6.out.on (below1 _ _), HEv6.out.on (below1 _ _), HXv6.out.on (below1 _ _), HYv6.out.on (below1 _ _), below_on HZv6.out (below1 _ _), HFv6.out.on (below1 _ _), RatAt.new _ _ _ _ _ _ _ _ _⟩ ?_
  rintro v7 ⟨sv7, pB, pM, pE, pX, pY, pZ, pF, pf⟩
  have HBv7 := Lib.hid pB
  have HMv7 := Lib.hid pM
  have HEv7 := Lib.hid pE
  have HXv7 := Lib.hid pX
  have HYv7 := Lib.hid pY
  have HZv7 := Lib.hid pZ
  have HFv7 := Lib.hid pF
  have Hfv7 := Lib.hid pf
  clear pB pM pE pX pY pZ pF pf HBv6 HMv6 HEv6 HXv6 HYv6 HZv6 HFv6
  refine (HVS.out v7 HZv7.out).mono ?_
  rintro e v8 ⟨A2, c2, B2, d2, rfl, o2, bb⟩
  have sv8 : v7.heap.size ≤ v8.heap.size := bb.size
  have HBv8 := Lib.hid (below_on HBv7.out bb)
  have HMv8 := Lib.hid (HMv7.out.on bb)
  have HEv8 := Lib.hid (HEv7.out.on bb)
  have HXv8 := Lib.hid (HXv7.out.on bb)
  have HYv8 := Lib.hid (HYv7.out.on bb)
  have HZv8 := Lib.hid (below_on HZv7.out bb)
  have HFv8 := Lib.hid (HFv7.out.on bb)
  have Hfv8 := Lib.hid (Hfv7.out.on bb)
  have HGv8 := Lib.hid o2
  clear bb HBv7 HMv7 HEv7 HXv7 HYv7 HZv7 HFv7 Hfv7
  clear o2
  have qE0 := HEv8.out.c0
  have kE := HEv8.out.lt
  have lE : v1.heap.size < v8.heap.size + 1 := by omega
  go_wp2_with fail
  clear qE0 kE lE
  refine calls_at (fun W => (v8.heap.size + 1 ≤ W.heap.size) ∧ (Below w.heap.size w W) ∧ (RdN W (fun _ => True) V k cv ms) ∧ (SlAt W v1.heap.size 25 V k cv) ∧ (RdS W (fun _ => True) X 3 cx (qs.map rat3)) ∧ (RdS W (fun _ => True) Y 3 cy (us.map rat3)) ∧ (Below v5.heap.size v5 W) ∧ (RdR W (fun _ => True) X1 Y1 A1 c1 B1 d1) ∧ (RatAt W v6.heap.size 31 N A1 X1.length c1 B1 Y1.length d1) ∧ (RdR W (fun _ => True) X1 Y1 A2 c2 B2 d2) ∧ (RatAt W v8.heap.size 31 N A2 X1.length c2 B2 Y1.length d2))
    ⟨by simp, below_on HBv8.out (below1 _ _), HMv8.out.on (below1 _ _), HEv8.out.on (below1 _ _), HXv8.out.on (below1 _ _), HYv8.out.on (below1 _ _), below_on HZv8.out (below1 _ _), HFv8.out.on (below1 _ _), Hfv8.out.on (below1 _ _), HGv8.out.on (below1 _ _), RatAt.new _ _ _ _ _ _ _ _ _⟩ ?_
  rintro v9 ⟨sv9, pB, pM, pE, pX, pY, pZ, pF, pf, pG, pg⟩
  have HBv9 := Lib.hid pB
  have HMv9 := Lib.hid pM
  have HEv9 := Lib.hid pE
  have HXv9 := Lib.hid pX
  have HYv9 := Lib.hid pY
  have HZv9 := Lib.hid pZ
  have HFv9 := Lib.hid pF
  have Hfv9 := Lib.hid pf
  have HGv9 := Lib.hid pG
  have Hgv9 := Lib.hid pg
  clear pB pM pE pX pY pZ pF pf pG pg HBv8 HMv8 HEv8 HXv8 HYv8 HZv8 HFv8 Hfv8 HGv8
  refine (HSI.out v9 HZv9.out).mono ?_
  rintro e v10 ⟨A3, c3, B3, d3, A4, c4, B4, d4, rfl, o3, o4, bb⟩
  have sv10 : v9.heap.size ≤ v10.heap.size := bb.size
  have HBv10 := Lib.hid (below_on HBv9.out bb)
  have HMv10 := Lib.hid (HMv9.out.on bb)
  have HEv10 := Lib.hid (HEv9.out.on bb)
  have HXv10 := Lib.hid (HXv9.out.on bb)
  have HYv10 := Lib.hid (HYv9.out.on bb)
  have HZv10 := Lib.hid (below_on HZv9.out bb)
  have HFv10 := Lib.hid (HFv9.out.on bb)
  have Hfv10 := Lib.hid (Hfv9.out.on bb)
  have HGv10 := Lib.hid (HGv9.out.on bb)
  have Hgv10 := Lib.hid (Hgv9.out.on bb)
  have HJv10 := Lib.hid o3
  have HKv10 := Lib.hid o4
  clear bb HBv9 HMv9 HEv9 HXv9 HYv9 HZv9 HFv9 Hfv9 HGv9 Hgv9
  clear o3 o4
  have qE0 := HEv10.out.c0
  have kE := HEv10.out.lt
  have lE : v1.heap.size < v10.heap.size + 1 := by omega
  go_wp2_with fail
  clear qE0 kE lE
  refine calls_at (fun W => (v10.heap.size + 2 ≤ W.heap.size) ∧ (Below w.heap.size w W) ∧ (RdN W (fun _ => True) V k cv ms) ∧ (SlAt W v1.heap.size 25 V k cv) ∧ (RdS W (fun _ => True) X 3 cx (qs.map rat3)) ∧ (RdS W (fun _ => True) Y 3 cy (us.map rat3)) ∧ (Below v5.heap.size v5 W) ∧ (RdR W (fun _ => True) X1 Y1 A1 c1 B1 d1) ∧ (RatAt W v6.heap.size 31 N A1 X1.length c1 B1 Y1.length d1) ∧ (RdR W (fun _ => True) X1 Y1 A2 c2 B2 d2) ∧ (RatAt W v8.heap.size 31 N A2 X1.length c2 B2 Y1.length d2) ∧ (RdR W (fun _ => True) X2 Y2 A3 c3 B3 d3) ∧ (RdR W (fun _ => True) X3 Y3 A4 c4 B4 d4) ∧ (RatAt W v10.heap.size 31 N2 A3 X2.length c3 B3 Y2.length d3) ∧ (RatAt W (v10.heap.size + 1) 31 N3 A4 X3.length c4 B4 Y3.length d4))
    ⟨by simp, below_on HBv10.out (below2 _ _ _), HMv10.out.on (below2 _ _ _), HEv10.out.on (below2 _ _ _), HXv10.out.on (below2 _ _ _), HYv10.out.on (below2 _ _ _), below_on HZv10.out (below2 _ _ _), HFv10.out.on (below2 _ _ _), Hfv10.out.on (below2 _ _ _), HGv10.out.on (below2 _ _ _), Hgv10.out.on (below2 _ _ _), HJv10.out.on (below2 _ _ _), HKv10.out.on (below2 _ _ _), (RatAt.new _ _ _ _ _ _ _ _ _).alloc _, RatAt.new1 _ _ _ _ _ _ _ _ _ _⟩ ?_
  rintro v11 ⟨sv11, pB, pM, pE, pX, pY, pZ, pF, pf, pG, pg, pJ, pK, ph, ps⟩
  have HBv11 := Lib.hid pB
  have HMv11 := Lib.hid pM
  have HEv11 := Lib.hid pE
  have HXv11 := Lib.hid pX
  have HYv11 := Lib.hid pY
  have HZv11 := Lib.hid pZ
  have HFv11 := Lib.hid pF
  have Hfv11 := Lib.hid pf
  have HGv11 := Lib.hid pG
  have Hgv11 := Lib.hid pg
  have HJv11 := Lib.hid pJ
  have HKv11 := Lib.hid pK
  have Hhv11 := Lib.hid ph
  have Hsv11 := Lib.hid ps
  clear pB pM pE pX pY pZ pF pf pG pg pJ pK ph ps HBv10 HMv10 HEv10 HXv10 HYv10 HZv10 HFv10 Hfv10 HGv10 Hgv10 HJv10 HKv10
  refine (HGI.out v11 HZv11.out).mono ?_
  rintro e v12 ⟨G1, g1, rfl, og, bb⟩
  have sv12 : v11.heap.size ≤ v12.heap.size := bb.size
  have HBv12 := Lib.hid (below_on HBv11.out bb)
  have HMv12 := Lib.hid (HMv11.out.on bb)
  have HEv12 := Lib.hid (HEv11.out.on bb)
  have HXv12 := Lib.hid (HXv11.out.on bb)
  have HYv12 := Lib.hid (HYv11.out.on bb)
  have HZv12 := Lib.hid (below_on HZv11.out bb)
  have HFv12 := Lib.hid (HFv11.out.on bb)
  have Hfv12 := Lib.hid (Hfv11.out.on bb)
  have HGv12 := Lib.hid (HGv11.out.on bb)
  have Hgv12 := Lib.hid (Hgv11.out.on bb)
  have HJv12 := Lib.hid (HJv11.out.on bb)
  have HKv12 := Lib.hid (HKv11.out.on bb)
  have Hhv12 := Lib.hid (Hhv11.out.on bb)
  have Hsv12 := Lib.hid (Hsv11.out.on bb)
  have HPv12 := Lib.hid og
  clear bb HBv11 HMv11 HEv11 HXv11 HYv11 HZv11 HFv11 Hfv11 HGv11 Hgv11 HJv11 HKv11 Hhv11 Hsv11
  clear og
  have qE0 := HEv12.out.c0
  have kE := HEv12.out.lt
  have lE : v1.heap.size < v12.heap.size + 1 := by omega
  go_wp2_with fail
  clear qE0 kE lE
  refine (HGS.out v12 HZv12.out).mono ?_
  rintro e v13 ⟨G2, g2, rfl, oh, bb⟩
  have sv13 : v12.heap.size ≤ v13.heap.size := bb.size
  have HBv13 := Lib.hid (below_on HBv12.out bb)
  have HMv13 := Lib.hid (HMv12.out.on bb)
  have HEv13 := Lib.hid (HEv12.out.on bb)
  have HXv13 := Lib.hid (HXv12.out.on bb)
  have HYv13 := Lib.hid (HYv12.out.on bb)
  have HZv13 := Lib.hid (below_on HZv12.out bb)
  have HFv13 := Lib.hid (HFv12.out.on bb)
  have Hfv13 := Lib.hid (Hfv12.out.on bb)
  have HGv13 := Lib.hid (HGv12.out.on bb)
  have Hgv13 := Lib.hid (Hgv12.out.on bb)
  have HJv13 := Lib.hid (HJv12.out.on bb)
  have HKv13 := Lib.hid (HKv12.out.on bb)
  have Hhv13 := Lib.hid (Hhv12.out.on bb)
  have Hsv13 := Lib.hid (Hsv12.out.on bb)
  have HPv13 := Lib.hid (HPv12.out.on bb)
  have HQv13 := Lib.hid oh
  clear bb HBv12 HMv12 HEv12 HXv12 HYv12 HZv12 HFv12 Hfv12 HGv12 Hgv12 HJv12 HKv12 Hhv12 Hsv12 HPv12
  clear oh
  have haa : (a != a) = false := by simp
  have hdd : (d != d) = false := by simp
  have hrl : (R.map rat3).length ≤ 100 := by rw [List.length_map]; omega
  have HRR : Hid ((R.map rat3).length = R.length) := Lib.hid (List.length_map ..)
  have qf0 := Hfv13.out.c0
  have qf1 := Hfv13.out.c1
  have qf2 := Hfv13.out.c2
  have kf := Hfv13.out.lt
  have lf : v6.heap.size < v13.heap.size + 1 := by omega
  have qg0 := Hgv13.out.c0
  have qg1 := Hgv13.out.c1
  have qg2 := Hgv13.out.c2
  have kg := Hgv13.out.lt
  have lg : v8.heap.size < v13.heap.size + 1 := by omega
  go_wp2_with fail
  clear qf0 qf1 qf2 kf lf qg0 qg1 qg2 kg lg
  refine (sameRat_gen N A1 B1 A2 B2 c1 d1 c2 d2 X1 Y1 _ _ v13 HFv13.out HGv13.out (by omega) (by omega)).mono ?_
  rintro e v14 ⟨rfl, bb⟩
  have sv14 : v13.heap.size ≤ v14.heap.size := bb.size
  have HBv14 := Lib.hid (below_on HBv13.out bb)
  have HMv14 := Lib.hid (HMv13.out.on bb)
  have HEv14 := Lib.hid (HEv13.out.on bb)
  have HXv14 := Lib.hid (HXv13.out.on bb)
  have HYv14 := Lib.hid (HYv13.out.on bb)
  have HZv14 := Lib.hid (below_on HZv13.out bb)
  have HFv14 := Lib.hid (HFv13.out.on bb)
  have Hfv14 := Lib.hid (Hfv13.out.on bb)
  have HGv14 := Lib.hid (HGv13.out.on bb)
  have Hgv14 := Lib.hid (Hgv13.out.on bb)
  have HJv14 := Lib.hid (HJv13.out.on bb)
  have HKv14 := Lib.hid (HKv13.out.on bb)
  have Hhv14 := Lib.hid (Hhv13.out.on bb)
  have Hsv14 := Lib.hid (Hsv13.out.on bb)
  have HPv14 := Lib.hid (HPv13.out.on bb)
  have HQv14 := Lib.hid (HQv13.out.on bb)
  clear bb HBv13 HMv13 HEv13 HXv13 HYv13 HZv13 HFv13 Hfv13 HGv13 Hgv13 HJv13 HKv13 Hhv13 Hsv13 HPv13 HQv13
  go_wp2_with fail
  refine (sameVec_any R G1 G2 _ g1 g2 _ _ v14 (by first | exact HPv14.out | (rw [← HRR.out]; exact HPv14.out)) (by first | exact HQv14.out | (rw [← HRR.out]; exact HQv14.out)) HFR.out (by first | exact hrl | (rw [← HRR.out]; exact hrl))).mono ?_
  rintro e v15 ⟨rfl, bb⟩
  have sv15 : v14.heap.size ≤ v15.heap.size := bb.size
  have HBv15 := Lib.hid (below_on HBv14.out bb)
  have HMv15 := Lib.hid (HMv14.out.on bb)
  have HEv15 := Lib.hid (HEv14.out.on bb)
  have HXv15 := Lib.hid (HXv14.out.on bb)
  have HYv15 := Lib.hid (HYv14.out.on bb)
  have HZv15 := Lib.hid (below_on HZv14.out bb)
  have HFv15 := Lib.hid (HFv14.out.on bb)
  have Hfv15 := Lib.hid (Hfv14.out.on bb)
  have HGv15 := Lib.hid (HGv14.out.on bb)
  have Hgv15 := Lib.hid (Hgv14.out.on bb)
  have HJv15 := Lib.hid (HJv14.out.on bb)
  have HKv15 := Lib.hid (HKv14.out.on bb)
  have Hhv15 := Lib.hid (Hhv14.out.on bb)
  have Hsv15 := Lib.hid (Hsv14.out.on bb)
  have HPv15 := Lib.hid (HPv14.out.on bb)
  have HQv15 := Lib.hid (HQv14.out.on bb)
  clear bb HBv14 HMv14 HEv14 HXv14 HYv14 HZv14 HFv14 Hfv14 HGv14 Hgv14 HJv14 HKv14 Hhv14 Hsv14 HPv14 HQv14
  rcases H5.out with h | h | ⟨h, h2⟩ | ⟨h, h2, h3⟩ | ⟨h, h2, h3⟩
  · subst h
    clear H5 HNUM HVAL HSLO HRL HASK HVI HVS HSI HGI HGS haa hdd
    go_wp2
    go_ret
    exact ⟨rfl, HBv15.out⟩
  · subst h
    clear H5 HNUM HVAL HSLO HRL HASK HVI HVS HSI HGI HGS haa hdd
    go_wp2
    go_ret
    exact ⟨rfl, HBv15.out⟩
  · subst h h2
    clear H5 HNUM HVAL HSLO HRL HASK HVI HVS HSI HGI HGS haa hdd
    go_wp2
    go_ret
    exact ⟨rfl, HBv15.out⟩
  · subst h h2 h3
    clear H5 HNUM HVAL HSLO HRL HASK HVI HVS HSI HGI HGS haa hdd
    go_wp2
    go_ret
    exact ⟨rfl, HBv15.out⟩
  · subst h h2 h3
    obtain ⟨hn0, hn1⟩ := HNUM.out rfl rfl rfl
    obtain ⟨e1, e2, e3⟩ := HVAL.out rfl
    obtain ⟨⟨e4, e5, e6⟩, ⟨e7, e8, e9⟩, hfs⟩ := HSLO.out rfl
    have hr3 := HRL.out rfl
    have hk3 := HKL.out
    rw [hk3] at hn0 hn1
    have hdot : dotK R us R.length = numJ (ks.getD (k - 1) j0) 1 := by rw [hn1, hr3, dotK_sum R us 3 hr3 HUL.out, HQL.out]
    rw [hn0] at e4 e5 e6
    have eN : N = N2 := e1.trans e4.symm
    have eX : X1 = X2 := e2.trans e5.symm
    have eY : Y1 = Y2 := e3.trans e6.symm
    subst eN eX eY e7 e8 e9
    generalize numJ (ks.getD (k - 1) j0) 1 = s at *
    have hP3 : RdS v15 (fun _ => True) G1 3 g1 (R.map rat3) := by have := HPv15.out; rw [HRR.out, hr3] at this; exact this
    have HD3 := Lib.hid (dotLaw_any R us s G1 Y 3 g1 cy _ _ v15 hP3 HYv15.out HFR.out HFU.out (by decide) (HASK.out R HFR.out hr3) hdot hfs)
    have h33 : ((3 : Nat) : Int) = 3 := rfl
    (try rw [HRR.out]); rw [hr3]
    clear e1 e2 e3 e4 e5 e6 hn0 hn1 hdot hfs hk3 hP3 H5 HNUM HVAL HSLO HRL HASK HVI HVS HSI HGI HGS haa hdd h33 hr3 hsh hrl
    go_wp2_with fail
    refine (HD3.out).mono ?_
    rintro e v16 ⟨A5, c5, B5, d5, rfl, o5, bb⟩
    have sv16 : v15.heap.size ≤ v16.heap.size := bb.size
    have HBv16 := Lib.hid (below_on HBv15.out bb)
    have HMv16 := Lib.hid (HMv15.out.on bb)
    have HEv16 := Lib.hid (HEv15.out.on bb)
    have HXv16 := Lib.hid (HXv15.out.on bb)
    have HYv16 := Lib.hid (HYv15.out.on bb)
    have HZv16 := Lib.hid (below_on HZv15.out bb)
    have HFv16 := Lib.hid (HFv15.out.on bb)
    have Hfv16 := Lib.hid (Hfv15.out.on bb)
    have HGv16 := Lib.hid (HGv15.out.on bb)
    have Hgv16 := Lib.hid (Hgv15.out.on bb)
    have HJv16 := Lib.hid (HJv15.out.on bb)
    have HKv16 := Lib.hid (HKv15.out.on bb)
    have Hhv16 := Lib.hid (Hhv15.out.on bb)
    have Hsv16 := Lib.hid (Hsv15.out.on bb)
    have HPv16 := Lib.hid (HPv15.out.on bb)
    have HQv16 := Lib.hid (HQv15.out.on bb)
    have HOv16 := Lib.hid o5
    clear bb HBv15 HMv15 HEv15 HXv15 HYv15 HZv15 HFv15 Hfv15 HGv15 Hgv15 HJv15 HKv15 Hhv15 Hsv15 HPv15 HQv15
    clear o5
    have qh0 := Hhv16.out.c0
    have qh1 := Hhv16.out.c1
    have qh2 := Hhv16.out.c2
    have kh := Hhv16.out.lt
    have lh : v10.heap.size < v16.heap.size + 1 := by omega
    have qf0 := Hfv16.out.c0
    have qf1 := Hfv16.out.c1
    have qf2 := Hfv16.out.c2
    have kf := Hfv16.out.lt
    have lf : v6.heap.size < v16.heap.size + 1 := by omega
    go_wp2_with fail
    clear qh0 qh1 qh2 kh lh qf0 qf1 qf2 kf lf
    refine calls_at (fun W => (v16.heap.size + 1 ≤ W.heap.size) ∧ (Below w.heap.size w W) ∧ (RdN W (fun _ => True) V k cv ms) ∧ (SlAt W v1.heap.size 25 V k cv) ∧ (RdS W (fun _ => True) X 3 cx (qs.map rat3)) ∧ (RdS W (fun _ => True) Y 3 cy (us.map rat3)) ∧ (Below v5.heap.size v5 W) ∧ (RdR W (fun _ => True) X1 Y1 A1 c1 B1 d1) ∧ (RatAt W v6.heap.size 31 N A1 X1.length c1 B1 Y1.length d1) ∧ (RdR W (fun _ => True) X1 Y1 A2 c2 B2 d2) ∧ (RatAt W v8.heap.size 31 N A2 X1.length c2 B2 Y1.length d2) ∧ (RdR W (fun _ => True) X1 Y1 A3 c3 B3 d3) ∧ (RdR W (fun _ => True) (D (nu s)) (D s.den) A4 c4 B4 d4) ∧ (RatAt W v10.heap.size 31 N A3 X1.length c3 B3 Y1.length d3) ∧ (RatAt W (v10.heap.size + 1) 31 (isNeg s) A4 (D (nu s)).length c4 B4 (D s.den).length d4) ∧ (RdS W (fun _ => True) G1 (R.map rat3).length g1 (R.map rat3)) ∧ (RdS W (fun _ => True) G2 (R.map rat3).length g2 (R.map rat3)) ∧ (RdR W (fun _ => True) (D (nu s)) (D s.den) A5 c5 B5 d5) ∧ (RatAt W v16.heap.size 31 (isNeg s) A5 (D (nu s)).length c5 B5 (D s.den).length d5))
      ⟨by simp, below_on HBv16.out (below1 _ _), HMv16.out.on (below1 _ _), HEv16.out.on (below1 _ _), HXv16.out.on (below1 _ _), HYv16.out.on (below1 _ _), below_on HZv16.out (below1 _ _), HFv16.out.on (below1 _ _), Hfv16.out.on (below1 _ _), HGv16.out.on (below1 _ _), Hgv16.out.on (below1 _ _), HJv16.out.on (below1 _ _), HKv16.out.on (below1 _ _), Hhv16.out.on (below1 _ _), Hsv16.out.on (below1 _ _), HPv16.out.on (below1 _ _), HQv16.out.on (below1 _ _), HOv16.out.on (below1 _ _), RatAt.new _ _ _ _ _ _ _ _ _⟩ ?_
    rintro v17 ⟨sv17, pB, pM, pE, pX, pY, pZ, pF, pf, pG, pg, pJ, pK, ph, ps, pP, pQ, pO, po⟩
    have HBv17 := Lib.hid pB
    have HMv17 := Lib.hid pM
    have HEv17 := Lib.hid pE
    have HXv17 := Lib.hid pX
    have HYv17 := Lib.hid pY
    have HZv17 := Lib.hid pZ
    have HFv17 := Lib.hid pF
    have Hfv17 := Lib.hid pf
    have HGv17 := Lib.hid pG
    have Hgv17 := Lib.hid pg
    have HJv17 := Lib.hid pJ
    have HKv17 := Lib.hid pK
    have Hhv17 := Lib.hid ph
    have Hsv17 := Lib.hid ps
    have HPv17 := Lib.hid pP
    have HQv17 := Lib.hid pQ
    have HOv17 := Lib.hid pO
    have Hov17 := Lib.hid po
    clear pB pM pE pX pY pZ pF pf pG pg pJ pK ph ps pP pQ pO po HBv16 HMv16 HEv16 HXv16 HYv16 HZv16 HFv16 Hfv16 HGv16 Hgv16 HJv16 HKv16 Hhv16 Hsv16 HPv16 HQv16 HOv16
    refine (sameRat_gen _ A3 B3 A1 B1 c3 d3 c1 d1 _ _ _ _ v17 HJv17.out HFv17.out (by omega) (by omega)).mono ?_
    rintro e v18 ⟨rfl, bb⟩
    have sv18 : v17.heap.size ≤ v18.heap.size := bb.size
    have HBv18 := Lib.hid (below_on HBv17.out bb)
    have HMv18 := Lib.hid (HMv17.out.on bb)
    have HEv18 := Lib.hid (HEv17.out.on bb)
    have HXv18 := Lib.hid (HXv17.out.on bb)
    have HYv18 := Lib.hid (HYv17.out.on bb)
    have HZv18 := Lib.hid (below_on HZv17.out bb)
    have HFv18 := Lib.hid (HFv17.out.on bb)
    have Hfv18 := Lib.hid (Hfv17.out.on bb)
    have HGv18 := Lib.hid (HGv17.out.on bb)
    have Hgv18 := Lib.hid (Hgv17.out.on bb)
    have HJv18 := Lib.hid (HJv17.out.on bb)
    have HKv18 := Lib.hid (HKv17.out.on bb)
    have Hhv18 := Lib.hid (Hhv17.out.on bb)
    have Hsv18 := Lib.hid (Hsv17.out.on bb)
    have HPv18 := Lib.hid (HPv17.out.on bb)
    have HQv18 := Lib.hid (HQv17.out.on bb)
    have HOv18 := Lib.hid (HOv17.out.on bb)
    have Hov18 := Lib.hid (Hov17.out.on bb)
    clear bb HBv17 HMv17 HEv17 HXv17 HYv17 HZv17 HFv17 Hfv17 HGv17 Hgv17 HJv17 HKv17 Hhv17 Hsv17 HPv17 HQv17 HOv17 Hov17
    have qo0 := Hov18.out.c0
    have qo1 := Hov18.out.c1
    have qo2 := Hov18.out.c2
    have ko := Hov18.out.lt
    have lo : v16.heap.size < v18.heap.size + 1 := by omega
    have qs0 := Hsv18.out.c0
    have qs1 := Hsv18.out.c1
    have qs2 := Hsv18.out.c2
    have ks := Hsv18.out.lt
    have ls : (v10.heap.size + 1) < v18.heap.size + 1 := by omega
    go_wp2_with fail
    clear qo0 qo1 qo2 ko lo qs0 qs1 qs2 ks ls
    refine (sameRat_gen (isNeg s) A5 B5 A4 B4 c5 d5 c4 d4 (D (nu s)) (D s.den) _ _ v18 HOv18.out HKv18.out (by omega) (by omega)).mono ?_
    rintro e v19 ⟨rfl, bb⟩
    have sv19 : v18.heap.size ≤ v19.heap.size := bb.size
    have HBv19 := Lib.hid (below_on HBv18.out bb)
    have HMv19 := Lib.hid (HMv18.out.on bb)
    have HEv19 := Lib.hid (HEv18.out.on bb)
    have HXv19 := Lib.hid (HXv18.out.on bb)
    have HYv19 := Lib.hid (HYv18.out.on bb)
    have HZv19 := Lib.hid (below_on HZv18.out bb)
    have HFv19 := Lib.hid (HFv18.out.on bb)
    have Hfv19 := Lib.hid (Hfv18.out.on bb)
    have HGv19 := Lib.hid (HGv18.out.on bb)
    have Hgv19 := Lib.hid (Hgv18.out.on bb)
    have HJv19 := Lib.hid (HJv18.out.on bb)
    have HKv19 := Lib.hid (HKv18.out.on bb)
    have Hhv19 := Lib.hid (Hhv18.out.on bb)
    have Hsv19 := Lib.hid (Hsv18.out.on bb)
    have HPv19 := Lib.hid (HPv18.out.on bb)
    have HQv19 := Lib.hid (HQv18.out.on bb)
    have HOv19 := Lib.hid (HOv18.out.on bb)
    have Hov19 := Lib.hid (Hov18.out.on bb)
    clear bb HBv18 HMv18 HEv18 HXv18 HYv18 HZv18 HFv18 Hfv18 HGv18 Hgv18 HJv18 HKv18 Hhv18 Hsv18 HPv18 HQv18 HOv18 Hov18
    go_wp2
    go_ret
    exact ⟨rfl, HBv19.out⟩
end Go.Proofs.YtifepoefeamboaaGreatDoor
