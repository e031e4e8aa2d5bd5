/-
  HessMath ImplHess SpecHess in one text.
-/
import Derived.Test.YtifepoefeamboaaGreatDoorGrpI
import Derived.Test.YtifepoefeamboaaGreatDoorGrpH
import Derived.Deep.AppendLies
import Derived.Test.YtifepoefeamboaaGreatDoorGrpJ
namespace Nt
open Go Go.RowKit
def rows2To (R : Nat → List Rat × Int) : Nat → List Rat × Int
  | 0 => ([], 0)
  | k + 1 => if (rows2To R k).2 = 0 then (if (R k).2 = 0 then ((rows2To R k).1 ++ (R k).1, 0) else ([], (R k).2)) else rows2To R k
theorem rows2To_more {R : Nat → List Rat × Int} {k : Nat} {L : List Rat} (h : rows2To R k = (L, 0)) (h0 : (R k).2 = 0) : rows2To R (k + 1) = (L ++ (R k).1, 0) := by
  rw [rows2To, h, if_pos rfl, if_pos h0]
theorem rows2To_past {R : Nat → List Rat × Int} {k : Nat} (h : (rows2To R k).2 ≠ 0) : ∀ d, rows2To R (k + d) = rows2To R k
  | 0 => rfl
  | d + 1 => by
    have ih := rows2To_past h d
    rw [← Nat.add_assoc, rows2To, ih, if_neg h]
theorem rows2To_stop {R : Nat → List Rat × Int} {k m : Nat} {L : List Rat} (h : rows2To R k = (L, 0)) (h0 : (R k).2 ≠ 0) (hk : k < m) : rows2To R m = ([], (R k).2) := by
  have e : rows2To R (k + 1) = ([], (R k).2) := by rw [rows2To, h, if_pos rfl, if_neg h0]
  obtain ⟨d, rfl⟩ : ∃ d, m = k + 1 + d := ⟨m - (k + 1), by omega⟩
  rw [rows2To_past (by rw [e]; exact h0), e]
theorem rows2To_congr {R R' : Nat → List Rat × Int} : ∀ m, (∀ k, k < m → R k = R' k) → rows2To R m = rows2To R' m
  | 0, _ => rfl
  | m + 1, h => by rw [rows2To, rows2To, rows2To_congr m fun k hk => h k (by omega), h m (by omega)]
theorem rows2To_len {R : Nat → List Rat × Int} {s : Nat} (hs : ∀ k, (R k).2 = 0 → (R k).1.length = s) : ∀ m, (rows2To R m).2 = 0 → (rows2To R m).1.length = m * s
  | 0, _ => by simp [rows2To]
  | m + 1, h => by
    rw [rows2To] at h ⊢
    by_cases h1 : (rows2To R m).2 = 0
    · rw [if_pos h1] at h ⊢
      by_cases h2 : (R m).2 = 0
      · rw [if_pos h2, List.length_append, rows2To_len hs m h1, hs m h2, Nat.succ_mul]
      · rw [if_neg h2] at h; exact absurd h h2
    · rw [if_neg h1] at h; exact absurd h h1
theorem rows2To_none {R : Nat → List Rat × Int} : ∀ m, (rows2To R m).2 ≠ 0 → (rows2To R m).1 = []
  | 0, h => absurd rfl h
  | m + 1, h => by
    rw [rows2To] at h ⊢
    by_cases h1 : (rows2To R m).2 = 0
    · rw [if_pos h1] at h ⊢
      by_cases h2 : (R m).2 = 0
      · rw [if_pos h2] at h; exact absurd rfl h
      · rw [if_neg h2]
    · rw [if_neg h1]; exact rows2To_none m h1
theorem rows2To_fit {R : Nat → List Rat × Int} (p : Rat → Prop) : ∀ m, (∀ k, k < m → ∀ q ∈ (R k).1, p q) → ∀ q ∈ (rows2To R m).1, p q
  | 0, _, q, hq => by simp [rows2To] at hq
  | m + 1, h, q, hq => by
    rw [rows2To] at hq
    have ih := rows2To_fit p m fun k hk => h k (by omega)
    by_cases h1 : (rows2To R m).2 = 0
    · rw [if_pos h1] at hq
      by_cases h2 : (R m).2 = 0
      · rw [if_pos h2] at hq
        rcases List.mem_append.1 hq with hq | hq
        · exact ih q hq
        · exact h m (by omega) q hq
      · rw [if_neg h2] at hq; simp at hq
    · rw [if_neg h1] at hq; exact ih q hq
theorem flat_app (L L' : List EV) : flat (L ++ L') = flat L ++ flat L' := by simp [flat]
theorem flat_one (L : List EV) : ∀ u ∈ flat L, u.oneCell' = true := by
  intro u hu
  unfold flat at hu
  obtain ⟨r, -, hr⟩ := List.mem_flatMap.1 hu
  simp [EV.cs] at hr
  rcases hr with rfl | rfl | rfl <;> rfl
theorem flat_noInt (L : List EV) : ∀ u ∈ flat L, noInt u = true := by
  intro u hu
  unfold flat at hu
  obtain ⟨r, -, hr⟩ := List.mem_flatMap.1 hu
  simp [EV.cs] at hr
  rcases hr with rfl | rfl | rfl <;> rfl
theorem getD_app_lt (L L' : List EV) (i : Nat) (h : i < L.length) : (L ++ L').getD i e0 = L.getD i e0 := by simp [List.getD, List.getElem?_append_left h]
theorem getD_app_ge (L L' : List EV) (i : Nat) (h : L.length ≤ i) : (L ++ L').getD i e0 = L'.getD (i - L.length) e0 := by simp [List.getD, List.getElem?_append_right h]
theorem parts_app {ti : TypeId} {w : World} {base N : Nat} {L L' : List EV} (h : Parts ti w base L) (hl : ∀ i, i < L.length → ∀ g, (L.getD i e0).has g → g < N) (h' : Parts ti w N L') (hb : base ≤ N) : Parts ti w base (L ++ L') := by
  constructor
  · intro i hi
    by_cases e : i < L.length
    · rw [getD_app_lt L L' i e]; exact h.1 i e
    · rw [getD_app_ge L L' i (by omega)]
      exact OwnR.mono (h'.1 _ (by rw [List.length_append] at hi; omega)) hb
  · intro i j hij hj g hg hg'
    rw [List.length_append] at hj
    by_cases e : j < L.length
    · rw [getD_app_lt L L' i (by omega)] at hg
      rw [getD_app_lt L L' j e] at hg'
      exact h.2 i j hij e g hg hg'
    · rw [getD_app_ge L L' j (by omega)] at hg'
      by_cases e' : i < L.length
      · rw [getD_app_lt L L' i e'] at hg
        have a := hl i e' g hg
        have b := OwnR.ge (h'.1 _ (by omega)) g hg'
        omega
      · rw [getD_app_ge L L' i (by omega)] at hg
        exact h'.2 _ _ (by omega) (by omega) g hg hg'
/-- a row's cells, as what is appended -/
theorem row_news {w : World} {base g tr n cap : Nat} {L : List EV} (h : w.ownsRow base tr 3 (.slice (some ⟨g, 0, none⟩) n cap) n (flat L)) : ∀ j u, (flat L)[j]? = some u → w.cell? ((⟨g, 0, none⟩ : Addr).add j) = some u := h.cells rfl
/-- the second slopes along axis i -/
def hessJ (qs : List Rat) (ns : List Nd) (i : Nat) : List Rat × Int := rowsTo (rowJ qs (fun k t => if t = 0 then unitL qs.length k else unitL qs.length i) 2 ns) qs.length
end Nt
namespace Go.Proofs.YtifepoefeamboaaGreatDoor
open Go Go.RowKit Nt

set_option maxRecDepth 20000 in
set_option maxHeartbeats 3200000 in
/-- what a code stops ahead of it -/
theorem implHessOf_code (A X : Option Addr) (n c m d : Nat) (ns : List Nd) (rs : List R3) (P P' : Nat → Prop) (w : World) (hr : RdN w P A n c ns) (hx : RdS w P' X m d rs) (hsm : Small rs) (hn : n ≤ 1048576) (hm : m ≤ 1048576) (code : Int) (hcode : ptCode (okE ns) ns m rs = code) (h0 : code ≠ 0) :
    Calls Tryz.prog 35 #[.agg #[.slice A n c], .slice X m d] w (RetVC 31 3 w [] code) := by
  have hb : (code != 0) = true := by simpa using h0
  have HP := Lib.hid (fun (W : World) (hw : Below w.heap.size w W) => placeCode_none A X n c m d ns rs _ _ W (hr.on hw) (hx.on hw) hsm hn hm)
  rw [hcode] at HP
  clear hr hx hsm hcode h0
  go_enter Tryz.func35, Tryz.ntmps35
  go_wp2_with fail
  refine calls_at (fun W => Below w.heap.size w W ∧ SlAt W w.heap.size 25 A n c) ⟨below1 _ _, SlAt.new _ _ _ _ _⟩ ?_
  rintro W ⟨hw, s0⟩
  refine (HP.out W hw).mono ?_
  rintro e w1 ⟨rfl, b1⟩
  have HB1 := Lib.hid (below_on hw b1)
  clear hw s0 b1 HP
  go_wp2
  exact bodyPost_ret (results_tmp2 rfl _ _ _) rfl ⟨none, 0, [], rfl, ⟨World.ownsRow_nil _ _ _ _, fun i hi => by simp at hi, fun i j _ hj => by simp at hj⟩, rfl, HB1.out⟩

set_option maxRecDepth 20000 in
set_option maxHeartbeats 6400000 in
/-- the second slopes, row behind row, or what stopped them -/
theorem implHessOf_ok (A X : Option Addr) (n c m d : Nat) (ns : List Nd) (qs : List Rat) (P P' : Nat → Prop) (w : World) (ad : Addr) (hE : ErrAt 195 w ad) (hr : RdN w P A n c ns) (hx : RdS w P' X m d (qs.map rat3)) (hf : Fine qs) (hn : n ≤ 1048576) (hm : m ≤ 1048576) (hcode : ptCode (okE ns) ns m (qs.map rat3) = 0) (R : List Rat) (code : Int) (hR : rows2To (hessJ qs ns) m = (R, code)) :
    Calls Tryz.prog 35 #[.agg #[.slice A n c], .slice X m d] w (RetVC 31 3 w (R.map rat3) code) := by
  obtain ⟨h4, hright, hok, hdim⟩ := ptCode_zero hcode
  have hln : ns.length = n := hr.len
  obtain ⟨hg, hn1, hn60⟩ := okE_at hln hright hdim
  have hql : qs.length = m := by have h2 := hx.len; rw [List.length_map] at h2; exact h2
  have hm4 : m ≤ 4 := by have := (okV_out hok).2.1; rw [List.length_map] at this; omega
  obtain ⟨i0, hi0, hz0, hz1, hz2⟩ := info_parts infoRat
  have HP := Lib.hid (fun (W : World) (hw : Below w.heap.size w W) => placeCode_none A X n c m d ns (qs.map rat3) _ _ W (hr.on hw) (hx.on hw) (small_fine hf) hn hm)
  rw [hcode] at HP
  have HL := Lib.hid (fun (k : Nat) (Y : Option Addr) (g dv : Nat) (W : World) (hw : Below w.heap.size w W) (hgw : g < W.heap.size) (hc : W.cell? ⟨g, 0, none⟩ = some (.slice Y m dv)) (hy : RdS W (fun _ => True) Y m dv ((unitL m k).map rat3)) => slopesAt_one A X n c m d ns qs (unitL m k) Y g dv _ _ W ad hgw hc _ hy (fine_unitL m k) (hE.on hw) (hr.on hw) (hx.on hw) hf hg hn1 hn60 (by omega) (hessJ qs ns k).1 (hessJ qs ns k).2 (by unfold hessJ; rw [hql]))
  have HRL : Hid (∀ k, (hessJ qs ns k).2 = 0 → (hessJ qs ns k).1.length = m) := Lib.hid (fun k h => by
    unfold hessJ at h ⊢
    rw [rowsTo_len _ h, hql])
  have HRO := Lib.hid hR
  clear h4 hright hok hdim hln hql hg hn1 hn60 hE hr hx hf hcode hR
  go_enter Tryz.func35, Tryz.ntmps35
  go_wp2_with fail
  refine calls_at (fun W => Below w.heap.size w W ∧ SlAt W w.heap.size 25 A n c) ⟨below1 _ _, SlAt.new _ _ _ _ _⟩ ?_
  rintro W ⟨hw, s0⟩
  refine (HP.out W hw).mono ?_
  rintro e w1 ⟨rfl, b1⟩
  have HB1 := Lib.hid (below_on hw b1)
  have HS1 := Lib.hid (s0.on b1)
  clear hw s0 b1 HP
  go_wp2
  go_loopw [7, 19] (fun v j wr => ∃ (k : Nat) (V : Option Addr) (cv : Nat) (L : List EV) (ps : List Rat), k ≤ m ∧ j = .int .i64 k ∧ v = .slice V (k * m) cv ∧ Hid (rows2To (hessJ qs ns) k = (ps, 0)) ∧ Hid (L.map EV.v3 = ps.map rat3) ∧ Hid (wr.ownsRow (w.heap.size + 1) 31 3 (.slice V (k * m) cv) (k * m) (flat L)) ∧ Hid (Parts 3 wr (w.heap.size + 1) L) ∧ Hid (SlAt wr w.heap.size 25 A n c) ∧ Hid (Below w.heap.size w wr)) (fun _ j _ => m - (intOf j).toNat)
  case atStart => exact ⟨0, none, 0, [], [], Nat.zero_le _, rfl, by rw [Nat.zero_mul], Lib.hid rfl, Lib.hid rfl, Lib.hid (by rw [Nat.zero_mul]; exact World.ownsRow_nil _ _ _ _), Lib.hid ⟨fun i hi => by simp at hi, fun i j _ hj => by simp at hj⟩, HS1, HB1⟩
  case round =>
    obtain ⟨k, V, cv, L, ps, hk, rfl, rfl, HRK, HV, HO, HP, HS, HB⟩ := hrel
    by_cases hlt : k < m
    · have hkN : (k : Int) < m := by omega
      have HLT := Lib.hid hlt
      have hbs := HS.out.lt
      have HLK := Lib.hid (HL.out k)
      have HRLK := Lib.hid (HRL.out k)
      have hkm : k * m ≤ 16 := Nat.le_trans (Nat.mul_le_mul (show k ≤ 4 by omega) hm4) (by decide)
      have HSM : Hid ((k + 1) * m = k * m + m) := Lib.hid (Nat.succ_mul k m)
      have HMO := Lib.hid (fun h => rows2To_more HRK.out h)
      have HST := Lib.hid (fun h => rows2To_stop HRK.out h HLT.out)
      obtain ⟨qr, cd, HEV⟩ : ∃ qr cd, Hid (hessJ qs ns k = (qr, cd)) := ⟨_, _, Lib.hid rfl⟩
      rw [HEV.out] at HLK HRLK HMO HST
      dsimp only at HLK HRLK HMO HST
      generalize hz : k * m = z at *
      have HZ := Lib.hid hz
      have HS0 := HS
      have HB0 := HB
      clear hz hlt
      go_upto_region 8 with fail
      go_region_held3 (fun wx => wx.cell? ⟨w.heap.size, 0, none⟩ = some (.slice A n c))
        (first | with_reducible exact HS2.out.c0 | with_reducible exact HS1'.out.c0 | with_reducible exact HS0.out.c0 | with_reducible exact (HS1'.out.on (below1 _ _)).c0 | exact HS0.out.c0)
        (first
          | (go_at_call 46; refine calls_at (fun V' => Below u1.heap.size u1 V' ∧ V'.cell? ⟨u1.heap.size, 0, none⟩ = some (.slice Ya m da) ∧ u1.heap.size < V'.heap.size) ⟨below1 _ _, by rw [cell_of_row _ _ 0 _ _ (0, 0) (heap_alloc_new u1 _)]; rfl, by simp⟩ ?_; rintro y1 ⟨bV, cV, hV⟩; refine (HLK.out Ya _ da y1 (below_on HB1'.out bV) hV cV (HY1.out.on bV)).mono ?_; rintro e u2 ⟨V4, d4, L4, rfl, o4, hm4', b4⟩; have bb := below_on bV b4; have HO4 := Lib.hid o4; have HM4 := Lib.hid hm4'; have hy1 := bV.size; have HB2 := Lib.hid (below_on HB1'.out bb); have HS2 := Lib.hid (HS1'.out.on bb); have HO2 := Lib.hid (own_keep3 HO1.out bb); have HP2 : Hid (Parts 3 u2 (w.heap.size + 1) L) := Lib.hid ⟨fun i hi => (HP1.out.1 i hi).on bb, HP1.out.2⟩; have HLB2 := Lib.hid (fun i hi g hg => Nat.lt_of_lt_of_le (OwnR.lt (HP1.out.1 i hi) g hg) hy1); have hs2 := b4.size; clear o4 hm4' b4 bb bV cV hV)
          | (go_at_call 65; refine (axis_any k m (by omega) _).mono ?_; rintro e u1 ⟨Ya, da, rfl, oa, bb⟩; have bb := undrew bb; have HY1 := Lib.hid oa; have HB1' := Lib.hid (below_on HB0.out bb); have HS1' := Lib.hid (HS0.out.on bb); have HO1 := Lib.hid (own_keep3 HO.out bb); have HP1 : Hid (Parts 3 u1 (w.heap.size + 1) L) := Lib.hid ⟨fun i hi => (HP.out.1 i hi).on bb, HP.out.2⟩; have hs1 := bb.size; clear oa bb)
          | fail)
      all_goals
        clear HLK HS HB HS0 HB0 HO HP HY1 HB1' HS1' HO1 HP1
        by_cases h0 : cd = 0
        · subst h0
          have HRM := Lib.hid (HMO.out rfl)
          have hql := HRLK.out rfl
          have hm0 : 0 < m := by omega
          rw [List.length_map, hql] at HO4
          have hl4 : L4.length = m := by have := congrArg List.length HM4.out; rw [List.length_map, List.length_map, hql] at this; exact this
          obtain ⟨g4, rfl, hg4, hgl4, _⟩ := row_at HO4.out.1 hm0
          have HV2 : Hid ((L ++ L4).map EV.v3 = (ps ++ qr).map rat3) := Lib.hid (by rw [List.map_append, HV.out, HM4.out, List.map_append])
          have HPP : Hid (Parts 3 u2 (w.heap.size + 1) (L ++ L4)) := Lib.hid (parts_app HP2.out HLB2.out ⟨HO4.out.2.1, HO4.out.2.2⟩ (by omega))
          have HLQ := Lib.hid hql
          have HL4 := Lib.hid hl4
          clear HP2 HV HM4 HMO HST HRLK HLB2 HEV HRK hql hl4
          rw [HLQ.out]
          go_wp2_with (at_builtin; refine wpList_append_lies _ rfl _ _ 27 rfl (w.heap.size + 1) 31 i0 _ 3 56 Tryz.underlying27 hi0 hz0 hz1 hz2 rfl (by decide) _ z _ rfl HO2.out ⟨g4, 0, none⟩ m d4 (flat L4) rfl (by rw [flat_len, HL4.out]) (row_news HO4.out.1) (flat_one L4) hm0 (by unfold maxLen; omega) (by omega) (by omega) _ rfl ?_; intro g' cv' w3 hown hgrow hat hlt2)
          have HO3 : Hid (w3.ownsRow (w.heap.size + 1) 31 3 (.slice (some ⟨g', 0, none⟩) (z + m) cv') (z + m) (flat (L ++ L4))) := Lib.hid (by rw [flat_app]; exact hown)
          have HP3 : Hid (Parts 3 w3 (w.heap.size + 1) (L ++ L4)) := Lib.hid ⟨fun i hi => (HPP.out.1 i hi).appended (by decide) HO2.out hgrow, HPP.out.2⟩
          have hrb := rowed3_below HO2.out (by omega) hgrow
          have HB3 := Lib.hid (HB2.out.trans (hrb.mono (by omega)))
          have HS3 : Hid (SlAt w3 w.heap.size 25 A n c) := Lib.hid ((hrb.block _ (by omega)).trans HS2.out)
          clear hown hgrow hat hlt2 hrb HO2 HPP HB2 HS2 HO4
          go_wp2
          go_roundw
          case rel => exact ⟨k + 1, _, _, _, _, by omega, by go_num, by rw [HSM.out], HRM, HV2, by rw [HSM.out]; exact HO3, HP3, HS3, HB3⟩
          case measure => simp [intOf]; omega
        · have hb : (cd != 0) = true := by simpa using h0
          have HSS := Lib.hid (HST.out h0)
          rw [HRO.out] at HSS
          clear h0 HMO HST HRLK
          go_wp2
          have hc : code = cd := congrArg Prod.snd HSS.out
          have hr0 : R = [] := congrArg Prod.fst HSS.out
          subst hc hr0
          exact bodyPost_ret (results_tmp2 rfl _ _ _) rfl ⟨none, 0, [], rfl, ⟨World.ownsRow_nil _ _ _ _, fun i hi => by simp at hi, fun i j _ hj => by simp at hj⟩, rfl, HB2.out⟩
    · obtain rfl : k = m := by omega
      have HRE := Lib.hid (HRO.out.symm.trans HRK.out)
      have hc : code = 0 := congrArg Prod.snd HRE.out
      have hr0 : R = ps := congrArg Prod.fst HRE.out
      subst hc hr0
      have HPL : Hid (R.length = k * k) := Lib.hid (by
        have := rows2To_len (R := hessJ qs ns) (s := k) HRL.out k (by rw [HRK.out])
        rw [HRK.out] at this
        exact this)
      clear HRE HL HRL
      go_wp2
      exact bodyPost_ret (results_tmp2 rfl _ _ _) rfl ⟨V, cv, L, by rw [List.length_map, HPL.out]; rfl, by rw [List.length_map, HPL.out]; exact ⟨own_mono3 HO.out (by omega), fun i hi => OwnR.mono (HP.out.1 i hi) (by omega), HP.out.2⟩, HV.out, HB.out⟩
end Go.Proofs.YtifepoefeamboaaGreatDoor
namespace Nt
open Go Go.RowKit
/-- what a vector's cells are, as a list of elements -/
theorem rds_parts {w : World} {P : Nat → Prop} {V : Option Addr} {n c : Nat} {rs : List R3} (h : RdS w P V n c rs) (hn : 0 < n) :
    ∃ (g o : Nat) (L : List EV), V = some ⟨g, o, none⟩ ∧ L.map EV.v3 = rs ∧ (∀ j u, (flat L)[j]? = some u → w.cell? ((⟨g, o, none⟩ : Addr).add j) = some u) ∧ ∀ i, i < L.length → RdR w P (L.getD i e0).xs (L.getD i e0).ys (L.getD i e0).A (L.getD i e0).ca (L.getD i e0).B (L.getD i e0).cb := by
  obtain ⟨b, o, rfl, _, _, hc⟩ := h.at_ hn
  have hlen := h.len
  have hex : ∀ i, ∃ r : EV, i < n → (r.v3 = rs.getD i r3 ∧ w.cell? ⟨b, o + i * 3, none⟩ = some (.bool r.neg) ∧ w.cell? ⟨b, o + i * 3 + 1, none⟩ = some (.slice r.A r.xs.length r.ca) ∧ w.cell? ⟨b, o + i * 3 + 2, none⟩ = some (.slice r.B r.ys.length r.cb) ∧ RdR w P r.xs r.ys r.A r.ca r.B r.cb) := fun i => by
    by_cases hi : i < n
    · obtain ⟨A, ca, B, cb, h0, h1, h2, h3⟩ := hc i hi
      exact ⟨EV.mk (rs.getD i r3).1 A ca B cb (rs.getD i r3).2.1 (rs.getD i r3).2.2, fun _ => ⟨rfl, h0, h1, h2, h3⟩⟩
    · exact ⟨e0, fun h => absurd h hi⟩
  obtain ⟨f, hf⟩ : ∃ f : Nat → EV, ∀ i, i < n → ((f i).v3 = rs.getD i r3 ∧ w.cell? ⟨b, o + i * 3, none⟩ = some (.bool (f i).neg) ∧ w.cell? ⟨b, o + i * 3 + 1, none⟩ = some (.slice (f i).A (f i).xs.length (f i).ca) ∧ w.cell? ⟨b, o + i * 3 + 2, none⟩ = some (.slice (f i).B (f i).ys.length (f i).cb) ∧ RdR w P (f i).xs (f i).ys (f i).A (f i).ca (f i).B (f i).cb) := ⟨fun i => Classical.choose (hex i), fun i => Classical.choose_spec (hex i)⟩
  have hg : ∀ i, i < n → ((List.range n).map f).getD i e0 = f i := fun i hi => by simp [List.getD, hi]
  refine ⟨b, o, (List.range n).map f, rfl, ?_, ?_, ?_⟩
  · apply List.ext_getElem
    · simp [hlen]
    · intro i h1 h2
      simp only [List.length_map, List.length_range] at h1
      simp only [List.getElem_map, List.getElem_range]
      rw [(hf i h1).1]
      simp [List.getD, h2]
  · intro j u hj
    have hl := flat_len ((List.range n).map f)
    rw [List.length_map, List.length_range] at hl
    have hjl : j < n * 3 := by
      rcases Nat.lt_or_ge j (n * 3) with h | h
      · exact h
      · rw [List.getElem?_eq_none (by omega)] at hj; cases hj
    have hi : j / 3 < n := by omega
    obtain ⟨f0, f1, f2⟩ := flat_get ((List.range n).map f) (j / 3) (by simp; exact hi)
    rw [hg _ hi] at f0 f1 f2
    obtain ⟨_, c0, c1, c2, _⟩ := hf (j / 3) hi
    rw [add_none]
    have h3 : j = j / 3 * 3 ∨ j = j / 3 * 3 + 1 ∨ j = j / 3 * 3 + 2 := by omega
    generalize j / 3 = i at *
    rcases h3 with rfl | rfl | rfl
    · rw [f0] at hj; rw [c0]; exact hj
    · rw [f1] at hj; rw [← Nat.add_assoc, c1]; exact hj
    · rw [f2] at hj; rw [← Nat.add_assoc, c2]; exact hj
  · intro i hi
    simp only [List.length_map, List.length_range] at hi
    rw [hg i hi]
    exact (hf i hi).2.2.2.2
theorem PartsRd.app {w : World} {V : Option Addr} {L L' : List EV} (h : PartsRd w V L) (h' : ∀ i, i < L'.length → RdR w (fun b => V ≠ some ⟨b, 0, none⟩) (L'.getD i e0).xs (L'.getD i e0).ys (L'.getD i e0).A (L'.getD i e0).ca (L'.getD i e0).B (L'.getD i e0).cb) : PartsRd w V (L ++ L') := by
  intro i hi
  by_cases e : i < L.length
  · rw [getD_app_lt L L' i e]; exact h i e
  · rw [getD_app_ge L L' i (by omega)]
    exact h' _ (by rw [List.length_append] at hi; omega)
/-- the model's second slopes along axis i -/
def hessQ (qs : List Rat) (ns : List Nd) (i : Nat) : List Rat × Int := rowsTo (rowQ qs (fun k => unitL qs.length k) (fun _ => unitL qs.length i) Q4.vw ns) qs.length
theorem hess_rows (qs : List Rat) (ns : List Nd) : rows2To (hessQ qs ns) qs.length = rows2To (hessJ qs ns) qs.length :=
  rows2To_congr _ fun k _ => curve_rows qs (unitL qs.length k) ns (unitL_len _ _)
theorem hess_fit {qs : List Rat} {ns : List Nd} (h1 : 1 ≤ ns.length) (m : Nat) : ∀ p ∈ (rows2To (hessJ qs ns) m).1, fitQ p :=
  rows2To_fit fitQ m fun k _ q hq => rows_fit (qs := qs) (vs := fun j t => if t = 0 then unitL qs.length j else unitL qs.length k) (N := 2) (.inr rfl) h1 qs.length q hq
theorem hess_short {qs : List Rat} {ns : List Nd} (hm : qs.length ≤ 4) : (rows2To (hessJ qs ns) qs.length).1.length ≤ 16 := by
  by_cases h : (rows2To (hessJ qs ns) qs.length).2 = 0
  · rw [rows2To_len (s := qs.length) (fun k h => by unfold hessJ at h ⊢; exact rowsTo_len _ h) _ h]
    exact Nat.le_trans (Nat.mul_le_mul hm hm) (by decide)
  · rw [rows2To_none _ h]; exact Nat.zero_le _
end Nt
namespace Go.Proofs.YtifepoefeamboaaGreatDoor
open Go Go.RowKit Nt

set_option maxRecDepth 20000 in
set_option maxHeartbeats 3200000 in
theorem specHessOf_code (A X : Option Addr) (n c m d : Nat) (ns : List Nd) (rs : List R3) (P P' : Nat → Prop) (w : World) (hr : RdN w P A n c ns) (hx : RdS w P' X m d rs) (hsm : Small rs) (hn : n ≤ 1048576) (hm : m ≤ 1048576) (code : Int) (hcode : ptCode (okE ns) ns m rs = code) (h0 : code ≠ 0) :
    Calls Tryz.prog 34 #[.agg #[.slice A n c], .slice X m d] w (SayVC w [] code) := by
  have hb : (code != 0) = true := by simpa using h0
  by_cases h1 : 4096 < m
  · have HC : code = 2 := by rw [← hcode]; simp [ptCode, h1]
    have z1 : decide ((4096 : Int) < m) = true := by simp; omega
    subst HC
    clear h1 hr hx hsm hcode h0 hb
    go_enter Tryz.func34, Tryz.ntmps34
    go_upto_region 1 with fail
    refine wp_at (fun W => Below w.heap.size w W ∧ SlAt W w.heap.size 25 A n c) ⟨below1 _ _, SlAt.new _ _ _ _ _⟩ ?_
    rintro w1 ⟨hw, -⟩
    have HB1 := Lib.hid hw
    clear hw
    go_wp2
    exact bodyPost_ret (results_tmp2 rfl _ _ _) rfl ⟨_, 0, rfl, rds_empty _ _, below_on HB1.out (below1 _ _)⟩
  have z1 : decide ((4096 : Int) < m) = false := by simp; omega
  have HA := Lib.hid (fun W (hw : Below w.heap.size w W) => l06Ask_any A X n c m d ns rs _ _ W (hr.on hw) (hx.on hw) hsm hn hm)
  rw [hcode] at HA
  clear h1 hr hx hsm hcode h0
  go_enter Tryz.func34, Tryz.ntmps34
  go_upto_region 1 with fail
  refine wp_at (fun W => Below w.heap.size w W ∧ SlAt W w.heap.size 25 A n c) ⟨below1 _ _, SlAt.new _ _ _ _ _⟩ ?_
  rintro W ⟨hw, s0⟩
  have t0 := s0.c0
  go_wp2_with fail
  refine (HA.out W hw).mono ?_
  rintro e w1 ⟨rfl, b1⟩
  have HB1 := Lib.hid (below_on hw b1)
  clear hw s0 b1 t0
  go_wp2
  exact bodyPost_ret (results_tmp2 rfl _ _ _) rfl ⟨_, 0, rfl, rds_empty _ _, below_on HB1.out (below1 _ _)⟩

set_option maxRecDepth 20000 in
set_option maxHeartbeats 6400000 in
theorem specHessOf_ok (A X : Option Addr) (n c m d : Nat) (ns : List Nd) (qs : List Rat) (P P' : Nat → Prop) (w : World) (hr : RdN w P A n c ns) (hx : RdS w P' X m d (qs.map rat3)) (hf : Fine qs) (hn : n ≤ 1048576) (hm : m ≤ 1048576) (hcode : ptCode (okE ns) ns m (qs.map rat3) = 0) (R : List Rat) (kod : Int) (hR : rows2To (hessQ qs ns) m = (R, kod)) :
    Calls Tryz.prog 34 #[.agg #[.slice A n c], .slice X m d] w (SayVC w (R.map rat3) kod) := by
  obtain ⟨h4, hright, hok, hdim⟩ := ptCode_zero hcode
  have hln : ns.length = n := hr.len
  obtain ⟨hg, hn1, hn60⟩ := okE_at hln hright hdim
  have hql : qs.length = m := by have h2 := hx.len; rw [List.length_map] at h2; exact h2
  have hm4 : m ≤ 4 := by have := (okV_out hok).2.1; rw [List.length_map] at this; omega
  have z1 : decide ((4096 : Int) < m) = false := by simp; omega
  obtain ⟨i0, hi0, hz0, hz1, hz2⟩ := info_parts infoRat
  have HA := Lib.hid (fun W (hw : Below w.heap.size w W) => l06Ask_any A X n c m d ns (qs.map rat3) _ _ W (hr.on hw) (hx.on hw) (small_fine hf) hn hm)
  rw [hcode] at HA
  have HL := Lib.hid (fun (k : Nat) (Y : Option Addr) (dv : Nat) (W : World) (hw : Below w.heap.size w W) (hy : RdS W (fun _ => True) Y m dv ((unitL m k).map rat3)) => l06Curve_any A X Y n c m d dv ns qs (unitL m k) _ _ _ W (hr.on hw) (hx.on hw) hy hf (fine_unitL m k) hg hn1 hn60 h4 (hessQ qs ns k).1 (hessQ qs ns k).2 (by unfold hessQ; rw [hql]))
  have HRL : Hid (∀ k, (hessQ qs ns k).2 = 0 → (hessQ qs ns k).1.length = m) := Lib.hid (fun k h => by
    unfold hessQ at h ⊢
    rw [rowsTo_len _ h, hql])
  have HRO := Lib.hid hR
  clear h4 hright hok hdim hln hql hg hn1 hn60 hr hx hf hcode hR
  go_enter Tryz.func34, Tryz.ntmps34
  go_upto_region 1 with fail
  refine wp_at (fun W => Below w.heap.size w W ∧ SlAt W w.heap.size 25 A n c) ⟨below1 _ _, SlAt.new _ _ _ _ _⟩ ?_
  rintro W ⟨hw, s0⟩
  have t0 := s0.c0
  go_wp2_with fail
  refine (HA.out W hw).mono ?_
  rintro e w1 ⟨rfl, b1⟩
  have HB1 := Lib.hid (below_on hw b1)
  have HS1 := Lib.hid (s0.on b1)
  have hs1 := HS1.out.lt
  clear hw s0 b1 t0 HA z1
  go_wp2
  go_loopw [7, 8] (fun v j wr => ∃ (k : Nat) (V : Option Addr) (cv : Nat) (L : List EV) (ps : List Rat), k ≤ m ∧ j = .int .i64 k ∧ v = .slice V (k * m) cv ∧ Hid (rows2To (hessQ qs ns) k = (ps, 0)) ∧ Hid (L.map EV.v3 = ps.map rat3) ∧ Hid (GrSt 31 25 w wr A n c V (k * m) cv L)) (fun _ j _ => m - (intOf j).toNat)
  case atStart => exact ⟨0, _, 0, [], [], Nat.zero_le _, rfl, by rw [Nat.zero_mul], Lib.hid rfl, Lib.hid rfl, Lib.hid (by rw [Nat.zero_mul]; exact ⟨own_mono3 (emptyRow w1 31 3) (by omega), fun i hi => by simp at hi, emptyFree _ _, HS1.out.on (below1 _ _), below_on HB1.out (below1 _ _)⟩)⟩
  case round =>
    obtain ⟨k, V, cv, L, ps, hk, rfl, rfl, HRK, HV, HG0⟩ := hrel
    by_cases hlt : k < m
    · have hkN : (k : Int) < m := by omega
      have HLT := Lib.hid hlt
      have hbs := HG0.out.box
      have HS0 := Lib.hid HG0.out.2.2.2.1
      have HLK := Lib.hid (HL.out k)
      have HRLK := Lib.hid (HRL.out k)
      have hkm : k * m ≤ 16 := Nat.le_trans (Nat.mul_le_mul (show k ≤ 4 by omega) hm4) (by decide)
      have HSM : Hid ((k + 1) * m = k * m + m) := Lib.hid (Nat.succ_mul k m)
      have HMO := Lib.hid (fun h => rows2To_more HRK.out h)
      have HST := Lib.hid (fun h => rows2To_stop HRK.out h HLT.out)
      obtain ⟨qr, cd, HEV⟩ : ∃ qr cd, Hid (hessQ qs ns k = (qr, cd)) := ⟨_, _, Lib.hid rfl⟩
      rw [HEV.out] at HLK HRLK HMO HST
      dsimp only at HLK HRLK HMO HST
      generalize hz : k * m = z at *
      have HZ := Lib.hid hz
      clear hz hlt
      go_upto_region 10 with fail
      go_region_held3 (fun wx => wx.cell? ⟨w.heap.size, 0, none⟩ = some (.slice A n c))
        (first | with_reducible exact HS3.out.c0 | with_reducible exact HS2.out.c0 | with_reducible exact HS0.out.c0 | exact HS0.out.c0)
        (first
          | (go_at_call 63; refine (HLK.out Yu du _ (by exact HG2.out.2.2.2.2) (by exact HY2.out)).mono ?_; rintro e w3 ⟨V4, d4, rfl, o4, bb⟩; have HO4 := Lib.hid o4; have HG3 := Lib.hid (HG2.out.on bb); have HS3 := Lib.hid (HS2.out.on bb); clear o4 bb)
          | (go_at_call 64; refine (l06Unit_any m k HLT.out (by omega) _).mono ?_; rintro e w2 ⟨Yu, du, rfl, oa, bb⟩; have bb := undrew bb; have HY2 := Lib.hid oa; have HG2 := Lib.hid (HG0.out.on bb); have HS2 := Lib.hid (HS0.out.on bb); clear oa bb)
          | fail)
      all_goals
        clear HLK HS0 HG0 HG2 HS2 HY2 HS3
        by_cases h0 : cd = 0
        · subst h0
          have HRM := Lib.hid (HMO.out rfl)
          have hql := HRLK.out rfl
          have hm0 : 0 < m := by omega
          have hb3 := HG3.out.box
          rw [List.length_map, hql] at HO4
          obtain ⟨g4, o4, L4, rfl, hm4', hcells, hrd⟩ := rds_parts HO4.out hm0
          have hl4 : L4.length = m := by have := congrArg List.length hm4'; rw [List.length_map, List.length_map, hql] at this; exact this
          have HV2 : Hid ((L ++ L4).map EV.v3 = (ps ++ qr).map rat3) := Lib.hid (by rw [List.map_append, HV.out, hm4', List.map_append])
          have HPP : Hid (PartsRd w3 V (L ++ L4)) := Lib.hid (HG3.out.2.1.app fun i hi => (hrd i hi).beside HG3.out.2.2.1)
          have HO3 := Lib.hid HG3.out.1
          have HF3 := Lib.hid HG3.out.2.2.1
          have HS4 := Lib.hid HG3.out.2.2.2.1
          have HB4 := Lib.hid HG3.out.2.2.2.2
          have HCL := Lib.hid hcells
          have HLQ := Lib.hid hql
          have HL4 := Lib.hid hl4
          clear HV HMO HST HRLK HEV HRK hql hl4 hrd hcells hm4' HG3
          rw [HLQ.out]
          go_wp2_with (at_builtin; refine wpList_append_free _ rfl _ _ 27 rfl (w.heap.size + 1) 31 i0 _ 3 56 Tryz.underlying27 hi0 hz0 hz1 hz2 rfl (by decide) (by decide) _ z _ _ rfl HO3.out ⟨g4, o4, none⟩ m d4 (flat L4) rfl (by rw [flat_len, HL4.out]) HCL.out (flat_one L4) (flat_noInt L4) hm0 (by unfold maxLen; omega) (by omega) (by omega) HF3.out _ rfl ?_; intro g' cv' w5 hown hgrow hat hfree)
          have hrb := rowed3_below HO3.out (by omega) hgrow
          have HG5 : Hid (GrSt 31 25 w w5 A n c (some ⟨g', 0, none⟩) (z + m) cv' (L ++ L4)) := Lib.hid ⟨by rw [flat_app]; exact hown, HPP.out.appended HO3.out hgrow hat, hfree, (hrb.block _ (by omega)).trans HS4.out, HB4.out.trans (hrb.mono (by omega))⟩
          clear hown hgrow hat hfree hrb HPP HO3 HF3 HS4 HB4 HCL
          go_wp2
          go_roundw
          case rel => exact ⟨k + 1, _, _, _, _, by omega, by go_num, by rw [HSM.out], HRM, HV2, by rw [HSM.out]; exact HG5⟩
          case measure => simp [intOf]; omega
        · have hb : (cd != 0) = true := by simpa using h0
          have HSS := Lib.hid (HST.out h0)
          rw [HRO.out] at HSS
          have HBc := Lib.hid HG3.out.2.2.2.2
          clear h0 HMO HST HRLK HG3
          go_wp2
          have hc : kod = cd := congrArg Prod.snd HSS.out
          have hr0 : R = [] := congrArg Prod.fst HSS.out
          subst hc hr0
          exact bodyPost_ret (results_tmp2 rfl _ _ _) rfl ⟨_, 0, rfl, rds_empty _ _, below_on HBc.out (below1 _ _)⟩
    · obtain rfl : k = m := by omega
      have HRE := Lib.hid (HRO.out.symm.trans HRK.out)
      have hc : kod = 0 := congrArg Prod.snd HRE.out
      have hr0 : R = ps := congrArg Prod.fst HRE.out
      subst hc hr0
      have HPL : Hid (R.length = k * k) := Lib.hid (by
        have := rows2To_len (R := hessQ qs ns) (s := k) HRL.out k (by rw [HRK.out])
        rw [HRK.out] at this
        exact this)
      have HRD : Hid (RdS wr (fun _ => True) V (k * k) cv (R.map rat3)) := by
        have := HG0.out.2.1.rds HG0.out.1
        rw [HV.out] at this
        exact this
      have HBc := Lib.hid HG0.out.2.2.2.2
      clear HRE HL HRL HG0
      go_wp2
      exact bodyPost_ret (results_tmp2 rfl _ _ _) rfl ⟨V, cv, by rw [List.length_map, HPL.out]; rfl, by rw [List.length_map, HPL.out]; exact HRD.out, HBc.out⟩
end Go.Proofs.YtifepoefeamboaaGreatDoor
