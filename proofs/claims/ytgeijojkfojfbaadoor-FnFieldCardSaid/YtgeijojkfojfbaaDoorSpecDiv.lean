/-
  Quotients of the model: l01Small, l01Div, DivNat.
-/
import Derived.Test.YtgeijojkfojfbaaDoorDivNat
import Derived.Test.YtgeijojkfojfbaaDoorSpecSub
import Derived.Test.YtgeijojkfojfbaaDoorSpecMul
namespace Nt
open Go Go.RowKit
/-- two lists that are read in new memory, and a code -/
def RetDivS (w : World) (q r : List Int) (code : Int) (e : Ending) (w' : World) : Prop :=
  ∃ A1 c1 A2 c2, e = .returned (.tuple #[.slice A1 q.length c1, .slice A2 r.length c2, .int .i64 code]) ∧ Rd w' (w.heap.size ≤ ·) A1 q.length c1 q ∧ Rd w' (w.heap.size ≤ ·) A2 r.length c2 r ∧ Below w.heap.size w w'
theorem small_len {n : Nat} (h : n ≤ 9223372036854775807) : (D n).length ≤ 5 := by
  rw [D_len_le]
  have : 10000 ^ 5 = 100000000000000000000 := by decide
  omega
theorem cmpI_le {m n : Nat} (h : m ≤ n) : -1 ≤ cmpI m n ∧ cmpI m n ≤ 0 := by
  unfold cmpI
  by_cases h1 : m < n
  · rw [if_pos h1]; omega
  · rw [if_neg h1, if_pos (by omega)]; omega
theorem cmpI_gt {m n : Nat} (h : n < m) : cmpI m n = 1 := by unfold cmpI; rw [if_neg (by omega), if_neg (by omega)]
theorem natOf_cons {x : Int} {r : Nat} (h : 0 ≤ x) : natOf (x :: D r) = x.toNat + 10000 * r := by
  unfold natOf
  rw [val, val_D]
  omega
theorem sdiv_start (m p r x : Nat) (n : Nat) (Q : Int) (hp : p < (D m).length) (hx : (D m).getD p 0 = x)
    (h : (n : Int) * Q + 10000 ^ (p + 1) * r + val ((D m).take (p + 1)) = m) : (n : Int) * Q + 10000 ^ p * ((x + 10000 * r : Nat) : Int) + val ((D m).take p) = m := by
  rw [take_snoc (D m) p hp, val_snoc, List.length_take, Nat.min_eq_left (by omega), hx, pow_succ'] at h
  have e : ((x + 10000 * r : Nat) : Int) = (x : Int) + 10000 * r := by omega
  rw [← h, e, Int.mul_add, Int.mul_comm 10000 (10000 ^ p), Int.mul_assoc]
  omega
theorem sdiv_next {n p lo r' : Nat} {qs : List Int} {V M : Int} (hq : qs.getD p 0 = 0) (hpq : p < qs.length) (hle : n * lo ≤ r')
    (h : (n : Int) * val qs + 10000 ^ p * (r' : Int) + V = M) : (n : Int) * val (qs.set p lo) + 10000 ^ p * ((r' - n * lo : Nat) : Int) + V = M := by
  rw [val_set qs p lo hpq, hq, Int.sub_zero, Int.mul_add, Int.mul_left_comm (n : Int), ← h, Int.natCast_sub hle, Int.natCast_mul, Int.mul_sub]
  omega
end Nt
namespace Go.Proofs.YtgeijojkfojfbaaDoor
open Go Go.RowKit Nt

set_option maxHeartbeats 400000 in
theorem l01Small_any (n : Nat) (w : World) (hn : n ≤ 9223372036854775807) :
    Calls Tryd.prog 84 #[.int .i64 (n : Int)] w (RetNew 3 w (D n)) := by
  have HN5 := Lib.hid (small_len hn)
  go_enter Tryd.func84, Tryd.ntmps84
  go_wp2
  go_loopw [0, 3] (fun q v wr => ∃ (j l : Nat) (out : List Int) (V : Option Addr) (cv : Nat), j ≤ n ∧ q = .int .i64 j ∧ v = .slice V l cv ∧ out.length = l ∧ D n = out ++ D j ∧ wr.ownsRow w.heap.size 3 1 (.slice V l cv) l (out.map (Value.int .i64)) ∧ Below w.heap.size w wr) (fun q _ _ => (intOf q).toNat)
  case atStart => exact ⟨n, 0, [], _, _, Nat.le_refl _, rfl, rfl, rfl, rfl, World.ownsRow_lit _ #[] 0 (Nat.le_refl _) (by decide) rfl, (Below.refl _ _).alloc (Nat.le_refl _) _⟩
  case round =>
    obtain ⟨j, l, out, V, cv, hj, rfl, rfl, hol, hd, hown, hb⟩ := hrel
    have hl5 : l ≤ 5 := by
      have := congrArg List.length hd
      rw [List.length_append] at this
      have := HN5.out
      omega
    have HOL := Lib.hid hol
    have HD := Lib.hid hd
    have HO := Lib.hid hown
    have HB := Lib.hid hb
    clear hol hd hown hb
    by_cases h0 : 0 < j
    · have hj0 : (0 : Int) < j := by omega
      have HD' : Hid (D n = (out ++ [((j % 10000 : Nat) : Int)]) ++ D (j / 10000)) := by
        show _ = _
        rw [HD.out, D_pos j h0]; simp
      clear HD
      go_wp2_with (at_builtin; refine wpList_append_ints _ rfl _ _ 23 rfl w.heap.size 3 Tryd.underlying23 infoInt V l cv out rfl (HO.out.alloc _) _ (some ⟨wr.heap.size, 0, none⟩) 1 1 [(j : Int) % 10000] rfl (rd_one _ _ _) (by omega) (by have := HB.out.size; simp; omega) ?_; intro V' c' w1 hown hg; have HO' := Lib.hid hown; have HB' := Lib.hid (below_app HB.out HO.out hg); clear hown hg)
      go_roundw
      case rel => exact ⟨j / 10000, l + 1, out ++ [((j % 10000 : Nat) : Int)], V', c', by omega, by congr 1, rfl, by simp [HOL.out], HD'.out, HO'.out, HB'.out⟩
      case measure => simp [intOf]; omega
    · obtain rfl : j = 0 := by omega
      have HD' : Hid (D n = out) := by show _ = _; rw [HD.out, D_zero, List.append_nil]
      clear HD
      go_wp2
      go_ret
      refine ⟨V, cv, ?_, ?_, HB.out⟩
      · rw [HD'.out, HOL.out]; rfl
      · rw [HD'.out, HOL.out]; exact HO.out

set_option maxHeartbeats 3200000 in
theorem l01Div_any (A B : Option Addr) (la ca lb cb m n : Nat) (P Q : Nat → Prop) (w : World) (hx0 : Rd w P A la ca (D m)) (hy0 : Rd w Q B lb cb (D n)) (hla : la ≤ 1000) (hlb : lb ≤ 1000) (hn : 0 < n) :
    Calls Tryd.prog 69 #[.slice A la ca, .slice B lb cb] w fun e w' => ∃ A1 c1 A2 c2, e = .returned (.tuple #[.slice A1 (D (m / n)).length c1, .slice A2 (D (m % n)).length c2]) ∧ w'.ownsRow w.heap.size 3 1 (.slice A1 (D (m / n)).length c1) (D (m / n)).length ((D (m / n)).map (Value.int .i64)) ∧
      Rd w' (w.heap.size ≤ ·) A2 (D (m % n)).length c2 (D (m % n)) ∧ Below w.heap.size w w' := by
  have hx : Rd w (· < w.heap.size) A la ca (D m) := hx0.mono fun _ _ h => h
  have hy : Rd w (· < w.heap.size) B lb cb (D n) := hy0.mono fun _ _ h => h
  have HX := Lib.hid hx
  have HY := Lib.hid hy
  have HLA := Lib.hid hx.len
  have HLB := Lib.hid hy.len
  clear hx0 hy0 hx hy
  have hmk := mk_ints la (by omega)
  go_enter Tryd.func69, Tryd.ntmps69
  go_wp2
  clear hmk
  go_loopw [7, 8] (fun v i wr => ∃ (k r : Nat) (qs : List Int) (V : Option Addr) (cv : Nat), k ≤ la ∧ i = .int .i64 ((k : Int) - 1) ∧ v = .slice V (D r).length cv ∧ r < n ∧ qs.length = la ∧ Limbs qs ∧ (∀ j, j < k → qs.getD j 0 = 0) ∧ (n : Int) * val qs + 10000 ^ k * r + val ((D m).take k) = m ∧ Arr wr w.heap.size 3 qs ∧ Rd wr (w.heap.size < ·) V (D r).length cv (D r) ∧ Below w.heap.size w wr) (fun _ i _ => (intOf i + 1).toNat)
  case atStart =>
    refine ⟨la, 0, zeros la, _, _, Nat.le_refl _, rfl, rfl, hn, zeros_len _, zeros_limbs _, fun j _ => zeros_getD _ j, ?_, heap_alloc2_old _ _ _, Rd.nil_ _ _ _ _ (fun h => by cases h), ((Below.refl _ _).alloc (Nat.le_refl _) _).alloc (by simp) _⟩
    rw [zeros_val, take_all_val _ _ (by have := HLA.out; omega), val_D]; simp
  case round =>
    obtain ⟨k, r, qs, V, cv, hk, rfl, rfl, hrn, hql, hqm, hqz, hM, harr, hrd, hb⟩ := hrel
    have HQL := Lib.hid hql
    have HQM := Lib.hid hqm
    have HQZ := Lib.hid hqz
    have HM := Lib.hid hM
    have HA := Lib.hid harr
    have HR := Lib.hid hrd
    have HB := Lib.hid hb
    clear hql hqm hqz hM harr hrd hb
    have hrl : (D r).length ≤ lb := by
      have h1 := D_bound n
      have h2 := HLB.out
      rw [D_len_le]
      have e := npow_cast lb
      rw [h2] at h1
      omega
    by_cases hk0 : 0 < k
    · obtain ⟨p, rfl⟩ : ∃ p, k = p + 1 := ⟨k - 1, by omega⟩
      rw [show ((p + 1 : Nat) : Int) - 1 = (p : Int) from by omega]
      obtain ⟨b1, o1, rfl, hP1, hl1, hcc1⟩ := HX.out.at_ (by omega)
      have hcx : wr.cell? ⟨b1, o1 + p, none⟩ = some (.int .i64 ((D m).getD p 0)) := (HB.out.cell (p := ⟨b1, o1 + p, none⟩) hP1).trans (hcc1 p (by omega))
      have hbx := limbs_getD (limbs_D m) p
      obtain ⟨x, hxe⟩ : ∃ x : Nat, (D m).getD p 0 = x := ⟨((D m).getD p 0).toNat, by omega⟩
      rw [hxe] at hcx hbx
      have HM' := Lib.hid (sdiv_start m p r x n (val qs) (by have := HLA.out; omega) hxe HM.out)
      have hx9 : x < 10000 := by omega
      clear hxe hcc1 HM hbx
      have hpi : (p : Int) < la := by omega
      have hsw := HB.out.size
      have hgl := HA.out.lt
      go_wp2_with (at_builtin; refine wpList_append_ints _ rfl _ _ 23 rfl (wr.heap.size) 3 Tryd.underlying23 infoInt (some ⟨wr.heap.size, 0, none⟩) 1 1 [(x : Int)] rfl (World.ownsRow_lit _ #[.int .i64 (x : Int)] 1 (Nat.le_refl _) (by decide) rfl) _ V (D r).length cv (D r) rfl (((HR.out.mono (Q := (· < wr.heap.size)) fun _ _ h => h).below ((Below.refl _ _).alloc (Nat.le_refl _) _))) (by omega) (by simp) ?_; intro V1 c1 w1 hown1 hg1; have HO1 := Lib.hid hown1; have HB1 : Hid (Below wr.heap.size wr w1) := ((Below.refl _ _).alloc (Nat.le_refl _) _).grown hg1 (by simp) (fun j h => by simp [Value.ownBlock] at h; omega); clear hown1 hg1)
      have hs1 := HB1.out.size
      have HNX : Hid (natOf ((x : Int) :: D r) = x + 10000 * r) := by show _ = _; rw [natOf_cons (by omega)]; omega
      have HLX : Hid (Limbs ((x : Int) :: D r)) := limbs_cons.2 ⟨by omega, limbs_D r⟩
      refine (l01Trim_any V1 (1 + (D r).length) c1 ((x : Int) :: D r) _ w1 (own_rd' HO1.out) HLX.out (by omega)).mono ?_
      rintro e w2 ⟨V2, c2, rfl, ho2, hb2⟩
      rw [HNX.out] at ho2 ⊢
      have hs2 := hb2.size
      have HR2 := Lib.hid ((own_rd' ho2).mono (Q := (w.heap.size < ·)) fun b h _ => by omega)
      have HB2 := Lib.hid (HB1.out.trans (hb2.mono hs1))
      have HA2 := Lib.hid (HA.out.keep (HB2.out.block _ hgl))
      have HW2 := Lib.hid (HB.out.trans (HB2.out.mono hsw))
      clear ho2 hb2 HO1 HB1 HB2 HA HR HNX HLX
      obtain ⟨r', hr'⟩ : ∃ r', r' = x + 10000 * r := ⟨_, rfl⟩
      rw [← hr'] at HR2 HM' ⊢
      have hr1 : r' < 10000 * n := by omega
      have hr2 : (D r').length ≤ lb + 1 := by
        have h1 := D_bound n
        have h2 := HLB.out
        rw [D_len_le]
        have e := npow_cast (lb + 1)
        rw [h2] at h1
        rw [pow_succ'] at e
        omega
      clear hr'
      go_wp2_with fail
      refine (l01Cmp_any V2 B (D r').length c2 lb cb r' n _ _ w2 HR2.out (HY.out.below HW2.out) (by omega) (by omega)).mono ?_
      rintro e w3 ⟨rfl, hd3⟩
      have HR3 := Lib.hid (hd3.rd HR2.out)
      have HA3 := Lib.hid (hd3.arr HA2.out)
      have HW3 := Lib.hid (HW2.out.trans (hd3.below _))
      have hs3 : w2.heap.size ≤ w3.heap.size := (hd3.below 0).size
      clear hd3 HR2 HA2 HW2
      by_cases hlt : r' < n
      · rw [cmpI_lt hlt]
        go_wp2
        go_roundw
        case rel => exact ⟨p, r', qs, V2, c2, by omega, rfl, rfl, hlt, HQL.out, HQM.out, fun j hj => HQZ.out j (by omega), HM'.out, HA3.out, HR3.out, HW3.out⟩
        case measure => simp [intOf]
      · obtain ⟨hc0, hc1⟩ := cmpI_ge hlt
        generalize cmpI r' n = cc at *
        go_wp2
        go_loopw [9, 10] (fun a b wr => ∃ (lo hi : Nat), lo < hi ∧ hi ≤ 10000 ∧ a = .int .i64 lo ∧ b = .int .i64 hi ∧ n * lo ≤ r' ∧ r' < n * hi ∧ Arr wr w.heap.size 3 qs ∧ Rd wr (w.heap.size < ·) V2 (D r').length c2 (D r') ∧ Below w.heap.size w wr) (fun a b _ => (intOf b - intOf a).toNat)
        case atStart => exact ⟨0, 10000, by omega, by omega, rfl, rfl, by omega, by omega, HA3.out, HR3.out, HW3.out⟩
        case round =>
          obtain ⟨lo, hi, hlh, hhi, rfl, rfl, hlo, hhi2, ha, hrd, hb⟩ := hrel
          have HA4 := Lib.hid ha
          have HR4 := Lib.hid hrd
          have HW4 := Lib.hid hb
          have HLO := Lib.hid hlo
          have HHI := Lib.hid hhi2
          clear ha hrd hb HA3 HR3 HW3 hlo hhi2
          have hgl4 := HA4.out.lt
          by_cases hgt : lo + 1 < hi
          · have hg1 : (1 : Int) < (hi : Int) - lo := by omega
            obtain ⟨mid, hmid⟩ : ∃ mid : Nat, mid = (lo + hi) / 2 := ⟨_, rfl⟩
            have hm1 : lo < mid := by omega
            have hm2 : mid < hi := by omega
            have HMID : Hid (((lo : Int) + hi) / 2 = mid) := by show _ = _; omega
            clear hmid
            go_wp2_with fail
            rw [HMID.out]
            refine (l01Small_any mid wr (by omega)).mono ?_
            rintro e w5 ⟨V5, c5, rfl, ho5, hb5⟩
            have hl5 := small_len (n := mid) (by omega)
            have hs5 := hb5.size
            have HO5 := Lib.hid ho5
            have HB5 := Lib.hid hb5
            have HW5 := Lib.hid (HW4.out.trans (hb5.mono HW4.out.size))
            clear ho5 hb5
            go_wp2_with fail
            refine (l01Mul_any B V5 lb cb (D mid).length c5 n mid _ _ w5 (HY.out.below HW5.out) (own_rd' HO5.out) (by omega) (by omega)).mono ?_
            rintro e w6 ⟨V6, c6, rfl, ho6, hb6⟩
            have hs6 := hb6.size
            have HB6 := Lib.hid (HB5.out.trans (hb6.mono hs5))
            have HA6 := Lib.hid (HA4.out.keep (HB6.out.block _ hgl4))
            have HR6 := Lib.hid (HR4.out.keep HB6.out.size fun b _ hb => HB6.out.block b hb)
            have HW6 := Lib.hid (HW4.out.trans (HB6.out.mono HW4.out.size))
            have HO6 := Lib.hid ho6
            have hl6 : (D (n * mid)).length ≤ lb + 5 := by
              have h1 := (D_len_le n lb).1 (by have := HLB.out; omega)
              have h2 := (D_len_le mid 5).1 hl5
              rw [D_len_le, Nat.pow_add]
              exact Nat.mul_lt_mul'' h1 h2
            clear ho6 hb6 HB6 HB5 HW5 HO5 HA4 HR4 HW4
            go_wp2_with fail
            refine (l01Cmp_any V6 V2 _ c6 (D r').length c2 (n * mid) r' _ _ w6 (own_rd' HO6.out) HR6.out (by omega) (by omega)).mono ?_
            rintro e w7 ⟨rfl, hd7⟩
            have HA7 := Lib.hid (hd7.arr HA6.out)
            have HR7 := Lib.hid (hd7.rd HR6.out)
            have HW7 := Lib.hid (HW6.out.trans (hd7.below _))
            clear hd7 HA6 HR6 HW6 HO6
            by_cases hle : n * mid ≤ r'
            · obtain ⟨hcz2, hcz⟩ := cmpI_le hle
              generalize cmpI (n * mid) r' = cz at *
              have HLE := Lib.hid hle
              clear hle
              go_wp2
              go_roundw
              case rel => exact ⟨mid, hi, by omega, hhi, rfl, rfl, HLE.out, HHI.out, HA7.out, HR7.out, HW7.out⟩
              case measure => simp [intOf]; omega
            · rw [cmpI_gt (show r' < n * mid by omega)]
              have HLE : Hid (r' < n * mid) := by show _ < _; omega
              clear hle
              go_wp2
              go_roundw
              case rel => exact ⟨lo, mid, by omega, by omega, rfl, rfl, HLO.out, HLE.out, HA7.out, HR7.out, HW7.out⟩
              case measure => simp [intOf]; omega
          · obtain rfl : hi = lo + 1 := by omega
            have hg1 : ((lo + 1 : Nat) : Int) - lo ≤ 1 := by omega
            have hfz := HA4.out.frozen p
            have hcc := HA4.out.cell p (by have := HQL.out; omega)
            have hst := HA4.out.set_ p (lo : Int)
            have HST := Lib.hid hst
            have hgs : wr.grownBy (wr.setCell ⟨w.heap.size, p, none⟩ (.int .i64 (lo : Int))) (some w.heap.size) := grown_set (World.grownBy.refl _ _) _
            have HRS := Lib.hid (HR4.out.keep hgs.size fun b hb hbl => hgs.block b hbl (fun e => by injection e with e; omega))
            have HWS := Lib.hid (HW4.out.setCell (p := ⟨w.heap.size, p, none⟩) (Nat.le_refl _) (.int .i64 (lo : Int)))
            have hss : (wr.setCell ⟨w.heap.size, p, none⟩ (.int .i64 (lo : Int))).heap.size = wr.heap.size := by simp [World.setCell]
            clear hst hgs HA4 HR4 HW4
            generalize qs.getD p 0 = old at hcc
            go_wp2_with fail
            generalize wr.setCell ⟨w.heap.size, p, none⟩ (.int .i64 (lo : Int)) = ws at *
            refine (l01Small_any lo ws (by omega)).mono ?_
            rintro e w5 ⟨V5, c5, rfl, ho5, hb5⟩
            have hl5 := small_len (n := lo) (by omega)
            have hs5 := hb5.size
            have HO5 := Lib.hid ho5
            have HB5 := Lib.hid hb5
            have HW5 := Lib.hid (HWS.out.trans (hb5.mono HWS.out.size))
            clear ho5 hb5
            go_wp2_with fail
            refine (l01Mul_any B V5 lb cb (D lo).length c5 n lo _ _ w5 (HY.out.below HW5.out) (own_rd' HO5.out) (by omega) (by omega)).mono ?_
            rintro e w6 ⟨V6, c6, rfl, ho6, hb6⟩
            have hs6 := hb6.size
            have HB6 := Lib.hid (HB5.out.trans (hb6.mono hs5))
            have HR6 := Lib.hid (HRS.out.keep HB6.out.size fun b _ hb => HB6.out.block b hb)
            have HO6 := Lib.hid ho6
            have hl6 : (D (n * lo)).length ≤ lb + 5 := by
              have h1 := (D_len_le n lb).1 (by have := HLB.out; omega)
              have h2 := (D_len_le lo 5).1 hl5
              rw [D_len_le, Nat.pow_add]
              exact Nat.mul_lt_mul'' h1 h2
            clear ho6 hb6 HB5 HW5 HO5
            go_wp2_with fail
            refine (l01Sub_any V2 V6 (D r').length c2 _ c6 r' (n * lo) _ _ w6 HR6.out (own_rd' HO6.out) (by omega) (by omega) HLO.out).mono ?_
            rintro e w7 ⟨V7, c7, rfl, ho7, hb7⟩
            have hs7 := hb7.size
            have HB7 := Lib.hid (HB6.out.trans (hb7.mono HB6.out.size))
            have hs67 := HB6.out.size
            have hws := HWS.out.size
            have HR7 := Lib.hid ((own_rd' ho7).mono (Q := (w.heap.size < ·)) fun b h _ => by omega)
            have HA7 := Lib.hid (HST.out.keep (HB7.out.block _ HST.out.lt))
            have HW7 := Lib.hid (HWS.out.trans (HB7.out.mono hws))
            clear ho7 hb7 HB6 HB7 HR6 HO6 HST HRS HWS
            go_wp2
            go_roundw
            case rel =>
              refine ⟨p, r' - n * lo, qs.set p (lo : Int), V7, c7, by omega, rfl, rfl, ?_, by rw [List.length_set]; exact HQL.out, limbs_set HQM.out p _ (by omega) (by omega), ?_, ?_, HA7.out, HR7.out, HW7.out⟩
              · have := HHI.out; rw [Nat.mul_add, Nat.mul_one] at this; omega
              · intro j hj
                have hz := HQZ.out j (by omega)
                simp only [List.getD, List.getElem?_set, if_neg (show ¬ p = j from by omega)] at hz ⊢
                exact hz
              · exact sdiv_next (HQZ.out p (by omega)) (by have := HQL.out; omega) HLO.out HM'.out
            case measure => simp [intOf]
    · obtain rfl : k = 0 := by omega
      have hM := HM.out
      simp only [Int.pow_zero, Int.one_mul, List.take_zero, val, Int.add_zero] at hM
      obtain ⟨e1, e2⟩ := div_done (r := (r : Int)) (q := val qs) (M := (m : Int)) (n := n) (by omega) (by omega) (by omega)
      have HNQ := Lib.hid (natOf_div HQM.out e1)
      have hrm : r = m % n := by
        rw [← Int.natCast_emod] at e2
        omega
      subst hrm
      clear hM e1 e2
      go_wp2_with fail
      refine (l01Trim_any _ la la qs (fun _ => True) wr (HA.out.rd_all _ trivial la la HQL.out.symm (Nat.le_refl _)) HQM.out (by omega)).mono ?_
      rintro e w1 ⟨A1, c1, rfl, ho1, hb1⟩
      rw [HNQ.out] at ho1 ⊢
      have hsz := HB.out.size
      have HO1 := Lib.hid (own_mono ho1 hsz)
      have HR1 := Lib.hid ((HR.out.keep hb1.size fun b _ hb => hb1.block b hb).mono (Q := (w.heap.size ≤ ·)) fun b h _ => by omega)
      have HB1 := Lib.hid (HB.out.trans (hb1.mono hsz))
      clear ho1 hb1
      go_wp2
      go_ret2
      exact ⟨A1, c1, V, cv, rfl, HO1.out, HR1.out, HB1.out⟩

theorem divQ_len (xs ys : List Int) : (resL (codeL [xs, ys]) (divQ (natOf xs) (natOf ys))).length ≤ 40 ∧ (resL (codeL [xs, ys]) (divR (natOf xs) (natOf ys))).length ≤ 40 := by
  by_cases h : codeL [xs, ys] = 0
  · obtain ⟨m, n, hm, hn, rfl, rfl⟩ := codeL2_ok h
    rw [h, natOf_D, natOf_D]
    by_cases h0 : n = 0
    · subst h0; exact ⟨Nat.zero_le _, Nat.zero_le _⟩
    · obtain ⟨e1, e2, _⟩ := div_pos m (show 0 < n by omega)
      show (divQ m n).length ≤ 40 ∧ (divR m n).length ≤ 40
      rw [e1, e2]
      have h1 := Nat.div_le_self m n
      have h2 := Nat.mod_le m n
      exact ⟨(D_len_le _ 40).2 (by unfold Top at hm; omega), (D_len_le _ 40).2 (by unfold Top at hm; omega)⟩
  · rw [(res_bad h _ 0).1, (res_bad h _ 0).1]; simp
end Go.Proofs.YtgeijojkfojfbaaDoor
