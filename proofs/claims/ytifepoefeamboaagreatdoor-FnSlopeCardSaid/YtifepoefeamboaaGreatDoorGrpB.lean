/-
  Add AddNat SpecAdd Take Div DivNat Mul Limbs Common SubNat SpecSub SpecMul SpecDiv Gcd in one text.
-/
import Derived.Test.YtifepoefeamboaaGreatDoorGrpA
import Derived.Deep.RegionWith
import Derived.Deep.DeepCutAuto
namespace Nt
open Go Go.RowKit
/-- block g, of N numbers, now begins with xs; nothing else that was there has turned -/
def Put (t : TypeId) (w : World) (g N : Nat) (xs : List Int) (w' : World) : Prop :=
  ∃ full : List Int, full.length = N ∧ Arr w' g t full ∧ full.take xs.length = xs ∧ xs.length ≤ N ∧ w.grownBy w' (some g)
end Nt
namespace Go.Proofs.YtifepoefeamboaaGreatDoor
open Go Go.RowKit Nt

set_option maxHeartbeats 1600000 in
theorem addInto_any (g N : Nat) (t : TypeId) (full : List Int) (A B : Option Addr) (la ca lb cb m n : Nat) (w : World)
    (hf : Arr w g t full) (hfl : full.length = N) (hx : Rd w (· ≠ g) A la ca (D m)) (hy : Rd w (· ≠ g) B lb cb (D n)) (hNa : la < N) (hNb : lb < N) (hN : N ≤ 10000) :
    Calls Tryz.prog 166 #[.slice (some ⟨g, 0, none⟩) N N, .slice A la ca, .slice B lb cb] w fun e w' => e = .returned (.slice (some ⟨g, 0, none⟩) (D (m + n)).length N) ∧ Put t w g N (D (m + n)) w' := by
  have HX := Lib.hid hx
  have HY := Lib.hid hy
  have HFA := Lib.hid hf
  have HFL := Lib.hid hfl
  clear hx hy hf hfl
  by_cases hsw : la < lb
  · have hsw' : (la : Int) < (lb : Int) := by omega
    have HM := Lib.hid (HY.out.len)
    have hxc := HY.out.cap
    have hlen := HFL.out
    go_enter Tryz.func166, Tryz.ntmps166
    go_wp2
    go_loopw [7, 20] (fun q i wr => ∃ (k : Nat) (c : Int) (out : List Int), k ≤ lb ∧ i = .int .i64 k ∧ q = .int .i64 c ∧ 0 ≤ c ∧ c ≤ 1 ∧ out.length = k ∧ Limbs out ∧ val out + 10000 ^ k * (c + vd (D n) k + vd (D m) k) = (m + n : Nat) ∧ Arr wr g t (out ++ full.drop k) ∧ w.grownBy wr (some g)) (fun _ i _ => lb - (intOf i).toNat)
    case atStart => exact ⟨0, 0, [], Nat.zero_le _, rfl, rfl, by omega, by omega, rfl, limbs_nil, by simp [vd_zero, val_D, val] <;> omega, by simpa using HFA.out, World.grownBy.refl _ _⟩
    case round =>
      obtain ⟨k, c, out, hk, rfl, rfl, hc0, hc1, hol, hlim, hval, harr, hgr⟩ := hrel
      have HOL := Lib.hid hol
      have HLM := Lib.hid hlim
      have HV := Lib.hid hval
      have HA := Lib.hid harr
      have HG := Lib.hid hgr
      clear hol hlim hval harr hgr
      by_cases hlt : k < lb
      · obtain ⟨b1, o1, eA, hP1, hb1, hcc1⟩ := HY.out.at_ (by omega)
        subst eA
        have hcx : wr.cell? ⟨b1, o1 + k, none⟩ = some (.int .i64 ((D n).getD k 0)) := (World.cell?_of_block (a := ⟨b1, o1 + k, none⟩) (HG.out.block b1 hb1 (fun e => hP1 (by injection e)))).trans (hcc1 k hlt)
        have hbd := limbs_getD (limbs_D n) k
        have hbd2 := limbs_getD (limbs_D m) k
        have hfz := HA.out.frozen k
        have hold := HA.out.cell k (by simp [HOL.out]; omega)
        have hst := HA.out.set_ k (((D n).getD k 0 + c + (D m).getD k 0) % 10000)
        have hlist : (out ++ full.drop k).set k (((D n).getD k 0 + c + (D m).getD k 0) % 10000) = (out ++ [((D n).getD k 0 + c + (D m).getD k 0) % 10000]) ++ full.drop (k + 1) := by
          rw [List.set_append_right _ _ (by have := HOL.out; omega), HOL.out, Nat.sub_self, drop_cons full k (by omega), List.set_cons_zero]
          simp
        rw [hlist] at hst
        have HST := Lib.hid hst
        have HSTEP := Lib.hid (add_step (D n) (D m) out k c HOL.out)
        have HLM' := Lib.hid (limbs_append.2 ⟨HLM.out, limbs_cons.2 ⟨(show 0 ≤ ((D n).getD k 0 + c + (D m).getD k 0) % 10000 ∧ ((D n).getD k 0 + c + (D m).getD k 0) % 10000 < 10000 from by omega), limbs_nil⟩⟩)
        have HYK := Lib.hid (HX.out.len)
        by_cases hlt2 : k < la
        · obtain ⟨b2, o2, eB, hP2, hb2, hcc2⟩ := HX.out.at_ (by omega)
          subst eB
          have hcy : wr.cell? ⟨b2, o2 + k, none⟩ = some (.int .i64 ((D m).getD k 0)) := (World.cell?_of_block (a := ⟨b2, o2 + k, none⟩) (HG.out.block b2 hb2 (fun e => hP2 (by injection e)))).trans (hcc2 k hlt2)
          clear hcc1 hcc2 hst hlist HFA HA HLM
          generalize (out ++ full.drop k).getD k 0 = old at *
          generalize (D n).getD k 0 = x at *
          generalize (D m).getD k 0 = y at *
          have hs0 : 0 ≤ x + c + y := by omega
          go_wp2
          go_roundw
          case rel => exact ⟨k + 1, (x + c + y) / 10000, out ++ [(x + c + y) % 10000], by omega, by go_num, by go_num, by omega, by omega, by simp [HOL.out], HLM'.out, HSTEP.out.trans HV.out, HST.out, grown_set HG.out _⟩
          case measure => simp [intOf]; omega
        · have hy0 : (D m).getD k 0 = 0 := by simp [List.getD, HYK.out, show la ≤ k from by omega]
          clear hcc1 hst hlist HFA HA HLM
          rw [hy0] at HST HSTEP HLM' hbd2
          simp only [Int.add_zero] at HST HSTEP HLM'
          clear hy0 hbd2
          generalize (out ++ full.drop k).getD k 0 = old at *
          generalize (D n).getD k 0 = x at *
          have hs0 : 0 ≤ x + c := by omega
          go_wp2
          go_roundw
          case rel => exact ⟨k + 1, (x + c) / 10000, out ++ [(x + c) % 10000], by omega, by go_num, by go_num, by omega, by omega, by simp [HOL.out], HLM'.out, HSTEP.out.trans HV.out, HST.out, grown_set HG.out _⟩
          case measure => simp [intOf]; omega
      · obtain rfl : k = lb := by omega
        have hfz := HA.out.frozen k
        have hold := HA.out.cell k (by simp [HOL.out]; omega)
        have hst := HA.out.set_ k c
        have hlist : (out ++ full.drop k).set k c = (out ++ [c]) ++ full.drop (k + 1) := by
          rw [List.set_append_right _ _ (by have := HOL.out; omega), HOL.out, Nat.sub_self, drop_cons full k (by omega), List.set_cons_zero]
          simp
        rw [hlist] at hst
        have hvv : val (out ++ [c]) = (m + n : Nat) := by
          rw [val_snoc, HOL.out]
          have := HV.out
          rw [vd_end _ k (by have := HM.out; omega), vd_end _ k (by have := HX.out.len; omega)] at this
          simpa using this
        have hll : Limbs (out ++ [c]) := limbs_append.2 ⟨HLM.out, limbs_cons.2 ⟨by omega, limbs_nil⟩⟩
        have hnat : natOf (out ++ [c]) = m + n := by have := natOf_val hll; omega
        have hrd := (hst.rd (fun _ => True) trivial 0 (k + 1) N (by simp [HOL.out] <;> omega) (by omega))
        have htk : ((out ++ [c] ++ full.drop (k + 1)).drop 0).take (k + 1) = out ++ [c] := by
          rw [List.drop_zero, List.take_append_of_le_length (by simp [HOL.out])]
          exact List.take_of_length_le (by simp [HOL.out])
        rw [htk] at hrd
        have HR := Lib.hid hrd
        have HLL := Lib.hid hll
        have HNT := Lib.hid hnat
        have HST := Lib.hid hst
        clear hlist hvv hll hnat hrd htk hst HFA HA HLM
        generalize (out ++ full.drop k).getD k 0 = old at *
        go_wp2_with fail
        refine (trimmed_any _ (k + 1) N (out ++ [c]) (fun _ => True) _ HR.out HLL.out (by omega)).mono ?_
        rintro e w2 ⟨rfl, rfl⟩
        go_wp2
        go_ret
        have hle := trim_len_le HLL.out
        have htt := take_trim HLL.out
        rw [HNT.out] at hle htt ⊢
        refine ⟨rfl, _, ?_, HST.out, ?_, ?_, grown_set HG.out _⟩
        · simp [HOL.out]; omega
        · rw [List.take_append_of_le_length hle]; exact htt
        · have : (out ++ [c]).length = k + 1 := by simp [HOL.out]
          omega
  · have hsw' : (lb : Int) ≤ (la : Int) := by omega
    have HM := Lib.hid (HX.out.len)
    have hxc := HX.out.cap
    have hlen := HFL.out
    go_enter Tryz.func166, Tryz.ntmps166
    go_wp2
    go_loopw [7, 20] (fun q i wr => ∃ (k : Nat) (c : Int) (out : List Int), k ≤ la ∧ i = .int .i64 k ∧ q = .int .i64 c ∧ 0 ≤ c ∧ c ≤ 1 ∧ out.length = k ∧ Limbs out ∧ val out + 10000 ^ k * (c + vd (D m) k + vd (D n) k) = (m + n : Nat) ∧ Arr wr g t (out ++ full.drop k) ∧ w.grownBy wr (some g)) (fun _ i _ => la - (intOf i).toNat)
    case atStart => exact ⟨0, 0, [], Nat.zero_le _, rfl, rfl, by omega, by omega, rfl, limbs_nil, by simp [vd_zero, val_D, val] <;> omega, by simpa using HFA.out, World.grownBy.refl _ _⟩
    case round =>
      obtain ⟨k, c, out, hk, rfl, rfl, hc0, hc1, hol, hlim, hval, harr, hgr⟩ := hrel
      have HOL := Lib.hid hol
      have HLM := Lib.hid hlim
      have HV := Lib.hid hval
      have HA := Lib.hid harr
      have HG := Lib.hid hgr
      clear hol hlim hval harr hgr
      by_cases hlt : k < la
      · obtain ⟨b1, o1, eA, hP1, hb1, hcc1⟩ := HX.out.at_ (by omega)
        subst eA
        have hcx : wr.cell? ⟨b1, o1 + k, none⟩ = some (.int .i64 ((D m).getD k 0)) := (World.cell?_of_block (a := ⟨b1, o1 + k, none⟩) (HG.out.block b1 hb1 (fun e => hP1 (by injection e)))).trans (hcc1 k hlt)
        have hbd := limbs_getD (limbs_D m) k
        have hbd2 := limbs_getD (limbs_D n) k
        have hfz := HA.out.frozen k
        have hold := HA.out.cell k (by simp [HOL.out]; omega)
        have hst := HA.out.set_ k (((D m).getD k 0 + c + (D n).getD k 0) % 10000)
        have hlist : (out ++ full.drop k).set k (((D m).getD k 0 + c + (D n).getD k 0) % 10000) = (out ++ [((D m).getD k 0 + c + (D n).getD k 0) % 10000]) ++ full.drop (k + 1) := by
          rw [List.set_append_right _ _ (by have := HOL.out; omega), HOL.out, Nat.sub_self, drop_cons full k (by omega), List.set_cons_zero]
          simp
        rw [hlist] at hst
        have HST := Lib.hid hst
        have HSTEP := Lib.hid (add_step (D m) (D n) out k c HOL.out)
        have HLM' := Lib.hid (limbs_append.2 ⟨HLM.out, limbs_cons.2 ⟨(show 0 ≤ ((D m).getD k 0 + c + (D n).getD k 0) % 10000 ∧ ((D m).getD k 0 + c + (D n).getD k 0) % 10000 < 10000 from by omega), limbs_nil⟩⟩)
        have HYK := Lib.hid (HY.out.len)
        by_cases hlt2 : k < lb
        · obtain ⟨b2, o2, eB, hP2, hb2, hcc2⟩ := HY.out.at_ (by omega)
          subst eB
          have hcy : wr.cell? ⟨b2, o2 + k, none⟩ = some (.int .i64 ((D n).getD k 0)) := (World.cell?_of_block (a := ⟨b2, o2 + k, none⟩) (HG.out.block b2 hb2 (fun e => hP2 (by injection e)))).trans (hcc2 k hlt2)
          clear hcc1 hcc2 hst hlist HFA HA HLM
          generalize (out ++ full.drop k).getD k 0 = old at *
          generalize (D m).getD k 0 = x at *
          generalize (D n).getD k 0 = y at *
          have hs0 : 0 ≤ x + c + y := by omega
          go_wp2
          go_roundw
          case rel => exact ⟨k + 1, (x + c + y) / 10000, out ++ [(x + c + y) % 10000], by omega, by go_num, by go_num, by omega, by omega, by simp [HOL.out], HLM'.out, HSTEP.out.trans HV.out, HST.out, grown_set HG.out _⟩
          case measure => simp [intOf]; omega
        · have hy0 : (D n).getD k 0 = 0 := by simp [List.getD, HYK.out, show lb ≤ k from by omega]
          clear hcc1 hst hlist HFA HA HLM
          rw [hy0] at HST HSTEP HLM' hbd2
          simp only [Int.add_zero] at HST HSTEP HLM'
          clear hy0 hbd2
          generalize (out ++ full.drop k).getD k 0 = old at *
          generalize (D m).getD k 0 = x at *
          have hs0 : 0 ≤ x + c := by omega
          go_wp2
          go_roundw
          case rel => exact ⟨k + 1, (x + c) / 10000, out ++ [(x + c) % 10000], by omega, by go_num, by go_num, by omega, by omega, by simp [HOL.out], HLM'.out, HSTEP.out.trans HV.out, HST.out, grown_set HG.out _⟩
          case measure => simp [intOf]; omega
      · obtain rfl : k = la := by omega
        have hfz := HA.out.frozen k
        have hold := HA.out.cell k (by simp [HOL.out]; omega)
        have hst := HA.out.set_ k c
        have hlist : (out ++ full.drop k).set k c = (out ++ [c]) ++ full.drop (k + 1) := by
          rw [List.set_append_right _ _ (by have := HOL.out; omega), HOL.out, Nat.sub_self, drop_cons full k (by omega), List.set_cons_zero]
          simp
        rw [hlist] at hst
        have hvv : val (out ++ [c]) = (m + n : Nat) := by
          rw [val_snoc, HOL.out]
          have := HV.out
          rw [vd_end _ k (by have := HM.out; omega), vd_end _ k (by have := HY.out.len; omega)] at this
          simpa using this
        have hll : Limbs (out ++ [c]) := limbs_append.2 ⟨HLM.out, limbs_cons.2 ⟨by omega, limbs_nil⟩⟩
        have hnat : natOf (out ++ [c]) = m + n := by have := natOf_val hll; omega
        have hrd := (hst.rd (fun _ => True) trivial 0 (k + 1) N (by simp [HOL.out] <;> omega) (by omega))
        have htk : ((out ++ [c] ++ full.drop (k + 1)).drop 0).take (k + 1) = out ++ [c] := by
          rw [List.drop_zero, List.take_append_of_le_length (by simp [HOL.out])]
          exact List.take_of_length_le (by simp [HOL.out])
        rw [htk] at hrd
        have HR := Lib.hid hrd
        have HLL := Lib.hid hll
        have HNT := Lib.hid hnat
        have HST := Lib.hid hst
        clear hlist hvv hll hnat hrd htk hst HFA HA HLM
        generalize (out ++ full.drop k).getD k 0 = old at *
        go_wp2_with fail
        refine (trimmed_any _ (k + 1) N (out ++ [c]) (fun _ => True) _ HR.out HLL.out (by omega)).mono ?_
        rintro e w2 ⟨rfl, rfl⟩
        go_wp2
        go_ret
        have hle := trim_len_le HLL.out
        have htt := take_trim HLL.out
        rw [HNT.out] at hle htt ⊢
        refine ⟨rfl, _, ?_, HST.out, ?_, ?_, grown_set HG.out _⟩
        · simp [HOL.out]; omega
        · rw [List.take_append_of_le_length hle]; exact htt
        · have : (out ++ [c]).length = k + 1 := by simp [HOL.out]
          omega
end Go.Proofs.YtifepoefeamboaaGreatDoor
namespace Nt
open Go Go.RowKit
end Nt
namespace Go.Proofs.YtifepoefeamboaaGreatDoor
open Go Go.RowKit Nt

end Go.Proofs.YtifepoefeamboaaGreatDoor
namespace Go.Proofs.YtifepoefeamboaaGreatDoor
open Go Go.RowKit Nt

theorem below_app {w wr w1 : World} {o : Obj} {V : Option Addr} {n c : Nat} {e : TypeId} {xs : List Value} (h : Below w.heap.size w wr) (ho : wr.ownsRow w.heap.size e 1 (.slice V n c) n xs)
    (hg : (wr.alloc o).grownBy w1 (Value.slice V n c).ownBlock) : Below w.heap.size w w1 :=
  (h.alloc h.size o).grown hg (by have := h.size; simp; omega) (fun k hk => (ho.lt k hk).1)

set_option maxHeartbeats 1600000 in
theorem l01Add_any (A B : Option Addr) (la ca lb cb m n : Nat) (P Q : Nat → Prop) (w : World) (hx0 : Rd w P A la ca (D m)) (hy0 : Rd w Q B lb cb (D n)) (hla : la ≤ 10000) (hlb : lb ≤ 10000) :
    Calls Tryz.prog 146 #[.slice A la ca, .slice B lb cb] w (RetNew 3 w (D (m + n))) := by
  have hx : Rd w (· < w.heap.size) A la ca (D m) := hx0.mono fun _ _ h => h
  have hy : Rd w (· < w.heap.size) B lb cb (D n) := hy0.mono fun _ _ h => h
  have HX := Lib.hid hx
  have HY := Lib.hid hy
  have HLA := Lib.hid hx.len
  have HLB := Lib.hid hy.len
  clear hx0 hy0 hx hy
  go_enter Tryz.func146, Tryz.ntmps146
  go_wp2
  go_loopw [5, 6, 7] (fun v q i wr => ∃ (k c : Nat) (out : List Int) (V : Option Addr) (cv : Nat), k ≤ 10001 ∧ (k ≤ la ∨ k ≤ lb ∨ c = 0) ∧ i = .int .i64 k ∧ q = .int .i64 c ∧ v = .slice V k cv ∧ c ≤ 1 ∧ out.length = k ∧ D (m + n) = out ++ D (c + dv m k + dv n k) ∧ wr.ownsRow w.heap.size 3 1 (.slice V k cv) k (out.map (Value.int .i64)) ∧ Below w.heap.size w wr) (fun _ q i _ => 10002 - (intOf i).toNat)
  case atStart => exact ⟨0, 0, [], _, _, by omega, by omega, rfl, rfl, rfl, by omega, rfl, by simp [dv_zero], World.ownsRow_lit _ #[] 0 (Nat.le_refl _) (by decide) rfl, (Below.refl _ _).alloc (Nat.le_refl _) _⟩
  case round =>
    obtain ⟨k, c, out, V, cv, hk, hkk, rfl, rfl, rfl, hc1, hol, hd, hown, hb⟩ := hrel
    have HOL := Lib.hid hol
    have HD := Lib.hid hd
    have HO := Lib.hid hown
    have HB := Lib.hid hb
    clear hol hd hown hb
    have hc0 : (0 : Int) ≤ c := by omega
    have hc2 : (c : Int) ≤ 1 := by omega
    by_cases h1 : k < la
    · have d1 : decide ((k : Int) < la) = true := by simp; omega
      obtain ⟨b1, o1, rfl, hP1, hl1, hcc1⟩ := HX.out.at_ (by omega)
      have hcx : wr.cell? ⟨b1, o1 + k, none⟩ = some (.int .i64 ((D m).getD k 0)) := (HB.out.cell (p := ⟨b1, o1 + k, none⟩) hP1).trans (hcc1 k h1)
      clear hcc1
      by_cases h2 : k < lb
      · obtain ⟨b2, o2, rfl, hP2, hl2, hcc2⟩ := HY.out.at_ (by omega)
        have hcy : wr.cell? ⟨b2, o2 + k, none⟩ = some (.int .i64 ((D n).getD k 0)) := (HB.out.cell (p := ⟨b2, o2 + k, none⟩) hP2).trans (hcc2 k h2)
        clear hcc2
        have hsum := Lib.hid (add_round m n k c (by have h1 := (dv_pos m k); have h2 := (dv_pos n k); rw [HLA.out] at h1; rw [HLB.out] at h2; omega))
        have HD' : Hid (D (m + n) = (out ++ [((c : Int) + (D m).getD k 0 + (D n).getD k 0) % 10000]) ++ D ((((c : Int) + (D m).getD k 0 + (D n).getD k 0) / 10000).toNat + dv m (k + 1) + dv n (k + 1))) := by
          show _ = _
          rw [HD.out, hsum.out]; simp
        have hbx := limbs_getD (limbs_D m) k
        have hby := limbs_getD (limbs_D n) k
        clear hsum HD
        generalize (D m).getD k 0 = x at *
        generalize (D n).getD k 0 = y at *
        have hs0 : 0 ≤ ((c : Int) + x + y) := by omega
        have hs1 : ((c : Int) + x + y) ≤ 19999 := by omega
        go_wp2_with (at_builtin; refine wpList_append_ints _ rfl _ _ 29 rfl w.heap.size 3 Tryz.underlying29 infoInt V k cv out rfl (HO.out.alloc _) _ (some ⟨wr.heap.size, 0, none⟩) 1 1 [((c : Int) + x + y) % 10000] rfl (rd_one _ _ _) (by omega) (by have := HB.out.size; simp; omega) ?_; intro V' c' w1 hown hg; have HO' := Lib.hid hown; have HB' := Lib.hid (below_app HB.out HO.out hg); clear hown hg)
        go_roundw
        case rel => exact ⟨k + 1, (((c : Int) + x + y) / 10000).toNat, out ++ [((c : Int) + x + y) % 10000], V', c', by omega, by omega, by go_num, by rw [Int.toNat_of_nonneg (by omega)], rfl, by omega, by simp [HOL.out], HD'.out, HO'.out, HB'.out⟩
        case measure => simp [intOf]; omega
      · have hy0 : (D n).getD k 0 = 0 := by simp [List.getD, HLB.out, show lb ≤ k from by omega]
        have hsum := Lib.hid (add_round m n k c (by have h1 := (dv_pos m k); have h2 := (dv_pos n k); rw [HLA.out] at h1; rw [HLB.out] at h2; omega))
        rw [hy0] at hsum
        simp only [Int.add_zero] at hsum
        have HD' : Hid (D (m + n) = (out ++ [((c : Int) + (D m).getD k 0) % 10000]) ++ D ((((c : Int) + (D m).getD k 0) / 10000).toNat + dv m (k + 1) + dv n (k + 1))) := by
          show _ = _
          rw [HD.out, hsum.out]; simp
        have hbx := limbs_getD (limbs_D m) k
        have hby := limbs_getD (limbs_D n) k
        clear hsum HD
        clear hy0 hby
        generalize (D m).getD k 0 = x at *
        have hs0 : 0 ≤ ((c : Int) + x) := by omega
        have hs1 : ((c : Int) + x) ≤ 19999 := by omega
        go_wp2_with (at_builtin; refine wpList_append_ints _ rfl _ _ 29 rfl w.heap.size 3 Tryz.underlying29 infoInt V k cv out rfl (HO.out.alloc _) _ (some ⟨wr.heap.size, 0, none⟩) 1 1 [((c : Int) + x) % 10000] rfl (rd_one _ _ _) (by omega) (by have := HB.out.size; simp; omega) ?_; intro V' c' w1 hown hg; have HO' := Lib.hid hown; have HB' := Lib.hid (below_app HB.out HO.out hg); clear hown hg)
        go_roundw
        case rel => exact ⟨k + 1, (((c : Int) + x) / 10000).toNat, out ++ [((c : Int) + x) % 10000], V', c', by omega, by omega, by go_num, by rw [Int.toNat_of_nonneg (by omega)], rfl, by omega, by simp [HOL.out], HD'.out, HO'.out, HB'.out⟩
        case measure => simp [intOf]; omega
    · have d1 : decide ((k : Int) < la) = false := by simp; omega
      have hx0 : (D m).getD k 0 = 0 := by simp [List.getD, HLA.out, show la ≤ k from by omega]
      by_cases h2 : k < lb
      · have d2 : decide ((k : Int) < lb) = true := by simp; omega
        obtain ⟨b2, o2, rfl, hP2, hl2, hcc2⟩ := HY.out.at_ (by omega)
        have hcy : wr.cell? ⟨b2, o2 + k, none⟩ = some (.int .i64 ((D n).getD k 0)) := (HB.out.cell (p := ⟨b2, o2 + k, none⟩) hP2).trans (hcc2 k h2)
        clear hcc2
        have hsum := Lib.hid (add_round m n k c (by have h1 := (dv_pos m k); have h2 := (dv_pos n k); rw [HLA.out] at h1; rw [HLB.out] at h2; omega))
        rw [hx0] at hsum
        simp only [Int.add_zero] at hsum
        have HD' : Hid (D (m + n) = (out ++ [((c : Int) + (D n).getD k 0) % 10000]) ++ D ((((c : Int) + (D n).getD k 0) / 10000).toNat + dv m (k + 1) + dv n (k + 1))) := by
          show _ = _
          rw [HD.out, hsum.out]; simp
        have hbx := limbs_getD (limbs_D m) k
        have hby := limbs_getD (limbs_D n) k
        clear hsum HD
        clear hx0 hbx
        generalize (D n).getD k 0 = y at *
        have hs0 : 0 ≤ ((c : Int) + y) := by omega
        have hs1 : ((c : Int) + y) ≤ 19999 := by omega
        go_wp2_with (at_builtin; refine wpList_append_ints _ rfl _ _ 29 rfl w.heap.size 3 Tryz.underlying29 infoInt V k cv out rfl (HO.out.alloc _) _ (some ⟨wr.heap.size, 0, none⟩) 1 1 [((c : Int) + y) % 10000] rfl (rd_one _ _ _) (by omega) (by have := HB.out.size; simp; omega) ?_; intro V' c' w1 hown hg; have HO' := Lib.hid hown; have HB' := Lib.hid (below_app HB.out HO.out hg); clear hown hg)
        go_roundw
        case rel => exact ⟨k + 1, (((c : Int) + y) / 10000).toNat, out ++ [((c : Int) + y) % 10000], V', c', by omega, by omega, by go_num, by rw [Int.toNat_of_nonneg (by omega)], rfl, by omega, by simp [HOL.out], HD'.out, HO'.out, HB'.out⟩
        case measure => simp [intOf]; omega
      · have d2 : decide ((k : Int) < lb) = false := by simp; omega
        have hy0 : (D n).getD k 0 = 0 := by simp [List.getD, HLB.out, show lb ≤ k from by omega]
        by_cases h3 : 0 < c
        · have d3 : (0 : Int) < c := by omega
          have hsum := Lib.hid (add_round m n k c (by have h1 := (dv_pos m k); have h2 := (dv_pos n k); rw [HLA.out] at h1; rw [HLB.out] at h2; omega))
          rw [hx0, hy0] at hsum
          simp only [Int.add_zero] at hsum
          have HD' : Hid (D (m + n) = (out ++ [((c : Int)) % 10000]) ++ D ((((c : Int)) / 10000).toNat + dv m (k + 1) + dv n (k + 1))) := by
            show _ = _
            rw [HD.out, hsum.out]; simp
          have hbx := limbs_getD (limbs_D m) k
          have hby := limbs_getD (limbs_D n) k
          clear hsum HD
          clear hx0 hy0 hbx hby
          have hs0 : 0 ≤ ((c : Int)) := by omega
          have hs1 : ((c : Int)) ≤ 19999 := by omega
          go_wp2_with (at_builtin; refine wpList_append_ints _ rfl _ _ 29 rfl w.heap.size 3 Tryz.underlying29 infoInt V k cv out rfl (HO.out.alloc _) _ (some ⟨wr.heap.size, 0, none⟩) 1 1 [((c : Int)) % 10000] rfl (rd_one _ _ _) (by omega) (by have := HB.out.size; simp; omega) ?_; intro V' c' w1 hown hg; have HO' := Lib.hid hown; have HB' := Lib.hid (below_app HB.out HO.out hg); clear hown hg)
          go_roundw
          case rel => exact ⟨k + 1, (((c : Int)) / 10000).toNat, out ++ [((c : Int)) % 10000], V', c', by omega, by omega, by go_num, by rw [Int.toNat_of_nonneg (by omega)], rfl, by omega, by simp [HOL.out], HD'.out, HO'.out, HB'.out⟩
          case measure => simp [intOf]; omega
        · obtain rfl : c = 0 := by omega
          have hz : 0 + dv m k + dv n k = 0 := by have h1 := (dv_pos m k); have h2 := (dv_pos n k); rw [HLA.out] at h1; rw [HLB.out] at h2; omega
          have HD' : Hid (D (m + n) = out) := by show _ = _; rw [HD.out, hz, D_zero, List.append_nil]
          clear HD hz hx0 hy0
          go_wp2
          go_ret
          refine ⟨V, cv, ?_, ?_, HB.out⟩
          · rw [HD'.out, HOL.out]; rfl
          · rw [HD'.out, HOL.out]; exact HO.out

set_option maxHeartbeats 400000 in
theorem l01Trim_any (A : Option Addr) (n c : Nat) (xs : List Int) (P : Nat → Prop) (w : World) (hr : Rd w P A n c xs) (hl : Limbs xs) (hn : n ≤ 16777216) :
    Calls Tryz.prog 161 #[.slice A n c] w (RetNew 3 w (D (natOf xs))) := by
  have HL := Lib.hid hl
  have HN := Lib.hid hr.len
  have hcap := hr.cap
  have HR := Lib.hid hr
  clear hl
  go_enter Tryz.func161, Tryz.ntmps161
  go_wp2
  go_loop [3] (fun v => ∃ k : Nat, k ≤ n ∧ v = .int .i64 k ∧ ∀ i, k ≤ i → i < n → xs.getD i 0 = 0) (fun v => (intOf v).toNat)
  case atStart => exact ⟨n, Nat.le_refl _, rfl, fun i h1 h2 => absurd h1 (by omega)⟩
  case round =>
    obtain ⟨k, hk, rfl, hz⟩ := hrel
    have HZ := Lib.hid hz
    clear hz
    by_cases h0 : 0 < k
    · obtain ⟨b, o, rfl, hP, _, hc⟩ := hr.at_ (by omega)
      have hcx := hc (k - 1) (by omega)
      have hd : decide ((0 : Int) < k) = true := by simp; omega
      by_cases hx : xs.getD (k - 1) 0 = 0
      · have HZ' : Hid (∀ i, k - 1 ≤ i → i < n → xs.getD i 0 = 0) := by
          intro i h1 h2
          by_cases hi : i = k - 1
          · subst hi; exact hx
          · exact HZ.out i (by omega) h2
        rw [hx] at hcx
        clear hx hc hr HZ HR
        go_wp2
        go_round
        case rel => exact ⟨k - 1, by omega, by congr 1; omega, HZ'.out⟩
        case measure => simp [intOf]; omega
      · have hx' : (xs.getD (k - 1) 0 == 0) = false := by simpa using hx
        have HK := Lib.hid (trim_take HL.out k (by have := HN.out; omega) (by rw [HN.out]; exact HZ.out) (.inr hx))
        generalize xs.getD (k - 1) 0 = x at *
        clear hx hc hr HZ
        have hb : Below w.heap.size w (w.alloc (.cells #[] 3)) := (Below.refl _ _).alloc (Nat.le_refl _) _
        have HRC := Lib.hid (((HR.out.mono (Q := (· < w.heap.size)) fun _ _ h => h).below hb).cut k hk)
        clear hb
        go_wp2_with (at_builtin; refine wpList_append_ints _ rfl _ _ 29 rfl w.heap.size 3 Tryz.underlying29 infoInt (some ⟨w.heap.size, 0, none⟩) 0 0 [] rfl (World.ownsRow_lit _ #[] 0 (Nat.le_refl _) (by decide) rfl) _ _ k c (xs.take k) rfl HRC.out (by omega) (by simp) ?_; intro V' c' w1 hown hg)
        go_ret
        have e1 : xs.take k = D (natOf xs) := by have := take_trim HL.out; rwa [← HK.out] at this
        have e2 := HK.out
        simp only [Nat.zero_add, List.nil_append] at hown
        rw [e1] at hown
        refine ⟨V', c', ?_, ?_, ((Below.refl _ _).alloc (Nat.le_refl _) _).grown hg (by simp) (fun j h => by simp [Value.ownBlock] at h; omega)⟩
        · rw [← e2]; simp
        · rw [← e2]; exact hown
    · obtain rfl : k = 0 := by omega
      have HK := Lib.hid (trim_take HL.out 0 (by omega) (by rw [HN.out]; exact HZ.out) (.inl rfl))
      clear hr HZ
      have hb : Below w.heap.size w (w.alloc (.cells #[] 3)) := (Below.refl _ _).alloc (Nat.le_refl _) _
      have HRC := Lib.hid (((HR.out.mono (Q := (· < w.heap.size)) fun _ _ h => h).below hb).cut 0 hk)
      clear hb
      go_wp2_with (at_builtin; refine wpList_append_ints _ rfl _ _ 29 rfl w.heap.size 3 Tryz.underlying29 infoInt (some ⟨w.heap.size, 0, none⟩) 0 0 [] rfl (World.ownsRow_lit _ #[] 0 (Nat.le_refl _) (by decide) rfl) _ _ 0 c (xs.take 0) rfl HRC.out (by omega) (by simp) ?_; intro V' c' w1 hown hg)
      go_ret
      have e1 : xs.take 0 = D (natOf xs) := by have := take_trim HL.out; rwa [← HK.out] at this
      have e2 := HK.out
      simp only [Nat.zero_add, List.nil_append] at hown
      rw [e1] at hown
      refine ⟨V', c', ?_, ?_, ((Below.refl _ _).alloc (Nat.le_refl _) _).grown hg (by simp) (fun j h => by simp [Value.ownBlock] at h; omega)⟩
      · rw [← e2]; simp
      · rw [← e2]; exact hown

end Go.Proofs.YtifepoefeamboaaGreatDoor
namespace Nt
open Go Go.RowKit
theorem Arx.arr {w : World} {g : Nat} {t : TypeId} {xs : List Int} (h : Arx w g t 0 xs) : Arr w g t xs := by
  obtain ⟨r, h0, h⟩ := h
  have : r = [] := List.eq_nil_of_length_eq_zero h0
  subst this
  rwa [List.append_nil] at h
end Nt
namespace Go.Proofs.YtifepoefeamboaaGreatDoor
open Go Go.RowKit Nt
end Go.Proofs.YtifepoefeamboaaGreatDoor
namespace Nt
open Go Go.RowKit
end Nt
namespace Go.Proofs.YtifepoefeamboaaGreatDoor
open Go Go.RowKit Nt
end Go.Proofs.YtifepoefeamboaaGreatDoor
namespace Nt
open Go Go.RowKit
theorem natOf_div {qs : List Int} {m n : Nat} (h : Limbs qs) (hv : val qs = (m : Int) / n) : natOf qs = m / n := by
  have := natOf_val h
  rw [hv, ← Int.natCast_ediv] at this
  omega
theorem natOf_mod {qs : List Int} {m n : Nat} (h : Limbs qs) (hv : val qs = (m : Int) % n) : natOf qs = m % n := by
  have := natOf_val h
  rw [hv, ← Int.natCast_emod] at this
  omega
end Nt
namespace Go.Proofs.YtifepoefeamboaaGreatDoor
open Go Go.RowKit Nt

/-- a list that is trimmed and copied -/
theorem trim_fresh_rd {w : World} {P : Nat → Prop} {A : Option Addr} {n c : Nat} {xs : List Int} (h : Rd w P A n c xs) (hl : Limbs xs) : Rd w P A (D (natOf xs)).length c (D (natOf xs)) := by
  have hle := trim_len_le hl
  have := h.cut (D (natOf xs)).length (by have := h.len; omega)
  rwa [take_trim hl] at this

end Go.Proofs.YtifepoefeamboaaGreatDoor
namespace Go.Proofs.YtifepoefeamboaaGreatDoor
open Go Go.RowKit Nt

set_option maxHeartbeats 1600000 in
theorem mulInto_any (g N : Nat) (t : TypeId) (A B : Option Addr) (la ca lb cb m n : Nat) (w : World)
    (hf : Arr w g t (zeros N)) (hx : Rd w (· ≠ g) A la ca (D m)) (hy : Rd w (· ≠ g) B lb cb (D n)) (hN0 : la + lb ≤ N) (hN : N ≤ 20000) :
    Calls Tryz.prog 157 #[.slice (some ⟨g, 0, none⟩) N N, .slice A la ca, .slice B lb cb] w fun e w' => e = .returned (.slice (some ⟨g, 0, none⟩) (D (m * n)).length N) ∧ Put t w g N (D (m * n)) w' := by
  have HX := Lib.hid hx
  have HY := Lib.hid hy
  have HLA := Lib.hid hx.len
  have HLB := Lib.hid hy.len
  have HFA := Lib.hid hf
  clear hx hy hf
  go_enter Tryz.func157, Tryz.ntmps157
  go_wp2
  go_loopw [15] (fun v wr => ∃ (i : Nat) (out : List Int), i ≤ la ∧ v = .int .i64 i ∧ out.length = i + lb ∧ Limbs out ∧ val out = val ((D m).take i) * n ∧ Arr wr g t (out ++ zeros (N - (i + lb))) ∧ w.grownBy wr (some g)) (fun v _ => la - (intOf v).toNat)
  case atStart =>
    refine ⟨0, zeros lb, Nat.zero_le _, rfl, by simp [zeros_len], zeros_limbs _, by simp [zeros_val, val], ?_, World.grownBy.refl _ _⟩
    have e : zeros lb ++ zeros (N - (0 + lb)) = zeros N := by
      unfold zeros; rw [List.replicate_append_replicate]; congr 1; omega
    rw [e]; exact HFA.out
  case round =>
    obtain ⟨i, out, hi, rfl, hol, hlim, hval, harr, hgr⟩ := hrel
    have HOL := Lib.hid hol
    have HLM := Lib.hid hlim
    have HV := Lib.hid hval
    have HA := Lib.hid harr
    have HG := Lib.hid hgr
    clear hol hlim hval harr hgr
    by_cases hlt : i < la
    · obtain ⟨b1, o1, rfl, hP1, hl1, hcc1⟩ := HX.out.at_ (by omega)
      have hcx : wr.cell? ⟨b1, o1 + i, none⟩ = some (.int .i64 ((D m).getD i 0)) := (World.cell?_of_block (a := ⟨b1, o1 + i, none⟩) (HG.out.block b1 hl1 (fun e => hP1 (by injection e)))).trans (hcc1 i hlt)
      have hbx := limbs_getD (limbs_D m) i
      have HOUT := Lib.hid (mul_outer (D m) i n (by have := HLA.out; omega))
      generalize hxk : (D m).getD i 0 = x at *
      clear hxk hcc1
      obtain ⟨hx0, hx1⟩ := hbx
      go_wp2
      go_loopw [9, 22] (fun c v wr => ∃ (j : Nat) (q : Int) (P : List Int), j ≤ lb ∧ v = .int .i64 j ∧ c = .int .i64 q ∧ 0 ≤ q ∧ q ≤ 9999 ∧ P.length = i + j ∧ Limbs P ∧ val P + 10000 ^ (i + j) * (q + vd out (i + j) + x * vd (D n) j) = val out + 10000 ^ i * (x * n) ∧ Arr wr g t (P ++ (out ++ zeros (N - (i + lb))).drop (i + j)) ∧ w.grownBy wr (some g)) (fun _ v _ => lb - (intOf v).toNat)
      case atStart =>
        refine ⟨0, 0, out.take i, Nat.zero_le _, rfl, rfl, by omega, by omega, by have := HOL.out; simp; omega, limbs_take HLM.out i, ?_, ?_, HG.out⟩
        · rw [Nat.add_zero, vd_zero, val_D]; exact mul_start out i _ (by have := HOL.out; omega)
        · have e : out.take i ++ (out ++ zeros (N - (i + lb))).drop (i + 0) = out ++ zeros (N - (i + lb)) := by
            rw [Nat.add_zero, List.drop_append_of_le_length (by have := HOL.out; omega), ← List.append_assoc, List.take_append_drop]
          rw [e]; exact HA.out
      case round =>
        obtain ⟨j, q, P, hj, rfl, rfl, hq0, hq1, hpl, hplim, hpval, hparr, hpg⟩ := hrel
        have HPL := Lib.hid hpl
        have HPM := Lib.hid hplim
        have HPV := Lib.hid hpval
        have HPA := Lib.hid hparr
        have HPG := Lib.hid hpg
        clear hpl hplim hpval hparr hpg
        have HLEN : Hid ((out ++ zeros (N - (i + lb))).length = N) := by show _ = _; have := HOL.out; simp [zeros_len]; omega
        by_cases hlt2 : j < lb
        · obtain ⟨b2, o2, rfl, hP2, hl2, hcc2⟩ := HY.out.at_ (by omega)
          have hcy : wr.cell? ⟨b2, o2 + j, none⟩ = some (.int .i64 ((D n).getD j 0)) := (World.cell?_of_block (a := ⟨b2, o2 + j, none⟩) (HPG.out.block b2 hl2 (fun e => hP2 (by injection e)))).trans (hcc2 j hlt2)
          have hfz := HPA.out.frozen (i + j)
          have hcc := HPA.out.cell (i + j) (by have := HLEN.out; have := HPL.out; simp only [List.length_append, List.length_drop]; simp only [List.length_append] at *; omega)
          rw [getD_at _ _ _ HPL.out (by have := HLEN.out; omega), get_left _ _ _ (by have := HOL.out; omega)] at hcc
          have HSTEP := Lib.hid (mul_step out (D n) P (i + j) j x q HPL.out)
          have hbc := limbs_getD HLM.out (i + j)
          have hby := limbs_getD (limbs_D n) j
          have hst := HPA.out.set_ (i + j) ((out.getD (i + j) 0 + x * (D n).getD j 0 + q) % 10000)
          rw [set_at _ _ _ _ HPL.out (by have := HLEN.out; omega)] at hst
          have HST := Lib.hid hst
          clear hst hcc2
          generalize out.getD (i + j) 0 = c at *
          generalize (D n).getD j 0 = y at *
          obtain ⟨hm0, hm1⟩ := limb_prod hx0 hx1 hby.1 hby.2
          have HPM' := Lib.hid (limbs_append.2 ⟨HPM.out, limbs_cons.2 ⟨(show 0 ≤ (c + x * y + q) % 10000 ∧ (c + x * y + q) % 10000 < 10000 from by omega), limbs_nil⟩⟩)
          have hs0 : 0 ≤ c + x * y + q := by omega
          clear HA HOUT HPA
          go_wp2
          go_roundw
          case rel => exact ⟨j + 1, (c + x * y + q) / 10000, P ++ [(c + x * y + q) % 10000], by omega, by go_num, by go_num, by omega, by omega, by have := HPL.out; simp; omega, HPM'.out, HSTEP.out.trans HPV.out, HST.out, grown_set HPG.out _⟩
          case measure => simp [intOf]; omega
        · obtain rfl : j = lb := by omega
          have hpa := HPA.out
          rw [List.drop_append_of_le_length (by have := HOL.out; omega), drop_end out (i + j) (by have := HOL.out; omega), List.nil_append] at hpa
          have hfz := hpa.frozen (i + j)
          have hcc := hpa.cell (i + j) (by have := HPL.out; simp [zeros_len]; omega)
          have hst := hpa.set_ (i + j) q
          rw [set_zeros _ _ _ _ HPL.out (by omega)] at hst
          have HST := Lib.hid hst
          have HVAL : Hid (val (P ++ [q]) = val ((D m).take (i + 1)) * n) := by
            show _ = _
            have h1 := HPV.out
            rw [vd_end out (i + j) (by have := HOL.out; omega), vd_end (D n) j (by have := HLB.out; omega), HV.out, HOUT.out] at h1
            rw [val_snoc, HPL.out]
            simpa using h1
          have HLM' := Lib.hid (limbs_append.2 ⟨HPM.out, limbs_cons.2 ⟨(show 0 ≤ q ∧ q < 10000 from by omega), limbs_nil⟩⟩)
          generalize (P ++ zeros (N - (i + j))).getD (i + j) 0 = old at *
          clear hpa hst HA HOUT HPA HPV
          go_wp2
          go_roundw
          case rel => exact ⟨i + 1, P ++ [q], by omega, by go_num, by have := HPL.out; simp; omega, HLM'.out, HVAL.out, by have := HST.out; rwa [Nat.sub_sub, show i + j + 1 = i + 1 + j from by omega] at this, grown_set HPG.out _⟩
          case measure => simp [intOf]; omega
    · obtain rfl : i = la := by omega
      have hnat : natOf out = m * n := by
        have h1 := natOf_val HLM.out
        rw [HV.out, take_all_val _ _ (by have := HLA.out; omega), val_D, ← Int.natCast_mul] at h1
        omega
      have hrd := (HA.out.rd (fun _ => True) trivial 0 (i + lb) N (by have := HOL.out; simp [zeros_len]; omega) hN0)
      have htk : ((out ++ zeros (N - (i + lb))).drop 0).take (i + lb) = out := by
        rw [List.drop_zero, List.take_append_of_le_length (by have := HOL.out; omega)]
        exact List.take_of_length_le (by have := HOL.out; omega)
      rw [htk] at hrd
      have HR := Lib.hid hrd
      have HNT := Lib.hid hnat
      clear hnat hrd htk
      go_wp2_with fail
      refine (trimmed_any _ (i + lb) N out (fun _ => True) _ HR.out HLM.out (by omega)).mono ?_
      rintro e w2 ⟨rfl, rfl⟩
      go_wp2
      go_ret
      have hle := trim_len_le HLM.out
      have htt := take_trim HLM.out
      rw [HNT.out] at hle htt ⊢
      refine ⟨rfl, _, ?_, HA.out, ?_, ?_, HG.out⟩
      · have := HOL.out; simp [zeros_len]; omega
      · rw [List.take_append_of_le_length hle]; exact htt
      · have := HOL.out; omega

end Go.Proofs.YtifepoefeamboaaGreatDoor
namespace Nt
open Go Go.RowKit
/-- the slice holds the natural m -/
def Nm (w : World) (A : Option Addr) (c m : Nat) : Prop := Rd w (fun _ => True) A (D m).length c (D m)
theorem Nm.on {w w' : World} {A : Option Addr} {c m : Nat} (h : Nm w A c m) (hb : Below w.heap.size w w') : Nm w' A c m :=
  (((Rd.mono h (Q := (· < w.heap.size)) fun _ _ h => h).below hb).mono fun _ _ _ => trivial)
theorem Nm.drawn {w w' : World} {A : Option Addr} {c m : Nat} (h : Nm w A c m) (hb : Drawn w w') : Nm w' A c m := hb.rd h
theorem Nm.lit (w : World) (t : TypeId) : Nm (w.alloc (.cells #[.int .i64 1] t)) (some ⟨w.heap.size, 0, none⟩) 1 1 := (rd_one w t 1).mono fun _ _ _ => trivial
theorem new_of {t : TypeId} {w w' : World} {m : Nat} {e : Ending} (h : RetNew t w (D m) e w') : ∃ A c, e = .returned (.slice A (D m).length c) ∧ Nm w' A c m ∧ Below w.heap.size w w' := by
  obtain ⟨A, c, rfl, ho, hb⟩ := h
  exact ⟨A, c, rfl, (own_rd' ho).mono fun _ _ _ => trivial, hb⟩
theorem put_own {w w' : World} {g N : Nat} {t : TypeId} {xs : List Int} (h : Put t w g N xs w') (base : Nat) (hb : base ≤ g) (hN : N ≤ maxLen) : w'.ownsRow base t 1 (.slice (some ⟨g, 0, none⟩) xs.length N) xs.length (xs.map (Value.int .i64)) := by
  obtain ⟨full, h1, h2, h3, h4, h5⟩ := h
  have := h2.arx.own base hb xs.length N (by omega) (by omega) hN
  rwa [h3] at this
theorem put_below {w w' : World} {g N B : Nat} {t : TypeId} {xs : List Int} (h : Put t w g N xs w') (hB : B ≤ w.heap.size) (hg : B ≤ g) : Below B w w' := by
  obtain ⟨full, h1, h2, h3, h4, h5⟩ := h
  exact grown_below h5 hB hg
theorem own_block {w : World} {base n c g : Nat} {e : TypeId} {A : Option Addr} {xs : List Value} (h : w.ownsRow base e 1 (.slice A n c) n xs) (hA : A = some ⟨g, 0, none⟩) : base ≤ g ∧ g < w.heap.size := by
  subst hA
  exact h.lt g rfl
theorem mk_first {w w1 : World} {k n c1 : Nat} {A1 : Option Addr} {t : TypeId} {xs : List Value} (ho : w1.ownsRow (w.alloc (.cells (cellsOf (zeros k)) t)).drew.heap.size t 1 (.slice A1 n c1) n xs)
    (hb : Below (w.alloc (.cells (cellsOf (zeros k)) t)).drew.heap.size (w.alloc (.cells (cellsOf (zeros k)) t)).drew w1) :
    Arr w1 w.heap.size t (zeros k) ∧ w1.ownsRow w.heap.size t 1 (.slice A1 n c1) n xs ∧ (∀ g, A1 = some ⟨g, 0, none⟩ → g ≠ w.heap.size) ∧ Below w.heap.size w w1 := by
  have hs : (w.alloc (.cells (cellsOf (zeros k)) t)).drew.heap.size = w.heap.size + 1 := by show (w.alloc _).heap.size = _; simp
  refine ⟨(Arr.new w t (zeros k)).keep (hb.block _ (by omega)), own_mono ho (by omega), fun g hg => by have := own_block ho hg; omega, ?_⟩
  exact (below_drewN ((Below.refl w.heap.size w).alloc (Nat.le_refl _) _) 1).trans (hb.mono (by omega))
theorem mk_last {w w1 : World} {k n c1 : Nat} {A1 : Option Addr} {t : TypeId} {xs : List Value} (ho : w1.ownsRow w.drew.heap.size t 1 (.slice A1 n c1) n xs) (hb : Below w.drew.heap.size w.drew w1) :
    Arr (w1.alloc (.cells (cellsOf (zeros k)) t)) w1.heap.size t (zeros k) ∧ (w1.alloc (.cells (cellsOf (zeros k)) t)).ownsRow w.heap.size t 1 (.slice A1 n c1) n xs ∧ (∀ g, A1 = some ⟨g, 0, none⟩ → g ≠ w1.heap.size) ∧ Below w.heap.size w (w1.alloc (.cells (cellsOf (zeros k)) t)) ∧ w.heap.size ≤ w1.heap.size := by
  have hs : w.heap.size ≤ w1.heap.size := hb.size
  have h0 : Below w.heap.size w w1 := (below_drewN (Below.refl w.heap.size w) 1).trans hb
  exact ⟨Arr.new w1 t (zeros k), World.ownsRow.alloc ho _, fun g hg => by have := own_block ho hg; omega, h0.alloc hs _, hs⟩
theorem rd_new {w : World} {A : Option Addr} {n c : Nat} {xs : List Int} (h : Rd w (· < w.heap.size) A n c xs) (o : Obj) : Rd (w.alloc o) (· ≠ w.heap.size) A n c xs :=
  (h.below ((Below.refl _ _).alloc (Nat.le_refl _) o)).mono fun b hb _ => by omega
end Nt
namespace Go.Proofs.YtifepoefeamboaaGreatDoor
open Go Go.RowKit Nt

set_option maxHeartbeats 400000 in
theorem productLimbs_any (A B : Option Addr) (la ca lb cb m n : Nat) (P Q : Nat → Prop) (w : World) (hx0 : Rd w P A la ca (D m)) (hy0 : Rd w Q B lb cb (D n)) (hla : la ≤ 9000) (hlb : lb ≤ 9000) :
    Calls Tryz.prog 142 #[.slice A la ca, .slice B lb cb] w (RetNew 3 w (D (m * n))) := by
  have HX := Lib.hid (hx0.mono (Q := (· < w.heap.size)) fun _ _ h => h)
  have HY := Lib.hid (hy0.mono (Q := (· < w.heap.size)) fun _ _ h => h)
  clear hx0 hy0
  have hmk : ∀ w, (Instr.makeSlice 29 (.int .i64 ((la : Int) + (lb : Int))) (.int .i64 ((la : Int) + (lb : Int)))).run Tryz.prog w = .ok (.slice (some ⟨w.heap.size, 0, none⟩) (la + lb) (la + lb)) (w.alloc (.cells (cellsOf (zeros (la + lb))) 3)) := fun w => by
    have := mk_ints (la + lb) (by omega) w
    rwa [Int.natCast_add] at this
  go_enter Tryz.func142, Tryz.ntmps142
  go_wp2_with fail
  refine (mulInto_any w.heap.size (la + lb) 3 A B la ca lb cb m n _ (Arr.new w _ _) (rd_new HX.out _) (rd_new HY.out _) (Nat.le_refl _) (by omega)).mono ?_
  rintro e w1 ⟨rfl, hp⟩
  have HO := Lib.hid (put_own hp w.heap.size (Nat.le_refl _) (by unfold maxLen; omega))
  have HB := Lib.hid (((Below.refl w.heap.size w).alloc (Nat.le_refl _) _).trans (put_below hp (by simp) (Nat.le_refl _)))
  clear hp hmk
  go_wp2
  go_ret
  exact ⟨_, _, rfl, HO.out, HB.out⟩

set_option maxHeartbeats 400000 in
theorem sumLimbs_any (A B : Option Addr) (la ca lb cb m n : Nat) (P Q : Nat → Prop) (w : World) (hx0 : Rd w P A la ca (D m)) (hy0 : Rd w Q B lb cb (D n)) (hla : la ≤ 9000) (hlb : lb ≤ 9000) :
    Calls Tryz.prog 158 #[.slice A la ca, .slice B lb cb] w (RetNew 3 w (D (m + n))) := by
  have HX := Lib.hid (hx0.mono (Q := (· < w.heap.size)) fun _ _ h => h)
  have HY := Lib.hid (hy0.mono (Q := (· < w.heap.size)) fun _ _ h => h)
  clear hx0 hy0
  have hmk : ∀ (k : Nat) (_ : k ≤ 9000) w, (Instr.makeSlice 29 (.int .i64 ((k : Int) + 1)) (.int .i64 ((k : Int) + 1))).run Tryz.prog w = .ok (.slice (some ⟨w.heap.size, 0, none⟩) (k + 1) (k + 1)) (w.alloc (.cells (cellsOf (zeros (k + 1))) 3)) := fun k hk w => by
    have := mk_ints (k + 1) (by omega) w
    rwa [Int.natCast_add] at this
  by_cases hab : la < lb
  · have hm := hmk lb hlb
    have hd : (la : Int) < lb := by omega
    clear hmk
    go_enter Tryz.func158, Tryz.ntmps158
    go_wp2_with fail
    refine (addInto_any w.heap.size (lb + 1) 3 _ A B la ca lb cb m n _ (Arr.new w _ _) (zeros_len _) (rd_new HX.out _) (rd_new HY.out _) (by omega) (by omega) (by omega)).mono ?_
    rintro e w1 ⟨rfl, hp⟩
    have HO := Lib.hid (put_own hp w.heap.size (Nat.le_refl _) (by unfold maxLen; omega))
    have HB := Lib.hid (((Below.refl w.heap.size w).alloc (Nat.le_refl _) _).trans (put_below hp (by simp) (Nat.le_refl _)))
    clear hp hm
    go_wp2
    go_ret
    exact ⟨_, _, rfl, HO.out, HB.out⟩
  · have hm := hmk la hla
    have hd : (lb : Int) ≤ la := by omega
    clear hmk
    go_enter Tryz.func158, Tryz.ntmps158
    go_wp2_with fail
    refine (addInto_any w.heap.size (la + 1) 3 _ A B la ca lb cb m n _ (Arr.new w _ _) (zeros_len _) (rd_new HX.out _) (rd_new HY.out _) (by omega) (by omega) (by omega)).mono ?_
    rintro e w1 ⟨rfl, hp⟩
    have HO := Lib.hid (put_own hp w.heap.size (Nat.le_refl _) (by unfold maxLen; omega))
    have HB := Lib.hid (((Below.refl w.heap.size w).alloc (Nat.le_refl _) _).trans (put_below hp (by simp) (Nat.le_refl _)))
    clear hp hm
    go_wp2
    go_ret
    exact ⟨_, _, rfl, HO.out, HB.out⟩

set_option maxHeartbeats 400000 in
theorem takeTimes_nil (A B : Option Addr) (c lb cb : Nat) (times : Int) (w : World) :
    Calls Tryz.prog 165 #[.slice A 0 c, .slice B lb cb, .int .i64 times] w fun e w' => e = .returned (.tuple #[]) ∧ w = w' := by
  go_enter Tryz.func165, Tryz.ntmps165
  go_wp2
  refine wp_loop_rounds 1 ?_
  rw [rounds_succ]
  go_wp2
  go_end0
  exact ⟨rfl, rfl⟩

set_option maxHeartbeats 400000 in
theorem divideRest_nil (A B C : Option Addr) (cq cr lb cb : Nat) (w : World) (hlb : 0 < lb) (hlb2 : lb ≤ 9000) :
    Calls Tryz.prog 154 #[.slice A 0 cq, .slice B 0 cr, .slice C lb cb] w fun e w' => e = .returned (.tuple #[]) ∧ w = w' := by
  have hclr : ∀ w ty, (Builtin.clear_ #[29] ty #[.slice A 0 cq]).run Tryz.prog w = .ok (.tuple #[]) w := by
    intro w ty
    cases A <;> simp [Builtin.clear_, run_underlying Tryz.underlying29]
  go_enter Tryz.func154, Tryz.ntmps154
  go_wp2
  go_step3
  go_wp2
  go_step3
  go_wp2
  refine wp_loop_rounds 1 ?_
  rw [rounds_succ]
  go_wp2
  rw [Exit.noGoto_normal]
  go_end0
  exact ⟨rfl, rfl⟩

/-- two rows that share no block -/
theorem own_gone {w w' : World} {g base n c : Nat} {e : TypeId} {A : Option Addr} {xs : List Value} (h : w.ownsRow base e 1 (.slice A n c) n xs) (hg : w.grownBy w' (some g)) (hne : ∀ k, A = some ⟨k, 0, none⟩ → k ≠ g) : w'.ownsRow base e 1 (.slice A n c) n xs := by
  refine h.kept hg ?_
  cases A with
  | none => exact .inl rfl
  | some a =>
    right
    rcases h.2 with ⟨e1, _⟩ | ⟨k, _, _, e1, _⟩
    · cases e1
    · injection e1 with e1 _ _
      intro e2
      have e3 : a.block = g := by injection e2
      exact hne k e1 (by rw [← e3]; injection e1 with e1; rw [e1])

set_option maxHeartbeats 400000 in
theorem lessLimbs_any (A B : Option Addr) (la ca lb cb m n : Nat) (P Q : Nat → Prop) (w : World) (hx0 : Rd w P A la ca (D m)) (hy0 : Rd w Q B lb cb (D n)) (hla : la ≤ 9000) (hlb : lb ≤ 9000) (hmn : n ≤ m) :
    Calls Tryz.prog 160 #[.slice A la ca, .slice B lb cb] w (RetNew 3 w (D (m - n))) := by
  have HX := Lib.hid (hx0.mono (Q := (· < w.heap.size)) fun _ _ h => h)
  have HY := Lib.hid (hy0.mono (Q := (· < w.heap.size)) fun _ _ h => h)
  have hl := hx0.len
  subst hl
  clear hx0 hy0
  go_enter Tryz.func160, Tryz.ntmps160
  go_wp2_with fail
  refine (fresh_any A _ ca (D m) _ w HX.out (by omega)).mono ?_
  rintro e w1 ⟨A1, c1, rfl, ho, hb⟩
  have HB1 := Lib.hid hb
  have HO := Lib.hid ho
  have hs1 := hb.size
  clear ho hb
  by_cases h0 : m = 0
  · subst h0
    obtain rfl : n = 0 := by omega
    have hd0 : (D 0).length = 0 := rfl
    go_wp2_with fail
    refine (takeTimes_nil A1 B c1 lb cb 1 w1).mono ?_
    rintro e w2 ⟨rfl, rfl⟩
    go_wp2_with fail
    refine (trimmed_any A1 0 c1 [] (fun _ => True) w1 ((own_rd' HO.out).mono fun _ _ _ => trivial) limbs_nil (by omega)).mono ?_
    rintro e w2 ⟨rfl, rfl⟩
    go_wp2
    go_ret
    exact ⟨A1, c1, rfl, HO.out, HB1.out⟩
  · have hpos : 0 < (D m).length := by
      rw [List.length_pos_iff]
      intro e
      exact h0 ((D_nil_iff m).1 e)
    obtain ⟨g, rfl, hg, hnc, hmx, hax⟩ := own_arx HO.out hpos
    have HAX := Lib.hid hax
    clear hax
    go_wp2_with fail
    refine (takeTimes_x g 0 (D m).length c1 (c1 - (D m).length) 3 [] (D m) [] B lb cb n 1 w1 (by simpa using HAX.out) rfl rfl ((HY.out.below HB1.out).mono fun b hb _ => by omega) (limbs_D m) (by omega) (by omega) (by rw [val_D]; omega) (by omega) (by omega) (by omega)).mono ?_
    rintro e w2 ⟨rfl, ys, hyl, hym, hyv, hya, hgr⟩
    rw [List.nil_append, List.append_nil] at hya
    have HYA := Lib.hid hya
    have HYM := Lib.hid hym
    have HYL := Lib.hid hyl
    have HN : Hid (natOf ys = m - n) := by
      show _ = _
      rw [val_D] at hyv
      have := natOf_val hym
      omega
    have HB2 := Lib.hid (HB1.out.trans (grown_below hgr hs1 hg))
    have hle := trim_len_le hym
    have HTT := Lib.hid (take_trim hym)
    have HR : Hid (Rd w2 (fun _ => True) (some ⟨g, 0, none⟩) (D m).length c1 ys) := by
      have := hya.rd (fun _ => True) trivial 0 (D m).length c1 (by omega) hnc
      rwa [List.drop_zero, List.take_of_length_le (by omega)] at this
    have HO2 := Lib.hid (hya.own w.heap.size hg (D (natOf ys)).length c1 hle (by omega) hmx)
    clear hyl hym hyv hya hgr hle
    go_wp2_with fail
    refine (trimmed_any _ _ c1 ys (fun _ => True) w2 HR.out HYM.out (by omega)).mono ?_
    rintro e w3 ⟨rfl, rfl⟩
    go_wp2
    go_ret
    have ho := HO2.out
    rw [HTT.out] at ho
    rw [← HN.out]
    exact ⟨_, c1, rfl, ho, HB2.out⟩

/-- what a quotient and a rest in memory of their own are -/
def RetQR (w : World) (q r : Nat) (e : Ending) (w' : World) : Prop :=
  ∃ A1 c1 A2 c2, e = .returned (.tuple #[.slice A1 (D q).length c1, .slice A2 (D r).length c2]) ∧ Nm w' A1 c1 q ∧ Nm w' A2 c2 r ∧ Below w.heap.size w w'

set_option maxHeartbeats 400000 in
theorem dividedLimbs_any (A B : Option Addr) (la ca lb cb m n : Nat) (P Q : Nat → Prop) (w : World) (hx0 : Rd w P A la ca (D m)) (hy0 : Rd w Q B lb cb (D n)) (hla : la ≤ 9000) (hlb : lb ≤ 9000) (hn : 0 < n) :
    Calls Tryz.prog 156 #[.slice A la ca, .slice B lb cb] w (RetQR w (m / n) (m % n)) := by
  have HX := Lib.hid (hx0.mono (Q := (· < w.heap.size)) fun _ _ h => h)
  have HY := Lib.hid (hy0.mono (Q := (· < w.heap.size)) fun _ _ h => h)
  have hl := hx0.len
  have hlb0 : 0 < lb := by
    rw [← hy0.len, List.length_pos_iff]
    intro e
    have := (D_nil_iff n).1 e
    omega
  subst hl
  clear hx0 hy0
  have hmk := mk_ints (D m).length (by omega)
  go_enter Tryz.func156, Tryz.ntmps156
  have HX0 := Lib.hid (HX.out.below ((Below.refl w.heap.size w).alloc (Nat.le_refl _) (.cells (cellsOf (zeros (D m).length)) 3)))
  go_upto_region 1 with fail
  go_cut [6, 7] (fun s6 s7 wx => ∃ (gq : Nat) (A1 : Option Addr) (c1 : Nat), s6 = .slice (some ⟨gq, 0, none⟩) (D m).length (D m).length ∧ s7 = .slice A1 (D m).length c1 ∧ w.heap.size ≤ gq ∧ Arr wx gq 3 (zeros (D m).length) ∧ wx.ownsRow w.heap.size 3 1 (.slice A1 (D m).length c1) (D m).length ((D m).map (Value.int .i64)) ∧ (∀ g, A1 = some ⟨g, 0, none⟩ → g ≠ gq) ∧ Below w.heap.size w wx)
  case first =>
    go_region_with (first
      | (go_at_call 77; refine (fresh_any A _ ca (D m) (· < w.heap.size) _ (by first | exact HX.out | exact HX0.out) (by omega)).mono ?_; rintro e w1 ⟨A1, c1, rfl, ho, hb⟩; have HO := Lib.hid ho; have HB := Lib.hid hb; clear ho hb))
    all_goals
      go_wp2_with fail
      go_meet
    case rel => obtain ⟨h1, h2, h3, h4⟩ := mk_first HO.out HB.out; exact ⟨_, _, _, rfl, rfl, Nat.le_refl _, h1, h2, h3, h4⟩
    case rel => obtain ⟨h1, h2, h3, h4, h5⟩ := mk_last (k := (D m).length) HO.out HB.out; exact ⟨_, _, _, rfl, rfl, h5, h1, h2, h3, h4⟩
  case rest =>
    obtain ⟨gq, A1, c1, rfl, rfl, hgq, ha, ho, hsep, hb⟩ := hcut
    have hs1 := hb.size
    have HB1 := Lib.hid hb
    have HA1 := Lib.hid ha
    have HO := Lib.hid ho
    clear ha ho hb hmk HX0
    generalize wc = w1 at *
    by_cases h0 : m = 0
    · subst h0
      have hd0 : (D 0).length = 0 := rfl
      go_wp2_with fail
      refine (divideRest_nil _ A1 B 0 c1 lb cb w1 hlb0 hlb).mono ?_
      rintro e w2 ⟨rfl, rfl⟩
      go_wp2_with fail
      refine (trimmed_any _ 0 0 [] (fun _ => True) w1 (Rd.nil_ _ _ _ _ (fun h => by cases h)) limbs_nil (by omega)).mono ?_
      rintro e w2 ⟨rfl, rfl⟩
      go_wp2_with fail
      refine (trimmed_any A1 0 c1 [] (fun _ => True) w1 ((own_rd' HO.out).mono fun _ _ _ => trivial) limbs_nil (by omega)).mono ?_
      rintro e w2 ⟨rfl, rfl⟩
      go_wp2
      go_ret2
      rw [Nat.zero_div, Nat.zero_mod]
      exact ⟨_, _, _, _, rfl, Rd.nil_ _ _ _ _ (fun h => by cases h), (own_rd' HO.out).mono fun _ _ _ => trivial, HB1.out⟩
    · have hpos : 0 < (D m).length := by
        rw [List.length_pos_iff]
        intro e
        exact h0 ((D_nil_iff m).1 e)
      obtain ⟨g, rfl, hg, hnc, hmx, hax⟩ := own_arx HO.out hpos
      have HAX := Lib.hid hax
      clear hax
      go_wp2_with fail
      refine (divideRest_x gq g (D m).length (D m).length (D m).length c1 0 (c1 - (D m).length) 3 3 (zeros (D m).length) [] (D m) [] B lb cb n w1 (by simpa using HA1.out.arx) (zeros_len _) (by simpa using HAX.out) rfl (limbs_D m) hnc ((HY.out.below HB1.out).mono fun b hb _ => by omega) hn (fun e => hsep g rfl e.symm) (Nat.le_refl _) hpos hla hlb).mono ?_
      rintro e w2 ⟨rfl, qs, rs, hql, hqm, hqv, hqa, hrl, hrm, hrv, hra, htw⟩
      rw [List.append_nil] at hqa hra
      rw [val_D] at hqv hrv
      have HNQ : Hid (natOf qs = m / n) := natOf_div hqm hqv
      have HNR : Hid (natOf rs = m % n) := natOf_mod hrm hrv
      have HB2 := Lib.hid (HB1.out.trans (htw.below (B := w.heap.size) hs1 hgq hg))
      have HRQ : Hid (Rd w2 (fun _ => True) (some ⟨gq, 0, none⟩) (D m).length (D m).length qs) := by
        have := hqa.rd (fun _ => True) trivial 0 (D m).length (D m).length (by omega) (Nat.le_refl _)
        rwa [List.drop_zero, List.take_of_length_le (by omega)] at this
      have HRR : Hid (Rd w2 (fun _ => True) (some ⟨g, 0, none⟩) (D m).length c1 rs) := by
        have := hra.rd (fun _ => True) trivial 0 (D m).length c1 (by omega) hnc
        rwa [List.drop_zero, List.take_of_length_le (by omega)] at this
      have HQM := Lib.hid hqm
      have HRM := Lib.hid hrm
      clear hql hqm hqv hqa hrl hrm hrv hra htw
      go_wp2_with fail
      refine (trimmed_any _ _ _ qs (fun _ => True) w2 HRQ.out HQM.out (by omega)).mono ?_
      rintro e w3 ⟨rfl, rfl⟩
      go_wp2_with fail
      refine (trimmed_any _ _ _ rs (fun _ => True) w2 HRR.out HRM.out (by omega)).mono ?_
      rintro e w3 ⟨rfl, rfl⟩
      go_wp2
      go_ret2
      rw [← HNQ.out, ← HNR.out]
      exact ⟨_, _, _, _, rfl, trim_fresh_rd HRQ.out HQM.out, trim_fresh_rd HRR.out HRM.out, HB2.out⟩

set_option maxHeartbeats 400000 in
theorem quotientLimbs_any (A B : Option Addr) (la ca lb cb m n : Nat) (P Q : Nat → Prop) (w : World) (hx0 : Rd w P A la ca (D m)) (hy0 : Rd w Q B lb cb (D n)) (hla : la ≤ 9000) (hlb : lb ≤ 9000) (hn : 0 < n) :
    Calls Tryz.prog 141 #[.slice A la ca, .slice B lb cb] w (fun e w' => ∃ A c, e = .returned (.slice A (D (m / n)).length c) ∧ Nm w' A c (m / n) ∧ Below w.heap.size w w') := by
  have HX := Lib.hid hx0
  have HY := Lib.hid hy0
  clear hx0 hy0
  go_enter Tryz.func141, Tryz.ntmps141
  go_wp2_with fail
  refine (dividedLimbs_any A B la ca lb cb m n _ _ w HX.out HY.out hla hlb hn).mono ?_
  rintro e w1 ⟨A1, c1, A2, c2, rfl, h1, h2, hb⟩
  have H1 := Lib.hid h1
  have HB := Lib.hid hb
  clear h1 h2 hb
  go_wp2
  go_ret
  exact ⟨A1, c1, rfl, H1.out, HB.out⟩

end Go.Proofs.YtifepoefeamboaaGreatDoor
namespace Nt
open Go Go.RowKit
theorem gcd_next (m n : Nat) : Nat.gcd n (m % n) = Nat.gcd m n := by
  rw [Nat.gcd_comm n (m % n), ← Nat.gcd_rec, Nat.gcd_comm]
theorem gcd_lt_top {m n : Nat} (hm : m < Top) (hn : n < Top) : Nat.gcd m n < Top := by
  rcases Nat.eq_zero_or_pos m with h | h
  · subst h; rw [Nat.gcd_zero_left]; exact hn
  · exact Nat.lt_of_le_of_lt (Nat.gcd_le_left n h) hm
theorem own_at_block {w w' : World} {base n c : Nat} {e : TypeId} {A : Option Addr} {xs : List Value} (h : w.ownsRow base e 1 (.slice A n c) n xs) (hk : ∀ g, A = some ⟨g, 0, none⟩ → w'.heap[g]? = w.heap[g]?) : w'.ownsRow base e 1 (.slice A n c) n xs := by
  rcases h with ⟨h1, h2 | ⟨g, cap, cur, e', hg, h3, h4⟩⟩
  · exact ⟨h1, .inl h2⟩
  · have hA : A = some ⟨g, 0, none⟩ := by injection e'
    exact ⟨h1, .inr ⟨g, cap, cur, e', hg, (hk g hA).trans h3, h4⟩⟩
theorem D_len_mod {m n : Nat} (h : 0 < n) : (D (m % n)).length ≤ (D n).length := by
  have h1 := (D_len_le n (D n).length).1 (Nat.le_refl _)
  have h2 := Nat.mod_lt m h
  exact (D_len_le (m % n) (D n).length).2 (by omega)
theorem D_len_pos {m : Nat} (h : 0 < m) : 0 < (D m).length := by
  rw [List.length_pos_iff]
  intro e
  have := (D_nil_iff m).1 e
  omega
end Nt
namespace Go.Proofs.YtifepoefeamboaaGreatDoor
open Go Go.RowKit Nt

set_option maxHeartbeats 1600000 in
theorem commonLimbs_any (A B : Option Addr) (la ca lb cb m n : Nat) (P Q : Nat → Prop) (w : World) (hx0 : Rd w P A la ca (D m)) (hy0 : Rd w Q B lb cb (D n)) (hla : la ≤ 9000) (hlb : lb ≤ 9000) :
    Calls Tryz.prog 140 #[.slice A la ca, .slice B lb cb] w (RetNew 3 w (D (Nat.gcd m n))) := by
  have HX := Lib.hid (hx0.mono (Q := (· < w.heap.size)) fun _ _ h => h)
  have HY := Lib.hid (hy0.mono (Q := (· < w.heap.size)) fun _ _ h => h)
  have HXL := Lib.hid hx0.len
  have HYL := Lib.hid hy0.len
  clear hx0 hy0
  go_enter Tryz.func140, Tryz.ntmps140
  go_upto_region 1 with fail
  go_cut [5] (fun s5 wx => ∃ N : Nat, la ≤ N ∧ lb ≤ N ∧ N ≤ 9000 ∧ s5 = .slice (some ⟨w.heap.size, 0, none⟩) N N ∧ w.alloc (.cells (cellsOf (zeros N)) 3) = wx)
  case first =>
    by_cases hab : la < lb
    · have hm := mk_ints lb (by omega)
      have hd : (la : Int) < lb := by omega
      go_wp2_with fail
      go_meet
      exact ⟨lb, by omega, Nat.le_refl _, hlb, rfl, rfl⟩
    · have hm := mk_ints la (by omega)
      have hd : (lb : Int) ≤ la := by omega
      go_wp2_with fail
      go_meet
      exact ⟨la, Nat.le_refl _, by omega, hla, rfl, rfl⟩
  case rest =>
    obtain ⟨N, hN1, hN2, hN, rfl, hwc⟩ := hcut
    have HA0 : Hid (Arr wc w.heap.size 3 (zeros N)) := by show Arr _ _ _ _; rw [← hwc]; exact Arr.new w _ _
    have HB0 : Hid (Below w.heap.size w wc) := by show Below _ _ _; rw [← hwc]; exact (Below.refl _ _).alloc (Nat.le_refl _) _
    have hs0 : w.heap.size + 1 = wc.heap.size := by rw [← hwc]; simp
    clear hwc
    go_wp2_with fail
    refine (fresh_any A la ca (D m) _ wc (HX.out.below HB0.out) (by omega)).mono ?_
    rintro e w1 ⟨A1, c1, rfl, ho, hb⟩
    have hs1 := hb.size
    have HB1 := Lib.hid (HB0.out.trans (hb.mono (by omega)))
    have HA1 := Lib.hid (HA0.out.keep (hb.block _ (by omega)))
    have HO1 := Lib.hid ho
    clear ho hb HA0 HB0
    go_wp2_with fail
    refine (fresh_any B lb cb (D n) _ w1 (HY.out.below HB1.out) (by omega)).mono ?_
    rintro e w2 ⟨A2, c2, rfl, ho, hb⟩
    have hs2 := hb.size
    have HB2 := Lib.hid (HB1.out.trans (hb.mono (by omega)))
    have HA2 := Lib.hid (HA1.out.keep (hb.block _ (by omega)))
    have HO2 := Lib.hid (own_keep HO1.out hb)
    have HO2' := Lib.hid ho
    have HS : Hid (∀ gx gy, A1 = some ⟨gx, 0, none⟩ → A2 = some ⟨gy, 0, none⟩ → gx ≠ gy) := by
      intro gx gy h1 h2
      have := own_block HO1.out h1
      have := own_block ho h2
      omega
    have hl1 := HXL.out
    have hl2 := HYL.out
    clear ho hb HA1 HB1 HO1
    subst hl1 hl2
    go_wp2_with fail
    go_loopg [6, 7] n (fun n' x y wr => ∃ (m' : Nat) (X Y : Option Addr) (cx cy : Nat) (qs : List Int), x = .slice X (D m').length cx ∧ y = .slice Y (D n').length cy ∧ (D m').length ≤ N ∧ (D n').length ≤ N ∧ Nat.gcd m' n' = Nat.gcd m n ∧ wr.ownsRow (w.heap.size + 1) 3 1 (.slice X (D m').length cx) (D m').length ((D m').map (Value.int .i64)) ∧ wr.ownsRow (w.heap.size + 1) 3 1 (.slice Y (D n').length cy) (D n').length ((D n').map (Value.int .i64)) ∧ Arr wr w.heap.size 3 qs ∧ qs.length = N ∧ (∀ gx gy, X = some ⟨gx, 0, none⟩ → Y = some ⟨gy, 0, none⟩ → gx ≠ gy) ∧ Below w.heap.size w wr)
    case atStart => exact ⟨m, A1, A2, c1, c2, zeros N, rfl, rfl, hN1, hN2, rfl, own_mono HO2.out (by omega), own_mono HO2'.out (by omega), HA2.out, zeros_len N, HS.out, HB2.out⟩
    case round =>
      obtain ⟨m', X, Y, cx, cy, qs, rfl, rfl, hml, hnl, hg, hox, hoy, haq, hql, hsp, hb⟩ := hrel
      have HG := Lib.hid hg
      have HOX := Lib.hid hox
      have HOY := Lib.hid hoy
      have HAQ := Lib.hid haq
      have HQL := Lib.hid hql
      have HSP := Lib.hid hsp
      have HBR := Lib.hid hb
      have hsz := hb.size
      have hqlt := haq.lt
      clear hg hox hoy haq hql hsp hb HA2 HB2 HO2 HO2' HS
      by_cases h0 : 0 < gk
      · have hlen := D_len_pos h0
        have hlen' : (0 : Int) < (D gk).length := by omega
        obtain ⟨gy, rfl, hgy, _, _, _⟩ := own_arx HOY.out hlen
        have hgyl := (own_block HOY.out rfl).2
        have HRY := Lib.hid (own_rd' HOY.out)
        by_cases hm0 : 0 < m'
        · have hlm := D_len_pos hm0
          have hlm' : (0 : Int) < (D m').length := by omega
          obtain ⟨gx, rfl, hgx, hnc, hmx, hax⟩ := own_arx HOX.out hlm
          have hne : gx ≠ gy := HSP.out gx gy rfl rfl
          have HAX := Lib.hid hax
          clear hax
          have hlN : ((D m').length : Int) ≤ N := by omega
          have hry : Rd wr (fun k => k ≠ w.heap.size ∧ k ≠ gx) (some ⟨gy, 0, none⟩) (D gk).length cy (D gk) := by
            have h := HRY.out
            refine ⟨h.1, h.2.1, h.2.2.1, fun hn => ?_⟩
            obtain ⟨b, o, e, hp, hlt, hc⟩ := h.2.2.2 hn
            have hb : b = gy := by injection e with e; injection e with e; exact e.symm
            exact ⟨b, o, e, ⟨by omega, by omega⟩, hlt, hc⟩
          have HRY2 := Lib.hid hry
          clear hry
          go_wp2_with fail
          refine (divideRest_x w.heap.size gx (D m').length N (D m').length cx 0 (cx - (D m').length) 3 3 (qs.take (D m').length) (qs.drop (D m').length) (D m') [] (some ⟨gy, 0, none⟩) (D gk).length cy gk wr (by rw [List.take_append_drop]; exact HAQ.out.arx) (by rw [List.length_take]; have := HQL.out; omega) (by rw [List.append_nil]; exact HAX.out) rfl (limbs_D m') hnc HRY2.out h0 (by omega) (Nat.le_refl _) hlm (by omega) (by omega)).mono ?_
          rintro e w4 ⟨rfl, qs2, rs, hql, hqm, hqv, hqa, hrl, hrm, hrv, hra, htw⟩
          rw [List.append_nil] at hra
          rw [val_D] at hrv
          have HNR : Hid (natOf rs = m' % gk) := natOf_mod hrm hrv
          have hle := trim_len_le hrm
          have HTT := Lib.hid (take_trim hrm)
          have HRT : Hid (Rd w4 (fun _ => True) (some ⟨gx, 0, none⟩) (D m').length cx rs) := by
            have := hra.rd (fun _ => True) trivial 0 (D m').length cx (by omega) hnc
            rwa [List.drop_zero, List.take_of_length_le (by omega)] at this
          have HOX2 := Lib.hid (hra.own (w.heap.size + 1) hgx (D (natOf rs)).length cx hle (by omega) hmx)
          have HOY2 := Lib.hid (own_at_block (w' := w4) HOY.out (fun g hg => by injection hg with hg; injection hg with hg; subst hg; exact htw.block _ hgyl (by omega) (fun e => hne e.symm)))
          have HQA : Hid (∃ qs3 : List Int, qs3.length = N ∧ Arr w4 w.heap.size 3 qs3) := by
            obtain ⟨r0, hr0, hr1⟩ := hqa
            have : r0 = [] := List.eq_nil_of_length_eq_zero hr0
            subst this
            rw [List.append_nil] at hr1
            exact ⟨_, by simp [hql]; have := HQL.out; omega, hr1⟩
          have HB4 := Lib.hid (HBR.out.trans (htw.below (B := w.heap.size) hsz (Nat.le_refl _) (by omega)))
          have HRM := Lib.hid hrm
          clear hql hqm hqv hqa hrl hrm hrv hra htw hle
          go_wp2_with fail
          refine (trimmed_any _ (D m').length cx rs (fun _ => True) w4 HRT.out HRM.out (by omega)).mono ?_
          rintro e w5 ⟨rfl, rfl⟩
          rw [HNR.out]
          have hle2 : (D (m' % gk)).length ≤ N := by have := D_len_mod (m := m') h0; omega
          go_wp2
          go_roundg (m' % gk)
          case measure => exact Nat.mod_lt _ h0
          case rel =>
            obtain ⟨qs3, hq3, ha3⟩ := HQA.out
            have ho := HOX2.out
            rw [HTT.out, HNR.out] at ho
            exact ⟨gk, some ⟨gy, 0, none⟩, some ⟨gx, 0, none⟩, cy, cx, qs3, rfl, rfl, hnl, hle2, by rw [gcd_next]; exact HG.out, HOY2.out, ho, ha3, hq3, fun a b h1 h2 => by injection h1 with h1; injection h1 with h1; injection h2 with h2; injection h2 with h2; omega, HB4.out⟩
        · obtain rfl : m' = 0 := by omega
          have hd0 : (D 0).length = 0 := rfl
          have hNN : (0 : Int) ≤ N := by omega
          go_wp2_with fail
          refine (divideRest_nil _ X _ N cx (D gk).length cy wr hlen (by omega)).mono ?_
          rintro e w4 ⟨rfl, rfl⟩
          go_wp2_with fail
          refine (trimmed_any X 0 cx [] (fun _ => True) wr ((own_rd' HOX.out).mono fun _ _ _ => trivial) limbs_nil (by omega)).mono ?_
          rintro e w5 ⟨rfl, rfl⟩
          go_wp2
          go_roundg 0
          case measure => exact h0
          case rel => exact ⟨gk, some ⟨gy, 0, none⟩, X, cy, cx, qs, rfl, rfl, hnl, Nat.zero_le _, by have := HG.out; rw [Nat.gcd_zero_left] at this; rw [Nat.gcd_zero_right]; exact this, HOY.out, HOX.out, HAQ.out, HQL.out, fun a b h1 h2 e => HSP.out b a h2 h1 e.symm, HBR.out⟩
      · obtain rfl : gk = 0 := by omega
        have HGE : Hid (m' = Nat.gcd m n) := by show _ = _; rw [← HG.out, Nat.gcd_zero_right]
        have hd0 : (D 0).length = 0 := rfl
        go_wp2
        go_ret
        rw [← HGE.out]
        exact ⟨X, cx, rfl, own_mono HOX.out (by omega), HBR.out⟩

end Go.Proofs.YtifepoefeamboaaGreatDoor
namespace Go.Proofs.YtifepoefeamboaaGreatDoor
open Go Go.RowKit Nt

end Go.Proofs.YtifepoefeamboaaGreatDoor
namespace Go.Proofs.YtifepoefeamboaaGreatDoor
open Go Go.RowKit Nt

set_option maxHeartbeats 1600000 in
theorem l01Sub_any (A B : Option Addr) (la ca lb cb m n : Nat) (P Q : Nat → Prop) (w : World) (hx0 : Rd w P A la ca (D m)) (hy0 : Rd w Q B lb cb (D n)) (hla : la ≤ 10000) (hlb : lb ≤ 10000) (hmn : n ≤ m) :
    Calls Tryz.prog 147 #[.slice A la ca, .slice B lb cb] w (RetNew 3 w (D (m - n))) := by
  have hx : Rd w (· < w.heap.size) A la ca (D m) := hx0.mono fun _ _ h => h
  have hy : Rd w (· < w.heap.size) B lb cb (D n) := hy0.mono fun _ _ h => h
  have HX := Lib.hid hx
  have HY := Lib.hid hy
  have HLA := Lib.hid hx.len
  have HLB := Lib.hid hy.len
  clear hx0 hy0 hx hy
  go_enter Tryz.func147, Tryz.ntmps147
  go_wp2
  go_loopw [5, 6, 7] (fun v b i wr => ∃ (k : Nat) (q : Int) (out : List Int) (V : Option Addr) (cv : Nat), k ≤ la ∧ i = .int .i64 k ∧ b = .int .i64 q ∧ v = .slice V k cv ∧ 0 ≤ q ∧ q ≤ 1 ∧ out.length = k ∧ Limbs out ∧ val out + 10000 ^ k * (vd (D m) k - q - vd (D n) k * 1) = (m : Int) - n ∧ wr.ownsRow w.heap.size 3 1 (.slice V k cv) k (out.map (Value.int .i64)) ∧ Below w.heap.size w wr) (fun _ _ i _ => la - (intOf i).toNat)
  case atStart => exact ⟨0, 0, [], _, _, by omega, rfl, rfl, rfl, by omega, by omega, rfl, limbs_nil, by simp [vd_zero, val_D, val], World.ownsRow_lit _ #[] 0 (Nat.le_refl _) (by decide) rfl, (Below.refl _ _).alloc (Nat.le_refl _) _⟩
  case round =>
    obtain ⟨k, q, out, V, cv, hk, rfl, rfl, rfl, hq0, hq1, hol, hlim, hval, hown, hb⟩ := hrel
    have HOL := Lib.hid hol
    have HLM := Lib.hid hlim
    have HV := Lib.hid hval
    have HO := Lib.hid hown
    have HB := Lib.hid hb
    clear hol hlim hval hown hb
    by_cases hlt : k < la
    · obtain ⟨b1, o1, rfl, hP1, hl1, hcc1⟩ := HX.out.at_ (by omega)
      have hcx : wr.cell? ⟨b1, o1 + k, none⟩ = some (.int .i64 ((D m).getD k 0)) := (HB.out.cell (p := ⟨b1, o1 + k, none⟩) hP1).trans (hcc1 k hlt)
      have hbx := limbs_getD (limbs_D m) k
      generalize hxk : (D m).getD k 0 = x at *
      have HXK := Lib.hid hxk
      clear hxk hcc1
      by_cases hlt2 : k < lb
      · obtain ⟨b2, o2, rfl, hP2, hl2, hcc2⟩ := HY.out.at_ (by omega)
        have hcy : wr.cell? ⟨b2, o2 + k, none⟩ = some (.int .i64 ((D n).getD k 0)) := (HB.out.cell (p := ⟨b2, o2 + k, none⟩) hP2).trans (hcc2 k hlt2)
        have hby := limbs_getD (limbs_D n) k
        generalize hyk : (D n).getD k 0 = y at *
        have HYK := Lib.hid hyk
        clear hyk hcc2
        by_cases hneg : x - q - y < 0
        · have HSTEP := Lib.hid (take_step (D m) (D n) out k q 1 (x - q - y + 10000) 1 HOL.out (by rw [HXK.out, HYK.out]; omega))
          have HLM' := Lib.hid (limbs_append.2 ⟨HLM.out, limbs_cons.2 ⟨(show 0 ≤ x - q - y + 10000 ∧ x - q - y + 10000 < 10000 from by omega), limbs_nil⟩⟩)
          go_wp2_with (first | (go_at_call 95; refine (l01Bit_any _ _).mono ?_; rintro e w' ⟨rfl, rfl⟩; rw [show bitZ true = 1 from rfl]) | (at_builtin; refine wpList_append_ints _ rfl _ _ 29 rfl w.heap.size 3 Tryz.underlying29 infoInt V k cv out rfl (HO.out.alloc _) _ (some ⟨wr.heap.size, 0, none⟩) 1 1 [x - q - y + 10000] rfl (rd_one _ _ _) (by omega) (by have := HB.out.size; simp; omega) ?_; intro V' c' w1 hown hg; have HO' := Lib.hid hown; have HB' := Lib.hid (below_app HB.out HO.out hg); clear hown hg))
          go_roundw
          case rel => exact ⟨k + 1, 1, out ++ [x - q - y + 10000], V', c', by omega, by go_num, by go_num, rfl, by omega, by omega, by simp [HOL.out], HLM'.out, HSTEP.out.trans HV.out, HO'.out, HB'.out⟩
          case measure => simp [intOf]; omega
        · have HSTEP := Lib.hid (take_step (D m) (D n) out k q 1 (x - q - y) 0 HOL.out (by rw [HXK.out, HYK.out]; omega))
          have HLM' := Lib.hid (limbs_append.2 ⟨HLM.out, limbs_cons.2 ⟨(show 0 ≤ x - q - y ∧ x - q - y < 10000 from by omega), limbs_nil⟩⟩)
          go_wp2_with (first | (go_at_call 95; refine (l01Bit_any _ _).mono ?_; rintro e w' ⟨rfl, rfl⟩; rw [show bitZ false = 0 from rfl]) | (at_builtin; refine wpList_append_ints _ rfl _ _ 29 rfl w.heap.size 3 Tryz.underlying29 infoInt V k cv out rfl (HO.out.alloc _) _ (some ⟨wr.heap.size, 0, none⟩) 1 1 [x - q - y] rfl (rd_one _ _ _) (by omega) (by have := HB.out.size; simp; omega) ?_; intro V' c' w1 hown hg; have HO' := Lib.hid hown; have HB' := Lib.hid (below_app HB.out HO.out hg); clear hown hg))
          go_roundw
          case rel => exact ⟨k + 1, 0, out ++ [x - q - y], V', c', by omega, by go_num, by go_num, rfl, by omega, by omega, by simp [HOL.out], HLM'.out, HSTEP.out.trans HV.out, HO'.out, HB'.out⟩
          case measure => simp [intOf]; omega
      · have hy0 : (D n).getD k 0 = 0 := by simp [List.getD, HLB.out, show lb ≤ k from by omega]
        have HYK := Lib.hid hy0
        clear hy0
        by_cases hneg : x - q < 0
        · have HSTEP := Lib.hid (take_step (D m) (D n) out k q 1 (x - q + 10000) 1 HOL.out (by rw [HXK.out, HYK.out]; omega))
          have HLM' := Lib.hid (limbs_append.2 ⟨HLM.out, limbs_cons.2 ⟨(show 0 ≤ x - q + 10000 ∧ x - q + 10000 < 10000 from by omega), limbs_nil⟩⟩)
          go_wp2_with (first | (go_at_call 95; refine (l01Bit_any _ _).mono ?_; rintro e w' ⟨rfl, rfl⟩; rw [show bitZ true = 1 from rfl]) | (at_builtin; refine wpList_append_ints _ rfl _ _ 29 rfl w.heap.size 3 Tryz.underlying29 infoInt V k cv out rfl (HO.out.alloc _) _ (some ⟨wr.heap.size, 0, none⟩) 1 1 [x - q + 10000] rfl (rd_one _ _ _) (by omega) (by have := HB.out.size; simp; omega) ?_; intro V' c' w1 hown hg; have HO' := Lib.hid hown; have HB' := Lib.hid (below_app HB.out HO.out hg); clear hown hg))
          go_roundw
          case rel => exact ⟨k + 1, 1, out ++ [x - q + 10000], V', c', by omega, by go_num, by go_num, rfl, by omega, by omega, by simp [HOL.out], HLM'.out, HSTEP.out.trans HV.out, HO'.out, HB'.out⟩
          case measure => simp [intOf]; omega
        · have HSTEP := Lib.hid (take_step (D m) (D n) out k q 1 (x - q) 0 HOL.out (by rw [HXK.out, HYK.out]; omega))
          have HLM' := Lib.hid (limbs_append.2 ⟨HLM.out, limbs_cons.2 ⟨(show 0 ≤ x - q ∧ x - q < 10000 from by omega), limbs_nil⟩⟩)
          go_wp2_with (first | (go_at_call 95; refine (l01Bit_any _ _).mono ?_; rintro e w' ⟨rfl, rfl⟩; rw [show bitZ false = 0 from rfl]) | (at_builtin; refine wpList_append_ints _ rfl _ _ 29 rfl w.heap.size 3 Tryz.underlying29 infoInt V k cv out rfl (HO.out.alloc _) _ (some ⟨wr.heap.size, 0, none⟩) 1 1 [x - q] rfl (rd_one _ _ _) (by omega) (by have := HB.out.size; simp; omega) ?_; intro V' c' w1 hown hg; have HO' := Lib.hid hown; have HB' := Lib.hid (below_app HB.out HO.out hg); clear hown hg))
          go_roundw
          case rel => exact ⟨k + 1, 0, out ++ [x - q], V', c', by omega, by go_num, by go_num, rfl, by omega, by omega, by simp [HOL.out], HLM'.out, HSTEP.out.trans HV.out, HO'.out, HB'.out⟩
          case measure => simp [intOf]; omega
    · obtain rfl : k = la := by omega
      have HFIN : Hid (natOf out = m - n) := by
        show _ = _
        have h1 := HV.out
        rw [vd_end (D m) k (by have := HLA.out; omega)] at h1
        have h2 := vd_nonneg (limbs_D n) k
        have h3 := val_lt HLM.out
        rw [HOL.out] at h3
        have h4 := take_end h3 (pow_pos' k) (show 0 ≤ q + vd (D n) k * 1 from by omega) (show 0 ≤ (m : Int) - n from by omega)
          (by rw [← h1]; congr 2; omega)
        rw [show (0 : Int) - q - vd (D n) k * 1 = 0 from by omega, Int.mul_zero, Int.add_zero] at h1
        have := natOf_val HLM.out
        omega
      have HRD := Lib.hid (own_rd' HO.out)
      go_wp2_with fail
      refine (l01Trim_any _ k _ out _ wr HRD.out HLM.out (by omega)).mono ?_
      rintro e w1 ⟨A1, c1, rfl, ho, hb1⟩
      rw [HFIN.out] at ho ⊢
      have HO1 := Lib.hid (own_mono ho HB.out.size)
      have HB1 := Lib.hid (HB.out.trans (hb1.mono HB.out.size))
      clear ho hb1
      go_wp2
      go_ret
      exact ⟨A1, c1, rfl, HO1.out, HB1.out⟩

end Go.Proofs.YtifepoefeamboaaGreatDoor
namespace Go.Proofs.YtifepoefeamboaaGreatDoor
open Go Go.RowKit Nt

set_option maxHeartbeats 3200000 in
theorem l01Mul_any (A B : Option Addr) (la ca lb cb m n : Nat) (P Q : Nat → Prop) (w : World) (hx0 : Rd w P A la ca (D m)) (hy0 : Rd w Q B lb cb (D n)) (hla : la ≤ 10000) (hlb : lb ≤ 10000) :
    Calls Tryz.prog 145 #[.slice A la ca, .slice B lb cb] w (RetNew 3 w (D (m * n))) := by
  have hx : Rd w (· < w.heap.size) A la ca (D m) := hx0.mono fun _ _ h => h
  have hy : Rd w (· < w.heap.size) B lb cb (D n) := hy0.mono fun _ _ h => h
  have HX := Lib.hid hx
  have HY := Lib.hid hy
  have HLA := Lib.hid hx.len
  have HLB := Lib.hid hy.len
  clear hx0 hy0 hx hy
  have hmk := mk_ints (la + lb + 1) (by omega)
  rw [show ((la + lb + 1 : Nat) : Int) = (la : Int) + lb + 1 from by omega] at hmk
  go_enter Tryz.func145, Tryz.ntmps145
  go_wp2
  clear hmk
  go_loopw [6] (fun v wr => ∃ (i : Nat) (T : List Int), i ≤ la ∧ v = .int .i64 i ∧ T.length = la + lb + 1 ∧ Limbs T ∧ (∀ k, i + lb ≤ k → T.getD k 0 = 0) ∧ val T = val ((D m).take i) * n ∧ Arr wr w.heap.size 3 T ∧ Below w.heap.size w wr) (fun v _ => la - (intOf v).toNat)
  case atStart => exact ⟨0, zeros (la + lb + 1), Nat.zero_le _, rfl, zeros_len _, zeros_limbs _, fun k _ => zeros_getD _ k, by simp [zeros_val, val], Arr.new _ _ _, (Below.refl _ _).alloc (Nat.le_refl _) _⟩
  case round =>
    obtain ⟨i, T, hi, rfl, htl, hlim, hz, hval, harr, hb⟩ := hrel
    have HTL := Lib.hid htl
    have HLM := Lib.hid hlim
    have HZ := Lib.hid hz
    have HV := Lib.hid hval
    have HA := Lib.hid harr
    have HB := Lib.hid hb
    clear htl hlim hz hval harr hb
    by_cases hlt : i < la
    · obtain ⟨b1, o1, rfl, hP1, hl1, hcc1⟩ := HX.out.at_ (by omega)
      have hcx0 := hcc1 i hlt
      have hbx := limbs_getD (limbs_D m) i
      have HOUT := Lib.hid (mul_outer (D m) i n (by have := HLA.out; omega))
      generalize hxk : (D m).getD i 0 = x at *
      clear hxk hcc1
      obtain ⟨hx0, hx1⟩ := hbx
      have HCX := Lib.hid hcx0
      clear hcx0
      go_wp2
      go_loopw [7, 8] (fun c v wr => ∃ (j : Nat) (q : Int) (P : List Int), j ≤ lb + 1 ∧ (j ≤ lb ∨ q = 0) ∧ v = .int .i64 j ∧ c = .int .i64 q ∧ 0 ≤ q ∧ q ≤ 9999 ∧ P.length = i + j ∧ Limbs P ∧ val P + 10000 ^ (i + j) * (q + vd T (i + j) + x * vd (D n) j) = val T + 10000 ^ i * (x * n) ∧ Arr wr w.heap.size 3 (P ++ T.drop (i + j)) ∧ Below w.heap.size w wr) (fun _ v _ => lb + 1 - (intOf v).toNat)
      case atStart =>
        refine ⟨0, 0, T.take i, by omega, by omega, rfl, rfl, by omega, by omega, by have := HTL.out; simp; omega, limbs_take HLM.out i, ?_, ?_, HB.out⟩
        · rw [Nat.add_zero, vd_zero, val_D]; exact mul_start T i _ (by have := HTL.out; omega)
        · rw [Nat.add_zero, List.take_append_drop]; exact HA.out
      case round =>
        obtain ⟨j, q, P, hj, hjq, rfl, rfl, hq0, hq1, hpl, hplim, hpval, hparr, hpb⟩ := hrel
        have HPL := Lib.hid hpl
        have HPM := Lib.hid hplim
        have HPV := Lib.hid hpval
        have HPA := Lib.hid hparr
        have HPB := Lib.hid hpb
        clear hpl hplim hpval hparr hpb
        by_cases hlt2 : j < lb
        · have hd : decide ((j : Int) < lb) = true := by simp; omega
          obtain ⟨b2, o2, rfl, hP2, hl2, hcc2⟩ := HY.out.at_ (by omega)
          have hcx : wr.cell? ⟨b1, o1 + i, none⟩ = some (.int .i64 x) := (HPB.out.cell (p := ⟨b1, o1 + i, none⟩) hP1).trans HCX.out
          have hcy : wr.cell? ⟨b2, o2 + j, none⟩ = some (.int .i64 ((D n).getD j 0)) := (HPB.out.cell (p := ⟨b2, o2 + j, none⟩) hP2).trans (hcc2 j hlt2)
          have hfz := HPA.out.frozen (i + j)
          have hcc := HPA.out.cell (i + j) (by have := HTL.out; have := HPL.out; simp only [List.length_append, List.length_drop]; omega)
          rw [getD_at _ _ _ HPL.out (by have := HTL.out; omega)] at hcc
          have HSTEP := Lib.hid (mul_step' T (D n) P (i + j) j x q HPL.out)
          have hbc := limbs_getD HLM.out (i + j)
          have hby := limbs_getD (limbs_D n) j
          have hst := HPA.out.set_ (i + j) ((T.getD (i + j) 0 + q + x * (D n).getD j 0) % 10000)
          rw [set_at _ _ _ _ HPL.out (by have := HTL.out; omega)] at hst
          have HST := Lib.hid hst
          clear hst hcc2
          generalize T.getD (i + j) 0 = c at *
          generalize (D n).getD j 0 = y at *
          obtain ⟨hm0, hm1⟩ := limb_prod hx0 hx1 hby.1 hby.2
          have HPM' := Lib.hid (limbs_append.2 ⟨HPM.out, limbs_cons.2 ⟨(show 0 ≤ (c + q + x * y) % 10000 ∧ (c + q + x * y) % 10000 < 10000 from by omega), limbs_nil⟩⟩)
          have hs0 : 0 ≤ c + q + x * y := by omega
          have hw1 : IntKind.i64.wrap (x * y) = x * y := IntWalk.i64_in _ (by omega)
          have hw2 : IntKind.i64.wrap (c + q + x * y) = c + q + x * y := IntWalk.i64_in _ (by omega)
          have hil : (i : Int) < la := by omega
          have hjl : (j : Int) < lb := by omega
          clear HA HOUT HPA
          go_wp2
          go_quiet (fail)
          clear hw1 hw2
          go_wp2
          go_roundw
          case rel => exact ⟨j + 1, (c + q + x * y) / 10000, P ++ [(c + q + x * y) % 10000], by omega, by omega, by go_num, by go_num, by omega, by omega, by have := HPL.out; simp; omega, HPM'.out, HSTEP.out.trans HPV.out, HST.out, (below_drewN HPB.out _).setCell (p := ⟨w.heap.size, _, none⟩) (Nat.le_refl _) _⟩
          case measure => simp [intOf]; omega
        · have hd : decide ((j : Int) < lb) = false := by simp; omega
          have hy0 : (D n).getD j 0 = 0 := by simp [List.getD, HLB.out, show lb ≤ j from by omega]
          by_cases hqz : q = 0
          · subst hqz
            have HT' : Hid (val (P ++ T.drop (i + j)) = val ((D m).take (i + 1)) * n) := by
              show _ = _
              have h1 := HPV.out
              rw [vd_zeros T (i + j) (fun k hk => HZ.out k (by omega)), vd_end (D n) j (by have := HLB.out; omega), HV.out, HOUT.out] at h1
              rw [val_append, HPL.out, show val (T.drop (i + j)) = vd T (i + j) from rfl, vd_zeros T (i + j) (fun k hk => HZ.out k (by omega))]
              simpa using h1
            have HZ' : Hid (∀ k, i + 1 + lb ≤ k → (P ++ T.drop (i + j)).getD k 0 = 0) := by
              intro k hk
              rw [getD_right P T (i + j) k HPL.out (by omega)]
              exact HZ.out k (by omega)
            clear HA HOUT
            go_wp2
            go_roundw
            case rel => exact ⟨i + 1, P ++ T.drop (i + j), by omega, by go_num, by have := HPL.out; have := HTL.out; simp; omega, limbs_append.2 ⟨HPM.out, limbs_drop HLM.out _⟩, HZ'.out, HT'.out, HPA.out, HPB.out⟩
            case measure => simp [intOf]; omega
          · have hjlb : j = lb := by omega
            have hq2 : 0 < q := by omega
            have hd2 : decide ((0 : Int) < q) = true := by simp; omega
            have hfz := HPA.out.frozen (i + j)
            have hcc := HPA.out.cell (i + j) (by have := HTL.out; have := HPL.out; simp only [List.length_append, List.length_drop]; omega)
            rw [getD_at _ _ _ HPL.out (by have := HTL.out; omega), HZ.out (i + j) (by omega)] at hcc
            have hstep := mul_step' T (D n) P (i + j) j x q HPL.out
            rw [HZ.out (i + j) (by omega), hy0, Int.mul_zero, Int.add_zero, Int.zero_add, Int.emod_eq_of_lt hq0 (by omega), Int.ediv_eq_zero_of_lt hq0 (by omega)] at hstep
            have HSTEP := Lib.hid hstep
            have hst := HPA.out.set_ (i + j) q
            rw [set_at _ _ _ _ HPL.out (by have := HTL.out; omega)] at hst
            have HST := Lib.hid hst
            have HPM' := Lib.hid (limbs_append.2 ⟨HPM.out, limbs_cons.2 ⟨(show 0 ≤ q ∧ q < 10000 from by omega), limbs_nil⟩⟩)
            have hw3 : q % 10000 = q := Int.emod_eq_of_lt hq0 (by omega)
            have hw4 : q / 10000 = 0 := Int.ediv_eq_zero_of_lt hq0 (by omega)
            have HJ := Lib.hid hjlb
            clear hst hstep hqz HA HOUT HPA hy0 hjlb
            go_wp2
            go_roundw
            case rel => exact ⟨j + 1, 0, P ++ [q], by have := HJ.out; omega, by omega, by go_num, by go_num, by omega, by omega, by have := HPL.out; simp; omega, HPM'.out, HSTEP.out.trans HPV.out, HST.out, HPB.out.setCell (p := ⟨w.heap.size, _, none⟩) (Nat.le_refl _) _⟩
            case measure => have := HJ.out; simp [intOf]; omega
    · obtain rfl : i = la := by omega
      have hnat : natOf T = m * n := by
        have h1 := natOf_val HLM.out
        rw [HV.out, take_all_val _ _ (by have := HLA.out; omega), val_D, ← Int.natCast_mul] at h1
        omega
      have HRD := Lib.hid (HA.out.rd_all (fun _ => True) trivial (i + lb + 1) (i + lb + 1) HTL.out.symm (Nat.le_refl _))
      have HNT := Lib.hid hnat
      clear hnat
      go_wp2_with fail
      refine (l01Trim_any _ (i + lb + 1) (i + lb + 1) T (fun _ => True) wr HRD.out HLM.out (by omega)).mono ?_
      rintro e w1 ⟨A1, c1, rfl, ho, hb1⟩
      rw [HNT.out] at ho ⊢
      have HO1 := Lib.hid (own_mono ho HB.out.size)
      have HB1 := Lib.hid (HB.out.trans (hb1.mono HB.out.size))
      clear ho hb1
      go_wp2
      go_ret
      exact ⟨A1, c1, rfl, HO1.out, HB1.out⟩

end Go.Proofs.YtifepoefeamboaaGreatDoor
namespace Nt
open Go Go.RowKit
theorem small_len {n : Nat} (h : n ≤ 9223372036854775807) : (D n).length ≤ 5 := by
  rw [D_len_le]
  have : 10000 ^ 5 = 100000000000000000000 := by decide
  omega
theorem cmpI_le {m n : Nat} (h : m ≤ n) : -1 ≤ cmpI m n ∧ cmpI m n ≤ 0 := by
  unfold cmpI
  by_cases h1 : m < n
  · rw [if_pos h1]; omega
  · rw [if_neg h1, if_pos (by omega)]; omega
theorem cmpI_gt {m n : Nat} (h : n < m) : cmpI m n = 1 := by unfold cmpI; rw [if_neg (by omega), if_neg (by omega)]
theorem natOf_cons {x : Int} {r : Nat} (h : 0 ≤ x) : natOf (x :: D r) = x.toNat + 10000 * r := by
  unfold natOf
  rw [val, val_D]
  omega
theorem sdiv_start (m p r x : Nat) (n : Nat) (Q : Int) (hp : p < (D m).length) (hx : (D m).getD p 0 = x)
    (h : (n : Int) * Q + 10000 ^ (p + 1) * r + val ((D m).take (p + 1)) = m) : (n : Int) * Q + 10000 ^ p * ((x + 10000 * r : Nat) : Int) + val ((D m).take p) = m := by
  rw [take_snoc (D m) p hp, val_snoc, List.length_take, Nat.min_eq_left (by omega), hx, pow_succ'] at h
  have e : ((x + 10000 * r : Nat) : Int) = (x : Int) + 10000 * r := by omega
  rw [← h, e, Int.mul_add, Int.mul_comm 10000 (10000 ^ p), Int.mul_assoc]
  omega
theorem sdiv_next {n p lo r' : Nat} {qs : List Int} {V M : Int} (hq : qs.getD p 0 = 0) (hpq : p < qs.length) (hle : n * lo ≤ r')
    (h : (n : Int) * val qs + 10000 ^ p * (r' : Int) + V = M) : (n : Int) * val (qs.set p lo) + 10000 ^ p * ((r' - n * lo : Nat) : Int) + V = M := by
  rw [val_set qs p lo hpq, hq, Int.sub_zero, Int.mul_add, Int.mul_left_comm (n : Int), ← h, Int.natCast_sub hle, Int.natCast_mul, Int.mul_sub]
  omega
end Nt
namespace Go.Proofs.YtifepoefeamboaaGreatDoor
open Go Go.RowKit Nt

set_option maxHeartbeats 400000 in
theorem l01Small_any (n : Nat) (w : World) (hn : n ≤ 9223372036854775807) :
    Calls Tryz.prog 117 #[.int .i64 (n : Int)] w (RetNew 3 w (D n)) := by
  have HN5 := Lib.hid (small_len hn)
  go_enter Tryz.func117, Tryz.ntmps117
  go_wp2
  go_loopw [0, 3] (fun q v wr => ∃ (j l : Nat) (out : List Int) (V : Option Addr) (cv : Nat), j ≤ n ∧ q = .int .i64 j ∧ v = .slice V l cv ∧ out.length = l ∧ D n = out ++ D j ∧ wr.ownsRow w.heap.size 3 1 (.slice V l cv) l (out.map (Value.int .i64)) ∧ Below w.heap.size w wr) (fun q _ _ => (intOf q).toNat)
  case atStart => exact ⟨n, 0, [], _, _, Nat.le_refl _, rfl, rfl, rfl, rfl, World.ownsRow_lit _ #[] 0 (Nat.le_refl _) (by decide) rfl, (Below.refl _ _).alloc (Nat.le_refl _) _⟩
  case round =>
    obtain ⟨j, l, out, V, cv, hj, rfl, rfl, hol, hd, hown, hb⟩ := hrel
    have hl5 : l ≤ 5 := by
      have := congrArg List.length hd
      rw [List.length_append] at this
      have := HN5.out
      omega
    have HOL := Lib.hid hol
    have HD := Lib.hid hd
    have HO := Lib.hid hown
    have HB := Lib.hid hb
    clear hol hd hown hb
    by_cases h0 : 0 < j
    · have hj0 : (0 : Int) < j := by omega
      have HD' : Hid (D n = (out ++ [((j % 10000 : Nat) : Int)]) ++ D (j / 10000)) := by
        show _ = _
        rw [HD.out, D_pos j h0]; simp
      clear HD
      go_wp2_with (at_builtin; refine wpList_append_ints _ rfl _ _ 29 rfl w.heap.size 3 Tryz.underlying29 infoInt V l cv out rfl (HO.out.alloc _) _ (some ⟨wr.heap.size, 0, none⟩) 1 1 [(j : Int) % 10000] rfl (rd_one _ _ _) (by omega) (by have := HB.out.size; simp; omega) ?_; intro V' c' w1 hown hg; have HO' := Lib.hid hown; have HB' := Lib.hid (below_app HB.out HO.out hg); clear hown hg)
      go_roundw
      case rel => exact ⟨j / 10000, l + 1, out ++ [((j % 10000 : Nat) : Int)], V', c', by omega, by congr 1, rfl, by simp [HOL.out], HD'.out, HO'.out, HB'.out⟩
      case measure => simp [intOf]; omega
    · obtain rfl : j = 0 := by omega
      have HD' : Hid (D n = out) := by show _ = _; rw [HD.out, D_zero, List.append_nil]
      clear HD
      go_wp2
      go_ret
      refine ⟨V, cv, ?_, ?_, HB.out⟩
      · rw [HD'.out, HOL.out]; rfl
      · rw [HD'.out, HOL.out]; exact HO.out

set_option maxHeartbeats 3200000 in
theorem l01Div_any (A B : Option Addr) (la ca lb cb m n : Nat) (P Q : Nat → Prop) (w : World) (hx0 : Rd w P A la ca (D m)) (hy0 : Rd w Q B lb cb (D n)) (hla : la ≤ 9000) (hlb : lb ≤ 9000) (hn : 0 < n) :
    Calls Tryz.prog 148 #[.slice A la ca, .slice B lb cb] w fun e w' => ∃ A1 c1 A2 c2, e = .returned (.tuple #[.slice A1 (D (m / n)).length c1, .slice A2 (D (m % n)).length c2]) ∧ w'.ownsRow w.heap.size 3 1 (.slice A1 (D (m / n)).length c1) (D (m / n)).length ((D (m / n)).map (Value.int .i64)) ∧
      Rd w' (w.heap.size ≤ ·) A2 (D (m % n)).length c2 (D (m % n)) ∧ Below w.heap.size w w' := by
  have hx : Rd w (· < w.heap.size) A la ca (D m) := hx0.mono fun _ _ h => h
  have hy : Rd w (· < w.heap.size) B lb cb (D n) := hy0.mono fun _ _ h => h
  have HX := Lib.hid hx
  have HY := Lib.hid hy
  have HLA := Lib.hid hx.len
  have HLB := Lib.hid hy.len
  clear hx0 hy0 hx hy
  have hmk := mk_ints la (by omega)
  go_enter Tryz.func148, Tryz.ntmps148
  go_wp2
  clear hmk
  go_loopw [7, 8] (fun v i wr => ∃ (k r : Nat) (qs : List Int) (V : Option Addr) (cv : Nat), k ≤ la ∧ i = .int .i64 ((k : Int) - 1) ∧ v = .slice V (D r).length cv ∧ r < n ∧ qs.length = la ∧ Limbs qs ∧ (∀ j, j < k → qs.getD j 0 = 0) ∧ (n : Int) * val qs + 10000 ^ k * r + val ((D m).take k) = m ∧ Arr wr w.heap.size 3 qs ∧ Rd wr (w.heap.size < ·) V (D r).length cv (D r) ∧ Below w.heap.size w wr) (fun _ i _ => (intOf i + 1).toNat)
  case atStart =>
    refine ⟨la, 0, zeros la, _, _, Nat.le_refl _, rfl, rfl, hn, zeros_len _, zeros_limbs _, fun j _ => zeros_getD _ j, ?_, heap_alloc2_old _ _ _, Rd.nil_ _ _ _ _ (fun h => by cases h), ((Below.refl _ _).alloc (Nat.le_refl _) _).alloc (by simp) _⟩
    rw [zeros_val, take_all_val _ _ (by have := HLA.out; omega), val_D]; simp
  case round =>
    obtain ⟨k, r, qs, V, cv, hk, rfl, rfl, hrn, hql, hqm, hqz, hM, harr, hrd, hb⟩ := hrel
    have HQL := Lib.hid hql
    have HQM := Lib.hid hqm
    have HQZ := Lib.hid hqz
    have HM := Lib.hid hM
    have HA := Lib.hid harr
    have HR := Lib.hid hrd
    have HB := Lib.hid hb
    clear hql hqm hqz hM harr hrd hb
    have hrl : (D r).length ≤ lb := by
      have h1 := D_bound n
      have h2 := HLB.out
      rw [D_len_le]
      have e := npow_cast lb
      rw [h2] at h1
      omega
    by_cases hk0 : 0 < k
    · obtain ⟨p, rfl⟩ : ∃ p, k = p + 1 := ⟨k - 1, by omega⟩
      rw [show ((p + 1 : Nat) : Int) - 1 = (p : Int) from by omega]
      obtain ⟨b1, o1, rfl, hP1, hl1, hcc1⟩ := HX.out.at_ (by omega)
      have hcx : wr.cell? ⟨b1, o1 + p, none⟩ = some (.int .i64 ((D m).getD p 0)) := (HB.out.cell (p := ⟨b1, o1 + p, none⟩) hP1).trans (hcc1 p (by omega))
      have hbx := limbs_getD (limbs_D m) p
      obtain ⟨x, hxe⟩ : ∃ x : Nat, (D m).getD p 0 = x := ⟨((D m).getD p 0).toNat, by omega⟩
      rw [hxe] at hcx hbx
      have HM' := Lib.hid (sdiv_start m p r x n (val qs) (by have := HLA.out; omega) hxe HM.out)
      have hx9 : x < 10000 := by omega
      clear hxe hcc1 HM hbx
      have hpi : (p : Int) < la := by omega
      have hsw := HB.out.size
      have hgl := HA.out.lt
      go_wp2_with (at_builtin; refine wpList_append_ints _ rfl _ _ 29 rfl (wr.heap.size) 3 Tryz.underlying29 infoInt (some ⟨wr.heap.size, 0, none⟩) 1 1 [(x : Int)] rfl (World.ownsRow_lit _ #[.int .i64 (x : Int)] 1 (Nat.le_refl _) (by decide) rfl) _ V (D r).length cv (D r) rfl (((HR.out.mono (Q := (· < wr.heap.size)) fun _ _ h => h).below ((Below.refl _ _).alloc (Nat.le_refl _) _))) (by omega) (by simp) ?_; intro V1 c1 w1 hown1 hg1; have HO1 := Lib.hid hown1; have HB1 : Hid (Below wr.heap.size wr w1) := ((Below.refl _ _).alloc (Nat.le_refl _) _).grown hg1 (by simp) (fun j h => by simp [Value.ownBlock] at h; omega); clear hown1 hg1)
      have hs1 := HB1.out.size
      have HNX : Hid (natOf ((x : Int) :: D r) = x + 10000 * r) := by show _ = _; rw [natOf_cons (by omega)]; omega
      have HLX : Hid (Limbs ((x : Int) :: D r)) := limbs_cons.2 ⟨by omega, limbs_D r⟩
      refine (l01Trim_any V1 (1 + (D r).length) c1 ((x : Int) :: D r) _ w1 (own_rd' HO1.out) HLX.out (by omega)).mono ?_
      rintro e w2 ⟨V2, c2, rfl, ho2, hb2⟩
      rw [HNX.out] at ho2 ⊢
      have hs2 := hb2.size
      have HR2 := Lib.hid ((own_rd' ho2).mono (Q := (w.heap.size < ·)) fun b h _ => by omega)
      have HB2 := Lib.hid (HB1.out.trans (hb2.mono hs1))
      have HA2 := Lib.hid (HA.out.keep (HB2.out.block _ hgl))
      have HW2 := Lib.hid (HB.out.trans (HB2.out.mono hsw))
      clear ho2 hb2 HO1 HB1 HB2 HA HR HNX HLX
      obtain ⟨r', hr'⟩ : ∃ r', r' = x + 10000 * r := ⟨_, rfl⟩
      rw [← hr'] at HR2 HM' ⊢
      have hr1 : r' < 10000 * n := by omega
      have hr2 : (D r').length ≤ lb + 1 := by
        have h1 := D_bound n
        have h2 := HLB.out
        rw [D_len_le]
        have e := npow_cast (lb + 1)
        rw [h2] at h1
        rw [pow_succ'] at e
        omega
      clear hr'
      go_wp2_with fail
      refine (l01Cmp_any V2 B (D r').length c2 lb cb r' n _ _ w2 HR2.out (HY.out.below HW2.out) (by omega) (by omega)).mono ?_
      rintro e w3 ⟨rfl, hd3⟩
      have HR3 := Lib.hid (hd3.rd HR2.out)
      have HA3 := Lib.hid (hd3.arr HA2.out)
      have HW3 := Lib.hid (HW2.out.trans (hd3.below _))
      have hs3 : w2.heap.size ≤ w3.heap.size := (hd3.below 0).size
      clear hd3 HR2 HA2 HW2
      by_cases hlt : r' < n
      · rw [cmpI_lt hlt]
        go_wp2
        go_roundw
        case rel => exact ⟨p, r', qs, V2, c2, by omega, rfl, rfl, hlt, HQL.out, HQM.out, fun j hj => HQZ.out j (by omega), HM'.out, HA3.out, HR3.out, HW3.out⟩
        case measure => simp [intOf]
      · obtain ⟨hc0, hc1⟩ := cmpI_ge hlt
        generalize cmpI r' n = cc at *
        go_wp2
        go_loopw [9, 10] (fun a b wr => ∃ (lo hi : Nat), lo < hi ∧ hi ≤ 10000 ∧ a = .int .i64 lo ∧ b = .int .i64 hi ∧ n * lo ≤ r' ∧ r' < n * hi ∧ Arr wr w.heap.size 3 qs ∧ Rd wr (w.heap.size < ·) V2 (D r').length c2 (D r') ∧ Below w.heap.size w wr) (fun a b _ => (intOf b - intOf a).toNat)
        case atStart => exact ⟨0, 10000, by omega, by omega, rfl, rfl, by omega, by omega, HA3.out, HR3.out, HW3.out⟩
        case round =>
          obtain ⟨lo, hi, hlh, hhi, rfl, rfl, hlo, hhi2, ha, hrd, hb⟩ := hrel
          have HA4 := Lib.hid ha
          have HR4 := Lib.hid hrd
          have HW4 := Lib.hid hb
          have HLO := Lib.hid hlo
          have HHI := Lib.hid hhi2
          clear ha hrd hb HA3 HR3 HW3 hlo hhi2
          have hgl4 := HA4.out.lt
          by_cases hgt : lo + 1 < hi
          · have hg1 : (1 : Int) < (hi : Int) - lo := by omega
            obtain ⟨mid, hmid⟩ : ∃ mid : Nat, mid = (lo + hi) / 2 := ⟨_, rfl⟩
            have hm1 : lo < mid := by omega
            have hm2 : mid < hi := by omega
            have HMID : Hid (((lo : Int) + hi) / 2 = mid) := by show _ = _; omega
            clear hmid
            go_wp2_with fail
            rw [HMID.out]
            refine (l01Small_any mid wr (by omega)).mono ?_
            rintro e w5 ⟨V5, c5, rfl, ho5, hb5⟩
            have hl5 := small_len (n := mid) (by omega)
            have hs5 := hb5.size
            have HO5 := Lib.hid ho5
            have HB5 := Lib.hid hb5
            have HW5 := Lib.hid (HW4.out.trans (hb5.mono HW4.out.size))
            clear ho5 hb5
            go_wp2_with fail
            refine (l01Mul_any B V5 lb cb (D mid).length c5 n mid _ _ w5 (HY.out.below HW5.out) (own_rd' HO5.out) (by omega) (by omega)).mono ?_
            rintro e w6 ⟨V6, c6, rfl, ho6, hb6⟩
            have hs6 := hb6.size
            have HB6 := Lib.hid (HB5.out.trans (hb6.mono hs5))
            have HA6 := Lib.hid (HA4.out.keep (HB6.out.block _ hgl4))
            have HR6 := Lib.hid (HR4.out.keep HB6.out.size fun b _ hb => HB6.out.block b hb)
            have HW6 := Lib.hid (HW4.out.trans (HB6.out.mono HW4.out.size))
            have HO6 := Lib.hid ho6
            have hl6 : (D (n * mid)).length ≤ lb + 5 := by
              have h1 := (D_len_le n lb).1 (by have := HLB.out; omega)
              have h2 := (D_len_le mid 5).1 hl5
              rw [D_len_le, Nat.pow_add]
              exact Nat.mul_lt_mul'' h1 h2
            clear ho6 hb6 HB6 HB5 HW5 HO5 HA4 HR4 HW4
            go_wp2_with fail
            refine (l01Cmp_any V6 V2 _ c6 (D r').length c2 (n * mid) r' _ _ w6 (own_rd' HO6.out) HR6.out (by omega) (by omega)).mono ?_
            rintro e w7 ⟨rfl, hd7⟩
            have HA7 := Lib.hid (hd7.arr HA6.out)
            have HR7 := Lib.hid (hd7.rd HR6.out)
            have HW7 := Lib.hid (HW6.out.trans (hd7.below _))
            clear hd7 HA6 HR6 HW6 HO6
            by_cases hle : n * mid ≤ r'
            · obtain ⟨hcz2, hcz⟩ := cmpI_le hle
              generalize cmpI (n * mid) r' = cz at *
              have HLE := Lib.hid hle
              clear hle
              go_wp2
              go_roundw
              case rel => exact ⟨mid, hi, by omega, hhi, rfl, rfl, HLE.out, HHI.out, HA7.out, HR7.out, HW7.out⟩
              case measure => simp [intOf]; omega
            · rw [cmpI_gt (show r' < n * mid by omega)]
              have HLE : Hid (r' < n * mid) := by show _ < _; omega
              clear hle
              go_wp2
              go_roundw
              case rel => exact ⟨lo, mid, by omega, by omega, rfl, rfl, HLO.out, HLE.out, HA7.out, HR7.out, HW7.out⟩
              case measure => simp [intOf]; omega
          · obtain rfl : hi = lo + 1 := by omega
            have hg1 : ((lo + 1 : Nat) : Int) - lo ≤ 1 := by omega
            have hfz := HA4.out.frozen p
            have hcc := HA4.out.cell p (by have := HQL.out; omega)
            have hst := HA4.out.set_ p (lo : Int)
            have HST := Lib.hid hst
            have hgs : wr.grownBy (wr.setCell ⟨w.heap.size, p, none⟩ (.int .i64 (lo : Int))) (some w.heap.size) := grown_set (World.grownBy.refl _ _) _
            have HRS := Lib.hid (HR4.out.keep hgs.size fun b hb hbl => hgs.block b hbl (fun e => by injection e with e; omega))
            have HWS := Lib.hid (HW4.out.setCell (p := ⟨w.heap.size, p, none⟩) (Nat.le_refl _) (.int .i64 (lo : Int)))
            have hss : (wr.setCell ⟨w.heap.size, p, none⟩ (.int .i64 (lo : Int))).heap.size = wr.heap.size := by simp [World.setCell]
            clear hst hgs HA4 HR4 HW4
            generalize qs.getD p 0 = old at hcc
            go_wp2_with fail
            generalize wr.setCell ⟨w.heap.size, p, none⟩ (.int .i64 (lo : Int)) = ws at *
            refine (l01Small_any lo ws (by omega)).mono ?_
            rintro e w5 ⟨V5, c5, rfl, ho5, hb5⟩
            have hl5 := small_len (n := lo) (by omega)
            have hs5 := hb5.size
            have HO5 := Lib.hid ho5
            have HB5 := Lib.hid hb5
            have HW5 := Lib.hid (HWS.out.trans (hb5.mono HWS.out.size))
            clear ho5 hb5
            go_wp2_with fail
            refine (l01Mul_any B V5 lb cb (D lo).length c5 n lo _ _ w5 (HY.out.below HW5.out) (own_rd' HO5.out) (by omega) (by omega)).mono ?_
            rintro e w6 ⟨V6, c6, rfl, ho6, hb6⟩
            have hs6 := hb6.size
            have HB6 := Lib.hid (HB5.out.trans (hb6.mono hs5))
            have HR6 := Lib.hid (HRS.out.keep HB6.out.size fun b _ hb => HB6.out.block b hb)
            have HO6 := Lib.hid ho6
            have hl6 : (D (n * lo)).length ≤ lb + 5 := by
              have h1 := (D_len_le n lb).1 (by have := HLB.out; omega)
              have h2 := (D_len_le lo 5).1 hl5
              rw [D_len_le, Nat.pow_add]
              exact Nat.mul_lt_mul'' h1 h2
            clear ho6 hb6 HB5 HW5 HO5
            go_wp2_with fail
            refine (l01Sub_any V2 V6 (D r').length c2 _ c6 r' (n * lo) _ _ w6 HR6.out (own_rd' HO6.out) (by omega) (by omega) HLO.out).mono ?_
            rintro e w7 ⟨V7, c7, rfl, ho7, hb7⟩
            have hs7 := hb7.size
            have HB7 := Lib.hid (HB6.out.trans (hb7.mono HB6.out.size))
            have hs67 := HB6.out.size
            have hws := HWS.out.size
            have HR7 := Lib.hid ((own_rd' ho7).mono (Q := (w.heap.size < ·)) fun b h _ => by omega)
            have HA7 := Lib.hid (HST.out.keep (HB7.out.block _ HST.out.lt))
            have HW7 := Lib.hid (HWS.out.trans (HB7.out.mono hws))
            clear ho7 hb7 HB6 HB7 HR6 HO6 HST HRS HWS
            go_wp2
            go_roundw
            case rel =>
              refine ⟨p, r' - n * lo, qs.set p (lo : Int), V7, c7, by omega, rfl, rfl, ?_, by rw [List.length_set]; exact HQL.out, limbs_set HQM.out p _ (by omega) (by omega), ?_, ?_, HA7.out, HR7.out, HW7.out⟩
              · have := HHI.out; rw [Nat.mul_add, Nat.mul_one] at this; omega
              · intro j hj
                have hz := HQZ.out j (by omega)
                simp only [List.getD, List.getElem?_set, if_neg (show ¬ p = j from by omega)] at hz ⊢
                exact hz
              · exact sdiv_next (HQZ.out p (by omega)) (by have := HQL.out; omega) HLO.out HM'.out
            case measure => simp [intOf]
    · obtain rfl : k = 0 := by omega
      have hM := HM.out
      simp only [Int.pow_zero, Int.one_mul, List.take_zero, val, Int.add_zero] at hM
      obtain ⟨e1, e2⟩ := div_done (r := (r : Int)) (q := val qs) (M := (m : Int)) (n := n) (by omega) (by omega) (by omega)
      have HNQ := Lib.hid (natOf_div HQM.out e1)
      have hrm : r = m % n := by
        rw [← Int.natCast_emod] at e2
        omega
      subst hrm
      clear hM e1 e2
      go_wp2_with fail
      refine (l01Trim_any _ la la qs (fun _ => True) wr (HA.out.rd_all _ trivial la la HQL.out.symm (Nat.le_refl _)) HQM.out (by omega)).mono ?_
      rintro e w1 ⟨A1, c1, rfl, ho1, hb1⟩
      rw [HNQ.out] at ho1 ⊢
      have hsz := HB.out.size
      have HO1 := Lib.hid (own_mono ho1 hsz)
      have HR1 := Lib.hid ((HR.out.keep hb1.size fun b _ hb => hb1.block b hb).mono (Q := (w.heap.size ≤ ·)) fun b h _ => by omega)
      have HB1 := Lib.hid (HB.out.trans (hb1.mono hsz))
      clear ho1 hb1
      go_wp2
      go_ret2
      exact ⟨A1, c1, V, cv, rfl, HO1.out, HR1.out, HB1.out⟩

end Go.Proofs.YtifepoefeamboaaGreatDoor
namespace Go.Proofs.YtifepoefeamboaaGreatDoor
open Go Go.RowKit Nt

set_option maxHeartbeats 800000 in
theorem l01Gcd_any (A B : Option Addr) (la ca lb cb m n : Nat) (P Q : Nat → Prop) (w : World) (hx0 : Rd w P A la ca (D m)) (hy0 : Rd w Q B lb cb (D n)) (hla : la ≤ 9000) (hlb : lb ≤ 9000) :
    Calls Tryz.prog 138 #[.slice A la ca, .slice B lb cb] w (RetNew 3 w (D (Nat.gcd m n))) := by
  have hxl := hx0.len
  have hyl := hy0.len
  subst hxl hyl
  have HX := Lib.hid (hx0.mono (Q := fun _ => True) fun _ _ _ => trivial)
  have HY := Lib.hid (hy0.mono (Q := fun _ => True) fun _ _ _ => trivial)
  clear hx0 hy0
  go_enter Tryz.func138, Tryz.ntmps138
  go_wp2
  go_loopg [0, 1] n (fun n' x y wr => ∃ (m' : Nat) (A' B' : Option Addr) (ca' cb' : Nat), x = .slice A' (D m').length ca' ∧ y = .slice B' (D n').length cb' ∧ (D m').length ≤ 9000 ∧ (D n').length ≤ 9000 ∧ Nat.gcd m' n' = Nat.gcd m n ∧ Rd wr (fun _ => True) A' (D m').length ca' (D m') ∧ Rd wr (fun _ => True) B' (D n').length cb' (D n') ∧ Below w.heap.size w wr)
  case atStart => exact ⟨m, A, B, ca, cb, rfl, rfl, hla, hlb, rfl, HX.out, HY.out, Below.refl _ _⟩
  case round =>
    obtain ⟨m', A', B', ca', cb', rfl, rfl, hml, hnl, hg, hrx, hry, hb⟩ := hrel
    have HG := Lib.hid hg
    have HRX := Lib.hid hrx
    have HRY := Lib.hid hry
    have HB := Lib.hid hb
    clear hg hrx hry hb HX HY
    have hsz := HB.out.size
    by_cases h0 : 0 < gk
    · have hlen : 0 < (D gk).length := by
        rw [List.length_pos_iff]
        intro e
        have := (D_nil_iff gk).1 e
        omega
      have hlen' : (0 : Int) < (D gk).length := by omega
      go_wp2_with fail
      refine (l01Div_any A' B' _ ca' _ cb' m' gk _ _ wr HRX.out HRY.out hml hnl h0).mono ?_
      rintro e w1 ⟨A1, c1, A2, c2, rfl, ho, hr, hb⟩
      have HR2 := Lib.hid (hr.mono (Q := fun _ => True) fun _ _ _ => trivial)
      have HY2 := Lib.hid (HRY.out.keep hb.size fun b _ hbl => hb.block b hbl)
      have HB2 := Lib.hid (HB.out.trans (hb.mono hsz))
      have hle : (D (m' % gk)).length ≤ 9000 := by
        have h1 := (D_len_le gk (D gk).length).1 (Nat.le_refl _)
        have h2 := Nat.mod_lt m' h0
        have := (D_len_le (m' % gk) (D gk).length).2 (by omega)
        omega
      clear ho hr hb
      go_wp2
      go_roundg (m' % gk)
      case measure => exact Nat.mod_lt _ h0
      case rel => exact ⟨gk, B', A2, cb', c2, rfl, rfl, hnl, hle, by rw [gcd_next]; exact HG.out, HY2.out, HR2.out, HB2.out⟩
    · obtain rfl : gk = 0 := by omega
      have HGE : Hid (m' = Nat.gcd m n) := by show _ = _; rw [← HG.out, Nat.gcd_zero_right]
      have hd0 : (D 0).length = 0 := rfl
      have HRC := Lib.hid ((HRX.out.mono (Q := (· < wr.heap.size)) fun _ _ h => h).below ((Below.refl wr.heap.size wr).alloc (Nat.le_refl _) (.cells #[] 3)))
      go_wp2_with (at_builtin; refine wpList_append_ints _ rfl _ _ 29 rfl wr.heap.size 3 Tryz.underlying29 infoInt (some ⟨wr.heap.size, 0, none⟩) 0 0 [] rfl (World.ownsRow_lit _ #[] 0 (Nat.le_refl _) (by decide) rfl) _ A' (D m').length ca' (D m') rfl HRC.out (by omega) (by simp) ?_; intro V' c' w1 hown hg)
      go_ret
      simp only [Nat.zero_add, List.nil_append] at hown
      have hbb : Below wr.heap.size wr w1 := ((Below.refl _ _).alloc (Nat.le_refl _) _).grown hg (by simp) (fun j h => by simp [Value.ownBlock] at h; omega)
      rw [← HGE.out]
      refine ⟨V', c', by simp, own_mono hown hsz, HB.out.trans (hbb.mono hsz)⟩

end Go.Proofs.YtifepoefeamboaaGreatDoor
