/-
  What is taken off: takeTimes, in a block whose first cells are known.
-/
import Derived.Test.YtgeijojkfojfbaaDoorFresh
import Derived.Test.YtgeijojkfojfbaaDoorMemX
namespace Nt
open Go Go.RowKit
/-- between pre and post block g now holds numbers that mean r, so many limbs; nothing else that was there has turned -/
def TookX (t : TypeId) (kx : Nat) (w : World) (g : Nat) (pre post : List Int) (len : Nat) (r : Int) (w' : World) : Prop :=
  ∃ ys : List Int, ys.length = len ∧ Limbs ys ∧ val ys = r ∧ Arx w' g t kx (pre ++ ys ++ post) ∧ w.grownBy w' (some g)
theorem set_midx (pre out rest post : List Int) (off k : Nat) (v : Int) (h1 : pre.length = off) (h2 : out.length = k) (h3 : k < (out ++ rest).length) :
    (pre ++ (out ++ rest) ++ post).set (off + k) v = pre ++ ((out ++ [v]) ++ rest.drop 1) ++ post := by
  obtain ⟨x, r, rfl⟩ : ∃ x r, rest = x :: r := by
    cases rest with
    | nil => simp at h3; omega
    | cons x r => exact ⟨x, r, rfl⟩
  subst h1 h2
  simp
theorem get_midx (pre out rest post : List Int) (off k : Nat) (h1 : pre.length = off) (h2 : out.length = k) (h3 : 0 < rest.length) : (pre ++ (out ++ rest) ++ post).getD (off + k) 0 = rest.getD 0 0 := by
  obtain ⟨x, r, rfl⟩ : ∃ x r, rest = x :: r := by
    cases rest with
    | nil => simp at h3
    | cons x r => exact ⟨x, r, rfl⟩
  subst h1 h2
  simp [List.getD]
end Nt
namespace Go.Proofs.YtgeijojkfojfbaaDoor
open Go Go.RowKit Nt

set_option maxHeartbeats 1600000 in
theorem takeTimes_x (g off nr cr kx : Nat) (t : TypeId) (pre xs post : List Int) (B : Option Addr) (lb cb n : Nat) (times : Int) (w : World)
    (hf : Arx w g t kx (pre ++ xs ++ post)) (hoff : pre.length = off) (hnr : xs.length = nr) (hb : Rd w (· ≠ g) B lb cb (D n)) (hl : Limbs xs) (ht0 : 0 ≤ times) (ht1 : times ≤ 10000) (hle : (n : Int) * times ≤ val xs)
    (hN : nr ≤ 10000) (hlb : lb ≤ 10000) (_hoffN : off ≤ 10000) :
    Calls Tryd.prog 81 #[.slice (some ⟨g, off, none⟩) nr cr, .slice B lb cb, .int .i64 times] w fun e w' => e = .returned (.tuple #[]) ∧ TookX t kx w g pre post nr (val xs - n * times) w' := by
  have HF := Lib.hid hf
  have HOFF := Lib.hid hoff
  have HNR := Lib.hid hnr
  have HBR := Lib.hid hb
  have HL := Lib.hid hl
  have HLE := Lib.hid hle
  have HLB := Lib.hid hb.len
  clear hf hoff hnr hb hl hle
  go_enter Tryd.func81, Tryd.ntmps81
  go_wp2
  go_loopw [6, 12] (fun b i wr => ∃ (k : Nat) (q : Int) (out : List Int), k ≤ nr ∧ i = .int .i64 k ∧ b = .int .i64 q ∧ 0 ≤ q ∧ q ≤ 10001 ∧ out.length = k ∧ Limbs out ∧ val out + 10000 ^ k * (vd xs k - q - vd (D n) k * times) = val xs - n * times ∧ Arx wr g t kx (pre ++ (out ++ xs.drop k) ++ post) ∧ w.grownBy wr (some g)) (fun _ i _ => nr - (intOf i).toNat)
  case atStart => exact ⟨0, 0, [], Nat.zero_le _, rfl, rfl, by omega, by omega, rfl, limbs_nil, by simp [vd_zero, val_D, val], by simpa using HF.out, World.grownBy.refl _ _⟩
  case round =>
    obtain ⟨k, q, out, hk, rfl, rfl, hq0, hq1, hol, hlim, hval, harr, hgr⟩ := hrel
    have HOL := Lib.hid hol
    have HLM := Lib.hid hlim
    have HV := Lib.hid hval
    have HA := Lib.hid harr
    have HG := Lib.hid hgr
    clear hol hlim hval harr hgr
    by_cases hlt : k < nr
    · have hbx := limbs_getD HL.out k
      have hfz := HA.out.frozen (off + k)
      have HSET : Hid (∀ v, (pre ++ (out ++ xs.drop k) ++ post).set (off + k) v = pre ++ ((out ++ [v]) ++ xs.drop (k + 1)) ++ post) := by
        intro v
        rw [set_midx pre out (xs.drop k) post off k v HOFF.out HOL.out (by have := HNR.out; simp [HOL.out]; omega), List.drop_drop]
      have hcx := HA.out.cell (off + k) (by have := HNR.out; have := HOFF.out; have := HOL.out; simp; omega)
      rw [get_midx pre out (xs.drop k) post off k HOFF.out HOL.out (by have := HNR.out; simp; omega)] at hcx
      have hx0 : (xs.drop k).getD 0 0 = xs.getD k 0 := by simp [List.getD]
      rw [hx0] at hcx
      clear hx0
      generalize hxk : xs.getD k 0 = x at *
      have HXK := Lib.hid hxk
      clear hxk
      by_cases hlt2 : k < lb
      · obtain ⟨b2, o2, eB, hP2, hb2, hcc2⟩ := HBR.out.at_ (by omega)
        subst eB
        have hcy : wr.cell? ⟨b2, o2 + k, none⟩ = some (.int .i64 ((D n).getD k 0)) := (World.cell?_of_block (a := ⟨b2, o2 + k, none⟩) (HG.out.block b2 hb2 (fun e => hP2 (by injection e)))).trans (hcc2 k hlt2)
        have hby := limbs_getD (limbs_D n) k
        generalize hyk : (D n).getD k 0 = y at *
        have HYK := Lib.hid hyk
        clear hyk hcc2
        have hd : decide ((lb : Int) ≤ k) = false := by simp; omega
        have hmul := limb_times hby.1 hby.2 ht0 ht1
        obtain ⟨hmul0, hmul1⟩ := hmul
        have hp0 : 0 ≤ q + y * times := by omega
        by_cases hneg : x - (q + y * times) % 10000 < 0
        · have HSTEP := Lib.hid (take_step xs (D n) out k q times (x - (q + y * times) % 10000 + 10000) ((q + y * times) / 10000 + 1) HOL.out (by rw [HXK.out, HYK.out]; omega))
          have hst := HA.out.set_ (off + k) (x - (q + y * times) % 10000 + 10000)
          rw [HSET.out (x - (q + y * times) % 10000 + 10000)] at hst
          have HST := Lib.hid hst
          have HLM' := Lib.hid (limbs_append.2 ⟨HLM.out, limbs_cons.2 ⟨(show 0 ≤ x - (q + y * times) % 10000 + 10000 ∧ x - (q + y * times) % 10000 + 10000 < 10000 from by omega), limbs_nil⟩⟩)
          clear hst HA HLM HSET
          go_wp2
          go_roundw
          case rel => exact ⟨k + 1, (q + y * times) / 10000 + 1, out ++ [x - (q + y * times) % 10000 + 10000], by omega, by go_num, by go_num, by omega, by omega, by simp [HOL.out], HLM'.out, HSTEP.out.trans HV.out, HST.out, grown_set HG.out _⟩
          case measure => simp [intOf]; omega
        · have HSTEP := Lib.hid (take_step xs (D n) out k q times (x - (q + y * times) % 10000) ((q + y * times) / 10000) HOL.out (by rw [HXK.out, HYK.out]; omega))
          have hst := HA.out.set_ (off + k) (x - (q + y * times) % 10000)
          rw [HSET.out (x - (q + y * times) % 10000)] at hst
          have HST := Lib.hid hst
          have HLM' := Lib.hid (limbs_append.2 ⟨HLM.out, limbs_cons.2 ⟨(show 0 ≤ x - (q + y * times) % 10000 ∧ x - (q + y * times) % 10000 < 10000 from by omega), limbs_nil⟩⟩)
          clear hst HA HLM HSET
          go_wp2
          go_roundw
          case rel => exact ⟨k + 1, (q + y * times) / 10000, out ++ [x - (q + y * times) % 10000], by omega, by go_num, by go_num, by omega, by omega, by simp [HOL.out], HLM'.out, HSTEP.out.trans HV.out, HST.out, grown_set HG.out _⟩
          case measure => simp [intOf]; omega
      · have hy0 : (D n).getD k 0 = 0 := by simp [List.getD, HLB.out, show lb ≤ k from by omega]
        have HYK := Lib.hid hy0
        clear hy0
        have hd : decide ((lb : Int) ≤ k) = true := by simp; omega
        by_cases hq : q = 0
        · have HFIN : Hid (val (out ++ xs.drop k) = val xs - n * times) := by
            show _ = _
            have := HV.out
            rw [hq, vd_end (D n) k (by have := HLB.out; omega)] at this
            rw [val_append, HOL.out]
            simpa [vd] using this
          subst hq
          clear HSET
          go_wp2
          refine bodyPost_ret (results_none rfl _ _ _) rfl ?_
          exact ⟨rfl, out ++ xs.drop k, by have := HNR.out; simp [HOL.out]; omega, limbs_append.2 ⟨HLM.out, limbs_drop HL.out k⟩, HFIN.out, HA.out, HG.out⟩
        · have hq' : (q == 0) = false := by simpa using hq
          by_cases hneg : x - q % 10000 < 0
          · have HSTEP := Lib.hid (take_step xs (D n) out k q times (x - (q) % 10000 + 10000) ((q) / 10000 + 1) HOL.out (by rw [HXK.out, HYK.out]; rw [Int.zero_mul]; omega))
            have hst := HA.out.set_ (off + k) (x - (q) % 10000 + 10000)
            rw [HSET.out (x - (q) % 10000 + 10000)] at hst
            have HST := Lib.hid hst
            have HLM' := Lib.hid (limbs_append.2 ⟨HLM.out, limbs_cons.2 ⟨(show 0 ≤ x - (q) % 10000 + 10000 ∧ x - (q) % 10000 + 10000 < 10000 from by omega), limbs_nil⟩⟩)
            clear hst HA HLM HSET
            go_wp2
            go_roundw
            case rel => exact ⟨k + 1, (q) / 10000 + 1, out ++ [x - (q) % 10000 + 10000], by omega, by go_num, by go_num, by omega, by omega, by simp [HOL.out], HLM'.out, HSTEP.out.trans HV.out, HST.out, grown_set HG.out _⟩
            case measure => simp [intOf]; omega
          · have HSTEP := Lib.hid (take_step xs (D n) out k q times (x - (q) % 10000) ((q) / 10000) HOL.out (by rw [HXK.out, HYK.out]; rw [Int.zero_mul]; omega))
            have hst := HA.out.set_ (off + k) (x - (q) % 10000)
            rw [HSET.out (x - (q) % 10000)] at hst
            have HST := Lib.hid hst
            have HLM' := Lib.hid (limbs_append.2 ⟨HLM.out, limbs_cons.2 ⟨(show 0 ≤ x - (q) % 10000 ∧ x - (q) % 10000 < 10000 from by omega), limbs_nil⟩⟩)
            clear hst HA HLM HSET
            go_wp2
            go_roundw
            case rel => exact ⟨k + 1, (q) / 10000, out ++ [x - (q) % 10000], by omega, by go_num, by go_num, by omega, by omega, by simp [HOL.out], HLM'.out, HSTEP.out.trans HV.out, HST.out, grown_set HG.out _⟩
            case measure => simp [intOf]; omega
    · obtain rfl : k = nr := by omega
      have HFIN : Hid (val out = val xs - n * times) := by
        show _ = _
        have h1 := HV.out
        rw [vd_end xs k (by have := HNR.out; omega)] at h1
        have h2 := vd_nonneg (limbs_D n) k
        have h3 := val_lt HLM.out
        rw [HOL.out] at h3
        have h4 := take_end h3 (pow_pos' k) (show 0 ≤ q + vd (D n) k * times from by have := Int.mul_nonneg h2 ht0; omega) (show 0 ≤ val xs - n * times from by have := HLE.out; omega)
          (by rw [← h1]; congr 2; omega)
        rw [show (0 : Int) - q - vd (D n) k * times = 0 from by omega, Int.mul_zero, Int.add_zero] at h1
        exact h1
      have HA' : Hid (Arx wr g t kx (pre ++ out ++ post)) := by
        show Arx _ _ _ _ _
        have := HA.out
        rw [drop_end xs k (by have := HNR.out; omega), List.append_nil] at this
        exact this
      clear HA
      go_wp2
      go_end0
      exact ⟨rfl, out, HOL.out, HLM.out, HFIN.out, HA'.out, HG.out⟩
end Go.Proofs.YtgeijojkfojfbaaDoor
