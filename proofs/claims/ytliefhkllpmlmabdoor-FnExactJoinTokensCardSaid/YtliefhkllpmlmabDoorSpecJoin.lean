/-
  JoinTokens of the model.
-/
import Derived.Test.YtliefhkllpmlmabDoorTokTxt
import Derived.Deep.AppendLies
namespace Nt
open Go Go.RowKit
def wordV (x : Tk) : Value := .string ⟨(tokT x).toArray⟩
/-- the slice reads as the tokens' texts -/
def RdW (w : World) (P : Nat → Prop) (A : Option Addr) (n c : Nat) (ks : List Tk) : Prop :=
  0 < n → ∃ b o, A = some ⟨b, o, none⟩ ∧ P b ∧ b < w.heap.size ∧ ∀ i, i < n → w.cell? ⟨b, o + i, none⟩ = some (wordV (ks.getD i tk0))
theorem words_snoc (ks : List Tk) (k : Nat) (h : k < ks.length) : (ks.take (k + 1)).map wordV = (ks.take k).map wordV ++ [wordV (ks.getD k tk0)] := by
  rw [List.take_succ_eq_append_getElem h, List.map_append]
  simp [List.getD, h]
theorem row_words {w : World} {base n c : Nat} {t : TypeId} {V : Option Addr} {ks : List Tk} (h : w.ownsRow base t 1 (.slice V n c) n ((ks.take n).map wordV)) (hl : ks.length = n) : RdW w (fun _ => True) V n c ks := by
  intro hn
  rcases h.2 with ⟨e, h0⟩ | ⟨g, cap, cur, e', hb, hh, _⟩
  · omega
  · injection e' with e1 e2 e3
    subst e1
    have hcell := h.cellAt
    refine ⟨g, 0, rfl, trivial, (Array.getElem?_eq_some_iff.1 hh).1, fun i hi => ?_⟩
    rw [Nat.zero_add]
    have := hcell i (by omega)
    rw [this, List.take_of_length_le (by omega)]
    simp [List.getD, hl, hi]
end Nt
namespace Go.Proofs.YtliefhkllpmlmabDoor
open Go Go.RowKit Nt
theorem infoStr : (Tryd.prog.info? 9).map (fun i => (i.zero, i.size, i.bytes)) = some (some (.string ⟨#[]⟩), 1, 16) := by kernel_rfl

set_option maxHeartbeats 1600000 in
theorem l00Join_any (A : Option Addr) (n c : Nat) (ks : List Tk) (P : Nat → Prop) (w : World) (hr : RdW w P A n c ks) (hok : ks.all tkB = true) (hl : ks.length = n) (hn : n ≤ 400) :
    Calls Tryd.prog 81 #[.slice A n c, .string ⟨#[32]⟩] w fun e w' => e = .returned (.string ⟨(jK ks n).toArray⟩) ∧ w = w' := by
  have HR := Lib.hid hr
  have HOK := Lib.hid hok
  have HL := Lib.hid hl
  clear hr hok hl
  go_enter Tryd.func81, Tryd.ntmps81
  go_wp2
  go_loop [5, 6] (fun t i => ∃ k : Nat, k ≤ n ∧ i = .int .i64 k ∧ t = .string ⟨(jK ks k).toArray⟩) (fun _ i => n - (intOf i).toNat)
  case atStart => exact ⟨0, Nat.zero_le _, rfl, rfl⟩
  case round =>
    obtain ⟨k, hk, rfl, rfl⟩ := hrel
    by_cases hlt : k < n
    · obtain ⟨b, o, rfl, hP, _, hc⟩ := HR.out (by omega)
      have q0 := hc k hlt
      have htk := allT_at HOK.out (k := k) (by rw [HL.out]; exact hlt)
      have htl := tokT_len htk
      have hjl := jK_len HOK.out k (by rw [HL.out]; omega)
      have HSTEP : Hid (jK ks (k + 1) = (if 0 < k then jK ks k ++ [32] else jK ks k) ++ tokT (ks.getD k tk0)) := rfl
      unfold wordV at q0
      generalize tokT (ks.getD k tk0) = tt at *
      have hkn : (k : Int) < n := by omega
      clear hc htk
      by_cases h0 : 0 < k
      · have z0 : decide ((0 : Int) < k) = true := by simp; omega
        rw [if_pos h0] at HSTEP
        have hs1 : ¬ 9223372036854775807 < (jK ks k).length + 1 := by omega
        have hs2 : ¬ 9223372036854775807 < (jK ks k).length + 1 + tt.length := by omega
        have HA1 := Lib.hid (str_app (jK ks k) [32])
        have HA2 := Lib.hid (str_app (jK ks k ++ [32]) tt)
        go_wp2
        go_round
        case rel => exact ⟨k + 1, by omega, by go_num, by rw [HSTEP.out, ← HA2.out, ← HA1.out]⟩
        case measure => simp [intOf]; omega
      · have z0 : decide ((0 : Int) < k) = false := by simp; omega
        rw [if_neg h0] at HSTEP
        have hs2 : ¬ 9223372036854775807 < (jK ks k).length + tt.length := by omega
        have HA2 := Lib.hid (str_app (jK ks k) tt)
        go_wp2
        go_round
        case rel => exact ⟨k + 1, by omega, by go_num, by rw [HSTEP.out, ← HA2.out]⟩
        case measure => simp [intOf]; omega
    · obtain rfl : k = n := by omega
      go_wp2
      go_ret
      exact ⟨rfl, rfl⟩

set_option maxHeartbeats 1600000 in
theorem l04Join_any (A : Option Addr) (n c : Nat) (ks : List Tk) (P : Nat → Prop) (w : World) (hr : RdT w P A n c ks) (hok : ks.all tkB = true) (hn : n ≤ 400) :
    Calls Tryd.prog 51 #[.slice A n c] w fun e w' => e = .returned (.string ⟨(jK ks n).toArray⟩) ∧ Below w.heap.size w w' := by
  have HR := Lib.hid (hr.mono (Q := (· < w.heap.size)) fun _ _ h => h)
  have HL := Lib.hid hr.1
  have HOK := Lib.hid hok
  have HB0 : Hid (Below w.heap.size w (w.alloc (.cells #[] 9))) := (Below.refl _ _).alloc (Nat.le_refl _) _
  clear hr hok
  go_enter Tryd.func51, Tryd.ntmps51
  go_wp2
  go_loopw [3, 4] (fun v i wr => ∃ (k : Nat) (V : Option Addr) (cv : Nat), k ≤ n ∧ i = .int .i64 k ∧ v = .slice V k cv ∧ Hid (wr.ownsRow w.heap.size 9 1 (.slice V k cv) k ((ks.take k).map wordV)) ∧ Hid (Below w.heap.size w wr)) (fun _ i _ => n - (intOf i).toNat)
  case atStart => exact ⟨0, _, 0, Nat.zero_le _, rfl, rfl, Lib.hid (World.ownsRow_lit w #[] 0 (Nat.le_refl _) (by decide) rfl), HB0⟩
  case round =>
    obtain ⟨k, V, cv, hk, rfl, rfl, HO, HB⟩ := hrel
    by_cases hlt : k < n
    · obtain ⟨b, o, rfl, hP, _, hc⟩ := HR.out.2.2.2 (by omega)
      have e4 := (hc k hlt).keep (HB.out.block b hP)
      have htk := allT_at HOK.out (k := k) (by rw [HL.out]; exact hlt)
      have HSN := Lib.hid (words_snoc ks k (by rw [HL.out]; exact hlt))
      obtain ⟨x, hx⟩ : ∃ x, ks.getD k tk0 = x := ⟨_, rfl⟩
      rw [hx] at e4 htk HSN
      clear hx hc
      obtain ⟨tk, tn, ts⟩ := x
      obtain ⟨q0, q1, q2⟩ := e4
      dsimp only at q0 q1 q2
      have hkn : (k : Int) < n := by omega
      have HTX := Lib.hid (fun (W : World) => l04Text_any tk tn ts W htk)
      have HWV : Hid (wordV (tk, tn, ts) = .string ⟨(tokT (tk, tn, ts)).toArray⟩) := rfl
      rw [HWV.out] at HSN
      generalize tokT (tk, tn, ts) = tt at *
      clear htk HWV
      go_wp2_with fail
      refine (HTX.out wr).mono ?_
      rintro e w1 ⟨rfl, b1⟩
      have HB1 := Lib.hid (HB.out.trans (b1.mono HB.out.size))
      have HO1 : Hid (w1.ownsRow w.heap.size 9 1 (.slice V k cv) k ((ks.take k).map wordV)) := HO.out.kept (row := none) ⟨b1.os, b1.tape, b1.output, b1.size, fun j hj _ => b1.block j hj⟩ (by cases hv : (Value.slice V k cv).ownBlock with | none => exact .inl rfl | some g => exact .inr (by simp))
      have hs1 := HB1.out.size
      clear b1 q0 q1 q2 HO HB
      obtain ⟨i0, hi0, hz0, hz1, hz2⟩ := info_parts infoStr
      go_wp2_with (at_builtin; refine wpList_append_lies _ rfl _ _ 108 rfl w.heap.size 9 i0 _ 1 16 Tryd.underlying108 hi0 hz0 hz1 hz2 rfl (by decide) _ k _ rfl (HO1.out.alloc _) ⟨w1.heap.size, 0, none⟩ 1 1 [.string ⟨tt.toArray⟩] rfl rfl (by intro j u hj; match j, hj with | 0, hj => simp at hj; subst hj; simp [Addr.add]) (by intro u hu; simp at hu; subst hu; rfl) (by decide) (by unfold maxLen; omega) (by omega) (by simp; omega) _ rfl ?_; intro g' cv' w2 hown hgrow hat hlt2)
      have HO2 : Hid (w2.ownsRow w.heap.size 9 1 (.slice (some ⟨g', 0, none⟩) (k + 1) cv') (k + 1) ((ks.take (k + 1)).map wordV)) := by rw [HSN.out]; exact hown
      have HB2 : Hid (Below w.heap.size w w2) := (HB1.out.alloc HB1.out.size _).trans ⟨hgrow.os, hgrow.tape, hgrow.output, hgrow.size, fun j hj => hgrow.block j (by simp; omega) (fun e => by have := ((HO1.out.alloc (.cells #[.string ⟨tt.toArray⟩] 9)).lt _ e.symm).1; omega)⟩
      clear hown hgrow hat hlt2 HO1 HB1
      go_wp2
      go_roundw
      case rel => exact ⟨k + 1, _, _, by omega, by go_num, rfl, HO2, HB2⟩
      case measure => simp [intOf]; omega
    · obtain rfl : k = n := by omega
      have HW := Lib.hid (row_words HO.out HL.out)
      go_wp2_with fail
      refine (l00Join_any V k cv ks _ wr HW.out HOK.out HL.out hn).mono ?_
      rintro e w3 ⟨rfl, rfl⟩
      go_wp2
      go_ret
      exact ⟨rfl, HB.out⟩

set_option maxHeartbeats 1600000 in
theorem specJoinTokens_any (A : Option Addr) (n c : Nat) (ks : List Tk) (P : Nat → Prop) (w : World) (hr : RdT w P A n c ks) (hs : SmallT ks) (hn : n ≤ 1048576) :
    Calls Tryd.prog 26 #[.slice A n c] w fun e w' => e = .returned (.tuple #[.string ⟨(txtJ ks).toArray⟩, .int .i64 (codeJ ks)]) ∧ Below w.heap.size w w' := by
  have HR := Lib.hid (hr.mono (Q := (· < w.heap.size)) fun _ _ h => h)
  have HL := Lib.hid hr.1
  have HS := Lib.hid hs
  clear hr hs
  by_cases h1 : 4096 < n
  · have HV : Hid (codeJ ks = 2 ∧ txtJ ks = []) := by
      have e : codeJ ks = 2 := by unfold codeJ; rw [if_pos (by rw [HL.out]; exact h1)]
      exact ⟨e, by unfold txtJ; rw [e]; rfl⟩
    have z1 : decide ((4096 : Int) < n) = true := by simp; omega
    clear h1
    go_enter Tryd.func26, Tryd.ntmps26
    go_wp2
    go_ret2
    exact ⟨by rw [HV.out.1, HV.out.2]; rfl, Below.refl _ _⟩
  have z1 : decide ((4096 : Int) < n) = false := by simp; omega
  by_cases h2 : 400 < n
  · have HV : Hid (codeJ ks = 6 ∧ txtJ ks = []) := by
      have e : codeJ ks = 6 := by unfold codeJ; rw [if_neg (by rw [HL.out]; exact h1), if_pos (by rw [HL.out]; exact h2)]
      exact ⟨e, by unfold txtJ; rw [e]; rfl⟩
    have z2 : decide ((400 : Int) < n) = true := by simp; omega
    clear h1 h2
    go_enter Tryd.func26, Tryd.ntmps26
    go_wp2
    go_ret2
    exact ⟨by rw [HV.out.1, HV.out.2]; rfl, Below.refl _ _⟩
  have z2 : decide ((400 : Int) < n) = false := by simp; omega
  have HBAD : Hid (ks.all tkB = false → codeJ ks = 1 ∧ txtJ ks = []) := fun h => by
    have e : codeJ ks = 1 := by unfold codeJ; rw [if_neg (by rw [HL.out]; exact h1), if_neg (by rw [HL.out]; exact h2), if_neg (by rw [h]; decide)]
    exact ⟨e, by unfold txtJ; rw [e]; rfl⟩
  have HGOOD : Hid (ks.all tkB = true → codeJ ks = 0 ∧ txtJ ks = jK ks n) := fun h => by
    have e : codeJ ks = 0 := by unfold codeJ; rw [if_neg (by rw [HL.out]; exact h1), if_neg (by rw [HL.out]; exact h2), if_pos h]
    exact ⟨e, by unfold txtJ; rw [if_pos e, HL.out]⟩
  have hn4 : n ≤ 400 := by omega
  clear h1 h2
  go_enter Tryd.func26, Tryd.ntmps26
  go_wp2
  go_loopw [4] (fun i wr => ∃ k : Nat, k ≤ n ∧ i = .int .i64 k ∧ Hid (∀ j, j < k → tkB (ks.getD j tk0) = true) ∧ Hid (Below w.heap.size w wr)) (fun i _ => n - (intOf i).toNat)
  case atStart => exact ⟨0, Nat.zero_le _, rfl, Lib.hid (fun j hj => by omega), Lib.hid (Below.refl _ _)⟩
  case round =>
    obtain ⟨k, hk, rfl, HK, HB⟩ := hrel
    by_cases hlt : k < n
    · obtain ⟨b, o, rfl, hP, _, hc⟩ := HR.out.2.2.2 (by omega)
      have e4 := (hc k hlt).keep (HB.out.block b hP)
      have HNO : Hid (tkB (ks.getD k tk0) = false → codeJ ks = 1 ∧ txtJ ks = []) := fun h => HBAD.out (allT_no (by rw [HL.out]; exact hlt) h)
      have HYES : Hid (tkB (ks.getD k tk0) = true → ∀ j, j < k + 1 → tkB (ks.getD j tk0) = true) := fun h j hj => by
        by_cases e : j = k
        · subst e; exact h
        · exact HK.out j (by omega)
      have hss := HS.out.at_ k (by rw [HL.out]; exact hlt)
      obtain ⟨x, hx⟩ : ∃ x, ks.getD k tk0 = x := ⟨_, rfl⟩
      rw [hx] at e4 HNO HYES hss
      clear hx hc
      obtain ⟨tk, tn, ts⟩ := x
      obtain ⟨q0, q1, q2⟩ := e4
      dsimp only at q0 q1 q2 hss
      have hkn : (k : Int) < n := by omega
      go_wp2_with fail
      refine (specTokenOK_any tk tn ts wr hss).mono ?_
      rintro e w1 ⟨rfl, bb⟩
      have HB1 := Lib.hid (HB.out.trans (bb.mono HB.out.size))
      clear bb q0 q1 q2
      cases hf : tokB tk tn ts with
      | true =>
        have HF := Lib.hid (HYES.out hf)
        clear HYES HNO hf
        go_wp2
        go_roundw
        case rel => exact ⟨k + 1, by omega, by go_num, HF, HB1⟩
        case measure => simp [intOf]; omega
      | false =>
        have HF := Lib.hid (HNO.out hf)
        clear HYES HNO hf
        go_wp2
        go_ret2
        exact ⟨by rw [HF.out.1, HF.out.2]; rfl, HB1.out⟩
    · obtain rfl : k = n := by omega
      have hall : ks.all tkB = true := allT_yes fun j hj => HK.out j (by have := HL.out; omega)
      have HV := Lib.hid (HGOOD.out hall)
      have HJ := Lib.hid (fun (W : World) (h : RdT W (· < w.heap.size) A k c ks) => l04Join_any A k c ks _ W h hall hn4)
      clear hall HK
      go_wp2_with fail
      refine (HJ.out wr (HR.out.below HB.out)).mono ?_
      rintro e w3 ⟨rfl, b3⟩
      have HB3 := Lib.hid (HB.out.trans (b3.mono HB.out.size))
      clear b3
      go_wp2
      go_ret2
      exact ⟨by rw [HV.out.1, HV.out.2]; rfl, HB3.out⟩
end Go.Proofs.YtliefhkllpmlmabDoor
