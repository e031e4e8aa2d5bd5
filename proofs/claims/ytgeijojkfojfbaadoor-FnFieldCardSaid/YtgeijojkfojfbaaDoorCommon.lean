/-
  What is common to two: commonLimbs, and GcdNat of the program by it.
-/
import Derived.Test.YtgeijojkfojfbaaDoorLimbs
namespace Nt
open Go Go.RowKit
theorem gcd_next (m n : Nat) : Nat.gcd n (m % n) = Nat.gcd m n := by
  rw [Nat.gcd_comm n (m % n), ← Nat.gcd_rec, Nat.gcd_comm]
theorem gcd_lt_top {m n : Nat} (hm : m < Top) (hn : n < Top) : Nat.gcd m n < Top := by
  rcases Nat.eq_zero_or_pos m with h | h
  · subst h; rw [Nat.gcd_zero_left]; exact hn
  · exact Nat.lt_of_le_of_lt (Nat.gcd_le_left n h) hm
theorem own_at_block {w w' : World} {base n c : Nat} {e : TypeId} {A : Option Addr} {xs : List Value} (h : w.ownsRow base e 1 (.slice A n c) n xs) (hk : ∀ g, A = some ⟨g, 0, none⟩ → w'.heap[g]? = w.heap[g]?) : w'.ownsRow base e 1 (.slice A n c) n xs := by
  rcases h with ⟨h1, h2 | ⟨g, cap, cur, e', hg, h3, h4⟩⟩
  · exact ⟨h1, .inl h2⟩
  · have hA : A = some ⟨g, 0, none⟩ := by injection e'
    exact ⟨h1, .inr ⟨g, cap, cur, e', hg, (hk g hA).trans h3, h4⟩⟩
theorem D_len_mod {m n : Nat} (h : 0 < n) : (D (m % n)).length ≤ (D n).length := by
  have h1 := (D_len_le n (D n).length).1 (Nat.le_refl _)
  have h2 := Nat.mod_lt m h
  exact (D_len_le (m % n) (D n).length).2 (by omega)
theorem D_len_mod' (m n : Nat) : (D (m % n)).length ≤ (D m).length := by
  have h1 := (D_len_le m (D m).length).1 (Nat.le_refl _)
  have h2 := Nat.mod_le m n
  exact (D_len_le (m % n) (D m).length).2 (by omega)
theorem D_len_pos {m : Nat} (h : 0 < m) : 0 < (D m).length := by
  rw [List.length_pos_iff]
  intro e
  have := (D_nil_iff m).1 e
  omega
end Nt
namespace Go.Proofs.YtgeijojkfojfbaaDoor
open Go Go.RowKit Nt

set_option maxHeartbeats 1600000 in
theorem commonLimbs_any (A B : Option Addr) (la ca lb cb m n : Nat) (P Q : Nat → Prop) (w : World) (hx0 : Rd w P A la ca (D m)) (hy0 : Rd w Q B lb cb (D n)) (hla : la ≤ 1000) (hlb : lb ≤ 1000) :
    Calls Tryd.prog 35 #[.slice A la ca, .slice B lb cb] w (RetNew 3 w (D (Nat.gcd m n))) := by
  have HX := Lib.hid (hx0.mono (Q := (· < w.heap.size)) fun _ _ h => h)
  have HY := Lib.hid (hy0.mono (Q := (· < w.heap.size)) fun _ _ h => h)
  have HXL := Lib.hid hx0.len
  have HYL := Lib.hid hy0.len
  clear hx0 hy0
  go_enter Tryd.func35, Tryd.ntmps35
  go_upto_region 1 with fail
  go_cut [5] (fun s5 wx => ∃ N : Nat, la ≤ N ∧ lb ≤ N ∧ N ≤ 1000 ∧ s5 = .slice (some ⟨w.heap.size, 0, none⟩) N N ∧ w.alloc (.cells (cellsOf (zeros N)) 3) = wx)
  case first =>
    by_cases hab : la < lb
    · have hm := mk_ints lb (by omega)
      have hd : (la : Int) < lb := by omega
      go_wp2_with fail
      go_meet
      exact ⟨lb, by omega, Nat.le_refl _, hlb, rfl, rfl⟩
    · have hm := mk_ints la (by omega)
      have hd : (lb : Int) ≤ la := by omega
      go_wp2_with fail
      go_meet
      exact ⟨la, Nat.le_refl _, by omega, hla, rfl, rfl⟩
  case rest =>
    obtain ⟨N, hN1, hN2, hN, rfl, hwc⟩ := hcut
    have HA0 : Hid (Arr wc w.heap.size 3 (zeros N)) := by show Arr _ _ _ _; rw [← hwc]; exact Arr.new w _ _
    have HB0 : Hid (Below w.heap.size w wc) := by show Below _ _ _; rw [← hwc]; exact (Below.refl _ _).alloc (Nat.le_refl _) _
    have hs0 : w.heap.size + 1 = wc.heap.size := by rw [← hwc]; simp
    clear hwc
    go_wp2_with fail
    refine (fresh_any A la ca (D m) _ wc (HX.out.below HB0.out) (by omega)).mono ?_
    rintro e w1 ⟨A1, c1, rfl, ho, hb⟩
    have hs1 := hb.size
    have HB1 := Lib.hid (HB0.out.trans (hb.mono (by omega)))
    have HA1 := Lib.hid (HA0.out.keep (hb.block _ (by omega)))
    have HO1 := Lib.hid ho
    clear ho hb HA0 HB0
    go_wp2_with fail
    refine (fresh_any B lb cb (D n) _ w1 (HY.out.below HB1.out) (by omega)).mono ?_
    rintro e w2 ⟨A2, c2, rfl, ho, hb⟩
    have hs2 := hb.size
    have HB2 := Lib.hid (HB1.out.trans (hb.mono (by omega)))
    have HA2 := Lib.hid (HA1.out.keep (hb.block _ (by omega)))
    have HO2 := Lib.hid (own_keep HO1.out hb)
    have HO2' := Lib.hid ho
    have HS : Hid (∀ gx gy, A1 = some ⟨gx, 0, none⟩ → A2 = some ⟨gy, 0, none⟩ → gx ≠ gy) := by
      intro gx gy h1 h2
      have := own_block HO1.out h1
      have := own_block ho h2
      omega
    have hl1 := HXL.out
    have hl2 := HYL.out
    clear ho hb HA1 HB1 HO1
    subst hl1 hl2
    go_wp2_with fail
    go_loopg [6, 7] n (fun n' x y wr => ∃ (m' : Nat) (X Y : Option Addr) (cx cy : Nat) (qs : List Int), x = .slice X (D m').length cx ∧ y = .slice Y (D n').length cy ∧ (D m').length ≤ N ∧ (D n').length ≤ N ∧ Nat.gcd m' n' = Nat.gcd m n ∧ wr.ownsRow (w.heap.size + 1) 3 1 (.slice X (D m').length cx) (D m').length ((D m').map (Value.int .i64)) ∧ wr.ownsRow (w.heap.size + 1) 3 1 (.slice Y (D n').length cy) (D n').length ((D n').map (Value.int .i64)) ∧ Arr wr w.heap.size 3 qs ∧ qs.length = N ∧ (∀ gx gy, X = some ⟨gx, 0, none⟩ → Y = some ⟨gy, 0, none⟩ → gx ≠ gy) ∧ Below w.heap.size w wr)
    case atStart => exact ⟨m, A1, A2, c1, c2, zeros N, rfl, rfl, hN1, hN2, rfl, own_mono HO2.out (by omega), own_mono HO2'.out (by omega), HA2.out, zeros_len N, HS.out, HB2.out⟩
    case round =>
      obtain ⟨m', X, Y, cx, cy, qs, rfl, rfl, hml, hnl, hg, hox, hoy, haq, hql, hsp, hb⟩ := hrel
      have HG := Lib.hid hg
      have HOX := Lib.hid hox
      have HOY := Lib.hid hoy
      have HAQ := Lib.hid haq
      have HQL := Lib.hid hql
      have HSP := Lib.hid hsp
      have HBR := Lib.hid hb
      have hsz := hb.size
      have hqlt := haq.lt
      clear hg hox hoy haq hql hsp hb HA2 HB2 HO2 HO2' HS
      by_cases h0 : 0 < gk
      · have hlen := D_len_pos h0
        have hlen' : (0 : Int) < (D gk).length := by omega
        obtain ⟨gy, rfl, hgy, _, _, _⟩ := own_arx HOY.out hlen
        have hgyl := (own_block HOY.out rfl).2
        have HRY := Lib.hid (own_rd' HOY.out)
        by_cases hm0 : 0 < m'
        · have hlm := D_len_pos hm0
          have hlm' : (0 : Int) < (D m').length := by omega
          obtain ⟨gx, rfl, hgx, hnc, hmx, hax⟩ := own_arx HOX.out hlm
          have hne : gx ≠ gy := HSP.out gx gy rfl rfl
          have HAX := Lib.hid hax
          clear hax
          have hlN : ((D m').length : Int) ≤ N := by omega
          have hry : Rd wr (fun k => k ≠ w.heap.size ∧ k ≠ gx) (some ⟨gy, 0, none⟩) (D gk).length cy (D gk) := by
            have h := HRY.out
            refine ⟨h.1, h.2.1, h.2.2.1, fun hn => ?_⟩
            obtain ⟨b, o, e, hp, hlt, hc⟩ := h.2.2.2 hn
            have hb : b = gy := by injection e with e; injection e with e; exact e.symm
            exact ⟨b, o, e, ⟨by omega, by omega⟩, hlt, hc⟩
          have HRY2 := Lib.hid hry
          clear hry
          go_wp2_with fail
          refine (divideRest_x w.heap.size gx (D m').length N (D m').length cx 0 (cx - (D m').length) 3 3 (qs.take (D m').length) (qs.drop (D m').length) (D m') [] (some ⟨gy, 0, none⟩) (D gk).length cy gk wr (by rw [List.take_append_drop]; exact HAQ.out.arx) (by rw [List.length_take]; have := HQL.out; omega) (by rw [List.append_nil]; exact HAX.out) rfl (limbs_D m') hnc HRY2.out h0 (by omega) (Nat.le_refl _) hlm (by omega) (by omega)).mono ?_
          rintro e w4 ⟨rfl, qs2, rs, hql, hqm, hqv, hqa, hrl, hrm, hrv, hra, htw⟩
          rw [List.append_nil] at hra
          rw [val_D] at hrv
          have HNR : Hid (natOf rs = m' % gk) := natOf_mod hrm hrv
          have hle := trim_len_le hrm
          have HTT := Lib.hid (take_trim hrm)
          have HRT : Hid (Rd w4 (fun _ => True) (some ⟨gx, 0, none⟩) (D m').length cx rs) := by
            have := hra.rd (fun _ => True) trivial 0 (D m').length cx (by omega) hnc
            rwa [List.drop_zero, List.take_of_length_le (by omega)] at this
          have HOX2 := Lib.hid (hra.own (w.heap.size + 1) hgx (D (natOf rs)).length cx hle (by omega) hmx)
          have HOY2 := Lib.hid (own_at_block (w' := w4) HOY.out (fun g hg => by injection hg with hg; injection hg with hg; subst hg; exact htw.block _ hgyl (by omega) (fun e => hne e.symm)))
          have HQA : Hid (∃ qs3 : List Int, qs3.length = N ∧ Arr w4 w.heap.size 3 qs3) := by
            obtain ⟨r0, hr0, hr1⟩ := hqa
            have : r0 = [] := List.eq_nil_of_length_eq_zero hr0
            subst this
            rw [List.append_nil] at hr1
            exact ⟨_, by simp [hql]; have := HQL.out; omega, hr1⟩
          have HB4 := Lib.hid (HBR.out.trans (htw.below (B := w.heap.size) hsz (Nat.le_refl _) (by omega)))
          have HRM := Lib.hid hrm
          clear hql hqm hqv hqa hrl hrm hrv hra htw hle
          go_wp2_with fail
          refine (trimmed_any _ (D m').length cx rs (fun _ => True) w4 HRT.out HRM.out (by omega)).mono ?_
          rintro e w5 ⟨rfl, rfl⟩
          rw [HNR.out]
          have hle2 : (D (m' % gk)).length ≤ N := by have := D_len_mod (m := m') h0; omega
          go_wp2
          go_roundg (m' % gk)
          case measure => exact Nat.mod_lt _ h0
          case rel =>
            obtain ⟨qs3, hq3, ha3⟩ := HQA.out
            have ho := HOX2.out
            rw [HTT.out, HNR.out] at ho
            exact ⟨gk, some ⟨gy, 0, none⟩, some ⟨gx, 0, none⟩, cy, cx, qs3, rfl, rfl, hnl, hle2, by rw [gcd_next]; exact HG.out, HOY2.out, ho, ha3, hq3, fun a b h1 h2 => by injection h1 with h1; injection h1 with h1; injection h2 with h2; injection h2 with h2; omega, HB4.out⟩
        · obtain rfl : m' = 0 := by omega
          have hd0 : (D 0).length = 0 := rfl
          have hNN : (0 : Int) ≤ N := by omega
          go_wp2_with fail
          refine (divideRest_nil _ X _ N cx (D gk).length cy wr hlen (by omega)).mono ?_
          rintro e w4 ⟨rfl, rfl⟩
          go_wp2_with fail
          refine (trimmed_any X 0 cx [] (fun _ => True) wr ((own_rd' HOX.out).mono fun _ _ _ => trivial) limbs_nil (by omega)).mono ?_
          rintro e w5 ⟨rfl, rfl⟩
          go_wp2
          go_roundg 0
          case measure => exact h0
          case rel => exact ⟨gk, some ⟨gy, 0, none⟩, X, cy, cx, qs, rfl, rfl, hnl, Nat.zero_le _, by have := HG.out; rw [Nat.gcd_zero_left] at this; rw [Nat.gcd_zero_right]; exact this, HOY.out, HOX.out, HAQ.out, HQL.out, fun a b h1 h2 e => HSP.out b a h2 h1 e.symm, HBR.out⟩
      · obtain rfl : gk = 0 := by omega
        have HGE : Hid (m' = Nat.gcd m n) := by show _ = _; rw [← HG.out, Nat.gcd_zero_right]
        have hd0 : (D 0).length = 0 := rfl
        go_wp2
        go_ret
        rw [← HGE.out]
        exact ⟨X, cx, rfl, own_mono HOX.out (by omega), HBR.out⟩

end Go.Proofs.YtgeijojkfojfbaaDoor
