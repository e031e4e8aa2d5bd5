/-
  Which code a list of rationals gives: ratCode.
-/
import Derived.Test.YtgeijojkfojfbaaDoorRatLaw
namespace Nt
open Go Go.RowKit
/-- rationals as they lie in a call's list -/
structure RV where
  neg : Bool
  A : Option Addr
  la : Nat
  ca : Nat
  B : Option Addr
  lb : Nat
  cb : Nat
  xs : List Int
  ys : List Int
def RV.ok (r : RV) : Bool := okR r.neg r.xs r.ys
def RV.rd (r : RV) (w : World) (P : Nat → Prop) : Prop := Rd w P r.A r.la r.ca r.xs ∧ Rd w P r.B r.lb r.cb r.ys
def RV.small (r : RV) : Prop := r.la ≤ 16777216 ∧ r.lb ≤ 16777216
def RV.v (r : RV) : Value := .agg #[.bool r.neg, .slice r.A r.la r.ca, .slice r.B r.lb r.cb]
theorem RV.rd.below {r : RV} {w w' : World} {N : Nat} (h : r.rd w (· < N)) (hb : Below N w w') : r.rd w' (· < N) := ⟨h.1.below hb, h.2.below hb⟩
def codeR (rs : List RV) : Int := if rs.all RV.ok then 0 else 1
end Nt
namespace Go.Proofs.YtgeijojkfojfbaaDoor
open Go Go.RowKit Nt

set_option maxHeartbeats 1600000 in
theorem ratCode_any (g N : Nat) (R : Nat → RV) (w : World) (hN : N ≤ 100) (hg : g < w.heap.size)
    (h0 : ∀ i, i < N → w.cell? ⟨g, i * 3, none⟩ = some (.bool (R i).neg)) (h1 : ∀ i, i < N → w.cell? ⟨g, i * 3 + 1, none⟩ = some (.slice (R i).A (R i).la (R i).ca)) (h2 : ∀ i, i < N → w.cell? ⟨g, i * 3 + 2, none⟩ = some (.slice (R i).B (R i).lb (R i).cb))
    (hrd : ∀ i, i < N → (R i).rd w (· < w.heap.size)) (hs : ∀ i, i < N → (R i).small) :
    Calls Tryd.prog 25 #[.slice (some ⟨g, 0, none⟩) N N] w fun e w' => e = .returned (.int .i64 (codeR ((List.range N).map R))) ∧ Below w.heap.size w w' := by
  have H0 := Lib.hid h0
  have H1 := Lib.hid h1
  have H2 := Lib.hid h2
  have HRD := Lib.hid hrd
  have HS := Lib.hid hs
  clear h0 h1 h2 hrd hs
  go_enter Tryd.func25, Tryd.ntmps25
  go_wp2
  go_loopw [7] (fun i wr => ∃ k : Nat, k ≤ N ∧ i = .int .i64 k ∧ (∀ j, j < k → (R j).ok = true) ∧ Below w.heap.size w wr) (fun i _ => N - (intOf i).toNat)
  case atStart => exact ⟨0, Nat.zero_le _, rfl, fun j hj => by omega, Below.refl _ _⟩
  case round =>
    obtain ⟨k, hk, rfl, hok, hb⟩ := hrel
    have HOK := Lib.hid hok
    have HB := Lib.hid hb
    clear hok hb
    by_cases hlt : k < N
    · have c0 := (HB.out.cell (p := ⟨g, k * 3, none⟩) hg).trans (H0.out k hlt)
      have c1 := (HB.out.cell (p := ⟨g, k * 3 + 1, none⟩) hg).trans (H1.out k hlt)
      have c2 := (HB.out.cell (p := ⟨g, k * 3 + 2, none⟩) hg).trans (H2.out k hlt)
      have hkN : (k : Int) < N := by omega
      have hsz := HB.out.size
      go_wp2_with fail
      have hb1 := HB.out.alloc hsz (.cells #[.bool (R k).neg, .slice (R k).A (R k).la (R k).ca, .slice (R k).B (R k).lb (R k).cb] 25)
      have hr := (HRD.out k hlt).below hb1
      have hsm := HS.out k hlt
      refine (implRatOK_any (R k).neg (R k).A (R k).B (R k).la (R k).ca (R k).lb (R k).cb (R k).xs (R k).ys _ _ _ hr.1 hr.2 hsm.1 hsm.2).mono ?_
      rintro e w1 ⟨rfl, b1⟩
      have HB1 := Lib.hid (below_on hb1 b1)
      clear hr hsm hb1 b1 c0 c1 c2
      by_cases ho : okR (R k).neg (R k).xs (R k).ys = true
      · rw [ho]
        have HO : Hid (∀ j, j < k + 1 → (R j).ok = true) := by
          intro j hj
          by_cases e : j = k
          · subst e; exact ho
          · exact HOK.out j (by omega)
        clear ho
        go_wp2
        go_roundw
        case rel => exact ⟨k + 1, by omega, by go_num, HO.out, HB1.out⟩
        case measure => simp [intOf]; omega
      · have ho' : okR (R k).neg (R k).xs (R k).ys = false := by simpa using ho
        rw [ho']
        have HC : Hid (codeR ((List.range N).map R) = 1) := by
          show _ = _
          unfold codeR
          rw [if_neg]
          intro h
          rw [List.all_eq_true] at h
          have := h (R k) (List.mem_map.2 ⟨k, List.mem_range.2 hlt, rfl⟩)
          exact ho this
        clear ho ho'
        go_wp2
        go_ret
        rw [HC.out]
        exact ⟨rfl, HB1.out⟩
    · have HC : Hid (codeR ((List.range N).map R) = 0) := by
        show _ = _
        unfold codeR
        rw [if_pos]
        rw [List.all_eq_true]
        intro r hr
        obtain ⟨j, hj, rfl⟩ := List.mem_map.1 hr
        exact HOK.out j (by have := List.mem_range.1 hj; omega)
      go_wp2
      go_ret
      rw [HC.out]
      exact ⟨rfl, HB.out⟩

/-- of one -/
theorem ratCode1 (r : RV) (w W : World) (hW : W = w.alloc (.cells #[.bool r.neg, .slice r.A r.la r.ca, .slice r.B r.lb r.cb] 25)) (hr : r.rd w (· < w.heap.size)) (hs : r.small) :
    Calls Tryd.prog 25 #[.slice (some ⟨w.heap.size, 0, none⟩) 1 1] W fun e w' => e = .returned (.int .i64 (codeR [r])) ∧ Below w.heap.size w w' := by
  subst hW
  have hb := below1 w (.cells #[.bool r.neg, .slice r.A r.la r.ca, .slice r.B r.lb r.cb] 25)
  refine (ratCode_any w.heap.size 1 (fun _ => r) _ (by omega) (by simp) (fun i hi => ?_) (fun i hi => ?_) (fun i hi => ?_) (fun i hi => ?_) (fun _ _ => hs)).mono fun e w' ⟨h1, h2⟩ => ⟨h1, below_on hb h2⟩
  · obtain rfl : i = 0 := by omega
    exact (RatAt.new w 25 r.neg r.A r.B r.la r.ca r.lb r.cb).c0
  · obtain rfl : i = 0 := by omega
    exact (RatAt.new w 25 r.neg r.A r.B r.la r.ca r.lb r.cb).c1
  · obtain rfl : i = 0 := by omega
    exact (RatAt.new w 25 r.neg r.A r.B r.la r.ca r.lb r.cb).c2
  · have := hr.below hb
    exact ⟨this.1.mono fun _ _ h => h, this.2.mono fun _ _ h => h⟩
theorem pair_cell (w : World) (t : TypeId) (r s : RV) (i : Nat) : (w.alloc (.cells #[.bool r.neg, .slice r.A r.la r.ca, .slice r.B r.lb r.cb, .bool s.neg, .slice s.A s.la s.ca, .slice s.B s.lb s.cb] t)).cell? ⟨w.heap.size, i, none⟩ = #[.bool r.neg, .slice r.A r.la r.ca, .slice r.B r.lb r.cb, .bool s.neg, .slice s.A s.la s.ca, .slice s.B s.lb s.cb][i]? :=
  cell_of_row _ _ _ _ t (0, 0) (heap_alloc_new w _)
/-- of two -/
theorem ratCode2 (r s : RV) (w W : World) (hW : W = w.alloc (.cells #[.bool r.neg, .slice r.A r.la r.ca, .slice r.B r.lb r.cb, .bool s.neg, .slice s.A s.la s.ca, .slice s.B s.lb s.cb] 25)) (hr : r.rd w (· < w.heap.size)) (hs : r.small) (hr' : s.rd w (· < w.heap.size)) (hs' : s.small) :
    Calls Tryd.prog 25 #[.slice (some ⟨w.heap.size, 0, none⟩) 2 2] W fun e w' => e = .returned (.int .i64 (codeR [r, s])) ∧ Below w.heap.size w w' := by
  subst hW
  have hb := below1 w (.cells #[.bool r.neg, .slice r.A r.la r.ca, .slice r.B r.lb r.cb, .bool s.neg, .slice s.A s.la s.ca, .slice s.B s.lb s.cb] 25)
  refine (ratCode_any w.heap.size 2 (fun i => if i = 0 then r else s) _ (by omega) (by simp) (fun i hi => ?_) (fun i hi => ?_) (fun i hi => ?_) (fun i hi => ?_) (fun i hi => ?_)).mono fun e w' ⟨h1, h2⟩ => ⟨h1, below_on hb h2⟩
  all_goals
    rcases (show i = 0 ∨ i = 1 by omega) with rfl | rfl
  · exact pair_cell w _ r s 0
  · exact pair_cell w _ r s 3
  · exact pair_cell w _ r s 1
  · exact pair_cell w _ r s 4
  · exact pair_cell w _ r s 2
  · exact pair_cell w _ r s 5
  · have := hr.below hb
    exact ⟨this.1.mono fun _ _ h => h, this.2.mono fun _ _ h => h⟩
  · have := hr'.below hb
    exact ⟨this.1.mono fun _ _ h => h, this.2.mono fun _ _ h => h⟩
  · exact hs
  · exact hs'

theorem code1 (neg : Bool) (A : Option Addr) (la ca : Nat) (B : Option Addr) (lb cb : Nat) (xs ys : List Int) (P : Nat → Prop) (w : World) (g : Nat) (hg : g = w.heap.size) (hx : Rd w P A la ca xs) (hy : Rd w P B lb cb ys) (hla : la ≤ 16777216) (hlb : lb ≤ 16777216) (k : Int) (hk : k = if okR neg xs ys = true then 0 else 1) :
    Calls Tryd.prog 25 #[.slice (some ⟨g, 0, none⟩) 1 1] (w.alloc (.cells #[.bool neg, .slice A la ca, .slice B lb cb] 25)) fun e w' => e = .returned (.int .i64 k) ∧ Below w.heap.size w w' := by
  subst hg
  refine (ratCode1 ⟨neg, A, la, ca, B, lb, cb, xs, ys⟩ w _ rfl ⟨hx.mono fun _ _ h => h, hy.mono fun _ _ h => h⟩ ⟨hla, hlb⟩).mono fun e w' ⟨h1, h2⟩ => ⟨?_, h2⟩
  rw [h1, hk]
  unfold codeR
  simp [RV.ok]
theorem code2 (neg : Bool) (A : Option Addr) (la ca : Nat) (B : Option Addr) (lb cb : Nat) (xs ys : List Int) (neg' : Bool) (A' : Option Addr) (la' ca' : Nat) (B' : Option Addr) (lb' cb' : Nat) (xs' ys' : List Int) (P Q : Nat → Prop) (w : World) (g : Nat) (hg : g = w.heap.size) (hx : Rd w P A la ca xs) (hy : Rd w P B lb cb ys) (hx' : Rd w Q A' la' ca' xs') (hy' : Rd w Q B' lb' cb' ys') (hla : la ≤ 16777216) (hlb : lb ≤ 16777216) (hla' : la' ≤ 16777216) (hlb' : lb' ≤ 16777216) (k : Int) (hk : k = if okR neg xs ys = true ∧ okR neg' xs' ys' = true then 0 else 1) :
    Calls Tryd.prog 25 #[.slice (some ⟨g, 0, none⟩) 2 2] (w.alloc (.cells #[.bool neg, .slice A la ca, .slice B lb cb, .bool neg', .slice A' la' ca', .slice B' lb' cb'] 25)) fun e w' => e = .returned (.int .i64 k) ∧ Below w.heap.size w w' := by
  subst hg
  refine (ratCode2 ⟨neg, A, la, ca, B, lb, cb, xs, ys⟩ ⟨neg', A', la', ca', B', lb', cb', xs', ys'⟩ w _ rfl ⟨hx.mono fun _ _ h => h, hy.mono fun _ _ h => h⟩ ⟨hla, hlb⟩ ⟨hx'.mono fun _ _ h => h, hy'.mono fun _ _ h => h⟩ ⟨hla', hlb'⟩).mono fun e w' ⟨h1, h2⟩ => ⟨?_, h2⟩
  rw [h1, hk]
  unfold codeR
  simp [RV.ok]
end Go.Proofs.YtgeijojkfojfbaaDoor
