/-
  Is it 1: isOne.
-/
import Derived.Test.YtgeijojkfojfbaaDoorCommon
namespace Nt
open Go Go.RowKit
theorem D_one_len {m : Nat} (h : (D m).length = 1) : D m = [(m : Int)] ∧ m < 10000 := by
  have h1 := (D_len_le m 1).1 (by omega)
  have h0 : 0 < m := by
    rcases Nat.eq_zero_or_pos m with h2 | h2
    · subst h2; cases h
    · exact h2
  rw [D_pos m h0, show m / 10000 = 0 from by omega, D_zero, show m % 10000 = m from by omega]
  exact ⟨rfl, by omega⟩
theorem D_one : D 1 = [1] := rfl
end Nt
namespace Go.Proofs.YtgeijojkfojfbaaDoor
open Go Go.RowKit Nt

set_option maxHeartbeats 400000 in
theorem equalOne_any (A : Option Addr) (la ca m g : Nat) (P : Nat → Prop) (w : World) (hr : Rd w P A la ca (D m)) (hg : w.cell? ⟨g, 0, none⟩ = some (.int .i64 1)) (hla : la ≤ 1000) :
    Calls Tryd.prog 58 #[.slice A la ca, .slice (some ⟨g, 0, none⟩) 1 1] w fun e w' => e = .returned (.bool (decide (m = 1))) ∧ Drawn w w' := by
  have hl := hr.len
  by_cases h1 : la = 1
  · subst h1
    obtain ⟨hd, hlt⟩ := D_one_len hl
    rw [hd] at hr
    obtain ⟨b, o, rfl, hP, _, hc⟩ := hr.at_ (by omega)
    have hcx : w.cell? ⟨b, o, none⟩ = some (.int .i64 (m : Int)) := hc 0 (by omega)
    have HM : Hid (decide (m = 1) = ((m : Int) == 1)) := by
      show _ = _
      rw [Bool.eq_iff_iff]; simp; omega
    clear hc hr hl hP hd
    go_enter Tryd.func58, Tryd.ntmps58
    go_wp2
    go_loopw [13] (fun i wr => ∃ k : Nat, k ≤ 1 ∧ i = .int .i64 k ∧ (k = 1 → m = 1) ∧ ∃ q, wr = w.drewN q) (fun i _ => 1 - (intOf i).toNat)
    case atStart => exact ⟨0, by omega, rfl, fun h => by omega, 0, rfl⟩
    case round =>
      obtain ⟨k, hk, rfl, hm, q, rfl⟩ := hrel
      by_cases hlt : k < 1
      · obtain rfl : k = 0 := by omega
        by_cases hx : m = 1
        · subst hx
          go_wp2
          go_quiet (fail)
          go_wp2
          go_roundw
          case rel => exact ⟨1, by omega, by go_num, fun _ => by trivial, _, rfl⟩
          case measure => simp [intOf]
        · have hx' : ((m : Int) != 1) = true := by simp; omega
          have HF : Hid (decide (m = 1) = false) := by show _ = _; simp [hx]
          go_wp2
          go_quiet (fail)
          go_wp2
          go_ret
          rw [HF.out]
          exact ⟨rfl, Drawn.more (w := w) ⟨q, rfl⟩ _⟩
      · obtain rfl : k = 1 := by omega
        have HT : Hid (decide (m = 1) = true) := by show _ = _; simp [hm rfl]
        clear hm
        go_wp2
        go_ret
        rw [HT.out]
        exact ⟨rfl, _, rfl⟩
  · have hne : ((la : Int) != 1) = true := by simp; omega
    have HF : Hid (decide (m = 1) = false) := by
      show _ = _
      refine decide_eq_false fun e => ?_
      subst e
      exact h1 (by rw [← hl]; rfl)
    clear hr hl hg
    go_enter Tryd.func58, Tryd.ntmps58
    go_wp2
    go_ret
    rw [HF.out]
    exact ⟨rfl, 0, rfl⟩

set_option maxHeartbeats 400000 in
theorem isOne_any (A : Option Addr) (la ca m : Nat) (P : Nat → Prop) (w : World) (hr : Rd w P A la ca (D m)) (hla : la ≤ 1000) :
    Calls Tryd.prog 34 #[.slice A la ca] w fun e w' => e = .returned (.bool (decide (m = 1))) ∧ Below w.heap.size w w' := by
  have HR := Lib.hid ((hr.mono (Q := (· < w.heap.size)) fun _ _ h => h).below ((Below.refl w.heap.size w).alloc (Nat.le_refl _) (.cells #[.int .i64 1] 3)))
  clear hr
  go_enter Tryd.func34, Tryd.ntmps34
  go_wp2_with fail
  refine (equalOne_any A la ca m w.heap.size _ _ HR.out (by simp [World.cell?_alloc_at]) hla).mono ?_
  rintro e w1 ⟨rfl, hd⟩
  have HB := Lib.hid (((Below.refl w.heap.size w).alloc (Nat.le_refl _) (.cells #[.int .i64 1] 3)).trans (hd.below _))
  clear hd
  go_wp2
  go_ret
  exact ⟨rfl, HB.out⟩
end Go.Proofs.YtgeijojkfojfbaaDoor
