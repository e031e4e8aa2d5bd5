/-
  The laws' own helpers on slices of ints: what they answer, and what they leave.
-/
import Derived.Test.YtgeijojkfojfbaaMem
import Derived.Test.YtgeijojkfojfbaaRows
import Derived.BigQuiet
import Derived.Deep.QuietTactic
namespace Go.Proofs.Ytgeijojkfojfbaa
open Go Go.RowKit Nt

theorem infoInt : (Try.prog.info? 3).map (fun i => (i.zero, i.size, i.bytes)) = some (some (.int .i64 0), 1, 8) := by kernel_rfl
theorem mk_ints (n : Nat) (hn : n ≤ 16777216) (w : World) :
    (Instr.makeSlice 41 (.int .i64 (n : Int)) (.int .i64 (n : Int))).run Try.prog w = .ok (.slice (some ⟨w.heap.size, 0, none⟩) n n) (w.alloc (.cells (cellsOf (zeros n)) 3)) :=
  run_make_ints _ _ Try.underlying41 infoInt n hn w

set_option maxHeartbeats 400000 in
theorem toIntS_any (A : Option Addr) (n c : Nat) (xs : List Int) (P : Nat → Prop) (w : World) (hr0 : Rd w P A n c xs) (hn : n ≤ 1048576) :
    Calls Try.prog 94 #[.slice A n c] w fun e w' => e = .returned (.slice (some ⟨w.heap.size, 0, none⟩) n n) ∧ Arr w' w.heap.size 3 xs ∧ Below w.heap.size w w' := by
  have hmk := mk_ints n (by omega)
  have hr : Rd w (· < w.heap.size) A n c xs := hr0.mono fun _ _ h => h
  clear hr0
  go_enter Try.func94, Try.ntmps94
  go_wp2
  go_loopw [4] (fun i wr => ∃ k : Nat, k ≤ n ∧ i = .int .i64 k ∧ Arr wr w.heap.size 3 (xs.take k ++ zeros (n - k)) ∧ Below w.heap.size w wr) (fun i _ => n - (intOf i).toNat)
  case atStart => exact ⟨0, Nat.zero_le _, rfl, by simpa using Arr.new w 3 (zeros n), (Below.refl _ _).alloc (Nat.le_refl _) _⟩
  case round =>
    obtain ⟨k, hk, rfl, ha, hb⟩ := hrel
    have hxl := hr.len
    by_cases hlt : k < n
    · obtain ⟨b, o, rfl, hP, _, hc⟩ := hr.at_ (by omega)
      have hcx : wr.cell? ⟨b, o + k, none⟩ = some (.int .i64 (xs.getD k 0)) := (hb.cell (p := ⟨b, o + k, none⟩) hP).trans (hc k hlt)
      have hf := ha.frozen k
      have hst := ha.set_ k (xs.getD k 0)
      rw [set_zeros _ k _ _ (by simp; omega) (by omega), ← take_snoc xs k (by omega), Nat.sub_sub] at hst
      have hbt := hb.setCell (p := ⟨w.heap.size, k, none⟩) (Nat.le_refl _) (.int .i64 (xs.getD k 0))
      have hcy := ha.cell k (by simp [zeros]; omega)
      generalize xs.getD k 0 = x at *
      generalize (xs.take k ++ zeros (n - k)).getD k 0 = y at *
      clear hc
      have HT := Lib.hid hst
      have HB := Lib.hid hbt
      have HX := Lib.hid hxl
      clear hst hbt hxl ha hb hr
      go_wp2
      go_roundw
      case rel => exact ⟨k + 1, by omega, by go_num, HT.out, HB.out⟩
      case measure => simp [intOf]; omega
    · have hkn : k = n := by omega
      subst hkn
      rw [show k - k = 0 from by omega, List.take_of_length_le (by omega)] at ha
      simp only [zeros, List.replicate_zero, List.append_nil] at ha
      have HA := Lib.hid ha
      have HB := Lib.hid hb
      clear ha hb hr
      go_wp2
      go_ret
      exact ⟨rfl, HA.out, HB.out⟩

set_option maxHeartbeats 400000 in
theorem eqIntS_same (A A' : Option Addr) (n c n' c' : Nat) (xs : List Int) (P P' : Nat → Prop) (w : World) (hr : Rd w P A n c xs) (hr' : Rd w P' A' n' c' xs) (hn : n ≤ 16777216) :
    Calls Try.prog 55 #[.slice A n c, .slice A' n' c'] w fun e w' => e = .returned (.bool true) ∧ Drawn w w' := by
  have h1 := hr.len
  have h2 := hr'.len
  obtain rfl : n' = n := by omega
  have hne : ((n' : Int) != (n' : Int)) = false := by simp
  clear h1 h2
  go_enter Try.func55, Try.ntmps55
  go_wp2
  go_loopw [5] (fun i wr => ∃ k : Nat, k ≤ n' ∧ i = .int .i64 k ∧ ∃ m, wr = w.drewN m) (fun i _ => n' - (intOf i).toNat)
  case atStart => exact ⟨0, Nat.zero_le _, rfl, 0, rfl⟩
  case round =>
    obtain ⟨k, hk, rfl, m, rfl⟩ := hrel
    by_cases hlt : k < n'
    · obtain ⟨b, o, rfl, hP, _, hc⟩ := hr.at_ (by omega)
      obtain ⟨b', o', rfl, hP', _, hc'⟩ := hr'.at_ (by omega)
      have hcx : w.cell? ⟨b, o + k, none⟩ = some (.int .i64 (xs.getD k 0)) := hc k hlt
      have hcy : w.cell? ⟨b', o' + k, none⟩ = some (.int .i64 (xs.getD k 0)) := hc' k hlt
      have hlt' : (k : Int) < (n' : Int) := by omega
      generalize xs.getD k 0 = x at *
      have hxx : ((x : Int) != x) = false := by simp
      clear hc hc' hr hr' hP hP'
      go_wp2
      go_quiet (fail)
      go_wp2
      go_roundw
      case rel => exact ⟨k + 1, by omega, by go_num, _, rfl⟩
      case measure => simp [intOf]; omega
    · go_wp2
      go_ret
      exact ⟨rfl, _, rfl⟩

set_option maxHeartbeats 400000 in
theorem markIntS_any (A : Option Addr) (n c : Nat) (xs : List Int) (k0 : Int) (base : Nat) (w : World) (ho : w.ownsRow base 3 1 (.slice A n c) n (xs.map (Value.int .i64))) (hn : n ≤ 16777216) (hk0 : 0 ≤ k0) (hk1 : k0 ≤ 4294967296) :
    Calls Try.prog 56 #[.slice A n c, .int .i64 k0] w fun e w' => e = .returned (.int .i64 (k0 + n)) ∧ w'.ownsRow base 3 1 (.slice A n c) n ((marks k0 n).map (Value.int .i64)) ∧ w.grownBy w' (Value.slice A n c).ownBlock := by
  have hxl : xs.length = n := by have := ho.1; simpa using this
  have HX := Lib.hid hxl
  clear hxl
  go_enter Try.func56, Try.ntmps56
  go_wp2
  go_loopw [1, 5] (fun q i wr => ∃ k : Nat, k ≤ n ∧ i = .int .i64 k ∧ q = .int .i64 (k0 + k) ∧ wr.ownsRow base 3 1 (.slice A n c) n ((marks k0 k ++ xs.drop k).map (Value.int .i64)) ∧ w.grownBy wr (Value.slice A n c).ownBlock) (fun _ i _ => n - (intOf i).toNat)
  case atStart => exact ⟨0, Nat.zero_le _, rfl, by simp, by simpa [marks] using ho, World.grownBy.refl _ _⟩
  case round =>
    obtain ⟨k, hk, rfl, rfl, hw, hg⟩ := hrel
    have hxl := HX.out
    by_cases hlt : k < n
    · obtain ⟨g, rfl, hbg, hgl⟩ := own_at hw (by omega)
      have hst := hw.stored k (.int .i64 (k0 + k))
      have hf := hw.frozenAt k
      have hcy := hw.cellAt k (by omega)
      rw [List.getElem?_eq_getElem (by simp [marks_len]; omega)] at hcy
      rw [← List.map_set, marks_step k0 xs k (by omega)] at hst
      have HT := Lib.hid hst.1
      have HG := Lib.hid (grown_trans hg hst.2)
      generalize (List.map (Value.int IntKind.i64) (marks k0 k ++ List.drop k xs))[k]'_ = y at *
      clear hst hw hg hxl HX ho
      go_wp2
      go_roundw
      case rel => exact ⟨k + 1, by omega, by go_num, by go_num, HT.out, HG.out⟩
      case measure => simp [intOf]; omega
    · obtain rfl : k = n := by omega
      rw [drop_end xs k (by omega), List.append_nil] at hw
      have HT := Lib.hid hw
      have HG := Lib.hid hg
      clear hw hg hxl HX ho
      go_wp2
      go_ret
      exact ⟨rfl, HT.out, HG.out⟩

set_option maxHeartbeats 400000 in
theorem heldIntS_any (A : Option Addr) (n c : Nat) (k0 : Int) (P : Nat → Prop) (w : World) (hr : Rd w P A n c (marks k0 n)) (hn : n ≤ 16777216) (hk0 : 0 ≤ k0) (hk1 : k0 ≤ 4294967296) :
    Calls Try.prog 57 #[.slice A n c, .int .i64 k0] w fun e w' => e = .returned (.int .i64 (k0 + n)) ∧ w = w' := by
  go_enter Try.func57, Try.ntmps57
  go_wp2
  go_loop [1, 5] (fun q i => ∃ k : Nat, k ≤ n ∧ i = .int .i64 k ∧ q = .int .i64 (k0 + k)) (fun _ i => n - (intOf i).toNat)
  case atStart => exact ⟨0, Nat.zero_le _, rfl, by simp⟩
  case round =>
    obtain ⟨k, hk, rfl, rfl⟩ := hrel
    by_cases hlt : k < n
    · obtain ⟨b, o, rfl, hP, _, hc⟩ := hr.at_ (by omega)
      have hcx : w.cell? ⟨b, o + k, none⟩ = some (.int .i64 (k0 + k)) := by rw [hc k hlt, marks_getD k0 n k hlt]
      have hne : ((k0 + (k : Int)) != (k0 + (k : Int))) = false := by simp
      clear hc hr hP
      go_wp2
      go_round
      case rel => exact ⟨k + 1, by omega, by go_num, by go_num⟩
      case measure => simp [intOf]; omega
    · obtain rfl : k = n := by omega
      go_wp2
      go_ret
      exact ⟨rfl, rfl⟩
end Go.Proofs.Ytgeijojkfojfbaa
