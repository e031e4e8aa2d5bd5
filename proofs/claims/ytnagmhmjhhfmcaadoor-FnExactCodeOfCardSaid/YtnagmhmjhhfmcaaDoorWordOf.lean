/-
  CodeOf of the program and of the model.
-/
import Derived.Test.YtnagmhmjhhfmcaaDoorWord
namespace Nt
open Go Go.RowKit
def codeF (s : ByteArray) : Nat → Int
  | 0 => -1
  | m + 1 => if wd (20 - (m + 1)) = s then ((20 - (m + 1) : Nat) : Int) else codeF s m
theorem bytes_ne {a b : ByteArray} (h : ¬ a = b) : (a.toList == b.toList) = false := by
  rw [beq_eq_false_iff_ne]
  intro hk
  rw [Go.ByteArray.toList_eq, Go.ByteArray.toList_eq] at hk
  exact h (ByteArray.ext (Array.toList_inj.mp hk))
theorem codeF_hit {s : ByteArray} {k : Nat} (hk : k < 20) (h : wd k = s) : codeF s (20 - k) = k := by
  obtain ⟨m, hm⟩ : ∃ m, 20 - k = m + 1 := ⟨20 - k - 1, by omega⟩
  rw [hm, codeF, show 20 - (m + 1) = k from by omega, if_pos h]
theorem codeF_miss {s : ByteArray} {k : Nat} (hk : k < 20) (h : ¬ wd k = s) : codeF s (20 - k) = codeF s (20 - (k + 1)) := by
  obtain ⟨m, hm⟩ : ∃ m, 20 - k = m + 1 := ⟨20 - k - 1, by omega⟩
  rw [hm, codeF, show 20 - (m + 1) = k from by omega, if_neg h, show 20 - (k + 1) = m from by omega]
end Nt
namespace Go.Proofs.YtnagmhmjhhfmcaaDoor
open Go Go.RowKit Nt

set_option maxHeartbeats 800000 in
theorem specCodeOf_any (s : ByteArray) (w : World) :
    Calls Tryd.prog 8 #[.string s] w fun e w' => e = .returned (.int .i64 (codeF s 20)) ∧ Below w.heap.size w w' := by
  go_enter Tryd.func8, Tryd.ntmps8
  go_wp2
  go_loopw [3] (fun i wr => ∃ k : Nat, k ≤ 20 ∧ i = .int .i64 k ∧ codeF s (20 - k) = codeF s 20 ∧ Below w.heap.size w wr) (fun i _ => 20 - (intOf i).toNat)
  case atStart => exact ⟨0, by omega, rfl, rfl, Below.refl _ _⟩
  case round =>
    obtain ⟨k, hk, rfl, hcd, hb⟩ := hrel
    have HC := Lib.hid hcd
    have HB := Lib.hid hb
    clear hcd hb
    by_cases hlt : k < 20
    · have hle : decide ((k : Int) ≤ 19) = true := by simp; omega
      by_cases hw : wd k = s
      · have HF := Lib.hid ((codeF_hit hlt hw).symm.trans HC.out)
        go_wp2_with fail
        refine (specCodeWord_any k wr).mono ?_
        rintro e w1 ⟨rfl, b⟩
        rw [wordOf_in hlt, hw]
        have HB1 := Lib.hid (HB.out.trans (b.mono HB.out.size))
        clear b
        go_wp2
        go_ret
        exact ⟨by rw [← HF.out]; rfl, HB1.out⟩
      · have HF := Lib.hid ((codeF_miss hlt hw).symm.trans HC.out)
        have HN := Lib.hid hw
        go_wp2_with fail
        refine (specCodeWord_any k wr).mono ?_
        rintro e w1 ⟨rfl, b⟩
        rw [wordOf_in hlt]
        have HB1 := Lib.hid (HB.out.trans (b.mono HB.out.size))
        clear b
        have hne := bytes_ne HN.out
        clear hw
        generalize wd k = u at *
        go_wp2
        go_roundw
        case rel => exact ⟨k + 1, by omega, by go_num, HF.out, HB1.out⟩
        case measure => simp [intOf]; omega
    · obtain rfl : k = 20 := by omega
      go_wp2
      go_ret
      exact ⟨by rw [← HC.out]; rfl, HB.out⟩

theorem run_index_words (k : Nat) (hk : k < 20) (w : World) : (Instr.index 33 (.agg wordCells) (.int .i64 (k : Int))).run Tryd.prog w = .ok (.string (wd k)) w := by
  have h1 : (k : Int) < 20 := by omega
  have h2 := wordCells_get k hk
  have h3 : wordCells.size = 20 := rfl
  have hi : (Tryd.prog.info? 9).map (fun i => i.size) = some 1 := by kernel_rfl
  cases hq : Tryd.prog.info? 9 with
  | none => rw [hq] at hi; cases hi
  | some i =>
    have hs : i.size = 1 := by rw [hq] at hi; simpa using hi
    simp [Instr.index, run_underlying Tryd.underlying33, asIntOf, h1, sizeOf, typeInfo, hq, hs, part, isAgg, run_underlying Tryd.underlying9, h2]
    exact fun h => absurd h (by omega)
theorem infoWords : (Tryd.prog.info? 33).map (·.size) = some wordCells.size := by kernel_rfl

set_option maxHeartbeats 800000 in
theorem implCodeOf_any (s : ByteArray) (w : World) (t : TypeId) (fr : Nat × Nat) (hT : w.heap[0]? = some (.cells wordCells t fr)) :
    Calls Tryd.prog 9 #[.string s] w fun e w' => e = .returned (.int .i64 (codeF s 20)) ∧ w = w' := by
  have HT := Lib.hid hT
  clear hT
  go_enter Tryd.func9, Tryd.ntmps9
  go_wp2_with ((with_reducible show wpList _ _ _ (⟨some 5, _, _, _, _, _⟩ :: _) _ _); refine wpList_load_row rfl 33 _ rfl 0 rfl t wordCells fr _ HT.out Tryd.underlying33 rfl infoWords ?_)
  go_loop [6] (fun i => ∃ k : Nat, k ≤ 20 ∧ i = .int .i64 k ∧ codeF s (20 - k) = codeF s 20) (fun i => 20 - (intOf i).toNat)
  case atStart => exact ⟨0, by omega, rfl, rfl⟩
  case round =>
    obtain ⟨k, hk, rfl, hcd⟩ := hrel
    have HC := Lib.hid hcd
    clear hcd
    by_cases hlt : k < 20
    · have hle : decide ((k : Int) < 20) = true := by simp; omega
      have hix := run_index_words k hlt
      by_cases hw : wd k = s
      · have HF := Lib.hid ((codeF_hit hlt hw).symm.trans HC.out)
        rw [hw] at hix
        clear hw
        go_wp2
        go_ret
        exact ⟨by rw [← HF.out]; rfl, rfl⟩
      · have HF := Lib.hid ((codeF_miss hlt hw).symm.trans HC.out)
        have hne := bytes_ne hw
        clear hw
        generalize wd k = u at *
        go_wp2
        go_round
        case rel => exact ⟨k + 1, by omega, by go_num, HF.out⟩
        case measure => simp [intOf]; omega
    · obtain rfl : k = 20 := by omega
      go_wp2
      go_ret
      exact ⟨by rw [← HC.out]; rfl, rfl⟩

set_option maxHeartbeats 800000 in
theorem lawCodeOf_any (s : ByteArray) (w : World) (t : TypeId) (fr : Nat × Nat) (h0 : 0 < w.heap.size) (hT : w.heap[0]? = some (.cells wordCells t fr)) (hs : s.size ≤ maxLen) :
    Calls Tryd.prog 4 #[.string s] w fun e w' => e = .returned (.bool true) ∧ Below w.heap.size w w' := by
  unfold maxLen at hs
  have HT := Lib.hid hT
  clear hT
  by_cases hbig : 1048576 < s.size
  · have hbig' : decide ((1048576 : Int) < s.size) = true := by simp; omega
    go_enter Tryd.func4, Tryd.ntmps4
    go_wp2
    go_ret
    exact ⟨rfl, Below.refl _ _⟩
  have hbig' : decide ((1048576 : Int) < s.size) = false := by simp; omega
  go_enter Tryd.func4, Tryd.ntmps4
  go_wp2_with fail
  refine (specCodeOf_any s w).mono ?_
  rintro e w1 ⟨rfl, b⟩
  have HB := Lib.hid b
  clear b
  go_wp2_with fail
  refine (implCodeOf_any s w1 t fr ((HB.out.block 0 h0).trans HT.out)).mono ?_
  rintro e w2 ⟨rfl, rfl⟩
  generalize codeF s 20 = c
  have hne : (c != c) = false := by simp
  go_wp2
  go_ret
  exact ⟨rfl, HB.out⟩
end Go.Proofs.YtnagmhmjhhfmcaaDoor
