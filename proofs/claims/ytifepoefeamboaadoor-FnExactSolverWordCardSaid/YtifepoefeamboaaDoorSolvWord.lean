/-
  SolverWord of the program and of the model.
-/
import Derived.Test.YtifepoefeamboaaDoorRows
import Derived.WalkKit
import Derived.WalkSpells
import Derived.WalkLawsBesides
import Derived.Lib.Hide
import Derived.Lib.LaidTab
import Derived.BigQuiet
import Derived.Deep.QuietTactic
namespace Nt
open Go Go.RowKit
def solvBytes : List (List UInt8) := [[], [100, 101, 115, 99, 101, 110, 116], [99, 111, 110, 106, 117, 103, 97, 116, 101], [112, 114, 111, 106, 101, 99, 116], [110, 101, 119, 116, 111, 110]]
def sv (k : Nat) : ByteArray := ⟨(solvBytes.getD k []).toArray⟩
def solvCells : Array Value := #[.string ⟨#[]⟩, .string ⟨#[100, 101, 115, 99, 101, 110, 116]⟩, .string ⟨#[99, 111, 110, 106, 117, 103, 97, 116, 101]⟩, .string ⟨#[112, 114, 111, 106, 101, 99, 116]⟩, .string ⟨#[110, 101, 119, 116, 111, 110]⟩]
theorem solvCells_get : ∀ k, k < 5 → solvCells[k]? = some (.string (sv k))
  | 0, _ => rfl
  | 1, _ => rfl
  | 2, _ => rfl
  | 3, _ => rfl
  | 4, _ => rfl
  | k + 5, h => absurd h (by omega)
/-- a solver's word and a code -/
def svOf (c : Int) : ByteArray := if 1 ≤ c ∧ c ≤ 4 then sv c.toNat else ByteArray.empty
def svCode (c : Int) : Int := if 1 ≤ c ∧ c ≤ 4 then 0 else 4
theorem svOf_out {c : Int} (h : ¬ (1 ≤ c ∧ c ≤ 4)) : svOf c = ByteArray.empty ∧ svCode c = 4 := by unfold svOf svCode; rw [if_neg h, if_neg h]; exact ⟨rfl, rfl⟩
theorem svOf_in {k : Nat} (h : 1 ≤ k) (h' : k ≤ 4) : svOf k = sv k ∧ svCode k = 0 := by unfold svOf svCode; rw [if_pos (by omega), if_pos (by omega)]; exact ⟨rfl, rfl⟩
theorem solv_new (w : World) (t : TypeId) (k : Nat) (hk : k < 5) : (w.alloc (.cells #[.string ⟨#[]⟩, .string ⟨#[100, 101, 115, 99, 101, 110, 116]⟩, .string ⟨#[99, 111, 110, 106, 117, 103, 97, 116, 101]⟩, .string ⟨#[112, 114, 111, 106, 101, 99, 116]⟩, .string ⟨#[110, 101, 119, 116, 111, 110]⟩] t)).cell? ⟨w.heap.size, k, none⟩ = some (.string (sv k)) := by
  exact (cell_of_row _ w.heap.size k solvCells t (0, 0) (heap_alloc_new w _)).trans (solvCells_get k hk)
theorem ret_strc {a b : ByteArray} {i j : Int} (h : a = b) (h' : i = j) : Ending.returned (.tuple #[.string a, .int .i64 i]) = .returned (.tuple #[.string b, .int .i64 j]) := by rw [h, h']
end Nt
namespace Go.Proofs.YtifepoefeamboaaDoor
open Go Go.RowKit Nt

theorem isSolver_any (c : Int) (w : World) : Calls Tryd.prog 24 #[.int .i64 c] w fun e w' => e = .returned (.bool (decide (1 ≤ c ∧ c ≤ 4))) ∧ w = w' := by
  by_cases h0 : 1 ≤ c
  · have z0 : decide (1 ≤ c) = true := by simpa using h0
    by_cases h4 : c ≤ 4
    · have z4 : decide (c ≤ 4) = true := by simpa using h4
      have HF : Hid (decide (1 ≤ c ∧ c ≤ 4) = true) := Lib.hid (by simp [h0, h4])
      clear h0 h4
      go_enter Tryd.func24, Tryd.ntmps24
      go_wp2
      go_ret
      exact ⟨by rw [HF.out]; rfl, rfl⟩
    · have z4 : decide (c ≤ 4) = false := by simpa using h4
      have HF : Hid (decide (1 ≤ c ∧ c ≤ 4) = false) := Lib.hid (by simp [h4])
      clear h0 h4
      go_enter Tryd.func24, Tryd.ntmps24
      go_wp2
      go_ret
      exact ⟨by rw [HF.out]; rfl, rfl⟩
  · have z0 : decide (1 ≤ c) = false := by simpa using h0
    have HF : Hid (decide (1 ≤ c ∧ c ≤ 4) = false) := Lib.hid (by simp [h0])
    clear h0
    go_enter Tryd.func24, Tryd.ntmps24
    go_wp2
    go_ret
    exact ⟨by rw [HF.out]; rfl, rfl⟩
theorem isIn_any (c : Int) (w : World) : Calls Tryd.prog 22 #[.int .i64 c, .int .i64 1, .int .i64 4] w fun e w' => e = .returned (.bool (decide (1 ≤ c ∧ c ≤ 4))) ∧ w = w' := by
  by_cases h0 : 1 ≤ c
  · have z0 : decide (1 ≤ c) = true := by simpa using h0
    by_cases h4 : c ≤ 4
    · have z4 : decide (c ≤ 4) = true := by simpa using h4
      have HF : Hid (decide (1 ≤ c ∧ c ≤ 4) = true) := Lib.hid (by simp [h0, h4])
      clear h0 h4
      go_enter Tryd.func22, Tryd.ntmps22
      go_wp2
      go_ret
      exact ⟨by rw [HF.out]; rfl, rfl⟩
    · have z4 : decide (c ≤ 4) = false := by simpa using h4
      have HF : Hid (decide (1 ≤ c ∧ c ≤ 4) = false) := Lib.hid (by simp [h4])
      clear h0 h4
      go_enter Tryd.func22, Tryd.ntmps22
      go_wp2
      go_ret
      exact ⟨by rw [HF.out]; rfl, rfl⟩
  · have z0 : decide (1 ≤ c) = false := by simpa using h0
    have HF : Hid (decide (1 ≤ c ∧ c ≤ 4) = false) := Lib.hid (by simp [h0])
    clear h0
    go_enter Tryd.func22, Tryd.ntmps22
    go_wp2
    go_ret
    exact ⟨by rw [HF.out]; rfl, rfl⟩
theorem l09Words_any (w : World) : Calls Tryd.prog 23 #[] w fun e w' => e = .returned (.slice (some ⟨w.heap.size, 0, none⟩) 5 5) ∧ (∀ k, k < 5 → w'.cell? ⟨w.heap.size, k, none⟩ = some (.string (sv k))) ∧ Below w.heap.size w w' := by
  have HN := Lib.hid (fun k hk => solv_new w 9 k hk)
  go_enter Tryd.func23, Tryd.ntmps23
  go_wp2
  go_ret
  exact ⟨rfl, HN.out, (Below.refl _ _).alloc (Nat.le_refl _) _⟩

set_option maxHeartbeats 800000 in
theorem implSolverWord_any (c : Int) (w : World) (hT : ∀ k, k < 5 → w.cell? ⟨0, k, none⟩ = some (.string (sv k))) :
    Calls Tryd.prog 7 #[.int .i64 c] w fun e w' => e = .returned (.tuple #[.string (svOf c), .int .i64 (svCode c)]) ∧ w = w' := by
  by_cases h : 1 ≤ c ∧ c ≤ 4
  · obtain ⟨k, rfl⟩ : ∃ k : Nat, c = k := ⟨c.toNat, by omega⟩
    have HW := Lib.hid (svOf_in (k := k) (by omega) (by omega))
    have HB : Hid (decide (1 ≤ (k : Int) ∧ (k : Int) ≤ 4) = true) := Lib.hid (by simp; omega)
    have hcell := hT k (by omega)
    have hlt : (k : Int) < 5 := by omega
    generalize sv k = s at *
    clear h hT
    go_enter Tryd.func7, Tryd.ntmps7
    go_wp2_with fail
    refine (isSolver_any k w).mono ?_
    rintro e w1 ⟨rfl, rfl⟩
    rw [HB.out]
    go_wp2
    go_ret2
    exact ⟨ret_strc HW.out.1.symm HW.out.2.symm, rfl⟩
  · have HW := Lib.hid (svOf_out h)
    have HB : Hid (decide (1 ≤ c ∧ c ≤ 4) = false) := Lib.hid (by simpa using h)
    clear h hT
    go_enter Tryd.func7, Tryd.ntmps7
    go_wp2_with fail
    refine (isSolver_any c w).mono ?_
    rintro e w1 ⟨rfl, rfl⟩
    rw [HB.out]
    go_wp2
    go_ret2
    exact ⟨ret_strc HW.out.1.symm HW.out.2.symm, rfl⟩

set_option maxHeartbeats 800000 in
theorem specSolverWord_any (c : Int) (w : World) :
    Calls Tryd.prog 6 #[.int .i64 c] w fun e w' => e = .returned (.tuple #[.string (svOf c), .int .i64 (svCode c)]) ∧ Below w.heap.size w w' := by
  by_cases h : 1 ≤ c ∧ c ≤ 4
  · obtain ⟨k, rfl⟩ : ∃ k : Nat, c = k := ⟨c.toNat, by omega⟩
    have HW := Lib.hid (svOf_in (k := k) (by omega) (by omega))
    have HB : Hid (decide (1 ≤ (k : Int) ∧ (k : Int) ≤ 4) = true) := Lib.hid (by simp; omega)
    have hk5 : k < 5 := by omega
    have hlt : (k : Int) < 5 := by omega
    clear h
    go_enter Tryd.func6, Tryd.ntmps6
    go_wp2_with fail
    refine (isIn_any k w).mono ?_
    rintro e w1 ⟨rfl, rfl⟩
    rw [HB.out]
    go_wp2_with fail
    refine (l09Words_any w).mono ?_
    rintro e w2 ⟨rfl, hc, b⟩
    have hcell := hc k hk5
    have HB2 := Lib.hid b
    generalize sv k = s at *
    clear hc b
    go_wp2
    go_ret2
    exact ⟨ret_strc HW.out.1.symm HW.out.2.symm, HB2.out⟩
  · have HW := Lib.hid (svOf_out h)
    have HB : Hid (decide (1 ≤ c ∧ c ≤ 4) = false) := Lib.hid (by simpa using h)
    clear h
    go_enter Tryd.func6, Tryd.ntmps6
    go_wp2_with fail
    refine (isIn_any c w).mono ?_
    rintro e w1 ⟨rfl, rfl⟩
    rw [HB.out]
    go_wp2
    go_ret2
    exact ⟨ret_strc HW.out.1.symm HW.out.2.symm, Below.refl _ _⟩

set_option maxHeartbeats 800000 in
theorem lawSolverWord_any (c : Int) (w : World) (h0 : 0 < w.heap.size) (hT : ∀ k, k < 5 → w.cell? ⟨0, k, none⟩ = some (.string (sv k))) :
    Calls Tryd.prog 3 #[.int .i64 c] w fun e w' => e = .returned (.bool true) ∧ Below w.heap.size w w' := by
  have HT := Lib.hid hT
  clear hT
  go_enter Tryd.func3, Tryd.ntmps3
  go_wp2_with fail
  refine (specSolverWord_any c w).mono ?_
  rintro e w1 ⟨rfl, b⟩
  have HB := Lib.hid b
  clear b
  go_wp2_with fail
  refine (implSolverWord_any c w1 (fun k hk => (HB.out.cell (p := ⟨0, k, none⟩) h0).trans (HT.out k hk))).mono ?_
  rintro e w2 ⟨rfl, rfl⟩
  have hcc : (svCode c != svCode c) = false := by simp
  generalize svOf c = s at *
  generalize svCode c = t at *
  go_wp2
  go_ret
  exact ⟨rfl, HB.out⟩
end Go.Proofs.YtifepoefeamboaaDoor
