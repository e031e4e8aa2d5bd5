/-
  CodeWord of the program and of the model.
-/
import Derived.Test.YtnagmhmjhhfmcaaDoorRows
import Derived.WalkKit
import Derived.WalkSpells
import Derived.WalkLawsBesides
import Derived.Lib.Hide
import Derived.Lib.LaidTab
import Derived.BigQuiet
import Derived.Deep.QuietTactic
namespace Nt
open Go Go.RowKit
def wordBytes : List (List UInt8) := [[111, 107], [98, 97, 100], [108, 111, 110, 103], [102, 111, 114, 109], [114, 97, 110, 103, 101], [110, 111, 110, 101], [109, 97, 110, 121], [102, 117, 108, 108], [115, 105, 122, 101], [122, 101, 114, 111], [100, 111, 109, 97, 105, 110], [98, 101, 108, 111, 119], [100, 101, 101, 112], [110, 97, 109, 101], [115, 111, 108, 118, 101, 114], [98, 117, 100, 103, 101, 116], [108, 105, 109, 105, 116], [115, 101, 97, 114, 99, 104], [98, 111, 120], [97, 117, 100, 105, 116]]
def wd (k : Nat) : ByteArray := ⟨(wordBytes.getD k []).toArray⟩
def wordCells : Array Value := #[.string ⟨#[111, 107]⟩, .string ⟨#[98, 97, 100]⟩, .string ⟨#[108, 111, 110, 103]⟩, .string ⟨#[102, 111, 114, 109]⟩, .string ⟨#[114, 97, 110, 103, 101]⟩, .string ⟨#[110, 111, 110, 101]⟩, .string ⟨#[109, 97, 110, 121]⟩, .string ⟨#[102, 117, 108, 108]⟩, .string ⟨#[115, 105, 122, 101]⟩, .string ⟨#[122, 101, 114, 111]⟩, .string ⟨#[100, 111, 109, 97, 105, 110]⟩, .string ⟨#[98, 101, 108, 111, 119]⟩, .string ⟨#[100, 101, 101, 112]⟩, .string ⟨#[110, 97, 109, 101]⟩, .string ⟨#[115, 111, 108, 118, 101, 114]⟩, .string ⟨#[98, 117, 100, 103, 101, 116]⟩, .string ⟨#[108, 105, 109, 105, 116]⟩, .string ⟨#[115, 101, 97, 114, 99, 104]⟩, .string ⟨#[98, 111, 120]⟩, .string ⟨#[97, 117, 100, 105, 116]⟩]
theorem wordCells_get : ∀ k, k < 20 → wordCells[k]? = some (.string (wd k))
  | 0, _ => rfl
  | 1, _ => rfl
  | 2, _ => rfl
  | 3, _ => rfl
  | 4, _ => rfl
  | 5, _ => rfl
  | 6, _ => rfl
  | 7, _ => rfl
  | 8, _ => rfl
  | 9, _ => rfl
  | 10, _ => rfl
  | 11, _ => rfl
  | 12, _ => rfl
  | 13, _ => rfl
  | 14, _ => rfl
  | 15, _ => rfl
  | 16, _ => rfl
  | 17, _ => rfl
  | 18, _ => rfl
  | 19, _ => rfl
  | k + 20, h => absurd h (by omega)
def wordOf (c : Int) : ByteArray := if c < 0 ∨ 20 ≤ c then ByteArray.empty else wd c.toNat
theorem wordOf_out {c : Int} (h : c < 0 ∨ 20 ≤ c) : wordOf c = ByteArray.empty := by unfold wordOf; rw [if_pos h]
theorem wordOf_in {k : Nat} (h : k < 20) : wordOf k = wd k := by unfold wordOf; rw [if_neg (by omega)]; rfl
theorem word_new (w : World) (t : TypeId) (k : Nat) (hk : k < 20) : (w.alloc (.cells #[.string ⟨#[111, 107]⟩, .string ⟨#[98, 97, 100]⟩, .string ⟨#[108, 111, 110, 103]⟩, .string ⟨#[102, 111, 114, 109]⟩, .string ⟨#[114, 97, 110, 103, 101]⟩, .string ⟨#[110, 111, 110, 101]⟩, .string ⟨#[109, 97, 110, 121]⟩, .string ⟨#[102, 117, 108, 108]⟩, .string ⟨#[115, 105, 122, 101]⟩, .string ⟨#[122, 101, 114, 111]⟩, .string ⟨#[100, 111, 109, 97, 105, 110]⟩, .string ⟨#[98, 101, 108, 111, 119]⟩, .string ⟨#[100, 101, 101, 112]⟩, .string ⟨#[110, 97, 109, 101]⟩, .string ⟨#[115, 111, 108, 118, 101, 114]⟩, .string ⟨#[98, 117, 100, 103, 101, 116]⟩, .string ⟨#[108, 105, 109, 105, 116]⟩, .string ⟨#[115, 101, 97, 114, 99, 104]⟩, .string ⟨#[98, 111, 120]⟩, .string ⟨#[97, 117, 100, 105, 116]⟩] t)).cell? ⟨w.heap.size, k, none⟩ = some (.string (wd k)) := by
  exact (cell_of_row _ w.heap.size k wordCells t (0, 0) (heap_alloc_new w _)).trans (wordCells_get k hk)
theorem ret_str {a b : ByteArray} (h : a = b) : Ending.returned (.string a) = .returned (.string b) := by rw [h]
end Nt
namespace Go.Proofs.YtnagmhmjhhfmcaaDoor
open Go Go.RowKit Nt

set_option maxHeartbeats 400000 in
theorem implCodeWord_any (c : Int) (w : World) (hT : ∀ k, k < 20 → w.cell? ⟨0, k, none⟩ = some (.string (wd k))) :
    Calls Tryd.prog 7 #[.int .i64 c] w fun e w' => e = .returned (.string (wordOf c)) ∧ w = w' := by
  have HT := Lib.hid hT
  clear hT
  by_cases h0 : c < 0
  · have HW := Lib.hid (wordOf_out (.inl h0))
    have h0' : decide (c < 0) = true := by simpa using h0
    go_enter Tryd.func7, Tryd.ntmps7
    go_wp2
    go_ret
    exact ⟨ret_str HW.out.symm, rfl⟩
  have h0' : decide (c < 0) = false := by simpa using h0
  by_cases h20 : 20 ≤ c
  · have HW := Lib.hid (wordOf_out (.inr h20))
    have h20' : decide ((20 : Int) ≤ c) = true := by simpa using h20
    go_enter Tryd.func7, Tryd.ntmps7
    go_wp2
    go_ret
    exact ⟨ret_str HW.out.symm, rfl⟩
  obtain ⟨k, rfl⟩ : ∃ k : Nat, c = k := ⟨c.toNat, by omega⟩
  have hk : k < 20 := by omega
  have HW := Lib.hid (wordOf_in hk)
  have hcell := HT.out k hk
  generalize wd k = s at *
  have hlt : (k : Int) < 20 := by omega
  go_enter Tryd.func7, Tryd.ntmps7
  go_wp2
  go_ret
  exact ⟨ret_str HW.out.symm, rfl⟩

set_option maxHeartbeats 1600000 in
theorem specCodeWord_any (c : Int) (w : World) :
    Calls Tryd.prog 6 #[.int .i64 c] w fun e w' => e = .returned (.string (wordOf c)) ∧ Below w.heap.size w w' := by
  by_cases h0 : c < 0
  · have HW := Lib.hid (wordOf_out (.inl h0))
    have h0' : decide (c < 0) = true := by simpa using h0
    go_enter Tryd.func6, Tryd.ntmps6
    go_wp2
    go_ret
    exact ⟨ret_str HW.out.symm, (Below.refl _ _).alloc (Nat.le_refl _) _⟩
  have h0' : decide (c < 0) = false := by simpa using h0
  by_cases h20 : 20 ≤ c
  · have HW := Lib.hid (wordOf_out (.inr h20))
    have h20' : decide ((20 : Int) ≤ c) = true := by simpa using h20
    go_enter Tryd.func6, Tryd.ntmps6
    go_wp2
    go_ret
    exact ⟨ret_str HW.out.symm, (Below.refl _ _).alloc (Nat.le_refl _) _⟩
  obtain ⟨k, rfl⟩ : ∃ k : Nat, c = k := ⟨c.toNat, by omega⟩
  have hk : k < 20 := by omega
  have HW := Lib.hid (wordOf_in hk)
  have hcell := word_new w 9 k hk
  generalize wd k = s at *
  have hlt : (k : Int) < 20 := by omega
  go_enter Tryd.func6, Tryd.ntmps6
  go_wp2
  go_ret
  exact ⟨ret_str HW.out.symm, (Below.refl _ _).alloc (Nat.le_refl _) _⟩

set_option maxHeartbeats 800000 in
theorem lawCodeWord_any (c : Int) (w : World) (h0 : 0 < w.heap.size) (hT : ∀ k, k < 20 → w.cell? ⟨0, k, none⟩ = some (.string (wd k))) :
    Calls Tryd.prog 3 #[.int .i64 c] w fun e w' => e = .returned (.bool true) ∧ Below w.heap.size w w' := by
  have HT := Lib.hid hT
  clear hT
  go_enter Tryd.func3, Tryd.ntmps3
  go_wp2_with fail
  refine (specCodeWord_any c w).mono ?_
  rintro e w1 ⟨rfl, b⟩
  have HB := Lib.hid b
  clear b
  go_wp2_with fail
  refine (implCodeWord_any c w1 (fun k hk => (HB.out.cell (p := ⟨0, k, none⟩) h0).trans (HT.out k hk))).mono ?_
  rintro e w2 ⟨rfl, rfl⟩
  generalize wordOf c = s
  go_wp2
  go_ret
  exact ⟨rfl, HB.out⟩
end Go.Proofs.YtnagmhmjhhfmcaaDoor
