/-
  l00Digits of the model: the decimal digits of a number that is not negative.
-/
import Derived.Test.YtifepoefeamboaaDoorRows
import Derived.WalkKit
import Derived.WalkSpells
import Derived.WalkLawsBesides
import Derived.Lib.Hide
import Derived.Lib.ItoaNum
import Derived.BigQuiet
import Derived.Deep.QuietTactic
import Derived.Deep.RegionHeld3
namespace Go.Proofs.YtifepoefeamboaaDoor
open Go Go.RowKit

theorem conv_byte (n : Nat) (hn : n < 10) (w : World) (t : TypeId) : (convert 79 9 (.slice (some ⟨w.heap.size, 0, none⟩) 1 1)).run Tryd.prog (w.alloc (.cells #[.int .u8 (48 + (n : Int))] t)) = .ok (.string ⟨[UInt8.ofNat (48 + n)].toArray⟩) (w.alloc (.cells #[.int .u8 (48 + (n : Int))] t)) := by
  refine run_convert_bytes_back _ _ _ 5 ⟨w.heap.size, 0, none⟩ 1 [UInt8.ofNat (48 + n)] Tryd.underlying79 Tryd.underlying5 Tryd.underlying9 ?_
  intro j hj
  have hj0 : j = 0 := by simp at hj; exact hj
  subst hj0
  have h1 : (UInt8.ofNat (48 + n)).toNat = 48 + n := by rw [UInt8.toNat_ofNat']; omega
  show (w.alloc _).cell? ⟨w.heap.size, 0, none⟩ = some (.int .u8 ((UInt8.ofNat (48 + n)).toNat : Int))
  rw [h1, cell_of_row _ w.heap.size 0 _ t (0, 0) (heap_alloc_new w _)]
  simp
theorem ret_str' {a b : ByteArray} (h : a = b) : Ending.returned (.string a) = .returned (.string b) := by rw [h]
set_option maxHeartbeats 800000 in
theorem l00Digits_small (n : Nat) (hn : n < 10) (w : World) :
    Calls Tryd.prog 40 #[.int .i64 (n : Int)] w fun e w' => e = .returned (.string ⟨(Lib.decDigits n).toArray⟩) ∧ Below w.heap.size w w' := by
  have HD := Lib.hid (Lib.decDigits_one hn)
  have h1 : ((n : Int) == -9223372036854775808) = false := beq_eq_false_iff_ne.2 (by omega)
  have h2 : decide ((n : Int) < 0) = false := by simp
  have h3 : decide ((n : Int) < 10) = true := by simp; omega
  have hcv := conv_byte n hn w 5
  generalize hdd : [UInt8.ofNat (48 + n)].toArray = dd at *
  have HDD := Lib.hid hdd
  clear hdd
  go_enter Tryd.func40, Tryd.ntmps40
  go_wp2
  go_ret
  exact ⟨ret_str' (by rw [HD.out, HDD.out]), (Below.refl _ _).alloc (Nat.le_refl _) _⟩

theorem conv_any (m : Nat) (hm : m < 10) (w : World) (b : Nat) (hb : w.cell? ⟨b, 0, none⟩ = some (.int .u8 (48 + (m : Int)))) : (convert 79 9 (.slice (some ⟨b, 0, none⟩) 1 1)).run Tryd.prog w = .ok (.string ⟨[UInt8.ofNat (48 + m)].toArray⟩) w := by
  refine run_convert_bytes_back _ _ _ 5 ⟨b, 0, none⟩ 1 [UInt8.ofNat (48 + m)] Tryd.underlying79 Tryd.underlying5 Tryd.underlying9 ?_
  intro j hj
  have hj0 : j = 0 := by simp at hj; exact hj
  subst hj0
  have h1 : (UInt8.ofNat (48 + m)).toNat = 48 + m := by rw [UInt8.toNat_ofNat']; omega
  show w.cell? ⟨b, 0, none⟩ = some (.int .u8 ((UInt8.ofNat (48 + m)).toNat : Int))
  rw [h1, hb]
  simp
theorem digits_more {n : Nat} (h : ¬ n < 10) : Lib.decDigits n = Lib.decDigits (n / 10) ++ [UInt8.ofNat (48 + n % 10)] := by rw [Lib.decDigits, dif_neg h]
theorem conv_alloc (m : Nat) (hm : m < 10) (w : World) (t : TypeId) : (convert 79 9 (.slice (some ⟨w.heap.size, 0, none⟩) 1 1)).run Tryd.prog (w.alloc (.cells #[.int .u8 (48 + (m : Int))] t)) = .ok (.string ⟨[UInt8.ofNat (48 + m)].toArray⟩) (w.alloc (.cells #[.int .u8 (48 + (m : Int))] t)) := conv_byte m hm w t
theorem digits_len (n : Nat) : (Lib.decDigits n).length ≤ n + 1 := by
  induction n using Nat.strongRecOn with
  | _ n ih =>
    by_cases h : n < 10
    · rw [Lib.decDigits_one h]; simp
    · rw [digits_more h, List.length_append]
      have := ih (n / 10) (by omega)
      simp only [List.length_singleton]
      omega
theorem cell_one (w : World) (v : Value) (t : TypeId) : (w.drew.alloc (.cells #[v] t)).cell? ⟨w.heap.size, 0, none⟩ = some v := by
  rw [cell_of_row _ w.heap.size 0 _ t (0, 0) (heap_alloc_new w.drew _)]
  simp
theorem str_app (a b : List UInt8) : (⟨a.toArray⟩ ++ ⟨b.toArray⟩ : ByteArray) = ⟨(a ++ b).toArray⟩ := by
  apply ByteArray.ext
  simp

set_option maxRecDepth 20000 in
set_option maxHeartbeats 1600000 in
theorem l00Digits_any (n : Nat) (hn : n ≤ 1000000000) : ∀ (w : World),
    Calls Tryd.prog 40 #[.int .i64 (n : Int)] w fun e w' => e = .returned (.string ⟨(Lib.decDigits n).toArray⟩) ∧ Below w.heap.size w w' := by
  induction n using Nat.strongRecOn with
  | _ n ih =>
    intro w
    by_cases h10 : n < 10
    · exact l00Digits_small n h10 w
    have HIH := Lib.hid (ih (n / 10) (by omega) (by omega))
    have HD := Lib.hid (digits_more h10)
    have h1 : ((n : Int) == -9223372036854775808) = false := beq_eq_false_iff_ne.2 (by omega)
    have h2 : decide ((n : Int) < 0) = false := by simp
    have h3 : decide ((n : Int) < 10) = false := by simp; omega
    obtain ⟨q, hq⟩ : ∃ q, q = n / 10 := ⟨_, rfl⟩
    obtain ⟨m, hm⟩ : ∃ m, m = n % 10 := ⟨_, rfl⟩
    have e1 : (n : Int) / 10 = (q : Int) := by omega
    have e2 : (n : Int).tmod 10 = (m : Int) := by rw [Int.tmod_eq_emod_of_nonneg (by omega)]; omega
    have hwq : IntKind.i64.wrap (q : Int) = (q : Int) := IntWalk.i64_in _ (by omega)
    have hwm : IntKind.i64.wrap (48 + (m : Int)) = 48 + (m : Int) := IntWalk.i64_in _ (by omega)
    have hm10 : m < 10 := by omega
    have e3 : IntKind.u8.wrap (48 + (m : Int)) = 48 + (m : Int) := by
      show (48 + (m : Int)) % 256 = _
      omega
    rw [← hq] at HIH HD
    rw [← hm] at HD
    have hcw := conv_any m hm10 (w.alloc (.cells #[.int .u8 (48 + (m : Int))] 5)).drew w.heap.size (cell_one w _ 5)
    have hln : ¬ 9223372036854775807 < (Lib.decDigits q).length + [UInt8.ofNat (48 + m)].length := by
      have := digits_len q
      simp only [List.length_singleton]
      omega
    have HC1 := Lib.hid (fun W : World => conv_alloc m hm10 W 5)
    have HC2 := Lib.hid (fun (W : World) (b : Nat) (h : W.cell? ⟨b, 0, none⟩ = some (.int .u8 (48 + (m : Int)))) => conv_any m hm10 W b h)
    clear ih hq hm
    generalize hdd : [UInt8.ofNat (48 + m)] = dd at *
    generalize hqq : Lib.decDigits q = qq at *
    clear hdd hqq
    go_enter Tryd.func40, Tryd.ntmps40
    go_wp2_with fail
    go_region_with (go_at_call 40; refine (HIH.out _).mono ?_; rintro e w1 ⟨rfl, bb⟩; have c1 := HC1.out w1; first | (have c2 := HC2.out w1 w.heap.size (by exact (bb.cell (p := ⟨w.heap.size, 0, none⟩) (by simp)).trans (cell_one w _ 5)); have HB1 := Lib.hid (bb.mono (show w.heap.size ≤ _ by simp))) | (have HB1 := Lib.hid bb))
    all_goals
      go_wp2
      go_ret
      refine ⟨ret_str' (by rw [str_app, HD.out]), ?_⟩
      first
        | exact (below_drewN ((Below.refl w.heap.size w).alloc (Nat.le_refl _) _) 1).trans HB1.out
        | exact ⟨HB1.out.os, HB1.out.tape, HB1.out.output, HB1.out.size, HB1.out.block⟩
        | (have h := (⟨HB1.out.os, HB1.out.tape, HB1.out.output, HB1.out.size, HB1.out.block⟩ : Below w.heap.size w w1); exact h.alloc h.size _)
end Go.Proofs.YtifepoefeamboaaDoor
