/-
  Naturals that are drawn; sameInts of the laws.
-/
import Derived.Test.YtlphcpkhclfkaaaGrpB
import Derived.Test.YtlphcpkhclfkaaaSrc
namespace Nt
open Go Go.RowKit
theorem Arr.grown {w w' : World} {g b : Nat} {t : TypeId} {xs : List Int} (h : Arr w b t xs) (hg : w.grownBy w' (some g)) (hne : b ≠ g) : Arr w' b t xs :=
  h.keep (hg.block b h.lt (fun e => by injection e with e; omega))
theorem alloc_block (w : World) (o : Obj) (i : Nat) (hi : i < w.heap.size) : (w.alloc o).heap[i]? = w.heap[i]? := ((Below.refl w.heap.size w).alloc (Nat.le_refl _) o).block i hi
theorem grown_alloc {a w : World} {r : Option Nat} (h : a.grownBy w r) (o : Obj) : a.grownBy (w.alloc o) r :=
  ⟨h.os, h.tape, h.output, by have := h.size; simp; omega, fun i hi hne => (alloc_block w o i (by have := h.size; omega)).trans (h.block i hi hne)⟩
theorem natOf_small {xs : List Int} (h : Limbs xs) (k : Nat) (hk : xs.length ≤ k) : natOf xs < 10000 ^ k := by
  rw [← D_len_le]
  exact Nat.le_trans (trim_len_le h) hk
theorem app_block {w wr w1 : World} {o : Obj} {V : Option Addr} {n c : Nat} {e : TypeId} {xs : List Value} (hs : w.heap.size ≤ wr.heap.size) (ho : wr.ownsRow w.heap.size e 1 (.slice V n c) n xs)
    (hg : (wr.alloc o).grownBy w1 (Value.slice V n c).ownBlock) (i : Nat) (hi : i < w.heap.size) : w1.heap[i]? = wr.heap[i]? :=
  (hg.block i (by simp; omega) (fun e => by have := (ho.lt i e.symm).1; omega)).trans (alloc_block wr o i (by omega))
theorem grown_app {w wr w1 : World} {o : Obj} {V : Option Addr} {n c g : Nat} {e : TypeId} {xs : List Value} (h : w.grownBy wr (some g)) (ho : wr.ownsRow w.heap.size e 1 (.slice V n c) n xs)
    (hg : (wr.alloc o).grownBy w1 (Value.slice V n c).ownBlock) : w.grownBy w1 (some g) :=
  ⟨hg.os.trans h.os, hg.tape.trans h.tape, hg.output.trans h.output, by have := h.size; have := hg.size; simp at this; omega, fun i hi hne => (app_block h.size ho hg i hi).trans (h.block i hi hne)⟩
theorem Src.alloc {w : World} {g : Nat} {t : TypeId} {A : Option Addr} {n c : Nat} {a s : Int} (h : Src w g t A n c a s) (o : Obj) : Src (w.alloc o) g t A n c a s := h.keep (alloc_block w o g h.lt)
end Nt
namespace Go.Proofs.Ytlphcpkhclfkaaa
open Go Go.RowKit Nt

set_option maxHeartbeats 400000 in
theorem sameInts_same (A A' : Option Addr) (n c n' c' : Nat) (xs : List Int) (P P' : Nat → Prop) (w : World) (hr : Rd w P A n c xs) (hr' : Rd w P' A' n' c' xs) (hn : n ≤ 16777216) :
    Calls Try.prog 72 #[.slice A n c, .slice A' n' c'] w fun e w' => e = .returned (.bool true) ∧ Drawn w w' := by
  have h1 := hr.len
  have h2 := hr'.len
  obtain rfl : n' = n := by omega
  have hne : ((n' : Int) != (n' : Int)) = false := by simp
  clear h1 h2
  go_enter Try.func72, Try.ntmps72
  go_wp2
  go_loopw [5] (fun i wr => ∃ k : Nat, k ≤ n' ∧ i = .int .i64 k ∧ ∃ m, wr = w.drewN m) (fun i _ => n' - (intOf i).toNat)
  case atStart => exact ⟨0, Nat.zero_le _, rfl, 0, rfl⟩
  case round =>
    obtain ⟨k, hk, rfl, m, rfl⟩ := hrel
    by_cases hlt : k < n'
    · obtain ⟨b, o, rfl, hP, _, hc⟩ := hr.at_ (by omega)
      obtain ⟨b', o', rfl, hP', _, hc'⟩ := hr'.at_ (by omega)
      have hcx : w.cell? ⟨b, o + k, none⟩ = some (.int .i64 (xs.getD k 0)) := hc k hlt
      have hcy : w.cell? ⟨b', o' + k, none⟩ = some (.int .i64 (xs.getD k 0)) := hc' k hlt
      have hlt' : (k : Int) < (n' : Int) := by omega
      generalize xs.getD k 0 = x at *
      have hxx : ((x : Int) != x) = false := by simp
      clear hc hc' hr hr' hP hP'
      go_wp2
      go_quiet (fail)
      go_wp2
      go_roundw
      case rel => exact ⟨k + 1, by omega, by go_num, _, rfl⟩
      case measure => simp [intOf]; omega
    · go_wp2
      go_ret
      exact ⟨rfl, _, rfl⟩

end Go.Proofs.Ytlphcpkhclfkaaa
