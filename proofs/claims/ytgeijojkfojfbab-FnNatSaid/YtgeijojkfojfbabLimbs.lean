/-
  Limbs in memory of their own: sums, differences, products, quotients and what is common to two.
-/
import Derived.Test.YtgeijojkfojfbabDivX
import Derived.Test.YtgeijojkfojfbabMul
import Derived.Test.YtgeijojkfojfbabDivNat
import Derived.Deep.RegionWith
import Derived.Deep.DeepCutAuto
namespace Nt
open Go Go.RowKit
/-- the slice holds the natural m -/
def Nm (w : World) (A : Option Addr) (c m : Nat) : Prop := Rd w (fun _ => True) A (D m).length c (D m)
theorem Nm.on {w w' : World} {A : Option Addr} {c m : Nat} (h : Nm w A c m) (hb : Below w.heap.size w w') : Nm w' A c m :=
  (((Rd.mono h (Q := (· < w.heap.size)) fun _ _ h => h).below hb).mono fun _ _ _ => trivial)
theorem Nm.drawn {w w' : World} {A : Option Addr} {c m : Nat} (h : Nm w A c m) (hb : Drawn w w') : Nm w' A c m := hb.rd h
theorem Nm.lit (w : World) (t : TypeId) : Nm (w.alloc (.cells #[.int .i64 1] t)) (some ⟨w.heap.size, 0, none⟩) 1 1 := (rd_one w t 1).mono fun _ _ _ => trivial
theorem new_of {t : TypeId} {w w' : World} {m : Nat} {e : Ending} (h : RetNew t w (D m) e w') : ∃ A c, e = .returned (.slice A (D m).length c) ∧ Nm w' A c m ∧ Below w.heap.size w w' := by
  obtain ⟨A, c, rfl, ho, hb⟩ := h
  exact ⟨A, c, rfl, (own_rd' ho).mono fun _ _ _ => trivial, hb⟩
theorem put_own {w w' : World} {g N : Nat} {t : TypeId} {xs : List Int} (h : Put t w g N xs w') (base : Nat) (hb : base ≤ g) (hN : N ≤ maxLen) : w'.ownsRow base t 1 (.slice (some ⟨g, 0, none⟩) xs.length N) xs.length (xs.map (Value.int .i64)) := by
  obtain ⟨full, h1, h2, h3, h4, h5⟩ := h
  have := h2.arx.own base hb xs.length N (by omega) (by omega) hN
  rwa [h3] at this
theorem put_below {w w' : World} {g N B : Nat} {t : TypeId} {xs : List Int} (h : Put t w g N xs w') (hB : B ≤ w.heap.size) (hg : B ≤ g) : Below B w w' := by
  obtain ⟨full, h1, h2, h3, h4, h5⟩ := h
  exact grown_below h5 hB hg
theorem own_block {w : World} {base n c g : Nat} {e : TypeId} {A : Option Addr} {xs : List Value} (h : w.ownsRow base e 1 (.slice A n c) n xs) (hA : A = some ⟨g, 0, none⟩) : base ≤ g ∧ g < w.heap.size := by
  subst hA
  exact h.lt g rfl
theorem mk_first {w w1 : World} {k n c1 : Nat} {A1 : Option Addr} {t : TypeId} {xs : List Value} (ho : w1.ownsRow (w.alloc (.cells (cellsOf (zeros k)) t)).drew.heap.size t 1 (.slice A1 n c1) n xs)
    (hb : Below (w.alloc (.cells (cellsOf (zeros k)) t)).drew.heap.size (w.alloc (.cells (cellsOf (zeros k)) t)).drew w1) :
    Arr w1 w.heap.size t (zeros k) ∧ w1.ownsRow w.heap.size t 1 (.slice A1 n c1) n xs ∧ (∀ g, A1 = some ⟨g, 0, none⟩ → g ≠ w.heap.size) ∧ Below w.heap.size w w1 := by
  have hs : (w.alloc (.cells (cellsOf (zeros k)) t)).drew.heap.size = w.heap.size + 1 := by show (w.alloc _).heap.size = _; simp
  refine ⟨(Arr.new w t (zeros k)).keep (hb.block _ (by omega)), own_mono ho (by omega), fun g hg => by have := own_block ho hg; omega, ?_⟩
  exact (below_drewN ((Below.refl w.heap.size w).alloc (Nat.le_refl _) _) 1).trans (hb.mono (by omega))
theorem mk_last {w w1 : World} {k n c1 : Nat} {A1 : Option Addr} {t : TypeId} {xs : List Value} (ho : w1.ownsRow w.drew.heap.size t 1 (.slice A1 n c1) n xs) (hb : Below w.drew.heap.size w.drew w1) :
    Arr (w1.alloc (.cells (cellsOf (zeros k)) t)) w1.heap.size t (zeros k) ∧ (w1.alloc (.cells (cellsOf (zeros k)) t)).ownsRow w.heap.size t 1 (.slice A1 n c1) n xs ∧ (∀ g, A1 = some ⟨g, 0, none⟩ → g ≠ w1.heap.size) ∧ Below w.heap.size w (w1.alloc (.cells (cellsOf (zeros k)) t)) ∧ w.heap.size ≤ w1.heap.size := by
  have hs : w.heap.size ≤ w1.heap.size := hb.size
  have h0 : Below w.heap.size w w1 := (below_drewN (Below.refl w.heap.size w) 1).trans hb
  exact ⟨Arr.new w1 t (zeros k), World.ownsRow.alloc ho _, fun g hg => by have := own_block ho hg; omega, h0.alloc hs _, hs⟩
theorem rd_new {w : World} {A : Option Addr} {n c : Nat} {xs : List Int} (h : Rd w (· < w.heap.size) A n c xs) (o : Obj) : Rd (w.alloc o) (· ≠ w.heap.size) A n c xs :=
  (h.below ((Below.refl _ _).alloc (Nat.le_refl _) o)).mono fun b hb _ => by omega
end Nt
namespace Go.Proofs.Ytgeijojkfojfbab
open Go Go.RowKit Nt

set_option maxHeartbeats 400000 in
theorem takeTimes_nil (A B : Option Addr) (c lb cb : Nat) (times : Int) (w : World) :
    Calls Try.prog 45 #[.slice A 0 c, .slice B lb cb, .int .i64 times] w fun e w' => e = .returned (.tuple #[]) ∧ w = w' := by
  go_enter Try.func45, Try.ntmps45
  go_wp2
  refine wp_loop_rounds 1 ?_
  rw [rounds_succ]
  go_wp2
  go_end0
  exact ⟨rfl, rfl⟩

set_option maxHeartbeats 400000 in
theorem divideRest_nil (A B C : Option Addr) (cq cr lb cb : Nat) (w : World) (hlb : 0 < lb) (hlb2 : lb ≤ 1000) :
    Calls Try.prog 49 #[.slice A 0 cq, .slice B 0 cr, .slice C lb cb] w fun e w' => e = .returned (.tuple #[]) ∧ w = w' := by
  have hclr : ∀ w ty, (Builtin.clear_ #[23] ty #[.slice A 0 cq]).run Try.prog w = .ok (.tuple #[]) w := by
    intro w ty
    cases A <;> simp [Builtin.clear_, run_underlying Try.underlying23]
  go_enter Try.func49, Try.ntmps49
  go_wp2
  go_step3
  go_wp2
  go_step3
  go_wp2
  refine wp_loop_rounds 1 ?_
  rw [rounds_succ]
  go_wp2
  rw [Exit.noGoto_normal]
  go_end0
  exact ⟨rfl, rfl⟩

/-- two rows that share no block -/
theorem own_gone {w w' : World} {g base n c : Nat} {e : TypeId} {A : Option Addr} {xs : List Value} (h : w.ownsRow base e 1 (.slice A n c) n xs) (hg : w.grownBy w' (some g)) (hne : ∀ k, A = some ⟨k, 0, none⟩ → k ≠ g) : w'.ownsRow base e 1 (.slice A n c) n xs := by
  refine h.kept hg ?_
  cases A with
  | none => exact .inl rfl
  | some a =>
    right
    rcases h.2 with ⟨e1, _⟩ | ⟨k, _, _, e1, _⟩
    · cases e1
    · injection e1 with e1 _ _
      intro e2
      have e3 : a.block = g := by injection e2
      exact hne k e1 (by rw [← e3]; injection e1 with e1; rw [e1])

/-- what a quotient and a rest in memory of their own are -/
def RetQR (w : World) (q r : Nat) (e : Ending) (w' : World) : Prop :=
  ∃ A1 c1 A2 c2, e = .returned (.tuple #[.slice A1 (D q).length c1, .slice A2 (D r).length c2]) ∧ Nm w' A1 c1 q ∧ Nm w' A2 c2 r ∧ Below w.heap.size w w'

end Go.Proofs.Ytgeijojkfojfbab
