/-
  Powers: raised of the program, l02Int and l02Pow of the model.
-/
import Derived.Test.YtlphcpkhclfkaaaGrpD
namespace Nt
open Go Go.RowKit
theorem int_parts (k : Int) : nu (k : Rat) = k.natAbs ∧ (k : Rat).den = 1 ∧ isNeg (k : Rat) = decide (k < 0) := by
  refine ⟨?_, Rat.den_intCast k, ?_⟩
  · unfold nu; rw [Rat.num_intCast]
  · unfold isNeg; rw [Rat.num_intCast]
theorem one_parts : nu (1 : Rat) = 1 ∧ (1 : Rat).den = 1 ∧ isNeg (1 : Rat) = false := ⟨rfl, rfl, rfl⟩
theorem pow_len (x k : Nat) (h : (D x).length ≤ 40) (hk : k ≤ 8) : (D (x ^ k)).length ≤ 3600 := by
  have h1 := (D_len_le x 40).1 h
  have h4 : (D (x ^ k)).length ≤ 40 * k + 1 := by
    refine (D_len_le _ (40 * k + 1)).2 ?_
    have h2 : x ^ k ≤ (10000 ^ 40) ^ k := Nat.pow_le_pow_left (Nat.le_of_lt h1) k
    rw [← Nat.pow_mul] at h2
    exact Nat.lt_of_le_of_lt h2 (Nat.pow_lt_pow_right (by decide) (Nat.lt_succ_self _))
  omega
theorem Nm.lit2 (w : World) (o o' : Obj) (t : TypeId) : Nm (((w.alloc o).alloc o').alloc (.cells #[.int .i64 1] t)) (some ⟨w.heap.size + 1 + 1, 0, none⟩) 1 1 := by
  have := Nm.lit ((w.alloc o).alloc o') t
  rwa [World.size_alloc, World.size_alloc] at this
theorem Nm.lit3 (w : World) (o o' o'' : Obj) (t : TypeId) : Nm ((((w.alloc o).alloc o').alloc o'').alloc (.cells #[.int .i64 1] t)) (some ⟨w.heap.size + 1 + 1 + 1, 0, none⟩) 1 1 := by
  have := Nm.lit (((w.alloc o).alloc o').alloc o'') t
  rwa [World.size_alloc, World.size_alloc, World.size_alloc] at this
theorem below4 (w : World) (o o' o'' o3 : Obj) : Below w.heap.size w ((((w.alloc o).alloc o').alloc o'').alloc o3) := (below3 w o o' o'').alloc (by simp; omega) _
theorem pow_lens (a : Rat) (k : Nat) (h1 : (D (nu a)).length ≤ 40) (h2 : (D a.den).length ≤ 40) (hk : k ≤ 8) : (D (nu (a ^ k))).length ≤ 3600 ∧ (D (a ^ k).den).length ≤ 3600 := by
  obtain ⟨e1, e2, _⟩ := pow_parts a k
  rw [e1, e2]
  exact ⟨pow_len _ _ h1 hk, pow_len _ _ h2 hk⟩
end Nt
namespace Go.Proofs.Ytlphcpkhclfkaaa
open Go Go.RowKit Nt


set_option maxHeartbeats 800000 in
theorem l02Int_nat (m : Nat) (w : World) (hm : m ≤ 1000000000000) :
    Calls Try.prog 166 #[.int .i64 (m : Int)] w (SayR w false (D m) (D 1)) := by
  have hge : decide ((m : Int) < 0) = false := decide_eq_false (by omega)
  go_enter Try.func166, Try.ntmps166
  go_wp2_with fail
  refine calls_at (fun W => Below w.heap.size w W ∧ RatAt W w.heap.size 28 false none 0 0 none 0 0) ⟨below1 _ _, RatAt.new _ _ _ _ _ _ _ _ _⟩ ?_
  rintro W ⟨hb, r0⟩
  refine (l01Small_any m W (by omega)).mono ?_
  rintro e w1 hnew
  obtain ⟨A1, c1, rfl, m1, b1⟩ := new_of hnew
  have HB1 := Lib.hid (below_on (below_on hb b1) (below1 w1 (.cells #[.int .i64 1] 3)))
  have HT1 := Lib.hid ((r0.on b1).alloc (.cells #[.int .i64 1] 3))
  have HM1 := Lib.hid (m1.on (below1 w1 (.cells #[.int .i64 1] 3)))
  have HL1 := Lib.hid (Nm.lit w1 3)
  clear hnew hb r0 m1 b1
  have f0 := HT1.out.fz 0
  have f1 := HT1.out.fz 1
  have f2 := HT1.out.fz 2
  have y0 := HT1.out.c0
  have y1 := HT1.out.c1
  have y2 := HT1.out.c2
  go_wp2
  have g2 := fun b u v => setAll_grown (w1.alloc (.cells #[.int .i64 1] 3)) w.heap.size (.bool b) u v
  refine bodyPost_ret (retR rfl _ _ _ rfl (HT1.out.setAll _ _ _ _ _ _ _)) rfl ?_
  exact ⟨A1, c1, _, 1, rfl, ⟨Rd.past HM1.out HT1.out (g2 _ _ _), Rd.past HL1.out HT1.out (g2 _ _ _)⟩, below_grow HB1.out (by omega) (g2 _ _ _)⟩

end Go.Proofs.Ytlphcpkhclfkaaa
