/-
  Powers: raised of the program, l02Int and l02Pow of the model.
-/
import Derived.Test.YtifepoefeamboaaGreatDoorGrpD
namespace Nt
open Go Go.RowKit
theorem int_parts (k : Int) : nu (k : Rat) = k.natAbs ∧ (k : Rat).den = 1 ∧ isNeg (k : Rat) = decide (k < 0) := by
  refine ⟨?_, Rat.den_intCast k, ?_⟩
  · unfold nu; rw [Rat.num_intCast]
  · unfold isNeg; rw [Rat.num_intCast]
theorem one_parts : nu (1 : Rat) = 1 ∧ (1 : Rat).den = 1 ∧ isNeg (1 : Rat) = false := ⟨rfl, rfl, rfl⟩
theorem pow_len (x k : Nat) (h : (D x).length ≤ 40) (hk : k ≤ 8) : (D (x ^ k)).length ≤ 3600 := by
  have h1 := (D_len_le x 40).1 h
  have h4 : (D (x ^ k)).length ≤ 40 * k + 1 := by
    refine (D_len_le _ (40 * k + 1)).2 ?_
    have h2 : x ^ k ≤ (10000 ^ 40) ^ k := Nat.pow_le_pow_left (Nat.le_of_lt h1) k
    rw [← Nat.pow_mul] at h2
    exact Nat.lt_of_le_of_lt h2 (Nat.pow_lt_pow_right (by decide) (Nat.lt_succ_self _))
  omega
theorem Nm.lit2 (w : World) (o o' : Obj) (t : TypeId) : Nm (((w.alloc o).alloc o').alloc (.cells #[.int .i64 1] t)) (some ⟨w.heap.size + 1 + 1, 0, none⟩) 1 1 := by
  have := Nm.lit ((w.alloc o).alloc o') t
  rwa [World.size_alloc, World.size_alloc] at this
theorem Nm.lit3 (w : World) (o o' o'' : Obj) (t : TypeId) : Nm ((((w.alloc o).alloc o').alloc o'').alloc (.cells #[.int .i64 1] t)) (some ⟨w.heap.size + 1 + 1 + 1, 0, none⟩) 1 1 := by
  have := Nm.lit (((w.alloc o).alloc o').alloc o'') t
  rwa [World.size_alloc, World.size_alloc, World.size_alloc] at this
theorem below4 (w : World) (o o' o'' o3 : Obj) : Below w.heap.size w ((((w.alloc o).alloc o').alloc o'').alloc o3) := (below3 w o o' o'').alloc (by simp; omega) _
theorem pow_lens (a : Rat) (k : Nat) (h1 : (D (nu a)).length ≤ 40) (h2 : (D a.den).length ≤ 40) (hk : k ≤ 8) : (D (nu (a ^ k))).length ≤ 3600 ∧ (D (a ^ k).den).length ≤ 3600 := by
  obtain ⟨e1, e2, _⟩ := pow_parts a k
  rw [e1, e2]
  exact ⟨pow_len _ _ h1 hk, pow_len _ _ h2 hk⟩
end Nt
namespace Go.Proofs.YtifepoefeamboaaGreatDoor
open Go Go.RowKit Nt

set_option maxRecDepth 20000 in
set_option maxHeartbeats 3200000 in
theorem raised_core (na : Bool) (x y : Nat) (f g : Nat → Nat) (hf0 : f 0 = 1) (hg0 : g 0 = 1) (hf : ∀ k, f k * x = f (k + 1)) (hg : ∀ k, g k * y = g (k + 1)) (n : Nat) (hn : n ≤ 8) (lf : ∀ k, k ≤ 8 → (D (f k)).length ≤ 3600) (lg : ∀ k, k ≤ 8 → (D (g k)).length ≤ 3600)
    (A B : Option Addr) (ca cb : Nat) (P : Nat → Prop) (w : World) (k0 : RdR w P (D x) (D y) A ca B cb) (l1 : (D x).length ≤ 3600) (l2 : (D y).length ≤ 3600) :
    Calls Tryz.prog 187 #[.agg #[.bool na, .slice A (D x).length ca, .slice B (D y).length cb], .int .i64 (n : Int)] w (SayR w ((na && (n % 2 == 1)) && decide (0 < (D (f n)).length)) (D (f n)) (D (g n))) := by
  have H0 := Lib.hid (k0.mono (Q := (· < w.heap.size)) fun _ _ h => h)
  have HF0 := Lib.hid hf0
  have HG0 := Lib.hid hg0
  have HF := Lib.hid hf
  have HG := Lib.hid hg
  have HLF := Lib.hid lf
  have HLG := Lib.hid lg
  clear k0 hf0 hg0 hf hg lf lg
  go_enter Tryz.func187, Tryz.ntmps187
  go_wp2
  go_loopw [5, 6, 10] (fun s5 s6 s10 wr => ∃ (k : Nat) (U V : Option Addr) (cu cv : Nat), k ≤ n ∧ s5 = .slice U (D (f k)).length cu ∧ s6 = .slice V (D (g k)).length cv ∧ s10 = .int .i64 k ∧ Nm wr U cu (f k) ∧ Nm wr V cv (g k) ∧ RatAt wr w.heap.size 31 na A (D x).length ca B (D y).length cb ∧ RatAt wr (w.heap.size + 1) 31 false none 0 0 none 0 0 ∧ Below w.heap.size w wr) (fun _ _ i _ => n - (intOf i).toNat)
  case atStart =>
    exact ⟨0, _, _, 1, 1, Nat.zero_le _, by rw [HF0.out]; rfl, by rw [HG0.out]; rfl, rfl, by rw [HF0.out]; exact (Nm.lit2 _ _ _ _).on (below1 _ _), by rw [HG0.out]; exact Nm.lit3 _ _ _ _ _, (((RatAt.new _ _ _ _ _ _ _ _ _).alloc _).alloc _).alloc _, ((RatAt.new1 _ _ _ _ _ _ _ _ _ _).alloc _).alloc _, below4 _ _ _ _ _⟩
  case round =>
    obtain ⟨k, U, V, cu, cv, hk, rfl, rfl, rfl, hu, hv, r0, r1, hb⟩ := hrel
    have HNu0 := Lib.hid hu
    have HNv0 := Lib.hid hv
    have HR0 := Lib.hid r0
    have HT0 := Lib.hid r1
    have HB0 := Lib.hid hb
    clear hu hv r0 r1 hb
    generalize wr = v0 at *
    have lu := HLF.out k (by omega)
    have lv := HLG.out k (by omega)
    by_cases hlt : k < n
    · have hlt' : (k : Int) < n := by omega
      go_upto_region 4 with fail
      go_region_held3 (fun wx => wx.cell? ⟨w.heap.size, 0, none⟩ = some (.bool na) ∧ wx.cell? ⟨w.heap.size, 1, none⟩ = some (.slice A (D x).length ca) ∧ wx.cell? ⟨w.heap.size, 2, none⟩ = some (.slice B (D y).length cb))
        (first | exact ⟨(HR0.out).c0, (HR0.out).c1, (HR0.out).c2⟩ | exact ⟨(HR1.out).c0, (HR1.out).c1, (HR1.out).c2⟩ | exact ⟨(HR2.out).c0, (HR2.out).c1, (HR2.out).c2⟩)
        (first
          | (go_at_call_of 142 B; refine (productLimbs_any V B _ cv _ cb (g k) y _ _ _ (by first | exact HNv1.out | exact Rd.drew HNv1.out) (by exact (H0.out.below HB1.out).2) (by omega) (by omega)).mono ?_; rintro e v2 hnew; rw [HG.out k] at hnew; obtain ⟨V2, d2, rfl, p2, bb⟩ := new_of hnew; have sv2 := bb.size; have HB2 := Lib.hid (below_on HB1.out bb); have HR2 := Lib.hid (HR1.out.on bb); have HT2 := Lib.hid (HT1.out.on bb); have HNu2 := Lib.hid (HNu1.out.on bb); have HNv2 := Lib.hid (HNv1.out.on bb); have HN12 := Lib.hid (HN11.out.on bb); have HN22 := Lib.hid p2; clear hnew p2 bb)
          | (go_at_call_of 142 A; refine (productLimbs_any U A _ cu _ ca (f k) x _ _ _ (by first | exact HNu0.out | exact Rd.drew HNu0.out) (by exact (H0.out.below HB0.out).1) (by omega) (by omega)).mono ?_; rintro e v1 hnew; rw [HF.out k] at hnew; obtain ⟨V1, d1, rfl, p1, bb⟩ := new_of hnew; have bb := undrew bb; have sv1 := bb.size; have HB1 := Lib.hid (below_on HB0.out bb); have HR1 := Lib.hid (HR0.out.on bb); have HT1 := Lib.hid (HT0.out.on bb); have HNu1 := Lib.hid (HNu0.out.on bb); have HNv1 := Lib.hid (HNv0.out.on bb); have HN11 := Lib.hid p1; clear hnew p1 bb))
      go_wp2
      go_roundw
      case rel => exact ⟨k + 1, V1, V2, d1, d2, by omega, rfl, rfl, by go_num, HN12.out, HN22.out, HR2.out, HT2.out, HB2.out⟩
      case measure => simp [intOf]; omega
    · obtain rfl : k = n := by omega
      have q0 := HR0.out.c0
      cases na with
      | false =>
        go_wp2_with fail
        refine (ratOf_any false U V _ cu _ cv v0 (by omega)).mono ?_
        rintro e v1 ⟨rfl, bb⟩
        have HB1 := Lib.hid (below_on HB0.out bb)
        have HT1 := Lib.hid (HT0.out.on bb)
        have HU1 := Lib.hid (HNu0.out.on bb)
        have HV1 := Lib.hid (HNv0.out.on bb)
        clear bb q0
        have f0 := HT1.out.fz 0
        have f1 := HT1.out.fz 1
        have f2 := HT1.out.fz 2
        have y0 := HT1.out.c0
        have y1 := HT1.out.c1
        have y2 := HT1.out.c2
        go_wp2
        have g2 := fun b u v => setAll_grown v1 (w.heap.size + 1) (.bool b) u v
        refine bodyPost_ret (retR rfl _ _ _ rfl (HT1.out.setAll _ _ _ _ _ _ _)) rfl ?_
        exact ⟨U, cu, V, cv, rfl, ⟨Rd.past HU1.out HT1.out (g2 _ _ _), Rd.past HV1.out HT1.out (g2 _ _ _)⟩, below_grow HB1.out (by omega) (g2 _ _ _)⟩
      | true =>
        have HP : Hid (((k : Int) % 2 == 1) = (k % 2 == 1)) := Lib.hid (by rw [Bool.eq_iff_iff]; simp; omega)
        go_wp2_with fail
        refine (ratOf_any _ U V _ cu _ cv v0 (by omega)).mono ?_
        rintro e v1 ⟨rfl, bb⟩
        have HB1 := Lib.hid (below_on HB0.out bb)
        have HT1 := Lib.hid (HT0.out.on bb)
        have HU1 := Lib.hid (HNu0.out.on bb)
        have HV1 := Lib.hid (HNv0.out.on bb)
        clear bb q0
        have f0 := HT1.out.fz 0
        have f1 := HT1.out.fz 1
        have f2 := HT1.out.fz 2
        have y0 := HT1.out.c0
        have y1 := HT1.out.c1
        have y2 := HT1.out.c2
        go_wp2
        have g2 := fun b u v => setAll_grown v1 (w.heap.size + 1) (.bool b) u v
        refine bodyPost_ret (retR rfl _ _ _ rfl (HT1.out.setAll _ _ _ _ _ _ _)) rfl ?_
        exact ⟨U, cu, V, cv, by rw [HP.out]; rfl, ⟨Rd.past HU1.out HT1.out (g2 _ _ _), Rd.past HV1.out HT1.out (g2 _ _ _)⟩, below_grow HB1.out (by omega) (g2 _ _ _)⟩
theorem raised_any (a : Rat) (n : Nat) (hn : n ≤ 8) (A B : Option Addr) (ca cb : Nat) (P : Nat → Prop) (w : World) (h0 : RdR w P (D (nu a)) (D a.den) A ca B cb) (l1 : (D (nu a)).length ≤ 40) (l2 : (D a.den).length ≤ 40) :
    Calls Tryz.prog 187 #[.agg #[.bool (isNeg a), .slice A (D (nu a)).length ca, .slice B (D a.den).length cb], .int .i64 (n : Int)] w (SayR w (isNeg (a ^ n)) (D (nu (a ^ n))) (D (a ^ n).den)) := by
  obtain ⟨e1, e2, e3⟩ := pow_parts a n
  rw [e3, e2, e1, ← D_pos_len]
  exact raised_core (isNeg a) (nu a) a.den (fun k => nu a ^ k) (fun k => a.den ^ k) rfl rfl (fun k => (Nat.pow_succ ..).symm) (fun k => (Nat.pow_succ ..).symm) n hn (fun k hk => pow_len _ _ l1 hk) (fun k hk => pow_len _ _ l2 hk) A B ca cb P w h0 (by omega) (by omega)

set_option maxHeartbeats 800000 in
theorem l02Int_nat (m : Nat) (w : World) (hm : m ≤ 1000000000000) :
    Calls Tryz.prog 87 #[.int .i64 (m : Int)] w (SayR w false (D m) (D 1)) := by
  have hge : decide ((m : Int) < 0) = false := decide_eq_false (by omega)
  go_enter Tryz.func87, Tryz.ntmps87
  go_wp2_with fail
  refine calls_at (fun W => Below w.heap.size w W ∧ RatAt W w.heap.size 31 false none 0 0 none 0 0) ⟨below1 _ _, RatAt.new _ _ _ _ _ _ _ _ _⟩ ?_
  rintro W ⟨hb, r0⟩
  refine (l01Small_any m W (by omega)).mono ?_
  rintro e w1 hnew
  obtain ⟨A1, c1, rfl, m1, b1⟩ := new_of hnew
  have HB1 := Lib.hid (below_on (below_on hb b1) (below1 w1 (.cells #[.int .i64 1] 3)))
  have HT1 := Lib.hid ((r0.on b1).alloc (.cells #[.int .i64 1] 3))
  have HM1 := Lib.hid (m1.on (below1 w1 (.cells #[.int .i64 1] 3)))
  have HL1 := Lib.hid (Nm.lit w1 3)
  clear hnew hb r0 m1 b1
  have f0 := HT1.out.fz 0
  have f1 := HT1.out.fz 1
  have f2 := HT1.out.fz 2
  have y0 := HT1.out.c0
  have y1 := HT1.out.c1
  have y2 := HT1.out.c2
  go_wp2
  have g2 := fun b u v => setAll_grown (w1.alloc (.cells #[.int .i64 1] 3)) w.heap.size (.bool b) u v
  refine bodyPost_ret (retR rfl _ _ _ rfl (HT1.out.setAll _ _ _ _ _ _ _)) rfl ?_
  exact ⟨A1, c1, _, 1, rfl, ⟨Rd.past HM1.out HT1.out (g2 _ _ _), Rd.past HL1.out HT1.out (g2 _ _ _)⟩, below_grow HB1.out (by omega) (g2 _ _ _)⟩

end Go.Proofs.YtifepoefeamboaaGreatDoor
