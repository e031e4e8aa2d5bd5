/-
  Whether a node's children lie ahead of it; a node with its children's steps: of the program.
-/
import Derived.Test.YtcepjcnpokpdcaaGreatDoorTapeMath
import Derived.Test.YtcepjcnpokpdcaaGreatDoorGrpF
namespace Nt
open Go Go.RowKit
def bad (c p : Int) : Bool := decide (c < 0) || decide (p ≤ c)
def kv (a b : Int) (j : Nat) : Int := if j = 0 then a else b
theorem behind_yes {op a b n p : Int} (h : ∀ j, j < (arityN op).toNat → bad (kv a b j) p = false) : behind (op, a, b, n) p = true := by
  unfold behind
  unfold arityN at h
  dsimp only
  cases h2 : two op with
  | true =>
    rw [h2, if_pos rfl] at h
    have q0 := h 0 (by decide)
    have q1 := h 1 (by decide)
    unfold bad kv at q0 q1
    simp at q0 q1
    simp
    omega
  | false =>
    rw [h2, if_neg Bool.false_ne_true] at h
    cases h1 : one op with
    | true =>
      rw [h1, if_pos rfl] at h
      have q0 := h 0 (by decide)
      unfold bad kv at q0
      simp at q0
      simp
      omega
    | false => rfl
theorem behind_no {op a b n p : Int} {j : Nat} (hj : j < (arityN op).toNat) (h : bad (kv a b j) p = true) : behind (op, a, b, n) p = false := by
  unfold behind
  unfold arityN at hj
  dsimp only
  cases h2 : two op with
  | true =>
    rw [h2, if_pos rfl] at hj
    have hj : j = 0 ∨ j = 1 := by have : j < 2 := hj; omega
    unfold bad kv at h
    rcases hj with rfl | rfl <;> simp at h <;> simp <;> omega
  | false =>
    rw [h2, if_neg Bool.false_ne_true] at hj
    cases h1 : one op with
    | true =>
      rw [h1, if_pos rfl] at hj
      have hj : j = 0 := by have : j < 1 := hj; omega
      unfold bad kv at h
      subst hj
      simp at h
      simp
      omega
    | false =>
      rw [h1, if_neg Bool.false_ne_true] at hj
      have hj : j < 0 := hj
      omega
end Nt
namespace Go.Proofs.YtcepjcnpokpdcaaGreatDoor
open Go Go.RowKit Nt

theorem behind1_any (x p : Int) (B : Nat) (w : World) (hB : w.cell? ⟨B, 0, none⟩ = some (.int .i64 p)) :
    Calls Tryz.prog 171 #[.int .i64 x, .pointer (some ⟨B, 0, none⟩)] w fun e w' => e = .returned (.bool (bad x p)) ∧ w = w' := by
  by_cases h : x < 0
  · have HV : Hid (bad x p = true) := by show _ = _; unfold bad; rw [decide_eq_true h]; rfl
    have d : decide (x < 0) = true := decide_eq_true h
    go_enter Tryz.func171, Tryz.ntmps171
    go_wp2
    go_ret
    exact ⟨ret_bool HV.out.symm, rfl⟩
  · have HV : Hid (bad x p = decide (p ≤ x)) := by show _ = _; unfold bad; rw [decide_eq_false h]; rfl
    have d : decide (x < 0) = false := decide_eq_false h
    go_enter Tryz.func171, Tryz.ntmps171
    go_wp2
    go_ret
    exact ⟨ret_bool HV.out.symm, rfl⟩

set_option maxHeartbeats 1600000 in
theorem indexBehind_any (g N B : Nat) (op a b n p : Int) (w : World) (hN : N = (arityN op).toNat) (hg : w.heap[g]? = some (.cells #[.int .i64 a, .int .i64 b] 3 (0, 0))) (hB : w.cell? ⟨B, 0, none⟩ = some (.int .i64 p)) :
    Calls Tryz.prog 186 #[.slice (some ⟨g, 0, none⟩) N 2, .func (.func 171) #[] #[.pointer (some ⟨B, 0, none⟩)]] w fun e w' => ∃ r : Int, e = .returned (.int .i64 r) ∧ decide (0 ≤ r) = (!behind (op, a, b, n) p) ∧ w = w' := by
  have hN2 : N ≤ 2 := by rw [hN]; exact arity_le op
  have HNO : Hid (∀ k, k < N → bad (kv a b k) p = true → decide (0 ≤ (k : Int)) = (!behind (op, a, b, n) p)) := fun k hk h => by rw [behind_no (hN ▸ hk) h]; simp
  have HYES : Hid ((∀ j, j < N → bad (kv a b j) p = false) → decide (0 ≤ (-1 : Int)) = (!behind (op, a, b, n) p)) := fun h => by rw [behind_yes (hN ▸ h)]; rfl
  have HC : Hid (∀ k, k < N → w.cell? ⟨g, k, none⟩ = some (.int .i64 (kv a b k))) := fun k hk => by
    rw [cell_of_row w g k _ 3 (0, 0) hg]
    unfold kv
    rcases (show k = 0 ∨ k = 1 by omega) with rfl | rfl <;> rfl
  clear hg hN
  go_enter Tryz.func186, Tryz.ntmps186
  go_wp2
  go_loop [8] (fun i => ∃ k : Nat, k ≤ N ∧ i = .int .i64 k ∧ Hid (∀ j, j < k → bad (kv a b j) p = false)) (fun i => N - (intOf i).toNat)
  case atStart => exact ⟨0, Nat.zero_le _, rfl, Lib.hid (fun j hj => by omega)⟩
  case round =>
    obtain ⟨k, hk, rfl, HK⟩ := hrel
    by_cases hlt : k < N
    · have c0 := HC.out k hlt
      have HF1 := Lib.hid (HNO.out k hlt)
      have HF2 : Hid (bad (kv a b k) p = false → ∀ j, j < k + 1 → bad (kv a b j) p = false) := fun h j hj => by
        by_cases e : j = k
        · subst e; exact h
        · exact HK.out j (by omega)
      have hkn : (k : Int) < N := by omega
      generalize kv a b k = x at *
      go_wp2_with fail
      refine (behind1_any x p B w hB).mono ?_
      rintro e w1 ⟨rfl, rfl⟩
      clear c0
      cases hf : bad x p with
      | false =>
        have HF := Lib.hid (HF2.out hf)
        clear HF1 HF2 hf
        go_wp2
        go_round
        case rel => exact ⟨k + 1, by omega, by go_num, HF⟩
        case measure => simp [intOf]; omega
      | true =>
        have HF := Lib.hid (HF1.out hf)
        clear HF1 HF2 hf
        go_wp2
        go_ret
        exact ⟨k, rfl, HF.out, rfl⟩
    · have HF := Lib.hid (HYES.out fun j hj => HK.out j (by omega))
      clear HK
      go_wp2
      go_ret
      exact ⟨-1, rfl, HF.out, rfl⟩
theorem containsBehind_any (g N B : Nat) (op a b n p : Int) (w : World) (hN : N = (arityN op).toNat) (hg : w.heap[g]? = some (.cells #[.int .i64 a, .int .i64 b] 3 (0, 0))) (hB : w.cell? ⟨B, 0, none⟩ = some (.int .i64 p)) :
    Calls Tryz.prog 170 #[.slice (some ⟨g, 0, none⟩) N 2, .func (.func 171) #[] #[.pointer (some ⟨B, 0, none⟩)]] w fun e w' => e = .returned (.bool (!behind (op, a, b, n) p)) ∧ w = w' := by
  have HI := Lib.hid (indexBehind_any g N B op a b n p w hN hg hB)
  clear hg hN
  go_enter Tryz.func170, Tryz.ntmps170
  go_wp2_with fail
  refine HI.out.mono ?_
  rintro e w1 ⟨r, rfl, hd, rfl⟩
  have HD := Lib.hid hd
  clear hd
  go_wp2
  go_ret
  exact ⟨ret_bool HD.out, rfl⟩

set_option maxHeartbeats 1600000 in
theorem isBehind_any (op a b n p : Int) (w : World) :
    Calls Tryz.prog 147 #[.agg #[.int .i64 op, .int .i64 a, .int .i64 b, .int .i64 n], .int .i64 p] w fun e w' => e = .returned (.bool (behind (op, a, b, n) p)) ∧ Below w.heap.size w w' := by
  go_enter Tryz.func147, Tryz.ntmps147
  go_wp2_with fail
  refine calls_atN (fun v => v.cell? ⟨w.heap.size + 1, 0, none⟩ = some (.int .i64 p) ∧ Below w.heap.size w v ∧ w.heap.size + 1 < v.heap.size) ⟨?_, ((Below.refl _ _).alloc (Nat.le_refl _) _).alloc (by simp) _, by simp⟩ ?_
  · have h := cell_of_row _ _ 0 _ _ (0, 0) (heap_alloc_new (w.alloc (.cells #[.int .i64 op, .int .i64 a, .int .i64 b, .int .i64 n] 127)) (.cells #[.int .i64 p] 3))
    rw [World.size_alloc] at h
    exact h
  rintro v1 ⟨pc, pB, pz⟩
  refine (children_any op a b n v1).mono ?_
  rintro e v2 ⟨g, rfl, hgl, hg, bb⟩
  have c0 := (bb.cell (p := ⟨w.heap.size + 1, 0, none⟩) pz).trans pc
  have HB := Lib.hid (belowN_on pB bb)
  have HCB := Lib.hid (containsBehind_any g _ (w.heap.size + 1) op a b n p v2 rfl hg c0)
  clear hg bb pB pc hgl
  go_wp2_with fail
  refine HCB.out.mono ?_
  rintro e v3 ⟨rfl, rfl⟩
  clear HCB
  obtain ⟨J, hJ⟩ : ∃ J, behind (op, a, b, n) p = J := ⟨_, rfl⟩
  have HJ := Lib.hid hJ
  rw [hJ]
  clear hJ
  cases J
  all_goals
    go_wp2
    go_ret
    exact ⟨ret_bool HJ.out.symm, HB.out⟩

set_option maxHeartbeats 3200000 in
theorem withKids_any (op a b n : Int) (A : Option Addr) (m c : Nat) (az : List Int) (w : World) (hr : Rd w (· < w.heap.size) A m c az) (hm : m ≤ 60)
    (ha : (two op || one op) = true → 0 ≤ a ∧ a < m) (hb : two op = true → 0 ≤ b ∧ b < m) :
    Calls Tryz.prog 173 #[.agg #[.int .i64 op, .int .i64 a, .int .i64 b, .int .i64 n], .slice A m c] w fun e w' => e = .returned (.agg #[.int .i64 (wired az (op, a, b, n)).1, .int .i64 (wired az (op, a, b, n)).2.1, .int .i64 (wired az (op, a, b, n)).2.2.1, .int .i64 (wired az (op, a, b, n)).2.2.2]) ∧ Below w.heap.size w w' := by
  have HR := Lib.hid hr
  have HW : Hid (wired az (op, a, b, n) = (op, (if (two op || one op) = true then az.getD a.toNat 0 else a), (if two op = true then az.getD b.toNat 0 else b), n)) := rfl
  clear hr
  have hN0 : NodeAt ((w.alloc (.cells #[.int .i64 op, .int .i64 a, .int .i64 b, .int .i64 n] 127)).alloc (.cells #[.int .i64 0, .int .i64 0, .int .i64 0, .int .i64 0] 127)) w.heap.size 127 op a b n := (NodeAt.new _ _ _ _ _ _).on (below_one _ _)
  have hR0 : NodeAt ((w.alloc (.cells #[.int .i64 op, .int .i64 a, .int .i64 b, .int .i64 n] 127)).alloc (.cells #[.int .i64 0, .int .i64 0, .int .i64 0, .int .i64 0] 127)) (w.heap.size + 1) 127 0 0 0 0 := by
    have h := NodeAt.new (w.alloc (.cells #[.int .i64 op, .int .i64 a, .int .i64 b, .int .i64 n] 127)) 127 0 0 0 0
    rwa [World.size_alloc] at h
  have hB0 : Below w.heap.size w ((w.alloc (.cells #[.int .i64 op, .int .i64 a, .int .i64 b, .int .i64 n] 127)).alloc (.cells #[.int .i64 0, .int .i64 0, .int .i64 0, .int .i64 0] 127)) := ((Below.refl _ _).alloc (Nat.le_refl _) _).alloc (by simp) _
  have HN0 := Lib.hid hN0
  have HR0 := Lib.hid hR0
  have HB0 := Lib.hid hB0
  clear hN0 hR0 hB0
  have fin : ∀ (v : World) (x y : Int), NodeAt v w.heap.size 127 op x y n → NodeAt v (w.heap.size + 1) 127 0 0 0 0 → Below w.heap.size w v → NodeAt (Nt.set4 v (w.heap.size + 1) 0 (op, x, y, n)) (w.heap.size + 1) 127 op x y n ∧ Below w.heap.size w (Nt.set4 v (w.heap.size + 1) 0 (op, x, y, n)) := fun v x y _ h2 h3 => ⟨h2.set4 (op, x, y, n), belowN_grow h3 (Nat.le_succ _) (set4_grown v (w.heap.size + 1) 0 (op, x, y, n))⟩
  have HFIN := Lib.hid fin
  clear fin
  cases h2 : two op with
  | true =>
    obtain ⟨a', rfl⟩ : ∃ a' : Nat, a = a' := ⟨a.toNat, by have := (ha (by rw [h2]; rfl)).1; omega⟩
    obtain ⟨b', rfl⟩ : ∃ b' : Nat, b = b' := ⟨b.toNat, by have := (hb h2).1; omega⟩
    have ha' : (a' : Int) < m := (ha (by rw [h2]; rfl)).2
    have hb' : (b' : Int) < m := (hb h2).2
    have har : arityN op = 2 := by unfold arityN; rw [if_pos h2]
    obtain ⟨g, o, rfl, hP, _, hc⟩ := HR.out.at_ (by omega)
    have HCa := Lib.hid (hc a' (by omega))
    have HCb := Lib.hid (hc b' (by omega))
    replace HW : Hid (wired az (op, (a' : Int), (b' : Int), n) = (op, az.getD a' 0, az.getD b' 0, n)) := by show _ = _; rw [HW.out, h2]; simp
    rw [HW.out]
    generalize az.getD a' 0 = x at *
    generalize az.getD b' 0 = y at *
    clear hc ha hb HW HR h2
    go_enter Tryz.func173, Tryz.ntmps173
    go_wp2_with fail
    refine calls_atN (fun v => NodeAt v w.heap.size 127 op a' b' n ∧ NodeAt v (w.heap.size + 1) 127 0 0 0 0 ∧ Below w.heap.size w v) ⟨HN0.out, HR0.out, HB0.out⟩ ?_
    rintro v1 ⟨p1, p2, p3⟩
    refine (implArity_any op a' b' n v1).mono ?_
    rintro e v2 ⟨rfl, bb⟩
    rw [har]
    have n1 := p1.on bb
    have n2 := p2.on bb
    have n3 := belowN_on p3 bb
    have c1 := n1.c1
    have f1 := n1.fz 1
    have ca := (n3.cell (p := ⟨g, o + a', none⟩) hP).trans HCa.out
    have m1 : NodeAt (v2.setCell ⟨w.heap.size, 1, none⟩ (.int .i64 x)) w.heap.size 127 op x b' n := by
      have := heap_setCell_same v2 w.heap.size 1 _ 127 (.int .i64 x) n1
      unfold NodeAt; rw [this]; rfl
    have k1 : v2.grownBy (v2.setCell ⟨w.heap.size, 1, none⟩ (.int .i64 x)) (some w.heap.size) := grown_set (World.grownBy.refl _ _) _
    have m2 : NodeAt (v2.setCell ⟨w.heap.size, 1, none⟩ (.int .i64 x)) (w.heap.size + 1) 127 0 0 0 0 := (k1.block _ n2.lt (fun e => by injection e with e; omega)).trans n2
    have m3 := belowN_grow n3 (Nat.le_refl _) k1
    have HM1 := Lib.hid m1
    have HM2 := Lib.hid m2
    have HM3 := Lib.hid m3
    have u0 := HM1.out.c0
    have u1 := HM1.out.c1
    have u2 := HM1.out.c2
    have u3 := HM1.out.c3
    clear p1 p2 p3 bb n1 n2 n3 m1 m2 m3 k1
    go_wp2_with fail
    clear c1 f1 ca u0 u1 u2 u3
    refine calls_atN (fun v => NodeAt v w.heap.size 127 op x b' n ∧ NodeAt v (w.heap.size + 1) 127 0 0 0 0 ∧ Below w.heap.size w v) ⟨HM1.out, HM2.out, HM3.out⟩ ?_
    clear HM1 HM2 HM3 HN0 HR0 HB0
    rintro v3 ⟨p1, p2, p3⟩
    refine (implArity_any op x b' n v3).mono ?_
    rintro e v4 ⟨rfl, bb⟩
    rw [har]
    have n1 := p1.on bb
    have n2 := p2.on bb
    have n3 := belowN_on p3 bb
    have c2 := n1.c2
    have f2 := n1.fz 2
    have cb := (n3.cell (p := ⟨g, o + b', none⟩) hP).trans HCb.out
    have m1 : NodeAt (v4.setCell ⟨w.heap.size, 2, none⟩ (.int .i64 y)) w.heap.size 127 op x y n := by
      have := heap_setCell_same v4 w.heap.size 2 _ 127 (.int .i64 y) n1
      unfold NodeAt; rw [this]; rfl
    have k1 : v4.grownBy (v4.setCell ⟨w.heap.size, 2, none⟩ (.int .i64 y)) (some w.heap.size) := grown_set (World.grownBy.refl _ _) _
    have m2 : NodeAt (v4.setCell ⟨w.heap.size, 2, none⟩ (.int .i64 y)) (w.heap.size + 1) 127 0 0 0 0 := (k1.block _ n2.lt (fun e => by injection e with e; omega)).trans n2
    have m3 := belowN_grow n3 (Nat.le_refl _) k1
    obtain ⟨z1, z2⟩ := HFIN.out _ x y m1 m2 m3
    have HZ1 := Lib.hid z1
    have HZ2 := Lib.hid z2
    have q0 := m1.c0
    have q1 := m1.c1
    have q2 := m1.c2
    have q3 := m1.c3
    have r0 := m2.c0
    have r1 := m2.c1
    have r2 := m2.c2
    have r3 := m2.c3
    have s0 := m2.fz 0
    have s1 := m2.fz 1
    have s2 := m2.fz 2
    have s3 := m2.fz 3
    clear p1 p2 p3 bb n1 n2 n3 m1 m2 m3 k1 z1 z2 HFIN
    go_wp2
    exact bodyPost_ret (retNode rfl _ _ (w.heap.size + 1) rfl HZ1.out) rfl ⟨rfl, HZ2.out⟩
  | false =>
  cases h1 : one op with
  | true =>
    obtain ⟨a', rfl⟩ : ∃ a' : Nat, a = a' := ⟨a.toNat, by have := (ha (by rw [h1, Bool.or_true])).1; omega⟩
    have ha' : (a' : Int) < m := (ha (by rw [h1, Bool.or_true])).2
    have har : arityN op = 1 := by unfold arityN; rw [h2, h1]; rfl
    obtain ⟨g, o, rfl, hP, _, hc⟩ := HR.out.at_ (by omega)
    have HCa := Lib.hid (hc a' (by omega))
    replace HW : Hid (wired az (op, (a' : Int), b, n) = (op, az.getD a' 0, b, n)) := by show _ = _; rw [HW.out, h2, h1]; simp
    rw [HW.out]
    generalize az.getD a' 0 = x at *
    clear hc ha hb HW HR h2 h1
    go_enter Tryz.func173, Tryz.ntmps173
    go_wp2_with fail
    refine calls_atN (fun v => NodeAt v w.heap.size 127 op a' b n ∧ NodeAt v (w.heap.size + 1) 127 0 0 0 0 ∧ Below w.heap.size w v) ⟨HN0.out, HR0.out, HB0.out⟩ ?_
    rintro v1 ⟨p1, p2, p3⟩
    refine (implArity_any op a' b n v1).mono ?_
    rintro e v2 ⟨rfl, bb⟩
    rw [har]
    have n1 := p1.on bb
    have n2 := p2.on bb
    have n3 := belowN_on p3 bb
    have c1 := n1.c1
    have f1 := n1.fz 1
    have ca := (n3.cell (p := ⟨g, o + a', none⟩) hP).trans HCa.out
    have m1 : NodeAt (v2.setCell ⟨w.heap.size, 1, none⟩ (.int .i64 x)) w.heap.size 127 op x b n := by
      have := heap_setCell_same v2 w.heap.size 1 _ 127 (.int .i64 x) n1
      unfold NodeAt; rw [this]; rfl
    have k1 : v2.grownBy (v2.setCell ⟨w.heap.size, 1, none⟩ (.int .i64 x)) (some w.heap.size) := grown_set (World.grownBy.refl _ _) _
    have m2 : NodeAt (v2.setCell ⟨w.heap.size, 1, none⟩ (.int .i64 x)) (w.heap.size + 1) 127 0 0 0 0 := (k1.block _ n2.lt (fun e => by injection e with e; omega)).trans n2
    have m3 := belowN_grow n3 (Nat.le_refl _) k1
    have HM1 := Lib.hid m1
    have HM2 := Lib.hid m2
    have HM3 := Lib.hid m3
    have u0 := HM1.out.c0
    have u1 := HM1.out.c1
    have u2 := HM1.out.c2
    have u3 := HM1.out.c3
    clear p1 p2 p3 bb n1 n2 n3 m1 m2 m3 k1
    go_wp2_with fail
    clear c1 f1 ca u0 u1 u2 u3
    refine calls_atN (fun v => NodeAt v w.heap.size 127 op x b n ∧ NodeAt v (w.heap.size + 1) 127 0 0 0 0 ∧ Below w.heap.size w v) ⟨HM1.out, HM2.out, HM3.out⟩ ?_
    clear HM1 HM2 HM3 HN0 HR0 HB0
    rintro v3 ⟨p1, p2, p3⟩
    refine (implArity_any op x b n v3).mono ?_
    rintro e v4 ⟨rfl, bb⟩
    rw [har]
    have m1 := p1.on bb
    have m2 := p2.on bb
    have m3 := belowN_on p3 bb
    obtain ⟨z1, z2⟩ := HFIN.out _ x b m1 m2 m3
    have HZ1 := Lib.hid z1
    have HZ2 := Lib.hid z2
    have q0 := m1.c0
    have q1 := m1.c1
    have q2 := m1.c2
    have q3 := m1.c3
    have r0 := m2.c0
    have r1 := m2.c1
    have r2 := m2.c2
    have r3 := m2.c3
    have s0 := m2.fz 0
    have s1 := m2.fz 1
    have s2 := m2.fz 2
    have s3 := m2.fz 3
    clear p1 p2 p3 bb m1 m2 m3 z1 z2 HFIN
    go_wp2
    exact bodyPost_ret (retNode rfl _ _ (w.heap.size + 1) rfl HZ1.out) rfl ⟨rfl, HZ2.out⟩
  | false =>
    have har : arityN op = 0 := by unfold arityN; rw [h2, h1]; rfl
    replace HW : Hid (wired az (op, a, b, n) = (op, a, b, n)) := by show _ = _; rw [HW.out, h2, h1]; simp
    rw [HW.out]
    clear ha hb HW HR h2 h1
    go_enter Tryz.func173, Tryz.ntmps173
    go_wp2_with fail
    refine calls_atN (fun v => NodeAt v w.heap.size 127 op a b n ∧ NodeAt v (w.heap.size + 1) 127 0 0 0 0 ∧ Below w.heap.size w v) ⟨HN0.out, HR0.out, HB0.out⟩ ?_
    rintro v1 ⟨p1, p2, p3⟩
    refine (implArity_any op a b n v1).mono ?_
    rintro e v2 ⟨rfl, bb⟩
    rw [har]
    have c0 := (p1.on bb).c0
    have c1 := (p1.on bb).c1
    have c2 := (p1.on bb).c2
    have c3 := (p1.on bb).c3
    have HM1 := Lib.hid (p1.on bb)
    have HM2 := Lib.hid (p2.on bb)
    have HM3 := Lib.hid (belowN_on p3 bb)
    clear p1 p2 p3 bb HN0 HR0 HB0
    go_wp2_with fail
    clear c0 c1 c2 c3
    refine (implArity_any op a b n v2).mono ?_
    rintro e v4 ⟨rfl, bb⟩
    rw [har]
    have m1 := HM1.out.on bb
    have m2 := HM2.out.on bb
    have m3 := belowN_on HM3.out bb
    obtain ⟨z1, z2⟩ := HFIN.out _ a b m1 m2 m3
    have HZ1 := Lib.hid z1
    have HZ2 := Lib.hid z2
    have q0 := m1.c0
    have q1 := m1.c1
    have q2 := m1.c2
    have q3 := m1.c3
    have r0 := m2.c0
    have r1 := m2.c1
    have r2 := m2.c2
    have r3 := m2.c3
    have s0 := m2.fz 0
    have s1 := m2.fz 1
    have s2 := m2.fz 2
    have s3 := m2.fz 3
    clear bb m1 m2 m3 z1 z2 HFIN HM1 HM2 HM3
    go_wp2
    exact bodyPost_ret (retNode rfl _ _ (w.heap.size + 1) rfl HZ1.out) rfl ⟨rfl, HZ2.out⟩
end Go.Proofs.YtcepjcnpokpdcaaGreatDoor
