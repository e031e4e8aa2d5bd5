/-
  Limbs in memory of their own: sums, differences, products, quotients and what is common to two.
-/
import Derived.Test.YtgeijojkfojfbaaDoorDivX
import Derived.Test.YtgeijojkfojfbaaDoorMul
import Derived.Test.YtgeijojkfojfbaaDoorDivNat
import Derived.Deep.RegionWith
import Derived.Deep.DeepCutAuto
namespace Nt
open Go Go.RowKit
/-- the slice holds the natural m -/
def Nm (w : World) (A : Option Addr) (c m : Nat) : Prop := Rd w (fun _ => True) A (D m).length c (D m)
theorem Nm.on {w w' : World} {A : Option Addr} {c m : Nat} (h : Nm w A c m) (hb : Below w.heap.size w w') : Nm w' A c m :=
  (((Rd.mono h (Q := (· < w.heap.size)) fun _ _ h => h).below hb).mono fun _ _ _ => trivial)
theorem Nm.drawn {w w' : World} {A : Option Addr} {c m : Nat} (h : Nm w A c m) (hb : Drawn w w') : Nm w' A c m := hb.rd h
theorem Nm.lit (w : World) (t : TypeId) : Nm (w.alloc (.cells #[.int .i64 1] t)) (some ⟨w.heap.size, 0, none⟩) 1 1 := (rd_one w t 1).mono fun _ _ _ => trivial
theorem new_of {t : TypeId} {w w' : World} {m : Nat} {e : Ending} (h : RetNew t w (D m) e w') : ∃ A c, e = .returned (.slice A (D m).length c) ∧ Nm w' A c m ∧ Below w.heap.size w w' := by
  obtain ⟨A, c, rfl, ho, hb⟩ := h
  exact ⟨A, c, rfl, (own_rd' ho).mono fun _ _ _ => trivial, hb⟩
theorem put_own {w w' : World} {g N : Nat} {t : TypeId} {xs : List Int} (h : Put t w g N xs w') (base : Nat) (hb : base ≤ g) (hN : N ≤ maxLen) : w'.ownsRow base t 1 (.slice (some ⟨g, 0, none⟩) xs.length N) xs.length (xs.map (Value.int .i64)) := by
  obtain ⟨full, h1, h2, h3, h4, h5⟩ := h
  have := h2.arx.own base hb xs.length N (by omega) (by omega) hN
  rwa [h3] at this
theorem put_below {w w' : World} {g N B : Nat} {t : TypeId} {xs : List Int} (h : Put t w g N xs w') (hB : B ≤ w.heap.size) (hg : B ≤ g) : Below B w w' := by
  obtain ⟨full, h1, h2, h3, h4, h5⟩ := h
  exact grown_below h5 hB hg
theorem own_block {w : World} {base n c g : Nat} {e : TypeId} {A : Option Addr} {xs : List Value} (h : w.ownsRow base e 1 (.slice A n c) n xs) (hA : A = some ⟨g, 0, none⟩) : base ≤ g ∧ g < w.heap.size := by
  subst hA
  exact h.lt g rfl
theorem mk_first {w w1 : World} {k n c1 : Nat} {A1 : Option Addr} {t : TypeId} {xs : List Value} (ho : w1.ownsRow (w.alloc (.cells (cellsOf (zeros k)) t)).drew.heap.size t 1 (.slice A1 n c1) n xs)
    (hb : Below (w.alloc (.cells (cellsOf (zeros k)) t)).drew.heap.size (w.alloc (.cells (cellsOf (zeros k)) t)).drew w1) :
    Arr w1 w.heap.size t (zeros k) ∧ w1.ownsRow w.heap.size t 1 (.slice A1 n c1) n xs ∧ (∀ g, A1 = some ⟨g, 0, none⟩ → g ≠ w.heap.size) ∧ Below w.heap.size w w1 := by
  have hs : (w.alloc (.cells (cellsOf (zeros k)) t)).drew.heap.size = w.heap.size + 1 := by show (w.alloc _).heap.size = _; simp
  refine ⟨(Arr.new w t (zeros k)).keep (hb.block _ (by omega)), own_mono ho (by omega), fun g hg => by have := own_block ho hg; omega, ?_⟩
  exact (below_drewN ((Below.refl w.heap.size w).alloc (Nat.le_refl _) _) 1).trans (hb.mono (by omega))
theorem mk_last {w w1 : World} {k n c1 : Nat} {A1 : Option Addr} {t : TypeId} {xs : List Value} (ho : w1.ownsRow w.drew.heap.size t 1 (.slice A1 n c1) n xs) (hb : Below w.drew.heap.size w.drew w1) :
    Arr (w1.alloc (.cells (cellsOf (zeros k)) t)) w1.heap.size t (zeros k) ∧ (w1.alloc (.cells (cellsOf (zeros k)) t)).ownsRow w.heap.size t 1 (.slice A1 n c1) n xs ∧ (∀ g, A1 = some ⟨g, 0, none⟩ → g ≠ w1.heap.size) ∧ Below w.heap.size w (w1.alloc (.cells (cellsOf (zeros k)) t)) ∧ w.heap.size ≤ w1.heap.size := by
  have hs : w.heap.size ≤ w1.heap.size := hb.size
  have h0 : Below w.heap.size w w1 := (below_drewN (Below.refl w.heap.size w) 1).trans hb
  exact ⟨Arr.new w1 t (zeros k), World.ownsRow.alloc ho _, fun g hg => by have := own_block ho hg; omega, h0.alloc hs _, hs⟩
theorem rd_new {w : World} {A : Option Addr} {n c : Nat} {xs : List Int} (h : Rd w (· < w.heap.size) A n c xs) (o : Obj) : Rd (w.alloc o) (· ≠ w.heap.size) A n c xs :=
  (h.below ((Below.refl _ _).alloc (Nat.le_refl _) o)).mono fun b hb _ => by omega
end Nt
namespace Go.Proofs.YtgeijojkfojfbaaDoor
open Go Go.RowKit Nt

set_option maxHeartbeats 400000 in
theorem productLimbs_any (A B : Option Addr) (la ca lb cb m n : Nat) (P Q : Nat → Prop) (w : World) (hx0 : Rd w P A la ca (D m)) (hy0 : Rd w Q B lb cb (D n)) (hla : la ≤ 1000) (hlb : lb ≤ 1000) :
    Calls Tryd.prog 51 #[.slice A la ca, .slice B lb cb] w (RetNew 3 w (D (m * n))) := by
  have HX := Lib.hid (hx0.mono (Q := (· < w.heap.size)) fun _ _ h => h)
  have HY := Lib.hid (hy0.mono (Q := (· < w.heap.size)) fun _ _ h => h)
  clear hx0 hy0
  have hmk : ∀ w, (Instr.makeSlice 23 (.int .i64 ((la : Int) + (lb : Int))) (.int .i64 ((la : Int) + (lb : Int)))).run Tryd.prog w = .ok (.slice (some ⟨w.heap.size, 0, none⟩) (la + lb) (la + lb)) (w.alloc (.cells (cellsOf (zeros (la + lb))) 3)) := fun w => by
    have := mk_ints (la + lb) (by omega) w
    rwa [Int.natCast_add] at this
  go_enter Tryd.func51, Tryd.ntmps51
  go_wp2_with fail
  refine (mulInto_any w.heap.size (la + lb) 3 A B la ca lb cb m n _ (Arr.new w _ _) (rd_new HX.out _) (rd_new HY.out _) (Nat.le_refl _) (by omega)).mono ?_
  rintro e w1 ⟨rfl, hp⟩
  have HO := Lib.hid (put_own hp w.heap.size (Nat.le_refl _) (by unfold maxLen; omega))
  have HB := Lib.hid (((Below.refl w.heap.size w).alloc (Nat.le_refl _) _).trans (put_below hp (by simp) (Nat.le_refl _)))
  clear hp hmk
  go_wp2
  go_ret
  exact ⟨_, _, rfl, HO.out, HB.out⟩

set_option maxHeartbeats 400000 in
theorem sumLimbs_any (A B : Option Addr) (la ca lb cb m n : Nat) (P Q : Nat → Prop) (w : World) (hx0 : Rd w P A la ca (D m)) (hy0 : Rd w Q B lb cb (D n)) (hla : la ≤ 1000) (hlb : lb ≤ 1000) :
    Calls Tryd.prog 65 #[.slice A la ca, .slice B lb cb] w (RetNew 3 w (D (m + n))) := by
  have HX := Lib.hid (hx0.mono (Q := (· < w.heap.size)) fun _ _ h => h)
  have HY := Lib.hid (hy0.mono (Q := (· < w.heap.size)) fun _ _ h => h)
  clear hx0 hy0
  have hmk : ∀ (k : Nat) (_ : k ≤ 1000) w, (Instr.makeSlice 23 (.int .i64 ((k : Int) + 1)) (.int .i64 ((k : Int) + 1))).run Tryd.prog w = .ok (.slice (some ⟨w.heap.size, 0, none⟩) (k + 1) (k + 1)) (w.alloc (.cells (cellsOf (zeros (k + 1))) 3)) := fun k hk w => by
    have := mk_ints (k + 1) (by omega) w
    rwa [Int.natCast_add] at this
  by_cases hab : la < lb
  · have hm := hmk lb hlb
    have hd : (la : Int) < lb := by omega
    clear hmk
    go_enter Tryd.func65, Tryd.ntmps65
    go_wp2_with fail
    refine (addInto_any w.heap.size (lb + 1) 3 _ A B la ca lb cb m n _ (Arr.new w _ _) (zeros_len _) (rd_new HX.out _) (rd_new HY.out _) (by omega) (by omega) (by omega)).mono ?_
    rintro e w1 ⟨rfl, hp⟩
    have HO := Lib.hid (put_own hp w.heap.size (Nat.le_refl _) (by unfold maxLen; omega))
    have HB := Lib.hid (((Below.refl w.heap.size w).alloc (Nat.le_refl _) _).trans (put_below hp (by simp) (Nat.le_refl _)))
    clear hp hm
    go_wp2
    go_ret
    exact ⟨_, _, rfl, HO.out, HB.out⟩
  · have hm := hmk la hla
    have hd : (lb : Int) ≤ la := by omega
    clear hmk
    go_enter Tryd.func65, Tryd.ntmps65
    go_wp2_with fail
    refine (addInto_any w.heap.size (la + 1) 3 _ A B la ca lb cb m n _ (Arr.new w _ _) (zeros_len _) (rd_new HX.out _) (rd_new HY.out _) (by omega) (by omega) (by omega)).mono ?_
    rintro e w1 ⟨rfl, hp⟩
    have HO := Lib.hid (put_own hp w.heap.size (Nat.le_refl _) (by unfold maxLen; omega))
    have HB := Lib.hid (((Below.refl w.heap.size w).alloc (Nat.le_refl _) _).trans (put_below hp (by simp) (Nat.le_refl _)))
    clear hp hm
    go_wp2
    go_ret
    exact ⟨_, _, rfl, HO.out, HB.out⟩

set_option maxHeartbeats 400000 in
theorem takeTimes_nil (A B : Option Addr) (c lb cb : Nat) (times : Int) (w : World) :
    Calls Tryd.prog 81 #[.slice A 0 c, .slice B lb cb, .int .i64 times] w fun e w' => e = .returned (.tuple #[]) ∧ w = w' := by
  go_enter Tryd.func81, Tryd.ntmps81
  go_wp2
  refine wp_loop_rounds 1 ?_
  rw [rounds_succ]
  go_wp2
  go_end0
  exact ⟨rfl, rfl⟩

set_option maxHeartbeats 400000 in
theorem divideRest_nil (A B C : Option Addr) (cq cr lb cb : Nat) (w : World) (hlb : 0 < lb) (hlb2 : lb ≤ 1000) :
    Calls Tryd.prog 60 #[.slice A 0 cq, .slice B 0 cr, .slice C lb cb] w fun e w' => e = .returned (.tuple #[]) ∧ w = w' := by
  have hclr : ∀ w ty, (Builtin.clear_ #[23] ty #[.slice A 0 cq]).run Tryd.prog w = .ok (.tuple #[]) w := by
    intro w ty
    cases A <;> simp [Builtin.clear_, run_underlying Tryd.underlying23]
  go_enter Tryd.func60, Tryd.ntmps60
  go_wp2
  go_step3
  go_wp2
  go_step3
  go_wp2
  refine wp_loop_rounds 1 ?_
  rw [rounds_succ]
  go_wp2
  rw [Exit.noGoto_normal]
  go_end0
  exact ⟨rfl, rfl⟩

/-- two rows that share no block -/
theorem own_gone {w w' : World} {g base n c : Nat} {e : TypeId} {A : Option Addr} {xs : List Value} (h : w.ownsRow base e 1 (.slice A n c) n xs) (hg : w.grownBy w' (some g)) (hne : ∀ k, A = some ⟨k, 0, none⟩ → k ≠ g) : w'.ownsRow base e 1 (.slice A n c) n xs := by
  refine h.kept hg ?_
  cases A with
  | none => exact .inl rfl
  | some a =>
    right
    rcases h.2 with ⟨e1, _⟩ | ⟨k, _, _, e1, _⟩
    · cases e1
    · injection e1 with e1 _ _
      intro e2
      have e3 : a.block = g := by injection e2
      exact hne k e1 (by rw [← e3]; injection e1 with e1; rw [e1])

set_option maxHeartbeats 400000 in
theorem lessLimbs_any (A B : Option Addr) (la ca lb cb m n : Nat) (P Q : Nat → Prop) (w : World) (hx0 : Rd w P A la ca (D m)) (hy0 : Rd w Q B lb cb (D n)) (hla : la ≤ 1000) (hlb : lb ≤ 1000) (hmn : n ≤ m) :
    Calls Tryd.prog 79 #[.slice A la ca, .slice B lb cb] w (RetNew 3 w (D (m - n))) := by
  have HX := Lib.hid (hx0.mono (Q := (· < w.heap.size)) fun _ _ h => h)
  have HY := Lib.hid (hy0.mono (Q := (· < w.heap.size)) fun _ _ h => h)
  have hl := hx0.len
  subst hl
  clear hx0 hy0
  go_enter Tryd.func79, Tryd.ntmps79
  go_wp2_with fail
  refine (fresh_any A _ ca (D m) _ w HX.out (by omega)).mono ?_
  rintro e w1 ⟨A1, c1, rfl, ho, hb⟩
  have HB1 := Lib.hid hb
  have HO := Lib.hid ho
  have hs1 := hb.size
  clear ho hb
  by_cases h0 : m = 0
  · subst h0
    obtain rfl : n = 0 := by omega
    have hd0 : (D 0).length = 0 := rfl
    go_wp2_with fail
    refine (takeTimes_nil A1 B c1 lb cb 1 w1).mono ?_
    rintro e w2 ⟨rfl, rfl⟩
    go_wp2_with fail
    refine (trimmed_any A1 0 c1 [] (fun _ => True) w1 ((own_rd' HO.out).mono fun _ _ _ => trivial) limbs_nil (by omega)).mono ?_
    rintro e w2 ⟨rfl, rfl⟩
    go_wp2
    go_ret
    exact ⟨A1, c1, rfl, HO.out, HB1.out⟩
  · have hpos : 0 < (D m).length := by
      rw [List.length_pos_iff]
      intro e
      exact h0 ((D_nil_iff m).1 e)
    obtain ⟨g, rfl, hg, hnc, hmx, hax⟩ := own_arx HO.out hpos
    have HAX := Lib.hid hax
    clear hax
    go_wp2_with fail
    refine (takeTimes_x g 0 (D m).length c1 (c1 - (D m).length) 3 [] (D m) [] B lb cb n 1 w1 (by simpa using HAX.out) rfl rfl ((HY.out.below HB1.out).mono fun b hb _ => by omega) (limbs_D m) (by omega) (by omega) (by rw [val_D]; omega) (by omega) (by omega) (by omega)).mono ?_
    rintro e w2 ⟨rfl, ys, hyl, hym, hyv, hya, hgr⟩
    rw [List.nil_append, List.append_nil] at hya
    have HYA := Lib.hid hya
    have HYM := Lib.hid hym
    have HYL := Lib.hid hyl
    have HN : Hid (natOf ys = m - n) := by
      show _ = _
      rw [val_D] at hyv
      have := natOf_val hym
      omega
    have HB2 := Lib.hid (HB1.out.trans (grown_below hgr hs1 hg))
    have hle := trim_len_le hym
    have HTT := Lib.hid (take_trim hym)
    have HR : Hid (Rd w2 (fun _ => True) (some ⟨g, 0, none⟩) (D m).length c1 ys) := by
      have := hya.rd (fun _ => True) trivial 0 (D m).length c1 (by omega) hnc
      rwa [List.drop_zero, List.take_of_length_le (by omega)] at this
    have HO2 := Lib.hid (hya.own w.heap.size hg (D (natOf ys)).length c1 hle (by omega) hmx)
    clear hyl hym hyv hya hgr hle
    go_wp2_with fail
    refine (trimmed_any _ _ c1 ys (fun _ => True) w2 HR.out HYM.out (by omega)).mono ?_
    rintro e w3 ⟨rfl, rfl⟩
    go_wp2
    go_ret
    have ho := HO2.out
    rw [HTT.out] at ho
    rw [← HN.out]
    exact ⟨_, c1, rfl, ho, HB2.out⟩

/-- what a quotient and a rest in memory of their own are -/
def RetQR (w : World) (q r : Nat) (e : Ending) (w' : World) : Prop :=
  ∃ A1 c1 A2 c2, e = .returned (.tuple #[.slice A1 (D q).length c1, .slice A2 (D r).length c2]) ∧ Nm w' A1 c1 q ∧ Nm w' A2 c2 r ∧ Below w.heap.size w w'

set_option maxHeartbeats 400000 in
theorem dividedLimbs_any (A B : Option Addr) (la ca lb cb m n : Nat) (P Q : Nat → Prop) (w : World) (hx0 : Rd w P A la ca (D m)) (hy0 : Rd w Q B lb cb (D n)) (hla : la ≤ 1000) (hlb : lb ≤ 1000) (hn : 0 < n) :
    Calls Tryd.prog 64 #[.slice A la ca, .slice B lb cb] w (RetQR w (m / n) (m % n)) := by
  have HX := Lib.hid (hx0.mono (Q := (· < w.heap.size)) fun _ _ h => h)
  have HY := Lib.hid (hy0.mono (Q := (· < w.heap.size)) fun _ _ h => h)
  have hl := hx0.len
  have hlb0 : 0 < lb := by
    rw [← hy0.len, List.length_pos_iff]
    intro e
    have := (D_nil_iff n).1 e
    omega
  subst hl
  clear hx0 hy0
  have hmk := mk_ints (D m).length (by omega)
  go_enter Tryd.func64, Tryd.ntmps64
  have HX0 := Lib.hid (HX.out.below ((Below.refl w.heap.size w).alloc (Nat.le_refl _) (.cells (cellsOf (zeros (D m).length)) 3)))
  go_upto_region 1 with fail
  go_cut [6, 7] (fun s6 s7 wx => ∃ (gq : Nat) (A1 : Option Addr) (c1 : Nat), s6 = .slice (some ⟨gq, 0, none⟩) (D m).length (D m).length ∧ s7 = .slice A1 (D m).length c1 ∧ w.heap.size ≤ gq ∧ Arr wx gq 3 (zeros (D m).length) ∧ wx.ownsRow w.heap.size 3 1 (.slice A1 (D m).length c1) (D m).length ((D m).map (Value.int .i64)) ∧ (∀ g, A1 = some ⟨g, 0, none⟩ → g ≠ gq) ∧ Below w.heap.size w wx)
  case first =>
    go_region_with (first
      | (go_at_call 59; refine (fresh_any A _ ca (D m) (· < w.heap.size) _ (by first | exact HX.out | exact HX0.out) (by omega)).mono ?_; rintro e w1 ⟨A1, c1, rfl, ho, hb⟩; have HO := Lib.hid ho; have HB := Lib.hid hb; clear ho hb))
    all_goals
      go_wp2_with fail
      go_meet
    case rel => obtain ⟨h1, h2, h3, h4⟩ := mk_first HO.out HB.out; exact ⟨_, _, _, rfl, rfl, Nat.le_refl _, h1, h2, h3, h4⟩
    case rel => obtain ⟨h1, h2, h3, h4, h5⟩ := mk_last (k := (D m).length) HO.out HB.out; exact ⟨_, _, _, rfl, rfl, h5, h1, h2, h3, h4⟩
  case rest =>
    obtain ⟨gq, A1, c1, rfl, rfl, hgq, ha, ho, hsep, hb⟩ := hcut
    have hs1 := hb.size
    have HB1 := Lib.hid hb
    have HA1 := Lib.hid ha
    have HO := Lib.hid ho
    clear ha ho hb hmk HX0
    generalize wc = w1 at *
    by_cases h0 : m = 0
    · subst h0
      have hd0 : (D 0).length = 0 := rfl
      go_wp2_with fail
      refine (divideRest_nil _ A1 B 0 c1 lb cb w1 hlb0 hlb).mono ?_
      rintro e w2 ⟨rfl, rfl⟩
      go_wp2_with fail
      refine (trimmed_any _ 0 0 [] (fun _ => True) w1 (Rd.nil_ _ _ _ _ (fun h => by cases h)) limbs_nil (by omega)).mono ?_
      rintro e w2 ⟨rfl, rfl⟩
      go_wp2_with fail
      refine (trimmed_any A1 0 c1 [] (fun _ => True) w1 ((own_rd' HO.out).mono fun _ _ _ => trivial) limbs_nil (by omega)).mono ?_
      rintro e w2 ⟨rfl, rfl⟩
      go_wp2
      go_ret2
      rw [Nat.zero_div, Nat.zero_mod]
      exact ⟨_, _, _, _, rfl, Rd.nil_ _ _ _ _ (fun h => by cases h), (own_rd' HO.out).mono fun _ _ _ => trivial, HB1.out⟩
    · have hpos : 0 < (D m).length := by
        rw [List.length_pos_iff]
        intro e
        exact h0 ((D_nil_iff m).1 e)
      obtain ⟨g, rfl, hg, hnc, hmx, hax⟩ := own_arx HO.out hpos
      have HAX := Lib.hid hax
      clear hax
      go_wp2_with fail
      refine (divideRest_x gq g (D m).length (D m).length (D m).length c1 0 (c1 - (D m).length) 3 3 (zeros (D m).length) [] (D m) [] B lb cb n w1 (by simpa using HA1.out.arx) (zeros_len _) (by simpa using HAX.out) rfl (limbs_D m) hnc ((HY.out.below HB1.out).mono fun b hb _ => by omega) hn (fun e => hsep g rfl e.symm) (Nat.le_refl _) hpos hla hlb).mono ?_
      rintro e w2 ⟨rfl, qs, rs, hql, hqm, hqv, hqa, hrl, hrm, hrv, hra, htw⟩
      rw [List.append_nil] at hqa hra
      rw [val_D] at hqv hrv
      have HNQ : Hid (natOf qs = m / n) := natOf_div hqm hqv
      have HNR : Hid (natOf rs = m % n) := natOf_mod hrm hrv
      have HB2 := Lib.hid (HB1.out.trans (htw.below (B := w.heap.size) hs1 hgq hg))
      have HRQ : Hid (Rd w2 (fun _ => True) (some ⟨gq, 0, none⟩) (D m).length (D m).length qs) := by
        have := hqa.rd (fun _ => True) trivial 0 (D m).length (D m).length (by omega) (Nat.le_refl _)
        rwa [List.drop_zero, List.take_of_length_le (by omega)] at this
      have HRR : Hid (Rd w2 (fun _ => True) (some ⟨g, 0, none⟩) (D m).length c1 rs) := by
        have := hra.rd (fun _ => True) trivial 0 (D m).length c1 (by omega) hnc
        rwa [List.drop_zero, List.take_of_length_le (by omega)] at this
      have HQM := Lib.hid hqm
      have HRM := Lib.hid hrm
      clear hql hqm hqv hqa hrl hrm hrv hra htw
      go_wp2_with fail
      refine (trimmed_any _ _ _ qs (fun _ => True) w2 HRQ.out HQM.out (by omega)).mono ?_
      rintro e w3 ⟨rfl, rfl⟩
      go_wp2_with fail
      refine (trimmed_any _ _ _ rs (fun _ => True) w2 HRR.out HRM.out (by omega)).mono ?_
      rintro e w3 ⟨rfl, rfl⟩
      go_wp2
      go_ret2
      rw [← HNQ.out, ← HNR.out]
      exact ⟨_, _, _, _, rfl, trim_fresh_rd HRQ.out HQM.out, trim_fresh_rd HRR.out HRM.out, HB2.out⟩

set_option maxHeartbeats 400000 in
theorem quotientLimbs_any (A B : Option Addr) (la ca lb cb m n : Nat) (P Q : Nat → Prop) (w : World) (hx0 : Rd w P A la ca (D m)) (hy0 : Rd w Q B lb cb (D n)) (hla : la ≤ 1000) (hlb : lb ≤ 1000) (hn : 0 < n) :
    Calls Tryd.prog 50 #[.slice A la ca, .slice B lb cb] w (fun e w' => ∃ A c, e = .returned (.slice A (D (m / n)).length c) ∧ Nm w' A c (m / n) ∧ Below w.heap.size w w') := by
  have HX := Lib.hid hx0
  have HY := Lib.hid hy0
  clear hx0 hy0
  go_enter Tryd.func50, Tryd.ntmps50
  go_wp2_with fail
  refine (dividedLimbs_any A B la ca lb cb m n _ _ w HX.out HY.out hla hlb hn).mono ?_
  rintro e w1 ⟨A1, c1, A2, c2, rfl, h1, h2, hb⟩
  have H1 := Lib.hid h1
  have HB := Lib.hid hb
  clear h1 h2 hb
  go_wp2
  go_ret
  exact ⟨A1, c1, rfl, H1.out, HB.out⟩

end Go.Proofs.YtgeijojkfojfbaaDoor
