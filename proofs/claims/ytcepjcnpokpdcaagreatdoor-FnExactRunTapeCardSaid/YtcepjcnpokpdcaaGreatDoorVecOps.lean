/-
  Vectors: which codes they give; a vector times a number, and what of it is not too long; of the program and of the model.
-/
import Derived.Test.YtcepjcnpokpdcaaGreatDoorVecMark
namespace Nt
open Go Go.RowKit
def rat3 (q : Rat) : R3 := (isNeg q, D (nu q), D q.den)
theorem ok3_rat (q : Rat) (h1 : nu q < Top) (h2 : q.den < Top) : ok3 (rat3 q) = true := okR_rat q h1 h2
def Fine (qs : List Rat) : Prop := ∀ q ∈ qs, nu q < Top ∧ q.den < Top
theorem all_out : ∀ {rs : List R3}, rs.all ok3 = true → ∃ qs : List Rat, rs = qs.map rat3 ∧ Fine qs
  | [], _ => ⟨[], rfl, fun q hq => by simp at hq⟩
  | r :: rs, h => by
    rw [List.all_cons, Bool.and_eq_true] at h
    obtain ⟨qs, rfl, hf⟩ := all_out h.2
    obtain ⟨q, h1, h2, h3, h4, h5⟩ := okR_out h.1
    refine ⟨q :: qs, ?_, fun p hp => ?_⟩
    · rw [List.map_cons]
      congr 1
      exact Prod.ext h1 (Prod.ext h2 h3)
    · rcases List.mem_cons.1 hp with rfl | hp
      · exact ⟨h4, h5⟩
      · exact hf p hp
theorem getD_rat (qs : List Rat) (i : Nat) (h : i < qs.length) : (qs.map rat3).getD i r3 = rat3 (qs.getD i 0) := by
  simp [List.getD, h]
theorem Fine.at_ {qs : List Rat} (h : Fine qs) (i : Nat) (hi : i < qs.length) : nu (qs.getD i 0) < Top ∧ (qs.getD i 0).den < Top := by
  have e : qs.getD i 0 = qs[i] := by simp [List.getD, hi]
  rw [e]
  exact h _ (List.getElem_mem hi)
theorem small_fine {qs : List Rat} (h : Fine qs) : Small (qs.map rat3) := by
  intro r hr
  obtain ⟨q, hq, rfl⟩ := List.mem_map.1 hr
  have q1 := (D_len_le (nu q) 40).2 (h q hq).1
  have q2 := (D_len_le q.den 40).2 (h q hq).2
  exact ⟨by show (D (nu q)).length ≤ _; omega, by show (D q.den).length ≤ _; omega⟩
/-- the codes of a list of vectors -/
def vcode (N : Nat) (n : Nat → Nat) (R : Nat → List R3) : Int :=
  if (List.range N).any (fun i => decide (4096 < n i)) then 2 else if (List.range N).any (fun i => !okV (R i)) then 1 else if (List.range N).any (fun i => decide (n i ≠ n 0)) then 8 else 0
theorem any_no {N : Nat} {p : Nat → Bool} (h : ∀ j, j < N → p j = false) : (List.range N).any p = false := by
  rw [List.any_eq_false]
  intro x hx
  rw [h x (List.mem_range.1 hx)]
  simp
theorem any_yes {N : Nat} {p : Nat → Bool} {k : Nat} (hk : k < N) (h : p k = true) : (List.range N).any p = true := List.any_eq_true.2 ⟨k, List.mem_range.2 hk, h⟩
/-- a rational's lists lie elsewhere than the row that grows -/
theorem RdR.appended {w w' : World} {base k cv g tr : Nat} {V : Option Addr} {vs : List Value} {xs ys : List Int} {A B : Option Addr} {ca cb : Nat} (h : RdR w (fun b => V ≠ some ⟨b, 0, none⟩) xs ys A ca B cb) (ho : w.ownsRow base tr 3 (.slice V k cv) k vs)
    (hg : w.grownBy w' (Value.slice V k cv).ownBlock) (hat : (Value.slice V k cv).ownBlock = some g ∨ g = w.heap.size) : RdR w' (fun b => some (⟨g, 0, none⟩ : Addr) ≠ some ⟨b, 0, none⟩) xs ys A ca B cb := by
  have hform : ∀ b, (Value.slice V k cv).ownBlock = some b → V = some ⟨b, 0, none⟩ := by
    intro b hb
    rcases ho.2 with ⟨e, _⟩ | ⟨g', cap, cur, e, _⟩
    · injection e with e; subst e; cases hb
    · injection e with e; subst e; simp [Value.ownBlock] at hb; rw [hb]
  have h2 := h.mono (Q := fun b => V ≠ some ⟨b, 0, none⟩ ∧ some (⟨g, 0, none⟩ : Addr) ≠ some ⟨b, 0, none⟩) (fun b hb hl => ⟨hb, fun e => by
    injection e with e
    injection e with e
    subst e
    rcases hat with hat | hat
    · exact hb (hform _ hat)
    · omega⟩)
  exact (h2.keep hg.size fun b hb hl => hg.block b hl (fun e => hb.1 (hform b e.symm))).mono fun b hb _ => hb.2
theorem OwnE.appended {ti tr : TypeId} {w w' : World} {base base' k cv : Nat} {V : Option Addr} {vs : List Value} {r : EV} (h : OwnE ti w base r) (hne : ti ≠ tr) (ho : w.ownsRow base' tr 3 (.slice V k cv) k vs) (hg : w.grownBy w' (Value.slice V k cv).ownBlock) : OwnE ti w' base r := by
  have hno : ∀ b, r.has b → (Value.slice V k cv).ownBlock ≠ some b := by
    intro b hb e
    rcases ho.2 with ⟨e', _⟩ | ⟨g', cap, cur, e', _, hh, _⟩
    · injection e' with e'; subst e'; cases e
    · injection e' with e'
      subst e'
      simp [Value.ownBlock] at e
      subst e
      rcases hb with hb | hb
      · exact own_type h.1 hne hh hb
      · exact own_type h.2.1 hne hh hb
  exact ⟨own_at_block h.1 fun b hb => hg.block b (own_block h.1 hb).2 (fun e => hno b (.inl hb) e.symm), own_at_block h.2.1 fun b hb => hg.block b (own_block h.2.1 hb).2 (fun e => hno b (.inr hb) e.symm), h.2.2⟩
theorem RatAt.rowed3 {w w' : World} {b base : Nat} {t te : TypeId} {neg : Bool} {A B : Option Addr} {la ca lb cb : Nat} {V : Option Addr} {n c : Nat} {xs : List Value} (h : RatAt w b t neg A la ca B lb cb) (ho : w.ownsRow base te 3 (.slice V n c) n xs) (hb : b < base) (hg : w.grownBy w' (Value.slice V n c).ownBlock) : RatAt w' b t neg A la ca B lb cb :=
  (hg.block b h.lt (fun e => by have := (ho.lt _ e.symm).1; omega)).trans h
theorem rowed3_below {w w' : World} {base : Nat} {te : TypeId} {V : Option Addr} {n c : Nat} {xs : List Value} (ho : w.ownsRow base te 3 (.slice V n c) n xs) (hb : base ≤ w.heap.size) (hg : w.grownBy w' (Value.slice V n c).ownBlock) : Below base w w' :=
  ⟨hg.os, hg.tape, hg.output, hg.size, fun k hk => hg.block k (by omega) (fun e => by have := (ho.lt _ e.symm).1; omega)⟩
theorem rds_one (w : World) (t : TypeId) (neg : Bool) (xs ys : List Int) (A B : Option Addr) (ca cb : Nat) (P : Nat → Prop) (h : RdR w P xs ys A ca B cb) : RdS (w.alloc (.cells #[.bool neg, .slice A xs.length ca, .slice B ys.length cb] t)) (fun _ => True) (some ⟨w.heap.size, 0, none⟩) 1 1 [(neg, xs, ys)] := by
  refine ⟨rfl, Nat.le_refl _, (fun h => by cases h), fun _ => ⟨w.heap.size, 0, rfl, trivial, by simp, fun i hi => ?_⟩⟩
  obtain rfl : i = 0 := by omega
  have hr := RatAt.new w t neg A B xs.length ca ys.length cb
  exact ⟨A, ca, B, cb, hr.c0, hr.c1, hr.c2, (h.on (below1 _ _)).mono fun _ _ _ => trivial⟩
theorem own_mono3 {w : World} {base base' n size : Nat} {e : TypeId} {v : Value} {xs : List Value} (h : w.ownsRow base e size v n xs) (hb : base' ≤ base) : w.ownsRow base' e size v n xs := by
  rcases h with ⟨h1, h2 | ⟨g, cap, cur, e', hg, h3⟩⟩
  · exact ⟨h1, .inl h2⟩
  · exact ⟨h1, .inr ⟨g, cap, cur, e', Nat.le_trans hb hg, h3⟩⟩
theorem at0 {p : Nat → Prop} (h : p 0) : ∀ i, i < 1 → p i := by
  intro i hi
  obtain rfl : i = 0 := by omega
  exact h
theorem vcode1 (n : Nat) (rs : List R3) : vcode 1 (fun _ => n) (fun _ => rs) = if 4096 < n then 2 else if okV rs then 0 else 1 := by
  unfold vcode
  simp only [List.range_succ, List.range_zero, List.nil_append, List.any_cons, List.any_nil, Bool.or_false]
  by_cases h : 4096 < n
  · simp [h]
  · cases hk : okV rs <;> simp [h]
theorem okV_out {rs : List R3} (h : okV rs = true) : 1 ≤ rs.length ∧ rs.length ≤ 4 ∧ ∃ qs : List Rat, rs = qs.map rat3 ∧ Fine qs := by
  unfold okV at h
  simp only [Bool.and_eq_true, decide_eq_true_eq] at h
  exact ⟨h.1.1, h.1.2, all_out h.2⟩
/-- what ScaleVec answers -/
def askV (n m : Nat) (rs ss : List R3) : Int := if 4096 < n ∨ 4096 < m then 2 else if okV rs && okV ss then (if n ≠ m then 8 else 0) else 1
/-- a struct's three cells -/
def C3 (w : World) (b k : Nat) (ng : Bool) (A : Option Addr) (la ca : Nat) (B : Option Addr) (lb cb : Nat) : Prop :=
  w.cell? ⟨b, k, none⟩ = some (.bool ng) ∧ w.cell? ⟨b, k + 1, none⟩ = some (.slice A la ca) ∧ w.cell? ⟨b, k + 2, none⟩ = some (.slice B lb cb)
theorem C3.on {w w' : World} {b k : Nat} {ng : Bool} {A : Option Addr} {la ca : Nat} {B : Option Addr} {lb cb : Nat} (h : C3 w b k ng A la ca B lb cb) (hb : b < w.heap.size) (hw : Below w.heap.size w w') : C3 w' b k ng A la ca B lb cb :=
  ⟨(hw.cell (p := ⟨b, k, none⟩) hb).trans h.1, (hw.cell (p := ⟨b, k + 1, none⟩) hb).trans h.2.1, (hw.cell (p := ⟨b, k + 2, none⟩) hb).trans h.2.2⟩
theorem C3.below {w w' : World} {N b k : Nat} {ng : Bool} {A : Option Addr} {la ca : Nat} {B : Option Addr} {lb cb : Nat} (h : C3 w b k ng A la ca B lb cb) (hb : b < N) (hw : Below N w w') : C3 w' b k ng A la ca B lb cb :=
  ⟨(hw.cell (p := ⟨b, k, none⟩) hb).trans h.1, (hw.cell (p := ⟨b, k + 1, none⟩) hb).trans h.2.1, (hw.cell (p := ⟨b, k + 2, none⟩) hb).trans h.2.2⟩
theorem ask_self (n : Nat) (rs : List R3) (h : ¬ 4096 < n) : askV n n rs rs = if okV rs then 0 else 1 := by
  unfold askV
  rw [if_neg (by omega), Bool.and_self, if_neg (show ¬ n ≠ n by omega)]
end Nt
namespace Go.Proofs.YtcepjcnpokpdcaaGreatDoor
open Go Go.RowKit Nt

set_option maxHeartbeats 800000 in
theorem anyLongRat_any (g N : Nat) (A : Nat → Option Addr) (n c : Nat → Nat) (w : World) (hN : N ≤ 100) (h0 : ∀ i, i < N → w.cell? ⟨g, i, none⟩ = some (.slice (A i) (n i) (c i))) (hn : ∀ i, i < N → n i ≤ 1048576) :
    Calls Tryz.prog 120 #[.slice (some ⟨g, 0, none⟩) N N] w fun e w' => e = .returned (.bool ((List.range N).any fun i => decide (4096 < n i))) ∧ w = w' := by
  have H0 := Lib.hid h0
  have HN := Lib.hid hn
  clear h0 hn
  go_enter Tryz.func120, Tryz.ntmps120
  go_wp2
  go_loop [4, 7] (fun _ i => ∃ k : Nat, k ≤ N ∧ i = .int .i64 k ∧ Hid (∀ j, j < k → n j ≤ 4096)) (fun _ i => N - (intOf i).toNat)
  case atStart => exact ⟨0, Nat.zero_le _, rfl, Lib.hid fun j hj => by omega⟩
  case round =>
    obtain ⟨k, hk, rfl, HK⟩ := hrel
    by_cases hlt : k < N
    · have c0 := H0.out k hlt
      have hkN : (k : Int) < N := by omega
      have hnk := HN.out k hlt
      have HS : Hid (n k ≤ 4096 → ∀ j, j < k + 1 → n j ≤ 4096) := fun h j hj => by
        by_cases e : j = k
        · subst e; exact h
        · exact HK.out j (by omega)
      have HY : Hid (4096 < n k → (List.range N).any (fun i => decide (4096 < n i)) = true) := fun h => any_yes hlt (by simpa using h)
      generalize n k = m at *
      generalize A k = B at *
      generalize c k = d at *
      by_cases hb : 4096 < m
      · have hb' : decide ((4096 : Int) < m) = true := by simp; omega
        have HF := Lib.hid (HY.out hb)
        clear HY HS
        go_wp2
        go_ret
        exact ⟨ret_bool HF.out.symm, rfl⟩
      · have hb' : decide ((4096 : Int) < m) = false := by simp; omega
        have HF := Lib.hid (HS.out (by omega))
        clear HY HS
        go_wp2
        go_round
        case rel => exact ⟨k + 1, by omega, by go_num, HF⟩
        case measure => simp [intOf]; omega
    · have HF : Hid ((List.range N).any (fun i => decide (4096 < n i)) = false) := any_no fun j hj => by simpa using HK.out j (by omega)
      clear HK
      go_wp2
      go_ret
      exact ⟨ret_bool HF.out.symm, rfl⟩
set_option maxHeartbeats 1600000 in
theorem vecCode_any (g N : Nat) (A : Nat → Option Addr) (n c : Nat → Nat) (R : Nat → List R3) (w : World) (hN : N ≤ 100) (hN0 : 0 < N) (hg : g < w.heap.size) (h0 : ∀ i, i < N → w.cell? ⟨g, i, none⟩ = some (.slice (A i) (n i) (c i)))
    (hr : ∀ i, i < N → RdS w (· < w.heap.size) (A i) (n i) (c i) (R i)) (hs : ∀ i, i < N → Small (R i)) (hn : ∀ i, i < N → n i ≤ 1048576) :
    Calls Tryz.prog 90 #[.slice (some ⟨g, 0, none⟩) N N] w fun e w' => e = .returned (.int .i64 (vcode N n R)) ∧ Below w.heap.size w w' := by
  have H0 := Lib.hid h0
  have HR := Lib.hid hr
  have HS := Lib.hid hs
  have HN := Lib.hid hn
  clear h0 hr hs hn
  go_enter Tryz.func90, Tryz.ntmps90
  go_wp2_with fail
  refine (anyLongRat_any g N A n c w hN H0.out HN.out).mono ?_
  rintro e w1 ⟨rfl, rfl⟩
  by_cases hl : (List.range N).any (fun i => decide (4096 < n i)) = true
  · have HV : Hid (vcode N n R = 2) := by show _ = _; unfold vcode; rw [if_pos hl]
    rw [hl]
    clear hl
    go_wp2
    go_ret
    exact ⟨by rw [HV.out]; rfl, Below.refl _ _⟩
  have HV : Hid (vcode N n R = if (List.range N).any (fun i => !okV (R i)) then 1 else if (List.range N).any (fun i => decide (n i ≠ n 0)) then 8 else 0) := by show _ = _; unfold vcode; rw [if_neg hl]
  rw [(Bool.not_eq_true _).mp hl]
  clear hl
  go_wp2
  go_loopw [4, 11] (fun _ i wr => ∃ k : Nat, k ≤ N ∧ i = .int .i64 k ∧ Hid (∀ j, j < k → okV (R j) = true) ∧ Hid (Below w.heap.size w wr)) (fun _ i _ => N - (intOf i).toNat)
  case atStart => exact ⟨0, Nat.zero_le _, rfl, Lib.hid fun j hj => by omega, Lib.hid (Below.refl _ _)⟩
  case round =>
    obtain ⟨k, hk, rfl, HK, HB⟩ := hrel
    by_cases hlt : k < N
    · have c0 := (HB.out.cell (p := ⟨g, k, none⟩) hg).trans (H0.out k hlt)
      have hkN : (k : Int) < N := by omega
      have hnk := HN.out k hlt
      have HRk := Lib.hid ((HR.out k hlt).below HB.out)
      have HSk := Lib.hid (HS.out k hlt)
      have HSt : Hid (okV (R k) = true → ∀ j, j < k + 1 → okV (R j) = true) := fun h j hj => by
        by_cases e : j = k
        · subst e; exact h
        · exact HK.out j (by omega)
      have HY : Hid (okV (R k) = false → vcode N n R = 1) := fun h => by rw [HV.out, if_pos (any_yes hlt (by rw [h]; rfl))]
      generalize n k = m at *
      generalize A k = B at *
      generalize c k = d at *
      generalize R k = rs at *
      go_wp2_with fail
      refine (implVecOK_any B m d rs _ wr HRk.out HSk.out hnk).mono ?_
      rintro e w1 ⟨rfl, b1⟩
      have HB1 := Lib.hid (below_on HB.out b1)
      clear b1 c0
      by_cases ho : okV rs = true
      · have HF := Lib.hid (HSt.out ho)
        rw [ho]
        clear ho HSt HY
        go_wp2
        go_roundw
        case rel => exact ⟨k + 1, by omega, by go_num, HF, HB1⟩
        case measure => simp [intOf]; omega
      · have ho' := (Bool.not_eq_true _).mp ho
        have HF := Lib.hid (HY.out ho')
        rw [ho']
        clear ho ho' HSt HY
        go_wp2
        go_ret
        exact ⟨by rw [HF.out]; rfl, HB1.out⟩
    · have HV2 : Hid (vcode N n R = if (List.range N).any (fun i => decide (n i ≠ n 0)) then 8 else 0) := by
        show _ = _
        rw [HV.out, if_neg]
        rw [any_no fun j hj => by rw [HK.out j (by omega)]; rfl]
        exact Bool.false_ne_true
      have HB0 := HB
      clear HK HV
      go_wp2
      go_loopw [6, 21] (fun _ i ws => ∃ k : Nat, k ≤ N ∧ i = .int .i64 k ∧ Hid (∀ j, j < k → n j = n 0) ∧ ws = wr) (fun _ i _ => N - (intOf i).toNat)
      case atStart => exact ⟨0, Nat.zero_le _, rfl, Lib.hid fun j hj => by omega, rfl⟩
      case round =>
        obtain ⟨k, hk, rfl, HK, rfl⟩ := hrel
        by_cases hlt : k < N
        · have c0 := (HB0.out.cell (p := ⟨g, k, none⟩) hg).trans (H0.out k hlt)
          have c00 := (HB0.out.cell (p := ⟨g, 0, none⟩) hg).trans (H0.out 0 hN0)
          have hkN : (k : Int) < N := by omega
          have hN0' : (0 : Int) < N := by omega
          have hnk := HN.out k hlt
          have hn0 := HN.out 0 hN0
          have HSt : Hid (n k = n 0 → ∀ j, j < k + 1 → n j = n 0) := fun h j hj => by
            by_cases e : j = k
            · subst e; exact h
            · exact HK.out j (by omega)
          have HY : Hid (n k ≠ n 0 → vcode N n R = 8) := fun h => by rw [HV2.out, if_pos (any_yes hlt (by simpa using h))]
          by_cases he : n k = n 0
          · have hbe : ((n k : Int) != (n 0 : Int)) = false := by rw [he]; simp
            have HF := Lib.hid (HSt.out he)
            clear HSt HY he
            generalize n k = m at *
            generalize n 0 = m0 at *
            generalize A k = B at *
            generalize c k = d at *
            generalize A 0 = B0 at *
            generalize c 0 = d0 at *
            go_wp2
            go_roundw
            case rel => exact ⟨k + 1, by omega, by go_num, HF, (by first | trivial | rfl)⟩
            case measure => simp [intOf]; omega
          · have hbe : ((n k : Int) != (n 0 : Int)) = true := by simp; omega
            have HF := Lib.hid (HY.out he)
            clear HSt HY he
            generalize n k = m at *
            generalize n 0 = m0 at *
            generalize A k = B at *
            generalize c k = d at *
            generalize A 0 = B0 at *
            generalize c 0 = d0 at *
            go_wp2
            go_ret
            exact ⟨by rw [HF.out]; rfl, HB0.out⟩
        · have HF : Hid (vcode N n R = 0) := by
            show _ = _
            rw [HV2.out, if_neg]
            rw [any_no fun j hj => by simpa using HK.out j (by omega)]
            exact Bool.false_ne_true
          clear HK HV2
          go_wp2
          go_ret
          exact ⟨by rw [HF.out]; rfl, HB0.out⟩
end Go.Proofs.YtcepjcnpokpdcaaGreatDoor
