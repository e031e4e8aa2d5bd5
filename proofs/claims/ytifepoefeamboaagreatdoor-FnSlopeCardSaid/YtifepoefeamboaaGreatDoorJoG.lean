/-
  SlopeGlue Src Draw RatDraw RatSame in one text.
-/
import Derived.Test.YtifepoefeamboaaGreatDoorJoD
import Derived.Test.YtifepoefeamboaaGreatDoorGrpJ
import Derived.Test.YtifepoefeamboaaGreatDoorJoE
import Derived.Test.YtifepoefeamboaaGreatDoorGrpA
import Derived.BigRegion
import Derived.Test.YtifepoefeamboaaGreatDoorGrpB
import Derived.Test.YtifepoefeamboaaGreatDoorGrpG
namespace Nt
open Go Go.RowKit
theorem rowsTo_code {R : Nat → Rat × Int} : ∀ m, (rowsTo R m).2 = 0 ∨ ∃ k, k < m ∧ (rowsTo R m).2 = (R k).2
  | 0 => .inl rfl
  | m + 1 => by
    rw [rowsTo]
    by_cases h1 : (rowsTo R m).2 = 0
    · rw [if_pos h1]
      by_cases h2 : (R m).2 = 0
      · rw [if_pos h2]; exact .inl rfl
      · rw [if_neg h2]; exact .inr ⟨m, by omega, rfl⟩
    · rw [if_neg h1]
      rcases rowsTo_code (R := R) m with h | ⟨k, hk, h⟩
      · exact .inl h
      · exact .inr ⟨k, by omega, h⟩
theorem rowsTo_all {R : Nat → Rat × Int} : ∀ m, (rowsTo R m).2 = 0 → ∀ k, k < m → (R k).2 = 0 ∧ (rowsTo R m).1.getD k 0 = (R k).1
  | 0, _, k, hk => absurd hk (Nat.not_lt_zero _)
  | m + 1, h, k, hk => by
    rw [rowsTo] at h ⊢
    by_cases h1 : (rowsTo R m).2 = 0
    · rw [if_pos h1] at h ⊢
      by_cases h2 : (R m).2 = 0
      · rw [if_pos h2]
        have hl := rowsTo_len m h1
        by_cases e : k < m
        · obtain ⟨a, b⟩ := rowsTo_all m h1 k e
          refine ⟨a, ?_⟩
          rw [← b]
          simp [List.getD, List.getElem?_append_left (show k < (rowsTo R m).1.length by rw [hl]; exact e)]
        · obtain rfl : k = m := by omega
          refine ⟨h2, ?_⟩
          simp [List.getD, hl]
      · rw [if_neg h2] at h; exact absurd h h2
    · rw [if_neg h1] at h; exact absurd h h1
theorem eval4_codes (X V W : List Rat) (ns : List Nd) : (eval4 X V W ns).2 = 0 ∨ (eval4 X V W ns).2 = 7 ∨ (eval4 X V W ns).2 = 10 := by
  have : ∀ k, k ≤ ns.length → (eval4 X V W (ns.take k)).2 = 0 ∨ (eval4 X V W (ns.take k)).2 = 7 ∨ (eval4 X V W (ns.take k)).2 = 10 := by
    intro k
    induction k with
    | zero => intro _; exact .inl rfl
    | succ k ih =>
      intro hk
      rw [eval4_take X V W ns k (by omega)]
      by_cases hs : (eval4 X V W (ns.take k)).2 = 0
      · unfold estep4
        rw [if_pos hs]
        cases step4 X V W (eval4 X V W (ns.take k)).1 (ns.getD k nd0) with
        | none => exact .inr (.inr rfl)
        | some j =>
          dsimp only
          by_cases hf : fit4 j
          · rw [if_pos hf]; exact .inl rfl
          · rw [if_neg hf]; exact .inr (.inl rfl)
      · rw [estep4_stop X V W hs]; exact ih (by omega)
  have := this ns.length (Nat.le_refl _)
  rwa [List.take_length] at this
theorem unit_sum (us : List Rat) (m t : Nat) (h : us.length = m) : us.getD t 0 = sumTo (fun i => us.getD i 0 * (unitL m i).getD t 0) m := by
  have key : ∀ k, k ≤ m → sumTo (fun i => us.getD i 0 * (unitL m i).getD t 0) k = if t < k then us.getD t 0 else 0 := by
    intro k
    induction k with
    | zero => intro _; rfl
    | succ k ih =>
      intro hk
      rw [sumTo, ih (by omega)]
      have hu : (unitL m k).getD t 0 = if t = k then 1 else 0 := by
        by_cases ht : t < m
        · simp [unitL, List.getD, ht]
        · rw [if_neg (by omega)]
          simp [unitL, List.getD, ht]
      rw [hu]
      by_cases h1 : t < k
      · rw [if_pos h1, if_neg (by omega), if_pos (by omega), Rat.mul_zero, Rat.add_zero]
      · rw [if_neg h1]
        by_cases h2 : t = k
        · subst h2; rw [if_pos rfl, if_pos (by omega), Rat.mul_one, Rat.zero_add]
        · rw [if_neg h2, if_neg (by omega), Rat.mul_zero, Rat.add_zero]
  rw [key m (Nat.le_refl _)]
  by_cases ht : t < m
  · rw [if_pos ht]
  · rw [if_neg ht, getD_past us t (by omega)]
/-- what the law says of the numbers -/
theorem slope_numbers (qs us : List Rat) (ns : List Nd) (h : us.length = qs.length) (js ks : List Jt) (R : List Rat) (h0 : evalJ (qs.map Jt.fx) ns = (js, 0)) (h1 : evalJ (varsJ qs (fun _ => us) 1 qs.length) ns = (ks, 0)) (h2 : rowsTo (rowJ qs (fun i _ => unitL qs.length i) 1 ns) qs.length = (R, 0)) :
    numJ (ks.getD (ns.length - 1) j0) 0 = numJ (js.getD (ns.length - 1) j0) 0 ∧ numJ (ks.getD (ns.length - 1) j0) 1 = sumTo (fun i => us.getD i 0 * R.getD i 0) qs.length := by
  have e0 := eval_noughts qs ns qs.length
  rw [h0] at e0
  have e1 := eval_one qs us ns h
  rw [h1] at e1
  dsimp only at e0 e1
  have hall := rowsTo_all qs.length (R := rowJ qs (fun i _ => unitL qs.length i) 1 ns) (by rw [h2])
  rw [h2] at hall
  dsimp only at hall
  have e2 := fun i => eval_one qs (unitL qs.length i) ns (unitL_len _ _)
  have hs : ∀ i, i < qs.length → (eval4 qs (noughts qs.length) (unitL qs.length i) (ns.take ns.length)).2 = 0 := fun i hi => by
    rw [List.take_length, e2 i]; exact (hall i hi).1
  have hl := Lins.eval (X := qs) (V := noughts qs.length) (W := us) (Ws := fun i => unitL qs.length i) (c := fun i => us.getD i 0) (m := qs.length) (fun t => unit_sum us qs.length t h) ns ns.length (Nat.le_refl _) (by rw [List.take_length, e1]) hs (ns.length - 1)
  rw [List.take_length] at hl
  refine ⟨?_, ?_⟩
  · have hf := all_f (V := noughts qs.length) (V' := noughts qs.length) (W := noughts qs.length) (W' := us) ns (by rw [e0]) (by rw [e1]) (ns.length - 1)
    rw [e0, e1] at hf
    dsimp only at hf
    rw [getD_r4, getD_r4] at hf
    exact hf
  · have hw := hl.w
    rw [e1] at hw
    dsimp only at hw
    rw [getD_r4] at hw
    show (r4 (ks.getD (ns.length - 1) j0)).w = _
    rw [hw]
    refine sumTo_congr _ fun i hi => ?_
    rw [e2 i, (hall i hi).2]
    dsimp only
    rw [getD_r4]
    rfl
end Nt
namespace Nt
open Go Go.RowKit

/-- the slice value '.slice A n c' holds bytes; its block is one of P -/
def RdB (w : World) (P : Nat → Prop) (A : Option Addr) (n : Nat) : Prop :=
  0 < n → ∃ b o, A = some ⟨b, o, none⟩ ∧ P b ∧ b < w.heap.size ∧ ∀ i, i < n → ∃ x : Int, 0 ≤ x ∧ x < 256 ∧ w.cell? ⟨b, o + i, none⟩ = some (.int .u8 x)
theorem RdB.keep {w w' : World} {P : Nat → Prop} {A : Option Addr} {n : Nat} (h : RdB w P A n) (hs : w.heap.size ≤ w'.heap.size)
    (hk : ∀ b, P b → b < w.heap.size → w'.heap[b]? = w.heap[b]?) : RdB w' P A n := fun hn => by
  obtain ⟨b, o, e, hp, hlt, hc⟩ := h hn
  refine ⟨b, o, e, hp, by omega, fun i hi => ?_⟩
  obtain ⟨x, h0, h1, h2⟩ := hc i hi
  exact ⟨x, h0, h1, (World.cell?_of_block (a := ⟨b, o + i, none⟩) (hk b hp hlt)).trans h2⟩
theorem RdB.mono {w : World} {P Q : Nat → Prop} {A : Option Addr} {n : Nat} (h : RdB w P A n) (hpq : ∀ b, P b → b < w.heap.size → Q b) : RdB w Q A n := fun hn => by
  obtain ⟨b, o, e, hp, hlt, hc⟩ := h hn
  exact ⟨b, o, e, hpq b hp hlt, hlt, hc⟩
theorem RdB.below {w w' : World} {B : Nat} {A : Option Addr} {n : Nat} (h : RdB w (· < B) A n) (hb : Below B w w') : RdB w' (· < B) A n :=
  h.keep hb.size fun b hp _ => hb.block b hp
theorem RdB.grown {w w' : World} {B g : Nat} {A : Option Addr} {n : Nat} (h : RdB w (· < B) A n) (hg : w.grownBy w' (some g)) (hB : B ≤ g) : RdB w' (· < B) A n :=
  h.keep hg.size fun b hp hlt => hg.block b hlt (fun e => by injection e with e; omega)
theorem IsRow.rdb {w : World} {a : Option Addr} {len cap : Nat} {zs : List Int} (h : IsRow .u8 w a len cap zs) : RdB w (· < w.heap.size) a len := by
  rcases h with ⟨rfl, rfl, rfl, rfl⟩ | ⟨⟨b, o, spot⟩, rfl, h1, h2, h3, hc, hw⟩
  · intro h; omega
  · intro hn
    have h0 := hc 0 (by omega)
    have hspot : spot = none := by simpa [Addr.add] using World.cell?_spot h0
    subst hspot
    refine ⟨b, o, rfl, ?_, ?_, fun i hi => ⟨zs.getD i 0, ?_, ?_, ?_⟩⟩
    · exact World.block_lt_of_cell? w _ h0
    · exact World.block_lt_of_cell? w _ h0
    · have hm : zs.getD i 0 ∈ zs := by
        have : i < zs.length := by omega
        simp [List.getD, this]
      have := hw _ hm
      generalize zs.getD i 0 = x at this ⊢
      simp [Lit.wf, IntKind.min, IntKind.signed] at this
      omega
    · have hm : zs.getD i 0 ∈ zs := by
        have : i < zs.length := by omega
        simp [List.getD, this]
      have := hw _ hm
      generalize zs.getD i 0 = x at this ⊢
      simp [Lit.wf, IntKind.max, IntKind.bits, IntKind.signed] at this
      omega
    · have := hc i (by omega)
      rw [← this]
      unfold Addr.add
      by_cases hi0 : i = 0 <;> simp [hi0]

/-- a source at block g: its code, how far it has come, its seed -/
def Src (w : World) (g : Nat) (t : TypeId) (A : Option Addr) (n c : Nat) (a s : Int) : Prop :=
  w.heap[g]? = some (.cells #[.slice A n c, .int .i64 a, .int .i64 s] t (0, 0))
theorem Src.code {w : World} {g : Nat} {t : TypeId} {A : Option Addr} {n c : Nat} {a s : Int} (h : Src w g t A n c a s) : w.cell? ⟨g, 0, none⟩ = some (.slice A n c) := by
  rw [cell_of_row w g 0 _ t (0, 0) h]; rfl
theorem Src.far {w : World} {g : Nat} {t : TypeId} {A : Option Addr} {n c : Nat} {a s : Int} (h : Src w g t A n c a s) : w.cell? ⟨g, 1, none⟩ = some (.int .i64 a) := by
  rw [cell_of_row w g 1 _ t (0, 0) h]; rfl
theorem Src.seed {w : World} {g : Nat} {t : TypeId} {A : Option Addr} {n c : Nat} {a s : Int} (h : Src w g t A n c a s) : w.cell? ⟨g, 2, none⟩ = some (.int .i64 s) := by
  rw [cell_of_row w g 2 _ t (0, 0) h]; rfl
theorem Src.frozen {w : World} {g : Nat} {t : TypeId} {A : Option Addr} {n c : Nat} {a s : Int} (h : Src w g t A n c a s) (i : Nat) : w.frozen? ⟨g, i, none⟩ = false := frozen_of_row w g i _ t h
theorem Src.setFar {w : World} {g : Nat} {t : TypeId} {A : Option Addr} {n c : Nat} {a s : Int} (h : Src w g t A n c a s) (v : Int) : Src (w.setCell ⟨g, 1, none⟩ (.int .i64 v)) g t A n c v s := by
  unfold Src at h ⊢; rw [heap_setCell_same w g 1 _ t _ h]; rfl
theorem Src.setSeed {w : World} {g : Nat} {t : TypeId} {A : Option Addr} {n c : Nat} {a s : Int} (h : Src w g t A n c a s) (v : Int) : Src (w.setCell ⟨g, 2, none⟩ (.int .i64 v)) g t A n c a v := by
  unfold Src at h ⊢; rw [heap_setCell_same w g 2 _ t _ h]; rfl
theorem Src.lt {w : World} {g : Nat} {t : TypeId} {A : Option Addr} {n c : Nat} {a s : Int} (h : Src w g t A n c a s) : g < w.heap.size := by
  rcases Nat.lt_or_ge g w.heap.size with hlt | hge
  · exact hlt
  · unfold Src at h; rw [Array.getElem?_eq_none hge] at h; cases h
theorem Src.keep {w w' : World} {g : Nat} {t : TypeId} {A : Option Addr} {n c : Nat} {a s : Int} (h : Src w g t A n c a s) (hk : w'.heap[g]? = w.heap[g]?) : Src w' g t A n c a s := hk.trans h
theorem Src.drewN {w : World} {g : Nat} {t : TypeId} {A : Option Addr} {n c : Nat} {a s : Int} (h : Src w g t A n c a s) (k : Nat) : Src (w.drewN k) g t A n c a s := h
theorem RdB.drewN {w : World} {P : Nat → Prop} {A : Option Addr} {n : Nat} (h : RdB w P A n) (k : Nat) : RdB (w.drewN k) P A n := h
/-- what a draw leaves of a source -/
def Drew (w w' : World) (g : Nat) (t : TypeId) (A : Option Addr) (n c : Nat) (a : Int) (r m k : Int) (e : Ending) : Prop :=
  ∃ a' s' : Int, e = .returned (.int .i64 r) ∧ 0 ≤ r ∧ r < m ∧ a ≤ a' ∧ a' ≤ a + k ∧ 0 ≤ s' ∧ s' < 2147483648 ∧ Src w' g t A n c a' s' ∧ w.grownBy w' (some g)
end Nt
namespace Go.Proofs.YtifepoefeamboaaGreatDoor
open Go Go.RowKit Nt

set_option maxHeartbeats 400000 in
theorem l00Source_any (A : Option Addr) (n c : Nat) (w : World) (hn : n ≤ 1099511627776) :
    Calls Tryz.prog 36 #[.slice A n c] w fun e w' => ∃ s : Int, e = .returned (.pointer (some ⟨w.heap.size, 0, none⟩)) ∧ 0 ≤ s ∧ s < 2147483648 ∧ Src w' w.heap.size 90 A n c 0 s ∧ Below w.heap.size w w' := by
  go_enter Tryz.func36, Tryz.ntmps36
  go_wp2
  go_ret
  refine ⟨(n : Int) % 1000, rfl, by omega, by omega, heap_alloc_new w _, (Below.refl _ _).alloc (Nat.le_refl _) _⟩

set_option maxHeartbeats 1600000 in
theorem srcByte_any (g n c : Nat) (A : Option Addr) (a s : Int) (B : Nat) (w : World) (hS : Src w g 90 A n c a s) (hR : RdB w (· < B) A n) (hB : B ≤ g) (ha0 : 0 ≤ a) (ha1 : a ≤ 1099511627776) (hs0 : 0 ≤ s) (hs1 : s < 2147483648) (hn : n ≤ 1099511627776) :
    Calls Tryz.prog 96 #[.pointer (some ⟨g, 0, none⟩)] w (fun e w' => ∃ r, Drew w w' g 90 A n c a r 256 1 e) := by
  have h1 := hS.far
  have hf1 := hS.frozen 1
  have HS1 := Lib.hid (hS.setFar (a + 1))
  have HG1 := Lib.hid (grown_set (i := 1) (World.grownBy.refl w (some g)) (.int .i64 (a + 1)))
  have HR1 := Lib.hid (hR.grown HG1.out hB)
  clear hS hR
  go_enter Tryz.func96, Tryz.ntmps96
  go_wp2
  generalize w.setCell ⟨g, 1, none⟩ (.int .i64 (a + 1)) = w1 at *
  have h0 := HS1.out.code
  have h1 := HS1.out.far
  have h2 := HS1.out.seed
  have hf2 := HS1.out.frozen 2
  by_cases hle : a + 1 ≤ n
  · obtain ⟨b, o, rfl, hb, hbl, hc⟩ := HR1.out (by omega)
    obtain ⟨x, hx0, hx1, hcx⟩ := hc a.toNat (by omega)
    obtain ⟨k, rfl⟩ : ∃ k : Nat, a = k := ⟨a.toNat, by omega⟩
    rw [Int.toNat_natCast] at hcx
    have hkn : ((k : Int) < (n : Int)) := by omega
    have hmod : (s * 31 + x + 7) % 2147483648 < 2147483648 ∧ 0 ≤ (s * 31 + x + 7) % 2147483648 := by omega
    clear hc
    go_quiet (fail)
    go_wp2
    have HS2 := Lib.hid (HS1.out.drewN nq)
    have HG2 := Lib.hid (grown_drewN HG1.out nq)
    have h0' : (w1.drewN nq).cell? ⟨g, 0, none⟩ = some (.slice (some ⟨b, o, none⟩) n c) := h0
    have h1' : (w1.drewN nq).cell? ⟨g, 1, none⟩ = some (.int .i64 (k + 1)) := h1
    have h2' : (w1.drewN nq).cell? ⟨g, 2, none⟩ = some (.int .i64 s) := h2
    have hf2' : (w1.drewN nq).frozen? ⟨g, 2, none⟩ = false := hf2
    have hcx' : (w1.drewN nq).cell? ⟨b, o + k, none⟩ = some (.int .u8 x) := hcx
    clear h0 h1 h2 hf2 hcx
    generalize w1.drewN nq = w2 at *
    go_region
    have HS3 := Lib.hid (HS2.out.setSeed ((s * 31 + x + 7) % 2147483648))
    have HG3 := Lib.hid (grown_set (i := 2) HG2.out (.int .i64 ((s * 31 + x + 7) % 2147483648)))
    have hcx3 : (w2.setCell ⟨g, 2, none⟩ (.int .i64 ((s * 31 + x + 7) % 2147483648))).cell? ⟨b, o + k, none⟩ = some (.int .u8 x) :=
      (World.cell?_of_block (a := ⟨b, o + k, none⟩) (Below.heap_setCell w2 ⟨g, 2, none⟩ _ b (by simp; omega))).trans hcx'
    generalize (s * 31 + x + 7) % 2147483648 = q at *
    generalize w2.setCell ⟨g, 2, none⟩ (.int .i64 q) = w3 at *
    have h0 := HS3.out.code
    have h1 := HS3.out.far
    clear h0' h1' h2' hf2' hcx'
    go_wp2
    go_quiet (fail)
    go_wp2
    go_ret
    exact ⟨x, k + 1, q, rfl, hx0, hx1, by omega, by omega, by omega, by omega, HS3.out, grown_drewN (grown_drew HG3.out) _⟩
  · go_quiet (fail)
    by_cases hbig : 3000 < a + 1
    · go_wp2
      go_ret
      exact ⟨0, a + 1, s, rfl, by omega, by omega, by omega, by omega, by omega, by omega, HS1.out.drewN _, grown_drewN HG1.out _⟩
    · have hq0 : 0 ≤ (s * 1103515245 + 12345) % 2147483648 := by omega
      have hq1 : (s * 1103515245 + 12345) % 2147483648 < 2147483648 := by omega
      go_wp2
      go_ret
      generalize (s * 1103515245 + 12345) % 2147483648 = q at *
      exact ⟨_, a + 1, q, rfl, by omega, by omega, by omega, by omega, by omega, by omega, (HS1.out.drewN _).setSeed q, grown_set (grown_drewN HG1.out _) _⟩

set_option maxHeartbeats 1600000 in
theorem srcNext_any (g n c : Nat) (A : Option Addr) (a s m : Int) (B : Nat) (w : World) (hS : Src w g 90 A n c a s) (hR : RdB w (· < B) A n) (hB : B ≤ g) (ha0 : 0 ≤ a) (ha1 : a ≤ 549755813888) (hs0 : 0 ≤ s) (hs1 : s < 2147483648) (hn : n ≤ 1099511627776) (hm : 1 < m) (hm1 : m ≤ 16777216) :
    Calls Tryz.prog 67 #[.pointer (some ⟨g, 0, none⟩), .int .i64 m] w (fun e w' => ∃ r, Drew w w' g 90 A n c a r m 3 e) := by
  have HS := Lib.hid hS
  have HR := Lib.hid hR
  clear hS hR
  have hm' : (m == 0) = false := by simp; omega
  by_cases hmm : m ≤ 256
  · go_enter Tryz.func67, Tryz.ntmps67
    go_wp2_with fail
    refine (srcByte_any g n c A a s B w HS.out HR.out hB ha0 (by omega) hs0 hs1 hn).mono ?_
    rintro e w1 ⟨r, a1, s1, rfl, hr0, hr1, h1, h2, h3, h4, hS1, hg1⟩
    have HS1 := Lib.hid hS1
    have HG1 := Lib.hid hg1
    clear hS1 hg1
    go_wp2
    go_ret
    exact ⟨_, a1, s1, rfl, Int.emod_nonneg _ (by omega), Int.emod_lt_of_pos _ (by omega), by omega, by omega, h3, h4, HS1.out, HG1.out⟩
  · go_enter Tryz.func67, Tryz.ntmps67
    go_wp2_with fail
    refine (srcByte_any g n c A a s B w HS.out HR.out hB ha0 (by omega) hs0 hs1 hn).mono ?_
    rintro e w1 ⟨r1, a1, s1, rfl, hr0, hr1, h1, h2, h3, h4, hS1, hg1⟩
    have HS1 := Lib.hid hS1
    have HG1 := Lib.hid hg1
    clear hS1 hg1
    go_wp2_with fail
    refine (srcByte_any g n c A a1 s1 B w1 HS1.out (HR.out.grown HG1.out hB) hB (by omega) (by omega) h3 h4 hn).mono ?_
    rintro e w2 ⟨r2, a2, s2, rfl, hr02, hr12, h12, h22, h32, h42, hS2, hg2⟩
    have HS2 := Lib.hid hS2
    have HG2 := Lib.hid (grown_trans HG1.out hg2)
    clear hS2 hg2
    go_wp2_with fail
    refine (srcByte_any g n c A a2 s2 B w2 HS2.out (HR.out.grown HG2.out hB) hB (by omega) (by omega) h32 h42 hn).mono ?_
    rintro e w3 ⟨r3, a3, s3, rfl, hr03, hr13, h13, h23, h33, h43, hS3, hg3⟩
    have HS3 := Lib.hid hS3
    have HG3 := Lib.hid (grown_trans HG2.out hg3)
    clear hS3 hg3
    go_wp2
    go_ret
    exact ⟨_, a3, s3, rfl, Int.emod_nonneg _ (by omega), Int.emod_lt_of_pos _ (by omega), by omega, by omega, h33, h43, HS3.out, HG3.out⟩

end Go.Proofs.YtifepoefeamboaaGreatDoor
namespace Nt
open Go Go.RowKit
theorem Arr.grown {w w' : World} {g b : Nat} {t : TypeId} {xs : List Int} (h : Arr w b t xs) (hg : w.grownBy w' (some g)) (hne : b ≠ g) : Arr w' b t xs :=
  h.keep (hg.block b h.lt (fun e => by injection e with e; omega))
theorem alloc_block (w : World) (o : Obj) (i : Nat) (hi : i < w.heap.size) : (w.alloc o).heap[i]? = w.heap[i]? := ((Below.refl w.heap.size w).alloc (Nat.le_refl _) o).block i hi
theorem grown_alloc {a w : World} {r : Option Nat} (h : a.grownBy w r) (o : Obj) : a.grownBy (w.alloc o) r :=
  ⟨h.os, h.tape, h.output, by have := h.size; simp; omega, fun i hi hne => (alloc_block w o i (by have := h.size; omega)).trans (h.block i hi hne)⟩
theorem Src.alloc {w : World} {g : Nat} {t : TypeId} {A : Option Addr} {n c : Nat} {a s : Int} (h : Src w g t A n c a s) (o : Obj) : Src (w.alloc o) g t A n c a s := h.keep (alloc_block w o g h.lt)
end Nt
namespace Go.Proofs.YtifepoefeamboaaGreatDoor
open Go Go.RowKit Nt

end Go.Proofs.YtifepoefeamboaaGreatDoor
namespace Nt
open Go Go.RowKit
theorem grown_past {a w w' : World} {g b : Nat} (h : a.grownBy w (some g)) (k : w.grownBy w' (some b)) (hb : a.heap.size ≤ b) : a.grownBy w' (some g) :=
  ⟨k.os.trans h.os, k.tape.trans h.tape, k.output.trans h.output, Nat.le_trans h.size k.size, fun i hi hne => (k.block i (Nat.lt_of_lt_of_le hi h.size) (by intro e; injection e with e; omega)).trans (h.block i hi hne)⟩
theorem Src.below {w w' : World} {g : Nat} {t : TypeId} {A : Option Addr} {n c : Nat} {a s : Int} (h : Src w g t A n c a s) (hb : Below w.heap.size w w') : Src w' g t A n c a s := h.keep (hb.block g h.lt)
theorem RdB.on {w w' : World} {B : Nat} {A : Option Addr} {n : Nat} (h : RdB w (· < B) A n) (hb : Below w.heap.size w w') : RdB w' (· < B) A n :=
  h.keep hb.size fun b _ hl => hb.block b hl
end Nt
namespace Go.Proofs.YtifepoefeamboaaGreatDoor
open Go Go.RowKit Nt

end Go.Proofs.YtifepoefeamboaaGreatDoor
namespace Nt
open Go Go.RowKit
theorem D_eq {m n : Nat} (h : D m = D n) : m = n := by have := congrArg natOf h; rwa [natOf_D, natOf_D] at this
theorem parts_eq {a b : Rat} (h0 : isNeg a = isNeg b) (h1 : nu a = nu b) (h2 : a.den = b.den) : a = b := by
  apply Rat.ext
  · simp [isNeg, nu] at h0 h1; omega
  · exact h2
theorem getD_ext {xs ys : List Int} (hl : xs.length = ys.length) (h : ∀ i, i < xs.length → xs.getD i 0 = ys.getD i 0) : xs = ys := by
  apply List.ext_getElem hl
  intro i h1 h2
  have := h i h1
  rwa [List.getD_eq_getElem?_getD, List.getD_eq_getElem?_getD, List.getElem?_eq_getElem h1, List.getElem?_eq_getElem h2] at this
end Nt
namespace Go.Proofs.YtifepoefeamboaaGreatDoor
open Go Go.RowKit Nt

set_option maxHeartbeats 800000 in
theorem sameInts_any (A A' : Option Addr) (n c n' c' : Nat) (xs ys : List Int) (P P' : Nat → Prop) (w : World) (hr : Rd w P A n c xs) (hr' : Rd w P' A' n' c' ys) (hn : n ≤ 16777216) (hn' : n' ≤ 16777216) :
    Calls Tryz.prog 48 #[.slice A n c, .slice A' n' c'] w fun e w' => e = .returned (.bool (decide (xs = ys))) ∧ Drawn w w' := by
  have h1 := hr.len
  have h2 := hr'.len
  by_cases hl : n' = n
  · subst hl
    have hne : ((n' : Int) != (n' : Int)) = false := by simp
    go_enter Tryz.func48, Tryz.ntmps48
    go_wp2
    go_loopw [5] (fun i wr => ∃ k : Nat, k ≤ n' ∧ i = .int .i64 k ∧ Hid (∀ j, j < k → xs.getD j 0 = ys.getD j 0) ∧ ∃ m, wr = w.drewN m) (fun i _ => n' - (intOf i).toNat)
    case atStart => exact ⟨0, Nat.zero_le _, rfl, fun j hj => by omega, 0, rfl⟩
    case round =>
      obtain ⟨k, hk, rfl, hs, m, rfl⟩ := hrel
      by_cases hlt : k < n'
      · obtain ⟨b, o, rfl, hP, _, hc⟩ := hr.at_ (by omega)
        obtain ⟨b', o', rfl, hP', _, hc'⟩ := hr'.at_ (by omega)
        have hcx : w.cell? ⟨b, o + k, none⟩ = some (.int .i64 (xs.getD k 0)) := hc k hlt
        have hcy : w.cell? ⟨b', o' + k, none⟩ = some (.int .i64 (ys.getD k 0)) := hc' k hlt
        have hlt' : (k : Int) < (n' : Int) := by omega
        have HX : Hid (∃ x, x = xs.getD k 0) := ⟨_, rfl⟩
        have HY : Hid (∃ y, y = ys.getD k 0) := ⟨_, rfl⟩
        obtain ⟨x, hx⟩ := HX.out
        obtain ⟨y, hy⟩ := HY.out
        rw [← hx] at hcx
        rw [← hy] at hcy
        have HX1 := Lib.hid hx
        have HY1 := Lib.hid hy
        clear hc hc' hr hr' hP hP' HX HY hx hy
        by_cases hxy : x = y
        · subst hxy
          have hxx : ((x : Int) != x) = false := by simp
          go_wp2
          go_quiet (fail)
          go_wp2
          go_roundw
          case rel => exact ⟨k + 1, by omega, by go_num, fun j hj => by
            rcases Nat.lt_or_ge j k with h | h
            · exact hs.out j h
            · obtain rfl : j = k := by omega
              exact HX1.out.symm.trans HY1.out, _, rfl⟩
          case measure => simp [intOf]; omega
        · have hxx : ((x : Int) != y) = true := by simpa using hxy
          have HN : Hid (decide (xs = ys) = false) := by
            show _ = _
            rw [decide_eq_false_iff_not]
            intro e
            apply hxy
            rw [HX1.out, HY1.out, e]
          clear hxy
          go_wp2
          go_quiet (fail)
          go_wp2
          go_ret
          exact ⟨by rw [HN.out]; rfl, m + nq, by rw [World.drewN_drewN]⟩
      · have HE : Hid (decide (xs = ys) = true) := by
          show _ = _
          rw [decide_eq_true_iff]
          exact getD_ext (by omega) fun i hi => hs.out i (by omega)
        go_wp2
        go_ret
        exact ⟨by rw [HE.out]; rfl, _, rfl⟩
  · have hne : ((n : Int) != (n' : Int)) = true := by simp; omega
    have hd : decide (xs = ys) = false := by
      rw [decide_eq_false_iff_not]
      intro e
      rw [e] at h1
      omega
    rw [hd]
    clear hr hr' h1 h2 hd
    go_enter Tryz.func48, Tryz.ntmps48
    go_wp2
    go_ret
    exact ⟨rfl, 0, rfl⟩

set_option maxHeartbeats 1600000 in
theorem sameRat_any (a b : Rat) (A B A' B' : Option Addr) (ca cb ca' cb' : Nat) (P P' : Nat → Prop) (w : World) (h : RdR w P (D (nu a)) (D a.den) A ca B cb) (h' : RdR w P' (D (nu b)) (D b.den) A' ca' B' cb') (l1 : (D (nu a)).length ≤ 3600) (l2 : (D a.den).length ≤ 3600) (l3 : (D (nu b)).length ≤ 3600) (l4 : (D b.den).length ≤ 3600) :
    Calls Tryz.prog 16 #[.agg #[.bool (isNeg a), .slice A (D (nu a)).length ca, .slice B (D a.den).length cb], .agg #[.bool (isNeg b), .slice A' (D (nu b)).length ca', .slice B' (D b.den).length cb']] w fun e w' => e = .returned (.bool (decide (a = b))) ∧ Below w.heap.size w w' := by
  have H := Lib.hid h
  have H' := Lib.hid h'
  clear h h'
  by_cases hn : isNeg a = isNeg b
  · have hnn : (isNeg a == isNeg b) = true := by rw [hn]; simp
    have HN := Lib.hid hn
    clear hn
    go_enter Tryz.func16, Tryz.ntmps16
    go_wp2_with fail
    refine calls_at (fun W => Below w.heap.size w W ∧ RatAt W w.heap.size 31 (isNeg a) A (D (nu a)).length ca B (D a.den).length cb ∧ RatAt W (w.heap.size + 1) 31 (isNeg b) A' (D (nu b)).length ca' B' (D b.den).length cb')
      ⟨below2 _ _ _, (RatAt.new _ _ _ _ _ _ _ _ _).alloc _, RatAt.new1 _ _ _ _ _ _ _ _ _ _⟩ ?_
    rintro W ⟨hb, r0, r1⟩
    refine (sameInts_any A A' _ ca _ ca' _ _ _ _ W (H.out.on hb).1 (H'.out.on hb).1 (by omega) (by omega)).mono ?_
    rintro e w1 ⟨rfl, d1⟩
    have b1 := d1.below W.heap.size
    have HB := Lib.hid (below_on hb b1)
    have HR0 := Lib.hid (r0.on b1)
    have HR1 := Lib.hid (r1.on b1)
    clear hb r0 r1 d1 b1
    by_cases hu : D (nu a) = D (nu b)
    · have hd : decide (D (nu a) = D (nu b)) = true := by simpa using hu
      rw [hd]
      have HU := Lib.hid (D_eq hu)
      clear hu hd
      have c02 := HR0.out.c2
      have c12 := HR1.out.c2
      go_wp2_with fail
      refine (sameInts_any B B' _ cb _ cb' _ _ _ _ w1 (H.out.on HB.out).2 (H'.out.on HB.out).2 (by omega) (by omega)).mono ?_
      rintro e w2 ⟨rfl, d2⟩
      have HB2 := Lib.hid (below_on HB.out (d2.below _))
      have hq : decide (D a.den = D b.den) = decide (a = b) := by
        rw [decide_eq_decide]
        exact ⟨fun h => parts_eq HN.out HU.out (D_eq h), fun h => by rw [h]⟩
      rw [hq]
      clear d2 c02 c12 hq
      go_wp2
      go_ret
      exact ⟨rfl, HB2.out⟩
    · have hd : decide (D (nu a) = D (nu b)) = false := by simpa using hu
      have hq : decide (a = b) = false := by
        rw [decide_eq_false_iff_not]
        intro e
        apply hu
        rw [e]
      rw [hd]
      have HQ := Lib.hid hq
      clear hu hd hq
      go_wp2
      go_ret
      exact ⟨by rw [HQ.out]; rfl, HB.out⟩
  · have hnn : (isNeg a == isNeg b) = false := by simpa using hn
    have hq : decide (a = b) = false := by
      rw [decide_eq_false_iff_not]
      intro e
      apply hn
      rw [e]
    rw [hq]
    clear hn hq
    go_enter Tryz.func16, Tryz.ntmps16
    go_wp2
    go_ret
    exact ⟨rfl, below2 _ _ _⟩
end Go.Proofs.YtifepoefeamboaaGreatDoor
