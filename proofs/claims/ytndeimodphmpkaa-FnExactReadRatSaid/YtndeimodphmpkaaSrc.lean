/-
  The source of choices that the laws draw from.
-/
import Derived.Test.YtndeimodphmpkaaGrpA
import Derived.BigRegion
namespace Nt
open Go Go.RowKit

/-- the slice value '.slice A n c' holds bytes; its block is one of P -/
def RdB (w : World) (P : Nat → Prop) (A : Option Addr) (n : Nat) : Prop :=
  0 < n → ∃ b o, A = some ⟨b, o, none⟩ ∧ P b ∧ b < w.heap.size ∧ ∀ i, i < n → ∃ x : Int, 0 ≤ x ∧ x < 256 ∧ w.cell? ⟨b, o + i, none⟩ = some (.int .u8 x)
theorem RdB.keep {w w' : World} {P : Nat → Prop} {A : Option Addr} {n : Nat} (h : RdB w P A n) (hs : w.heap.size ≤ w'.heap.size)
    (hk : ∀ b, P b → b < w.heap.size → w'.heap[b]? = w.heap[b]?) : RdB w' P A n := fun hn => by
  obtain ⟨b, o, e, hp, hlt, hc⟩ := h hn
  refine ⟨b, o, e, hp, by omega, fun i hi => ?_⟩
  obtain ⟨x, h0, h1, h2⟩ := hc i hi
  exact ⟨x, h0, h1, (World.cell?_of_block (a := ⟨b, o + i, none⟩) (hk b hp hlt)).trans h2⟩
theorem RdB.mono {w : World} {P Q : Nat → Prop} {A : Option Addr} {n : Nat} (h : RdB w P A n) (hpq : ∀ b, P b → b < w.heap.size → Q b) : RdB w Q A n := fun hn => by
  obtain ⟨b, o, e, hp, hlt, hc⟩ := h hn
  exact ⟨b, o, e, hpq b hp hlt, hlt, hc⟩
theorem RdB.below {w w' : World} {B : Nat} {A : Option Addr} {n : Nat} (h : RdB w (· < B) A n) (hb : Below B w w') : RdB w' (· < B) A n :=
  h.keep hb.size fun b hp _ => hb.block b hp
theorem RdB.grown {w w' : World} {B g : Nat} {A : Option Addr} {n : Nat} (h : RdB w (· < B) A n) (hg : w.grownBy w' (some g)) (hB : B ≤ g) : RdB w' (· < B) A n :=
  h.keep hg.size fun b hp hlt => hg.block b hlt (fun e => by injection e with e; omega)
theorem IsRow.rdb {w : World} {a : Option Addr} {len cap : Nat} {zs : List Int} (h : IsRow .u8 w a len cap zs) : RdB w (· < w.heap.size) a len := by
  rcases h with ⟨rfl, rfl, rfl, rfl⟩ | ⟨⟨b, o, spot⟩, rfl, h1, h2, h3, hc, hw⟩
  · intro h; omega
  · intro hn
    have h0 := hc 0 (by omega)
    have hspot : spot = none := by simpa [Addr.add] using World.cell?_spot h0
    subst hspot
    refine ⟨b, o, rfl, ?_, ?_, fun i hi => ⟨zs.getD i 0, ?_, ?_, ?_⟩⟩
    · exact World.block_lt_of_cell? w _ h0
    · exact World.block_lt_of_cell? w _ h0
    · have hm : zs.getD i 0 ∈ zs := by
        have : i < zs.length := by omega
        simp [List.getD, this]
      have := hw _ hm
      generalize zs.getD i 0 = x at this ⊢
      simp [Lit.wf, IntKind.min, IntKind.signed] at this
      omega
    · have hm : zs.getD i 0 ∈ zs := by
        have : i < zs.length := by omega
        simp [List.getD, this]
      have := hw _ hm
      generalize zs.getD i 0 = x at this ⊢
      simp [Lit.wf, IntKind.max, IntKind.bits, IntKind.signed] at this
      omega
    · have := hc i (by omega)
      rw [← this]
      unfold Addr.add
      by_cases hi0 : i = 0 <;> simp [hi0]

/-- a source at block g: its code, how far it has come, its seed -/
def Src (w : World) (g : Nat) (t : TypeId) (A : Option Addr) (n c : Nat) (a s : Int) : Prop :=
  w.heap[g]? = some (.cells #[.slice A n c, .int .i64 a, .int .i64 s] t (0, 0))
theorem Src.code {w : World} {g : Nat} {t : TypeId} {A : Option Addr} {n c : Nat} {a s : Int} (h : Src w g t A n c a s) : w.cell? ⟨g, 0, none⟩ = some (.slice A n c) := by
  rw [cell_of_row w g 0 _ t (0, 0) h]; rfl
theorem Src.far {w : World} {g : Nat} {t : TypeId} {A : Option Addr} {n c : Nat} {a s : Int} (h : Src w g t A n c a s) : w.cell? ⟨g, 1, none⟩ = some (.int .i64 a) := by
  rw [cell_of_row w g 1 _ t (0, 0) h]; rfl
theorem Src.seed {w : World} {g : Nat} {t : TypeId} {A : Option Addr} {n c : Nat} {a s : Int} (h : Src w g t A n c a s) : w.cell? ⟨g, 2, none⟩ = some (.int .i64 s) := by
  rw [cell_of_row w g 2 _ t (0, 0) h]; rfl
theorem Src.frozen {w : World} {g : Nat} {t : TypeId} {A : Option Addr} {n c : Nat} {a s : Int} (h : Src w g t A n c a s) (i : Nat) : w.frozen? ⟨g, i, none⟩ = false := frozen_of_row w g i _ t h
theorem Src.setFar {w : World} {g : Nat} {t : TypeId} {A : Option Addr} {n c : Nat} {a s : Int} (h : Src w g t A n c a s) (v : Int) : Src (w.setCell ⟨g, 1, none⟩ (.int .i64 v)) g t A n c v s := by
  unfold Src at h ⊢; rw [heap_setCell_same w g 1 _ t _ h]; rfl
theorem Src.setSeed {w : World} {g : Nat} {t : TypeId} {A : Option Addr} {n c : Nat} {a s : Int} (h : Src w g t A n c a s) (v : Int) : Src (w.setCell ⟨g, 2, none⟩ (.int .i64 v)) g t A n c a v := by
  unfold Src at h ⊢; rw [heap_setCell_same w g 2 _ t _ h]; rfl
theorem Src.lt {w : World} {g : Nat} {t : TypeId} {A : Option Addr} {n c : Nat} {a s : Int} (h : Src w g t A n c a s) : g < w.heap.size := by
  rcases Nat.lt_or_ge g w.heap.size with hlt | hge
  · exact hlt
  · unfold Src at h; rw [Array.getElem?_eq_none hge] at h; cases h
theorem Src.keep {w w' : World} {g : Nat} {t : TypeId} {A : Option Addr} {n c : Nat} {a s : Int} (h : Src w g t A n c a s) (hk : w'.heap[g]? = w.heap[g]?) : Src w' g t A n c a s := hk.trans h
theorem Src.drewN {w : World} {g : Nat} {t : TypeId} {A : Option Addr} {n c : Nat} {a s : Int} (h : Src w g t A n c a s) (k : Nat) : Src (w.drewN k) g t A n c a s := h
theorem RdB.drewN {w : World} {P : Nat → Prop} {A : Option Addr} {n : Nat} (h : RdB w P A n) (k : Nat) : RdB (w.drewN k) P A n := h
/-- what a draw leaves of a source -/
def Drew (w w' : World) (g : Nat) (t : TypeId) (A : Option Addr) (n c : Nat) (a : Int) (r m k : Int) (e : Ending) : Prop :=
  ∃ a' s' : Int, e = .returned (.int .i64 r) ∧ 0 ≤ r ∧ r < m ∧ a ≤ a' ∧ a' ≤ a + k ∧ 0 ≤ s' ∧ s' < 2147483648 ∧ Src w' g t A n c a' s' ∧ w.grownBy w' (some g)
end Nt
namespace Go.Proofs.Ytndeimodphmpkaa
open Go Go.RowKit Nt

set_option maxHeartbeats 400000 in
theorem l00Source_any (A : Option Addr) (n c : Nat) (w : World) (hn : n ≤ 1099511627776) :
    Calls Try.prog 31 #[.slice A n c] w fun e w' => ∃ s : Int, e = .returned (.pointer (some ⟨w.heap.size, 0, none⟩)) ∧ 0 ≤ s ∧ s < 2147483648 ∧ Src w' w.heap.size 101 A n c 0 s ∧ Below w.heap.size w w' := by
  go_enter Try.func31, Try.ntmps31
  go_wp2
  go_ret
  refine ⟨(n : Int) % 1000, rfl, by omega, by omega, heap_alloc_new w _, (Below.refl _ _).alloc (Nat.le_refl _) _⟩

set_option maxHeartbeats 1600000 in
theorem srcByte_any (g n c : Nat) (A : Option Addr) (a s : Int) (B : Nat) (w : World) (hS : Src w g 101 A n c a s) (hR : RdB w (· < B) A n) (hB : B ≤ g) (ha0 : 0 ≤ a) (ha1 : a ≤ 1099511627776) (hs0 : 0 ≤ s) (hs1 : s < 2147483648) (hn : n ≤ 1099511627776) :
    Calls Try.prog 108 #[.pointer (some ⟨g, 0, none⟩)] w (fun e w' => ∃ r, Drew w w' g 101 A n c a r 256 1 e) := by
  have h1 := hS.far
  have hf1 := hS.frozen 1
  have HS1 := Lib.hid (hS.setFar (a + 1))
  have HG1 := Lib.hid (grown_set (i := 1) (World.grownBy.refl w (some g)) (.int .i64 (a + 1)))
  have HR1 := Lib.hid (hR.grown HG1.out hB)
  clear hS hR
  go_enter Try.func108, Try.ntmps108
  go_wp2
  generalize w.setCell ⟨g, 1, none⟩ (.int .i64 (a + 1)) = w1 at *
  have h0 := HS1.out.code
  have h1 := HS1.out.far
  have h2 := HS1.out.seed
  have hf2 := HS1.out.frozen 2
  by_cases hle : a + 1 ≤ n
  · obtain ⟨b, o, rfl, hb, hbl, hc⟩ := HR1.out (by omega)
    obtain ⟨x, hx0, hx1, hcx⟩ := hc a.toNat (by omega)
    obtain ⟨k, rfl⟩ : ∃ k : Nat, a = k := ⟨a.toNat, by omega⟩
    rw [Int.toNat_natCast] at hcx
    have hkn : ((k : Int) < (n : Int)) := by omega
    have hmod : (s * 31 + x + 7) % 2147483648 < 2147483648 ∧ 0 ≤ (s * 31 + x + 7) % 2147483648 := by omega
    clear hc
    go_quiet (fail)
    go_wp2
    have HS2 := Lib.hid (HS1.out.drewN nq)
    have HG2 := Lib.hid (grown_drewN HG1.out nq)
    have h0' : (w1.drewN nq).cell? ⟨g, 0, none⟩ = some (.slice (some ⟨b, o, none⟩) n c) := h0
    have h1' : (w1.drewN nq).cell? ⟨g, 1, none⟩ = some (.int .i64 (k + 1)) := h1
    have h2' : (w1.drewN nq).cell? ⟨g, 2, none⟩ = some (.int .i64 s) := h2
    have hf2' : (w1.drewN nq).frozen? ⟨g, 2, none⟩ = false := hf2
    have hcx' : (w1.drewN nq).cell? ⟨b, o + k, none⟩ = some (.int .u8 x) := hcx
    clear h0 h1 h2 hf2 hcx
    generalize w1.drewN nq = w2 at *
    go_region
    have HS3 := Lib.hid (HS2.out.setSeed ((s * 31 + x + 7) % 2147483648))
    have HG3 := Lib.hid (grown_set (i := 2) HG2.out (.int .i64 ((s * 31 + x + 7) % 2147483648)))
    have hcx3 : (w2.setCell ⟨g, 2, none⟩ (.int .i64 ((s * 31 + x + 7) % 2147483648))).cell? ⟨b, o + k, none⟩ = some (.int .u8 x) :=
      (World.cell?_of_block (a := ⟨b, o + k, none⟩) (Below.heap_setCell w2 ⟨g, 2, none⟩ _ b (by simp; omega))).trans hcx'
    generalize (s * 31 + x + 7) % 2147483648 = q at *
    generalize w2.setCell ⟨g, 2, none⟩ (.int .i64 q) = w3 at *
    have h0 := HS3.out.code
    have h1 := HS3.out.far
    clear h0' h1' h2' hf2' hcx'
    go_wp2
    go_quiet (fail)
    go_wp2
    go_ret
    exact ⟨x, k + 1, q, rfl, hx0, hx1, by omega, by omega, by omega, by omega, HS3.out, grown_drewN (grown_drew HG3.out) _⟩
  · go_quiet (fail)
    by_cases hbig : 3000 < a + 1
    · go_wp2
      go_ret
      exact ⟨0, a + 1, s, rfl, by omega, by omega, by omega, by omega, by omega, by omega, HS1.out.drewN _, grown_drewN HG1.out _⟩
    · have hq0 : 0 ≤ (s * 1103515245 + 12345) % 2147483648 := by omega
      have hq1 : (s * 1103515245 + 12345) % 2147483648 < 2147483648 := by omega
      go_wp2
      go_ret
      generalize (s * 1103515245 + 12345) % 2147483648 = q at *
      exact ⟨_, a + 1, q, rfl, by omega, by omega, by omega, by omega, by omega, by omega, (HS1.out.drewN _).setSeed q, grown_set (grown_drewN HG1.out _) _⟩

set_option maxHeartbeats 1600000 in
theorem srcNext_any (g n c : Nat) (A : Option Addr) (a s m : Int) (B : Nat) (w : World) (hS : Src w g 101 A n c a s) (hR : RdB w (· < B) A n) (hB : B ≤ g) (ha0 : 0 ≤ a) (ha1 : a ≤ 549755813888) (hs0 : 0 ≤ s) (hs1 : s < 2147483648) (hn : n ≤ 1099511627776) (hm : 1 < m) (hm1 : m ≤ 16777216) :
    Calls Try.prog 64 #[.pointer (some ⟨g, 0, none⟩), .int .i64 m] w (fun e w' => ∃ r, Drew w w' g 101 A n c a r m 3 e) := by
  have HS := Lib.hid hS
  have HR := Lib.hid hR
  clear hS hR
  have hm' : (m == 0) = false := by simp; omega
  by_cases hmm : m ≤ 256
  · go_enter Try.func64, Try.ntmps64
    go_wp2_with fail
    refine (srcByte_any g n c A a s B w HS.out HR.out hB ha0 (by omega) hs0 hs1 hn).mono ?_
    rintro e w1 ⟨r, a1, s1, rfl, hr0, hr1, h1, h2, h3, h4, hS1, hg1⟩
    have HS1 := Lib.hid hS1
    have HG1 := Lib.hid hg1
    clear hS1 hg1
    go_wp2
    go_ret
    exact ⟨_, a1, s1, rfl, Int.emod_nonneg _ (by omega), Int.emod_lt_of_pos _ (by omega), by omega, by omega, h3, h4, HS1.out, HG1.out⟩
  · go_enter Try.func64, Try.ntmps64
    go_wp2_with fail
    refine (srcByte_any g n c A a s B w HS.out HR.out hB ha0 (by omega) hs0 hs1 hn).mono ?_
    rintro e w1 ⟨r1, a1, s1, rfl, hr0, hr1, h1, h2, h3, h4, hS1, hg1⟩
    have HS1 := Lib.hid hS1
    have HG1 := Lib.hid hg1
    clear hS1 hg1
    go_wp2_with fail
    refine (srcByte_any g n c A a1 s1 B w1 HS1.out (HR.out.grown HG1.out hB) hB (by omega) (by omega) h3 h4 hn).mono ?_
    rintro e w2 ⟨r2, a2, s2, rfl, hr02, hr12, h12, h22, h32, h42, hS2, hg2⟩
    have HS2 := Lib.hid hS2
    have HG2 := Lib.hid (grown_trans HG1.out hg2)
    clear hS2 hg2
    go_wp2_with fail
    refine (srcByte_any g n c A a2 s2 B w2 HS2.out (HR.out.grown HG2.out hB) hB (by omega) (by omega) h32 h42 hn).mono ?_
    rintro e w3 ⟨r3, a3, s3, rfl, hr03, hr13, h13, h23, h33, h43, hS3, hg3⟩
    have HS3 := Lib.hid hS3
    have HG3 := Lib.hid (grown_trans HG2.out hg3)
    clear hS3 hg3
    go_wp2
    go_ret
    exact ⟨_, a3, s3, rfl, Int.emod_nonneg _ (by omega), Int.emod_lt_of_pos _ (by omega), by omega, by omega, h33, h43, HS3.out, HG3.out⟩

end Go.Proofs.Ytndeimodphmpkaa
