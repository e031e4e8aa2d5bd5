/-
  What the laws do with expressions: copies, comparisons.
-/
import Derived.Test.YtgeijojkfojfbaaNodeCopy
namespace Nt
open Go Go.RowKit
theorem SlAt.set {w : World} {b : Nat} {t : TypeId} {A : Option Addr} {n c : Nat} (h : SlAt w b t A n c) (A' : Option Addr) (n' c' : Nat) : SlAt (w.setCell ⟨b, 0, none⟩ (.slice A' n' c')) b t A' n' c' := by
  have := heap_setCell_same w b 0 _ t (.slice A' n' c') h
  unfold SlAt
  rw [this]
  rfl
theorem set1_grown (w : World) (b : Nat) (u : Value) : w.grownBy (w.setCell ⟨b, 0, none⟩ u) (some b) := grown_set (World.grownBy.refl _ _) _
theorem SlAt.past {w w' : World} {b g : Nat} {t : TypeId} {A : Option Addr} {n c : Nat} (h : SlAt w b t A n c) (hg : w.grownBy w' (some g)) (hne : b ≠ g) : SlAt w' b t A n c :=
  (hg.block b h.lt (fun e => hne (by injection e))).trans h
end Nt
namespace Go.Proofs.Ytgeijojkfojfbaa
open Go Go.RowKit Nt

set_option maxHeartbeats 1600000 in
theorem toExpr_any (A : Option Addr) (n c : Nat) (ns : List Nd) (w : World) (hr : RdN w (· < w.heap.size) A n c ns) (hn : n ≤ 1048576) :
    Calls Try.prog 15 #[.agg #[.slice A n c]] w fun e w' => ∃ B d, e = .returned (.agg #[.slice B n d]) ∧ RdN w' (w.heap.size ≤ ·) B n d ns ∧ Below w.heap.size w w' := by
  have HR := Lib.hid hr
  clear hr
  go_enter Try.func15, Try.ntmps15
  go_wp2_with fail
  refine calls_atN (fun v => SlAt v (w.heap.size + 1) 29 none 0 0 ∧ SlAt v (w.heap.size + 1 + 1) 29 none 0 0 ∧ Below w.heap.size w v ∧ w.heap.size + 3 ≤ v.heap.size) ⟨?_, ?_, ?_, by simp⟩ ?_
  · have h := (SlAt.new (w.alloc (.cells #[.slice A n c] 24)) 29 none 0 0).on (below_one _ (.cells #[.slice none 0 0] 29))
    rw [World.size_alloc] at h
    exact h
  · have h := SlAt.new ((w.alloc (.cells #[.slice A n c] 24)).alloc (.cells #[.slice none 0 0] 29)) 29 none 0 0
    rw [World.size_alloc, World.size_alloc] at h
    exact h
  · exact (((Below.refl _ _).alloc (Nat.le_refl _) _).alloc (by simp) _).alloc (by simp; omega) _
  rintro v1 ⟨p1, p2, pB, pz⟩
  refine (toNodeS_any A n c ns v1 ((HR.out.below pB).mono fun _ h _ => Nat.lt_of_lt_of_le h pB.size) hn).mono ?_
  rintro e v2 ⟨B, d, rfl, hrd, bb⟩
  have q1 := p1.on bb
  have q2 := p2.on bb
  have hB2 := belowN_on pB bb
  have c2 := q2.c0
  have f2 := q2.fz
  have c1 := q1.c0
  have f1 := q1.fz
  have k2 := set1_grown v2 (w.heap.size + 1 + 1) (.slice B n d)
  have k1 := set1_grown (v2.setCell ⟨w.heap.size + 1 + 1, 0, none⟩ (.slice B n d)) (w.heap.size + 1) (.slice B n d)
  have r1 : SlAt ((v2.setCell ⟨w.heap.size + 1 + 1, 0, none⟩ (.slice B n d)).setCell ⟨w.heap.size + 1, 0, none⟩ (.slice B n d)) (w.heap.size + 1) 29 B n d := (q1.past k2 (by omega)).set B n d
  have hrd2 : RdN ((v2.setCell ⟨w.heap.size + 1 + 1, 0, none⟩ (.slice B n d)).setCell ⟨w.heap.size + 1, 0, none⟩ (.slice B n d)) (w.heap.size ≤ ·) B n d ns := by
    have h2 := hrd.keep (w' := (v2.setCell ⟨w.heap.size + 1 + 1, 0, none⟩ (.slice B n d)).setCell ⟨w.heap.size + 1, 0, none⟩ (.slice B n d)) (Nat.le_trans k2.size k1.size) (fun b hb hl => (k1.block b (Nat.lt_of_lt_of_le hl k2.size) (fun e => by injection e with e; omega)).trans (k2.block b hl (fun e => by injection e with e; omega)))
    exact h2.mono fun b hb _ => by omega
  have hBf : Below w.heap.size w ((v2.setCell ⟨w.heap.size + 1 + 1, 0, none⟩ (.slice B n d)).setCell ⟨w.heap.size + 1, 0, none⟩ (.slice B n d)) := (hB2.setCell (p := ⟨w.heap.size + 1 + 1, 0, none⟩) (by show w.heap.size ≤ w.heap.size + 1 + 1; omega) _).setCell (p := ⟨w.heap.size + 1, 0, none⟩) (by show w.heap.size ≤ w.heap.size + 1; omega) _
  have HR1 := Lib.hid r1
  have HRD := Lib.hid hrd2
  have HBF := Lib.hid hBf
  clear p1 p2 pB q1 q2 hrd bb k1 k2 r1 hrd2 hBf hB2
  go_wp2
  exact bodyPost_ret (retExpr rfl _ _ (w.heap.size + 1) rfl HR1.out) rfl ⟨B, d, rfl, HRD.out, HBF.out⟩

set_option maxHeartbeats 800000 in
theorem eqExpr_same (A B : Option Addr) (n c d : Nat) (ns : List Nd) (P Q : Nat → Prop) (w : World) (hr : RdN w P A n c ns) (hr' : RdN w Q B n d ns) (hn : n ≤ 1048576) :
    Calls Try.prog 17 #[.agg #[.slice A n c], .agg #[.slice B n d]] w fun e w' => e = .returned (.bool true) ∧ Below w.heap.size w w' := by
  have HR := Lib.hid hr
  have HR' := Lib.hid hr'
  have HB0 := Lib.hid (((Below.refl w.heap.size w).alloc (Nat.le_refl _) (.cells #[.slice A n c] 29)).alloc (by simp) (.cells #[.slice B n d] 29))
  clear hr hr'
  go_enter Try.func17, Try.ntmps17
  go_wp2_with fail
  refine calls_atN (fun v => Below w.heap.size w v) HB0.out ?_
  intro v1 pB
  refine (eqNodeS_same A B n c d ns P Q v1 (HR.out.on pB) (HR'.out.on pB) hn).mono ?_
  rintro e v2 ⟨rfl, bb⟩
  have HB2 := Lib.hid (belowN_on pB bb)
  clear pB bb
  go_wp2
  go_ret
  exact ⟨rfl, HB2.out⟩
end Go.Proofs.Ytgeijojkfojfbaa
