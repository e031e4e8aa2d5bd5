/-
  Tapes in memory, and what the laws do with them: their size, copies, comparisons.
-/
import Derived.Test.YtcepjcnpokpdcaaGreatDoorGrpE
namespace Nt
open Go Go.RowKit Go.Deep Go.ChangeShapes Go.WideShapes
/-- a struct with a slice and a number lies in block b -/
def TpAt (w : World) (b : Nat) (t : TypeId) (A : Option Addr) (n c : Nat) (o : Int) : Prop := w.heap[b]? = some (.cells #[.slice A n c, .int .i64 o] t (0, 0))
section
variable {w w' : World} {b : Nat} {t : TypeId} {A : Option Addr} {n c : Nat} {o : Int}
theorem TpAt.c0 (h : TpAt w b t A n c o) : w.cell? ⟨b, 0, none⟩ = some (.slice A n c) := by rw [cell_of_row w b 0 _ t (0, 0) h]; rfl
theorem TpAt.c1 (h : TpAt w b t A n c o) : w.cell? ⟨b, 1, none⟩ = some (.int .i64 o) := by rw [cell_of_row w b 1 _ t (0, 0) h]; rfl
theorem TpAt.lt (h : TpAt w b t A n c o) : b < w.heap.size := by
  rcases Nat.lt_or_ge b w.heap.size with hlt | hge
  · exact hlt
  · unfold TpAt at h; rw [Array.getElem?_eq_none hge] at h; cases h
theorem TpAt.fz (h : TpAt w b t A n c o) (i : Nat) : w.frozen? ⟨b, i, none⟩ = false := frozen_of_row w b i _ t h
theorem TpAt.on (h : TpAt w b t A n c o) (hb : Below w.heap.size w w') : TpAt w' b t A n c o := (hb.block b h.lt).trans h
theorem TpAt.new (w : World) (t : TypeId) (A : Option Addr) (n c : Nat) (o : Int) : TpAt (w.alloc (.cells #[.slice A n c, .int .i64 o] t)) w.heap.size t A n c o := heap_alloc_new w _
theorem TpAt.set0 (h : TpAt w b t A n c o) (A' : Option Addr) (n' c' : Nat) : TpAt (w.setCell ⟨b, 0, none⟩ (.slice A' n' c')) b t A' n' c' o := by
  have := heap_setCell_same w b 0 _ t (.slice A' n' c') h
  unfold TpAt
  rw [this]
  rfl
theorem TpAt.set1 (h : TpAt w b t A n c o) (o' : Int) : TpAt (w.setCell ⟨b, 1, none⟩ (.int .i64 o')) b t A n c o' := by
  have := heap_setCell_same w b 1 _ t (.int .i64 o') h
  unfold TpAt
  rw [this]
  rfl
theorem TpAt.past {g : Nat} (h : TpAt w b t A n c o) (hg : w.grownBy w' (some g)) (hne : b ≠ g) : TpAt w' b t A n c o :=
  (hg.block b h.lt (fun e => hne (by injection e))).trans h
end
theorem grown2s {A B C : World} {r : Nat} (h : A.grownBy B (some r)) (k : B.grownBy C (some r)) : A.grownBy C (some r) :=
  ⟨k.os.trans h.os, k.tape.trans h.tape, k.output.trans h.output, Nat.le_trans h.size k.size, fun i hi hne => (k.block i (Nat.lt_of_lt_of_le hi h.size) hne).trans (h.block i hi hne)⟩
theorem setAt_grown (w : World) (b i : Nat) (u : Value) : w.grownBy (w.setCell ⟨b, i, none⟩ u) (some b) := grown_set (World.grownBy.refl _ _) _
/-- what a row of the claim tells of a tape that came in -/
theorem open_tape {H : Type} {enc : TypeId × Value → H} {P : Program} {w : World} {base : Nat} {held : Bool} {r : Reach} {b0 : Nat} {s e : TypeId} {g0 g1 f0 f1 f2 f3 : Field} {v : Value} {d : DataW H} {p : List MemPlace}
    (hs : P.underlying s = some (.struct #[g0, g1])) (hones : oneCellFields P #[g0, g1] = true) (cs : P.cellsOf s = 2) (ht : P.underlying g0.type = some (.slice e)) (hi : P.underlying g1.type = some (.int .i64)) (he : P.underlying e = some (.struct #[f0, f1, f2, f3])) (hone : oneCellFields P #[f0, f1, f2, f3] = true) (ce : P.cellsOf e = 4)
    (i0 : P.underlying f0.type = some (.int .i64)) (i1 : P.underlying f1.type = some (.int .i64)) (i2 : P.underlying f2.type = some (.int .i64)) (i3 : P.underlying f3.type = some (.int .i64))
    (hv : Value.okWide P w r b0 s v) (h : DataW.Trod enc P w base (fun _ => true) held s v d p) :
    ∃ A n c ns o, v = .agg #[.slice A n c, .int .i64 o] ∧ RdN w (· < w.heap.size) A n c ns ∧ n ≤ 9223372036854775807 := by
  obtain ⟨c0, c1, y0, y1, m, rfl, _, _, h0, h1⟩ := Joins.open_agg2 hs hones cs hv h
  obtain ⟨A, l, c, e1⟩ := Joins.slice_form ht h0
  injection e1 with e1 _
  subst e1
  obtain ⟨ns, hr, hn⟩ := open_nodes ht he hone ce i0 i1 i2 i3 h0
  obtain ⟨o, e2, _⟩ := DataW.trod_int hi h1
  simp at e2
  subst e2
  exact ⟨A, l, c, ns, o, rfl, hr, hn⟩
end Nt
namespace Go.Proofs.YtcepjcnpokpdcaaGreatDoor
open Go Go.RowKit Nt

theorem szTape_any (A : Option Addr) (n c : Nat) (o left : Int) (w : World) (hn : n ≤ 9223372036854775807) (h0 : 0 ≤ left) (h1 : left ≤ 1048576) :
    Calls Tryz.prog 37 #[.agg #[.slice A n c, .int .i64 o], .int .i64 left] w fun e w' => e = .returned (.int .i64 (szN left n)) ∧ Below w.heap.size w w' := by
  have HB1 := Lib.hid (below_one w (.cells #[.slice A n c, .int .i64 o] 59))
  by_cases hb : left < n
  · have HV : Hid (szN left n = -1) := by show _ = _; unfold szN; rw [if_pos hb]
    go_enter Tryz.func37, Tryz.ntmps37
    go_wp2_with fail
    refine (szNodeS_any A n c left _ hn h0 h1).mono ?_
    rintro e v1 ⟨rfl, rfl⟩
    rw [HV.out]
    go_wp2
    go_ret
    exact ⟨ret_int HV.out.symm, HB1.out⟩
  · have HV : Hid (szN left n = left - n) := by show _ = _; unfold szN; rw [if_neg hb]
    have hd : 0 ≤ left - (n : Int) := by omega
    go_enter Tryz.func37, Tryz.ntmps37
    go_wp2_with fail
    refine (szNodeS_any A n c left _ hn h0 h1).mono ?_
    rintro e v1 ⟨rfl, rfl⟩
    rw [HV.out]
    go_wp2
    go_ret
    exact ⟨ret_int HV.out.symm, HB1.out⟩

theorem retTape {fn : Func} {p : Tmp} {A : Option Addr} {n c : Nat} {o : Int} (h : fn.results = #[.cell p 63]) (tmps : Array Value) (w : World) (g : Nat) (hp : tmps.getD p undef = .pointer (some ⟨g, 0, none⟩)) (hr : TpAt w g 63 A n c o) :
    (results fn tmps).run Tryz.prog w = .ok (.agg #[.slice A n c, .int .i64 o]) w := results_cell_row h tmps w g _ _ _ _ hp hr Tryz.underlying63 rfl (by kernel_rfl)

set_option maxHeartbeats 1600000 in
theorem toTape_any (A : Option Addr) (n c : Nat) (ns : List Nd) (o : Int) (w : World) (hr : RdN w (· < w.heap.size) A n c ns) (hn : n ≤ 1048576) :
    Calls Tryz.prog 39 #[.agg #[.slice A n c, .int .i64 o]] w fun e w' => ∃ B d, e = .returned (.agg #[.slice B n d, .int .i64 o]) ∧ RdN w' (w.heap.size ≤ ·) B n d ns ∧ Below w.heap.size w w' := by
  have HR := Lib.hid hr
  clear hr
  go_enter Tryz.func39, Tryz.ntmps39
  go_wp2_with fail
  refine calls_atN (fun v => TpAt v w.heap.size 59 A n c o ∧ TpAt v (w.heap.size + 1) 63 none 0 0 0 ∧ TpAt v (w.heap.size + 1 + 1) 63 none 0 0 0 ∧ Below w.heap.size w v ∧ w.heap.size + 3 ≤ v.heap.size) ⟨?_, ?_, ?_, ?_, by simp⟩ ?_
  · exact ((TpAt.new w 59 A n c o).on (below_one _ _)).on (below_one _ _)
  · have h := (TpAt.new (w.alloc (.cells #[.slice A n c, .int .i64 o] 59)) 63 none 0 0 0).on (below_one _ (.cells #[.slice none 0 0, .int .i64 0] 63))
    rw [World.size_alloc] at h
    exact h
  · have h := TpAt.new ((w.alloc (.cells #[.slice A n c, .int .i64 o] 59)).alloc (.cells #[.slice none 0 0, .int .i64 0] 63)) 63 none 0 0 0
    rw [World.size_alloc, World.size_alloc] at h
    exact h
  · exact (((Below.refl _ _).alloc (Nat.le_refl _) _).alloc (by simp) _).alloc (by simp; omega) _
  rintro v1 ⟨p0, p1, p2, pB, pz⟩
  refine (toNodeS_any A n c ns v1 ((HR.out.below pB).mono fun _ h _ => Nat.lt_of_lt_of_le h pB.size) hn).mono ?_
  rintro e v2 ⟨B, d, rfl, hrd, bb⟩
  have q0 := p0.on bb
  have q1 := p1.on bb
  have q2 := p2.on bb
  have hB2 := belowN_on pB bb
  have c0 := q0.c1
  have c2 := q2.c0
  have c2' := q2.c1
  have f2 := q2.fz 0
  have f2' := q2.fz 1
  have c1 := q1.c0
  have c1' := q1.c1
  have f1 := q1.fz 0
  have f1' := q1.fz 1
  have k2 := grown2s (setAt_grown v2 (w.heap.size + 1 + 1) 0 (.slice B n d)) (setAt_grown _ (w.heap.size + 1 + 1) 1 (.int .i64 o))
  have k1 := grown2s (setAt_grown ((v2.setCell ⟨w.heap.size + 1 + 1, 0, none⟩ (.slice B n d)).setCell ⟨w.heap.size + 1 + 1, 1, none⟩ (.int .i64 o)) (w.heap.size + 1) 0 (.slice B n d)) (setAt_grown _ (w.heap.size + 1) 1 (.int .i64 o))
  have r1 := ((q1.past k2 (by omega)).set0 B n d).set1 o
  have hrd2 := hrd.keep (Nat.le_trans k2.size k1.size) (fun b hb hl => (k1.block b (Nat.lt_of_lt_of_le hl k2.size) (fun e => by injection e with e; omega)).trans (k2.block b hl (fun e => by injection e with e; omega)))
  replace hrd2 := hrd2.mono (Q := (w.heap.size ≤ ·)) fun b hb _ => by omega
  have hBf := (((hB2.setCell (p := ⟨w.heap.size + 1 + 1, 0, none⟩) (by show w.heap.size ≤ w.heap.size + 1 + 1; omega) (.slice B n d)).setCell (p := ⟨w.heap.size + 1 + 1, 1, none⟩) (by show w.heap.size ≤ w.heap.size + 1 + 1; omega) (.int .i64 o)).setCell (p := ⟨w.heap.size + 1, 0, none⟩) (by show w.heap.size ≤ w.heap.size + 1; omega) (.slice B n d)).setCell (p := ⟨w.heap.size + 1, 1, none⟩) (by show w.heap.size ≤ w.heap.size + 1; omega) (.int .i64 o)
  have HR1 := Lib.hid r1
  have HRD := Lib.hid hrd2
  have HBF := Lib.hid hBf
  clear p0 p1 p2 pB q0 q1 q2 hrd bb k1 k2 r1 hrd2 hBf hB2
  go_wp2
  exact bodyPost_ret (retTape rfl _ _ (w.heap.size + 1) rfl HR1.out) rfl ⟨B, d, rfl, HRD.out, HBF.out⟩

set_option maxHeartbeats 800000 in
theorem eqTape_same (A B : Option Addr) (n c d : Nat) (ns : List Nd) (o : Int) (P Q : Nat → Prop) (w : World) (hr : RdN w P A n c ns) (hr' : RdN w Q B n d ns) (hn : n ≤ 1048576) :
    Calls Tryz.prog 41 #[.agg #[.slice A n c, .int .i64 o], .agg #[.slice B n d, .int .i64 o]] w fun e w' => e = .returned (.bool true) ∧ Below w.heap.size w w' := by
  have HR := Lib.hid hr
  have HR' := Lib.hid hr'
  have HB0 := Lib.hid (((Below.refl w.heap.size w).alloc (Nat.le_refl _) (.cells #[.slice A n c, .int .i64 o] 63)).alloc (by simp) (.cells #[.slice B n d, .int .i64 o] 63))
  have HTa : Hid (TpAt ((w.alloc (.cells #[.slice A n c, .int .i64 o] 63)).alloc (.cells #[.slice B n d, .int .i64 o] 63)) w.heap.size 63 A n c o) := (TpAt.new _ _ _ _ _ _).on (below_one _ _)
  have HTb : Hid (TpAt ((w.alloc (.cells #[.slice A n c, .int .i64 o] 63)).alloc (.cells #[.slice B n d, .int .i64 o] 63)) (w.heap.size + 1) 63 B n d o) := by
    have h := TpAt.new (w.alloc (.cells #[.slice A n c, .int .i64 o] 63)) 63 B n d o
    rwa [World.size_alloc] at h
  have hoo : (o != o) = false := by simp
  clear hr hr'
  go_enter Tryz.func41, Tryz.ntmps41
  go_wp2_with fail
  refine calls_atN (fun v => TpAt v w.heap.size 63 A n c o ∧ TpAt v (w.heap.size + 1) 63 B n d o ∧ Below w.heap.size w v) ⟨HTa.out, HTb.out, HB0.out⟩ ?_
  rintro v1 ⟨pa, pb, pB⟩
  refine (eqNodeS_same A B n c d ns P Q v1 (HR.out.on pB) (HR'.out.on pB) hn).mono ?_
  rintro e v2 ⟨rfl, bb⟩
  have HB2 := Lib.hid (belowN_on pB bb)
  have c0 := (pa.on bb).c1
  have c1 := (pb.on bb).c1
  clear pa pb pB bb
  go_wp2
  go_ret
  exact ⟨rfl, HB2.out⟩
end Go.Proofs.YtcepjcnpokpdcaaGreatDoor
