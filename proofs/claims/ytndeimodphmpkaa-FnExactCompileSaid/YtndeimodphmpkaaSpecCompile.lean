/-
  Compile of the model.
-/
import Derived.Test.YtndeimodphmpkaaSpecTape
import Derived.Test.YtndeimodphmpkaaTapeCopy
import Derived.Test.YtndeimodphmpkaaGrowRow
import Derived.Test.YtndeimodphmpkaaCompMath
import Derived.Test.YtndeimodphmpkaaCompLast
import Derived.Test.YtndeimodphmpkaaMine
import Derived.Test.YtndeimodphmpkaaGrpE
import Derived.Test.YtndeimodphmpkaaNewSteps
import Derived.Test.YtndeimodphmpkaaImplCompile
namespace Nt
open Go Go.RowKit
theorem NodeAt.put1 {w : World} {b : Nat} {t : TypeId} {op x y n : Int} (h : NodeAt w b t op x y n) (z : Int) : NodeAt (w.setCell ⟨b, 1, none⟩ (.int .i64 z)) b t op z y n := by
  have := heap_setCell_same w b 1 _ t (.int .i64 z) h
  unfold NodeAt
  rw [this]
  rfl
theorem NodeAt.put2 {w : World} {b : Nat} {t : TypeId} {op x y n : Int} (h : NodeAt w b t op x y n) (z : Int) : NodeAt (w.setCell ⟨b, 2, none⟩ (.int .i64 z)) b t op x z n := by
  have := heap_setCell_same w b 2 _ t (.int .i64 z) h
  unfold NodeAt
  rw [this]
  rfl
section
variable {w w' : World} {base b size n c : Nat} {t tr : TypeId} {A : Option Addr} {xs : List Value} {cs : Array Value}
theorem own_row (h : w.ownsRow base t size (.slice A n c) n xs) : ∀ g, (Value.slice A n c).ownBlock = some g → base ≤ g ∧ g < w.heap.size ∧ ∃ cs, w.heap[g]? = some (.cells cs t (0, 0)) := fun g e => by
  rcases h.2 with ⟨e1, _⟩ | ⟨g', cap, cur, e1, hb, hh, _⟩
  · rw [e1] at e; cases e
  · rw [e1] at e
    have e : g' = g := by simpa [Value.ownBlock] using e
    subst e
    exact ⟨hb, (Array.getElem?_eq_some_iff.1 hh).1, cur, hh⟩
theorem own_oth (h : w.ownsRow base t size (.slice A n c) n xs) (hr : w.heap[b]? = some (.cells cs tr (0, 0))) (hne : t ≠ tr) : (Value.slice A n c).ownBlock ≠ some b := fun e => by
  obtain ⟨_, _, cs', hh⟩ := own_row h b e
  rw [hr] at hh
  injection hh with hh
  injection hh with _ h2 _
  exact hne h2.symm
theorem own_on (h : w.ownsRow base t size (.slice A n c) n xs) (hb : Below w.heap.size w w') : w'.ownsRow base t size (.slice A n c) n xs := by
  refine h.kept (row := none) ⟨hb.os, hb.tape, hb.output, hb.size, fun k hk _ => hb.block k hk⟩ ?_
  cases hA : (Value.slice A n c).ownBlock with
  | none => exact .inl rfl
  | some g => exact .inr (by simp)
theorem own_at0 (h : w.ownsRow base t size (.slice A n c) n xs) (hn : 0 < n) : ∃ g, A = some ⟨g, 0, none⟩ ∧ g < w.heap.size ∧ n ≤ c := by
  rcases h.2 with ⟨_, h0⟩ | ⟨g, cap, cur, e', hb, hh, hc, _⟩
  · omega
  · injection e' with e1 e2 e3
    exact ⟨g, e1, (Array.getElem?_eq_some_iff.1 hh).1, by omega⟩
end
/-- the memory of Compile of the model: the expression, what is answered, the tape, its steps, where each node's step is -/
structure CW (tE tT tN tI : TypeId) (w : World) (A : Option Addr) (n c : Nat) (V : Option Addr) (m cv : Nat) (ss : List Nd) (V2 : Option Addr) (k c2 : Nat) (az : List Int) (wr : World) : Prop where
  ex : SlAt wr w.heap.size tE A n c
  re : TpAt wr (w.heap.size + 1) tT none 0 0 0
  tp : TpAt wr (w.heap.size + 3) tT V m cv 0
  st : OwnN wr (w.heap.size + 2) tN V m cv ss
  at_ : wr.ownsRow (w.heap.size + 2) tI 1 (.slice V2 k c2) k (az.map (Value.int .i64))
  bl : Below w.heap.size w wr
section
variable {tE tT tN tI : TypeId} {w : World} {A : Option Addr} {n c : Nat} {V : Option Addr} {m cv : Nat} {ss : List Nd} {V2 : Option Addr} {k c2 : Nat} {az : List Int} {wr wr' : World}
theorem CW.on (h : CW tE tT tN tI w A n c V m cv ss V2 k c2 az wr) (hb : Below wr.heap.size wr wr') : CW tE tT tN tI w A n c V m cv ss V2 k c2 az wr' :=
  ⟨h.ex.on hb, h.re.on hb, h.tp.on hb, h.st.on hb, own_on h.at_ hb, belowN_on h.bl hb⟩
/-- a step more -/
theorem CW.step {g' cap' : Nat} {w3 : World} (h : CW tE tT tN tI w A n c V m cv ss V2 k c2 az wr) (x : Nd) {o : Obj} (hg : (wr.alloc o).grownBy w3 (Value.slice V m cv).ownBlock)
    (ho : w3.ownsRow (w.heap.size + 2) tN 4 (.slice (some ⟨g', 0, none⟩) (m + 1) cap') (m + 1) (flatN ss ++ nodeCs x)) (h1 : tN ≠ tT) (h2 : tN ≠ tI) (h3 : tN ≠ tE) (h4 : tI ≠ tT) :
    TpAt w3 (w.heap.size + 3) tT V m cv 0 ∧ CW tE tT tN tI w A n c (some ⟨g', 0, none⟩) (m + 1) cap' (ss ++ [x]) V2 k c2 az (w3.setCell ⟨w.heap.size + 3, 0, none⟩ (.slice (some ⟨g', 0, none⟩) (m + 1) cap')) := by
  have hW := h.on (below_one wr o)
  have hbox : ∀ {b : Nat} {cs : Array Value} {tr : TypeId}, (wr.alloc o).heap[b]? = some (.cells cs tr (0, 0)) → tN ≠ tr → w3.heap[b]? = some (.cells cs tr (0, 0)) := fun hr hne => (hg.block _ (Array.getElem?_eq_some_iff.1 hr).1 (fun e => own_oth hW.st hr hne e.symm)).trans hr
  have ex3 : SlAt w3 w.heap.size tE A n c := hbox hW.ex h3
  have re3 : TpAt w3 (w.heap.size + 1) tT none 0 0 0 := hbox hW.re h1
  have tp3 : TpAt w3 (w.heap.size + 3) tT V m cv 0 := hbox hW.tp h1
  have at3 : w3.ownsRow (w.heap.size + 2) tI 1 (.slice V2 k c2) k (az.map (Value.int .i64)) := hW.at_.kept hg (by
    cases e2 : (Value.slice V2 k c2).ownBlock with
    | none => exact .inl rfl
    | some g2 =>
      obtain ⟨_, _, cs, hh⟩ := own_row hW.at_ g2 e2
      exact .inr (fun e => own_oth hW.st hh h2 e.symm))
  have hk := setAt_grown w3 (w.heap.size + 3) 0 (.slice (some ⟨g', 0, none⟩) (m + 1) cap')
  refine ⟨tp3, (hk.block _ ex3.lt (fun e => by injection e with e; omega)).trans ex3, (hk.block _ re3.lt (fun e => by injection e with e; omega)).trans re3, tp3.set0 _ _ _, ?_, at3.kept hk (.inr (own_oth at3 tp3 h4)), ?_⟩
  · have e : flatN (ss ++ [x]) = flatN ss ++ nodeCs x := by simp [flatN]
    unfold OwnN
    rw [e]
    exact World.ownsRow.kept ho hk (.inr (own_oth ho tp3 h1))
  · have hB3 : Below w.heap.size w w3 := hW.bl.trans ⟨hg.os, hg.tape, hg.output, hg.size, fun i hi => hg.block i (by have := hW.bl.size; omega) (fun e => by have := (own_row hW.st i e.symm).1; omega)⟩
    exact hB3.setCell (p := ⟨w.heap.size + 3, 0, none⟩) (by show w.heap.size ≤ w.heap.size + 3; omega) _
/-- a place more -/
theorem CW.place {g' cap' : Nat} {w5 : World} (h : CW tE tT tN tI w A n c V m cv ss V2 k c2 az wr) (z : Int) {o : Obj} (hg : (wr.alloc o).grownBy w5 (Value.slice V2 k c2).ownBlock)
    (ho : w5.ownsRow (w.heap.size + 2) tI 1 (.slice (some ⟨g', 0, none⟩) (k + 1) cap') (k + 1) (az.map (Value.int .i64) ++ [.int .i64 z])) (h2 : tN ≠ tI) (h3 : tI ≠ tE) (h4 : tI ≠ tT) :
    CW tE tT tN tI w A n c V m cv ss (some ⟨g', 0, none⟩) (k + 1) cap' (az ++ [z]) w5 := by
  have hW := h.on (below_one wr o)
  have hbox : ∀ {b : Nat} {cs : Array Value} {tr : TypeId}, (wr.alloc o).heap[b]? = some (.cells cs tr (0, 0)) → tI ≠ tr → w5.heap[b]? = some (.cells cs tr (0, 0)) := fun hr hne => (hg.block _ (Array.getElem?_eq_some_iff.1 hr).1 (fun e => own_oth hW.at_ hr hne e.symm)).trans hr
  refine ⟨hbox hW.ex h3, hbox hW.re h4, hbox hW.tp h4, hW.st.kept hg (by
    cases e2 : (Value.slice V m cv).ownBlock with
    | none => exact .inl rfl
    | some g2 =>
      obtain ⟨_, _, cs, hh⟩ := own_row hW.st g2 e2
      exact .inr (fun e => own_oth hW.at_ hh (Ne.symm h2) e.symm)), by rw [List.map_append]; exact ho, ?_⟩
  exact hW.bl.trans ⟨hg.os, hg.tape, hg.output, hg.size, fun i hi => hg.block i (by have := hW.bl.size; omega) (fun e => by have := (own_row hW.at_ i e.symm).1; omega)⟩
end
theorem map_get (az : List Int) (i : Nat) (h : i < az.length) : (az.map (Value.int .i64))[i]? = some (.int .i64 (az.getD i 0)) := by simp [List.getD, h]
theorem two_not_one {op : Int} (h : two op = true) : one op = false := by
  unfold two at h
  unfold one
  simp only [Bool.and_eq_true, decide_eq_true_eq] at h
  simp
  omega
theorem comp_take_all (ns : List Nd) : comp (ns.take ns.length) = comp ns := by rw [List.take_length]
end Nt
namespace Go.Proofs.Ytndeimodphmpkaa
open Go Go.RowKit Nt
abbrev CWt (w : World) (A : Option Addr) (n c : Nat) (V : Option Addr) (m cv : Nat) (ss : List Nd) (V2 : Option Addr) (k c2 : Nat) (az : List Int) (wr : World) : Prop := CW 25 45 30 3 w A n c V m cv ss V2 k c2 az wr

set_option maxRecDepth 20000 in
set_option maxHeartbeats 6400000 in
theorem l07Compile_any (A : Option Addr) (n c : Nat) (ns : List Nd) (P : Nat → Prop) (w : World) (hr : RdN w P A n c ns) (hok : okE ns = true) :
    Calls Try.prog 46 #[.agg #[.slice A n c]] w fun e w' => Below w.heap.size w w' ∧ ∃ V cv, e = .returned (.agg #[.slice V (comp ns).1.length cv, .int .i64 (((comp ns).1.length : Int) - 1)]) ∧ RdN w' (w.heap.size ≤ ·) V (comp ns).1.length cv (comp ns).1 := by
  have HL := Lib.hid hr.len
  have HR := Lib.hid hr.low
  have HST := Lib.hid (okE_steps hok)
  have HLAST := Lib.hid (comp_last hok)
  have h60 : 1 ≤ n ∧ n ≤ 60 := by have := okE_out hok; have := HL.out; omega
  clear hr hok
  obtain ⟨i0, hi, hz0, hz1, hz2⟩ := info_parts infoNode
  obtain ⟨j0, hj, hy0, hy1, hy2⟩ := info_parts infoInt4
  have HI := Lib.hid (And.intro hi (And.intro hz0 (And.intro hz1 hz2)))
  have HJ := Lib.hid (And.intro hj (And.intro hy0 (And.intro hy1 hy2)))
  clear hi hz0 hz1 hz2 hj hy0 hy1 hy2
  have HC0 : Hid (CWt w A n c (some ⟨w.heap.size + 2, 0, none⟩) 0 0 [] (some ⟨w.heap.size + 4, 0, none⟩) 0 0 [] (((((w.alloc (.cells #[.slice A n c] 25)).alloc (.cells #[.slice none 0 0, .int .i64 0] 45)).alloc (.cells #[] 30)).alloc (.cells #[.slice (some ⟨w.heap.size + 2, 0, none⟩) 0 0, .int .i64 0] 45)).alloc (.cells #[] 3))) := by
    obtain ⟨W1, hW1⟩ : ∃ W, w.alloc (.cells #[.slice A n c] 25) = W := ⟨_, rfl⟩
    have a1 : SlAt W1 w.heap.size 25 A n c := by rw [← hW1]; exact SlAt.new _ _ _ _ _
    have b1 : Below w.heap.size w W1 := by rw [← hW1]; exact below_one _ _
    have s1 : W1.heap.size = w.heap.size + 1 := by rw [← hW1, World.size_alloc]
    obtain ⟨W2, hW2⟩ : ∃ W, W1.alloc (.cells #[.slice none 0 0, .int .i64 0] 45) = W := ⟨_, rfl⟩
    have n2 : Below W1.heap.size W1 W2 := by rw [← hW2]; exact below_one _ _
    have a2 : TpAt W2 (w.heap.size + 1) 45 none 0 0 0 := by rw [← hW2, ← s1]; exact TpAt.new _ _ _ _ _ _
    have s2 : W2.heap.size = w.heap.size + 2 := by rw [← hW2, World.size_alloc, s1]
    obtain ⟨W3, hW3⟩ : ∃ W, W2.alloc (.cells #[] 30) = W := ⟨_, rfl⟩
    have n3 : Below W2.heap.size W2 W3 := by rw [← hW3]; exact below_one _ _
    have a3 : OwnN W3 (w.heap.size + 2) 30 (some ⟨w.heap.size + 2, 0, none⟩) 0 0 [] := by rw [← hW3, ← s2]; exact OwnN.nil _ _ _ (Nat.le_refl _)
    have s3 : W3.heap.size = w.heap.size + 3 := by rw [← hW3, World.size_alloc, s2]
    obtain ⟨W4, hW4⟩ : ∃ W, W3.alloc (.cells #[.slice (some ⟨w.heap.size + 2, 0, none⟩) 0 0, .int .i64 0] 45) = W := ⟨_, rfl⟩
    have n4 : Below W3.heap.size W3 W4 := by rw [← hW4]; exact below_one _ _
    have a4 : TpAt W4 (w.heap.size + 3) 45 (some ⟨w.heap.size + 2, 0, none⟩) 0 0 0 := by rw [← hW4, ← s3]; exact TpAt.new _ _ _ _ _ _
    have s4 : W4.heap.size = w.heap.size + 4 := by rw [← hW4, World.size_alloc, s3]
    obtain ⟨W5, hW5⟩ : ∃ W, W4.alloc (.cells #[] 3) = W := ⟨_, rfl⟩
    have n5 : Below W4.heap.size W4 W5 := by rw [← hW5]; exact below_one _ _
    have a5 : W5.ownsRow (w.heap.size + 2) 3 1 (.slice (some ⟨w.heap.size + 4, 0, none⟩) 0 0) 0 [] := by rw [← hW5, ← s4]; exact World.ownsRow_lit W4 #[] 0 (by omega) (by decide) rfl
    rw [hW1, hW2, hW3, hW4, hW5]
    exact ⟨(((a1.on n2).on n3).on n4).on n5, (((a2.on n3).on n4)).on n5, a4.on n5, (a3.on n4).on n5, a5, belowN_on (belowN_on (belowN_on (belowN_on b1 n2) n3) n4) n5⟩
  have hsz : (w.alloc (.cells #[.slice A n c] 25)).heap.size = w.heap.size + 1 := World.size_alloc _ _
  go_enter Try.func46, Try.ntmps46
  go_wp2
  go_loopw [4, 5] (fun a i wr => ∃ (k m : Nat) (V : Option Addr) (cv : Nat) (V2 : Option Addr) (c2 : Nat), k ≤ n ∧ m ≤ k ∧ a = .slice V2 k c2 ∧ i = .int .i64 (k : Int) ∧ Hid (CWt w A n c V m cv (comp (ns.take k)).1 V2 k c2 (comp (ns.take k)).2 wr)) (fun _ i _ => n - (intOf i).toNat)
  case atStart => exact ⟨0, 0, _, _, _, _, Nat.zero_le _, Nat.le_refl _, rfl, rfl, by rw [List.take_zero]; exact HC0⟩
  case round =>
    clear HC0
    obtain ⟨k, m, V, cv, V2, c2, hk, hmk, rfl, rfl, HC⟩ := hrel
    have s0 := HC.out.ex.c0
    by_cases hlt : k < n
    · have hlen := HL.out
      obtain ⟨bb, o, rfl, hP, _, hc⟩ := HR.out.at_ (by omega)
      have e1 := (hc k hlt).keep (HC.out.bl.block bb hP)
      have ok := comp_ok ns k (by omega)
      have ek := comp_take ns k (by omega)
      have hsx := HST.out k (by omega)
      obtain ⟨x, hx⟩ : ∃ x, ns.getD k nd0 = x := ⟨_, rfl⟩
      rw [hx] at ek hsx e1
      obtain ⟨i1, i2, i3, i4⟩ := ok
      obtain ⟨S, hSe⟩ : ∃ S, comp (ns.take k) = S := ⟨_, rfl⟩
      rw [hSe] at HC ek i1 i2 i3 i4
      obtain ⟨ss, az⟩ := S
      obtain ⟨op, a, b, nn⟩ := x
      dsimp only at HC i1 i2 i3 i4
      obtain ⟨kk1, kk2⟩ := step_kids hsx
      unfold cstep at ek
      dsimp only at ek
      have hmss := HC.out.st.len
      have hlb : bb < wr.heap.size := Nat.lt_of_lt_of_le hP HC.out.bl.size
      obtain ⟨q0, q1, q2, q3⟩ := e1
      dsimp only at q0 q1 q2 q3
      have hkn : (k : Int) < n := by omega
      have HN0 := Lib.hid (NodeAt.new wr 30 op a b nn)
      have hsw : (wr.alloc (.cells #[.int .i64 op, .int .i64 a, .int .i64 b, .int .i64 nn] 30)).heap.size = wr.heap.size + 1 := World.size_alloc _ _
      have HBA := Lib.hid (below_one wr (.cells #[.int .i64 op, .int .i64 a, .int .i64 b, .int .i64 nn] 30))
      have HLA := Lib.hid i1
      have HMS := Lib.hid hmss
      clear hc i1 i2 i3 i4 hSe hlen hmss hx

      go_wp2_with fail
      refine calls_atN (fun v => NodeAt v wr.heap.size 30 op a b nn ∧ Below wr.heap.size wr v ∧ wr.heap.size < v.heap.size) ⟨HN0.out, HBA.out, by simp⟩ ?_
      rintro v0 ⟨pN, pB, pz0⟩
      have HNV := Lib.hid pN
      have HBV := Lib.hid pB
      clear pN pB HN0 HBA hsw q0 q1 q2 q3 s0
      have n0 := HNV.out.c0
      refine (specTwo_any op v0).mono ?_
      rintro e v0' ⟨rfl, rfl⟩
      cases h2 : two op with
      | true =>
        have h1 := two_not_one h2
        obtain ⟨ka0, ka1⟩ := kk1 (by rw [h2]; rfl)
        obtain ⟨kb0, kb1⟩ := kk2 h2
        obtain ⟨a', rfl⟩ : ∃ a' : Nat, a = a' := ⟨a.toNat, by omega⟩
        obtain ⟨b', rfl⟩ : ∃ b' : Nat, b = b' := ⟨b.toNat, by omega⟩
        obtain ⟨g2, rfl, hg2, hkc⟩ := own_at0 HC.out.at_ (by omega)
        have hla : a' < k := by omega
        have hlb' : b' < k := by omega
        have ca : v0.cell? ⟨g2, a', none⟩ = some (.int .i64 (az.getD a' 0)) := ((HC.out.on HBV.out).at_.cellAt a' (by omega)).trans (map_get az a' (by rw [HLA.out]; exact hla))
        have hB1 := HBV.out.setCell (p := ⟨wr.heap.size, 1, none⟩) (Nat.le_refl _) (.int .i64 (az.getD a' 0))
        have hB2 := hB1.setCell (p := ⟨wr.heap.size, 2, none⟩) (Nat.le_refl _) (.int .i64 (az.getD b' 0))
        have cb : (v0.setCell ⟨wr.heap.size, 1, none⟩ (.int .i64 (az.getD a' 0))).cell? ⟨g2, b', none⟩ = some (.int .i64 (az.getD b' 0)) := ((HC.out.on hB1).at_.cellAt b' (by omega)).trans (map_get az b' (by rw [HLA.out]; exact hlb'))
        have m1 := HNV.out.put1 (az.getD a' 0)
        have m2 := m1.put2 (az.getD b' 0)
        have hz1 : wr.heap.size < ((v0.setCell ⟨wr.heap.size, 1, none⟩ (.int .i64 (az.getD a' 0))).setCell ⟨wr.heap.size, 2, none⟩ (.int .i64 (az.getD b' 0))).heap.size := m2.lt
        have hCW := HC.out.on hB2
        have h1E := h1
        have HEK : Hid (comp (ns.take (k + 1)) = if findN ss (op, (az.getD a' 0), (az.getD b' 0), nn) ss.length < 0 then (ss ++ [(op, (az.getD a' 0), (az.getD b' 0), nn)], az ++ [(ss.length : Int)]) else (ss, az ++ [findN ss (op, (az.getD a' 0), (az.getD b' 0), nn) ss.length])) := by
          show _ = _
          rw [ek, show wired az (op, (a' : Int), (b' : Int), nn) = (op, (az.getD a' 0), (az.getD b' 0), nn) from by unfold wired; simp [h2, h1E]]
        clear ek
        generalize az.getD a' 0 = y1 at *
        generalize az.getD b' 0 = y2 at *
        have HM2 := Lib.hid m2
        have HCW := Lib.hid hCW
        have HZ1 := Lib.hid hz1
        have f1 := HNV.out.fz 1
        have c1 := HNV.out.c1
        have u0 := m2.c0
        have u2 := m1.c2
        have f2 := m1.fz 2
        clear m1 m2 hCW hz1 hB1 hB2 kk1 kk2
        go_wp2_with fail
        clear f1 c1 u0 u2 f2 ca cb n0
        refine calls_atN (fun v => NodeAt v wr.heap.size 30 op y1 y2 nn ∧ CWt w (some ⟨bb, o, none⟩) n c V m cv ss (some ⟨g2, 0, none⟩) k c2 az v ∧ wr.heap.size < v.heap.size) ⟨HM2.out, HCW.out, HZ1.out⟩ ?_
        rintro v1 ⟨pN, pC, pz⟩
        have HN1 := Lib.hid pN
        have HC2 := Lib.hid pC
        have HPZ := Lib.hid pz
        clear pN pC pz HM2 HCW HZ1 HNV
        refine (specOne_any op v1).mono ?_
        rintro e v1' ⟨rfl, rfl⟩
        rw [h1]
        have n0 := (HN1.out).c0
        have n1 := (HN1.out).c1
        have n2 := (HN1.out).c2
        have n3 := (HN1.out).c3
        have t0 := (HC2.out).tp.c0
        go_wp2_with fail
        clear n0 n1 n2 n3 t0
        refine calls_atN (fun v => NodeAt v wr.heap.size 30 op y1 y2 nn ∧ CWt w (some ⟨bb, o, none⟩) n c V m cv ss (some ⟨g2, 0, none⟩) k c2 az v ∧ wr.heap.size < v.heap.size) ⟨HN1.out, HC2.out, HPZ.out⟩ ?_
        rintro v2 ⟨pN, pC, pz⟩
        refine (l07Find_any V m cv ss op y1 y2 nn _ v2 pC.st.rd (by omega)).mono ?_
        rintro e v3 ⟨rfl, bl⟩
        have HN := Lib.hid (pN.on bl)
        have HD := Lib.hid (pC.on bl)
        have hz3 := Nat.lt_of_lt_of_le pz bl.size
        have hD2 : w.heap.size + 2 ≤ v3.heap.size := by have := HD.out.tp.lt; omega
        clear bl pN pC pz HC HBV
        obtain ⟨f, hf⟩ : ∃ f, findN ss (op, y1, y2, nn) m = f := ⟨_, rfl⟩
        rw [HMS.out, hf] at HEK
        rw [hf]
        have hfc : f < 0 ∨ (0 ≤ f ∧ f < m) := by rcases findN_cases ss (op, y1, y2, nn) m with ⟨q, _⟩ | ⟨j, q1, q2, _⟩ <;> omega
        clear hf
        rcases hfc with hmiss | ⟨hf0, hfm⟩
        · have HEK2 := Lib.hid (HEK.out.trans (if_pos hmiss))
          have n0 := HN.out.c0
          have n1 := HN.out.c1
          have n2 := HN.out.c2
          have n3 := HN.out.c3
          have t0 := HD.out.tp.c0
          clear HEK
          go_wp2_with (first
            | (at_builtin; refine wpList_append_own _ rfl _ _ 23 rfl (w.heap.size + 2) 30 i0 _ 4 32 Try.underlying23 HI.out.1 HI.out.2.1 HI.out.2.2.1 HI.out.2.2.2 rfl (by decide) _ m _ rfl (HD.out.st.alloc _) ⟨v3.heap.size, 0, none⟩ 1 1 [.int .i64 op, .int .i64 y1, .int .i64 y2, .int .i64 nn] rfl rfl (cells4 _ _ (op, y1, y2, nn)) (one4 _ _ _ _) (by unfold maxLen; omega) (by omega) (by simp; omega) ?_; intro v' w3 hown hgr _; obtain ⟨g', cap', rfl⟩ := ownsRow_succ hown; have hw5 : w.heap.size + 2 ≤ w3.heap.size := Nat.le_trans hD2 (Nat.le_trans (below_one _ _).size hgr.size); obtain ⟨tp3, cw4⟩ := HD.out.step (op, y1, y2, nn) hgr hown (by decide) (by decide) (by decide) (by decide); have y0 := tp3.c0; have yf := tp3.fz 0; have HE := Lib.hid cw4; clear hown hgr cw4 tp3 n0 n1 n2 n3 t0)
            | (at_builtin; refine wpList_append_own _ rfl _ _ 32 rfl (w.heap.size + 2) 3 j0 _ 1 8 Try.underlying32 HJ.out.1 HJ.out.2.1 HJ.out.2.2.1 HJ.out.2.2.2 rfl (by decide) _ k _ rfl (World.ownsRow.alloc HE.out.at_ _) ⟨w3.heap.size, 0, none⟩ 1 1 [.int .i64 (m : Int)] rfl rfl (one_new_at _ _ _ _ (World.size_setCell _ _ _)) (by simp [Value.oneCell']) (by unfold maxLen; omega) (by omega) (by simp; omega) ?_; intro v'' w6 hown2 hgr2 _; obtain ⟨g'', cap'', rfl⟩ := ownsRow_succ hown2; have HF := Lib.hid (HE.out.place (m : Int) hgr2 hown2 (by decide) (by decide) (by decide)); clear hown2 hgr2))
          go_roundw
          case rel => exact ⟨k + 1, m + 1, some ⟨g', 0, none⟩, cap', some ⟨g'', 0, none⟩, cap'', by omega, by omega, rfl, by go_num, by rw [HEK2.out]; exact HF⟩
          case measure => simp [intOf]; omega
        · have HEK2 := Lib.hid (HEK.out.trans (if_neg (by omega)))
          clear HEK HN
          have hnl : ¬ f < 0 := by omega
          go_wp2_with (at_builtin; refine wpList_append_own _ rfl _ _ 32 rfl (w.heap.size + 2) 3 j0 _ 1 8 Try.underlying32 HJ.out.1 HJ.out.2.1 HJ.out.2.2.1 HJ.out.2.2.2 rfl (by decide) _ k _ rfl (World.ownsRow.alloc HD.out.at_ _) ⟨v3.heap.size, 0, none⟩ 1 1 [.int .i64 f] rfl rfl (one_new _ _ _) (by simp [Value.oneCell']) (by unfold maxLen; omega) (by omega) (by simp; omega) ?_; intro v' w5 hown hgr _; obtain ⟨g', cap', rfl⟩ := ownsRow_succ hown; have HF := Lib.hid (HD.out.place f hgr hown (by decide) (by decide) (by decide)); clear hown hgr)
          go_roundw
          case rel => exact ⟨k + 1, m, V, cv, some ⟨g', 0, none⟩, cap', by omega, by omega, rfl, by go_num, by rw [HEK2.out]; exact HF⟩
          case measure => simp [intOf]; omega
      | false =>
        go_wp2_with fail
        refine (specOne_any op v0).mono ?_
        rintro e v1' ⟨rfl, rfl⟩
        cases h1 : one op with
        | true =>
          obtain ⟨ka0, ka1⟩ := kk1 (by rw [h1, Bool.or_true])
          obtain ⟨a', rfl⟩ : ∃ a' : Nat, a = a' := ⟨a.toNat, by omega⟩
          obtain ⟨g2, rfl, hg2, hkc⟩ := own_at0 HC.out.at_ (by omega)
          have hla : a' < k := by omega
          have ca : v0.cell? ⟨g2, a', none⟩ = some (.int .i64 (az.getD a' 0)) := ((HC.out.on HBV.out).at_.cellAt a' (by omega)).trans (map_get az a' (by rw [HLA.out]; exact hla))
          have hB1 := HBV.out.setCell (p := ⟨wr.heap.size, 1, none⟩) (Nat.le_refl _) (.int .i64 (az.getD a' 0))
          have m1 := HNV.out.put1 (az.getD a' 0)
          have hz1 : wr.heap.size < (v0.setCell ⟨wr.heap.size, 1, none⟩ (.int .i64 (az.getD a' 0))).heap.size := m1.lt
          have hCW := HC.out.on hB1
          have h1E := h1
          have HEK : Hid (comp (ns.take (k + 1)) = if findN ss (op, (az.getD a' 0), b, nn) ss.length < 0 then (ss ++ [(op, (az.getD a' 0), b, nn)], az ++ [(ss.length : Int)]) else (ss, az ++ [findN ss (op, (az.getD a' 0), b, nn) ss.length])) := by
            show _ = _
            rw [ek, show wired az (op, (a' : Int), b, nn) = (op, (az.getD a' 0), b, nn) from by unfold wired; simp [h2, h1E]]
          clear ek
          generalize az.getD a' 0 = y1 at *
          have HM2 := Lib.hid m1
          have HCW := Lib.hid hCW
          have HZ1 := Lib.hid hz1
          have f1 := HNV.out.fz 1
          have c1 := HNV.out.c1
          clear m1 hCW hz1 hB1 kk1 kk2
          clear n0
          have n0 := (HM2.out).c0
          have n1 := (HM2.out).c1
          have n2 := (HM2.out).c2
          have n3 := (HM2.out).c3
          have t0 := (HCW.out).tp.c0
          go_wp2_with fail
          clear n0 n1 n2 n3 t0 f1 c1 ca
          refine calls_atN (fun v => NodeAt v wr.heap.size 30 op y1 b nn ∧ CWt w (some ⟨bb, o, none⟩) n c V m cv ss (some ⟨g2, 0, none⟩) k c2 az v ∧ wr.heap.size < v.heap.size) ⟨HM2.out, HCW.out, HZ1.out⟩ ?_
          rintro v2 ⟨pN, pC, pz⟩
          refine (l07Find_any V m cv ss op y1 b nn _ v2 pC.st.rd (by omega)).mono ?_
          rintro e v3 ⟨rfl, bl⟩
          have HN := Lib.hid (pN.on bl)
          have HD := Lib.hid (pC.on bl)
          have hz3 := Nat.lt_of_lt_of_le pz bl.size
          have hD2 : w.heap.size + 2 ≤ v3.heap.size := by have := HD.out.tp.lt; omega
          clear bl pN pC pz HC HBV
          obtain ⟨f, hf⟩ : ∃ f, findN ss (op, y1, b, nn) m = f := ⟨_, rfl⟩
          rw [HMS.out, hf] at HEK
          rw [hf]
          have hfc : f < 0 ∨ (0 ≤ f ∧ f < m) := by rcases findN_cases ss (op, y1, b, nn) m with ⟨q, _⟩ | ⟨j, q1, q2, _⟩ <;> omega
          clear hf
          rcases hfc with hmiss | ⟨hf0, hfm⟩
          · have HEK2 := Lib.hid (HEK.out.trans (if_pos hmiss))
            have n0 := HN.out.c0
            have n1 := HN.out.c1
            have n2 := HN.out.c2
            have n3 := HN.out.c3
            have t0 := HD.out.tp.c0
            clear HEK
            go_wp2_with (first
              | (at_builtin; refine wpList_append_own _ rfl _ _ 23 rfl (w.heap.size + 2) 30 i0 _ 4 32 Try.underlying23 HI.out.1 HI.out.2.1 HI.out.2.2.1 HI.out.2.2.2 rfl (by decide) _ m _ rfl (HD.out.st.alloc _) ⟨v3.heap.size, 0, none⟩ 1 1 [.int .i64 op, .int .i64 y1, .int .i64 b, .int .i64 nn] rfl rfl (cells4 _ _ (op, y1, b, nn)) (one4 _ _ _ _) (by unfold maxLen; omega) (by omega) (by simp; omega) ?_; intro v' w3 hown hgr _; obtain ⟨g', cap', rfl⟩ := ownsRow_succ hown; have hw5 : w.heap.size + 2 ≤ w3.heap.size := Nat.le_trans hD2 (Nat.le_trans (below_one _ _).size hgr.size); obtain ⟨tp3, cw4⟩ := HD.out.step (op, y1, b, nn) hgr hown (by decide) (by decide) (by decide) (by decide); have y0 := tp3.c0; have yf := tp3.fz 0; have HE := Lib.hid cw4; clear hown hgr cw4 tp3 n0 n1 n2 n3 t0)
              | (at_builtin; refine wpList_append_own _ rfl _ _ 32 rfl (w.heap.size + 2) 3 j0 _ 1 8 Try.underlying32 HJ.out.1 HJ.out.2.1 HJ.out.2.2.1 HJ.out.2.2.2 rfl (by decide) _ k _ rfl (World.ownsRow.alloc HE.out.at_ _) ⟨w3.heap.size, 0, none⟩ 1 1 [.int .i64 (m : Int)] rfl rfl (one_new_at _ _ _ _ (World.size_setCell _ _ _)) (by simp [Value.oneCell']) (by unfold maxLen; omega) (by omega) (by simp; omega) ?_; intro v'' w6 hown2 hgr2 _; obtain ⟨g'', cap'', rfl⟩ := ownsRow_succ hown2; have HF := Lib.hid (HE.out.place (m : Int) hgr2 hown2 (by decide) (by decide) (by decide)); clear hown2 hgr2))
            go_roundw
            case rel => exact ⟨k + 1, m + 1, some ⟨g', 0, none⟩, cap', some ⟨g'', 0, none⟩, cap'', by omega, by omega, rfl, by go_num, by rw [HEK2.out]; exact HF⟩
            case measure => simp [intOf]; omega
          · have HEK2 := Lib.hid (HEK.out.trans (if_neg (by omega)))
            clear HEK HN
            have hnl : ¬ f < 0 := by omega
            go_wp2_with (at_builtin; refine wpList_append_own _ rfl _ _ 32 rfl (w.heap.size + 2) 3 j0 _ 1 8 Try.underlying32 HJ.out.1 HJ.out.2.1 HJ.out.2.2.1 HJ.out.2.2.2 rfl (by decide) _ k _ rfl (World.ownsRow.alloc HD.out.at_ _) ⟨v3.heap.size, 0, none⟩ 1 1 [.int .i64 f] rfl rfl (one_new _ _ _) (by simp [Value.oneCell']) (by unfold maxLen; omega) (by omega) (by simp; omega) ?_; intro v' w5 hown hgr _; obtain ⟨g', cap', rfl⟩ := ownsRow_succ hown; have HF := Lib.hid (HD.out.place f hgr hown (by decide) (by decide) (by decide)); clear hown hgr)
            go_roundw
            case rel => exact ⟨k + 1, m, V, cv, some ⟨g', 0, none⟩, cap', by omega, by omega, rfl, by go_num, by rw [HEK2.out]; exact HF⟩
            case measure => simp [intOf]; omega
        | false =>
          have h1E := h1
          have HCW := Lib.hid (HC.out.on HBV.out)
          have HZ1 := Lib.hid pz0
          clear kk1 kk2 pz0
          have HEK : Hid (comp (ns.take (k + 1)) = if findN ss (op, a, b, nn) ss.length < 0 then (ss ++ [(op, a, b, nn)], az ++ [(ss.length : Int)]) else (ss, az ++ [findN ss (op, a, b, nn) ss.length])) := by
            show _ = _
            rw [ek, show wired az (op, a, b, nn) = (op, a, b, nn) from by unfold wired; simp [h2, h1E]]
          clear ek
          clear n0
          have n0 := (HNV.out).c0
          have n1 := (HNV.out).c1
          have n2 := (HNV.out).c2
          have n3 := (HNV.out).c3
          have t0 := (HCW.out).tp.c0
          go_wp2_with fail
          clear n0 n1 n2 n3 t0
          refine calls_atN (fun v => NodeAt v wr.heap.size 30 op a b nn ∧ CWt w (some ⟨bb, o, none⟩) n c V m cv ss V2 k c2 az v ∧ wr.heap.size < v.heap.size) ⟨HNV.out, HCW.out, HZ1.out⟩ ?_
          rintro v2 ⟨pN, pC, pz⟩
          refine (l07Find_any V m cv ss op a b nn _ v2 pC.st.rd (by omega)).mono ?_
          rintro e v3 ⟨rfl, bl⟩
          have HN := Lib.hid (pN.on bl)
          have HD := Lib.hid (pC.on bl)
          have hz3 := Nat.lt_of_lt_of_le pz bl.size
          have hD2 : w.heap.size + 2 ≤ v3.heap.size := by have := HD.out.tp.lt; omega
          clear bl pN pC pz HC HBV
          obtain ⟨f, hf⟩ : ∃ f, findN ss (op, a, b, nn) m = f := ⟨_, rfl⟩
          rw [HMS.out, hf] at HEK
          rw [hf]
          have hfc : f < 0 ∨ (0 ≤ f ∧ f < m) := by rcases findN_cases ss (op, a, b, nn) m with ⟨q, _⟩ | ⟨j, q1, q2, _⟩ <;> omega
          clear hf
          rcases hfc with hmiss | ⟨hf0, hfm⟩
          · have HEK2 := Lib.hid (HEK.out.trans (if_pos hmiss))
            have n0 := HN.out.c0
            have n1 := HN.out.c1
            have n2 := HN.out.c2
            have n3 := HN.out.c3
            have t0 := HD.out.tp.c0
            clear HEK
            go_wp2_with (first
              | (at_builtin; refine wpList_append_own _ rfl _ _ 23 rfl (w.heap.size + 2) 30 i0 _ 4 32 Try.underlying23 HI.out.1 HI.out.2.1 HI.out.2.2.1 HI.out.2.2.2 rfl (by decide) _ m _ rfl (HD.out.st.alloc _) ⟨v3.heap.size, 0, none⟩ 1 1 [.int .i64 op, .int .i64 a, .int .i64 b, .int .i64 nn] rfl rfl (cells4 _ _ (op, a, b, nn)) (one4 _ _ _ _) (by unfold maxLen; omega) (by omega) (by simp; omega) ?_; intro v' w3 hown hgr _; obtain ⟨g', cap', rfl⟩ := ownsRow_succ hown; have hw5 : w.heap.size + 2 ≤ w3.heap.size := Nat.le_trans hD2 (Nat.le_trans (below_one _ _).size hgr.size); obtain ⟨tp3, cw4⟩ := HD.out.step (op, a, b, nn) hgr hown (by decide) (by decide) (by decide) (by decide); have y0 := tp3.c0; have yf := tp3.fz 0; have HE := Lib.hid cw4; clear hown hgr cw4 tp3 n0 n1 n2 n3 t0)
              | (at_builtin; refine wpList_append_own _ rfl _ _ 32 rfl (w.heap.size + 2) 3 j0 _ 1 8 Try.underlying32 HJ.out.1 HJ.out.2.1 HJ.out.2.2.1 HJ.out.2.2.2 rfl (by decide) _ k _ rfl (World.ownsRow.alloc HE.out.at_ _) ⟨w3.heap.size, 0, none⟩ 1 1 [.int .i64 (m : Int)] rfl rfl (one_new_at _ _ _ _ (World.size_setCell _ _ _)) (by simp [Value.oneCell']) (by unfold maxLen; omega) (by omega) (by simp; omega) ?_; intro v'' w6 hown2 hgr2 _; obtain ⟨g'', cap'', rfl⟩ := ownsRow_succ hown2; have HF := Lib.hid (HE.out.place (m : Int) hgr2 hown2 (by decide) (by decide) (by decide)); clear hown2 hgr2))
            go_roundw
            case rel => exact ⟨k + 1, m + 1, some ⟨g', 0, none⟩, cap', some ⟨g'', 0, none⟩, cap'', by omega, by omega, rfl, by go_num, by rw [HEK2.out]; exact HF⟩
            case measure => simp [intOf]; omega
          · have HEK2 := Lib.hid (HEK.out.trans (if_neg (by omega)))
            clear HEK HN
            have hnl : ¬ f < 0 := by omega
            go_wp2_with (at_builtin; refine wpList_append_own _ rfl _ _ 32 rfl (w.heap.size + 2) 3 j0 _ 1 8 Try.underlying32 HJ.out.1 HJ.out.2.1 HJ.out.2.2.1 HJ.out.2.2.2 rfl (by decide) _ k _ rfl (World.ownsRow.alloc HD.out.at_ _) ⟨v3.heap.size, 0, none⟩ 1 1 [.int .i64 f] rfl rfl (one_new _ _ _) (by simp [Value.oneCell']) (by unfold maxLen; omega) (by omega) (by simp; omega) ?_; intro v' w5 hown hgr _; obtain ⟨g', cap', rfl⟩ := ownsRow_succ hown; have HF := Lib.hid (HD.out.place f hgr hown (by decide) (by decide) (by decide)); clear hown hgr)
            go_roundw
            case rel => exact ⟨k + 1, m, V, cv, some ⟨g', 0, none⟩, cap', by omega, by omega, rfl, by go_num, by rw [HEK2.out]; exact HF⟩
            case measure => simp [intOf]; omega
    · obtain rfl : k = n := by omega
      have hall : comp (ns.take k) = comp ns := by rw [← HL.out, comp_take_all]
      rw [hall] at HC
      obtain ⟨g2, rfl, hg2, hkc⟩ := own_at0 HC.out.at_ (by omega)
      obtain ⟨k', rfl⟩ : ∃ k', k = k' + 1 := ⟨k - 1, by omega⟩
      have hl2 : (comp ns).2.length = k' + 1 := by
        have := (comp_ok ns ns.length (Nat.le_refl _)).len2
        rw [List.take_length] at this
        rw [this, HL.out]
      have hlast := HLAST.out
      have hm := HC.out.st.len
      rw [HL.out, Nat.add_sub_cancel, hm] at hlast
      have ca : wr.cell? ⟨g2, k', none⟩ = some (.int .i64 ((m : Int) - 1)) := by rw [HC.out.at_.cellAt k' (by omega), map_get _ _ (by omega), hlast]
      have HM := Lib.hid hm
      have k1 := setAt_grown wr (w.heap.size + 3) 1 (.int .i64 ((m : Int) - 1))
      have tp1 := HC.out.tp.set1 ((m : Int) - 1)
      have re1 : TpAt (wr.setCell ⟨w.heap.size + 3, 1, none⟩ (.int .i64 ((m : Int) - 1))) (w.heap.size + 1) 45 none 0 0 0 := HC.out.re.past k1 (by omega)
      have st1 := HC.out.st.kept k1 (.inr (own_oth HC.out.st HC.out.tp (by decide)))
      have k2 := grown2s (setAt_grown (wr.setCell ⟨w.heap.size + 3, 1, none⟩ (.int .i64 ((m : Int) - 1))) (w.heap.size + 1) 0 (.slice V m cv)) (setAt_grown _ (w.heap.size + 1) 1 (.int .i64 ((m : Int) - 1)))
      have re2 := (re1.set0 V m cv).set1 ((m : Int) - 1)
      have st2 := st1.kept k2 (.inr (own_oth st1 re1 (by decide)))
      have bl2 := ((HC.out.bl.setCell (p := ⟨w.heap.size + 3, 1, none⟩) (by show w.heap.size ≤ w.heap.size + 3; omega) (.int .i64 ((m : Int) - 1))).setCell (p := ⟨w.heap.size + 1, 0, none⟩) (by show w.heap.size ≤ w.heap.size + 1; omega) (.slice V m cv)).setCell (p := ⟨w.heap.size + 1, 1, none⟩) (by show w.heap.size ≤ w.heap.size + 1; omega) (.int .i64 ((m : Int) - 1))
      have HR2 := Lib.hid re2
      have HS2 : Hid (OwnN _ _ _ V m cv (comp ns).1) := Lib.hid st2
      have HB2 := Lib.hid bl2
      have f1 := HC.out.tp.fz 1
      have c1 := HC.out.tp.c1
      have u0 := tp1.c0
      have u1 := tp1.c1
      have r0 := re1.c0
      have r1 := re1.c1
      have rf0 := re1.fz 0
      have rf1 := re1.fz 1
      clear HC hall hl2 hlast hm k1 tp1 re1 st1 k2 re2 st2 bl2
      go_wp2
      refine bodyPost_ret (retTape rfl _ _ (w.heap.size + 1) rfl HR2.out) rfl ⟨HB2.out, V, cv, ?_, ?_⟩
      · rw [HM.out]
      · rw [HM.out]; exact HS2.out.rd.mono fun b hb _ => by have hb : w.heap.size + 2 ≤ b := hb; show w.heap.size ≤ b; omega

set_option maxRecDepth 20000 in
set_option maxHeartbeats 3200000 in
theorem specCompile_any (A : Option Addr) (n c : Nat) (ns : List Nd) (P : Nat → Prop) (w : World) (hr : RdN w P A n c ns) (hn : n ≤ 1048576) :
    Calls Try.prog 16 #[.agg #[.slice A n c]] w fun e w' => Below w.heap.size w w' ∧ ((okE ns = false ∧ e = .returned (.tuple #[.agg #[.slice none 0 0, .int .i64 0], .int .i64 1])) ∨
      (okE ns = true ∧ ∃ V cv, e = .returned (.tuple #[.agg #[.slice V (comp ns).1.length cv, .int .i64 (((comp ns).1.length : Int) - 1)], .int .i64 0]) ∧ RdN w' (fun _ => True) V (comp ns).1.length cv (comp ns).1)) := by
  have HR := Lib.hid hr.low
  clear hr
  obtain ⟨E0, hE0⟩ : ∃ E0, (w.alloc (.cells #[.slice A n c] 25)).alloc (.cells #[.slice none 0 0, .int .i64 0] 45) = E0 := ⟨_, rfl⟩
  have hBE : Below w.heap.size w E0 := by rw [← hE0]; exact ((Below.refl _ _).alloc (Nat.le_refl _) _).alloc (by simp) _
  have hSE : SlAt E0 w.heap.size 25 A n c := by rw [← hE0]; exact (SlAt.new _ _ _ _ _).on (below_one _ _)
  have hTE : TpAt E0 (w.heap.size + 1) 45 none 0 0 0 := by
    rw [← hE0]
    have h := TpAt.new (w.alloc (.cells #[.slice A n c] 25)) 45 none 0 0 0
    rwa [World.size_alloc] at h
  have HX := Lib.hid (specExprOK_any A n c ns _ E0 (HR.out.below hBE) hn)
  have HE0 := Lib.hid hE0
  clear hE0
  have HBE := Lib.hid hBE
  have HSE := Lib.hid hSE
  have HTE := Lib.hid hTE
  clear hBE hSE hTE
  cases hok : okE ns with
  | false =>
    rw [hok] at HX
    go_enter Try.func16, Try.ntmps16
    go_wp2_with (go_at_call 45; rw [HE0.out]; refine HX.out.mono ?_; rintro e w1 ⟨rfl, bb⟩; have hT := HTE.out.on bb; have c0 := hT.c0; have c1 := hT.c1; have f0 := hT.fz 0; have f1 := hT.fz 1; have HB1 := Lib.hid (belowN_on HBE.out bb); clear bb)
    have hT1 := (hT.set0 none 0 0).set1 0
    have hk := grown_set (i := 1) (grown_set (i := 0) (World.grownBy.refl w1 (some (w.heap.size + 1))) (.slice none 0 0)) (.int .i64 0)
    refine bodyPost_ret (retTC rfl _ _ (w.heap.size + 1) rfl hT1) rfl ⟨belowN_grow HB1.out (Nat.le_succ _) hk, .inl ⟨trivial, rfl⟩⟩
  | true =>
    rw [hok] at HX
    have HOK := Lib.hid hok
    clear hok
    go_enter Try.func16, Try.ntmps16
    go_wp2_with fail
    rw [HE0.out]
    refine HX.out.mono ?_
    rintro e w1 ⟨rfl, bb⟩
    have HT := Lib.hid (HTE.out.on bb)
    have s0 := (HSE.out.on bb).c0
    have HB1 := Lib.hid (belowN_on HBE.out bb)
    clear bb HX HSE HTE
    go_wp2_with fail
    clear s0
    refine (l07Compile_any A n c ns _ w1 ((HR.out.below HB1.out)) HOK.out).mono ?_
    rintro e w2 ⟨bb, V, cv, rfl, hm⟩
    have hT := HT.out.on bb
    have HB2 := Lib.hid (belowN_on HB1.out bb)
    have HM := Lib.hid hm
    have c0 := hT.c0
    have c1 := hT.c1
    have f0 := hT.fz 0
    have f1 := hT.fz 1
    have HTT := Lib.hid hT
    have HLW := Lib.hid HT.out.lt
    clear hT hm bb HT
    generalize hss : (comp ns).1 = ss at *
    go_wp2
    have hT1 := (HTT.out.set0 V ss.length cv).set1 ((ss.length : Int) - 1)
    have hk := grown_set (i := 1) (grown_set (i := 0) (World.grownBy.refl w2 (some (w.heap.size + 1))) (.slice V ss.length cv)) (.int .i64 ((ss.length : Int) - 1))
    subst hss
    refine bodyPost_ret (retTC rfl _ _ (w.heap.size + 1) rfl hT1) rfl ⟨belowN_grow HB2.out (Nat.le_succ _) hk, .inr ⟨trivial, V, cv, rfl, ?_⟩⟩
    exact (HM.out.keep hk.size fun b hb hl => hk.block b hl (fun e => by injection e with e; have := HLW.out; omega)).all
end Go.Proofs.Ytndeimodphmpkaa
