/-
  A row of the call's own in whose block no integer lies: what numbers are read beside it lie elsewhere, and so it stays when the row grows.
-/
import Derived.Test.YtifepoefeamboaaGreatDoorGrpH
import Derived.Deep.AppendLies
namespace Nt
open Go Go.RowKit
def noInt (u : Value) : Bool := match u with
  | .int _ _ => false
  | _ => true
/-- no cell of the slice's block holds an integer -/
def Free (w : World) (V : Option Addr) : Prop := ∀ g, V = some ⟨g, 0, none⟩ → ∀ cur t f, w.heap[g]? = some (.cells cur t f) → ∀ u ∈ cur.toList, noInt u = true
theorem Free.nil (w : World) : Free w none := fun g h => by cases h
theorem cell_mem {w : World} {b i : Nat} {u : Value} (h : w.cell? ⟨b, i, none⟩ = some u) : ∃ cur t f, w.heap[b]? = some (.cells cur t f) ∧ u ∈ cur.toList := by
  unfold World.cell? at h
  dsimp only at h
  cases e : w.heap[b]? with
  | none => rw [e] at h; cases h
  | some o =>
    rw [e] at h
    cases o with
    | cells c t f =>
      refine ⟨c, t, f, rfl, ?_⟩
      simp at h
      have := Array.mem_of_getElem? h
      simpa using this
    | _ => cases h
theorem Free.on {w w' : World} {V : Option Addr} (h : Free w V) (hb : Below w.heap.size w w') (hl : ∀ g, V = some ⟨g, 0, none⟩ → g < w.heap.size) : Free w' V :=
  fun g e cur t f hg => h g e cur t f ((hb.block g (hl g e)).symm.trans hg)
theorem own_ltF {w : World} {base k cv tr sz : Nat} {V : Option Addr} {vs : List Value} (ho : w.ownsRow base tr sz (.slice V k cv) k vs) : ∀ g, V = some ⟨g, 0, none⟩ → g < w.heap.size := by
  rintro g rfl
  exact (ho.lt g rfl).2
theorem Rd.beside {w : World} {P : Nat → Prop} {V A : Option Addr} {n c : Nat} {xs : List Int} (h : Rd w P A n c xs) (hf : Free w V) : Rd w (fun b => V ≠ some ⟨b, 0, none⟩) A n c xs :=
  ⟨h.1, h.2.1, h.2.2.1, fun hn => by
    obtain ⟨b, o, e, hp, hlt, hc⟩ := h.2.2.2 hn
    refine ⟨b, o, e, fun hV => ?_, hlt, hc⟩
    obtain ⟨cur, t, f, h1, h2⟩ := cell_mem (hc 0 hn)
    have := hf b hV cur t f h1 _ h2
    cases this⟩
theorem RdR.beside {w : World} {P : Nat → Prop} {V A B : Option Addr} {ca cb : Nat} {xs ys : List Int} (h : RdR w P xs ys A ca B cb) (hf : Free w V) : RdR w (fun b => V ≠ some ⟨b, 0, none⟩) xs ys A ca B cb := ⟨h.1.beside hf, h.2.beside hf⟩
theorem JAt.beside {tF tM : TypeId} {w : World} {P : Nat → Prop} {V : Option Addr} (hf : Free w V) : ∀ {j : Jt} {v : Value}, JAt tF tM w P j v → JAt tF tM w (fun b => V ≠ some ⟨b, 0, none⟩) j v
  | .fx _, _, ⟨A, ca, B, cb, e, h⟩ => ⟨A, ca, B, cb, e, RdR.beside h hf⟩
  | .mv _ _, _, ⟨va, vs, e, h1, h2⟩ => ⟨va, vs, e, JAt.beside hf h1, JAt.beside hf h2⟩
theorem zero_free {z : Array Value} {n : Nat} (h : ∀ u ∈ z.toList, noInt u = true) : ∀ u ∈ (Builtin.zeroCells z n).toList, noInt u = true := by
  intro u hu
  unfold Builtin.zeroCells at hu
  simp at hu
  obtain ⟨i, hi, rfl⟩ := hu
  apply h
  have hz : 0 < z.size := by
    rcases Nat.eq_zero_or_pos z.size with e | e
    · rw [e] at hi; omega
    · exact e
  have hm := Nat.mod_lt i hz
  rw [getElem!_pos z _ hm]
  simp
section
variable {P : Program} (w : World)
/-- append keeps a row's block free of integers -/
theorem append_free (t ty : TypeId) (base : Nat) (e : TypeId) (i : TypeInfo) (z : Value) (size bytes : Nat) (ht : P.underlying t = some (.slice e)) (hi : P.info? e = some i) (hz : i.zero = some z)
    (hsize : i.size = size) (hby : i.bytes = bytes) (hzs : z.cells.size = size) (hsz : 0 < size)
    (v : Option Addr) (n cv : Nat) (xs : List Value) (hown : w.ownsRow base e size (.slice v n cv) n xs)
    (ad : Addr) (m c : Nat) (news : List Value) (hl : news.length = m * size) (hnews : ∀ j u, news[j]? = some u → w.cell? (ad.add j) = some u) (h1 : ∀ u ∈ news, u.oneCell' = true)
    (hm : 0 < m) (h63 : n + m ≤ maxLen) (hbytes : (n + m) * bytes ≤ 140737488355328)
    (hF : Free w v) (hN : ∀ u ∈ news, noInt u = true) (hZ : ∀ u ∈ z.cells.toList, noInt u = true) (V' : Option Addr) (n' c' : Nat) (w' : World)
    (hr : (Builtin.append_ #[t, t] ty #[.slice v n cv, .slice (some ad) m c]).run P w = .ok (.slice V' n' c') w') : Free w' V' := by
  subst hsize
  subst hby
  simp only [maxLen] at h63
  have fresh : ∀ (o : Nat) (ys : List Value) (k : Nat), (∀ u ∈ ys, noInt u = true) → V' = some ⟨w.heap.size, 0, none⟩ → w' = w.drew.alloc (.cells (ys.toArray ++ Builtin.zeroCells z.cells k) e) → Free w' V' := by
    intro o ys k hys e1 e2 g hg cur t' f hc u hu
    rw [e1] at hg
    injection hg with hg
    injection hg with hg
    subst hg
    rw [e2] at hc
    have := (heap_alloc_new w.drew (.cells (ys.toArray ++ Builtin.zeroCells z.cells k) e)).symm.trans hc
    injection this with this
    injection this with this
    subst this
    rw [Array.toList_append, List.mem_append] at hu
    rcases hu with hu | hu
    · exact hys u (by simpa using hu)
    · exact zero_free hZ u hu
  rcases hown.2 with ⟨hv, h0⟩ | ⟨g, cap, cur, hv, hbg, hg, hnc, hcm, hcs, htake⟩
  · injection hv with e1 e2 e3
    subst e1 e2 e3
    have hr2 := run_append_nil (P := P) w t ty e i z ht hi hz ad m c news hl hnews hm (by omega) (by have hb := hbytes; simp only [Nat.zero_add] at hb; omega)
    rw [hr2] at hr
    injection hr with a1 a2
    injection a1 with a1
    exact fresh 0 news _ hN a1.symm a2.symm
  · injection hv with e1 e2 e3
    subst e1 e3
    by_cases hroom : n + m ≤ cv
    · have hfit : n * i.size + news.length ≤ cur.size := by rw [hl, hcs, ← Nat.add_mul]; exact Nat.mul_le_mul_right _ hroom
      have hr2 := run_append_room (P := P) w t ty e i ht hi g n cv cur hg ad m c news hl hnews h1 hroom hfit
      rw [hr2] at hr
      injection hr with a1 a2
      injection a1 with a1
      rintro g' hg' cur' t' f hc u hu
      rw [← a1] at hg'
      injection hg' with hg'
      injection hg' with hg'
      subst hg'
      rw [← a2] at hc
      have := (setRow_heap w g cur _ e _ hg).symm.trans hc
      injection this with this
      injection this with this
      subst this
      simp only [List.mem_append] at hu
      rcases hu with (hu | hu) | hu
      · exact hF g rfl cur _ _ hg u (List.mem_of_mem_take hu)
      · exact hN u hu
      · exact hF g rfl cur _ _ hg u (List.mem_of_mem_drop hu)
    · have holds : ∀ j u, xs[j]? = some u → w.cell? ((⟨g, 0, none⟩ : Addr).add j) = some u := hown.cells (g := g) rfl
      have hr2 := run_append_grow (P := P) w t ty e i z ht hi hz ⟨g, 0, none⟩ n cv xs hown.1 holds ad m c news hl hnews (by omega) (by omega) (growslice_fits (by omega) hbytes)
      rw [hr2] at hr
      injection hr with a1 a2
      injection a1 with a1
      refine fresh 0 (xs ++ news) (grownCap w (n + m) cv e - (n + m)) (fun u hu => ?_) a1.symm (by rw [← a2]; simp)
      rcases List.mem_append.1 hu with hu | hu
      · rw [← htake] at hu
        exact hF g rfl cur _ _ hg u (List.mem_of_mem_take hu)
      · exact hN u hu
/-- the same at a region's list -/
theorem wpList_append_free {ops : Array Oper} {rest : List Oper} {o : Oper} {a : Act} {Q : Exit → Act → World → Prop} (hgd : o.guard = none) (s x : Operand) (t : TypeId)
    (ho : o.op = .call { callee := .builtin .append, args := #[s, x], argTypes := #[t, t] })
    (base : Nat) (e : TypeId) (i : TypeInfo) (z : Value) (size bytes : Nat) (ht : P.underlying t = some (.slice e)) (hi : P.info? e = some i) (hz : i.zero = some z)
    (hsize : i.size = size) (hby : i.bytes = bytes) (hzs : z.cells.size = size) (hsz : 0 < size) (hZ : ∀ u ∈ z.cells.toList, noInt u = true)
    (v : Option Addr) (n cv : Nat) (xs : List Value) (hs : a.eval s = .slice v n cv) (hown : w.ownsRow base e size (.slice v n cv) n xs)
    (ad : Addr) (m c : Nat) (news : List Value) (hx : a.eval x = .slice (some ad) m c) (hl : news.length = m * size) (hnews : ∀ j u, news[j]? = some u → w.cell? (ad.add j) = some u) (h1 : ∀ u ∈ news, u.oneCell' = true) (hN : ∀ u ∈ news, noInt u = true)
    (hm : 0 < m) (h63 : n + m ≤ maxLen) (hbytes : (n + m) * bytes ≤ 140737488355328) (hbase : base ≤ w.heap.size) (hF : Free w v) (H : Nat) (hH : w.heap.size = H)
    (h : ∀ g cap w', w'.ownsRow base e size (.slice (some ⟨g, 0, none⟩) (n + m) cap) (n + m) (xs ++ news) → w.grownBy w' (Value.slice v n cv).ownBlock → ((Value.slice v n cv).ownBlock = some g ∨ g = H) → Free w' (some ⟨g, 0, none⟩) → wpList P ops Q rest (a.put o.dst (.slice (some ⟨g, 0, none⟩) (n + m) cap)) w') : wpList P ops Q (o :: rest) a w := by
  obtain ⟨g, cap, w', hr, h2, h3, h4, h5⟩ := run_append_lies (P := P) w t o.type base e i z size bytes ht hi hz hsize hby hzs hsz (.slice v n cv) n xs hown ad m c news hl hnews h1 hm h63 hbytes hbase H hH
  have h6 := append_free (P := P) w t o.type base e i z size bytes ht hi hz hsize hby hzs hsz v n cv xs hown ad m c news hl hnews h1 hm h63 hbytes hF hN hZ _ _ _ w' hr
  refine wpList_plain hgd fun K hK => ?_
  unfold Oper.wp execOp
  simp only [ho, resolve, invoke, builtin, Sem.run_bind, Sem.run_pure, Result.andThen_ok, List.map_toArray, List.map_cons, List.map_nil, hs, hx, hr]
  exact hK _ _ (h g cap w' h2 h3 h4 h6)
end
end Nt
