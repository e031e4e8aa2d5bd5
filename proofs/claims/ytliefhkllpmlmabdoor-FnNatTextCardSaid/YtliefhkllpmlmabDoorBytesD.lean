/-
  Bytes appended to a row of the call's own.
-/
import Derived.Test.YtliefhkllpmlmabDoorDraw
namespace Nt
open Go Go.RowKit

theorem IsRow.none_ {k : IntKind} {w : World} {a : Option Addr} {len cap : Nat} {zs : List Int} (h : IsRow k w a len cap zs) (ha : a = none) : len = 0 ∧ cap = 0 := by
  rcases h with ⟨_, h1, h2, _⟩ | ⟨x, h1, _⟩
  · exact ⟨h1, h2⟩
  · rw [ha] at h1; cases h1
/-- the byte of a cell -/
def cellByte (w : World) (b o : Nat) (i : Nat) : Int := match w.cell? ⟨b, o + i, none⟩ with
  | some (.int .u8 x) => x
  | _ => 0
def cellBytes (w : World) (b o n : Nat) : List Int := (List.range n).map (cellByte w b o)
theorem cellByte_eq {w : World} {b o i : Nat} {x : Int} (h : w.cell? ⟨b, o + i, none⟩ = some (.int .u8 x)) : cellByte w b o i = x := by unfold cellByte; rw [h]
theorem bytes_oneCell (zs : List Int) : ∀ u ∈ zs.map (Value.int .u8), u.oneCell' = true := ints_oneCell .u8 zs
theorem own_rdb {w : World} {base n c : Nat} {e : TypeId} {A : Option Addr} {xs : List Int} (h : w.ownsRow base e 1 (.slice A n c) n (xs.map (Value.int .u8))) (hx : ∀ x ∈ xs, 0 ≤ x ∧ x < 256) : RdB w (fun _ => True) A n := by
  intro hn
  have hlen : xs.length = n := by have := h.1; simpa using this
  rcases h.2 with ⟨_, h0⟩ | ⟨g, cap, cur, e', hb, hh, _⟩
  · omega
  · injection e' with e1 _ e3
    subst e1 e3
    refine ⟨g, 0, rfl, trivial, ?_, fun i hi => ⟨xs.getD i 0, ?_⟩⟩
    · rcases Nat.lt_or_ge g w.heap.size with hlt | hge
      · exact hlt
      · rw [Array.getElem?_eq_none hge] at hh; cases hh
    · have hm : xs.getD i 0 ∈ xs := by
        have : i < xs.length := by omega
        simp [List.getD, this]
      refine ⟨(hx _ hm).1, (hx _ hm).2, ?_⟩
      rw [h.cellAt _ (by omega)]
      simp [List.getD, hlen, hi]
theorem wpList_append_bytes {P : Program} (w : World) {ops : Array Oper} {rest : List Oper} {o : Oper} {a : Act} {Q : Exit → Act → World → Prop} (hgd : o.guard = none) (s x : Operand) (t : TypeId)
    (ho : o.op = .call { callee := .builtin .append, args := #[s, x], argTypes := #[t, t] })
    (base : Nat) (e : TypeId) (ht : P.underlying t = some (.slice e)) (hinfo : (P.info? e).map (fun i => (i.zero, i.size, i.bytes)) = some (some (.int .u8 0), 1, 1))
    (V : Option Addr) (n cv : Nat) (xs : List Int) (hs : a.eval s = .slice V n cv) (hown : w.ownsRow base e 1 (.slice V n cv) n (xs.map (Value.int .u8))) (hxs : ∀ x ∈ xs, 0 ≤ x ∧ x < 256)
    (R : Nat → Prop) (A : Option Addr) (m c : Nat) (hx : a.eval x = .slice A m c) (hnil : A = none → m = 0 ∧ c = 0) (hr : RdB w R A m) (hnm : n + m ≤ 268435456) (hbase : base ≤ w.heap.size)
    (h : ∀ V' c' w', RdB w' (fun _ => True) V' (n + m) → w.grownBy w' (Value.slice V n cv).ownBlock → wpList P ops Q rest (a.put o.dst (.slice V' (n + m) c')) w') :
    wpList P ops Q (o :: rest) a w := by
  obtain ⟨i, h1, h2, h3, h4⟩ : ∃ i, P.info? e = some i ∧ i.zero = some (.int .u8 0) ∧ i.size = 1 ∧ i.bytes = 1 := by
    cases hi : P.info? e with
    | none => rw [hi] at hinfo; cases hinfo
    | some i => rw [hi] at hinfo; simp at hinfo; exact ⟨i, rfl, hinfo⟩
  have hfin : ∀ (ys : List Int) v' w', (∀ x ∈ ys, 0 ≤ x ∧ x < 256) → ys.length = m → w'.ownsRow base e 1 v' (n + m) ((xs ++ ys).map (Value.int .u8)) → w.grownBy w' (Value.slice V n cv).ownBlock → wpList P ops Q rest (a.put o.dst v') w' := by
    intro ys v' w' hy hl hw hg
    have hb : ∀ x ∈ xs ++ ys, 0 ≤ x ∧ x < 256 := fun x hx => by
      rcases List.mem_append.1 hx with h | h
      · exact hxs x h
      · exact hy x h
    rcases hw.2 with ⟨rfl, h0⟩ | ⟨g, cap, cur, rfl, _⟩
    · have hw' : w'.ownsRow base e 1 (.slice none (n + m) 0) (n + m) ((xs ++ ys).map (Value.int .u8)) := by rw [h0] at hw ⊢; exact hw
      have := h none 0 w' (own_rdb hw' hb) hg
      rw [h0] at this
      exact this
    · exact h _ _ w' (own_rdb hw hb) hg
  cases A with
  | none =>
    obtain ⟨rfl, rfl⟩ := hnil rfl
    refine wpList_append_own_none hgd s x t ho base e i 1 ht h1 _ n _ hs hown hx ?_
    exact hfin [] _ w (fun x hx => by cases hx) rfl (by simpa using hown) (World.grownBy.refl _ _)
  | some ad =>
    obtain ⟨b, of, spot⟩ := ad
    refine wpList_append_own w hgd s x t ho base e i _ 1 1 ht h1 h2 h3 h4 rfl (by decide) _ n _ hs hown ⟨b, of, spot⟩ m c ((cellBytes w b of m).map (Value.int .u8)) hx (by simp [cellBytes]) ?_ (bytes_oneCell _) (by unfold maxLen; omega) (by omega) hbase ?_
    · intro j u hj
      rw [List.getElem?_map] at hj
      have hlt : j < m := by
        rcases Nat.lt_or_ge j m with h | h
        · exact h
        · rw [List.getElem?_eq_none (by simp [cellBytes]; exact h)] at hj; cases hj
      obtain ⟨b', o', e', _, _, hc⟩ := hr (by omega)
      injection e' with e'
      injection e' with e1 e2 e3
      subst e1 e2 e3
      obtain ⟨y, _, _, hy⟩ := hc j hlt
      have hu : u = .int .u8 y := by
        have : (cellBytes w b of m)[j]? = some y := by simp [cellBytes, hlt, cellByte_eq hy]
        rw [this] at hj
        simpa using hj.symm
      rw [hu, ← hy]
      unfold Addr.add
      by_cases hj0 : j = 0 <;> simp [hj0]
    · intro v' w' h5 h6 _
      rw [← List.map_append] at h5
      refine hfin _ v' w' ?_ (by simp [cellBytes]) h5 h6
      intro z hz
      obtain ⟨j, hj, rfl⟩ := List.mem_map.1 hz
      have hlt : j < m := List.mem_range.1 hj
      obtain ⟨b', o', e', _, _, hc⟩ := hr (by omega)
      injection e' with e'
      injection e' with e1 e2 e3
      subst e1 e2 e3
      obtain ⟨y, hy0, hy1, hy⟩ := hc j hlt
      rw [cellByte_eq hy]
      exact ⟨hy0, hy1⟩
end Nt
namespace Go.Proofs.YtliefhkllpmlmabDoor
open Go Go.RowKit Nt
theorem infoByte : (Tryd.prog.info? 5).map (fun i => (i.zero, i.size, i.bytes)) = some (some (.int .u8 0), 1, 1) := by kernel_rfl
end Go.Proofs.YtliefhkllpmlmabDoor
