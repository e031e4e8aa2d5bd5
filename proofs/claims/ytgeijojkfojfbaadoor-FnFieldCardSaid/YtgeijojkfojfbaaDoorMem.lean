/-
  Words for memory: a slice of ints that reads as a list; a row of the call's own that is known whole.
-/
import Derived.Test.YtgeijojkfojfbaaDoorMath
import Derived.WalkKit
import Derived.WalkSpells
import Derived.WalkLawsBesides
import Derived.Lib.Hide
import Derived.Deep.Draws
import Derived.Deep.QuietTactic
import Derived.Laws.AppendOwnNone
import Derived.Laws.CopyOwn
namespace Nt
open Go Go.RowKit

/-- the slice value '.slice A n c' reads as the numbers xs; its block is one of P -/
def Rd (w : World) (P : Nat → Prop) (A : Option Addr) (n c : Nat) (xs : List Int) : Prop :=
  xs.length = n ∧ n ≤ c ∧ (A = none → c = 0) ∧ (0 < n → ∃ b o, A = some ⟨b, o, none⟩ ∧ P b ∧ b < w.heap.size ∧ ∀ i, i < n → w.cell? ⟨b, o + i, none⟩ = some (.int .i64 (xs.getD i 0)))

theorem Rd.at_ {w : World} {P : Nat → Prop} {A : Option Addr} {n c : Nat} {xs : List Int} (h : Rd w P A n c xs) (hn : 0 < n) :
    ∃ b o, A = some ⟨b, o, none⟩ ∧ P b ∧ b < w.heap.size ∧ ∀ i, i < n → w.cell? ⟨b, o + i, none⟩ = some (.int .i64 (xs.getD i 0)) := h.2.2.2 hn
theorem Rd.len {w : World} {P : Nat → Prop} {A : Option Addr} {n c : Nat} {xs : List Int} (h : Rd w P A n c xs) : xs.length = n := h.1
theorem Rd.cap {w : World} {P : Nat → Prop} {A : Option Addr} {n c : Nat} {xs : List Int} (h : Rd w P A n c xs) : n ≤ c := h.2.1
theorem Rd.keep {w w' : World} {P : Nat → Prop} {A : Option Addr} {n c : Nat} {xs : List Int} (h : Rd w P A n c xs) (hs : w.heap.size ≤ w'.heap.size)
    (hk : ∀ b, P b → b < w.heap.size → w'.heap[b]? = w.heap[b]?) : Rd w' P A n c xs :=
  ⟨h.1, h.2.1, h.2.2.1, fun hn => by
    obtain ⟨b, o, e, hp, hlt, hc⟩ := h.2.2.2 hn
    exact ⟨b, o, e, hp, by omega, fun i hi => (World.cell?_of_block (a := ⟨b, o + i, none⟩) (hk b hp hlt)).trans (hc i hi)⟩⟩
theorem Rd.mono {w : World} {P Q : Nat → Prop} {A : Option Addr} {n c : Nat} {xs : List Int} (h : Rd w P A n c xs) (hpq : ∀ b, P b → b < w.heap.size → Q b) : Rd w Q A n c xs :=
  ⟨h.1, h.2.1, h.2.2.1, fun hn => by
    obtain ⟨b, o, e, hp, hlt, hc⟩ := h.2.2.2 hn
    exact ⟨b, o, e, hpq b hp hlt, hlt, hc⟩⟩
theorem Rd.nil_ (w : World) (P : Nat → Prop) (A : Option Addr) (c : Nat) (hA : A = none → c = 0) : Rd w P A 0 c [] := ⟨rfl, Nat.zero_le _, hA, fun h => absurd h (by omega)⟩
theorem Rd.below {w w' : World} {B : Nat} {A : Option Addr} {n c : Nat} {xs : List Int} (h : Rd w (· < B) A n c xs) (hb : Below B w w') : Rd w' (· < B) A n c xs :=
  h.keep hb.size fun b hp _ => hb.block b hp
theorem Rd.drew {w : World} {P : Nat → Prop} {A : Option Addr} {n c : Nat} {xs : List Int} (h : Rd w P A n c xs) : Rd w.drew P A n c xs := h
theorem Rd.drewN {w : World} {P : Nat → Prop} {A : Option Addr} {n c : Nat} {xs : List Int} (h : Rd w P A n c xs) (k : Nat) : Rd (w.drewN k) P A n c xs := h

/-- numbers as cells; noughts -/
def cellsOf (xs : List Int) : Array Value := (xs.map (Value.int .i64)).toArray
def zeros (n : Nat) : List Int := List.replicate n 0
theorem zeros_len (n : Nat) : (zeros n).length = n := by simp [zeros]
theorem zeros_limbs (n : Nat) : Limbs (zeros n) := limbs_replicate n
theorem zeros_val (n : Nat) : val (zeros n) = 0 := val_replicate n
theorem zeros_getD (n i : Nat) : (zeros n).getD i 0 = 0 := by
  unfold zeros
  rcases Nat.lt_or_ge i n with h | h
  · simp [List.getD, h]
  · simp [List.getD, h]
theorem set_zeros (out : List Int) (k m : Nat) (x : Int) (hk : out.length = k) (hm : 0 < m) : (out ++ zeros m).set k x = (out ++ [x]) ++ zeros (m - 1) := by
  obtain ⟨m, rfl⟩ : ∃ j, m = j + 1 := ⟨m - 1, by omega⟩
  subst hk
  simp [zeros, List.replicate_succ]
theorem cellsOf_get (xs : List Int) (i : Nat) (hi : i < xs.length) : (cellsOf xs)[i]? = some (.int .i64 (xs.getD i 0)) := by simp [cellsOf, List.getD, hi]
theorem cellsOf_size (xs : List Int) : (cellsOf xs).size = xs.length := by simp [cellsOf]

/-- block g is just the numbers xs, none frozen -/
def Arr (w : World) (g : Nat) (t : TypeId) (xs : List Int) : Prop := w.heap[g]? = some (.cells (cellsOf xs) t (0, 0))

theorem Arr.lt {w : World} {g : Nat} {t : TypeId} {xs : List Int} (h : Arr w g t xs) : g < w.heap.size := by
  rcases Nat.lt_or_ge g w.heap.size with hlt | hge
  · exact hlt
  · unfold Arr at h; rw [Array.getElem?_eq_none hge] at h; cases h
theorem Arr.cell {w : World} {g : Nat} {t : TypeId} {xs : List Int} (h : Arr w g t xs) (i : Nat) (hi : i < xs.length) : w.cell? ⟨g, i, none⟩ = some (.int .i64 (xs.getD i 0)) := by
  rw [cell_of_row w g i _ t (0, 0) h, cellsOf_get xs i hi]
theorem Arr.frozen {w : World} {g : Nat} {t : TypeId} {xs : List Int} (h : Arr w g t xs) (i : Nat) : w.frozen? ⟨g, i, none⟩ = false := frozen_of_row w g i _ t h
theorem Arr.keep {w w' : World} {g : Nat} {t : TypeId} {xs : List Int} (h : Arr w g t xs) (hk : w'.heap[g]? = w.heap[g]?) : Arr w' g t xs := hk.trans h
theorem Arr.set_ {w : World} {g : Nat} {t : TypeId} {xs : List Int} (h : Arr w g t xs) (i : Nat) (v : Int) : Arr (w.setCell ⟨g, i, none⟩ (.int .i64 v)) g t (xs.set i v) := by
  unfold Arr at h ⊢
  rw [heap_setCell_same w g i _ t _ h]
  simp [cellsOf, List.map_set]
theorem Arr.rd {w : World} {g : Nat} {t : TypeId} {xs : List Int} (h : Arr w g t xs) (P : Nat → Prop) (hP : P g) (o n c : Nat) (hn : o + n ≤ xs.length) (hc : n ≤ c) :
    Rd w P (some ⟨g, o, none⟩) n c ((xs.drop o).take n) :=
  ⟨by simp; omega, hc, (fun h => by cases h), fun _ => ⟨g, o, rfl, hP, h.lt, fun i hi => by
    rw [h.cell (o + i) (by omega)]
    simp [List.getD, hi]⟩⟩
theorem Arr.rd_all {w : World} {g : Nat} {t : TypeId} {xs : List Int} (h : Arr w g t xs) (P : Nat → Prop) (hP : P g) (n c : Nat) (hn : n = xs.length) (hc : n ≤ c) :
    Rd w P (some ⟨g, 0, none⟩) n c xs := by
  have := h.rd P hP 0 n c (by omega) hc
  simpa [hn] using this
theorem Arr.new (w : World) (t : TypeId) (xs : List Int) : Arr (w.alloc (.cells (cellsOf xs) t)) w.heap.size t xs := heap_alloc_new w _

/-- a row of the call's own, whose numbers are xs -/
theorem own_rd {w : World} {base n : Nat} {e : TypeId} {v : Value} {xs : List Int} (h : w.ownsRow base e 1 v n (xs.map (Value.int .i64))) :
    ∃ A c, v = .slice A n c ∧ Rd w (base ≤ ·) A n c xs := by
  have hlen : xs.length = n := by have := h.1; simpa using this
  rcases h.2 with ⟨rfl, rfl⟩ | ⟨g, cap, cur, rfl, hb, hh, hnc, _, _, ht⟩
  · have : xs = [] := List.eq_nil_of_length_eq_zero hlen
    subst this
    exact ⟨_, _, rfl, Rd.nil_ _ _ _ _ (fun _ => rfl)⟩
  · refine ⟨_, _, rfl, hlen, hnc, (fun h => by cases h), fun hn => ⟨g, 0, rfl, hb, ?_, fun i hi => ?_⟩⟩
    · rcases Nat.lt_or_ge g w.heap.size with hlt | hge
      · exact hlt
      · rw [Array.getElem?_eq_none hge] at hh; cases hh
    · rw [h.cellAt _ (by omega)]
      simp [List.getD, hlen, hi]

theorem own_rd' {w : World} {base n c : Nat} {e : TypeId} {A : Option Addr} {xs : List Int} (h : w.ownsRow base e 1 (.slice A n c) n (xs.map (Value.int .i64))) : Rd w (base ≤ ·) A n c xs := by
  obtain ⟨A', c', e', hr⟩ := own_rd h
  injection e' with e1 _ e3
  subst e1 e3
  exact hr
theorem Arr.own {w : World} {g : Nat} {t : TypeId} {xs : List Int} (h : Arr w g t xs) (base : Nat) (hb : base ≤ g) (n c : Nat) (hn : n = xs.length) (hc : c = n) (hm : n ≤ maxLen) : w.ownsRow base t 1 (.slice (some ⟨g, 0, none⟩) n c) n (xs.map (Value.int .i64)) := by
  subst hc hn
  exact ⟨by simp, .inr ⟨g, xs.length, _, rfl, hb, h, Nat.le_refl _, hm, by simp [cellsOf], by simp [cellsOf, List.take_of_length_le]⟩⟩
theorem own_at {w : World} {base n c : Nat} {e : TypeId} {A : Option Addr} {xs : List Value} (h : w.ownsRow base e 1 (.slice A n c) n xs) (hn : 0 < n) : ∃ g, A = some ⟨g, 0, none⟩ ∧ base ≤ g ∧ g < w.heap.size := by
  rcases h.2 with ⟨_, h0⟩ | ⟨g, cap, cur, e', hb, hh, _⟩
  · omega
  · injection e' with e1
    refine ⟨g, e1, hb, ?_⟩
    rcases Nat.lt_or_ge g w.heap.size with hlt | hge
    · exact hlt
    · rw [Array.getElem?_eq_none hge] at hh; cases hh
theorem own_mono {w : World} {base base' n : Nat} {e : TypeId} {v : Value} {xs : List Value} (h : w.ownsRow base e 1 v n xs) (hb : base' ≤ base) : w.ownsRow base' e 1 v n xs := by
  rcases h with ⟨h1, h2 | ⟨g, cap, cur, e', hg, h3⟩⟩
  · exact ⟨h1, .inl h2⟩
  · exact ⟨h1, .inr ⟨g, cap, cur, e', Nat.le_trans hb hg, h3⟩⟩
theorem own_lt {w : World} {base n c : Nat} {e : TypeId} {A : Option Addr} {xs : List Value} (h : w.ownsRow base e 1 (.slice A n c) n xs) : ∀ g, (Value.slice A n c).ownBlock = some g → base ≤ g ∧ g < w.heap.size := fun g hg => h.lt g hg
theorem own_keep {w w' : World} {base n c : Nat} {e : TypeId} {A : Option Addr} {xs : List Value} (h : w.ownsRow base e 1 (.slice A n c) n xs) (hb : Below w.heap.size w w') : w'.ownsRow base e 1 (.slice A n c) n xs := by
  refine h.kept (row := none) ⟨hb.os, hb.tape, hb.output, hb.size, fun k hk _ => hb.block k hk⟩ ?_
  cases hA : (Value.slice A n c).ownBlock with
  | none => exact .inl rfl
  | some g => exact .inr (by simp)
theorem own_other {w w' : World} {base n c g : Nat} {e : TypeId} {A : Option Addr} {xs : List Value} (h : w.ownsRow base e 1 (.slice A n c) n xs) (hg : w.grownBy w' (some g)) (hne : g < base) : w'.ownsRow base e 1 (.slice A n c) n xs := by
  refine h.kept hg ?_
  cases hA : (Value.slice A n c).ownBlock with
  | none => exact .inl rfl
  | some k => exact .inr (fun e => by injection e with e; have := (h.lt k hA).1; omega)
/-- the marks that the laws write: k, k + 1, .. -/
def marks (k : Int) (n : Nat) : List Int := (List.range n).map fun i => k + (i : Nat)
theorem marks_len (k : Int) (n : Nat) : (marks k n).length = n := by simp [marks]
theorem marks_getD (k : Int) (n i : Nat) (h : i < n) : (marks k n).getD i 0 = k + i := by simp [marks, List.getD, h]
theorem marks_step (k : Int) (xs : List Int) (i : Nat) (h : i < xs.length) : (marks k i ++ xs.drop i).set i (k + i) = marks k (i + 1) ++ xs.drop (i + 1) := by
  rw [drop_cons xs i h]
  have hl := marks_len k i
  rw [List.set_append_right _ _ (by omega), hl, Nat.sub_self, List.set_cons_zero]
  simp [marks, List.range_succ]
/-- make([]int, n) -/
theorem run_make_ints {P : Program} (t e : TypeId) (ht : P.underlying t = some (.slice e)) (hi : (P.info? e).map (fun i => (i.zero, i.size, i.bytes)) = some (some (.int .i64 0), 1, 8)) (n : Nat) (hn : n ≤ 16777216) (w : World) :
    (Instr.makeSlice t (.int .i64 (n : Int)) (.int .i64 (n : Int))).run P w = .ok (.slice (some ⟨w.heap.size, 0, none⟩) n n) (w.alloc (.cells (cellsOf (zeros n)) e)) := by
  obtain ⟨i, h1, h2, h3, h4⟩ := info_parts hi
  have hb : (i.bytes : Int) * (n : Int) ≤ 281474976710656 := by rw [h4]; omega
  have hr := run_make (P := P) w t e i _ ht h1 h2 .i64 .i64 n n (by omega) (by omega) hb (by omega)
  simp only [Int.toNat_natCast] at hr
  rw [hr, h3]
  have : madeCells (Value.int .i64 0).cells (n * 1) = cellsOf (zeros n) := by
    apply Array.toList_inj.1
    rw [Nat.mul_one]
    show (madeCells #[.int .i64 0] n).toList = _
    rw [toList_madeCells_one]
    simp [cellsOf, zeros]
  rw [this]

theorem rd_one (w : World) (e : TypeId) (x : Int) : Rd (w.alloc (.cells #[.int .i64 x] e)) (fun b => b = w.heap.size) (some ⟨w.heap.size, 0, none⟩) 1 1 [x] :=
  (Arr.new w e [x]).rd_all (fun b => b = w.heap.size) rfl 1 1 rfl (Nat.le_refl _)
theorem Rd.cut {w : World} {P : Nat → Prop} {A : Option Addr} {n c : Nat} {xs : List Int} (h : Rd w P A n c xs) (k : Nat) (hk : k ≤ n) : Rd w P A k c (xs.take k) := by
  have hl := h.len
  refine ⟨by rw [List.length_take]; omega, by have := h.cap; omega, h.2.2.1, fun hn => ?_⟩
  obtain ⟨b, o, e, hp, hlt, hc⟩ := h.at_ (by omega)
  refine ⟨b, o, e, hp, hlt, fun i hi => ?_⟩
  rw [hc i (by omega)]
  simp [List.getD, hi]
/-- append onto a row of the call's own: numbers that are read anywhere -/
theorem wpList_append_ints {P : Program} (w : World) {ops : Array Oper} {rest : List Oper} {o : Oper} {a : Act} {Q : Exit → Act → World → Prop} (hgd : o.guard = none) (s x : Operand) (t : TypeId)
    (ho : o.op = .call { callee := .builtin .append, args := #[s, x], argTypes := #[t, t] })
    (base : Nat) (e : TypeId) (ht : P.underlying t = some (.slice e)) (hinfo : (P.info? e).map (fun i => (i.zero, i.size, i.bytes)) = some (some (.int .i64 0), 1, 8))
    (V : Option Addr) (n cv : Nat) (xs : List Int) (hs : a.eval s = .slice V n cv) (hown : w.ownsRow base e 1 (.slice V n cv) n (xs.map (Value.int .i64)))
    (R : Nat → Prop) (A : Option Addr) (m c : Nat) (ys : List Int) (hx : a.eval x = .slice A m c) (hr : Rd w R A m c ys) (hnm : n + m ≤ 268435456) (hbase : base ≤ w.heap.size)
    (h : ∀ V' c' w', w'.ownsRow base e 1 (.slice V' (n + m) c') (n + m) ((xs ++ ys).map (Value.int .i64)) → w.grownBy w' (Value.slice V n cv).ownBlock → wpList P ops Q rest (a.put o.dst (.slice V' (n + m) c')) w') :
    wpList P ops Q (o :: rest) a w := by
  obtain ⟨i, h1, h2, h3, h4⟩ := info_parts hinfo
  cases A with
  | none =>
    have hc0 := hr.2.2.1 rfl
    have hm0 : m = 0 := by have := hr.cap; omega
    subst hc0 hm0
    have hy : ys = [] := List.eq_nil_of_length_eq_zero hr.len
    subst hy
    refine wpList_append_own_none hgd s x t ho base e i 1 ht h1 _ n _ hs hown hx ?_
    have := h V cv w (by simpa using hown) (World.grownBy.refl _ _)
    simpa using this
  | some ad =>
    refine wpList_append_own w hgd s x t ho base e i _ 1 8 ht h1 h2 h3 h4 rfl (by decide) _ n _ hs hown ad m c (ys.map (Value.int .i64)) hx (by simpa using hr.len) ?_ (ints_oneCell _ _) (by unfold maxLen; omega) (by omega) hbase ?_
    · intro j u hj
      rw [List.getElem?_map] at hj
      have hlt : j < ys.length := by
        rcases Nat.lt_or_ge j ys.length with h | h
        · exact h
        · rw [List.getElem?_eq_none h] at hj; cases hj
      obtain ⟨b, o', e', _, _, hc⟩ := hr.at_ (by have := hr.len; omega)
      injection e' with e'
      subst e'
      have := hc j (by have := hr.len; omega)
      rw [List.getElem?_eq_getElem hlt] at hj
      simp only [Option.map_some, Option.some.injEq] at hj
      rw [← hj]
      have e2 : ys.getD j 0 = ys[j] := by simp [List.getD, hlt]
      rw [e2] at this
      rw [← this]
      unfold Addr.add
      by_cases hj0 : j = 0 <;> simp [hj0]
    · intro v' w' h5 h6 _
      rw [← List.map_append] at h5
      obtain ⟨A', c', rfl, _⟩ := own_rd h5
      exact h A' c' w' h5 h6
/-- copy into a block that is known whole -/
theorem wpList_copy_ints {P : Program} (w : World) {ops : Array Oper} {rest : List Oper} {o : Oper} {a : Act} {Q : Exit → Act → World → Prop} (hgd : o.guard = none) (d s : Operand) (dT : TypeId)
    (ho : o.op = .call { callee := .builtin .copy, args := #[d, s], argTypes := #[dT, dT] }) (e : TypeId) (ht : P.underlying dT = some (.slice e)) (hinfo : (P.info? e).map (fun i => (i.zero, i.size, i.bytes)) = some (some (.int .i64 0), 1, 8))
    (g N cN : Nat) (t : TypeId) (full : List Int) (hd : a.eval d = .slice (some ⟨g, 0, none⟩) N cN) (hg : Arr w g t full) (hN : N ≤ full.length)
    (R : Nat → Prop) (A : Option Addr) (n c : Nat) (xs : List Int) (hs : a.eval s = .slice A n c) (hr : Rd w R A n c xs) (hn : n ≤ N)
    (h : ∀ w', Arr w' g t (xs ++ full.drop n) → w.grownBy w' (some g) → wpList P ops Q rest (a.put o.dst (.int .i64 n)) w') : wpList P ops Q (o :: rest) a w := by
  obtain ⟨i, h1, h2, h3, h4⟩ := info_parts hinfo
  have hsz : (P.info? e).map (·.size) = some 1 := by rw [h1]; simp [h3]
  have hl := hr.len
  rcases Nat.eq_zero_or_pos n with h0 | h0
  · subst h0
    have hx : xs = [] := List.eq_nil_of_length_eq_zero hl
    subst hx
    exact wpList_copy_nothing hgd d s dT dT ho e ht hsz _ A N cN 0 c hd hs (by simp) (h w (by simpa using hg) (World.grownBy.refl _ _))
  · obtain ⟨b, o', rfl, _, _, hc⟩ := hr.at_ h0
    have hmin : Nat.min n N = n := Nat.min_eq_left hn
    refine wpList_copy_own hgd d s dT dT ho e ht hsz g 0 N cN ⟨b, o', none⟩ n c hd hs (cellsOf full) t hg (xs.map (Value.int .i64)) (by rw [List.length_map, hmin]; exact hl) ?_ (by simp [cellsOf]; omega) (ints_oneCell _ _) ?_
    · intro j u hj
      rw [List.getElem?_map] at hj
      have hlt : j < xs.length := by
        rcases Nat.lt_or_ge j xs.length with h | h
        · exact h
        · rw [List.getElem?_eq_none h] at hj; cases hj
      have := hc j (by omega)
      rw [List.getElem?_eq_getElem hlt] at hj
      simp only [Option.map_some, Option.some.injEq] at hj
      have e2 : xs.getD j 0 = xs[j] := by simp [List.getD, hlt]
      rw [e2, hj] at this
      rw [← this]
      unfold Addr.add
      by_cases hj0 : j = 0 <;> simp [hj0]
    · have e1 : ((cellsOf full).toList.take 0 ++ (xs.map (Value.int .i64) ++ (cellsOf full).toList.drop (0 + (xs.map (Value.int .i64)).length))).toArray = cellsOf (xs ++ full.drop n) := by
        simp [cellsOf, hl]
      rw [e1]
      have e2 : goInt (xs.map (Value.int .i64)).length = .int .i64 n := by rw [List.length_map, hl]; rfl
      rw [e2]
      exact h _ (setRow_heap w g _ _ t _ hg) ⟨rfl, rfl, rfl, by simp, fun k _ hne => setRow_other w g k _ (fun e => hne (by rw [e]))⟩
theorem results_none {fn : Func} (h : fn.results = #[]) (tmps : Array Value) (P : Program) (w : World) : (results fn tmps).run P w = .ok (.tuple #[]) w := by simp [results, h]
/-- a cut of an array, from its head -/
theorem run_cut_arr {P : Program} (t e : TypeId) (N : Nat) (ht : P.underlying t = some (.array N e)) (hinfo : (P.info? e).map (fun i => (i.zero, i.size, i.bytes)) = some (some (.int .i64 0), 1, 8)) (g h : Nat) (hh : h ≤ N) (w : World) :
    (Instr.sliceAt t (.pointer (some ⟨g, 0, none⟩)) none (some (.int .i64 (h : Int))) none).run P w = .ok (.slice (some ⟨g, 0, none⟩) h N) w := by
  obtain ⟨i, h1, _, h3, _⟩ := info_parts hinfo
  have hh' : (h : Int) ≤ (N : Int) := by omega
  simp [Instr.sliceAt, Instr.sureAddr, run_underlying ht, Instr.sliceBounds, run_sliceBound, Go.sizeOf, typeInfo, h1, hh', Addr.add]
/-- what a row of the claim tells of a slice of integers that came in -/
def IsRow (k : IntKind) (w : World) (a : Option Addr) (len cap : Nat) (zs : List Int) : Prop :=
  (a = none ∧ len = 0 ∧ cap = 0 ∧ zs = []) ∨
  ∃ x, a = some x ∧ len ≤ cap ∧ cap ≤ maxLen ∧ zs.length = cap ∧ (∀ i, i < zs.length → w.cell? (x.add i) = some (.int k (zs.getD i 0))) ∧ ∀ n ∈ zs, (Lit.int k n).wf = true
theorem IsRow.le {k : IntKind} {w : World} {a : Option Addr} {len cap : Nat} {zs : List Int} (h : IsRow k w a len cap zs) : len ≤ 9223372036854775807 := by
  rcases h with ⟨_, h, _⟩ | ⟨x, _, h1, h2, _⟩
  · omega
  · unfold maxLen at h2; omega
theorem IsRow.rd {w : World} {a : Option Addr} {len cap : Nat} {zs : List Int} (h : IsRow .i64 w a len cap zs) : Rd w (· < w.heap.size) a len cap (zs.take len) := by
  rcases h with ⟨rfl, rfl, rfl, rfl⟩ | ⟨⟨b, o, spot⟩, rfl, h1, h2, h3, hc, _⟩
  · exact Rd.nil_ _ _ _ _ (fun _ => rfl)
  · refine ⟨by rw [List.length_take]; omega, h1, (fun h => by cases h), fun hn => ?_⟩
    have h0 := hc 0 (by omega)
    have hspot : spot = none := by simpa [Addr.add] using World.cell?_spot h0
    subst hspot
    refine ⟨b, o, rfl, ?_, ?_, fun i hi => ?_⟩
    · exact World.block_lt_of_cell? w _ h0
    · exact World.block_lt_of_cell? w _ h0
    · have := hc i (by omega)
      have e : (zs.take len).getD i 0 = zs.getD i 0 := by simp [List.getD, hi]
      rw [e, ← this]
      unfold Addr.add
      by_cases hi0 : i = 0 <;> simp [hi0]

theorem ret_bool {a b : Bool} (h : a = b) : Ending.returned (.bool a) = .returned (.bool b) := by rw [h]
theorem ret_int {a b : Int} (h : a = b) : Ending.returned (.int .i64 a) = .returned (.int .i64 b) := by rw [h]
theorem below_drewN' {B : Nat} {a w : World} (h : Below B a w) (n : Nat) : Below B a (w.drewN n) := ⟨h.os, h.tape, h.output, h.size, h.block⟩
/-- a world that has drawn, and drawn again -/
def Drawn (w w' : World) : Prop := ∃ q, w' = w.drewN q
theorem Drawn.refl (w : World) : Drawn w w := ⟨0, rfl⟩
theorem Drawn.more {w w' : World} (h : Drawn w w') (n : Nat) : Drawn w (w'.drewN n) := by
  obtain ⟨q, rfl⟩ := h; exact ⟨q + n, by rw [World.drewN_drewN]⟩
theorem Drawn.drew {w w' : World} (h : Drawn w w') : Drawn w w'.drew := h.more 1
theorem Drawn.trans {a b c : World} (h : Drawn a b) (k : Drawn b c) : Drawn a c := by
  obtain ⟨q, rfl⟩ := k; exact h.more q
theorem Drawn.heap {w w' : World} (h : Drawn w w') : w'.heap = w.heap := by obtain ⟨q, rfl⟩ := h; rfl
theorem Drawn.cell {w w' : World} (h : Drawn w w') {a : Addr} {v : Value} (hc : w.cell? a = some v) : w'.cell? a = some v := by obtain ⟨q, rfl⟩ := h; exact hc
theorem Drawn.below {w w' : World} (h : Drawn w w') (B : Nat) : Below B w w' := by obtain ⟨q, rfl⟩ := h; exact below_drewN' (Below.refl _ _) q
theorem Drawn.rd {w w' : World} {P : Nat → Prop} {A : Option Addr} {n c : Nat} {xs : List Int} (h : Drawn w w') (hr : Rd w P A n c xs) : Rd w' P A n c xs := by obtain ⟨q, rfl⟩ := h; exact hr
theorem Drawn.arr {w w' : World} {g : Nat} {t : TypeId} {xs : List Int} (h : Drawn w w') (hr : Arr w g t xs) : Arr w' g t xs := by obtain ⟨q, rfl⟩ := h; exact hr
theorem Drawn.grown {w w' : World} (h : Drawn w w') (r : Option Nat) : w.grownBy w' r := by obtain ⟨q, rfl⟩ := h; exact ⟨rfl, rfl, rfl, Nat.le_refl _, fun _ _ _ => rfl⟩
theorem quiet_add_left {P : Program} {f : FuncId} {args : Array Value} {w : World} {a n : Nat} {v : Value}
    (h : Calls P f args (w.drewN (a + n)) fun e w' => e = .returned v ∧ w.drewN (a + n) = w') :
    Calls P f args (w.drewN (a + n)) fun e w'' => e = .returned v ∧ ∃ m, w'' = w.drewN (a + m) :=
  h.mono fun _ _ ⟨he, hm⟩ => ⟨he, n, hm.symm⟩
theorem quiet_left {P : Program} {f : FuncId} {args : Array Value} {w : World} {n : Nat} {v : Value}
    (h : Calls P f args (w.drewN n) fun e w' => e = .returned v ∧ w.drewN n = w') : Calls P f args (w.drewN n) fun e w'' => e = .returned v ∧ ∃ m, w'' = w.drewN m :=
  h.mono fun _ _ ⟨he, hm⟩ => ⟨he, n, hm.symm⟩
theorem quiet_drawn {P : Program} {f : FuncId} {args : Array Value} {w : World} {n : Nat} {v : Value}
    (h : Calls P f args (w.drewN n) fun e w' => e = .returned v ∧ Drawn (w.drewN n) w') : Calls P f args (w.drewN n) fun e w'' => e = .returned v ∧ ∃ m, w'' = w.drewN m :=
  h.mono fun _ _ ⟨he, m, hm⟩ => ⟨he, n + m, by rw [hm, World.drewN_drewN]⟩
theorem quiet_add_drawn {P : Program} {f : FuncId} {args : Array Value} {w : World} {a n : Nat} {v : Value}
    (h : Calls P f args (w.drewN (a + n)) fun e w' => e = .returned v ∧ Drawn (w.drewN (a + n)) w') :
    Calls P f args (w.drewN (a + n)) fun e w'' => e = .returned v ∧ ∃ m, w'' = w.drewN (a + m) :=
  h.mono fun _ _ ⟨he, m, hm⟩ => ⟨he, n + m, by rw [hm, World.drewN_drewN, Nat.add_assoc]⟩
theorem grown_trans {a b c : World} {r : Option Nat} (h : a.grownBy b r) (k : b.grownBy c r) : a.grownBy c r :=
  ⟨k.os.trans h.os, k.tape.trans h.tape, k.output.trans h.output, Nat.le_trans h.size k.size, fun i hi hne => (k.block i (Nat.lt_of_lt_of_le hi h.size) hne).trans (h.block i hi hne)⟩
theorem grown_set {a w : World} {g i : Nat} (h : a.grownBy w (some g)) (u : Value) : a.grownBy (w.setCell ⟨g, i, none⟩ u) (some g) :=
  ⟨h.os, h.tape, h.output, by simpa [World.setCell] using h.size, fun k hk hne => (Below.heap_setCell w _ u k (fun e => hne (by rw [e]))).trans (h.block k hk hne)⟩
theorem grown_drew {a w : World} {r : Option Nat} (h : a.grownBy w r) : a.grownBy w.drew r := ⟨h.os, h.tape, h.output, h.size, h.block⟩
theorem grown_drewN {a w : World} {r : Option Nat} (h : a.grownBy w r) (n : Nat) : a.grownBy (w.drewN n) r := ⟨h.os, h.tape, h.output, h.size, h.block⟩
theorem below_drewN {B : Nat} {a w : World} (h : Below B a w) (n : Nat) : Below B a (w.drewN n) := ⟨h.os, h.tape, h.output, h.size, h.block⟩
theorem grown_below {a w : World} {g B : Nat} (h : a.grownBy w (some g)) (hB : B ≤ a.heap.size) (hg : B ≤ g) : Below B a w :=
  ⟨h.os, h.tape, h.output, h.size, fun k hk => h.block k (by omega) (fun e => by injection e with e; omega)⟩
theorem below_grown {a w : World} (h : Below a.heap.size a w) (r : Option Nat) : a.grownBy w r := ⟨h.os, h.tape, h.output, h.size, fun i hi _ => h.block i hi⟩
end Nt
