/-
  Words for memory: a slice of ints that reads as a list; a row of the call's own that is known whole.
-/
import Derived.Test.YtnagmhmjhhfmcaaMath
import Derived.WalkKit
import Derived.WalkSpells
import Derived.WalkLawsBesides
import Derived.Lib.Hide
import Derived.Deep.Draws
namespace Nt
open Go Go.RowKit

/-- the slice value '.slice A n c' reads as the numbers xs; its block is one of P -/
def Rd (w : World) (P : Nat → Prop) (A : Option Addr) (n c : Nat) (xs : List Int) : Prop :=
  xs.length = n ∧ n ≤ c ∧ (0 < n → ∃ b o, A = some ⟨b, o, none⟩ ∧ P b ∧ b < w.heap.size ∧ ∀ i, i < n → w.cell? ⟨b, o + i, none⟩ = some (.int .i64 (xs.getD i 0)))

theorem Rd.at_ {w : World} {P : Nat → Prop} {A : Option Addr} {n c : Nat} {xs : List Int} (h : Rd w P A n c xs) (hn : 0 < n) :
    ∃ b o, A = some ⟨b, o, none⟩ ∧ P b ∧ b < w.heap.size ∧ ∀ i, i < n → w.cell? ⟨b, o + i, none⟩ = some (.int .i64 (xs.getD i 0)) := h.2.2 hn
theorem Rd.len {w : World} {P : Nat → Prop} {A : Option Addr} {n c : Nat} {xs : List Int} (h : Rd w P A n c xs) : xs.length = n := h.1
theorem Rd.cap {w : World} {P : Nat → Prop} {A : Option Addr} {n c : Nat} {xs : List Int} (h : Rd w P A n c xs) : n ≤ c := h.2.1
theorem Rd.keep {w w' : World} {P : Nat → Prop} {A : Option Addr} {n c : Nat} {xs : List Int} (h : Rd w P A n c xs) (hs : w.heap.size ≤ w'.heap.size)
    (hk : ∀ b, P b → b < w.heap.size → w'.heap[b]? = w.heap[b]?) : Rd w' P A n c xs :=
  ⟨h.1, h.2.1, fun hn => by
    obtain ⟨b, o, e, hp, hlt, hc⟩ := h.2.2 hn
    exact ⟨b, o, e, hp, by omega, fun i hi => (World.cell?_of_block (a := ⟨b, o + i, none⟩) (hk b hp hlt)).trans (hc i hi)⟩⟩
theorem Rd.mono {w : World} {P Q : Nat → Prop} {A : Option Addr} {n c : Nat} {xs : List Int} (h : Rd w P A n c xs) (hpq : ∀ b, P b → b < w.heap.size → Q b) : Rd w Q A n c xs :=
  ⟨h.1, h.2.1, fun hn => by
    obtain ⟨b, o, e, hp, hlt, hc⟩ := h.2.2 hn
    exact ⟨b, o, e, hpq b hp hlt, hlt, hc⟩⟩
theorem Rd.nil_ (w : World) (P : Nat → Prop) (A : Option Addr) (c : Nat) : Rd w P A 0 c [] := ⟨rfl, Nat.zero_le _, fun h => absurd h (by omega)⟩
theorem Rd.below {w w' : World} {B : Nat} {A : Option Addr} {n c : Nat} {xs : List Int} (h : Rd w (· < B) A n c xs) (hb : Below B w w') : Rd w' (· < B) A n c xs :=
  h.keep hb.size fun b hp _ => hb.block b hp
theorem Rd.drew {w : World} {P : Nat → Prop} {A : Option Addr} {n c : Nat} {xs : List Int} (h : Rd w P A n c xs) : Rd w.drew P A n c xs := h
theorem Rd.drewN {w : World} {P : Nat → Prop} {A : Option Addr} {n c : Nat} {xs : List Int} (h : Rd w P A n c xs) (k : Nat) : Rd (w.drewN k) P A n c xs := h

/-- numbers as cells; noughts -/
def cellsOf (xs : List Int) : Array Value := (xs.map (Value.int .i64)).toArray
def zeros (n : Nat) : List Int := List.replicate n 0
theorem zeros_len (n : Nat) : (zeros n).length = n := by simp [zeros]
theorem zeros_limbs (n : Nat) : Limbs (zeros n) := limbs_replicate n
theorem zeros_val (n : Nat) : val (zeros n) = 0 := val_replicate n
theorem zeros_getD (n i : Nat) : (zeros n).getD i 0 = 0 := by
  unfold zeros
  rcases Nat.lt_or_ge i n with h | h
  · simp [List.getD, h]
  · simp [List.getD, h]
theorem set_zeros (out : List Int) (k m : Nat) (x : Int) (hk : out.length = k) (hm : 0 < m) : (out ++ zeros m).set k x = (out ++ [x]) ++ zeros (m - 1) := by
  obtain ⟨m, rfl⟩ : ∃ j, m = j + 1 := ⟨m - 1, by omega⟩
  subst hk
  simp [zeros, List.replicate_succ]
theorem cellsOf_get (xs : List Int) (i : Nat) (hi : i < xs.length) : (cellsOf xs)[i]? = some (.int .i64 (xs.getD i 0)) := by simp [cellsOf, List.getD, hi]
theorem cellsOf_size (xs : List Int) : (cellsOf xs).size = xs.length := by simp [cellsOf]

/-- block g is just the numbers xs, none frozen -/
def Arr (w : World) (g : Nat) (t : TypeId) (xs : List Int) : Prop := w.heap[g]? = some (.cells (cellsOf xs) t (0, 0))

theorem Arr.lt {w : World} {g : Nat} {t : TypeId} {xs : List Int} (h : Arr w g t xs) : g < w.heap.size := by
  rcases Nat.lt_or_ge g w.heap.size with hlt | hge
  · exact hlt
  · unfold Arr at h; rw [Array.getElem?_eq_none hge] at h; cases h
theorem Arr.cell {w : World} {g : Nat} {t : TypeId} {xs : List Int} (h : Arr w g t xs) (i : Nat) (hi : i < xs.length) : w.cell? ⟨g, i, none⟩ = some (.int .i64 (xs.getD i 0)) := by
  rw [cell_of_row w g i _ t (0, 0) h, cellsOf_get xs i hi]
theorem Arr.frozen {w : World} {g : Nat} {t : TypeId} {xs : List Int} (h : Arr w g t xs) (i : Nat) : w.frozen? ⟨g, i, none⟩ = false := frozen_of_row w g i _ t h
theorem Arr.keep {w w' : World} {g : Nat} {t : TypeId} {xs : List Int} (h : Arr w g t xs) (hk : w'.heap[g]? = w.heap[g]?) : Arr w' g t xs := hk.trans h
theorem Arr.set_ {w : World} {g : Nat} {t : TypeId} {xs : List Int} (h : Arr w g t xs) (i : Nat) (v : Int) : Arr (w.setCell ⟨g, i, none⟩ (.int .i64 v)) g t (xs.set i v) := by
  unfold Arr at h ⊢
  rw [heap_setCell_same w g i _ t _ h]
  simp [cellsOf, List.map_set]
theorem Arr.rd {w : World} {g : Nat} {t : TypeId} {xs : List Int} (h : Arr w g t xs) (P : Nat → Prop) (hP : P g) (o n c : Nat) (hn : o + n ≤ xs.length) (hc : n ≤ c) :
    Rd w P (some ⟨g, o, none⟩) n c ((xs.drop o).take n) :=
  ⟨by simp; omega, hc, fun _ => ⟨g, o, rfl, hP, h.lt, fun i hi => by
    rw [h.cell (o + i) (by omega)]
    simp [List.getD, List.getElem?_take, hi]⟩⟩
theorem Arr.rd_all {w : World} {g : Nat} {t : TypeId} {xs : List Int} (h : Arr w g t xs) (P : Nat → Prop) (hP : P g) (n c : Nat) (hn : n = xs.length) (hc : n ≤ c) :
    Rd w P (some ⟨g, 0, none⟩) n c xs := by
  have := h.rd P hP 0 n c (by omega) hc
  simpa [hn] using this
theorem Arr.new (w : World) (t : TypeId) (xs : List Int) : Arr (w.alloc (.cells (cellsOf xs) t)) w.heap.size t xs := heap_alloc_new w _

/-- a row of the call's own, whose numbers are xs -/
theorem own_rd {w : World} {base n : Nat} {e : TypeId} {v : Value} {xs : List Int} (h : w.ownsRow base e 1 v n (xs.map (Value.int .i64))) :
    ∃ A c, v = .slice A n c ∧ Rd w (base ≤ ·) A n c xs := by
  have hlen : xs.length = n := by have := h.1; simpa using this
  rcases h.2 with ⟨rfl, rfl⟩ | ⟨g, cap, cur, rfl, hb, hh, hnc, _, _, ht⟩
  · have : xs = [] := List.eq_nil_of_length_eq_zero hlen
    subst this
    exact ⟨_, _, rfl, Rd.nil_ _ _ _ _⟩
  · refine ⟨_, _, rfl, hlen, hnc, fun hn => ⟨g, 0, rfl, hb, ?_, fun i hi => ?_⟩⟩
    · rcases Nat.lt_or_ge g w.heap.size with hlt | hge
      · exact hlt
      · rw [Array.getElem?_eq_none hge] at hh; cases hh
    · rw [h.cellAt _ (by omega)]
      simp [List.getD, hlen, hi]

theorem own_rd' {w : World} {base n c : Nat} {e : TypeId} {A : Option Addr} {xs : List Int} (h : w.ownsRow base e 1 (.slice A n c) n (xs.map (Value.int .i64))) : Rd w (base ≤ ·) A n c xs := by
  obtain ⟨A', c', e', hr⟩ := own_rd h
  injection e' with e1 _ e3
  subst e1 e3
  exact hr
theorem Arr.own {w : World} {g : Nat} {t : TypeId} {xs : List Int} (h : Arr w g t xs) (base : Nat) (hb : base ≤ g) (n c : Nat) (hn : n = xs.length) (hc : c = n) (hm : n ≤ maxLen) : w.ownsRow base t 1 (.slice (some ⟨g, 0, none⟩) n c) n (xs.map (Value.int .i64)) := by
  subst hc hn
  exact ⟨by simp, .inr ⟨g, xs.length, _, rfl, hb, h, Nat.le_refl _, hm, by simp [cellsOf], by simp [cellsOf, List.take_of_length_le]⟩⟩
theorem own_at {w : World} {base n c : Nat} {e : TypeId} {A : Option Addr} {xs : List Value} (h : w.ownsRow base e 1 (.slice A n c) n xs) (hn : 0 < n) : ∃ g, A = some ⟨g, 0, none⟩ ∧ base ≤ g ∧ g < w.heap.size := by
  rcases h.2 with ⟨_, h0⟩ | ⟨g, cap, cur, e', hb, hh, _⟩
  · omega
  · injection e' with e1
    refine ⟨g, e1, hb, ?_⟩
    rcases Nat.lt_or_ge g w.heap.size with hlt | hge
    · exact hlt
    · rw [Array.getElem?_eq_none hge] at hh; cases hh
/-- the marks that the laws write: k, k + 1, .. -/
def marks (k : Int) (n : Nat) : List Int := (List.range n).map fun i => k + (i : Nat)
theorem marks_len (k : Int) (n : Nat) : (marks k n).length = n := by simp [marks]
theorem marks_getD (k : Int) (n i : Nat) (h : i < n) : (marks k n).getD i 0 = k + i := by simp [marks, List.getD, h]
theorem marks_step (k : Int) (xs : List Int) (i : Nat) (h : i < xs.length) : (marks k i ++ xs.drop i).set i (k + i) = marks k (i + 1) ++ xs.drop (i + 1) := by
  rw [drop_cons xs i h]
  have hl := marks_len k i
  rw [List.set_append_right _ _ (by omega), hl, Nat.sub_self, List.set_cons_zero]
  simp [marks, List.range_succ]
/-- make([]int, n) -/
theorem run_make_ints {P : Program} (t e : TypeId) (ht : P.underlying t = some (.slice e)) (hi : (P.info? e).map (fun i => (i.zero, i.size, i.bytes)) = some (some (.int .i64 0), 1, 8)) (n : Nat) (hn : n ≤ 16777216) (w : World) :
    (Instr.makeSlice t (.int .i64 (n : Int)) (.int .i64 (n : Int))).run P w = .ok (.slice (some ⟨w.heap.size, 0, none⟩) n n) (w.alloc (.cells (cellsOf (zeros n)) e)) := by
  obtain ⟨i, h1, h2, h3, h4⟩ := info_parts hi
  have hb : (i.bytes : Int) * (n : Int) ≤ 281474976710656 := by rw [h4]; omega
  have hr := run_make (P := P) w t e i _ ht h1 h2 .i64 .i64 n n (by omega) (by omega) hb (by omega)
  simp only [Int.toNat_natCast] at hr
  rw [hr, h3]
  have : madeCells (Value.int .i64 0).cells (n * 1) = cellsOf (zeros n) := by
    apply Array.toList_inj.1
    rw [Nat.mul_one]
    show (madeCells #[.int .i64 0] n).toList = _
    rw [toList_madeCells_one]
    simp [cellsOf, zeros]
  rw [this]

/-- what a row of the claim tells of a slice of integers that came in -/
def IsRow (k : IntKind) (w : World) (a : Option Addr) (len cap : Nat) (zs : List Int) : Prop :=
  (a = none ∧ len = 0 ∧ cap = 0 ∧ zs = []) ∨
  ∃ x, a = some x ∧ len ≤ cap ∧ cap ≤ maxLen ∧ zs.length = cap ∧ (∀ i, i < zs.length → w.cell? (x.add i) = some (.int k (zs.getD i 0))) ∧ ∀ n ∈ zs, (Lit.int k n).wf = true
theorem IsRow.le {k : IntKind} {w : World} {a : Option Addr} {len cap : Nat} {zs : List Int} (h : IsRow k w a len cap zs) : len ≤ 9223372036854775807 := by
  rcases h with ⟨_, h, _⟩ | ⟨x, _, h1, h2, _⟩
  · omega
  · unfold maxLen at h2; omega
theorem IsRow.rd {w : World} {a : Option Addr} {len cap : Nat} {zs : List Int} (h : IsRow .i64 w a len cap zs) : Rd w (· < w.heap.size) a len cap (zs.take len) := by
  rcases h with ⟨rfl, rfl, rfl, rfl⟩ | ⟨⟨b, o, spot⟩, rfl, h1, h2, h3, hc, _⟩
  · exact Rd.nil_ _ _ _ _
  · refine ⟨by rw [List.length_take]; omega, h1, fun hn => ?_⟩
    have h0 := hc 0 (by omega)
    have hspot : spot = none := by simpa [Addr.add] using World.cell?_spot h0
    subst hspot
    refine ⟨b, o, rfl, ?_, ?_, fun i hi => ?_⟩
    · exact World.block_lt_of_cell? w _ h0
    · exact World.block_lt_of_cell? w _ h0
    · have := hc i (by omega)
      have e : (zs.take len).getD i 0 = zs.getD i 0 := by simp [List.getD, List.getElem?_take, hi]
      rw [e, ← this]
      unfold Addr.add
      by_cases hi0 : i = 0 <;> simp [hi0]

theorem ret_bool {a b : Bool} (h : a = b) : Ending.returned (.bool a) = .returned (.bool b) := by rw [h]
theorem ret_int {a b : Int} (h : a = b) : Ending.returned (.int .i64 a) = .returned (.int .i64 b) := by rw [h]
theorem grown_trans {a b c : World} {r : Option Nat} (h : a.grownBy b r) (k : b.grownBy c r) : a.grownBy c r :=
  ⟨k.os.trans h.os, k.tape.trans h.tape, k.output.trans h.output, Nat.le_trans h.size k.size, fun i hi hne => (k.block i (Nat.lt_of_lt_of_le hi h.size) hne).trans (h.block i hi hne)⟩
theorem grown_set {a w : World} {g i : Nat} (h : a.grownBy w (some g)) (u : Value) : a.grownBy (w.setCell ⟨g, i, none⟩ u) (some g) :=
  ⟨h.os, h.tape, h.output, by simpa [World.setCell] using h.size, fun k hk hne => (Below.heap_setCell w _ u k (fun e => hne (by rw [e]))).trans (h.block k hk hne)⟩
theorem grown_drew {a w : World} {r : Option Nat} (h : a.grownBy w r) : a.grownBy w.drew r := ⟨h.os, h.tape, h.output, h.size, h.block⟩
theorem grown_drewN {a w : World} {r : Option Nat} (h : a.grownBy w r) (n : Nat) : a.grownBy (w.drewN n) r := ⟨h.os, h.tape, h.output, h.size, h.block⟩
theorem below_drewN {B : Nat} {a w : World} (h : Below B a w) (n : Nat) : Below B a (w.drewN n) := ⟨h.os, h.tape, h.output, h.size, h.block⟩
theorem grown_below {a w : World} {g B : Nat} (h : a.grownBy w (some g)) (hB : B ≤ a.heap.size) (hg : B ≤ g) : Below B a w :=
  ⟨h.os, h.tape, h.output, h.size, fun k hk => h.block k (by omega) (fun e => by injection e with e; omega)⟩
theorem below_grown {a w : World} (h : Below a.heap.size a w) (r : Option Nat) : a.grownBy w r := ⟨h.os, h.tape, h.output, h.size, fun i hi _ => h.block i hi⟩
end Nt
