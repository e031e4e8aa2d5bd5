/-
  A tree put behind nodes: what it does to the list of trees.
-/
import Derived.Test.YtndeimodphmpkaaGrpE
namespace Nt
/-- ms are ns and one tree behind them, at most d deep, with variables below m -/
def Sprout (m : Int) (d : Nat) (ns ms : List Nd) : Prop :=
  ∃ tl : List Nd, ms = ns ++ tl ∧ 1 ≤ tl.length ∧ tl.length + 1 ≤ 2 ^ d ∧ (∀ x ∈ tl, fitN x = true ∧ (x.1 = 2 → x.2.2.2 < m)) ∧
    ∀ ts, trees ns = some ts → ∃ us, trees ms = some (ts ++ us) ∧ us.length = tl.length ∧ ∃ dd : Int, us.getD (us.length - 1) tr0 = ((ts.length : Int), dd) ∧ 1 ≤ dd ∧ dd ≤ d
theorem getT_app (ts us : List Tr) (h : 1 ≤ us.length) : (ts ++ us).getD ((ts ++ us).length - 1) tr0 = us.getD (us.length - 1) tr0 := by
  have e : (ts ++ us).length - 1 = ts.length + (us.length - 1) := by rw [List.length_append]; omega
  rw [e]
  simp [List.getD, List.getElem?_append_right]
theorem getT_left (ts us : List Tr) (i : Nat) (h : i < ts.length) : (ts ++ us).getD i tr0 = ts.getD i tr0 := by simp [List.getD, List.getElem?_append_left h]
theorem sprout_leaf {m : Int} {ns : List Nd} {x : Nd} (hf : fitN x = true) (h2 : two x.1 = false) (h1 : one x.1 = false) (hv : x.1 = 2 → x.2.2.2 < m) : Sprout m 1 ns (ns ++ [x]) := by
  refine ⟨[x], rfl, Nat.le_refl _, Nat.le_refl _, fun y hy => by rw [List.mem_singleton] at hy; subst hy; exact ⟨hf, hv⟩, fun ts ht => ⟨[((ts.length : Int), 1)], ?_, rfl, 1, rfl, by omega, by omega⟩⟩
  rw [trees_snoc, ht]
  show (growT ts x).map _ = _
  unfold growT
  rw [if_neg (by rw [h2]; exact Bool.false_ne_true), if_neg (by rw [h1]; exact Bool.false_ne_true)]
  rfl
theorem sprout_mono {m : Int} {d e : Nat} {ns ms : List Nd} (h : Sprout m d ns ms) (hd : d ≤ e) : Sprout m e ns ms := by
  obtain ⟨tl, h1, h2, h3, h4, h5⟩ := h
  refine ⟨tl, h1, h2, Nat.le_trans h3 (Nat.pow_le_pow_right (by decide) hd), h4, fun ts ht => ?_⟩
  obtain ⟨us, k1, k2, dd, k3, k4, k5⟩ := h5 ts ht
  exact ⟨us, k1, k2, dd, k3, k4, by omega⟩
theorem sprout_vars {m k : Int} {d : Nat} {ns ms : List Nd} (h : Sprout m d ns ms) (hk : m ≤ k) : Sprout k d ns ms := by
  obtain ⟨tl, h1, h2, h3, h4, h5⟩ := h
  exact ⟨tl, h1, h2, h3, fun x hx => ⟨(h4 x hx).1, fun e => Int.lt_of_lt_of_le ((h4 x hx).2 e) hk⟩, h5⟩
theorem sprout_len {m : Int} {d : Nat} {ns ms : List Nd} (h : Sprout m d ns ms) : ns.length < ms.length ∧ ms.length + 1 ≤ ns.length + 2 ^ d := by
  obtain ⟨tl, h1, h2, h3, _⟩ := h
  have : ms.length = ns.length + tl.length := by rw [h1, List.length_append]
  omega
/-- a node over the last tree -/
theorem sprout_step {ts us : List Tr} {x : Nd} {dd : Int} (h2 : two x.1 = false) (h1 : one x.1 = true) (hl : 1 ≤ us.length) (ha : x.2.1 = ((ts ++ us).length : Int) - 1) (hd : us.getD (us.length - 1) tr0 = ((ts.length : Int), dd)) (hdd : 1 ≤ dd) :
    stepT (some (ts ++ us)) x = some (ts ++ (us ++ [((ts.length : Int), dd + 1)])) := by
  show (growT (ts ++ us) x).map _ = _
  have hln : (ts ++ us).length = ts.length + us.length := List.length_append
  unfold growT
  rw [if_neg (by rw [h2]; exact Bool.false_ne_true), if_pos h1, if_pos ⟨by omega, ha⟩]
  have e : x.2.1.toNat = (ts ++ us).length - 1 := by omega
  rw [e, getT_app ts us hl, hd]
  dsimp only
  rw [show max 1 (dd + 1) = dd + 1 by omega]
  simp
theorem sprout_one {m : Int} {d : Nat} {ns ms : List Nd} {x : Nd} (h : Sprout m d ns ms) (hf : fitN x = true) (h2 : two x.1 = false) (h1 : one x.1 = true) (ha : x.2.1 = (ms.length : Int) - 1) : Sprout m (d + 1) ns (ms ++ [x]) := by
  obtain ⟨tl, rfl, k1, k2, k3, k4⟩ := h
  have hx2 : x.1 ≠ 2 := fun e => by unfold one at h1; rw [e] at h1; exact absurd h1 (by decide)
  refine ⟨tl ++ [x], by simp, by simp, by rw [List.length_append, Nat.pow_succ]; show tl.length + 1 + 1 ≤ _; omega, fun y hy => ?_, fun ts ht => ?_⟩
  · rcases List.mem_append.1 hy with hy | hy
    · exact k3 y hy
    · rw [List.mem_singleton] at hy; subst hy; exact ⟨hf, fun e => absurd e hx2⟩
  · obtain ⟨us, q1, q2, dd, q3, q4, q5⟩ := k4 ts ht
    have hlen := trees_len q1
    refine ⟨us ++ [((ts.length : Int), dd + 1)], ?_, by simp; omega, dd + 1, by simp [List.getD], by omega, by omega⟩
    rw [trees_snoc, q1]
    exact sprout_step h2 h1 (by omega) (by rw [hlen]; exact ha) q3 q4
theorem sprout_two {m : Int} {d : Nat} {ns ms ps : List Nd} {x : Nd} (h : Sprout m d ns ms) (k : Sprout m d ms ps) (hf : fitN x = true) (h2 : two x.1 = true) (ha : x.2.1 = (ms.length : Int) - 1) (hb : x.2.2.1 = (ps.length : Int) - 1) : Sprout m (d + 1) ns (ps ++ [x]) := by
  obtain ⟨tl, rfl, a1, a2, a3, a4⟩ := h
  obtain ⟨sl, rfl, b1, b2, b3, b4⟩ := k
  have hx2 : x.1 ≠ 2 := fun e => by unfold two at h2; rw [e] at h2; exact absurd h2 (by decide)
  refine ⟨tl ++ sl ++ [x], by simp, by simp; omega, by rw [List.length_append, List.length_append, Nat.pow_succ]; show tl.length + sl.length + 1 + 1 ≤ _; omega, fun y hy => ?_, fun ts ht => ?_⟩
  · rcases List.mem_append.1 hy with hy | hy
    · rcases List.mem_append.1 hy with hy | hy
      · exact a3 y hy
      · exact b3 y hy
    · rw [List.mem_singleton] at hy; subst hy; exact ⟨hf, fun e => absurd e hx2⟩
  · obtain ⟨us, q1, q2, dd, q3, q4, q5⟩ := a4 ts ht
    obtain ⟨vs, r1, r2, ee, r3, r4, r5⟩ := b4 _ q1
    have l1 := trees_len q1
    have l2 := trees_len r1
    have l1' : (ts ++ us).length = ts.length + us.length := List.length_append
    have l2' : (ts ++ us ++ vs).length = ts.length + us.length + vs.length := by rw [List.length_append, l1']
    refine ⟨us ++ vs ++ [((ts.length : Int), max (max 1 (ee + 1)) (dd + 1))], ?_, by simp; omega, max (max 1 (ee + 1)) (dd + 1), by simp [List.getD], by omega, by omega⟩
    rw [trees_snoc, r1]
    show (growT (ts ++ us ++ vs) x).map _ = _
    have eb : x.2.2.1.toNat = (ts ++ us ++ vs).length - 1 := by omega
    have gb : (ts ++ us ++ vs).getD ((ts ++ us ++ vs).length - 1) tr0 = (((ts ++ us).length : Int), ee) := by rw [getT_app _ _ (by omega)]; exact r3
    have ea : x.2.1.toNat = (ts ++ us).length - 1 := by omega
    have ga : (ts ++ us ++ vs).getD ((ts ++ us).length - 1) tr0 = ((ts.length : Int), dd) := by
      rw [getT_left _ _ _ (by omega), getT_app _ _ (by omega)]
      exact q3
    unfold growT
    rw [if_pos h2, if_pos ⟨by omega, by omega⟩, eb, gb]
    dsimp only
    rw [if_pos ⟨by omega, by omega⟩, ea, ga]
    simp
/-- a tree alone is an expression -/
theorem sprout_ok {m : Int} {d : Nat} {ms : List Nd} (h : Sprout m d [] ms) (hd : d ≤ 12) (hl : ms.length ≤ 60) : okE ms = true ∧ ∃ us dd, trees ms = some us ∧ us.length = ms.length ∧ us.getD (us.length - 1) tr0 = (0, dd) ∧ 1 ≤ dd ∧ dd ≤ d := by
  obtain ⟨tl, rfl, a1, a2, a3, a4⟩ := h
  obtain ⟨us, q1, q2, dd, q3, q4, q5⟩ := a4 [] trees_nil
  rw [List.nil_append] at q1
  refine ⟨?_, us, dd, q1, q2, q3, q4, q5⟩
  have hall : ms.all fitN = true := List.all_eq_true.2 fun x hx => (a3 x hx).1
  unfold okE
  rw [hall, q1]
  show (decide _ && decide _ && true && (decide _ && decide _)) = true
  rw [← q2, q3, decide_eq_true (show 1 ≤ us.length by omega), decide_eq_true (show us.length ≤ 60 by omega), decide_eq_true (show ((([] : List Tr).length : Int), dd).1 = 0 by rfl), decide_eq_true (show ((([] : List Tr).length : Int), dd).2 ≤ 12 by show dd ≤ 12; omega)]
  rfl
end Nt
