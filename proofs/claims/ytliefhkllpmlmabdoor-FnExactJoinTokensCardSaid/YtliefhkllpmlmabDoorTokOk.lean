/-
  Which tokens are right: TokenOK of the program and of the model.
-/
import Derived.Test.YtliefhkllpmlmabDoorGrpA
namespace Nt
open Go Go.RowKit
def punB (c : Int) : Bool := c == 43 || c == 45 || c == 42 || c == 47 || c == 94 || c == 40 || c == 41
def punS (s : ByteArray) : Bool := decide (s = ⟨#[43]⟩) || decide (s = ⟨#[45]⟩) || decide (s = ⟨#[42]⟩) || decide (s = ⟨#[47]⟩) || decide (s = ⟨#[94]⟩) || decide (s = ⟨#[40]⟩) || decide (s = ⟨#[41]⟩)
def tokB (k n : Int) (s : ByteArray) : Bool :=
  if k = 1 then (decide (0 ≤ n) && decide (n ≤ 999999999)) && s.toList.isEmpty
  else if k = 2 then (decide (0 ≤ n) && decide (n ≤ 3)) && s.toList.isEmpty
  else if k = 3 then (n == 0) && punS s else false
theorem tok_bytes_ne {a b : ByteArray} (h : ¬ a = b) : (a.toList == b.toList) = false := by
  rw [beq_eq_false_iff_ne]
  intro hk
  rw [Go.ByteArray.toList_eq, Go.ByteArray.toList_eq] at hk
  exact h (ByteArray.ext (Array.toList_inj.mp hk))
theorem punS_size {s : ByteArray} (h : ¬ s.size = 1) : punS s = false := by
  unfold punS
  have hk : ∀ c : UInt8, decide (s = ⟨#[c]⟩) = false := by
    intro c
    rw [decide_eq_false_iff_not]
    intro e
    exact h (by rw [e]; rfl)
  simp only [hk, Bool.or_self]
theorem punS_one (c : UInt8) : punS ⟨#[c]⟩ = punB (c.toNat : Int) := by
  unfold punS punB
  have hk : ∀ d : UInt8, decide ((⟨#[c]⟩ : ByteArray) = ⟨#[d]⟩) = ((c.toNat : Int) == (d.toNat : Int)) := by
    intro d
    rw [Bool.eq_iff_iff, decide_eq_true_eq, beq_iff_eq]
    constructor
    · intro e
      injection e with e
      injection e with e
      injection e with e
      rw [e]
    · intro e
      have : c = d := UInt8.toNat.inj (by exact_mod_cast e)
      rw [this]
  simp only [hk]
  rfl
theorem wrap_byte (c : UInt8) : wrap32 (c.toNat : Int) = c.toNat := by
  have := c.toNat_lt
  unfold wrap32
  omega
theorem one_byte {s : ByteArray} (h : s.size = 1) : ∃ c : UInt8, s = ⟨#[c]⟩ := by
  obtain ⟨d⟩ := s
  obtain ⟨l⟩ := d
  match l, h with
  | [c], _ => exact ⟨c, rfl⟩
/-- a token's struct lies in block b -/
def TokAt (w : World) (b : Nat) (t : TypeId) (k n : Int) (s : ByteArray) : Prop := w.heap[b]? = some (.cells #[.int .i64 k, .int .i64 n, .string s] t (0, 0))
variable {w w' : World} {b : Nat} {t : TypeId} {k n : Int} {s : ByteArray}
theorem TokAt.c0 (h : TokAt w b t k n s) : w.cell? ⟨b, 0, none⟩ = some (.int .i64 k) := by rw [cell_of_row w b 0 _ t (0, 0) h]; rfl
theorem TokAt.c1 (h : TokAt w b t k n s) : w.cell? ⟨b, 1, none⟩ = some (.int .i64 n) := by rw [cell_of_row w b 1 _ t (0, 0) h]; rfl
theorem TokAt.c2 (h : TokAt w b t k n s) : w.cell? ⟨b, 2, none⟩ = some (.string s) := by rw [cell_of_row w b 2 _ t (0, 0) h]; rfl
theorem TokAt.lt (h : TokAt w b t k n s) : b < w.heap.size := by
  rcases Nat.lt_or_ge b w.heap.size with hlt | hge
  · exact hlt
  · unfold TokAt at h; rw [Array.getElem?_eq_none hge] at h; cases h
theorem TokAt.on (h : TokAt w b t k n s) (hb : Below w.heap.size w w') : TokAt w' b t k n s := (hb.block b h.lt).trans h
theorem TokAt.new (w : World) (t : TypeId) (k n : Int) (s : ByteArray) : TokAt (w.alloc (.cells #[.int .i64 k, .int .i64 n, .string s] t)) w.heap.size t k n s := heap_alloc_new w _
theorem tok_below1 (w : World) (o : Obj) : Below w.heap.size w (w.alloc o) := (Below.refl _ _).alloc (Nat.le_refl _) _
end Nt
namespace Go.Proofs.YtliefhkllpmlmabDoor
open Go Go.RowKit Nt

set_option maxHeartbeats 800000 in
theorem isPunct_any (c : Int) (w : World) : Calls Tryd.prog 83 #[.int .i32 c] w fun e w' => e = .returned (.bool (punB c)) ∧ w = w' := by
  by_cases h0 : c = 43
  · subst h0
    go_enter Tryd.func83, Tryd.ntmps83
    go_wp2
    go_ret
    exact ⟨rfl, rfl⟩
  have e0 : (c == 43) = false := by simpa using h0
  clear h0
  by_cases h1 : c = 45
  · subst h1
    go_enter Tryd.func83, Tryd.ntmps83
    go_wp2
    go_ret
    exact ⟨rfl, rfl⟩
  have e1 : (c == 45) = false := by simpa using h1
  clear h1
  by_cases h2 : c = 42
  · subst h2
    go_enter Tryd.func83, Tryd.ntmps83
    go_wp2
    go_ret
    exact ⟨rfl, rfl⟩
  have e2 : (c == 42) = false := by simpa using h2
  clear h2
  by_cases h3 : c = 47
  · subst h3
    go_enter Tryd.func83, Tryd.ntmps83
    go_wp2
    go_ret
    exact ⟨rfl, rfl⟩
  have e3 : (c == 47) = false := by simpa using h3
  clear h3
  by_cases h4 : c = 94
  · subst h4
    go_enter Tryd.func83, Tryd.ntmps83
    go_wp2
    go_ret
    exact ⟨rfl, rfl⟩
  have e4 : (c == 94) = false := by simpa using h4
  clear h4
  by_cases h5 : c = 40
  · subst h5
    go_enter Tryd.func83, Tryd.ntmps83
    go_wp2
    go_ret
    exact ⟨rfl, rfl⟩
  have e5 : (c == 40) = false := by simpa using h5
  clear h5
  by_cases h6 : c = 41
  · subst h6
    go_enter Tryd.func83, Tryd.ntmps83
    go_wp2
    go_ret
    exact ⟨rfl, rfl⟩
  have e6 : (c == 41) = false := by simpa using h6
  clear h6
  have HP : Hid (punB c = false) := by show _ = _; unfold punB; simp only [e0, e1, e2, e3, e4, e5, e6, Bool.or_self]
  go_enter Tryd.func83, Tryd.ntmps83
  go_wp2
  go_ret
  exact ⟨ret_bool HP.out.symm, rfl⟩

set_option maxHeartbeats 800000 in
theorem l04Punct_any (s : ByteArray) (w : World) : Calls Tryd.prog 80 #[.string s] w fun e w' => e = .returned (.bool (punS s)) ∧ w = w' := by
  by_cases h0 : s = ⟨#[43]⟩
  · subst h0
    have HP : Hid (punS ⟨#[43]⟩ = true) := by show _ = _; decide
    go_enter Tryd.func80, Tryd.ntmps80
    go_wp2
    go_ret
    exact ⟨ret_bool HP.out.symm, rfl⟩
  have e0 : (s.toList == [43]) = false := by rw [show ([43] : List UInt8) = (⟨#[43]⟩ : ByteArray).toList from by rw [Go.ByteArray.toList_eq]]; exact tok_bytes_ne h0
  have d0 := decide_eq_false h0
  clear h0
  by_cases h1 : s = ⟨#[45]⟩
  · subst h1
    have HP : Hid (punS ⟨#[45]⟩ = true) := by show _ = _; decide
    go_enter Tryd.func80, Tryd.ntmps80
    go_wp2
    go_ret
    exact ⟨ret_bool HP.out.symm, rfl⟩
  have e1 : (s.toList == [45]) = false := by rw [show ([45] : List UInt8) = (⟨#[45]⟩ : ByteArray).toList from by rw [Go.ByteArray.toList_eq]]; exact tok_bytes_ne h1
  have d1 := decide_eq_false h1
  clear h1
  by_cases h2 : s = ⟨#[42]⟩
  · subst h2
    have HP : Hid (punS ⟨#[42]⟩ = true) := by show _ = _; decide
    go_enter Tryd.func80, Tryd.ntmps80
    go_wp2
    go_ret
    exact ⟨ret_bool HP.out.symm, rfl⟩
  have e2 : (s.toList == [42]) = false := by rw [show ([42] : List UInt8) = (⟨#[42]⟩ : ByteArray).toList from by rw [Go.ByteArray.toList_eq]]; exact tok_bytes_ne h2
  have d2 := decide_eq_false h2
  clear h2
  by_cases h3 : s = ⟨#[47]⟩
  · subst h3
    have HP : Hid (punS ⟨#[47]⟩ = true) := by show _ = _; decide
    go_enter Tryd.func80, Tryd.ntmps80
    go_wp2
    go_ret
    exact ⟨ret_bool HP.out.symm, rfl⟩
  have e3 : (s.toList == [47]) = false := by rw [show ([47] : List UInt8) = (⟨#[47]⟩ : ByteArray).toList from by rw [Go.ByteArray.toList_eq]]; exact tok_bytes_ne h3
  have d3 := decide_eq_false h3
  clear h3
  by_cases h4 : s = ⟨#[94]⟩
  · subst h4
    have HP : Hid (punS ⟨#[94]⟩ = true) := by show _ = _; decide
    go_enter Tryd.func80, Tryd.ntmps80
    go_wp2
    go_ret
    exact ⟨ret_bool HP.out.symm, rfl⟩
  have e4 : (s.toList == [94]) = false := by rw [show ([94] : List UInt8) = (⟨#[94]⟩ : ByteArray).toList from by rw [Go.ByteArray.toList_eq]]; exact tok_bytes_ne h4
  have d4 := decide_eq_false h4
  clear h4
  by_cases h5 : s = ⟨#[40]⟩
  · subst h5
    have HP : Hid (punS ⟨#[40]⟩ = true) := by show _ = _; decide
    go_enter Tryd.func80, Tryd.ntmps80
    go_wp2
    go_ret
    exact ⟨ret_bool HP.out.symm, rfl⟩
  have e5 : (s.toList == [40]) = false := by rw [show ([40] : List UInt8) = (⟨#[40]⟩ : ByteArray).toList from by rw [Go.ByteArray.toList_eq]]; exact tok_bytes_ne h5
  have d5 := decide_eq_false h5
  clear h5
  by_cases h6 : s = ⟨#[41]⟩
  · subst h6
    have HP : Hid (punS ⟨#[41]⟩ = true) := by show _ = _; decide
    go_enter Tryd.func80, Tryd.ntmps80
    go_wp2
    go_ret
    exact ⟨ret_bool HP.out.symm, rfl⟩
  have e6 : (s.toList == [41]) = false := by rw [show ([41] : List UInt8) = (⟨#[41]⟩ : ByteArray).toList from by rw [Go.ByteArray.toList_eq]]; exact tok_bytes_ne h6
  have d6 := decide_eq_false h6
  clear h6
  have HP : Hid (punS s = false) := by show _ = _; unfold punS; simp only [d0, d1, d2, d3, d4, d5, d6, Bool.or_self]
  clear d0 d1 d2 d3 d4 d5 d6
  go_enter Tryd.func80, Tryd.ntmps80
  go_wp2
  go_ret
  exact ⟨ret_bool HP.out.symm, rfl⟩

set_option maxHeartbeats 1600000 in
theorem implTokenOK_any (k n : Int) (s : ByteArray) (w : World) (hs : s.size ≤ 1048576) : Calls Tryd.prog 55 #[.agg #[.int .i64 k, .int .i64 n, .string s]] w fun e w' => e = .returned (.bool (tokB k n s)) ∧ Below w.heap.size w w' := by
  have HB := Lib.hid (tok_below1 w (.cells #[.int .i64 k, .int .i64 n, .string s] 45))
  have HR := Lib.hid (TokAt.new w 45 k n s)
  have hc0 := HR.out.c0
  have hc1 := HR.out.c1
  have hc2 := HR.out.c2
  clear HR
  by_cases h1 : k = 1
  · subst h1
    by_cases ga : n < 0
    · have HT : Hid (tokB 1 n s = false) := by show _ = _; unfold tokB; simp; omega
      have q1 : decide ((0 : Int) ≤ n) = false := by simp; omega
      go_enter Tryd.func55, Tryd.ntmps55
      go_wp2
      go_ret
      exact ⟨ret_bool HT.out.symm, HB.out⟩
    by_cases gb : 999999999 < n
    · have HT : Hid (tokB 1 n s = false) := by show _ = _; unfold tokB; simp; omega
      have q1 : decide ((0 : Int) ≤ n) = true := by simp; omega
      have q2 : decide (n ≤ 999999999) = false := by simp; omega
      go_enter Tryd.func55, Tryd.ntmps55
      go_wp2
      go_ret
      exact ⟨ret_bool HT.out.symm, HB.out⟩
    have q1 : decide ((0 : Int) ≤ n) = true := by simp; omega
    have q2 : decide (n ≤ 999999999) = true := by simp; omega
    have HT : Hid (tokB 1 n s = s.toList.isEmpty) := by show _ = _; unfold tokB; simp only [q1, q2]; simp
    go_enter Tryd.func55, Tryd.ntmps55
    go_wp2
    go_ret
    exact ⟨ret_bool HT.out.symm, HB.out⟩
  have e1 : (k == 1) = false := by simpa using h1
  by_cases h2 : k = 2
  · subst h2
    by_cases ga : n < 0
    · have HT : Hid (tokB 2 n s = false) := by show _ = _; unfold tokB; simp; omega
      have q1 : decide ((0 : Int) ≤ n) = false := by simp; omega
      go_enter Tryd.func55, Tryd.ntmps55
      go_wp2
      go_ret
      exact ⟨ret_bool HT.out.symm, HB.out⟩
    by_cases gb : 3 < n
    · have HT : Hid (tokB 2 n s = false) := by show _ = _; unfold tokB; simp; omega
      have q1 : decide ((0 : Int) ≤ n) = true := by simp; omega
      have q2 : decide (n ≤ 3) = false := by simp; omega
      go_enter Tryd.func55, Tryd.ntmps55
      go_wp2
      go_ret
      exact ⟨ret_bool HT.out.symm, HB.out⟩
    have q1 : decide ((0 : Int) ≤ n) = true := by simp; omega
    have q2 : decide (n ≤ 3) = true := by simp; omega
    have HT : Hid (tokB 2 n s = s.toList.isEmpty) := by show _ = _; unfold tokB; simp only [q1, q2]; simp
    go_enter Tryd.func55, Tryd.ntmps55
    go_wp2
    go_ret
    exact ⟨ret_bool HT.out.symm, HB.out⟩
  have e2 : (k == 2) = false := by simpa using h2
  by_cases h3 : k = 3
  · subst h3
    by_cases hn : n = 0
    · subst hn
      have HT : Hid (tokB 3 0 s = punS s) := by show _ = _; unfold tokB; simp
      by_cases h1s : s.size = 1
      · obtain ⟨c, rfl⟩ := one_byte h1s
        have HU := Lib.hid (punS_one c)
        have hcl := c.toNat_lt
        have hix : ((⟨#[c]⟩ : ByteArray).size : Int) = 1 := rfl
        go_enter Tryd.func55, Tryd.ntmps55
        go_wp2_with (go_at_call 83; refine (isPunct_any _ _).mono ?_; rintro e w1 ⟨rfl, rfl⟩)
        go_ret
        exact ⟨ret_bool (by rw [HT.out, HU.out]; exact congrArg punB (wrap_byte c)), HB.out⟩
      · have HU := Lib.hid (punS_size h1s)
        have hz : ((s.size : Int) == 1) = false := by simp; omega
        clear h1s
        go_enter Tryd.func55, Tryd.ntmps55
        go_wp2
        go_ret
        exact ⟨ret_bool (by rw [HT.out, HU.out]), HB.out⟩
    · have hz : (n == 0) = false := by simpa using hn
      have HT : Hid (tokB 3 n s = false) := by show _ = _; unfold tokB; simp [hz]
      clear hn
      go_enter Tryd.func55, Tryd.ntmps55
      go_wp2
      go_ret
      exact ⟨ret_bool HT.out.symm, HB.out⟩
  have e3 : (k == 3) = false := by simpa using h3
  have HT : Hid (tokB k n s = false) := by show _ = _; unfold tokB; rw [if_neg h1, if_neg h2, if_neg h3]
  clear h1 h2 h3
  go_enter Tryd.func55, Tryd.ntmps55
  go_wp2
  go_ret
  exact ⟨ret_bool HT.out.symm, HB.out⟩

set_option maxHeartbeats 1600000 in
theorem specTokenOK_any (k n : Int) (s : ByteArray) (w : World) (hs : s.size ≤ 1048576) : Calls Tryd.prog 49 #[.agg #[.int .i64 k, .int .i64 n, .string s]] w fun e w' => e = .returned (.bool (tokB k n s)) ∧ Below w.heap.size w w' := by
  have HB := Lib.hid (tok_below1 w (.cells #[.int .i64 k, .int .i64 n, .string s] 45))
  have HR := Lib.hid (TokAt.new w 45 k n s)
  have hc0 := HR.out.c0
  have hc1 := HR.out.c1
  have hc2 := HR.out.c2
  clear HR
  by_cases h1 : k = 1
  · subst h1
    by_cases ga : n < 0
    · have HT : Hid (tokB 1 n s = false) := by show _ = _; unfold tokB; simp; omega
      have q1 : decide ((0 : Int) ≤ n) = false := by simp; omega
      go_enter Tryd.func49, Tryd.ntmps49
      go_wp2_with (go_at_call 79; refine (l01In_any _ _ _ _).mono ?_; rintro e w1 ⟨rfl, rfl⟩; simp only [q1, Bool.false_and, Bool.and_false])
      go_ret
      exact ⟨ret_bool HT.out.symm, HB.out⟩
    by_cases gb : 999999999 < n
    · have HT : Hid (tokB 1 n s = false) := by show _ = _; unfold tokB; simp; omega
      have q1 : decide ((0 : Int) ≤ n) = true := by simp; omega
      have q2 : decide (n ≤ 999999999) = false := by simp; omega
      go_enter Tryd.func49, Tryd.ntmps49
      go_wp2_with (go_at_call 79; refine (l01In_any _ _ _ _).mono ?_; rintro e w1 ⟨rfl, rfl⟩; simp only [q1, q2, Bool.false_and, Bool.and_false])
      go_ret
      exact ⟨ret_bool HT.out.symm, HB.out⟩
    have q1 : decide ((0 : Int) ≤ n) = true := by simp; omega
    have q2 : decide (n ≤ 999999999) = true := by simp; omega
    have HT : Hid (tokB 1 n s = s.toList.isEmpty) := by show _ = _; unfold tokB; simp only [q1, q2]; simp
    go_enter Tryd.func49, Tryd.ntmps49
    go_wp2_with (go_at_call 79; refine (l01In_any _ _ _ _).mono ?_; rintro e w1 ⟨rfl, rfl⟩; simp only [q1, q2, Bool.and_self])
    go_ret
    exact ⟨ret_bool HT.out.symm, HB.out⟩
  have e1 : (k == 1) = false := by simpa using h1
  by_cases h2 : k = 2
  · subst h2
    by_cases ga : n < 0
    · have HT : Hid (tokB 2 n s = false) := by show _ = _; unfold tokB; simp; omega
      have q1 : decide ((0 : Int) ≤ n) = false := by simp; omega
      go_enter Tryd.func49, Tryd.ntmps49
      go_wp2_with (go_at_call 79; refine (l01In_any _ _ _ _).mono ?_; rintro e w1 ⟨rfl, rfl⟩; simp only [q1, Bool.false_and, Bool.and_false])
      go_ret
      exact ⟨ret_bool HT.out.symm, HB.out⟩
    by_cases gb : 3 < n
    · have HT : Hid (tokB 2 n s = false) := by show _ = _; unfold tokB; simp; omega
      have q1 : decide ((0 : Int) ≤ n) = true := by simp; omega
      have q2 : decide (n ≤ 3) = false := by simp; omega
      go_enter Tryd.func49, Tryd.ntmps49
      go_wp2_with (go_at_call 79; refine (l01In_any _ _ _ _).mono ?_; rintro e w1 ⟨rfl, rfl⟩; simp only [q1, q2, Bool.false_and, Bool.and_false])
      go_ret
      exact ⟨ret_bool HT.out.symm, HB.out⟩
    have q1 : decide ((0 : Int) ≤ n) = true := by simp; omega
    have q2 : decide (n ≤ 3) = true := by simp; omega
    have HT : Hid (tokB 2 n s = s.toList.isEmpty) := by show _ = _; unfold tokB; simp only [q1, q2]; simp
    go_enter Tryd.func49, Tryd.ntmps49
    go_wp2_with (go_at_call 79; refine (l01In_any _ _ _ _).mono ?_; rintro e w1 ⟨rfl, rfl⟩; simp only [q1, q2, Bool.and_self])
    go_ret
    exact ⟨ret_bool HT.out.symm, HB.out⟩
  have e2 : (k == 2) = false := by simpa using h2
  by_cases h3 : k = 3
  · subst h3
    by_cases hn : n = 0
    · subst hn
      have HT : Hid (tokB 3 0 s = punS s) := by show _ = _; unfold tokB; simp
      go_enter Tryd.func49, Tryd.ntmps49
      go_wp2_with (go_at_call 80; refine (l04Punct_any _ _).mono ?_; rintro e w1 ⟨rfl, rfl⟩)
      go_ret
      exact ⟨ret_bool HT.out.symm, HB.out⟩
    · have hz : (n == 0) = false := by simpa using hn
      have HT : Hid (tokB 3 n s = false) := by show _ = _; unfold tokB; simp [hz]
      clear hn
      go_enter Tryd.func49, Tryd.ntmps49
      go_wp2
      go_ret
      exact ⟨ret_bool HT.out.symm, HB.out⟩
  have e3 : (k == 3) = false := by simpa using h3
  have HT : Hid (tokB k n s = false) := by show _ = _; unfold tokB; rw [if_neg h1, if_neg h2, if_neg h3]
  clear h1 h2 h3
  go_enter Tryd.func49, Tryd.ntmps49
  go_wp2
  go_ret
  exact ⟨ret_bool HT.out.symm, HB.out⟩

end Go.Proofs.YtliefhkllpmlmabDoor
