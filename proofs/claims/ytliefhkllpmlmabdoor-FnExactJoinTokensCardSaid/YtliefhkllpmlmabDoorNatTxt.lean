/-
  The text of a natural: l01Text of the model, limbsText of the program.
-/
import Derived.Test.YtliefhkllpmlmabDoorGrpA
import Derived.Test.YtliefhkllpmlmabDoorDigits
import Derived.Test.YtliefhkllpmlmabDoorBuild
namespace Nt
open Go Go.RowKit
/-- a limb's four digits -/
def limb4 (x : Int) : List UInt8 := (Lib.decDigits (10000 + x.toNat)).drop 1
/-- the text of the last limb and of m limbs below it -/
def txtK (xs : List Int) (m : Nat) : List UInt8 := Lib.decDigits (xs.getD (xs.length - 1) 0).toNat ++ (xs.reverse.tail.take m).flatMap limb4
/-- the text of a natural -/
def txtN (xs : List Int) : List UInt8 := if xs = [] then [48] else txtK xs (xs.length - 1)
theorem txtK_zero (xs : List Int) : txtK xs 0 = Lib.decDigits (xs.getD (xs.length - 1) 0).toNat := by simp [txtK]
theorem rev_get {xs : List Int} {m : Nat} (h : m + 2 ≤ xs.length) : xs.reverse.tail[m]? = some (xs.getD (xs.length - 2 - m) 0) := by
  rw [List.getElem?_tail, List.getElem?_reverse (by omega), show xs.length - 1 - (m + 1) = xs.length - 2 - m by omega]
  simp [List.getD, show xs.length - 2 - m < xs.length by omega]
theorem txtK_succ {xs : List Int} {m : Nat} (h : m + 2 ≤ xs.length) : txtK xs (m + 1) = txtK xs m ++ limb4 (xs.getD (xs.length - 2 - m) 0) := by
  unfold txtK
  have hl : m < xs.reverse.tail.length := by simp; omega
  rw [List.take_succ_eq_append_getElem hl, List.flatMap_append, ← List.append_assoc]
  congr 1
  have := rev_get h
  rw [List.getElem?_eq_getElem hl] at this
  injection this with this
  rw [this]
  simp
theorem limbs_get {xs : List Int} (h : Limbs xs) {k : Nat} (hk : k < xs.length) : 0 ≤ xs.getD k 0 ∧ xs.getD k 0 < 10000 := by
  rw [show xs.getD k 0 = xs[k] by simp [List.getD, hk]]
  exact h _ (List.getElem_mem hk)
theorem str_tail (l : List UInt8) : (⟨l.toArray⟩ : ByteArray).extract 1 l.length = ⟨(l.drop 1).toArray⟩ := by
  apply ByteArray.ext
  simp only [ByteArray.data_extract, List.extract_toArray, List.extract_eq_take_drop, List.drop_one]
  rw [List.take_of_length_le (by simp)]
end Nt
namespace Go.Proofs.YtliefhkllpmlmabDoor
open Go Go.RowKit Nt
theorem limb4_len (x : Int) (h0 : 0 ≤ x) (h1 : x < 10000) : (limb4 x).length ≤ 20000 := by
  unfold limb4
  have := digits_len (10000 + x.toNat)
  rw [List.length_drop]
  omega
theorem txtK_len {xs : List Int} (hl : Limbs xs) (h0 : 0 < xs.length) : ∀ m, m + 1 ≤ xs.length → (txtK xs m).length ≤ 20000 * (m + 1)
  | 0, _ => by
    rw [txtK_zero]
    have := limbs_get hl (k := xs.length - 1) (by omega)
    have := digits_len (xs.getD (xs.length - 1) 0).toNat
    omega
  | m + 1, h => by
    have ih := txtK_len hl h0 m (by omega)
    rw [txtK_succ (by omega), List.length_append]
    have := limbs_get hl (k := xs.length - 2 - m) (by omega)
    have := limb4_len _ this.1 this.2
    omega
theorem digits_pos (n : Nat) : 1 ≤ (Lib.decDigits n).length := by
  by_cases h : n < 10
  · rw [Lib.decDigits_one h]; simp
  · rw [digits_more h]; simp

set_option maxHeartbeats 1600000 in
theorem l01Text_any (A : Option Addr) (n c : Nat) (xs : List Int) (P : Nat → Prop) (w : World) (hr : Rd w P A n c xs) (hl : Limbs xs) (hn : n ≤ 1000) :
    Calls Tryd.prog 36 #[.slice A n c] w fun e w' => e = .returned (.string ⟨(txtN xs).toArray⟩) ∧ Below w.heap.size w w' := by
  have hlen := hr.len
  by_cases h0 : n = 0
  · have HV : Hid (txtN xs = [48]) := by show _ = _; unfold txtN; rw [if_pos (List.length_eq_zero_iff.1 (by omega))]
    subst h0
    clear hr hl hlen
    go_enter Tryd.func36, Tryd.ntmps36
    go_wp2
    go_ret
    exact ⟨ret_str' (by rw [HV.out]), Below.refl _ _⟩
  obtain ⟨k, rfl⟩ : ∃ k, n = k + 1 := ⟨n - 1, by omega⟩
  have HLM := Lib.hid hl
  have HLEN := Lib.hid hlen
  have HV : Hid (txtN xs = txtK xs k) := by show _ = _; unfold txtN; rw [if_neg (fun e => by rw [e] at hlen; simp at hlen), hlen]; rfl
  have HK := Lib.hid (fun m (h : m ≤ k) => txtK_len hl (by omega) m (by omega))
  have HS := Lib.hid (fun m (h : m + 1 ≤ k) => txtK_succ (xs := xs) (m := m) (by omega))
  obtain ⟨b, o, rfl, hP, hbl, hc⟩ := hr.2.2.2 (by omega)
  have hx := hc k (by omega)
  have hlast := limbs_get hl (k := k) (by omega)
  obtain ⟨y, hy⟩ : ∃ y : Nat, xs.getD k 0 = (y : Int) := ⟨(xs.getD k 0).toNat, by omega⟩
  have HZ : Hid (txtK xs 0 = Lib.decDigits y) := by show _ = _; rw [txtK_zero, hlen, Nat.add_sub_cancel, hy]; rfl
  rw [hy] at hx hlast
  have HC := Lib.hid hc
  have hk0 : (0 : Int) ≤ (k : Int) := by omega
  have hk1 : (k : Int) < (k : Int) + 1 := by omega
  clear hr hl hlen hc hy h0
  go_enter Tryd.func36, Tryd.ntmps36
  go_wp2_with fail
  refine (l00Digits_any y (by omega) w).mono ?_
  rintro e w1 ⟨rfl, b1⟩
  rw [← HZ.out]
  have HB1 := Lib.hid b1
  clear b1 hx hlast HZ
  go_wp2
  go_loopw [3, 4] (fun t i wr => ∃ j m : Nat, j + m = k ∧ i = .int .i64 ((j : Int) - 1) ∧ t = .string ⟨(txtK xs m).toArray⟩ ∧ Hid (Below w.heap.size w wr)) (fun _ i _ => (intOf i + 1).toNat)
  case atStart => exact ⟨k, 0, by omega, by go_num, rfl, HB1⟩
  case round =>
    obtain ⟨j, m, hjm, rfl, rfl, HB⟩ := hrel
    cases j with
    | zero =>
      obtain rfl : m = k := by omega
      go_wp2
      go_ret
      exact ⟨ret_str' (by rw [HV.out]), HB.out⟩
    | succ j =>
      have hcj := HC.out j (by omega)
      have hlj := limbs_get HLM.out (k := j) (by have := HLEN.out; omega)
      have HSJ := HS.out m (by omega)
      have hidx : xs.length - 2 - m = j := by have := HLEN.out; omega
      rw [hidx] at HSJ
      obtain ⟨x, hx⟩ : ∃ x : Nat, xs.getD j 0 = (x : Int) := ⟨(xs.getD j 0).toNat, by omega⟩
      rw [hx] at hcj hlj HSJ
      have HDG : Hid (∀ W : World, Calls Tryd.prog 69 #[.int .i64 (10000 + (x : Int))] W fun e w' => e = .returned (.string ⟨(Lib.decDigits (10000 + x)).toArray⟩) ∧ Below W.heap.size W w') := fun W => by
        have h := l00Digits_any (10000 + x) (by omega) W
        rwa [show ((10000 + x : Nat) : Int) = 10000 + (x : Int) by omega] at h
      have HL4 : Hid (limb4 (x : Int) = (Lib.decDigits (10000 + x)).drop 1) := rfl
      have hp := digits_pos (10000 + x)
      have hq := digits_len (10000 + x)
      have hqt := HK.out m (by omega)
      have hln : ¬ 9223372036854775807 < (txtK xs m).length + ((Lib.decDigits (10000 + x)).length - 1) := by omega
      have cj := (HB.out.cell (p := ⟨b, o + j, none⟩) hbl).trans hcj
      have hj0 : (0 : Int) ≤ (j : Int) := by omega
      have hj1 : (j : Int) < (k : Int) + 1 := by omega
      have hw1 : IntKind.i64.wrap (10000 + (x : Int)) = 10000 + (x : Int) := IntWalk.i64_in _ (by omega)
      have HSJ' := Lib.hid HSJ
      generalize Lib.decDigits (10000 + x) = dg at *
      have HTL := Lib.hid (str_tail dg)
      clear hcj hx HSJ hlj
      go_wp2_with fail
      refine (HDG.out wr).mono ?_
      rintro e w2 ⟨rfl, b2⟩
      have HB2 := Lib.hid (HB.out.trans (b2.mono HB.out.size))
      clear b2 cj
      go_wp2
      go_roundw
      case rel => exact ⟨j, m + 1, by omega, rfl, by rw [HSJ'.out, HL4.out, HTL.out, str_app], HB2⟩
      case measure => simp [intOf]

theorem builder_on {T e B b : Nat} {bs : List Value} {w w' : World} (h : Lib.IsBuilderF T e B b bs w) (hb : Below w.heap.size w w') : Lib.IsBuilderF T e B b bs w' := by
  have key : ∀ p, Lib.BuilderAtF T e B b p bs w → Lib.BuilderAtF T e B b p bs w' := by
    rintro p ⟨hB, v, hh, hown, hne⟩
    refine ⟨hB, v, (hb.block b (Array.getElem?_eq_some_iff.1 hh).1).trans hh, hown.kept (row := none) ⟨hb.os, hb.tape, hb.output, hb.size, fun k hk _ => hb.block k hk⟩ ?_, hne⟩
    cases hv : v.ownBlock with
    | none => exact .inl rfl
    | some g => exact .inr (by simp)
  exact h.elim (fun x => .inl (key _ x)) (fun x => .inr (key _ x))

set_option maxHeartbeats 1600000 in
theorem limbsText_any (A : Option Addr) (n c : Nat) (xs : List Int) (P : Nat → Prop) (w : World) (hr : Rd w P A n c xs) (hl : Limbs xs) (hn : n ≤ 1000) (ht : Pow10 w) :
    Calls Tryd.prog 38 #[.slice A n c] w fun e w' => e = .returned (.string ⟨(txtN xs).toArray⟩) ∧ Below w.heap.size w w' := by
  have hlen := hr.len
  by_cases h0 : n = 0
  · have HV : Hid (txtN xs = [48]) := by show _ = _; unfold txtN; rw [if_pos (List.length_eq_zero_iff.1 (by omega))]
    subst h0
    clear hr hl hlen ht
    go_enter Tryd.func38, Tryd.ntmps38
    go_wp2
    go_ret
    exact ⟨ret_str' (by rw [HV.out]), Below.refl _ _⟩
  obtain ⟨k, rfl⟩ : ∃ k, n = k + 1 := ⟨n - 1, by omega⟩
  have HLM := Lib.hid hl
  have HLEN := Lib.hid hlen
  have HV : Hid (txtN xs = txtK xs k) := by show _ = _; unfold txtN; rw [if_neg (fun e => by rw [e] at hlen; simp at hlen), hlen]; rfl
  have HK := Lib.hid (fun m (h : m ≤ k) => txtK_len hl (by omega) m (by omega))
  have HS := Lib.hid (fun m (h : m + 1 ≤ k) => txtK_succ (xs := xs) (m := m) (by omega))
  obtain ⟨b, o, rfl, hP, hbl, hc⟩ := hr.2.2.2 (by omega)
  have hx := hc k (by omega)
  have hlast := limbs_get hl (k := k) (by omega)
  obtain ⟨y, hy⟩ : ∃ y : Nat, xs.getD k 0 = (y : Int) := ⟨(xs.getD k 0).toNat, by omega⟩
  have HZ : Hid (txtK xs 0 = Lib.decDigits y) := by show _ = _; rw [txtK_zero, hlen, Nat.add_sub_cancel, hy]; rfl
  rw [hy] at hx hlast
  have HC := Lib.hid hc
  have hk0 : (0 : Int) ≤ (k : Int) := by omega
  have hk1 : (k : Int) < (k : Int) + 1 := by omega
  have HPW := Lib.hid ht
  have HI0 := Lib.hid (Lib.IsBuilderF.of (Lib.fresh_isBuilder 86 5 w))
  have HB0 : Hid (Below w.heap.size w (w.alloc (.cells #[.pointer none, .slice none 0 0] 86))) := (Below.refl _ _).alloc (Nat.le_refl _) _
  have hyl := digits_len y
  clear hr hl hlen hc hy h0 ht
  go_enter Tryd.func38, Tryd.ntmps38
  go_wp2_with fail
  refine (itoa_any y (by omega) _ (pow10_on HPW.out HB0.out)).mono ?_
  rintro e w1 ⟨rfl, b1⟩
  have HB1 := Lib.hid (HB0.out.trans (b1.mono HB0.out.size))
  have HI1 := Lib.hid (builder_on HI0.out b1)
  clear b1 hx HI0 HB0
  go_wp2_with fail
  refine (writeString_any w.heap.size w.heap.size [] _ w1 HI1.out (by simp [ByteArray.size]; omega) HB1.out.size).mono ?_
  rintro e w2 ⟨rfl, i2, b2⟩
  have HB2 := Lib.hid (HB1.out.trans b2)
  have HI2 : Hid (Lib.IsBuilderF 86 5 w.heap.size w.heap.size (Lib.byteCells (txtK xs 0)) w2) := by show Lib.IsBuilderF _ _ _ _ _ _; rw [HZ.out]; simpa using i2
  clear b2 i2 HI1 HB1 hlast HZ
  go_wp2
  go_loopw [5] (fun i wr => ∃ j m : Nat, j + m = k ∧ i = .int .i64 ((j : Int) - 1) ∧ Hid (Lib.IsBuilderF 86 5 w.heap.size w.heap.size (Lib.byteCells (txtK xs m)) wr) ∧ Hid (Below w.heap.size w wr)) (fun i _ => (intOf i + 1).toNat)
  case atStart => exact ⟨k, 0, by omega, by go_num, HI2, HB2⟩
  case round =>
    obtain ⟨j, m, hjm, rfl, HI, HB⟩ := hrel
    cases j with
    | zero =>
      obtain rfl : m = k := by omega
      go_wp2_with fail
      refine (Tryd.Builder_String_any_k w.heap.size w.heap.size (txtK xs m) wr HI.out HB.out.size).mono ?_
      rintro e w3 ⟨rfl, i3, b3, k3⟩
      have HB3 := Lib.hid (HB.out.trans b3)
      clear i3 b3 k3
      go_wp2
      go_ret
      exact ⟨ret_str' (by rw [HV.out]), HB3.out⟩
    | succ j =>
      have hcj := HC.out j (by omega)
      have hlj := limbs_get HLM.out (k := j) (by have := HLEN.out; omega)
      have HSJ := HS.out m (by omega)
      have hidx : xs.length - 2 - m = j := by have := HLEN.out; omega
      rw [hidx] at HSJ
      obtain ⟨x, hx⟩ : ∃ x : Nat, xs.getD j 0 = (x : Int) := ⟨(xs.getD j 0).toNat, by omega⟩
      rw [hx] at hcj hlj HSJ
      have HDG : Hid (∀ W : World, Pow10 W → Calls Tryd.prog 72 #[.int .i64 (10000 + (x : Int))] W fun e w' => e = .returned (.string ⟨(Lib.decDigits (10000 + x)).toArray⟩) ∧ Below W.heap.size W w') := fun W hW => by
        have h := itoa_any (10000 + x) (by omega) W hW
        rwa [show ((10000 + x : Nat) : Int) = 10000 + (x : Int) by omega] at h
      have HL4 : Hid (limb4 (x : Int) = (Lib.decDigits (10000 + x)).drop 1) := rfl
      have hp := digits_pos (10000 + x)
      have hq := digits_len (10000 + x)
      have hqt := HK.out m (by omega)
      have cj := (HB.out.cell (p := ⟨b, o + j, none⟩) hbl).trans hcj
      have hj0 : (0 : Int) ≤ (j : Int) := by omega
      have hj1 : (j : Int) < (k : Int) + 1 := by omega
      have hw1 : IntKind.i64.wrap (10000 + (x : Int)) = 10000 + (x : Int) := IntWalk.i64_in _ (by omega)
      have HSJ' := Lib.hid HSJ
      have hx4 : x < 10000 := by omega
      generalize Lib.decDigits (10000 + x) = dg at *
      have HTL := Lib.hid (str_tail dg)
      clear hcj hx HSJ hlj
      go_wp2_with fail
      refine (HDG.out wr (pow10_on HPW.out HB.out)).mono ?_
      rintro e w3 ⟨rfl, b3⟩
      have HB3 := Lib.hid (HB.out.trans (b3.mono HB.out.size))
      have HI3 := Lib.hid (builder_on HI.out b3)
      clear b3 cj HI HB
      go_wp2_with fail
      rw [HTL.out]
      refine (writeString_any w.heap.size w.heap.size (txtK xs m) _ w3 HI3.out (by simp [ByteArray.size]; omega) HB3.out.size).mono ?_
      rintro e w4 ⟨rfl, i4, b4⟩
      have HB4 := Lib.hid (HB3.out.trans b4)
      have HI4 : Hid (Lib.IsBuilderF 86 5 w.heap.size w.heap.size (Lib.byteCells (txtK xs (m + 1))) w4) := by
        show Lib.IsBuilderF _ _ _ _ _ _
        rw [HSJ'.out, HL4.out]
        simpa using i4
      clear b4 i4 HI3 HB3
      go_wp2
      go_roundw
      case rel => exact ⟨j, m + 1, by omega, rfl, HI4, HB4⟩
      case measure => simp [intOf]
end Go.Proofs.YtliefhkllpmlmabDoor
