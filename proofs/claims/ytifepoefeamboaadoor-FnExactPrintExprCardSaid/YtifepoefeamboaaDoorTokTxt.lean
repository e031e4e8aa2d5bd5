/-
  Texts of tokens: of the model (l04Text) and of the program (JoinTokens, TokenText).
-/
import Derived.Test.YtifepoefeamboaaDoorNatTxt
import Derived.Test.YtifepoefeamboaaDoorTokOk
namespace Nt
open Go Go.RowKit
/-- a token: its kind, its number, its text -/
abbrev Tk := Int × Int × ByteArray
def tk0 : Tk := (0, 0, ⟨#[]⟩)
def tkB (x : Tk) : Bool := tokB x.1 x.2.1 x.2.2
/-- a token's text -/
def tokT (x : Tk) : List UInt8 := if x.1 = 1 then Lib.decDigits x.2.1.toNat else if x.1 = 2 then 120 :: Lib.decDigits x.2.1.toNat else x.2.2.data.toList
/-- the first m tokens' texts, a blank between -/
def jK (ks : List Tk) : Nat → List UInt8
  | 0 => []
  | m + 1 => (if 0 < m then jK ks m ++ [32] else jK ks m) ++ tokT (ks.getD m tk0)
def codeJ (ks : List Tk) : Int := if 4096 < ks.length then 2 else if 400 < ks.length then 6 else if ks.all tkB = true then 0 else 1
def txtJ (ks : List Tk) : List UInt8 := if codeJ ks = 0 then jK ks ks.length else []
/-- a token begins at cell k of block b -/
def ElT (w : World) (b k : Nat) (x : Tk) : Prop :=
  w.cell? ⟨b, k, none⟩ = some (.int .i64 x.1) ∧ w.cell? ⟨b, k + 1, none⟩ = some (.int .i64 x.2.1) ∧ w.cell? ⟨b, k + 2, none⟩ = some (.string x.2.2)
theorem ElT.keep {w w' : World} {b k : Nat} {x : Tk} (h : ElT w b k x) (hb : w'.heap[b]? = w.heap[b]?) : ElT w' b k x :=
  ⟨(World.cell?_of_block (a := ⟨b, k, none⟩) hb).trans h.1, (World.cell?_of_block (a := ⟨b, k + 1, none⟩) hb).trans h.2.1, (World.cell?_of_block (a := ⟨b, k + 2, none⟩) hb).trans h.2.2⟩
/-- the slice reads as the tokens ks -/
def RdT (w : World) (P : Nat → Prop) (A : Option Addr) (n c : Nat) (ks : List Tk) : Prop :=
  ks.length = n ∧ n ≤ c ∧ (A = none → c = 0) ∧ (0 < n → ∃ b o, A = some ⟨b, o, none⟩ ∧ P b ∧ b < w.heap.size ∧ ∀ i, i < n → ElT w b (o + i * 3) (ks.getD i tk0))
theorem RdT.keep {w w' : World} {P : Nat → Prop} {A : Option Addr} {n c : Nat} {ks : List Tk} (h : RdT w P A n c ks) (hs : w.heap.size ≤ w'.heap.size) (hk : ∀ b, P b → b < w.heap.size → w'.heap[b]? = w.heap[b]?) : RdT w' P A n c ks :=
  ⟨h.1, h.2.1, h.2.2.1, fun hn => by
    obtain ⟨b, o, e, hp, hlt, hc⟩ := h.2.2.2 hn
    exact ⟨b, o, e, hp, by omega, fun i hi => (hc i hi).keep (hk b hp hlt)⟩⟩
theorem RdT.mono {w : World} {P Q : Nat → Prop} {A : Option Addr} {n c : Nat} {ks : List Tk} (h : RdT w P A n c ks) (hpq : ∀ b, P b → b < w.heap.size → Q b) : RdT w Q A n c ks :=
  ⟨h.1, h.2.1, h.2.2.1, fun hn => by
    obtain ⟨b, o, e, hp, hlt, hc⟩ := h.2.2.2 hn
    exact ⟨b, o, e, hpq b hp hlt, hlt, hc⟩⟩
theorem RdT.below {w w' : World} {N : Nat} {A : Option Addr} {n c : Nat} {ks : List Tk} (h : RdT w (· < N) A n c ks) (hb : Below N w w') : RdT w' (· < N) A n c ks := h.keep hb.size fun b hp _ => hb.block b hp
/-- all texts within are short -/
def SmallT (ks : List Tk) : Prop := ∀ x ∈ ks, x.2.2.size ≤ 1048576
theorem SmallT.at_ {ks : List Tk} (h : SmallT ks) (k : Nat) (hk : k < ks.length) : (ks.getD k tk0).2.2.size ≤ 1048576 := by
  rw [show ks.getD k tk0 = ks[k] by simp [List.getD, hk]]
  exact h _ (List.getElem_mem hk)
theorem allT_yes {ks : List Tk} (h : ∀ j, j < ks.length → tkB (ks.getD j tk0) = true) : ks.all tkB = true := by
  rw [List.all_eq_true]
  intro x hx
  obtain ⟨i, hi, rfl⟩ := List.mem_iff_getElem.1 hx
  have := h i hi
  rwa [show ks.getD i tk0 = ks[i] by simp [List.getD, hi]] at this
theorem allT_at {ks : List Tk} (h : ks.all tkB = true) {k : Nat} (hk : k < ks.length) : tkB (ks.getD k tk0) = true := by
  rw [show ks.getD k tk0 = ks[k] by simp [List.getD, hk]]
  exact List.all_eq_true.1 h _ (List.getElem_mem hk)
theorem allT_no {ks : List Tk} {k : Nat} (hk : k < ks.length) (h : tkB (ks.getD k tk0) = false) : ks.all tkB = false := by
  rw [Bool.eq_false_iff]
  intro ha
  rw [allT_at ha hk] at h
  cases h
theorem tokB_1 {n : Int} {s : ByteArray} (h : tokB 1 n s = true) : 0 ≤ n ∧ n ≤ 999999999 := by
  unfold tokB at h
  rw [if_pos rfl] at h
  simp only [Bool.and_eq_true, decide_eq_true_eq] at h
  exact h.1
theorem tokB_2 {n : Int} {s : ByteArray} (h : tokB 2 n s = true) : 0 ≤ n ∧ n ≤ 3 := by
  unfold tokB at h
  rw [if_neg (by decide), if_pos rfl] at h
  simp only [Bool.and_eq_true, decide_eq_true_eq] at h
  exact h.1
theorem tokB_3 {k n : Int} {s : ByteArray} (h : tokB k n s = true) (h1 : k ≠ 1) (h2 : k ≠ 2) : s.size = 1 := by
  unfold tokB at h
  rw [if_neg h1, if_neg h2] at h
  split at h
  · rcases Decidable.em (s.size = 1) with e | e
    · exact e
    · rw [punS_size e] at h
      simp at h
  · cases h
end Nt
namespace Go.Proofs.YtifepoefeamboaaDoor
open Go Go.RowKit Nt
theorem tokT_len {x : Tk} (h : tkB x = true) : (tokT x).length ≤ 1000000001 := by
  obtain ⟨k, n, s⟩ := x
  have h : tokB k n s = true := h
  unfold tokT
  dsimp only
  by_cases h1 : k = 1
  · subst h1
    have := tokB_1 h
    have := digits_len n.toNat
    rw [if_pos rfl]
    show (Lib.decDigits n.toNat).length ≤ _
    omega
  · by_cases h2 : k = 2
    · subst h2
      have := tokB_2 h
      have := digits_len n.toNat
      rw [if_neg (by decide), if_pos rfl, List.length_cons]
      show (Lib.decDigits n.toNat).length + 1 ≤ _
      omega
    · have e := tokB_3 h h1 h2
      rw [if_neg h1, if_neg h2]
      have e : s.data.toList.length = 1 := by simpa using e
      show s.data.toList.length ≤ _
      omega
theorem jK_len {ks : List Tk} (h : ks.all tkB = true) : ∀ m, m ≤ ks.length → (jK ks m).length ≤ 1000000002 * m
  | 0, _ => by simp [jK]
  | m + 1, hm => by
    have ih := jK_len h m (by omega)
    have := tokT_len (allT_at h (k := m) (by omega))
    rw [jK, List.length_append]
    split
    · rw [List.length_append, List.length_singleton]; omega
    · omega

set_option maxHeartbeats 1600000 in
theorem tokText_any (k n : Int) (s : ByteArray) (w : World) (hok : tokB k n s = true) (ht : Pow10 w) :
    Calls Tryd.prog 72 #[.agg #[.int .i64 k, .int .i64 n, .string s]] w fun e w' => e = .returned (.string ⟨(tokT (k, n, s)).toArray⟩) ∧ Below w.heap.size w w' := by
  have HB0 := Lib.hid (tok_below1 w (.cells #[.int .i64 k, .int .i64 n, .string s] 107))
  have HQ0 := Lib.hid (TokAt.new w 107 k n s)
  have HT := Lib.hid ht
  clear ht
  have c0 := HQ0.out.c0
  have c1 := HQ0.out.c1
  have c2 := HQ0.out.c2
  by_cases h1 : k = 1
  · subst h1
    have hn := (tokB_1 hok)
    obtain ⟨m, rfl⟩ : ∃ m : Nat, n = (m : Int) := ⟨n.toNat, by omega⟩
    have HV : Hid (tokT (1, (m : Int), s) = Lib.decDigits m) := rfl
    clear hok
    go_enter Tryd.func72, Tryd.ntmps72
    go_wp2_with fail
    refine (itoa_any m (by omega) _ (pow10_on HT.out HB0.out)).mono ?_
    rintro e w1 ⟨rfl, b1⟩
    have HB1 := Lib.hid (HB0.out.trans (b1.mono HB0.out.size))
    clear b1 c0 c1 c2
    go_wp2
    go_ret
    exact ⟨ret_str' (by rw [HV.out]), HB1.out⟩
  by_cases h2 : k = 2
  · subst h2
    have hn := (tokB_2 hok)
    obtain ⟨m, rfl⟩ : ∃ m : Nat, n = (m : Int) := ⟨n.toNat, by omega⟩
    have HV : Hid (tokT (2, (m : Int), s) = 120 :: Lib.decDigits m) := rfl
    have hl := digits_len m
    have hs1 : ¬ 9223372036854775807 < 1 + (Lib.decDigits m).length := by omega
    have HAP := Lib.hid (str_app [120] (Lib.decDigits m))
    clear hok
    go_enter Tryd.func72, Tryd.ntmps72
    go_wp2_with fail
    refine (itoa_any m (by omega) _ (pow10_on HT.out HB0.out)).mono ?_
    rintro e w1 ⟨rfl, b1⟩
    have HB1 := Lib.hid (HB0.out.trans (b1.mono HB0.out.size))
    clear b1 c0 c1 c2
    generalize Lib.decDigits m = dg at *
    go_wp2
    go_ret
    exact ⟨ret_str' (by rw [HV.out]; exact HAP.out), HB1.out⟩
  have HV : Hid (tokT (k, n, s) = s.data.toList) := by show _ = _; unfold tokT; rw [if_neg h1, if_neg h2]
  have z1 : (k == 1) = false := by simpa using h1
  have z2 : (k == 2) = false := by simpa using h2
  clear h1 h2 hok
  go_enter Tryd.func72, Tryd.ntmps72
  go_wp2
  go_ret
  exact ⟨ret_str' (by rw [HV.out]), HB0.out⟩


theorem copyCheck_k (B b : Nat) (bs : List Value) (w : World) (h : Lib.IsBuilderF 96 5 B b bs w) :
    Calls Tryd.prog 76 #[.pointer (some ⟨b, 0, none⟩)] w fun e w' => e = .returned (.tuple #[]) ∧ Lib.BuilderAtF 96 5 B b (.pointer (some ⟨b, 0, none⟩)) bs w' ∧ Below B w w' ∧ Lib.OthersKept 5 (some b) w w' := by
  rcases h with h | h
  · refine (copyCheck_fresh b w h.cell0 h.shape h.frozen0).mono ?_
    rintro e w' ⟨rfl, rfl⟩
    exact ⟨rfl, h.used _, (Below.refl B w).setCell (p := ⟨b, 0, none⟩) h.1 _, (Lib.OthersKept.refl _ _ w).setCell ⟨b, 0, none⟩ rfl _⟩
  · refine (copyCheck_used b w h.cell0).mono ?_
    rintro e w' ⟨rfl, rfl⟩
    exact ⟨rfl, h, Below.refl B _, Lib.OthersKept.refl _ _ _⟩

theorem cellsTok (w : World) (t : TypeId) (v : Value) : (w.alloc (.cells #[v] t)).cell? ⟨w.heap.size, 0, none⟩ = some v := by
  rw [cell_of_row _ w.heap.size 0 _ t (0, 0) (heap_alloc_new w _)]
  simp
theorem cellsTok0 (w : World) (t : TypeId) (v : Value) (i : Nat) (hi : i < 1) : (w.alloc (.cells #[v] t)).cell? ⟨w.heap.size, i, none⟩ = some v := by
  obtain rfl : i = 0 := by omega
  exact cellsTok w t v

end Go.Proofs.YtifepoefeamboaaDoor
