/-
  Texts of tokens: of the model (l04Text) and of the program (JoinTokens, TokenText).
-/
import Derived.Test.YtliefhkllpmlmabDoorNatTxt
import Derived.Test.YtliefhkllpmlmabDoorTokOk
namespace Nt
open Go Go.RowKit
/-- a token: its kind, its number, its text -/
abbrev Tk := Int × Int × ByteArray
def tk0 : Tk := (0, 0, ⟨#[]⟩)
def tkB (x : Tk) : Bool := tokB x.1 x.2.1 x.2.2
/-- a token's text -/
def tokT (x : Tk) : List UInt8 := if x.1 = 1 then Lib.decDigits x.2.1.toNat else if x.1 = 2 then 120 :: Lib.decDigits x.2.1.toNat else x.2.2.data.toList
/-- the first m tokens' texts, a blank between -/
def jK (ks : List Tk) : Nat → List UInt8
  | 0 => []
  | m + 1 => (if 0 < m then jK ks m ++ [32] else jK ks m) ++ tokT (ks.getD m tk0)
def codeJ (ks : List Tk) : Int := if 4096 < ks.length then 2 else if 400 < ks.length then 6 else if ks.all tkB = true then 0 else 1
def txtJ (ks : List Tk) : List UInt8 := if codeJ ks = 0 then jK ks ks.length else []
/-- a token begins at cell k of block b -/
def ElT (w : World) (b k : Nat) (x : Tk) : Prop :=
  w.cell? ⟨b, k, none⟩ = some (.int .i64 x.1) ∧ w.cell? ⟨b, k + 1, none⟩ = some (.int .i64 x.2.1) ∧ w.cell? ⟨b, k + 2, none⟩ = some (.string x.2.2)
theorem ElT.keep {w w' : World} {b k : Nat} {x : Tk} (h : ElT w b k x) (hb : w'.heap[b]? = w.heap[b]?) : ElT w' b k x :=
  ⟨(World.cell?_of_block (a := ⟨b, k, none⟩) hb).trans h.1, (World.cell?_of_block (a := ⟨b, k + 1, none⟩) hb).trans h.2.1, (World.cell?_of_block (a := ⟨b, k + 2, none⟩) hb).trans h.2.2⟩
/-- the slice reads as the tokens ks -/
def RdT (w : World) (P : Nat → Prop) (A : Option Addr) (n c : Nat) (ks : List Tk) : Prop :=
  ks.length = n ∧ n ≤ c ∧ (A = none → c = 0) ∧ (0 < n → ∃ b o, A = some ⟨b, o, none⟩ ∧ P b ∧ b < w.heap.size ∧ ∀ i, i < n → ElT w b (o + i * 3) (ks.getD i tk0))
theorem RdT.keep {w w' : World} {P : Nat → Prop} {A : Option Addr} {n c : Nat} {ks : List Tk} (h : RdT w P A n c ks) (hs : w.heap.size ≤ w'.heap.size) (hk : ∀ b, P b → b < w.heap.size → w'.heap[b]? = w.heap[b]?) : RdT w' P A n c ks :=
  ⟨h.1, h.2.1, h.2.2.1, fun hn => by
    obtain ⟨b, o, e, hp, hlt, hc⟩ := h.2.2.2 hn
    exact ⟨b, o, e, hp, by omega, fun i hi => (hc i hi).keep (hk b hp hlt)⟩⟩
theorem RdT.mono {w : World} {P Q : Nat → Prop} {A : Option Addr} {n c : Nat} {ks : List Tk} (h : RdT w P A n c ks) (hpq : ∀ b, P b → b < w.heap.size → Q b) : RdT w Q A n c ks :=
  ⟨h.1, h.2.1, h.2.2.1, fun hn => by
    obtain ⟨b, o, e, hp, hlt, hc⟩ := h.2.2.2 hn
    exact ⟨b, o, e, hpq b hp hlt, hlt, hc⟩⟩
theorem RdT.below {w w' : World} {N : Nat} {A : Option Addr} {n c : Nat} {ks : List Tk} (h : RdT w (· < N) A n c ks) (hb : Below N w w') : RdT w' (· < N) A n c ks := h.keep hb.size fun b hp _ => hb.block b hp
/-- all texts within are short -/
def SmallT (ks : List Tk) : Prop := ∀ x ∈ ks, x.2.2.size ≤ 1048576
theorem SmallT.at_ {ks : List Tk} (h : SmallT ks) (k : Nat) (hk : k < ks.length) : (ks.getD k tk0).2.2.size ≤ 1048576 := by
  rw [show ks.getD k tk0 = ks[k] by simp [List.getD, hk]]
  exact h _ (List.getElem_mem hk)
theorem allT_yes {ks : List Tk} (h : ∀ j, j < ks.length → tkB (ks.getD j tk0) = true) : ks.all tkB = true := by
  rw [List.all_eq_true]
  intro x hx
  obtain ⟨i, hi, rfl⟩ := List.mem_iff_getElem.1 hx
  have := h i hi
  rwa [show ks.getD i tk0 = ks[i] by simp [List.getD, hi]] at this
theorem allT_at {ks : List Tk} (h : ks.all tkB = true) {k : Nat} (hk : k < ks.length) : tkB (ks.getD k tk0) = true := by
  rw [show ks.getD k tk0 = ks[k] by simp [List.getD, hk]]
  exact List.all_eq_true.1 h _ (List.getElem_mem hk)
theorem allT_no {ks : List Tk} {k : Nat} (hk : k < ks.length) (h : tkB (ks.getD k tk0) = false) : ks.all tkB = false := by
  rw [Bool.eq_false_iff]
  intro ha
  rw [allT_at ha hk] at h
  cases h
theorem tokB_1 {n : Int} {s : ByteArray} (h : tokB 1 n s = true) : 0 ≤ n ∧ n ≤ 999999999 := by
  unfold tokB at h
  rw [if_pos rfl] at h
  simp only [Bool.and_eq_true, decide_eq_true_eq] at h
  exact h.1
theorem tokB_2 {n : Int} {s : ByteArray} (h : tokB 2 n s = true) : 0 ≤ n ∧ n ≤ 3 := by
  unfold tokB at h
  rw [if_neg (by decide), if_pos rfl] at h
  simp only [Bool.and_eq_true, decide_eq_true_eq] at h
  exact h.1
theorem tokB_3 {k n : Int} {s : ByteArray} (h : tokB k n s = true) (h1 : k ≠ 1) (h2 : k ≠ 2) : s.size = 1 := by
  unfold tokB at h
  rw [if_neg h1, if_neg h2] at h
  split at h
  · rcases Decidable.em (s.size = 1) with e | e
    · exact e
    · rw [punS_size e] at h
      simp at h
  · cases h
end Nt
namespace Go.Proofs.YtliefhkllpmlmabDoor
open Go Go.RowKit Nt
theorem tokT_len {x : Tk} (h : tkB x = true) : (tokT x).length ≤ 1000000001 := by
  obtain ⟨k, n, s⟩ := x
  have h : tokB k n s = true := h
  unfold tokT
  dsimp only
  by_cases h1 : k = 1
  · subst h1
    have := tokB_1 h
    have := digits_len n.toNat
    rw [if_pos rfl]
    show (Lib.decDigits n.toNat).length ≤ _
    omega
  · by_cases h2 : k = 2
    · subst h2
      have := tokB_2 h
      have := digits_len n.toNat
      rw [if_neg (by decide), if_pos rfl, List.length_cons]
      show (Lib.decDigits n.toNat).length + 1 ≤ _
      omega
    · have e := tokB_3 h h1 h2
      rw [if_neg h1, if_neg h2]
      have e : s.data.toList.length = 1 := by simpa using e
      show s.data.toList.length ≤ _
      omega
theorem jK_len {ks : List Tk} (h : ks.all tkB = true) : ∀ m, m ≤ ks.length → (jK ks m).length ≤ 1000000002 * m
  | 0, _ => by simp [jK]
  | m + 1, hm => by
    have ih := jK_len h m (by omega)
    have := tokT_len (allT_at h (k := m) (by omega))
    rw [jK, List.length_append]
    split
    · rw [List.length_append, List.length_singleton]; omega
    · omega

set_option maxHeartbeats 1600000 in
theorem l04Text_any (k n : Int) (s : ByteArray) (w : World) (hok : tokB k n s = true) :
    Calls Tryd.prog 50 #[.agg #[.int .i64 k, .int .i64 n, .string s]] w fun e w' => e = .returned (.string ⟨(tokT (k, n, s)).toArray⟩) ∧ Below w.heap.size w w' := by
  have HB0 := Lib.hid (tok_below1 w (.cells #[.int .i64 k, .int .i64 n, .string s] 45))
  have HQ0 := Lib.hid (TokAt.new w 45 k n s)
  have c0 := HQ0.out.c0
  have c1 := HQ0.out.c1
  have c2 := HQ0.out.c2
  by_cases h1 : k = 1
  · subst h1
    have hn := (tokB_1 hok)
    obtain ⟨m, rfl⟩ : ∃ m : Nat, n = (m : Int) := ⟨n.toNat, by omega⟩
    have HV : Hid (tokT (1, (m : Int), s) = Lib.decDigits m) := rfl
    clear hok
    go_enter Tryd.func50, Tryd.ntmps50
    go_wp2_with fail
    refine (l00Digits_any m (by omega) _).mono ?_
    rintro e w1 ⟨rfl, b1⟩
    have HB1 := Lib.hid (HB0.out.trans (b1.mono HB0.out.size))
    clear b1 c0 c1 c2
    go_wp2
    go_ret
    exact ⟨ret_str' (by rw [HV.out]), HB1.out⟩
  by_cases h2 : k = 2
  · subst h2
    have hn := (tokB_2 hok)
    obtain ⟨m, rfl⟩ : ∃ m : Nat, n = (m : Int) := ⟨n.toNat, by omega⟩
    have HV : Hid (tokT (2, (m : Int), s) = 120 :: Lib.decDigits m) := rfl
    have hl := digits_len m
    have hs1 : ¬ 9223372036854775807 < 1 + (Lib.decDigits m).length := by omega
    have HAP := Lib.hid (str_app [120] (Lib.decDigits m))
    clear hok
    go_enter Tryd.func50, Tryd.ntmps50
    go_wp2_with fail
    refine (l00Digits_any m (by omega) _).mono ?_
    rintro e w1 ⟨rfl, b1⟩
    have HB1 := Lib.hid (HB0.out.trans (b1.mono HB0.out.size))
    clear b1 c0 c1 c2
    generalize Lib.decDigits m = dg at *
    go_wp2
    go_ret
    exact ⟨ret_str' (by rw [HV.out]; exact HAP.out), HB1.out⟩
  have HV : Hid (tokT (k, n, s) = s.data.toList) := by show _ = _; unfold tokT; rw [if_neg h1, if_neg h2]
  have z1 : (k == 1) = false := by simpa using h1
  have z2 : (k == 2) = false := by simpa using h2
  clear h1 h2 hok
  go_enter Tryd.func50, Tryd.ntmps50
  go_wp2
  go_ret
  exact ⟨ret_str' (by rw [HV.out]), HB0.out⟩


set_option maxHeartbeats 1600000 in
theorem tokText_any (k n : Int) (s : ByteArray) (w : World) (hok : tokB k n s = true) (ht : Pow10 w) :
    Calls Tryd.prog 58 #[.agg #[.int .i64 k, .int .i64 n, .string s]] w fun e w' => e = .returned (.string ⟨(tokT (k, n, s)).toArray⟩) ∧ Below w.heap.size w w' := by
  have HB0 := Lib.hid (tok_below1 w (.cells #[.int .i64 k, .int .i64 n, .string s] 45))
  have HQ0 := Lib.hid (TokAt.new w 45 k n s)
  have HT := Lib.hid ht
  clear ht
  have c0 := HQ0.out.c0
  have c1 := HQ0.out.c1
  have c2 := HQ0.out.c2
  by_cases h1 : k = 1
  · subst h1
    have hn := (tokB_1 hok)
    obtain ⟨m, rfl⟩ : ∃ m : Nat, n = (m : Int) := ⟨n.toNat, by omega⟩
    have HV : Hid (tokT (1, (m : Int), s) = Lib.decDigits m) := rfl
    clear hok
    go_enter Tryd.func58, Tryd.ntmps58
    go_wp2_with fail
    refine (itoa_any m (by omega) _ (pow10_on HT.out HB0.out)).mono ?_
    rintro e w1 ⟨rfl, b1⟩
    have HB1 := Lib.hid (HB0.out.trans (b1.mono HB0.out.size))
    clear b1 c0 c1 c2
    go_wp2
    go_ret
    exact ⟨ret_str' (by rw [HV.out]), HB1.out⟩
  by_cases h2 : k = 2
  · subst h2
    have hn := (tokB_2 hok)
    obtain ⟨m, rfl⟩ : ∃ m : Nat, n = (m : Int) := ⟨n.toNat, by omega⟩
    have HV : Hid (tokT (2, (m : Int), s) = 120 :: Lib.decDigits m) := rfl
    have hl := digits_len m
    have hs1 : ¬ 9223372036854775807 < 1 + (Lib.decDigits m).length := by omega
    have HAP := Lib.hid (str_app [120] (Lib.decDigits m))
    clear hok
    go_enter Tryd.func58, Tryd.ntmps58
    go_wp2_with fail
    refine (itoa_any m (by omega) _ (pow10_on HT.out HB0.out)).mono ?_
    rintro e w1 ⟨rfl, b1⟩
    have HB1 := Lib.hid (HB0.out.trans (b1.mono HB0.out.size))
    clear b1 c0 c1 c2
    generalize Lib.decDigits m = dg at *
    go_wp2
    go_ret
    exact ⟨ret_str' (by rw [HV.out]; exact HAP.out), HB1.out⟩
  have HV : Hid (tokT (k, n, s) = s.data.toList) := by show _ = _; unfold tokT; rw [if_neg h1, if_neg h2]
  have z1 : (k == 1) = false := by simpa using h1
  have z2 : (k == 2) = false := by simpa using h2
  clear h1 h2 hok
  go_enter Tryd.func58, Tryd.ntmps58
  go_wp2
  go_ret
  exact ⟨ret_str' (by rw [HV.out]), HB0.out⟩


theorem copyCheck_k (B b : Nat) (bs : List Value) (w : World) (h : Lib.IsBuilderF 86 5 B b bs w) :
    Calls Tryd.prog 84 #[.pointer (some ⟨b, 0, none⟩)] w fun e w' => e = .returned (.tuple #[]) ∧ Lib.BuilderAtF 86 5 B b (.pointer (some ⟨b, 0, none⟩)) bs w' ∧ Below B w w' ∧ Lib.OthersKept 5 (some b) w w' := by
  rcases h with h | h
  · refine (copyCheck_fresh b w h.cell0 h.shape h.frozen0).mono ?_
    rintro e w' ⟨rfl, rfl⟩
    exact ⟨rfl, h.used _, (Below.refl B w).setCell (p := ⟨b, 0, none⟩) h.1 _, (Lib.OthersKept.refl _ _ w).setCell ⟨b, 0, none⟩ rfl _⟩
  · refine (copyCheck_used b w h.cell0).mono ?_
    rintro e w' ⟨rfl, rfl⟩
    exact ⟨rfl, h, Below.refl B _, Lib.OthersKept.refl _ _ _⟩

set_option maxHeartbeats 2000000 in
set_option maxRecDepth 100000 in
theorem writeByte_any (B b : Nat) (l : List UInt8) (x : UInt8) (w : World) (h : Lib.IsBuilderF 86 5 B b (Lib.byteCells l) w) (hlen : l.length + 1 ≤ 140737488355328) (hBw : B ≤ w.heap.size) :
    Calls Tryd.prog 56 #[.pointer (some ⟨b, 0, none⟩), .int .u8 (x.toNat : Int)] w fun e w' => e = .returned .nilIface ∧ Lib.IsBuilderF 86 5 B b (Lib.byteCells (l ++ [x])) w' ∧ Below B w w' ∧ Lib.OthersKept 5 (some b) w w' := by
  obtain ⟨i0, hi, hz0, hz1, hz2⟩ := info_parts info_u8
  have hbl : (Lib.byteCells l).length = l.length := by simp [Lib.byteCells]
  have HCELLS : Hid (Lib.byteCells (l ++ [x]) = Lib.byteCells l ++ [.int .u8 (x.toNat : Int)]) := by
    show _ = _
    rw [Lib.byteCells_append]
    rfl
  go_enter Tryd.func56, Tryd.ntmps56
  go_wp2_with (go_at_call 84; refine (copyCheck_k B b _ _ h).mono ?_)
  rintro e w1 ⟨rfl, h1, hb1, hk1⟩
  obtain ⟨hB, v, hbk, hown, hne⟩ := h1
  have c0 : w1.cell? ⟨b, 0, none⟩ = some (.pointer (some ⟨b, 0, none⟩)) := by rw [Lib.cell_of_heap hbk]; rfl
  have c1 : w1.cell? ⟨b, 1, none⟩ = some v := by rw [Lib.cell_of_heap hbk]; rfl
  have hlt : b < w1.heap.size := by
    rcases Nat.lt_or_ge b w1.heap.size with h' | h'
    · exact h'
    · simp [Array.getElem?_eq_none h'] at hbk
  go_wp2_with (at_builtin; refine wpList_append_ownF _ rfl _ _ 28 rfl B 5 i0 (.int .u8 0) 1 1 Tryd.underlying28 hi hz0 hz1 hz2 rfl (by decide) _ _ _ rfl (hown.alloc _) ⟨w1.heap.size, 0, none⟩ 1 1 [.int .u8 (x.toNat : Int)] rfl rfl ?c1 ?c2 ?c3 ?c4 ?c5 ?_)
  case c1 =>
    intro j u hj
    match j, hj with
    | 0, hj => simp at hj; subst hj; simp [Addr.add]
  case c2 => intro u hu; simp at hu; subst hu; rfl
  case c3 => unfold maxLen; omega
  case c4 => omega
  case c5 => have := hb1.size; simp; omega
  intro v' w2 hown' hgrow _
  have hb2 : w2.heap[b]? = some (.cells #[.pointer (some ⟨b, 0, none⟩), v] 86 (0, 0)) := by
    rw [hgrow.block b (by simp; omega) (fun e => hne e.symm), Lib.alloc_old w1 _ b hlt]
    exact hbk
  have d0 : w2.cell? ⟨b, 0, none⟩ = some (.pointer (some ⟨b, 0, none⟩)) := by rw [Lib.cell_of_heap hb2]; rfl
  have d1 : w2.cell? ⟨b, 1, none⟩ = some v := by rw [Lib.cell_of_heap hb2]; rfl
  have f1 : w2.frozen? ⟨b, 1, none⟩ = false := Lib.frozen_of_heap hb2 1
  obtain ⟨ao, n', cap, rfl⟩ : ∃ ao n' cap, v' = .slice ao n' cap := by
    rcases hown'.2 with ⟨hv, _⟩ | ⟨g, cap, cur, fz, hv, _⟩
    · exact ⟨_, _, _, hv⟩
    · exact ⟨_, _, _, hv⟩
  go_wp2
  go_ret
  refine ⟨rfl, .inr ?_, ?_, ((hk1.alloc _).grown hgrow (Lib.ownsRowF_kind (hown.alloc _))).setCell ⟨b, 1, none⟩ rfl _⟩
  · rw [HCELLS.out]
    exact Lib.BuilderAtF.put (T := 86) (e := 5) hB hb2 (bs' := Lib.byteCells l ++ [.int .u8 (x.toNat : Int)]) (by rw [List.length_append, List.length_singleton, hbl]; exact hown') (by decide)
  · exact ((hb1.alloc (by have := hb1.size; omega) _).grown hgrow (by have := hb1.size; simp; omega) (fun k hk => (hown.lt k hk).1)).setCell (p := ⟨b, 1, none⟩) hB _

set_option maxHeartbeats 800000 in
theorem anyLongTok_any (g N : Nat) (A : Nat → Option Addr) (n c : Nat → Nat) (w : World) (hN : N ≤ 1000) (h0 : ∀ i, i < N → w.cell? ⟨g, i, none⟩ = some (.slice (A i) (n i) (c i))) (hn : ∀ i, i < N → n i ≤ 16777216) :
    Calls Tryd.prog 52 #[.slice (some ⟨g, 0, none⟩) N N] w fun e w' => e = .returned (.bool ((List.range N).any fun i => decide (4096 < n i))) ∧ w = w' := by
  have H0 := Lib.hid h0
  have HN := Lib.hid hn
  clear h0 hn
  go_enter Tryd.func52, Tryd.ntmps52
  go_wp2
  go_loop [4, 7] (fun _ i => ∃ k : Nat, k ≤ N ∧ i = .int .i64 k ∧ Hid (∀ j, j < k → n j ≤ 4096)) (fun _ i => N - (intOf i).toNat)
  case atStart => exact ⟨0, Nat.zero_le _, rfl, Lib.hid fun j hj => by omega⟩
  case round =>
    obtain ⟨k, hk, rfl, HK⟩ := hrel
    by_cases hlt : k < N
    · have c0 := H0.out k hlt
      have hkN : (k : Int) < N := by omega
      have hnk := HN.out k hlt
      have HS : Hid (n k ≤ 4096 → ∀ j, j < k + 1 → n j ≤ 4096) := fun h j hj => by
        by_cases e : j = k
        · subst e; exact h
        · exact HK.out j (by omega)
      have HY : Hid (4096 < n k → (List.range N).any (fun i => decide (4096 < n i)) = true) := fun h => rangeAny_yes hlt (by simpa using h)
      generalize n k = m at *
      generalize A k = B at *
      generalize c k = d at *
      by_cases hb : 4096 < m
      · have hb' : decide ((4096 : Int) < m) = true := by simp; omega
        have HF := Lib.hid (HY.out hb)
        clear HY HS
        go_wp2
        go_ret
        exact ⟨ret_bool HF.out.symm, rfl⟩
      · have hb' : decide ((4096 : Int) < m) = false := by simp; omega
        have HF := Lib.hid (HS.out (by omega))
        clear HY HS
        go_wp2
        go_round
        case rel => exact ⟨k + 1, by omega, by go_num, HF⟩
        case measure => simp [intOf]; omega
    · have HF : Hid ((List.range N).any (fun i => decide (4096 < n i)) = false) := rangeAny_no fun j hj => by simpa using HK.out j (by omega)
      clear HK
      go_wp2
      go_ret
      exact ⟨ret_bool HF.out.symm, rfl⟩

set_option maxHeartbeats 800000 in
theorem joinTok1_any (k n : Int) (s : ByteArray) (w : World) (hs : s.size ≤ 1048576) :
    Calls Tryd.prog 54 #[.agg #[.int .i64 k, .int .i64 n, .string s]] w fun e w' => e = .returned (.bool (!tokB k n s)) ∧ Below w.heap.size w w' := by
  have HB0 := Lib.hid (tok_below1 w (.cells #[.int .i64 k, .int .i64 n, .string s] 45))
  have HQ0 := Lib.hid (TokAt.new w 45 k n s)
  have c0 := HQ0.out.c0
  have c1 := HQ0.out.c1
  have c2 := HQ0.out.c2
  go_enter Tryd.func54, Tryd.ntmps54
  go_wp2_with fail
  refine (implTokenOK_any k n s _ hs).mono ?_
  rintro e w1 ⟨rfl, b1⟩
  have HB1 := Lib.hid (HB0.out.trans (b1.mono HB0.out.size))
  clear b1 c0 c1 c2
  obtain ⟨ok, hok⟩ : ∃ ok, tokB k n s = ok := ⟨_, rfl⟩
  rw [hok]
  have HOK := Lib.hid hok
  clear hok
  go_wp2
  go_ret
  exact ⟨by rw [HOK.out]; rfl, HB1.out⟩

set_option maxHeartbeats 1600000 in
theorem indexBad_any (A : Option Addr) (n c : Nat) (ks : List Tk) (P : Nat → Prop) (w : World) (hr : RdT w P A n c ks) (hs : SmallT ks) (hn : n ≤ 1048576) :
    Calls Tryd.prog 82 #[.slice A n c, .func (.func 54) #[] #[]] w fun e w' => ∃ r : Int, e = .returned (.int .i64 r) ∧ decide (0 ≤ r) = (!ks.all tkB) ∧ Below w.heap.size w w' := by
  have HR := Lib.hid (hr.mono (Q := (· < w.heap.size)) fun _ _ h => h)
  have HL := Lib.hid hr.1
  have HS := Lib.hid hs
  clear hr hs
  go_enter Tryd.func82, Tryd.ntmps82
  go_wp2
  go_loopw [8] (fun i wr => ∃ k : Nat, k ≤ n ∧ i = .int .i64 k ∧ Hid (∀ j, j < k → tkB (ks.getD j tk0) = true) ∧ Hid (Below w.heap.size w wr)) (fun i _ => n - (intOf i).toNat)
  case atStart => exact ⟨0, Nat.zero_le _, rfl, Lib.hid (fun j hj => by omega), Lib.hid (Below.refl _ _)⟩
  case round =>
    obtain ⟨k, hk, rfl, HK, HB⟩ := hrel
    by_cases hlt : k < n
    · obtain ⟨b, o, rfl, hP, _, hc⟩ := HR.out.2.2.2 (by omega)
      have e4 := (hc k hlt).keep (HB.out.block b hP)
      have HNO : Hid (tkB (ks.getD k tk0) = false → decide (0 ≤ (k : Int)) = (!ks.all tkB)) := fun h => by rw [allT_no (by rw [HL.out]; exact hlt) h]; simp
      have HYES : Hid (tkB (ks.getD k tk0) = true → ∀ j, j < k + 1 → tkB (ks.getD j tk0) = true) := fun h j hj => by
        by_cases e : j = k
        · subst e; exact h
        · exact HK.out j (by omega)
      have hss := HS.out.at_ k (by rw [HL.out]; exact hlt)
      obtain ⟨x, hx⟩ : ∃ x, ks.getD k tk0 = x := ⟨_, rfl⟩
      rw [hx] at e4 HNO HYES hss
      clear hx hc
      obtain ⟨tk, tn, ts⟩ := x
      obtain ⟨q0, q1, q2⟩ := e4
      dsimp only at q0 q1 q2 hss
      have hkn : (k : Int) < n := by omega
      go_wp2_with fail
      refine (joinTok1_any tk tn ts wr hss).mono ?_
      rintro e w1 ⟨rfl, bb⟩
      have HB1 := Lib.hid (HB.out.trans (bb.mono HB.out.size))
      clear bb q0 q1 q2
      cases hf : tokB tk tn ts with
      | true =>
        have HF := Lib.hid (HYES.out hf)
        clear HYES HNO hf
        go_wp2
        go_roundw
        case rel => exact ⟨k + 1, by omega, by go_num, HF, HB1⟩
        case measure => simp [intOf]; omega
      | false =>
        have HF := Lib.hid (HNO.out hf)
        clear HYES HNO hf
        go_wp2
        go_ret
        exact ⟨k, rfl, HF.out, HB1.out⟩
    · have HF : Hid (decide (0 ≤ (-1 : Int)) = (!ks.all tkB)) := by
        show _ = _
        rw [allT_yes fun j hj => HK.out j (by have := HL.out; omega)]
        rfl
      clear HK
      go_wp2
      go_ret
      exact ⟨-1, rfl, HF.out, HB.out⟩
theorem containsBad_any (A : Option Addr) (n c : Nat) (ks : List Tk) (P : Nat → Prop) (w : World) (hr : RdT w P A n c ks) (hs : SmallT ks) (hn : n ≤ 1048576) :
    Calls Tryd.prog 53 #[.slice A n c, .func (.func 54) #[] #[]] w fun e w' => e = .returned (.bool (!ks.all tkB)) ∧ Below w.heap.size w w' := by
  have HR := Lib.hid hr
  clear hr
  go_enter Tryd.func53, Tryd.ntmps53
  go_wp2_with fail
  refine (indexBad_any A n c ks P w HR.out hs hn).mono ?_
  rintro e w1 ⟨r, rfl, hd, bb⟩
  have HD := Lib.hid hd
  have HB := Lib.hid bb
  clear bb hd
  go_wp2
  go_ret
  exact ⟨ret_bool HD.out, HB.out⟩

theorem cellsTok (w : World) (t : TypeId) (v : Value) : (w.alloc (.cells #[v] t)).cell? ⟨w.heap.size, 0, none⟩ = some v := by
  rw [cell_of_row _ w.heap.size 0 _ t (0, 0) (heap_alloc_new w _)]
  simp
theorem cellsTok0 (w : World) (t : TypeId) (v : Value) (i : Nat) (hi : i < 1) : (w.alloc (.cells #[v] t)).cell? ⟨w.heap.size, i, none⟩ = some v := by
  obtain rfl : i = 0 := by omega
  exact cellsTok w t v

set_option maxRecDepth 20000 in
set_option maxHeartbeats 3200000 in
theorem implJoinTokens_any (A : Option Addr) (n c : Nat) (ks : List Tk) (P : Nat → Prop) (w : World) (hr : RdT w P A n c ks) (hs : SmallT ks) (hn : n ≤ 1048576) (ht : Pow10 w) :
    Calls Tryd.prog 28 #[.slice A n c] w fun e w' => e = .returned (.tuple #[.string ⟨(txtJ ks).toArray⟩, .int .i64 (codeJ ks)]) ∧ Below w.heap.size w w' := by
  have HR := Lib.hid (hr.mono (Q := (· < w.heap.size)) fun _ _ h => h)
  have HL := Lib.hid hr.1
  have HS := Lib.hid hs
  have HT := Lib.hid ht
  have HB0 : Hid (Below w.heap.size w (w.alloc (.cells #[.slice A n c] 51))) := (Below.refl _ _).alloc (Nat.le_refl _) _
  have HLONG := Lib.hid (anyLongTok_any w.heap.size 1 (fun _ => A) (fun _ => n) (fun _ => c) (w.alloc (.cells #[.slice A n c] 51)) (by omega) (fun i hi => cellsTok0 w _ _ i hi) (fun _ _ => by omega))
  have hany : ((List.range 1).any fun _ => decide (4096 < n)) = decide (4096 < n) := by simp [List.range_succ]
  rw [hany] at HLONG
  clear hr hs ht hany
  by_cases h1 : 4096 < n
  · have HV : Hid (codeJ ks = 2 ∧ txtJ ks = []) := by
      have e : codeJ ks = 2 := by unfold codeJ; rw [if_pos (by rw [HL.out]; exact h1)]
      exact ⟨e, by unfold txtJ; rw [e]; rfl⟩
    rw [decide_eq_true h1] at HLONG
    clear h1
    go_enter Tryd.func28, Tryd.ntmps28
    go_wp2_with fail
    refine HLONG.out.mono ?_
    rintro e w1 ⟨rfl, rfl⟩
    go_wp2
    go_ret2
    exact ⟨by rw [HV.out.1, HV.out.2]; rfl, HB0.out⟩
  rw [decide_eq_false h1] at HLONG
  by_cases h2 : 400 < n
  · have HV : Hid (codeJ ks = 6 ∧ txtJ ks = []) := by
      have e : codeJ ks = 6 := by unfold codeJ; rw [if_neg (by rw [HL.out]; exact h1), if_pos (by rw [HL.out]; exact h2)]
      exact ⟨e, by unfold txtJ; rw [e]; rfl⟩
    have z2 : decide ((400 : Int) < n) = true := by simp; omega
    clear h1 h2
    go_enter Tryd.func28, Tryd.ntmps28
    go_wp2_with fail
    refine HLONG.out.mono ?_
    rintro e w1 ⟨rfl, rfl⟩
    go_wp2
    go_ret2
    exact ⟨by rw [HV.out.1, HV.out.2]; rfl, HB0.out⟩
  have z2 : decide ((400 : Int) < n) = false := by simp; omega
  have HC := Lib.hid (fun (W : World) (h : RdT W (· < w.heap.size) A n c ks) => containsBad_any A n c ks _ W h HS.out hn)
  by_cases h3 : ks.all tkB = true
  case neg =>
    have h3' := (Bool.not_eq_true _).mp h3
    have HV : Hid (codeJ ks = 1 ∧ txtJ ks = []) := by
      have e : codeJ ks = 1 := by unfold codeJ; rw [if_neg (by rw [HL.out]; exact h1), if_neg (by rw [HL.out]; exact h2), if_neg h3]
      exact ⟨e, by unfold txtJ; rw [e]; rfl⟩
    rw [h3'] at HC
    clear h1 h2 h3 h3'
    go_enter Tryd.func28, Tryd.ntmps28
    go_wp2_with fail
    refine HLONG.out.mono ?_
    rintro e w1 ⟨rfl, rfl⟩
    go_wp2_with fail
    refine (HC.out _ (HR.out.below HB0.out)).mono ?_
    rintro e w2 ⟨rfl, b2⟩
    have HB2 := Lib.hid (HB0.out.trans (b2.mono HB0.out.size))
    clear b2
    go_wp2
    go_ret2
    exact ⟨by rw [HV.out.1, HV.out.2]; rfl, HB2.out⟩
  have HV : Hid (codeJ ks = 0 ∧ txtJ ks = jK ks n) := by
    have e : codeJ ks = 0 := by unfold codeJ; rw [if_neg (by rw [HL.out]; exact h1), if_neg (by rw [HL.out]; exact h2), if_pos h3]
    exact ⟨e, by unfold txtJ; rw [if_pos e, HL.out]⟩
  have HOK := Lib.hid h3
  have hn4 : n ≤ 400 := by omega
  rw [h3] at HC
  clear h1 h2 h3
  go_enter Tryd.func28, Tryd.ntmps28
  go_wp2_with fail
  refine HLONG.out.mono ?_
  rintro e w1 ⟨rfl, rfl⟩
  go_wp2_with fail
  refine (HC.out _ (HR.out.below HB0.out)).mono ?_
  rintro e w2 ⟨rfl, b2⟩
  have HB2 := Lib.hid (HB0.out.trans (b2.mono HB0.out.size))
  have HI2 := Lib.hid (Lib.IsBuilderF.of (Lib.fresh_isBuilder 86 5 w2))
  have HB3 : Hid (Below w.heap.size w (w2.alloc (.cells #[.pointer none, .slice none 0 0] 86))) := HB2.out.alloc HB2.out.size _
  have hwb := HB2.out.size
  have hsz3 : w2.heap.size ≤ (w2.alloc (.cells #[.pointer none, .slice none 0 0] 86)).heap.size := by simp
  clear b2 HLONG HC
  go_wp2
  go_loopw [17] (fun i wr => ∃ k : Nat, k ≤ n ∧ i = .int .i64 k ∧ Hid (Lib.IsBuilderF 86 5 w2.heap.size w2.heap.size (Lib.byteCells (jK ks k)) wr) ∧ Hid (Below w.heap.size w wr) ∧ Hid (w2.heap.size ≤ wr.heap.size)) (fun i _ => n - (intOf i).toNat)
  case atStart => exact ⟨0, Nat.zero_le _, rfl, HI2, HB3, Lib.hid hsz3⟩
  case round =>
    obtain ⟨k, hk, rfl, HI, HB, HZ⟩ := hrel
    by_cases hlt : k < n
    · obtain ⟨b, o, rfl, hP, _, hc⟩ := HR.out.2.2.2 (by omega)
      have e4 := (hc k hlt).keep (HB.out.block b hP)
      have htk := allT_at HOK.out (k := k) (by rw [HL.out]; exact hlt)
      have htl := tokT_len htk
      have hjl := jK_len HOK.out k (by rw [HL.out]; omega)
      have HSTEP : Hid (jK ks (k + 1) = (if 0 < k then jK ks k ++ [32] else jK ks k) ++ tokT (ks.getD k tk0)) := rfl
      obtain ⟨x, hx⟩ : ∃ x, ks.getD k tk0 = x := ⟨_, rfl⟩
      rw [hx] at e4 htk htl HSTEP
      clear hx hc
      obtain ⟨tk, tn, ts⟩ := x
      obtain ⟨q0, q1, q2⟩ := e4
      dsimp only at q0 q1 q2
      have hkn : (k : Int) < n := by omega
      have hbl : b < wr.heap.size := Nat.lt_of_lt_of_le hP HB.out.size
      have HTX := Lib.hid (fun (W : World) (h : Pow10 W) => tokText_any tk tn ts W htk h)
      generalize tokT (tk, tn, ts) = tt at *
      have HBX : Hid (Below wr.heap.size wr (wr.alloc (.cells #[.int .i64 tk, .int .i64 tn, .string ts] 45))) := tok_below1 _ _
      have HQX := Lib.hid (TokAt.new wr 45 tk tn ts)
      have hzr := HZ.out
      by_cases h0 : 0 < k
      · have z0 : decide ((0 : Int) < k) = true := by simp; omega
        rw [if_pos h0] at HSTEP
        have HWB := Lib.hid (fun (W : World) (h : Lib.IsBuilderF 86 5 w2.heap.size w2.heap.size (Lib.byteCells (jK ks k)) W) (hz : w2.heap.size ≤ W.heap.size) => writeByte_any w2.heap.size w2.heap.size (jK ks k) 32 W h (by omega) hz)
        clear htk
        go_wp2_with fail
        refine (HWB.out _ (builder_on HI.out HBX.out) (by simp; omega)).mono ?_
        rintro e w3 ⟨rfl, i3, b3, k3⟩
        have HQ3 : Hid (TokAt w3 wr.heap.size 45 tk tn ts) := k3 _ _ HQX.out (fun e => by injection e with e; have := HI.out; exact absurd e (by rcases this with h | h <;> (have := h.lt; omega))) (fun c fz e => by injection e with _ e _; exact absurd e (by decide))
        have HB3' : Hid (Below w.heap.size w w3) := (HB.out.trans (HBX.out.mono HB.out.size)).trans (b3.mono hwb)
        have HI3 := Lib.hid i3
        have HZ3 : Hid (w2.heap.size ≤ w3.heap.size) := Nat.le_trans (by simp; omega) b3.size
        clear i3 b3 k3 HWB
        have r0 := HQ3.out.c0
        have r1 := HQ3.out.c1
        have r2 := HQ3.out.c2
        go_wp2_with fail
        refine (HTX.out w3 (pow10_on HT.out HB3'.out)).mono ?_
        rintro e w4 ⟨rfl, b4⟩
        have HB4 := Lib.hid (HB3'.out.trans (b4.mono HB3'.out.size))
        have HI4 := Lib.hid (builder_on HI3.out b4)
        have HZ4 := Lib.hid (Nat.le_trans HZ3.out b4.size)
        clear b4 r0 r1 r2 HI3 HB3' HZ3 HQ3
        go_wp2_with fail
        refine (writeString_any w2.heap.size w2.heap.size (jK ks k ++ [32]) _ w4 HI4.out (by simp [ByteArray.size]; omega) HZ4.out).mono ?_
        rintro e w5 ⟨rfl, i5, b5⟩
        have HB5 := Lib.hid (HB4.out.trans (b5.mono hwb))
        have HI5 : Hid (Lib.IsBuilderF 86 5 w2.heap.size w2.heap.size (Lib.byteCells (jK ks (k + 1))) w5) := by
          show Lib.IsBuilderF _ _ _ _ _ _
          rw [HSTEP.out]
          exact i5
        have HZ5 := Lib.hid (Nat.le_trans HZ4.out b5.size)
        clear b5 i5
        go_wp2
        go_roundw
        case rel => exact ⟨k + 1, by omega, by go_num, HI5, HB5, HZ5⟩
        case measure => simp [intOf]; omega
      · have z0 : decide ((0 : Int) < k) = false := by simp; omega
        rw [if_neg h0] at HSTEP
        clear htk
        have r0 := HQX.out.c0
        have r1 := HQX.out.c1
        have r2 := HQX.out.c2
        have HBA : Hid (Below w.heap.size w (wr.alloc (.cells #[.int .i64 tk, .int .i64 tn, .string ts] 45))) := HB.out.trans (HBX.out.mono HB.out.size)
        go_wp2_with fail
        refine (HTX.out _ (pow10_on HT.out HBA.out)).mono ?_
        rintro e w4 ⟨rfl, b4⟩
        have HB4 := Lib.hid (HBA.out.trans (b4.mono HBA.out.size))
        have HI4 := Lib.hid (builder_on (builder_on HI.out HBX.out) b4)
        have HZ4 : Hid (w2.heap.size ≤ w4.heap.size) := Nat.le_trans hzr (Nat.le_trans HBX.out.size b4.size)
        clear b4 r0 r1 r2
        go_wp2_with fail
        refine (writeString_any w2.heap.size w2.heap.size (jK ks k) _ w4 HI4.out (by simp [ByteArray.size]; omega) HZ4.out).mono ?_
        rintro e w5 ⟨rfl, i5, b5⟩
        have HB5 := Lib.hid (HB4.out.trans (b5.mono hwb))
        have HI5 : Hid (Lib.IsBuilderF 86 5 w2.heap.size w2.heap.size (Lib.byteCells (jK ks (k + 1))) w5) := by
          show Lib.IsBuilderF _ _ _ _ _ _
          rw [HSTEP.out]
          exact i5
        have HZ5 := Lib.hid (Nat.le_trans HZ4.out b5.size)
        clear b5 i5
        go_wp2
        go_roundw
        case rel => exact ⟨k + 1, by omega, by go_num, HI5, HB5, HZ5⟩
        case measure => simp [intOf]; omega
    · obtain rfl : k = n := by omega
      go_wp2_with fail
      refine (Tryd.Builder_String_any_k w2.heap.size w2.heap.size (jK ks k) wr HI.out HZ.out).mono ?_
      rintro e w3 ⟨rfl, i3, b3, k3⟩
      have HB4 := Lib.hid (HB.out.trans (b3.mono hwb))
      clear i3 b3 k3
      go_wp2
      go_ret2
      exact ⟨by rw [HV.out.1, HV.out.2]; rfl, HB4.out⟩
end Go.Proofs.YtliefhkllpmlmabDoor
