/-
  What the laws do with lists of rationals of their own: copies, marks, and whether the marks are held.
-/
import Derived.Test.YtcepjcnpokpdcaaGreatDoorOwnVec
namespace Nt
open Go Go.RowKit
theorem flat_put (L : List EV) (rest : List Value) (k : Nat) (hk : L.length = k) (hr : 3 ≤ rest.length) (a b d : Value) : (((flat L ++ rest).set (k * 3) a).set (k * 3 + 1) b).set (k * 3 + 2) d = (flat L ++ [a, b, d]) ++ rest.drop 3 := by
  have hl := flat_len L
  rw [hk] at hl
  match rest, hr with
  | x :: y :: z :: t, _ =>
    rw [List.set_append_right _ _ (by omega), List.set_append_right _ _ (by omega), List.set_append_right _ _ (by omega), hl, show k * 3 - k * 3 = 0 from by omega, show k * 3 + 1 - k * 3 = 1 from by omega, show k * 3 + 2 - k * 3 = 2 from by omega]
    simp
theorem getD_snoc_lt (L : List EV) (r : EV) (i : Nat) (h : i < L.length) : (L ++ [r]).getD i e0 = L.getD i e0 := by
  simp [List.getD, List.getElem?_append_left h]
theorem getD_snoc_eq (L : List EV) (r : EV) : (L ++ [r]).getD L.length e0 = r := by simp [List.getD]
def Parts (ti : TypeId) (w : World) (base : Nat) (L : List EV) : Prop := (∀ i, i < L.length → OwnE ti w base (L.getD i e0)) ∧ ∀ i j, i < j → j < L.length → ∀ g, (L.getD i e0).has g → (L.getD j e0).has g → False
/-- one more element whose lists are new -/
theorem parts_snoc {ti : TypeId} {w : World} {base N : Nat} {L : List EV} {r : EV} (h1 : ∀ i, i < L.length → OwnE ti w base (L.getD i e0)) (h2 : ∀ i j, i < j → j < L.length → ∀ g, (L.getD i e0).has g → (L.getD j e0).has g → False) (hlt : ∀ i, i < L.length → ∀ g, (L.getD i e0).has g → g < N) (hr : OwnE ti w N r) (hN : base ≤ N) :
    (∀ i, i < (L ++ [r]).length → OwnE ti w base ((L ++ [r]).getD i e0)) ∧ ∀ i j, i < j → j < (L ++ [r]).length → ∀ g, ((L ++ [r]).getD i e0).has g → ((L ++ [r]).getD j e0).has g → False := by
  constructor
  · intro i hi
    by_cases e : i < L.length
    · rw [getD_snoc_lt L r i e]; exact h1 i e
    · obtain rfl : i = L.length := by simp at hi; omega
      rw [getD_snoc_eq]; exact OwnR.mono hr hN
  · intro i j hij hj g hg hg'
    have hi : i < L.length := by simp at hj; omega
    rw [getD_snoc_lt L r i hi] at hg
    by_cases e : j < L.length
    · rw [getD_snoc_lt L r j e] at hg'; exact h2 i j hij e g hg hg'
    · obtain rfl : j = L.length := by simp at hj; omega
      rw [getD_snoc_eq] at hg'
      have a := hlt i hi g hg
      have b := OwnR.ge hr g hg'
      omega
theorem OwnE.on {ti : TypeId} {w w' : World} {base : Nat} {r : EV} (h : OwnE ti w base r) (hb : Below w.heap.size w w') : OwnE ti w' base r := OwnR.on h hb
/-- a row of another type has turned -/
theorem OwnE.rowed {ti tr : TypeId} {w w' : World} {base g : Nat} {r : EV} {cs : Array Value} (h : OwnE ti w base r) (hne : ti ≠ tr) (hr : w.heap[g]? = some (.cells cs tr (0, 0))) (hg : w.grownBy w' (some g)) : OwnE ti w' base r :=
  ⟨own_at_block h.1 fun k hk => hg.block k (own_block h.1 hk).2 (fun e => by injection e with e; subst e; exact own_type h.1 hne hr hk), own_at_block h.2.1 fun k hk => hg.block k (own_block h.2.1 hk).2 (fun e => by injection e with e; subst e; exact own_type h.2.1 hne hr hk), h.2.2⟩
theorem row_block {tr : TypeId} {w : World} {base g n c : Nat} {vs : List Value} (h : w.ownsRow base tr 3 (.slice (some ⟨g, 0, none⟩) n c) n vs) : ∃ cs, w.heap[g]? = some (.cells cs tr (0, 0)) := by
  rcases h.2 with ⟨e, _⟩ | ⟨g', cap, cur, e', _, hh, _⟩
  · cases e
  · injection e' with e1
    injection e1 with e1
    injection e1 with e1
    subst e1
    exact ⟨cur, hh⟩
theorem getD_set_ne (L : List EV) (k i : Nat) (r : EV) (h : i ≠ k) : (L.set k r).getD i e0 = L.getD i e0 := by
  simp [List.getD, List.getElem?_set_ne (Ne.symm h)]
theorem getD_set_eq (L : List EV) (k : Nat) (r : EV) (h : k < L.length) : (L.set k r).getD k e0 = r := by
  simp [List.getD, h]
/-- an element of it has turned, its lists lie where they lay -/
theorem OwnV.setE {tr ti : TypeId} {w w' : World} {base n c k : Nat} {V : Option Addr} {L : List EV} {r : EV} (h : OwnV tr ti w base V n c L) (hk : k < L.length) (hA : r.A = (L.getD k e0).A) (hB : r.B = (L.getD k e0).B)
    (hrow : w'.ownsRow base tr 3 (.slice V n c) n (flat (L.set k r))) (hE : OwnE ti w' base r) (hf : ∀ b, b < w.heap.size → V ≠ some ⟨b, 0, none⟩ → ¬ r.has b → w'.heap[b]? = w.heap[b]?) (hne : ti ≠ tr) : OwnV tr ti w' base V n c (L.set k r) := by
  have same : ∀ g, r.has g ↔ (L.getD k e0).has g := by intro g; unfold EV.has; rw [hA, hB]
  refine ⟨hrow, fun i hi => ?_, fun i j hij hj g hg hg' => ?_⟩
  · rw [List.length_set] at hi
    by_cases e : i = k
    · subst e; rw [getD_set_eq L i r hk]; exact hE
    · rw [getD_set_ne L k i r e]
      have ho := h.2.1 i hi
      have hno : ∀ g, (L.getD i e0).has g → ¬ r.has g := by
        intro g hg hr
        rw [same] at hr
        rcases Nat.lt_or_ge i k with h1 | h1
        · exact h.2.2 i k h1 hk g hg hr
        · exact h.2.2 k i (by omega) hi g hr hg
      have hnV : ∀ g, (L.getD i e0).has g → V ≠ some ⟨g, 0, none⟩ := by
        rintro g hg rfl
        obtain ⟨cs, hcs⟩ := row_block h.1
        rcases hg with hg | hg
        · exact own_type ho.1 hne hcs hg
        · exact own_type ho.2.1 hne hcs hg
      exact ⟨own_at_block ho.1 fun g hg => hf g (own_block ho.1 hg).2 (hnV g (.inl hg)) (hno g (.inl hg)), own_at_block ho.2.1 fun g hg => hf g (own_block ho.2.1 hg).2 (hnV g (.inr hg)) (hno g (.inr hg)), ho.2.2⟩
  · rw [List.length_set] at hj
    have conv : ∀ m, m < L.length → ((L.set k r).getD m e0).has g → (L.getD m e0).has g := by
      intro m hm hh
      by_cases e : m = k
      · subst e; rw [getD_set_eq L m r hk] at hh; exact (same g).1 hh
      · rwa [getD_set_ne L k m r e] at hh
    exact h.2.2 i j hij hj g (conv i (by omega) hg) (conv j hj hg')
end Nt
namespace Go.Proofs.YtcepjcnpokpdcaaGreatDoor
open Go Go.RowKit Nt

set_option maxHeartbeats 1600000 in
theorem toRatS_own (A : Option Addr) (n c : Nat) (rs : List R3) (w : World) (hr : RdS w (· < w.heap.size) A n c rs) (hsm : Small rs) (hn : n ≤ 1048576) :
    Calls Tryz.prog 23 #[.slice A n c] w fun e w' => ∃ B d L, e = .returned (.slice B n d) ∧ OwnV 31 3 w' w.heap.size B n d L ∧ L.map EV.v3 = rs ∧ Below w.heap.size w w' := by
  have hmk := mk_rats n (by omega)
  have HR := Lib.hid hr
  have HS := Lib.hid hsm
  have HL := Lib.hid hr.len
  clear hr hsm
  go_enter Tryz.func23, Tryz.ntmps23
  go_wp2
  go_loopw [4] (fun i wr => ∃ k : Nat, k ≤ n ∧ i = .int .i64 k ∧ ∃ (L : List EV) (rest : List Value), Hid (L.length = k) ∧ Hid (rest.length = (n - k) * 3) ∧ Hid (L.map EV.v3 = rs.take k) ∧ Hid (wr.ownsRow w.heap.size 31 3 (.slice (some ⟨w.heap.size, 0, none⟩) n n) n (flat L ++ rest)) ∧ Hid (Parts 3 wr w.heap.size L) ∧ Hid (Below w.heap.size w wr)) (fun i _ => n - (intOf i).toNat)
  case atStart =>
    refine ⟨0, Nat.zero_le _, rfl, [], _, Lib.hid rfl, ?_, Lib.hid rfl, Lib.hid (World.ownsRow_lit w _ n (Nat.le_refl _) (by unfold maxLen; omega) (size_madeCells _ _)), Lib.hid ⟨fun i hi => by simp at hi, fun i j _ hj => by simp at hj⟩, Lib.hid ((Below.refl _ _).alloc (Nat.le_refl _) _)⟩
    show _ = _
    rw [Array.length_toList, size_madeCells]
    rfl
  case round =>
    obtain ⟨k, hk, rfl, L, rest, HLL, HRL, HV, HO, HP, HB⟩ := hrel
    by_cases hlt : k < n
    · obtain ⟨b, o, rfl, hP, _, hc⟩ := HR.out.at_ (by omega)
      obtain ⟨Ai, ca, Bi, cb, q0, q1, q2, hrd⟩ := hc k hlt
      have c0 := (HB.out.cell (p := ⟨b, o + k * 3, none⟩) hP).trans q0
      have c1 := (HB.out.cell (p := ⟨b, o + k * 3 + 1, none⟩) hP).trans q1
      have c2 := (HB.out.cell (p := ⟨b, o + k * 3 + 2, none⟩) hP).trans q2
      have hss := HS.out.at_ k (by rw [HL.out]; exact hlt)
      have HRD := Lib.hid hrd
      have HTK : Hid (rs.take (k + 1) = rs.take k ++ [rs.getD k r3]) := by
        show _ = _
        have hk' : k < rs.length := by rw [HL.out]; exact hlt
        rw [List.take_succ_eq_append_getElem hk']
        simp [List.getD, hk']
      generalize rs.getD k r3 = r at *
      obtain ⟨ng, xs, ys⟩ := r
      dsimp only at *
      clear q0 q1 q2 hc hrd
      have hsz := HB.out.size
      go_wp2_with fail
      refine (toRat_any ng Ai Bi _ ca _ cb xs ys wr ((HRD.out.below HB.out).mono (Q := (· < wr.heap.size)) fun _ _ h => h).1 ((HRD.out.below HB.out).mono (Q := (· < wr.heap.size)) fun _ _ h => h).2 (by omega) (by omega)).mono ?_
      rintro e w1 ⟨A1, c1', B1, d1, rfl, o1, b1⟩
      have HB1 := Lib.hid (below_on HB.out b1)
      have HO1 := Lib.hid (own_keep3 HO.out b1)
      have HN1 : Hid (OwnE 3 w1 wr.heap.size (EV.mk ng A1 c1' B1 d1 xs ys)) := o1
      have HP1 : Hid (Parts 3 w1 w.heap.size (L ++ [EV.mk ng A1 c1' B1 d1 xs ys])) :=
        parts_snoc (fun i hi => (HP.out.1 i hi).on b1) HP.out.2 (fun i hi g hg => OwnR.lt (HP.out.1 i hi) g hg) HN1.out hsz
      clear o1 b1 c0 c1 c2 HP HO HRD HN1
      have hl3 : 3 ≤ rest.length := by rw [HRL.out]; omega
      have hcell : ∀ j, j < 3 → ∃ u, w1.cell? ⟨w.heap.size, k * 3 + j, none⟩ = some u := by
        intro j hj
        have hx := HO1.out.cellAt (k * 3 + j) (by omega)
        have hlen : k * 3 + j < (flat L ++ rest).length := by rw [List.length_append, flat_len, HLL.out]; omega
        rw [List.getElem?_eq_getElem hlen] at hx
        exact ⟨_, hx⟩
      obtain ⟨u0, g0⟩ := hcell 0 (by omega)
      obtain ⟨u1, g1⟩ := hcell 1 (by omega)
      obtain ⟨u2, g2⟩ := hcell 2 (by omega)
      rw [Nat.add_zero] at g0
      have f0 := HO1.out.frozenAt (k * 3)
      have f1 := HO1.out.frozenAt (k * 3 + 1)
      have f2 := HO1.out.frozenAt (k * 3 + 2)
      have s1 := HO1.out.stored (k * 3) (.bool ng)
      have s2 := s1.1.stored (k * 3 + 1) (.slice A1 xs.length c1')
      have s3 := s2.1.stored (k * 3 + 2) (.slice B1 ys.length d1)
      rw [flat_put L rest k HLL.out hl3] at s3
      have HO2 := Lib.hid s3.1
      have HG2 := Lib.hid (grown_trans (grown_trans s1.2 s2.2) s3.2)
      have HB2 := Lib.hid (below_grow HB1.out (Nat.le_refl _) HG2.out)
      have HP2 : Hid (Parts 3 (((w1.setCell ⟨w.heap.size, k * 3, none⟩ (.bool ng)).setCell ⟨w.heap.size, k * 3 + 1, none⟩ (.slice A1 xs.length c1')).setCell ⟨w.heap.size, k * 3 + 2, none⟩ (.slice B1 ys.length d1)) w.heap.size (L ++ [EV.mk ng A1 c1' B1 d1 xs ys])) := by
        obtain ⟨cs, hcs⟩ := row_block HO1.out
        exact ⟨fun i hi => (HP1.out.1 i hi).rowed (by decide) hcs HG2.out, HP1.out.2⟩
      clear hcell s1 s2 s3 HP1 HO1 HB1 HG2 hl3
      go_wp2
      go_roundw
      case rel =>
        refine ⟨k + 1, by omega, by go_num, L ++ [EV.mk ng A1 c1' B1 d1 xs ys], rest.drop 3, Lib.hid (by simp [HLL.out]), Lib.hid (by rw [List.length_drop, HRL.out]; omega), Lib.hid (by rw [List.map_append, HV.out, HTK.out]; rfl), ?_, HP2, HB2⟩
        rw [flat_snoc]
        exact HO2
      case measure => simp [intOf]; omega
    · obtain rfl : k = n := by omega
      have HO' : Hid (wr.ownsRow w.heap.size 31 3 (.slice (some ⟨w.heap.size, 0, none⟩) k k) k (flat L)) := by
        have h := HO.out
        have : rest = [] := List.eq_nil_of_length_eq_zero (by rw [HRL.out]; omega)
        rw [this, List.append_nil] at h
        exact h
      have HV' : Hid (L.map EV.v3 = rs) := by show _ = _; rw [HV.out, List.take_of_length_le (by rw [HL.out]; exact Nat.le_refl _)]
      clear HO HV HRL
      go_wp2
      go_ret
      exact ⟨_, _, L, rfl, ⟨HO'.out, HP.out.1, HP.out.2⟩, HV'.out, HB.out⟩
set_option maxHeartbeats 3200000 in
theorem markRatS_any (V : Option Addr) (n c : Nat) (L : List EV) (k0 base : Nat) (w : World) (h : OwnV 31 3 w base V n c L) (ht : tot (L.map EV.v3) ≤ 1048576) (hn : n ≤ 1048576) (hk0 : k0 ≤ 40000000) :
    Calls Tryz.prog 28 #[.slice V n c, .int .i64 (k0 : Int)] w fun e w' => e = .returned (.int .i64 ((k0 + n + tot (L.map EV.v3) : Nat) : Int)) ∧ OwnV 31 3 w' base V n c (markL k0 L) ∧ OnlyV V L w w' := by
  have HL := Lib.hid h.len
  have HT := Lib.hid ht
  have H := Lib.hid h
  clear h ht
  go_enter Tryz.func28, Tryz.ntmps28
  go_wp2
  go_loopw [1, 5] (fun q i wr => ∃ (k K : Nat), k ≤ n ∧ i = .int .i64 k ∧ q = .int .i64 (K : Int) ∧ K ≤ 50000000 ∧ Hid (K = k0 + k + tot ((L.take k).map EV.v3)) ∧ Hid (OwnV 31 3 wr base V n c (markL k0 (L.take k) ++ L.drop k)) ∧ Hid (OnlyV V L w wr)) (fun _ i _ => n - (intOf i).toNat)
  case atStart => exact ⟨0, k0, Nat.zero_le _, rfl, rfl, by omega, Lib.hid rfl, H, Lib.hid ⟨rfl, rfl, rfl, Nat.le_refl _, fun _ _ _ _ => rfl⟩⟩
  case round =>
    obtain ⟨k, K, hk, rfl, rfl, hK, HK, HO, HF⟩ := hrel
    by_cases hlt : k < n
    · have hkL : k < L.length := by rw [HL.out]; exact hlt
      have hml : (markL k0 (L.take k)).length = k := by rw [markL_len, List.length_take]; omega
      have HM : Hid (markL k0 (L.take (k + 1)) ++ L.drop (k + 1) = (markL k0 (L.take k) ++ L.drop k).set k (markE K (L.getD k e0))) := by
        show _ = _
        rw [markL_step L k0 k hkL, ← HK.out]
      have HG : Hid ((markL k0 (L.take k) ++ L.drop k).getD k e0 = L.getD k e0) := by
        show _ = _
        simp only [List.getD]
        rw [List.getElem?_append_right (by omega), hml, Nat.sub_self, List.getElem?_drop, Nat.add_zero]
      have HML : Hid (k < (markL k0 (L.take k) ++ L.drop k).length) := by show _ < _; rw [List.length_append, hml, List.length_drop]; omega
      have HTK : Hid (tot ((L.take (k + 1)).map EV.v3) = tot ((L.take k).map EV.v3) + ((L.getD k e0).xs.length + (L.getD k e0).ys.length)) := by
        show _ = _
        rw [List.map_take, List.map_take, tot_snoc _ k (by rw [List.length_map]; exact hkL), getD_map]
        rfl
      have hts : tot ((L.take (k + 1)).map EV.v3) ≤ 1048576 := by have := HT.out; rw [List.map_take]; exact Nat.le_trans (tot_take_le _ _) this
      rw [HTK.out] at hts
      have hlx : (L.getD k e0).xs.length ≤ 1048576 := by omega
      have hly : (L.getD k e0).ys.length ≤ 1048576 := by omega
      have HHAS : Hid (∀ b, (L.getD k e0).has b → ∃ i, i < L.length ∧ (L.getD i e0).has b) := fun b hb => ⟨k, hkL, hb⟩
      have HTS := Lib.hid hts
      clear hml hkL hts
      generalize markL k0 (L.take k) ++ L.drop k = M at *
      generalize L.getD k e0 = r at *
      obtain ⟨ng, A, ca, B, cb, xs, ys⟩ := r
      dsimp only at *
      obtain ⟨g, rfl, hbg, hgl, hnc⟩ := row_at HO.out.1 (by omega)
      have HE : Hid (OwnE 3 wr base ⟨ng, A, ca, B, cb, xs, ys⟩) := by
        have := HO.out.2.1 k HML.out
        rw [HG.out] at this
        exact this
      obtain ⟨f0, f1, f2⟩ := flat_get M k HML.out
      rw [HG.out] at f0 f1 f2
      have c0 := (HO.out.1.cellAt (k * 3) (by omega)).trans f0
      have c1 := (HO.out.1.cellAt (k * 3 + 1) (by omega)).trans f1
      have c2 := (HO.out.1.cellAt (k * 3 + 2) (by omega)).trans f2
      dsimp only at c0 c1 c2
      have z0 := HO.out.1.frozenAt (k * 3)
      have hst := HO.out.1.stored (k * 3) (.bool (markE K ⟨ng, A, ca, B, cb, xs, ys⟩).neg)
      rw [flat_set M k (markE K ⟨ng, A, ca, B, cb, xs, ys⟩) HML.out (by rw [HG.out]; rfl) (by rw [HG.out]; rfl) (by rw [HG.out]; rfl) (by rw [HG.out]; rfl) (by rw [HG.out]; exact marks_len _ _) (by rw [HG.out]; exact marks_len _ _)] at hst
      have HST := Lib.hid hst
      clear f0 f1 f2 hst
      obtain ⟨cs, hcs⟩ := row_block HO.out.1
      have HCS := Lib.hid hcs
      clear hcs
      go_wp2_with fail
      clear c0 c1 c2 z0
      refine calls_at (fun W => W.ownsRow base 31 3 (.slice (some ⟨g, 0, none⟩) n c) n (flat (M.set k (markE K ⟨ng, A, ca, B, cb, xs, ys⟩))) ∧ OwnE 3 W base ⟨ng, A, ca, B, cb, xs, ys⟩ ∧ wr.grownBy W (some g)) ⟨HST.out.1, HE.out.rowed (by decide) HCS.out HST.out.2, HST.out.2⟩ ?_
      rintro W ⟨hrow, hE', hg0⟩
      have hE : OwnR 3 W base xs ys A ca B cb := hE'
      clear hE' HE HCS HST
      obtain ⟨cs1, hcs1⟩ := row_block hrow
      have hgne : (Value.slice A xs.length ca).ownBlock ≠ some g := fun e => own_type hE.1 (by decide) hcs1 (ownBlock_eq e hE.1)
      have hgne2 : (Value.slice B ys.length cb).ownBlock ≠ some g := fun e => own_type hE.2.1 (by decide) hcs1 (ownBlock_eq e hE.2.1)
      refine (markIntS_any A _ ca xs ((K : Int) + 1) base W hE.1 (by omega) (by omega) (by omega)).mono ?_
      rintro e w2 ⟨rfl, o1, g1⟩
      have HROW2 := Lib.hid (hrow.kept g1 (.inr fun e => hgne e.symm))
      have HB2 : Hid (w2.ownsRow base 3 1 (.slice B ys.length cb) ys.length (ys.map (Value.int .i64))) := own_at_block hE.2.1 fun q hq => g1.block q (own_block hE.2.1 hq).2 (fun e => hE.2.2 q q (ownBlock_eq e.symm hE.1) hq rfl)
      have HA2 := Lib.hid o1
      have HG1 := Lib.hid g1
      have HG0 := Lib.hid hg0
      have HE := Lib.hid hE
      have HN1 := Lib.hid hgne
      have HN2 := Lib.hid hgne2
      clear hrow hE hg0 o1 g1 hgne hgne2 hcs1
      have fs := flat_get (M.set k (markE K ⟨ng, A, ca, B, cb, xs, ys⟩)) k (by rw [List.length_set]; exact HML.out)
      rw [getD_set_eq M k _ HML.out] at fs
      have c2 : w2.cell? ⟨g, k * 3 + 2, none⟩ = some (.slice B ys.length cb) := by
        rw [HROW2.out.cellAt (k * 3 + 2) (by omega), fs.2.2]
        show some (Value.slice B (marks _ _).length cb) = _
        rw [marks_len]
      clear fs
      have hp1 : 0 ≤ (K : Int) + 1 + xs.length := by omega
      go_wp2_with fail
      clear c2
      refine (markIntS_any B _ cb ys ((K : Int) + 1 + xs.length) base w2 HB2.out (by omega) hp1 (by omega)).mono ?_
      rintro e w3 ⟨rfl, o2, g2⟩
      have HROW3 := Lib.hid (HROW2.out.kept g2 (.inr fun e => HN2.out e.symm))
      have HA3 : Hid (w3.ownsRow base 3 1 (.slice A xs.length ca) xs.length ((marks ((K : Int) + 1) xs.length).map (Value.int .i64))) := own_at_block HA2.out fun q hq => g2.block q (own_block HA2.out hq).2 (fun e => HE.out.2.2 q q hq (ownBlock_eq e.symm HB2.out) rfl)
      have HE3 : Hid (OwnE 3 w3 base (markE K ⟨ng, A, ca, B, cb, xs, ys⟩)) := by
        refine ⟨?_, ?_, HE.out.2.2⟩
        · show w3.ownsRow base 3 1 (.slice A (marks _ _).length ca) (marks _ _).length _
          rw [marks_len]
          exact HA3.out
        · show w3.ownsRow base 3 1 (.slice B (marks _ _).length cb) (marks _ _).length _
          rw [marks_len]
          exact o2
      have HFR : Hid (∀ b, b < wr.heap.size → some (⟨g, 0, none⟩ : Addr) ≠ some ⟨b, 0, none⟩ → ¬ (markE K ⟨ng, A, ca, B, cb, xs, ys⟩).has b → w3.heap[b]? = wr.heap[b]?) := by
        intro b hb hne hno
        have s0 := HG0.out.size
        have s1 := HG1.out.size
        exact (g2.block b (by omega) (fun e => hno (.inr (ownBlock_eq e.symm HB2.out)))).trans ((HG1.out.block b (by omega) (fun e => hno (.inl (ownBlock_eq e.symm HE.out.1)))).trans (HG0.out.block b hb (fun e => hne (by injection e with e; rw [e]))))
      have HV3 : Hid (OwnV 31 3 w3 base (some ⟨g, 0, none⟩) n c (M.set k (markE K ⟨ng, A, ca, B, cb, xs, ys⟩))) := HO.out.setE HML.out (by rw [HG.out]; rfl) (by rw [HG.out]; rfl) HROW3.out HE3.out HFR.out (by decide)
      have HF3 : Hid (OnlyV (some ⟨g, 0, none⟩) L w w3) := by
        have s0 := HG0.out.size
        have s1 := HG1.out.size
        have s2 := g2.size
        have s3 := HF.out.2.2.2.1
        refine ⟨g2.os.trans (HG1.out.os.trans (HG0.out.os.trans HF.out.1)), g2.tape.trans (HG1.out.tape.trans (HG0.out.tape.trans HF.out.2.1)), g2.output.trans (HG1.out.output.trans (HG0.out.output.trans HF.out.2.2.1)), by omega, fun b hb hV hno => ?_⟩
        refine (HFR.out b (by omega) hV (fun hh => ?_)).trans (HF.out.2.2.2.2 b hb hV hno)
        obtain ⟨i, hi, hx⟩ := HHAS.out b hh
        exact hno i hi hx
      clear o2 g2 HFR HE3 HA3 HROW3 HROW2 HB2 HA2 HG1 HG0 HE HN1 HN2 HO HF
      go_wp2
      go_roundw
      case rel =>
        refine ⟨k + 1, K + 1 + xs.length + ys.length, by omega, by go_num, by congr 1, ?_, ?_, ?_, HF3⟩
        · have h1 := HK.out; have h2 := HTS.out; omega
        · have h1 := HK.out; have h2 := HTK.out; exact Lib.hid (by omega)
        · rw [HM.out]; exact HV3
      case measure => simp [intOf]; omega
    · obtain rfl : k = n := by omega
      have HK' : Hid (K = k0 + k + tot (L.map EV.v3)) := by have := HK.out; rw [List.take_of_length_le (by rw [HL.out]; exact Nat.le_refl _)] at this; exact this
      have HO' : Hid (OwnV 31 3 wr base V k c (markL k0 L)) := by
        have := HO.out
        rw [List.take_of_length_le (by rw [HL.out]; exact Nat.le_refl _), List.drop_eq_nil_of_le (by rw [HL.out]; exact Nat.le_refl _), List.append_nil] at this
        exact this
      clear HK HO
      go_wp2
      go_ret
      exact ⟨by rw [HK'.out]; rfl, HO'.out, HF.out⟩

set_option maxHeartbeats 1600000 in
theorem heldRatS_any (A : Option Addr) (n c : Nat) (rs : List R3) (k0 : Nat) (P : Nat → Prop) (w : World) (h : RdS w P A n c (mark3 k0 rs)) (ht : tot rs ≤ 1048576) (hn : n ≤ 1048576) (hk0 : k0 ≤ 40000000) :
    Calls Tryz.prog 32 #[.slice A n c, .int .i64 (k0 : Int)] w fun e w' => e = .returned (.int .i64 ((k0 + n + tot rs : Nat) : Int)) ∧ w = w' := by
  have HL : Hid (rs.length = n) := by have := h.len; rw [mark3_len] at this; exact this
  have HT := Lib.hid ht
  have H := Lib.hid h
  clear h ht
  go_enter Tryz.func32, Tryz.ntmps32
  go_wp2
  go_loop [1, 5] (fun q i => ∃ (k K : Nat), k ≤ n ∧ i = .int .i64 k ∧ q = .int .i64 (K : Int) ∧ K ≤ 50000000 ∧ Hid (K = k0 + k + tot (rs.take k))) (fun _ i => n - (intOf i).toNat)
  case atStart => exact ⟨0, k0, Nat.zero_le _, rfl, rfl, by omega, Lib.hid rfl⟩
  case round =>
    obtain ⟨k, K, hk, rfl, rfl, hK, HK⟩ := hrel
    by_cases hlt : k < n
    · have hkL : k < rs.length := by rw [HL.out]; exact hlt
      obtain ⟨b, o, rfl, hP, _, hc⟩ := H.out.at_ (by omega)
      obtain ⟨Ai, ca, Bi, cb, q0, q1, q2, hrd⟩ := hc k hlt
      have HTK := Lib.hid (tot_snoc rs k hkL)
      have hts : tot (rs.take (k + 1)) ≤ 1048576 := Nat.le_trans (tot_take_le _ _) HT.out
      rw [HTK.out] at hts
      rw [mark3_get rs k0 k hkL, ← HK.out] at q0 q1 q2 hrd
      generalize rs.getD k r3 = r at *
      obtain ⟨ng, xs, ys⟩ := r
      dsimp only at *
      rw [marks_len] at q1 q2
      obtain ⟨r1, r2⟩ := hrd
      rw [marks_len] at r1 r2
      have HR1 := Lib.hid r1
      have HR2 := Lib.hid r2
      have HTS := Lib.hid hts
      have hlx : xs.length ≤ 1048576 := by omega
      have hly : ys.length ≤ 1048576 := by omega
      clear hc r1 r2 hts hkL
      have hzz : (((K : Int) % 3 == 0) != ((K : Int) % 3 == 0)) = false := by simp
      have hp1 : 0 ≤ (K : Int) + 1 := by omega
      have hp2 : 0 ≤ (K : Int) + 1 + xs.length := by omega
      have hp3 : 0 ≤ (K : Int) + 1 + xs.length + ys.length := by omega
      go_wp2_with fail
      refine (heldIntS_any Ai _ ca ((K : Int) + 1) _ w HR1.out (by omega) hp1 (by omega)).mono ?_
      rintro e w1 ⟨rfl, rfl⟩
      go_wp2_with fail
      refine (heldIntS_any Bi _ cb ((K : Int) + 1 + xs.length) _ w HR2.out (by omega) hp2 (by omega)).mono ?_
      rintro e w1 ⟨rfl, rfl⟩
      go_wp2
      go_round
      case rel =>
        refine ⟨k + 1, K + 1 + xs.length + ys.length, by omega, by go_num, by congr 1, ?_, ?_⟩
        · have h1 := HK.out; have h2 := HTS.out; omega
        · have h1 := HK.out; have h2 := HTK.out; exact Lib.hid (by omega)
      case measure => simp [intOf]; omega
    · obtain rfl : k = n := by omega
      have HK' : Hid (K = k0 + k + tot rs) := by have := HK.out; rw [List.take_of_length_le (by rw [HL.out]; exact Nat.le_refl _)] at this; exact this
      clear HK
      go_wp2
      go_ret
      exact ⟨by rw [HK'.out]; rfl, rfl⟩
end Go.Proofs.YtcepjcnpokpdcaaGreatDoor
