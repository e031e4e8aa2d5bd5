/-
  Sums of the model: l01Trim, l01Add, l01Fit, AddNat.
-/
import Derived.Test.YtgeijojkfojfbaaDoorAddNat
namespace Go.Proofs.YtgeijojkfojfbaaDoor
open Go Go.RowKit Nt

theorem below_app {w wr w1 : World} {o : Obj} {V : Option Addr} {n c : Nat} {e : TypeId} {xs : List Value} (h : Below w.heap.size w wr) (ho : wr.ownsRow w.heap.size e 1 (.slice V n c) n xs)
    (hg : (wr.alloc o).grownBy w1 (Value.slice V n c).ownBlock) : Below w.heap.size w w1 :=
  (h.alloc h.size o).grown hg (by have := h.size; simp; omega) (fun k hk => (ho.lt k hk).1)

set_option maxHeartbeats 1600000 in
theorem l01Add_any (A B : Option Addr) (la ca lb cb m n : Nat) (P Q : Nat → Prop) (w : World) (hx0 : Rd w P A la ca (D m)) (hy0 : Rd w Q B lb cb (D n)) (hla : la ≤ 10000) (hlb : lb ≤ 10000) :
    Calls Tryd.prog 70 #[.slice A la ca, .slice B lb cb] w (RetNew 3 w (D (m + n))) := by
  have hx : Rd w (· < w.heap.size) A la ca (D m) := hx0.mono fun _ _ h => h
  have hy : Rd w (· < w.heap.size) B lb cb (D n) := hy0.mono fun _ _ h => h
  have HX := Lib.hid hx
  have HY := Lib.hid hy
  have HLA := Lib.hid hx.len
  have HLB := Lib.hid hy.len
  clear hx0 hy0 hx hy
  go_enter Tryd.func70, Tryd.ntmps70
  go_wp2
  go_loopw [5, 6, 7] (fun v q i wr => ∃ (k c : Nat) (out : List Int) (V : Option Addr) (cv : Nat), k ≤ 10001 ∧ (k ≤ la ∨ k ≤ lb ∨ c = 0) ∧ i = .int .i64 k ∧ q = .int .i64 c ∧ v = .slice V k cv ∧ c ≤ 1 ∧ out.length = k ∧ D (m + n) = out ++ D (c + dv m k + dv n k) ∧ wr.ownsRow w.heap.size 3 1 (.slice V k cv) k (out.map (Value.int .i64)) ∧ Below w.heap.size w wr) (fun _ q i _ => 10002 - (intOf i).toNat)
  case atStart => exact ⟨0, 0, [], _, _, by omega, by omega, rfl, rfl, rfl, by omega, rfl, by simp [dv_zero], World.ownsRow_lit _ #[] 0 (Nat.le_refl _) (by decide) rfl, (Below.refl _ _).alloc (Nat.le_refl _) _⟩
  case round =>
    obtain ⟨k, c, out, V, cv, hk, hkk, rfl, rfl, rfl, hc1, hol, hd, hown, hb⟩ := hrel
    have HOL := Lib.hid hol
    have HD := Lib.hid hd
    have HO := Lib.hid hown
    have HB := Lib.hid hb
    clear hol hd hown hb
    have hc0 : (0 : Int) ≤ c := by omega
    have hc2 : (c : Int) ≤ 1 := by omega
    by_cases h1 : k < la
    · have d1 : decide ((k : Int) < la) = true := by simp; omega
      obtain ⟨b1, o1, rfl, hP1, hl1, hcc1⟩ := HX.out.at_ (by omega)
      have hcx : wr.cell? ⟨b1, o1 + k, none⟩ = some (.int .i64 ((D m).getD k 0)) := (HB.out.cell (p := ⟨b1, o1 + k, none⟩) hP1).trans (hcc1 k h1)
      clear hcc1
      by_cases h2 : k < lb
      · obtain ⟨b2, o2, rfl, hP2, hl2, hcc2⟩ := HY.out.at_ (by omega)
        have hcy : wr.cell? ⟨b2, o2 + k, none⟩ = some (.int .i64 ((D n).getD k 0)) := (HB.out.cell (p := ⟨b2, o2 + k, none⟩) hP2).trans (hcc2 k h2)
        clear hcc2
        have hsum := Lib.hid (add_round m n k c (by have h1 := (dv_pos m k); have h2 := (dv_pos n k); rw [HLA.out] at h1; rw [HLB.out] at h2; omega))
        have HD' : Hid (D (m + n) = (out ++ [((c : Int) + (D m).getD k 0 + (D n).getD k 0) % 10000]) ++ D ((((c : Int) + (D m).getD k 0 + (D n).getD k 0) / 10000).toNat + dv m (k + 1) + dv n (k + 1))) := by
          show _ = _
          rw [HD.out, hsum.out]; simp
        have hbx := limbs_getD (limbs_D m) k
        have hby := limbs_getD (limbs_D n) k
        clear hsum HD
        generalize (D m).getD k 0 = x at *
        generalize (D n).getD k 0 = y at *
        have hs0 : 0 ≤ ((c : Int) + x + y) := by omega
        have hs1 : ((c : Int) + x + y) ≤ 19999 := by omega
        go_wp2_with (at_builtin; refine wpList_append_ints _ rfl _ _ 23 rfl w.heap.size 3 Tryd.underlying23 infoInt V k cv out rfl (HO.out.alloc _) _ (some ⟨wr.heap.size, 0, none⟩) 1 1 [((c : Int) + x + y) % 10000] rfl (rd_one _ _ _) (by omega) (by have := HB.out.size; simp; omega) ?_; intro V' c' w1 hown hg; have HO' := Lib.hid hown; have HB' := Lib.hid (below_app HB.out HO.out hg); clear hown hg)
        go_roundw
        case rel => exact ⟨k + 1, (((c : Int) + x + y) / 10000).toNat, out ++ [((c : Int) + x + y) % 10000], V', c', by omega, by omega, by go_num, by rw [Int.toNat_of_nonneg (by omega)], rfl, by omega, by simp [HOL.out], HD'.out, HO'.out, HB'.out⟩
        case measure => simp [intOf]; omega
      · have hy0 : (D n).getD k 0 = 0 := by simp [List.getD, HLB.out, show lb ≤ k from by omega]
        have hsum := Lib.hid (add_round m n k c (by have h1 := (dv_pos m k); have h2 := (dv_pos n k); rw [HLA.out] at h1; rw [HLB.out] at h2; omega))
        rw [hy0] at hsum
        simp only [Int.add_zero] at hsum
        have HD' : Hid (D (m + n) = (out ++ [((c : Int) + (D m).getD k 0) % 10000]) ++ D ((((c : Int) + (D m).getD k 0) / 10000).toNat + dv m (k + 1) + dv n (k + 1))) := by
          show _ = _
          rw [HD.out, hsum.out]; simp
        have hbx := limbs_getD (limbs_D m) k
        have hby := limbs_getD (limbs_D n) k
        clear hsum HD
        clear hy0 hby
        generalize (D m).getD k 0 = x at *
        have hs0 : 0 ≤ ((c : Int) + x) := by omega
        have hs1 : ((c : Int) + x) ≤ 19999 := by omega
        go_wp2_with (at_builtin; refine wpList_append_ints _ rfl _ _ 23 rfl w.heap.size 3 Tryd.underlying23 infoInt V k cv out rfl (HO.out.alloc _) _ (some ⟨wr.heap.size, 0, none⟩) 1 1 [((c : Int) + x) % 10000] rfl (rd_one _ _ _) (by omega) (by have := HB.out.size; simp; omega) ?_; intro V' c' w1 hown hg; have HO' := Lib.hid hown; have HB' := Lib.hid (below_app HB.out HO.out hg); clear hown hg)
        go_roundw
        case rel => exact ⟨k + 1, (((c : Int) + x) / 10000).toNat, out ++ [((c : Int) + x) % 10000], V', c', by omega, by omega, by go_num, by rw [Int.toNat_of_nonneg (by omega)], rfl, by omega, by simp [HOL.out], HD'.out, HO'.out, HB'.out⟩
        case measure => simp [intOf]; omega
    · have d1 : decide ((k : Int) < la) = false := by simp; omega
      have hx0 : (D m).getD k 0 = 0 := by simp [List.getD, HLA.out, show la ≤ k from by omega]
      by_cases h2 : k < lb
      · have d2 : decide ((k : Int) < lb) = true := by simp; omega
        obtain ⟨b2, o2, rfl, hP2, hl2, hcc2⟩ := HY.out.at_ (by omega)
        have hcy : wr.cell? ⟨b2, o2 + k, none⟩ = some (.int .i64 ((D n).getD k 0)) := (HB.out.cell (p := ⟨b2, o2 + k, none⟩) hP2).trans (hcc2 k h2)
        clear hcc2
        have hsum := Lib.hid (add_round m n k c (by have h1 := (dv_pos m k); have h2 := (dv_pos n k); rw [HLA.out] at h1; rw [HLB.out] at h2; omega))
        rw [hx0] at hsum
        simp only [Int.add_zero] at hsum
        have HD' : Hid (D (m + n) = (out ++ [((c : Int) + (D n).getD k 0) % 10000]) ++ D ((((c : Int) + (D n).getD k 0) / 10000).toNat + dv m (k + 1) + dv n (k + 1))) := by
          show _ = _
          rw [HD.out, hsum.out]; simp
        have hbx := limbs_getD (limbs_D m) k
        have hby := limbs_getD (limbs_D n) k
        clear hsum HD
        clear hx0 hbx
        generalize (D n).getD k 0 = y at *
        have hs0 : 0 ≤ ((c : Int) + y) := by omega
        have hs1 : ((c : Int) + y) ≤ 19999 := by omega
        go_wp2_with (at_builtin; refine wpList_append_ints _ rfl _ _ 23 rfl w.heap.size 3 Tryd.underlying23 infoInt V k cv out rfl (HO.out.alloc _) _ (some ⟨wr.heap.size, 0, none⟩) 1 1 [((c : Int) + y) % 10000] rfl (rd_one _ _ _) (by omega) (by have := HB.out.size; simp; omega) ?_; intro V' c' w1 hown hg; have HO' := Lib.hid hown; have HB' := Lib.hid (below_app HB.out HO.out hg); clear hown hg)
        go_roundw
        case rel => exact ⟨k + 1, (((c : Int) + y) / 10000).toNat, out ++ [((c : Int) + y) % 10000], V', c', by omega, by omega, by go_num, by rw [Int.toNat_of_nonneg (by omega)], rfl, by omega, by simp [HOL.out], HD'.out, HO'.out, HB'.out⟩
        case measure => simp [intOf]; omega
      · have d2 : decide ((k : Int) < lb) = false := by simp; omega
        have hy0 : (D n).getD k 0 = 0 := by simp [List.getD, HLB.out, show lb ≤ k from by omega]
        by_cases h3 : 0 < c
        · have d3 : (0 : Int) < c := by omega
          have hsum := Lib.hid (add_round m n k c (by have h1 := (dv_pos m k); have h2 := (dv_pos n k); rw [HLA.out] at h1; rw [HLB.out] at h2; omega))
          rw [hx0, hy0] at hsum
          simp only [Int.add_zero] at hsum
          have HD' : Hid (D (m + n) = (out ++ [((c : Int)) % 10000]) ++ D ((((c : Int)) / 10000).toNat + dv m (k + 1) + dv n (k + 1))) := by
            show _ = _
            rw [HD.out, hsum.out]; simp
          have hbx := limbs_getD (limbs_D m) k
          have hby := limbs_getD (limbs_D n) k
          clear hsum HD
          clear hx0 hy0 hbx hby
          have hs0 : 0 ≤ ((c : Int)) := by omega
          have hs1 : ((c : Int)) ≤ 19999 := by omega
          go_wp2_with (at_builtin; refine wpList_append_ints _ rfl _ _ 23 rfl w.heap.size 3 Tryd.underlying23 infoInt V k cv out rfl (HO.out.alloc _) _ (some ⟨wr.heap.size, 0, none⟩) 1 1 [((c : Int)) % 10000] rfl (rd_one _ _ _) (by omega) (by have := HB.out.size; simp; omega) ?_; intro V' c' w1 hown hg; have HO' := Lib.hid hown; have HB' := Lib.hid (below_app HB.out HO.out hg); clear hown hg)
          go_roundw
          case rel => exact ⟨k + 1, (((c : Int)) / 10000).toNat, out ++ [((c : Int)) % 10000], V', c', by omega, by omega, by go_num, by rw [Int.toNat_of_nonneg (by omega)], rfl, by omega, by simp [HOL.out], HD'.out, HO'.out, HB'.out⟩
          case measure => simp [intOf]; omega
        · obtain rfl : c = 0 := by omega
          have hz : 0 + dv m k + dv n k = 0 := by have h1 := (dv_pos m k); have h2 := (dv_pos n k); rw [HLA.out] at h1; rw [HLB.out] at h2; omega
          have HD' : Hid (D (m + n) = out) := by show _ = _; rw [HD.out, hz, D_zero, List.append_nil]
          clear HD hz hx0 hy0
          go_wp2
          go_ret
          refine ⟨V, cv, ?_, ?_, HB.out⟩
          · rw [HD'.out, HOL.out]; rfl
          · rw [HD'.out, HOL.out]; exact HO.out

set_option maxHeartbeats 400000 in
theorem l01Trim_any (A : Option Addr) (n c : Nat) (xs : List Int) (P : Nat → Prop) (w : World) (hr : Rd w P A n c xs) (hl : Limbs xs) (hn : n ≤ 16777216) :
    Calls Tryd.prog 74 #[.slice A n c] w (RetNew 3 w (D (natOf xs))) := by
  have HL := Lib.hid hl
  have HN := Lib.hid hr.len
  have hcap := hr.cap
  have HR := Lib.hid hr
  clear hl
  go_enter Tryd.func74, Tryd.ntmps74
  go_wp2
  go_loop [3] (fun v => ∃ k : Nat, k ≤ n ∧ v = .int .i64 k ∧ ∀ i, k ≤ i → i < n → xs.getD i 0 = 0) (fun v => (intOf v).toNat)
  case atStart => exact ⟨n, Nat.le_refl _, rfl, fun i h1 h2 => absurd h1 (by omega)⟩
  case round =>
    obtain ⟨k, hk, rfl, hz⟩ := hrel
    have HZ := Lib.hid hz
    clear hz
    by_cases h0 : 0 < k
    · obtain ⟨b, o, rfl, hP, _, hc⟩ := hr.at_ (by omega)
      have hcx := hc (k - 1) (by omega)
      have hd : decide ((0 : Int) < k) = true := by simp; omega
      by_cases hx : xs.getD (k - 1) 0 = 0
      · have HZ' : Hid (∀ i, k - 1 ≤ i → i < n → xs.getD i 0 = 0) := by
          intro i h1 h2
          by_cases hi : i = k - 1
          · subst hi; exact hx
          · exact HZ.out i (by omega) h2
        rw [hx] at hcx
        clear hx hc hr HZ HR
        go_wp2
        go_round
        case rel => exact ⟨k - 1, by omega, by congr 1; omega, HZ'.out⟩
        case measure => simp [intOf]; omega
      · have hx' : (xs.getD (k - 1) 0 == 0) = false := by simpa using hx
        have HK := Lib.hid (trim_take HL.out k (by have := HN.out; omega) (by rw [HN.out]; exact HZ.out) (.inr hx))
        generalize xs.getD (k - 1) 0 = x at *
        clear hx hc hr HZ
        have hb : Below w.heap.size w (w.alloc (.cells #[] 3)) := (Below.refl _ _).alloc (Nat.le_refl _) _
        have HRC := Lib.hid (((HR.out.mono (Q := (· < w.heap.size)) fun _ _ h => h).below hb).cut k hk)
        clear hb
        go_wp2_with (at_builtin; refine wpList_append_ints _ rfl _ _ 23 rfl w.heap.size 3 Tryd.underlying23 infoInt (some ⟨w.heap.size, 0, none⟩) 0 0 [] rfl (World.ownsRow_lit _ #[] 0 (Nat.le_refl _) (by decide) rfl) _ _ k c (xs.take k) rfl HRC.out (by omega) (by simp) ?_; intro V' c' w1 hown hg)
        go_ret
        have e1 : xs.take k = D (natOf xs) := by have := take_trim HL.out; rwa [← HK.out] at this
        have e2 := HK.out
        simp only [Nat.zero_add, List.nil_append] at hown
        rw [e1] at hown
        refine ⟨V', c', ?_, ?_, ((Below.refl _ _).alloc (Nat.le_refl _) _).grown hg (by simp) (fun j h => by simp [Value.ownBlock] at h; omega)⟩
        · rw [← e2]; simp
        · rw [← e2]; exact hown
    · obtain rfl : k = 0 := by omega
      have HK := Lib.hid (trim_take HL.out 0 (by omega) (by rw [HN.out]; exact HZ.out) (.inl rfl))
      clear hr HZ
      have hb : Below w.heap.size w (w.alloc (.cells #[] 3)) := (Below.refl _ _).alloc (Nat.le_refl _) _
      have HRC := Lib.hid (((HR.out.mono (Q := (· < w.heap.size)) fun _ _ h => h).below hb).cut 0 hk)
      clear hb
      go_wp2_with (at_builtin; refine wpList_append_ints _ rfl _ _ 23 rfl w.heap.size 3 Tryd.underlying23 infoInt (some ⟨w.heap.size, 0, none⟩) 0 0 [] rfl (World.ownsRow_lit _ #[] 0 (Nat.le_refl _) (by decide) rfl) _ _ 0 c (xs.take 0) rfl HRC.out (by omega) (by simp) ?_; intro V' c' w1 hown hg)
      go_ret
      have e1 : xs.take 0 = D (natOf xs) := by have := take_trim HL.out; rwa [← HK.out] at this
      have e2 := HK.out
      simp only [Nat.zero_add, List.nil_append] at hown
      rw [e1] at hown
      refine ⟨V', c', ?_, ?_, ((Below.refl _ _).alloc (Nat.le_refl _) _).grown hg (by simp) (fun j h => by simp [Value.ownBlock] at h; omega)⟩
      · rw [← e2]; simp
      · rw [← e2]; exact hown

end Go.Proofs.YtgeijojkfojfbaaDoor
