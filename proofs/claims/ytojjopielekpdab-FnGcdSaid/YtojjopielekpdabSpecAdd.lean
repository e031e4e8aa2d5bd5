/-
  Sums of the model: l01Trim, l01Add, l01Fit, AddNat.
-/
import Derived.Test.YtojjopielekpdabAddNat
namespace Go.Proofs.Ytojjopielekpdab
open Go Go.RowKit Nt

theorem below_app {w wr w1 : World} {o : Obj} {V : Option Addr} {n c : Nat} {e : TypeId} {xs : List Value} (h : Below w.heap.size w wr) (ho : wr.ownsRow w.heap.size e 1 (.slice V n c) n xs)
    (hg : (wr.alloc o).grownBy w1 (Value.slice V n c).ownBlock) : Below w.heap.size w w1 :=
  (h.alloc h.size o).grown hg (by have := h.size; simp; omega) (fun k hk => (ho.lt k hk).1)

set_option maxHeartbeats 400000 in
theorem l01Trim_any (A : Option Addr) (n c : Nat) (xs : List Int) (P : Nat → Prop) (w : World) (hr : Rd w P A n c xs) (hl : Limbs xs) (hn : n ≤ 16777216) :
    Calls Try.prog 33 #[.slice A n c] w (RetNew 3 w (D (natOf xs))) := by
  have HL := Lib.hid hl
  have HN := Lib.hid hr.len
  have hcap := hr.cap
  have HR := Lib.hid hr
  clear hl
  go_enter Try.func33, Try.ntmps33
  go_wp2
  go_loop [3] (fun v => ∃ k : Nat, k ≤ n ∧ v = .int .i64 k ∧ ∀ i, k ≤ i → i < n → xs.getD i 0 = 0) (fun v => (intOf v).toNat)
  case atStart => exact ⟨n, Nat.le_refl _, rfl, fun i h1 h2 => absurd h1 (by omega)⟩
  case round =>
    obtain ⟨k, hk, rfl, hz⟩ := hrel
    have HZ := Lib.hid hz
    clear hz
    by_cases h0 : 0 < k
    · obtain ⟨b, o, rfl, hP, _, hc⟩ := hr.at_ (by omega)
      have hcx := hc (k - 1) (by omega)
      have hd : decide ((0 : Int) < k) = true := by simp; omega
      by_cases hx : xs.getD (k - 1) 0 = 0
      · have HZ' : Hid (∀ i, k - 1 ≤ i → i < n → xs.getD i 0 = 0) := by
          intro i h1 h2
          by_cases hi : i = k - 1
          · subst hi; exact hx
          · exact HZ.out i (by omega) h2
        rw [hx] at hcx
        clear hx hc hr HZ HR
        go_wp2
        go_round
        case rel => exact ⟨k - 1, by omega, by congr 1; omega, HZ'.out⟩
        case measure => simp [intOf]; omega
      · have hx' : (xs.getD (k - 1) 0 == 0) = false := by simpa using hx
        have HK := Lib.hid (trim_take HL.out k (by have := HN.out; omega) (by rw [HN.out]; exact HZ.out) (.inr hx))
        generalize xs.getD (k - 1) 0 = x at *
        clear hx hc hr HZ
        have hb : Below w.heap.size w (w.alloc (.cells #[] 3)) := (Below.refl _ _).alloc (Nat.le_refl _) _
        have HRC := Lib.hid (((HR.out.mono (Q := (· < w.heap.size)) fun _ _ h => h).below hb).cut k hk)
        clear hb
        go_wp2_with (at_builtin; refine wpList_append_ints _ rfl _ _ 23 rfl w.heap.size 3 Try.underlying23 infoInt (some ⟨w.heap.size, 0, none⟩) 0 0 [] rfl (World.ownsRow_lit _ #[] 0 (Nat.le_refl _) (by decide) rfl) _ _ k c (xs.take k) rfl HRC.out (by omega) (by simp) ?_; intro V' c' w1 hown hg)
        go_ret
        have e1 : xs.take k = D (natOf xs) := by have := take_trim HL.out; rwa [← HK.out] at this
        have e2 := HK.out
        simp only [Nat.zero_add, List.nil_append] at hown
        rw [e1] at hown
        refine ⟨V', c', ?_, ?_, ((Below.refl _ _).alloc (Nat.le_refl _) _).grown hg (by simp) (fun j h => by simp [Value.ownBlock] at h; omega)⟩
        · rw [← e2]; simp
        · rw [← e2]; exact hown
    · obtain rfl : k = 0 := by omega
      have HK := Lib.hid (trim_take HL.out 0 (by omega) (by rw [HN.out]; exact HZ.out) (.inl rfl))
      clear hr HZ
      have hb : Below w.heap.size w (w.alloc (.cells #[] 3)) := (Below.refl _ _).alloc (Nat.le_refl _) _
      have HRC := Lib.hid (((HR.out.mono (Q := (· < w.heap.size)) fun _ _ h => h).below hb).cut 0 hk)
      clear hb
      go_wp2_with (at_builtin; refine wpList_append_ints _ rfl _ _ 23 rfl w.heap.size 3 Try.underlying23 infoInt (some ⟨w.heap.size, 0, none⟩) 0 0 [] rfl (World.ownsRow_lit _ #[] 0 (Nat.le_refl _) (by decide) rfl) _ _ 0 c (xs.take 0) rfl HRC.out (by omega) (by simp) ?_; intro V' c' w1 hown hg)
      go_ret
      have e1 : xs.take 0 = D (natOf xs) := by have := take_trim HL.out; rwa [← HK.out] at this
      have e2 := HK.out
      simp only [Nat.zero_add, List.nil_append] at hown
      rw [e1] at hown
      refine ⟨V', c', ?_, ?_, ((Below.refl _ _).alloc (Nat.le_refl _) _).grown hg (by simp) (fun j h => by simp [Value.ownBlock] at h; omega)⟩
      · rw [← e2]; simp
      · rw [← e2]; exact hown

end Go.Proofs.Ytojjopielekpdab
