/-
  What is trimmed, and what is copied into memory of its own.
-/
import Derived.Test.YtgeijojkfojfbaaDoorCmp
namespace Nt
open Go Go.RowKit
/-- it hands back new memory that holds the numbers xs; nothing that was there has turned -/
def RetNew (t : TypeId) (w : World) (xs : List Int) (e : Ending) (w' : World) : Prop :=
  ∃ A c, e = .returned (.slice A xs.length c) ∧ w'.ownsRow w.heap.size t 1 (.slice A xs.length c) xs.length (xs.map (Value.int .i64)) ∧ Below w.heap.size w w'
/-- the same, and a code -/
def RetCode (t : TypeId) (w : World) (xs : List Int) (code : Int) (e : Ending) (w' : World) : Prop :=
  ∃ A c, e = .returned (.tuple #[.slice A xs.length c, .int .i64 code]) ∧ w'.ownsRow w.heap.size t 1 (.slice A xs.length c) xs.length (xs.map (Value.int .i64)) ∧ Below w.heap.size w w'
end Nt
namespace Go.Proofs.YtgeijojkfojfbaaDoor
open Go Go.RowKit Nt

set_option maxHeartbeats 400000 in
theorem trimmed_any (A : Option Addr) (n c : Nat) (xs : List Int) (P : Nat → Prop) (w : World) (hr : Rd w P A n c xs) (hl : Limbs xs) (hn : n ≤ 16777216) :
    Calls Tryd.prog 61 #[.slice A n c] w fun e w' => e = .returned (.slice A (D (natOf xs)).length c) ∧ w = w' := by
  have HL := Lib.hid hl
  have HN := Lib.hid hr.len
  have hcap := hr.cap
  clear hl
  go_enter Tryd.func61, Tryd.ntmps61
  go_wp2
  go_loop [0] (fun v => ∃ k : Nat, k ≤ n ∧ v = .slice A k c ∧ ∀ i, k ≤ i → i < n → xs.getD i 0 = 0) (fun v => match v with | .slice _ k _ => k | _ => 0)
  case atStart => exact ⟨n, Nat.le_refl _, rfl, fun i h1 h2 => absurd h1 (by omega)⟩
  case round =>
    obtain ⟨k, hk, rfl, hz⟩ := hrel
    have HZ := Lib.hid hz
    clear hz
    by_cases h0 : 0 < k
    · obtain ⟨b, o, rfl, hP, _, hc⟩ := hr.at_ (by omega)
      have hcx := hc (k - 1) (by omega)
      have hd : decide ((0 : Int) < k) = true := by simp; omega
      by_cases hx : xs.getD (k - 1) 0 = 0
      · have HZ' : Hid (∀ i, k - 1 ≤ i → i < n → xs.getD i 0 = 0) := by
          intro i h1 h2
          by_cases hi : i = k - 1
          · subst hi; exact hx
          · exact HZ.out i (by omega) h2
        rw [hx] at hcx
        clear hx hc hr HZ
        go_wp2
        go_round
        case rel => exact ⟨k - 1, by omega, by go_num, HZ'.out⟩
        case measure => simp; omega
      · have hx' : (xs.getD (k - 1) 0 == 0) = false := by simpa using hx
        have HK := Lib.hid (trim_take HL.out k (by have := HN.out; omega) (by rw [HN.out]; exact HZ.out) (.inr hx))
        generalize xs.getD (k - 1) 0 = x at *
        clear hx hc hr HZ
        go_wp2
        go_ret
        exact ⟨by rw [← HK.out]; rfl, rfl⟩
    · obtain rfl : k = 0 := by omega
      have HK := Lib.hid (trim_take HL.out 0 (by omega) (by rw [HN.out]; exact HZ.out) (.inl rfl))
      clear hr HZ
      go_wp2
      go_ret
      exact ⟨by rw [← HK.out]; rfl, rfl⟩

set_option maxHeartbeats 400000 in
theorem fresh_any (A : Option Addr) (n c : Nat) (xs : List Int) (P : Nat → Prop) (w : World) (hr : Rd w P A n c xs) (hn : n ≤ 16777216) :
    Calls Tryd.prog 59 #[.slice A n c] w (RetNew 3 w xs) := by
  have HR := Lib.hid hr
  clear hr
  go_enter Tryd.func59, Tryd.ntmps59
  go_wp2_with (at_builtin; refine wpList_append_ints _ rfl _ _ 23 rfl w.heap.size 3 Tryd.underlying23 infoInt none 0 0 [] rfl (World.ownsRow_nil _ _ _ _) _ A n c xs rfl HR.out (by omega) (Nat.le_refl _) ?_; intro V' c' w1 hown hg)
  go_ret
  have hl := HR.out.len
  subst hl
  simp only [Nat.zero_add, List.nil_append] at hown
  refine ⟨V', c', by simp, hown, (Below.refl _ _).grown hg (Nat.le_refl _) (fun k h => by simp [Value.ownBlock] at h)⟩
end Go.Proofs.YtgeijojkfojfbaaDoor
