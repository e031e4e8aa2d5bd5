/-
  GcdNat of the model.
-/
import Derived.Test.YtgeijojkfojfbaaDoorSpecDiv
import Derived.Test.YtgeijojkfojfbaaDoorCommon
namespace Go.Proofs.YtgeijojkfojfbaaDoor
open Go Go.RowKit Nt

set_option maxHeartbeats 800000 in
theorem l01Gcd_any (A B : Option Addr) (la ca lb cb m n : Nat) (P Q : Nat → Prop) (w : World) (hx0 : Rd w P A la ca (D m)) (hy0 : Rd w Q B lb cb (D n)) (hla : la ≤ 1000) (hlb : lb ≤ 1000) :
    Calls Tryd.prog 68 #[.slice A la ca, .slice B lb cb] w (RetNew 3 w (D (Nat.gcd m n))) := by
  have hxl := hx0.len
  have hyl := hy0.len
  subst hxl hyl
  have HX := Lib.hid (hx0.mono (Q := fun _ => True) fun _ _ _ => trivial)
  have HY := Lib.hid (hy0.mono (Q := fun _ => True) fun _ _ _ => trivial)
  clear hx0 hy0
  go_enter Tryd.func68, Tryd.ntmps68
  go_wp2
  go_loopg [0, 1] n (fun n' x y wr => ∃ (m' : Nat) (A' B' : Option Addr) (ca' cb' : Nat), x = .slice A' (D m').length ca' ∧ y = .slice B' (D n').length cb' ∧ (D m').length ≤ 1000 ∧ (D n').length ≤ 1000 ∧ Nat.gcd m' n' = Nat.gcd m n ∧ Rd wr (fun _ => True) A' (D m').length ca' (D m') ∧ Rd wr (fun _ => True) B' (D n').length cb' (D n') ∧ Below w.heap.size w wr)
  case atStart => exact ⟨m, A, B, ca, cb, rfl, rfl, hla, hlb, rfl, HX.out, HY.out, Below.refl _ _⟩
  case round =>
    obtain ⟨m', A', B', ca', cb', rfl, rfl, hml, hnl, hg, hrx, hry, hb⟩ := hrel
    have HG := Lib.hid hg
    have HRX := Lib.hid hrx
    have HRY := Lib.hid hry
    have HB := Lib.hid hb
    clear hg hrx hry hb HX HY
    have hsz := HB.out.size
    by_cases h0 : 0 < gk
    · have hlen : 0 < (D gk).length := by
        rw [List.length_pos_iff]
        intro e
        have := (D_nil_iff gk).1 e
        omega
      have hlen' : (0 : Int) < (D gk).length := by omega
      go_wp2_with fail
      refine (l01Div_any A' B' _ ca' _ cb' m' gk _ _ wr HRX.out HRY.out hml hnl h0).mono ?_
      rintro e w1 ⟨A1, c1, A2, c2, rfl, ho, hr, hb⟩
      have HR2 := Lib.hid (hr.mono (Q := fun _ => True) fun _ _ _ => trivial)
      have HY2 := Lib.hid (HRY.out.keep hb.size fun b _ hbl => hb.block b hbl)
      have HB2 := Lib.hid (HB.out.trans (hb.mono hsz))
      have hle : (D (m' % gk)).length ≤ 1000 := by
        have h1 := (D_len_le gk (D gk).length).1 (Nat.le_refl _)
        have h2 := Nat.mod_lt m' h0
        have := (D_len_le (m' % gk) (D gk).length).2 (by omega)
        omega
      clear ho hr hb
      go_wp2
      go_roundg (m' % gk)
      case measure => exact Nat.mod_lt _ h0
      case rel => exact ⟨gk, B', A2, cb', c2, rfl, rfl, hnl, hle, by rw [gcd_next]; exact HG.out, HY2.out, HR2.out, HB2.out⟩
    · obtain rfl : gk = 0 := by omega
      have HGE : Hid (m' = Nat.gcd m n) := by show _ = _; rw [← HG.out, Nat.gcd_zero_right]
      have hd0 : (D 0).length = 0 := rfl
      have HRC := Lib.hid ((HRX.out.mono (Q := (· < wr.heap.size)) fun _ _ h => h).below ((Below.refl wr.heap.size wr).alloc (Nat.le_refl _) (.cells #[] 3)))
      go_wp2_with (at_builtin; refine wpList_append_ints _ rfl _ _ 23 rfl wr.heap.size 3 Tryd.underlying23 infoInt (some ⟨wr.heap.size, 0, none⟩) 0 0 [] rfl (World.ownsRow_lit _ #[] 0 (Nat.le_refl _) (by decide) rfl) _ A' (D m').length ca' (D m') rfl HRC.out (by omega) (by simp) ?_; intro V' c' w1 hown hg)
      go_ret
      simp only [Nat.zero_add, List.nil_append] at hown
      have hbb : Below wr.heap.size wr w1 := ((Below.refl _ _).alloc (Nat.le_refl _) _).grown hg (by simp) (fun j h => by simp [Value.ownBlock] at h; omega)
      rw [← HGE.out]
      refine ⟨V', c', by simp, own_mono hown hsz, HB.out.trans (hbb.mono hsz)⟩

theorem gcd_len (xs ys : List Int) : (resL (codeL [xs, ys]) (D (Nat.gcd (natOf xs) (natOf ys)))).length ≤ 40 := by
  by_cases h : codeL [xs, ys] = 0
  · obtain ⟨m, n, hm, hn, rfl, rfl⟩ := codeL2_ok h
    rw [h, natOf_D, natOf_D]
    exact (D_len_le _ 40).2 (gcd_lt_top hm hn)
  · rw [(res_bad h _ 0).1]; simp
end Go.Proofs.YtgeijojkfojfbaaDoor
