/-
  GcdNat of the model.
-/
import Derived.Test.YtgeijojkfojfbabSpecDiv
import Derived.Test.YtgeijojkfojfbabCommon
namespace Go.Proofs.Ytgeijojkfojfbab
open Go Go.RowKit Nt

set_option maxHeartbeats 800000 in
theorem l01Gcd_any (A B : Option Addr) (la ca lb cb m n : Nat) (P Q : Nat → Prop) (w : World) (hx0 : Rd w P A la ca (D m)) (hy0 : Rd w Q B lb cb (D n)) (hla : la ≤ 1000) (hlb : lb ≤ 1000) :
    Calls Try.prog 53 #[.slice A la ca, .slice B lb cb] w (RetNew 3 w (D (Nat.gcd m n))) := by
  have hxl := hx0.len
  have hyl := hy0.len
  subst hxl hyl
  have HX := Lib.hid (hx0.mono (Q := fun _ => True) fun _ _ _ => trivial)
  have HY := Lib.hid (hy0.mono (Q := fun _ => True) fun _ _ _ => trivial)
  clear hx0 hy0
  go_enter Try.func53, Try.ntmps53
  go_wp2
  go_loopg [0, 1] n (fun n' x y wr => ∃ (m' : Nat) (A' B' : Option Addr) (ca' cb' : Nat), x = .slice A' (D m').length ca' ∧ y = .slice B' (D n').length cb' ∧ (D m').length ≤ 1000 ∧ (D n').length ≤ 1000 ∧ Nat.gcd m' n' = Nat.gcd m n ∧ Rd wr (fun _ => True) A' (D m').length ca' (D m') ∧ Rd wr (fun _ => True) B' (D n').length cb' (D n') ∧ Below w.heap.size w wr)
  case atStart => exact ⟨m, A, B, ca, cb, rfl, rfl, hla, hlb, rfl, HX.out, HY.out, Below.refl _ _⟩
  case round =>
    obtain ⟨m', A', B', ca', cb', rfl, rfl, hml, hnl, hg, hrx, hry, hb⟩ := hrel
    have HG := Lib.hid hg
    have HRX := Lib.hid hrx
    have HRY := Lib.hid hry
    have HB := Lib.hid hb
    clear hg hrx hry hb HX HY
    have hsz := HB.out.size
    by_cases h0 : 0 < gk
    · have hlen : 0 < (D gk).length := by
        rw [List.length_pos_iff]
        intro e
        have := (D_nil_iff gk).1 e
        omega
      have hlen' : (0 : Int) < (D gk).length := by omega
      go_wp2_with fail
      refine (l01Div_any A' B' _ ca' _ cb' m' gk _ _ wr HRX.out HRY.out hml hnl h0).mono ?_
      rintro e w1 ⟨A1, c1, A2, c2, rfl, ho, hr, hb⟩
      have HR2 := Lib.hid (hr.mono (Q := fun _ => True) fun _ _ _ => trivial)
      have HY2 := Lib.hid (HRY.out.keep hb.size fun b _ hbl => hb.block b hbl)
      have HB2 := Lib.hid (HB.out.trans (hb.mono hsz))
      have hle : (D (m' % gk)).length ≤ 1000 := by
        have h1 := (D_len_le gk (D gk).length).1 (Nat.le_refl _)
        have h2 := Nat.mod_lt m' h0
        have := (D_len_le (m' % gk) (D gk).length).2 (by omega)
        omega
      clear ho hr hb
      go_wp2
      go_roundg (m' % gk)
      case measure => exact Nat.mod_lt _ h0
      case rel => exact ⟨gk, B', A2, cb', c2, rfl, rfl, hnl, hle, by rw [gcd_next]; exact HG.out, HY2.out, HR2.out, HB2.out⟩
    · obtain rfl : gk = 0 := by omega
      have HGE : Hid (m' = Nat.gcd m n) := by show _ = _; rw [← HG.out, Nat.gcd_zero_right]
      have hd0 : (D 0).length = 0 := rfl
      have HRC := Lib.hid ((HRX.out.mono (Q := (· < wr.heap.size)) fun _ _ h => h).below ((Below.refl wr.heap.size wr).alloc (Nat.le_refl _) (.cells #[] 3)))
      go_wp2_with (at_builtin; refine wpList_append_ints _ rfl _ _ 23 rfl wr.heap.size 3 Try.underlying23 infoInt (some ⟨wr.heap.size, 0, none⟩) 0 0 [] rfl (World.ownsRow_lit _ #[] 0 (Nat.le_refl _) (by decide) rfl) _ A' (D m').length ca' (D m') rfl HRC.out (by omega) (by simp) ?_; intro V' c' w1 hown hg)
      go_ret
      simp only [Nat.zero_add, List.nil_append] at hown
      have hbb : Below wr.heap.size wr w1 := ((Below.refl _ _).alloc (Nat.le_refl _) _).grown hg (by simp) (fun j h => by simp [Value.ownBlock] at h; omega)
      rw [← HGE.out]
      refine ⟨V', c', by simp, own_mono hown hsz, HB.out.trans (hbb.mono hsz)⟩

set_option maxHeartbeats 400000 in
theorem specGcdNat_any (la ca lb cb : Nat) (A B : Option Addr) (xs ys : List Int) (P Q : Nat → Prop) (w : World)
    (hx : Rd w P A la ca xs) (hy : Rd w Q B lb cb ys) (hla : la ≤ 16777216) (hlb : lb ≤ 16777216) :
    Calls Try.prog 27 #[.slice A la ca, .slice B lb cb] w (RetCode 3 w (resL (codeL [xs, ys]) (D (Nat.gcd (natOf xs) (natOf ys)))) (codeL [xs, ys])) := by
  have h1 := hx.len
  have h2 := hy.len
  by_cases ha : 4096 < la
  · have hx2 : codeL [xs, ys] = 2 := codeL_long (N := 2) (xss := fun i => if i = 0 then xs else ys) 0 (by omega) (by simp; omega)
    rw [hx2]
    have ha' : decide ((4096 : Int) < la) = true := by simp; omega
    clear h1 h2 hx hy hx2
    go_enter Try.func27, Try.ntmps27
    go_wp2
    go_ret2
    exact ⟨_, _, rfl, World.ownsRow_lit _ #[] 0 (Nat.le_refl _) (by decide) rfl, (Below.refl _ _).alloc (Nat.le_refl _) _⟩
  have ha' : decide ((4096 : Int) < la) = false := by simp; omega
  by_cases hb : 4096 < lb
  · have hx2 : codeL [xs, ys] = 2 := codeL_long (N := 2) (xss := fun i => if i = 0 then xs else ys) 1 (by omega) (by simp; omega)
    rw [hx2]
    have hb' : decide ((4096 : Int) < lb) = true := by simp; omega
    clear h1 h2 hx hy hx2
    go_enter Try.func27, Try.ntmps27
    go_wp2
    go_ret2
    exact ⟨_, _, rfl, World.ownsRow_lit _ #[] 0 (Nat.le_refl _) (by decide) rfl, (Below.refl _ _).alloc (Nat.le_refl _) _⟩
  have hb' : decide ((4096 : Int) < lb) = false := by simp; omega
  have HR := Lib.hid hx
  have HS := Lib.hid hy
  clear hx hy h1 h2
  by_cases hcode : codeL [xs, ys] = 0
  · have HC := Lib.hid hcode
    obtain ⟨m, n, hm, hn, rfl, rfl⟩ := codeL2_ok hcode
    have hla' : la ≤ 40 := by rw [← HR.out.len]; exact (D_len_le m 40).2 hm
    have hlb' : lb ≤ 40 := by rw [← HS.out.len]; exact (D_len_le n 40).2 hn
    rw [hcode, natOf_D, natOf_D]
    clear hcode
    go_enter Try.func27, Try.ntmps27
    go_wp2_with fail
    refine (l01Ask_any _ _ _ _ _ _ _ _ _ _ _ HR.out HS.out hla hlb).mono ?_
    rintro e w1 ⟨rfl, rfl⟩
    rw [HC.out]
    go_wp2_with fail
    refine (l01Gcd_any A B la ca lb cb m n _ _ _ HR.out HS.out (by omega) (by omega)).mono ?_
    rintro e w1 ⟨A1, c1, rfl, ho, hb⟩
    have HO := Lib.hid ho
    have HB := Lib.hid hb
    clear ho hb
    go_wp2
    go_ret2
    exact ⟨A1, c1, rfl, HO.out, HB.out⟩
  · have HC := Lib.hid hcode
    have hne : (codeL [xs, ys] != 0) = true := by simpa using hcode
    go_enter Try.func27, Try.ntmps27
    go_wp2_with fail
    refine (l01Ask_any _ _ _ _ _ _ _ _ _ _ _ HR.out HS.out hla hlb).mono ?_
    rintro e w1 ⟨rfl, rfl⟩
    generalize hc : codeL [xs, ys] = c at *
    clear hcode hc
    go_wp2
    go_ret2
    obtain ⟨e1, e2⟩ := res_bad HC.out (D (Nat.gcd (natOf xs) (natOf ys))) 0
    rw [e1]
    exact ⟨_, _, rfl, World.ownsRow_lit _ #[] 0 (Nat.le_refl _) (by decide) rfl, (Below.refl _ _).alloc (Nat.le_refl _) _⟩
theorem gcd_len (xs ys : List Int) : (resL (codeL [xs, ys]) (D (Nat.gcd (natOf xs) (natOf ys)))).length ≤ 40 := by
  by_cases h : codeL [xs, ys] = 0
  · obtain ⟨m, n, hm, hn, rfl, rfl⟩ := codeL2_ok h
    rw [h, natOf_D, natOf_D]
    exact (D_len_le _ 40).2 (gcd_lt_top hm hn)
  · rw [(res_bad h _ 0).1]; simp
end Go.Proofs.Ytgeijojkfojfbab
