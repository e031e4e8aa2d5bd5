/-
  RunTape of the model.
-/
import Derived.Test.YtcepjcnpokpdcaaGreatDoorSpecRun
import Derived.Test.YtcepjcnpokpdcaaGreatDoorImplJetV
import Derived.Test.YtcepjcnpokpdcaaGreatDoorSpecTapeOK
import Derived.Test.YtcepjcnpokpdcaaGreatDoorGrpF
namespace Nt
open Go Go.RowKit
theorem nilVX (w w' : World) (code : Int) (b : Nat) (hB : Below w.heap.size w w') : SayVC w [] code (.returned (.tuple #[.slice (some ⟨b, 0, none⟩) 0 0, .int .i64 code])) w' :=
  ⟨_, 0, rfl, ⟨rfl, Nat.le_refl _, (fun h => by cases h), fun h => absurd h (Nat.lt_irrefl _)⟩, hB⟩
end Nt
namespace Go.Proofs.YtcepjcnpokpdcaaGreatDoor
open Go Go.RowKit Nt

theorem l07Dim_any (A : Option Addr) (n c : Nat) (ns : List Nd) (ot : Int) (P : Nat → Prop) (w : World) (hr : RdN w P A n c ns) (hf : ∀ j, j < ns.length → fitN (ns.getD j nd0) = true) (h1 : 1 ≤ n) (hn : n ≤ 60) :
    Calls Tryz.prog 106 #[.agg #[.slice A n c, .int .i64 ot]] w fun e w' => e = .returned (.int .i64 (dimE ns)) ∧ Below w.heap.size w w' := by
  have HR := Lib.hid hr
  have HF := Lib.hid hf
  clear hr hf
  go_enter Tryz.func106, Tryz.ntmps106
  go_wp2_with (go_at_call 87; refine (l05Dim_any A n c ns _ _ (HR.out.on (below1 _ _)) HF.out h1 hn).mono ?_; rintro e w1 ⟨rfl, bb⟩; have HB := Lib.hid (below_on (below1 _ _) bb); clear bb)
  exact bodyPost_ret (results_tmp rfl _ _ _) rfl ⟨rfl, HB.out⟩

set_option maxHeartbeats 1600000 in
theorem l07Ask_any (A X : Option Addr) (n c m d : Nat) (ns : List Nd) (ot : Int) (rs : List R3) (P P' : Nat → Prop) (w : World) (hr : RdN w P A n c ns) (hx : RdS w P' X m d rs) (hsm : Small rs) (hn : n ≤ 1048576) (hm : m ≤ 1048576) :
    Calls Tryz.prog 73 #[.agg #[.slice A n c, .int .i64 ot], .slice X m d] w fun e w' => e = .returned (.int .i64 (ptCode (okTp ns ot) ns m rs)) ∧ Below w.heap.size w w' := by
  have HLN : Hid (ns.length = n) := hr.len
  have HR := Lib.hid (hr.mono (Q := (· < w.heap.size)) fun _ _ h => h)
  have HX := Lib.hid hx.low
  have HS := Lib.hid hsm
  have HOK : Hid (okTp ns ot = true → (∀ j, j < ns.length → fitN (ns.getD j nd0) = true) ∧ 1 ≤ n ∧ n ≤ 60) := fun h => by
    have ok := okTp_out h
    refine ⟨fun j hj => ?_, by have := HLN.out; omega, by have := HLN.out; omega⟩
    have := ok.2.2.2.1 j hj
    unfold stepN at this
    exact (Bool.and_eq_true_iff.1 this).1
  clear hr hx hsm
  by_cases h1 : 4096 < m
  · have HC : Hid (ptCode (okTp ns ot) ns m rs = 2) := Lib.hid (by simp [ptCode, h1])
    have z1 : decide ((4096 : Int) < m) = true := by simp; omega
    clear h1
    go_enter Tryz.func73, Tryz.ntmps73
    go_wp2
    exact bodyPost_ret (results_tmp rfl _ _ _) rfl ⟨by rw [HC.out]; rfl, below1 _ _⟩
  have z1 : decide ((4096 : Int) < m) = false := by simp; omega
  have H1 := Lib.hid h1
  clear h1
  go_enter Tryz.func73, Tryz.ntmps73
  go_upto_region 3 with fail
  refine wp_at (fun v0 => Below w.heap.size w v0 ∧ TpAt v0 w.heap.size 63 A n c ot) ⟨below1 _ _, TpAt.new _ _ _ _ _ _⟩ ?_
  rintro v0 ⟨hb, r0⟩
  have HB0 := Lib.hid hb
  have HT0 := Lib.hid r0
  have t0 := r0.c0
  have t1 := r0.c1
  clear hb r0
  go_wp2_with fail
  refine (specTapeOK_any A n c ns ot _ v0 (HR.out.below HB0.out) hn).mono ?_
  rintro e w1 ⟨rfl, b1⟩
  have HB1 := Lib.hid (below_on HB0.out b1)
  have HT1 := Lib.hid (HT0.out.on b1)
  clear b1 HB0 HT0 t0 t1
  cases hok : okTp ns ot with
  | false =>
    have HC : Hid (ptCode (okTp ns ot) ns m rs = 1) := Lib.hid (by simp [ptCode, H1.out, hok])
    clear hok HOK
    go_wp2
    exact bodyPost_ret (results_tmp rfl _ _ _) rfl ⟨by rw [HC.out]; rfl, HB1.out⟩
  | true =>
    obtain ⟨hf, hn1, hn60⟩ := HOK.out hok
    have HF := Lib.hid hf
    have HK := Lib.hid hok
    clear hok hf HOK
    go_wp2_with fail
    refine (specVecOK_any X m d rs _ w1 (HX.out.below HB1.out) HS.out hm).mono ?_
    rintro e w2 ⟨rfl, b2⟩
    have HB2 := Lib.hid (below_on HB1.out b2)
    have HT2 := Lib.hid (HT1.out.on b2)
    clear b2 HB1 HT1
    cases hv : okV rs with
    | false =>
      have HC : Hid (ptCode (okTp ns ot) ns m rs = 1) := Lib.hid (by simp [ptCode, H1.out, hv, HK.out])
      clear hv
      go_wp2
      exact bodyPost_ret (results_tmp rfl _ _ _) rfl ⟨by rw [HC.out]; rfl, HB2.out⟩
    | true =>
      have HC : Hid (ptCode (okTp ns ot) ns m rs = if (m : Int) < dimE ns then 8 else 0) := Lib.hid (by simp [ptCode, H1.out, hv, HK.out])
      have t0 := HT2.out.c0
      have t1 := HT2.out.c1
      clear hv
      go_wp2_with fail
      refine (l07Dim_any A n c ns ot _ w2 (HR.out.below HB2.out) HF.out hn1 hn60).mono ?_
      rintro e w3 ⟨rfl, b3⟩
      have HB3 := Lib.hid (below_on HB2.out b3)
      clear b3 t0 t1 HB2 HT2
      generalize dimE ns = D at *
      by_cases h8 : (m : Int) < D
      · have HC2 : Hid (ptCode (okTp ns ot) ns m rs = 8) := Lib.hid (by rw [HC.out, if_pos h8])
        go_wp2
        exact bodyPost_ret (results_tmp rfl _ _ _) rfl ⟨by rw [HC2.out]; rfl, HB3.out⟩
      · have HC2 : Hid (ptCode (okTp ns ot) ns m rs = 0) := Lib.hid (by rw [HC.out, if_neg h8])
        go_wp2
        exact bodyPost_ret (results_tmp rfl _ _ _) rfl ⟨by rw [HC2.out]; rfl, HB3.out⟩

set_option maxHeartbeats 1600000 in
theorem specRunTape_code (A X : Option Addr) (n c m d : Nat) (ns : List Nd) (ot : Int) (rs : List R3) (P P' : Nat → Prop) (w : World) (hr : RdN w P A n c ns) (hx : RdS w P' X m d rs) (hsm : Small rs) (hn : n ≤ 1048576) (hm : m ≤ 1048576) (code : Int) (hcode : ptCode (okTp ns ot) ns m rs = code) (h0 : code ≠ 0) :
    Calls Tryz.prog 38 #[.agg #[.slice A n c, .int .i64 ot], .slice X m d] w (SayVC w [] code) := by
  have hb : (code != 0) = true := by simpa using h0
  by_cases h1 : 4096 < m
  · have HC : code = 2 := by rw [← hcode]; simp [ptCode, h1]
    have z1 : decide ((4096 : Int) < m) = true := by simp; omega
    subst HC
    have HB := Lib.hid (below2 w (.cells #[.slice A n c, .int .i64 ot] 63) (.cells #[] 31))
    clear h1 hr hx hsm hcode h0 hb
    go_enter Tryz.func38, Tryz.ntmps38
    go_wp2
    go_ret2
    exact nilVX _ _ _ _ HB.out
  have z1 : decide ((4096 : Int) < m) = false := by simp; omega
  have HA := Lib.hid (fun W (hw : Below w.heap.size w W) => l07Ask_any A X n c m d ns ot rs _ _ W (hr.on hw) (hx.on hw) hsm hn hm)
  rw [hcode] at HA
  clear h1 hr hx hsm hcode h0
  go_enter Tryz.func38, Tryz.ntmps38
  go_wp2_with (go_at_call 73; refine (HA.out _ (below1 _ _)).mono ?_; rintro e w1 ⟨rfl, b1⟩; have HB1 := Lib.hid (below_on (below_on (below1 _ _) b1) (below1 w1 (.cells #[] 31))); clear b1)
  go_ret2
  exact nilVX _ _ _ _ HB1.out

set_option maxHeartbeats 1600000 in
theorem specRunTape_ok (A X : Option Addr) (n c m d : Nat) (ns : List Nd) (ot : Int) (qs : List Rat) (P P' : Nat → Prop) (w : World) (hr : RdN w P A n c ns) (hx : RdS w P' X m d (qs.map rat3)) (hf : Fine qs) (hn : n ≤ 1048576) (hm : m ≤ 1048576) (hcode : ptCode (okTp ns ot) ns m (qs.map rat3) = 0) :
    Calls Tryz.prog 38 #[.agg #[.slice A n c, .int .i64 ot], .slice X m d] w (SayVC w ((evalQ qs ns).1.map rat3) (evalQ qs ns).2) := by
  obtain ⟨h4, hright, hok, hdim⟩ := ptCode_zero hcode
  have hgo := okTp_out hright
  have hln : ns.length = n := hr.len
  have z1 : decide ((4096 : Int) < m) = false := by simp; omega
  have HA := Lib.hid (fun W (hw : Below w.heap.size w W) => l07Ask_any A X n c m d ns ot (qs.map rat3) _ _ W (hr.on hw) (hx.on hw) (small_fine hf) hn hm)
  rw [hcode] at HA
  have HRUN := Lib.hid (fun W (hw : Below w.heap.size w W) => l07Run_any A X n c m d ns ot qs _ _ W (hr.on hw) (hx.on hw) hf (fun k hk => by
    have := hgo.2.2.2.1 k (by omega)
    unfold stepN at this
    rw [Bool.and_eq_true] at this
    exact ⟨this.1, this.2, fun h2 => dim_less (by omega) h2 hdim⟩) (by omega))
  generalize (evalQ qs ns).1.map rat3 = R at *
  generalize (evalQ qs ns).2 = K at *
  clear h4 hright hok hdim hgo hln hr hx hf hcode
  go_enter Tryz.func38, Tryz.ntmps38
  go_upto_region 3 with fail
  refine wp_at (fun v0 => Below w.heap.size w v0 ∧ TpAt v0 w.heap.size 63 A n c ot) ⟨below1 _ _, TpAt.new _ _ _ _ _ _⟩ ?_
  rintro v0 ⟨hb, r0⟩
  have HB0 := Lib.hid hb
  have HT0 := Lib.hid r0
  have t0 := r0.c0
  have t1 := r0.c1
  clear hb r0
  go_wp2_with (first
    | (go_at_call 73; refine (HA.out _ HB0.out).mono ?_; rintro e w1 ⟨rfl, b1⟩; have HB1 := Lib.hid (below_on HB0.out b1); have hT1 := HT0.out.on b1; have u0 := hT1.c0; have u1 := hT1.c1; clear b1 hT1)
    | (go_at_call 74; refine (HRUN.out _ HB1.out).mono ?_; rintro e w2 ⟨V2, d2, rfl, o2, b2⟩; have HO2 := Lib.hid o2; have HB2 := Lib.hid (below_on HB1.out b2); clear o2 b2))
  go_ret2
  exact ⟨V2, d2, rfl, HO2.out, HB2.out⟩
end Go.Proofs.YtcepjcnpokpdcaaGreatDoor
