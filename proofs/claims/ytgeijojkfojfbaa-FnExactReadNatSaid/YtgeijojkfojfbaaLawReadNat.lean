/-
  The law FnExactReadNat: for every text ReadNat answers as its model, and its answer is memory of its own. No condition.
-/
import Derived.Test.YtgeijojkfojfbaaSpecRead
import Derived.ProofKit
import Derived.OpenShut
import Derived.ShutString
import Derived.ChangeOld
namespace Go.Proofs.Ytgeijojkfojfbaa
open Go Go.RowKit Nt
open Go.ChangeShapes Go.WideShapes Go.ChangeAt
open Go.ChangeMaps (open_string shut_string)

theorem read_len (s : ByteArray) : (readL s).length ≤ 40 := by
  unfold readL
  split
  · simp
  · split
    · simp
    · rename_i hb
      split
      · rename_i ha
        refine readN_lt ?_ fun i hi => ?_
        · unfold badT at hb; omega
        · unfold allD at ha
          rw [List.all_eq_true] at ha
          exact ha i (by simpa using hi)
      · simp

set_option maxHeartbeats 3200000 in
theorem lawReadNat_core (R : List Int) (K : Int) (s : ByteArray) (w : World) (hRl : R.length ≤ 1000)
    (hS : ∀ (W : World), Calls Try.prog 53 #[.string s] W (RetCode 3 W R K))
    (hI : ∀ (W : World), Calls Try.prog 54 #[.string s] W (RetCode 3 W R K))
    (hn' : s.size ≤ 1048576) :
    Calls Try.prog 12 #[.string s] w fun e w' => e = .returned (.bool true) ∧ Below w.heap.size w w' := by
  have HS := Lib.hid hS
  have HI := Lib.hid hI
  clear hS hI
  have hbig' : decide ((1048576 : Int) < s.size) = false := by simp; omega
  have hR16 : R.length ≤ 16777216 := by omega
  have hK : (K != K) = false := by simp
  go_enter Try.func12, Try.ntmps12
  go_wp2_with fail
  refine (HS.out w).mono ?_
  rintro e w3 ⟨As, cs, rfl, o3, b3⟩
  have s3 := b3.size
  have HW3 := Lib.hid ((own_rd' o3).mono (Q := (· < w3.heap.size)) fun _ _ h => h)
  have HB3 := Lib.hid b3
  clear o3 b3
  go_wp2_with fail
  refine (HI.out w3).mono ?_
  rintro e w6 ⟨Ag, cg, rfl, o6, b6⟩
  have s6 := b6.size
  have HG6 := Lib.hid o6
  have HB6 := Lib.hid (HB3.out.trans (b6.mono (by omega)))
  have HC6 := Lib.hid b6
  clear o6 b6 HB3
  go_wp2_with fail
  refine (eqIntS_same _ _ _ _ _ _ R _ _ w6 (own_rd' HG6.out) (HW3.out.below HC6.out) hR16).mono ?_
  rintro e w7 ⟨rfl, d7⟩
  have HG7 := Lib.hid (own_keep HG6.out (d7.below _))
  have HB7 := Lib.hid (HB6.out.trans (d7.below _))
  have HC7 := Lib.hid (HC6.out.trans (d7.below _))
  have s7 : w6.heap.size ≤ w7.heap.size := (d7.below 0).size
  clear d7 HG6 HB6 HC6
  go_wp2_with fail
  refine (markIntS_any _ R.length cg R 1 w3.heap.size w7 HG7.out hR16 (by omega) (by omega)).mono ?_
  rintro e wf ⟨rfl, of, gf⟩
  have sf := gf.size
  have HGf := Lib.hid of
  have HBf := Lib.hid (HB7.out.grown gf (by omega) (fun k hk => by have := (own_lt HG7.out k hk).1; omega))
  have HCf := Lib.hid (HC7.out.grown gf (by omega) (fun k hk => by have := (own_lt HG7.out k hk).1; omega))
  clear of gf HG7 HB7 HC7
  go_wp2_with fail
  refine (heldIntS_any _ R.length cg 1 _ wf (own_rd' HGf.out) hR16 (by omega) (by omega)).mono ?_
  rintro e wg ⟨rfl, rfl⟩
  have hq1 : decide ((1 + (R.length : Int)) < 0) = false := by simp; omega
  have hq2 : ((1 + (R.length : Int)) != (1 + (R.length : Int))) = false := by simp
  go_wp2_with fail
  refine (HI.out wf).mono ?_
  rintro e wj ⟨Ah, ch, rfl, oj, bj⟩
  have sj := bj.size
  have HOj := Lib.hid oj
  have HGj := Lib.hid (own_keep HGf.out bj)
  have HBj := Lib.hid (HBf.out.trans (bj.mono (by omega)))
  have HCj := Lib.hid (HCf.out.trans (bj.mono (by omega)))
  clear oj bj HGf HBf HCf
  go_wp2_with fail
  refine (eqIntS_same _ _ _ _ _ _ R _ _ wj (own_rd' HOj.out) (HW3.out.below HCj.out) hR16).mono ?_
  rintro e wk ⟨rfl, dk⟩
  have HGk := Lib.hid (own_keep HGj.out (dk.below _))
  have HBk := Lib.hid (HBj.out.trans (dk.below _))
  clear dk HGj HBj HCj HOj
  go_wp2_with fail
  refine (heldIntS_any _ R.length cg 1 _ wk (own_rd' HGk.out) hR16 (by omega) (by omega)).mono ?_
  rintro e wl ⟨rfl, rfl⟩
  clear HGk HS HI HW3
  go_wp2
  go_ret
  exact ⟨rfl, HBk.out⟩

theorem lawReadNat_any (s : ByteArray) (w : World) (hs : s.size ≤ maxLen) :
    Calls Try.prog 12 #[.string s] w fun e w' => e = .returned (.bool true) ∧ Below w.heap.size w w' := by
  by_cases hbig : 1048576 < s.size
  · have hbig' : decide ((1048576 : Int) < s.size) = true := by simp; omega
    go_enter Try.func12, Try.ntmps12
    go_wp2
    go_ret
    exact ⟨rfl, Below.refl _ _⟩
  exact lawReadNat_core _ _ s w (by have := read_len s; omega) (fun W => specReadNat_any s W (by omega)) (fun W => implReadNat_any s W (by omega)) (by omega)


theorem own_fnExactReadNat : ownKnob Try.prog.godebug = none := by kernel_rfl
theorem laidOut_fnExactReadNat : laidOutB Try.prog = true := by kernel_rfl
set_option maxRecDepth 100000 in
set_option linter.unusedVariables false in
theorem fnExactReadNat_lifted (os : Os) (started : os.Started) (H : Type) (enc : TypeId × Value → H) :
    ReturnsInHanded {} Try.checked os 12 .any (Rows.fnExactReadNatSpec.pre6 enc Try.prog Try.f12 Rows.fnExactReadNatRow.domain false) (Rows.fnExactReadNatSpec.post enc Try.prog Try.f12 false true false false) := by
  refine returnsInHanded_of_change (C := Try.checked) own_fnExactReadNat started (by kernel_rfl) Try.func12
    (ChangeSpec.witness6 (enc := enc) (C := Try.checked) false ⟨#[], #[.string ByteArray.empty], []⟩ 8 (by kernel_rfl) (by kernel_rfl) (by kernel_rfl) (by kernel_rfl)) ?_
  intro W base args ds gs before hval0 hW hcnd _
  have hval : ∀ (j : Nat) t v, Try.f12.params[j]? = some t → args[j]? = some v → Value.okWide Try.prog W .any base t v := hval0
  have hW' := hW
  obtain ⟨p, q, hA0, hV, rfl, hfz, hnd⟩ := hW
  have hA : DataW.TrodAll enc Try.prog W 0 (fun _ => true) true Try.f12.params.toList args.toList ds p := hA0
  rw [Try.params12] at hA hval
  obtain ⟨v0, vs0, d0, ds0, p0, q0, hargs, rfl, rfl, h0, r0⟩ := trodAll_cons hA
  obtain ⟨rfl, rfl, rfl⟩ := trodAll_nil r0
  obtain rfl : args = #[v0] := by cases args; simp_all
  obtain ⟨rfl, rfl⟩ := trodVars_none hV
  obtain ⟨s0, rfl, rfl, rfl, w0⟩ := open_string Try.underlying9 (hval 0 9 v0 rfl rfl) h0
  clear hA0 hval0
  refine (lawReadNat_any s0 W w0).mono fun e W' ⟨he, bel⟩ => ?_
  subst he
  exact ⟨_, rfl, _, _, _, [], _, [], hW', trodAll_mk1 (shut_bool Try.underlying4 _), (trodAll_cons_mk (shut_string Try.underlying9 w0) trodAll_mk0), rfl, bel.frame _, fun h => by cases h⟩

theorem fnExactReadNat_over : Rows.fnExactReadNatRow.holds Try.pinned (OpenSpec.ofChange Rows.fnExactReadNatSpec) :=
  OpenClaim.holds_of_wide 12 Try.f12 rfl rfl rfl rfl rfl rfl rfl ⟨rfl, rfl, rfl, rfl, rfl⟩ rfl rfl rfl rfl rfl (by kernel_rfl) Try.func12 (by kernel_rfl)
    (of_decide_eq_true (by kernel_rfl)) (by unfold Func.isWrapper; first | (rw [if_pos (by decide +kernel)]; kernel_rfl) | (rw [if_neg (by decide +kernel)]; exact ⟨rfl, rfl⟩))
    (fun os started H enc _ => fnExactReadNat_lifted os started H enc)

theorem fnExactReadNat_holds : Rows.FnExactReadNatSaid := fnExactReadNat_over

end Go.Proofs.Ytgeijojkfojfbaa
