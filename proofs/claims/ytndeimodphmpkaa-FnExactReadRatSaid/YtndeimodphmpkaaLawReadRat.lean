/-
  The law FnExactReadRat: for every text ReadRat answers as its model, and its answer is memory of its own. No condition.
-/
import Derived.Test.YtndeimodphmpkaaSpecReadRat
import Derived.ProofKit
import Derived.OpenShut
import Derived.ShutString
import Derived.ChangeOld
import Derived.HandedShaped
namespace Go.Proofs.Ytndeimodphmpkaa
open Go Go.RowKit Nt
open Go.ChangeShapes Go.WideShapes Go.ChangeAt
open Go.ChangeMaps (open_string shut_string)

set_option maxRecDepth 20000 in
set_option maxHeartbeats 6400000 in
theorem lawReadRat_core (N : Bool) (X Y : List Int) (K : Int) (s : ByteArray) (w : World) (hX : X.length ≤ 1000) (hY : Y.length ≤ 1000)
    (hS : ∀ W : World, Calls Try.prog 10 #[.string s] W (SayRC' W N X Y K))
    (hI : ∀ W : World, W.cell? ⟨0, 0, none⟩ = w.cell? ⟨0, 0, none⟩ → Calls Try.prog 11 #[.string s] W (RetRC 3 W N X Y K))
    (h0 : 0 < w.heap.size) (hn' : s.size ≤ 1048576) :
    Calls Try.prog 4 #[.string s] w fun e w' => e = .returned (.bool true) ∧ Below w.heap.size w w' := by
  have HS := Lib.hid hS
  have HI := Lib.hid hI
  clear hS hI
  have hbig' : decide ((1048576 : Int) < s.size) = false := by simp; omega
  have hK : (K != K) = false := by simp
  go_enter Try.func4, Try.ntmps4
  go_wp2_with fail
  refine (HS.out w).mono ?_
  rintro e v1 ⟨As, cs, Bs, ds, rfl, oo, bb⟩
  have s1 := bb.size
  have HW1 := Lib.hid (RdR.mono (Q := (· < v1.heap.size)) oo fun _ _ h => h)
  have HB1 := Lib.hid bb
  clear oo bb
  go_wp2_with fail
  refine calls_at (fun V => Below w.heap.size w V ∧ RdR V (· < v1.heap.size) X Y As cs Bs ds ∧ RatAt V v1.heap.size 34 N As X.length cs Bs Y.length ds ∧ v1.heap.size < V.heap.size) ⟨below_on HB1.out (below1 _ _), HW1.out.on (below1 _ _), RatAt.new _ _ _ _ _ _ _ _ _, by simp⟩ ?_
  rintro v2 ⟨pB, pW, pV, s2⟩
  have HB2 := Lib.hid pB
  have HW2 := Lib.hid pW
  have HV2 := Lib.hid pV
  clear pB pW pV HB1 HW1
  refine (HI.out v2 (HB2.out.cell (p := ⟨0, 0, none⟩) h0)).mono ?_
  rintro e v3 ⟨Ag, cg, Bg, dg, rfl, oo, bb⟩
  have s3 := bb.size
  have HB3 := Lib.hid (below_on HB2.out bb)
  have HW3 := Lib.hid (HW2.out.on bb)
  have HV3 := Lib.hid (HV2.out.on bb)
  have HG3 := Lib.hid oo
  clear oo bb HB2 HW2 HV2
  have q0 := (HV3.out.alloc (.cells #[.bool N, .slice Ag X.length cg, .slice Bg Y.length dg] 34)).c0
  have q1 := (HV3.out.alloc (.cells #[.bool N, .slice Ag X.length cg, .slice Bg Y.length dg] 34)).c1
  have q2 := (HV3.out.alloc (.cells #[.bool N, .slice Ag X.length cg, .slice Bg Y.length dg] 34)).c2
  go_wp2_with fail
  clear q0 q1 q2
  refine calls_at (fun V => Below w.heap.size w V ∧ RdR V (· < v1.heap.size) X Y As cs Bs ds ∧ RatAt V v1.heap.size 34 N As X.length cs Bs Y.length ds ∧ OwnR 3 V v2.heap.size X Y Ag cg Bg dg ∧ RatAt V v3.heap.size 34 N Ag X.length cg Bg Y.length dg ∧ v3.heap.size < V.heap.size) ⟨below_on HB3.out (below1 _ _), HW3.out.on (below1 _ _), HV3.out.on (below1 _ _), HG3.out.on (below1 _ _), RatAt.new _ _ _ _ _ _ _ _ _, by simp⟩ ?_
  rintro v4 ⟨pB, pW, pV, pG, pGv, s4⟩
  have HB4 := Lib.hid pB
  have HW4 := Lib.hid pW
  have HV4 := Lib.hid pV
  have HG4 := Lib.hid pG
  have HGv4 := Lib.hid pGv
  clear pB pW pV pG pGv HB3 HW3 HV3 HG3
  refine (eqRat_same N Ag Bg As Bs cg dg cs ds X Y _ _ v4 HG4.out.rdt HW4.out (by omega) (by omega)).mono ?_
  rintro e v5 ⟨rfl, bb⟩
  have s5 := bb.size
  have HB5 := Lib.hid (below_on HB4.out bb)
  have HW5 := Lib.hid (HW4.out.on bb)
  have HV5 := Lib.hid (HV4.out.on bb)
  have HG5 := Lib.hid (HG4.out.on bb)
  have HGv5 := Lib.hid (HGv4.out.on bb)
  clear bb HB4 HW4 HV4 HG4 HGv4
  have q0 := HGv5.out.c0
  have q1 := HGv5.out.c1
  have q2 := HGv5.out.c2
  go_wp2_with fail
  clear q0 q1 q2
  refine (markRat_any N Ag Bg cg dg X Y 1 v2.heap.size v5 HG5.out (by omega) (by omega) (by omega) (by omega)).mono ?_
  rintro e v6 ⟨rfl, oo, on⟩
  have s6 : v5.heap.size ≤ v6.heap.size := on.2.2.2.1
  have bb := on.below HG5.out (by omega)
  have HB6 := Lib.hid (HB5.out.trans (bb.mono (by omega)))
  have HW6 := Lib.hid (HW5.out.below (bb.mono (by omega)))
  have HV6 := Lib.hid (on.at_ HG5.out (by decide) HV5.out)
  have HGv6 := Lib.hid (on.at_ HG5.out (by decide) HGv5.out)
  have HG6 := Lib.hid oo
  clear oo on bb HB5 HW5 HV5 HGv5 HG5
  have hp0 : 0 ≤ 1 + (X.length : Int) + (Y.length : Int) := by omega
  have q0 := HGv6.out.c0
  have q1 := HGv6.out.c1
  have q2 := HGv6.out.c2
  go_wp2_with fail
  clear q0 q1 q2
  refine (heldRat_any N Ag Bg cg dg X.length Y.length 1 _ v6 HG6.out.rdt (by omega) (by omega) (by omega) (by omega)).mono ?_
  rintro e v7 ⟨rfl, bb⟩
  have s7 := bb.size
  have HB7 := Lib.hid (below_on HB6.out bb)
  have HW7 := Lib.hid (HW6.out.on bb)
  have HV7 := Lib.hid (HV6.out.on bb)
  have HGv7 := Lib.hid (HGv6.out.on bb)
  have HG7 := Lib.hid (HG6.out.on bb)
  clear bb HB6 HW6 HV6 HGv6 HG6
  have hq1 : decide ((1 + (X.length : Int) + (Y.length : Int)) < 0) = false := decide_eq_false (by omega)
  have hq2 : ((1 + (X.length : Int) + (Y.length : Int)) != (1 + (X.length : Int) + (Y.length : Int))) = false := by simp
  go_wp2_with fail
  refine (HI.out v7 (HB7.out.cell (p := ⟨0, 0, none⟩) h0)).mono ?_
  rintro e v8 ⟨Ah, ch, Bh, dh, rfl, oo, bb⟩
  have s8 := bb.size
  have HB8 := Lib.hid (below_on HB7.out bb)
  have HW8 := Lib.hid (HW7.out.on bb)
  have HV8 := Lib.hid (HV7.out.on bb)
  have HGv8 := Lib.hid (HGv7.out.on bb)
  have HG8 := Lib.hid (HG7.out.on bb)
  have HJ8 := Lib.hid oo
  clear oo bb HB7 HW7 HV7 HGv7 HG7
  have q0 := (HV8.out.alloc (.cells #[.bool N, .slice Ah X.length ch, .slice Bh Y.length dh] 34)).c0
  have q1 := (HV8.out.alloc (.cells #[.bool N, .slice Ah X.length ch, .slice Bh Y.length dh] 34)).c1
  have q2 := (HV8.out.alloc (.cells #[.bool N, .slice Ah X.length ch, .slice Bh Y.length dh] 34)).c2
  go_wp2_with fail
  clear q0 q1 q2
  refine calls_at (fun V => Below w.heap.size w V ∧ RdR V (· < v1.heap.size) X Y As cs Bs ds ∧ OwnR 3 V v2.heap.size (marks 1 X.length) (marks (1 + X.length) Y.length) Ag cg Bg dg ∧ RatAt V v3.heap.size 34 N Ag X.length cg Bg Y.length dg ∧ OwnR 3 V v7.heap.size X Y Ah ch Bh dh) ⟨below_on HB8.out (below1 _ _), HW8.out.on (below1 _ _), HG8.out.on (below1 _ _), HGv8.out.on (below1 _ _), HJ8.out.on (below1 _ _)⟩ ?_
  rintro v9 ⟨pB, pW, pG, pGv, pJ⟩
  have HB9 := Lib.hid pB
  have HG9 := Lib.hid pG
  have HGv9 := Lib.hid pGv
  clear pB pG pGv HB8 HW8 HV8 HGv8 HG8 HJ8
  refine (eqRat_same N Ah Bh As Bs ch dh cs ds X Y _ _ v9 pJ.rdt pW (by omega) (by omega)).mono ?_
  rintro e v10 ⟨rfl, bb⟩
  have HB10 := Lib.hid (below_on HB9.out bb)
  have HG10 := Lib.hid (HG9.out.on bb)
  have HGv10 := Lib.hid (HGv9.out.on bb)
  clear bb HB9 HG9 HGv9 pJ pW
  have q0 := HGv10.out.c0
  have q1 := HGv10.out.c1
  have q2 := HGv10.out.c2
  go_wp2_with fail
  clear q0 q1 q2
  refine (heldRat_any N Ag Bg cg dg X.length Y.length 1 _ v10 HG10.out.rdt (by omega) (by omega) (by omega) (by omega)).mono ?_
  rintro e v11 ⟨rfl, bb⟩
  have HB11 := Lib.hid (below_on HB10.out bb)
  clear bb
  go_wp2
  go_ret
  exact ⟨rfl, HB11.out⟩

set_option linter.unusedVariables false in
theorem lawReadRat_any (s : ByteArray) (w : World) (hs : s.size ≤ maxLen) (hm : ∃ m, w.cell? ⟨0, 0, none⟩ = some (.int .i64 m)) :
    Calls Try.prog 4 #[.string s] w fun e w' => e = .returned (.bool true) ∧ Below w.heap.size w w' := by
  obtain ⟨m, hm⟩ := hm
  by_cases hbig : 1048576 < s.size
  · have hbig' : decide ((1048576 : Int) < s.size) = true := by simp; omega
    clear hm
    go_enter Try.func4, Try.ntmps4
    go_wp2
    go_ret
    exact ⟨rfl, Below.refl _ _⟩
  have e := tb_eq s
  have hl : s.data.toList.length ≤ 16777216 := by rw [← tb_size, e]; omega
  have hx : (rrX s.data.toList).length ≤ 1000 := by
    have := readX_len (rrA s.data.toList)
    unfold rrX
    split
    · simp
    · split
      · omega
      · simp
  have hy : (rrY s.data.toList).length ≤ 1000 := by
    have := readX_len (rrE s.data.toList)
    unfold rrY
    split
    · simp
    · split
      · omega
      · simp
  refine lawReadRat_core (rrN s.data.toList) (rrX s.data.toList) (rrY s.data.toList) (rrC s.data.toList) s w hx hy (fun W => ?_) (fun W hW => ?_) (World.block_lt_of_cell? w ⟨0, 0, none⟩ hm) (by omega)
  · have h := specReadRat_any s.data.toList W hl
    rw [e] at h
    exact h
  · have h := implReadRat_any s.data.toList m W (hW.trans hm) hl
    rw [e] at h
    exact h


theorem own_fnExactReadRat : ownKnob Try.prog.godebug = none := by kernel_rfl
theorem laidOut_fnExactReadRat : laidOutB Try.prog = true := by kernel_rfl
set_option maxRecDepth 100000 in
set_option linter.unusedVariables false in
theorem fnExactReadRat_lifted (os : Os) (started : os.Started) (H : Type) (enc : TypeId × Value → H) :
    ReturnsInHanded {} Try.checked os 4 .any (Rows.fnExactReadRatSpec.pre6 enc Try.prog Try.f4 Rows.fnExactReadRatRow.domain false) (Rows.fnExactReadRatSpec.post enc Try.prog Try.f4 false true false false) := by
  refine returnsInHanded_of_change_shaped (C := Try.checked) own_fnExactReadRat started (by kernel_rfl) Try.func4
    (ChangeSpec.witness6 (enc := enc) (C := Try.checked) false ⟨#[], #[.string ByteArray.empty], []⟩ 8 (by kernel_rfl) (by kernel_rfl) (by kernel_rfl) (by kernel_rfl)) ?_
  intro W base args ds gs before hval0 hW hcnd _ hsh _
  have hval : ∀ (j : Nat) t v, Try.f4.params[j]? = some t → args[j]? = some v → Value.okWide Try.prog W .any base t v := hval0
  have hW' := hW
  obtain ⟨p, q, hA0, hV, rfl, hfz, hnd⟩ := hW
  have hA : DataW.TrodAll enc Try.prog W 0 (fun _ => true) true Try.f4.params.toList args.toList ds p := hA0
  rw [Try.params4] at hA hval
  obtain ⟨v0, vs0, d0, ds0, p0, q0, hargs, rfl, rfl, h0, r0⟩ := trodAll_cons hA
  obtain ⟨rfl, rfl, rfl⟩ := trodAll_nil r0
  obtain rfl : args = #[v0] := by cases args; simp_all
  obtain ⟨rfl, rfl⟩ := trodVars_none hV
  obtain ⟨s0, rfl, rfl, rfl, w0⟩ := open_string Try.underlying9 (hval 0 9 v0 rfl rfl) h0
  clear hA0 hval0
  refine (lawReadRat_any s0 W w0 (Go.Proofs.Try.laysM145.s1_3 W hsh)).mono fun e W' ⟨he, bel⟩ => ?_
  subst he
  exact ⟨_, rfl, _, _, _, [], _, [], hW', trodAll_mk1 (shut_bool Try.underlying4 _), (trodAll_cons_mk (shut_string Try.underlying9 w0) trodAll_mk0), rfl, bel.frame _, fun h => by cases h⟩

theorem fnExactReadRat_over : Rows.fnExactReadRatRow.holds Try.pinned (OpenSpec.ofChange Rows.fnExactReadRatSpec) :=
  OpenClaim.holds_of_wide 4 Try.f4 rfl rfl rfl rfl rfl rfl rfl ⟨rfl, rfl, rfl, rfl, rfl⟩ rfl rfl rfl rfl rfl (by kernel_rfl) Try.func4 (by kernel_rfl)
    (of_decide_eq_true (by kernel_rfl)) (by unfold Func.isWrapper; first | (rw [if_pos (by decide +kernel)]; kernel_rfl) | (rw [if_neg (by decide +kernel)]; exact ⟨rfl, rfl⟩))
    (fun os started H enc _ => fnExactReadRat_lifted os started H enc)

theorem fnExactReadRat_holds : Rows.FnExactReadRatSaid := fnExactReadRat_over

end Go.Proofs.Ytndeimodphmpkaa
