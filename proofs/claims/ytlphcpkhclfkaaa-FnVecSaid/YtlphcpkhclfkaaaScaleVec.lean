/-
  ScaleVec of the program and of the model.
-/
import Derived.Test.YtlphcpkhclfkaaaVecScale
namespace Nt
open Go Go.RowKit
end Nt
namespace Go.Proofs.Ytlphcpkhclfkaaa
open Go Go.RowKit Nt

set_option maxHeartbeats 1600000 in
theorem implScaleVec_code (ng : Bool) (xs ys : List Int) (Aa Ba : Option Addr) (la ca lb cb : Nat) (X : Option Addr) (n c : Nat) (rs : List R3) (P' : Nat → Prop) (w : World) (hx : RdS w P' X n c rs) (hs : Small rs) (hn : n ≤ 1048576) (code : Int) (hcode : (if 4096 < n then 2 else if okV rs then 0 else 1) = code) (hc0 : code ≠ 0) :
    Calls Try.prog 20 #[.agg #[.bool ng, .slice Aa la ca, .slice Ba lb cb], .slice X n c] w (RetVC 28 3 w [] code) := by
  have HX := Lib.hid hx.low
  have HS := Lib.hid hs
  have HC : Hid (vcode 1 (fun _ => n) (fun _ => rs) = code) := (vcode1 n rs).trans hcode
  have hbc : (code != 0) = true := by simpa using hc0
  clear hx hs hcode
  go_enter Try.func20, Try.ntmps20
  go_wp2_with fail
  refine calls_at (fun W => Below w.heap.size w W ∧ W.cell? ⟨w.heap.size + 1, 0, none⟩ = some (.slice X n c) ∧ w.heap.size + 1 < W.heap.size) ⟨below2 _ _ _, ?_, by simp⟩ ?_
  · have := cell_of_row ((w.alloc (.cells #[.bool ng, .slice Aa la ca, .slice Ba lb cb] 28)).alloc (.cells #[.slice X n c] 24)) (w.heap.size + 1) 0 #[.slice X n c] 24 (0, 0) (by have := heap_alloc_new (w.alloc (.cells #[.bool ng, .slice Aa la ca, .slice Ba lb cb] 28)) (.cells #[.slice X n c] 24); rwa [World.size_alloc] at this)
    rw [this]; rfl
  rintro W ⟨bW, cW, sW⟩
  refine (vecCode_any (w.heap.size + 1) 1 (fun _ => X) (fun _ => n) (fun _ => c) (fun _ => rs) W (by omega) (by omega) sW (at0 (p := fun i => W.cell? ⟨w.heap.size + 1, i, none⟩ = some (.slice X n c)) cW) (fun i hi => (HX.out.below bW).low) (fun i hi => HS.out) (fun i hi => hn)).mono ?_
  rintro e w1 ⟨rfl, b1⟩
  rw [HC.out]
  have HB1 := Lib.hid (below_on bW b1)
  clear bW cW sW b1
  go_wp2
  go_ret2
  exact ⟨none, 0, [], rfl, ⟨World.ownsRow_nil _ _ _ _, fun i hi => by simp at hi, fun i j _ hj => by simp at hj⟩, rfl, HB1.out⟩

set_option maxHeartbeats 1600000 in
theorem implScaleVec_bad (ng : Bool) (xs ys : List Int) (Aa Ba : Option Addr) (ca cb : Nat) (X : Option Addr) (n c : Nat) (rs : List R3) (P P' : Nat → Prop) (w : World) (ha : RdR w P xs ys Aa ca Ba cb) (hx : RdS w P' X n c rs) (hs : Small rs) (hl1 : xs.length ≤ 1048576) (hl2 : ys.length ≤ 1048576) (hn : n ≤ 4096) (hok : okV rs = true) (hbad : okR ng xs ys = false) :
    Calls Try.prog 20 #[.agg #[.bool ng, .slice Aa xs.length ca, .slice Ba ys.length cb], .slice X n c] w (RetVC 28 3 w [] 1) := by
  have HA := Lib.hid (ha.mono (Q := (· < w.heap.size)) fun _ _ h => h)
  have HX := Lib.hid hx.low
  have HS := Lib.hid hs
  have HC : Hid (vcode 1 (fun _ => n) (fun _ => rs) = 0) := by show _ = _; rw [vcode1, if_neg (by omega), if_pos hok]
  have HBAD := Lib.hid hbad
  clear ha hx hs hok hbad
  go_enter Try.func20, Try.ntmps20
  go_wp2_with fail
  refine calls_at (fun W => Below w.heap.size w W ∧ W.cell? ⟨w.heap.size + 1, 0, none⟩ = some (.slice X n c) ∧ w.heap.size + 1 < W.heap.size ∧ RatAt W w.heap.size 28 ng Aa xs.length ca Ba ys.length cb) ⟨below2 _ _ _, ?_, by simp, (RatAt.new _ _ _ _ _ _ _ _ _).alloc _⟩ ?_
  · have := cell_of_row ((w.alloc (.cells #[.bool ng, .slice Aa xs.length ca, .slice Ba ys.length cb] 28)).alloc (.cells #[.slice X n c] 24)) (w.heap.size + 1) 0 #[.slice X n c] 24 (0, 0) (by have := heap_alloc_new (w.alloc (.cells #[.bool ng, .slice Aa xs.length ca, .slice Ba ys.length cb] 28)) (.cells #[.slice X n c] 24); rwa [World.size_alloc] at this)
    rw [this]; rfl
  rintro W ⟨bW, cW, sW, rW⟩
  refine (vecCode_any (w.heap.size + 1) 1 (fun _ => X) (fun _ => n) (fun _ => c) (fun _ => rs) W (by omega) (by omega) sW (at0 (p := fun i => W.cell? ⟨w.heap.size + 1, i, none⟩ = some (.slice X n c)) cW) (fun i hi => (HX.out.below bW).low) (fun i hi => HS.out) (fun i hi => by omega)).mono ?_
  rintro e w1 ⟨rfl, b1⟩
  rw [HC.out]
  have HB1 := Lib.hid (below_on bW b1)
  have HR1 := Lib.hid (rW.on b1)
  clear bW cW sW rW b1
  have q0 := HR1.out.c0
  have q1 := HR1.out.c1
  have q2 := HR1.out.c2
  go_wp2_with fail
  have hlit := below1 w1 (.cells #[.bool ng, .slice Aa xs.length ca, .slice Ba ys.length cb] 28)
  refine (ratCodeS_any (some ⟨w1.heap.size, 0, none⟩) 1 1 [(ng, xs, ys)] _ _ (rds_one w1 28 ng xs ys Aa Ba ca cb _ (HA.out.below HB1.out)) (fun r hr => by simp at hr; subst hr; exact ⟨hl1, hl2⟩) (by omega)).mono ?_
  rintro e w2 ⟨rfl, b2⟩
  have hcv : codeV [(ng, xs, ys)] = 1 := by unfold codeV; rw [if_neg]; simp [ok3, HBAD.out]
  rw [hcv]
  have HB2 := Lib.hid (below_on (below_on HB1.out hlit) b2)
  clear hlit b2 hcv q0 q1 q2
  go_wp2
  go_ret2
  exact ⟨none, 0, [], rfl, ⟨World.ownsRow_nil _ _ _ _, fun i hi => by simp at hi, fun i j _ hj => by simp at hj⟩, rfl, HB2.out⟩

set_option maxHeartbeats 1600000 in
theorem implScaleVec_ok (a : Rat) (qs : List Rat) (Aa Ba : Option Addr) (ca cb : Nat) (X : Option Addr) (n c : Nat) (P P' : Nat → Prop) (w : World) (ha : RdR w P (D (nu a)) (D a.den) Aa ca Ba cb) (hx : RdS w P' X n c (qs.map rat3)) (h1 : nu a < Top) (h2 : a.den < Top) (hq : Fine qs) (hn : n ≤ 4) (hok : okV (qs.map rat3) = true) :
    Calls Try.prog 20 #[.agg #[.bool (isNeg a), .slice Aa (D (nu a)).length ca, .slice Ba (D a.den).length cb], .slice X n c] w (RetVC 28 3 w (fV (qs.map fun q => a * q)) (fVK (qs.map fun q => a * q))) := by
  have HA := Lib.hid (ha.mono (Q := (· < w.heap.size)) fun _ _ h => h)
  have HX := Lib.hid hx.low
  have HQ := Lib.hid hq
  have l1 := (D_len_le (nu a) 40).2 h1
  have l2 := (D_len_le a.den 40).2 h2
  have HC : Hid (vcode 1 (fun _ => n) (fun _ => qs.map rat3) = 0) := by show _ = _; rw [vcode1, if_neg (by omega), if_pos hok]
  have HOKA := Lib.hid (okR_rat a h1 h2)
  have HLEN : Hid (∀ p ∈ (qs.map fun q => a * q), (D (nu p)).length ≤ 16777216 ∧ (D p.den).length ≤ 16777216) := by
    intro p hp
    obtain ⟨q, hq', rfl⟩ := List.mem_map.1 hp
    have k1 := (D_len_le (nu q) 40).2 (hq q hq').1
    have k2 := (D_len_le q.den 40).2 (hq q hq').2
    have := mul_lens a q
    omega
  clear ha hx hok h1 h2 hq
  go_enter Try.func20, Try.ntmps20
  go_wp2_with fail
  refine calls_at (fun W => Below w.heap.size w W ∧ W.cell? ⟨w.heap.size + 1, 0, none⟩ = some (.slice X n c) ∧ w.heap.size + 1 < W.heap.size ∧ RatAt W w.heap.size 28 (isNeg a) Aa (D (nu a)).length ca Ba (D a.den).length cb) ⟨below2 _ _ _, ?_, by simp, (RatAt.new _ _ _ _ _ _ _ _ _).alloc _⟩ ?_
  · have := cell_of_row ((w.alloc (.cells #[.bool (isNeg a), .slice Aa (D (nu a)).length ca, .slice Ba (D a.den).length cb] 28)).alloc (.cells #[.slice X n c] 24)) (w.heap.size + 1) 0 #[.slice X n c] 24 (0, 0) (by have := heap_alloc_new (w.alloc (.cells #[.bool (isNeg a), .slice Aa (D (nu a)).length ca, .slice Ba (D a.den).length cb] 28)) (.cells #[.slice X n c] 24); rwa [World.size_alloc] at this)
    rw [this]; rfl
  rintro W ⟨bW, cW, sW, rW⟩
  refine (vecCode_any (w.heap.size + 1) 1 (fun _ => X) (fun _ => n) (fun _ => c) (fun _ => qs.map rat3) W (by omega) (by omega) sW (at0 (p := fun i => W.cell? ⟨w.heap.size + 1, i, none⟩ = some (.slice X n c)) cW) (fun i hi => (HX.out.below bW).low) (fun i hi => small_fine HQ.out) (fun i hi => by omega)).mono ?_
  rintro e w1 ⟨rfl, b1⟩
  rw [HC.out]
  have HB1 := Lib.hid (below_on bW b1)
  have HR1 := Lib.hid (rW.on b1)
  clear bW cW sW rW b1
  have q0 := HR1.out.c0
  have q1 := HR1.out.c1
  have q2 := HR1.out.c2
  go_wp2_with fail
  have hlit := below1 w1 (.cells #[.bool (isNeg a), .slice Aa (D (nu a)).length ca, .slice Ba (D a.den).length cb] 28)
  refine (ratCodeS_any (some ⟨w1.heap.size, 0, none⟩) 1 1 [rat3 a] _ _ (rds_one w1 28 (isNeg a) (D (nu a)) (D a.den) Aa Ba ca cb _ (HA.out.below HB1.out)) (fun r hr => by simp at hr; subst hr; exact ⟨by show (D (nu a)).length ≤ _; omega, by show (D a.den).length ≤ _; omega⟩) (by omega)).mono ?_
  rintro e w2 ⟨rfl, b2⟩
  have hcv : codeV [rat3 a] = 0 := by unfold codeV; rw [if_pos]; simp [ok3, rat3, HOKA.out]
  rw [hcv]
  have HB2 := Lib.hid (below_on (below_on HB1.out hlit) b2)
  have HR2 := Lib.hid ((HR1.out.on hlit).on b2)
  clear hlit b2 hcv q0 q1 q2 HB1 HR1
  have q0 := HR2.out.c0
  have q1 := HR2.out.c1
  have q2 := HR2.out.c2
  go_wp2_with fail
  refine (scaled_any a qs Aa Ba ca cb X n c _ _ w2 (HA.out.below HB2.out) (HX.out.below HB2.out) (by omega) (by omega) HQ.out (by omega)).mono ?_
  rintro e w3 ⟨V, d, rfl, r3', b3⟩
  have HB3 := Lib.hid (below_on HB2.out b3)
  have HV3 : Hid (RdS w3 (fun _ => True) V n d ((qs.map fun q => a * q).map rat3)) := by
    show RdS _ _ _ _ _ _
    rw [List.map_map]
    exact r3'
  have hs3 := HB3.out.size
  clear b3 r3' q0 q1 q2 HB2 HR2
  go_wp2_with fail
  refine (fittedVec_any (qs.map fun q => a * q) V n d _ w3 HV3.out HLEN.out (by omega)).mono ?_
  rintro e w4 ⟨V4, d4, L, rfl, o4, v4, b4⟩
  have HO4 := Lib.hid o4
  have HV4 := Lib.hid v4
  have HB4 := Lib.hid (below_on HB3.out b4)
  clear o4 v4 b4
  go_wp2
  go_ret2
  exact ⟨V4, d4, L, rfl, ⟨own_mono3 HO4.out.1 hs3, fun i hi => OwnR.mono (HO4.out.2.1 i hi) hs3, HO4.out.2.2⟩, HV4.out, HB4.out⟩
end Go.Proofs.Ytlphcpkhclfkaaa
