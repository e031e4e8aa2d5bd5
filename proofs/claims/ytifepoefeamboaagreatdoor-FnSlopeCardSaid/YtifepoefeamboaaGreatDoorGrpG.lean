/-
  ErrIs DivRat RatMake JetMath JetSpec JetFit in one text.
-/
import Derived.Test.YtifepoefeamboaaGreatDoorChecked
import Derived.WalkKit
import Derived.LaidEql
import Derived.RowKitTokens
import Derived.Test.YtifepoefeamboaaGreatDoorGrpD
import Derived.Test.YtifepoefeamboaaGreatDoorGrpC
namespace Nt
open Go Go.RowKit
/-- the variable in block 0 holds the error at ad -/
def ErrAt (t : TypeId) (w : World) (ad : Addr) : Prop := w.cell? ⟨0, 0, none⟩ = some (.iface t (.pointer (some ad))) ∧ 0 < w.heap.size
theorem ErrAt.on {t : TypeId} {w w' : World} {ad : Addr} (h : ErrAt t w ad) (hb : Below w.heap.size w w') : ErrAt t w' ad :=
  ⟨(World.cell?_of_block (a := ⟨0, 0, none⟩) (hb.block 0 h.2)).trans h.1, Nat.lt_of_lt_of_le h.2 hb.size⟩
theorem ErrAt.below {t : TypeId} {w w' : World} {ad : Addr} {N : Nat} (h : ErrAt t w ad) (hN : 0 < N) (hb : Below N w w') : ErrAt t w' ad :=
  ⟨(World.cell?_of_block (a := ⟨0, 0, none⟩) (hb.block 0 hN)).trans h.1, Nat.lt_of_lt_of_le h.2 hb.size⟩
end Nt
namespace Go.Proofs.YtifepoefeamboaaGreatDoor
open Go Go.RowKit Nt Go.Extern

theorem kindOf_err (v : Value) (w : World) : (Extern.ReflectliteType.typeOf #[.iface 195 v]).run Tryz.prog w = .ok (.iface 180 (.agg #[.pointer (some ⟨1, 195, none⟩)])) w := by kernel_rfl
def cmpM : Array Value → Sem Value := Extern.ReflectliteType.method fun t => do Extern.Rtype.noPackHeld "Comparable" t; pure (.bool (← typeInfo t).comparable)
theorem comp_err (w : World) : (cmpM #[.agg #[.pointer (some ⟨1, 195, none⟩)]]).run Tryz.prog w = .ok (.bool true) w := by kernel_rfl
theorem meth_err (v : Value) (w : World) : (Go.method 334 180 v "Comparable").run Tryz.prog w = .ok (199, v) w := by kernel_rfl
theorem info_err : (Tryz.prog.info? 195).map (·.comparable) = some true := by kernel_rfl
theorem size_err : (Tryz.prog.info? 222).map (·.size) = some 1 := by kernel_rfl

set_option maxHeartbeats 800000 in
/-- the error itself -/
theorem isErr_same (ad : Addr) (w : World) :
    Calls Tryz.prog 106 #[.iface 195 (.pointer (some ad)), .iface 195 (.pointer (some ad))] w fun e w' => e = .returned (.bool true) ∧ w' = w := by
  obtain ⟨i, hi, hcmp⟩ := Option.map_eq_some_iff.1 info_err
  obtain ⟨j, hj, hjs⟩ := Option.map_eq_some_iff.1 size_err
  have hty := @run_callFunc_extern Tryz.prog 134 _ Extern.ReflectliteType.typeOf Tryz.func134 (by kernel_rfl) (by kernel_rfl) (by kernel_rfl) (by kernel_rfl)
  have hco := @run_callFunc_extern Tryz.prog 199 _ cmpM Tryz.func199 (by kernel_rfl) (by kernel_rfl) (by kernel_rfl) (by kernel_rfl)
  have k1 := kindOf_err
  have k2 := comp_err
  have k3 := meth_err
  have heq := run_eql_iface_ptr_same (P := Tryz.prog) w ad Tryz.underlying139 Tryz.underlying195 hi hcmp hj
  go_enter Tryz.func106, Tryz.ntmps106
  go_wp2
  refine wp_loop_rounds 1 ?_
  rw [rounds_succ]
  go_wp2
  go_ret
  exact ⟨rfl, rfl⟩

set_option maxHeartbeats 800000 in
/-- none -/
theorem isErr_nil (ad : Addr) (w : World) :
    Calls Tryz.prog 106 #[.nilIface, .iface 195 (.pointer (some ad))] w fun e w' => e = .returned (.bool false) ∧ w' = w := by
  have hn := run_eql_iface_nil_left (P := Tryz.prog) w 195 (.pointer (some ad)) Tryz.underlying139
  go_enter Tryz.func106, Tryz.ntmps106
  go_wp2
  go_ret
  exact ⟨rfl, rfl⟩
end Go.Proofs.YtifepoefeamboaaGreatDoor
namespace Nt
open Go Go.RowKit
theorem div_lens (a b : Rat) (h : 0 < nu b) : (D (nu (a / b))).length ≤ (D (nu a)).length + (D b.den).length ∧ (D (a / b).den).length ≤ (D a.den).length + (D (nu b)).length := by
  obtain ⟨e1, e2, e3⟩ := inv_parts h
  have := mul_lens a b⁻¹
  rw [e1, e2, ← Rat.div_def] at this
  exact this
end Nt
namespace Go.Proofs.YtifepoefeamboaaGreatDoor
open Go Go.RowKit Nt

set_option maxRecDepth 20000 in
set_option maxHeartbeats 3200000 in
theorem l02Div_core (na nb : Bool) (x y x' y' p q : Nat) (hp : x * y' = p) (hq : y * x' = q) (nn : Bool) (X Y : List Int)
    (A B : Option Addr) (ca cb : Nat) (A' B' : Option Addr) (ca' cb' : Nat) (P P' : Nat → Prop) (w : World) (k0 : RdR w P (D x) (D y) A ca B cb) (k1 : RdR w P' (D x') (D y') A' ca' B' cb')
    (l1 : (D x).length ≤ 3600) (l2 : (D y).length ≤ 3600) (l3 : (D x').length ≤ 3600) (l4 : (D y').length ≤ 3600) (hm : MkAt (na != nb) p q nn X Y) :
    Calls Tryz.prog 121 #[.agg #[.bool na, .slice A (D x).length ca, .slice B (D y).length cb], .agg #[.bool nb, .slice A' (D x').length ca', .slice B' (D y').length cb']] w (SayR w nn X Y) := by
  have H0 := Lib.hid (k0.mono (Q := (· < w.heap.size)) fun _ _ h => h)
  have H1 := Lib.hid (k1.mono (Q := (· < w.heap.size)) fun _ _ h => h)
  have HPp := Lib.hid hp
  have HQq := Lib.hid hq
  have HM := Lib.hid hm
  clear k0 k1 hp hq hm
  go_enter Tryz.func121, Tryz.ntmps121
  go_upto_region 1 with fail
  refine wp_at (fun v0 => Below w.heap.size w v0 ∧ RatAt v0 w.heap.size 31 na A (D x).length ca B (D y).length cb ∧ RatAt v0 (w.heap.size + 1) 31 nb A' (D x').length ca' B' (D y').length cb' ∧ RatAt v0 (w.heap.size + 1 + 1) 31 false none 0 0 none 0 0)
    ⟨below3 _ _ _ _, ((RatAt.new _ _ _ _ _ _ _ _ _).alloc _).alloc _, (RatAt.new1 _ _ _ _ _ _ _ _ _ _).alloc _, RatAt.new2 _ _ _ _ _ _ _ _ _ _ _⟩ ?_
  rintro v0 ⟨hb, r0, r1, r2⟩
  have HB0 := Lib.hid hb
  have HR0 := Lib.hid r0
  have HS0 := Lib.hid r1
  have HT0 := Lib.hid r2
  clear hb r0 r1 r2
  go_region_held3 (fun wx => wx.cell? ⟨w.heap.size, 0, none⟩ = some (.bool na) ∧ wx.cell? ⟨w.heap.size, 1, none⟩ = some (.slice A (D x).length ca) ∧ wx.cell? ⟨w.heap.size, 2, none⟩ = some (.slice B (D y).length cb) ∧ wx.cell? ⟨w.heap.size + 1, 0, none⟩ = some (.bool nb) ∧ wx.cell? ⟨w.heap.size + 1, 1, none⟩ = some (.slice A' (D x').length ca') ∧ wx.cell? ⟨w.heap.size + 1, 2, none⟩ = some (.slice B' (D y').length cb'))
    (first | exact ⟨(HR0.out).c0, (HR0.out).c1, (HR0.out).c2, (HS0.out).c0, (HS0.out).c1, (HS0.out).c2⟩ | exact ⟨(HR1.out).c0, (HR1.out).c1, (HR1.out).c2, (HS1.out).c0, (HS1.out).c1, (HS1.out).c2⟩ | exact ⟨(HR2.out).c0, (HR2.out).c1, (HR2.out).c2, (HS2.out).c0, (HS2.out).c1, (HS2.out).c2⟩ | exact ⟨(HR3.out).c0, (HR3.out).c1, (HR3.out).c2, (HS3.out).c0, (HS3.out).c1, (HS3.out).c2⟩ | exact ⟨(HR3.out.grown (setAll_grown _ _ _ _ _) (by omega)).c0, (HR3.out.grown (setAll_grown _ _ _ _ _) (by omega)).c1, (HR3.out.grown (setAll_grown _ _ _ _ _) (by omega)).c2, (HS3.out.grown (setAll_grown _ _ _ _ _) (by omega)).c0, (HS3.out.grown (setAll_grown _ _ _ _ _) (by omega)).c1, (HS3.out.grown (setAll_grown _ _ _ _ _) (by omega)).c2⟩)
    (first
      | (go_at_call 124; refine (HM.out V1 d1 V2 d2 _ (by first | exact HN12.out | exact Rd.drew HN12.out) (by first | exact HN22.out | exact Rd.drew HN22.out)).mono ?_; rintro e v3 ⟨A8, c8, B8, d8, rfl, o8, bb⟩; have sv3 := bb.size; have HB3 := Lib.hid (below_on HB2.out bb); have HR3 := Lib.hid (HR2.out.on bb); have HS3 := Lib.hid (HS2.out.on bb); have HT3 := Lib.hid (HT2.out.on bb); have HN13 := Lib.hid (HN12.out.on bb); have HN23 := Lib.hid (HN22.out.on bb); have f0 := HT3.out.fz 0; have f1 := HT3.out.fz 1; have f2 := HT3.out.fz 2; have y0 := HT3.out.c0; have y1 := HT3.out.c1; have y2 := HT3.out.c2; have HO8 := Lib.hid o8; clear bb o8)
      | (go_at_call_of 145 B; refine (l01Mul_any B A' _ cb _ ca' y x' _ _ _ (by exact (H0.out.below HB1.out).2) (by exact (H1.out.below HB1.out).1) (by omega) (by omega)).mono ?_; rintro e v2 hnew; rw [HQq.out] at hnew; obtain ⟨V2, d2, rfl, p2, bb⟩ := new_of hnew; have sv2 := bb.size; have HB2 := Lib.hid (below_on HB1.out bb); have HR2 := Lib.hid (HR1.out.on bb); have HS2 := Lib.hid (HS1.out.on bb); have HT2 := Lib.hid (HT1.out.on bb); have HN12 := Lib.hid (HN11.out.on bb); have HN22 := Lib.hid p2; clear hnew p2 bb)
      | (go_at_call_of 145 A; refine (l01Mul_any A B' _ ca _ cb' x y' _ _ _ (by exact (H0.out.below HB0.out).1) (by exact (H1.out.below HB0.out).2) (by omega) (by omega)).mono ?_; rintro e v1 hnew; rw [HPp.out] at hnew; obtain ⟨V1, d1, rfl, p1, bb⟩ := new_of hnew; have bb := undrew bb; have sv1 := bb.size; have HB1 := Lib.hid (below_on HB0.out bb); have HR1 := Lib.hid (HR0.out.on bb); have HS1 := Lib.hid (HS0.out.on bb); have HT1 := Lib.hid (HT0.out.on bb); have HN11 := Lib.hid p1; clear hnew p1 bb))
  go_wp2
  have g2 := fun b u v => setAll_grown v3 (w.heap.size + 1 + 1) (.bool b) u v
  refine bodyPost_ret (retR rfl _ _ _ rfl (HT3.out.setAll _ _ _ _ _ _ _)) rfl ?_
  exact ⟨A8, c8, B8, d8, rfl, ⟨HO8.out.1.past HT3.out (g2 _ _ _), HO8.out.2.past HT3.out (g2 _ _ _)⟩, below_grow HB3.out (by omega) (g2 _ _ _)⟩

theorem l02Div_any (a b : Rat) (A B : Option Addr) (ca cb : Nat) (A' B' : Option Addr) (ca' cb' : Nat) (P P' : Nat → Prop) (w : World) (h0 : RdR w P (D (nu a)) (D a.den) A ca B cb) (h1 : RdR w P' (D (nu b)) (D b.den) A' ca' B' cb') (l1 : (D (nu a)).length ≤ 3600) (l2 : (D a.den).length ≤ 3600) (l3 : (D (nu b)).length ≤ 3600) (l4 : (D b.den).length ≤ 3600) (hb : 0 < nu b) :
    Calls Tryz.prog 121 #[.agg #[.bool (isNeg a), .slice A (D (nu a)).length ca, .slice B (D a.den).length cb], .agg #[.bool (isNeg b), .slice A' (D (nu b)).length ca', .slice B' (D b.den).length cb']] w (SayR w (isNeg (a / b)) (D (nu (a / b))) (D (a / b).den)) :=
  l02Div_core (isNeg a) (isNeg b) (nu a) a.den (nu b) b.den _ _ rfl rfl _ _ _ A B ca cb A' B' ca' cb' P P' w h0 h1 l1 l2 l3 l4 (mkAt _ _ _ _ (div_make a b hb) (Nat.mul_pos a.den_pos hb) (by have := D_len_mul (nu a) b.den; omega) (by have := D_len_mul a.den (nu b); omega))

set_option maxHeartbeats 800000 in
theorem over_zero (na nb : Bool) (A B : Option Addr) (la ca lb cb : Nat) (A' B' : Option Addr) (ca' lb' cb' : Nat) (ad : Addr) (w : World) (hE : ErrAt 195 w ad) :
    Calls Tryz.prog 195 #[.agg #[.bool na, .slice A la ca, .slice B lb cb], .agg #[.bool nb, .slice A' 0 ca', .slice B' lb' cb']] w (fun e w' => e = .returned (.tuple #[.agg #[.bool false, .slice none 0 0, .slice none 0 0], .iface 195 (.pointer (some ad))]) ∧ Below w.heap.size w w') := by
  have HE := Lib.hid hE
  clear hE
  go_enter Tryz.func195, Tryz.ntmps195
  go_upto_region 2 with fail
  refine wp_at (fun v0 => Below w.heap.size w v0 ∧ RatAt v0 (w.heap.size + 1 + 1) 31 false none 0 0 none 0 0)
    ⟨below3 _ _ _ _, RatAt.new2 _ _ _ _ _ _ _ _ _ _ _⟩ ?_
  rintro v0 ⟨hb, r2⟩
  have HB := Lib.hid hb
  have HT := Lib.hid r2
  have HG := Lib.hid (HE.out.on hb)
  have hsz := HE.out.2
  clear hb r2
  have f0 := HT.out.fz 0
  have f1 := HT.out.fz 1
  have f2 := HT.out.fz 2
  have y0 := HT.out.c0
  have y1 := HT.out.c1
  have y2 := HT.out.c2
  have hgl := HG.out.1
  go_region_held3 (fun wx => wx.cell? ⟨0, 0, none⟩ = some (.iface 195 (.pointer (some ad))))
    (first | exact HG.out.1 | exact (World.cell?_of_block (a := ⟨0, 0, none⟩) ((setAll_grown _ _ _ _ _).block 0 HG.out.2 (by intro e; injection e with e; omega))).trans HG.out.1) (fail)
  go_wp2
  refine bodyPost_ret (retRC rfl _ _ _ rfl (HT.out.setAll _ _ _ _ _ _ _)) rfl ?_
  exact ⟨rfl, below_drewN (below_grow HB.out (by omega) (setAll_grown v0 (w.heap.size + 1 + 1) _ _ _)) 1⟩

set_option maxHeartbeats 800000 in
theorem over_ok' (a b : Rat) (A B : Option Addr) (ca cb : Nat) (A' B' : Option Addr) (ca' cb' : Nat) (P P' : Nat → Prop) (w : World) (h0 : RdR w P (D (nu a)) (D a.den) A ca B cb) (h1 : RdR w P' (D (nu b)) (D b.den) A' ca' B' cb') (l1 : (D (nu a)).length ≤ 3600) (l2 : (D a.den).length ≤ 3600) (l3 : (D (nu b)).length ≤ 3600) (l4 : (D b.den).length ≤ 3600) (hb0 : 0 < nu b) (i q : Rat) (en1 : nu i = b.den) (en2 : i.den = nu b) (en3 : isNeg i = isNeg b) (hq : a * i = q) :
    Calls Tryz.prog 195 #[.agg #[.bool (isNeg a), .slice A (D (nu a)).length ca, .slice B (D a.den).length cb], .agg #[.bool (isNeg b), .slice A' (D (nu b)).length ca', .slice B' (D b.den).length cb']] w (fun e w' => ∃ A5 c5 B5 d5, e = .returned (.tuple #[.agg #[.bool (isNeg q), .slice A5 (D (nu q)).length c5, .slice B5 (D q.den).length d5], .nilIface]) ∧ RdR w' (fun _ => True) (D (nu q)) (D q.den) A5 c5 B5 d5 ∧ Below w.heap.size w w') := by
  have H0 := Lib.hid (h0.mono (Q := (· < w.heap.size)) fun _ _ h => h)
  have H1 := Lib.hid (h1.mono (Q := (· < w.heap.size)) fun _ _ h => h)
  have HQ := Lib.hid hq
  clear hq
  have EN1 := Lib.hid en1
  have EN2 := Lib.hid en2
  have EN3 := Lib.hid en3
  have hz : (((D (nu b)).length : Int) == 0) = false := by rw [beq_eq_false_iff_ne]; have := D_len_pos hb0; omega
  clear h0 h1 en1 en2 en3
  go_enter Tryz.func195, Tryz.ntmps195
  go_wp2_with fail
  rw [← EN3.out, ← EN1.out, ← EN2.out]
  refine calls_at (fun W => Below w.heap.size w W ∧ RatAt W w.heap.size 31 (isNeg a) A (D (nu a)).length ca B (D a.den).length cb ∧ RatAt W (w.heap.size + 1) 31 _ A' _ ca' B' _ cb' ∧ RatAt W (w.heap.size + 1 + 1) 31 false none 0 0 none 0 0)
    ⟨below3 _ _ _ _, ((RatAt.new _ _ _ _ _ _ _ _ _).alloc _).alloc _, (RatAt.new1 _ _ _ _ _ _ _ _ _ _).alloc _, RatAt.new2 _ _ _ _ _ _ _ _ _ _ _⟩ ?_
  rintro W ⟨hb, r0, r1, r2⟩
  refine (times_any a i A B ca cb B' A' cb' ca' _ (· < w.heap.size) W (H0.out.below hb) (by rw [EN1.out, EN2.out]; exact ⟨(H1.out.below hb).2, (H1.out.below hb).1⟩) l1 l2 (by rw [EN1.out]; exact l4) (by rw [EN2.out]; exact l3)).mono ?_
  rintro e w2 hnew
  rw [HQ.out] at hnew
  obtain ⟨A5, c5, B5, d5, rfl, o5, b2⟩ := hnew
  have HB2 := Lib.hid (below_on hb b2)
  have HT2 := Lib.hid (r2.on b2)
  have HO5 := Lib.hid o5
  clear b2 o5 hb r0 r1 r2
  have f0 := HT2.out.fz 0
  have f1 := HT2.out.fz 1
  have f2 := HT2.out.fz 2
  have y0 := HT2.out.c0
  have y1 := HT2.out.c1
  have y2 := HT2.out.c2
  go_wp2
  have g2 := fun b u v => setAll_grown w2 (w.heap.size + 1 + 1) (.bool b) u v
  refine bodyPost_ret (retRC rfl _ _ _ rfl (HT2.out.setAll _ _ _ _ _ _ _)) rfl ?_
  exact ⟨A5, c5, B5, d5, rfl, ⟨HO5.out.1.past HT2.out (g2 _ _ _), HO5.out.2.past HT2.out (g2 _ _ _)⟩, below_grow HB2.out (by omega) (g2 _ _ _)⟩

theorem over_ok (a b : Rat) (A B : Option Addr) (ca cb : Nat) (A' B' : Option Addr) (ca' cb' : Nat) (P P' : Nat → Prop) (w : World) (h0 : RdR w P (D (nu a)) (D a.den) A ca B cb) (h1 : RdR w P' (D (nu b)) (D b.den) A' ca' B' cb') (l1 : (D (nu a)).length ≤ 3600) (l2 : (D a.den).length ≤ 3600) (l3 : (D (nu b)).length ≤ 3600) (l4 : (D b.den).length ≤ 3600) (hb0 : 0 < nu b) :
    Calls Tryz.prog 195 #[.agg #[.bool (isNeg a), .slice A (D (nu a)).length ca, .slice B (D a.den).length cb], .agg #[.bool (isNeg b), .slice A' (D (nu b)).length ca', .slice B' (D b.den).length cb']] w (fun e w' => ∃ A5 c5 B5 d5, e = .returned (.tuple #[.agg #[.bool (isNeg (a / b)), .slice A5 (D (nu (a / b))).length c5, .slice B5 (D (a / b).den).length d5], .nilIface]) ∧ RdR w' (fun _ => True) (D (nu (a / b))) (D (a / b).den) A5 c5 B5 d5 ∧ Below w.heap.size w w') :=
  over_ok' a b A B ca cb A' B' ca' cb' P P' w h0 h1 l1 l2 l3 l4 hb0 b⁻¹ _ (inv_parts hb0).1 (inv_parts hb0).2.1 (inv_parts hb0).2.2 (Rat.div_def a b).symm

end Go.Proofs.YtifepoefeamboaaGreatDoor
namespace Nt
open Go Go.RowKit
theorem RatAt.rowed {w w' : World} {b base : Nat} {t te : TypeId} {neg : Bool} {A B : Option Addr} {la ca lb cb : Nat} {V : Option Addr} {n c : Nat} {xs : List Value} (h : RatAt w b t neg A la ca B lb cb) (ho : w.ownsRow base te 1 (.slice V n c) n xs) (hb : b < base) (hg : w.grownBy w' (Value.slice V n c).ownBlock) : RatAt w' b t neg A la ca B lb cb :=
  (hg.block b h.lt (fun e => by have := (ho.lt _ e.symm).1; omega)).trans h
end Nt
namespace Go.Proofs.YtifepoefeamboaaGreatDoor
open Go Go.RowKit Nt

set_option maxHeartbeats 800000 in
theorem wholeRat_pos (m : Nat) (w : World) (hm : m ≤ 1000000000) :
    Calls Tryz.prog 73 #[.int .i64 ((m : Int))] w (SayR w false (D m) (D 1)) := by
  have HN5 := Lib.hid (small_len (n := m) (by omega))
  have hmax : max (m : Int) (-(m : Int)) = m := by omega
  have hle : -(m : Int) ≤ (m : Int) := by omega
  have hng : decide ((m : Int) < 0) = false := decide_eq_false (by omega)
  go_enter Tryz.func73, Tryz.ntmps73
  go_wp2
  go_loopw [3, 4] (fun v q wr => ∃ (j l : Nat) (out : List Int) (V : Option Addr) (cv : Nat), j ≤ m ∧ q = .int .i64 j ∧ v = .slice V l cv ∧ Hid (out.length = l) ∧ Hid (D m = out ++ D j) ∧ Hid (wr.ownsRow (w.heap.size + 1) 3 1 (.slice V l cv) l (out.map (Value.int .i64))) ∧ Hid (RatAt wr w.heap.size 31 false none 0 0 none 0 0) ∧ Hid (Below w.heap.size w wr)) (fun _ q _ => (intOf q).toNat)
  case atStart => exact ⟨m, 0, [], _, _, Nat.le_refl _, rfl, rfl, Lib.hid rfl, Lib.hid rfl, Lib.hid ⟨rfl, .inl ⟨rfl, rfl⟩⟩, Lib.hid (RatAt.new _ _ _ _ _ _ _ _ _), Lib.hid (below1 _ _)⟩
  case round =>
    obtain ⟨j, l, out, V, cv, hj, rfl, rfl, HOL, HD, HO, HT, HB⟩ := hrel
    have hl5 : l ≤ 5 := by
      have := congrArg List.length HD.out
      rw [List.length_append, HOL.out] at this
      have := HN5.out
      omega
    have hsz := HT.out.lt
    by_cases h0 : 0 < j
    · have hj0 : (0 : Int) < j := by omega
      have HD' : Hid (D m = (out ++ [((j % 10000 : Nat) : Int)]) ++ D (j / 10000)) := by
        show _ = _
        rw [HD.out, D_pos j h0]; simp
      clear HD
      go_wp2_with (at_builtin; refine wpList_append_ints _ rfl _ _ 29 rfl (w.heap.size + 1) 3 Tryz.underlying29 infoInt V l cv out rfl (HO.out.alloc _) _ (some ⟨wr.heap.size, 0, none⟩) 1 1 [(j : Int) % 10000] rfl (rd_one _ _ _) (by omega) (by simp; omega) ?_; intro V' c' w1 hown hg; have HO' := Lib.hid hown; have HT' := Lib.hid ((HT.out.alloc _).rowed (HO.out.alloc _) (Nat.lt_succ_self _) hg); have HB' := Lib.hid (below_app HB.out (own_mono HO.out (Nat.le_succ _)) hg); clear hown hg)
      go_roundw
      case rel => exact ⟨j / 10000, l + 1, out ++ [((j % 10000 : Nat) : Int)], V', c', by omega, by congr 1, rfl, Lib.hid (by simp [HOL.out]), HD', HO', HT', HB'⟩
      case measure => simp [intOf]; omega
    · obtain rfl : j = 0 := by omega
      have HD' : Hid (D m = out) := by show _ = _; rw [HD.out, D_zero, List.append_nil]
      clear HD
      have HT1 := Lib.hid (HT.out.alloc (.cells #[.int .i64 1] 3))
      have HL1 := Lib.hid (Nm.lit wr 3)
      have HM1 : Hid (Nm (wr.alloc (.cells #[.int .i64 1] 3)) V cv m) := by
        have h := (own_rd' HO.out).mono (Q := fun _ => True) fun _ _ _ => trivial
        have h2 : Nm wr V cv m := by show Rd wr _ V (D m).length cv (D m); rw [HD'.out, HOL.out]; exact h
        exact h2.on (below1 _ _)
      have HB1 := Lib.hid (below_on HB.out (below1 wr (.cells #[.int .i64 1] 3)))
      have HLEN : Hid ((D m).length = l) := by show _ = _; rw [HD'.out]; exact HOL.out
      have f0 := HT1.out.fz 0
      have f1 := HT1.out.fz 1
      have f2 := HT1.out.fz 2
      have y0 := HT1.out.c0
      have y1 := HT1.out.c1
      have y2 := HT1.out.c2
      clear HO HD' HOL hsz
      go_wp2
      have g2 := fun b u v => setAll_grown (wr.alloc (.cells #[.int .i64 1] 3)) w.heap.size (.bool b) u v
      refine bodyPost_ret (retR rfl _ _ _ rfl (HT1.out.setAll _ _ _ _ _ _ _)) rfl ?_
      exact ⟨V, cv, _, 1, by rw [HLEN.out]; rfl, ⟨Rd.past HM1.out HT1.out (g2 _ _ _), Rd.past HL1.out HT1.out (g2 _ _ _)⟩, below_grow HB1.out (by omega) (g2 _ _ _)⟩

set_option maxHeartbeats 800000 in
theorem wholeRat_neg (m : Nat) (w : World) (hm : m ≤ 1000000000) (hm0 : 0 < m) :
    Calls Tryz.prog 73 #[.int .i64 (-(m : Int))] w (SayR w true (D m) (D 1)) := by
  have HN5 := Lib.hid (small_len (n := m) (by omega))
  have hmax : max (-(m : Int)) (m : Int) = m := by omega
  have hle : -(m : Int) ≤ (m : Int) := by omega
  have hng : decide (-(m : Int) < 0) = true := decide_eq_true (by omega)
  go_enter Tryz.func73, Tryz.ntmps73
  go_wp2
  go_loopw [3, 4] (fun v q wr => ∃ (j l : Nat) (out : List Int) (V : Option Addr) (cv : Nat), j ≤ m ∧ q = .int .i64 j ∧ v = .slice V l cv ∧ Hid (out.length = l) ∧ Hid (D m = out ++ D j) ∧ Hid (wr.ownsRow (w.heap.size + 1) 3 1 (.slice V l cv) l (out.map (Value.int .i64))) ∧ Hid (RatAt wr w.heap.size 31 false none 0 0 none 0 0) ∧ Hid (Below w.heap.size w wr)) (fun _ q _ => (intOf q).toNat)
  case atStart => exact ⟨m, 0, [], _, _, Nat.le_refl _, rfl, rfl, Lib.hid rfl, Lib.hid rfl, Lib.hid ⟨rfl, .inl ⟨rfl, rfl⟩⟩, Lib.hid (RatAt.new _ _ _ _ _ _ _ _ _), Lib.hid (below1 _ _)⟩
  case round =>
    obtain ⟨j, l, out, V, cv, hj, rfl, rfl, HOL, HD, HO, HT, HB⟩ := hrel
    have hl5 : l ≤ 5 := by
      have := congrArg List.length HD.out
      rw [List.length_append, HOL.out] at this
      have := HN5.out
      omega
    have hsz := HT.out.lt
    by_cases h0 : 0 < j
    · have hj0 : (0 : Int) < j := by omega
      have HD' : Hid (D m = (out ++ [((j % 10000 : Nat) : Int)]) ++ D (j / 10000)) := by
        show _ = _
        rw [HD.out, D_pos j h0]; simp
      clear HD
      go_wp2_with (at_builtin; refine wpList_append_ints _ rfl _ _ 29 rfl (w.heap.size + 1) 3 Tryz.underlying29 infoInt V l cv out rfl (HO.out.alloc _) _ (some ⟨wr.heap.size, 0, none⟩) 1 1 [(j : Int) % 10000] rfl (rd_one _ _ _) (by omega) (by simp; omega) ?_; intro V' c' w1 hown hg; have HO' := Lib.hid hown; have HT' := Lib.hid ((HT.out.alloc _).rowed (HO.out.alloc _) (Nat.lt_succ_self _) hg); have HB' := Lib.hid (below_app HB.out (own_mono HO.out (Nat.le_succ _)) hg); clear hown hg)
      go_roundw
      case rel => exact ⟨j / 10000, l + 1, out ++ [((j % 10000 : Nat) : Int)], V', c', by omega, by congr 1, rfl, Lib.hid (by simp [HOL.out]), HD', HO', HT', HB'⟩
      case measure => simp [intOf]; omega
    · obtain rfl : j = 0 := by omega
      have HD' : Hid (D m = out) := by show _ = _; rw [HD.out, D_zero, List.append_nil]
      clear HD
      have HT1 := Lib.hid (HT.out.alloc (.cells #[.int .i64 1] 3))
      have HL1 := Lib.hid (Nm.lit wr 3)
      have HM1 : Hid (Nm (wr.alloc (.cells #[.int .i64 1] 3)) V cv m) := by
        have h := (own_rd' HO.out).mono (Q := fun _ => True) fun _ _ _ => trivial
        have h2 : Nm wr V cv m := by show Rd wr _ V (D m).length cv (D m); rw [HD'.out, HOL.out]; exact h
        exact h2.on (below1 _ _)
      have HB1 := Lib.hid (below_on HB.out (below1 wr (.cells #[.int .i64 1] 3)))
      have HLEN : Hid ((D m).length = l) := by show _ = _; rw [HD'.out]; exact HOL.out
      have f0 := HT1.out.fz 0
      have f1 := HT1.out.fz 1
      have f2 := HT1.out.fz 2
      have y0 := HT1.out.c0
      have y1 := HT1.out.c1
      have y2 := HT1.out.c2
      clear HO HD' HOL hsz
      go_wp2
      have g2 := fun b u v => setAll_grown (wr.alloc (.cells #[.int .i64 1] 3)) w.heap.size (.bool b) u v
      refine bodyPost_ret (retR rfl _ _ _ rfl (HT1.out.setAll _ _ _ _ _ _ _)) rfl ?_
      exact ⟨V, cv, _, 1, by rw [HLEN.out]; rfl, ⟨Rd.past HM1.out HT1.out (g2 _ _ _), Rd.past HL1.out HT1.out (g2 _ _ _)⟩, below_grow HB1.out (by omega) (g2 _ _ _)⟩


/-- of any number -/
theorem whole_any (n : Int) (w : World) (h0 : -1000000000 ≤ n) (h1 : n ≤ 1000000000) :
    Calls Tryz.prog 73 #[.int .i64 n] w (SayR w (isNeg (mkRat n 1)) (D (nu (mkRat n 1))) (D (mkRat n 1).den)) := by
  by_cases h : 0 ≤ n
  · obtain ⟨m, rfl⟩ : ∃ m : Nat, n = m := ⟨n.toNat, by omega⟩
    obtain ⟨e1, e2, e3⟩ := low_parts false m 1 (by decide) (Nat.gcd_one_right m)
    have : (sg false m) = (m : Int) := rfl
    rw [this] at e1 e2 e3
    rw [e1, e2, e3]
    exact wholeRat_pos m w (by omega)
  · obtain ⟨m, rfl⟩ : ∃ m : Nat, n = -(m : Int) := ⟨(-n).toNat, by omega⟩
    obtain ⟨e1, e2, e3⟩ := low_parts true m 1 (by decide) (Nat.gcd_one_right m)
    have : (sg true m) = -(m : Int) := rfl
    rw [this] at e1 e2 e3
    rw [e1, e2, e3, decide_eq_true (by omega)]
    exact wholeRat_neg m w (by omega) (by omega)
theorem whole_len (n : Int) (h0 : -1000000000 ≤ n) (h1 : n ≤ 1000000000) : nu (mkRat n 1) ≤ 1000000000 ∧ (mkRat n 1).den = 1 ∧ nu (mkRat n 1) = n.natAbs ∧ isNeg (mkRat n 1) = decide (n < 0) := by
  by_cases h : 0 ≤ n
  · obtain ⟨m, rfl⟩ : ∃ m : Nat, n = m := ⟨n.toNat, by omega⟩
    obtain ⟨e1, e2, e3⟩ := low_parts false m 1 (by decide) (Nat.gcd_one_right m)
    have : (sg false m) = (m : Int) := rfl
    rw [this] at e1 e2 e3
    exact ⟨by omega, e2, by omega, by rw [e3, decide_eq_false (show ¬ ((m : Int) < 0) by omega)]; rfl⟩
  · obtain ⟨m, rfl⟩ : ∃ m : Nat, n = -(m : Int) := ⟨(-n).toNat, by omega⟩
    obtain ⟨e1, e2, e3⟩ := low_parts true m 1 (by decide) (Nat.gcd_one_right m)
    have : (sg true m) = -(m : Int) := rfl
    rw [this] at e1 e2 e3
    exact ⟨by omega, e2, by omega, by rw [e3, decide_eq_true (show 0 < m by omega), decide_eq_true (show -(m : Int) < 0 by omega)]; rfl⟩
set_option maxHeartbeats 800000 in
theorem l02Int_pos (m : Nat) (w : World) (hm : m ≤ 1000000000000) :
    Calls Tryz.prog 87 #[.int .i64 (m : Int)] w (SayR w false (D m) (D 1)) := by
  have hge : decide ((m : Int) < 0) = false := decide_eq_false (by omega)
  go_enter Tryz.func87, Tryz.ntmps87
  go_wp2_with fail
  refine calls_at (fun W => Below w.heap.size w W ∧ RatAt W w.heap.size 31 false none 0 0 none 0 0) ⟨below1 _ _, RatAt.new _ _ _ _ _ _ _ _ _⟩ ?_
  rintro W ⟨hb, r0⟩
  refine (l01Small_any m W (by omega)).mono ?_
  rintro e w1 hnew
  obtain ⟨A1, c1, rfl, m1, b1⟩ := new_of hnew
  have HB1 := Lib.hid (below_on (below_on hb b1) (below1 w1 (.cells #[.int .i64 1] 3)))
  have HT1 := Lib.hid ((r0.on b1).alloc (.cells #[.int .i64 1] 3))
  have HM1 := Lib.hid (m1.on (below1 w1 (.cells #[.int .i64 1] 3)))
  have HL1 := Lib.hid (Nm.lit w1 3)
  clear hnew hb r0 m1 b1
  have f0 := HT1.out.fz 0
  have f1 := HT1.out.fz 1
  have f2 := HT1.out.fz 2
  have y0 := HT1.out.c0
  have y1 := HT1.out.c1
  have y2 := HT1.out.c2
  go_wp2
  have g2 := fun b u v => setAll_grown (w1.alloc (.cells #[.int .i64 1] 3)) w.heap.size (.bool b) u v
  refine bodyPost_ret (retR rfl _ _ _ rfl (HT1.out.setAll _ _ _ _ _ _ _)) rfl ?_
  exact ⟨A1, c1, _, 1, rfl, ⟨Rd.past HM1.out HT1.out (g2 _ _ _), Rd.past HL1.out HT1.out (g2 _ _ _)⟩, below_grow HB1.out (by omega) (g2 _ _ _)⟩

set_option maxHeartbeats 800000 in
theorem l02Int_neg (m : Nat) (w : World) (hm : m ≤ 1000000000000) (hm0 : 0 < m) :
    Calls Tryz.prog 87 #[.int .i64 (-(m : Int))] w (SayR w true (D m) (D 1)) := by
  have hge : -(m : Int) < 0 := by omega
  go_enter Tryz.func87, Tryz.ntmps87
  go_wp2_with fail
  refine calls_at (fun W => Below w.heap.size w W ∧ RatAt W w.heap.size 31 false none 0 0 none 0 0) ⟨below1 _ _, RatAt.new _ _ _ _ _ _ _ _ _⟩ ?_
  rintro W ⟨hb, r0⟩
  refine (l01Small_any m W (by omega)).mono ?_
  rintro e w1 hnew
  obtain ⟨A1, c1, rfl, m1, b1⟩ := new_of hnew
  have HB1 := Lib.hid (below_on (below_on hb b1) (below1 w1 (.cells #[.int .i64 1] 3)))
  have HT1 := Lib.hid ((r0.on b1).alloc (.cells #[.int .i64 1] 3))
  have HM1 := Lib.hid (m1.on (below1 w1 (.cells #[.int .i64 1] 3)))
  have HL1 := Lib.hid (Nm.lit w1 3)
  clear hnew hb r0 m1 b1
  have f0 := HT1.out.fz 0
  have f1 := HT1.out.fz 1
  have f2 := HT1.out.fz 2
  have y0 := HT1.out.c0
  have y1 := HT1.out.c1
  have y2 := HT1.out.c2
  go_wp2
  have g2 := fun b u v => setAll_grown (w1.alloc (.cells #[.int .i64 1] 3)) w.heap.size (.bool b) u v
  refine bodyPost_ret (retR rfl _ _ _ rfl (HT1.out.setAll _ _ _ _ _ _ _)) rfl ?_
  exact ⟨A1, c1, _, 1, rfl, ⟨Rd.past HM1.out HT1.out (g2 _ _ _), Rd.past HL1.out HT1.out (g2 _ _ _)⟩, below_grow HB1.out (by omega) (g2 _ _ _)⟩


theorem l02Int_any (n : Int) (w : World) (h0 : -1000000000 ≤ n) (h1 : n ≤ 1000000000) :
    Calls Tryz.prog 87 #[.int .i64 n] w (SayR w (isNeg (mkRat n 1)) (D (nu (mkRat n 1))) (D (mkRat n 1).den)) := by
  by_cases h : 0 ≤ n
  · obtain ⟨m, rfl⟩ : ∃ m : Nat, n = m := ⟨n.toNat, by omega⟩
    obtain ⟨e1, e2, e3⟩ := low_parts false m 1 (by decide) (Nat.gcd_one_right m)
    have : (sg false m) = (m : Int) := rfl
    rw [this] at e1 e2 e3
    rw [e1, e2, e3]
    exact l02Int_pos m w (by omega)
  · obtain ⟨m, rfl⟩ : ∃ m : Nat, n = -(m : Int) := ⟨(-n).toNat, by omega⟩
    obtain ⟨e1, e2, e3⟩ := low_parts true m 1 (by decide) (Nat.gcd_one_right m)
    have : (sg true m) = -(m : Int) := rfl
    rw [this] at e1 e2 e3
    rw [e1, e2, e3, decide_eq_true (by omega)]
    exact l02Int_neg m w (by omega) (by omega)


end Go.Proofs.YtifepoefeamboaaGreatDoor
namespace Nt
open Go Go.RowKit
inductive Jt where
  | fx (q : Rat)
  | mv (at_ slope : Jt)
def Jt.dep : Jt → Nat
  | .fx _ => 0
  | .mv a s => 1 + max a.dep s.dep
/-- a jet as one that moves -/
def Jt.at_ : Jt → Jt
  | .fx q => .fx q
  | .mv a _ => a
def Jt.sl : Jt → Jt
  | .fx _ => .fx 0
  | .mv _ s => s
def sumJ : Jt → Jt → Jt
  | .fx p, .fx q => .fx (p + q)
  | .fx p, .mv b t => .mv (sumJ (.fx p) b) (sumJ (.fx 0) t)
  | .mv a s, .fx q => .mv (sumJ a (.fx q)) (sumJ s (.fx 0))
  | .mv a s, .mv b t => .mv (sumJ a b) (sumJ s t)
termination_by f g => f.dep + g.dep
decreasing_by all_goals simp only [Jt.dep]; omega
def prodJ : Jt → Jt → Jt
  | .fx p, .fx q => .fx (p * q)
  | .fx p, .mv b t => .mv (prodJ (.fx p) b) (sumJ (prodJ (.fx 0) b) (prodJ (.fx p) t))
  | .mv a s, .fx q => .mv (prodJ a (.fx q)) (sumJ (prodJ s (.fx q)) (prodJ a (.fx 0)))
  | .mv a s, .mv b t => .mv (prodJ a b) (sumJ (prodJ s b) (prodJ a t))
termination_by f g => f.dep + g.dep
decreasing_by all_goals simp only [Jt.dep]; omega
def timesJ (n : Int) (f : Jt) : Jt := prodJ (.fx (n : Rat)) f
/-- 1 over a jet that is not 0 -/
def invJ : Jt → Jt
  | .fx q => .fx q⁻¹
  | .mv a s => .mv (invJ a) (timesJ (-1) (prodJ s (prodJ (invJ a) (invJ a))))
def raiseJ : Jt → Nat → Jt
  | .fx q, n => .fx (q ^ n)
  | .mv a s, n => .mv (raiseJ a n) (timesJ n (prodJ (raiseJ a (n - 1)) s))
/-- along so many ways, from the last one back -/
def numJ : Jt → Nat → Rat
  | .mv a _, 0 => numJ a 0
  | .mv _ s, k + 1 => numJ s k
  | .fx q, 0 => q
  | .fx _, _ + 1 => 0
def fitsJ : Jt → Bool
  | .fx q => decide (fitQ q)
  | .mv a s => fitsJ a && fitsJ s
/-- how long a number's lists are at most -/
def lim (q : Rat) (k : Nat) : Prop := (D (nu q)).length ≤ k ∧ (D q.den).length ≤ k
/-- a jet's value in memory -/
def JAt (tF tM : TypeId) (w : World) (P : Nat → Prop) : Jt → Value → Prop
  | .fx q, v => ∃ A ca B cb, v = .iface tF (.agg #[.bool (isNeg q), .slice A (D (nu q)).length ca, .slice B (D q.den).length cb]) ∧ RdR w P (D (nu q)) (D q.den) A ca B cb
  | .mv a s, v => ∃ va vs, v = .iface tM (.agg #[va, vs]) ∧ JAt tF tM w P a va ∧ JAt tF tM w P s vs
theorem JAt.on {tF tM : TypeId} {w w' : World} {P : Nat → Prop} (hb : Below w.heap.size w w') : ∀ {j : Jt} {v : Value}, JAt tF tM w P j v → JAt tF tM w' P j v
  | .fx _, _, ⟨A, ca, B, cb, e, h⟩ => ⟨A, ca, B, cb, e, h.on hb⟩
  | .mv _ _, _, ⟨va, vs, e, h1, h2⟩ => ⟨va, vs, e, JAt.on hb h1, JAt.on hb h2⟩
theorem JAt.mono {tF tM : TypeId} {w : World} {P Q : Nat → Prop} (hpq : ∀ b, P b → b < w.heap.size → Q b) : ∀ {j : Jt} {v : Value}, JAt tF tM w P j v → JAt tF tM w Q j v
  | .fx _, _, ⟨A, ca, B, cb, e, h⟩ => ⟨A, ca, B, cb, e, h.mono hpq⟩
  | .mv _ _, _, ⟨va, vs, e, h1, h2⟩ => ⟨va, vs, e, JAt.mono hpq h1, JAt.mono hpq h2⟩
/-- no list on the way to a sum, or in it, is longer than the contracts of the numbers bear -/
def SumFit : Jt → Jt → Prop
  | .fx p, .fx q => lim p 3600 ∧ lim q 3600
  | .fx p, .mv b t => SumFit (.fx p) b ∧ SumFit (.fx 0) t
  | .mv a s, .fx q => SumFit a (.fx q) ∧ SumFit s (.fx 0)
  | .mv a s, .mv b t => SumFit a b ∧ SumFit s t
termination_by f g => f.dep + g.dep
decreasing_by all_goals simp only [Jt.dep]; omega
def ProdFit : Jt → Jt → Prop
  | .fx p, .fx q => lim p 3600 ∧ lim q 3600
  | .fx p, .mv b t => ProdFit (.fx p) b ∧ ProdFit (.fx 0) b ∧ ProdFit (.fx p) t ∧ SumFit (prodJ (.fx 0) b) (prodJ (.fx p) t)
  | .mv a s, .fx q => ProdFit a (.fx q) ∧ ProdFit s (.fx q) ∧ ProdFit a (.fx 0) ∧ SumFit (prodJ s (.fx q)) (prodJ a (.fx 0))
  | .mv a s, .mv b t => ProdFit a b ∧ ProdFit s b ∧ ProdFit a t ∧ SumFit (prodJ s b) (prodJ a t)
termination_by f g => f.dep + g.dep
decreasing_by all_goals simp only [Jt.dep]; omega
/-- sums and products, whatever the jets are, by their halves -/
theorem sumJ_halves (f g : Jt) (h : 0 < f.dep + g.dep) : sumJ f g = .mv (sumJ f.at_ g.at_) (sumJ f.sl g.sl) := by
  cases f <;> cases g <;> simp only [Jt.dep] at h <;> first | omega | (rw [sumJ]; rfl)
theorem prodJ_halves (f g : Jt) (h : 0 < f.dep + g.dep) : prodJ f g = .mv (prodJ f.at_ g.at_) (sumJ (prodJ f.sl g.at_) (prodJ f.at_ g.sl)) := by
  cases f <;> cases g <;> simp only [Jt.dep] at h <;> first | omega | (rw [prodJ]; rfl)
theorem sumFit_halves (f g : Jt) (h : 0 < f.dep + g.dep) : SumFit f g ↔ SumFit f.at_ g.at_ ∧ SumFit f.sl g.sl := by
  cases f <;> cases g <;> simp only [Jt.dep] at h <;> first | omega | (rw [SumFit]; exact Iff.rfl)
theorem prodFit_halves (f g : Jt) (h : 0 < f.dep + g.dep) : ProdFit f g ↔ ProdFit f.at_ g.at_ ∧ ProdFit f.sl g.at_ ∧ ProdFit f.at_ g.sl ∧ SumFit (prodJ f.sl g.at_) (prodJ f.at_ g.sl) := by
  cases f <;> cases g <;> simp only [Jt.dep] at h <;> first | omega | (rw [ProdFit]; exact Iff.rfl)
theorem dep_halves (f g : Jt) (h : 0 < f.dep + g.dep) : f.at_.dep + g.at_.dep < f.dep + g.dep ∧ f.sl.dep + g.sl.dep < f.dep + g.dep ∧ f.sl.dep + g.at_.dep < f.dep + g.dep ∧ f.at_.dep + g.sl.dep < f.dep + g.dep := by
  cases f <;> cases g <;> simp only [Jt.dep, Jt.at_, Jt.sl] at h ⊢ <;> omega
end Nt
namespace Nt
open Go Go.RowKit
structure Q4 where
  f : Rat
  v : Rat
  w : Rat
  vw : Rat
def con4 (c : Rat) : Q4 := ⟨c, 0, 0, 0⟩
def add4 (a b : Q4) : Q4 := ⟨a.f + b.f, a.v + b.v, a.w + b.w, a.vw + b.vw⟩
def neg4 (a : Q4) : Q4 := ⟨-a.f, -a.v, -a.w, -a.vw⟩
def mul4 (a b : Q4) : Q4 := ⟨a.f * b.f, a.v * b.f + a.f * b.v, a.w * b.f + a.f * b.w, (a.vw * b.f + a.f * b.vw) + (a.v * b.w + a.w * b.v)⟩
def over4 (a : Q4) : Q4 := ⟨1 / a.f, -(a.v * ((1 / a.f) * (1 / a.f))), -(a.w * ((1 / a.f) * (1 / a.f))), (2 * (((1 / a.f) * (1 / a.f)) * (1 / a.f))) * (a.v * a.w) - a.vw * ((1 / a.f) * (1 / a.f))⟩
def toPow4 (a : Q4) : Nat → Q4
  | 0 => con4 1
  | n + 1 => mul4 (toPow4 a n) a
def fit4 (a : Q4) : Prop := fitQ a.f ∧ fitQ a.v ∧ fitQ a.w ∧ fitQ a.vw
/-- the four numbers of a jet: the last way is the outer one -/
def r4 (j : Jt) : Q4 := ⟨numJ j 0, numJ j.at_ 1, numJ j 1, numJ j 2⟩
theorem numJ_fx0 (q : Rat) : numJ (.fx q) 0 = q := by rw [numJ]
theorem numJ_fx1 (q : Rat) (k : Nat) : numJ (.fx q) (k + 1) = 0 := by rw [numJ]
theorem numJ_mv (a s : Jt) (k : Nat) : numJ (.mv a s) (k + 1) = numJ s k := by rw [numJ]
theorem numJ_at (j : Jt) : numJ j.at_ 0 = numJ j 0 := by cases j <;> simp [Jt.at_, numJ]
theorem numJ_sl (j : Jt) (k : Nat) : numJ j.sl k = numJ j (k + 1) := by
  cases j
  · cases k <;> simp [Jt.sl, numJ]
  · simp [Jt.sl, numJ]
theorem sumJ_fx (p q : Rat) : sumJ (.fx p) (.fx q) = .fx (p + q) := by rw [sumJ]
theorem prodJ_fx (p q : Rat) : prodJ (.fx p) (.fx q) = .fx (p * q) := by rw [prodJ]
theorem dep_fx {f g : Jt} (h : ¬ 0 < f.dep + g.dep) : ∃ p q, f = .fx p ∧ g = .fx q := by
  cases f <;> cases g <;> first | exact ⟨_, _, rfl, rfl⟩ | (exfalso; apply h; simp only [Jt.dep]; omega)
theorem num_sum (f g : Jt) (k : Nat) : numJ (sumJ f g) k = numJ f k + numJ g k := by
  by_cases h : 0 < f.dep + g.dep
  · rw [sumJ_halves f g h]
    have hd := dep_halves f g h
    cases k with
    | zero => rw [numJ, num_sum f.at_ g.at_ 0, numJ_at, numJ_at]
    | succ k => rw [numJ, num_sum f.sl g.sl k, numJ_sl, numJ_sl]
  · obtain ⟨p, q, rfl, rfl⟩ := dep_fx h
    rw [sumJ_fx]
    cases k <;> simp [numJ, Rat.add_zero]
termination_by f.dep + g.dep
decreasing_by all_goals omega
theorem at_sum (f g : Jt) : (sumJ f g).at_ = sumJ f.at_ g.at_ := by
  by_cases h : 0 < f.dep + g.dep
  · rw [sumJ_halves f g h]; rfl
  · obtain ⟨p, q, rfl, rfl⟩ := dep_fx h
    rw [sumJ_fx]; simp only [Jt.at_]; rw [sumJ_fx]
theorem at_prod (f g : Jt) : (prodJ f g).at_ = prodJ f.at_ g.at_ := by
  by_cases h : 0 < f.dep + g.dep
  · rw [prodJ_halves f g h]; rfl
  · obtain ⟨p, q, rfl, rfl⟩ := dep_fx h
    rw [prodJ_fx]; simp only [Jt.at_]; rw [prodJ_fx]
theorem num_prod0 (f g : Jt) : numJ (prodJ f g) 0 = numJ f 0 * numJ g 0 := by
  by_cases h : 0 < f.dep + g.dep
  · have hd := dep_halves f g h
    rw [prodJ_halves f g h, numJ, num_prod0 f.at_ g.at_, numJ_at, numJ_at]
  · obtain ⟨p, q, rfl, rfl⟩ := dep_fx h
    rw [prodJ_fx]; simp [numJ]
termination_by f.dep + g.dep
decreasing_by all_goals omega
theorem num_prod1 (f g : Jt) : numJ (prodJ f g) 1 = numJ f 1 * numJ g 0 + numJ f 0 * numJ g 1 := by
  by_cases h : 0 < f.dep + g.dep
  · rw [prodJ_halves f g h, numJ, num_sum, num_prod0, num_prod0, numJ_sl, numJ_sl, numJ_at, numJ_at]
  · obtain ⟨p, q, rfl, rfl⟩ := dep_fx h
    rw [prodJ_fx]; simp [numJ, Rat.add_zero]
theorem num_prod2 (f g : Jt) : numJ (prodJ f g) 2 = (numJ f 2 * numJ g 0 + numJ f 1 * numJ g.at_ 1) + (numJ f.at_ 1 * numJ g 1 + numJ f 0 * numJ g 2) := by
  by_cases h : 0 < f.dep + g.dep
  · rw [prodJ_halves f g h, numJ, num_sum, num_prod1, num_prod1, numJ_sl, numJ_sl, numJ_sl, numJ_sl, numJ_at, numJ_at]
  · obtain ⟨p, q, rfl, rfl⟩ := dep_fx h
    rw [prodJ_fx]; simp [numJ, Jt.at_, Rat.add_zero]
theorem r4_fx (q : Rat) : r4 (.fx q) = con4 q := by simp [r4, con4, numJ, Jt.at_]
theorem r4_sum (f g : Jt) : r4 (sumJ f g) = add4 (r4 f) (r4 g) := by
  simp only [r4, add4, at_sum, num_sum]
theorem r4_prod (f g : Jt) : r4 (prodJ f g) = mul4 (r4 f) (r4 g) := by
  simp only [r4, mul4, at_prod, num_prod0, num_prod1, num_prod2, numJ_at]
  congr 1
  grind
theorem r4_times (n : Int) (f : Jt) : r4 (timesJ n f) = ⟨n * (r4 f).f, n * (r4 f).v, n * (r4 f).w, n * (r4 f).vw⟩ := by
  rw [timesJ, r4_prod, r4_fx]; simp [mul4, con4, Rat.zero_add, Rat.add_zero]
theorem r4_neg (f : Jt) : r4 (timesJ (-1) f) = neg4 (r4 f) := by
  rw [r4_times]; simp only [neg4]; congr 1 <;> grind
theorem r4_sub (f g : Jt) : r4 (sumJ f (timesJ (-1) g)) = add4 (r4 f) (neg4 (r4 g)) := by rw [r4_sum, r4_neg]
theorem num_times (n : Int) (f : Jt) (k : Nat) (hk : k ≤ 2) : numJ (timesJ n f) k = n * numJ f k := by
  have h := r4_times n f
  simp only [r4, Q4.mk.injEq] at h
  match k, hk with
  | 0, _ => exact h.1
  | 1, _ => exact h.2.2.1
  | 2, _ => exact h.2.2.2
theorem inv0 : ∀ j : Jt, numJ (invJ j) 0 = (numJ j 0)⁻¹
  | .fx q => by simp [invJ, numJ]
  | .mv a s => by rw [invJ, numJ, numJ, inv0 a]
theorem inv1 (j : Jt) : numJ (invJ j) 1 = -(numJ j 1 * ((numJ j 0)⁻¹ * (numJ j 0)⁻¹)) := by
  cases j with
  | fx q => simp [invJ, numJ]
  | mv a s =>
    rw [invJ, numJ_mv, numJ_mv, num_times _ _ 0 (by omega), num_prod0, num_prod0, inv0]
    simp only [numJ]; grind
theorem at_inv (j : Jt) : (invJ j).at_ = invJ j.at_ := by cases j <;> simp [invJ, Jt.at_]
theorem inv2 (j : Jt) : numJ (invJ j) 2 = (2 * (((numJ j 0)⁻¹ * (numJ j 0)⁻¹) * (numJ j 0)⁻¹)) * (numJ j.at_ 1 * numJ j 1) - numJ j 2 * ((numJ j 0)⁻¹ * (numJ j 0)⁻¹) := by
  cases j with
  | fx q => simp [invJ, numJ, Jt.at_, Rat.sub_self]
  | mv a s =>
    rw [invJ, numJ_mv (invJ a), num_times _ _ 1 (by omega), num_prod1, num_prod1, num_prod0, inv0, inv1]
    simp only [numJ, Jt.at_]; grind
theorem r4_inv (j : Jt) : r4 (invJ j) = over4 (r4 j) := by
  simp only [r4, over4, at_inv, inv0, inv1, inv2, numJ_at]
  simp only [Rat.div_def, Rat.one_mul]
theorem raise0 : ∀ (j : Jt) (n : Nat), numJ (raiseJ j n) 0 = numJ j 0 ^ n
  | .fx q, n => by simp [raiseJ, numJ]
  | .mv a s, n => by rw [raiseJ, numJ, numJ, raise0 a n]
theorem at_raise (j : Jt) (n : Nat) : (raiseJ j n).at_ = raiseJ j.at_ n := by cases j <;> simp [raiseJ, Jt.at_]
theorem raise1 (j : Jt) (n : Nat) : numJ (raiseJ j n) 1 = n * (numJ j 0 ^ (n - 1) * numJ j 1) := by
  cases j with
  | fx q => simp [raiseJ, numJ]
  | mv a s =>
    rw [raiseJ, numJ_mv (raiseJ a n), num_times _ _ 0 (by omega), num_prod0, raise0]
    simp only [numJ, Rat.intCast_natCast]
theorem raise2 (j : Jt) (n : Nat) : numJ (raiseJ j n) 2 = n * (((n - 1 : Nat) * (numJ j 0 ^ (n - 1 - 1) * numJ j.at_ 1)) * numJ j 1 + numJ j 0 ^ (n - 1) * numJ j 2) := by
  cases j with
  | fx q => simp [raiseJ, numJ, Jt.at_, Rat.add_zero]
  | mv a s =>
    rw [raiseJ, numJ_mv (raiseJ a n), num_times _ _ 1 (by omega), num_prod1, raise0, raise1]
    simp only [numJ, Jt.at_, Rat.intCast_natCast]
theorem toPow_two (a : Q4) : ∀ m : Nat, toPow4 a (m + 2) = ⟨a.f ^ (m + 2), (m + 2 : Nat) * (a.f ^ (m + 1) * a.v), (m + 2 : Nat) * (a.f ^ (m + 1) * a.w), (m + 2 : Nat) * (((m + 1 : Nat) * (a.f ^ m * a.v)) * a.w + a.f ^ (m + 1) * a.vw)⟩
  | 0 => by
    simp only [toPow4, mul4, con4, Q4.mk.injEq, Nat.zero_add, Rat.pow_succ, Rat.pow_zero]
    refine ⟨by grind, by grind, by grind, by grind⟩
  | m + 1 => by
    have h2 : ((m + 1 + 2 : Nat) : Rat) = ((m : Nat) : Rat) + 3 := by simp; grind
    have h1 : ((m + 1 + 1 : Nat) : Rat) = ((m : Nat) : Rat) + 2 := by simp; grind
    have h3 : ((m + 2 : Nat) : Rat) = ((m : Nat) : Rat) + 2 := by simp
    have h4 : ((m + 1 : Nat) : Rat) = ((m : Nat) : Rat) + 1 := by simp
    rw [toPow4, toPow_two a m]
    simp only [mul4, Q4.mk.injEq, h1, h2, h4, Rat.pow_succ]
    generalize a.f ^ m = x
    refine ⟨by grind, by grind, by grind, by grind⟩
theorem r4_raise (j : Jt) : ∀ n : Nat, r4 (raiseJ j n) = toPow4 (r4 j) n
  | 0 => by
    simp only [r4, toPow4, con4, raise0, at_raise, raise1, raise2, numJ_at, Q4.mk.injEq]
    simp
  | 1 => by
    simp only [r4, toPow4, con4, mul4, raise0, at_raise, raise1, raise2, numJ_at, Q4.mk.injEq]
    simp [Rat.zero_add, Rat.add_zero]
  | m + 2 => by
    rw [toPow_two]
    simp only [r4, raise0, at_raise, raise1, raise2, numJ_at, Q4.mk.injEq]
    simp
theorem fitQ_zero : fitQ 0 := by unfold fitQ; decide
theorem fits0 {j : Jt} (h : j.dep = 0) : fitsJ j = true ↔ fitQ (numJ j 0) := by
  cases j with
  | fx q => simp [fitsJ, numJ]
  | mv a s => simp [Jt.dep] at h
theorem fits1 {j : Jt} (h : j.dep ≤ 1) : fitsJ j = true ↔ fitQ (numJ j 0) ∧ fitQ (numJ j 1) := by
  cases j with
  | fx q => simp [fitsJ, numJ, fitQ_zero]
  | mv a s =>
    simp only [Jt.dep] at h
    have ha : a.dep = 0 := by omega
    have hs : s.dep = 0 := by omega
    rw [fitsJ, Bool.and_eq_true, fits0 ha, fits0 hs, numJ_mv]; simp only [numJ]
theorem fits2 {j : Jt} (h : j.dep ≤ 2) : fitsJ j = true ↔ fit4 (r4 j) := by
  cases j with
  | fx q => simp [fitsJ, r4, fit4, numJ, Jt.at_, fitQ_zero]
  | mv a s =>
    simp only [Jt.dep] at h
    have ha : a.dep ≤ 1 := by omega
    have hs : s.dep ≤ 1 := by omega
    rw [fitsJ, Bool.and_eq_true, fits1 ha, fits1 hs]
    simp only [r4, fit4, numJ, Jt.at_]
    exact ⟨fun ⟨⟨a, b⟩, c, d⟩ => ⟨a, b, c, d⟩, fun ⟨a, b, c, d⟩ => ⟨⟨a, b⟩, c, d⟩⟩
end Nt
namespace Nt
open Go Go.RowKit
theorem lim_mono {q : Rat} {k l : Nat} (h : lim q k) (hl : k ≤ l) : lim q l := ⟨Nat.le_trans h.1 hl, Nat.le_trans h.2 hl⟩
theorem lim_add {p q : Rat} {a b : Nat} (h1 : lim p a) (h2 : lim q b) : lim (p + q) (a + b + 1) := by
  have := add_lens p q
  obtain ⟨x, y⟩ := h1
  obtain ⟨z, u⟩ := h2
  constructor <;> omega
theorem lim_mul {p q : Rat} {a b : Nat} (h1 : lim p a) (h2 : lim q b) : lim (p * q) (a + b) := by
  have := mul_lens p q
  obtain ⟨x, y⟩ := h1
  obtain ⟨z, u⟩ := h2
  constructor <;> omega
theorem lim_neg {q : Rat} {k : Nat} (h : lim q k) : lim (-q) k := by
  obtain ⟨e1, e2, _⟩ := neg_parts q
  unfold lim; rw [e1, e2]; exact h
theorem lim_sub {p q : Rat} {a b : Nat} (h1 : lim p a) (h2 : lim q b) : lim (p - q) (a + b + 1) := by
  rw [Rat.sub_eq_add_neg]; exact lim_add h1 (lim_neg h2)
theorem D_1_len : (D 1).length = 1 := by decide
theorem lim_int (n : Int) (h : n.natAbs < 10000) : lim (n : Rat) 1 := by
  constructor
  · have e : nu (n : Rat) = n.natAbs := by unfold nu; rw [Rat.num_intCast]
    rw [e]; exact (D_len_le _ 1).2 (by omega)
  · rw [Rat.den_intCast, D_1_len]; exact Nat.le_refl _
theorem lim_zero : lim 0 1 := by unfold lim; decide
theorem lim_one : lim 1 1 := by unfold lim; decide
theorem lim_inv {q : Rat} {k : Nat} (h : lim q k) (hk : 1 ≤ k) : lim q⁻¹ k := by
  by_cases h0 : 0 < nu q
  · obtain ⟨e1, e2, _⟩ := inv_parts h0
    unfold lim; rw [e1, e2]; exact ⟨h.2, h.1⟩
  · have e : q = 0 := by
      apply Rat.num_eq_zero.1
      unfold nu at h0; omega
    rw [e, Rat.inv_zero]; exact lim_mono lim_zero hk
theorem lim_pow {q : Rat} {k : Nat} (h : lim q k) : ∀ n, lim (q ^ n) (k * n + 1)
  | 0 => by rw [Rat.pow_zero]; exact lim_mono lim_one (by omega)
  | n + 1 => by
    by_cases hn : n = 0
    · subst hn
      rw [Rat.pow_succ, Rat.pow_zero, Rat.one_mul]; exact lim_mono h (by omega)
    · rw [Rat.pow_succ]
      exact lim_mono (lim_mul (lim_pow h n) h) (by rw [Nat.mul_succ]; omega)
/-- each number of a jet, the slopes that it holds itself -/
def Each (k : Nat) : Jt → Prop
  | .fx q => lim q k
  | .mv a s => Each k a ∧ Each k s
theorem Each.mono {k l : Nat} (hl : k ≤ l) : ∀ {j : Jt}, Each k j → Each l j
  | .fx _, h => lim_mono h hl
  | .mv _ _, h => ⟨Each.mono hl h.1, Each.mono hl h.2⟩
theorem each_at {k : Nat} {j : Jt} (h : Each k j) : Each k j.at_ := by
  cases j
  · exact h
  · exact h.1
theorem each_sl {k : Nat} (hk : 1 ≤ k) {j : Jt} (h : Each k j) : Each k j.sl := by
  cases j
  · exact lim_mono lim_zero hk
  · exact h.2
theorem sumFit_each (f g : Jt) {k : Nat} (hk : 1 ≤ k) (hl : k ≤ 3600) (hf : Each k f) (hg : Each k g) : SumFit f g := by
  by_cases h : 0 < f.dep + g.dep
  · have hd := dep_halves f g h
    rw [sumFit_halves f g h]
    exact ⟨sumFit_each f.at_ g.at_ hk hl (each_at hf) (each_at hg), sumFit_each f.sl g.sl hk hl (each_sl hk hf) (each_sl hk hg)⟩
  · obtain ⟨p, q, rfl, rfl⟩ := dep_fx h
    rw [SumFit]; exact ⟨lim_mono hf hl, lim_mono hg hl⟩
termination_by f.dep + g.dep
decreasing_by all_goals omega
/-- jets of no way, of one, of two, by the numbers that they are -/
def L1 (j : Jt) (a b : Nat) : Prop := j.dep ≤ 1 ∧ lim (numJ j 0) a ∧ lim (numJ j 1) b
def L2 (j : Jt) (a b c d : Nat) : Prop := j.dep ≤ 2 ∧ lim (numJ j 0) a ∧ lim (numJ j.at_ 1) b ∧ lim (numJ j 1) c ∧ lim (numJ j 2) d
theorem L1.mono {j : Jt} {a b a' b' : Nat} (h : L1 j a b) (ha : a ≤ a') (hb : b ≤ b') : L1 j a' b' := ⟨h.1, lim_mono h.2.1 ha, lim_mono h.2.2 hb⟩
theorem L2.mono {j : Jt} {a b c d a' b' c' d' : Nat} (h : L2 j a b c d) (ha : a ≤ a') (hb : b ≤ b') (hc : c ≤ c') (hd : d ≤ d') : L2 j a' b' c' d' := ⟨h.1, lim_mono h.2.1 ha, lim_mono h.2.2.1 hb, lim_mono h.2.2.2.1 hc, lim_mono h.2.2.2.2 hd⟩
theorem dep_at (j : Jt) : j.at_.dep ≤ j.dep - 1 := by cases j <;> simp only [Jt.at_, Jt.dep] <;> omega
theorem dep_sl (j : Jt) : j.sl.dep ≤ j.dep - 1 := by cases j <;> simp only [Jt.sl, Jt.dep] <;> omega
theorem L2.at_ {j : Jt} {a b c d : Nat} (h : L2 j a b c d) : L1 j.at_ a b := by
  have := dep_at j
  obtain ⟨h0, h1, h2, -, -⟩ := h
  exact ⟨by omega, by rw [numJ_at]; exact h1, h2⟩
theorem L2.sl {j : Jt} {a b c d : Nat} (h : L2 j a b c d) : L1 j.sl c d := by
  have := dep_sl j
  obtain ⟨h0, -, -, h1, h2⟩ := h
  exact ⟨by omega, by rw [numJ_sl]; exact h1, by rw [numJ_sl]; exact h2⟩
theorem fx_of {j : Jt} (h : j.dep = 0) : j = .fx (numJ j 0) := by
  cases j
  · rfl
  · simp only [Jt.dep] at h; omega
theorem L1.each {j : Jt} {a b k : Nat} (h : L1 j a b) (ha : a ≤ k) (hb : b ≤ k) : Each k j := by
  cases j with
  | fx q => have := h.2.1; rw [numJ] at this; exact lim_mono this ha
  | mv x y =>
    obtain ⟨h0, h1, h2⟩ := h
    simp only [Jt.dep] at h0
    have hx : x.dep = 0 := by omega
    have hy : y.dep = 0 := by omega
    rw [fx_of hx, fx_of hy]
    rw [numJ] at h1
    rw [numJ_mv] at h2
    exact ⟨lim_mono h1 ha, lim_mono h2 hb⟩
theorem L2.each {j : Jt} {a b c d k : Nat} (h : L2 j a b c d) (ha : a ≤ k) (hb : b ≤ k) (hc : c ≤ k) (hd : d ≤ k) : Each k j := by
  cases j with
  | fx q => have := h.2.1; rw [numJ] at this; exact lim_mono this ha
  | mv x y => exact ⟨h.at_.each ha hb, h.sl.each hc hd⟩
theorem dep_sum (f g : Jt) (k : Nat) (hf : f.dep ≤ k) (hg : g.dep ≤ k) : (sumJ f g).dep ≤ k := by
  by_cases h : 0 < f.dep + g.dep
  · have hd := dep_halves f g h
    rw [sumJ_halves f g h, Jt.dep]
    have a1 := dep_at f; have a2 := dep_at g; have a3 := dep_sl f; have a4 := dep_sl g
    have := dep_sum f.at_ g.at_ (k - 1) (by omega) (by omega)
    have := dep_sum f.sl g.sl (k - 1) (by omega) (by omega)
    omega
  · obtain ⟨p, q, rfl, rfl⟩ := dep_fx h
    rw [sumJ_fx, Jt.dep]; omega
termination_by f.dep + g.dep
decreasing_by all_goals omega
theorem dep_prod (f g : Jt) (k : Nat) (hf : f.dep ≤ k) (hg : g.dep ≤ k) : (prodJ f g).dep ≤ k := by
  by_cases h : 0 < f.dep + g.dep
  · have hd := dep_halves f g h
    rw [prodJ_halves f g h, Jt.dep]
    have a1 := dep_at f; have a2 := dep_at g; have a3 := dep_sl f; have a4 := dep_sl g
    have b1 := dep_prod f.at_ g.at_ (k - 1) (by omega) (by omega)
    have b2 := dep_prod f.sl g.at_ (k - 1) (by omega) (by omega)
    have b3 := dep_prod f.at_ g.sl (k - 1) (by omega) (by omega)
    have := dep_sum _ _ (k - 1) b2 b3
    omega
  · obtain ⟨p, q, rfl, rfl⟩ := dep_fx h
    rw [prodJ_fx, Jt.dep]; omega
termination_by f.dep + g.dep
decreasing_by all_goals omega
theorem L1.sum {f g : Jt} {a b a' b' : Nat} (hf : L1 f a b) (hg : L1 g a' b') : L1 (sumJ f g) (a + a' + 1) (b + b' + 1) :=
  ⟨dep_sum f g 1 hf.1 hg.1, by rw [num_sum]; exact lim_add hf.2.1 hg.2.1, by rw [num_sum]; exact lim_add hf.2.2 hg.2.2⟩
theorem L1.prod {f g : Jt} {a b a' b' : Nat} (hf : L1 f a b) (hg : L1 g a' b') : L1 (prodJ f g) (a + a') ((b + a') + (a + b') + 1) :=
  ⟨dep_prod f g 1 hf.1 hg.1, by rw [num_prod0]; exact lim_mul hf.2.1 hg.2.1, by rw [num_prod1]; exact lim_add (lim_mul hf.2.2 hg.2.1) (lim_mul hf.2.1 hg.2.2)⟩
theorem L2.sum {f g : Jt} {a b c d a' b' c' d' : Nat} (hf : L2 f a b c d) (hg : L2 g a' b' c' d') : L2 (sumJ f g) (a + a' + 1) (b + b' + 1) (c + c' + 1) (d + d' + 1) :=
  ⟨dep_sum f g 2 hf.1 hg.1, by rw [num_sum]; exact lim_add hf.2.1 hg.2.1, by rw [at_sum, num_sum]; exact lim_add hf.2.2.1 hg.2.2.1, by rw [num_sum]; exact lim_add hf.2.2.2.1 hg.2.2.2.1, by rw [num_sum]; exact lim_add hf.2.2.2.2 hg.2.2.2.2⟩
theorem L2.prod {f g : Jt} {a b c d a' b' c' d' : Nat} (hf : L2 f a b c d) (hg : L2 g a' b' c' d') : L2 (prodJ f g) (a + a') ((b + a') + (a + b') + 1) ((c + a') + (a + c') + 1) (((d + a') + (c + b') + 1) + ((b + c') + (a + d') + 1) + 1) := by
  refine ⟨dep_prod f g 2 hf.1 hg.1, by rw [num_prod0]; exact lim_mul hf.2.1 hg.2.1, ?_, ?_, ?_⟩
  · rw [at_prod, num_prod1, numJ_at, numJ_at]; exact lim_add (lim_mul hf.2.2.1 hg.2.1) (lim_mul hf.2.1 hg.2.2.1)
  · rw [num_prod1]; exact lim_add (lim_mul hf.2.2.2.1 hg.2.1) (lim_mul hf.2.1 hg.2.2.2.1)
  · rw [num_prod2]; exact lim_add (lim_add (lim_mul hf.2.2.2.2 hg.2.1) (lim_mul hf.2.2.2.1 hg.2.2.1)) (lim_add (lim_mul hf.2.2.1 hg.2.2.2.1) (lim_mul hf.2.1 hg.2.2.2.2))
theorem L1.prodFit {f g : Jt} {a b a' b' : Nat} (hf : L1 f a b) (hg : L1 g a' b') (l1 : a ≤ 3600) (l2 : b ≤ 3600) (l3 : a' ≤ 3600) (l4 : b' ≤ 3600) (l5 : b + a' ≤ 3600) (l6 : a + b' ≤ 3600) : ProdFit f g := by
  by_cases h : 0 < f.dep + g.dep
  · rw [prodFit_halves f g h]
    have a1 := dep_at f; have a2 := dep_at g; have a3 := dep_sl f; have a4 := dep_sl g
    obtain ⟨f0, f1, f2⟩ := hf
    obtain ⟨g0, g1, g2⟩ := hg
    rw [fx_of (by omega : f.at_.dep = 0), fx_of (by omega : g.at_.dep = 0), fx_of (by omega : f.sl.dep = 0), fx_of (by omega : g.sl.dep = 0), numJ_at, numJ_at, numJ_sl, numJ_sl]
    simp only [ProdFit, SumFit, prodJ_fx]
    exact ⟨⟨lim_mono f1 l1, lim_mono g1 l3⟩, ⟨lim_mono f2 l2, lim_mono g1 l3⟩, ⟨lim_mono f1 l1, lim_mono g2 l4⟩, lim_mono (lim_mul f2 g1) l5, lim_mono (lim_mul f1 g2) l6⟩
  · obtain ⟨p, q, rfl, rfl⟩ := dep_fx h
    have f1 := hf.2.1; have g1 := hg.2.1
    rw [numJ] at f1 g1
    rw [ProdFit]; exact ⟨lim_mono f1 l1, lim_mono g1 l3⟩
theorem L2.prodFit {f g : Jt} {a b c d a' b' c' d' : Nat} (hf : L2 f a b c d) (hg : L2 g a' b' c' d') (l1 : a ≤ 3600) (l2 : b ≤ 3600) (l3 : c ≤ 3600) (l4 : d ≤ 3600) (l5 : a' ≤ 3600) (l6 : b' ≤ 3600) (l7 : c' ≤ 3600) (l8 : d' ≤ 3600)
    (m1 : b + a' ≤ 3600) (m2 : a + b' ≤ 3600) (m3 : (d + a') + (c + b') + 1 ≤ 3600) (m4 : (b + c') + (a + d') + 1 ≤ 3600) : ProdFit f g := by
  by_cases h : 0 < f.dep + g.dep
  · rw [prodFit_halves f g h]
    refine ⟨hf.at_.prodFit hg.at_ l1 l2 l5 l6 m1 m2, hf.sl.prodFit hg.at_ l3 l4 l5 l6 (by omega) (by omega), hf.at_.prodFit hg.sl l1 l2 l7 l8 (by omega) (by omega), ?_⟩
    exact sumFit_each _ _ (k := 3600) (by omega) (by omega) ((hf.sl.prod hg.at_).each (by omega) (by omega)) ((hf.at_.prod hg.sl).each (by omega) (by omega))
  · obtain ⟨p, q, rfl, rfl⟩ := dep_fx h
    have f1 := hf.2.1; have g1 := hg.2.1
    rw [numJ] at f1 g1
    rw [ProdFit]; exact ⟨lim_mono f1 l1, lim_mono g1 l5⟩
theorem L1.fx {q : Rat} {a : Nat} (h : lim q a) : L1 (.fx q) a 1 := ⟨by simp only [Jt.dep]; omega, by rw [numJ]; exact h, by rw [numJ_fx1]; exact lim_zero⟩
theorem L2.fx {q : Rat} {a : Nat} (h : lim q a) : L2 (.fx q) a 1 1 1 := ⟨by simp only [Jt.dep]; omega, by rw [numJ]; exact h, by rw [Jt.at_, numJ_fx1]; exact lim_zero, by rw [numJ_fx1]; exact lim_zero, by rw [numJ_fx1]; exact lim_zero⟩
theorem dep_times (n : Int) (f : Jt) (k : Nat) (h : f.dep ≤ k) : (timesJ n f).dep ≤ k := dep_prod _ _ k (by simp only [Jt.dep]; omega) h
theorem dep_inv : ∀ (j : Jt) (k : Nat), j.dep ≤ k → (invJ j).dep ≤ k
  | .fx q, k, _ => by rw [invJ, Jt.dep]; omega
  | .mv a s, k, h => by
    simp only [Jt.dep] at h
    have i := dep_inv a (k - 1) (by omega)
    have := dep_times (-1) _ (k - 1) (dep_prod s _ (k - 1) (by omega) (dep_prod _ _ (k - 1) i i))
    rw [invJ, Jt.dep]; omega
theorem dep_raise : ∀ (j : Jt) (n k : Nat), j.dep ≤ k → (raiseJ j n).dep ≤ k
  | .fx q, n, k, _ => by rw [raiseJ, Jt.dep]; omega
  | .mv a s, n, k, h => by
    simp only [Jt.dep] at h
    have i := dep_raise a n (k - 1) (by omega)
    have := dep_times n _ (k - 1) (dep_prod _ s (k - 1) (dep_raise a (n - 1) (k - 1) (by omega)) (by omega))
    rw [raiseJ, Jt.dep]; omega
/-- no list on the way to an inverse is too long -/
def InvFit : Jt → Prop
  | .fx q => lim q 3600
  | .mv a s => InvFit a ∧ ProdFit (invJ a) (invJ a) ∧ ProdFit s (prodJ (invJ a) (invJ a)) ∧ ProdFit (.fx ((-1 : Int) : Rat)) (prodJ s (prodJ (invJ a) (invJ a)))
/-- nor on the way to a power -/
def RaiseFit : Jt → Nat → Prop
  | .fx q, _ => lim q 40
  | .mv a s, n => RaiseFit a n ∧ RaiseFit a (n - 1) ∧ ProdFit (raiseJ a (n - 1)) s ∧ ProdFit (.fx ((n : Int) : Rat)) (prodJ (raiseJ a (n - 1)) s)
theorem lim_two : lim 2 1 := by unfold lim; decide
theorem L1.inv {j : Jt} {a b : Nat} (h : L1 j a b) (ha : 1 ≤ a) : L1 (invJ j) a (b + (a + a)) :=
  ⟨dep_inv j 1 h.1, by rw [inv0]; exact lim_inv h.2.1 ha, by rw [inv1]; exact lim_neg (lim_mul h.2.2 (lim_mul (lim_inv h.2.1 ha) (lim_inv h.2.1 ha)))⟩
theorem L2.inv {j : Jt} {a b c d : Nat} (h : L2 j a b c d) (ha : 1 ≤ a) : L2 (invJ j) a (b + (a + a)) (c + (a + a)) (((1 + (a + a + a)) + (b + c)) + (d + (a + a)) + 1) := by
  have i := lim_inv h.2.1 ha
  refine ⟨dep_inv j 2 h.1, by rw [inv0]; exact i, ?_, by rw [inv1]; exact lim_neg (lim_mul h.2.2.2.1 (lim_mul i i)), ?_⟩
  · have := h.at_.inv ha
    rw [at_inv]; exact this.2.2
  · rw [inv2]
    exact lim_sub (lim_mul (lim_mul lim_two (lim_mul (lim_mul i i) i)) (lim_mul h.2.2.1 h.2.2.2.1)) (lim_mul h.2.2.2.2 (lim_mul i i))
theorem lim_neg1 : lim (((-1 : Int)) : Rat) 1 := lim_int _ (by decide)
theorem L1.invFit {j : Jt} (h : L1 j 40 40) : InvFit j := by
  cases j with
  | fx q => have := h.2.1; rw [numJ] at this; exact lim_mono this (by omega)
  | mv x s =>
    obtain ⟨h0, h1, h2⟩ := h
    simp only [Jt.dep] at h0
    rw [numJ] at h1; rw [numJ_mv] at h2
    have hx : L1 x 40 1 := by rw [fx_of (by omega : x.dep = 0)]; exact L1.fx h1
    have hs : L1 s 40 1 := by rw [fx_of (by omega : s.dep = 0)]; exact L1.fx h2
    have hi := hx.inv (by omega)
    refine ⟨?_, hi.prodFit hi (by omega) (by omega) (by omega) (by omega) (by omega) (by omega), hs.prodFit (hi.prod hi) (by omega) (by omega) (by omega) (by omega) (by omega) (by omega), (L1.fx lim_neg1).prodFit (hs.prod (hi.prod hi)) (by omega) (by omega) (by omega) (by omega) (by omega) (by omega)⟩
    rw [fx_of (by omega : x.dep = 0)]; exact lim_mono h1 (by omega)
theorem L2.invFit {j : Jt} (h : L2 j 40 40 40 40) : InvFit j := by
  cases j with
  | fx q => have := h.2.1; rw [numJ] at this; exact lim_mono this (by omega)
  | mv x s =>
    have hx : L1 x 40 40 := h.at_
    have hs : L1 s 40 40 := h.sl
    have hi := hx.inv (by omega)
    exact ⟨hx.invFit, hi.prodFit hi (by omega) (by omega) (by omega) (by omega) (by omega) (by omega), hs.prodFit (hi.prod hi) (by omega) (by omega) (by omega) (by omega) (by omega) (by omega), (L1.fx lim_neg1).prodFit (hs.prod (hi.prod hi)) (by omega) (by omega) (by omega) (by omega) (by omega) (by omega)⟩
theorem lim_nat {n : Nat} (h : n ≤ 8) : lim (n : Rat) 1 := by
  have := lim_int (n : Int) (by omega)
  rwa [Rat.intCast_natCast] at this
theorem L1.raise {j : Jt} (h : L1 j 40 40) {n : Nat} (hn : n ≤ 8) : L1 (raiseJ j n) 321 322 :=
  ⟨dep_raise j n 1 h.1, by rw [raise0]; exact lim_mono (lim_pow h.2.1 n) (by omega), by rw [raise1]; exact lim_mono (lim_mul (lim_nat hn) (lim_mul (lim_pow h.2.1 (n - 1)) h.2.2)) (by omega)⟩
theorem L2.raise {j : Jt} (h : L2 j 40 40 40 40) {n : Nat} (hn : n ≤ 8) : L2 (raiseJ j n) 321 322 322 726 := by
  refine ⟨dep_raise j n 2 h.1, by rw [raise0]; exact lim_mono (lim_pow h.2.1 n) (by omega), ?_, by rw [raise1]; exact lim_mono (lim_mul (lim_nat hn) (lim_mul (lim_pow h.2.1 (n - 1)) h.2.2.2.1)) (by omega), ?_⟩
  · have := h.at_.raise hn
    rw [at_raise]; exact this.2.2
  · rw [raise2]
    refine lim_mono (lim_mul (lim_nat hn) (lim_add (lim_mul (lim_mul (lim_nat (by omega : n - 1 ≤ 8)) (lim_mul (lim_pow h.2.1 (n - 1 - 1)) h.2.2.1)) h.2.2.2.1) (lim_mul (lim_pow h.2.1 (n - 1)) h.2.2.2.2))) (by omega)
theorem L1.raiseFit {j : Jt} (h : L1 j 40 40) {n : Nat} (hn : n ≤ 8) : RaiseFit j n := by
  cases j with
  | fx q => have := h.2.1; rw [numJ] at this; exact this
  | mv x s =>
    obtain ⟨h0, h1, h2⟩ := h
    simp only [Jt.dep] at h0
    rw [numJ] at h1; rw [numJ_mv] at h2
    have hx : L1 x 40 40 := by rw [fx_of (by omega : x.dep = 0)]; exact (L1.fx h1).mono (by omega) (by omega)
    have hs : L1 s 40 40 := by rw [fx_of (by omega : s.dep = 0)]; exact (L1.fx h2).mono (by omega) (by omega)
    have hp := hx.raise (by omega : n - 1 ≤ 8)
    have hl : lim (((n : Int)) : Rat) 1 := lim_int _ (by omega)
    have hf : ∀ m, RaiseFit x m := fun m => by rw [fx_of (by omega : x.dep = 0)]; exact h1
    exact ⟨hf _, hf _, hp.prodFit hs (by omega) (by omega) (by omega) (by omega) (by omega) (by omega), (L1.fx hl).prodFit (hp.prod hs) (by omega) (by omega) (by omega) (by omega) (by omega) (by omega)⟩
theorem L2.raiseFit {j : Jt} (h : L2 j 40 40 40 40) {n : Nat} (hn : n ≤ 8) : RaiseFit j n := by
  cases j with
  | fx q => have := h.2.1; rw [numJ] at this; exact this
  | mv x s =>
    have hx : L1 x 40 40 := h.at_
    have hs : L1 s 40 40 := h.sl
    have hp := hx.raise (by omega : n - 1 ≤ 8)
    have hl : lim (((n : Int)) : Rat) 1 := lim_int _ (by omega)
    exact ⟨hx.raiseFit hn, hx.raiseFit (by omega), hp.prodFit hs (by omega) (by omega) (by omega) (by omega) (by omega) (by omega), (L1.fx hl).prodFit (hp.prod hs) (by omega) (by omega) (by omega) (by omega) (by omega) (by omega)⟩
/-- a jet that fits, by its four numbers -/
theorem L2.of_fits {j : Jt} (hd : j.dep ≤ 2) (h : fitsJ j = true) : L2 j 40 40 40 40 := by
  obtain ⟨a, b, c, d⟩ := (fits2 hd).1 h
  exact ⟨hd, a, b, c, d⟩
theorem L2.neg {j : Jt} (h : L2 j 40 40 40 40) : L2 (timesJ (-1) j) 41 83 83 167 := ((L2.fx lim_neg1).prod h).mono (by omega) (by omega) (by omega) (by omega)
theorem L2.negFit {j : Jt} (h : L2 j 40 40 40 40) : ProdFit (.fx ((-1 : Int) : Rat)) j := (L2.fx lim_neg1).prodFit h (by omega) (by omega) (by omega) (by omega) (by omega) (by omega) (by omega) (by omega) (by omega) (by omega) (by omega) (by omega)
theorem L2.sumFit {f g : Jt} {a b c d a' b' c' d' : Nat} (hf : L2 f a b c d) (hg : L2 g a' b' c' d') (l1 : a ≤ 3600) (l2 : b ≤ 3600) (l3 : c ≤ 3600) (l4 : d ≤ 3600) (l5 : a' ≤ 3600) (l6 : b' ≤ 3600) (l7 : c' ≤ 3600) (l8 : d' ≤ 3600) : SumFit f g :=
  sumFit_each f g (k := 3600) (by omega) (by omega) (hf.each l1 l2 l3 l4) (hg.each l5 l6 l7 l8)
theorem L2.quoFit {f g : Jt} (hf : L2 f 40 40 40 40) (hg : L2 g 40 40 40 40) : ProdFit f (invJ g) :=
  hf.prodFit (hg.inv (by omega)) (by omega) (by omega) (by omega) (by omega) (by omega) (by omega) (by omega) (by omega) (by omega) (by omega) (by omega) (by omega)
theorem L2.mulFit {f g : Jt} (hf : L2 f 40 40 40 40) (hg : L2 g 40 40 40 40) : ProdFit f g :=
  hf.prodFit hg (by omega) (by omega) (by omega) (by omega) (by omega) (by omega) (by omega) (by omega) (by omega) (by omega) (by omega) (by omega)
end Nt
