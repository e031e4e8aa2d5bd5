/-
  One over a jet: inverse of the program, of a fixed one.
-/
import Derived.Test.YtifepoefeamboaaGreatDoorImplJetP
import Derived.Test.YtifepoefeamboaaGreatDoorGrpG
import Derived.Deep.RegionHeld3
namespace Go.Proofs.YtifepoefeamboaaGreatDoor
open Go Go.RowKit Nt

set_option maxRecDepth 20000 in
set_option maxHeartbeats 3200000 in
theorem inv_fx_core (m : Bool) (X Y L1 : List Int) (ev : Value) (n : Bool) (A B : Option Addr) (la ca lb cb : Nat) (w : World)
    (hW : Hid (∀ W, Calls Tryz.prog 73 #[.int .i64 1] W (SayR W false L1 L1)))
    (hO : Hid (∀ (A1 : Option Addr) (c1 : Nat) (B1 : Option Addr) (d1 : Nat) (W : World), RdR W (fun _ => True) L1 L1 A1 c1 B1 d1 → Below w.heap.size w W → Calls Tryz.prog 195 #[.agg #[.bool false, .slice A1 L1.length c1, .slice B1 L1.length d1], .agg #[.bool n, .slice A la ca, .slice B lb cb]] W (fun e w' => ∃ A5 c5 B5 d5, e = .returned (.tuple #[.agg #[.bool m, .slice A5 X.length c5, .slice B5 Y.length d5], ev]) ∧ RdR w' (fun _ => True) X Y A5 c5 B5 d5 ∧ Below W.heap.size W w'))) :
    Calls Tryz.prog 193 #[.agg #[.bool n, .slice A la ca, .slice B lb cb]] w (fun e w' => ∃ A5 c5 B5 d5, e = .returned (.tuple #[.iface 105 (.agg #[.bool m, .slice A5 X.length c5, .slice B5 Y.length d5]), ev]) ∧ RdR w' (fun _ => True) X Y A5 c5 B5 d5 ∧ Below w.heap.size w w') := by
  go_enter Tryz.func193, Tryz.ntmps193
  go_upto_region 1 with fail
  refine wp_atJ (fun v0 => Below w.heap.size w v0 ∧ RatAt v0 w.heap.size 105 n A la ca B lb cb) ⟨below1 _ _, RatAt.new _ _ _ _ _ _ _ _ _⟩ ?_
  rintro v0 ⟨hb, r0⟩
  have HB0 := Lib.hid hb
  have HR0 := Lib.hid r0
  have zR0 := r0.lt
  clear hb r0
  go_cut [4, 5] (fun s1 s2 wx => ∃ (zb : Nat) (As : Option Addr) (cs : Nat) (Bs : Option Addr) (ds : Nat), s1 = .pointer (some ⟨zb, 0, none⟩) ∧ s2 = ev ∧ Below w.heap.size w wx ∧ RdR wx (fun _ => True) X Y As cs Bs ds ∧ RatAt wx zb 31 m As X.length cs Bs Y.length ds)
  case first =>
    have zw := HB0.out.size
    go_region_held3 (fun wx => wx.cell? ⟨w.heap.size, 0, none⟩ = some (.bool n) ∧ wx.cell? ⟨w.heap.size, 1, none⟩ = some (.slice A la ca) ∧ wx.cell? ⟨w.heap.size, 2, none⟩ = some (.slice B lb cb))
      (first | with_reducible exact ⟨HR2.out.c0, HR2.out.c1, HR2.out.c2⟩ | with_reducible exact ⟨HR1.out.c0, HR1.out.c1, HR1.out.c2⟩ | with_reducible exact ⟨HR0.out.c0, HR0.out.c1, HR0.out.c2⟩ | with_reducible exact ⟨(HR2.out.alloc _).c0, (HR2.out.alloc _).c1, (HR2.out.alloc _).c2⟩ | with_reducible exact ⟨(HR1.out.alloc _).c0, (HR1.out.alloc _).c1, (HR1.out.alloc _).c2⟩ | with_reducible exact ⟨(HR0.out.alloc _).c0, (HR0.out.alloc _).c1, (HR0.out.alloc _).c2⟩ | with_reducible exact ⟨(HR2.out.grown (setAll_grown _ _ _ _ _) (by omega)).c0, (HR2.out.grown (setAll_grown _ _ _ _ _) (by omega)).c1, (HR2.out.grown (setAll_grown _ _ _ _ _) (by omega)).c2⟩ | exact ⟨HR0.out.c0, HR0.out.c1, HR0.out.c2⟩ | exact ⟨(HR0.out.alloc _).c0, (HR0.out.alloc _).c1, (HR0.out.alloc _).c2⟩ | exact ⟨(HR2.out.grown (setAll_grown _ _ _ _ _) (by omega)).c0, (HR2.out.grown (setAll_grown _ _ _ _ _) (by omega)).c1, (HR2.out.grown (setAll_grown _ _ _ _ _) (by omega)).c2⟩)
      (first
        | (go_at_call 73; (first | (with_reducible show Calls _ _ _ (World.drew (World.alloc _ _)) _) | (with_reducible show Calls _ _ _ (World.alloc (World.drew _) _) _)); refine calls_at (fun V => Below v0.heap.size v0 V ∧ RatAt V v0.heap.size 31 false none 0 0 none 0 0) (by first | exact ⟨below1 _ _, RatAt.new _ _ _ _ _ _ _ _ _⟩ | exact ⟨below_drewN (below1 _ _) 1, RatAt.new _ _ _ _ _ _ _ _ _⟩ | exact ⟨undrew (below1 _ _), RatAt.new _ _ _ _ _ _ _ _ _⟩) ?_; rintro u0 ⟨bu, pz⟩; have su0 := bu.size; have HB0 := Lib.hid (below_on HB0.out bu); have HR0 := Lib.hid (HR0.out.on bu); have HZ0 := Lib.hid pz; clear bu pz; refine (hW.out _).mono ?_; rintro e v1 ⟨A1, c1, B1, d1, rfl, oo, bb⟩; have sv1 := bb.size; have HB1 := Lib.hid (below_on HB0.out bb); have HR1 := Lib.hid (HR0.out.on bb); have HO1 := Lib.hid oo; have HZ1 := Lib.hid (HZ0.out.on bb); clear oo bb)
        | (go_at_call 73; refine (hW.out _).mono ?_; rintro e v1 ⟨A1, c1, B1, d1, rfl, oo, bb⟩; have bb := undrew bb; have sv1 := bb.size; have HB1 := Lib.hid (below_on HB0.out bb); have HR1 := Lib.hid (HR0.out.on bb); have HO1 := Lib.hid oo; clear oo bb)
        | (go_at_call 195; (with_reducible show Calls _ _ _ (World.alloc _ _) _); refine calls_at (fun V => Below v1.heap.size v1 V ∧ RatAt V v1.heap.size 31 false none 0 0 none 0 0) (by first | exact ⟨below1 _ _, RatAt.new _ _ _ _ _ _ _ _ _⟩ | exact ⟨below_drewN (below1 _ _) 1, RatAt.new _ _ _ _ _ _ _ _ _⟩ | exact ⟨undrew (below1 _ _), RatAt.new _ _ _ _ _ _ _ _ _⟩) ?_; rintro u2 ⟨bu, pz⟩; have su2 := bu.size; have HB1 := Lib.hid (below_on HB1.out bu); have HR1 := Lib.hid (HR1.out.on bu); have HO1 := Lib.hid (HO1.out.on bu); have HZ1 := Lib.hid pz; clear bu pz; refine (hO.out _ _ _ _ _ (by exact HO1.out) (by exact HB1.out)).mono ?_; rintro e v2 ⟨A2, c2, B2, d2, rfl, oo, bb⟩; have sv2 := bb.size; have HB2 := Lib.hid (below_on HB1.out bb); have HR2 := Lib.hid (HR1.out.on bb); have HO2 := Lib.hid oo; have HZ2 := Lib.hid (HZ1.out.on bb); have f0 := HZ2.out.fz 0; have f1 := HZ2.out.fz 1; have f2 := HZ2.out.fz 2; have y0 := HZ2.out.c0; have y1 := HZ2.out.c1; have y2 := HZ2.out.c2; clear oo bb)
        | (go_at_call 195; refine (hO.out _ _ _ _ _ (by exact HO1.out) (by exact HB1.out)).mono ?_; rintro e v2 ⟨A2, c2, B2, d2, rfl, oo, bb⟩; have sv2 := bb.size; have HB2 := Lib.hid (below_on HB1.out bb); have HR2 := Lib.hid (HR1.out.on bb); have HO2 := Lib.hid oo; (try (have HZ2 := Lib.hid (HZ1.out.on bb); have f0 := HZ2.out.fz 0; have f1 := HZ2.out.fz 1; have f2 := HZ2.out.fz 2; have y0 := HZ2.out.c0; have y1 := HZ2.out.c1; have y2 := HZ2.out.c2)); clear oo bb))
    all_goals
      go_wp2_with fail
      go_meet
    all_goals first | exact ⟨_, _, _, _, _, rfl, rfl, below_on HB2.out (below1 _ _), HO2.out.on (below1 _ _), RatAt.new _ _ _ _ _ _ _ _ _⟩ | exact ⟨_, _, _, _, _, rfl, rfl, HB2.out.trans (grown_below (setAll_grown _ _ _ _ _) (by omega) (by omega)), ⟨HO2.out.1.past HZ2.out (setAll_grown _ _ _ _ _), HO2.out.2.past HZ2.out (setAll_grown _ _ _ _ _)⟩, HZ2.out.setAll _ _ _ _ _ _ _⟩
  obtain ⟨zb, As, cs, Bs, ds, rfl, rfl, pB, pW, pV⟩ := hcut
  have a0 := pV.c0
  have a1 := pV.c1
  have a2 := pV.c2
  have HB := Lib.hid pB
  have HW := Lib.hid pW
  clear pB pW pV
  go_wp2
  exact bodyPost_ret (results_tmp2 rfl _ _ _) rfl ⟨As, cs, Bs, ds, rfl, HW.out, HB.out⟩
end Go.Proofs.YtifepoefeamboaaGreatDoor
