/-
  Which tapes are right: TapeOK of the program.
-/
import Derived.Test.YtcepjcnpokpdcaaGreatDoorNewSteps
import Derived.Test.YtcepjcnpokpdcaaGreatDoorSpecTape
import Derived.Test.YtcepjcnpokpdcaaGreatDoorTapeCopy
namespace Nt
open Go Go.RowKit
theorem not_all {ns : List Nd} {o : Int} (h : ¬ AllSt ns ns.length) : okTp ns o = false := by
  cases e : okTp ns o with
  | false => rfl
  | true => exact absurd (okTp_out e).2.2.2.1 h
/-- the last step's place -/
def lastE (xs : List (Nat × Nd)) : Int := match xs.getLast? with
  | some x => (x.1 : Int)
  | none => 0
theorem lastE_snoc (xs : List (Nat × Nd)) (x : Nat × Nd) : lastE (xs ++ [x]) = (x.1 : Int) := by simp [lastE]
theorem lastE_steps {ss : List Nd} (h : 1 ≤ ss.length) : lastE (stepsE ss) = (ss.length : Int) - 1 := by
  obtain ⟨k, hk⟩ : ∃ k, ss.length = k + 1 := ⟨ss.length - 1, by omega⟩
  unfold lastE stepsE
  rw [hk, List.range_succ, List.map_append]
  simp
theorem okTp_last {ns : List Nd} (h1 : 1 ≤ ns.length) (h60 : ns.length ≤ 60) (ha : AllSt ns ns.length) : okTp ns ((ns.length : Int) - 1) = decide (lastE (stepsE (comp ns).1) = (ns.length : Int) - 1) := by
  have ok := (comp_ok ns ns.length (Nat.le_refl _)).some_ h1
  have hc := comp_all ha
  rw [List.take_length] at ok
  rw [lastE_steps ok]
  by_cases hl : Lone ns ns.length
  · rw [okTp_yes h1 h60 rfl ha hl]
    have := hc.2 hl
    symm
    rw [decide_eq_true_eq]
    omega
  · have hn : (comp ns).1.length ≠ ns.length := fun e => hl (hc.1 e)
    have e2 : okTp ns ((ns.length : Int) - 1) = false := by
      cases e : okTp ns ((ns.length : Int) - 1) with
      | false => rfl
      | true => exact absurd (okTp_out e).2.2.2.2 hl
    rw [e2]
    symm
    rw [decide_eq_false_iff_not]
    omega
theorem grownBy_below {W W' : World} {N D : Nat} (h : W.grownBy W' (some D)) (hD : N ≤ D ∧ N ≤ W.heap.size) : Below N W W' := ⟨h.os, h.tape, h.output, h.size, fun i hi => h.block i (by omega) (fun e => by injection e with e; omega)⟩
theorem KpS.refl (tI n₀ n₁ : Nat) (W : World) : KpS tI n₀ n₁ W W := ⟨Nat.le_refl _, fun _ _ => rfl, fun _ _ _ h _ => h⟩
end Nt
namespace Go.Proofs.YtcepjcnpokpdcaaGreatDoor
open Go Go.RowKit Nt Go.Shelf
attribute [local go_sem] Oper.semAt_some

theorem newSteps_in (n : Nat) (A : Option Addr) (m c : Nat) (w : World) :
    CallsIn Fence.wide n Tryz.prog 148 #[.slice A m c] w fun e w' => e = .returned (.func (.func 172) #[] #[.pointer (some ⟨w.heap.size, 0, none⟩)]) ∧ w' = w.alloc (.cells #[.slice A m c] 23) := by
  refine callsIn_of_wp Tryz.func148 rfl trivial ?_ rfl
  simp only [Tryz.ntmps148, List.size_toArray, List.length_cons, List.length_nil, Nat.reduceAdd, Nat.reduceSub, Array.replicate_succ, Array.replicate_zero, List.push_toArray, List.append_toArray, List.nil_append, List.cons_append]
  gi_wp2
  go_ret
  exact ⟨rfl, rfl⟩

set_option maxRecDepth 100000 in
set_option maxHeartbeats 8000000 in
theorem implTapeOK_any (A : Option Addr) (n c : Nat) (ns : List Nd) (ot : Int) (P : Nat → Prop) (w : World) (hr : RdN w P A n c ns) (hn : n ≤ 1048576) :
    Calls Tryz.prog 114 #[.agg #[.slice A n c, .int .i64 ot]] w fun e w' => e = .returned (.bool (okTp ns ot)) ∧ Below w.heap.size w w' := by
  have HL := Lib.hid hr.len
  have HR := Lib.hid hr.low
  have HB0 := Lib.hid (below_one w (.cells #[.slice A n c, .int .i64 ot] 63))
  have HT0 := Lib.hid (TpAt.new w 63 A n c ot)
  clear hr
  by_cases h0 : n < 1
  · have HV : Hid (okTp ns ot = false) := by have := HL.out; exact okTp_len (by omega)
    have d0 : decide ((n : Int) < 1) = true := by simp; omega
    go_enter Tryz.func114, Tryz.ntmps114
    go_wp2
    go_ret
    exact ⟨ret_bool HV.out.symm, HB0.out⟩
  have d0 : decide ((n : Int) < 1) = false := by simp; omega
  by_cases h60 : 60 < n
  · have HV : Hid (okTp ns ot = false) := by have := HL.out; exact okTp_len (by omega)
    have d6 : decide ((60 : Int) < n) = true := by simp; omega
    go_enter Tryz.func114, Tryz.ntmps114
    go_wp2
    go_ret
    exact ⟨ret_bool HV.out.symm, HB0.out⟩
  have d6 : decide ((60 : Int) < n) = false := by simp; omega
  have hwr : IntKind.i64.wrap ((n : Int) - 1) = (n : Int) - 1 := IntWalk.i64_in _ (by omega)
  by_cases ho : ¬ ot = (n : Int) - 1
  · have HV : Hid (okTp ns ot = false) := by have := HL.out; exact okTp_len (by omega)
    have e1 : (ot != (n : Int) - 1) = true := by simpa using ho
    have e2 : (ot != IntKind.i64.wrap ((n : Int) - 1)) = true := by rw [hwr]; exact e1
    go_enter Tryz.func114, Tryz.ntmps114
    go_wp2
    go_ret
    exact ⟨ret_bool HV.out.symm, HB0.out⟩
  obtain rfl := Classical.not_not.1 ho
  clear ho
  have e1 : (((n : Int) - 1) != (n : Int) - 1) = false := by simp
  have e2 : (((n : Int) - 1) != IntKind.i64.wrap ((n : Int) - 1)) = false := by rw [hwr]; exact e1
  obtain ⟨b, o, rfl, _, hP, hc⟩ := HR.out.at_ (by omega)
  have HC := Lib.hid hc
  clear hc
  by_cases hall : ¬ AllSt ns n
  · have HV : Hid (okTp ns ((n : Int) - 1) = false) := not_all (by rw [HL.out]; exact hall)
    have HNA := Lib.hid hall
    clear hall
    go_enter Tryz.func114, Tryz.ntmps114
    go_wp2
    go_loopw [29] (fun i wr => ∃ k : Nat, k ≤ n ∧ i = .int .i64 k ∧ Hid (AllSt ns k) ∧ Hid (Below w.heap.size w wr)) (fun i _ => n - (intOf i).toNat)
    case atStart => exact ⟨0, Nat.zero_le _, rfl, Lib.hid (fun i hi => by omega), HB0⟩
    case round =>
      obtain ⟨k, hk, rfl, HK, HB⟩ := hrel
      by_cases hlt : k < n
      · have e4 := (HC.out k hlt).keep (HB.out.block b hP)
        have HYES : Hid (stepN (ns.getD k nd0) k = true → AllSt ns (k + 1)) := fun h => allSt_more HK.out h
        obtain ⟨x, hx⟩ : ∃ x, ns.getD k nd0 = x := ⟨_, rfl⟩
        rw [hx] at e4 HYES
        clear hx
        obtain ⟨op, xa, xb, xn⟩ := x
        obtain ⟨q0, q1, q2, q3⟩ := e4
        dsimp only at q0 q1 q2 q3
        have hkn : (k : Int) < n := by omega
        have HN := Lib.hid (NodeAt.new wr 127 op xa xb xn)
        have HB1 := Lib.hid (belowN_on HB.out (below_one wr (.cells #[.int .i64 op, .int .i64 xa, .int .i64 xb, .int .i64 xn] 127)))
        go_wp2_with (go_at_call 125; refine (implFits_any op xa xb xn _).mono ?_; rintro e w1 ⟨rfl, bb⟩; have hN1 := HN.out.on bb; have c0 := hN1.c0; have c1 := hN1.c1; have c2 := hN1.c2; have c3 := hN1.c3; have HB2 := Lib.hid (belowN_on HB1.out bb); clear bb hN1 q0 q1 q2 q3; cases hf : fitN (op, xa, xb, xn))
        · go_ret
          exact ⟨ret_bool HV.out.symm, HB2.out⟩
        · refine (isBehind_any op xa xb xn k w1).mono ?_
          rintro e w2 ⟨rfl, bb⟩
          have HB3 := Lib.hid (belowN_on HB2.out bb)
          clear bb c0 c1 c2 c3
          cases hbh : behind (op, xa, xb, xn) k with
          | false =>
            clear hbh hf
            go_wp2
            go_ret
            exact ⟨ret_bool HV.out.symm, HB3.out⟩
          | true =>
            have HA := Lib.hid (HYES.out (by show (fitN (op, xa, xb, xn) && behind (op, xa, xb, xn) k) = true; rw [hf, hbh]; rfl))
            clear hbh hf
            go_wp2
            go_roundw
            case rel => exact ⟨k + 1, by omega, by go_num, HA, HB3⟩
            case measure => simp [intOf]; omega
      · obtain rfl : k = n := by omega
        exact absurd HK.out HNA.out
  have HALL := Lib.hid (Classical.not_not.1 hall)
  clear hall
  refine (callsIn_wide (n := 9)).1 ?_
  refine callsIn_of_wp_marks Tryz.func114 rfl trivial ?_ rfl
  simp only [Tryz.ntmps114, List.size_toArray, List.length_cons, List.length_nil, Nat.reduceAdd, Nat.reduceSub, Array.replicate_succ, Array.replicate_zero, List.push_toArray, List.append_toArray, List.nil_append, List.cons_append]
  gi_wp2
  gi_loopw [29] (fun i wr => ∃ k : Nat, k ≤ n ∧ i = .int .i64 k ∧ Hid (Below w.heap.size w wr) ∧ Hid (TpAt wr w.heap.size 63 (some ⟨b, o, none⟩) n c ((n : Int) - 1))) (fun i _ => n - (intOf i).toNat)
  case atStart => exact ⟨0, Nat.zero_le _, rfl, HB0, HT0⟩
  case round =>
    obtain ⟨k, hk, rfl, HB, HT⟩ := hrel
    by_cases hlt : k < n
    · have e4 := (HC.out k hlt).keep (HB.out.block b hP)
      have hst := HALL.out k hlt
      obtain ⟨x, hx⟩ : ∃ x, ns.getD k nd0 = x := ⟨_, rfl⟩
      rw [hx] at e4 hst
      clear hx
      obtain ⟨op, xa, xb, xn⟩ := x
      unfold stepN at hst
      rw [Bool.and_eq_true] at hst
      obtain ⟨hf, hbh⟩ := hst
      obtain ⟨q0, q1, q2, q3⟩ := e4
      dsimp only at q0 q1 q2 q3
      have hkn : (k : Int) < n := by omega
      have HN := Lib.hid (NodeAt.new wr 127 op xa xb xn)
      have HB1 := Lib.hid (belowN_on HB.out (below_one wr (.cells #[.int .i64 op, .int .i64 xa, .int .i64 xb, .int .i64 xn] 127)))
      have HT1 := Lib.hid (HT.out.on (below_one wr (.cells #[.int .i64 op, .int .i64 xa, .int .i64 xb, .int .i64 xn] 127)))
      gi_wp2_with (first
        | (refine ⟨trivial, ?_⟩; gi_at_call 125; refine (callsIn_wide.2 (implFits_any op xa xb xn _)).mono ?_; rintro e w1 ⟨rfl, bb⟩; have hN1 := HN.out.on bb; have c0 := hN1.c0; have c1 := hN1.c1; have c2 := hN1.c2; have c3 := hN1.c3; have HB2 := Lib.hid (belowN_on HB1.out bb); have HT2 := Lib.hid (HT1.out.on bb); clear bb hN1 q0 q1 q2 q3; rw [hf])
        | (refine ⟨trivial, ?_⟩; gi_at_call 147; refine (callsIn_wide.2 (isBehind_any op xa xb xn _ _)).mono ?_; rintro e w2 ⟨rfl, bb⟩; have HB3 := Lib.hid (belowN_on HB2.out bb); have HT3 := Lib.hid (HT2.out.on bb); clear bb c0 c1 c2 c3; rw [hbh]))
      go_roundw
      case rel => exact ⟨k + 1, by omega, by go_num, HB3, HT3⟩
      case measure => simp [intOf]; omega
    · obtain rfl : k = n := by omega
      have c0 := (HT.out.on (below_one wr (.cells #[.int .i64 0] 3))).c0
      gi_wp2_with (refine ⟨trivial, ?_⟩; gi_at_call 148; refine (newSteps_in _ _ _ _ _).mono ?_; rintro e w1 ⟨rfl, rfl⟩)
      have hT5 : Boxed ((wr.alloc (.cells #[.int .i64 0] 3)).alloc (.cells #[.slice (some ⟨b, o, none⟩) k c] 23)) wr.heap.size 3 (.int .i64 0) := (Boxed.new wr _ _).alloc _
      have hBx : Boxed ((wr.alloc (.cells #[.int .i64 0] 3)).alloc (.cells #[.slice (some ⟨b, o, none⟩) k c] 23)) (wr.heap.size + 1) 23 (.slice (some ⟨b, o, none⟩) k c) := by
        have h := Boxed.new (wr.alloc (.cells #[.int .i64 0] 3)) 23 (.slice (some ⟨b, o, none⟩) k c)
        rwa [World.size_alloc] at h
      have hTp : TpAt ((wr.alloc (.cells #[.int .i64 0] 3)).alloc (.cells #[.slice (some ⟨b, o, none⟩) k c] 23)) w.heap.size 63 (some ⟨b, o, none⟩) k c ((k : Int) - 1) := (HT.out.on (below_one _ _)).on (below_one _ _)
      have hBW : Below w.heap.size w ((wr.alloc (.cells #[.int .i64 0] 3)).alloc (.cells #[.slice (some ⟨b, o, none⟩) k c] 23)) := (HB.out.alloc HB.out.size _).alloc (by have := HB.out.size; simp; omega) _
      have hs0 : ((wr.alloc (.cells #[.int .i64 0] 3)).alloc (.cells #[.slice (some ⟨b, o, none⟩) k c] 23)).heap.size = wr.heap.size + 2 := by simp
      have hws : w.heap.size < wr.heap.size := HT.out.lt
      obtain ⟨W0, hW0⟩ : ∃ W0, (wr.alloc (.cells #[.int .i64 0] 3)).alloc (.cells #[.slice (some ⟨b, o, none⟩) k c] 23) = W0 := ⟨_, rfl⟩
      rw [hW0] at hT5 hBx hTp hBW hs0 ⊢
      clear hW0 c0
      refine range_own (stepObj 3) rfl (by omega) (gf := 172) (lb := #[.pointer (some ⟨wr.heap.size + 1, 0, none⟩)]) rfl trivial (enters_of Tryz.func172 (by kernel_rfl) rfl)
        (encs := fun x : Nat × Nd => #[.int .i64 (x.1 : Int), ndV x.2]) (Kp := KpS 3 w.heap.size W0.heap.size) (S := fun xs => xs = stepsE (comp ns).1) (N := k) (w0 := W0)
        (fun l J W hW hJ hY h0 => newSteps1_in _ (by omega) l (wr.heap.size + 1) w.heap.size W0.heap.size (some ⟨b, o, none⟩) k c ns (by omega) HALL.out J W hJ ((hW.block _ hBx.lt).trans hBx) (HR.out.below (hBW.trans (hW.mono (by omega)))) (by have := hW.size; omega) hW.size hY h0)
        KpS.trans (fun W l r r' hl h => KpS.put (by omega) h) (Below.refl _ _) (fun _ => rfl)
        (fun pre W => Boxed W wr.heap.size 3 (.int .i64 (lastE pre)) ∧ TpAt W w.heap.size 63 (some ⟨b, o, none⟩) k c ((k : Int) - 1) ∧ Below w.heap.size w W ∧ W0.heap.size ≤ W.heap.size)
        (fun s W W' row hs hg hr => ⟨hs.1.kept hg (fun e => by have := (hr _ e.symm).1; omega), (hg.block _ hs.2.1.lt (fun e => by have := (hr _ e.symm).1; omega)).trans hs.2.1, hs.2.2.1.trans ⟨hg.os, hg.tape, hg.output, hg.size, fun i hi => hg.block i (by have := hs.2.2.2; omega) (fun e => by have := (hr _ e.symm).1; omega)⟩, Nat.le_trans hs.2.2.2 hg.size⟩)
        ⟨hT5, hTp, hBW, Nat.le_refl _⟩
        (fun x a' _ => a' = { tmps := #[.agg #[.slice (some ⟨b, o, none⟩) k c, .int .i64 ((k : Int) - 1)], .pointer (some ⟨w.heap.size, 0, none⟩), u2, u3, u4, .pointer (some ⟨wr.heap.size, 0, none⟩), .int .i64 (x.1 : Int), .pointer (some ⟨w.heap.size, 0, none⟩), .slice (some ⟨b, o, none⟩) k c, .int .i64 (k : Int), .bool false, .bool false, .pointer (some ⟨w.heap.size, 0, none⟩), .slice (some ⟨b, o, none⟩) k c, .int .i64 (k : Int), .bool false, .bool false, .bool false, .pointer (some ⟨w.heap.size, 1, none⟩), .int .i64 ((k : Int) - 1), .pointer (some ⟨w.heap.size, 0, none⟩), .slice (some ⟨b, o, none⟩) k c, .int .i64 (k : Int), .int .i64 ((k : Int) - 1), .bool false, .bool false, .pointer (some ⟨w.heap.size, 0, none⟩), .slice (some ⟨b, o, none⟩) k c, .int .i64 (k : Int), .int .i64 (k : Int), .bool false, u31, u32, u33, u34, u35, u36, u37, u38, u39, u40, u41, u42, u43, .pointer (some ⟨w.heap.size, 0, none⟩), .slice (some ⟨b, o, none⟩) k c, .func (.func 172) #[] #[.pointer (some ⟨wr.heap.size + 1, 0, none⟩)], .int .i64 (x.1 : Int), ndV x.2, undef, undef, undef, undef, undef], defers := [] })
        (fun x a' _ _ _ _ hs _ _ => hs)
        ?assign ?body ?done
      case assign =>
        rintro l pre x W K hI hK
        gi_wp2
        exact hK _ _ (KeepsFrom.refl _ _) (KpS.refl _ _ _ _) hI rfl
      case body =>
        rintro l pre x a' W ⟨h1, h2, h3, h4⟩ rfl hlen
        have c0 := h1.cell
        have f0 := h1.frozen
        gi_wp2
        have hk := grownBy_setCell' W wr.heap.size (.int .i64 (x.1 : Int))
        refine ⟨KeepsFrom.of_grownBy hk (fun j e => by cases e; omega), ⟨hk.size, fun b' hb' => hk.block b' (by omega) (fun e => by injection e with e; omega), fun b' o' hb' ho' _ => (hk.block b' ((Array.getElem?_eq_some_iff.1 ho').1) (fun e => by injection e with e; omega)).trans ho'⟩, ?_, (hk.block _ h2.lt (fun e => by injection e with e; omega)).trans h2, h3.trans ⟨hk.os, hk.tape, hk.output, hk.size, fun i hi => hk.block i (by omega) (fun e => by injection e with e; omega)⟩, Nat.le_trans h4 hk.size⟩
        rw [lastE_snoc]
        exact h1.set _
      case done =>
        rintro D xs W hD rfl ⟨h1, h2, h3, h4⟩ hK
        have hval : okTp ns ((k : Int) - 1) = decide (lastE (stepsE (comp ns).1) = (k : Int) - 1) := by
          have e := HL.out
          rw [← e]
          exact okTp_last (by omega) (by omega) (by rw [e]; exact HALL.out)
        have c0 := h1.cell
        have c1 := h2.c1
        obtain ⟨z, hz⟩ : ∃ z, lastE (stepsE (comp ns).1) = z := ⟨_, rfl⟩
        rw [hz] at c0 hval
        have HVL : Hid (okTp ns ((k : Int) - 1) = (z == (k : Int) - 1)) := hval.trans rfl
        clear hval hz
        gi_wp2
        refine ⟨by simp, .inl ⟨_, _, rfl, run_takeDeferred hK, ?_⟩⟩
        refine ⟨.bool (z == (k : Int) - 1), ?_, ret_bool HVL.out.symm, h3.trans (grownBy_below (grownBy_putObj' W D _) (by omega))⟩
        simp [results, Tryz.f114, go_sem]
end Go.Proofs.YtcepjcnpokpdcaaGreatDoor
