/-
  How deep an expression is: DepthOf of the program and of the model.
-/
import Derived.Test.YtgeijojkfojfbaaExprDim
namespace Nt
open Go Go.RowKit
theorem deepE_of {ns : List Nd} {ts : List Tr} (h : trees ns = some ts) : deepE ns = (ts.getD (ns.length - 1) tr0).2 := by unfold deepE; rw [h]
end Nt
namespace Go.Proofs.Ytgeijojkfojfbaa
open Go Go.RowKit Nt

set_option maxRecDepth 20000 in
set_option maxHeartbeats 3200000 in
theorem l05Depth_any (A : Option Addr) (n c : Nat) (ns : List Nd) (ts : List Tr) (hT : Tied ns ts) (hNe : Nest ts) (hl : ts.length ≤ n) (hn : n ≤ 60) : ∀ (k : Nat), k < ts.length → ∀ (P : Nat → Prop) (w : World), RdN w P A n c ns →
    Calls Try.prog 70 #[.agg #[.slice A n c], .int .i64 (k : Int)] w fun e w' => e = .returned (.int .i64 (ts.getD k tr0).2) ∧ Below w.heap.size w w' := by
  intro k
  induction k using Nat.strongRecOn with
  | _ k ih =>
    intro hk P w hr
    obtain ⟨b, o, rfl, _, hP, hc⟩ := hr.at_ (by omega)
    obtain ⟨q0, q1, q2, q3⟩ := hc k (by omega)
    have HR := Lib.hid hr.low
    have HT := hT k hk
    have hbk := (hNe k hk).1
    have HIH : Hid (∀ (j : Nat), j < k → ∀ w', RdN w' (· < w.heap.size) (some ⟨b, o, none⟩) n c ns → Calls Try.prog 70 #[.agg #[.slice (some ⟨b, o, none⟩) n c], .int .i64 (j : Int)] w' fun e w'' => e = .returned (.int .i64 (ts.getD j tr0).2) ∧ Below w'.heap.size w' w'') := fun j hj w' h => ih j hj (by omega) _ w' h
    have hNB : ∀ j, j < k → 1 ≤ (ts.getD j tr0).2 ∧ (ts.getD j tr0).2 ≤ 60 := fun j hj => by
      have := (hNe j (by omega)).1
      omega
    have HNB := Lib.hid hNB
    obtain ⟨x, hx⟩ : ∃ x, ns.getD k nd0 = x := ⟨_, rfl⟩
    rw [hx] at q0 q1 q2 q3 HT
    clear hx ih hr hc hNB
    obtain ⟨op, xa, xb, xn⟩ := x
    dsimp only at q0 q1 q2 q3 HT
    have hkn : (k : Int) < n := by omega
    have HN0 : Hid (NodeAt ((w.alloc (.cells #[.slice (some ⟨b, o, none⟩) n c] 29)).alloc (.cells #[.int .i64 op, .int .i64 xa, .int .i64 xb, .int .i64 xn] 39)) (w.heap.size + 1) 39 op xa xb xn) := by
      have := NodeAt.new (w.alloc (.cells #[.slice (some ⟨b, o, none⟩) n c] 29)) 39 op xa xb xn
      rwa [World.size_alloc] at this
    have HS0 : Hid (SlAt ((w.alloc (.cells #[.slice (some ⟨b, o, none⟩) n c] 29)).alloc (.cells #[.int .i64 op, .int .i64 xa, .int .i64 xb, .int .i64 xn] 39)) w.heap.size 29 (some ⟨b, o, none⟩) n c) := (SlAt.new _ _ _ _ _).on (below_one _ _)
    have HB0 : Hid (Below w.heap.size w ((w.alloc (.cells #[.slice (some ⟨b, o, none⟩) n c] 29)).alloc (.cells #[.int .i64 op, .int .i64 xa, .int .i64 xb, .int .i64 xn] 39))) := ((Below.refl _ _).alloc (Nat.le_refl _) _).alloc (by simp) _
    go_enter Try.func70, Try.ntmps70
    go_wp2_with fail
    clear q0 q1 q2 q3
    refine calls_atN (fun v => NodeAt v (w.heap.size + 1) 39 op xa xb xn ∧ SlAt v w.heap.size 29 (some ⟨b, o, none⟩) n c ∧ Below w.heap.size w v) ⟨HN0.out, HS0.out, HB0.out⟩ ?_
    rintro v1 ⟨pN, pS, pB⟩
    have HN := Lib.hid pN
    have HS := Lib.hid pS
    have HB := Lib.hid pB
    clear pN pS pB HN0 HS0 HB0
    refine (specTwo_any op v1).mono ?_
    rintro e v2 ⟨rfl, rfl⟩
    cases h2 : two op with
    | true =>
      obtain ⟨a, b', rfl, rfl, hak, hbk', _, hd⟩ := HT.1 h2
      have HD : Hid ((ts.getD k tr0).2 = 1 + max (ts.getD a tr0).2 (ts.getD b' tr0).2) := hd
      have nA := HNB.out a hak
      have nB := HNB.out b' hbk'
      obtain ⟨dA, hdA⟩ : ∃ z, (ts.getD a tr0).2 = z := ⟨_, rfl⟩
      obtain ⟨dB, hdB⟩ : ∃ z, (ts.getD b' tr0).2 = z := ⟨_, rfl⟩
      rw [hdA] at nA HD
      rw [hdB] at nB HD
      have HdA := Lib.hid hdA
      have HdB := Lib.hid hdB
      obtain ⟨a1, a2⟩ := nA
      obtain ⟨b1, b2⟩ := nB
      obtain ⟨m, hm⟩ : ∃ m, max dA dB = m := ⟨_, rfl⟩
      have hmx : (if dA < dB then dB else dA) = m := by rw [← hm]; split <;> omega
      have hm1 : 1 ≤ m := by omega
      have hm2 : m ≤ 60 := by omega
      have hw1m : IntKind.i64.wrap (1 + m) = 1 + m := IntWalk.i64_in _ (by omega)
      have HV : Hid ((ts.getD k tr0).2 = 1 + m) := by rw [← hm]; exact HD.out
      obtain ⟨t0, t1, t2, t3⟩ := HN.out.four
      have s0 := HS.out.c0
      have HC := Lib.hid (show _ ∧ _ ∧ _ from ⟨t1, t2, s0⟩)
      clear hd hdA hdB hm HD HT
      go_wp2_with fail
      clear t0 t1 t2 t3 s0
      go_region_held3 (fun wx => wx.cell? ⟨w.heap.size + 1, 1, none⟩ = some (.int .i64 (a : Int)) ∧ wx.cell? ⟨w.heap.size + 1, 2, none⟩ = some (.int .i64 (b' : Int)) ∧ wx.cell? ⟨w.heap.size, 0, none⟩ = some (.slice (some ⟨b, o, none⟩) n c))
        (first | exact HC.out | exact HC1.out | exact HC2.out)
        (first
          | (go_at_call_of 70 a; refine (HIH.out a hak _ (by exact (HR.out.below HB.out).drew)).mono ?_; rintro e v3 ⟨rfl, bb⟩; have bb := undrewN bb; rw [HdA.out]; have HB1 := Lib.hid (belowN_on HB.out bb); have HN1 := Lib.hid (HN.out.on bb); have HS1 := Lib.hid (HS.out.on bb); have HC1 := Lib.hid (show _ ∧ _ ∧ _ from ⟨HN1.out.c1, HN1.out.c2, HS1.out.c0⟩); clear bb)
          | (go_at_call_of 70 b'; refine (HIH.out b' hbk' _ (by exact HR.out.below HB1.out)).mono ?_; rintro e v4 ⟨rfl, bb⟩; rw [HdB.out]; have HB2 := Lib.hid (belowN_on HB1.out bb); have HN2 := Lib.hid (HN1.out.on bb); have HS2 := Lib.hid (HS1.out.on bb); have HC2 := Lib.hid (show _ ∧ _ ∧ _ from ⟨HN2.out.c1, HN2.out.c2, HS2.out.c0⟩); clear bb)
          | (go_at_call_of 70 b'; refine (HIH.out b' hbk' _ (by exact (HR.out.below HB.out).drew)).mono ?_; rintro e v3 ⟨rfl, bb⟩; have bb := undrewN bb; rw [HdB.out]; have HB1 := Lib.hid (belowN_on HB.out bb); have HN1 := Lib.hid (HN.out.on bb); have HS1 := Lib.hid (HS.out.on bb); have HC1 := Lib.hid (show _ ∧ _ ∧ _ from ⟨HN1.out.c1, HN1.out.c2, HS1.out.c0⟩); clear bb)
          | (go_at_call_of 70 a; refine (HIH.out a hak _ (by exact HR.out.below HB1.out)).mono ?_; rintro e v4 ⟨rfl, bb⟩; rw [HdA.out]; have HB2 := Lib.hid (belowN_on HB1.out bb); have HN2 := Lib.hid (HN1.out.on bb); have HS2 := Lib.hid (HS1.out.on bb); have HC2 := Lib.hid (show _ ∧ _ ∧ _ from ⟨HN2.out.c1, HN2.out.c2, HS2.out.c0⟩); clear bb))
      all_goals
        go_wp2
        go_ret
        exact ⟨ret_int HV.out.symm, HB2.out⟩
    | false =>
      have t0 := HN.out.c0
      go_wp2_with fail
      clear t0
      refine (specOne_any op v1).mono ?_
      rintro e v2 ⟨rfl, rfl⟩
      cases h1 : one op with
      | true =>
        obtain ⟨a, rfl, hak, _, hd⟩ := HT.2.1 h2 h1
        have nA := HNB.out a hak
        obtain ⟨dA, hdA⟩ : ∃ z, (ts.getD a tr0).2 = z := ⟨_, rfl⟩
        rw [hdA] at nA hd
        have HdA := Lib.hid hdA
        have HV := Lib.hid hd
        obtain ⟨a1, a2⟩ := nA
        obtain ⟨t0, t1, t2, t3⟩ := HN.out.four
        have s0 := HS.out.c0
        clear hd hdA HT
        go_wp2_with fail
        clear t0 t1 t2 t3 s0
        refine (HIH.out a hak _ (HR.out.below HB.out)).mono ?_
        rintro e v3 ⟨rfl, bb⟩
        rw [HdA.out]
        have HB1 := Lib.hid (belowN_on HB.out bb)
        clear bb
        go_wp2
        go_ret
        exact ⟨ret_int HV.out.symm, HB1.out⟩
      | false =>
        have HV := Lib.hid (HT.2.2 h2 h1).2
        clear HT
        go_wp2
        go_ret
        exact ⟨ret_int HV.out.symm, HB.out⟩

theorem specDepthOf_any (A : Option Addr) (n c : Nat) (ns : List Nd) (P : Nat → Prop) (w : World) (hr : RdN w P A n c ns) (hn : n ≤ 1048576) :
    Calls Try.prog 18 #[.agg #[.slice A n c]] w fun e w' => e = .returned (.tuple #[.int .i64 (depA ns), .int .i64 (codE ns)]) ∧ Below w.heap.size w w' := by
  have HL := Lib.hid hr.len
  have HR := Lib.hid hr.low
  have HB0 := Lib.hid (below_one w (.cells #[.slice A n c] 29))
  clear hr
  go_enter Try.func18, Try.ntmps18
  go_wp2_with fail
  refine calls_atN (fun v => SlAt v w.heap.size 29 A n c ∧ Below w.heap.size w v) ⟨SlAt.new _ _ _ _ _, HB0.out⟩ ?_
  rintro v1 ⟨pS, pB⟩
  refine (specExprOK_any A n c ns _ v1 (HR.out.below pB) hn).mono ?_
  rintro e v2 ⟨rfl, bb⟩
  have HS := Lib.hid (pS.on bb)
  have HB := Lib.hid (belowN_on pB bb)
  clear pS pB bb HB0
  cases hok : okE ns with
  | false =>
    have H1 : Hid (depA ns = 0) := by show _ = _; unfold depA; rw [hok]; rfl
    have H2 : Hid (codE ns = 1) := by show _ = _; unfold codE; rw [hok]; rfl
    clear hok
    go_wp2
    go_ret2
    exact ⟨by rw [H1.out, H2.out]; rfl, HB.out⟩
  | true =>
    have H2 : Hid (codE ns = 0) := by show _ = _; unfold codE; rw [hok]; rfl
    obtain ⟨q1, q2, q3, ts, ht, hN, hT, hl, _, _⟩ := okE_out hok
    have e := HL.out
    have H1 : Hid (depA ns = (ts.getD (n - 1) tr0).2) := by show _ = _; unfold depA; rw [hok, if_pos rfl, deepE_of ht, e]
    have s0 := HS.out.c0
    have h1 : 1 ≤ n := by omega
    have h60 : n ≤ 60 := by omega
    have hk1 : IntKind.i64.wrap ((n : Int) - 1) = ((n - 1 : Nat) : Int) := by rw [IntWalk.i64_in _ (by omega)]; omega
    have HX := Lib.hid (l05Depth_any A n c ns ts hT hN (by omega) h60 (n - 1) (by omega))
    clear hok q1 q2 q3 e ht hN hT hl
    go_wp2_with fail
    clear s0
    refine (HX.out _ v2 (HR.out.below HB.out)).mono ?_
    rintro e v3 ⟨rfl, bb⟩
    have HB3 := Lib.hid (belowN_on HB.out bb)
    clear bb hk1
    generalize (ts.getD (n - 1) tr0).2 = z at *
    go_wp2
    go_ret2
    exact ⟨by rw [H1.out, H2.out]; rfl, HB3.out⟩

theorem depth_any (A : Option Addr) (n c : Nat) (ns : List Nd) (w : World) (hr : RdN w (· < w.heap.size) A n c ns) (h1 : 1 ≤ n) (hn : n ≤ 60) (hs : (trees ns).isSome = true) :
    Calls Try.prog 71 #[.slice A n c] w fun e w' => e = .returned (.int .i64 (deepE ns)) ∧ Below w.heap.size w w' := by
  have HL := Lib.hid hr.len
  have HR := Lib.hid hr
  have HS := Lib.hid hs
  clear hr hs
  go_enter Try.func71, Try.ntmps71
  go_wp2_with fail
  refine (treesOf_any A n c ns w HR.out h1 hn).mono ?_
  rintro e v3 ⟨bb, hT⟩
  have HB := Lib.hid bb
  clear bb
  rcases hT with ⟨hno, rfl⟩ | ⟨ts, V, d, hts, rfl, hrd⟩
  · exfalso
    have := HS.out
    rw [hno] at this
    cases this
  · obtain ⟨g, rfl, hg, hc⟩ := hrd
    obtain ⟨y0, y1⟩ := hc (n - 1) (by omega)
    have HV : Hid (deepE ns = (ts.getD (n - 1) tr0).2) := by show _ = _; rw [deepE_of hts, HL.out]
    obtain ⟨Dp, hD⟩ : ∃ D, (ts.getD (n - 1) tr0).2 = D := ⟨_, rfl⟩
    rw [hD] at HV y1
    have hk1 : IntKind.i64.wrap ((n : Int) - 1) = ((n - 1 : Nat) : Int) := by rw [IntWalk.i64_in _ (by omega)]; omega
    have hn1 : ((n - 1 : Nat) : Int) < n := by omega
    clear hD hc hts y0
    generalize n - 1 = m at *
    go_wp2
    go_ret
    exact ⟨ret_int HV.out.symm, HB.out⟩

theorem implDepthOf_any (A : Option Addr) (n c : Nat) (ns : List Nd) (P : Nat → Prop) (w : World) (hr : RdN w P A n c ns) (hn : n ≤ 1048576) :
    Calls Try.prog 19 #[.agg #[.slice A n c]] w fun e w' => e = .returned (.tuple #[.int .i64 (depA ns), .int .i64 (codE ns)]) ∧ Below w.heap.size w w' := by
  have HL := Lib.hid hr.len
  have HR := Lib.hid hr.low
  have HB0 := Lib.hid (below_one w (.cells #[.slice A n c] 29))
  clear hr
  go_enter Try.func19, Try.ntmps19
  go_wp2_with fail
  refine calls_atN (fun v => SlAt v w.heap.size 29 A n c ∧ Below w.heap.size w v) ⟨SlAt.new _ _ _ _ _, HB0.out⟩ ?_
  rintro v1 ⟨pS, pB⟩
  refine (implExprOK_any A n c ns _ v1 (HR.out.below pB) hn).mono ?_
  rintro e v2 ⟨rfl, bb⟩
  have HS := Lib.hid (pS.on bb)
  have HB := Lib.hid (belowN_on pB bb)
  clear pS pB bb HB0
  cases hok : okE ns with
  | false =>
    have H1 : Hid (depA ns = 0) := by show _ = _; unfold depA; rw [hok]; rfl
    have H2 : Hid (codE ns = 1) := by show _ = _; unfold codE; rw [hok]; rfl
    clear hok
    go_wp2
    go_ret2
    exact ⟨by rw [H1.out, H2.out]; rfl, HB.out⟩
  | true =>
    have H2 : Hid (codE ns = 0) := by show _ = _; unfold codE; rw [hok]; rfl
    have H1 : Hid (depA ns = deepE ns) := by show _ = _; unfold depA; rw [hok]; rfl
    obtain ⟨q1, q2, q3, ts, ht, _⟩ := okE_out hok
    have e := HL.out
    have s0 := HS.out.c0
    have h1 : 1 ≤ n := by omega
    have h60 : n ≤ 60 := by omega
    have HX := Lib.hid (show (trees ns).isSome = true by rw [ht]; rfl)
    clear hok q1 q2 q3 e ht
    go_wp2_with fail
    clear s0
    refine (depth_any A n c ns v2 ((HR.out.below HB.out).mono fun _ h _ => Nat.lt_of_lt_of_le h HB.out.size) h1 h60 HX.out).mono ?_
    rintro e v3 ⟨rfl, bb⟩
    have HB3 := Lib.hid (belowN_on HB.out bb)
    clear bb
    go_wp2
    go_ret2
    exact ⟨by rw [H1.out, H2.out]; rfl, HB3.out⟩
end Go.Proofs.Ytgeijojkfojfbaa
