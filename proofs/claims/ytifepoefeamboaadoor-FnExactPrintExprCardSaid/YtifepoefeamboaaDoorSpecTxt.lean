/-
  The text of an expression: of the model.
-/
import Derived.Test.YtifepoefeamboaaDoorExprTxt
import Derived.Deep.RegionWith
namespace Go.Proofs.YtifepoefeamboaaDoor
open Go Go.RowKit Nt

set_option maxHeartbeats 1600000 in
theorem inner_any (A : Option Addr) (n c : Nat) (ns : List Nd) (w0 : World) (hr : RdN w0 (· < w0.heap.size) A n c ns) (hn : n ≤ 60) (i : Nat) (hi : i < n) (hlen : (pr ns i).length ≤ 5000000000000)
    (hX : ∀ W : World, Below w0.heap.size w0 W → Calls Tryd.prog 35 #[.agg #[.slice A n c], .int .i64 (i : Int)] W fun e w' => e = .returned (.string ⟨(pr ns i).toArray⟩) ∧ Below W.heap.size W w')
    (w : World) (hw : Below w0.heap.size w0 w) :
    Calls Tryd.prog 55 #[.agg #[.slice A n c], .int .i64 (i : Int)] w fun e w' => e = .returned (.string ⟨(partP ns (pr ns i) i true).toArray⟩) ∧ Below w.heap.size w w' := by
  have HX := Lib.hid hX
  have HW := Lib.hid hw
  obtain ⟨b, o, rfl, hP, _, hc⟩ := hr.at_ (by omega)
  have e4 := (hc i hi).keep (hw.block b hP)
  have hbl : b < w.heap.size := Nat.lt_of_lt_of_le hP hw.size
  have HBX := Lib.hid (below_one w (.cells #[.slice (some ⟨b, o, none⟩) n c] 46))
  have HSX := Lib.hid (SlAt.new w 46 (some ⟨b, o, none⟩) n c)
  have hin : (i : Int) < n := by omega
  have HPP : Hid (partP ns (pr ns i) i true = if two (ns.getD i nd0).1 || (!true && one (ns.getD i nd0).1) then brk (pr ns i) else pr ns i) := rfl
  obtain ⟨x, hx⟩ : ∃ x, ns.getD i nd0 = x := ⟨_, rfl⟩
  rw [hx] at e4 HPP
  obtain ⟨op, xa, xb, xn⟩ := x
  obtain ⟨q0, q1, q2, q3⟩ := e4
  dsimp only at q0 q1 q2 q3 HPP
  have s0 := HSX.out.c0
  obtain ⟨tx, htx⟩ : ∃ tx, pr ns i = tx := ⟨_, rfl⟩
  obtain ⟨pt, hpt⟩ : ∃ pt, partP ns (pr ns i) i true = pt := ⟨_, rfl⟩
  rw [hpt] at HPP
  rw [htx] at HX HPP hlen
  have HPT := Lib.hid hpt
  clear hc hx hX hr hw htx hpt q1 q2 q3
  cases hb : two op with
  | true =>
    have HPP' : Hid (pt = brk tx) := by show _ = _; rw [HPP.out, hb]; rfl
    have hs1 : ¬ 9223372036854775807 < 1 + tx.length := by omega
    have hs2 : ¬ 9223372036854775807 < 1 + tx.length + 1 := by omega
    have HST := Lib.hid (str3 [40] tx [41] ⟨#[40]⟩ ⟨#[41]⟩ rfl rfl)
    have HTW := Lib.hid hb
    clear hb HPP
    go_enter Tryd.func55, Tryd.ntmps55
    go_wp2_with (go_at_call 42; refine (specTwo_any op _).mono ?_; rintro e w1 ⟨rfl, rfl⟩; rw [HTW.out])
    refine (HX.out _ (HW.out.trans (HBX.out.mono HW.out.size))).mono ?_
    rintro e w2 ⟨rfl, b2⟩
    have HB2 := Lib.hid (belowN_on HBX.out b2)
    clear b2 s0 q0
    go_wp2
    go_ret
    exact ⟨ret_str' (by rw [HPT.out, HPP'.out]; exact HST.out), HB2.out⟩
  | false =>
    have HPP' : Hid (pt = tx) := by show _ = _; rw [HPP.out, hb]; rfl
    have HTW := Lib.hid hb
    clear hb HPP
    go_enter Tryd.func55, Tryd.ntmps55
    go_wp2_with (go_at_call 42; refine (specTwo_any op _).mono ?_; rintro e w1 ⟨rfl, rfl⟩; rw [HTW.out])
    refine (HX.out _ (HW.out.trans (HBX.out.mono HW.out.size))).mono ?_
    rintro e w2 ⟨rfl, b2⟩
    have HB2 := Lib.hid (belowN_on HBX.out b2)
    clear b2 s0 q0
    go_wp2
    go_ret
    exact ⟨ret_str' (by rw [HPT.out, HPP'.out]), HB2.out⟩
set_option maxRecDepth 20000 in
set_option maxHeartbeats 3200000 in
theorem l05Text_any (A : Option Addr) (n c : Nat) (ns : List Nd) (ts : List Tr) (w0 : World) (hr : RdN w0 (· < w0.heap.size) A n c ns) (hn : n ≤ 60) (hf : ∀ j, j < n → fitN (ns.getD j nd0) = true) (hT : Tied ns ts) (hl : ts.length = n) (hN : Nest ts)
    (hlast : ∀ (d i : Nat) (w : World), d < 12 → i < n → (ts.getD i tr0).2 ≤ d + 1 → two (ns.getD i nd0).1 = true → Below w0.heap.size w0 w →
      (∀ (j : Nat) (_ : j < n) (_ : (ts.getD j tr0).2 ≤ d) (W : World) (_ : Below w0.heap.size w0 W), Calls Tryd.prog 55 #[.agg #[.slice A n c], .int .i64 (j : Int)] W fun e w' => e = .returned (.string ⟨(partP ns (pr ns j) j true).toArray⟩) ∧ Below W.heap.size W w') →
      Calls Tryd.prog 35 #[.agg #[.slice A n c], .int .i64 (i : Int)] w fun e w' => e = .returned (.string ⟨(pr ns i).toArray⟩) ∧ Below w.heap.size w w') :
    ∀ (d i : Nat) (w : World), d ≤ 12 → i < n → (ts.getD i tr0).2 ≤ d → Below w0.heap.size w0 w → Calls Tryd.prog 35 #[.agg #[.slice A n c], .int .i64 (i : Int)] w fun e w' => e = .returned (.string ⟨(pr ns i).toArray⟩) ∧ Below w.heap.size w w' := by
  intro d
  induction d with
  | zero => intro i w _ hi hd _; have := (hN i (by omega)).1; omega
  | succ d ih =>
    intro i w hd12 hi hd hw
    have HLT := Lib.hid (hlast d i w (by omega) hi (by omega))
    clear hlast
    have hns : ns.length = n := hr.len
    have HPL := Lib.hid (fun (j : Nat) (hj : j < n) (hdj : (ts.getD j tr0).2 ≤ d) => Nat.le_trans (pr_len (ns := ns) (ts := ts) (fun k hk => hf k (by omega)) hT (by omega) hN d j (by omega) hdj) (lenB_12 (by omega)))
    have HPA := Lib.hid (fun (j : Nat) (hj : j < n) (hdj : (ts.getD j tr0).2 ≤ d) (W : World) (hW : Below w0.heap.size w0 W) => inner_any A n c ns w0 hr hn j hj (HPL.out j hj hdj) (fun V hV => ih j V (by omega) hj hdj hV) W hW)
    obtain ⟨t1, t2, t3⟩ := hT i (by omega)
    obtain ⟨f1, f2, f3, f4⟩ := fit_n (hf i hi)
    obtain ⟨b, o, rfl, hP, _, hc⟩ := hr.at_ (by omega)
    have e4 := (hc i hi).keep (hw.block b hP)
    have hbl : b < w.heap.size := Nat.lt_of_lt_of_le hP hw.size
    have hin : (i : Int) < n := by omega
    have HW := Lib.hid hw
    have hpc := @pr_const ns i
    have hpv := @pr_var ns i
    have hpn := @pr_neg ns i
    have hpp := @pr_pow ns i
    have hp2 := @pr_two ns i
    obtain ⟨x, hx⟩ : ∃ x, ns.getD i nd0 = x := ⟨_, rfl⟩
    have HOP := Lib.hid (congrArg (fun z : Nd => z.1) hx)
    rw [hx] at e4 t1 t2 t3 f1 f2 f3 f4 hpc hpv hpn hpp hp2
    obtain ⟨op, xa, xb, xn⟩ := x
    obtain ⟨q0, q1, q2, q3⟩ := e4
    dsimp only at q0 q1 q2 q3 t1 t2 t3 f1 f2 f3 f4 hpc hpv hpn hpp hp2
    have HB0 := Lib.hid (below_one w (.cells #[.slice (some ⟨b, o, none⟩) n c] 46))
    have HB1 : Hid (Below w.heap.size w ((w.alloc (.cells #[.slice (some ⟨b, o, none⟩) n c] 46)).alloc (.cells #[.int .i64 op, .int .i64 xa, .int .i64 xb, .int .i64 xn] 58))) := HB0.out.alloc HB0.out.size _
    have HW1 : Hid (Below w0.heap.size w0 ((w.alloc (.cells #[.slice (some ⟨b, o, none⟩) n c] 46)).alloc (.cells #[.int .i64 op, .int .i64 xa, .int .i64 xb, .int .i64 xn] 58))) := HW.out.trans (HB1.out.mono HW.out.size)
    have HLA := Lib.hid HPL.out
    have HCC := Lib.hid hc
    have HFT := Lib.hid hf
    clear hc hx hr hw ih hf hT hN HPL
    obtain ⟨m, rfl⟩ : ∃ m : Nat, xn = (m : Int) := ⟨xn.toNat, by omega⟩
    by_cases h1 : op = 1
    · subst h1
      have HV := Lib.hid (hpc rfl)
      have hm : (m : Int) ≤ 999999999 := f4
      have HTX := Lib.hid (fun (W : World) => l00Digits_any m (by omega) W)
      clear hpc hpv hpn hpp hp2 t1 t2 t3 f1 f2 f3 f4 HPA HLA HCC HFT HLT HOP
      go_enter Tryd.func35, Tryd.ntmps35
      go_wp2_with fail
      refine (HTX.out _).mono ?_
      rintro e w2 ⟨rfl, b2⟩
      have HB2 := Lib.hid (belowN_on HB1.out b2)
      clear b2
      go_wp2
      go_ret
      exact ⟨ret_str' (by rw [HV.out]; rfl), HB2.out⟩
    by_cases h2 : op = 2
    · subst h2
      have HV := Lib.hid (hpv rfl)
      have hm : (m : Int) ≤ 3 := f4
      have HTX := Lib.hid (fun (W : World) => l00Digits_any m (by omega) W)
      have hdl := dec_len_le m
      have hs1 : ¬ 9223372036854775807 < 1 + (Lib.decDigits m).length := by omega
      have HAP := Lib.hid (str_app [120] (Lib.decDigits m))
      have HV' : Hid (pr ns i = 120 :: Lib.decDigits m) := HV.out
      generalize Lib.decDigits m = dg at *
      clear hpc hpv hpn hpp hp2 t1 t2 t3 f1 f2 f3 f4 HPA HLA HCC HFT HLT HOP
      go_enter Tryd.func35, Tryd.ntmps35
      go_wp2_with fail
      refine (HTX.out _).mono ?_
      rintro e w2 ⟨rfl, b2⟩
      have HB2 := Lib.hid (belowN_on HB1.out b2)
      clear b2
      go_wp2
      go_ret
      exact ⟨ret_str' (by rw [HV'.out]; exact HAP.out), HB2.out⟩
    have z1 : (op == 1) = false := by simpa using h1
    have z2 : (op == 2) = false := by simpa using h2
    by_cases h7 : op = 7
    · subst h7
      obtain ⟨a, ea, ha, _, ed⟩ := t2 (by decide) (by decide)
      have ea : xa = (a : Int) := ea
      subst ea
      have HV := Lib.hid (hpn rfl rfl ha)
      have HP := Lib.hid (HPA.out a (by omega) (by omega))
      have hpl := partP_len ns (pr ns a) a true
      have hal := HLA.out a (by omega) (by omega)
      have hs1 : ¬ 9223372036854775807 < 1 + (partP ns (pr ns a) a true).length := by omega
      have HAP := Lib.hid (str_app [45] (partP ns (pr ns a) a true))
      generalize partP ns (pr ns a) a true = tp at *
      clear hpc hpv hpn hpp hp2 t1 t2 t3 f1 f2 f3 f4 HPA HLA hpl hal h1 h2 z1 z2 HCC HFT HLT HOP
      go_enter Tryd.func35, Tryd.ntmps35
      go_wp2_with fail
      refine (HP.out _ HW1.out).mono ?_
      rintro e w2 ⟨rfl, b2⟩
      have HB2 := Lib.hid (belowN_on HB1.out b2)
      clear b2
      go_wp2
      go_ret
      exact ⟨ret_str' (by rw [HV.out]; exact HAP.out), HB2.out⟩
    have z7 : (op == 7) = false := by simpa using h7
    by_cases h8 : op = 8
    · subst h8
      obtain ⟨a, ea, ha, _, ed⟩ := t2 (by decide) (by decide)
      have ea : xa = (a : Int) := ea
      subst ea
      have HV := Lib.hid (hpp rfl rfl ha)
      have HP := Lib.hid (HPA.out a (by omega) (by omega))
      have hpl := partP_len ns (pr ns a) a true
      have hal := HLA.out a (by omega) (by omega)
      have hm : (m : Int) ≤ 8 := f4
      have hdl := dec_len_le m
      have HIT := Lib.hid (fun (W : World) => l00Digits_any m (by omega) W)
      have HV' : Hid (pr ns i = partP ns (pr ns a) a false ++ [94] ++ Lib.decDigits m) := HV.out
      have HPF : Hid (partP ns (pr ns a) a true = (if two (ns.getD a nd0).1 || (!true && one (ns.getD a nd0).1) then brk (pr ns a) else pr ns a)) := rfl
      have HPG : Hid (partP ns (pr ns a) a false = (if two (ns.getD a nd0).1 || (!false && one (ns.getD a nd0).1) then brk (pr ns a) else pr ns a)) := rfl
      have ey := HCC.out a (by omega)
      have hfy := fit_n (HFT.out a (by omega))
      obtain ⟨y, hy⟩ : ∃ y, ns.getD a nd0 = y := ⟨_, rfl⟩
      rw [hy] at HPF HPG ey hfy
      obtain ⟨yo, ya, yb, yn⟩ := y
      dsimp only at HPF HPG hfy
      have hay : (a : Int) < n := by omega
      obtain ⟨tp, htp⟩ : ∃ tp, partP ns (pr ns a) a true = tp := ⟨_, rfl⟩
      obtain ⟨tq, htq⟩ : ∃ tq, partP ns (pr ns a) a false = tq := ⟨_, rfl⟩
      rw [htp] at HPF HP hpl
      rw [htq] at HPG HV'
      have hone : (tq = tp ∧ (yo == 7) = false ∧ (yo == 8) = false) ∨ (tq = brk tp ∧ ((yo = 7) ∨ (yo = 8))) := by
        have hpf := HPF.out
        have hpg := HPG.out
        by_cases h : yo = 7 ∨ yo = 8
        · right
          refine ⟨?_, h⟩
          have h2 : two yo = false := by unfold two; rcases h with rfl | rfl <;> decide
          have h1' : one yo = true := by unfold one; rcases h with rfl | rfl <;> decide
          rw [hpf, hpg, h2, h1']; rfl
        · left
          have h1' : one yo = false := by unfold one; simp; omega
          refine ⟨by rw [hpf, hpg, h1']; simp, by simp; omega, by simp; omega⟩
      generalize Lib.decDigits m = dg at *
      clear hpc hpv hpn hpp hp2 t1 t2 t3 f1 f2 f3 f4 HPA HLA h1 h2 z1 z2 h7 z7 HV HPF HPG htp htq hy HCC HFT HLT HOP
      go_enter Tryd.func35, Tryd.ntmps35
      go_wp2_with fail
      refine (HP.out _ HW1.out).mono ?_
      rintro e w2 ⟨rfl, b2⟩
      have HB2 := Lib.hid (belowN_on HB1.out b2)
      have HW2 := Lib.hid (HW1.out.trans (b2.mono HW1.out.size))
      have hn2 : NodeAt w2 (w.heap.size + 1) 58 8 (a : Int) xb (m : Int) := by
        have hn0 := NodeAt.new (w.alloc (.cells #[.slice (some ⟨b, o, none⟩) n c] 46)) 58 8 (a : Int) xb (m : Int)
        rw [World.size_alloc] at hn0
        exact hn0.on b2
      have he2 : SlAt w2 w.heap.size 46 (some ⟨b, o, none⟩) n c := ((SlAt.new w 46 (some ⟨b, o, none⟩) n c).on (below_one _ _)).on b2
      have hy2 := ey.keep (HW2.out.block b hP)
      have hbl2 : b < w2.heap.size := Nat.lt_of_lt_of_le hP HW2.out.size
      have hsz2 : w.heap.size + 1 < w2.heap.size := hn2.lt
      obtain ⟨y0, y1, y2, y3⟩ := hy2
      dsimp only at y0 y1 y2 y3
      have e0 := he2.c0
      have n0 := hn2.c0
      have n1 := hn2.c1
      have n2 := hn2.c2
      have n3 := hn2.c3
      have HB3 := Lib.hid (HB2.out.alloc HB2.out.size (.cells #[.int .i64 yo, .int .i64 ya, .int .i64 yb, .int .i64 yn] 58))
      clear b2 HP ey hn2 he2 q0 q1 q2 q3 HB1 HW1 ed
      rcases hone with ⟨rfl, g7, g8⟩ | ⟨rfl, g⟩
      · have hs1 : ¬ 9223372036854775807 < tq.length + 1 := by omega
        have hs2 : ¬ 9223372036854775807 < tq.length + 1 + dg.length := by omega
        have HAP := Lib.hid (str3b tq 94 dg)
        go_wp2_with fail
        refine (HIT.out _).mono ?_
        rintro e w4 ⟨rfl, b4⟩
        have HB4 := Lib.hid (belowN_on HB3.out b4)
        clear b4
        go_wp2
        go_ret
        exact ⟨ret_str' (by rw [HV'.out]; exact HAP.out), HB4.out⟩
      · have hs0 : ¬ 9223372036854775807 < 1 + tp.length := by omega
        have hs3 : ¬ 9223372036854775807 < 1 + tp.length + 1 := by omega
        have hs1 : ¬ 9223372036854775807 < 1 + tp.length + 1 + 1 := by omega
        have hs2 : ¬ 9223372036854775807 < 1 + tp.length + 1 + 1 + dg.length := by omega
        have HST := Lib.hid (str3 [40] tp [41] ⟨#[40]⟩ ⟨#[41]⟩ rfl rfl)
        have HAP := Lib.hid (str3b (brk tp) 94 dg)
        rcases g with rfl | rfl
        all_goals
          go_wp2_with fail
          refine (HIT.out _).mono ?_
          rintro e w4 ⟨rfl, b4⟩
          have HB4 := Lib.hid (belowN_on HB3.out b4)
          clear b4
          go_wp2
          go_ret
          exact ⟨ret_str' (by rw [HV'.out, HST.out]; exact HAP.out), HB4.out⟩
    have z8 : (op == 8) = false := by simpa using h8
    have htw : two op = true := by unfold two; simp; omega
    exact HLT.out (by rw [show (ns.getD i nd0).1 = op from HOP.out]; exact htw) HW.out HPA.out
end Go.Proofs.YtifepoefeamboaaDoor
