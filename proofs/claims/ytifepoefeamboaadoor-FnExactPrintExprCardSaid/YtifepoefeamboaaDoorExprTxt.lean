/-
  The text of an expression: of the program.
-/
import Derived.Test.YtifepoefeamboaaDoorPrMath
import Derived.Test.YtifepoefeamboaaDoorTokTxt
import Derived.Test.YtifepoefeamboaaDoorGrpE
import Derived.Deep.RegionHeld3
namespace Go.Proofs.YtifepoefeamboaaDoor
open Go Go.RowKit Nt
/-- the signs lie as the program's text lays them -/
def Signs (w : World) : Prop := 2 < w.heap.size ∧ ∀ op : Nat, 3 ≤ op → op ≤ 6 → w.cell? ⟨2, op, none⟩ = some (.string ⟨(signT (op : Int)).toArray⟩)
theorem Signs.on {w w' : World} (h : Signs w) (hb : Below w.heap.size w w') : Signs w' := ⟨Nat.lt_of_lt_of_le h.1 hb.size, fun op h1 h2 => (hb.cell (p := ⟨_, op, none⟩) h.1).trans (h.2 op h1 h2)⟩
theorem str3 (a b c : List UInt8) (x y : ByteArray) (hx : x = ⟨a.toArray⟩) (hy : y = ⟨c.toArray⟩) : (x ++ ⟨b.toArray⟩ ++ y : ByteArray) = ⟨(a ++ b ++ c).toArray⟩ := by
  subst hx hy
  rw [str_app, str_app]
theorem str3b (a : List UInt8) (x : UInt8) (c : List UInt8) : (⟨a.toArray⟩ ++ ⟨#[x]⟩ ++ ⟨c.toArray⟩ : ByteArray) = ⟨(a ++ [x] ++ c).toArray⟩ := by
  rw [str_app a [x], str_app]
theorem str5 (a sg c : List UInt8) : (⟨a.toArray⟩ ++ ⟨#[32]⟩ ++ ⟨sg.toArray⟩ ++ ⟨#[32]⟩ ++ ⟨c.toArray⟩ : ByteArray) = ⟨(a ++ [32] ++ sg ++ [32] ++ c).toArray⟩ := by
  rw [str_app a [32], str_app (a ++ [32]) sg, str_app (a ++ [32] ++ sg) [32], str_app]
theorem undrewT' {W w1 : World} (h : Below W.drew.heap.size W.drew w1) : Below W.heap.size W w1 := (below_drewN (Below.refl W.heap.size W) 1).trans h

set_option maxHeartbeats 1600000 in
theorem part_any (A : Option Addr) (n c : Nat) (ns : List Nd) (w0 : World) (hr : RdN w0 (· < w0.heap.size) A n c ns) (hn : n ≤ 60) (i : Nat) (hi : i < n) (bare : Bool) (hlen : (pr ns i).length ≤ 5000000000000)
    (hX : ∀ W : World, Below w0.heap.size w0 W → Calls Tryd.prog 59 #[.agg #[.slice A n c], .int .i64 (i : Int)] W fun e w' => e = .returned (.string ⟨(pr ns i).toArray⟩) ∧ Below W.heap.size W w')
    (w : World) (hw : Below w0.heap.size w0 w) :
    Calls Tryd.prog 73 #[.agg #[.slice A n c], .int .i64 (i : Int), .int .i64 (if bare then 1 else 0)] w fun e w' => e = .returned (.string ⟨(partP ns (pr ns i) i bare).toArray⟩) ∧ Below w.heap.size w w' := by
  have HX := Lib.hid hX
  have HW := Lib.hid hw
  obtain ⟨b, o, rfl, hP, _, hc⟩ := hr.at_ (by omega)
  have e4 := (hc i hi).keep (hw.block b hP)
  have hbl : b < w.heap.size := Nat.lt_of_lt_of_le hP hw.size
  have HBX := Lib.hid (below_one w (.cells #[.slice (some ⟨b, o, none⟩) n c] 46))
  have HSX := Lib.hid (SlAt.new w 46 (some ⟨b, o, none⟩) n c)
  have hin : (i : Int) < n := by omega
  have HPP : Hid (partP ns (pr ns i) i bare = if two (ns.getD i nd0).1 || (!bare && one (ns.getD i nd0).1) then brk (pr ns i) else pr ns i) := rfl
  obtain ⟨x, hx⟩ : ∃ x, ns.getD i nd0 = x := ⟨_, rfl⟩
  rw [hx] at e4 HPP
  obtain ⟨op, xa, xb, xn⟩ := x
  obtain ⟨q0, q1, q2, q3⟩ := e4
  dsimp only at q0 q1 q2 q3 HPP
  have s0 := HSX.out.c0
  obtain ⟨tx, htx⟩ : ∃ tx, pr ns i = tx := ⟨_, rfl⟩
  obtain ⟨pt, hpt⟩ : ∃ pt, partP ns (pr ns i) i bare = pt := ⟨_, rfl⟩
  rw [hpt] at HPP
  rw [htx] at HX HPP hlen
  have HPT := Lib.hid hpt
  clear hc hx hX hr hw htx hpt
  have hbr : ((if bare then (1 : Int) else 0) = 1 ∧ bare = true) ∨ ((if bare then (1 : Int) else 0) = 0 ∧ bare = false) := by cases bare <;> simp
  obtain ⟨br, hbrr⟩ : ∃ br : Int, (if bare then (1 : Int) else 0) = br := ⟨_, rfl⟩
  rw [hbrr] at hbr ⊢
  clear hbrr
  have hgt : decide (br < arityN op) = (two op || (!bare && one op)) := by
    unfold arityN
    rcases hbr with ⟨rfl, rfl⟩ | ⟨rfl, rfl⟩ <;> cases two op <;> cases one op <;> simp
  go_enter Tryd.func73, Tryd.ntmps73
  go_wp2_with fail
  refine (implArity_any op xa xb xn _).mono ?_
  rintro e w1 ⟨rfl, b1⟩
  have HB1 := Lib.hid (belowN_on HBX.out b1)
  have HS1 := Lib.hid (HSX.out.on b1)
  have s1 := HS1.out.c0
  generalize arityN op = ar at *
  clear b1 q0 q1 q2 q3 s0 hbr
  cases hb : (two op || (!bare && one op)) with
  | true =>
    rw [hb] at hgt HPP
    have HPP' : Hid (pt = brk tx) := HPP.out
    have hs1 : ¬ 9223372036854775807 < 1 + tx.length := by omega
    have hs2 : ¬ 9223372036854775807 < 1 + tx.length + 1 := by omega
    have HST := Lib.hid (str3 [40] tx [41] ⟨#[40]⟩ ⟨#[41]⟩ rfl rfl)
    clear hb HPP
    go_wp2_with fail
    refine (HX.out w1 (HW.out.trans (HB1.out.mono HW.out.size))).mono ?_
    rintro e w2 ⟨rfl, b2⟩
    have HB2 := Lib.hid (belowN_on HB1.out b2)
    clear b2 s1
    go_wp2
    go_ret
    exact ⟨ret_str' (by rw [HPT.out, HPP'.out]; exact HST.out), HB2.out⟩
  | false =>
    rw [hb] at hgt HPP
    have HPP' : Hid (pt = tx) := HPP.out
    clear hb HPP
    go_wp2_with fail
    refine (HX.out w1 (HW.out.trans (HB1.out.mono HW.out.size))).mono ?_
    rintro e w2 ⟨rfl, b2⟩
    have HB2 := Lib.hid (belowN_on HB1.out b2)
    clear b2 s1
    go_wp2
    go_ret
    exact ⟨ret_str' (by rw [HPT.out, HPP'.out]), HB2.out⟩

set_option maxRecDepth 20000 in
set_option maxHeartbeats 3200000 in
theorem exprText_any (A : Option Addr) (n c : Nat) (ns : List Nd) (ts : List Tr) (w0 : World) (hr : RdN w0 (· < w0.heap.size) A n c ns) (hn : n ≤ 60) (hf : ∀ j, j < n → fitN (ns.getD j nd0) = true) (hT : Tied ns ts) (hl : ts.length = n) (hN : Nest ts) (hpw : Pow10 w0) (hsg : Signs w0) :
    ∀ (d i : Nat) (w : World), d ≤ 12 → i < n → (ts.getD i tr0).2 ≤ d → Below w0.heap.size w0 w → Calls Tryd.prog 59 #[.agg #[.slice A n c], .int .i64 (i : Int)] w fun e w' => e = .returned (.string ⟨(pr ns i).toArray⟩) ∧ Below w.heap.size w w' := by
  intro d
  induction d with
  | zero => intro i w _ hi hd _; have := (hN i (by omega)).1; omega
  | succ d ih =>
    intro i w hd12 hi hd hw
    have hns : ns.length = n := hr.len
    have HPL := Lib.hid (fun (j : Nat) (hj : j < n) (hdj : (ts.getD j tr0).2 ≤ d) => Nat.le_trans (pr_len (ns := ns) (ts := ts) (fun k hk => hf k (by omega)) hT (by omega) hN d j (by omega) hdj) (lenB_12 (by omega)))
    have HPA := Lib.hid (fun (j : Nat) (hj : j < n) (hdj : (ts.getD j tr0).2 ≤ d) (bare : Bool) (W : World) (hW : Below w0.heap.size w0 W) => part_any A n c ns w0 hr hn j hj bare (HPL.out j hj hdj) (fun V hV => ih j V (by omega) hj hdj hV) W hW)
    obtain ⟨t1, t2, t3⟩ := hT i (by omega)
    obtain ⟨f1, f2, f3, f4⟩ := fit_n (hf i hi)
    obtain ⟨b, o, rfl, hP, _, hc⟩ := hr.at_ (by omega)
    have e4 := (hc i hi).keep (hw.block b hP)
    have hbl : b < w.heap.size := Nat.lt_of_lt_of_le hP hw.size
    have hin : (i : Int) < n := by omega
    have HW := Lib.hid hw
    have HPW := Lib.hid hpw
    have HSG := Lib.hid hsg
    have hpc := @pr_const ns i
    have hpv := @pr_var ns i
    have hpn := @pr_neg ns i
    have hpp := @pr_pow ns i
    have hp2 := @pr_two ns i
    obtain ⟨x, hx⟩ : ∃ x, ns.getD i nd0 = x := ⟨_, rfl⟩
    rw [hx] at e4 t1 t2 t3 f1 f2 f3 f4 hpc hpv hpn hpp hp2
    obtain ⟨op, xa, xb, xn⟩ := x
    obtain ⟨q0, q1, q2, q3⟩ := e4
    dsimp only at q0 q1 q2 q3 t1 t2 t3 f1 f2 f3 f4 hpc hpv hpn hpp hp2
    have HB0 := Lib.hid (below_one w (.cells #[.slice (some ⟨b, o, none⟩) n c] 46))
    have HB1 : Hid (Below w.heap.size w ((w.alloc (.cells #[.slice (some ⟨b, o, none⟩) n c] 46)).alloc (.cells #[.int .i64 op, .int .i64 xa, .int .i64 xb, .int .i64 xn] 58))) := HB0.out.alloc HB0.out.size _
    have HW1 : Hid (Below w0.heap.size w0 ((w.alloc (.cells #[.slice (some ⟨b, o, none⟩) n c] 46)).alloc (.cells #[.int .i64 op, .int .i64 xa, .int .i64 xb, .int .i64 xn] 58))) := HW.out.trans (HB1.out.mono HW.out.size)
    have HLA := Lib.hid HPL.out
    clear hc hx hr hw hpw hsg ih hf hT hN HPL
    obtain ⟨m, rfl⟩ : ∃ m : Nat, xn = (m : Int) := ⟨xn.toNat, by omega⟩
    by_cases h1 : op = 1
    · subst h1
      have HV := Lib.hid (hpc rfl)
      have hm : (m : Int) ≤ 999999999 := f4
      have HTX := Lib.hid (fun (W : World) (h : Pow10 W) => tokText_any 1 (m : Int) ⟨#[]⟩ W (by unfold tokB; rw [if_pos rfl]; simp; omega) h)
      have HTT : Hid (tokT (1, (m : Int), ⟨#[]⟩) = Lib.decDigits m) := rfl
      rw [HTT.out] at HTX
      clear hpc hpv hpn hpp hp2 t1 t2 t3 f1 f2 f3 f4 HPA HLA
      go_enter Tryd.func59, Tryd.ntmps59
      go_wp2_with fail
      refine (HTX.out _ (pow10_on (pow10_on HPW.out HW.out) HB1.out)).mono ?_
      rintro e w2 ⟨rfl, b2⟩
      have HB2 := Lib.hid (belowN_on HB1.out b2)
      clear b2
      go_wp2
      go_ret
      exact ⟨ret_str' (by rw [HV.out]; rfl), HB2.out⟩
    by_cases h2 : op = 2
    · subst h2
      have HV := Lib.hid (hpv rfl)
      have hm : (m : Int) ≤ 3 := f4
      have HTX := Lib.hid (fun (W : World) (h : Pow10 W) => tokText_any 2 (m : Int) ⟨#[]⟩ W (by unfold tokB; rw [if_neg (by decide), if_pos rfl]; simp; omega) h)
      have HTT : Hid (tokT (2, (m : Int), ⟨#[]⟩) = 120 :: Lib.decDigits m) := rfl
      rw [HTT.out] at HTX
      clear hpc hpv hpn hpp hp2 t1 t2 t3 f1 f2 f3 f4 HPA HLA
      go_enter Tryd.func59, Tryd.ntmps59
      go_wp2_with fail
      refine (HTX.out _ (pow10_on (pow10_on HPW.out HW.out) HB1.out)).mono ?_
      rintro e w2 ⟨rfl, b2⟩
      have HB2 := Lib.hid (belowN_on HB1.out b2)
      clear b2
      go_wp2
      go_ret
      exact ⟨ret_str' (by rw [HV.out]; rfl), HB2.out⟩
    have z1 : (op == 1) = false := by simpa using h1
    have z2 : (op == 2) = false := by simpa using h2
    by_cases h7 : op = 7
    · subst h7
      obtain ⟨a, ea, ha, _, ed⟩ := t2 (by decide) (by decide)
      have ea : xa = (a : Int) := ea
      subst ea
      have HV := Lib.hid (hpn rfl rfl ha)
      have HP := Lib.hid (HPA.out a (by omega) (by omega) true)
      have hpl := partP_len ns (pr ns a) a true
      have hal := HLA.out a (by omega) (by omega)
      have hs1 : ¬ 9223372036854775807 < 1 + (partP ns (pr ns a) a true).length := by omega
      have HAP := Lib.hid (str_app [45] (partP ns (pr ns a) a true))
      generalize partP ns (pr ns a) a true = tp at *
      clear hpc hpv hpn hpp hp2 t1 t2 t3 f1 f2 f3 f4 HPA HLA hpl hal h1 h2 z1 z2
      go_enter Tryd.func59, Tryd.ntmps59
      go_wp2_with fail
      refine (HP.out _ HW1.out).mono ?_
      rintro e w2 ⟨rfl, b2⟩
      have HB2 := Lib.hid (belowN_on HB1.out b2)
      clear b2
      go_wp2
      go_ret
      exact ⟨ret_str' (by rw [HV.out]; exact HAP.out), HB2.out⟩
    have z7 : (op == 7) = false := by simpa using h7
    by_cases h8 : op = 8
    · subst h8
      obtain ⟨a, ea, ha, _, ed⟩ := t2 (by decide) (by decide)
      have ea : xa = (a : Int) := ea
      subst ea
      have HV := Lib.hid (hpp rfl rfl ha)
      have HP := Lib.hid (HPA.out a (by omega) (by omega) false)
      have hpl := partP_len ns (pr ns a) a false
      have hal := HLA.out a (by omega) (by omega)
      have hm : (m : Int) ≤ 8 := f4
      have hdl := dec_len_le m
      have hs1 : ¬ 9223372036854775807 < (partP ns (pr ns a) a false).length + 1 := by omega
      have hs2 : ¬ 9223372036854775807 < (partP ns (pr ns a) a false).length + 1 + (Lib.decDigits m).length := by omega
      have HIT := Lib.hid (fun (W : World) (h : Pow10 W) => itoa_any m (by omega) W h)
      have HAP := Lib.hid (str3b (partP ns (pr ns a) a false) 94 (Lib.decDigits m))
      have HPX : Hid (Pow10 ((w.alloc (.cells #[.slice (some ⟨b, o, none⟩) n c] 46)).alloc (.cells #[.int .i64 8, .int .i64 (a : Int), .int .i64 xb, .int .i64 (m : Int)] 58))) := pow10_on (pow10_on HPW.out HW.out) HB1.out
      have HV' : Hid (pr ns i = partP ns (pr ns a) a false ++ [94] ++ Lib.decDigits m) := HV.out
      generalize partP ns (pr ns a) a false = tp at *
      generalize Lib.decDigits m = dg at *
      have HE0 := Lib.hid ((SlAt.new w 46 (some ⟨b, o, none⟩) n c).on (below_one _ (.cells #[.int .i64 8, .int .i64 (a : Int), .int .i64 xb, .int .i64 (m : Int)] 58)))
      have hn0 := NodeAt.new (w.alloc (.cells #[.slice (some ⟨b, o, none⟩) n c] 46)) 58 8 (a : Int) xb (m : Int)
      rw [World.size_alloc] at hn0
      have HN0 := Lib.hid hn0
      clear hpc hpv hpn hpp hp2 t1 t2 t3 f1 f2 f3 f4 HPA HLA hpl hal h1 h2 z1 z2 h7 z7 HV hdl hn0
      go_enter Tryd.func59, Tryd.ntmps59
      go_wp2_with fail
      refine wp_atN (fun V => Below w.heap.size w V ∧ Below w0.heap.size w0 V ∧ Pow10 V ∧ SlAt V w.heap.size 46 (some ⟨b, o, none⟩) n c ∧ NodeAt V (w.heap.size + 1) 58 8 (a : Int) xb (m : Int)) ⟨HB1.out, HW1.out, HPX.out, HE0.out, HN0.out⟩ ?_
      rintro v0 ⟨vb, vw, vp, ve, vn⟩
      have HVB := Lib.hid vb
      have HVW := Lib.hid vw
      have HVP := Lib.hid vp
      have HVE := Lib.hid ve
      have HVN := Lib.hid vn
      clear vb vw vp ve vn HB1 HW1 HPX HE0 HN0 q0 q1 q2 q3
      go_region_held3 (fun wx => wx.cell? ⟨w.heap.size, 0, none⟩ = some (.slice (some ⟨b, o, none⟩) n c) ∧ wx.cell? ⟨w.heap.size + 1, 0, none⟩ = some (.int .i64 8) ∧ wx.cell? ⟨w.heap.size + 1, 1, none⟩ = some (.int .i64 (a : Int)) ∧ wx.cell? ⟨w.heap.size + 1, 2, none⟩ = some (.int .i64 xb) ∧ wx.cell? ⟨w.heap.size + 1, 3, none⟩ = some (.int .i64 (m : Int)))
        (first | exact ⟨HVE.out.c0, HVN.out.c0, HVN.out.c1, HVN.out.c2, HVN.out.c3⟩ | exact ⟨HVE1.out.c0, HVN1.out.c0, HVN1.out.c1, HVN1.out.c2, HVN1.out.c3⟩ | exact ⟨HVE2.out.c0, HVN2.out.c0, HVN2.out.c1, HVN2.out.c2, HVN2.out.c3⟩)
        (first
          | (go_at_call 73; refine (HP.out _ (by first | exact HVW.out | exact below_drewN HVW.out 1)).mono ?_; rintro e v1 ⟨rfl, bb⟩; have bb := undrewT' bb; have HVB1 := Lib.hid (belowN_on HVB.out bb); have HVP1 := Lib.hid (pow10_on HVP.out bb); have HVE1 := Lib.hid (HVE.out.on bb); have HVN1 := Lib.hid (HVN.out.on bb); clear bb)
          | (go_at_call 47; refine (HIT.out _ (by exact HVP1.out)).mono ?_; rintro e v2 ⟨rfl, bb⟩; have HVB2 := Lib.hid (belowN_on HVB1.out bb); have HVE2 := Lib.hid (HVE1.out.on bb); have HVN2 := Lib.hid (HVN1.out.on bb); clear bb))
      go_wp2
      go_ret
      exact ⟨ret_str' (by rw [HV'.out]; exact HAP.out), HVB2.out⟩
    have z8 : (op == 8) = false := by simpa using h8
    have htw : two op = true := by unfold two; simp; omega
    obtain ⟨a, b', ea, eb, ha, hb', _, ed⟩ := t1 htw
    have ea : xa = (a : Int) := ea
    have eb : xb = (b' : Int) := eb
    subst ea eb
    obtain ⟨k, rfl⟩ : ∃ k : Nat, op = (k : Int) := ⟨op.toNat, by omega⟩
    have hk3 : 3 ≤ k := by omega
    have hk6 : k ≤ 6 := by omega
    have HV := Lib.hid (hp2 htw rfl rfl ha hb')
    have HPa := Lib.hid (HPA.out a (by omega) (by omega) true)
    have HPb := Lib.hid (HPA.out b' (by omega) (by omega) true)
    have hpl := partP_len ns (pr ns a) a true
    have hal := HLA.out a (by omega) (by omega)
    have hpl' := partP_len ns (pr ns b') b' true
    have hal' := HLA.out b' (by omega) (by omega)
    have hsl := signT_len (k : Int)
    have hs1 : ¬ 9223372036854775807 < (partP ns (pr ns a) a true).length + 1 := by omega
    have hs2 : ¬ 9223372036854775807 < (partP ns (pr ns a) a true).length + 1 + (signT (k : Int)).length := by omega
    have hs3 : ¬ 9223372036854775807 < (partP ns (pr ns a) a true).length + 1 + (signT (k : Int)).length + 1 := by omega
    have hs4 : ¬ 9223372036854775807 < (partP ns (pr ns a) a true).length + 1 + (signT (k : Int)).length + 1 + (partP ns (pr ns b') b' true).length := by omega
    have HAP := Lib.hid (str5 (partP ns (pr ns a) a true) (signT (k : Int)) (partP ns (pr ns b') b' true))
    have HSX : Hid (Signs ((w.alloc (.cells #[.slice (some ⟨b, o, none⟩) n c] 46)).alloc (.cells #[.int .i64 (k : Int), .int .i64 (a : Int), .int .i64 (b' : Int), .int .i64 (m : Int)] 58))) := (HSG.out.on HW.out).on HB1.out
    have HSK := Lib.hid (fun (W : World) (h : Signs W) => h.2 k hk3 hk6)
    generalize partP ns (pr ns a) a true = ta at *
    generalize partP ns (pr ns b') b' true = tb at *
    generalize signT (k : Int) = sg at *
    have HE0 := Lib.hid ((SlAt.new w 46 (some ⟨b, o, none⟩) n c).on (below_one _ (.cells #[.int .i64 (k : Int), .int .i64 (a : Int), .int .i64 (b' : Int), .int .i64 (m : Int)] 58)))
    have hn0 := NodeAt.new (w.alloc (.cells #[.slice (some ⟨b, o, none⟩) n c] 46)) 58 (k : Int) (a : Int) (b' : Int) (m : Int)
    rw [World.size_alloc] at hn0
    have HN0 := Lib.hid hn0
    have y0 : (0 : Int) ≤ (k : Int) := by omega
    have y7 : (k : Int) < 7 := by omega
    clear hpc hpv hpn hpp hp2 t1 t2 t3 f1 f2 f3 f4 HPA HLA hpl hal hpl' hal' hsl h1 h2 h7 h8 htw hn0 hk3 hk6
    go_enter Tryd.func59, Tryd.ntmps59
    go_wp2_with fail
    refine wp_atN (fun V => Below w.heap.size w V ∧ Below w0.heap.size w0 V ∧ Signs V ∧ SlAt V w.heap.size 46 (some ⟨b, o, none⟩) n c ∧ NodeAt V (w.heap.size + 1) 58 (k : Int) (a : Int) (b' : Int) (m : Int)) ⟨HB1.out, HW1.out, HSX.out, HE0.out, HN0.out⟩ ?_
    rintro v0 ⟨vb, vw, vp, ve, vn⟩
    have HVB := Lib.hid vb
    have HVW := Lib.hid vw
    have HVP := Lib.hid vp
    have HVE := Lib.hid ve
    have HVN := Lib.hid vn
    clear vb vw vp ve vn HB1 HW1 HSX HE0 HN0 q0 q1 q2 q3
    go_region_held3 (fun wx => wx.cell? ⟨w.heap.size, 0, none⟩ = some (.slice (some ⟨b, o, none⟩) n c) ∧ wx.cell? ⟨w.heap.size + 1, 0, none⟩ = some (.int .i64 (k : Int)) ∧ wx.cell? ⟨w.heap.size + 1, 1, none⟩ = some (.int .i64 (a : Int)) ∧ wx.cell? ⟨w.heap.size + 1, 2, none⟩ = some (.int .i64 (b' : Int)) ∧ wx.cell? ⟨w.heap.size + 1, 3, none⟩ = some (.int .i64 (m : Int)) ∧ wx.cell? ⟨2, k, none⟩ = some (.string ⟨sg.toArray⟩))
      (first | exact ⟨HVE.out.c0, HVN.out.c0, HVN.out.c1, HVN.out.c2, HVN.out.c3, HSK.out _ HVP.out⟩ | exact ⟨HVE1.out.c0, HVN1.out.c0, HVN1.out.c1, HVN1.out.c2, HVN1.out.c3, HSK.out _ HVP1.out⟩ | exact ⟨HVE2.out.c0, HVN2.out.c0, HVN2.out.c1, HVN2.out.c2, HVN2.out.c3, HSK.out _ HVP2.out⟩)
      (first
        | (go_at_call_of 73 a; refine (HPa.out _ (by first | exact HVW.out | exact below_drewN HVW.out 1)).mono ?_; rintro e v1 ⟨rfl, bb⟩; have bb := undrewT' bb; have HVB1 := Lib.hid (belowN_on HVB.out bb); have HVW1 := Lib.hid (HVW.out.trans (bb.mono HVW.out.size)); have HVP1 := Lib.hid (HVP.out.on bb); have HVE1 := Lib.hid (HVE.out.on bb); have HVN1 := Lib.hid (HVN.out.on bb); clear bb)
        | (go_at_call_of 73 b'; refine (HPb.out _ (by first | exact HVW1.out | exact below_drewN HVW1.out 1)).mono ?_; rintro e v2 ⟨rfl, bb⟩; have HVB2 := Lib.hid (belowN_on HVB1.out bb); have HVP2 := Lib.hid (HVP1.out.on bb); have HVE2 := Lib.hid (HVE1.out.on bb); have HVN2 := Lib.hid (HVN1.out.on bb); clear bb))
    go_wp2
    go_ret
    exact ⟨ret_str' (by rw [HV.out]; exact HAP.out), HVB2.out⟩
end Go.Proofs.YtifepoefeamboaaDoor
