/-
  The law FnFloor. Condition: the variable errOverZero holds what the program's text lays.
-/
import Derived.Test.YtgeijojkfojfbaaDoorRatSame
import Derived.Test.YtgeijojkfojfbaaDoorGrpD
import Derived.Test.YtgeijojkfojfbaaDoorFloorRat
import Derived.Test.YtgeijojkfojfbaaDoorPowRat
import Derived.Test.YtgeijojkfojfbaaDoorRatMake
import Derived.Test.YtgeijojkfojfbaaDoorLawAt
import Derived.Test.YtgeijojkfojfbaaDoorFloorMath
import Derived.ProofKit
import Derived.OpenShut
import Derived.ShutString
import Derived.ChangeOld
namespace Go.Proofs.YtgeijojkfojfbaaDoor
open Go Go.RowKit Nt
open Go.ChangeShapes Go.WideShapes Go.ChangeAt
open Go.ChangeMaps (open_string shut_string)

/-- a box that holds a rational -/
def InBoxF (w : World) (g : Nat) (r : Rat) (A : Option Addr) (ca : Nat) (B : Option Addr) (cb : Nat) : Prop :=
  RatAt w g 25 (isNeg r) A (D (nu r)).length ca B (D r.den).length cb ∧ RdR w (fun _ => True) (D (nu r)) (D r.den) A ca B cb
theorem InBoxF.on {w w' : World} {g : Nat} {r : Rat} {A : Option Addr} {ca : Nat} {B : Option Addr} {cb : Nat} (h : InBoxF w g r A ca B cb) (hb : Below w.heap.size w w') : InBoxF w' g r A ca B cb := ⟨h.1.on hb, h.2.on hb⟩
theorem InBoxF.new {w : World} {r : Rat} {A : Option Addr} {ca : Nat} {B : Option Addr} {cb : Nat} (h : RdR w (fun _ => True) (D (nu r)) (D r.den) A ca B cb) : InBoxF (w.alloc (.cells #[.bool (isNeg r), .slice A (D (nu r)).length ca, .slice B (D r.den).length cb] 25)) w.heap.size r A ca B cb := ⟨RatAt.new _ _ _ _ _ _ _ _ _, h.on (below1 _ _)⟩
theorem ret_sayF {t : TypeId} {w w' : World} {n : Bool} {xs ys : List Int} {code : Int} {e : Ending} (h : RetRC t w n xs ys code e w') : SayRC' w n xs ys code e w' := by
  obtain ⟨A, c, B, d, he, o, b⟩ := h
  exact ⟨A, c, B, d, he, o.rdt, b⟩
theorem le_millF {n : Nat} (h : n ≤ 19) : n ≤ 400 := by omega
theorem le_moreF {n : Nat} (h : n ≤ 19) : n ≤ 16777216 := by omega
theorem lt_topF {n : Nat} (h : (D n).length ≤ 19) : n < Top := (D_len_le n 40).1 (by omega)
theorem addF (a b : Rat) (A B : Option Addr) (ca cb : Nat) (A' B' : Option Addr) (ca' cb' : Nat) (w : World) (h0 : RdR w (fun _ => True) (D (nu a)) (D a.den) A ca B cb) (h1 : RdR w (fun _ => True) (D (nu b)) (D b.den) A' ca' B' cb') (l1 : (D (nu a)).length ≤ 19) (l2 : (D a.den).length ≤ 19) (l3 : (D (nu b)).length ≤ 19) (l4 : (D b.den).length ≤ 19) (r : Rat) (hr : a + b = r) :
    Calls Tryd.prog 7 #[.agg #[.bool (isNeg a), .slice A (D (nu a)).length ca, .slice B (D a.den).length cb], .agg #[.bool (isNeg b), .slice A' (D (nu b)).length ca', .slice B' (D b.den).length cb']] w (SayRC' w (isNeg r) (D (nu r)) (D r.den) 0) := by
  have hl := add_lens a b
  have h := implAddRat_ok a b A B ca cb A' B' ca' cb' _ _ w h0 h1 (le_millF l1) (le_millF l2) (le_millF l3) (le_millF l4) (lt_topF l1) (lt_topF l2) (lt_topF l3) (lt_topF l4)
  rw [hr] at h hl
  have hf : fitQ r := ⟨by omega, by omega⟩
  have x1 : fN r = isNeg r := by unfold fN; rw [if_pos hf]
  have x2 : fX r = D (nu r) := by unfold fX; rw [if_pos hf]
  have x3 : fY r = D r.den := by unfold fY; rw [if_pos hf]
  have x4 : fK r = 0 := by unfold fK; rw [if_pos hf]
  rw [x1, x2, x3, x4] at h
  exact h.mono fun _ _ h => ret_sayF h
theorem mulF (a b : Rat) (A B : Option Addr) (ca cb : Nat) (A' B' : Option Addr) (ca' cb' : Nat) (w : World) (h0 : RdR w (fun _ => True) (D (nu a)) (D a.den) A ca B cb) (h1 : RdR w (fun _ => True) (D (nu b)) (D b.den) A' ca' B' cb') (l1 : (D (nu a)).length ≤ 19) (l2 : (D a.den).length ≤ 19) (l3 : (D (nu b)).length ≤ 19) (l4 : (D b.den).length ≤ 19) (r : Rat) (hr : a * b = r) :
    Calls Tryd.prog 8 #[.agg #[.bool (isNeg a), .slice A (D (nu a)).length ca, .slice B (D a.den).length cb], .agg #[.bool (isNeg b), .slice A' (D (nu b)).length ca', .slice B' (D b.den).length cb']] w (SayRC' w (isNeg r) (D (nu r)) (D r.den) 0) := by
  have hl := mul_lens a b
  have h := implMulRat_ok a b A B ca cb A' B' ca' cb' _ _ w h0 h1 (le_millF l1) (le_millF l2) (le_millF l3) (le_millF l4) (lt_topF l1) (lt_topF l2) (lt_topF l3) (lt_topF l4)
  rw [hr] at h hl
  have hf : fitQ r := ⟨by omega, by omega⟩
  have x1 : fN r = isNeg r := by unfold fN; rw [if_pos hf]
  have x2 : fX r = D (nu r) := by unfold fX; rw [if_pos hf]
  have x3 : fY r = D r.den := by unfold fY; rw [if_pos hf]
  have x4 : fK r = 0 := by unfold fK; rw [if_pos hf]
  rw [x1, x2, x3, x4] at h
  exact h.mono fun _ _ h => ret_sayF h
theorem cmpF (a b : Rat) (A B : Option Addr) (ca cb : Nat) (A' B' : Option Addr) (ca' cb' : Nat) (w : World) (h0 : RdR w (fun _ => True) (D (nu a)) (D a.den) A ca B cb) (h1 : RdR w (fun _ => True) (D (nu b)) (D b.den) A' ca' B' cb') (l1 : (D (nu a)).length ≤ 19) (l2 : (D a.den).length ≤ 19) (l3 : (D (nu b)).length ≤ 19) (l4 : (D b.den).length ≤ 19) (k : Int) (hk : cmpQ a b = k) :
    Calls Tryd.prog 18 #[.agg #[.bool (isNeg a), .slice A (D (nu a)).length ca, .slice B (D a.den).length cb], .agg #[.bool (isNeg b), .slice A' (D (nu b)).length ca', .slice B' (D b.den).length cb']] w fun e w' => e = .returned (.tuple #[.int .i64 k, .int .i64 0]) ∧ Below w.heap.size w w' := by
  have h := implCmpRat_ok a b A B ca cb A' B' ca' cb' _ _ w h0 h1 (le_millF l1) (le_millF l2) (le_millF l3) (le_millF l4) (lt_topF l1) (lt_topF l2) (lt_topF l3) (lt_topF l4)
  rw [hk] at h
  exact h
theorem floF (a : Rat) (A B : Option Addr) (ca cb : Nat) (w : World) (h0 : RdR w (fun _ => True) (D (nu a)) (D a.den) A ca B cb) (l1 : (D (nu a)).length ≤ 19) (l2 : (D a.den).length ≤ 19) (r : Rat) (hr : flQ a = r) :
    Calls Tryd.prog 15 #[.agg #[.bool (isNeg a), .slice A (D (nu a)).length ca, .slice B (D a.den).length cb]] w (SayRC' w (isNeg r) (D (nu r)) (D r.den) 0) := by
  have h := implFloorRat_ok a A B ca cb w (h0.mono fun _ _ h => h) (lt_topF l1) (lt_topF l2)
  rw [hr] at h
  exact h.mono fun _ _ h => ret_sayF h
theorem floSF (a : Rat) (A B : Option Addr) (ca cb : Nat) (w : World) (h0 : RdR w (fun _ => True) (D (nu a)) (D a.den) A ca B cb) (l1 : (D (nu a)).length ≤ 19) (l2 : (D a.den).length ≤ 19) (r : Rat) (hr : flQ a = r) :
    Calls Tryd.prog 16 #[.agg #[.bool (isNeg a), .slice A (D (nu a)).length ca, .slice B (D a.den).length cb]] w (SayRC' w (isNeg r) (D (nu r)) (D r.den) 0) := by
  have h := specFloorRat_ok a A B ca cb _ w h0 (lt_topF l1) (lt_topF l2)
  rw [hr] at h
  exact h
theorem powF (a : Rat) (A B : Option Addr) (ca cb : Nat) (w : World) (h0 : RdR w (fun _ => True) (D (nu a)) (D a.den) A ca B cb) (l1 : (D (nu a)).length ≤ 19) (l2 : (D a.den).length ≤ 19) (n : Nat) (hn : n ≤ 8) (r : Rat) (hr : a ^ n = r) (m1 : (D (nu r)).length ≤ 19) (m2 : (D r.den).length ≤ 19) :
    Calls Tryd.prog 20 #[.agg #[.bool (isNeg a), .slice A (D (nu a)).length ca, .slice B (D a.den).length cb], .int .i64 (n : Int)] w (SayRC' w (isNeg r) (D (nu r)) (D r.den) 0) := by
  have h := implPowRat_ok a n hn A B ca cb w (h0.mono fun _ _ h => h) (lt_topF l1) (lt_topF l2)
  rw [hr] at h
  have hf : fitQ r := ⟨by omega, by omega⟩
  have x1 : fN r = isNeg r := by unfold fN; rw [if_pos hf]
  have x2 : fX r = D (nu r) := by unfold fX; rw [if_pos hf]
  have x3 : fY r = D r.den := by unfold fY; rw [if_pos hf]
  have x4 : fK r = 0 := by unfold fK; rw [if_pos hf]
  rw [x1, x2, x3, x4] at h
  exact h.mono fun _ _ h => ret_sayF h
theorem makF (w : World) (ad : Addr) (hE : ErrAt 93 w ad) (r : Rat) (hr : (1 : Rat) = r) (m1 : (D (nu r)).length ≤ 19) (m2 : (D r.den).length ≤ 19) :
    Calls Tryd.prog 17 #[.int .i64 1, .int .i64 1] w (SayRC' w (isNeg r) (D (nu r)) (D r.den) 0) := by
  have h := implMakeRat_ok 1 1 w (by omega) (by omega) (by omega) (by omega) (by omega) ad hE
  rw [one_made, hr] at h
  have hf : fitQ r := ⟨by omega, by omega⟩
  have x1 : fN r = isNeg r := by unfold fN; rw [if_pos hf]
  have x2 : fX r = D (nu r) := by unfold fX; rw [if_pos hf]
  have x3 : fY r = D r.den := by unfold fY; rw [if_pos hf]
  have x4 : fK r = 0 := by unfold fK; rw [if_pos hf]
  rw [x1, x2, x3, x4] at h
  exact h.mono fun _ _ h => ret_sayF h
theorem pow_lenF (a : Rat) (n : Nat) (hn : n ≤ 7) (l1 : (D (nu a)).length ≤ 2) (l2 : (D a.den).length ≤ 2) : (D (nu (a ^ n))).length ≤ 19 ∧ (D (a ^ n).den).length ≤ 19 := by
  have key : ∀ n, (D (nu (a ^ n))).length ≤ 2 * n + 1 ∧ (D (a ^ n).den).length ≤ 2 * n + 1 := by
    intro n
    induction n with
    | zero => exact ⟨by rw [Rat.pow_zero]; decide, by rw [Rat.pow_zero]; decide⟩
    | succ n ih =>
      have h := mul_lens (a ^ n) a
      rw [← Rat.pow_succ] at h
      omega
  have := key n
  omega

set_option maxRecDepth 20000 in
set_option maxHeartbeats 25600000 in
theorem lawFloor_any (pA : Option Addr) (pn pc : Nat) (qA : Option Addr) (qn qc : Nat) (w : World) (hp : RdB w (· < w.heap.size) pA pn) (ple : pn ≤ 9223372036854775807) (hq : RdB w (· < w.heap.size) qA qn) (qle : qn ≤ 9223372036854775807) (ad : Addr) (hE : ErrAt 93 w ad) :
    Calls Tryd.prog 4 #[.slice pA pn pc, .slice qA qn qc] w fun e w' => e = .returned (.bool true) ∧ Below w.heap.size w w' := by
  have Rp := Lib.hid hp
  clear hp
  have Rq := Lib.hid hq
  clear hq
  have ER := Lib.hid hE
  clear hE
  by_cases bigp : 1048576 < pn
  · have bigp' : (1048576 : Int) < pn := by omega
    go_enter Tryd.func4, Tryd.ntmps4
    go_wp2
    go_ret
    exact ⟨rfl, Below.refl _ _⟩
  have smp : (pn : Int) ≤ 1048576 := by omega
  by_cases bigq : 1048576 < qn
  · have bigq' : (1048576 : Int) < qn := by omega
    go_enter Tryd.func4, Tryd.ntmps4
    go_wp2
    go_ret
    exact ⟨rfl, Below.refl _ _⟩
  have smq : (qn : Int) ≤ 1048576 := by omega
  go_enter Tryd.func4, Tryd.ntmps4
  go_wp2_with fail
  refine (wideRat_any pA pn pc w Rp.out (by omega)).mono ?_
  rintro e v1 ⟨a, na, ma, Aa, ca, Ba, da, rfl, o0, b0⟩
  have HB := Lib.hid b0
  have HN := Lib.hid o0
  clear o0 b0
  obtain ⟨f, hf⟩ : ∃ z, flQ a = z := ⟨_, rfl⟩
  obtain ⟨u, hu⟩ : ∃ z, (1 : Rat) = z := ⟨_, rfl⟩
  obtain ⟨s, hs⟩ : ∃ z, f + u = z := ⟨_, rfl⟩
  obtain ⟨kk, hkk⟩ : ∃ z, cmpQ f a = z := ⟨_, rfl⟩
  have fp := fl_parts a
  rw [hf] at fp
  have fle := D_len_up (fl_le a)
  have lf1 : (D (nu f)).length ≤ 4 := by rw [fp.1]; omega
  have lf2 : (D f.den).length ≤ 1 := by rw [fp.2.1]; decide
  have lu1 : (D (nu u)).length ≤ 1 := by rw [← hu]; decide
  have lu2 : (D u.den).length ≤ 1 := by rw [← hu]; decide
  have ls := add_lens f u
  rw [hs] at ls
  have HFD : Hid (D f.den = [1]) := Lib.hid (by rw [fp.2.1]; rfl)
  have La : Hid ((D (nu a)).length ≤ 19 ∧ (D a.den).length ≤ 19) := Lib.hid ⟨by omega, by omega⟩
  have Lf : Hid ((D (nu f)).length ≤ 19 ∧ (D f.den).length ≤ 19) := Lib.hid ⟨by omega, by omega⟩
  have Lu : Hid ((D (nu u)).length ≤ 19 ∧ (D u.den).length ≤ 19) := Lib.hid ⟨by omega, by omega⟩
  have Ls : Hid ((D (nu s)).length ≤ 19 ∧ (D s.den).length ≤ 19) := Lib.hid ⟨by omega, by omega⟩
  have hk0 : kk ≤ 0 := by rw [← hkk, ← hf]; exact fl_below a
  have HKB : Hid (kk ≤ 0) := Lib.hid hk0
  have HMM : Hid (cmpQ a s = -1) := Lib.hid (by rw [← hs, ← hu, ← hf]; exact fl_above a)
  have Ef := Lib.hid hf
  have Eu := Lib.hid hu
  have Es := Lib.hid hs
  have Ek := Lib.hid hkk
  clear fp fle lf1 lf2 lu1 lu2 ls hk0 hf hu hs hkk na ma
  go_wp2_with fail
  refine calls_at (fun V => Below w.heap.size w V ∧ InBoxF V v1.heap.size a Aa ca Ba da)
    ⟨below_on HB.out (below1 _ _), InBoxF.new HN.out⟩ ?_
  rintro v2 ⟨pB, pa⟩
  clear HB HN 
  have HB := Lib.hid pB
  have Ha := Lib.hid pa
  clear pB pa
  refine (floF a Aa Ba ca da v2 Ha.out.2 La.out.1 La.out.2 f Ef.out).mono ?_
  rintro e v3 ⟨Af, cf, Bf, df, rfl, o0, b0⟩
  replace HB := Lib.hid (below_on HB.out b0)
  replace Ha := Lib.hid (Ha.out.on b0)
  have HN := Lib.hid o0
  clear o0 b0
  have qa0 := Ha.out.1.c0
  have qa1 := Ha.out.1.c1
  have qa2 := Ha.out.1.c2
  have ka := Ha.out.1.lt
  go_wp2_with fail
  clear qa0 qa1 qa2 ka
  refine calls_at (fun V => Below w.heap.size w V ∧ InBoxF V v1.heap.size a Aa ca Ba da ∧ InBoxF V v3.heap.size f Af cf Bf df)
    ⟨below_on HB.out (below1 _ _), Ha.out.on (below1 _ _), InBoxF.new HN.out⟩ ?_
  rintro v4 ⟨pB, pa, pf⟩
  clear HB HN Ha
  have HB := Lib.hid pB
  have Ha := Lib.hid pa
  have Hf := Lib.hid pf
  clear pB pa pf
  refine (floSF a Aa Ba ca da v4 Ha.out.2 La.out.1 La.out.2 f Ef.out).mono ?_
  rintro e v5 ⟨AW, cW, BW, dW, rfl, o0, b0⟩
  replace HB := Lib.hid (below_on HB.out b0)
  replace Ha := Lib.hid (Ha.out.on b0)
  replace Hf := Lib.hid (Hf.out.on b0)
  have HN := Lib.hid o0
  clear o0 b0
  go_wp2_with fail
  refine calls_at (fun V => Below w.heap.size w V ∧ InBoxF V v1.heap.size a Aa ca Ba da ∧ InBoxF V v3.heap.size f Af cf Bf df ∧ InBoxF V v5.heap.size f AW cW BW dW)
    ⟨below_on HB.out (below1 _ _), Ha.out.on (below1 _ _), Hf.out.on (below1 _ _), InBoxF.new HN.out⟩ ?_
  rintro v6 ⟨pB, pa, pf, pW⟩
  clear HB HN Ha Hf
  have HB := Lib.hid pB
  have Ha := Lib.hid pa
  have Hf := Lib.hid pf
  have HW := Lib.hid pW
  clear pB pa pf pW
  refine (makF v6 ad (ER.out.below ER.out.2 HB.out) u Eu.out Lu.out.1 Lu.out.2).mono ?_
  rintro e v7 ⟨Au, cu, Bu, du, rfl, o0, b0⟩
  replace HB := Lib.hid (below_on HB.out b0)
  replace Ha := Lib.hid (Ha.out.on b0)
  replace Hf := Lib.hid (Hf.out.on b0)
  replace HW := Lib.hid (HW.out.on b0)
  have HN := Lib.hid o0
  clear o0 b0
  have qf0 := Hf.out.1.c0
  have qf1 := Hf.out.1.c1
  have qf2 := Hf.out.1.c2
  have kf := Hf.out.1.lt
  go_wp2_with fail
  clear qf0 qf1 qf2 kf
  refine calls_at (fun V => Below w.heap.size w V ∧ InBoxF V v1.heap.size a Aa ca Ba da ∧ InBoxF V v3.heap.size f Af cf Bf df ∧ InBoxF V v5.heap.size f AW cW BW dW ∧ InBoxF V v7.heap.size u Au cu Bu du)
    ⟨below_on HB.out (below1 _ _), Ha.out.on (below1 _ _), Hf.out.on (below1 _ _), HW.out.on (below1 _ _), InBoxF.new HN.out⟩ ?_
  rintro v8 ⟨pB, pa, pf, pW, pu⟩
  clear HB HN Ha Hf HW
  have HB := Lib.hid pB
  have Ha := Lib.hid pa
  have Hf := Lib.hid pf
  have HW := Lib.hid pW
  have Hu := Lib.hid pu
  clear pB pa pf pW pu
  refine (addF f u Af Bf cf df Au Bu cu du v8 Hf.out.2 Hu.out.2 Lf.out.1 Lf.out.2 Lu.out.1 Lu.out.2 s Es.out).mono ?_
  rintro e v9 ⟨As, cs, Bs, ds, rfl, o0, b0⟩
  replace HB := Lib.hid (below_on HB.out b0)
  replace Ha := Lib.hid (Ha.out.on b0)
  replace Hf := Lib.hid (Hf.out.on b0)
  replace HW := Lib.hid (HW.out.on b0)
  replace Hu := Lib.hid (Hu.out.on b0)
  have HN := Lib.hid o0
  clear o0 b0
  have qf0 := Hf.out.1.c0
  have qf1 := Hf.out.1.c1
  have qf2 := Hf.out.1.c2
  have kf := Hf.out.1.lt
  have qa0 := Ha.out.1.c0
  have qa1 := Ha.out.1.c1
  have qa2 := Ha.out.1.c2
  have ka := Ha.out.1.lt
  go_wp2_with fail
  clear qf0 qf1 qf2 kf qa0 qa1 qa2 ka
  refine calls_at (fun V => Below w.heap.size w V ∧ InBoxF V v1.heap.size a Aa ca Ba da ∧ InBoxF V v3.heap.size f Af cf Bf df ∧ InBoxF V v5.heap.size f AW cW BW dW ∧ InBoxF V v7.heap.size u Au cu Bu du ∧ InBoxF V v9.heap.size s As cs Bs ds)
    ⟨below_on HB.out (below1 _ _), Ha.out.on (below1 _ _), Hf.out.on (below1 _ _), HW.out.on (below1 _ _), Hu.out.on (below1 _ _), InBoxF.new HN.out⟩ ?_
  rintro v10 ⟨pB, pa, pf, pW, pu, ps⟩
  clear HB HN Ha Hf HW Hu
  have HB := Lib.hid pB
  have Ha := Lib.hid pa
  have Hf := Lib.hid pf
  have HW := Lib.hid pW
  have Hu := Lib.hid pu
  have Hs := Lib.hid ps
  clear pB pa pf pW pu ps
  refine (cmpF f a Af Bf cf df Aa Ba ca da v10 Hf.out.2 Ha.out.2 Lf.out.1 Lf.out.2 La.out.1 La.out.2 kk Ek.out).mono ?_
  rintro e v11 ⟨rfl, b0⟩
  replace HB := Lib.hid (below_on HB.out b0)
  replace Ha := Lib.hid (Ha.out.on b0)
  replace Hf := Lib.hid (Hf.out.on b0)
  replace HW := Lib.hid (HW.out.on b0)
  replace Hu := Lib.hid (Hu.out.on b0)
  replace Hs := Lib.hid (Hs.out.on b0)
  clear b0
  have qa0 := Ha.out.1.c0
  have qa1 := Ha.out.1.c1
  have qa2 := Ha.out.1.c2
  have ka := Ha.out.1.lt
  have qs0 := Hs.out.1.c0
  have qs1 := Hs.out.1.c1
  have qs2 := Hs.out.1.c2
  have ks := Hs.out.1.lt
  go_wp2_with fail
  clear qa0 qa1 qa2 ka qs0 qs1 qs2 ks
  refine (cmpF a s Aa Ba ca da As Bs cs ds v11 Ha.out.2 Hs.out.2 La.out.1 La.out.2 Ls.out.1 Ls.out.2 (-1) HMM.out).mono ?_
  rintro e v12 ⟨rfl, b0⟩
  replace HB := Lib.hid (below_on HB.out b0)
  replace Ha := Lib.hid (Ha.out.on b0)
  replace Hf := Lib.hid (Hf.out.on b0)
  replace HW := Lib.hid (HW.out.on b0)
  replace Hu := Lib.hid (Hu.out.on b0)
  replace Hs := Lib.hid (Hs.out.on b0)
  clear b0
  go_wp2_with fail
  refine (ratDrawn_any qA qn qc v12 ((Rq.out.below HB.out).mono fun _ _ h => h) (by omega)).mono ?_
  rintro e v13 ⟨r, nr, mr, Ar, cr, Br, dr, rfl, o0, b0⟩
  replace HB := Lib.hid (below_on HB.out b0)
  replace Ha := Lib.hid (Ha.out.on b0)
  replace Hf := Lib.hid (Hf.out.on b0)
  replace HW := Lib.hid (HW.out.on b0)
  replace Hu := Lib.hid (Hu.out.on b0)
  replace Hs := Lib.hid (Hs.out.on b0)
  have HN := Lib.hid o0
  clear o0 b0
  go_wp2_with fail
  refine calls_at (fun V => Below w.heap.size w V ∧ InBoxF V v1.heap.size a Aa ca Ba da ∧ InBoxF V v3.heap.size f Af cf Bf df ∧ InBoxF V v5.heap.size f AW cW BW dW ∧ InBoxF V v7.heap.size u Au cu Bu du ∧ InBoxF V v9.heap.size s As cs Bs ds ∧ InBoxF V v13.heap.size r Ar cr Br dr)
    ⟨below_on HB.out (below1 _ _), Ha.out.on (below1 _ _), Hf.out.on (below1 _ _), HW.out.on (below1 _ _), Hu.out.on (below1 _ _), Hs.out.on (below1 _ _), InBoxF.new HN.out⟩ ?_
  rintro v14 ⟨pB, pa, pf, pW, pu, ps, pr⟩
  clear HB HN Ha Hf HW Hu Hs
  have HB := Lib.hid pB
  have Ha := Lib.hid pa
  have Hf := Lib.hid pf
  have HW := Lib.hid pW
  have Hu := Lib.hid pu
  have Hs := Lib.hid ps
  have Hr := Lib.hid pr
  clear pB pa pf pW pu ps pr
  refine (at_any qA qn qc 0 5 _ v14 (Rq.out.below HB.out) (by omega) (by omega) (by omega) (by omega)).mono ?_
  rintro e v15 ⟨ii, rfl, hii, b0⟩
  replace HB := Lib.hid (below_on HB.out b0)
  replace Ha := Lib.hid (Ha.out.on b0)
  replace Hf := Lib.hid (Hf.out.on b0)
  replace HW := Lib.hid (HW.out.on b0)
  replace Hu := Lib.hid (Hu.out.on b0)
  replace Hs := Lib.hid (Hs.out.on b0)
  replace Hr := Lib.hid (Hr.out.on b0)
  clear b0
  go_wp2_with fail
  refine (at_any qA qn qc 1 4 _ v15 (Rq.out.below HB.out) (by omega) (by omega) (by omega) (by omega)).mono ?_
  rintro e v16 ⟨jj, rfl, hjj, b0⟩
  replace HB := Lib.hid (below_on HB.out b0)
  replace Ha := Lib.hid (Ha.out.on b0)
  replace Hf := Lib.hid (Hf.out.on b0)
  replace HW := Lib.hid (HW.out.on b0)
  replace Hu := Lib.hid (Hu.out.on b0)
  replace Hs := Lib.hid (Hs.out.on b0)
  replace Hr := Lib.hid (Hr.out.on b0)
  clear b0
  have lx := pow_lenF r ii (by omega) nr mr
  have ly := pow_lenF r jj (by omega) nr mr
  obtain ⟨tt, htt⟩ : ∃ t, ii + jj = t := ⟨_, rfl⟩
  have lz := pow_lenF r tt (by omega) nr mr
  have Lr : Hid ((D (nu r)).length ≤ 19 ∧ (D r.den).length ≤ 19) := Lib.hid ⟨by omega, by omega⟩
  obtain ⟨x, hx⟩ : ∃ z, r ^ ii = z := ⟨_, rfl⟩
  obtain ⟨y, hy⟩ : ∃ z, r ^ jj = z := ⟨_, rfl⟩
  obtain ⟨z, hz⟩ : ∃ z, r ^ tt = z := ⟨_, rfl⟩
  have hxy : x * y = z := by rw [← hx, ← hy, ← hz, ← htt, pow_addF]
  rw [hx] at lx
  rw [hy] at ly
  rw [hz] at lz
  have Lx := Lib.hid lx
  have Ly := Lib.hid ly
  have Lz := Lib.hid lz
  have Ex := Lib.hid hx
  have Ey := Lib.hid hy
  have Ez := Lib.hid hz
  have EP := Lib.hid hxy
  have hij : ((ii : Int) + (jj : Int)) = (tt : Int) := by omega
  have hwij : IntKind.i64.wrap ((ii : Int) + (jj : Int)) = (tt : Int) := by rw [IntWalk.i64_in _ (by omega), hij]
  have hi8 : ii ≤ 8 := by omega
  have hj8 : jj ≤ 8 := by omega
  have hs8 : tt ≤ 8 := by omega
  clear lx ly lz hx hy hz hxy nr mr hii hjj htt
  have qr0 := Hr.out.1.c0
  have qr1 := Hr.out.1.c1
  have qr2 := Hr.out.1.c2
  have kr := Hr.out.1.lt
  go_wp2_with fail
  clear qr0 qr1 qr2 kr
  refine (powF r Ar Br cr dr v16 Hr.out.2 Lr.out.1 Lr.out.2 ii hi8 x Ex.out Lx.out.1 Lx.out.2).mono ?_
  rintro e v17 ⟨Ax, cx, Bx, dx, rfl, o0, b0⟩
  replace HB := Lib.hid (below_on HB.out b0)
  replace Ha := Lib.hid (Ha.out.on b0)
  replace Hf := Lib.hid (Hf.out.on b0)
  replace HW := Lib.hid (HW.out.on b0)
  replace Hu := Lib.hid (Hu.out.on b0)
  replace Hs := Lib.hid (Hs.out.on b0)
  replace Hr := Lib.hid (Hr.out.on b0)
  have HN := Lib.hid o0
  clear o0 b0
  have qr0 := Hr.out.1.c0
  have qr1 := Hr.out.1.c1
  have qr2 := Hr.out.1.c2
  have kr := Hr.out.1.lt
  go_wp2_with fail
  clear qr0 qr1 qr2 kr
  refine calls_at (fun V => Below w.heap.size w V ∧ InBoxF V v1.heap.size a Aa ca Ba da ∧ InBoxF V v3.heap.size f Af cf Bf df ∧ InBoxF V v5.heap.size f AW cW BW dW ∧ InBoxF V v7.heap.size u Au cu Bu du ∧ InBoxF V v9.heap.size s As cs Bs ds ∧ InBoxF V v13.heap.size r Ar cr Br dr ∧ InBoxF V v17.heap.size x Ax cx Bx dx)
    ⟨below_on HB.out (below1 _ _), Ha.out.on (below1 _ _), Hf.out.on (below1 _ _), HW.out.on (below1 _ _), Hu.out.on (below1 _ _), Hs.out.on (below1 _ _), Hr.out.on (below1 _ _), InBoxF.new HN.out⟩ ?_
  rintro v18 ⟨pB, pa, pf, pW, pu, ps, pr, px⟩
  clear HB HN Ha Hf HW Hu Hs Hr
  have HB := Lib.hid pB
  have Ha := Lib.hid pa
  have Hf := Lib.hid pf
  have HW := Lib.hid pW
  have Hu := Lib.hid pu
  have Hs := Lib.hid ps
  have Hr := Lib.hid pr
  have Hx := Lib.hid px
  clear pB pa pf pW pu ps pr px
  refine (powF r Ar Br cr dr v18 Hr.out.2 Lr.out.1 Lr.out.2 jj hj8 y Ey.out Ly.out.1 Ly.out.2).mono ?_
  rintro e v19 ⟨Ay, cy, By, dy, rfl, o0, b0⟩
  replace HB := Lib.hid (below_on HB.out b0)
  replace Ha := Lib.hid (Ha.out.on b0)
  replace Hf := Lib.hid (Hf.out.on b0)
  replace HW := Lib.hid (HW.out.on b0)
  replace Hu := Lib.hid (Hu.out.on b0)
  replace Hs := Lib.hid (Hs.out.on b0)
  replace Hr := Lib.hid (Hr.out.on b0)
  replace Hx := Lib.hid (Hx.out.on b0)
  have HN := Lib.hid o0
  clear o0 b0
  have qr0 := Hr.out.1.c0
  have qr1 := Hr.out.1.c1
  have qr2 := Hr.out.1.c2
  have kr := Hr.out.1.lt
  go_wp2_with fail
  clear qr0 qr1 qr2 kr
  refine calls_at (fun V => Below w.heap.size w V ∧ InBoxF V v1.heap.size a Aa ca Ba da ∧ InBoxF V v3.heap.size f Af cf Bf df ∧ InBoxF V v5.heap.size f AW cW BW dW ∧ InBoxF V v7.heap.size u Au cu Bu du ∧ InBoxF V v9.heap.size s As cs Bs ds ∧ InBoxF V v13.heap.size r Ar cr Br dr ∧ InBoxF V v17.heap.size x Ax cx Bx dx ∧ InBoxF V v19.heap.size y Ay cy By dy)
    ⟨below_on HB.out (below1 _ _), Ha.out.on (below1 _ _), Hf.out.on (below1 _ _), HW.out.on (below1 _ _), Hu.out.on (below1 _ _), Hs.out.on (below1 _ _), Hr.out.on (below1 _ _), Hx.out.on (below1 _ _), InBoxF.new HN.out⟩ ?_
  rintro v20 ⟨pB, pa, pf, pW, pu, ps, pr, px, py⟩
  clear HB HN Ha Hf HW Hu Hs Hr Hx
  have HB := Lib.hid pB
  have Ha := Lib.hid pa
  have Hf := Lib.hid pf
  have HW := Lib.hid pW
  have Hu := Lib.hid pu
  have Hs := Lib.hid ps
  have Hr := Lib.hid pr
  have Hx := Lib.hid px
  have Hy := Lib.hid py
  clear pB pa pf pW pu ps pr px py
  refine (powF r Ar Br cr dr v20 Hr.out.2 Lr.out.1 Lr.out.2 tt hs8 z Ez.out Lz.out.1 Lz.out.2).mono ?_
  rintro e v21 ⟨Az, cz, Bz, dz, rfl, o0, b0⟩
  replace HB := Lib.hid (below_on HB.out b0)
  replace Ha := Lib.hid (Ha.out.on b0)
  replace Hf := Lib.hid (Hf.out.on b0)
  replace HW := Lib.hid (HW.out.on b0)
  replace Hu := Lib.hid (Hu.out.on b0)
  replace Hs := Lib.hid (Hs.out.on b0)
  replace Hr := Lib.hid (Hr.out.on b0)
  replace Hx := Lib.hid (Hx.out.on b0)
  replace Hy := Lib.hid (Hy.out.on b0)
  have HN := Lib.hid o0
  clear o0 b0
  have qx0 := Hx.out.1.c0
  have qx1 := Hx.out.1.c1
  have qx2 := Hx.out.1.c2
  have kx := Hx.out.1.lt
  have qy0 := Hy.out.1.c0
  have qy1 := Hy.out.1.c1
  have qy2 := Hy.out.1.c2
  have ky := Hy.out.1.lt
  go_wp2_with fail
  clear qx0 qx1 qx2 kx qy0 qy1 qy2 ky
  refine calls_at (fun V => Below w.heap.size w V ∧ InBoxF V v1.heap.size a Aa ca Ba da ∧ InBoxF V v3.heap.size f Af cf Bf df ∧ InBoxF V v5.heap.size f AW cW BW dW ∧ InBoxF V v7.heap.size u Au cu Bu du ∧ InBoxF V v9.heap.size s As cs Bs ds ∧ InBoxF V v13.heap.size r Ar cr Br dr ∧ InBoxF V v17.heap.size x Ax cx Bx dx ∧ InBoxF V v19.heap.size y Ay cy By dy ∧ InBoxF V v21.heap.size z Az cz Bz dz)
    ⟨below_on HB.out (below1 _ _), Ha.out.on (below1 _ _), Hf.out.on (below1 _ _), HW.out.on (below1 _ _), Hu.out.on (below1 _ _), Hs.out.on (below1 _ _), Hr.out.on (below1 _ _), Hx.out.on (below1 _ _), Hy.out.on (below1 _ _), InBoxF.new HN.out⟩ ?_
  rintro v22 ⟨pB, pa, pf, pW, pu, ps, pr, px, py, pz⟩
  clear HB HN Ha Hf HW Hu Hs Hr Hx Hy
  have HB := Lib.hid pB
  have Ha := Lib.hid pa
  have Hf := Lib.hid pf
  have HW := Lib.hid pW
  have Hu := Lib.hid pu
  have Hs := Lib.hid ps
  have Hr := Lib.hid pr
  have Hx := Lib.hid px
  have Hy := Lib.hid py
  have Hz := Lib.hid pz
  clear pB pa pf pW pu ps pr px py pz
  refine (mulF x y Ax Bx cx dx Ay By cy dy v22 Hx.out.2 Hy.out.2 Lx.out.1 Lx.out.2 Ly.out.1 Ly.out.2 z EP.out).mono ?_
  rintro e v23 ⟨Ap, cp, Bp, dp, rfl, o0, b0⟩
  replace HB := Lib.hid (below_on HB.out b0)
  replace Ha := Lib.hid (Ha.out.on b0)
  replace Hf := Lib.hid (Hf.out.on b0)
  replace HW := Lib.hid (HW.out.on b0)
  replace Hu := Lib.hid (Hu.out.on b0)
  replace Hs := Lib.hid (Hs.out.on b0)
  replace Hr := Lib.hid (Hr.out.on b0)
  replace Hx := Lib.hid (Hx.out.on b0)
  replace Hy := Lib.hid (Hy.out.on b0)
  replace Hz := Lib.hid (Hz.out.on b0)
  have HN := Lib.hid o0
  clear o0 b0
  have qf0 := Hf.out.1.c0
  have qf1 := Hf.out.1.c1
  have qf2 := Hf.out.1.c2
  have kf := Hf.out.1.lt
  have qW0 := HW.out.1.c0
  have qW1 := HW.out.1.c1
  have qW2 := HW.out.1.c2
  have kW := HW.out.1.lt
  go_wp2_with fail
  clear qf0 qf1 qf2 kf qW0 qW1 qW2 kW
  refine calls_at (fun V => Below w.heap.size w V ∧ InBoxF V v1.heap.size a Aa ca Ba da ∧ InBoxF V v3.heap.size f Af cf Bf df ∧ InBoxF V v5.heap.size f AW cW BW dW ∧ InBoxF V v7.heap.size u Au cu Bu du ∧ InBoxF V v9.heap.size s As cs Bs ds ∧ InBoxF V v13.heap.size r Ar cr Br dr ∧ InBoxF V v17.heap.size x Ax cx Bx dx ∧ InBoxF V v19.heap.size y Ay cy By dy ∧ InBoxF V v21.heap.size z Az cz Bz dz ∧ InBoxF V v23.heap.size z Ap cp Bp dp)
    ⟨below_on HB.out (below1 _ _), Ha.out.on (below1 _ _), Hf.out.on (below1 _ _), HW.out.on (below1 _ _), Hu.out.on (below1 _ _), Hs.out.on (below1 _ _), Hr.out.on (below1 _ _), Hx.out.on (below1 _ _), Hy.out.on (below1 _ _), Hz.out.on (below1 _ _), InBoxF.new HN.out⟩ ?_
  rintro v24 ⟨pB, pa, pf, pW, pu, ps, pr, px, py, pz, pp⟩
  clear HB HN Ha Hf HW Hu Hs Hr Hx Hy Hz
  have HB := Lib.hid pB
  have Ha := Lib.hid pa
  have Hf := Lib.hid pf
  have HW := Lib.hid pW
  have Hu := Lib.hid pu
  have Hs := Lib.hid ps
  have Hr := Lib.hid pr
  have Hx := Lib.hid px
  have Hy := Lib.hid py
  have Hz := Lib.hid pz
  have Hp := Lib.hid pp
  clear pB pa pf pW pu ps pr px py pz pp
  refine (sameRat_any f f Af Bf AW BW cf df cW dW _ _ v24 Hf.out.2 HW.out.2 (le_millF Lf.out.1) (le_millF Lf.out.2) (le_millF Lf.out.1) (le_millF Lf.out.2)).mono ?_
  rintro e v25 ⟨rfl, b0⟩
  replace HB := Lib.hid (below_on HB.out b0)
  replace Ha := Lib.hid (Ha.out.on b0)
  replace Hf := Lib.hid (Hf.out.on b0)
  replace HW := Lib.hid (HW.out.on b0)
  replace Hu := Lib.hid (Hu.out.on b0)
  replace Hs := Lib.hid (Hs.out.on b0)
  replace Hr := Lib.hid (Hr.out.on b0)
  replace Hx := Lib.hid (Hx.out.on b0)
  replace Hy := Lib.hid (Hy.out.on b0)
  replace Hz := Lib.hid (Hz.out.on b0)
  replace Hp := Lib.hid (Hp.out.on b0)
  clear b0
  rw [decide_eq_true (rfl : f = f)]
  have qf0 := Hf.out.1.c0
  have qf1 := Hf.out.1.c1
  have qf2 := Hf.out.1.c2
  have kf := Hf.out.1.lt
  go_wp2_with fail
  clear qf0 qf1 qf2 kf
  refine calls_at (fun V => Below w.heap.size w V ∧ Rd V (fun _ => True) (some ⟨v25.heap.size, 0, none⟩) 1 1 [1] ∧ InBoxF V v1.heap.size a Aa ca Ba da ∧ InBoxF V v3.heap.size f Af cf Bf df ∧ InBoxF V v5.heap.size f AW cW BW dW ∧ InBoxF V v7.heap.size u Au cu Bu du ∧ InBoxF V v9.heap.size s As cs Bs ds ∧ InBoxF V v13.heap.size r Ar cr Br dr ∧ InBoxF V v17.heap.size x Ax cx Bx dx ∧ InBoxF V v19.heap.size y Ay cy By dy ∧ InBoxF V v21.heap.size z Az cz Bz dz ∧ InBoxF V v23.heap.size z Ap cp Bp dp)
    ⟨below_on HB.out (below1 _ _), (rd_one v25 3 1).mono (fun _ _ _ => trivial), Ha.out.on (below1 _ _), Hf.out.on (below1 _ _), HW.out.on (below1 _ _), Hu.out.on (below1 _ _), Hs.out.on (below1 _ _), Hr.out.on (below1 _ _), Hx.out.on (below1 _ _), Hy.out.on (below1 _ _), Hz.out.on (below1 _ _), Hp.out.on (below1 _ _)⟩ ?_
  rintro v26 ⟨pB, pL, pa, pf, pW, pu, ps, pr, px, py, pz, pp⟩
  clear HB Ha Hf HW Hu Hs Hr Hx Hy Hz Hp
  have HB := Lib.hid pB
  have HLt := Lib.hid pL
  have Ha := Lib.hid pa
  have Hf := Lib.hid pf
  have HW := Lib.hid pW
  have Hu := Lib.hid pu
  have Hs := Lib.hid ps
  have Hr := Lib.hid pr
  have Hx := Lib.hid px
  have Hy := Lib.hid py
  have Hz := Lib.hid pz
  have Hp := Lib.hid pp
  clear pB pL pa pf pW pu ps pr px py pz pp
  refine (sameInts_any Bf (some ⟨v25.heap.size, 0, none⟩) _ df 1 1 (D f.den) [1] _ _ v26 Hf.out.2.2 HLt.out (by have := Lf.out.2; omega) (by omega)).mono ?_
  rintro e v27 ⟨rfl, dr⟩
  have b0 := dr.below v26.heap.size
  replace HB := Lib.hid (below_on HB.out b0)
  replace Ha := Lib.hid (Ha.out.on b0)
  replace Hf := Lib.hid (Hf.out.on b0)
  replace HW := Lib.hid (HW.out.on b0)
  replace Hu := Lib.hid (Hu.out.on b0)
  replace Hs := Lib.hid (Hs.out.on b0)
  replace Hr := Lib.hid (Hr.out.on b0)
  replace Hx := Lib.hid (Hx.out.on b0)
  replace Hy := Lib.hid (Hy.out.on b0)
  replace Hz := Lib.hid (Hz.out.on b0)
  replace Hp := Lib.hid (Hp.out.on b0)
  rw [decide_eq_true HFD.out]
  clear b0 dr HLt
  have dk : decide (kk ≤ 0) = true := decide_eq_true HKB.out
  have qp0 := Hp.out.1.c0
  have qp1 := Hp.out.1.c1
  have qp2 := Hp.out.1.c2
  have kp := Hp.out.1.lt
  have qz0 := Hz.out.1.c0
  have qz1 := Hz.out.1.c1
  have qz2 := Hz.out.1.c2
  have kz := Hz.out.1.lt
  go_wp2_with fail
  clear qp0 qp1 qp2 kp qz0 qz1 qz2 kz
  refine (sameRat_any z z Ap Bp Az Bz cp dp cz dz _ _ v27 Hp.out.2 Hz.out.2 (le_millF Lz.out.1) (le_millF Lz.out.2) (le_millF Lz.out.1) (le_millF Lz.out.2)).mono ?_
  rintro e v28 ⟨rfl, b0⟩
  replace HB := Lib.hid (below_on HB.out b0)
  replace Ha := Lib.hid (Ha.out.on b0)
  replace Hf := Lib.hid (Hf.out.on b0)
  replace HW := Lib.hid (HW.out.on b0)
  replace Hu := Lib.hid (Hu.out.on b0)
  replace Hs := Lib.hid (Hs.out.on b0)
  replace Hr := Lib.hid (Hr.out.on b0)
  replace Hx := Lib.hid (Hx.out.on b0)
  replace Hy := Lib.hid (Hy.out.on b0)
  replace Hz := Lib.hid (Hz.out.on b0)
  replace Hp := Lib.hid (Hp.out.on b0)
  clear b0
  rw [decide_eq_true (rfl : z = z)]
  go_wp2
  go_ret
  exact ⟨rfl, HB.out⟩
end Go.Proofs.YtgeijojkfojfbaaDoor
