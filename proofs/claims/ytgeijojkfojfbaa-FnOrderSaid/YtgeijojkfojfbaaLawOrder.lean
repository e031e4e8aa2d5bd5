/-
  The law FnOrder. No condition but the length of the codes.
-/
import Derived.Test.YtgeijojkfojfbaaRatSame
import Derived.Test.YtgeijojkfojfbaaCmpRat
import Derived.ProofKit
import Derived.OpenShut
import Derived.ShutString
import Derived.ChangeOld
namespace Nt
open Go Go.RowKit
theorem cmpQ_swap (a b : Rat) : cmpQ b a = - cmpQ a b := by
  have h : b - a = -(a - b) := by grind
  unfold cmpQ
  rw [h, Rat.neg_num, Int.sign_neg]
theorem cmpQ_shift (a b c : Rat) : cmpQ (a + c) (b + c) = cmpQ a b := by
  have h : (a + c) - (b + c) = a - b := by grind
  unfold cmpQ
  rw [h]
theorem cmpQ_zero (a b : Rat) : (cmpQ a b == 0) = decide (a = b) := by
  unfold cmpQ
  rw [Bool.eq_iff_iff, beq_iff_eq, decide_eq_true_iff, Int.sign_eq_zero_iff_zero, Rat.num_eq_zero]
  constructor
  · intro h
    grind
  · intro h
    grind
theorem cmpQ_range (a b : Rat) : -1 ≤ cmpQ a b ∧ cmpQ a b ≤ 1 := by
  unfold cmpQ
  rcases Int.lt_trichotomy (a - b).num 0 with h | h | h
  · rw [Int.sign_eq_neg_one_of_neg h]; decide
  · rw [h]; decide
  · rw [Int.sign_eq_one_of_pos h]; decide
theorem absQ_sq (a : Rat) : absQ a * absQ a = a * a := by
  unfold absQ
  split
  · grind
  · rfl
end Nt
namespace Go.Proofs.Ytgeijojkfojfbaa
open Go Go.RowKit Nt
open Go.ChangeShapes Go.WideShapes Go.ChangeAt
open Go.ChangeMaps (open_string shut_string)

/-- a box that holds a rational -/
def InBox (w : World) (g : Nat) (r : Rat) (A : Option Addr) (ca : Nat) (B : Option Addr) (cb : Nat) : Prop :=
  RatAt w g 43 (isNeg r) A (D (nu r)).length ca B (D r.den).length cb ∧ RdR w (fun _ => True) (D (nu r)) (D r.den) A ca B cb
theorem InBox.on {w w' : World} {g : Nat} {r : Rat} {A : Option Addr} {ca : Nat} {B : Option Addr} {cb : Nat} (h : InBox w g r A ca B cb) (hb : Below w.heap.size w w') : InBox w' g r A ca B cb := ⟨h.1.on hb, h.2.on hb⟩
theorem InBox.new {w : World} {r : Rat} {A : Option Addr} {ca : Nat} {B : Option Addr} {cb : Nat} (h : RdR w (fun _ => True) (D (nu r)) (D r.den) A ca B cb) : InBox (w.alloc (.cells #[.bool (isNeg r), .slice A (D (nu r)).length ca, .slice B (D r.den).length cb] 43)) w.heap.size r A ca B cb := ⟨RatAt.new _ _ _ _ _ _ _ _ _, h.on (below1 _ _)⟩
theorem ret_say {t : TypeId} {w w' : World} {n : Bool} {xs ys : List Int} {code : Int} {e : Ending} (h : RetRC t w n xs ys code e w') : SayRC' w n xs ys code e w' := by
  obtain ⟨A, c, B, d, he, o, b⟩ := h
  exact ⟨A, c, B, d, he, o.rdt, b⟩
theorem le_mill {n : Nat} (h : n ≤ 10) : n ≤ 400 := by omega
theorem lt_top {n : Nat} (h : (D n).length ≤ 10) : n < Top := (D_len_le n 40).1 (by omega)

theorem addB (a b : Rat) (A B : Option Addr) (ca cb : Nat) (A' B' : Option Addr) (ca' cb' : Nat) (w : World) (h0 : RdR w (fun _ => True) (D (nu a)) (D a.den) A ca B cb) (h1 : RdR w (fun _ => True) (D (nu b)) (D b.den) A' ca' B' cb') (l1 : (D (nu a)).length ≤ 10) (l2 : (D a.den).length ≤ 10) (l3 : (D (nu b)).length ≤ 10) (l4 : (D b.den).length ≤ 10) (r : Rat) (hr : a + b = r) :
    Calls Try.prog 29 #[.agg #[.bool (isNeg a), .slice A (D (nu a)).length ca, .slice B (D a.den).length cb], .agg #[.bool (isNeg b), .slice A' (D (nu b)).length ca', .slice B' (D b.den).length cb']] w (SayRC' w (isNeg r) (D (nu r)) (D r.den) 0) := by
  have hl := add_lens a b
  have h := implAddRat_ok a b A B ca cb A' B' ca' cb' _ _ w h0 h1 (by omega) (by omega) (by omega) (by omega) (lt_top l1) (lt_top l2) (lt_top l3) (lt_top l4)
  rw [hr] at h hl
  have hf : fitQ r := ⟨by omega, by omega⟩
  have x1 : fN r = isNeg r := by unfold fN; rw [if_pos hf]
  have x2 : fX r = D (nu r) := by unfold fX; rw [if_pos hf]
  have x3 : fY r = D r.den := by unfold fY; rw [if_pos hf]
  have x4 : fK r = 0 := by unfold fK; rw [if_pos hf]
  rw [x1, x2, x3, x4] at h
  exact h.mono fun _ _ h => ret_say h

theorem mulB (a b : Rat) (A B : Option Addr) (ca cb : Nat) (A' B' : Option Addr) (ca' cb' : Nat) (w : World) (h0 : RdR w (fun _ => True) (D (nu a)) (D a.den) A ca B cb) (h1 : RdR w (fun _ => True) (D (nu b)) (D b.den) A' ca' B' cb') (l1 : (D (nu a)).length ≤ 10) (l2 : (D a.den).length ≤ 10) (l3 : (D (nu b)).length ≤ 10) (l4 : (D b.den).length ≤ 10) (r : Rat) (hr : a * b = r) :
    Calls Try.prog 31 #[.agg #[.bool (isNeg a), .slice A (D (nu a)).length ca, .slice B (D a.den).length cb], .agg #[.bool (isNeg b), .slice A' (D (nu b)).length ca', .slice B' (D b.den).length cb']] w (SayRC' w (isNeg r) (D (nu r)) (D r.den) 0) := by
  have hl := mul_lens a b
  have h := implMulRat_ok a b A B ca cb A' B' ca' cb' _ _ w h0 h1 (by omega) (by omega) (by omega) (by omega) (lt_top l1) (lt_top l2) (lt_top l3) (lt_top l4)
  rw [hr] at h hl
  have hf : fitQ r := ⟨by omega, by omega⟩
  have x1 : fN r = isNeg r := by unfold fN; rw [if_pos hf]
  have x2 : fX r = D (nu r) := by unfold fX; rw [if_pos hf]
  have x3 : fY r = D r.den := by unfold fY; rw [if_pos hf]
  have x4 : fK r = 0 := by unfold fK; rw [if_pos hf]
  rw [x1, x2, x3, x4] at h
  exact h.mono fun _ _ h => ret_say h

theorem cmpIB (a b : Rat) (A B : Option Addr) (ca cb : Nat) (A' B' : Option Addr) (ca' cb' : Nat) (w : World) (h0 : RdR w (fun _ => True) (D (nu a)) (D a.den) A ca B cb) (h1 : RdR w (fun _ => True) (D (nu b)) (D b.den) A' ca' B' cb') (l1 : (D (nu a)).length ≤ 10) (l2 : (D a.den).length ≤ 10) (l3 : (D (nu b)).length ≤ 10) (l4 : (D b.den).length ≤ 10) (k : Int) (hk : cmpQ a b = k) :
    Calls Try.prog 27 #[.agg #[.bool (isNeg a), .slice A (D (nu a)).length ca, .slice B (D a.den).length cb], .agg #[.bool (isNeg b), .slice A' (D (nu b)).length ca', .slice B' (D b.den).length cb']] w fun e w' => e = .returned (.tuple #[.int .i64 k, .int .i64 0]) ∧ Below w.heap.size w w' := by
  have h := implCmpRat_ok a b A B ca cb A' B' ca' cb' _ _ w h0 h1 (by omega) (by omega) (by omega) (by omega) (lt_top l1) (lt_top l2) (lt_top l3) (lt_top l4)
  rw [hk] at h
  exact h

theorem cmpSB (a b : Rat) (A B : Option Addr) (ca cb : Nat) (A' B' : Option Addr) (ca' cb' : Nat) (w : World) (h0 : RdR w (fun _ => True) (D (nu a)) (D a.den) A ca B cb) (h1 : RdR w (fun _ => True) (D (nu b)) (D b.den) A' ca' B' cb') (l1 : (D (nu a)).length ≤ 10) (l2 : (D a.den).length ≤ 10) (l3 : (D (nu b)).length ≤ 10) (l4 : (D b.den).length ≤ 10) (k : Int) (hk : cmpQ a b = k) :
    Calls Try.prog 28 #[.agg #[.bool (isNeg a), .slice A (D (nu a)).length ca, .slice B (D a.den).length cb], .agg #[.bool (isNeg b), .slice A' (D (nu b)).length ca', .slice B' (D b.den).length cb']] w fun e w' => e = .returned (.tuple #[.int .i64 k, .int .i64 0]) ∧ Below w.heap.size w w' := by
  have h := specCmpRat_ok a b A B ca cb A' B' ca' cb' _ _ w h0 h1 (by omega) (by omega) (by omega) (by omega) (lt_top l1) (lt_top l2) (lt_top l3) (lt_top l4)
  rw [hk] at h
  exact h

theorem absB (a : Rat) (A B : Option Addr) (ca cb : Nat) (w : World) (h0 : RdR w (fun _ => True) (D (nu a)) (D a.den) A ca B cb) (l1 : (D (nu a)).length ≤ 10) (l2 : (D a.den).length ≤ 10) (r : Rat) (hr : absQ a = r) :
    Calls Try.prog 30 #[.agg #[.bool (isNeg a), .slice A (D (nu a)).length ca, .slice B (D a.den).length cb]] w (SayRC' w (isNeg r) (D (nu r)) (D r.den) 0) := by
  have h := implAbsRat_ok a A B ca cb w (h0.mono fun _ _ h => h) (lt_top l1) (lt_top l2)
  rw [hr] at h
  exact h.mono fun _ _ h => ret_say h

set_option maxRecDepth 20000 in
set_option maxHeartbeats 12800000 in
theorem lawOrder_any (pA : Option Addr) (pn pc : Nat) (qA : Option Addr) (qn qc : Nat) (w : World) (hp : RdB w (· < w.heap.size) pA pn) (ple : pn ≤ 9223372036854775807) (hq : RdB w (· < w.heap.size) qA qn) (qle : qn ≤ 9223372036854775807) :
    Calls Try.prog 8 #[.slice pA pn pc, .slice qA qn qc] w fun e w' => e = .returned (.bool true) ∧ Below w.heap.size w w' := by
  have Rp := Lib.hid hp
  clear hp
  have Rq := Lib.hid hq
  clear hq
  by_cases bigp : 1048576 < pn
  · have bigp' : (1048576 : Int) < pn := by omega
    go_enter Try.func8, Try.ntmps8
    go_wp2
    go_ret
    exact ⟨rfl, Below.refl _ _⟩
  have smp : (pn : Int) ≤ 1048576 := by omega
  by_cases bigq : 1048576 < qn
  · have bigq' : (1048576 : Int) < qn := by omega
    go_enter Try.func8, Try.ntmps8
    go_wp2
    go_ret
    exact ⟨rfl, Below.refl _ _⟩
  have smq : (qn : Int) ≤ 1048576 := by omega
  go_enter Try.func8, Try.ntmps8
  go_wp2_with fail
  refine (ratDrawn_any pA pn pc w Rp.out (by omega)).mono ?_
  rintro e v1 ⟨a, na, ma, Aa, ca, Ba, da, rfl, o, b⟩
  have HB := Lib.hid b
  have HN := Lib.hid o
  clear o b
  go_wp2_with fail
  refine calls_at (fun V => v1.heap.size < V.heap.size ∧ Below w.heap.size w V ∧ InBox V v1.heap.size a Aa ca Ba da)
    ⟨by simp, below_on HB.out (below1 _ _), InBox.new HN.out⟩ ?_
  rintro v2 ⟨_, pB, pa⟩
  clear HB HN 
  have HB := Lib.hid pB
  have Ha := Lib.hid pa
  clear pB pa
  refine (wideRat_any qA qn qc v2 ((Rq.out.below HB.out).mono fun _ _ h => h) (by omega)).mono ?_
  rintro e v3 ⟨b, nb, mb, Ab, cb, Bb, db, rfl, o, b⟩
  replace HB := Lib.hid (below_on HB.out b)
  replace Ha := Lib.hid (Ha.out.on b)
  have HN := Lib.hid o
  clear o b
  go_wp2_with fail
  refine calls_at (fun V => v3.heap.size < V.heap.size ∧ Below w.heap.size w V ∧ InBox V v1.heap.size a Aa ca Ba da ∧ InBox V v3.heap.size b Ab cb Bb db)
    ⟨by simp, below_on HB.out (below1 _ _), Ha.out.on (below1 _ _), InBox.new HN.out⟩ ?_
  rintro v4 ⟨_, pB, pa, pb⟩
  clear HB HN Ha
  have HB := Lib.hid pB
  have Ha := Lib.hid pa
  have Hb := Lib.hid pb
  clear pB pa pb
  refine (ratDrawn_any qA qn qc v4 ((Rq.out.below HB.out).mono fun _ _ h => h) (by omega)).mono ?_
  rintro e v5 ⟨c, nc, mc, Ac, cc, Bc, dc, rfl, o, b⟩
  replace HB := Lib.hid (below_on HB.out b)
  replace Ha := Lib.hid (Ha.out.on b)
  replace Hb := Lib.hid (Hb.out.on b)
  have HN := Lib.hid o
  clear o b
  obtain ⟨x, hx⟩ : ∃ x, a + c = x := ⟨_, rfl⟩
  obtain ⟨y, hy⟩ : ∃ y, b + c = y := ⟨_, rfl⟩
  obtain ⟨u, hu⟩ : ∃ u, absQ a = u := ⟨_, rfl⟩
  obtain ⟨s, hs⟩ : ∃ s, a * a = s := ⟨_, rfl⟩
  obtain ⟨t, ht⟩ : ∃ t, u * u = t := ⟨_, rfl⟩
  obtain ⟨k, hk⟩ : ∃ k, cmpQ a b = k := ⟨_, rfl⟩
  obtain ⟨d, hd⟩ : ∃ d, decide (a = b) = d := ⟨_, rfl⟩
  have lx := add_lens a c
  have ly := add_lens b c
  have ls := mul_lens a a
  have lu := abs_parts a
  rw [hx] at lx
  rw [hy] at ly
  rw [hs] at ls
  rw [hu] at lu
  have nx : (D (nu x)).length ≤ 5 := by omega
  have mx : (D x.den).length ≤ 4 := by omega
  have ny : (D (nu y)).length ≤ 7 := by omega
  have my : (D y.den).length ≤ 6 := by omega
  have ns : (D (nu s)).length ≤ 4 := by omega
  have ms : (D s.den).length ≤ 4 := by omega
  have nu' : (D (nu u)).length ≤ 2 := by rw [lu.1]; exact na
  have mu : (D u.den).length ≤ 2 := by rw [lu.2.1]; exact ma
  have lt' := mul_lens u u
  rw [ht] at lt'
  have nt : (D (nu t)).length ≤ 4 := by omega
  have mt : (D t.den).length ≤ 4 := by omega
  have zu : isNeg u = false := lu.2.2
  have kr := cmpQ_range a b
  rw [hk] at kr
  have KR := Lib.hid kr
  have HK := Lib.hid hk
  have HK1 : Hid (cmpQ b a = -k) := Lib.hid (by rw [cmpQ_swap, hk])
  have HK2 : Hid (cmpQ x y = k) := Lib.hid (by rw [← hx, ← hy, cmpQ_shift, hk])
  have HK3 : Hid ((k == 0) = d) := Lib.hid (by rw [← hk, cmpQ_zero, hd])
  have HX := Lib.hid hx
  have HY := Lib.hid hy
  have HU := Lib.hid hu
  have HS := Lib.hid hs
  have HT := Lib.hid ht
  have HD := Lib.hid hd
  have HE : Hid (decide (s = t) = true) := Lib.hid (by rw [← hs, ← ht, ← hu, absQ_sq]; simp)
  have e1 : (k == k) = true := by simp
  have e2 : (-k == -k) = true := by simp
  have e3 : (d == d) = true := by simp
  have La : Hid ((D (nu a)).length ≤ 10 ∧ (D a.den).length ≤ 10) := Lib.hid ⟨by omega, by omega⟩
  have Lb : Hid ((D (nu b)).length ≤ 10 ∧ (D b.den).length ≤ 10) := Lib.hid ⟨by omega, by omega⟩
  have Lc : Hid ((D (nu c)).length ≤ 10 ∧ (D c.den).length ≤ 10) := Lib.hid ⟨by omega, by omega⟩
  have Lx : Hid ((D (nu x)).length ≤ 10 ∧ (D x.den).length ≤ 10) := Lib.hid ⟨by omega, by omega⟩
  have Ly : Hid ((D (nu y)).length ≤ 10 ∧ (D y.den).length ≤ 10) := Lib.hid ⟨by omega, by omega⟩
  have Lu : Hid ((D (nu u)).length ≤ 10 ∧ (D u.den).length ≤ 10) := Lib.hid ⟨by omega, by omega⟩
  have Ls : Hid ((D (nu s)).length ≤ 10 ∧ (D s.den).length ≤ 10) := Lib.hid ⟨by omega, by omega⟩
  have Lt : Hid ((D (nu t)).length ≤ 10 ∧ (D t.den).length ≤ 10) := Lib.hid ⟨by omega, by omega⟩
  have ZU := Lib.hid zu
  clear lx ly ls lu lt' kr hx hy hu hs ht hk hd na ma nb mb nc mc nx mx ny my ns ms nu' mu nt mt zu e1 e2 e3 ple qle smp smq bigp bigq
  have qa0 := Ha.out.1.c0
  have qa1 := Ha.out.1.c1
  have qa2 := Ha.out.1.c2
  have ka := Ha.out.1.lt
  have qb0 := Hb.out.1.c0
  have qb1 := Hb.out.1.c1
  have qb2 := Hb.out.1.c2
  have kb := Hb.out.1.lt
  go_wp2_with fail
  clear qa0 qa1 qa2 ka qb0 qb1 qb2 kb
  refine calls_at (fun V => v5.heap.size < V.heap.size ∧ Below w.heap.size w V ∧ InBox V v1.heap.size a Aa ca Ba da ∧ InBox V v3.heap.size b Ab cb Bb db ∧ InBox V v5.heap.size c Ac cc Bc dc)
    ⟨by simp, below_on HB.out (below1 _ _), Ha.out.on (below1 _ _), Hb.out.on (below1 _ _), InBox.new HN.out⟩ ?_
  rintro v6 ⟨_, pB, pa, pb, pc⟩
  clear HB HN Ha Hb
  have HB := Lib.hid pB
  have Ha := Lib.hid pa
  have Hb := Lib.hid pb
  have Hc := Lib.hid pc
  clear pB pa pb pc
  refine (cmpIB a b Aa Ba ca da Ab Bb cb db v6 Ha.out.2 Hb.out.2 La.out.1 La.out.2 Lb.out.1 Lb.out.2 k HK.out).mono ?_
  rintro e v7 ⟨rfl, b⟩
  replace HB := Lib.hid (below_on HB.out b)
  replace Ha := Lib.hid (Ha.out.on b)
  replace Hb := Lib.hid (Hb.out.on b)
  replace Hc := Lib.hid (Hc.out.on b)
  clear b
  have qa0 := Ha.out.1.c0
  have qa1 := Ha.out.1.c1
  have qa2 := Ha.out.1.c2
  have ka := Ha.out.1.lt
  have qb0 := Hb.out.1.c0
  have qb1 := Hb.out.1.c1
  have qb2 := Hb.out.1.c2
  have kb := Hb.out.1.lt
  go_wp2_with fail
  clear qa0 qa1 qa2 ka qb0 qb1 qb2 kb
  refine (cmpSB a b Aa Ba ca da Ab Bb cb db v7 Ha.out.2 Hb.out.2 La.out.1 La.out.2 Lb.out.1 Lb.out.2 k HK.out).mono ?_
  rintro e v8 ⟨rfl, b⟩
  replace HB := Lib.hid (below_on HB.out b)
  replace Ha := Lib.hid (Ha.out.on b)
  replace Hb := Lib.hid (Hb.out.on b)
  replace Hc := Lib.hid (Hc.out.on b)
  clear b
  have qb0 := Hb.out.1.c0
  have qb1 := Hb.out.1.c1
  have qb2 := Hb.out.1.c2
  have kb := Hb.out.1.lt
  have qa0 := Ha.out.1.c0
  have qa1 := Ha.out.1.c1
  have qa2 := Ha.out.1.c2
  have ka := Ha.out.1.lt
  go_wp2_with fail
  clear qb0 qb1 qb2 kb qa0 qa1 qa2 ka
  refine (cmpIB b a Ab Bb cb db Aa Ba ca da v8 Hb.out.2 Ha.out.2 Lb.out.1 Lb.out.2 La.out.1 La.out.2 (-k) HK1.out).mono ?_
  rintro e v9 ⟨rfl, b⟩
  replace HB := Lib.hid (below_on HB.out b)
  replace Ha := Lib.hid (Ha.out.on b)
  replace Hb := Lib.hid (Hb.out.on b)
  replace Hc := Lib.hid (Hc.out.on b)
  clear b
  have qa0 := Ha.out.1.c0
  have qa1 := Ha.out.1.c1
  have qa2 := Ha.out.1.c2
  have ka := Ha.out.1.lt
  have qc0 := Hc.out.1.c0
  have qc1 := Hc.out.1.c1
  have qc2 := Hc.out.1.c2
  have kc := Hc.out.1.lt
  go_wp2_with fail
  clear qa0 qa1 qa2 ka qc0 qc1 qc2 kc
  refine (addB a c Aa Ba ca da Ac Bc cc dc v9 Ha.out.2 Hc.out.2 La.out.1 La.out.2 Lc.out.1 Lc.out.2 x HX.out).mono ?_
  rintro e v10 ⟨Ax, cx, Bx, dx, rfl, o, b⟩
  replace HB := Lib.hid (below_on HB.out b)
  replace Ha := Lib.hid (Ha.out.on b)
  replace Hb := Lib.hid (Hb.out.on b)
  replace Hc := Lib.hid (Hc.out.on b)
  have HN := Lib.hid o
  clear o b
  have qb0 := Hb.out.1.c0
  have qb1 := Hb.out.1.c1
  have qb2 := Hb.out.1.c2
  have kb := Hb.out.1.lt
  have qc0 := Hc.out.1.c0
  have qc1 := Hc.out.1.c1
  have qc2 := Hc.out.1.c2
  have kc := Hc.out.1.lt
  go_wp2_with fail
  clear qb0 qb1 qb2 kb qc0 qc1 qc2 kc
  refine calls_at (fun V => v10.heap.size < V.heap.size ∧ Below w.heap.size w V ∧ InBox V v1.heap.size a Aa ca Ba da ∧ InBox V v3.heap.size b Ab cb Bb db ∧ InBox V v5.heap.size c Ac cc Bc dc ∧ InBox V v10.heap.size x Ax cx Bx dx)
    ⟨by simp, below_on HB.out (below1 _ _), Ha.out.on (below1 _ _), Hb.out.on (below1 _ _), Hc.out.on (below1 _ _), InBox.new HN.out⟩ ?_
  rintro v11 ⟨_, pB, pa, pb, pc, px⟩
  clear HB HN Ha Hb Hc
  have HB := Lib.hid pB
  have Ha := Lib.hid pa
  have Hb := Lib.hid pb
  have Hc := Lib.hid pc
  have Hx := Lib.hid px
  clear pB pa pb pc px
  refine (addB b c Ab Bb cb db Ac Bc cc dc v11 Hb.out.2 Hc.out.2 Lb.out.1 Lb.out.2 Lc.out.1 Lc.out.2 y HY.out).mono ?_
  rintro e v12 ⟨Ay, cy, By, dy, rfl, o, b⟩
  replace HB := Lib.hid (below_on HB.out b)
  replace Ha := Lib.hid (Ha.out.on b)
  replace Hb := Lib.hid (Hb.out.on b)
  replace Hc := Lib.hid (Hc.out.on b)
  replace Hx := Lib.hid (Hx.out.on b)
  have HN := Lib.hid o
  clear o b
  have qx0 := Hx.out.1.c0
  have qx1 := Hx.out.1.c1
  have qx2 := Hx.out.1.c2
  have kx := Hx.out.1.lt
  go_wp2_with fail
  clear qx0 qx1 qx2 kx
  refine calls_at (fun V => v12.heap.size < V.heap.size ∧ Below w.heap.size w V ∧ InBox V v1.heap.size a Aa ca Ba da ∧ InBox V v3.heap.size b Ab cb Bb db ∧ InBox V v5.heap.size c Ac cc Bc dc ∧ InBox V v10.heap.size x Ax cx Bx dx ∧ InBox V v12.heap.size y Ay cy By dy)
    ⟨by simp, below_on HB.out (below1 _ _), Ha.out.on (below1 _ _), Hb.out.on (below1 _ _), Hc.out.on (below1 _ _), Hx.out.on (below1 _ _), InBox.new HN.out⟩ ?_
  rintro v13 ⟨_, pB, pa, pb, pc, px, py⟩
  clear HB HN Ha Hb Hc Hx
  have HB := Lib.hid pB
  have Ha := Lib.hid pa
  have Hb := Lib.hid pb
  have Hc := Lib.hid pc
  have Hx := Lib.hid px
  have Hy := Lib.hid py
  clear pB pa pb pc px py
  refine (cmpIB x y Ax Bx cx dx Ay By cy dy v13 Hx.out.2 Hy.out.2 Lx.out.1 Lx.out.2 Ly.out.1 Ly.out.2 k HK2.out).mono ?_
  rintro e v14 ⟨rfl, b⟩
  replace HB := Lib.hid (below_on HB.out b)
  replace Ha := Lib.hid (Ha.out.on b)
  replace Hb := Lib.hid (Hb.out.on b)
  replace Hc := Lib.hid (Hc.out.on b)
  replace Hx := Lib.hid (Hx.out.on b)
  replace Hy := Lib.hid (Hy.out.on b)
  clear b
  have qa0 := Ha.out.1.c0
  have qa1 := Ha.out.1.c1
  have qa2 := Ha.out.1.c2
  have ka := Ha.out.1.lt
  go_wp2_with fail
  clear qa0 qa1 qa2 ka
  refine (absB a Aa Ba ca da v14 Ha.out.2 La.out.1 La.out.2 u HU.out).mono ?_
  rintro e v15 ⟨Au, cu, Bu, du, rfl, o, b⟩
  replace HB := Lib.hid (below_on HB.out b)
  replace Ha := Lib.hid (Ha.out.on b)
  replace Hb := Lib.hid (Hb.out.on b)
  replace Hc := Lib.hid (Hc.out.on b)
  replace Hx := Lib.hid (Hx.out.on b)
  replace Hy := Lib.hid (Hy.out.on b)
  have HN := Lib.hid o
  clear o b
  have qa0 := Ha.out.1.c0
  have qa1 := Ha.out.1.c1
  have qa2 := Ha.out.1.c2
  have ka := Ha.out.1.lt
  go_wp2_with fail
  clear qa0 qa1 qa2 ka
  refine calls_at (fun V => v15.heap.size < V.heap.size ∧ Below w.heap.size w V ∧ InBox V v1.heap.size a Aa ca Ba da ∧ InBox V v3.heap.size b Ab cb Bb db ∧ InBox V v5.heap.size c Ac cc Bc dc ∧ InBox V v10.heap.size x Ax cx Bx dx ∧ InBox V v12.heap.size y Ay cy By dy ∧ InBox V v15.heap.size u Au cu Bu du)
    ⟨by simp, below_on HB.out (below1 _ _), Ha.out.on (below1 _ _), Hb.out.on (below1 _ _), Hc.out.on (below1 _ _), Hx.out.on (below1 _ _), Hy.out.on (below1 _ _), InBox.new HN.out⟩ ?_
  rintro v16 ⟨_, pB, pa, pb, pc, px, py, pu⟩
  clear HB HN Ha Hb Hc Hx Hy
  have HB := Lib.hid pB
  have Ha := Lib.hid pa
  have Hb := Lib.hid pb
  have Hc := Lib.hid pc
  have Hx := Lib.hid px
  have Hy := Lib.hid py
  have Hu := Lib.hid pu
  clear pB pa pb pc px py pu
  refine (mulB a a Aa Ba ca da Aa Ba ca da v16 Ha.out.2 Ha.out.2 La.out.1 La.out.2 La.out.1 La.out.2 s HS.out).mono ?_
  rintro e v17 ⟨As, cs, Bs, ds, rfl, o, b⟩
  replace HB := Lib.hid (below_on HB.out b)
  replace Ha := Lib.hid (Ha.out.on b)
  replace Hb := Lib.hid (Hb.out.on b)
  replace Hc := Lib.hid (Hc.out.on b)
  replace Hx := Lib.hid (Hx.out.on b)
  replace Hy := Lib.hid (Hy.out.on b)
  replace Hu := Lib.hid (Hu.out.on b)
  have HN := Lib.hid o
  clear o b
  have qu0 := Hu.out.1.c0
  have qu1 := Hu.out.1.c1
  have qu2 := Hu.out.1.c2
  have ku := Hu.out.1.lt
  go_wp2_with fail
  clear qu0 qu1 qu2 ku
  refine calls_at (fun V => v17.heap.size < V.heap.size ∧ Below w.heap.size w V ∧ InBox V v1.heap.size a Aa ca Ba da ∧ InBox V v3.heap.size b Ab cb Bb db ∧ InBox V v5.heap.size c Ac cc Bc dc ∧ InBox V v10.heap.size x Ax cx Bx dx ∧ InBox V v12.heap.size y Ay cy By dy ∧ InBox V v15.heap.size u Au cu Bu du ∧ InBox V v17.heap.size s As cs Bs ds)
    ⟨by simp, below_on HB.out (below1 _ _), Ha.out.on (below1 _ _), Hb.out.on (below1 _ _), Hc.out.on (below1 _ _), Hx.out.on (below1 _ _), Hy.out.on (below1 _ _), Hu.out.on (below1 _ _), InBox.new HN.out⟩ ?_
  rintro v18 ⟨_, pB, pa, pb, pc, px, py, pu, ps⟩
  clear HB HN Ha Hb Hc Hx Hy Hu
  have HB := Lib.hid pB
  have Ha := Lib.hid pa
  have Hb := Lib.hid pb
  have Hc := Lib.hid pc
  have Hx := Lib.hid px
  have Hy := Lib.hid py
  have Hu := Lib.hid pu
  have Hs := Lib.hid ps
  clear pB pa pb pc px py pu ps
  refine (mulB u u Au Bu cu du Au Bu cu du v18 Hu.out.2 Hu.out.2 Lu.out.1 Lu.out.2 Lu.out.1 Lu.out.2 t HT.out).mono ?_
  rintro e v19 ⟨At, ct, Bt, dt, rfl, o, b⟩
  replace HB := Lib.hid (below_on HB.out b)
  replace Ha := Lib.hid (Ha.out.on b)
  replace Hb := Lib.hid (Hb.out.on b)
  replace Hc := Lib.hid (Hc.out.on b)
  replace Hx := Lib.hid (Hx.out.on b)
  replace Hy := Lib.hid (Hy.out.on b)
  replace Hu := Lib.hid (Hu.out.on b)
  replace Hs := Lib.hid (Hs.out.on b)
  have HN := Lib.hid o
  clear o b
  have hkd := HK3.out
  obtain ⟨k1, k2⟩ := KR.out
  have zu := ZU.out
  have e1 : (k == k) = true := by simp
  have e2 : (-k == -k) = true := by simp
  have e3 : (d == d) = true := by simp
  have qu0 := Hu.out.1.c0
  have qu1 := Hu.out.1.c1
  have qu2 := Hu.out.1.c2
  rw [zu] at qu0
  have ku := Hu.out.1.lt
  have qs0 := Hs.out.1.c0
  have qs1 := Hs.out.1.c1
  have qs2 := Hs.out.1.c2
  have ks := Hs.out.1.lt
  go_wp2_with fail
  clear qs0 qs1 qs2 ks
  refine calls_at (fun V => v19.heap.size < V.heap.size ∧ Below w.heap.size w V ∧ InBox V v1.heap.size a Aa ca Ba da ∧ InBox V v3.heap.size b Ab cb Bb db ∧ InBox V v5.heap.size c Ac cc Bc dc ∧ InBox V v10.heap.size x Ax cx Bx dx ∧ InBox V v12.heap.size y Ay cy By dy ∧ InBox V v15.heap.size u Au cu Bu du ∧ InBox V v17.heap.size s As cs Bs ds ∧ InBox V v19.heap.size t At ct Bt dt)
    ⟨by simp, below_on HB.out (below1 _ _), Ha.out.on (below1 _ _), Hb.out.on (below1 _ _), Hc.out.on (below1 _ _), Hx.out.on (below1 _ _), Hy.out.on (below1 _ _), Hu.out.on (below1 _ _), Hs.out.on (below1 _ _), InBox.new HN.out⟩ ?_
  rintro v20 ⟨_, pB, pa, pb, pc, px, py, pu, ps, pt⟩
  clear HB HN Ha Hb Hc Hx Hy Hu Hs
  have HB := Lib.hid pB
  have Ha := Lib.hid pa
  have Hb := Lib.hid pb
  have Hc := Lib.hid pc
  have Hx := Lib.hid px
  have Hy := Lib.hid py
  have Hu := Lib.hid pu
  have Hs := Lib.hid ps
  have Ht := Lib.hid pt
  clear pB pa pb pc px py pu ps pt
  clear qu0 qu1 qu2 ku
  refine (sameRat_any s t As Bs At Bt cs ds ct dt _ _ v20 Hs.out.2 Ht.out.2 (le_mill Ls.out.1) (le_mill Ls.out.2) (le_mill Lt.out.1) (le_mill Lt.out.2)).mono ?_
  rintro e v21 ⟨rfl, b⟩
  replace HB := Lib.hid (below_on HB.out b)
  replace Ha := Lib.hid (Ha.out.on b)
  replace Hb := Lib.hid (Hb.out.on b)
  replace Hc := Lib.hid (Hc.out.on b)
  replace Hx := Lib.hid (Hx.out.on b)
  replace Hy := Lib.hid (Hy.out.on b)
  replace Hu := Lib.hid (Hu.out.on b)
  replace Hs := Lib.hid (Hs.out.on b)
  replace Ht := Lib.hid (Ht.out.on b)
  clear b
  rw [HE.out]
  have qa0 := Ha.out.1.c0
  have qa1 := Ha.out.1.c1
  have qa2 := Ha.out.1.c2
  have ka := Ha.out.1.lt
  have qb0 := Hb.out.1.c0
  have qb1 := Hb.out.1.c1
  have qb2 := Hb.out.1.c2
  have kb := Hb.out.1.lt
  go_wp2_with fail
  clear qa0 qa1 qa2 ka qb0 qb1 qb2 kb
  refine (sameRat_any a b Aa Ba Ab Bb ca da cb db _ _ v21 Ha.out.2 Hb.out.2 (le_mill La.out.1) (le_mill La.out.2) (le_mill Lb.out.1) (le_mill Lb.out.2)).mono ?_
  rintro e v22 ⟨rfl, b⟩
  replace HB := Lib.hid (below_on HB.out b)
  replace Ha := Lib.hid (Ha.out.on b)
  replace Hb := Lib.hid (Hb.out.on b)
  replace Hc := Lib.hid (Hc.out.on b)
  replace Hx := Lib.hid (Hx.out.on b)
  replace Hy := Lib.hid (Hy.out.on b)
  replace Hu := Lib.hid (Hu.out.on b)
  replace Hs := Lib.hid (Hs.out.on b)
  replace Ht := Lib.hid (Ht.out.on b)
  clear b
  rw [HD.out]
  go_wp2
  go_ret
  exact ⟨rfl, HB.out⟩


theorem own_fnOrder : ownKnob Try.prog.godebug = none := by kernel_rfl
theorem laidOut_fnOrder : laidOutB Try.prog = true := by kernel_rfl
set_option maxRecDepth 100000 in
set_option linter.unusedVariables false in
theorem fnOrder_lifted (os : Os) (started : os.Started) (H : Type) (enc : TypeId × Value → H) :
    ReturnsInHanded {} Try.checked os 8 .any (Rows.fnOrderSpec.pre6 enc Try.prog Try.f8 Rows.fnOrderRow.domain false) (Rows.fnOrderSpec.post enc Try.prog Try.f8 false true false false) := by
  refine returnsInHanded_of_change (C := Try.checked) own_fnOrder started (by kernel_rfl) Try.func8
    (ChangeSpec.witness6 (enc := enc) (C := Try.checked) false ⟨#[], #[.slice none 0 0, .slice none 0 0], []⟩ 8 (by kernel_rfl) (by kernel_rfl) (by kernel_rfl) (by kernel_rfl)) ?_
  intro W base args ds gs before hval0 hW hcnd _
  have hval : ∀ (j : Nat) t v, Try.f8.params[j]? = some t → args[j]? = some v → Value.okWide Try.prog W .any base t v := hval0
  have hW' := hW
  obtain ⟨p, q, hA0, hV, rfl, hfz, hnd⟩ := hW
  have hA : DataW.TrodAll enc Try.prog W 0 (fun _ => true) true Try.f8.params.toList args.toList ds p := hA0
  rw [Try.params8] at hA hval
  obtain ⟨v0, vs0, d0, ds0, p0, q0, hargs, rfl, rfl, h0, r0⟩ := trodAll_cons hA
  obtain ⟨v1, vs1, d1, ds1, p1, q1, rfl, rfl, rfl, h1, r1⟩ := trodAll_cons r0
  obtain ⟨rfl, rfl, rfl⟩ := trodAll_nil r1
  obtain rfl : args = #[v0, v1] := by cases args; simp_all
  obtain ⟨rfl, rfl⟩ := trodVars_none hV
  obtain ⟨a0, len0, cap0, rfl⟩ := okWide_slice Try.underlying36 (hval 0 36 v0 rfl rfl)
  have k0 := h0
  have lt0 : ∀ x ∈ p0, x.block < W.heap.size := by obtain ⟨m, hm⟩ := k0; exact DataW.trod_lt m _ _ _ hm
  obtain ⟨z0, w0⟩ : ∃ zs, IsRow .u8 W a0 len0 cap0 zs := by
    obtain ⟨fuel, hf⟩ := h0
    rcases open_ints Try.underlying36 Try.underlying5 (by kernel_rfl) hf with ⟨hcs, _⟩ | ⟨x, l, c, zs, hcs, _, hl, hm, hz, _, hcell, hwz⟩
    · simp [Value.cells] at hcs
      obtain ⟨rfl, rfl, rfl⟩ := hcs
      exact ⟨[], .inl ⟨rfl, rfl, rfl, rfl⟩⟩
    · simp [Value.cells] at hcs
      obtain ⟨rfl, rfl, rfl⟩ := hcs
      exact ⟨zs, .inr ⟨_, rfl, hl, hm, by simpa using hz, hcell, hwz⟩⟩
  obtain ⟨a1, len1, cap1, rfl⟩ := okWide_slice Try.underlying36 (hval 1 36 v1 rfl rfl)
  have k1 := h1
  have lt1 : ∀ x ∈ p1, x.block < W.heap.size := by obtain ⟨m, hm⟩ := k1; exact DataW.trod_lt m _ _ _ hm
  obtain ⟨z1, w1⟩ : ∃ zs, IsRow .u8 W a1 len1 cap1 zs := by
    obtain ⟨fuel, hf⟩ := h1
    rcases open_ints Try.underlying36 Try.underlying5 (by kernel_rfl) hf with ⟨hcs, _⟩ | ⟨x, l, c, zs, hcs, _, hl, hm, hz, _, hcell, hwz⟩
    · simp [Value.cells] at hcs
      obtain ⟨rfl, rfl, rfl⟩ := hcs
      exact ⟨[], .inl ⟨rfl, rfl, rfl, rfl⟩⟩
    · simp [Value.cells] at hcs
      obtain ⟨rfl, rfl, rfl⟩ := hcs
      exact ⟨zs, .inr ⟨_, rfl, hl, hm, by simpa using hz, hcell, hwz⟩⟩
  clear hA0 hval0
  refine (lawOrder_any a0 len0 cap0 a1 len1 cap1 W w0.rdb w0.le w1.rdb w1.le).mono fun e W' ⟨he, bel⟩ => ?_
  subst he
  exact ⟨_, rfl, _, _, _, [], _, [], hW', trodAll_mk1 (shut_bool Try.underlying4 _), (trodAll_cons_mk (Below.trod laidOut_fnOrder (by kernel_rfl) (of_decide_eq_true (by kernel_rfl)) k0 bel lt0) (trodAll_cons_mk (Below.trod laidOut_fnOrder (by kernel_rfl) (of_decide_eq_true (by kernel_rfl)) k1 bel lt1) trodAll_mk0)), rfl, bel.frame _, fun h => by cases h⟩

theorem fnOrder_over : Rows.fnOrderRow.holds Try.pinned (OpenSpec.ofChange Rows.fnOrderSpec) :=
  OpenClaim.holds_of_wide 8 Try.f8 rfl rfl rfl rfl rfl rfl rfl ⟨rfl, rfl, rfl, rfl, rfl⟩ rfl rfl rfl rfl rfl (by kernel_rfl) Try.func8 (by kernel_rfl)
    (of_decide_eq_true (by kernel_rfl)) (by unfold Func.isWrapper; first | (rw [if_pos (by decide +kernel)]; kernel_rfl) | (rw [if_neg (by decide +kernel)]; exact ⟨rfl, rfl⟩))
    (fun os started H enc _ => fnOrder_lifted os started H enc)

theorem fnOrder_holds : Rows.FnOrderSaid := fnOrder_over

end Go.Proofs.Ytgeijojkfojfbaa
