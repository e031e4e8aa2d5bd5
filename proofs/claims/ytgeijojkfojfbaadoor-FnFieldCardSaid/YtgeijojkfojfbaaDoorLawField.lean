/-
  The law FnField. Condition: the variable errOverZero holds what the program's text lays.
-/
import Derived.Test.YtgeijojkfojfbaaDoorRatSame
import Derived.Test.YtgeijojkfojfbaaDoorDivRat
import Derived.Test.YtgeijojkfojfbaaDoorBytesD
import Derived.ProofKit
import Derived.OpenShut
import Derived.ShutString
import Derived.ChangeOld
namespace Nt
open Go Go.RowKit
theorem fieldDist (a b c : Rat) : a * (b + c) = a * b + a * c := Rat.mul_add a b c
theorem field_back (b c : Rat) : (b + c) - c = b := by grind
theorem field_over (a b : Rat) (h : b ≠ 0) : a * b / b = a := by
  rw [Rat.div_def, Rat.mul_assoc, Rat.mul_inv_cancel b h, Rat.mul_one]
theorem nu_zero {b : Rat} : nu b = 0 ↔ b = 0 := by
  unfold nu
  rw [Int.natAbs_eq_zero, Rat.num_eq_zero]
end Nt
namespace Go.Proofs.YtgeijojkfojfbaaDoor
open Go Go.RowKit Nt
open Go.ChangeShapes Go.WideShapes Go.ChangeAt
open Go.ChangeMaps (open_string shut_string)

/-- a box that holds a rational -/
def InBox (w : World) (g : Nat) (r : Rat) (A : Option Addr) (ca : Nat) (B : Option Addr) (cb : Nat) : Prop :=
  RatAt w g 25 (isNeg r) A (D (nu r)).length ca B (D r.den).length cb ∧ RdR w (fun _ => True) (D (nu r)) (D r.den) A ca B cb
theorem InBox.on {w w' : World} {g : Nat} {r : Rat} {A : Option Addr} {ca : Nat} {B : Option Addr} {cb : Nat} (h : InBox w g r A ca B cb) (hb : Below w.heap.size w w') : InBox w' g r A ca B cb := ⟨h.1.on hb, h.2.on hb⟩
theorem InBox.new {w : World} {r : Rat} {A : Option Addr} {ca : Nat} {B : Option Addr} {cb : Nat} (h : RdR w (fun _ => True) (D (nu r)) (D r.den) A ca B cb) : InBox (w.alloc (.cells #[.bool (isNeg r), .slice A (D (nu r)).length ca, .slice B (D r.den).length cb] 25)) w.heap.size r A ca B cb := ⟨RatAt.new _ _ _ _ _ _ _ _ _, h.on (below1 _ _)⟩
theorem ret_say {t : TypeId} {w w' : World} {n : Bool} {xs ys : List Int} {code : Int} {e : Ending} (h : RetRC t w n xs ys code e w') : SayRC' w n xs ys code e w' := by
  obtain ⟨A, c, B, d, he, o, b⟩ := h
  exact ⟨A, c, B, d, he, o.rdt, b⟩
theorem le_mill {n : Nat} (h : n ≤ 19) : n ≤ 400 := by omega
theorem le_more {n : Nat} (h : n ≤ 19) : n ≤ 16777216 := by omega
theorem D_len_zero {n : Nat} (h : (D n).length = 0) : n = 0 := by
  have := natOf_D n
  rw [List.eq_nil_of_length_eq_zero h] at this
  exact this.symm
theorem D_len_pos {n : Nat} (h : 0 < n) : 0 < (D n).length := by
  rcases Nat.eq_zero_or_pos (D n).length with e | e
  · exact absurd (D_len_zero e) (by omega)
  · exact e
theorem lt_top {n : Nat} (h : (D n).length ≤ 19) : n < Top := (D_len_le n 40).1 (by omega)

theorem addB (a b : Rat) (A B : Option Addr) (ca cb : Nat) (A' B' : Option Addr) (ca' cb' : Nat) (w : World) (h0 : RdR w (fun _ => True) (D (nu a)) (D a.den) A ca B cb) (h1 : RdR w (fun _ => True) (D (nu b)) (D b.den) A' ca' B' cb') (l1 : (D (nu a)).length ≤ 19) (l2 : (D a.den).length ≤ 19) (l3 : (D (nu b)).length ≤ 19) (l4 : (D b.den).length ≤ 19) (r : Rat) (hr : a + b = r) :
    Calls Tryd.prog 7 #[.agg #[.bool (isNeg a), .slice A (D (nu a)).length ca, .slice B (D a.den).length cb], .agg #[.bool (isNeg b), .slice A' (D (nu b)).length ca', .slice B' (D b.den).length cb']] w (SayRC' w (isNeg r) (D (nu r)) (D r.den) 0) := by
  have hl := add_lens a b
  have h := implAddRat_ok a b A B ca cb A' B' ca' cb' _ _ w h0 h1 (le_mill l1) (le_mill l2) (le_mill l3) (le_mill l4) (lt_top l1) (lt_top l2) (lt_top l3) (lt_top l4)
  rw [hr] at h hl
  have hf : fitQ r := ⟨by omega, by omega⟩
  have x1 : fN r = isNeg r := by unfold fN; rw [if_pos hf]
  have x2 : fX r = D (nu r) := by unfold fX; rw [if_pos hf]
  have x3 : fY r = D r.den := by unfold fY; rw [if_pos hf]
  have x4 : fK r = 0 := by unfold fK; rw [if_pos hf]
  rw [x1, x2, x3, x4] at h
  exact h.mono fun _ _ h => ret_say h

theorem mulB (a b : Rat) (A B : Option Addr) (ca cb : Nat) (A' B' : Option Addr) (ca' cb' : Nat) (w : World) (h0 : RdR w (fun _ => True) (D (nu a)) (D a.den) A ca B cb) (h1 : RdR w (fun _ => True) (D (nu b)) (D b.den) A' ca' B' cb') (l1 : (D (nu a)).length ≤ 19) (l2 : (D a.den).length ≤ 19) (l3 : (D (nu b)).length ≤ 19) (l4 : (D b.den).length ≤ 19) (r : Rat) (hr : a * b = r) :
    Calls Tryd.prog 8 #[.agg #[.bool (isNeg a), .slice A (D (nu a)).length ca, .slice B (D a.den).length cb], .agg #[.bool (isNeg b), .slice A' (D (nu b)).length ca', .slice B' (D b.den).length cb']] w (SayRC' w (isNeg r) (D (nu r)) (D r.den) 0) := by
  have hl := mul_lens a b
  have h := implMulRat_ok a b A B ca cb A' B' ca' cb' _ _ w h0 h1 (le_mill l1) (le_mill l2) (le_mill l3) (le_mill l4) (lt_top l1) (lt_top l2) (lt_top l3) (lt_top l4)
  rw [hr] at h hl
  have hf : fitQ r := ⟨by omega, by omega⟩
  have x1 : fN r = isNeg r := by unfold fN; rw [if_pos hf]
  have x2 : fX r = D (nu r) := by unfold fX; rw [if_pos hf]
  have x3 : fY r = D r.den := by unfold fY; rw [if_pos hf]
  have x4 : fK r = 0 := by unfold fK; rw [if_pos hf]
  rw [x1, x2, x3, x4] at h
  exact h.mono fun _ _ h => ret_say h

theorem subB (a b : Rat) (A B : Option Addr) (ca cb : Nat) (A' B' : Option Addr) (ca' cb' : Nat) (w : World) (h0 : RdR w (fun _ => True) (D (nu a)) (D a.den) A ca B cb) (h1 : RdR w (fun _ => True) (D (nu b)) (D b.den) A' ca' B' cb') (l1 : (D (nu a)).length ≤ 19) (l2 : (D a.den).length ≤ 19) (l3 : (D (nu b)).length ≤ 19) (l4 : (D b.den).length ≤ 19) (r : Rat) (hr : a - b = r) :
    Calls Tryd.prog 9 #[.agg #[.bool (isNeg a), .slice A (D (nu a)).length ca, .slice B (D a.den).length cb], .agg #[.bool (isNeg b), .slice A' (D (nu b)).length ca', .slice B' (D b.den).length cb']] w (SayRC' w (isNeg r) (D (nu r)) (D r.den) 0) := by
  have hl := sub_lens a b
  have h := implSubRat_ok a b A B ca cb A' B' ca' cb' _ _ w h0 h1 (le_mill l1) (le_mill l2) (le_mill l3) (le_mill l4) (lt_top l1) (lt_top l2) (lt_top l3) (lt_top l4)
  rw [hr] at h hl
  have hf : fitQ r := ⟨by omega, by omega⟩
  have x1 : fN r = isNeg r := by unfold fN; rw [if_pos hf]
  have x2 : fX r = D (nu r) := by unfold fX; rw [if_pos hf]
  have x3 : fY r = D r.den := by unfold fY; rw [if_pos hf]
  have x4 : fK r = 0 := by unfold fK; rw [if_pos hf]
  rw [x1, x2, x3, x4] at h
  exact h.mono fun _ _ h => ret_say h

theorem mulSQ (a b : Rat) (A B : Option Addr) (ca cb : Nat) (A' B' : Option Addr) (ca' cb' : Nat) (w : World) (h0 : RdR w (fun _ => True) (D (nu a)) (D a.den) A ca B cb) (h1 : RdR w (fun _ => True) (D (nu b)) (D b.den) A' ca' B' cb') (l1 : (D (nu a)).length ≤ 19) (l2 : (D a.den).length ≤ 19) (l3 : (D (nu b)).length ≤ 19) (l4 : (D b.den).length ≤ 19) (r : Rat) (hr : a * b = r) :
    Calls Tryd.prog 10 #[.agg #[.bool (isNeg a), .slice A (D (nu a)).length ca, .slice B (D a.den).length cb], .agg #[.bool (isNeg b), .slice A' (D (nu b)).length ca', .slice B' (D b.den).length cb']] w (SayRC' w (isNeg r) (D (nu r)) (D r.den) 0) := by
  have hl := mul_lens a b
  have h := specMulRat_ok a b A B ca cb A' B' ca' cb' _ _ w h0 h1 (le_mill l1) (le_mill l2) (le_mill l3) (le_mill l4) (lt_top l1) (lt_top l2) (lt_top l3) (lt_top l4)
  rw [hr] at h hl
  have hf : fitQ r := ⟨by omega, by omega⟩
  have x1 : fN r = isNeg r := by unfold fN; rw [if_pos hf]
  have x2 : fX r = D (nu r) := by unfold fX; rw [if_pos hf]
  have x3 : fY r = D r.den := by unfold fY; rw [if_pos hf]
  have x4 : fK r = 0 := by unfold fK; rw [if_pos hf]
  rw [x1, x2, x3, x4] at h
  exact h

theorem divB (a b : Rat) (A B : Option Addr) (ca cb : Nat) (A' B' : Option Addr) (ca' cb' : Nat) (w : World) (h0 : RdR w (fun _ => True) (D (nu a)) (D a.den) A ca B cb) (h1 : RdR w (fun _ => True) (D (nu b)) (D b.den) A' ca' B' cb') (l1 : (D (nu a)).length ≤ 19) (l2 : (D a.den).length ≤ 19) (l3 : (D (nu b)).length ≤ 19) (l4 : (D b.den).length ≤ 19) (ad : Addr) (hE : ErrAt 93 w ad) (hb0 : 0 < nu b) (r : Rat) (hr : a / b = r) :
    Calls Tryd.prog 13 #[.agg #[.bool (isNeg a), .slice A (D (nu a)).length ca, .slice B (D a.den).length cb], .agg #[.bool (isNeg b), .slice A' (D (nu b)).length ca', .slice B' (D b.den).length cb']] w (SayRC' w (isNeg r) (D (nu r)) (D r.den) 0) := by
  have hl := div_lens a b hb0
  have h := implDivRat_ok a b A B ca cb A' B' ca' cb' _ _ w h0 h1 (le_mill l1) (le_mill l2) (le_mill l3) (le_mill l4) (lt_top l1) (lt_top l2) (lt_top l3) (lt_top l4) ad hE hb0
  rw [hr] at h hl
  have hf : fitQ r := ⟨by omega, by omega⟩
  have x1 : fN r = isNeg r := by unfold fN; rw [if_pos hf]
  have x2 : fX r = D (nu r) := by unfold fX; rw [if_pos hf]
  have x3 : fY r = D r.den := by unfold fY; rw [if_pos hf]
  have x4 : fK r = 0 := by unfold fK; rw [if_pos hf]
  rw [x1, x2, x3, x4] at h
  exact h.mono fun _ _ h => ret_say h
theorem divZ (a b : Rat) (A B : Option Addr) (ca cb : Nat) (A' B' : Option Addr) (ca' cb' : Nat) (w : World) (h0 : RdR w (fun _ => True) (D (nu a)) (D a.den) A ca B cb) (h1 : RdR w (fun _ => True) (D (nu b)) (D b.den) A' ca' B' cb') (l1 : (D (nu a)).length ≤ 19) (l2 : (D a.den).length ≤ 19) (l3 : (D (nu b)).length ≤ 19) (l4 : (D b.den).length ≤ 19) (ad : Addr) (hE : ErrAt 93 w ad) (hb0 : nu b = 0) :
    Calls Tryd.prog 13 #[.agg #[.bool (isNeg a), .slice A (D (nu a)).length ca, .slice B (D a.den).length cb], .agg #[.bool (isNeg b), .slice A' (D (nu b)).length ca', .slice B' (D b.den).length cb']] w (SayRC' w false [] [] 9) :=
  (implDivRat_zero a b A B ca cb A' B' ca' cb' _ _ w h0 h1 (le_mill l1) (le_mill l2) (le_mill l3) (le_mill l4) (lt_top l1) (lt_top l2) (lt_top l3) (lt_top l4) ad hE hb0).mono fun _ _ h => ret_say h
theorem negB (a : Rat) (A B : Option Addr) (ca cb : Nat) (w : World) (h0 : RdR w (fun _ => True) (D (nu a)) (D a.den) A ca B cb) (l1 : (D (nu a)).length ≤ 19) (l2 : (D a.den).length ≤ 19) (r : Rat) (hr : -a = r) :
    Calls Tryd.prog 14 #[.agg #[.bool (isNeg a), .slice A (D (nu a)).length ca, .slice B (D a.den).length cb]] w (SayRC' w (isNeg r) (D (nu r)) (D r.den) 0) := by
  have h := implNegRat_ok a A B ca cb w (h0.mono fun _ _ h => h) (lt_top l1) (lt_top l2)
  rw [hr] at h
  exact h.mono fun _ _ h => ret_say h
theorem okB (a : Rat) (A B : Option Addr) (ca cb : Nat) (w : World) (h0 : RdR w (fun _ => True) (D (nu a)) (D a.den) A ca B cb) (l1 : (D (nu a)).length ≤ 19) (l2 : (D a.den).length ≤ 19) :
    Calls Tryd.prog 12 #[.agg #[.bool (isNeg a), .slice A (D (nu a)).length ca, .slice B (D a.den).length cb]] w fun e w' => e = .returned (.bool true) ∧ Below w.heap.size w w' := by
  have h := implRatOK_any (isNeg a) A B _ ca _ cb (D (nu a)) (D a.den) _ _ w h0.1 h0.2 (le_more l1) (le_more l2)
  rw [okR_rat a (lt_top l1) (lt_top l2)] at h
  exact h

set_option maxRecDepth 20000 in
set_option maxHeartbeats 25600000 in
theorem lawField_any (pA : Option Addr) (pn pc : Nat) (qA : Option Addr) (qn qc : Nat) (w : World) (hp : RdB w (· < w.heap.size) pA pn) (ple : pn ≤ 9223372036854775807) (hq : RdB w (· < w.heap.size) qA qn) (qle : qn ≤ 9223372036854775807) (qnil : qA = none → qn = 0 ∧ qc = 0) (ad : Addr) (hE : ErrAt 93 w ad) :
    Calls Tryd.prog 3 #[.slice pA pn pc, .slice qA qn qc] w fun e w' => e = .returned (.bool true) ∧ Below w.heap.size w w' := by
  have Rp := Lib.hid hp
  clear hp
  have Rq := Lib.hid hq
  clear hq
  have ER := Lib.hid hE
  clear hE
  by_cases bigp : 1048576 < pn
  · have bigp' : (1048576 : Int) < pn := by omega
    go_enter Tryd.func3, Tryd.ntmps3
    go_wp2
    go_ret
    exact ⟨rfl, Below.refl _ _⟩
  have smp : (pn : Int) ≤ 1048576 := by omega
  by_cases bigq : 1048576 < qn
  · have bigq' : (1048576 : Int) < qn := by omega
    go_enter Tryd.func3, Tryd.ntmps3
    go_wp2
    go_ret
    exact ⟨rfl, Below.refl _ _⟩
  have smq : (qn : Int) ≤ 1048576 := by omega
  go_enter Tryd.func3, Tryd.ntmps3
  go_wp2_with fail
  refine (wideRat_any pA pn pc w Rp.out (by omega)).mono ?_
  rintro e v1 ⟨a, na, ma, Aa, ca, Ba, da, rfl, o, b⟩
  have HB := Lib.hid b
  have HN := Lib.hid o
  clear o b
  go_wp2_with fail
  refine calls_at (fun V => Below w.heap.size w V ∧ InBox V v1.heap.size a Aa ca Ba da)
    ⟨below_on HB.out (below1 _ _), InBox.new HN.out⟩ ?_
  rintro v2 ⟨pB, pa⟩
  clear HB HN 
  have HB := Lib.hid pB
  have Ha := Lib.hid pa
  clear pB pa
  refine (ratDrawn_any qA qn qc v2 ((Rq.out.below HB.out).mono fun _ _ h => h) (by omega)).mono ?_
  rintro e v3 ⟨b, nb, mb, Ab, cb, Bb, db, rfl, o, b⟩
  replace HB := Lib.hid (below_on HB.out b)
  replace Ha := Lib.hid (Ha.out.on b)
  have HN := Lib.hid o
  clear o b
  have HV3 : Hid (Below w.heap.size w (v3.alloc (.cells #[.bool (isNeg b), .slice Ab (D (nu b)).length cb, .slice Bb (D b.den).length db] 25))) := below_on HB.out (below1 _ _)
  have HBx : Hid (InBox (v3.alloc (.cells #[.bool (isNeg b), .slice Ab (D (nu b)).length cb, .slice Bb (D b.den).length db] 25)) v3.heap.size b Ab cb Bb db) := InBox.new HN.out
  replace Ha := Lib.hid (Ha.out.on (below1 v3 (.cells #[.bool (isNeg b), .slice Ab (D (nu b)).length cb, .slice Bb (D b.den).length db] 25)))
  have RQ := Lib.hid (Rq.out.below (HV3.out.trans (((Below.refl (v3.alloc (.cells #[.bool (isNeg b), .slice Ab (D (nu b)).length cb, .slice Bb (D b.den).length db] 25)).heap.size (v3.alloc (.cells #[.bool (isNeg b), .slice Ab (D (nu b)).length cb, .slice Bb (D b.den).length db] 25))).alloc (Nat.le_refl _) (.cells #[.int .u8 3] 5)).mono HV3.out.size)))
  have O7 := Lib.hid (World.ownsRow_lit (e := 5) (size := 1) (v3.alloc (.cells #[.bool (isNeg b), .slice Ab (D (nu b)).length cb, .slice Bb (D b.den).length db] 25)) #[.int .u8 3] 1 (Nat.le_refl _) (by decide) rfl)
  go_wp2_with (at_builtin; refine wpList_append_bytes _ rfl _ _ 22 rfl (v3.heap.size + 1) 5 Tryd.underlying22 infoByte (some ⟨v3.heap.size + 1, 0, none⟩) 1 1 [3] rfl (by have h := O7.out; simp only [World.size_alloc] at h; exact h) (by simp) (· < w.heap.size) qA qn qc rfl qnil RQ.out (by omega) (by simp) ?_; intro V' c' w3 hr hg; have RV := Lib.hid (hr.mono (Q := (· < w3.heap.size)) fun _ _ h => h); have hg2 := Lib.hid hg; clear hr hg)
  have b3 : Below (v3.alloc (.cells #[.bool (isNeg b), .slice Ab (D (nu b)).length cb, .slice Bb (D b.den).length db] 25)).heap.size (v3.alloc (.cells #[.bool (isNeg b), .slice Ab (D (nu b)).length cb, .slice Bb (D b.den).length db] 25)) w3 := ((Below.refl _ _).alloc (Nat.le_refl _) (.cells #[.int .u8 3] 5)).trans (grown_below (g := v3.heap.size + 1) hg2.out (by simp) (by simp))
  replace HB := Lib.hid (below_on HV3.out b3)
  replace Ha := Lib.hid (Ha.out.on b3)
  have Hb := Lib.hid (HBx.out.on b3)
  clear b3 hg2 HV3 HBx RQ O7 HN
  refine (wideRat_any V' (1 + qn) c' w3 RV.out (by omega)).mono ?_
  rintro e v4 ⟨c, nc, mc, Ac, cc, Bc, dc, rfl, o, b⟩
  replace HB := Lib.hid (below_on HB.out b)
  replace Ha := Lib.hid (Ha.out.on b)
  replace Hb := Lib.hid (Hb.out.on b)
  have HN := Lib.hid o
  clear o b
  obtain ⟨s, hs⟩ : ∃ z, b + c = z := ⟨_, rfl⟩
  obtain ⟨x, hx⟩ : ∃ z, a * s = z := ⟨_, rfl⟩
  obtain ⟨p, hp⟩ : ∃ z, a * b = z := ⟨_, rfl⟩
  obtain ⟨q, hq⟩ : ∃ z, a * c = z := ⟨_, rfl⟩
  obtain ⟨y, hy⟩ : ∃ z, p + q = z := ⟨_, rfl⟩
  obtain ⟨z, hz⟩ : ∃ z, s - c = z := ⟨_, rfl⟩
  obtain ⟨m, hm⟩ : ∃ z, -a = z := ⟨_, rfl⟩
  obtain ⟨t, ht⟩ : ∃ z, a + m = z := ⟨_, rfl⟩
  have ls := add_lens b c
  rw [hs] at ls
  have lx := mul_lens a s
  rw [hx] at lx
  have lp := mul_lens a b
  rw [hp] at lp
  have lq := mul_lens a c
  rw [hq] at lq
  have ly := add_lens p q
  rw [hy] at ly
  have lz := sub_lens s c
  rw [hz] at lz
  have lt := add_lens a m
  rw [ht] at lt
  have lm := neg_parts a
  rw [hm] at lm
  have lm1 : (D (nu m)).length = (D (nu a)).length := by rw [lm.1]
  have lm2 : (D m.den).length = (D a.den).length := by rw [lm.2.1]
  have La : Hid ((D (nu a)).length ≤ 19 ∧ (D a.den).length ≤ 19) := Lib.hid ⟨by omega, by omega⟩
  have Lb : Hid ((D (nu b)).length ≤ 19 ∧ (D b.den).length ≤ 19) := Lib.hid ⟨by omega, by omega⟩
  have Lc : Hid ((D (nu c)).length ≤ 19 ∧ (D c.den).length ≤ 19) := Lib.hid ⟨by omega, by omega⟩
  have Ls : Hid ((D (nu s)).length ≤ 19 ∧ (D s.den).length ≤ 19) := Lib.hid ⟨by omega, by omega⟩
  have Lx : Hid ((D (nu x)).length ≤ 19 ∧ (D x.den).length ≤ 19) := Lib.hid ⟨by omega, by omega⟩
  have Lp : Hid ((D (nu p)).length ≤ 19 ∧ (D p.den).length ≤ 19) := Lib.hid ⟨by omega, by omega⟩
  have Lq : Hid ((D (nu q)).length ≤ 19 ∧ (D q.den).length ≤ 19) := Lib.hid ⟨by omega, by omega⟩
  have Ly : Hid ((D (nu y)).length ≤ 19 ∧ (D y.den).length ≤ 19) := Lib.hid ⟨by omega, by omega⟩
  have Lz : Hid ((D (nu z)).length ≤ 19 ∧ (D z.den).length ≤ 19) := Lib.hid ⟨by omega, by omega⟩
  have Lm : Hid ((D (nu m)).length ≤ 19 ∧ (D m.den).length ≤ 19) := Lib.hid ⟨by omega, by omega⟩
  have Lt : Hid ((D (nu t)).length ≤ 19 ∧ (D t.den).length ≤ 19) := Lib.hid ⟨by omega, by omega⟩
  have EXY : Hid (decide (x = y) = true) := Lib.hid (by rw [← hx, ← hs, ← hy, ← hp, ← hq, fieldDist]; simp)
  have EZB : Hid (decide (z = b) = true) := Lib.hid (by rw [← hz, ← hs, field_back]; simp)
  have EO : Hid ((D (nu t)).length = 0) := Lib.hid (by rw [show t = 0 by rw [← ht, ← hm]; exact Rat.add_neg_cancel a]; rfl)
  have EDV : Hid (b ≠ 0 → p / b = a) := Lib.hid (fun h => by rw [← hp]; exact field_over a b h)
  have Es := Lib.hid hs
  have Ex := Lib.hid hx
  have Ep := Lib.hid hp
  have Eq := Lib.hid hq
  have Ey := Lib.hid hy
  have Ez := Lib.hid hz
  have Em := Lib.hid hm
  have Et := Lib.hid ht
  clear ls lx lp lq ly lz lm lt lm1 lm2 hs hx hp hq hy hz hm ht na ma nb mb nc mc ple qle smp smq bigp bigq qnil
  have qb0 := Hb.out.1.c0
  have qb1 := Hb.out.1.c1
  have qb2 := Hb.out.1.c2
  have kb := Hb.out.1.lt
  go_wp2_with fail
  clear qb0 qb1 qb2 kb
  refine calls_at (fun V => Below w.heap.size w V ∧ InBox V v1.heap.size a Aa ca Ba da ∧ InBox V v3.heap.size b Ab cb Bb db ∧ InBox V v4.heap.size c Ac cc Bc dc)
    ⟨below_on HB.out (below1 _ _), Ha.out.on (below1 _ _), Hb.out.on (below1 _ _), InBox.new HN.out⟩ ?_
  rintro v5 ⟨pB, pa, pb, pc⟩
  clear HB HN Ha Hb
  have HB := Lib.hid pB
  have Ha := Lib.hid pa
  have Hb := Lib.hid pb
  have Hc := Lib.hid pc
  clear pB pa pb pc
  refine (addB b c Ab Bb cb db Ac Bc cc dc v5 Hb.out.2 Hc.out.2 Lb.out.1 Lb.out.2 Lc.out.1 Lc.out.2 s Es.out).mono ?_
  rintro e v6 ⟨As, cs, Bs, ds, rfl, o, b⟩
  replace HB := Lib.hid (below_on HB.out b)
  replace Ha := Lib.hid (Ha.out.on b)
  replace Hb := Lib.hid (Hb.out.on b)
  replace Hc := Lib.hid (Hc.out.on b)
  have HN := Lib.hid o
  clear o b
  have qa0 := Ha.out.1.c0
  have qa1 := Ha.out.1.c1
  have qa2 := Ha.out.1.c2
  have ka := Ha.out.1.lt
  go_wp2_with fail
  clear qa0 qa1 qa2 ka
  refine calls_at (fun V => Below w.heap.size w V ∧ InBox V v1.heap.size a Aa ca Ba da ∧ InBox V v3.heap.size b Ab cb Bb db ∧ InBox V v4.heap.size c Ac cc Bc dc ∧ InBox V v6.heap.size s As cs Bs ds)
    ⟨below_on HB.out (below1 _ _), Ha.out.on (below1 _ _), Hb.out.on (below1 _ _), Hc.out.on (below1 _ _), InBox.new HN.out⟩ ?_
  rintro v7 ⟨pB, pa, pb, pc, ps⟩
  clear HB HN Ha Hb Hc
  have HB := Lib.hid pB
  have Ha := Lib.hid pa
  have Hb := Lib.hid pb
  have Hc := Lib.hid pc
  have Hs := Lib.hid ps
  clear pB pa pb pc ps
  refine (mulB a s Aa Ba ca da As Bs cs ds v7 Ha.out.2 Hs.out.2 La.out.1 La.out.2 Ls.out.1 Ls.out.2 x Ex.out).mono ?_
  rintro e v8 ⟨Ax, cx, Bx, dx, rfl, o, b⟩
  replace HB := Lib.hid (below_on HB.out b)
  replace Ha := Lib.hid (Ha.out.on b)
  replace Hb := Lib.hid (Hb.out.on b)
  replace Hc := Lib.hid (Hc.out.on b)
  replace Hs := Lib.hid (Hs.out.on b)
  have HN := Lib.hid o
  clear o b
  have qa0 := Ha.out.1.c0
  have qa1 := Ha.out.1.c1
  have qa2 := Ha.out.1.c2
  have ka := Ha.out.1.lt
  have qb0 := Hb.out.1.c0
  have qb1 := Hb.out.1.c1
  have qb2 := Hb.out.1.c2
  have kb := Hb.out.1.lt
  go_wp2_with fail
  clear qa0 qa1 qa2 ka qb0 qb1 qb2 kb
  refine calls_at (fun V => Below w.heap.size w V ∧ InBox V v1.heap.size a Aa ca Ba da ∧ InBox V v3.heap.size b Ab cb Bb db ∧ InBox V v4.heap.size c Ac cc Bc dc ∧ InBox V v6.heap.size s As cs Bs ds ∧ InBox V v8.heap.size x Ax cx Bx dx)
    ⟨below_on HB.out (below1 _ _), Ha.out.on (below1 _ _), Hb.out.on (below1 _ _), Hc.out.on (below1 _ _), Hs.out.on (below1 _ _), InBox.new HN.out⟩ ?_
  rintro v9 ⟨pB, pa, pb, pc, ps, px⟩
  clear HB HN Ha Hb Hc Hs
  have HB := Lib.hid pB
  have Ha := Lib.hid pa
  have Hb := Lib.hid pb
  have Hc := Lib.hid pc
  have Hs := Lib.hid ps
  have Hx := Lib.hid px
  clear pB pa pb pc ps px
  refine (mulB a b Aa Ba ca da Ab Bb cb db v9 Ha.out.2 Hb.out.2 La.out.1 La.out.2 Lb.out.1 Lb.out.2 p Ep.out).mono ?_
  rintro e v10 ⟨Ap, cp, Bp, dp, rfl, o, b⟩
  replace HB := Lib.hid (below_on HB.out b)
  replace Ha := Lib.hid (Ha.out.on b)
  replace Hb := Lib.hid (Hb.out.on b)
  replace Hc := Lib.hid (Hc.out.on b)
  replace Hs := Lib.hid (Hs.out.on b)
  replace Hx := Lib.hid (Hx.out.on b)
  have HN := Lib.hid o
  clear o b
  have qa0 := Ha.out.1.c0
  have qa1 := Ha.out.1.c1
  have qa2 := Ha.out.1.c2
  have ka := Ha.out.1.lt
  have qc0 := Hc.out.1.c0
  have qc1 := Hc.out.1.c1
  have qc2 := Hc.out.1.c2
  have kc := Hc.out.1.lt
  go_wp2_with fail
  clear qa0 qa1 qa2 ka qc0 qc1 qc2 kc
  refine calls_at (fun V => Below w.heap.size w V ∧ InBox V v1.heap.size a Aa ca Ba da ∧ InBox V v3.heap.size b Ab cb Bb db ∧ InBox V v4.heap.size c Ac cc Bc dc ∧ InBox V v6.heap.size s As cs Bs ds ∧ InBox V v8.heap.size x Ax cx Bx dx ∧ InBox V v10.heap.size p Ap cp Bp dp)
    ⟨below_on HB.out (below1 _ _), Ha.out.on (below1 _ _), Hb.out.on (below1 _ _), Hc.out.on (below1 _ _), Hs.out.on (below1 _ _), Hx.out.on (below1 _ _), InBox.new HN.out⟩ ?_
  rintro v11 ⟨pB, pa, pb, pc, ps, px, pp⟩
  clear HB HN Ha Hb Hc Hs Hx
  have HB := Lib.hid pB
  have Ha := Lib.hid pa
  have Hb := Lib.hid pb
  have Hc := Lib.hid pc
  have Hs := Lib.hid ps
  have Hx := Lib.hid px
  have Hp := Lib.hid pp
  clear pB pa pb pc ps px pp
  refine (mulB a c Aa Ba ca da Ac Bc cc dc v11 Ha.out.2 Hc.out.2 La.out.1 La.out.2 Lc.out.1 Lc.out.2 q Eq.out).mono ?_
  rintro e v12 ⟨Aq, cq, Bq, dq, rfl, o, b⟩
  replace HB := Lib.hid (below_on HB.out b)
  replace Ha := Lib.hid (Ha.out.on b)
  replace Hb := Lib.hid (Hb.out.on b)
  replace Hc := Lib.hid (Hc.out.on b)
  replace Hs := Lib.hid (Hs.out.on b)
  replace Hx := Lib.hid (Hx.out.on b)
  replace Hp := Lib.hid (Hp.out.on b)
  have HN := Lib.hid o
  clear o b
  have qp0 := Hp.out.1.c0
  have qp1 := Hp.out.1.c1
  have qp2 := Hp.out.1.c2
  have kp := Hp.out.1.lt
  go_wp2_with fail
  clear qp0 qp1 qp2 kp
  refine calls_at (fun V => Below w.heap.size w V ∧ InBox V v1.heap.size a Aa ca Ba da ∧ InBox V v3.heap.size b Ab cb Bb db ∧ InBox V v4.heap.size c Ac cc Bc dc ∧ InBox V v6.heap.size s As cs Bs ds ∧ InBox V v8.heap.size x Ax cx Bx dx ∧ InBox V v10.heap.size p Ap cp Bp dp ∧ InBox V v12.heap.size q Aq cq Bq dq)
    ⟨below_on HB.out (below1 _ _), Ha.out.on (below1 _ _), Hb.out.on (below1 _ _), Hc.out.on (below1 _ _), Hs.out.on (below1 _ _), Hx.out.on (below1 _ _), Hp.out.on (below1 _ _), InBox.new HN.out⟩ ?_
  rintro v13 ⟨pB, pa, pb, pc, ps, px, pp, pq⟩
  clear HB HN Ha Hb Hc Hs Hx Hp
  have HB := Lib.hid pB
  have Ha := Lib.hid pa
  have Hb := Lib.hid pb
  have Hc := Lib.hid pc
  have Hs := Lib.hid ps
  have Hx := Lib.hid px
  have Hp := Lib.hid pp
  have Hq := Lib.hid pq
  clear pB pa pb pc ps px pp pq
  refine (addB p q Ap Bp cp dp Aq Bq cq dq v13 Hp.out.2 Hq.out.2 Lp.out.1 Lp.out.2 Lq.out.1 Lq.out.2 y Ey.out).mono ?_
  rintro e v14 ⟨Ay, cy, By, dy, rfl, o, b⟩
  replace HB := Lib.hid (below_on HB.out b)
  replace Ha := Lib.hid (Ha.out.on b)
  replace Hb := Lib.hid (Hb.out.on b)
  replace Hc := Lib.hid (Hc.out.on b)
  replace Hs := Lib.hid (Hs.out.on b)
  replace Hx := Lib.hid (Hx.out.on b)
  replace Hp := Lib.hid (Hp.out.on b)
  replace Hq := Lib.hid (Hq.out.on b)
  have HN := Lib.hid o
  clear o b
  have qs0 := Hs.out.1.c0
  have qs1 := Hs.out.1.c1
  have qs2 := Hs.out.1.c2
  have ks := Hs.out.1.lt
  have qc0 := Hc.out.1.c0
  have qc1 := Hc.out.1.c1
  have qc2 := Hc.out.1.c2
  have kc := Hc.out.1.lt
  go_wp2_with fail
  clear qs0 qs1 qs2 ks qc0 qc1 qc2 kc
  refine calls_at (fun V => Below w.heap.size w V ∧ InBox V v1.heap.size a Aa ca Ba da ∧ InBox V v3.heap.size b Ab cb Bb db ∧ InBox V v4.heap.size c Ac cc Bc dc ∧ InBox V v6.heap.size s As cs Bs ds ∧ InBox V v8.heap.size x Ax cx Bx dx ∧ InBox V v10.heap.size p Ap cp Bp dp ∧ InBox V v12.heap.size q Aq cq Bq dq ∧ InBox V v14.heap.size y Ay cy By dy)
    ⟨below_on HB.out (below1 _ _), Ha.out.on (below1 _ _), Hb.out.on (below1 _ _), Hc.out.on (below1 _ _), Hs.out.on (below1 _ _), Hx.out.on (below1 _ _), Hp.out.on (below1 _ _), Hq.out.on (below1 _ _), InBox.new HN.out⟩ ?_
  rintro v15 ⟨pB, pa, pb, pc, ps, px, pp, pq, py⟩
  clear HB HN Ha Hb Hc Hs Hx Hp Hq
  have HB := Lib.hid pB
  have Ha := Lib.hid pa
  have Hb := Lib.hid pb
  have Hc := Lib.hid pc
  have Hs := Lib.hid ps
  have Hx := Lib.hid px
  have Hp := Lib.hid pp
  have Hq := Lib.hid pq
  have Hy := Lib.hid py
  clear pB pa pb pc ps px pp pq py
  refine (subB s c As Bs cs ds Ac Bc cc dc v15 Hs.out.2 Hc.out.2 Ls.out.1 Ls.out.2 Lc.out.1 Lc.out.2 z Ez.out).mono ?_
  rintro e v16 ⟨Az, cz, Bz, dz, rfl, o, b⟩
  replace HB := Lib.hid (below_on HB.out b)
  replace Ha := Lib.hid (Ha.out.on b)
  replace Hb := Lib.hid (Hb.out.on b)
  replace Hc := Lib.hid (Hc.out.on b)
  replace Hs := Lib.hid (Hs.out.on b)
  replace Hx := Lib.hid (Hx.out.on b)
  replace Hp := Lib.hid (Hp.out.on b)
  replace Hq := Lib.hid (Hq.out.on b)
  replace Hy := Lib.hid (Hy.out.on b)
  have HN := Lib.hid o
  clear o b
  have qa0 := Ha.out.1.c0
  have qa1 := Ha.out.1.c1
  have qa2 := Ha.out.1.c2
  have ka := Ha.out.1.lt
  have qb0 := Hb.out.1.c0
  have qb1 := Hb.out.1.c1
  have qb2 := Hb.out.1.c2
  have kb := Hb.out.1.lt
  go_wp2_with fail
  clear qa0 qa1 qa2 ka qb0 qb1 qb2 kb
  refine calls_at (fun V => Below w.heap.size w V ∧ InBox V v1.heap.size a Aa ca Ba da ∧ InBox V v3.heap.size b Ab cb Bb db ∧ InBox V v4.heap.size c Ac cc Bc dc ∧ InBox V v6.heap.size s As cs Bs ds ∧ InBox V v8.heap.size x Ax cx Bx dx ∧ InBox V v10.heap.size p Ap cp Bp dp ∧ InBox V v12.heap.size q Aq cq Bq dq ∧ InBox V v14.heap.size y Ay cy By dy ∧ InBox V v16.heap.size z Az cz Bz dz)
    ⟨below_on HB.out (below1 _ _), Ha.out.on (below1 _ _), Hb.out.on (below1 _ _), Hc.out.on (below1 _ _), Hs.out.on (below1 _ _), Hx.out.on (below1 _ _), Hp.out.on (below1 _ _), Hq.out.on (below1 _ _), Hy.out.on (below1 _ _), InBox.new HN.out⟩ ?_
  rintro v17 ⟨pB, pa, pb, pc, ps, px, pp, pq, py, pz⟩
  clear HB HN Ha Hb Hc Hs Hx Hp Hq Hy
  have HB := Lib.hid pB
  have Ha := Lib.hid pa
  have Hb := Lib.hid pb
  have Hc := Lib.hid pc
  have Hs := Lib.hid ps
  have Hx := Lib.hid px
  have Hp := Lib.hid pp
  have Hq := Lib.hid pq
  have Hy := Lib.hid py
  have Hz := Lib.hid pz
  clear pB pa pb pc ps px pp pq py pz
  refine (mulSQ a b Aa Ba ca da Ab Bb cb db v17 Ha.out.2 Hb.out.2 La.out.1 La.out.2 Lb.out.1 Lb.out.2 p Ep.out).mono ?_
  rintro e v18 ⟨Aw, cw, Bw, dw, rfl, o0, b0⟩
  replace HB := Lib.hid (below_on HB.out b0)
  replace Ha := Lib.hid (Ha.out.on b0)
  replace Hb := Lib.hid (Hb.out.on b0)
  replace Hc := Lib.hid (Hc.out.on b0)
  replace Hs := Lib.hid (Hs.out.on b0)
  replace Hx := Lib.hid (Hx.out.on b0)
  replace Hp := Lib.hid (Hp.out.on b0)
  replace Hq := Lib.hid (Hq.out.on b0)
  replace Hy := Lib.hid (Hy.out.on b0)
  replace Hz := Lib.hid (Hz.out.on b0)
  have HN := Lib.hid o0
  clear o0 b0
  have qx0 := Hx.out.1.c0
  have qx1 := Hx.out.1.c1
  have qx2 := Hx.out.1.c2
  have kx := Hx.out.1.lt
  have qy0 := Hy.out.1.c0
  have qy1 := Hy.out.1.c1
  have qy2 := Hy.out.1.c2
  have ky := Hy.out.1.lt
  go_wp2_with fail
  clear qx0 qx1 qx2 kx qy0 qy1 qy2 ky
  refine calls_at (fun V => Below w.heap.size w V ∧ InBox V v18.heap.size p Aw cw Bw dw ∧ InBox V v1.heap.size a Aa ca Ba da ∧ InBox V v3.heap.size b Ab cb Bb db ∧ InBox V v4.heap.size c Ac cc Bc dc ∧ InBox V v6.heap.size s As cs Bs ds ∧ InBox V v8.heap.size x Ax cx Bx dx ∧ InBox V v10.heap.size p Ap cp Bp dp ∧ InBox V v12.heap.size q Aq cq Bq dq ∧ InBox V v14.heap.size y Ay cy By dy ∧ InBox V v16.heap.size z Az cz Bz dz)
    ⟨below_on HB.out (below1 _ _), InBox.new HN.out, Ha.out.on (below1 _ _), Hb.out.on (below1 _ _), Hc.out.on (below1 _ _), Hs.out.on (below1 _ _), Hx.out.on (below1 _ _), Hp.out.on (below1 _ _), Hq.out.on (below1 _ _), Hy.out.on (below1 _ _), Hz.out.on (below1 _ _)⟩ ?_
  rintro v19 ⟨pB, pw, pa, pb, pc, ps, px, pp, pq, py, pz⟩
  clear HB HN Ha Hb Hc Hs Hx Hp Hq Hy Hz
  have HB := Lib.hid pB
  have Hw := Lib.hid pw
  have Ha := Lib.hid pa
  have Hb := Lib.hid pb
  have Hc := Lib.hid pc
  have Hs := Lib.hid ps
  have Hx := Lib.hid px
  have Hp := Lib.hid pp
  have Hq := Lib.hid pq
  have Hy := Lib.hid py
  have Hz := Lib.hid pz
  clear pB pw pa pb pc ps px pp pq py pz
  refine (sameRat_any x y Ax Bx Ay By cx dx cy dy _ _ v19 Hx.out.2 Hy.out.2 (le_mill Lx.out.1) (le_mill Lx.out.2) (le_mill Ly.out.1) (le_mill Ly.out.2)).mono ?_
  rintro e v20 ⟨rfl, b0⟩
  replace HB := Lib.hid (below_on HB.out b0)
  replace Hw := Lib.hid (Hw.out.on b0)
  replace Ha := Lib.hid (Ha.out.on b0)
  replace Hb := Lib.hid (Hb.out.on b0)
  replace Hc := Lib.hid (Hc.out.on b0)
  replace Hs := Lib.hid (Hs.out.on b0)
  replace Hx := Lib.hid (Hx.out.on b0)
  replace Hp := Lib.hid (Hp.out.on b0)
  replace Hq := Lib.hid (Hq.out.on b0)
  replace Hy := Lib.hid (Hy.out.on b0)
  replace Hz := Lib.hid (Hz.out.on b0)
  clear b0
  rw [EXY.out]
  have qz0 := Hz.out.1.c0
  have qz1 := Hz.out.1.c1
  have qz2 := Hz.out.1.c2
  have kz := Hz.out.1.lt
  have qb0 := Hb.out.1.c0
  have qb1 := Hb.out.1.c1
  have qb2 := Hb.out.1.c2
  have kb := Hb.out.1.lt
  go_wp2_with fail
  clear qz0 qz1 qz2 kz qb0 qb1 qb2 kb
  refine (sameRat_any z b Az Bz Ab Bb cz dz cb db _ _ v20 Hz.out.2 Hb.out.2 (le_mill Lz.out.1) (le_mill Lz.out.2) (le_mill Lb.out.1) (le_mill Lb.out.2)).mono ?_
  rintro e v21 ⟨rfl, b0⟩
  replace HB := Lib.hid (below_on HB.out b0)
  replace Hw := Lib.hid (Hw.out.on b0)
  replace Ha := Lib.hid (Ha.out.on b0)
  replace Hb := Lib.hid (Hb.out.on b0)
  replace Hc := Lib.hid (Hc.out.on b0)
  replace Hs := Lib.hid (Hs.out.on b0)
  replace Hx := Lib.hid (Hx.out.on b0)
  replace Hp := Lib.hid (Hp.out.on b0)
  replace Hq := Lib.hid (Hq.out.on b0)
  replace Hy := Lib.hid (Hy.out.on b0)
  replace Hz := Lib.hid (Hz.out.on b0)
  clear b0
  rw [EZB.out]
  have qp0 := Hp.out.1.c0
  have qp1 := Hp.out.1.c1
  have qp2 := Hp.out.1.c2
  have kp := Hp.out.1.lt
  have qw0 := Hw.out.1.c0
  have qw1 := Hw.out.1.c1
  have qw2 := Hw.out.1.c2
  have kw := Hw.out.1.lt
  go_wp2_with fail
  clear qp0 qp1 qp2 kp qw0 qw1 qw2 kw
  refine (sameRat_any p p Ap Bp Aw Bw cp dp cw dw _ _ v21 Hp.out.2 Hw.out.2 (le_mill Lp.out.1) (le_mill Lp.out.2) (le_mill Lp.out.1) (le_mill Lp.out.2)).mono ?_
  rintro e v22 ⟨rfl, b0⟩
  replace HB := Lib.hid (below_on HB.out b0)
  replace Hw := Lib.hid (Hw.out.on b0)
  replace Ha := Lib.hid (Ha.out.on b0)
  replace Hb := Lib.hid (Hb.out.on b0)
  replace Hc := Lib.hid (Hc.out.on b0)
  replace Hs := Lib.hid (Hs.out.on b0)
  replace Hx := Lib.hid (Hx.out.on b0)
  replace Hp := Lib.hid (Hp.out.on b0)
  replace Hq := Lib.hid (Hq.out.on b0)
  replace Hy := Lib.hid (Hy.out.on b0)
  replace Hz := Lib.hid (Hz.out.on b0)
  clear b0
  rw [decide_eq_true (rfl : p = p)]
  have qx0 := Hx.out.1.c0
  have qx1 := Hx.out.1.c1
  have qx2 := Hx.out.1.c2
  have kx := Hx.out.1.lt
  go_wp2_with fail
  clear qx0 qx1 qx2 kx
  refine (okB x Ax Bx cx dx v22 Hx.out.2 Lx.out.1 Lx.out.2).mono ?_
  rintro e v23 ⟨rfl, b0⟩
  replace HB := Lib.hid (below_on HB.out b0)
  replace Hw := Lib.hid (Hw.out.on b0)
  replace Ha := Lib.hid (Ha.out.on b0)
  replace Hb := Lib.hid (Hb.out.on b0)
  replace Hc := Lib.hid (Hc.out.on b0)
  replace Hs := Lib.hid (Hs.out.on b0)
  replace Hx := Lib.hid (Hx.out.on b0)
  replace Hp := Lib.hid (Hp.out.on b0)
  replace Hq := Lib.hid (Hq.out.on b0)
  replace Hy := Lib.hid (Hy.out.on b0)
  replace Hz := Lib.hid (Hz.out.on b0)
  clear b0
  clear Hw
  have qp0 := Hp.out.1.c0
  have qp1 := Hp.out.1.c1
  have qp2 := Hp.out.1.c2
  have kp := Hp.out.1.lt
  have qb0 := Hb.out.1.c0
  have qb1 := Hb.out.1.c1
  have qb2 := Hb.out.1.c2
  have kb := Hb.out.1.lt
  go_wp2_with fail
  clear qp0 qp1 qp2 kp qb0 qb1 qb2 kb
  rcases Nat.eq_zero_or_pos (nu b) with hb0 | hb0
  · refine (divZ p b Ap Bp cp dp Ab Bb cb db v23 Hp.out.2 Hb.out.2 Lp.out.1 Lp.out.2 Lb.out.1 Lb.out.2 ad (ER.out.below (Nat.lt_of_lt_of_le ER.out.2 (Nat.le_refl _)) HB.out) hb0).mono ?_
    rintro e v24 ⟨Ar, cr, Br, dr, rfl, o0, b0⟩
    replace HB := Lib.hid (below_on HB.out b0)
    replace Ha := Lib.hid (Ha.out.on b0)
    replace Hb := Lib.hid (Hb.out.on b0)
    replace Hc := Lib.hid (Hc.out.on b0)
    replace Hs := Lib.hid (Hs.out.on b0)
    replace Hx := Lib.hid (Hx.out.on b0)
    replace Hp := Lib.hid (Hp.out.on b0)
    replace Hq := Lib.hid (Hq.out.on b0)
    replace Hy := Lib.hid (Hy.out.on b0)
    replace Hz := Lib.hid (Hz.out.on b0)
    clear o0 b0
    have qa0 := Ha.out.1.c0
    have qa1 := Ha.out.1.c1
    have qa2 := Ha.out.1.c2
    have ka := Ha.out.1.lt
    go_wp2_with fail
    clear qa0 qa1 qa2 ka
    refine calls_at (fun V => Below w.heap.size w V ∧ InBox V v1.heap.size a Aa ca Ba da ∧ InBox V v3.heap.size b Ab cb Bb db ∧ InBox V v4.heap.size c Ac cc Bc dc ∧ InBox V v6.heap.size s As cs Bs ds ∧ InBox V v8.heap.size x Ax cx Bx dx ∧ InBox V v10.heap.size p Ap cp Bp dp ∧ InBox V v12.heap.size q Aq cq Bq dq ∧ InBox V v14.heap.size y Ay cy By dy ∧ InBox V v16.heap.size z Az cz Bz dz)
      ⟨below_on HB.out (below1 _ _), Ha.out.on (below1 _ _), Hb.out.on (below1 _ _), Hc.out.on (below1 _ _), Hs.out.on (below1 _ _), Hx.out.on (below1 _ _), Hp.out.on (below1 _ _), Hq.out.on (below1 _ _), Hy.out.on (below1 _ _), Hz.out.on (below1 _ _)⟩ ?_
    rintro v25 ⟨pB, pa, pb, pc, ps, px, pp, pq, py, pz⟩
    clear HB Ha Hb Hc Hs Hx Hp Hq Hy Hz
    have HB := Lib.hid pB
    have Ha := Lib.hid pa
    have Hb := Lib.hid pb
    have Hc := Lib.hid pc
    have Hs := Lib.hid ps
    have Hx := Lib.hid px
    have Hp := Lib.hid pp
    have Hq := Lib.hid pq
    have Hy := Lib.hid py
    have Hz := Lib.hid pz
    clear pB pa pb pc ps px pp pq py pz
    refine (negB a Aa Ba ca da v25 Ha.out.2 La.out.1 La.out.2 m Em.out).mono ?_
    rintro e v26 ⟨Am, cm, Bm, dm, rfl, o, b⟩
    replace HB := Lib.hid (below_on HB.out b)
    replace Ha := Lib.hid (Ha.out.on b)
    replace Hb := Lib.hid (Hb.out.on b)
    replace Hc := Lib.hid (Hc.out.on b)
    replace Hs := Lib.hid (Hs.out.on b)
    replace Hx := Lib.hid (Hx.out.on b)
    replace Hp := Lib.hid (Hp.out.on b)
    replace Hq := Lib.hid (Hq.out.on b)
    replace Hy := Lib.hid (Hy.out.on b)
    replace Hz := Lib.hid (Hz.out.on b)
    have HN := Lib.hid o
    clear o b
    have qa0 := Ha.out.1.c0
    have qa1 := Ha.out.1.c1
    have qa2 := Ha.out.1.c2
    have ka := Ha.out.1.lt
    go_wp2_with fail
    clear qa0 qa1 qa2 ka
    refine calls_at (fun V => Below w.heap.size w V ∧ InBox V v1.heap.size a Aa ca Ba da ∧ InBox V v3.heap.size b Ab cb Bb db ∧ InBox V v4.heap.size c Ac cc Bc dc ∧ InBox V v6.heap.size s As cs Bs ds ∧ InBox V v8.heap.size x Ax cx Bx dx ∧ InBox V v10.heap.size p Ap cp Bp dp ∧ InBox V v12.heap.size q Aq cq Bq dq ∧ InBox V v14.heap.size y Ay cy By dy ∧ InBox V v16.heap.size z Az cz Bz dz ∧ InBox V v26.heap.size m Am cm Bm dm)
      ⟨below_on HB.out (below1 _ _), Ha.out.on (below1 _ _), Hb.out.on (below1 _ _), Hc.out.on (below1 _ _), Hs.out.on (below1 _ _), Hx.out.on (below1 _ _), Hp.out.on (below1 _ _), Hq.out.on (below1 _ _), Hy.out.on (below1 _ _), Hz.out.on (below1 _ _), InBox.new HN.out⟩ ?_
    rintro v27 ⟨pB, pa, pb, pc, ps, px, pp, pq, py, pz, pm⟩
    clear HB HN Ha Hb Hc Hs Hx Hp Hq Hy Hz
    have HB := Lib.hid pB
    have Ha := Lib.hid pa
    have Hb := Lib.hid pb
    have Hc := Lib.hid pc
    have Hs := Lib.hid ps
    have Hx := Lib.hid px
    have Hp := Lib.hid pp
    have Hq := Lib.hid pq
    have Hy := Lib.hid py
    have Hz := Lib.hid pz
    have Hm := Lib.hid pm
    clear pB pa pb pc ps px pp pq py pz pm
    refine (addB a m Aa Ba ca da Am Bm cm dm v27 Ha.out.2 Hm.out.2 La.out.1 La.out.2 Lm.out.1 Lm.out.2 t Et.out).mono ?_
    rintro e v28 ⟨At, ct, Bt, dt, rfl, o, b⟩
    replace HB := Lib.hid (below_on HB.out b)
    replace Ha := Lib.hid (Ha.out.on b)
    replace Hb := Lib.hid (Hb.out.on b)
    replace Hc := Lib.hid (Hc.out.on b)
    replace Hs := Lib.hid (Hs.out.on b)
    replace Hx := Lib.hid (Hx.out.on b)
    replace Hp := Lib.hid (Hp.out.on b)
    replace Hq := Lib.hid (Hq.out.on b)
    replace Hy := Lib.hid (Hy.out.on b)
    replace Hz := Lib.hid (Hz.out.on b)
    replace Hm := Lib.hid (Hm.out.on b)
    have HN := Lib.hid o
    clear o b
    have hol := EO.out
    have hbl : (D (nu b)).length = 0 := by rw [hb0]; rfl
    have qb0 := Hb.out.1.c0
    have qb1 := Hb.out.1.c1
    have qb2 := Hb.out.1.c2
    have kb := Hb.out.1.lt
    go_wp2
    go_ret
    exact ⟨rfl, below_on HB.out (below1 _ _)⟩
  · obtain ⟨r, hr⟩ : ∃ z, p / b = z := ⟨_, rfl⟩
    have ERr : Hid (decide (r = a) = true) := Lib.hid (by rw [← hr, EDV.out (fun h => by rw [nu_zero.2 h] at hb0; omega)]; simp)
    have Lr : Hid ((D (nu r)).length ≤ 19 ∧ (D r.den).length ≤ 19) := Lib.hid (by rw [of_decide_eq_true ERr.out]; exact La.out)
    have EQr := Lib.hid hr
    clear hr
    refine (divB p b Ap Bp cp dp Ab Bb cb db v23 Hp.out.2 Hb.out.2 Lp.out.1 Lp.out.2 Lb.out.1 Lb.out.2 ad (ER.out.below (Nat.lt_of_lt_of_le ER.out.2 (Nat.le_refl _)) HB.out) hb0 r EQr.out).mono ?_
    rintro e v24 ⟨Ar, cr, Br, dr, rfl, o, b⟩
    replace HB := Lib.hid (below_on HB.out b)
    replace Ha := Lib.hid (Ha.out.on b)
    replace Hb := Lib.hid (Hb.out.on b)
    replace Hc := Lib.hid (Hc.out.on b)
    replace Hs := Lib.hid (Hs.out.on b)
    replace Hx := Lib.hid (Hx.out.on b)
    replace Hp := Lib.hid (Hp.out.on b)
    replace Hq := Lib.hid (Hq.out.on b)
    replace Hy := Lib.hid (Hy.out.on b)
    replace Hz := Lib.hid (Hz.out.on b)
    have HN := Lib.hid o
    clear o b
    have qa0 := Ha.out.1.c0
    have qa1 := Ha.out.1.c1
    have qa2 := Ha.out.1.c2
    have ka := Ha.out.1.lt
    go_wp2_with fail
    clear qa0 qa1 qa2 ka
    refine calls_at (fun V => Below w.heap.size w V ∧ InBox V v1.heap.size a Aa ca Ba da ∧ InBox V v3.heap.size b Ab cb Bb db ∧ InBox V v4.heap.size c Ac cc Bc dc ∧ InBox V v6.heap.size s As cs Bs ds ∧ InBox V v8.heap.size x Ax cx Bx dx ∧ InBox V v10.heap.size p Ap cp Bp dp ∧ InBox V v12.heap.size q Aq cq Bq dq ∧ InBox V v14.heap.size y Ay cy By dy ∧ InBox V v16.heap.size z Az cz Bz dz ∧ InBox V v24.heap.size r Ar cr Br dr)
      ⟨below_on HB.out (below1 _ _), Ha.out.on (below1 _ _), Hb.out.on (below1 _ _), Hc.out.on (below1 _ _), Hs.out.on (below1 _ _), Hx.out.on (below1 _ _), Hp.out.on (below1 _ _), Hq.out.on (below1 _ _), Hy.out.on (below1 _ _), Hz.out.on (below1 _ _), InBox.new HN.out⟩ ?_
    rintro v25 ⟨pB, pa, pb, pc, ps, px, pp, pq, py, pz, pr⟩
    clear HB HN Ha Hb Hc Hs Hx Hp Hq Hy Hz
    have HB := Lib.hid pB
    have Ha := Lib.hid pa
    have Hb := Lib.hid pb
    have Hc := Lib.hid pc
    have Hs := Lib.hid ps
    have Hx := Lib.hid px
    have Hp := Lib.hid pp
    have Hq := Lib.hid pq
    have Hy := Lib.hid py
    have Hz := Lib.hid pz
    have Hr := Lib.hid pr
    clear pB pa pb pc ps px pp pq py pz pr
    refine (negB a Aa Ba ca da v25 Ha.out.2 La.out.1 La.out.2 m Em.out).mono ?_
    rintro e v26 ⟨Am, cm, Bm, dm, rfl, o, b⟩
    replace HB := Lib.hid (below_on HB.out b)
    replace Ha := Lib.hid (Ha.out.on b)
    replace Hb := Lib.hid (Hb.out.on b)
    replace Hc := Lib.hid (Hc.out.on b)
    replace Hs := Lib.hid (Hs.out.on b)
    replace Hx := Lib.hid (Hx.out.on b)
    replace Hp := Lib.hid (Hp.out.on b)
    replace Hq := Lib.hid (Hq.out.on b)
    replace Hy := Lib.hid (Hy.out.on b)
    replace Hz := Lib.hid (Hz.out.on b)
    replace Hr := Lib.hid (Hr.out.on b)
    have HN := Lib.hid o
    clear o b
    have qa0 := Ha.out.1.c0
    have qa1 := Ha.out.1.c1
    have qa2 := Ha.out.1.c2
    have ka := Ha.out.1.lt
    go_wp2_with fail
    clear qa0 qa1 qa2 ka
    refine calls_at (fun V => Below w.heap.size w V ∧ InBox V v1.heap.size a Aa ca Ba da ∧ InBox V v3.heap.size b Ab cb Bb db ∧ InBox V v4.heap.size c Ac cc Bc dc ∧ InBox V v6.heap.size s As cs Bs ds ∧ InBox V v8.heap.size x Ax cx Bx dx ∧ InBox V v10.heap.size p Ap cp Bp dp ∧ InBox V v12.heap.size q Aq cq Bq dq ∧ InBox V v14.heap.size y Ay cy By dy ∧ InBox V v16.heap.size z Az cz Bz dz ∧ InBox V v24.heap.size r Ar cr Br dr ∧ InBox V v26.heap.size m Am cm Bm dm)
      ⟨below_on HB.out (below1 _ _), Ha.out.on (below1 _ _), Hb.out.on (below1 _ _), Hc.out.on (below1 _ _), Hs.out.on (below1 _ _), Hx.out.on (below1 _ _), Hp.out.on (below1 _ _), Hq.out.on (below1 _ _), Hy.out.on (below1 _ _), Hz.out.on (below1 _ _), Hr.out.on (below1 _ _), InBox.new HN.out⟩ ?_
    rintro v27 ⟨pB, pa, pb, pc, ps, px, pp, pq, py, pz, pr, pm⟩
    clear HB HN Ha Hb Hc Hs Hx Hp Hq Hy Hz Hr
    have HB := Lib.hid pB
    have Ha := Lib.hid pa
    have Hb := Lib.hid pb
    have Hc := Lib.hid pc
    have Hs := Lib.hid ps
    have Hx := Lib.hid px
    have Hp := Lib.hid pp
    have Hq := Lib.hid pq
    have Hy := Lib.hid py
    have Hz := Lib.hid pz
    have Hr := Lib.hid pr
    have Hm := Lib.hid pm
    clear pB pa pb pc ps px pp pq py pz pr pm
    refine (addB a m Aa Ba ca da Am Bm cm dm v27 Ha.out.2 Hm.out.2 La.out.1 La.out.2 Lm.out.1 Lm.out.2 t Et.out).mono ?_
    rintro e v28 ⟨At, ct, Bt, dt, rfl, o, b⟩
    replace HB := Lib.hid (below_on HB.out b)
    replace Ha := Lib.hid (Ha.out.on b)
    replace Hb := Lib.hid (Hb.out.on b)
    replace Hc := Lib.hid (Hc.out.on b)
    replace Hs := Lib.hid (Hs.out.on b)
    replace Hx := Lib.hid (Hx.out.on b)
    replace Hp := Lib.hid (Hp.out.on b)
    replace Hq := Lib.hid (Hq.out.on b)
    replace Hy := Lib.hid (Hy.out.on b)
    replace Hz := Lib.hid (Hz.out.on b)
    replace Hr := Lib.hid (Hr.out.on b)
    replace Hm := Lib.hid (Hm.out.on b)
    have HN := Lib.hid o
    clear o b
    have hol := EO.out
    have hbl : 0 < (D (nu b)).length := D_len_pos hb0
    have hbl2 : ((((D (nu b)).length : Nat) : Int) == 0) = false := beq_eq_false_iff_ne.2 (by omega)
    clear HN
    have qb0 := Hb.out.1.c0
    have qb1 := Hb.out.1.c1
    have qb2 := Hb.out.1.c2
    have kb := Hb.out.1.lt
    have qr0 := Hr.out.1.c0
    have qr1 := Hr.out.1.c1
    have qr2 := Hr.out.1.c2
    have kr := Hr.out.1.lt
    have qa0 := Ha.out.1.c0
    have qa1 := Ha.out.1.c1
    have qa2 := Ha.out.1.c2
    have ka := Ha.out.1.lt
    go_wp2_with fail
    clear qb0 qb1 qb2 kb qr0 qr1 qr2 kr qa0 qa1 qa2 ka hol hbl hbl2
    refine calls_at (fun V => Below w.heap.size w V ∧ InBox V v1.heap.size a Aa ca Ba da ∧ InBox V v3.heap.size b Ab cb Bb db ∧ InBox V v4.heap.size c Ac cc Bc dc ∧ InBox V v6.heap.size s As cs Bs ds ∧ InBox V v8.heap.size x Ax cx Bx dx ∧ InBox V v10.heap.size p Ap cp Bp dp ∧ InBox V v12.heap.size q Aq cq Bq dq ∧ InBox V v14.heap.size y Ay cy By dy ∧ InBox V v16.heap.size z Az cz Bz dz ∧ InBox V v24.heap.size r Ar cr Br dr ∧ InBox V v26.heap.size m Am cm Bm dm)
      ⟨below_on HB.out (below1 _ _), Ha.out.on (below1 _ _), Hb.out.on (below1 _ _), Hc.out.on (below1 _ _), Hs.out.on (below1 _ _), Hx.out.on (below1 _ _), Hp.out.on (below1 _ _), Hq.out.on (below1 _ _), Hy.out.on (below1 _ _), Hz.out.on (below1 _ _), Hr.out.on (below1 _ _), Hm.out.on (below1 _ _)⟩ ?_
    rintro v29 ⟨pB, pa, pb, pc, ps, px, pp, pq, py, pz, pr, pm⟩
    clear HB Ha Hb Hc Hs Hx Hp Hq Hy Hz Hr Hm
    have HB := Lib.hid pB
    have Ha := Lib.hid pa
    have Hb := Lib.hid pb
    have Hc := Lib.hid pc
    have Hs := Lib.hid ps
    have Hx := Lib.hid px
    have Hp := Lib.hid pp
    have Hq := Lib.hid pq
    have Hy := Lib.hid py
    have Hz := Lib.hid pz
    have Hr := Lib.hid pr
    have Hm := Lib.hid pm
    clear pB pa pb pc ps px pp pq py pz pr pm
    refine (sameRat_any r a Ar Br Aa Ba cr dr ca da _ _ v29 Hr.out.2 Ha.out.2 (le_mill Lr.out.1) (le_mill Lr.out.2) (le_mill La.out.1) (le_mill La.out.2)).mono ?_
    rintro e v30 ⟨rfl, b⟩
    replace HB := Lib.hid (below_on HB.out b)
    replace Ha := Lib.hid (Ha.out.on b)
    replace Hb := Lib.hid (Hb.out.on b)
    replace Hc := Lib.hid (Hc.out.on b)
    replace Hs := Lib.hid (Hs.out.on b)
    replace Hx := Lib.hid (Hx.out.on b)
    replace Hp := Lib.hid (Hp.out.on b)
    replace Hq := Lib.hid (Hq.out.on b)
    replace Hy := Lib.hid (Hy.out.on b)
    replace Hz := Lib.hid (Hz.out.on b)
    replace Hr := Lib.hid (Hr.out.on b)
    replace Hm := Lib.hid (Hm.out.on b)
    clear b
    rw [ERr.out]
    go_wp2
    go_ret
    exact ⟨rfl, HB.out⟩
end Go.Proofs.YtgeijojkfojfbaaDoor
