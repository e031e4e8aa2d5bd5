/-
  CmpRat of the program and of the model.
-/
import Derived.Test.YtgeijojkfojfbaaDoorRatCmp
namespace Go.Proofs.YtgeijojkfojfbaaDoor
open Go Go.RowKit Nt

set_option maxHeartbeats 400000 in
theorem l02Ask_any (n : Bool) (A B : Option Addr) (la ca lb cb : Nat) (xs ys : List Int) (n' : Bool) (A' B' : Option Addr) (la' ca' lb' cb' : Nat) (xs' ys' : List Int) (P P' : Nat → Prop) (w : World) (hx : Rd w P A la ca xs) (hy : Rd w P B lb cb ys) (hx' : Rd w P' A' la' ca' xs') (hy' : Rd w P' B' lb' cb' ys') (hla : la ≤ 16777216) (hlb : lb ≤ 16777216) (hla' : la' ≤ 16777216) (hlb' : lb' ≤ 16777216) :
    Calls Tryd.prog 30 #[.agg #[.bool n, .slice A la ca, .slice B lb cb], .agg #[.bool n', .slice A' la' ca', .slice B' lb' cb']] w fun e w' => e = .returned (.bool (okR n xs ys && okR n' xs' ys')) ∧ Below w.heap.size w w' := by
  have HX := Lib.hid (hx.mono (Q := (· < w.heap.size)) fun _ _ h => h)
  have HY := Lib.hid (hy.mono (Q := (· < w.heap.size)) fun _ _ h => h)
  have HX' := Lib.hid (hx'.mono (Q := (· < w.heap.size)) fun _ _ h => h)
  have HY' := Lib.hid (hy'.mono (Q := (· < w.heap.size)) fun _ _ h => h)
  clear hx hy hx' hy'
  go_enter Tryd.func30, Tryd.ntmps30
  go_wp2_with fail
  refine calls_at (fun W => Below w.heap.size w W ∧ RatAt W w.heap.size 25 n A la ca B lb cb ∧ RatAt W (w.heap.size + 1) 25 n' A' la' ca' B' lb' cb')
    ⟨below2 _ _ _, (RatAt.new _ _ _ _ _ _ _ _ _).alloc _, RatAt.new1 _ _ _ _ _ _ _ _ _ _⟩ ?_
  rintro W ⟨hb, r0, r1⟩
  refine (specRatOK_any n A B la ca lb cb xs ys _ _ W (HX.out.below hb) (HY.out.below hb) hla hlb).mono ?_
  rintro e w1 ⟨rfl, b1⟩
  have HB1 := Lib.hid (below_on hb b1)
  have HR1 := Lib.hid (r1.on b1)
  clear hb r0 r1 b1
  cases h1 : okR n xs ys with
  | false =>
    have HE := Lib.hid h1
    clear h1
    go_wp2
    go_ret
    exact ⟨by rw [HE.out]; rfl, HB1.out⟩
  | true =>
    have HE := Lib.hid h1
    clear h1
    have c0 := HR1.out.c0
    have c1 := HR1.out.c1
    have c2 := HR1.out.c2
    go_wp2_with fail
    clear c0 c1 c2
    refine (specRatOK_any n' A' B' la' ca' lb' cb' xs' ys' _ _ w1 (HX'.out.below HB1.out) (HY'.out.below HB1.out) hla' hlb').mono ?_
    rintro e w2 ⟨rfl, b2⟩
    have HB2 := Lib.hid (below_on HB1.out b2)
    clear b2
    go_wp2
    go_ret
    exact ⟨by rw [HE.out]; rfl, HB2.out⟩

end Go.Proofs.YtgeijojkfojfbaaDoor
