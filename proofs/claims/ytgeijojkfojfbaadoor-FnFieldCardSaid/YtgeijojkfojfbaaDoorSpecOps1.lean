/-
  NegRat, AbsRat of the model; what its functions of one rational answer where it is not right.
-/
import Derived.Test.YtgeijojkfojfbaaDoorSpecOwn
namespace Nt
open Go Go.RowKit
/-- a rational that can be read, and a code -/
def SayRC' (w : World) (neg : Bool) (xs ys : List Int) (code : Int) (e : Ending) (w' : World) : Prop :=
  ∃ A ca B cb, e = .returned (.tuple #[.agg #[.bool neg, .slice A xs.length ca, .slice B ys.length cb], .int .i64 code]) ∧ RdR w' (fun _ => True) xs ys A ca B cb ∧ Below w.heap.size w w'
end Nt
namespace Go.Proofs.YtgeijojkfojfbaaDoor
open Go Go.RowKit Nt

set_option maxHeartbeats 400000 in
theorem specFloorRat_bad (neg : Bool) (A B : Option Addr) (la ca lb cb : Nat) (xs ys : List Int) (P Q : Nat → Prop) (w : World) (hx : Rd w P A la ca xs) (hy : Rd w Q B lb cb ys) (hla : la ≤ 16777216) (hlb : lb ≤ 16777216) (hok : okR neg xs ys = false) :
    Calls Tryd.prog 16 #[.agg #[.bool neg, .slice A la ca, .slice B lb cb]] w (SayRC' w false [] [] 1) := by
  have HX := Lib.hid (hx.mono (Q := (· < w.heap.size)) fun _ _ h => h)
  have HY := Lib.hid (hy.mono (Q := (· < w.heap.size)) fun _ _ h => h)
  have HC := Lib.hid hok
  clear hx hy hok
  go_enter Tryd.func16, Tryd.ntmps16
  go_wp2_with fail
  refine calls_at (fun W => Below w.heap.size w W ∧ RatAt W w.heap.size 25 neg A la ca B lb cb ∧ RatAt W (w.heap.size + 1) 25 false none 0 0 none 0 0)
    ⟨below2 _ _ _, (RatAt.new _ _ _ _ _ _ _ _ _).alloc _, RatAt.new1 _ _ _ _ _ _ _ _ _ _⟩ ?_
  rintro W ⟨hb, r0, r1⟩
  refine (specRatOK_any neg A B la ca lb cb xs ys _ _ W (HX.out.below hb) (HY.out.below hb) hla hlb).mono ?_
  rintro e w1 ⟨rfl, b1⟩
  rw [HC.out]
  have HB1 := Lib.hid (below_on hb b1)
  have HR1 := Lib.hid (r1.on b1)
  clear hb r0 r1 b1
  have f0 := HR1.out.fz 0
  have f1 := HR1.out.fz 1
  have f2 := HR1.out.fz 2
  have y0 := HR1.out.c0
  have y1 := HR1.out.c1
  have y2 := HR1.out.c2
  go_wp2
  have g2 := setAll_grown w1 (w.heap.size + 1) (.bool false) (.slice none 0 0) (.slice none 0 0)
  refine bodyPost_ret (retRC rfl _ _ _ rfl (HR1.out.setAll _ _ _ _ _ _ _)) rfl ?_
  exact ⟨none, 0, none, 0, rfl, ⟨Rd.nil_ _ _ _ _ (fun _ => rfl), Rd.nil_ _ _ _ _ (fun _ => rfl)⟩, below_grow HB1.out (by omega) g2⟩



end Go.Proofs.YtgeijojkfojfbaaDoor
