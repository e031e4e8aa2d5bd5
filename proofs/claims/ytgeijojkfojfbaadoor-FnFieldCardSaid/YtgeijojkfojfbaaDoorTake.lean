/-
  What is taken off: takeTimes, in a block that is known whole.
-/
import Derived.Test.YtgeijojkfojfbaaDoorSpecAdd
import Derived.Test.YtgeijojkfojfbaaDoorTakeX
namespace Nt
open Go Go.RowKit
/-- between pre and post block g now holds numbers that mean r, so many limbs; nothing else that was there has turned -/
def Took (t : TypeId) (w : World) (g : Nat) (pre post : List Int) (len : Nat) (r : Int) (w' : World) : Prop :=
  ∃ ys : List Int, ys.length = len ∧ Limbs ys ∧ val ys = r ∧ Arr w' g t (pre ++ ys ++ post) ∧ w.grownBy w' (some g)
theorem Arx.arr {w : World} {g : Nat} {t : TypeId} {xs : List Int} (h : Arx w g t 0 xs) : Arr w g t xs := by
  obtain ⟨r, h0, h⟩ := h
  have : r = [] := List.eq_nil_of_length_eq_zero h0
  subst this
  rwa [List.append_nil] at h
end Nt
namespace Go.Proofs.YtgeijojkfojfbaaDoor
open Go Go.RowKit Nt
theorem takeTimes_any (g off nr cr : Nat) (t : TypeId) (pre xs post : List Int) (B : Option Addr) (lb cb n : Nat) (times : Int) (w : World)
    (hf : Arr w g t (pre ++ xs ++ post)) (hoff : pre.length = off) (hnr : xs.length = nr) (hb : Rd w (· ≠ g) B lb cb (D n)) (hl : Limbs xs) (ht0 : 0 ≤ times) (ht1 : times ≤ 10000) (hle : (n : Int) * times ≤ val xs)
    (hN : nr ≤ 10000) (hlb : lb ≤ 10000) (hoffN : off ≤ 10000) :
    Calls Tryd.prog 81 #[.slice (some ⟨g, off, none⟩) nr cr, .slice B lb cb, .int .i64 times] w fun e w' => e = .returned (.tuple #[]) ∧ Took t w g pre post nr (val xs - n * times) w' :=
  (takeTimes_x g off nr cr 0 t pre xs post B lb cb n times w hf.arx hoff hnr hb hl ht0 ht1 hle hN hlb hoffN).mono fun _ _ ⟨h, ys, h1, h2, h3, h4, h5⟩ => ⟨h, ys, h1, h2, h3, h4.arr, h5⟩
end Go.Proofs.YtgeijojkfojfbaaDoor
