/-
  Tapes that are alike: SameTape of the program and of the model.
-/
import Derived.Test.YtlphcpkhclfkaaaGrpF
import Derived.Test.YtlphcpkhclfkaaaTapeCopy
namespace Nt
open Go Go.RowKit
def sameTp (ns ms : List Nd) (o p : Int) : Bool := decide (ns = ms) && (o == p)
theorem two_tapes (w : World) (t : TypeId) (A B : Option Addr) (n c m d : Nat) (o p : Int) :
    TpAt ((w.alloc (.cells #[.slice A n c, .int .i64 o] t)).alloc (.cells #[.slice B m d, .int .i64 p] t)) w.heap.size t A n c o ∧ TpAt ((w.alloc (.cells #[.slice A n c, .int .i64 o] t)).alloc (.cells #[.slice B m d, .int .i64 p] t)) (w.heap.size + 1) t B m d p ∧ Below w.heap.size w ((w.alloc (.cells #[.slice A n c, .int .i64 o] t)).alloc (.cells #[.slice B m d, .int .i64 p] t)) := by
  refine ⟨(TpAt.new _ _ _ _ _ _).on (below_one _ _), ?_, ((Below.refl _ _).alloc (Nat.le_refl _) _).alloc (by simp) _⟩
  have h := TpAt.new (w.alloc (.cells #[.slice A n c, .int .i64 o] t)) t B m d p
  rwa [World.size_alloc] at h
end Nt
namespace Go.Proofs.Ytlphcpkhclfkaaa
open Go Go.RowKit Nt

set_option maxHeartbeats 1600000 in
theorem implSameTape_any (A B : Option Addr) (n c m d : Nat) (ns ms : List Nd) (o p : Int) (P Q : Nat → Prop) (w : World) (hr : RdN w P A n c ns) (hr' : RdN w Q B m d ms) (hn : n ≤ 1048576) (hm : m ≤ 1048576) :
    Calls Try.prog 34 #[.agg #[.slice A n c, .int .i64 o], .agg #[.slice B m d, .int .i64 p]] w fun e w' => e = .returned (.bool (sameTp ns ms o p)) ∧ Below w.heap.size w w' := by
  have HR := Lib.hid hr.low
  have HR' := Lib.hid hr'.low
  clear hr hr'
  go_enter Try.func34, Try.ntmps34
  go_wp2_with fail
  refine calls_atN (fun v => TpAt v w.heap.size 61 A n c o ∧ TpAt v (w.heap.size + 1) 61 B m d p ∧ Below w.heap.size w v) (two_tapes w _ A B n c m d o p) ?_
  rintro v1 ⟨pa, pb, pB⟩
  refine (equalNodes_any A B n c m d ns ms _ _ v1 (HR.out.below pB) (HR'.out.below pB) hn hm).mono ?_
  rintro e v2 ⟨rfl, bb⟩
  have s0 := (pa.on bb).c1
  have s1 := (pb.on bb).c1
  have HB := Lib.hid (belowN_on pB bb)
  have HV : Hid (sameTp ns ms o p = (decide (ns = ms) && (o == p))) := rfl
  clear pa pb pB bb
  obtain ⟨J, hJ⟩ : ∃ J, decide (ns = ms) = J := ⟨_, rfl⟩
  rw [hJ] at HV ⊢
  clear hJ
  cases J with
  | false =>
    go_wp2
    go_ret
    exact ⟨ret_bool HV.out.symm, HB.out⟩
  | true =>
    replace HV : Hid (sameTp ns ms o p = (o == p)) := by show _ = _; rw [HV.out]; rfl
    go_wp2
    go_ret
    exact ⟨ret_bool HV.out.symm, HB.out⟩

set_option maxHeartbeats 1600000 in
theorem specSameTape_any (A B : Option Addr) (n c m d : Nat) (ns ms : List Nd) (o p : Int) (P Q : Nat → Prop) (w : World) (hr : RdN w P A n c ns) (hr' : RdN w Q B m d ms) (hn : n ≤ 1048576) (hm : m ≤ 1048576) :
    Calls Try.prog 32 #[.agg #[.slice A n c, .int .i64 o], .agg #[.slice B m d, .int .i64 p]] w fun e w' => e = .returned (.bool (sameTp ns ms o p)) ∧ Below w.heap.size w w' := by
  have HR := Lib.hid hr.low
  have HR' := Lib.hid hr'.low
  have HV : Hid (sameTp ns ms o p = (decide (ns = ms) && (o == p))) := rfl
  have HT := Lib.hid (two_tapes w 61 A B n c m d o p)
  clear hr hr'
  by_cases ho : o = p
  · subst ho
    replace HV : Hid (sameTp ns ms o o = decide (ns = ms)) := by show _ = _; rw [HV.out]; simp
    have hoo : (o == o) = true := by simp
    go_enter Try.func32, Try.ntmps32
    go_wp2_with fail
    refine calls_atN (fun v => Below w.heap.size w v) HT.out.2.2 ?_
    intro v1 pB
    refine (l05Same_any A B n c m d ns ms _ _ v1 (HR.out.below pB) (HR'.out.below pB) hn hm).mono ?_
    rintro e v2 ⟨rfl, bb⟩
    have HB := Lib.hid (belowN_on pB bb)
    clear pB bb
    obtain ⟨J, hJ⟩ : ∃ J, decide (ns = ms) = J := ⟨_, rfl⟩
    rw [hJ] at HV ⊢
    clear hJ
    go_wp2
    go_ret
    exact ⟨ret_bool HV.out.symm, HB.out⟩
  · replace HV : Hid (sameTp ns ms o p = false) := by show _ = _; rw [HV.out]; simp [ho]
    have hoo : (o == p) = false := by simpa using ho
    clear ho
    go_enter Try.func32, Try.ntmps32
    go_wp2
    go_ret
    exact ⟨ret_bool HV.out.symm, HT.out.2.2⟩
end Go.Proofs.Ytlphcpkhclfkaaa
