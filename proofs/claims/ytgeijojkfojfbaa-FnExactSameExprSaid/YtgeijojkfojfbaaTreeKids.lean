/-
  A node's children.
-/
import Derived.Test.YtgeijojkfojfbaaNodeCopy
import Derived.Deep.RegionWith
namespace Nt
open Go Go.RowKit
theorem arr_after {w w1 : World} {o o' : Obj} (bb : Below ((w.alloc o).alloc o').drew.heap.size ((w.alloc o).alloc o').drew w1) : w1.heap[w.heap.size + 1]? = some o' ∧ Below (w.alloc o).heap.size (w.alloc o) w1 := by
  have b1 := undrewN bb
  refine ⟨(b1.block (w.heap.size + 1) (by simp)).trans ?_, (below_one (w.alloc o) o').trans (b1.mono (by simp))⟩
  have h := heap_alloc_new (w.alloc o) o'
  rw [World.size_alloc] at h
  exact h
end Nt
namespace Go.Proofs.Ytgeijojkfojfbaa
open Go Go.RowKit Nt

set_option maxHeartbeats 3200000 in
theorem children_any (op a b n : Int) (w : World) :
    Calls Try.prog 115 #[.agg #[.int .i64 op, .int .i64 a, .int .i64 b, .int .i64 n]] w fun e w' => ∃ g, e = .returned (.slice (some ⟨g, 0, none⟩) (arityN op).toNat 2) ∧ w.heap.size ≤ g ∧ w'.heap[g]? = some (.cells #[.int .i64 a, .int .i64 b] 3 (0, 0)) ∧ Below w.heap.size w w' := by
  have HB1 := Lib.hid (below_one w (.cells #[.int .i64 op, .int .i64 a, .int .i64 b, .int .i64 n] 39))
  have HT := Lib.hid (NodeAt.new w 39 op a b n)
  obtain ⟨m, hm⟩ : ∃ m, arityN op = m := ⟨_, rfl⟩
  have HM := Lib.hid hm
  have hr : 0 ≤ m ∧ m ≤ 2 := by
    rw [← hm]
    unfold arityN
    split
    · omega
    · split <;> omega
  obtain ⟨hm0, hm2⟩ := hr
  rw [hm]
  clear hm
  · go_enter Try.func115, Try.ntmps115
    go_wp2_with fail
    go_region_with (first
      | (go_at_call 113; refine (implArity_any op a b n _).mono ?_; rintro e w1 ⟨rfl, bb⟩; have bb := undrewN bb; have HB2 := Lib.hid (belowN_on HB1.out bb); have HT1 := Lib.hid (HT.out.on bb); obtain ⟨t0, t1, t2, t3⟩ := HT1.out.four; rw [HM.out])
      | (go_at_call 113; refine (implArity_any op a b n _).mono ?_; rintro e w1 ⟨rfl, bb⟩; obtain ⟨hg2, bb⟩ := arr_after bb; have HG2 := Lib.hid hg2; have HB2 := Lib.hid (belowN_on HB1.out bb); have HT1 := Lib.hid (HT.out.on bb); clear hg2 bb; obtain ⟨t0, t1, t2, t3⟩ := HT1.out.four; rw [HM.out]))
    all_goals
      go_wp2
      go_ret
      first
        | exact ⟨_, rfl, HB2.out.size, heap_alloc_new _ _, belowN_on HB2.out (below_one _ _)⟩
        | exact ⟨_, rfl, by simp, HG2.out, HB2.out⟩
end Go.Proofs.Ytgeijojkfojfbaa
