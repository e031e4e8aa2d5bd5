/-
  Is it the error that stands for what is over 0: errors.Is at that error itself, and at none.
-/
import Derived.Test.YtcepjcnpokpdcaaGreatDoorChecked
import Derived.WalkKit
import Derived.LaidEql
import Derived.RowKitTokens
import Derived.Test.YtcepjcnpokpdcaaGreatDoorGrpD
namespace Nt
open Go Go.RowKit
/-- the variable in block 0 holds the error at ad -/
def ErrAt (t : TypeId) (w : World) (ad : Addr) : Prop := w.cell? ⟨0, 0, none⟩ = some (.iface t (.pointer (some ad))) ∧ 0 < w.heap.size
theorem ErrAt.on {t : TypeId} {w w' : World} {ad : Addr} (h : ErrAt t w ad) (hb : Below w.heap.size w w') : ErrAt t w' ad :=
  ⟨(World.cell?_of_block (a := ⟨0, 0, none⟩) (hb.block 0 h.2)).trans h.1, Nat.lt_of_lt_of_le h.2 hb.size⟩
theorem ErrAt.below {t : TypeId} {w w' : World} {ad : Addr} {N : Nat} (h : ErrAt t w ad) (hN : 0 < N) (hb : Below N w w') : ErrAt t w' ad :=
  ⟨(World.cell?_of_block (a := ⟨0, 0, none⟩) (hb.block 0 hN)).trans h.1, Nat.lt_of_lt_of_le h.2 hb.size⟩
end Nt
namespace Go.Proofs.YtcepjcnpokpdcaaGreatDoor
open Go Go.RowKit Nt Go.Extern

theorem kindOf_err (v : Value) (w : World) : (Extern.ReflectliteType.typeOf #[.iface 221 v]).run Tryz.prog w = .ok (.iface 205 (.agg #[.pointer (some ⟨1, 221, none⟩)])) w := by kernel_rfl
def cmpM : Array Value → Sem Value := Extern.ReflectliteType.method fun t => do Extern.Rtype.noPackHeld "Comparable" t; pure (.bool (← typeInfo t).comparable)
theorem comp_err (w : World) : (cmpM #[.agg #[.pointer (some ⟨1, 221, none⟩)]]).run Tryz.prog w = .ok (.bool true) w := by kernel_rfl
theorem meth_err (v : Value) (w : World) : (Go.method 365 205 v "Comparable").run Tryz.prog w = .ok (225, v) w := by kernel_rfl
theorem info_err : (Tryz.prog.info? 221).map (·.comparable) = some true := by kernel_rfl
theorem size_err : (Tryz.prog.info? 250).map (·.size) = some 1 := by kernel_rfl

set_option maxHeartbeats 800000 in
/-- the error itself -/
theorem isErr_same (ad : Addr) (w : World) :
    Calls Tryz.prog 128 #[.iface 221 (.pointer (some ad)), .iface 221 (.pointer (some ad))] w fun e w' => e = .returned (.bool true) ∧ w' = w := by
  obtain ⟨i, hi, hcmp⟩ := Option.map_eq_some_iff.1 info_err
  obtain ⟨j, hj, hjs⟩ := Option.map_eq_some_iff.1 size_err
  have hty := @run_callFunc_extern Tryz.prog 158 _ Extern.ReflectliteType.typeOf Tryz.func158 (by kernel_rfl) (by kernel_rfl) (by kernel_rfl) (by kernel_rfl)
  have hco := @run_callFunc_extern Tryz.prog 225 _ cmpM Tryz.func225 (by kernel_rfl) (by kernel_rfl) (by kernel_rfl) (by kernel_rfl)
  have k1 := kindOf_err
  have k2 := comp_err
  have k3 := meth_err
  have heq := run_eql_iface_ptr_same (P := Tryz.prog) w ad Tryz.underlying156 Tryz.underlying221 hi hcmp hj
  go_enter Tryz.func128, Tryz.ntmps128
  go_wp2
  refine wp_loop_rounds 1 ?_
  rw [rounds_succ]
  go_wp2
  go_ret
  exact ⟨rfl, rfl⟩

set_option maxHeartbeats 800000 in
/-- none -/
theorem isErr_nil (ad : Addr) (w : World) :
    Calls Tryz.prog 128 #[.nilIface, .iface 221 (.pointer (some ad))] w fun e w' => e = .returned (.bool false) ∧ w' = w := by
  have hn := run_eql_iface_nil_left (P := Tryz.prog) w 221 (.pointer (some ad)) Tryz.underlying156
  go_enter Tryz.func128, Tryz.ntmps128
  go_wp2
  go_ret
  exact ⟨rfl, rfl⟩
end Go.Proofs.YtcepjcnpokpdcaaGreatDoor
