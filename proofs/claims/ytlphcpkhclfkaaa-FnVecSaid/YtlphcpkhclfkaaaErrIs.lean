/-
  Is it the error that stands for what is over 0: errors.Is at that error itself, and at none.
-/
import Derived.Test.YtlphcpkhclfkaaaChecked
import Derived.WalkKit
import Derived.LaidEql
import Derived.RowKitTokens
import Derived.Test.YtlphcpkhclfkaaaGrpD
namespace Nt
open Go Go.RowKit
/-- the variable in block 0 holds the error at ad -/
def ErrAt (t : TypeId) (w : World) (ad : Addr) : Prop := w.cell? ⟨0, 0, none⟩ = some (.iface t (.pointer (some ad))) ∧ 0 < w.heap.size
theorem ErrAt.on {t : TypeId} {w w' : World} {ad : Addr} (h : ErrAt t w ad) (hb : Below w.heap.size w w') : ErrAt t w' ad :=
  ⟨(World.cell?_of_block (a := ⟨0, 0, none⟩) (hb.block 0 h.2)).trans h.1, Nat.lt_of_lt_of_le h.2 hb.size⟩
theorem ErrAt.below {t : TypeId} {w w' : World} {ad : Addr} {N : Nat} (h : ErrAt t w ad) (hN : 0 < N) (hb : Below N w w') : ErrAt t w' ad :=
  ⟨(World.cell?_of_block (a := ⟨0, 0, none⟩) (hb.block 0 hN)).trans h.1, Nat.lt_of_lt_of_le h.2 hb.size⟩
end Nt
namespace Go.Proofs.Ytlphcpkhclfkaaa
open Go Go.RowKit Nt Go.Extern

def cmpM : Array Value → Sem Value := Extern.ReflectliteType.method fun t => do Extern.Rtype.noPackHeld "Comparable" t; pure (.bool (← typeInfo t).comparable)
end Go.Proofs.Ytlphcpkhclfkaaa
