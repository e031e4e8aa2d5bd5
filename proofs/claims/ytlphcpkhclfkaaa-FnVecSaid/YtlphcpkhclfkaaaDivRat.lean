/-
  Quotients: over and DivRat of the program, l02Div and DivRat of the model.
-/
import Derived.Test.YtlphcpkhclfkaaaGrpD
import Derived.Test.YtlphcpkhclfkaaaErrIs
namespace Nt
open Go Go.RowKit
theorem div_lens (a b : Rat) (h : 0 < nu b) : (D (nu (a / b))).length ≤ (D (nu a)).length + (D b.den).length ∧ (D (a / b).den).length ≤ (D a.den).length + (D (nu b)).length := by
  obtain ⟨e1, e2, e3⟩ := inv_parts h
  have := mul_lens a b⁻¹
  rw [e1, e2, ← Rat.div_def] at this
  exact this
end Nt
namespace Go.Proofs.Ytlphcpkhclfkaaa
open Go Go.RowKit Nt

end Go.Proofs.Ytlphcpkhclfkaaa
