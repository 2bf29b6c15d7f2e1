/-
  What the two Variants answer.
-/
import Derived.Test.YtmljkhofahgelaaCanons
namespace Go.Proofs.Ytmljkhofahgelaa
set_option linter.unusedVariables false
set_option linter.unusedSimpArgs false
open Go.RowKit

namespace Tm
/-- Whether two terms are valid and have the same canonical form. -/
def variantB (p : Pay) (l : Fo) (p' : Pay) (l' : Fo) : Bool := validB p l && (validB p' l' && sameT (canonOf p l).1 (canonOf p l).2 (canonOf p' l').1 (canonOf p' l').2)
theorem good_of_valid {p : Pay} {l : Fo} (hv : validB p l = true) : goodB p l = true := by unfold validB at hv; rw [Bool.and_eq_true] at hv; exact hv.2
end Tm
end Go.Proofs.Ytmljkhofahgelaa
