/-
  The two Variants.
-/
import Derived.Test.YtmljkhofahgelaaVariantF
import Derived.Test.YtmljkhofahgelaaVariantT
import Derived.Test.YtmljkhofahgelaaRVariantF
import Derived.Test.YtmljkhofahgelaaRVariantT
namespace Go.Proofs.Ytmljkhofahgelaa
set_option linter.unusedVariables false
set_option linter.unusedSimpArgs false
open Go.RowKit

theorem variant_any (p : Pay) (l : Fo) (A : Option Addr) (c : Nat) (p' : Pay) (l' : Fo) (A' : Option Addr) (c' B : Nat) (w : World) (hA : ArgsB w B A (Tm.len l) l) (hA' : ArgsB w B A' (Tm.len l') l') (hB : B ≤ w.heap.size) :
    Calls Try.prog 17 #[tv p A (Tm.len l) c, tv p' A' (Tm.len l') c'] w fun e w' => e = .returned (.bool (Tm.variantB p l p' l')) ∧ Below w.heap.size w w' := by
  cases hv : Tm.validB p l
  · exact variant_f p l A c p' l' A' c' B w hA hA' hB hv
  · cases hv' : Tm.validB p' l'
    · exact variant_t p l A c p' l' A' c' B w hA hA' hB hv hv'
    · exact variant_tt p l A c p' l' A' c' B w hA hA' hB hv hv'

theorem rvariant_any (p : Pay) (l : Fo) (A : Option Addr) (c : Nat) (p' : Pay) (l' : Fo) (A' : Option Addr) (c' B : Nat) (w : World) (hA : ArgsB w B A (Tm.len l) l) (hA' : ArgsB w B A' (Tm.len l') l') (hB : B ≤ w.heap.size) :
    Calls Try.prog 18 #[tv p A (Tm.len l) c, tv p' A' (Tm.len l') c'] w fun e w' => e = .returned (.bool (Tm.variantB p l p' l')) ∧ Below w.heap.size w w' := by
  cases hv : Tm.validB p l
  · exact rvariant_f p l A c p' l' A' c' B w hA hA' hB hv
  · cases hv' : Tm.validB p' l'
    · exact rvariant_t p l A c p' l' A' c' B w hA hA' hB hv hv'
    · exact rvariant_tt p l A c p' l' A' c' B w hA hA' hB hv hv'
end Go.Proofs.Ytmljkhofahgelaa
