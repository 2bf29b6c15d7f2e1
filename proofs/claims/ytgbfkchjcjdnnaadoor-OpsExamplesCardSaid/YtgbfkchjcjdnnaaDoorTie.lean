/-
  DERIVED. GIVEN WITH THE SEED: THE PROGRAM's TIES (one call each: nine closed facts by the kernel) AND EACH ROW's TIE, after the 31st guide's Derived/Test/Toyas{Tie, Card}.lean. No idea stands in it: it is a product of the set-up. Laid BY PROGRAM, IN A SANDBOX (cutbox-door.mjs). By AI agents, Wed Nov 11 2026. No macro, syntax, notation, axiom, sorry.
-/
import Derived.Test.YtgbfkchjcjdnnaaDoorRows
import Derived.LaidByTextLater
import Derived.SevenTiedAt
import Derived.LaidSub
import Derived.LaidOnce
namespace Go.Proofs.YtgbfkchjcjdnnaaDoor
open Go
set_option maxRecDepth 100000
theorem seatTie1 : Tryd.prog.laidByTextLater [("hornbeam/ops.predefined", Rows.laid_hornbeam_ops_predefined), ("hornbeam/ops.classes", Rows.laid_hornbeam_ops_classes), ("hornbeam/ops.typeNames", Rows.laid_hornbeam_ops_typeNames)] [.data, .data, .data] true :=
  Program.laidByTextLater_by_one 65 8 124 (by kernel_rfl) (by kernel_rfl) (by kernel_rfl) (by kernel_rfl) (by kernel_rfl) (by kernel_rfl) (fun _ _ => by kernel_rfl)
theorem noOwnUnsafe : Tryd.pinned.checked.prog.headLifts.contains "ownunsafe" = false := by kernel_rfl
theorem tie : Tryd.prog.laidByTextLater [("hornbeam/ops.predefined", Rows.laid_hornbeam_ops_predefined), ("hornbeam/ops.classes", Rows.laid_hornbeam_ops_classes), ("hornbeam/ops.typeNames", Rows.laid_hornbeam_ops_typeNames)] [.data, .data, .data] true :=
  Program.laidByTextLater.sub seatTie1 ["hornbeam/ops.predefined", "hornbeam/ops.classes", "hornbeam/ops.typeNames"] (by kernel_rfl) (by kernel_rfl)
theorem opsExamples_row_tie : Rows.opsExamplesRow.laidByTextAt .later Tryd.pinned [.data, .data, .data] true :=
  OpenClaim.laidByTextAt_later rfl rfl tie noOwnUnsafe
theorem opsTypes_row_tie : Rows.opsTypesRow.laidByTextAt .later Tryd.pinned [.data, .data, .data] true :=
  OpenClaim.laidByTextAt_later rfl rfl tie noOwnUnsafe
theorem tie2 : Tryd.prog.laidByTextLater [("hornbeam/ops.predefined", Rows.laid_hornbeam_ops_predefined), ("hornbeam/ops.classes", Rows.laid_hornbeam_ops_classes)] [.data, .data] true :=
  Program.laidByTextLater.sub seatTie1 ["hornbeam/ops.predefined", "hornbeam/ops.classes"] (by kernel_rfl) (by kernel_rfl)
theorem opsDefault_row_tie : Rows.opsDefaultRow.laidByTextAt .later Tryd.pinned [.data, .data] true :=
  OpenClaim.laidByTextAt_later rfl rfl tie2 noOwnUnsafe
theorem opsLookups_row_tie : Rows.opsLookupsRow.laidByTextAt .later Tryd.pinned [.data, .data] true :=
  OpenClaim.laidByTextAt_later rfl rfl tie2 noOwnUnsafe
theorem opsSets_row_tie : Rows.opsSetsRow.laidByTextAt .later Tryd.pinned [.data, .data] true :=
  OpenClaim.laidByTextAt_later rfl rfl tie2 noOwnUnsafe
theorem opsChanges_row_tie : Rows.opsChangesRow.laidByTextAt .later Tryd.pinned [.data, .data] true :=
  OpenClaim.laidByTextAt_later rfl rfl tie2 noOwnUnsafe
theorem opsAgain_row_tie : Rows.opsAgainRow.laidByTextAt .later Tryd.pinned [.data, .data] true :=
  OpenClaim.laidByTextAt_later rfl rfl tie2 noOwnUnsafe
theorem opsBounds_row_tie : Rows.opsBoundsRow.laidByTextAt .later Tryd.pinned [.data, .data] true :=
  OpenClaim.laidByTextAt_later rfl rfl tie2 noOwnUnsafe
theorem opsExamplesUpto_row_tie : Rows.opsExamplesUptoRow.laidByTextAt .later Tryd.pinned [.data, .data, .data] true :=
  OpenClaim.laidByTextAt_later rfl rfl tie noOwnUnsafe
theorem opsDefaultUpto_row_tie : Rows.opsDefaultUptoRow.laidByTextAt .later Tryd.pinned [.data, .data] true :=
  OpenClaim.laidByTextAt_later rfl rfl tie2 noOwnUnsafe
theorem opsLookupsUpto_row_tie : Rows.opsLookupsUptoRow.laidByTextAt .later Tryd.pinned [.data, .data] true :=
  OpenClaim.laidByTextAt_later rfl rfl tie2 noOwnUnsafe
theorem opsSetsUpto_row_tie : Rows.opsSetsUptoRow.laidByTextAt .later Tryd.pinned [.data, .data] true :=
  OpenClaim.laidByTextAt_later rfl rfl tie2 noOwnUnsafe
theorem opsTypesUpto_row_tie : Rows.opsTypesUptoRow.laidByTextAt .later Tryd.pinned [.data, .data, .data] true :=
  OpenClaim.laidByTextAt_later rfl rfl tie noOwnUnsafe
theorem opsChangesUpto_row_tie : Rows.opsChangesUptoRow.laidByTextAt .later Tryd.pinned [.data, .data] true :=
  OpenClaim.laidByTextAt_later rfl rfl tie2 noOwnUnsafe
theorem opsAgainUpto_row_tie : Rows.opsAgainUptoRow.laidByTextAt .later Tryd.pinned [.data, .data] true :=
  OpenClaim.laidByTextAt_later rfl rfl tie2 noOwnUnsafe
theorem opsBoundsUpto_row_tie : Rows.opsBoundsUptoRow.laidByTextAt .later Tryd.pinned [.data, .data] true :=
  OpenClaim.laidByTextAt_later rfl rfl tie2 noOwnUnsafe
end Go.Proofs.YtgbfkchjcjdnnaaDoor
