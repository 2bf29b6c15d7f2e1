/-
  NARROWER THAN 'FOR EVERY INPUT', by the rows' own cells (each row's printed sentence says how): OpsExamples: laid · OpsDefault: laid · OpsLookups: laid · OpsSets: laid · OpsTypes: laid · OpsChanges: laid · OpsAgain: laid · OpsBounds: laid.
  DERIVED. THE GIVEN ROWS OF THIS SEAT. 8 by the template 'for every input the law returns true; each argument reads behind the call as it read before'; 0 by the template 'total and deterministic' (their statements: YtgbfkchjcjdnnaaDoorTotals.lean).
  GIVEN WITH THE SEED: the statements are not yours to turn. If you find one false, say at which input.
  Laid BY PROGRAM, IN A SANDBOX (cutbox-rows.mjs): the forced cells as the released guide's own fill.sh prints them over the translation 46edc3a892e64f90… (all of the seat's roots in one cut). By AI agents, Wed Nov 11 2026. No macro, syntax, notation, axiom, sorry.
-/
import Derived.Test.YtgbfkchjcjdnnaaDoorChecked
import GoSem.Claim
import GoSem.ClaimJoined
import GoSem.ClaimMapViews
import Derived.JoinedTies
import Derived.KernelRfl
namespace Go.Proofs.YtgbfkchjcjdnnaaDoor
/- THE CELL 'sum', in the pinned program and in every row, IS THE sha256 OF THE DUMP (.gsa) THAT YtgbfkchjcjdnnaaDoorProg.lean LOADS. Nothing in Lean hashes anything: it is a label: what it is worth is what the hold of that sum in a sandbox is worth. -/
noncomputable def Tryd.pinned : Pinned := { name := "ytgbfkchjcjdnnaadoor", sum := "46edc3a892e64f90c74ae7547ef52d0a610917022f8a1fda17f303ad21d6a524", checked := Tryd.checked }
namespace Rows
def none {H : Type} : Left H := { results := [], args := [] }

/- WHAT THE LISTED PACKAGE-LEVEL VARIABLES READ AS WHEN THE CALL BEGINS. Each datum BY PROGRAM (the guide's laid-datum.mjs) off the statement by which the dump's own 'gosem.cut.vars' lays the variable. In a bare row this is a premise. The card (YtgbfkchjcjdnnaaDoorCards.lean) ties it to the program's text. -/
def laid_hornbeam_ops_predefined {H : Type} : DataW H := .agg [.agg [.lit (.string [42]), .lit (.int .i64 3), .lit (.int .i64 400)], .agg [.lit (.string [42, 42]), .lit (.int .i64 1), .lit (.int .i64 200)], .agg [.lit (.string [43]), .lit (.int .i64 4), .lit (.int .i64 200)], .agg [.lit (.string [43]), .lit (.int .i64 3), .lit (.int .i64 500)], .agg [.lit (.string [44]), .lit (.int .i64 2), .lit (.int .i64 1000)], .agg [.lit (.string [45]), .lit (.int .i64 4), .lit (.int .i64 200)], .agg [.lit (.string [45]), .lit (.int .i64 3), .lit (.int .i64 500)], .agg [.lit (.string [45, 45, 62]), .lit (.int .i64 1), .lit (.int .i64 1200)], .agg [.lit (.string [45, 62]), .lit (.int .i64 2), .lit (.int .i64 1050)], .agg [.lit (.string [47]), .lit (.int .i64 3), .lit (.int .i64 400)], .agg [.lit (.string [47, 47]), .lit (.int .i64 3), .lit (.int .i64 400)], .agg [.lit (.string [47, 92]), .lit (.int .i64 3), .lit (.int .i64 500)], .agg [.lit (.string [58, 45]), .lit (.int .i64 5), .lit (.int .i64 1200)], .agg [.lit (.string [58, 45]), .lit (.int .i64 1), .lit (.int .i64 1200)], .agg [.lit (.string [59]), .lit (.int .i64 2), .lit (.int .i64 1100)], .agg [.lit (.string [60]), .lit (.int .i64 1), .lit (.int .i64 700)], .agg [.lit (.string [60, 60]), .lit (.int .i64 3), .lit (.int .i64 400)], .agg [.lit (.string [61]), .lit (.int .i64 1), .lit (.int .i64 700)], .agg [.lit (.string [61, 46, 46]), .lit (.int .i64 1), .lit (.int .i64 700)], .agg [.lit (.string [61, 58, 61]), .lit (.int .i64 1), .lit (.int .i64 700)], .agg [.lit (.string [61, 60]), .lit (.int .i64 1), .lit (.int .i64 700)], .agg [.lit (.string [61, 61]), .lit (.int .i64 1), .lit (.int .i64 700)], .agg [.lit (.string [61, 92, 61]), .lit (.int .i64 1), .lit (.int .i64 700)], .agg [.lit (.string [62]), .lit (.int .i64 1), .lit (.int .i64 700)], .agg [.lit (.string [62, 61]), .lit (.int .i64 1), .lit (.int .i64 700)], .agg [.lit (.string [62, 62]), .lit (.int .i64 3), .lit (.int .i64 400)], .agg [.lit (.string [63, 45]), .lit (.int .i64 5), .lit (.int .i64 1200)], .agg [.lit (.string [64, 60]), .lit (.int .i64 1), .lit (.int .i64 700)], .agg [.lit (.string [64, 61, 60]), .lit (.int .i64 1), .lit (.int .i64 700)], .agg [.lit (.string [64, 62]), .lit (.int .i64 1), .lit (.int .i64 700)], .agg [.lit (.string [64, 62, 61]), .lit (.int .i64 1), .lit (.int .i64 700)], .agg [.lit (.string [92]), .lit (.int .i64 4), .lit (.int .i64 200)], .agg [.lit (.string [92, 43]), .lit (.int .i64 4), .lit (.int .i64 900)], .agg [.lit (.string [92, 47]), .lit (.int .i64 3), .lit (.int .i64 500)], .agg [.lit (.string [92, 61]), .lit (.int .i64 1), .lit (.int .i64 700)], .agg [.lit (.string [92, 61, 61]), .lit (.int .i64 1), .lit (.int .i64 700)], .agg [.lit (.string [94]), .lit (.int .i64 2), .lit (.int .i64 200)], .agg [.lit (.string [100, 105, 118]), .lit (.int .i64 3), .lit (.int .i64 400)], .agg [.lit (.string [105, 115]), .lit (.int .i64 1), .lit (.int .i64 700)], .agg [.lit (.string [109, 111, 100]), .lit (.int .i64 3), .lit (.int .i64 400)], .agg [.lit (.string [114, 101, 109]), .lit (.int .i64 3), .lit (.int .i64 400)]]
def laid_hornbeam_ops_classes {H : Type} : DataW H := .agg [.lit (.int .i64 0), .lit (.int .i64 2), .lit (.int .i64 2), .lit (.int .i64 2), .lit (.int .i64 1), .lit (.int .i64 1), .lit (.int .i64 3), .lit (.int .i64 3)]
def laid_hornbeam_ops_typeNames {H : Type} : DataW H := .agg [.lit (.string []), .lit (.string [120, 102, 120]), .lit (.string [120, 102, 121]), .lit (.string [121, 102, 120]), .lit (.string [102, 121]), .lit (.string [102, 120]), .lit (.string [120, 102]), .lit (.string [121, 102])]

/-- 'hornbeamlaw07.OpsExamples': WHATEVER THE INPUT: true; the input reads as it did. -/
def opsExamplesSpec : ChangeSpec := { name := "opsExamples", fn := fun _ => fun
  | [] => { results := [.lit (.bool true)], args := [] }
  | _ => none }
def opsExamplesRow : OpenClaim := { program := "ytgbfkchjcjdnnaadoor", sum := "46edc3a892e64f90c74ae7547ef52d0a610917022f8a1fda17f303ad21d6a524", func := "hornbeam/hornbeamlaw07.OpsExamples", spec := "opsExamples", inPlace := ["slices.overlaps[hornbeam/api.Op]"], unfollowed := true, recurses := true, named := ["hornbeam/ops.predefined", "hornbeam/ops.classes", "hornbeam/ops.typeNames"], apart := false, laid := [("hornbeam/ops.predefined", laid_hornbeam_ops_predefined), ("hornbeam/ops.classes", laid_hornbeam_ops_classes), ("hornbeam/ops.typeNames", laid_hornbeam_ops_typeNames)] }
def OpsExamplesSaid : Prop := opsExamplesRow.holds Tryd.pinned (OpenSpec.ofChange opsExamplesSpec)

/-- ITS FALSE NEIGHBOUR: 'it returns false'. Refute it at one input. -/
def opsExamplesWrong : ChangeSpec := { name := "opsExamples", fn := fun _ => fun
  | [] => { results := [.lit (.bool false)], args := [] }
  | _ => none }
def OpsExamplesWrongFalsely : Prop := opsExamplesRow.holds Tryd.pinned (OpenSpec.ofChange opsExamplesWrong)

/-- 'hornbeamlaw07.OpsDefault': WHATEVER THE INPUT: true; the input reads as it did. -/
def opsDefaultSpec : ChangeSpec := { name := "opsDefault", fn := fun _ => fun
  | [] => { results := [.lit (.bool true)], args := [] }
  | _ => none }
def opsDefaultRow : OpenClaim := { program := "ytgbfkchjcjdnnaadoor", sum := "46edc3a892e64f90c74ae7547ef52d0a610917022f8a1fda17f303ad21d6a524", func := "hornbeam/hornbeamlaw07.OpsDefault", spec := "opsDefault", inPlace := ["slices.overlaps[hornbeam/api.Op]"], unfollowed := true, recurses := true, named := ["hornbeam/ops.predefined", "hornbeam/ops.classes"], apart := false, laid := [("hornbeam/ops.predefined", laid_hornbeam_ops_predefined), ("hornbeam/ops.classes", laid_hornbeam_ops_classes)] }
def OpsDefaultSaid : Prop := opsDefaultRow.holds Tryd.pinned (OpenSpec.ofChange opsDefaultSpec)

/-- ITS FALSE NEIGHBOUR: 'it returns false'. Refute it at one input. -/
def opsDefaultWrong : ChangeSpec := { name := "opsDefault", fn := fun _ => fun
  | [] => { results := [.lit (.bool false)], args := [] }
  | _ => none }
def OpsDefaultWrongFalsely : Prop := opsDefaultRow.holds Tryd.pinned (OpenSpec.ofChange opsDefaultWrong)

/-- 'hornbeamlaw07.OpsLookups': WHATEVER THE INPUT: true; the input reads as it did. -/
def opsLookupsSpec : ChangeSpec := { name := "opsLookups", fn := fun _ => fun
  | [d1, d2] => { results := [.lit (.bool true)], args := [d1, d2] }
  | _ => none }
def opsLookupsRow : OpenClaim := { program := "ytgbfkchjcjdnnaadoor", sum := "46edc3a892e64f90c74ae7547ef52d0a610917022f8a1fda17f303ad21d6a524", func := "hornbeam/hornbeamlaw07.OpsLookups", spec := "opsLookups", inPlace := ["slices.overlaps[hornbeam/api.Op]"], unfollowed := true, recurses := true, named := ["hornbeam/ops.predefined", "hornbeam/ops.classes"], apart := false, laid := [("hornbeam/ops.predefined", laid_hornbeam_ops_predefined), ("hornbeam/ops.classes", laid_hornbeam_ops_classes)] }
def OpsLookupsSaid : Prop := opsLookupsRow.holds Tryd.pinned (OpenSpec.ofChange opsLookupsSpec)

/-- ITS FALSE NEIGHBOUR: 'it returns false'. Refute it at one input. -/
def opsLookupsWrong : ChangeSpec := { name := "opsLookups", fn := fun _ => fun
  | [d1, d2] => { results := [.lit (.bool false)], args := [d1, d2] }
  | _ => none }
def OpsLookupsWrongFalsely : Prop := opsLookupsRow.holds Tryd.pinned (OpenSpec.ofChange opsLookupsWrong)

/-- 'hornbeamlaw07.OpsSets': WHATEVER THE INPUT: true; the input reads as it did. -/
def opsSetsSpec : ChangeSpec := { name := "opsSets", fn := fun _ => fun
  | [d1, d2, d3, d4] => { results := [.lit (.bool true)], args := [d1, d2, d3, d4] }
  | _ => none }
def opsSetsRow : OpenClaim := { program := "ytgbfkchjcjdnnaadoor", sum := "46edc3a892e64f90c74ae7547ef52d0a610917022f8a1fda17f303ad21d6a524", func := "hornbeam/hornbeamlaw07.OpsSets", spec := "opsSets", inPlace := ["slices.overlaps[hornbeam/api.Op]"], unfollowed := true, recurses := true, named := ["hornbeam/ops.predefined", "hornbeam/ops.classes"], apart := false, laid := [("hornbeam/ops.predefined", laid_hornbeam_ops_predefined), ("hornbeam/ops.classes", laid_hornbeam_ops_classes)] }
def OpsSetsSaid : Prop := opsSetsRow.holds Tryd.pinned (OpenSpec.ofChange opsSetsSpec)

/-- ITS FALSE NEIGHBOUR: 'it returns false'. Refute it at one input. -/
def opsSetsWrong : ChangeSpec := { name := "opsSets", fn := fun _ => fun
  | [d1, d2, d3, d4] => { results := [.lit (.bool false)], args := [d1, d2, d3, d4] }
  | _ => none }
def OpsSetsWrongFalsely : Prop := opsSetsRow.holds Tryd.pinned (OpenSpec.ofChange opsSetsWrong)

/-- 'hornbeamlaw07.OpsTypes': WHATEVER THE INPUT: true; the input reads as it did. -/
def opsTypesSpec : ChangeSpec := { name := "opsTypes", fn := fun _ => fun
  | [d1, d2, d3] => { results := [.lit (.bool true)], args := [d1, d2, d3] }
  | _ => none }
def opsTypesRow : OpenClaim := { program := "ytgbfkchjcjdnnaadoor", sum := "46edc3a892e64f90c74ae7547ef52d0a610917022f8a1fda17f303ad21d6a524", func := "hornbeam/hornbeamlaw07.OpsTypes", spec := "opsTypes", inPlace := ["slices.overlaps[hornbeam/api.Op]"], unfollowed := true, recurses := true, named := ["hornbeam/ops.typeNames", "hornbeam/ops.classes", "hornbeam/ops.predefined"], apart := false, laid := [("hornbeam/ops.predefined", laid_hornbeam_ops_predefined), ("hornbeam/ops.classes", laid_hornbeam_ops_classes), ("hornbeam/ops.typeNames", laid_hornbeam_ops_typeNames)] }
def OpsTypesSaid : Prop := opsTypesRow.holds Tryd.pinned (OpenSpec.ofChange opsTypesSpec)

/-- ITS FALSE NEIGHBOUR: 'it returns false'. Refute it at one input. -/
def opsTypesWrong : ChangeSpec := { name := "opsTypes", fn := fun _ => fun
  | [d1, d2, d3] => { results := [.lit (.bool false)], args := [d1, d2, d3] }
  | _ => none }
def OpsTypesWrongFalsely : Prop := opsTypesRow.holds Tryd.pinned (OpenSpec.ofChange opsTypesWrong)

/-- 'hornbeamlaw07.OpsChanges': WHATEVER THE INPUT: true; the input reads as it did. -/
def opsChangesSpec : ChangeSpec := { name := "opsChanges", fn := fun _ => fun
  | [d1, d2, d3, d4, d5, d6] => { results := [.lit (.bool true)], args := [d1, d2, d3, d4, d5, d6] }
  | _ => none }
def opsChangesRow : OpenClaim := { program := "ytgbfkchjcjdnnaadoor", sum := "46edc3a892e64f90c74ae7547ef52d0a610917022f8a1fda17f303ad21d6a524", func := "hornbeam/hornbeamlaw07.OpsChanges", spec := "opsChanges", inPlace := ["slices.overlaps[hornbeam/api.Op]"], unfollowed := true, recurses := true, named := ["hornbeam/ops.predefined", "hornbeam/ops.classes"], apart := false, laid := [("hornbeam/ops.predefined", laid_hornbeam_ops_predefined), ("hornbeam/ops.classes", laid_hornbeam_ops_classes)] }
def OpsChangesSaid : Prop := opsChangesRow.holds Tryd.pinned (OpenSpec.ofChange opsChangesSpec)

/-- ITS FALSE NEIGHBOUR: 'it returns false'. Refute it at one input. -/
def opsChangesWrong : ChangeSpec := { name := "opsChanges", fn := fun _ => fun
  | [d1, d2, d3, d4, d5, d6] => { results := [.lit (.bool false)], args := [d1, d2, d3, d4, d5, d6] }
  | _ => none }
def OpsChangesWrongFalsely : Prop := opsChangesRow.holds Tryd.pinned (OpenSpec.ofChange opsChangesWrong)

/-- 'hornbeamlaw07.OpsAgain': WHATEVER THE INPUT: true; the input reads as it did. -/
def opsAgainSpec : ChangeSpec := { name := "opsAgain", fn := fun _ => fun
  | [d1, d2, d3, d4] => { results := [.lit (.bool true)], args := [d1, d2, d3, d4] }
  | _ => none }
def opsAgainRow : OpenClaim := { program := "ytgbfkchjcjdnnaadoor", sum := "46edc3a892e64f90c74ae7547ef52d0a610917022f8a1fda17f303ad21d6a524", func := "hornbeam/hornbeamlaw07.OpsAgain", spec := "opsAgain", inPlace := ["slices.overlaps[hornbeam/api.Op]"], unfollowed := true, recurses := true, named := ["hornbeam/ops.predefined", "hornbeam/ops.classes"], apart := false, laid := [("hornbeam/ops.predefined", laid_hornbeam_ops_predefined), ("hornbeam/ops.classes", laid_hornbeam_ops_classes)] }
def OpsAgainSaid : Prop := opsAgainRow.holds Tryd.pinned (OpenSpec.ofChange opsAgainSpec)

/-- ITS FALSE NEIGHBOUR: 'it returns false'. Refute it at one input. -/
def opsAgainWrong : ChangeSpec := { name := "opsAgain", fn := fun _ => fun
  | [d1, d2, d3, d4] => { results := [.lit (.bool false)], args := [d1, d2, d3, d4] }
  | _ => none }
def OpsAgainWrongFalsely : Prop := opsAgainRow.holds Tryd.pinned (OpenSpec.ofChange opsAgainWrong)

/-- 'hornbeamlaw07.OpsBounds': WHATEVER THE INPUT: true; the input reads as it did. -/
def opsBoundsSpec : ChangeSpec := { name := "opsBounds", fn := fun _ => fun
  | [d1, d2] => { results := [.lit (.bool true)], args := [d1, d2] }
  | _ => none }
def opsBoundsRow : OpenClaim := { program := "ytgbfkchjcjdnnaadoor", sum := "46edc3a892e64f90c74ae7547ef52d0a610917022f8a1fda17f303ad21d6a524", func := "hornbeam/hornbeamlaw07.OpsBounds", spec := "opsBounds", inPlace := ["slices.overlaps[hornbeam/api.Op]"], unfollowed := true, recurses := true, named := ["hornbeam/ops.predefined", "hornbeam/ops.classes"], apart := false, laid := [("hornbeam/ops.predefined", laid_hornbeam_ops_predefined), ("hornbeam/ops.classes", laid_hornbeam_ops_classes)] }
def OpsBoundsSaid : Prop := opsBoundsRow.holds Tryd.pinned (OpenSpec.ofChange opsBoundsSpec)

/-- ITS FALSE NEIGHBOUR: 'it returns false'. Refute it at one input. -/
def opsBoundsWrong : ChangeSpec := { name := "opsBounds", fn := fun _ => fun
  | [d1, d2] => { results := [.lit (.bool false)], args := [d1, d2] }
  | _ => none }
def OpsBoundsWrongFalsely : Prop := opsBoundsRow.holds Tryd.pinned (OpenSpec.ofChange opsBoundsWrong)

/- THE SECOND FORM. 'bulk': how many values and letters a reading holds, each counted each time it is reached (what is shared counts as often as it is met; a slice's spare places count too). A statement '..UptoSaid' is the law's where the arguments, and the package variables that the reading takes, are together of bulk at most 1048576: NARROWER than '..Said'. Prove '..Said' where nothing that the law and all that it calls make is longer than what came in: it says more and counts as full. Else prove '..UptoSaid'. A law counts once. -/
mutual
def uptoBulk {H : Type} : DataW H → Nat
  | .lit (.string bytes) => bytes.length + 1
  | .lit _ => 1
  | .nil => 1
  | .ptr d => uptoBulk d + 1
  | .slice elems spare => uptoBulkAll elems + uptoBulkAll spare + 1
  | .agg parts => uptoBulkAll parts + 1
  | .iface _ d => uptoBulk d + 1
  | .map entries => uptoBulkEntries entries + 1
  | .held _ => 1
def uptoBulkAll {H : Type} : List (DataW H) → Nat
  | [] => 0
  | d :: r => uptoBulk d + uptoBulkAll r
def uptoBulkEntries {H : Type} : List (Lit × DataW H) → Nat
  | [] => 0
  | x :: r => uptoBulkEntry x + uptoBulkEntries r
def uptoBulkEntry {H : Type} : Lit × DataW H → Nat
  | (.string bytes, d) => bytes.length + uptoBulk d + 1
  | (_, d) => uptoBulk d + 1
 end
def uptoSmall : (H : Type) → List (DataW H) → Bool := fun _ ds => decide (uptoBulkAll ds ≤ 1048576)
def OpenSpec.upto (s : _root_.Go.ChangeSpec) : _root_.Go.OpenSpec := { _root_.Go.OpenSpec.ofChange s with cond := some uptoSmall }

/-- 'hornbeamlaw07.OpsExamples', WHERE WHAT IT READS IS OF BULK AT MOST 1048576: true; the input reads as it did. -/
def opsExamplesUptoRow : OpenClaim := { program := "ytgbfkchjcjdnnaadoor", sum := "46edc3a892e64f90c74ae7547ef52d0a610917022f8a1fda17f303ad21d6a524", func := "hornbeam/hornbeamlaw07.OpsExamples", spec := "opsExamples", inPlace := ["slices.overlaps[hornbeam/api.Op]"], unfollowed := true, recurses := true, named := ["hornbeam/ops.predefined", "hornbeam/ops.classes", "hornbeam/ops.typeNames"], apart := false, laid := [("hornbeam/ops.predefined", laid_hornbeam_ops_predefined), ("hornbeam/ops.classes", laid_hornbeam_ops_classes), ("hornbeam/ops.typeNames", laid_hornbeam_ops_typeNames)], narrowed := true }
def OpsExamplesUptoSaid : Prop := opsExamplesUptoRow.holds Tryd.pinned (OpenSpec.upto opsExamplesSpec)

/-- 'hornbeamlaw07.OpsDefault', WHERE WHAT IT READS IS OF BULK AT MOST 1048576: true; the input reads as it did. -/
def opsDefaultUptoRow : OpenClaim := { program := "ytgbfkchjcjdnnaadoor", sum := "46edc3a892e64f90c74ae7547ef52d0a610917022f8a1fda17f303ad21d6a524", func := "hornbeam/hornbeamlaw07.OpsDefault", spec := "opsDefault", inPlace := ["slices.overlaps[hornbeam/api.Op]"], unfollowed := true, recurses := true, named := ["hornbeam/ops.predefined", "hornbeam/ops.classes"], apart := false, laid := [("hornbeam/ops.predefined", laid_hornbeam_ops_predefined), ("hornbeam/ops.classes", laid_hornbeam_ops_classes)], narrowed := true }
def OpsDefaultUptoSaid : Prop := opsDefaultUptoRow.holds Tryd.pinned (OpenSpec.upto opsDefaultSpec)

/-- 'hornbeamlaw07.OpsLookups', WHERE WHAT IT READS IS OF BULK AT MOST 1048576: true; the input reads as it did. -/
def opsLookupsUptoRow : OpenClaim := { program := "ytgbfkchjcjdnnaadoor", sum := "46edc3a892e64f90c74ae7547ef52d0a610917022f8a1fda17f303ad21d6a524", func := "hornbeam/hornbeamlaw07.OpsLookups", spec := "opsLookups", inPlace := ["slices.overlaps[hornbeam/api.Op]"], unfollowed := true, recurses := true, named := ["hornbeam/ops.predefined", "hornbeam/ops.classes"], apart := false, laid := [("hornbeam/ops.predefined", laid_hornbeam_ops_predefined), ("hornbeam/ops.classes", laid_hornbeam_ops_classes)], narrowed := true }
def OpsLookupsUptoSaid : Prop := opsLookupsUptoRow.holds Tryd.pinned (OpenSpec.upto opsLookupsSpec)

/-- 'hornbeamlaw07.OpsSets', WHERE WHAT IT READS IS OF BULK AT MOST 1048576: true; the input reads as it did. -/
def opsSetsUptoRow : OpenClaim := { program := "ytgbfkchjcjdnnaadoor", sum := "46edc3a892e64f90c74ae7547ef52d0a610917022f8a1fda17f303ad21d6a524", func := "hornbeam/hornbeamlaw07.OpsSets", spec := "opsSets", inPlace := ["slices.overlaps[hornbeam/api.Op]"], unfollowed := true, recurses := true, named := ["hornbeam/ops.predefined", "hornbeam/ops.classes"], apart := false, laid := [("hornbeam/ops.predefined", laid_hornbeam_ops_predefined), ("hornbeam/ops.classes", laid_hornbeam_ops_classes)], narrowed := true }
def OpsSetsUptoSaid : Prop := opsSetsUptoRow.holds Tryd.pinned (OpenSpec.upto opsSetsSpec)

/-- 'hornbeamlaw07.OpsTypes', WHERE WHAT IT READS IS OF BULK AT MOST 1048576: true; the input reads as it did. -/
def opsTypesUptoRow : OpenClaim := { program := "ytgbfkchjcjdnnaadoor", sum := "46edc3a892e64f90c74ae7547ef52d0a610917022f8a1fda17f303ad21d6a524", func := "hornbeam/hornbeamlaw07.OpsTypes", spec := "opsTypes", inPlace := ["slices.overlaps[hornbeam/api.Op]"], unfollowed := true, recurses := true, named := ["hornbeam/ops.typeNames", "hornbeam/ops.classes", "hornbeam/ops.predefined"], apart := false, laid := [("hornbeam/ops.predefined", laid_hornbeam_ops_predefined), ("hornbeam/ops.classes", laid_hornbeam_ops_classes), ("hornbeam/ops.typeNames", laid_hornbeam_ops_typeNames)], narrowed := true }
def OpsTypesUptoSaid : Prop := opsTypesUptoRow.holds Tryd.pinned (OpenSpec.upto opsTypesSpec)

/-- 'hornbeamlaw07.OpsChanges', WHERE WHAT IT READS IS OF BULK AT MOST 1048576: true; the input reads as it did. -/
def opsChangesUptoRow : OpenClaim := { program := "ytgbfkchjcjdnnaadoor", sum := "46edc3a892e64f90c74ae7547ef52d0a610917022f8a1fda17f303ad21d6a524", func := "hornbeam/hornbeamlaw07.OpsChanges", spec := "opsChanges", inPlace := ["slices.overlaps[hornbeam/api.Op]"], unfollowed := true, recurses := true, named := ["hornbeam/ops.predefined", "hornbeam/ops.classes"], apart := false, laid := [("hornbeam/ops.predefined", laid_hornbeam_ops_predefined), ("hornbeam/ops.classes", laid_hornbeam_ops_classes)], narrowed := true }
def OpsChangesUptoSaid : Prop := opsChangesUptoRow.holds Tryd.pinned (OpenSpec.upto opsChangesSpec)

/-- 'hornbeamlaw07.OpsAgain', WHERE WHAT IT READS IS OF BULK AT MOST 1048576: true; the input reads as it did. -/
def opsAgainUptoRow : OpenClaim := { program := "ytgbfkchjcjdnnaadoor", sum := "46edc3a892e64f90c74ae7547ef52d0a610917022f8a1fda17f303ad21d6a524", func := "hornbeam/hornbeamlaw07.OpsAgain", spec := "opsAgain", inPlace := ["slices.overlaps[hornbeam/api.Op]"], unfollowed := true, recurses := true, named := ["hornbeam/ops.predefined", "hornbeam/ops.classes"], apart := false, laid := [("hornbeam/ops.predefined", laid_hornbeam_ops_predefined), ("hornbeam/ops.classes", laid_hornbeam_ops_classes)], narrowed := true }
def OpsAgainUptoSaid : Prop := opsAgainUptoRow.holds Tryd.pinned (OpenSpec.upto opsAgainSpec)

/-- 'hornbeamlaw07.OpsBounds', WHERE WHAT IT READS IS OF BULK AT MOST 1048576: true; the input reads as it did. -/
def opsBoundsUptoRow : OpenClaim := { program := "ytgbfkchjcjdnnaadoor", sum := "46edc3a892e64f90c74ae7547ef52d0a610917022f8a1fda17f303ad21d6a524", func := "hornbeam/hornbeamlaw07.OpsBounds", spec := "opsBounds", inPlace := ["slices.overlaps[hornbeam/api.Op]"], unfollowed := true, recurses := true, named := ["hornbeam/ops.predefined", "hornbeam/ops.classes"], apart := false, laid := [("hornbeam/ops.predefined", laid_hornbeam_ops_predefined), ("hornbeam/ops.classes", laid_hornbeam_ops_classes)], narrowed := true }
def OpsBoundsUptoSaid : Prop := opsBoundsUptoRow.holds Tryd.pinned (OpenSpec.upto opsBoundsSpec)

end Rows
end Go.Proofs.YtgbfkchjcjdnnaaDoor
