/-
  NARROWER THAN 'FOR EVERY INPUT', by the rows' own cells (each row's printed sentence says how): CharsExamples: laid · CharsCalls: laid · CharsTables: laid · CharsClasses: laid · CharsEscapes: laid · CharsConverts: laid · CharsOrder: laid.
  DERIVED. THE GIVEN ROWS OF THIS SEAT. 7 by the template 'for every input the law returns true; each argument reads behind the call as it read before'; 0 by the template 'total and deterministic' (their statements: YtdlobgnhoiednaaDoorTotals.lean).
  GIVEN WITH THE SEED: the statements are not yours to turn. If you find one false, say at which input.
  Laid BY PROGRAM, IN A SANDBOX (cutbox-rows.mjs): the forced cells as the released guide's own fill.sh prints them over the translation b4a861361c1bb231… (all of the seat's roots in one cut). By AI agents, Wed Nov 11 2026. No macro, syntax, notation, axiom, sorry.
-/
import Derived.Test.YtdlobgnhoiednaaDoorChecked
import GoSem.Claim
import GoSem.ClaimJoined
import GoSem.ClaimMapViews
import Derived.JoinedTies
import Derived.KernelRfl
namespace Go.Proofs.YtdlobgnhoiednaaDoor
/- THE CELL 'sum', in the pinned program and in every row, IS THE sha256 OF THE DUMP (.gsa) THAT YtdlobgnhoiednaaDoorProg.lean LOADS. Nothing in Lean hashes anything: it is a label: what it is worth is what the hold of that sum in a sandbox is worth. -/
noncomputable def Tryd.pinned : Pinned := { name := "ytdlobgnhoiednaadoor", sum := "b4a861361c1bb231572c455987ef99895e061533d394a28bf6b59206469c93e8", checked := Tryd.checked }
namespace Rows
def none {H : Type} : Left H := { results := [], args := [] }

/- WHAT THE LISTED PACKAGE-LEVEL VARIABLES READ AS WHEN THE CALL BEGINS. Each datum BY PROGRAM (the guide's laid-datum.mjs) off the statement by which the dump's own 'gosem.cut.vars' lays the variable. In a bare row this is a premise. The card (YtdlobgnhoiednaaDoorCards.lean) ties it to the program's text. -/
def laid_math_bits_deBruijn32tab {H : Type} : DataW H := .agg [.lit (.int .u8 0), .lit (.int .u8 1), .lit (.int .u8 28), .lit (.int .u8 2), .lit (.int .u8 29), .lit (.int .u8 14), .lit (.int .u8 24), .lit (.int .u8 3), .lit (.int .u8 30), .lit (.int .u8 22), .lit (.int .u8 20), .lit (.int .u8 15), .lit (.int .u8 25), .lit (.int .u8 17), .lit (.int .u8 4), .lit (.int .u8 8), .lit (.int .u8 31), .lit (.int .u8 27), .lit (.int .u8 13), .lit (.int .u8 23), .lit (.int .u8 21), .lit (.int .u8 19), .lit (.int .u8 16), .lit (.int .u8 7), .lit (.int .u8 26), .lit (.int .u8 12), .lit (.int .u8 18), .lit (.int .u8 6), .lit (.int .u8 11), .lit (.int .u8 5), .lit (.int .u8 10), .lit (.int .u8 9)]
def laid_math_bits_deBruijn64tab {H : Type} : DataW H := .agg [.lit (.int .u8 0), .lit (.int .u8 1), .lit (.int .u8 56), .lit (.int .u8 2), .lit (.int .u8 57), .lit (.int .u8 49), .lit (.int .u8 28), .lit (.int .u8 3), .lit (.int .u8 61), .lit (.int .u8 58), .lit (.int .u8 42), .lit (.int .u8 50), .lit (.int .u8 38), .lit (.int .u8 29), .lit (.int .u8 17), .lit (.int .u8 4), .lit (.int .u8 62), .lit (.int .u8 47), .lit (.int .u8 59), .lit (.int .u8 36), .lit (.int .u8 45), .lit (.int .u8 43), .lit (.int .u8 51), .lit (.int .u8 22), .lit (.int .u8 53), .lit (.int .u8 39), .lit (.int .u8 33), .lit (.int .u8 30), .lit (.int .u8 24), .lit (.int .u8 18), .lit (.int .u8 12), .lit (.int .u8 5), .lit (.int .u8 63), .lit (.int .u8 55), .lit (.int .u8 48), .lit (.int .u8 27), .lit (.int .u8 60), .lit (.int .u8 41), .lit (.int .u8 37), .lit (.int .u8 16), .lit (.int .u8 46), .lit (.int .u8 35), .lit (.int .u8 44), .lit (.int .u8 21), .lit (.int .u8 52), .lit (.int .u8 32), .lit (.int .u8 23), .lit (.int .u8 11), .lit (.int .u8 54), .lit (.int .u8 26), .lit (.int .u8 40), .lit (.int .u8 15), .lit (.int .u8 34), .lit (.int .u8 20), .lit (.int .u8 31), .lit (.int .u8 10), .lit (.int .u8 25), .lit (.int .u8 14), .lit (.int .u8 19), .lit (.int .u8 9), .lit (.int .u8 13), .lit (.int .u8 8), .lit (.int .u8 7), .lit (.int .u8 6)]
def laid_internal_strconv_uint64pow10 {H : Type} : DataW H := .agg [.lit (.int .u64 1), .lit (.int .u64 10), .lit (.int .u64 100), .lit (.int .u64 1000), .lit (.int .u64 10000), .lit (.int .u64 100000), .lit (.int .u64 1000000), .lit (.int .u64 10000000), .lit (.int .u64 100000000), .lit (.int .u64 1000000000), .lit (.int .u64 10000000000), .lit (.int .u64 100000000000), .lit (.int .u64 1000000000000), .lit (.int .u64 10000000000000), .lit (.int .u64 100000000000000), .lit (.int .u64 1000000000000000), .lit (.int .u64 10000000000000000), .lit (.int .u64 100000000000000000), .lit (.int .u64 1000000000000000000), .lit (.int .u64 10000000000000000000)]
def laid_hornbeam_chars_groups {H : Type} : DataW H := .agg [.agg [.lit (.int .i64 1), .lit (.string [9, 10, 11, 12, 13, 32])], .agg [.lit (.int .i64 2), .lit (.string [97, 98, 99, 100, 101, 102, 103, 104, 105, 106, 107, 108, 109, 110, 111, 112, 113, 114, 115, 116, 117, 118, 119, 120, 121, 122])], .agg [.lit (.int .i64 3), .lit (.string [65, 66, 67, 68, 69, 70, 71, 72, 73, 74, 75, 76, 77, 78, 79, 80, 81, 82, 83, 84, 85, 86, 87, 88, 89, 90, 95])], .agg [.lit (.int .i64 4), .lit (.string [48, 49, 50, 51, 52, 53, 54, 55, 56, 57])], .agg [.lit (.int .i64 5), .lit (.string [35, 36, 38, 42, 43, 45, 46, 47, 58, 60, 61, 62, 63, 64, 94, 126, 92])], .agg [.lit (.int .i64 6), .lit (.string [33, 40, 41, 44, 59, 91, 93, 123, 125, 37, 124])], .agg [.lit (.int .i64 7), .lit (.string [39, 34, 96])]]

/-- 'hornbeamlaw01.CharsExamples': WHATEVER THE INPUT: true; the input reads as it did. -/
def charsExamplesSpec : ChangeSpec := { name := "charsExamples", fn := fun _ => fun
  | [] => { results := [.lit (.bool true)], args := [] }
  | _ => none }
def charsExamplesRow : OpenClaim := { program := "ytdlobgnhoiednaadoor", sum := "b4a861361c1bb231572c455987ef99895e061533d394a28bf6b59206469c93e8", func := "hornbeam/hornbeamlaw01.CharsExamples", spec := "charsExamples", inPlace := ["slices.overlaps[hornbeam/api.Pair]", "internal/bytealg.IndexByteString"], unfollowed := true, recurses := true, named := ["internal/strconv.uint64pow10", "math/bits.deBruijn32tab", "math/bits.deBruijn64tab", "hornbeam/chars.groups"], apart := false, laid := [("math/bits.deBruijn32tab", laid_math_bits_deBruijn32tab), ("math/bits.deBruijn64tab", laid_math_bits_deBruijn64tab), ("internal/strconv.uint64pow10", laid_internal_strconv_uint64pow10), ("hornbeam/chars.groups", laid_hornbeam_chars_groups)] }
def CharsExamplesSaid : Prop := charsExamplesRow.holds Tryd.pinned (OpenSpec.ofChange charsExamplesSpec)

/-- ITS FALSE NEIGHBOUR: 'it returns false'. Refute it at one input. -/
def charsExamplesWrong : ChangeSpec := { name := "charsExamples", fn := fun _ => fun
  | [] => { results := [.lit (.bool false)], args := [] }
  | _ => none }
def CharsExamplesWrongFalsely : Prop := charsExamplesRow.holds Tryd.pinned (OpenSpec.ofChange charsExamplesWrong)

/-- 'hornbeamlaw01.CharsCalls': WHATEVER THE INPUT: true; the input reads as it did. -/
def charsCallsSpec : ChangeSpec := { name := "charsCalls", fn := fun _ => fun
  | [d1, d2] => { results := [.lit (.bool true)], args := [d1, d2] }
  | _ => none }
def charsCallsRow : OpenClaim := { program := "ytdlobgnhoiednaadoor", sum := "b4a861361c1bb231572c455987ef99895e061533d394a28bf6b59206469c93e8", func := "hornbeam/hornbeamlaw01.CharsCalls", spec := "charsCalls", inPlace := ["internal/bytealg.IndexByteString", "slices.overlaps[hornbeam/api.Pair]"], unfollowed := true, recurses := true, named := ["internal/strconv.uint64pow10", "math/bits.deBruijn32tab", "math/bits.deBruijn64tab", "hornbeam/chars.groups"], apart := false, laid := [("math/bits.deBruijn32tab", laid_math_bits_deBruijn32tab), ("math/bits.deBruijn64tab", laid_math_bits_deBruijn64tab), ("internal/strconv.uint64pow10", laid_internal_strconv_uint64pow10), ("hornbeam/chars.groups", laid_hornbeam_chars_groups)] }
def CharsCallsSaid : Prop := charsCallsRow.holds Tryd.pinned (OpenSpec.ofChange charsCallsSpec)

/-- ITS FALSE NEIGHBOUR: 'it returns false'. Refute it at one input. -/
def charsCallsWrong : ChangeSpec := { name := "charsCalls", fn := fun _ => fun
  | [d1, d2] => { results := [.lit (.bool false)], args := [d1, d2] }
  | _ => none }
def CharsCallsWrongFalsely : Prop := charsCallsRow.holds Tryd.pinned (OpenSpec.ofChange charsCallsWrong)

/-- 'hornbeamlaw01.CharsTables': WHATEVER THE INPUT: true; the input reads as it did. -/
def charsTablesSpec : ChangeSpec := { name := "charsTables", fn := fun _ => fun
  | [d1, d2, d3, d4] => { results := [.lit (.bool true)], args := [d1, d2, d3, d4] }
  | _ => none }
def charsTablesRow : OpenClaim := { program := "ytdlobgnhoiednaadoor", sum := "b4a861361c1bb231572c455987ef99895e061533d394a28bf6b59206469c93e8", func := "hornbeam/hornbeamlaw01.CharsTables", spec := "charsTables", inPlace := ["slices.overlaps[hornbeam/api.Pair]", "internal/bytealg.IndexByteString"], unfollowed := true, recurses := true, named := ["internal/strconv.uint64pow10", "math/bits.deBruijn32tab", "math/bits.deBruijn64tab", "hornbeam/chars.groups"], apart := false, laid := [("math/bits.deBruijn32tab", laid_math_bits_deBruijn32tab), ("math/bits.deBruijn64tab", laid_math_bits_deBruijn64tab), ("internal/strconv.uint64pow10", laid_internal_strconv_uint64pow10), ("hornbeam/chars.groups", laid_hornbeam_chars_groups)] }
def CharsTablesSaid : Prop := charsTablesRow.holds Tryd.pinned (OpenSpec.ofChange charsTablesSpec)

/-- ITS FALSE NEIGHBOUR: 'it returns false'. Refute it at one input. -/
def charsTablesWrong : ChangeSpec := { name := "charsTables", fn := fun _ => fun
  | [d1, d2, d3, d4] => { results := [.lit (.bool false)], args := [d1, d2, d3, d4] }
  | _ => none }
def CharsTablesWrongFalsely : Prop := charsTablesRow.holds Tryd.pinned (OpenSpec.ofChange charsTablesWrong)

/-- 'hornbeamlaw01.CharsClasses': WHATEVER THE INPUT: true; the input reads as it did. -/
def charsClassesSpec : ChangeSpec := { name := "charsClasses", fn := fun _ => fun
  | [d] => { results := [.lit (.bool true)], args := [d] }
  | _ => none }
def charsClassesRow : OpenClaim := { program := "ytdlobgnhoiednaadoor", sum := "b4a861361c1bb231572c455987ef99895e061533d394a28bf6b59206469c93e8", func := "hornbeam/hornbeamlaw01.CharsClasses", spec := "charsClasses", inPlace := ["internal/bytealg.IndexByteString", "slices.overlaps[hornbeam/api.Pair]"], unfollowed := true, recurses := true, named := ["hornbeam/chars.groups", "internal/strconv.uint64pow10", "math/bits.deBruijn32tab", "math/bits.deBruijn64tab"], apart := false, laid := [("math/bits.deBruijn32tab", laid_math_bits_deBruijn32tab), ("math/bits.deBruijn64tab", laid_math_bits_deBruijn64tab), ("internal/strconv.uint64pow10", laid_internal_strconv_uint64pow10), ("hornbeam/chars.groups", laid_hornbeam_chars_groups)] }
def CharsClassesSaid : Prop := charsClassesRow.holds Tryd.pinned (OpenSpec.ofChange charsClassesSpec)

/-- ITS FALSE NEIGHBOUR: 'it returns false'. Refute it at one input. -/
def charsClassesWrong : ChangeSpec := { name := "charsClasses", fn := fun _ => fun
  | [d] => { results := [.lit (.bool false)], args := [d] }
  | _ => none }
def CharsClassesWrongFalsely : Prop := charsClassesRow.holds Tryd.pinned (OpenSpec.ofChange charsClassesWrong)

/-- 'hornbeamlaw01.CharsEscapes': WHATEVER THE INPUT: true; the input reads as it did. -/
def charsEscapesSpec : ChangeSpec := { name := "charsEscapes", fn := fun _ => fun
  | [d1, d2] => { results := [.lit (.bool true)], args := [d1, d2] }
  | _ => none }
def charsEscapesRow : OpenClaim := { program := "ytdlobgnhoiednaadoor", sum := "b4a861361c1bb231572c455987ef99895e061533d394a28bf6b59206469c93e8", func := "hornbeam/hornbeamlaw01.CharsEscapes", spec := "charsEscapes", inPlace := ["slices.overlaps[hornbeam/api.Pair]", "internal/bytealg.IndexByteString"], unfollowed := true, recurses := true, named := ["internal/strconv.uint64pow10", "math/bits.deBruijn32tab", "math/bits.deBruijn64tab", "hornbeam/chars.groups"], apart := false, laid := [("math/bits.deBruijn32tab", laid_math_bits_deBruijn32tab), ("math/bits.deBruijn64tab", laid_math_bits_deBruijn64tab), ("internal/strconv.uint64pow10", laid_internal_strconv_uint64pow10), ("hornbeam/chars.groups", laid_hornbeam_chars_groups)] }
def CharsEscapesSaid : Prop := charsEscapesRow.holds Tryd.pinned (OpenSpec.ofChange charsEscapesSpec)

/-- ITS FALSE NEIGHBOUR: 'it returns false'. Refute it at one input. -/
def charsEscapesWrong : ChangeSpec := { name := "charsEscapes", fn := fun _ => fun
  | [d1, d2] => { results := [.lit (.bool false)], args := [d1, d2] }
  | _ => none }
def CharsEscapesWrongFalsely : Prop := charsEscapesRow.holds Tryd.pinned (OpenSpec.ofChange charsEscapesWrong)

/-- 'hornbeamlaw01.CharsConverts': WHATEVER THE INPUT: true; the input reads as it did. -/
def charsConvertsSpec : ChangeSpec := { name := "charsConverts", fn := fun _ => fun
  | [d1, d2, d3, d4] => { results := [.lit (.bool true)], args := [d1, d2, d3, d4] }
  | _ => none }
def charsConvertsRow : OpenClaim := { program := "ytdlobgnhoiednaadoor", sum := "b4a861361c1bb231572c455987ef99895e061533d394a28bf6b59206469c93e8", func := "hornbeam/hornbeamlaw01.CharsConverts", spec := "charsConverts", inPlace := ["slices.overlaps[hornbeam/api.Pair]", "internal/bytealg.IndexByteString"], unfollowed := true, recurses := true, named := ["internal/strconv.uint64pow10", "math/bits.deBruijn32tab", "math/bits.deBruijn64tab", "hornbeam/chars.groups"], apart := false, laid := [("math/bits.deBruijn32tab", laid_math_bits_deBruijn32tab), ("math/bits.deBruijn64tab", laid_math_bits_deBruijn64tab), ("internal/strconv.uint64pow10", laid_internal_strconv_uint64pow10), ("hornbeam/chars.groups", laid_hornbeam_chars_groups)] }
def CharsConvertsSaid : Prop := charsConvertsRow.holds Tryd.pinned (OpenSpec.ofChange charsConvertsSpec)

/-- ITS FALSE NEIGHBOUR: 'it returns false'. Refute it at one input. -/
def charsConvertsWrong : ChangeSpec := { name := "charsConverts", fn := fun _ => fun
  | [d1, d2, d3, d4] => { results := [.lit (.bool false)], args := [d1, d2, d3, d4] }
  | _ => none }
def CharsConvertsWrongFalsely : Prop := charsConvertsRow.holds Tryd.pinned (OpenSpec.ofChange charsConvertsWrong)

/-- 'hornbeamlaw01.CharsOrder': WHATEVER THE INPUT: true; the input reads as it did. -/
def charsOrderSpec : ChangeSpec := { name := "charsOrder", fn := fun _ => fun
  | [d1, d2, d3, d4, d5] => { results := [.lit (.bool true)], args := [d1, d2, d3, d4, d5] }
  | _ => none }
def charsOrderRow : OpenClaim := { program := "ytdlobgnhoiednaadoor", sum := "b4a861361c1bb231572c455987ef99895e061533d394a28bf6b59206469c93e8", func := "hornbeam/hornbeamlaw01.CharsOrder", spec := "charsOrder", inPlace := ["slices.overlaps[hornbeam/api.Pair]", "internal/bytealg.IndexByteString"], unfollowed := true, recurses := true, named := ["internal/strconv.uint64pow10", "math/bits.deBruijn32tab", "math/bits.deBruijn64tab", "hornbeam/chars.groups"], apart := false, laid := [("math/bits.deBruijn32tab", laid_math_bits_deBruijn32tab), ("math/bits.deBruijn64tab", laid_math_bits_deBruijn64tab), ("internal/strconv.uint64pow10", laid_internal_strconv_uint64pow10), ("hornbeam/chars.groups", laid_hornbeam_chars_groups)] }
def CharsOrderSaid : Prop := charsOrderRow.holds Tryd.pinned (OpenSpec.ofChange charsOrderSpec)

/-- ITS FALSE NEIGHBOUR: 'it returns false'. Refute it at one input. -/
def charsOrderWrong : ChangeSpec := { name := "charsOrder", fn := fun _ => fun
  | [d1, d2, d3, d4, d5] => { results := [.lit (.bool false)], args := [d1, d2, d3, d4, d5] }
  | _ => none }
def CharsOrderWrongFalsely : Prop := charsOrderRow.holds Tryd.pinned (OpenSpec.ofChange charsOrderWrong)

/- THE SECOND FORM. 'bulk': how many values and letters a reading holds, each counted each time it is reached (what is shared counts as often as it is met; a slice's spare places count too). A statement '..UptoSaid' is the law's where the arguments, and the package variables that the reading takes, are together of bulk at most 1048576: NARROWER than '..Said'. Prove '..Said' where nothing that the law and all that it calls make is longer than what came in: it says more and counts as full. Else prove '..UptoSaid'. A law counts once. -/
mutual
def uptoBulk {H : Type} : DataW H → Nat
  | .lit (.string bytes) => bytes.length + 1
  | .lit _ => 1
  | .nil => 1
  | .ptr d => uptoBulk d + 1
  | .slice elems spare => uptoBulkAll elems + uptoBulkAll spare + 1
  | .agg parts => uptoBulkAll parts + 1
  | .iface _ d => uptoBulk d + 1
  | .map entries => uptoBulkEntries entries + 1
  | .held _ => 1
def uptoBulkAll {H : Type} : List (DataW H) → Nat
  | [] => 0
  | d :: r => uptoBulk d + uptoBulkAll r
def uptoBulkEntries {H : Type} : List (Lit × DataW H) → Nat
  | [] => 0
  | x :: r => uptoBulkEntry x + uptoBulkEntries r
def uptoBulkEntry {H : Type} : Lit × DataW H → Nat
  | (.string bytes, d) => bytes.length + uptoBulk d + 1
  | (_, d) => uptoBulk d + 1
 end
def uptoSmall : (H : Type) → List (DataW H) → Bool := fun _ ds => decide (uptoBulkAll ds ≤ 1048576)
def OpenSpec.upto (s : _root_.Go.ChangeSpec) : _root_.Go.OpenSpec := { _root_.Go.OpenSpec.ofChange s with cond := some uptoSmall }

/-- 'hornbeamlaw01.CharsExamples', WHERE WHAT IT READS IS OF BULK AT MOST 1048576: true; the input reads as it did. -/
def charsExamplesUptoRow : OpenClaim := { program := "ytdlobgnhoiednaadoor", sum := "b4a861361c1bb231572c455987ef99895e061533d394a28bf6b59206469c93e8", func := "hornbeam/hornbeamlaw01.CharsExamples", spec := "charsExamples", inPlace := ["slices.overlaps[hornbeam/api.Pair]", "internal/bytealg.IndexByteString"], unfollowed := true, recurses := true, named := ["internal/strconv.uint64pow10", "math/bits.deBruijn32tab", "math/bits.deBruijn64tab", "hornbeam/chars.groups"], apart := false, laid := [("math/bits.deBruijn32tab", laid_math_bits_deBruijn32tab), ("math/bits.deBruijn64tab", laid_math_bits_deBruijn64tab), ("internal/strconv.uint64pow10", laid_internal_strconv_uint64pow10), ("hornbeam/chars.groups", laid_hornbeam_chars_groups)], narrowed := true }
def CharsExamplesUptoSaid : Prop := charsExamplesUptoRow.holds Tryd.pinned (OpenSpec.upto charsExamplesSpec)

/-- 'hornbeamlaw01.CharsCalls', WHERE WHAT IT READS IS OF BULK AT MOST 1048576: true; the input reads as it did. -/
def charsCallsUptoRow : OpenClaim := { program := "ytdlobgnhoiednaadoor", sum := "b4a861361c1bb231572c455987ef99895e061533d394a28bf6b59206469c93e8", func := "hornbeam/hornbeamlaw01.CharsCalls", spec := "charsCalls", inPlace := ["internal/bytealg.IndexByteString", "slices.overlaps[hornbeam/api.Pair]"], unfollowed := true, recurses := true, named := ["internal/strconv.uint64pow10", "math/bits.deBruijn32tab", "math/bits.deBruijn64tab", "hornbeam/chars.groups"], apart := false, laid := [("math/bits.deBruijn32tab", laid_math_bits_deBruijn32tab), ("math/bits.deBruijn64tab", laid_math_bits_deBruijn64tab), ("internal/strconv.uint64pow10", laid_internal_strconv_uint64pow10), ("hornbeam/chars.groups", laid_hornbeam_chars_groups)], narrowed := true }
def CharsCallsUptoSaid : Prop := charsCallsUptoRow.holds Tryd.pinned (OpenSpec.upto charsCallsSpec)

/-- 'hornbeamlaw01.CharsTables', WHERE WHAT IT READS IS OF BULK AT MOST 1048576: true; the input reads as it did. -/
def charsTablesUptoRow : OpenClaim := { program := "ytdlobgnhoiednaadoor", sum := "b4a861361c1bb231572c455987ef99895e061533d394a28bf6b59206469c93e8", func := "hornbeam/hornbeamlaw01.CharsTables", spec := "charsTables", inPlace := ["slices.overlaps[hornbeam/api.Pair]", "internal/bytealg.IndexByteString"], unfollowed := true, recurses := true, named := ["internal/strconv.uint64pow10", "math/bits.deBruijn32tab", "math/bits.deBruijn64tab", "hornbeam/chars.groups"], apart := false, laid := [("math/bits.deBruijn32tab", laid_math_bits_deBruijn32tab), ("math/bits.deBruijn64tab", laid_math_bits_deBruijn64tab), ("internal/strconv.uint64pow10", laid_internal_strconv_uint64pow10), ("hornbeam/chars.groups", laid_hornbeam_chars_groups)], narrowed := true }
def CharsTablesUptoSaid : Prop := charsTablesUptoRow.holds Tryd.pinned (OpenSpec.upto charsTablesSpec)

/-- 'hornbeamlaw01.CharsClasses', WHERE WHAT IT READS IS OF BULK AT MOST 1048576: true; the input reads as it did. -/
def charsClassesUptoRow : OpenClaim := { program := "ytdlobgnhoiednaadoor", sum := "b4a861361c1bb231572c455987ef99895e061533d394a28bf6b59206469c93e8", func := "hornbeam/hornbeamlaw01.CharsClasses", spec := "charsClasses", inPlace := ["internal/bytealg.IndexByteString", "slices.overlaps[hornbeam/api.Pair]"], unfollowed := true, recurses := true, named := ["hornbeam/chars.groups", "internal/strconv.uint64pow10", "math/bits.deBruijn32tab", "math/bits.deBruijn64tab"], apart := false, laid := [("math/bits.deBruijn32tab", laid_math_bits_deBruijn32tab), ("math/bits.deBruijn64tab", laid_math_bits_deBruijn64tab), ("internal/strconv.uint64pow10", laid_internal_strconv_uint64pow10), ("hornbeam/chars.groups", laid_hornbeam_chars_groups)], narrowed := true }
def CharsClassesUptoSaid : Prop := charsClassesUptoRow.holds Tryd.pinned (OpenSpec.upto charsClassesSpec)

/-- 'hornbeamlaw01.CharsEscapes', WHERE WHAT IT READS IS OF BULK AT MOST 1048576: true; the input reads as it did. -/
def charsEscapesUptoRow : OpenClaim := { program := "ytdlobgnhoiednaadoor", sum := "b4a861361c1bb231572c455987ef99895e061533d394a28bf6b59206469c93e8", func := "hornbeam/hornbeamlaw01.CharsEscapes", spec := "charsEscapes", inPlace := ["slices.overlaps[hornbeam/api.Pair]", "internal/bytealg.IndexByteString"], unfollowed := true, recurses := true, named := ["internal/strconv.uint64pow10", "math/bits.deBruijn32tab", "math/bits.deBruijn64tab", "hornbeam/chars.groups"], apart := false, laid := [("math/bits.deBruijn32tab", laid_math_bits_deBruijn32tab), ("math/bits.deBruijn64tab", laid_math_bits_deBruijn64tab), ("internal/strconv.uint64pow10", laid_internal_strconv_uint64pow10), ("hornbeam/chars.groups", laid_hornbeam_chars_groups)], narrowed := true }
def CharsEscapesUptoSaid : Prop := charsEscapesUptoRow.holds Tryd.pinned (OpenSpec.upto charsEscapesSpec)

/-- 'hornbeamlaw01.CharsConverts', WHERE WHAT IT READS IS OF BULK AT MOST 1048576: true; the input reads as it did. -/
def charsConvertsUptoRow : OpenClaim := { program := "ytdlobgnhoiednaadoor", sum := "b4a861361c1bb231572c455987ef99895e061533d394a28bf6b59206469c93e8", func := "hornbeam/hornbeamlaw01.CharsConverts", spec := "charsConverts", inPlace := ["slices.overlaps[hornbeam/api.Pair]", "internal/bytealg.IndexByteString"], unfollowed := true, recurses := true, named := ["internal/strconv.uint64pow10", "math/bits.deBruijn32tab", "math/bits.deBruijn64tab", "hornbeam/chars.groups"], apart := false, laid := [("math/bits.deBruijn32tab", laid_math_bits_deBruijn32tab), ("math/bits.deBruijn64tab", laid_math_bits_deBruijn64tab), ("internal/strconv.uint64pow10", laid_internal_strconv_uint64pow10), ("hornbeam/chars.groups", laid_hornbeam_chars_groups)], narrowed := true }
def CharsConvertsUptoSaid : Prop := charsConvertsUptoRow.holds Tryd.pinned (OpenSpec.upto charsConvertsSpec)

/-- 'hornbeamlaw01.CharsOrder', WHERE WHAT IT READS IS OF BULK AT MOST 1048576: true; the input reads as it did. -/
def charsOrderUptoRow : OpenClaim := { program := "ytdlobgnhoiednaadoor", sum := "b4a861361c1bb231572c455987ef99895e061533d394a28bf6b59206469c93e8", func := "hornbeam/hornbeamlaw01.CharsOrder", spec := "charsOrder", inPlace := ["slices.overlaps[hornbeam/api.Pair]", "internal/bytealg.IndexByteString"], unfollowed := true, recurses := true, named := ["internal/strconv.uint64pow10", "math/bits.deBruijn32tab", "math/bits.deBruijn64tab", "hornbeam/chars.groups"], apart := false, laid := [("math/bits.deBruijn32tab", laid_math_bits_deBruijn32tab), ("math/bits.deBruijn64tab", laid_math_bits_deBruijn64tab), ("internal/strconv.uint64pow10", laid_internal_strconv_uint64pow10), ("hornbeam/chars.groups", laid_hornbeam_chars_groups)], narrowed := true }
def CharsOrderUptoSaid : Prop := charsOrderUptoRow.holds Tryd.pinned (OpenSpec.upto charsOrderSpec)

end Rows
end Go.Proofs.YtdlobgnhoiednaaDoor
