/-
  The chapter's examples: the statements' own awake.
  The statements OrderCompares and OrderTotal, as their functions.
  A region that draws its order, whose last operations come up behind all others, in the order of the text.
  Rows of a call's own in slots, that can be written; two elements exchanged by one statement, in whatever order.
  PLAIN MATHEMATICS: sorted rows without duplicates increase; the sorted row does not depend on the order of the elements; sorting again changes nothing; ranks in increasing rows.
-/
import Derived.Test.YtcjakmafojbhlaaDoorPartG
import Derived.Test.YtcjakmafojbhlaaDoorPartF
import Derived.Test.YtcjakmafojbhlaaDoorPartE
namespace Go.Proofs.YtcjakmafojbhlaaDoor
set_option linter.unusedVariables false
set_option linter.unusedSimpArgs false
open Go.RowKit
def awF0 : Fo := (.node ((2, 0, ⟨#[99]⟩) : Pay) .nil (.node ((1, 1, ByteArray.empty) : Pay) .nil (.node ((2, 0, ⟨#[98]⟩) : Pay) .nil (.node ((1, 1, ByteArray.empty) : Pay) .nil .nil))))
def awF1 : Fo := (sortR awF0).1
def awF2 : Fo := (stableR awF0).1
def awF3 : Fo := (.node ((2, 0, ⟨#[98]⟩) : Pay) .nil (.node ((1, 1, ByteArray.empty) : Pay) .nil .nil))
def awF4 : Fo := (.node ((2, 0, ⟨#[97]⟩) : Pay) .nil (.node ((1, 2, ByteArray.empty) : Pay) .nil .nil))
def awF5 : Fo := (.node ((2, 0, ⟨#[98]⟩) : Pay) .nil (.node ((1, 0, ByteArray.empty) : Pay) .nil .nil))
def awF6 : Fo := (.node ((3, 0, ⟨#[45]⟩) : Pay) awF3 (.node ((3, 0, ⟨#[45]⟩) : Pay) awF4 (.node ((3, 0, ⟨#[45]⟩) : Pay) awF5 .nil)))
def awF7 : Fo := (keysR awF6).1
def awF8 : Fo := (.node ((2, 0, ⟨#[97]⟩) : Pay) .nil (.node ((2, 0, ⟨#[99]⟩) : Pay) .nil .nil))
def awF9 : Fo := (.node ((2, 0, ⟨#[97]⟩) : Pay) .nil .nil)
def awF10 : Fo := (.node ((2, 0, ⟨#[98]⟩) : Pay) .nil (.node ((2, 0, ⟨#[97]⟩) : Pay) .nil .nil))
def awF11 : Fo := (.node ((1, 1, ByteArray.empty) : Pay) .nil (.node ((2, 0, ⟨#[98]⟩) : Pay) .nil (.node ((2, 0, ⟨#[99]⟩) : Pay) .nil .nil)))
def awF12 : Fo := (.node ((1, 1, ByteArray.empty) : Pay) .nil (.node ((1, 1, ByteArray.empty) : Pay) .nil (.node ((2, 0, ⟨#[98]⟩) : Pay) .nil (.node ((2, 0, ⟨#[99]⟩) : Pay) .nil .nil))))
def awF13 : Fo := (.node ((3, 0, ⟨#[45]⟩) : Pay) awF4 (.node ((3, 0, ⟨#[45]⟩) : Pay) awF3 (.node ((3, 0, ⟨#[45]⟩) : Pay) awF5 .nil)))
noncomputable def aw0Ops : Array Oper := ((Tryd.f14.body).bind (findReg 0)).getD #[]
noncomputable def aw1Ops : Array Oper := ((Tryd.f14.body).bind (findReg 1)).getD #[]
noncomputable def aw2Ops : Array Oper := ((Tryd.f14.body).bind (findReg 2)).getD #[]
noncomputable def aw3Ops : Array Oper := ((Tryd.f14.body).bind (findReg 3)).getD #[]
noncomputable def aw4Ops : Array Oper := ((Tryd.f14.body).bind (findReg 4)).getD #[]
noncomputable def aw5Ops : Array Oper := ((Tryd.f14.body).bind (findReg 5)).getD #[]
theorem aw_body : Tryd.f14.body = some (.seq (.region 0 aw0Ops false) (.seq (.region 1 aw1Ops false) (.seq (.region 2 aw2Ops false) (.seq (.region 3 aw3Ops false) (.seq (.region 4 aw4Ops false) (.seq (.region 5 aw5Ops false) .ret)))))) := by kernel_rfl
theorem aw0_region {Q : Exit → Act → World → Prop}   {w0 : World} {a : Act} {w : World} (h : Hold 141 [(999, .tabs)] w0 a w)
    (hQ : ∀ a' w', Hold 141 [(999, .tabs)] w0 a' w' → Q .normal a' w') : (Code.region 0 aw0Ops false).wp Tryd.prog Q a w := by
  refine region_seq (w0 := w) 1 (by kernel_rfl) ?_
  rw [show List.range 1 = [0] from rfl]
  refine env_one (i := 0) (d := 0) (k := .val (.bool false)) (step_assign (by kernel_rfl) (Opd.const _) rfl) (by kernel_rfl) (by decide) h ?_
  clear h
  intro a w h
  exact hQ a w (h.keep [999])
theorem aw1_region {Q : Exit → Act → World → Prop}   {w0 : World} {a : Act} {w : World} (h : Hold 141 [(999, .tabs)] w0 a w)
    (hQ : ∀ a' w', Hold 141 [(1, .row awF1), (2, .val (.int .i64 (sortR awF0).2)), (999, .tabs)] w0 a' w' → Q .normal a' w') : (Code.region 1 aw1Ops false).wp Tryd.prog Q a w := by
  refine region_seq (w0 := w) 11 (by kernel_rfl) ?_
  rw [show List.range 11 = [0, 1, 2, 3, 4, 5, 6, 7, 8, 9, 10] from rfl]
  refine env_one (i := 0) (d := 10) (k := .term ((2, 0, ⟨#[99]⟩) : Pay) .nil) (step_a (by kernel_rfl) (Opd.const _) rfl) (by kernel_rfl) (by decide) h ?_
  clear h
  intro a w h
  refine env_one (i := 1) (d := 11) (k := .term ((1, 1, ByteArray.empty) : Pay) .nil) (step_n (by kernel_rfl) (Opd.const _) rfl) (by kernel_rfl) (by decide) h ?_
  clear h
  intro a w h
  refine env_one (i := 2) (d := 12) (k := .term ((2, 0, ⟨#[98]⟩) : Pay) .nil) (step_a (by kernel_rfl) (Opd.const _) rfl) (by kernel_rfl) (by decide) h ?_
  clear h
  intro a w h
  refine env_one (i := 3) (d := 13) (k := .term ((1, 1, ByteArray.empty) : Pay) .nil) (step_n (by kernel_rfl) (Opd.const _) rfl) (by kernel_rfl) (by decide) h ?_
  clear h
  intro a w h
  refine env_one (i := 4) (d := 14) (k := .row awF0) (step_slice4 (by kernel_rfl) (Opd.of_base 10 rfl) (Opd.of_base 11 rfl) (Opd.of_base 12 rfl) (Opd.of_base 13 rfl) rfl) (by kernel_rfl) (by decide) h ?_
  clear h
  intro a w h
  refine env_one (i := 5) (d := 15) (k := .rowErr awF1 (sortR awF0).2) (step_osort (by decide) 999 (by kernel_rfl) (Opd.of_base 14 rfl) (Opd.of_base 999 rfl) rfl) (by kernel_rfl) (by decide) h ?_
  clear h
  intro a w h
  refine env_one (i := 6) (d := 9) (k := .rowErr awF1 (sortR awF0).2) (step_move (by kernel_rfl) (Opd.of_base 15 rfl) rfl) (by kernel_rfl) (by decide) h ?_
  clear h
  intro a w h
  refine env_one (i := 7) (d := 16) (k := .row awF1) (step_rowErr0 (by kernel_rfl) (Opd.of_base 9 rfl) rfl) (by kernel_rfl) (by decide) h ?_
  clear h
  intro a w h
  refine env_one (i := 8) (d := 17) (k := .val (.int .i64 (sortR awF0).2)) (step_rowErr1 (by kernel_rfl) (Opd.of_base 9 rfl) rfl) (by kernel_rfl) (by decide) h ?_
  clear h
  intro a w h
  refine env_one (i := 9) (d := 1) (k := .row awF1) (step_assign (by kernel_rfl) (Opd.of_base 16 rfl) rfl) (by kernel_rfl) (by decide) h ?_
  clear h
  intro a w h
  refine env_one (i := 10) (d := 2) (k := .val (.int .i64 (sortR awF0).2)) (step_assign (by kernel_rfl) (Opd.of_base 17 rfl) rfl) (by kernel_rfl) (by decide) h ?_
  clear h
  intro a w h
  exact hQ a w (h.keep [1, 2, 999])
theorem aw2_region {Q : Exit → Act → World → Prop}   {w0 : World} {a : Act} {w : World} (h : Hold 141 [(1, .row awF1), (2, .val (.int .i64 (sortR awF0).2)), (999, .tabs)] w0 a w)
    (hQ : ∀ a' w', Hold 141 [(1, .row awF1), (2, .val (.int .i64 (sortR awF0).2)), (3, .row awF2), (4, .val (.int .i64 (stableR awF0).2)), (999, .tabs)] w0 a' w' → Q .normal a' w') : (Code.region 2 aw2Ops false).wp Tryd.prog Q a w := by
  refine region_seq (w0 := w) 11 (by kernel_rfl) ?_
  rw [show List.range 11 = [0, 1, 2, 3, 4, 5, 6, 7, 8, 9, 10] from rfl]
  refine env_one (i := 0) (d := 19) (k := .term ((2, 0, ⟨#[99]⟩) : Pay) .nil) (step_a (by kernel_rfl) (Opd.const _) rfl) (by kernel_rfl) (by decide) h ?_
  clear h
  intro a w h
  refine env_one (i := 1) (d := 20) (k := .term ((1, 1, ByteArray.empty) : Pay) .nil) (step_n (by kernel_rfl) (Opd.const _) rfl) (by kernel_rfl) (by decide) h ?_
  clear h
  intro a w h
  refine env_one (i := 2) (d := 21) (k := .term ((2, 0, ⟨#[98]⟩) : Pay) .nil) (step_a (by kernel_rfl) (Opd.const _) rfl) (by kernel_rfl) (by decide) h ?_
  clear h
  intro a w h
  refine env_one (i := 3) (d := 22) (k := .term ((1, 1, ByteArray.empty) : Pay) .nil) (step_n (by kernel_rfl) (Opd.const _) rfl) (by kernel_rfl) (by decide) h ?_
  clear h
  intro a w h
  refine env_one (i := 4) (d := 23) (k := .row awF0) (step_slice4 (by kernel_rfl) (Opd.of_base 19 rfl) (Opd.of_base 20 rfl) (Opd.of_base 21 rfl) (Opd.of_base 22 rfl) rfl) (by kernel_rfl) (by decide) h ?_
  clear h
  intro a w h
  refine env_one (i := 5) (d := 24) (k := .rowErr awF2 (stableR awF0).2) (step_ostable (by decide) 999 (by kernel_rfl) (Opd.of_base 23 rfl) (Opd.of_base 999 rfl) rfl) (by kernel_rfl) (by decide) h ?_
  clear h
  intro a w h
  refine env_one (i := 6) (d := 18) (k := .rowErr awF2 (stableR awF0).2) (step_move (by kernel_rfl) (Opd.of_base 24 rfl) rfl) (by kernel_rfl) (by decide) h ?_
  clear h
  intro a w h
  refine env_one (i := 7) (d := 25) (k := .row awF2) (step_rowErr0 (by kernel_rfl) (Opd.of_base 18 rfl) rfl) (by kernel_rfl) (by decide) h ?_
  clear h
  intro a w h
  refine env_one (i := 8) (d := 26) (k := .val (.int .i64 (stableR awF0).2)) (step_rowErr1 (by kernel_rfl) (Opd.of_base 18 rfl) rfl) (by kernel_rfl) (by decide) h ?_
  clear h
  intro a w h
  refine env_one (i := 9) (d := 3) (k := .row awF2) (step_assign (by kernel_rfl) (Opd.of_base 25 rfl) rfl) (by kernel_rfl) (by decide) h ?_
  clear h
  intro a w h
  refine env_one (i := 10) (d := 4) (k := .val (.int .i64 (stableR awF0).2)) (step_assign (by kernel_rfl) (Opd.of_base 26 rfl) rfl) (by kernel_rfl) (by decide) h ?_
  clear h
  intro a w h
  exact hQ a w (h.keep [1, 2, 3, 4, 999])
theorem aw3_region {Q : Exit → Act → World → Prop}   {w0 : World} {a : Act} {w : World} (h : Hold 141 [(1, .row awF1), (2, .val (.int .i64 (sortR awF0).2)), (3, .row awF2), (4, .val (.int .i64 (stableR awF0).2)), (999, .tabs)] w0 a w)
    (hQ : ∀ a' w', Hold 141 [(1, .row awF1), (2, .val (.int .i64 (sortR awF0).2)), (3, .row awF2), (4, .val (.int .i64 (stableR awF0).2)), (5, .row awF7), (6, .val (.int .i64 (keysR awF6).2)), (999, .tabs)] w0 a' w' → Q .normal a' w') : (Code.region 3 aw3Ops false).wp Tryd.prog Q a w := by
  refine region_seq (w0 := w) 19 (by kernel_rfl) ?_
  rw [show List.range 19 = [0, 1, 2, 3, 4, 5, 6, 7, 8, 9, 10, 11, 12, 13, 14, 15, 16, 17, 18] from rfl]
  refine env_one (i := 0) (d := 28) (k := .term ((2, 0, ⟨#[98]⟩) : Pay) .nil) (step_a (by kernel_rfl) (Opd.const _) rfl) (by kernel_rfl) (by decide) h ?_
  clear h
  intro a w h
  refine env_one (i := 1) (d := 29) (k := .term ((1, 1, ByteArray.empty) : Pay) .nil) (step_n (by kernel_rfl) (Opd.const _) rfl) (by kernel_rfl) (by decide) h ?_
  clear h
  intro a w h
  refine env_one (i := 2) (d := 30) (k := .row awF3) (step_slice2 (by kernel_rfl) (Opd.of_base 28 rfl) (Opd.of_base 29 rfl) rfl) (by kernel_rfl) (by decide) h ?_
  clear h
  intro a w h
  refine env_one (i := 3) (d := 31) (k := .term ((3, 0, ⟨#[45]⟩) : Pay) awF3) (step_f (by kernel_rfl) (Opd.const _) (Opd.of_base 30 rfl) rfl) (by kernel_rfl) (by decide) h ?_
  clear h
  intro a w h
  refine env_one (i := 4) (d := 32) (k := .term ((2, 0, ⟨#[97]⟩) : Pay) .nil) (step_a (by kernel_rfl) (Opd.const _) rfl) (by kernel_rfl) (by decide) h ?_
  clear h
  intro a w h
  refine env_one (i := 5) (d := 33) (k := .term ((1, 2, ByteArray.empty) : Pay) .nil) (step_n (by kernel_rfl) (Opd.const _) rfl) (by kernel_rfl) (by decide) h ?_
  clear h
  intro a w h
  refine env_one (i := 6) (d := 34) (k := .row awF4) (step_slice2 (by kernel_rfl) (Opd.of_base 32 rfl) (Opd.of_base 33 rfl) rfl) (by kernel_rfl) (by decide) h ?_
  clear h
  intro a w h
  refine env_one (i := 7) (d := 35) (k := .term ((3, 0, ⟨#[45]⟩) : Pay) awF4) (step_f (by kernel_rfl) (Opd.const _) (Opd.of_base 34 rfl) rfl) (by kernel_rfl) (by decide) h ?_
  clear h
  intro a w h
  refine env_one (i := 8) (d := 36) (k := .term ((2, 0, ⟨#[98]⟩) : Pay) .nil) (step_a (by kernel_rfl) (Opd.const _) rfl) (by kernel_rfl) (by decide) h ?_
  clear h
  intro a w h
  refine env_one (i := 9) (d := 37) (k := .term ((1, 0, ByteArray.empty) : Pay) .nil) (step_n (by kernel_rfl) (Opd.const _) rfl) (by kernel_rfl) (by decide) h ?_
  clear h
  intro a w h
  refine env_one (i := 10) (d := 38) (k := .row awF5) (step_slice2 (by kernel_rfl) (Opd.of_base 36 rfl) (Opd.of_base 37 rfl) rfl) (by kernel_rfl) (by decide) h ?_
  clear h
  intro a w h
  refine env_one (i := 11) (d := 39) (k := .term ((3, 0, ⟨#[45]⟩) : Pay) awF5) (step_f (by kernel_rfl) (Opd.const _) (Opd.of_base 38 rfl) rfl) (by kernel_rfl) (by decide) h ?_
  clear h
  intro a w h
  refine env_one (i := 12) (d := 40) (k := .row awF6) (step_slice3 (by kernel_rfl) (Opd.of_base 31 rfl) (Opd.of_base 35 rfl) (Opd.of_base 39 rfl) rfl) (by kernel_rfl) (by decide) h ?_
  clear h
  intro a w h
  refine env_one (i := 13) (d := 41) (k := .rowErr awF7 (keysR awF6).2) (step_okeys (by decide) 999 (by kernel_rfl) (Opd.of_base 40 rfl) (Opd.of_base 999 rfl) rfl) (by kernel_rfl) (by decide) h ?_
  clear h
  intro a w h
  refine env_one (i := 14) (d := 27) (k := .rowErr awF7 (keysR awF6).2) (step_move (by kernel_rfl) (Opd.of_base 41 rfl) rfl) (by kernel_rfl) (by decide) h ?_
  clear h
  intro a w h
  refine env_one (i := 15) (d := 42) (k := .row awF7) (step_rowErr0 (by kernel_rfl) (Opd.of_base 27 rfl) rfl) (by kernel_rfl) (by decide) h ?_
  clear h
  intro a w h
  refine env_one (i := 16) (d := 43) (k := .val (.int .i64 (keysR awF6).2)) (step_rowErr1 (by kernel_rfl) (Opd.of_base 27 rfl) rfl) (by kernel_rfl) (by decide) h ?_
  clear h
  intro a w h
  refine env_one (i := 17) (d := 5) (k := .row awF7) (step_assign (by kernel_rfl) (Opd.of_base 42 rfl) rfl) (by kernel_rfl) (by decide) h ?_
  clear h
  intro a w h
  refine env_one (i := 18) (d := 6) (k := .val (.int .i64 (keysR awF6).2)) (step_assign (by kernel_rfl) (Opd.of_base 43 rfl) rfl) (by kernel_rfl) (by decide) h ?_
  clear h
  intro a w h
  exact hQ a w (h.keep [1, 2, 3, 4, 5, 6, 999])
theorem aw4_region {Q : Exit → Act → World → Prop}   {w0 : World} {a : Act} {w : World} (h : Hold 141 [(1, .row awF1), (2, .val (.int .i64 (sortR awF0).2)), (3, .row awF2), (4, .val (.int .i64 (stableR awF0).2)), (5, .row awF7), (6, .val (.int .i64 (keysR awF6).2)), (999, .tabs)] w0 a w)
    (hQ : ∀ a' w', Hold 141 [(1, .row awF1), (2, .val (.int .i64 (sortR awF0).2)), (3, .row awF2), (4, .val (.int .i64 (stableR awF0).2)), (5, .row awF7), (6, .val (.int .i64 (keysR awF6).2)), (7, .val (.int .i64 (rankI awF8 ((2, 0, ⟨#[98]⟩) : Pay) .nil))), (8, .val (.bool (rankB awF8 ((2, 0, ⟨#[98]⟩) : Pay) .nil))), (999, .tabs)] w0 a' w' → Q .normal a' w') : (Code.region 4 aw4Ops false).wp Tryd.prog Q a w := by
  refine region_seq (w0 := w) 10 (by kernel_rfl) ?_
  rw [show List.range 10 = [0, 1, 2, 3, 4, 5, 6, 7, 8, 9] from rfl]
  refine env_one (i := 0) (d := 45) (k := .term ((2, 0, ⟨#[97]⟩) : Pay) .nil) (step_a (by kernel_rfl) (Opd.const _) rfl) (by kernel_rfl) (by decide) h ?_
  clear h
  intro a w h
  refine env_one (i := 1) (d := 46) (k := .term ((2, 0, ⟨#[99]⟩) : Pay) .nil) (step_a (by kernel_rfl) (Opd.const _) rfl) (by kernel_rfl) (by decide) h ?_
  clear h
  intro a w h
  refine env_one (i := 2) (d := 47) (k := .row awF8) (step_slice2 (by kernel_rfl) (Opd.of_base 45 rfl) (Opd.of_base 46 rfl) rfl) (by kernel_rfl) (by decide) h ?_
  clear h
  intro a w h
  refine env_one (i := 3) (d := 48) (k := .term ((2, 0, ⟨#[98]⟩) : Pay) .nil) (step_a (by kernel_rfl) (Opd.const _) rfl) (by kernel_rfl) (by decide) h ?_
  clear h
  intro a w h
  refine env_one (i := 4) (d := 49) (k := .val (.tuple #[.int .i64 (rankI awF8 ((2, 0, ⟨#[98]⟩) : Pay) .nil), .bool (rankB awF8 ((2, 0, ⟨#[98]⟩) : Pay) .nil)])) (step_orank (by decide) 999 (by kernel_rfl) (Opd.of_base 47 rfl) (Opd.of_base 48 rfl) (Opd.of_base 999 rfl) rfl) (by kernel_rfl) (by decide) h ?_
  clear h
  intro a w h
  refine env_one (i := 5) (d := 44) (k := .val (.tuple #[.int .i64 (rankI awF8 ((2, 0, ⟨#[98]⟩) : Pay) .nil), .bool (rankB awF8 ((2, 0, ⟨#[98]⟩) : Pay) .nil)])) (step_move (by kernel_rfl) (Opd.of_base 49 rfl) rfl) (by kernel_rfl) (by decide) h ?_
  clear h
  intro a w h
  refine env_one (i := 6) (d := 50) (k := .val (.int .i64 (rankI awF8 ((2, 0, ⟨#[98]⟩) : Pay) .nil))) (step_two0 (by kernel_rfl) (Opd.of_base 44 rfl) rfl) (by kernel_rfl) (by decide) h ?_
  clear h
  intro a w h
  refine env_one (i := 7) (d := 51) (k := .val (.bool (rankB awF8 ((2, 0, ⟨#[98]⟩) : Pay) .nil))) (step_two1 (by kernel_rfl) (Opd.of_base 44 rfl) rfl) (by kernel_rfl) (by decide) h ?_
  clear h
  intro a w h
  refine env_one (i := 8) (d := 7) (k := .val (.int .i64 (rankI awF8 ((2, 0, ⟨#[98]⟩) : Pay) .nil))) (step_assign (by kernel_rfl) (Opd.of_base 50 rfl) rfl) (by kernel_rfl) (by decide) h ?_
  clear h
  intro a w h
  refine env_one (i := 9) (d := 8) (k := .val (.bool (rankB awF8 ((2, 0, ⟨#[98]⟩) : Pay) .nil))) (step_assign (by kernel_rfl) (Opd.of_base 51 rfl) rfl) (by kernel_rfl) (by decide) h ?_
  clear h
  intro a w h
  exact hQ a w (h.keep [1, 2, 3, 4, 5, 6, 7, 8, 999])
theorem aw5_region {Q : Exit → Act → World → Prop}   {w0 : World} {a : Act} {w : World} (h : Hold 141 [(1, .row awF1), (2, .val (.int .i64 (sortR awF0).2)), (3, .row awF2), (4, .val (.int .i64 (stableR awF0).2)), (5, .row awF7), (6, .val (.int .i64 (keysR awF6).2)), (7, .val (.int .i64 (rankI awF8 ((2, 0, ⟨#[98]⟩) : Pay) .nil))), (8, .val (.bool false)), (999, .tabs)] w0 a w)
    (hQ : ∀ a' w', Hold 141 [(0, .val (.bool true))] w0 a' w' → Q .normal a' w') : (Code.region 5 aw5Ops false).wp Tryd.prog Q a w := by
  refine region_seq (w0 := w) 90 (by kernel_rfl) ?_
  rw [show List.range 90 = [0, 1, 2, 3, 4, 5, 6, 7, 8, 9, 10, 11, 12, 13, 14, 15, 16, 17, 18, 19, 20, 21, 22, 23, 24, 25, 26, 27, 28, 29, 30, 31, 32, 33, 34, 35, 36, 37, 38, 39, 40, 41, 42, 43, 44, 45, 46, 47, 48, 49, 50, 51, 52, 53, 54, 55, 56, 57, 58, 59, 60, 61, 62, 63, 64, 65, 66, 67, 68, 69, 70, 71, 72, 73, 74, 75, 76, 77, 78, 79, 80, 81, 82, 83, 84, 85, 86, 87, 88, 89] from rfl]
  refine env_one (i := 0) (d := 52) (k := .term ((0, 5, ByteArray.empty) : Pay) .nil) (step_x (by kernel_rfl) (Opd.const _) rfl) (by kernel_rfl) (by decide) h ?_
  clear h
  intro a w h
  refine env_one (i := 1) (d := 53) (k := .term ((1, 3, ByteArray.empty) : Pay) .nil) (step_n (by kernel_rfl) (Opd.const _) rfl) (by kernel_rfl) (by decide) h ?_
  clear h
  intro a w h
  refine env_one (i := 2) (d := 54) (k := .val (.int .i64 (Tm.cmpV ((0, 5, ByteArray.empty) : Pay) .nil ((1, 3, ByteArray.empty) : Pay) .nil))) (step_ocmp 999 (by kernel_rfl) (Opd.of_base 52 rfl) (Opd.of_base 53 rfl) (Opd.of_base 999 rfl) rfl) (by kernel_rfl) (by decide) h ?_
  clear h
  intro a w h
  refine env_one (i := 3) (d := 55) (k := .val (.bool true)) (step_eqb_int (m := (Tm.cmpV ((0, 5, ByteArray.empty) : Pay) .nil ((1, 3, ByteArray.empty) : Pay) .nil)) (n := (-1)) (by kernel_rfl) (Opd.of_base 54 rfl) (Opd.const _) (by kernel_rfl) rfl) (by kernel_rfl) (by decide) h ?_
  clear h
  intro a w h
  refine env_one (i := 4) (d := 56) (k := .val (.bool true)) (step_move (by kernel_rfl) (Opd.of_base 55 rfl) rfl) (by kernel_rfl) (by decide) h ?_
  clear h
  intro a w h
  refine env_guard (i := 5) (d := 57) (g := 4) (dg := 56) (b := true) (k := .term ((1, 3, ByteArray.empty) : Pay) .nil) (step_n (by kernel_rfl) (Opd.const _) rfl) (by kernel_rfl) (by decide) (by kernel_rfl) (by decide) rfl h ?_
  clear h
  intro a w h
  refine env_guard (i := 6) (d := 58) (g := 4) (dg := 56) (b := true) (k := .term ((2, 0, ⟨#[97]⟩) : Pay) .nil) (step_a (by kernel_rfl) (Opd.const _) rfl) (by kernel_rfl) (by decide) (by kernel_rfl) (by decide) rfl h ?_
  clear h
  intro a w h
  refine env_guard (i := 7) (d := 59) (g := 4) (dg := 56) (b := true) (k := .val (.int .i64 (Tm.cmpV ((1, 3, ByteArray.empty) : Pay) .nil ((2, 0, ⟨#[97]⟩) : Pay) .nil))) (step_ocmp 999 (by kernel_rfl) (Opd.of_base 57 rfl) (Opd.of_base 58 rfl) (Opd.of_base 999 rfl) rfl) (by kernel_rfl) (by decide) (by kernel_rfl) (by decide) rfl h ?_
  clear h
  intro a w h
  refine env_guard (i := 8) (d := 60) (g := 4) (dg := 56) (b := true) (k := .val (.bool true)) (step_eqb_int (m := (Tm.cmpV ((1, 3, ByteArray.empty) : Pay) .nil ((2, 0, ⟨#[97]⟩) : Pay) .nil)) (n := (-1)) (by kernel_rfl) (Opd.of_base 59 rfl) (Opd.const _) (by kernel_rfl) rfl) (by kernel_rfl) (by decide) (by kernel_rfl) (by decide) rfl h ?_
  clear h
  intro a w h
  refine env_one (i := 9) (d := 61) (k := .val (.bool true)) (step_pick_yes (y := .const (.bool false)) (by kernel_rfl) (Opd.of_base 56 rfl) (Opd.of_base 60 rfl) rfl) (by kernel_rfl) (by decide) h ?_
  clear h
  intro a w h
  refine env_one (i := 10) (d := 62) (k := .val (.bool true)) (step_move (by kernel_rfl) (Opd.of_base 61 rfl) rfl) (by kernel_rfl) (by decide) h ?_
  clear h
  intro a w h
  refine env_guard (i := 11) (d := 63) (g := 10) (dg := 62) (b := true) (k := .term ((2, 0, ⟨#[122, 122, 122]⟩) : Pay) .nil) (step_a (by kernel_rfl) (Opd.const _) rfl) (by kernel_rfl) (by decide) (by kernel_rfl) (by decide) rfl h ?_
  clear h
  intro a w h
  refine env_guard (i := 12) (d := 64) (g := 10) (dg := 62) (b := true) (k := .term ((2, 0, ⟨#[97]⟩) : Pay) .nil) (step_a (by kernel_rfl) (Opd.const _) rfl) (by kernel_rfl) (by decide) (by kernel_rfl) (by decide) rfl h ?_
  clear h
  intro a w h
  refine env_guard (i := 13) (d := 65) (g := 10) (dg := 62) (b := true) (k := .row awF9) (step_slice1 (by kernel_rfl) (Opd.of_base 64 rfl) rfl) (by kernel_rfl) (by decide) (by kernel_rfl) (by decide) rfl h ?_
  clear h
  intro a w h
  refine env_guard (i := 14) (d := 66) (g := 10) (dg := 62) (b := true) (k := .term ((3, 0, ⟨#[102]⟩) : Pay) awF9) (step_f (by kernel_rfl) (Opd.const _) (Opd.of_base 65 rfl) rfl) (by kernel_rfl) (by decide) (by kernel_rfl) (by decide) rfl h ?_
  clear h
  intro a w h
  refine env_guard (i := 15) (d := 67) (g := 10) (dg := 62) (b := true) (k := .val (.int .i64 (Tm.cmpV ((2, 0, ⟨#[122, 122, 122]⟩) : Pay) .nil ((3, 0, ⟨#[102]⟩) : Pay) awF9))) (step_ocmp 999 (by kernel_rfl) (Opd.of_base 63 rfl) (Opd.of_base 66 rfl) (Opd.of_base 999 rfl) rfl) (by kernel_rfl) (by decide) (by kernel_rfl) (by decide) rfl h ?_
  clear h
  intro a w h
  refine env_guard (i := 16) (d := 68) (g := 10) (dg := 62) (b := true) (k := .val (.bool true)) (step_eqb_int (m := (Tm.cmpV ((2, 0, ⟨#[122, 122, 122]⟩) : Pay) .nil ((3, 0, ⟨#[102]⟩) : Pay) awF9)) (n := (-1)) (by kernel_rfl) (Opd.of_base 67 rfl) (Opd.const _) (by kernel_rfl) rfl) (by kernel_rfl) (by decide) (by kernel_rfl) (by decide) rfl h ?_
  clear h
  intro a w h
  refine env_one (i := 17) (d := 69) (k := .val (.bool true)) (step_pick_yes (y := .const (.bool false)) (by kernel_rfl) (Opd.of_base 62 rfl) (Opd.of_base 68 rfl) rfl) (by kernel_rfl) (by decide) h ?_
  clear h
  intro a w h
  refine env_one (i := 18) (d := 70) (k := .val (.bool true)) (step_move (by kernel_rfl) (Opd.of_base 69 rfl) rfl) (by kernel_rfl) (by decide) h ?_
  clear h
  intro a w h
  refine env_guard (i := 19) (d := 71) (g := 18) (dg := 70) (b := true) (k := .term ((2, 0, ⟨#[98]⟩) : Pay) .nil) (step_a (by kernel_rfl) (Opd.const _) rfl) (by kernel_rfl) (by decide) (by kernel_rfl) (by decide) rfl h ?_
  clear h
  intro a w h
  refine env_guard (i := 20) (d := 72) (g := 18) (dg := 70) (b := true) (k := .term ((2, 0, ⟨#[97]⟩) : Pay) .nil) (step_a (by kernel_rfl) (Opd.const _) rfl) (by kernel_rfl) (by decide) (by kernel_rfl) (by decide) rfl h ?_
  clear h
  intro a w h
  refine env_guard (i := 21) (d := 73) (g := 18) (dg := 70) (b := true) (k := .row awF10) (step_slice2 (by kernel_rfl) (Opd.of_base 71 rfl) (Opd.of_base 72 rfl) rfl) (by kernel_rfl) (by decide) (by kernel_rfl) (by decide) rfl h ?_
  clear h
  intro a w h
  refine env_guard (i := 22) (d := 74) (g := 18) (dg := 70) (b := true) (k := .term ((3, 0, ⟨#[102]⟩) : Pay) awF10) (step_f (by kernel_rfl) (Opd.const _) (Opd.of_base 73 rfl) rfl) (by kernel_rfl) (by decide) (by kernel_rfl) (by decide) rfl h ?_
  clear h
  intro a w h
  refine env_guard (i := 23) (d := 75) (g := 18) (dg := 70) (b := true) (k := .term ((2, 0, ⟨#[97]⟩) : Pay) .nil) (step_a (by kernel_rfl) (Opd.const _) rfl) (by kernel_rfl) (by decide) (by kernel_rfl) (by decide) rfl h ?_
  clear h
  intro a w h
  refine env_guard (i := 24) (d := 76) (g := 18) (dg := 70) (b := true) (k := .row awF9) (step_slice1 (by kernel_rfl) (Opd.of_base 75 rfl) rfl) (by kernel_rfl) (by decide) (by kernel_rfl) (by decide) rfl h ?_
  clear h
  intro a w h
  refine env_guard (i := 25) (d := 77) (g := 18) (dg := 70) (b := true) (k := .term ((3, 0, ⟨#[103]⟩) : Pay) awF9) (step_f (by kernel_rfl) (Opd.const _) (Opd.of_base 76 rfl) rfl) (by kernel_rfl) (by decide) (by kernel_rfl) (by decide) rfl h ?_
  clear h
  intro a w h
  refine env_guard (i := 26) (d := 78) (g := 18) (dg := 70) (b := true) (k := .val (.int .i64 (Tm.cmpV ((3, 0, ⟨#[102]⟩) : Pay) awF10 ((3, 0, ⟨#[103]⟩) : Pay) awF9))) (step_ocmp 999 (by kernel_rfl) (Opd.of_base 74 rfl) (Opd.of_base 77 rfl) (Opd.of_base 999 rfl) rfl) (by kernel_rfl) (by decide) (by kernel_rfl) (by decide) rfl h ?_
  clear h
  intro a w h
  refine env_guard (i := 27) (d := 79) (g := 18) (dg := 70) (b := true) (k := .val (.bool true)) (step_eqb_int (m := (Tm.cmpV ((3, 0, ⟨#[102]⟩) : Pay) awF10 ((3, 0, ⟨#[103]⟩) : Pay) awF9)) (n := 1) (by kernel_rfl) (Opd.of_base 78 rfl) (Opd.const _) (by kernel_rfl) rfl) (by kernel_rfl) (by decide) (by kernel_rfl) (by decide) rfl h ?_
  clear h
  intro a w h
  refine env_one (i := 28) (d := 80) (k := .val (.bool true)) (step_pick_yes (y := .const (.bool false)) (by kernel_rfl) (Opd.of_base 70 rfl) (Opd.of_base 79 rfl) rfl) (by kernel_rfl) (by decide) h ?_
  clear h
  intro a w h
  refine env_one (i := 29) (d := 81) (k := .val (.bool true)) (step_move (by kernel_rfl) (Opd.of_base 80 rfl) rfl) (by kernel_rfl) (by decide) h ?_
  clear h
  intro a w h
  refine env_guard (i := 30) (d := 82) (g := 29) (dg := 81) (b := true) (k := .term ((2, 0, ⟨#[97, 98]⟩) : Pay) .nil) (step_a (by kernel_rfl) (Opd.const _) rfl) (by kernel_rfl) (by decide) (by kernel_rfl) (by decide) rfl h ?_
  clear h
  intro a w h
  refine env_guard (i := 31) (d := 83) (g := 29) (dg := 81) (b := true) (k := .term ((2, 0, ⟨#[97]⟩) : Pay) .nil) (step_a (by kernel_rfl) (Opd.const _) rfl) (by kernel_rfl) (by decide) (by kernel_rfl) (by decide) rfl h ?_
  clear h
  intro a w h
  refine env_guard (i := 32) (d := 84) (g := 29) (dg := 81) (b := true) (k := .val (.int .i64 (Tm.cmpV ((2, 0, ⟨#[97, 98]⟩) : Pay) .nil ((2, 0, ⟨#[97]⟩) : Pay) .nil))) (step_ocmp 999 (by kernel_rfl) (Opd.of_base 82 rfl) (Opd.of_base 83 rfl) (Opd.of_base 999 rfl) rfl) (by kernel_rfl) (by decide) (by kernel_rfl) (by decide) rfl h ?_
  clear h
  intro a w h
  refine env_guard (i := 33) (d := 85) (g := 29) (dg := 81) (b := true) (k := .val (.bool true)) (step_eqb_int (m := (Tm.cmpV ((2, 0, ⟨#[97, 98]⟩) : Pay) .nil ((2, 0, ⟨#[97]⟩) : Pay) .nil)) (n := 1) (by kernel_rfl) (Opd.of_base 84 rfl) (Opd.const _) (by kernel_rfl) rfl) (by kernel_rfl) (by decide) (by kernel_rfl) (by decide) rfl h ?_
  clear h
  intro a w h
  refine env_one (i := 34) (d := 86) (k := .val (.bool true)) (step_pick_yes (y := .const (.bool false)) (by kernel_rfl) (Opd.of_base 81 rfl) (Opd.of_base 85 rfl) rfl) (by kernel_rfl) (by decide) h ?_
  clear h
  intro a w h
  refine env_one (i := 35) (d := 87) (k := .val (.bool true)) (step_move (by kernel_rfl) (Opd.of_base 86 rfl) rfl) (by kernel_rfl) (by decide) h ?_
  clear h
  intro a w h
  refine env_guard (i := 36) (d := 88) (g := 35) (dg := 87) (b := true) (k := .val (.int .i64 (sortR awF0).2)) (step_move (by kernel_rfl) (Opd.of_base 2 rfl) rfl) (by kernel_rfl) (by decide) (by kernel_rfl) (by decide) rfl h ?_
  clear h
  intro a w h
  refine env_guard (i := 37) (d := 89) (g := 35) (dg := 87) (b := true) (k := .val (.bool true)) (step_eqb_err (m := (sortR awF0).2) (n := 0) (by kernel_rfl) (Opd.of_base 88 rfl) (Opd.const _) (by kernel_rfl) rfl) (by kernel_rfl) (by decide) (by kernel_rfl) (by decide) rfl h ?_
  clear h
  intro a w h
  refine env_one (i := 38) (d := 90) (k := .val (.bool true)) (step_pick_yes (y := .const (.bool false)) (by kernel_rfl) (Opd.of_base 87 rfl) (Opd.of_base 89 rfl) rfl) (by kernel_rfl) (by decide) h ?_
  clear h
  intro a w h
  refine env_one (i := 39) (d := 91) (k := .val (.bool true)) (step_move (by kernel_rfl) (Opd.of_base 90 rfl) rfl) (by kernel_rfl) (by decide) h ?_
  clear h
  intro a w h
  refine env_guard (i := 40) (d := 92) (g := 39) (dg := 91) (b := true) (k := .row awF1) (step_move (by kernel_rfl) (Opd.of_base 1 rfl) rfl) (by kernel_rfl) (by decide) (by kernel_rfl) (by decide) rfl h ?_
  clear h
  intro a w h
  refine env_guard (i := 41) (d := 93) (g := 39) (dg := 91) (b := true) (k := .term ((1, 1, ByteArray.empty) : Pay) .nil) (step_n (by kernel_rfl) (Opd.const _) rfl) (by kernel_rfl) (by decide) (by kernel_rfl) (by decide) rfl h ?_
  clear h
  intro a w h
  refine env_guard (i := 42) (d := 94) (g := 39) (dg := 91) (b := true) (k := .term ((2, 0, ⟨#[98]⟩) : Pay) .nil) (step_a (by kernel_rfl) (Opd.const _) rfl) (by kernel_rfl) (by decide) (by kernel_rfl) (by decide) rfl h ?_
  clear h
  intro a w h
  refine env_guard (i := 43) (d := 95) (g := 39) (dg := 91) (b := true) (k := .term ((2, 0, ⟨#[99]⟩) : Pay) .nil) (step_a (by kernel_rfl) (Opd.const _) rfl) (by kernel_rfl) (by decide) (by kernel_rfl) (by decide) rfl h ?_
  clear h
  intro a w h
  refine env_guard (i := 44) (d := 96) (g := 39) (dg := 91) (b := true) (k := .row awF11) (step_slice3 (by kernel_rfl) (Opd.of_base 93 rfl) (Opd.of_base 94 rfl) (Opd.of_base 95 rfl) rfl) (by kernel_rfl) (by decide) (by kernel_rfl) (by decide) rfl h ?_
  clear h
  intro a w h
  refine env_guard (i := 45) (d := 97) (g := 39) (dg := 91) (b := true) (k := .val (.bool true)) (step_sameAll (by decide) (by kernel_rfl) (Opd.of_base 92 rfl) (Opd.of_base 96 rfl) (by kernel_rfl) rfl) (by kernel_rfl) (by decide) (by kernel_rfl) (by decide) rfl h ?_
  clear h
  intro a w h
  refine env_one (i := 46) (d := 98) (k := .val (.bool true)) (step_pick_yes (y := .const (.bool false)) (by kernel_rfl) (Opd.of_base 91 rfl) (Opd.of_base 97 rfl) rfl) (by kernel_rfl) (by decide) h ?_
  clear h
  intro a w h
  refine env_one (i := 47) (d := 99) (k := .val (.bool true)) (step_move (by kernel_rfl) (Opd.of_base 98 rfl) rfl) (by kernel_rfl) (by decide) h ?_
  clear h
  intro a w h
  refine env_guard (i := 48) (d := 100) (g := 47) (dg := 99) (b := true) (k := .val (.int .i64 (stableR awF0).2)) (step_move (by kernel_rfl) (Opd.of_base 4 rfl) rfl) (by kernel_rfl) (by decide) (by kernel_rfl) (by decide) rfl h ?_
  clear h
  intro a w h
  refine env_guard (i := 49) (d := 101) (g := 47) (dg := 99) (b := true) (k := .val (.bool true)) (step_eqb_err (m := (stableR awF0).2) (n := 0) (by kernel_rfl) (Opd.of_base 100 rfl) (Opd.const _) (by kernel_rfl) rfl) (by kernel_rfl) (by decide) (by kernel_rfl) (by decide) rfl h ?_
  clear h
  intro a w h
  refine env_one (i := 50) (d := 102) (k := .val (.bool true)) (step_pick_yes (y := .const (.bool false)) (by kernel_rfl) (Opd.of_base 99 rfl) (Opd.of_base 101 rfl) rfl) (by kernel_rfl) (by decide) h ?_
  clear h
  intro a w h
  refine env_one (i := 51) (d := 103) (k := .val (.bool true)) (step_move (by kernel_rfl) (Opd.of_base 102 rfl) rfl) (by kernel_rfl) (by decide) h ?_
  clear h
  intro a w h
  refine env_guard (i := 52) (d := 104) (g := 51) (dg := 103) (b := true) (k := .row awF2) (step_move (by kernel_rfl) (Opd.of_base 3 rfl) rfl) (by kernel_rfl) (by decide) (by kernel_rfl) (by decide) rfl h ?_
  clear h
  intro a w h
  refine env_guard (i := 53) (d := 105) (g := 51) (dg := 103) (b := true) (k := .term ((1, 1, ByteArray.empty) : Pay) .nil) (step_n (by kernel_rfl) (Opd.const _) rfl) (by kernel_rfl) (by decide) (by kernel_rfl) (by decide) rfl h ?_
  clear h
  intro a w h
  refine env_guard (i := 54) (d := 106) (g := 51) (dg := 103) (b := true) (k := .term ((1, 1, ByteArray.empty) : Pay) .nil) (step_n (by kernel_rfl) (Opd.const _) rfl) (by kernel_rfl) (by decide) (by kernel_rfl) (by decide) rfl h ?_
  clear h
  intro a w h
  refine env_guard (i := 55) (d := 107) (g := 51) (dg := 103) (b := true) (k := .term ((2, 0, ⟨#[98]⟩) : Pay) .nil) (step_a (by kernel_rfl) (Opd.const _) rfl) (by kernel_rfl) (by decide) (by kernel_rfl) (by decide) rfl h ?_
  clear h
  intro a w h
  refine env_guard (i := 56) (d := 108) (g := 51) (dg := 103) (b := true) (k := .term ((2, 0, ⟨#[99]⟩) : Pay) .nil) (step_a (by kernel_rfl) (Opd.const _) rfl) (by kernel_rfl) (by decide) (by kernel_rfl) (by decide) rfl h ?_
  clear h
  intro a w h
  refine env_guard (i := 57) (d := 109) (g := 51) (dg := 103) (b := true) (k := .row awF12) (step_slice4 (by kernel_rfl) (Opd.of_base 105 rfl) (Opd.of_base 106 rfl) (Opd.of_base 107 rfl) (Opd.of_base 108 rfl) rfl) (by kernel_rfl) (by decide) (by kernel_rfl) (by decide) rfl h ?_
  clear h
  intro a w h
  refine env_guard (i := 58) (d := 110) (g := 51) (dg := 103) (b := true) (k := .val (.bool true)) (step_sameAll (by decide) (by kernel_rfl) (Opd.of_base 104 rfl) (Opd.of_base 109 rfl) (by kernel_rfl) rfl) (by kernel_rfl) (by decide) (by kernel_rfl) (by decide) rfl h ?_
  clear h
  intro a w h
  refine env_one (i := 59) (d := 111) (k := .val (.bool true)) (step_pick_yes (y := .const (.bool false)) (by kernel_rfl) (Opd.of_base 103 rfl) (Opd.of_base 110 rfl) rfl) (by kernel_rfl) (by decide) h ?_
  clear h
  intro a w h
  refine env_one (i := 60) (d := 112) (k := .val (.bool true)) (step_move (by kernel_rfl) (Opd.of_base 111 rfl) rfl) (by kernel_rfl) (by decide) h ?_
  clear h
  intro a w h
  refine env_guard (i := 61) (d := 113) (g := 60) (dg := 112) (b := true) (k := .val (.int .i64 (keysR awF6).2)) (step_move (by kernel_rfl) (Opd.of_base 6 rfl) rfl) (by kernel_rfl) (by decide) (by kernel_rfl) (by decide) rfl h ?_
  clear h
  intro a w h
  refine env_guard (i := 62) (d := 114) (g := 60) (dg := 112) (b := true) (k := .val (.bool true)) (step_eqb_err (m := (keysR awF6).2) (n := 0) (by kernel_rfl) (Opd.of_base 113 rfl) (Opd.const _) (by kernel_rfl) rfl) (by kernel_rfl) (by decide) (by kernel_rfl) (by decide) rfl h ?_
  clear h
  intro a w h
  refine env_one (i := 63) (d := 115) (k := .val (.bool true)) (step_pick_yes (y := .const (.bool false)) (by kernel_rfl) (Opd.of_base 112 rfl) (Opd.of_base 114 rfl) rfl) (by kernel_rfl) (by decide) h ?_
  clear h
  intro a w h
  refine env_one (i := 64) (d := 116) (k := .val (.bool true)) (step_move (by kernel_rfl) (Opd.of_base 115 rfl) rfl) (by kernel_rfl) (by decide) h ?_
  clear h
  intro a w h
  refine env_guard (i := 65) (d := 117) (g := 64) (dg := 116) (b := true) (k := .row awF7) (step_move (by kernel_rfl) (Opd.of_base 5 rfl) rfl) (by kernel_rfl) (by decide) (by kernel_rfl) (by decide) rfl h ?_
  clear h
  intro a w h
  refine env_guard (i := 66) (d := 118) (g := 64) (dg := 116) (b := true) (k := .term ((2, 0, ⟨#[97]⟩) : Pay) .nil) (step_a (by kernel_rfl) (Opd.const _) rfl) (by kernel_rfl) (by decide) (by kernel_rfl) (by decide) rfl h ?_
  clear h
  intro a w h
  refine env_guard (i := 67) (d := 119) (g := 64) (dg := 116) (b := true) (k := .term ((1, 2, ByteArray.empty) : Pay) .nil) (step_n (by kernel_rfl) (Opd.const _) rfl) (by kernel_rfl) (by decide) (by kernel_rfl) (by decide) rfl h ?_
  clear h
  intro a w h
  refine env_guard (i := 68) (d := 120) (g := 64) (dg := 116) (b := true) (k := .row awF4) (step_slice2 (by kernel_rfl) (Opd.of_base 118 rfl) (Opd.of_base 119 rfl) rfl) (by kernel_rfl) (by decide) (by kernel_rfl) (by decide) rfl h ?_
  clear h
  intro a w h
  refine env_guard (i := 69) (d := 121) (g := 64) (dg := 116) (b := true) (k := .term ((3, 0, ⟨#[45]⟩) : Pay) awF4) (step_f (by kernel_rfl) (Opd.const _) (Opd.of_base 120 rfl) rfl) (by kernel_rfl) (by decide) (by kernel_rfl) (by decide) rfl h ?_
  clear h
  intro a w h
  refine env_guard (i := 70) (d := 122) (g := 64) (dg := 116) (b := true) (k := .term ((2, 0, ⟨#[98]⟩) : Pay) .nil) (step_a (by kernel_rfl) (Opd.const _) rfl) (by kernel_rfl) (by decide) (by kernel_rfl) (by decide) rfl h ?_
  clear h
  intro a w h
  refine env_guard (i := 71) (d := 123) (g := 64) (dg := 116) (b := true) (k := .term ((1, 1, ByteArray.empty) : Pay) .nil) (step_n (by kernel_rfl) (Opd.const _) rfl) (by kernel_rfl) (by decide) (by kernel_rfl) (by decide) rfl h ?_
  clear h
  intro a w h
  refine env_guard (i := 72) (d := 124) (g := 64) (dg := 116) (b := true) (k := .row awF3) (step_slice2 (by kernel_rfl) (Opd.of_base 122 rfl) (Opd.of_base 123 rfl) rfl) (by kernel_rfl) (by decide) (by kernel_rfl) (by decide) rfl h ?_
  clear h
  intro a w h
  refine env_guard (i := 73) (d := 125) (g := 64) (dg := 116) (b := true) (k := .term ((3, 0, ⟨#[45]⟩) : Pay) awF3) (step_f (by kernel_rfl) (Opd.const _) (Opd.of_base 124 rfl) rfl) (by kernel_rfl) (by decide) (by kernel_rfl) (by decide) rfl h ?_
  clear h
  intro a w h
  refine env_guard (i := 74) (d := 126) (g := 64) (dg := 116) (b := true) (k := .term ((2, 0, ⟨#[98]⟩) : Pay) .nil) (step_a (by kernel_rfl) (Opd.const _) rfl) (by kernel_rfl) (by decide) (by kernel_rfl) (by decide) rfl h ?_
  clear h
  intro a w h
  refine env_guard (i := 75) (d := 127) (g := 64) (dg := 116) (b := true) (k := .term ((1, 0, ByteArray.empty) : Pay) .nil) (step_n (by kernel_rfl) (Opd.const _) rfl) (by kernel_rfl) (by decide) (by kernel_rfl) (by decide) rfl h ?_
  clear h
  intro a w h
  refine env_guard (i := 76) (d := 128) (g := 64) (dg := 116) (b := true) (k := .row awF5) (step_slice2 (by kernel_rfl) (Opd.of_base 126 rfl) (Opd.of_base 127 rfl) rfl) (by kernel_rfl) (by decide) (by kernel_rfl) (by decide) rfl h ?_
  clear h
  intro a w h
  refine env_guard (i := 77) (d := 129) (g := 64) (dg := 116) (b := true) (k := .term ((3, 0, ⟨#[45]⟩) : Pay) awF5) (step_f (by kernel_rfl) (Opd.const _) (Opd.of_base 128 rfl) rfl) (by kernel_rfl) (by decide) (by kernel_rfl) (by decide) rfl h ?_
  clear h
  intro a w h
  refine env_guard (i := 78) (d := 130) (g := 64) (dg := 116) (b := true) (k := .row awF13) (step_slice3 (by kernel_rfl) (Opd.of_base 121 rfl) (Opd.of_base 125 rfl) (Opd.of_base 129 rfl) rfl) (by kernel_rfl) (by decide) (by kernel_rfl) (by decide) rfl h ?_
  clear h
  intro a w h
  refine env_guard (i := 79) (d := 131) (g := 64) (dg := 116) (b := true) (k := .val (.bool true)) (step_sameAll (by decide) (by kernel_rfl) (Opd.of_base 117 rfl) (Opd.of_base 130 rfl) (by kernel_rfl) rfl) (by kernel_rfl) (by decide) (by kernel_rfl) (by decide) rfl h ?_
  clear h
  intro a w h
  refine env_one (i := 80) (d := 132) (k := .val (.bool true)) (step_pick_yes (y := .const (.bool false)) (by kernel_rfl) (Opd.of_base 116 rfl) (Opd.of_base 131 rfl) rfl) (by kernel_rfl) (by decide) h ?_
  clear h
  intro a w h
  refine env_one (i := 81) (d := 133) (k := .val (.bool true)) (step_move (by kernel_rfl) (Opd.of_base 132 rfl) rfl) (by kernel_rfl) (by decide) h ?_
  clear h
  intro a w h
  refine env_guard (i := 82) (d := 134) (g := 81) (dg := 133) (b := true) (k := .val (.int .i64 (rankI awF8 ((2, 0, ⟨#[98]⟩) : Pay) .nil))) (step_move (by kernel_rfl) (Opd.of_base 7 rfl) rfl) (by kernel_rfl) (by decide) (by kernel_rfl) (by decide) rfl h ?_
  clear h
  intro a w h
  refine env_guard (i := 83) (d := 135) (g := 81) (dg := 133) (b := true) (k := .val (.bool true)) (step_eqb_int (m := (rankI awF8 ((2, 0, ⟨#[98]⟩) : Pay) .nil)) (n := 1) (by kernel_rfl) (Opd.of_base 134 rfl) (Opd.const _) (by kernel_rfl) rfl) (by kernel_rfl) (by decide) (by kernel_rfl) (by decide) rfl h ?_
  clear h
  intro a w h
  refine env_one (i := 84) (d := 136) (k := .val (.bool true)) (step_pick_yes (y := .const (.bool false)) (by kernel_rfl) (Opd.of_base 133 rfl) (Opd.of_base 135 rfl) rfl) (by kernel_rfl) (by decide) h ?_
  clear h
  intro a w h
  refine env_one (i := 85) (d := 137) (k := .val (.bool true)) (step_move (by kernel_rfl) (Opd.of_base 136 rfl) rfl) (by kernel_rfl) (by decide) h ?_
  clear h
  intro a w h
  refine env_guard (i := 86) (d := 138) (g := 85) (dg := 137) (b := true) (k := .val (.bool false)) (step_move (by kernel_rfl) (Opd.of_base 8 rfl) rfl) (by kernel_rfl) (by decide) (by kernel_rfl) (by decide) rfl h ?_
  clear h
  intro a w h
  refine env_guard (i := 87) (d := 139) (g := 85) (dg := 137) (b := true) (k := .val (.bool true)) (step_not (b := false) (by kernel_rfl) (by simpa using (Opd.of_base 138 rfl)) rfl) (by kernel_rfl) (by decide) (by kernel_rfl) (by decide) rfl h ?_
  clear h
  intro a w h
  refine env_one (i := 88) (d := 140) (k := .val (.bool true)) (step_pick_yes (y := .const (.bool false)) (by kernel_rfl) (Opd.of_base 137 rfl) (Opd.of_base 139 rfl) rfl) (by kernel_rfl) (by decide) h ?_
  clear h
  intro a w h
  refine env_one (i := 89) (d := 0) (k := .val (.bool true)) (step_assign (by kernel_rfl) (Opd.of_base 140 rfl) rfl) (by kernel_rfl) (by decide) h ?_
  clear h
  intro a w h
  exact hQ a w (h.keep [0])

theorem awake_any (w : World) (hT : Tabs w) : Calls Tryd.prog 14 #[] w fun e w' => e = .returned (.bool true) ∧ Below w.heap.size w w' := by
  refine calls_of_wp Tryd.func14 aw_body ?_
  have hsN : ((#[] : Array Value) ++ Array.replicate (Tryd.f14.ntmps - (#[] : Array Value).size) undef : Array Value).size = 141 := by kernel_rfl
  generalize ((#[] : Array Value) ++ Array.replicate (Tryd.f14.ntmps - (#[] : Array Value).size) undef : Array Value) = tm at hsN  ⊢
  refine wp_seq ?_
  refine aw0_region (w0 := w) ⟨hsN, rfl, Below.refl _ _, (slots_cons 999 (k0 := .tabs) hT slots_nil)⟩ ?_
  intro a w1 h
  show Code.wp _ _ _ a w1
  refine wp_seq ?_
  refine aw1_region h ?_
  intro a w1 h
  show Code.wp _ _ _ a w1
  refine wp_seq ?_
  refine aw2_region h ?_
  intro a w1 h
  show Code.wp _ _ _ a w1
  refine wp_seq ?_
  refine aw3_region h ?_
  intro a w1 h
  show Code.wp _ _ _ a w1
  refine wp_seq ?_
  refine aw4_region h ?_
  intro a w1 h
  show Code.wp _ _ _ a w1
  refine wp_seq ?_
  refine aw5_region h ?_
  intro a w1 h
  show Code.wp _ _ _ a w1
  refine wp_ret ?_
  (try simp only [then_ret, block_ret])
  refine law_out rfl (h.get 0 rfl) h.defers ⟨rfl, h.world⟩
end Go.Proofs.YtcjakmafojbhlaaDoor
namespace Go.Proofs.YtcjakmafojbhlaaDoor
set_option linter.unusedVariables false
set_option linter.unusedSimpArgs false
open Go.RowKit
section
variable {ops : Array Oper} {Q : Exit → Act → World → Prop} {E : Nat → Kd} {D : Nat → Nat} {base : Nat → Option Kd} {N : Nat}
theorem step_awake {i : Nat} (tt : Nat) (hop : (ops[i]?).map (·.op) = some (.call { callee := .value (.func 14), args := #[], argTypes := #[] })) (hT : Opd ops E D base N i (.tmp tt) .tabs) (hE : E i = .val (.bool true)) : Step Tryd.prog ops Q E D base N i :=
  step_call hop (fun _ _ => by kernel_rfl) fun a w h => by
    have hT' : Tabs w := hT a w h
    rw [show (#[] : Array Operand).map a.eval = #[] by simp, hE]
    exact below_R (awake_any w hT')
theorem step_neg {i : Nat} {x : Operand} {n : Int} (hs : IntKind.i64.wrap (-n) = -n) (hop : (ops[i]?).map (·.op) = some (.unOp .neg 3 x)) (hx : Opd ops E D base N i x (.val (.int .i64 n))) (hE : E i = .val (.int .i64 (-n))) : Step Tryd.prog ops Q E D base N i :=
  step_still hop hE fun a w h dst ty' pos after guard => by
    have e : a.eval x = .int .i64 n := hx a w h
    refine ⟨.int .i64 (-n), ?_, rfl⟩
    unfold execOp
    simp only [e]
    go_simp
end
theorem Tm.cmpV_of {p q : Pay} {l m : Fo} (h : Tm.validB p l = true) (h' : Tm.validB q m = true) : Tm.cmpV p l q m = Tm.cmpT p l q m := by unfold Tm.cmpV; rw [h, h']; rfl
theorem Tm.cmpV_neg (p : Pay) (l : Fo) (q : Pay) (m : Fo) : Tm.cmpV q m p l = -(Tm.cmpV p l q m) := by
  unfold Tm.cmpV
  rw [Bool.and_comm]
  split
  · exact Tm.cmpT_neg p l q m
  · rfl
theorem Tm.cmpV_sgn (p : Pay) (l : Fo) (q : Pay) (m : Fo) : Tm.Sgn (Tm.cmpV p l q m) := by
  unfold Tm.cmpV
  split
  · exact Tm.cmpT_sgn p l q m
  · exact .inr (.inl rfl)
theorem negw {x : Int} (h : Tm.Sgn x) : IntKind.i64.wrap (-x) = -x := by
  unfold Tm.Sgn at h
  rw [IntKind.wrap_i64]
  omega
theorem Tm.same_iff {p q : Pay} {l m : Fo} (h : Tm.validB p l = true) (h' : Tm.validB q m = true) : (Tm.cmpV p l q m == 0) = (Tm.validB p l && Tm.sameT p l q m) := by
  rw [h, Bool.true_and, Tm.cmpV_of h h', Bool.eq_iff_iff, beq_iff_eq, Tm.cmpT_zero, Tm.sameT_eq]
noncomputable def lc0Ops : Array Oper := ((Tryd.f3.body).bind (findReg 0)).getD #[]
noncomputable def lc1Ops : Array Oper := ((Tryd.f3.body).bind (findReg 1)).getD #[]
theorem lc_body : Tryd.f3.body = some (.seq (.region 0 lc0Ops false) (.seq (.region 1 lc1Ops true) .ret)) := by kernel_rfl
theorem lc0_region {Q : Exit → Act → World → Prop} (p : Pay) (l : Fo) (q : Pay) (m : Fo)  {w0 : World} {a : Act} {w : World} (h : Hold 15 [(0, .term p l), (1, .term q m), (999, .tabs)] w0 a w)
    (hQ : ∀ a' w', Hold 15 [(2, .ptrT p l), (3, .ptrT q m), (999, .tabs)] w0 a' w' → Q .normal a' w') : (Code.region 0 lc0Ops false).wp Tryd.prog Q a w := by
  refine region_seq (w0 := w) 3 (by kernel_rfl) ?_
  rw [show List.range 3 = [0, 1, 2] from rfl]
  refine env_one (i := 0) (d := 2) (k := .ptrT p l) (step_box (by kernel_rfl) (Opd.of_base 0 rfl) rfl) (by kernel_rfl) (by decide) h ?_
  clear h
  intro a w h
  refine env_one (i := 1) (d := 3) (k := .ptrT q m) (step_box (by kernel_rfl) (Opd.of_base 1 rfl) rfl) (by kernel_rfl) (by decide) h ?_
  clear h
  intro a w h
  refine env_one (i := 2) (d := 4) (k := .val (.bool false)) (step_assign (by kernel_rfl) (Opd.const _) rfl) (by kernel_rfl) (by decide) h ?_
  clear h
  intro a w h
  exact hQ a w (h.keep [2, 3, 999])
def lc1Es (p : Pay) (l : Fo) (q : Pay) (m : Fo) : List Kd := [
  .term p l,
  .term q m,
  .val (.int .i64 (Tm.cmpV p l q m)),
  .term p l,
  .term q m,
  .val (.int .i64 (Tm.cmpV p l q m)),
  .val (.bool true),
  .val (.bool true),
  .val (.bool true),
  .val (.bool true),
  .val (.bool true)]
def lc1Ds : List Nat := [5, 6, 7, 8, 9, 10, 11, 12, 13, 14, 4]
def lc1Env (p : Pay) (l : Fo) (q : Pay) (m : Fo) : Env := [(2, .ptrT p l), (3, .ptrT q m), (999, .tabs)]
theorem lc1_0 {Q : Exit → Act → World → Prop} (p : Pay) (l : Fo) (q : Pay) (m : Fo)  : RStep lc1Ops Q (fun i => ((lc1Es p l q m)[i]?).getD .any) (fun i => (lc1Ds[i]?).getD (1000 + i)) (look (lc1Env p l q m)) 15 0 := fun _ => step_load_term (by kernel_rfl) (Opd.of_base 2 rfl) rfl
theorem lc1_1 {Q : Exit → Act → World → Prop} (p : Pay) (l : Fo) (q : Pay) (m : Fo)  : RStep lc1Ops Q (fun i => ((lc1Es p l q m)[i]?).getD .any) (fun i => (lc1Ds[i]?).getD (1000 + i)) (look (lc1Env p l q m)) 15 1 := fun _ => step_load_term (by kernel_rfl) (Opd.of_base 3 rfl) rfl
theorem lc1_2 {Q : Exit → Act → World → Prop} (p : Pay) (l : Fo) (q : Pay) (m : Fo)  : RStep lc1Ops Q (fun i => ((lc1Es p l q m)[i]?).getD .any) (fun i => (lc1Ds[i]?).getD (1000 + i)) (look (lc1Env p l q m)) 15 2 := fun _ => step_ocmp 999 (by kernel_rfl) (Opd.dep 0 rfl rfl (by kernel_rfl)) (Opd.dep 1 rfl rfl (by kernel_rfl)) (Opd.of_base 999 rfl) rfl
theorem lc1_3 {Q : Exit → Act → World → Prop} (p : Pay) (l : Fo) (q : Pay) (m : Fo)  : RStep lc1Ops Q (fun i => ((lc1Es p l q m)[i]?).getD .any) (fun i => (lc1Ds[i]?).getD (1000 + i)) (look (lc1Env p l q m)) 15 3 := fun _ => step_load_term (by kernel_rfl) (Opd.of_base 2 rfl) rfl
theorem lc1_4 {Q : Exit → Act → World → Prop} (p : Pay) (l : Fo) (q : Pay) (m : Fo)  : RStep lc1Ops Q (fun i => ((lc1Es p l q m)[i]?).getD .any) (fun i => (lc1Ds[i]?).getD (1000 + i)) (look (lc1Env p l q m)) 15 4 := fun _ => step_load_term (by kernel_rfl) (Opd.of_base 3 rfl) rfl
theorem lc1_5 {Q : Exit → Act → World → Prop} (p : Pay) (l : Fo) (q : Pay) (m : Fo)  : RStep lc1Ops Q (fun i => ((lc1Es p l q m)[i]?).getD .any) (fun i => (lc1Ds[i]?).getD (1000 + i)) (look (lc1Env p l q m)) 15 5 := fun _ => step_rcmp (by kernel_rfl) (Opd.dep 3 rfl rfl (by kernel_rfl)) (Opd.dep 4 rfl rfl (by kernel_rfl)) rfl
theorem lc1_6 {Q : Exit → Act → World → Prop} (p : Pay) (l : Fo) (q : Pay) (m : Fo)  : RStep lc1Ops Q (fun i => ((lc1Es p l q m)[i]?).getD .any) (fun i => (lc1Ds[i]?).getD (1000 + i)) (look (lc1Env p l q m)) 15 6 := fun _ => step_eqs_int (by kernel_rfl) (Opd.dep 2 rfl rfl (by kernel_rfl)) (Opd.dep 5 rfl rfl (by kernel_rfl)) rfl
theorem lc1_7 {Q : Exit → Act → World → Prop} (p : Pay) (l : Fo) (q : Pay) (m : Fo)  : RStep lc1Ops Q (fun i => ((lc1Es p l q m)[i]?).getD .any) (fun i => (lc1Ds[i]?).getD (1000 + i)) (look (lc1Env p l q m)) 15 7 := fun _ => step_move (by kernel_rfl) (Opd.dep 6 rfl rfl (by kernel_rfl)) rfl
theorem lc1_8 {Q : Exit → Act → World → Prop} (p : Pay) (l : Fo) (q : Pay) (m : Fo)  : RStep lc1Ops Q (fun i => ((lc1Es p l q m)[i]?).getD .any) (fun i => (lc1Ds[i]?).getD (1000 + i)) (look (lc1Env p l q m)) 15 8 := fun _ => step_awake 999 (by kernel_rfl) (Opd.of_base 999 rfl) rfl
theorem lc1_9 {Q : Exit → Act → World → Prop} (p : Pay) (l : Fo) (q : Pay) (m : Fo)  : RStep lc1Ops Q (fun i => ((lc1Es p l q m)[i]?).getD .any) (fun i => (lc1Ds[i]?).getD (1000 + i)) (look (lc1Env p l q m)) 15 9 := fun _ => step_pick_yes (y := .const (.bool false)) (by kernel_rfl) (Opd.dep 7 rfl rfl (by kernel_rfl)) (Opd.dep 8 rfl rfl (by kernel_rfl)) rfl
theorem lc1_10 {Q : Exit → Act → World → Prop} (p : Pay) (l : Fo) (q : Pay) (m : Fo)  : RStep lc1Ops Q (fun i => ((lc1Es p l q m)[i]?).getD .any) (fun i => (lc1Ds[i]?).getD (1000 + i)) (look (lc1Env p l q m)) 15 10 := fun _ => step_assign (by kernel_rfl) (Opd.dep 9 rfl rfl (by kernel_rfl)) rfl
theorem lc1_region {Q : Exit → Act → World → Prop} (p : Pay) (l : Fo) (q : Pay) (m : Fo)  {w0 : World} {a : Act} {w : World} (h : Hold 15 [(2, .ptrT p l), (3, .ptrT q m), (999, .tabs)] w0 a w)
    (hQ : ∀ a' w', Hold 15 [(4, .val (.bool true))] w0 a' w' → Q .normal a' w') : (Code.region 1 lc1Ops true).wp Tryd.prog Q a w := by
  have hall : ∀ i, i < 0 → RStep lc1Ops Q (fun i => ((lc1Es p l q m)[i]?).getD .any) (fun i => (lc1Ds[i]?).getD (1000 + i)) (look (lc1Env p l q m)) 15 i := fun i hi => absurd hi (by omega)
  have hall := below_succ hall (lc1_0 p l q m )
  have hall := below_succ hall (lc1_1 p l q m )
  have hall := below_succ hall (lc1_2 p l q m )
  have hall := below_succ hall (lc1_3 p l q m )
  have hall := below_succ hall (lc1_4 p l q m )
  have hall := below_succ hall (lc1_5 p l q m )
  have hall := below_succ hall (lc1_6 p l q m )
  have hall := below_succ hall (lc1_7 p l q m )
  have hall := below_succ hall (lc1_8 p l q m )
  have hall := below_succ hall (lc1_9 p l q m )
  have hall := below_succ hall (lc1_10 p l q m )
  refine env_any (env := lc1Env p l q m) (N := 15) (w0 := w0) lc1Ds (lc1Es p l q m) (by kernel_rfl) (by kernel_rfl) (of_decide_eq_true (by kernel_rfl)) (fun i_ hi_ => hall i_ (by rw [show (lc1Es p l q m).length = 11 by kernel_rfl] at hi_; exact hi_)) h fun a' w' h => ?_
  exact hQ a' w' (h.keep [4])
theorem law_compares (p : Pay) (l : Fo) (q : Pay) (m : Fo) (A A' : Option Addr) (c c' : Nat) (w : World) (hA : ArgsB w w.heap.size A (Tm.len l) l) (hA' : ArgsB w w.heap.size A' (Tm.len m) m) (hT : Tabs w) :
    Calls Tryd.prog 3 #[tv p A (Tm.len l) c, tv q A' (Tm.len m) c'] w fun e w' => e = .returned (.bool true) ∧ Below w.heap.size w w' := by
  refine calls_of_wp Tryd.func3 lc_body ?_
  obtain ⟨v0, hv0⟩ : ∃ v : Value, v = tv p A (Tm.len l) c := ⟨_, rfl⟩
  obtain ⟨v1, hv1⟩ : ∃ v : Value, v = tv q A' (Tm.len m) c' := ⟨_, rfl⟩
  rw [← hv0, ← hv1]
  have hk0 : (Kd.term p l).R v0 w := ⟨A, c, hv0, hA⟩
  have hk1 : (Kd.term q m).R v1 w := ⟨A', c', hv1, hA'⟩
  have hsN : (#[v0, v1] ++ Array.replicate (Tryd.f3.ntmps - #[v0, v1].size) undef : Array Value).size = 15 := by kernel_rfl
  have gs0 : (#[v0, v1] ++ Array.replicate (Tryd.f3.ntmps - #[v0, v1].size) undef : Array Value).getD 0 undef = v0 := by kernel_rfl
  have gs1 : (#[v0, v1] ++ Array.replicate (Tryd.f3.ntmps - #[v0, v1].size) undef : Array Value).getD 1 undef = v1 := by kernel_rfl
  generalize (#[v0, v1] ++ Array.replicate (Tryd.f3.ntmps - #[v0, v1].size) undef : Array Value) = tm at hsN gs0 gs1 ⊢
  refine wp_seq ?_
  refine lc0_region p l q m (w0 := w) ⟨hsN, rfl, Below.refl _ _, (slots_cons 0 (by rw [gs0]; exact hk0) (slots_cons 1 (by rw [gs1]; exact hk1) (slots_cons 999 (k0 := .tabs) hT slots_nil)))⟩ ?_
  intro a w1 h
  show Code.wp _ _ _ a w1
  refine wp_seq ?_
  refine lc1_region p l q m h ?_
  intro a w1 h
  show Code.wp _ _ _ a w1
  refine wp_ret ?_
  (try simp only [then_ret, block_ret])
  refine law_out rfl (h.get 4 rfl) h.defers ⟨rfl, h.world⟩

theorem total_fit {p q s : Pay} {l m n : Fo} (v0 : Tm.validB p l = true) (v1 : Tm.validB q m = true) (v2 : Tm.validB s n = true) (h1 : Tm.cmpV p l q m ≤ 0) (h2 : Tm.cmpV q m s n ≤ 0) : ¬ 0 < Tm.cmpV p l s n := by
  rw [Tm.cmpV_of v0 v1] at h1
  rw [Tm.cmpV_of v1 v2] at h2
  rw [Tm.cmpV_of v0 v2]
  obtain ⟨f1, f2, f3, f4⟩ := Tm.cmpT_fit p l q m s n
  omega
noncomputable def lt0Ops : Array Oper := ((Tryd.f6.body).bind (findReg 0)).getD #[]
noncomputable def lt1Ops : Array Oper := ((Tryd.f6.body).bind (findReg 1)).getD #[]
noncomputable def lt2Ops : Array Oper := ((Tryd.f6.body).bind (findReg 2)).getD #[]
noncomputable def lt3Ops : Array Oper := ((Tryd.f6.body).bind (findReg 3)).getD #[]
noncomputable def lt4Ops : Array Oper := ((Tryd.f6.body).bind (findReg 4)).getD #[]
noncomputable def lt5Ops : Array Oper := ((Tryd.f6.body).bind (findReg 5)).getD #[]
noncomputable def lt6Ops : Array Oper := ((Tryd.f6.body).bind (findReg 6)).getD #[]
noncomputable def lt7Ops : Array Oper := ((Tryd.f6.body).bind (findReg 7)).getD #[]
noncomputable def lt8Ops : Array Oper := ((Tryd.f6.body).bind (findReg 8)).getD #[]
noncomputable def lt9Ops : Array Oper := ((Tryd.f6.body).bind (findReg 9)).getD #[]
theorem lt_body : Tryd.f6.body = some (.seq (.region 0 lt0Ops false) (.seq (.seq (.region 1 lt1Ops true) (.cond (.tmp 14) (.seq (.region 2 lt2Ops false) .ret) .skip)) (.seq (.seq (.region 3 lt3Ops false) (.cond (.tmp 20) (.seq (.region 4 lt4Ops false) .ret) .skip)) (.seq (.seq (.region 5 lt5Ops true) (.cond (.tmp 29) (.seq (.region 6 lt6Ops false) .ret) .skip)) (.seq (.seq (.region 7 lt7Ops false) (.cond (.tmp 45) (.seq (.region 8 lt8Ops false) .ret) .skip)) (.seq (.region 9 lt9Ops false) .ret)))))) := by kernel_rfl
theorem lt0_region {Q : Exit → Act → World → Prop} (p : Pay) (l : Fo) (q : Pay) (m : Fo) (s : Pay) (n : Fo)  {w0 : World} {a : Act} {w : World} (h : Hold 47 [(0, .term p l), (1, .term q m), (2, .term s n), (999, .tabs)] w0 a w)
    (hQ : ∀ a' w', Hold 47 [(3, .ptrT p l), (4, .ptrT q m), (5, .ptrT s n), (999, .tabs)] w0 a' w' → Q .normal a' w') : (Code.region 0 lt0Ops false).wp Tryd.prog Q a w := by
  refine region_seq (w0 := w) 4 (by kernel_rfl) ?_
  rw [show List.range 4 = [0, 1, 2, 3] from rfl]
  refine env_one (i := 0) (d := 3) (k := .ptrT p l) (step_box (by kernel_rfl) (Opd.of_base 0 rfl) rfl) (by kernel_rfl) (by decide) h ?_
  clear h
  intro a w h
  refine env_one (i := 1) (d := 4) (k := .ptrT q m) (step_box (by kernel_rfl) (Opd.of_base 1 rfl) rfl) (by kernel_rfl) (by decide) h ?_
  clear h
  intro a w h
  refine env_one (i := 2) (d := 5) (k := .ptrT s n) (step_box (by kernel_rfl) (Opd.of_base 2 rfl) rfl) (by kernel_rfl) (by decide) h ?_
  clear h
  intro a w h
  refine env_one (i := 3) (d := 6) (k := .val (.bool false)) (step_assign (by kernel_rfl) (Opd.const _) rfl) (by kernel_rfl) (by decide) h ?_
  clear h
  intro a w h
  exact hQ a w (h.keep [3, 4, 5, 999])
def lt1Es (p : Pay) (l : Fo) (q : Pay) (m : Fo) (s : Pay) (n : Fo) : List Kd := [
  .term p l,
  .term q m,
  .val (.int .i64 (Tm.cmpV p l q m)),
  .term q m,
  .term p l,
  .val (.int .i64 (Tm.cmpV q m p l)),
  .val (.int .i64 (-((Tm.cmpV q m p l)))),
  .val (.bool false)]
def lt1Ds : List Nat := [7, 8, 9, 10, 11, 12, 13, 14]
def lt1Env (p : Pay) (l : Fo) (q : Pay) (m : Fo) (s : Pay) (n : Fo) : Env := [(3, .ptrT p l), (4, .ptrT q m), (5, .ptrT s n), (999, .tabs)]
theorem lt1_0 {Q : Exit → Act → World → Prop} (p : Pay) (l : Fo) (q : Pay) (m : Fo) (s : Pay) (n : Fo)  : RStep lt1Ops Q (fun i => ((lt1Es p l q m s n)[i]?).getD .any) (fun i => (lt1Ds[i]?).getD (1000 + i)) (look (lt1Env p l q m s n)) 47 0 := fun _ => step_load_term (by kernel_rfl) (Opd.of_base 3 rfl) rfl
theorem lt1_1 {Q : Exit → Act → World → Prop} (p : Pay) (l : Fo) (q : Pay) (m : Fo) (s : Pay) (n : Fo)  : RStep lt1Ops Q (fun i => ((lt1Es p l q m s n)[i]?).getD .any) (fun i => (lt1Ds[i]?).getD (1000 + i)) (look (lt1Env p l q m s n)) 47 1 := fun _ => step_load_term (by kernel_rfl) (Opd.of_base 4 rfl) rfl
theorem lt1_2 {Q : Exit → Act → World → Prop} (p : Pay) (l : Fo) (q : Pay) (m : Fo) (s : Pay) (n : Fo)  : RStep lt1Ops Q (fun i => ((lt1Es p l q m s n)[i]?).getD .any) (fun i => (lt1Ds[i]?).getD (1000 + i)) (look (lt1Env p l q m s n)) 47 2 := fun _ => step_ocmp 999 (by kernel_rfl) (Opd.dep 0 rfl rfl (by kernel_rfl)) (Opd.dep 1 rfl rfl (by kernel_rfl)) (Opd.of_base 999 rfl) rfl
theorem lt1_3 {Q : Exit → Act → World → Prop} (p : Pay) (l : Fo) (q : Pay) (m : Fo) (s : Pay) (n : Fo)  : RStep lt1Ops Q (fun i => ((lt1Es p l q m s n)[i]?).getD .any) (fun i => (lt1Ds[i]?).getD (1000 + i)) (look (lt1Env p l q m s n)) 47 3 := fun _ => step_load_term (by kernel_rfl) (Opd.of_base 4 rfl) rfl
theorem lt1_4 {Q : Exit → Act → World → Prop} (p : Pay) (l : Fo) (q : Pay) (m : Fo) (s : Pay) (n : Fo)  : RStep lt1Ops Q (fun i => ((lt1Es p l q m s n)[i]?).getD .any) (fun i => (lt1Ds[i]?).getD (1000 + i)) (look (lt1Env p l q m s n)) 47 4 := fun _ => step_load_term (by kernel_rfl) (Opd.of_base 3 rfl) rfl
theorem lt1_5 {Q : Exit → Act → World → Prop} (p : Pay) (l : Fo) (q : Pay) (m : Fo) (s : Pay) (n : Fo)  : RStep lt1Ops Q (fun i => ((lt1Es p l q m s n)[i]?).getD .any) (fun i => (lt1Ds[i]?).getD (1000 + i)) (look (lt1Env p l q m s n)) 47 5 := fun _ => step_ocmp 999 (by kernel_rfl) (Opd.dep 3 rfl rfl (by kernel_rfl)) (Opd.dep 4 rfl rfl (by kernel_rfl)) (Opd.of_base 999 rfl) rfl
theorem lt1_6 {Q : Exit → Act → World → Prop} (p : Pay) (l : Fo) (q : Pay) (m : Fo) (s : Pay) (n : Fo)  : RStep lt1Ops Q (fun i => ((lt1Es p l q m s n)[i]?).getD .any) (fun i => (lt1Ds[i]?).getD (1000 + i)) (look (lt1Env p l q m s n)) 47 6 := fun _ => step_neg (n := (Tm.cmpV q m p l)) (negw (Tm.cmpV_sgn q m p l)) (by kernel_rfl) (Opd.dep 5 rfl rfl (by kernel_rfl)) rfl
theorem lt1_7 {Q : Exit → Act → World → Prop} (p : Pay) (l : Fo) (q : Pay) (m : Fo) (s : Pay) (n : Fo)  : RStep lt1Ops Q (fun i => ((lt1Es p l q m s n)[i]?).getD .any) (fun i => (lt1Ds[i]?).getD (1000 + i)) (look (lt1Env p l q m s n)) 47 7 := fun _ => step_ne_int (m := (Tm.cmpV p l q m)) (n := (-((Tm.cmpV q m p l)))) (by kernel_rfl) (Opd.dep 2 rfl rfl (by kernel_rfl)) (Opd.dep 6 rfl rfl (by kernel_rfl)) (by rw [Tm.cmpV_neg p l q m, Int.neg_neg]; simp) rfl
theorem lt1_region {Q : Exit → Act → World → Prop} (p : Pay) (l : Fo) (q : Pay) (m : Fo) (s : Pay) (n : Fo)  {w0 : World} {a : Act} {w : World} (h : Hold 47 [(3, .ptrT p l), (4, .ptrT q m), (5, .ptrT s n), (999, .tabs)] w0 a w)
    (hQ : ∀ a' w', Hold 47 [(3, .ptrT p l), (4, .ptrT q m), (5, .ptrT s n), (999, .tabs), (14, .val (.bool false))] w0 a' w' → Q .normal a' w') : (Code.region 1 lt1Ops true).wp Tryd.prog Q a w := by
  have hall : ∀ i, i < 0 → RStep lt1Ops Q (fun i => ((lt1Es p l q m s n)[i]?).getD .any) (fun i => (lt1Ds[i]?).getD (1000 + i)) (look (lt1Env p l q m s n)) 47 i := fun i hi => absurd hi (by omega)
  have hall := below_succ hall (lt1_0 p l q m s n )
  have hall := below_succ hall (lt1_1 p l q m s n )
  have hall := below_succ hall (lt1_2 p l q m s n )
  have hall := below_succ hall (lt1_3 p l q m s n )
  have hall := below_succ hall (lt1_4 p l q m s n )
  have hall := below_succ hall (lt1_5 p l q m s n )
  have hall := below_succ hall (lt1_6 p l q m s n )
  have hall := below_succ hall (lt1_7 p l q m s n )
  refine env_any (env := lt1Env p l q m s n) (N := 47) (w0 := w0) lt1Ds (lt1Es p l q m s n) (by kernel_rfl) (by kernel_rfl) (of_decide_eq_true (by kernel_rfl)) (fun i_ hi_ => hall i_ (by rw [show (lt1Es p l q m s n).length = 8 by kernel_rfl] at hi_; exact hi_)) h fun a' w' h => ?_
  exact hQ a' w' (h.keep [3, 4, 5, 999, 14])
theorem lt3n_region {Q : Exit → Act → World → Prop} (p : Pay) (l : Fo) (q : Pay) (m : Fo) (s : Pay) (n : Fo) (h0 : Tm.allV (.node p l (.node q m (.node s n .nil))) = false) {w0 : World} {a : Act} {w : World} (h : Hold 47 [(3, .ptrT p l), (4, .ptrT q m), (5, .ptrT s n), (999, .tabs)] w0 a w)
    (hQ : ∀ a' w', Hold 47 [(3, .ptrT p l), (4, .ptrT q m), (5, .ptrT s n), (999, .tabs), (20, .val (.bool true))] w0 a' w' → Q .normal a' w') : (Code.region 3 lt3Ops false).wp Tryd.prog Q a w := by
  refine region_seq (w0 := w) 6 (by kernel_rfl) ?_
  rw [show List.range 6 = [0, 1, 2, 3, 4, 5] from rfl]
  refine env_one (i := 0) (d := 15) (k := .term p l) (step_load_term (by kernel_rfl) (Opd.of_base 3 rfl) rfl) (by kernel_rfl) (by decide) h ?_
  clear h
  intro a w h
  refine env_one (i := 1) (d := 16) (k := .term q m) (step_load_term (by kernel_rfl) (Opd.of_base 4 rfl) rfl) (by kernel_rfl) (by decide) h ?_
  clear h
  intro a w h
  refine env_one (i := 2) (d := 17) (k := .term s n) (step_load_term (by kernel_rfl) (Opd.of_base 5 rfl) rfl) (by kernel_rfl) (by decide) h ?_
  clear h
  intro a w h
  refine env_one (i := 3) (d := 18) (k := .row (.node p l (.node q m (.node s n .nil)))) (step_slice3 (by kernel_rfl) (Opd.of_base 15 rfl) (Opd.of_base 16 rfl) (Opd.of_base 17 rfl) rfl) (by kernel_rfl) (by decide) h ?_
  clear h
  intro a w h
  refine env_one (i := 4) (d := 19) (k := .val (.bool false)) (step_lvalid (show Tm.len (Fo.node p l (.node q m (.node s n .nil))) ≤ 50000 by show 0 + 1 + 1 + 1 ≤ 50000; omega) (by kernel_rfl) (Opd.of_base 18 rfl) h0 rfl) (by kernel_rfl) (by decide) h ?_
  clear h
  intro a w h
  refine env_one (i := 5) (d := 20) (k := .val (.bool true)) (step_not (by kernel_rfl) (Opd.of_base 19 rfl) rfl) (by kernel_rfl) (by decide) h ?_
  clear h
  intro a w h
  exact hQ a w (h.keep [3, 4, 5, 999, 20])
theorem lt3y_region {Q : Exit → Act → World → Prop} (p : Pay) (l : Fo) (q : Pay) (m : Fo) (s : Pay) (n : Fo) (h0 : Tm.allV (.node p l (.node q m (.node s n .nil))) = true) {w0 : World} {a : Act} {w : World} (h : Hold 47 [(3, .ptrT p l), (4, .ptrT q m), (5, .ptrT s n), (999, .tabs)] w0 a w)
    (hQ : ∀ a' w', Hold 47 [(3, .ptrT p l), (4, .ptrT q m), (5, .ptrT s n), (999, .tabs), (20, .val (.bool false))] w0 a' w' → Q .normal a' w') : (Code.region 3 lt3Ops false).wp Tryd.prog Q a w := by
  refine region_seq (w0 := w) 6 (by kernel_rfl) ?_
  rw [show List.range 6 = [0, 1, 2, 3, 4, 5] from rfl]
  refine env_one (i := 0) (d := 15) (k := .term p l) (step_load_term (by kernel_rfl) (Opd.of_base 3 rfl) rfl) (by kernel_rfl) (by decide) h ?_
  clear h
  intro a w h
  refine env_one (i := 1) (d := 16) (k := .term q m) (step_load_term (by kernel_rfl) (Opd.of_base 4 rfl) rfl) (by kernel_rfl) (by decide) h ?_
  clear h
  intro a w h
  refine env_one (i := 2) (d := 17) (k := .term s n) (step_load_term (by kernel_rfl) (Opd.of_base 5 rfl) rfl) (by kernel_rfl) (by decide) h ?_
  clear h
  intro a w h
  refine env_one (i := 3) (d := 18) (k := .row (.node p l (.node q m (.node s n .nil)))) (step_slice3 (by kernel_rfl) (Opd.of_base 15 rfl) (Opd.of_base 16 rfl) (Opd.of_base 17 rfl) rfl) (by kernel_rfl) (by decide) h ?_
  clear h
  intro a w h
  refine env_one (i := 4) (d := 19) (k := .val (.bool true)) (step_lvalid (show Tm.len (Fo.node p l (.node q m (.node s n .nil))) ≤ 50000 by show 0 + 1 + 1 + 1 ≤ 50000; omega) (by kernel_rfl) (Opd.of_base 18 rfl) h0 rfl) (by kernel_rfl) (by decide) h ?_
  clear h
  intro a w h
  refine env_one (i := 5) (d := 20) (k := .val (.bool false)) (step_not (by kernel_rfl) (Opd.of_base 19 rfl) rfl) (by kernel_rfl) (by decide) h ?_
  clear h
  intro a w h
  exact hQ a w (h.keep [3, 4, 5, 999, 20])
theorem lt4_region {Q : Exit → Act → World → Prop} (p : Pay) (l : Fo) (q : Pay) (m : Fo) (s : Pay) (n : Fo)  {w0 : World} {a : Act} {w : World} (h : Hold 47 [(3, .ptrT p l), (4, .ptrT q m), (5, .ptrT s n), (999, .tabs)] w0 a w)
    (hQ : ∀ a' w', Hold 47 [(6, .val (.bool true))] w0 a' w' → Q .normal a' w') : (Code.region 4 lt4Ops false).wp Tryd.prog Q a w := by
  refine region_seq (w0 := w) 2 (by kernel_rfl) ?_
  rw [show List.range 2 = [0, 1] from rfl]
  refine env_one (i := 0) (d := 21) (k := .val (.bool true)) (step_awake 999 (by kernel_rfl) (Opd.of_base 999 rfl) rfl) (by kernel_rfl) (by decide) h ?_
  clear h
  intro a w h
  refine env_one (i := 1) (d := 6) (k := .val (.bool true)) (step_assign (by kernel_rfl) (Opd.of_base 21 rfl) rfl) (by kernel_rfl) (by decide) h ?_
  clear h
  intro a w h
  exact hQ a w (h.keep [6])
def lt5Es (p : Pay) (l : Fo) (q : Pay) (m : Fo) (s : Pay) (n : Fo) : List Kd := [
  .term p l,
  .term q m,
  .val (.int .i64 (Tm.cmpV p l q m)),
  .val (.bool ((Tm.cmpV p l q m) == 0)),
  .term p l,
  .term q m,
  .val (.bool (Tm.validB p l && Tm.sameT p l q m)),
  .val (.bool false)]
def lt5Ds : List Nat := [22, 23, 24, 25, 26, 27, 28, 29]
def lt5Env (p : Pay) (l : Fo) (q : Pay) (m : Fo) (s : Pay) (n : Fo) : Env := [(3, .ptrT p l), (4, .ptrT q m), (5, .ptrT s n), (999, .tabs)]
theorem lt5_0 {Q : Exit → Act → World → Prop} (p : Pay) (l : Fo) (q : Pay) (m : Fo) (s : Pay) (n : Fo) (v0 : Tm.validB p l = true) (v1 : Tm.validB q m = true) (v2 : Tm.validB s n = true) : RStep lt5Ops Q (fun i => ((lt5Es p l q m s n)[i]?).getD .any) (fun i => (lt5Ds[i]?).getD (1000 + i)) (look (lt5Env p l q m s n)) 47 0 := fun _ => step_load_term (by kernel_rfl) (Opd.of_base 3 rfl) rfl
theorem lt5_1 {Q : Exit → Act → World → Prop} (p : Pay) (l : Fo) (q : Pay) (m : Fo) (s : Pay) (n : Fo) (v0 : Tm.validB p l = true) (v1 : Tm.validB q m = true) (v2 : Tm.validB s n = true) : RStep lt5Ops Q (fun i => ((lt5Es p l q m s n)[i]?).getD .any) (fun i => (lt5Ds[i]?).getD (1000 + i)) (look (lt5Env p l q m s n)) 47 1 := fun _ => step_load_term (by kernel_rfl) (Opd.of_base 4 rfl) rfl
theorem lt5_2 {Q : Exit → Act → World → Prop} (p : Pay) (l : Fo) (q : Pay) (m : Fo) (s : Pay) (n : Fo) (v0 : Tm.validB p l = true) (v1 : Tm.validB q m = true) (v2 : Tm.validB s n = true) : RStep lt5Ops Q (fun i => ((lt5Es p l q m s n)[i]?).getD .any) (fun i => (lt5Ds[i]?).getD (1000 + i)) (look (lt5Env p l q m s n)) 47 2 := fun _ => step_ocmp 999 (by kernel_rfl) (Opd.dep 0 rfl rfl (by kernel_rfl)) (Opd.dep 1 rfl rfl (by kernel_rfl)) (Opd.of_base 999 rfl) rfl
theorem lt5_3 {Q : Exit → Act → World → Prop} (p : Pay) (l : Fo) (q : Pay) (m : Fo) (s : Pay) (n : Fo) (v0 : Tm.validB p l = true) (v1 : Tm.validB q m = true) (v2 : Tm.validB s n = true) : RStep lt5Ops Q (fun i => ((lt5Es p l q m s n)[i]?).getD .any) (fun i => (lt5Ds[i]?).getD (1000 + i)) (look (lt5Env p l q m s n)) 47 3 := fun _ => step_eqb_int (m := (Tm.cmpV p l q m)) (n := 0) (by kernel_rfl) (Opd.dep 2 rfl rfl (by kernel_rfl)) (Opd.const _) rfl rfl
theorem lt5_4 {Q : Exit → Act → World → Prop} (p : Pay) (l : Fo) (q : Pay) (m : Fo) (s : Pay) (n : Fo) (v0 : Tm.validB p l = true) (v1 : Tm.validB q m = true) (v2 : Tm.validB s n = true) : RStep lt5Ops Q (fun i => ((lt5Es p l q m s n)[i]?).getD .any) (fun i => (lt5Ds[i]?).getD (1000 + i)) (look (lt5Env p l q m s n)) 47 4 := fun _ => step_load_term (by kernel_rfl) (Opd.of_base 3 rfl) rfl
theorem lt5_5 {Q : Exit → Act → World → Prop} (p : Pay) (l : Fo) (q : Pay) (m : Fo) (s : Pay) (n : Fo) (v0 : Tm.validB p l = true) (v1 : Tm.validB q m = true) (v2 : Tm.validB s n = true) : RStep lt5Ops Q (fun i => ((lt5Es p l q m s n)[i]?).getD .any) (fun i => (lt5Ds[i]?).getD (1000 + i)) (look (lt5Env p l q m s n)) 47 5 := fun _ => step_load_term (by kernel_rfl) (Opd.of_base 4 rfl) rfl
theorem lt5_6 {Q : Exit → Act → World → Prop} (p : Pay) (l : Fo) (q : Pay) (m : Fo) (s : Pay) (n : Fo) (v0 : Tm.validB p l = true) (v1 : Tm.validB q m = true) (v2 : Tm.validB s n = true) : RStep lt5Ops Q (fun i => ((lt5Es p l q m s n)[i]?).getD .any) (fun i => (lt5Ds[i]?).getD (1000 + i)) (look (lt5Env p l q m s n)) 47 6 := fun _ => step_rsame (by kernel_rfl) (Opd.dep 4 rfl rfl (by kernel_rfl)) (Opd.dep 5 rfl rfl (by kernel_rfl)) rfl rfl
theorem lt5_7 {Q : Exit → Act → World → Prop} (p : Pay) (l : Fo) (q : Pay) (m : Fo) (s : Pay) (n : Fo) (v0 : Tm.validB p l = true) (v1 : Tm.validB q m = true) (v2 : Tm.validB s n = true) : RStep lt5Ops Q (fun i => ((lt5Es p l q m s n)[i]?).getD .any) (fun i => (lt5Ds[i]?).getD (1000 + i)) (look (lt5Env p l q m s n)) 47 7 := fun _ => step_ne_bool (by kernel_rfl) (Opd.dep 3 rfl rfl (by kernel_rfl)) (Opd.dep 6 rfl rfl (by kernel_rfl)) (by rw [Tm.same_iff v0 v1]; simp) rfl
theorem lt5_region {Q : Exit → Act → World → Prop} (p : Pay) (l : Fo) (q : Pay) (m : Fo) (s : Pay) (n : Fo) (v0 : Tm.validB p l = true) (v1 : Tm.validB q m = true) (v2 : Tm.validB s n = true) {w0 : World} {a : Act} {w : World} (h : Hold 47 [(3, .ptrT p l), (4, .ptrT q m), (5, .ptrT s n), (999, .tabs)] w0 a w)
    (hQ : ∀ a' w', Hold 47 [(3, .ptrT p l), (4, .ptrT q m), (5, .ptrT s n), (999, .tabs), (29, .val (.bool false))] w0 a' w' → Q .normal a' w') : (Code.region 5 lt5Ops true).wp Tryd.prog Q a w := by
  have hall : ∀ i, i < 0 → RStep lt5Ops Q (fun i => ((lt5Es p l q m s n)[i]?).getD .any) (fun i => (lt5Ds[i]?).getD (1000 + i)) (look (lt5Env p l q m s n)) 47 i := fun i hi => absurd hi (by omega)
  have hall := below_succ hall (lt5_0 p l q m s n v0 v1 v2)
  have hall := below_succ hall (lt5_1 p l q m s n v0 v1 v2)
  have hall := below_succ hall (lt5_2 p l q m s n v0 v1 v2)
  have hall := below_succ hall (lt5_3 p l q m s n v0 v1 v2)
  have hall := below_succ hall (lt5_4 p l q m s n v0 v1 v2)
  have hall := below_succ hall (lt5_5 p l q m s n v0 v1 v2)
  have hall := below_succ hall (lt5_6 p l q m s n v0 v1 v2)
  have hall := below_succ hall (lt5_7 p l q m s n v0 v1 v2)
  refine env_any (env := lt5Env p l q m s n) (N := 47) (w0 := w0) lt5Ds (lt5Es p l q m s n) (by kernel_rfl) (by kernel_rfl) (of_decide_eq_true (by kernel_rfl)) (fun i_ hi_ => hall i_ (by rw [show (lt5Es p l q m s n).length = 8 by kernel_rfl] at hi_; exact hi_)) h fun a' w' h => ?_
  exact hQ a' w' (h.keep [3, 4, 5, 999, 29])
theorem lt7a_region {Q : Exit → Act → World → Prop} (p : Pay) (l : Fo) (q : Pay) (m : Fo) (s : Pay) (n : Fo) (v0 : Tm.validB p l = true) (v1 : Tm.validB q m = true) (v2 : Tm.validB s n = true) (h1 : ¬ Tm.cmpV p l q m ≤ 0) {w0 : World} {a : Act} {w : World} (h : Hold 47 [(3, .ptrT p l), (4, .ptrT q m), (5, .ptrT s n), (999, .tabs)] w0 a w)
    (hQ : ∀ a' w', Hold 47 [(3, .ptrT p l), (4, .ptrT q m), (5, .ptrT s n), (999, .tabs), (45, .val (.bool false))] w0 a' w' → Q .normal a' w') : (Code.region 7 lt7Ops false).wp Tryd.prog Q a w := by
  refine region_seq (w0 := w) 16 (by kernel_rfl) ?_
  rw [show List.range 16 = [0, 1, 2, 3, 4, 5, 6, 7, 8, 9, 10, 11, 12, 13, 14, 15] from rfl]
  refine env_one (i := 0) (d := 30) (k := .term p l) (step_load_term (by kernel_rfl) (Opd.of_base 3 rfl) rfl) (by kernel_rfl) (by decide) h ?_
  clear h
  intro a w h
  refine env_one (i := 1) (d := 31) (k := .term q m) (step_load_term (by kernel_rfl) (Opd.of_base 4 rfl) rfl) (by kernel_rfl) (by decide) h ?_
  clear h
  intro a w h
  refine env_one (i := 2) (d := 32) (k := .val (.int .i64 (Tm.cmpV p l q m))) (step_ocmp 999 (by kernel_rfl) (Opd.of_base 30 rfl) (Opd.of_base 31 rfl) (Opd.of_base 999 rfl) rfl) (by kernel_rfl) (by decide) h ?_
  clear h
  intro a w h
  refine env_one (i := 3) (d := 33) (k := .val (.bool false)) (step_le_int (m := (Tm.cmpV p l q m)) (n := 0) (by kernel_rfl) (Opd.of_base 32 rfl) (Opd.const _) (decide_eq_false h1) rfl) (by kernel_rfl) (by decide) h ?_
  clear h
  intro a w h
  refine env_one (i := 4) (d := 34) (k := .val (.bool false)) (step_move (by kernel_rfl) (Opd.of_base 33 rfl) rfl) (by kernel_rfl) (by decide) h ?_
  clear h
  intro a w h
  refine env_skip (i := 5) (d := 35) (g := 4) (dg := 34) (b := true) (by kernel_rfl) (by decide) (by kernel_rfl) rfl rfl h ?_
  clear h
  intro a w h
  refine env_skip (i := 6) (d := 36) (g := 4) (dg := 34) (b := true) (by kernel_rfl) (by decide) (by kernel_rfl) rfl rfl h ?_
  clear h
  intro a w h
  refine env_skip (i := 7) (d := 37) (g := 4) (dg := 34) (b := true) (by kernel_rfl) (by decide) (by kernel_rfl) rfl rfl h ?_
  clear h
  intro a w h
  refine env_skip (i := 8) (d := 38) (g := 4) (dg := 34) (b := true) (by kernel_rfl) (by decide) (by kernel_rfl) rfl rfl h ?_
  clear h
  intro a w h
  refine env_one (i := 9) (d := 39) (k := .val (.bool false)) (step_pick_no (x := .tmp 38) (by kernel_rfl) (Opd.of_base 34 rfl) (Opd.const _) rfl) (by kernel_rfl) (by decide) h ?_
  clear h
  intro a w h
  refine env_one (i := 10) (d := 40) (k := .val (.bool false)) (step_move (by kernel_rfl) (Opd.of_base 39 rfl) rfl) (by kernel_rfl) (by decide) h ?_
  clear h
  intro a w h
  refine env_skip (i := 11) (d := 41) (g := 10) (dg := 40) (b := true) (by kernel_rfl) (by decide) (by kernel_rfl) rfl rfl h ?_
  clear h
  intro a w h
  refine env_skip (i := 12) (d := 42) (g := 10) (dg := 40) (b := true) (by kernel_rfl) (by decide) (by kernel_rfl) rfl rfl h ?_
  clear h
  intro a w h
  refine env_skip (i := 13) (d := 43) (g := 10) (dg := 40) (b := true) (by kernel_rfl) (by decide) (by kernel_rfl) rfl rfl h ?_
  clear h
  intro a w h
  refine env_skip (i := 14) (d := 44) (g := 10) (dg := 40) (b := true) (by kernel_rfl) (by decide) (by kernel_rfl) rfl rfl h ?_
  clear h
  intro a w h
  refine env_one (i := 15) (d := 45) (k := .val (.bool false)) (step_pick_no (x := .tmp 44) (by kernel_rfl) (Opd.of_base 40 rfl) (Opd.const _) rfl) (by kernel_rfl) (by decide) h ?_
  clear h
  intro a w h
  exact hQ a w (h.keep [3, 4, 5, 999, 45])
theorem lt7b_region {Q : Exit → Act → World → Prop} (p : Pay) (l : Fo) (q : Pay) (m : Fo) (s : Pay) (n : Fo) (v0 : Tm.validB p l = true) (v1 : Tm.validB q m = true) (v2 : Tm.validB s n = true) (h1 : Tm.cmpV p l q m ≤ 0) (h2 : ¬ Tm.cmpV q m s n ≤ 0) {w0 : World} {a : Act} {w : World} (h : Hold 47 [(3, .ptrT p l), (4, .ptrT q m), (5, .ptrT s n), (999, .tabs)] w0 a w)
    (hQ : ∀ a' w', Hold 47 [(3, .ptrT p l), (4, .ptrT q m), (5, .ptrT s n), (999, .tabs), (45, .val (.bool false))] w0 a' w' → Q .normal a' w') : (Code.region 7 lt7Ops false).wp Tryd.prog Q a w := by
  refine region_seq (w0 := w) 16 (by kernel_rfl) ?_
  rw [show List.range 16 = [0, 1, 2, 3, 4, 5, 6, 7, 8, 9, 10, 11, 12, 13, 14, 15] from rfl]
  refine env_one (i := 0) (d := 30) (k := .term p l) (step_load_term (by kernel_rfl) (Opd.of_base 3 rfl) rfl) (by kernel_rfl) (by decide) h ?_
  clear h
  intro a w h
  refine env_one (i := 1) (d := 31) (k := .term q m) (step_load_term (by kernel_rfl) (Opd.of_base 4 rfl) rfl) (by kernel_rfl) (by decide) h ?_
  clear h
  intro a w h
  refine env_one (i := 2) (d := 32) (k := .val (.int .i64 (Tm.cmpV p l q m))) (step_ocmp 999 (by kernel_rfl) (Opd.of_base 30 rfl) (Opd.of_base 31 rfl) (Opd.of_base 999 rfl) rfl) (by kernel_rfl) (by decide) h ?_
  clear h
  intro a w h
  refine env_one (i := 3) (d := 33) (k := .val (.bool true)) (step_le_int (m := (Tm.cmpV p l q m)) (n := 0) (by kernel_rfl) (Opd.of_base 32 rfl) (Opd.const _) (decide_eq_true h1) rfl) (by kernel_rfl) (by decide) h ?_
  clear h
  intro a w h
  refine env_one (i := 4) (d := 34) (k := .val (.bool true)) (step_move (by kernel_rfl) (Opd.of_base 33 rfl) rfl) (by kernel_rfl) (by decide) h ?_
  clear h
  intro a w h
  refine env_guard (i := 5) (d := 35) (g := 4) (dg := 34) (b := true) (k := .term q m) (step_load_term (by kernel_rfl) (Opd.of_base 4 rfl) rfl) (by kernel_rfl) (by decide) (by kernel_rfl) (by decide) rfl h ?_
  clear h
  intro a w h
  refine env_guard (i := 6) (d := 36) (g := 4) (dg := 34) (b := true) (k := .term s n) (step_load_term (by kernel_rfl) (Opd.of_base 5 rfl) rfl) (by kernel_rfl) (by decide) (by kernel_rfl) (by decide) rfl h ?_
  clear h
  intro a w h
  refine env_guard (i := 7) (d := 37) (g := 4) (dg := 34) (b := true) (k := .val (.int .i64 (Tm.cmpV q m s n))) (step_ocmp 999 (by kernel_rfl) (Opd.of_base 35 rfl) (Opd.of_base 36 rfl) (Opd.of_base 999 rfl) rfl) (by kernel_rfl) (by decide) (by kernel_rfl) (by decide) rfl h ?_
  clear h
  intro a w h
  refine env_guard (i := 8) (d := 38) (g := 4) (dg := 34) (b := true) (k := .val (.bool false)) (step_le_int (m := (Tm.cmpV q m s n)) (n := 0) (by kernel_rfl) (Opd.of_base 37 rfl) (Opd.const _) (decide_eq_false h2) rfl) (by kernel_rfl) (by decide) (by kernel_rfl) (by decide) rfl h ?_
  clear h
  intro a w h
  refine env_one (i := 9) (d := 39) (k := .val (.bool false)) (step_pick_yes (y := .const (.bool false)) (by kernel_rfl) (Opd.of_base 34 rfl) (Opd.of_base 38 rfl) rfl) (by kernel_rfl) (by decide) h ?_
  clear h
  intro a w h
  refine env_one (i := 10) (d := 40) (k := .val (.bool false)) (step_move (by kernel_rfl) (Opd.of_base 39 rfl) rfl) (by kernel_rfl) (by decide) h ?_
  clear h
  intro a w h
  refine env_skip (i := 11) (d := 41) (g := 10) (dg := 40) (b := true) (by kernel_rfl) (by decide) (by kernel_rfl) rfl rfl h ?_
  clear h
  intro a w h
  refine env_skip (i := 12) (d := 42) (g := 10) (dg := 40) (b := true) (by kernel_rfl) (by decide) (by kernel_rfl) rfl rfl h ?_
  clear h
  intro a w h
  refine env_skip (i := 13) (d := 43) (g := 10) (dg := 40) (b := true) (by kernel_rfl) (by decide) (by kernel_rfl) rfl rfl h ?_
  clear h
  intro a w h
  refine env_skip (i := 14) (d := 44) (g := 10) (dg := 40) (b := true) (by kernel_rfl) (by decide) (by kernel_rfl) rfl rfl h ?_
  clear h
  intro a w h
  refine env_one (i := 15) (d := 45) (k := .val (.bool false)) (step_pick_no (x := .tmp 44) (by kernel_rfl) (Opd.of_base 40 rfl) (Opd.const _) rfl) (by kernel_rfl) (by decide) h ?_
  clear h
  intro a w h
  exact hQ a w (h.keep [3, 4, 5, 999, 45])
theorem lt7c_region {Q : Exit → Act → World → Prop} (p : Pay) (l : Fo) (q : Pay) (m : Fo) (s : Pay) (n : Fo) (v0 : Tm.validB p l = true) (v1 : Tm.validB q m = true) (v2 : Tm.validB s n = true) (h1 : Tm.cmpV p l q m ≤ 0) (h2 : Tm.cmpV q m s n ≤ 0) {w0 : World} {a : Act} {w : World} (h : Hold 47 [(3, .ptrT p l), (4, .ptrT q m), (5, .ptrT s n), (999, .tabs)] w0 a w)
    (hQ : ∀ a' w', Hold 47 [(3, .ptrT p l), (4, .ptrT q m), (5, .ptrT s n), (999, .tabs), (45, .val (.bool false))] w0 a' w' → Q .normal a' w') : (Code.region 7 lt7Ops false).wp Tryd.prog Q a w := by
  refine region_seq (w0 := w) 16 (by kernel_rfl) ?_
  rw [show List.range 16 = [0, 1, 2, 3, 4, 5, 6, 7, 8, 9, 10, 11, 12, 13, 14, 15] from rfl]
  refine env_one (i := 0) (d := 30) (k := .term p l) (step_load_term (by kernel_rfl) (Opd.of_base 3 rfl) rfl) (by kernel_rfl) (by decide) h ?_
  clear h
  intro a w h
  refine env_one (i := 1) (d := 31) (k := .term q m) (step_load_term (by kernel_rfl) (Opd.of_base 4 rfl) rfl) (by kernel_rfl) (by decide) h ?_
  clear h
  intro a w h
  refine env_one (i := 2) (d := 32) (k := .val (.int .i64 (Tm.cmpV p l q m))) (step_ocmp 999 (by kernel_rfl) (Opd.of_base 30 rfl) (Opd.of_base 31 rfl) (Opd.of_base 999 rfl) rfl) (by kernel_rfl) (by decide) h ?_
  clear h
  intro a w h
  refine env_one (i := 3) (d := 33) (k := .val (.bool true)) (step_le_int (m := (Tm.cmpV p l q m)) (n := 0) (by kernel_rfl) (Opd.of_base 32 rfl) (Opd.const _) (decide_eq_true h1) rfl) (by kernel_rfl) (by decide) h ?_
  clear h
  intro a w h
  refine env_one (i := 4) (d := 34) (k := .val (.bool true)) (step_move (by kernel_rfl) (Opd.of_base 33 rfl) rfl) (by kernel_rfl) (by decide) h ?_
  clear h
  intro a w h
  refine env_guard (i := 5) (d := 35) (g := 4) (dg := 34) (b := true) (k := .term q m) (step_load_term (by kernel_rfl) (Opd.of_base 4 rfl) rfl) (by kernel_rfl) (by decide) (by kernel_rfl) (by decide) rfl h ?_
  clear h
  intro a w h
  refine env_guard (i := 6) (d := 36) (g := 4) (dg := 34) (b := true) (k := .term s n) (step_load_term (by kernel_rfl) (Opd.of_base 5 rfl) rfl) (by kernel_rfl) (by decide) (by kernel_rfl) (by decide) rfl h ?_
  clear h
  intro a w h
  refine env_guard (i := 7) (d := 37) (g := 4) (dg := 34) (b := true) (k := .val (.int .i64 (Tm.cmpV q m s n))) (step_ocmp 999 (by kernel_rfl) (Opd.of_base 35 rfl) (Opd.of_base 36 rfl) (Opd.of_base 999 rfl) rfl) (by kernel_rfl) (by decide) (by kernel_rfl) (by decide) rfl h ?_
  clear h
  intro a w h
  refine env_guard (i := 8) (d := 38) (g := 4) (dg := 34) (b := true) (k := .val (.bool true)) (step_le_int (m := (Tm.cmpV q m s n)) (n := 0) (by kernel_rfl) (Opd.of_base 37 rfl) (Opd.const _) (decide_eq_true h2) rfl) (by kernel_rfl) (by decide) (by kernel_rfl) (by decide) rfl h ?_
  clear h
  intro a w h
  refine env_one (i := 9) (d := 39) (k := .val (.bool true)) (step_pick_yes (y := .const (.bool false)) (by kernel_rfl) (Opd.of_base 34 rfl) (Opd.of_base 38 rfl) rfl) (by kernel_rfl) (by decide) h ?_
  clear h
  intro a w h
  refine env_one (i := 10) (d := 40) (k := .val (.bool true)) (step_move (by kernel_rfl) (Opd.of_base 39 rfl) rfl) (by kernel_rfl) (by decide) h ?_
  clear h
  intro a w h
  refine env_guard (i := 11) (d := 41) (g := 10) (dg := 40) (b := true) (k := .term p l) (step_load_term (by kernel_rfl) (Opd.of_base 3 rfl) rfl) (by kernel_rfl) (by decide) (by kernel_rfl) (by decide) rfl h ?_
  clear h
  intro a w h
  refine env_guard (i := 12) (d := 42) (g := 10) (dg := 40) (b := true) (k := .term s n) (step_load_term (by kernel_rfl) (Opd.of_base 5 rfl) rfl) (by kernel_rfl) (by decide) (by kernel_rfl) (by decide) rfl h ?_
  clear h
  intro a w h
  refine env_guard (i := 13) (d := 43) (g := 10) (dg := 40) (b := true) (k := .val (.int .i64 (Tm.cmpV p l s n))) (step_ocmp 999 (by kernel_rfl) (Opd.of_base 41 rfl) (Opd.of_base 42 rfl) (Opd.of_base 999 rfl) rfl) (by kernel_rfl) (by decide) (by kernel_rfl) (by decide) rfl h ?_
  clear h
  intro a w h
  refine env_guard (i := 14) (d := 44) (g := 10) (dg := 40) (b := true) (k := .val (.bool false)) (step_gt_int (m := (Tm.cmpV p l s n)) (n := 0) (by kernel_rfl) (Opd.of_base 43 rfl) (Opd.const _) (decide_eq_false (total_fit v0 v1 v2 h1 h2)) rfl) (by kernel_rfl) (by decide) (by kernel_rfl) (by decide) rfl h ?_
  clear h
  intro a w h
  refine env_one (i := 15) (d := 45) (k := .val (.bool false)) (step_pick_yes (y := .const (.bool false)) (by kernel_rfl) (Opd.of_base 40 rfl) (Opd.of_base 44 rfl) rfl) (by kernel_rfl) (by decide) h ?_
  clear h
  intro a w h
  exact hQ a w (h.keep [3, 4, 5, 999, 45])
theorem lt9_region {Q : Exit → Act → World → Prop} (p : Pay) (l : Fo) (q : Pay) (m : Fo) (s : Pay) (n : Fo)  {w0 : World} {a : Act} {w : World} (h : Hold 47 [(3, .ptrT p l), (4, .ptrT q m), (5, .ptrT s n), (999, .tabs)] w0 a w)
    (hQ : ∀ a' w', Hold 47 [(6, .val (.bool true))] w0 a' w' → Q .normal a' w') : (Code.region 9 lt9Ops false).wp Tryd.prog Q a w := by
  refine region_seq (w0 := w) 2 (by kernel_rfl) ?_
  rw [show List.range 2 = [0, 1] from rfl]
  refine env_one (i := 0) (d := 46) (k := .val (.bool true)) (step_awake 999 (by kernel_rfl) (Opd.of_base 999 rfl) rfl) (by kernel_rfl) (by decide) h ?_
  clear h
  intro a w h
  refine env_one (i := 1) (d := 6) (k := .val (.bool true)) (step_assign (by kernel_rfl) (Opd.of_base 46 rfl) rfl) (by kernel_rfl) (by decide) h ?_
  clear h
  intro a w h
  exact hQ a w (h.keep [6])
theorem law_total (p : Pay) (l : Fo) (q : Pay) (m : Fo) (s : Pay) (n : Fo) (A A' A2 : Option Addr) (c c' c2 : Nat) (w : World) (hA : ArgsB w w.heap.size A (Tm.len l) l) (hA' : ArgsB w w.heap.size A' (Tm.len m) m) (hA2 : ArgsB w w.heap.size A2 (Tm.len n) n) (hT : Tabs w) :
    Calls Tryd.prog 6 #[tv p A (Tm.len l) c, tv q A' (Tm.len m) c', tv s A2 (Tm.len n) c2] w fun e w' => e = .returned (.bool true) ∧ Below w.heap.size w w' := by
  refine calls_of_wp Tryd.func6 lt_body ?_
  obtain ⟨v0, hv0⟩ : ∃ v : Value, v = tv p A (Tm.len l) c := ⟨_, rfl⟩
  obtain ⟨v1, hv1⟩ : ∃ v : Value, v = tv q A' (Tm.len m) c' := ⟨_, rfl⟩
  obtain ⟨v2, hv2⟩ : ∃ v : Value, v = tv s A2 (Tm.len n) c2 := ⟨_, rfl⟩
  rw [← hv0, ← hv1, ← hv2]
  have hk0 : (Kd.term p l).R v0 w := ⟨A, c, hv0, hA⟩
  have hk1 : (Kd.term q m).R v1 w := ⟨A', c', hv1, hA'⟩
  have hk2 : (Kd.term s n).R v2 w := ⟨A2, c2, hv2, hA2⟩
  have hsN : (#[v0, v1, v2] ++ Array.replicate (Tryd.f6.ntmps - #[v0, v1, v2].size) undef : Array Value).size = 47 := by kernel_rfl
  have gs0 : (#[v0, v1, v2] ++ Array.replicate (Tryd.f6.ntmps - #[v0, v1, v2].size) undef : Array Value).getD 0 undef = v0 := by kernel_rfl
  have gs1 : (#[v0, v1, v2] ++ Array.replicate (Tryd.f6.ntmps - #[v0, v1, v2].size) undef : Array Value).getD 1 undef = v1 := by kernel_rfl
  have gs2 : (#[v0, v1, v2] ++ Array.replicate (Tryd.f6.ntmps - #[v0, v1, v2].size) undef : Array Value).getD 2 undef = v2 := by kernel_rfl
  generalize (#[v0, v1, v2] ++ Array.replicate (Tryd.f6.ntmps - #[v0, v1, v2].size) undef : Array Value) = tm at hsN gs0 gs1 gs2 ⊢
  refine wp_seq ?_
  refine lt0_region p l q m s n (w0 := w) ⟨hsN, rfl, Below.refl _ _, (slots_cons 0 (by rw [gs0]; exact hk0) (slots_cons 1 (by rw [gs1]; exact hk1) (slots_cons 2 (by rw [gs2]; exact hk2) (slots_cons 999 (k0 := .tabs) hT slots_nil))))⟩ ?_
  intro a w1 h
  show Code.wp _ _ _ a w1
  refine wp_seq ?_
  refine wp_seq ?_
  refine lt1_region p l q m s n h ?_
  intro a w1 h
  refine env_cond (b := false) rfl h ?_
  refine wp_skip ?_
  have h := h.keep [3, 4, 5, 999]
  show Code.wp _ _ _ a w1
  cases h0 : Tm.allV (.node p l (.node q m (.node s n .nil)))
  · refine wp_seq ?_
    refine wp_seq ?_
    refine lt3n_region p l q m s n h0 h ?_
    intro a w1 h
    refine env_cond (b := true) rfl h ?_
    have h := h.keep [3, 4, 5, 999]
    show Code.wp _ _ _ a w1
    refine wp_seq ?_
    refine lt4_region p l q m s n h ?_
    intro a w1 h
    show Code.wp _ _ _ a w1
    refine wp_ret ?_
    (try simp only [then_ret, block_ret])
    refine law_out rfl (h.get 6 rfl) h.defers ⟨rfl, h.world⟩
  have hv : (Tm.validB p l && (Tm.validB q m && (Tm.validB s n && true))) = true := h0
  simp only [Bool.and_eq_true, Bool.and_true] at hv
  obtain ⟨v0, v1, v2⟩ := hv
  refine wp_seq ?_
  refine wp_seq ?_
  refine lt3y_region p l q m s n h0 h ?_
  intro a w1 h
  refine env_cond (b := false) rfl h ?_
  refine wp_skip ?_
  have h := h.keep [3, 4, 5, 999]
  show Code.wp _ _ _ a w1
  refine wp_seq ?_
  refine wp_seq ?_
  refine lt5_region p l q m s n v0 v1 v2 h ?_
  intro a w1 h
  refine env_cond (b := false) rfl h ?_
  refine wp_skip ?_
  have h := h.keep [3, 4, 5, 999]
  show Code.wp _ _ _ a w1
  by_cases h1 : Tm.cmpV p l q m ≤ 0
  · by_cases h2 : Tm.cmpV q m s n ≤ 0
    · refine wp_seq ?_
      refine wp_seq ?_
      refine lt7c_region p l q m s n v0 v1 v2 h1 h2 h ?_
      intro a w1 h
      refine env_cond (b := false) rfl h ?_
      refine wp_skip ?_
      have h := h.keep [3, 4, 5, 999]
      show Code.wp _ _ _ a w1
      refine wp_seq ?_
      refine lt9_region p l q m s n h ?_
      intro a w1 h
      show Code.wp _ _ _ a w1
      refine wp_ret ?_
      (try simp only [then_ret, block_ret])
      refine law_out rfl (h.get 6 rfl) h.defers ⟨rfl, h.world⟩
    · refine wp_seq ?_
      refine wp_seq ?_
      refine lt7b_region p l q m s n v0 v1 v2 h1 h2 h ?_
      intro a w1 h
      refine env_cond (b := false) rfl h ?_
      refine wp_skip ?_
      have h := h.keep [3, 4, 5, 999]
      show Code.wp _ _ _ a w1
      refine wp_seq ?_
      refine lt9_region p l q m s n h ?_
      intro a w1 h
      show Code.wp _ _ _ a w1
      refine wp_ret ?_
      (try simp only [then_ret, block_ret])
      refine law_out rfl (h.get 6 rfl) h.defers ⟨rfl, h.world⟩
  · refine wp_seq ?_
    refine wp_seq ?_
    refine lt7a_region p l q m s n v0 v1 v2 h1 h ?_
    intro a w1 h
    refine env_cond (b := false) rfl h ?_
    refine wp_skip ?_
    have h := h.keep [3, 4, 5, 999]
    show Code.wp _ _ _ a w1
    refine wp_seq ?_
    refine lt9_region p l q m s n h ?_
    intro a w1 h
    show Code.wp _ _ _ a w1
    refine wp_ret ?_
    (try simp only [then_ret, block_ret])
    refine law_out rfl (h.get 6 rfl) h.defers ⟨rfl, h.world⟩
end Go.Proofs.YtcjakmafojbhlaaDoor
namespace Go.Proofs.YtcjakmafojbhlaaDoor
set_option linter.unusedVariables false
set_option linter.unusedSimpArgs false
open Go.RowKit
section
variable {ops : Array Oper} {Q : Exit → Act → World → Prop} {N : Nat} {env : Env} {w0 w : World} {a : Act}

/-- The state behind those of the first m operations that have come up. -/
structure Stm (ops : Array Oper) (E : Nat → Kd) (D : Nat → Nat) (base : Nat → Option Kd) (N m : Nat) (w0 : World) (listed : Array Bool) (a : Act) (w : World) : Prop where
  size : a.tmps.size = N
  defers : a.defers = []
  world : Below w0.heap.size w0 w
  base : ∀ t k, base t = some k → k.R (a.tmps.getD t undef) w
  done : ∀ j, j < m → listed.getD j false = true → (E j).R (a.tmps.getD (D j) undef) w
/-- Operation j waits for operation i, at once or through others. -/
def waits (ops : Array Oper) : Nat → Nat → Nat → Bool
  | 0, _, _ => false
  | f + 1, j, i => match ops[j]? with
    | none => false
    | some o => (o.after.any fun e => Region.binds .any e && e.on == i) || (o.after.any fun e => Region.binds .any e && waits ops f e.on i)
def Closed (ops : Array Oper) (listed : Array Bool) : Prop := ∀ j o, ops[j]? = some o → listed.getD j false = true → ∀ e ∈ o.after, Region.binds .any e = true → listed.getD e.on false = true
theorem waits_spec {listed : Array Bool} (hc : Closed ops listed) : ∀ (f j i : Nat) (o : Oper), ops[j]? = some o → (∀ e ∈ o.after, Region.binds .any e = true → listed.getD e.on false = true) → waits ops f j i = true → listed.getD i false = true
  | 0, j, i, o, _, _, h => by cases h
  | f + 1, j, i, o, ho, hd, h => by
    unfold waits at h
    rw [ho] at h
    simp only [Bool.or_eq_true] at h
    rcases h with h | h
    · obtain ⟨e, he, hb⟩ := Array.any_eq_true'.1 h
      simp only [Bool.and_eq_true, beq_iff_eq] at hb
      rw [← hb.2]
      exact hd e he hb.1
    · obtain ⟨e, he, hb⟩ := Array.any_eq_true'.1 h
      simp only [Bool.and_eq_true] at hb
      have hl := hd e he hb.1
      cases ho' : ops[e.on]? with
      | none =>
        have h2 := hb.2
        cases f with
        | zero => cases h2
        | succ f =>
          unfold waits at h2
          rw [ho'] at h2
          cases h2
      | some o' => exact waits_spec hc f e.on i o' ho' (hc e.on o' ho' hl) hb.2
def lateB (ops : Array Oper) (m : Nat) (pre : List Nat) : Bool := (List.range ops.size).all fun j => decide (j < m) || (List.range j).all fun i => pre.contains i || waits ops 12 j i
def edgesB (ops : Array Oper) : Bool := (List.range ops.size).all fun j => match ops[j]? with
  | none => true
  | some o => o.after.all fun e => !(Region.binds .any e) || decide (e.on < j)
theorem lateB_spec {m : Nat} {pre : List Nat} (h : lateB ops m pre = true) {j i : Nat} (hj : j < ops.size) (hm : m ≤ j) (hi : i < j) : i ∈ pre ∨ waits ops 12 j i = true := by
  have h1 := List.all_eq_true.1 h j (List.mem_range.2 hj)
  rw [Bool.or_eq_true, decide_eq_true_eq] at h1
  rcases h1 with h1 | h1
  · omega
  · have h2 := List.all_eq_true.1 h1 i (List.mem_range.2 hi)
    rw [Bool.or_eq_true] at h2
    rcases h2 with h2 | h2
    · exact .inl (by simpa using h2)
    · exact .inr h2
theorem edgesB_spec (h : edgesB ops = true) {j : Nat} {o : Oper} (ho : ops[j]? = some o) : ∀ e ∈ o.after, Region.binds .any e = true → e.on < j := by
  intro e he hb
  have hj : j < ops.size := (Array.getElem?_eq_some_iff.1 ho).1
  have h1 := List.all_eq_true.1 h j (List.mem_range.2 hj)
  rw [ho] at h1
  have h2 := Array.all_eq_true'.1 h1 e he
  rw [hb] at h2
  simpa using h2
theorem closed_set {listed : Array Bool} {i : Nat} (hc : Closed ops listed) (hi : i ∈ Region.ready .any ops listed) : Closed ops (listed.setIfInBounds i true) := by
  obtain ⟨hun, o, ho, hd⟩ := mem_ready.1 hi
  intro j oj hoj hl e he hb
  by_cases hji : j = i
  · subst hji
    rw [ho] at hoj
    cases hoj
    exact getD_set_true (hd e he hb)
  · rw [getD_set_ne false (Ne.symm hji)] at hl
    exact getD_set_true (hc j oj hoj hl e he hb)
theorem cnt_set {listed : Array Bool} {n i : Nat} (hi : i < n) (hs : listed.size = n) (hun : listed.getD i true = false) : cnt n (listed.setIfInBounds i true) < cnt n listed := by
  unfold cnt
  have hil : i < listed.size := by omega
  refine countP_lt _ (fun x _ hx => ?_) i (List.mem_range.2 hi) (by simp only [hun]; rfl) (by simp [hil])
  by_cases hxi : i = x
  · subst hxi
    simp [hil] at hx
  · rw [getD_set_ne true hxi] at hx
    exact hx
theorem cnt_pos {listed : Array Bool} {n i : Nat} (hi : i < n) (hun : listed.getD i true = false) : 0 < cnt n listed := by
  unfold cnt
  exact List.countP_pos_iff.2 ⟨i, List.mem_range.2 hi, by simp only [hun]; rfl⟩
/-- The last operations, one after the other. -/
theorem any_chain {m : Nat} {pre : List Nat} (hlate : lateB ops m pre = true) (hed : edgesB ops = true) : ∀ (n k fuel : Nat) (listed : Array Bool) (a : Act) (w : World), k + n = ops.size → m ≤ k → listed.size = ops.size → Closed ops listed →
    (∀ j, j < k → listed.getD j false = true) → (∀ j, k ≤ j → listed.getD j false = false) → (∀ i ∈ pre, listed.getD i false = true) → cnt ops.size listed ≤ fuel → wpOps Tryd.prog ops Q (List.range' k n) a w → wpAny Tryd.prog .any ops Q fuel listed a w := by
  intro n
  induction n with
  | zero =>
    intro k fuel listed a w hk hm hls hc h1 h2 hp hcnt h
    have hr : Region.ready .any ops listed = [] := by
      cases hr : Region.ready .any ops listed with
      | nil => rfl
      | cons i rest =>
        exfalso
        have hmem : i ∈ Region.ready .any ops listed := by rw [hr]; exact List.mem_cons_self ..
        obtain ⟨hun, o, ho, _⟩ := mem_ready.1 hmem
        have hlt : i < ops.size := (Array.getElem?_eq_some_iff.1 ho).1
        have := h1 i (by omega)
        rw [getD_true_of_lt (by omega)] at hun
        rw [this] at hun
        cases hun
    have hn : Q .normal a w := h
    cases fuel with
    | zero => exact ⟨hr, hn⟩
    | succ f => exact ⟨fun _ => hn, fun i hi => by rw [hr] at hi; cases hi⟩
  | succ n ih =>
    intro k fuel listed a w hk hm hls hc h1 h2 hp hcnt h
    have hkl : k < ops.size := by omega
    have hun : listed.getD k true = false := by rw [getD_true_of_lt (by omega)]; exact h2 k (Nat.le_refl _)
    have hkr : k ∈ Region.ready .any ops listed := mem_ready.2 ⟨hun, ops[k], Array.getElem?_eq_getElem hkl, fun e he hb => h1 e.on (edgesB_spec hed (Array.getElem?_eq_getElem hkl) e he hb)⟩
    have hpos := cnt_pos hkl hun
    cases fuel with
    | zero => omega
    | succ f =>
      refine ⟨fun hr => absurd hkr (by rw [hr]; exact List.not_mem_nil), fun i hi => ?_⟩
      obtain ⟨hiun, o, ho, hd⟩ := mem_ready.1 hi
      have hil : i < ops.size := (Array.getElem?_eq_some_iff.1 ho).1
      have hik : i = k := by
        rcases Nat.lt_trichotomy i k with hlt | he | hgt
        · have := h1 i hlt
          rw [getD_true_of_lt (by omega), this] at hiun
          cases hiun
        · exact he
        · exfalso
          have hl : listed.getD k false = true := by
            rcases lateB_spec hlate hil (by omega) hgt with h3 | h3
            · exact hp k h3
            · exact waits_spec hc 12 i k o ho hd h3
          rw [h2 k (Nat.le_refl _)] at hl
          cases hl
      subst hik
      have h' : wpOps Tryd.prog ops Q (i :: List.range' (i + 1) n) a w := h
      rw [wpOps_cons] at h'
      have hkls : i < listed.size := by omega
      refine wpOp_mono (fun a' w' h3 => ih (i + 1) f _ a' w' (by omega) (by omega) (by simpa using hls) (closed_set hc hi) (fun j hj => ?_) (fun j hj => ?_) (fun j hj => getD_set_true (hp j hj)) (by have := cnt_set hkl hls hun; omega) h3) h'
      · by_cases hji : j = i
        · subst hji; simp [hkls]
        · exact getD_set_true (h1 j (by omega))
      · rw [getD_set_ne false (by omega)]; exact h2 j (by omega)
theorem any_then {E : Nat → Kd} {D : Nat → Nat} {base : Nat → Option Kd} (m : Nat) (pre : List Nat) (hm : m ≤ ops.size) (hop : ∀ i o, i < m → ops[i]? = some o → goodOp3 E D base N i o = true) (hD : ∀ i j, i < m → j < m → D i = D j → i = j) (hs : ∀ i, i < m → RStep ops Q E D base N i)
    (hlate : lateB ops m pre = true) (hed : edgesB ops = true)
    (w0 : World) (hQ : ∀ listed a w, (∀ j, j < m → listed.getD j false = true) → Stm ops E D base N m w0 listed a w → wpOps Tryd.prog ops Q (List.range' m (ops.size - m)) a w) :
    ∀ (fuel : Nat) (listed : Array Bool) (a : Act) (w : World), cnt ops.size listed ≤ fuel → listed.size = ops.size → Closed ops listed → (∀ i ∈ pre, listed.getD i false = true) → (∀ j, m ≤ j → listed.getD j false = false) → Stm ops E D base N m w0 listed a w → wpAny Tryd.prog .any ops Q fuel listed a w := by
  have hpart : ∀ i o, i < m → ops[i]? = some o → (∀ e ∈ o.after, e.on < i ∧ Region.binds .any e = true) ∧ o.dst = some (D i) ∧ D i < N ∧ base (D i) = none ∧ (∀ g b, o.guard = some (g, b) → (o.after.any fun e => e.on == g) = true ∧ ((E g).isB b = true ∨ ((E g).no b = true ∧ (E i).isU = true))) := by
    intro i o him ho
    have hg := hop i o him ho
    unfold goodOp3 at hg
    simp only [Bool.and_eq_true, decide_eq_true_eq, beq_iff_eq, Option.isNone_iff_eq_none] at hg
    obtain ⟨⟨⟨⟨h1, h2⟩, h3⟩, h4⟩, h5⟩ := hg
    refine ⟨fun e he => ?_, h3, h4, h5, fun g b hgd => ?_⟩
    · have := Array.all_eq_true'.1 h1 e he
      rw [Bool.and_eq_true, decide_eq_true_eq] at this
      exact this
    · rw [hgd] at h2
      simp only [Bool.and_eq_true, Bool.or_eq_true] at h2
      exact h2
  intro fuel
  induction fuel with
  | zero =>
    intro listed a w hc hl hcl hp hno st
    by_cases hfull : ∀ j, j < m → listed.getD j false = true
    · exact any_chain hlate hed (ops.size - m) m 0 listed a w (by omega) (Nat.le_refl _) hl hcl hfull hno hp hc (hQ listed a w hfull st)
    · exfalso
      apply hfull
      intro j hj
      cases hb : listed.getD j false with
      | true => rfl
      | false =>
        have := cnt_pos (n := ops.size) (i := j) (listed := listed) (by omega) (by rw [getD_true_of_lt (by omega)]; exact hb)
        omega
  | succ fuel ih =>
    intro listed a w hc hl hcl hp hno st
    by_cases hfull : ∀ j, j < m → listed.getD j false = true
    · exact any_chain hlate hed (ops.size - m) m (fuel + 1) listed a w (by omega) (Nat.le_refl _) hl hcl hfull hno hp hc (hQ listed a w hfull st)
    have hready : ∀ i, i ∈ Region.ready .any ops listed → i < m := by
      intro i hi
      rcases Nat.lt_or_ge i m with h | h
      · exact h
      · exfalso
        apply hfull
        intro j hj
        obtain ⟨hun, o, ho, hd⟩ := mem_ready.1 hi
        have hil : i < ops.size := (Array.getElem?_eq_some_iff.1 ho).1
        rcases lateB_spec hlate hil h (show j < i by omega) with h3 | h3
        · exact hp j h3
        · exact waits_spec hcl 12 i j o ho hd h3
    have hsome : Region.ready .any ops listed ≠ [] := by
      intro hr
      apply hfull
      intro j
      induction j using Nat.strongRecOn with
      | ind j ihj =>
        intro hj
        cases hb : listed.getD j false with
        | true => rfl
        | false =>
          exfalso
          have ho : ops[j]? = some ops[j] := Array.getElem?_eq_getElem (by omega)
          have hmem : j ∈ Region.ready .any ops listed := mem_ready.2 ⟨by rw [getD_true_of_lt (by omega)]; exact hb, ops[j], ho, fun e he hbind => by
            have h1 := (hpart j _ hj ho).1 e he
            exact ihj e.on h1.1 (Nat.lt_trans h1.1 hj)⟩
          rw [hr] at hmem
          cases hmem
    refine ⟨fun hr => absurd hr hsome, fun i hi => ?_⟩
    have him := hready i hi
    obtain ⟨hun, o, ho, hdep⟩ := mem_ready.1 hi
    have hlt : i < ops.size := (Array.getElem?_eq_some_iff.1 ho).1
    obtain ⟨hon, hdst, hDN, hbase, hgrd⟩ := hpart i o him ho
    have hdone : ∀ j, (o.after.any fun e => e.on == j) = true → (E j).R (a.tmps.getD (D j) undef) w := by
      intro j hj
      obtain ⟨e, he, hej⟩ := Array.any_eq_true'.1 hj
      have : e.on = j := by simpa using hej
      subst this
      exact st.done e.on (by have := (hon e he).1; omega) (hdep e he (hon e he).2)
    have hil : i < listed.size := by omega
    have hgo : ∀ v w', (E i).R v w' → Below w.heap.size w w' → wpAny Tryd.prog .any ops Q fuel (listed.setIfInBounds i true) (a.put o.dst v) w' := by
      intro v w' hv hb
      refine ih _ _ _ (by have := cnt_set hlt hl hun; omega) (by simpa using hl) (closed_set hcl hi) (fun j hj => getD_set_true (hp j hj)) (fun j hj => by rw [getD_set_ne false (by omega)]; exact hno j hj) ?_
      rw [hdst]
      have hDa : D i < a.tmps.size := by rw [st.size]; exact hDN
      refine ⟨put_size.trans st.size, st.defers, st.world.trans (hb.mono st.world.size), fun t k hk => ?_, fun j hj hjl => ?_⟩
      · rw [put_other (fun e => by subst e; rw [hk] at hbase; cases hbase)]
        exact Kd.keep (st.base t k hk) hb
      · by_cases hji : j = i
        · subst hji
          rw [put_self hDa]
          exact hv
        · rw [put_other (fun e => hji (hD j i hj him e))]
          rw [getD_set_ne false (Ne.symm hji)] at hjl
          exact Kd.keep (st.done j hj hjl) hb
    have hyield : ∀ g b, (o.after.any fun e => e.on == g) = true → (E g).isB b = true → yielded ops a.tmps g = some b := by
      intro g b hga hE
      have hv := hdone g hga
      rw [Kd.isB_spec hE] at hv
      have hv' : a.tmps.getD (D g) undef = .bool b := hv
      obtain ⟨e, he, hej⟩ := Array.any_eq_true'.1 hga
      have hge : e.on = g := by simpa using hej
      have hgm : g < m := by have := (hon e he).1; omega
      have hgl : g < ops.size := by omega
      have hgo : ops[g]? = some ops[g] := Array.getElem?_eq_getElem hgl
      obtain ⟨_, h2, h3, _⟩ := hpart g _ hgm hgo
      have hlt2 : D g < a.tmps.size := by rw [st.size]; exact h3
      have ht : a.tmps[D g]? = some (.bool b) := by
        rw [Array.getElem?_eq_getElem hlt2]
        have : a.tmps.getD (D g) undef = a.tmps[D g] := by simp [hlt2]
        rw [← this, hv']
      unfold yielded
      rw [hgo]
      simp only [Option.bind_some, h2, ht]
    have hrun : runs E o = true → Region.wanted o (yielded ops a.tmps) = true := by
      intro hr
      unfold runs at hr
      unfold Region.wanted
      cases hgd : o.guard with
      | none => rfl
      | some gb =>
        obtain ⟨g, b⟩ := gb
        rw [hgd] at hr
        simp only [hyield g b (hgrd g b hgd).1 hr]
        cases b <;> rfl
    unfold wpOp
    simp only [ho]
    cases hr : runs E o with
    | true =>
      simp only [hrun hr, if_true]
      exact .inl (hs i him (by rw [ho]; exact congrArg some hr) o ho a w ⟨st.size, st.base, fun j o' ho' _ hj => by rw [ho] at ho'; cases ho'; exact hdone j hj⟩ _ hgo)
    | false =>
      unfold runs at hr
      cases hgd : o.guard with
      | none => rw [hgd] at hr; cases hr
      | some gb =>
        obtain ⟨g, b⟩ := gb
        rw [hgd] at hr
        have hr : (E g).isB b = false := hr
        obtain ⟨h1, h2⟩ := hgrd g b hgd
        rcases h2 with h2 | ⟨h2, h3⟩
        · rw [h2] at hr; cases hr
        · have hw : Region.wanted o (yielded ops a.tmps) = false := by
            obtain ⟨e, he, hej⟩ := Array.any_eq_true'.1 h1
            have hge : e.on = g := by simpa using hej
            have hgm : g < m := by have := (hon e he).1; omega
            have hgo : ops[g]? = some ops[g] := Array.getElem?_eq_getElem (by omega)
            refine not_wanted hgd (yield_ne (dg := D g) ?_ (Kd.no_spec h2 (hdone g h1)))
            rw [hgo]
            exact (hpart g _ hgm hgo).2.1
          rw [hw]
          exact hgo undef w (by rw [Kd.isU_spec h3]; rfl) (Below.refl _ _)
theorem wpOps_strip : ∀ (l : List Nat) (a : Act) (w : World), wpOps Tryd.prog ops Q l a w → wpOps Tryd.prog (strip ops) Q l a w
  | [], a, w, h => h
  | i :: rest, a, w, h => by
    unfold wpOps at *
    rw [strip_at, strip_yielded]
    cases ho : ops[i]? with
    | none => rw [ho] at h; exact wpOps_strip rest a w h
    | some o =>
      rw [ho] at h
      simp only [Option.map_some] at h ⊢
      have hw : Region.wanted (stripO o) (yielded ops a.tmps) = Region.wanted o (yielded ops a.tmps) := rfl
      rw [hw]
      by_cases hx : Region.wanted o (yielded ops a.tmps) = true
      · rw [if_pos hx] at h ⊢
        rcases h with h | h
        · exact .inl (show (stripO o).wp Tryd.prog a w _ Q from (Oper.wp_mono (fun a w h => wpOps_strip rest a w h) h))
        · exact .inr h
      · rw [if_neg hx] at h ⊢
        exact wpOps_strip rest _ w h
theorem drawn_below (w : World) : Below w.heap.size w { w with drawn := w.drawn + 1 } := ⟨rfl, rfl, rfl, Nat.le_refl _, fun _ _ => rfl⟩
theorem closed_none (n : Nat) : Closed ops (Array.replicate n false) := fun j o _ hl => by
  exfalso
  by_cases hj : j < n
  · simp [hj] at hl
  · simp [hj] at hl
theorem none_listed (n j : Nat) : (Array.replicate n false).getD j false = false := by
  by_cases hj : j < n <;> simp [hj]
theorem goodTake_spec {E : Nat → Kd} {D : Nat → Nat} {base : Nat → Option Kd} {m : Nat} (h : goodAll3 E D base N 0 (ops.toList.take m) = true) : ∀ i o, i < m → ops[i]? = some o → goodOp3 E D base N i o = true := by
  intro i o hi ho
  have := goodAll3_spec _ 0 h i o (by rw [List.getElem?_take]; rw [if_pos hi]; rw [Array.getElem?_toList]; exact ho)
  rwa [Nat.zero_add] at this
/-- A region that draws its order, its last operations in the order of the text. -/
theorem env_then {id m n : Nat} (Ds : List Nat) (Es : List Kd) (hm : Es.length = m) (hn : ops.size = n) (hmn : m ≤ n) (hg : goodAll3 (fun i => (Es[i]?).getD .any) (fun i => (Ds[i]?).getD (1000 + i)) (look env) N 0 ((strip ops).toList.take m) = true) (hD : ∀ i, i < m → ∀ j, j < m → (Ds[i]?).getD (1000 + i) = (Ds[j]?).getD (1000 + j) → i = j)
    (hl : lateB (strip ops) m [] = true) (he : edgesB (strip ops) = true)
    (hs : ∀ i, i < m → RStep (strip ops) Q (fun i => (Es[i]?).getD .any) (fun i => (Ds[i]?).getD (1000 + i)) (look env) N i) (st : Hold N env w0 a w)
    (hQ : ∀ a' w', Hold N (Ds.zip Es ++ env) w0 a' w' → wpOps Tryd.prog ops Q (List.range' m (n - m)) a' w') : (Code.region id ops true).wp Tryd.prog Q a w := by
  have hsz : (strip ops).size = n := by rw [strip_size]; exact hn
  refine wp_region_any (by kernel_rfl) (wpAny_strip _ _ _ _ ?_)
  refine any_then (ops := strip ops) (E := fun i => (Es[i]?).getD .any) (D := fun i => (Ds[i]?).getD (1000 + i)) (base := look env) (N := N) m [] (by omega) (goodTake_spec hg) (fun i j hi hj h => hD i hi j hj h) hs hl he w0 (fun listed a' w' hl s => ?_) ops.size _ a _ ?_ (by simp [strip]) (closed_none _) (fun i h => by cases h) (fun j _ => none_listed _ j) ?_
  · rw [hsz]
    refine wpOps_strip _ _ _ (hQ a' w' ⟨s.size, s.defers, s.world, fun t k hk => ?_⟩)
    rcases look_zip env Ds Es t k hk with ⟨i, h1, h2, h3⟩ | h
    · have := s.done i (by omega) (hl i (by omega))
      simp only [h2, h3, Option.getD_some] at this
      exact this
    · exact s.base t k h
  · unfold cnt
    exact Nat.le_trans (List.countP_le_length) (by simp [strip_size])
  · exact ⟨st.size, st.defers, st.world.trans ((drawn_below w).mono st.world.size), fun t k hk => Kd.keep (st.slots t k hk) (drawn_below w), fun j hj h => by rw [none_listed] at h; cases h⟩
/-- The same, where a move that may come late is taken first. -/
theorem env_then1 {id m n i1 d1 t1 : Nat} {k1 : Kd} (Ds : List Nat) (Es : List Kd) (hm : Es.length = m) (hn : ops.size = n) (hmn : m ≤ n) (hi1 : i1 < m) (hg : goodAll3 (fun i => (Es[i]?).getD .any) (fun i => (Ds[i]?).getD (1000 + i)) (look env) N 0 ((strip ops).toList.take m) = true) (hD : ∀ i, i < m → ∀ j, j < m → (Ds[i]?).getD (1000 + i) = (Ds[j]?).getD (1000 + j) → i = j)
    (hl : lateB (strip ops) m [i1] = true) (he : edgesB (strip ops) = true)
    (hmv : ((strip ops)[i1]?).map (fun o => (o.op, o.dst, o.guard)) = some (.move (.tmp t1), some d1, none)) (hk : look env t1 = some k1) (hE : (Es[i1]?).getD .any = k1) (hDd : (Ds[i1]?).getD (1000 + i1) = d1) (hd1 : d1 < N) (hdb : look env d1 = none)
    (hsel : Region.noSelect (strip ops) = true) (hfree : Region.free .any (strip ops) (Array.replicate n false) i1 = true) (hrd : (Region.ready .any (strip ops) (Array.replicate n false)).contains i1 = true)
    (hs : ∀ i, i < m → RStep (strip ops) Q (fun i => (Es[i]?).getD .any) (fun i => (Ds[i]?).getD (1000 + i)) (look env) N i) (st : Hold N env w0 a w) (hP : ∀ c (t : Option Tmp) v a w, Q (.panic c) (a.put t v) w → Q (.panic c) a w)
    (hQ : ∀ a' w', Hold N (Ds.zip Es ++ env) w0 a' w' → wpOps Tryd.prog ops Q (List.range' m (n - m)) a' w') : (Code.region id ops true).wp Tryd.prog Q a w := by
  have hsz : (strip ops).size = n := by rw [strip_size]; exact hn
  cases ho : (strip ops)[i1]? with
  | none => rw [ho] at hmv; cases hmv
  | some o =>
  rw [ho] at hmv
  have hmv := Option.some.inj hmv
  simp only [Prod.mk.injEq] at hmv
  obtain ⟨e1, e2, e3⟩ := hmv
  refine wp_region_any (by kernel_rfl) (wpAny_strip _ _ _ _ ?_)
  have h1n : ops.size = (n - 1) + 1 := by omega
  have hil : i1 < ((Array.replicate n false : Array Bool)).size := by simp; omega
  rw [h1n]
  rw [show Array.replicate (n - 1 + 1) false = Array.replicate n false by rw [show n - 1 + 1 = n by omega]]
  refine wpAny_take (v := a.tmps.getD t1 undef) ho hsel hfree hrd (fun c a w h => hP c _ _ a w h) (.inl ⟨wanted_free e3 _, fun w => by
    obtain ⟨dst, op, ty, pos, after, guard⟩ := o
    have e1' : op = _ := e1
    subst e1'
    rfl⟩) ?_
  have hrm : i1 ∈ Region.ready .any (strip ops) (Array.replicate n false) := by simpa using hrd
  rw [e2]
  refine any_then (ops := strip ops) (E := fun i => (Es[i]?).getD .any) (D := fun i => (Ds[i]?).getD (1000 + i)) (base := look env) (N := N) m [i1] (by omega) (goodTake_spec hg) (fun i j hi hj h => hD i hi j hj h) hs hl he w0 (fun listed a' w' hl s => ?_) (n - 1) _ _ _ ?_ (by simp [strip]; omega) (closed_set (closed_none _) hrm) (fun i h => by
    have : i = i1 := by simpa using h
    subst this
    simp at hil
    simp [hil]) (fun j hj => by rw [getD_set_ne false (by omega)]; exact none_listed _ j) ?_
  · rw [hsz]
    refine wpOps_strip _ _ _ (hQ a' w' ⟨s.size, s.defers, s.world, fun t k hk => ?_⟩)
    rcases look_zip env Ds Es t k hk with ⟨i, h1, h2, h3⟩ | h
    · have := s.done i (by omega) (hl i (by omega))
      simp only [h2, h3, Option.getD_some] at this
      exact this
    · exact s.base t k h
  · have h3 := cnt_set (listed := Array.replicate n false) (n := n) (i := i1) (by omega) (by simp) (by simp at hil; simp [hil])
    have h4 : cnt n (Array.replicate n false) ≤ n := by
      unfold cnt
      exact Nat.le_trans (List.countP_le_length) (by simp)
    rw [hsz]
    omega
  · refine ⟨put_size.trans st.size, st.defers, st.world.trans ((drawn_below w).mono st.world.size), fun t k hk' => ?_, fun j hj h => ?_⟩
    · rw [put_other (fun e => by subst e; rw [hk'] at hdb; cases hdb)]
      exact Kd.keep (st.slots t k hk') (drawn_below w)
    · by_cases hj1 : j = i1
      · subst hj1
        show ((Es[j]?).getD .any).R _ _
        rw [hE]
        show k1.R ((a.put (some d1) _).tmps.getD ((Ds[j]?).getD (1000 + j)) undef) _
        rw [hDd, put_self (by rw [st.size]; exact hd1)]
        exact Kd.keep (st.slots t1 k1 hk) (drawn_below w)
      · rw [getD_set_ne false (Ne.symm hj1), none_listed] at h
        cases h
/-- The same, where two moves that may come late are taken first. -/
theorem env_then2 {id m n i1 d1 t1 i2 d2 t2 : Nat} {k1 k2 : Kd} (Ds : List Nat) (Es : List Kd) (hm : Es.length = m) (hn : ops.size = n) (hmn : m ≤ n) (hi1 : i1 < m) (hi2 : i2 < m) (hne : i1 ≠ i2) (hg : goodAll3 (fun i => (Es[i]?).getD .any) (fun i => (Ds[i]?).getD (1000 + i)) (look env) N 0 ((strip ops).toList.take m) = true) (hD : ∀ i, i < m → ∀ j, j < m → (Ds[i]?).getD (1000 + i) = (Ds[j]?).getD (1000 + j) → i = j)
    (hl : lateB (strip ops) m [i1, i2] = true) (he : edgesB (strip ops) = true)
    (hmv : ((strip ops)[i1]?).map (fun o => (o.op, o.dst, o.guard)) = some (.move (.tmp t1), some d1, none)) (hk : look env t1 = some k1) (hE : (Es[i1]?).getD .any = k1) (hDd : (Ds[i1]?).getD (1000 + i1) = d1) (hd1 : d1 < N) (hdb : look env d1 = none)
    (hmv2 : ((strip ops)[i2]?).map (fun o => (o.op, o.dst, o.guard)) = some (.move (.tmp t2), some d2, none)) (hk2 : look env t2 = some k2) (hE2 : (Es[i2]?).getD .any = k2) (hDd2 : (Ds[i2]?).getD (1000 + i2) = d2) (hd2 : d2 < N) (hdb2 : look env d2 = none) (hdt : t2 ≠ d1) (hdd : d1 ≠ d2)
    (hsel : Region.noSelect (strip ops) = true) (hfree : Region.free .any (strip ops) (Array.replicate n false) i1 = true) (hrd : (Region.ready .any (strip ops) (Array.replicate n false)).contains i1 = true)
    (hfree2 : Region.free .any (strip ops) ((Array.replicate n false).setIfInBounds i1 true) i2 = true) (hrd2 : (Region.ready .any (strip ops) ((Array.replicate n false).setIfInBounds i1 true)).contains i2 = true)
    (hs : ∀ i, i < m → RStep (strip ops) Q (fun i => (Es[i]?).getD .any) (fun i => (Ds[i]?).getD (1000 + i)) (look env) N i) (st : Hold N env w0 a w) (hP : ∀ c (t : Option Tmp) v a w, Q (.panic c) (a.put t v) w → Q (.panic c) a w)
    (hQ : ∀ a' w', Hold N (Ds.zip Es ++ env) w0 a' w' → wpOps Tryd.prog ops Q (List.range' m (n - m)) a' w') : (Code.region id ops true).wp Tryd.prog Q a w := by
  have hsz : (strip ops).size = n := by rw [strip_size]; exact hn
  cases ho : (strip ops)[i1]? with
  | none => rw [ho] at hmv; cases hmv
  | some o =>
  cases ho2 : (strip ops)[i2]? with
  | none => rw [ho2] at hmv2; cases hmv2
  | some o2 =>
  rw [ho] at hmv
  rw [ho2] at hmv2
  have hmv := Option.some.inj hmv
  have hmv2 := Option.some.inj hmv2
  simp only [Prod.mk.injEq] at hmv hmv2
  obtain ⟨e1, e2, e3⟩ := hmv
  obtain ⟨f1, f2, f3⟩ := hmv2
  refine wp_region_any (by kernel_rfl) (wpAny_strip _ _ _ _ ?_)
  have h1n : ops.size = (n - 2) + 1 + 1 := by omega
  have hil : i1 < ((Array.replicate n false : Array Bool)).size := by simp; omega
  have hil2 : i2 < ((Array.replicate n false : Array Bool)).size := by simp; omega
  rw [h1n]
  rw [show Array.replicate (n - 2 + 1 + 1) false = Array.replicate n false by rw [show n - 2 + 1 + 1 = n by omega]]
  refine wpAny_take (v := a.tmps.getD t1 undef) ho hsel hfree hrd (fun c a w h => hP c _ _ a w h) (.inl ⟨wanted_free e3 _, fun w => by
    obtain ⟨dst, op, ty, pos, after, guard⟩ := o
    have e1' : op = _ := e1
    subst e1'
    rfl⟩) ?_
  have hrm : i1 ∈ Region.ready .any (strip ops) (Array.replicate n false) := by simpa using hrd
  rw [e2]
  refine wpAny_take (v := (a.put (some d1) (a.tmps.getD t1 undef)).tmps.getD t2 undef) ho2 hsel hfree2 hrd2 (fun c a w h => hP c _ _ a w h) (.inl ⟨wanted_free f3 _, fun w => by
    obtain ⟨dst, op, ty, pos, after, guard⟩ := o2
    have f1' : op = _ := f1
    subst f1'
    rfl⟩) ?_
  have hrm2 : i2 ∈ Region.ready .any (strip ops) ((Array.replicate n false).setIfInBounds i1 true) := by simpa using hrd2
  rw [f2]
  have hls : ((Array.replicate n false : Array Bool).setIfInBounds i1 true).size = n := by simp
  have hun2 : ((Array.replicate n false : Array Bool).setIfInBounds i1 true).getD i2 true = false := (mem_ready.1 hrm2).1
  refine any_then (ops := strip ops) (E := fun i => (Es[i]?).getD .any) (D := fun i => (Ds[i]?).getD (1000 + i)) (base := look env) (N := N) m [i1, i2] (by omega) (goodTake_spec hg) (fun i j hi hj h => hD i hi j hj h) hs hl he w0 (fun listed a' w' hl s => ?_) (n - 2) _ _ _ ?_ (by simp [strip]; omega) (closed_set (closed_set (closed_none _) hrm) hrm2) (fun i h => by
    have hi : i = i1 ∨ i = i2 := by simpa using h
    rcases hi with hi | hi
    · subst hi
      refine getD_set_true ?_
      simp at hil
      simp [hil]
    · subst hi
      simp at hil2
      simp [hil2]) (fun j hj => by rw [getD_set_ne false (by omega), getD_set_ne false (by omega)]; exact none_listed _ j) ?_
  · rw [hsz]
    refine wpOps_strip _ _ _ (hQ a' w' ⟨s.size, s.defers, s.world, fun t k hk => ?_⟩)
    rcases look_zip env Ds Es t k hk with ⟨i, h1, h2, h3⟩ | h
    · have := s.done i (by omega) (hl i (by omega))
      simp only [h2, h3, Option.getD_some] at this
      exact this
    · exact s.base t k h
  · have h3 := cnt_set (listed := Array.replicate n false) (n := n) (i := i1) (by omega) (by simp) (by simp at hil; simp [hil])
    have h5 := cnt_set (listed := (Array.replicate n false).setIfInBounds i1 true) (n := n) (i := i2) (by omega) hls hun2
    have h4 : cnt n (Array.replicate n false) ≤ n := by
      unfold cnt
      exact Nat.le_trans (List.countP_le_length) (by simp)
    rw [hsz]
    omega
  · have hD1 : d1 < a.tmps.size := by rw [st.size]; exact hd1
    refine ⟨put_size.trans (put_size.trans st.size), st.defers, st.world.trans ((drawn_below w).mono st.world.size), fun t k hk' => ?_, fun j hj h => ?_⟩
    · rw [put_other (fun e => by subst e; rw [hk'] at hdb2; cases hdb2), put_other (fun e => by subst e; rw [hk'] at hdb; cases hdb)]
      exact Kd.keep (st.slots t k hk') (drawn_below w)
    · by_cases hj2 : j = i2
      · subst hj2
        show ((Es[j]?).getD .any).R _ _
        rw [hE2]
        show k2.R (((a.put (some d1) _).put (some d2) _).tmps.getD ((Ds[j]?).getD (1000 + j)) undef) _
        rw [hDd2, put_self (by rw [put_size, st.size]; exact hd2), put_other hdt]
        exact Kd.keep (st.slots t2 k2 hk2) (drawn_below w)
      · rw [getD_set_ne false (Ne.symm hj2)] at h
        by_cases hj1 : j = i1
        · subst hj1
          show ((Es[j]?).getD .any).R _ _
          rw [hE]
          show k1.R (((a.put (some d1) _).put (some d2) _).tmps.getD ((Ds[j]?).getD (1000 + j)) undef) _
          rw [hDd, put_other hdd, put_self hD1]
          exact Kd.keep (st.slots t1 k1 hk) (drawn_below w)
        · rw [getD_set_ne false (Ne.symm hj1), none_listed] at h
          cases h
end
end Go.Proofs.YtcjakmafojbhlaaDoor
namespace Go.Proofs.YtcjakmafojbhlaaDoor
set_option linter.unusedVariables false
set_option linter.unusedSimpArgs false
open Go.RowKit

/-- What held at the world wz, below which nothing has changed since. -/
def oldP (k : Kd) (wz : World) : Pd where
  R := fun v w => k.R v wz ∧ Below wz.heap.size wz w
  keep := fun _ _ _ h hb => ⟨h.1, h.2.trans (hb.mono h.2.size)⟩
theorem oldP.to {k : Kd} {wz w : World} {v : Value} (h : (Kd.sat (oldP k wz)).R v w) : k.R v w := Kd.keep h.1 h.2
/-- A row of the call's own, made since wz. -/
def ownP (F : Fo) (wz : World) : Pd where
  R := fun v w => ∃ A c, v = .slice A (Tm.len F) c ∧ ArgsB w w.heap.size A (Tm.len F) F ∧ (0 < Tm.len F → ∃ g w1, A = some ⟨g, 0, none⟩ ∧ wz.heap.size ≤ g ∧ St w1 g (tagged F) w)
  keep := by
    rintro v w w' ⟨A, c, e, ha, hs⟩ hb
    refine ⟨A, c, e, (ha.below hb (Nat.le_refl _)).up hb.size, fun h => ?_⟩
    obtain ⟨g, w1, e1, e2, st⟩ := hs h
    exact ⟨g, w1, e1, e2, st.below hb⟩
theorem ownP.to {F : Fo} {wz w : World} {v : Value} (h : (Kd.sat (ownP F wz)).R v w) : (Kd.row F).R v w := by
  obtain ⟨A, c, e, ha, _⟩ := h
  exact ⟨A, c, e, ha⟩
def madeP (F : Fo) (n : Int) (wz : World) : Pd where
  R := fun v w => ∃ u, v = .tuple #[u, .int .i64 n] ∧ (ownP F wz).R u w
  keep := by
    rintro v w w' ⟨u, e, h⟩ hb
    exact ⟨u, e, (ownP F wz).keep _ _ _ h hb⟩
/-- A row in block g. -/
def stP (w1 : World) (g : Nat) (d : Array Tg) : Pd where
  R := fun _ w => St w1 g d w
  keep := fun _ _ _ h hb => h.below hb
/-- An element of a row. -/
def nodeP (B g o : Nat) (p : Pay) (l : Fo) (A : Option Addr) (c : Nat) : Pd where
  R := fun _ w => g < w.heap.size ∧ B ≤ w.heap.size ∧ NodeAt (fun b => b < B ∧ b ≠ g) w g o p l A c
  keep := fun _ w w' h hb => ⟨Nat.lt_of_lt_of_le h.1 hb.size, Nat.le_trans h.2.1 hb.size, h.2.2.keep (hb.block _ h.1) (fun b hb' => hb.block _ (Nat.lt_of_lt_of_le hb'.1 h.2.1)) (fun _ h => h)⟩
theorem Hold.since {N : Nat} {env : Env} {w0 w : World} {a : Act} (h : Hold N env w0 a w) (hT : look env 999 = some .tabs) : Hold N ((998, .sat (oldP .tabs w)) :: (999, .tabs) :: env.map fun e => (e.1, .sat (oldP e.2 w))) w a w := by
  refine ⟨h.size, h.defers, Below.refl _ _, fun t k hk => ?_⟩
  rw [look_cons] at hk
  split at hk
  · cases hk
    exact ⟨h.slots 999 _ hT, Below.refl _ _⟩
  · rw [look_cons] at hk
    split at hk
    · cases hk
      exact h.slots 999 _ hT
    · have key : ∀ (e : Env), look (e.map fun e => (e.1, Kd.sat (oldP e.2 w))) t = (look e t).map fun k => Kd.sat (oldP k w) := by
        intro e
        induction e with
        | nil => rfl
        | cons x xs ih =>
          obtain ⟨d, k0⟩ := x
          rw [List.map_cons, look_cons, look_cons, ih]
          split <;> rfl
      rw [key] at hk
      obtain ⟨k1, h1, rfl⟩ := Option.map_eq_some_iff.1 hk
      exact ⟨h.slots t k1 h1, Below.refl _ _⟩

section
variable {ops : Array Oper} {Q : Exit → Act → World → Prop} {E : Nat → Kd} {D : Nat → Nat} {base : Nat → Option Kd} {N : Nat}
theorem Opd.old {i : Nat} {x : Operand} {k : Kd} {wz : World} (h : Opd ops E D base N i x (.sat (oldP k wz))) : Opd ops E D base N i x k := fun a w hc => oldP.to (h a w hc)
theorem Opd.own {i : Nat} {x : Operand} {F : Fo} {wz : World} (h : Opd ops E D base N i x (.sat (ownP F wz))) : Opd ops E D base N i x (.row F) := fun a w hc => ownP.to (h a w hc)
theorem step_osortP {i : Nat} {x : Operand} {F : Fo} {wz : World} (hn : Tm.len F ≤ 50000) (tt : Nat) (hop : (ops[i]?).map (·.op) = some (.call { callee := .value (.func 16), args := #[x], argTypes := #[22] })) (hx : Opd ops E D base N i x (.row F)) (hT : Opd ops E D base N i (.tmp tt) (.sat (oldP .tabs wz))) (hE : E i = .sat (madeP (sortR F).1 (sortR F).2 wz)) : Step Tryd.prog ops Q E D base N i :=
  step_call hop (fun _ _ => by kernel_rfl) fun a w h => by
    obtain ⟨A, c, ex, ha⟩ := hx a w h
    have h0 := hT a w h
    have hT' : Tabs w := oldP.to h0
    have hb0 : Below wz.heap.size wz w := h0.2
    rw [show (#[x] : Array Operand).map a.eval = #[.slice A (Tm.len F) c] by rw [← ex]; simp, hE]
    refine (osort_any F A (Tm.len F) c w.heap.size w ha (by omega) hT' (Nat.le_refl _)).mono fun e w' hm => ?_
    obtain ⟨A, c, rfl, h1, h2, h3⟩ := hm
    refine ⟨_, rfl, ⟨_, rfl, A, c, rfl, h1.mono fun b hb => hb.2, fun hl => ?_⟩, h3⟩
    obtain ⟨g, e1, e2, st⟩ := h2 hl
    exact ⟨g, w', e1, Nat.le_trans hb0.size e2, st⟩
theorem step_made0 {i : Nat} {x : Operand} {F : Fo} {n : Int} {wz : World} (hop : (ops[i]?).map (·.op) = some (.extract x 0)) (hx : Opd ops E D base N i x (.sat (madeP F n wz))) (hE : E i = .sat (ownP F wz)) : Step Tryd.prog ops Q E D base N i :=
  step_still hop hE fun a w h dst ty' pos after guard => by
    obtain ⟨u, e, hu⟩ := hx a w h
    refine ⟨u, ?_, hu⟩
    unfold execOp
    simp only [e]
    go_simp
theorem step_made1 {i : Nat} {x : Operand} {F : Fo} {n : Int} {wz : World} (hop : (ops[i]?).map (·.op) = some (.extract x 1)) (hx : Opd ops E D base N i x (.sat (madeP F n wz))) (hE : E i = .val (.int .i64 n)) : Step Tryd.prog ops Q E D base N i :=
  step_still hop hE fun a w h dst ty' pos after guard => by
    obtain ⟨u, e, hu⟩ := hx a w h
    refine ⟨.int .i64 n, ?_, rfl⟩
    unfold execOp
    simp only [e]
    go_simp
theorem step_index_val {i : Nat} {x y : Operand} {g n c k : Nat} (hk : k < n) (hop : (ops[i]?).map (·.op) = some (.indexAddr 22 x y)) (hx : Opd ops E D base N i x (.val (.slice (some ⟨g, 0, none⟩) n c))) (hy : Opd ops E D base N i y (.val (.int .i64 (k : Int)))) (hE : E i = .val (.pointer (some ⟨g, k * 4, none⟩))) : Step Tryd.prog ops Q E D base N i :=
  step_still hop hE fun a w h dst ty' pos after guard => by
    have e : a.eval x = .slice (some ⟨g, 0, none⟩) n c := hx a w h
    have e' : a.eval y = .int .i64 (k : Int) := hy a w h
    refine ⟨.pointer (some ⟨g, k * 4, none⟩), ?_, rfl⟩
    have e2 : (⟨g, k * 4, none⟩ : Addr) = ⟨g, 0 + k * 4, none⟩ := by rw [Nat.zero_add]
    rw [e2]
    unfold execOp
    simp only [e, e']
    go_simp
theorem step_load_val {i : Nat} {x : Operand} {B g o : Nat} {p : Pay} {l : Fo} {A : Option Addr} {c : Nat} (nn : Nat) (hop : (ops[i]?).map (·.op) = some (.load 24 x)) (hx : Opd ops E D base N i x (.val (.pointer (some ⟨g, o, none⟩)))) (hn : Opd ops E D base N i (.tmp nn) (.sat (nodeP B g o p l A c))) (hE : E i = .val (tv p A (Tm.len l) c)) : Step Tryd.prog ops Q E D base N i :=
  step_still hop hE fun a w h dst ty' pos after guard => by
    have e : a.eval x = .pointer (some ⟨g, o, none⟩) := hx a w h
    obtain ⟨hg, hB, hnode⟩ := hn a w h
    refine ⟨tv p A (Tm.len l) c, ?_, rfl⟩
    have h0 := hnode.kind
    have h1 := hnode.num
    have h2 := hnode.name
    have h3 := hnode.args
    generalize Tm.len l = n at h3
    unfold execOp
    simp only [e]
    go_simp
end
theorem run_store_term (w : World) (g o : Nat) (p : Pay) (A : Option Addr) (n c : Nat) (hf : Four w g o) (hs : ∀ o, w.frozen? ⟨g, o, none⟩ = false) :
    (Instr.storeAt 24 (.pointer (some ⟨g, o, none⟩)) (tv p A n c)).run Tryd.prog w = .ok () (set4 w g o p A n c) := by
  have f0 := hs o
  have f1 := hs (o + 1)
  have f2 := hs (o + 2)
  have f3 := hs (o + 3)
  obtain ⟨h0, h1, h2, h3⟩ := hf
  obtain ⟨v0, y0⟩ := Option.isSome_iff_exists.1 h0
  obtain ⟨v1, y1⟩ := Option.isSome_iff_exists.1 h1
  obtain ⟨v2, y2⟩ := Option.isSome_iff_exists.1 h2
  obtain ⟨v3, y3⟩ := Option.isSome_iff_exists.1 h3
  go_simp
theorem St.exch {w0 w : World} {blk : Nat} {d : Array Tg} (h : St w0 blk d w) {i j : Nat} (hi : i < d.size) (hj : j < d.size) {A B : Option Addr} {c e : Nat}
    (ni : NodeAt (fun b => b < w0.heap.size ∧ b ≠ blk) w blk (i * 4) d[i]!.1.1 d[i]!.1.2 A c) (nj : NodeAt (fun b => b < w0.heap.size ∧ b ≠ blk) w blk (j * 4) d[j]!.1.1 d[j]!.1.2 B e) :
    St w0 blk (Go.Sort.swp d i j) (set4 (set4 w blk (i * 4) d[j]!.1.1 B (Tm.len d[j]!.1.2) e) blk (j * 4) d[i]!.1.1 A (Tm.len d[i]!.1.2) c) := by
  by_cases hij : i = j
  · subst hij
    have hS : ∀ x, (x < w0.heap.size ∧ x ≠ blk) → x ≠ blk := fun x hx => hx.2
    refine ⟨?_, h.lt, fun k hk => ?_, fun o => by rw [set4_frozen, set4_frozen]; exact h.soft o⟩
    · exact set4_in _ _ _ _ _ _ (set4_in _ _ _ _ _ _ h.only rfl) rfl
    · rw [Go.Sort.size_swp] at hk
      rw [Go.Sort.swp_get d hi hj]
      have n2 := set4_here (S := fun b => b < w0.heap.size ∧ b ≠ blk) (p' := d[i]!.1.1) (c' := e) (four_of_node ni) hS nj.inn
      have ha : ArgsIn (fun b => b < w0.heap.size ∧ b ≠ blk) (set4 w blk (i * 4) d[i]!.1.1 B (Tm.len d[i]!.1.2) e) A (Tm.len d[i]!.1.2) d[i]!.1.2 := ni.inn.keep fun x hx => set4_block _ _ _ _ _ _ _ x (hS x hx)
      by_cases hkj : k = i
      · subst hkj
        refine ⟨A, c, ?_⟩
        simp only [if_true]
        exact set4_here (S := fun b => b < w0.heap.size ∧ b ≠ blk) (p' := d[k]!.1.1) (c' := c) (four_of_node n2) hS ha
      · obtain ⟨C, f, nk⟩ := h.row k hk
        refine ⟨C, f, ?_⟩
        simp only [if_neg hkj]
        exact set4_other (set4_other nk hS (by omega)) hS (by omega)
  · exact h.swap hi hj hij ni nj
theorem rowF_size (d : Array Tg) : Tm.len (rowF d) = d.size := by rw [← Tm.len_toL, rowF_toL]; simp [keysOf]
theorem tagged_rowF (d : Array Tg) {k : Nat} (hk : k < d.size) : (tagged (rowF d))[k]!.1 = d[k]!.1 := by
  have h1 : (tagged (rowF d)).size = d.size := by rw [tagged_size, rowF_size]
  rw [getElem!_pos _ k (by omega), getElem!_pos d k hk]
  unfold tagged
  simp [rowF_toL, keysOf]
theorem St.retag {w0 w : World} {blk : Nat} {d : Array Tg} (h : St w0 blk d w) : St w0 blk (tagged (rowF d)) w := by
  refine ⟨h.only, h.lt, fun k hk => ?_, h.soft⟩
  rw [tagged_size, rowF_size] at hk
  rw [tagged_rowF d hk]
  exact h.row k hk
theorem wpOps_one {ops : Array Oper} {Q : Exit → Act → World → Prop} {i : Nat} {o : Oper} {rest : List Nat} {a : Act} {w : World} (ho : ops[i]? = some o) (hg : o.guard = none) (h : o.wp Tryd.prog a w (wpOps Tryd.prog ops Q rest) Q) : wpOps Tryd.prog ops Q (i :: rest) a w := by
  rw [wpOps_cons]
  unfold wpOp
  rw [ho]
  simp only [wanted_free hg, if_true]
  exact .inl h
theorem wp_run {Q : Exit → Act → World → Prop} {o : Oper} {a : Act} {w w' : World} {v : Value} {K : Act → World → Prop} (hr : (execOp a.eval o).run Tryd.prog w = .ok (.value v) w') (hk : K (a.put o.dst v) w') : o.wp Tryd.prog a w K Q := by
  unfold Oper.wp
  rw [hr]
  exact hk
theorem wp_skips {Q : Exit → Act → World → Prop} {op : Op} {ty : TypeId} {pos : String} {after : Array Edge} {guard : Option (Nat × Bool)} {a : Act} {w w' : World} {K : Act → World → Prop} (hr : (execOp a.eval ⟨none, op, ty, pos, after, guard⟩).run Tryd.prog w = .ok .skip w') (hk : K a w') : Oper.wp Tryd.prog ⟨none, op, ty, pos, after, guard⟩ a w K Q := by
  unfold Oper.wp
  rw [hr]
  exact hk
theorem run_store_op {a : Act} {x y : Operand} {ty : TypeId} {pos : String} {after : Array Edge} {guard : Option (Nat × Bool)} (w : World) (g o : Nat) (p : Pay) (A : Option Addr) (n c : Nat) (hx : a.eval x = .pointer (some ⟨g, o, none⟩)) (hy : a.eval y = tv p A n c) (hf : Four w g o) (hs : ∀ o, w.frozen? ⟨g, o, none⟩ = false) :
    (execOp a.eval ⟨none, .store 24 x y, ty, pos, after, guard⟩).run Tryd.prog w = .ok .skip (set4 w g o p A n c) := by
  have f0 := hs o
  have f1 := hs (o + 1)
  have f2 := hs (o + 2)
  have f3 := hs (o + 3)
  obtain ⟨h0, h1, h2, h3⟩ := hf
  obtain ⟨v0, y0⟩ := Option.isSome_iff_exists.1 h0
  obtain ⟨v1, y1⟩ := Option.isSome_iff_exists.1 h1
  obtain ⟨v2, y2⟩ := Option.isSome_iff_exists.1 h2
  obtain ⟨v3, y3⟩ := Option.isSome_iff_exists.1 h3
  clear h0 h1 h2 h3 hs
  unfold execOp
  simp only [hx, hy]
  go_simp
theorem run_index_op {a : Act} {x y : Operand} {dst : Option Tmp} {ty : TypeId} {pos : String} {after : Array Edge} {guard : Option (Nat × Bool)} (w : World) (g n c k : Nat) (hx : a.eval x = .slice (some ⟨g, 0, none⟩) n c) (hy : a.eval y = .int .i64 (k : Int)) (hk : k < n) :
    (execOp a.eval ⟨dst, .indexAddr 22 x y, ty, pos, after, guard⟩).run Tryd.prog w = .ok (.value (.pointer (some ⟨g, k * 4, none⟩))) w := by
  rw [show (⟨g, k * 4, none⟩ : Addr) = ⟨g, 0 + k * 4, none⟩ by rw [Nat.zero_add]]
  unfold execOp
  simp only [hx, hy]
  go_simp
/-- The exchange, its last four operations. -/
theorem exch_ops {ops : Array Oper} {Q : Exit → Act → World → Prop} {N m d1 d2 u1 u2 : Nat} {x1 y1 x2 y2 : Operand} {a : Act} {w w1 : World} {g n cc i j : Nat} {d : Array Tg} {A B : Option Addr} {c e : Nat}
    (hop0 : (ops[m]?).map (fun o => (o.op, o.dst, o.guard)) = some (.indexAddr 22 x1 y1, some d1, none)) (hop1 : (ops[m + 1]?).map (fun o => (o.op, o.dst, o.guard)) = some (.store 24 (.tmp d1) (.tmp u1), none, none))
    (hop2 : (ops[m + 2]?).map (fun o => (o.op, o.dst, o.guard)) = some (.indexAddr 22 x2 y2, some d2, none)) (hop3 : (ops[m + 3]?).map (fun o => (o.op, o.dst, o.guard)) = some (.store 24 (.tmp d2) (.tmp u2), none, none))
    (hN : a.tmps.size = N) (hd1 : d1 < N) (hd2 : d2 < N) (hu1 : u1 ≠ d1) (hu2 : u2 ≠ d1) (hu3 : u2 ≠ d2)
    (hx1 : a.eval x1 = .slice (some ⟨g, 0, none⟩) n cc) (hy1 : a.eval y1 = .int .i64 (i : Int)) (hx2 : ∀ v, (a.put (some d1) v).eval x2 = .slice (some ⟨g, 0, none⟩) n cc) (hy2 : ∀ v, (a.put (some d1) v).eval y2 = .int .i64 (j : Int))
    (hv1 : a.tmps.getD u1 undef = tv d[j]!.1.1 B (Tm.len d[j]!.1.2) e) (hv2 : a.tmps.getD u2 undef = tv d[i]!.1.1 A (Tm.len d[i]!.1.2) c)
    (st : St w1 g d w) (hs : d.size = n) (hi : i < n) (hj : j < n)
    (ni : NodeAt (fun b => b < w1.heap.size ∧ b ≠ g) w g (i * 4) d[i]!.1.1 d[i]!.1.2 A c) (nj : NodeAt (fun b => b < w1.heap.size ∧ b ≠ g) w g (j * 4) d[j]!.1.1 d[j]!.1.2 B e)
    (hQ : ∀ v v' w', St w1 g (Go.Sort.swp d i j) w' → Only (· = g) w w' → Q .normal ((a.put (some d1) v).put (some d2) v') w') : wpOps Tryd.prog ops Q [m, m + 1, m + 2, m + 3] a w := by
  cases ho0 : ops[m]? with
  | none => rw [ho0] at hop0; cases hop0
  | some o0 =>
  cases ho1 : ops[m + 1]? with
  | none => rw [ho1] at hop1; cases hop1
  | some o1 =>
  cases ho2 : ops[m + 2]? with
  | none => rw [ho2] at hop2; cases hop2
  | some o2 =>
  cases ho3 : ops[m + 3]? with
  | none => rw [ho3] at hop3; cases hop3
  | some o3 =>
  rw [ho0] at hop0
  rw [ho1] at hop1
  rw [ho2] at hop2
  rw [ho3] at hop3
  have hop0 := Option.some.inj hop0
  have hop1 := Option.some.inj hop1
  have hop2 := Option.some.inj hop2
  have hop3 := Option.some.inj hop3
  obtain ⟨dst0, op0, ty0, pos0, after0, guard0⟩ := o0
  obtain ⟨dst1, op1, ty1, pos1, after1, guard1⟩ := o1
  obtain ⟨dst2, op2, ty2, pos2, after2, guard2⟩ := o2
  obtain ⟨dst3, op3, ty3, pos3, after3, guard3⟩ := o3
  simp only [Prod.mk.injEq] at hop0 hop1 hop2 hop3
  obtain ⟨e1, e2, e3⟩ := hop0
  obtain ⟨e4, e5, e6⟩ := hop1
  obtain ⟨e7, e8, e9⟩ := hop2
  obtain ⟨e10, e11, e12⟩ := hop3
  subst e1 e2 e3 e4 e5 e6 e7 e8 e9 e10 e11 e12
  have hS : ∀ x, (x < w1.heap.size ∧ x ≠ g) → x ≠ g := fun x hx => hx.2
  have hlt : g < w.heap.size := Nat.lt_of_lt_of_le st.lt st.only.size
  have hfin := st.exch (i := i) (j := j) (by omega) (by omega) ni nj
  have hfour : Four (set4 w g (i * 4) d[j]!.1.1 B (Tm.len d[j]!.1.2) e) g (j * 4) := by
    by_cases hij : i = j
    · subst hij
      exact four_of_node (set4_here (S := fun b => b < w1.heap.size ∧ b ≠ g) (p' := d[i]!.1.1) (c' := e) (four_of_node ni) hS nj.inn)
    · exact four_of_node (set4_other nj hS (by omega))
  have honly : Only (· = g) w (set4 (set4 w g (i * 4) d[j]!.1.1 B (Tm.len d[j]!.1.2) e) g (j * 4) d[i]!.1.1 A (Tm.len d[i]!.1.2) c) := set4_in _ _ _ _ _ _ (set4_in _ _ _ _ _ _ (Only.refl _ _) rfl) rfl
  have ev1 : (a.put (some d1) (.pointer (some ⟨g, i * 4, none⟩))).eval (.tmp d1) = .pointer (some ⟨g, i * 4, none⟩) := put_self (by omega)
  have ev2 : (a.put (some d1) (.pointer (some ⟨g, i * 4, none⟩))).eval (.tmp u1) = tv d[j]!.1.1 B (Tm.len d[j]!.1.2) e := (put_other hu1).trans hv1
  refine wpOps_one ho0 rfl (wp_run (run_index_op w g n cc i hx1 hy1 hi) ?_)
  refine wpOps_one ho1 rfl (wp_skips (run_store_op w g (i * 4) _ _ _ _ ev1 ev2 (four_of_node ni) st.soft) ?_)
  refine wpOps_one ho2 rfl (wp_run (run_index_op _ g n cc j (hx2 _) (hy2 _) hj) ?_)
  have ev3 : ((a.put (some d1) (.pointer (some ⟨g, i * 4, none⟩))).put (some d2) (.pointer (some ⟨g, j * 4, none⟩))).eval (.tmp d2) = .pointer (some ⟨g, j * 4, none⟩) := put_self (by rw [put_size]; omega)
  have ev4 : ((a.put (some d1) (.pointer (some ⟨g, i * 4, none⟩))).put (some d2) (.pointer (some ⟨g, j * 4, none⟩))).eval (.tmp u2) = tv d[i]!.1.1 A (Tm.len d[i]!.1.2) c := (put_other hu3).trans ((put_other hu2).trans hv2)
  refine wpOps_one ho3 rfl (wp_skips (run_store_op _ g (j * 4) _ _ _ _ ev3 ev4 hfour (fun o => by rw [set4_frozen]; exact st.soft o)) ?_)
  exact hQ _ _ _ hfin honly
end Go.Proofs.YtcjakmafojbhlaaDoor
namespace Go.Proofs.YtcjakmafojbhlaaDoor
set_option linter.unusedVariables false
set_option linter.unusedSimpArgs false
open Go.RowKit
namespace Tm
theorem cmpP_le_trans {x y z : Tn} (h : cmpP x y ≤ 0) (h' : cmpP y z ≤ 0) : cmpP x z ≤ 0 := by
  obtain ⟨f1, f2, f3, f4⟩ := cmpP_fit x y z
  by_cases h0 : cmpP x y = 0
  · have := f2 h0; omega
  · by_cases h1 : cmpP y z = 0
    · have := f3 h1; omega
    · have := f1 (by omega) (by omega); omega
theorem cmpP_le_lt {x y z : Tn} (h : cmpP x y ≤ 0) (h' : cmpP y z < 0) : cmpP x z < 0 := by
  obtain ⟨f1, f2, f3, f4⟩ := cmpP_fit x y z
  by_cases h0 : cmpP x y = 0
  · have := f2 h0; omega
  · exact f1 (by omega) h'
theorem sortL_le (L : List Tn) : (sortL false L).Pairwise (fun s t => cmpP s t ≤ 0) := (isSort_sortL false L).sorted
theorem sorted_at {G : List Tn} (h : G.Pairwise (fun s t => cmpP s t ≤ 0)) {i j : Nat} (hij : i ≤ j) (hj : j < G.length) : cmpP G[i]! G[j]! ≤ 0 := by
  by_cases he : i = j
  · subst he; rw [cmpP_zero.2 rfl]; exact Int.le_refl _
  · rw [getElem!_pos G i (by omega), getElem!_pos G j hj]
    exact List.pairwise_iff_getElem.1 h i j (by omega) hj (by omega)
theorem uniqTo_inc {G : List Tn} (h : G.Pairwise (fun s t => cmpP s t ≤ 0)) : ∀ k, k ≤ G.length → (uniqTo G k).Pairwise (fun s t => cmpP s t < 0) ∧ ∀ x ∈ uniqTo G k, ∀ j, k ≤ j + 1 → j < G.length → cmpP x G[j]! ≤ 0
  | 0, _ => ⟨List.Pairwise.nil, fun x hx => by cases hx⟩
  | k + 1, hk => by
    obtain ⟨h1, h2⟩ := uniqTo_inc h k (by omega)
    cases hd : dupAt G k with
    | true =>
      rw [uniqTo_dup hd]
      refine ⟨h1, fun x hx j hj hjl => h2 x hx j (by omega) hjl⟩
    | false =>
      rw [uniqTo_new hd]
      refine ⟨?_, fun x hx j hj hjl => ?_⟩
      · rw [List.pairwise_append]
        refine ⟨h1, List.pairwise_singleton _ _, fun x hx y hy => ?_⟩
        rw [List.mem_singleton] at hy
        subst hy
        by_cases h0 : k = 0
        · subst h0; cases hx
        · have ha := h2 x hx (k - 1) (by omega) (by omega)
          have hb := sorted_at h (i := k - 1) (j := k) (by omega) (by omega)
          have hn : cmpP G[k]! G[k - 1]! ≠ 0 := by
            unfold dupAt at hd
            rw [decide_eq_true (by omega : 0 < k), Bool.true_and, decide_eq_false_iff_not] at hd
            exact hd
          have hneg := cmpP_neg G[k - 1]! G[k]!
          exact cmpP_le_lt ha (by omega)
      · rcases List.mem_append.1 hx with hx | hx
        · exact h2 x hx j (by omega) hjl
        · rw [List.mem_singleton] at hx
          subst hx
          exact sorted_at h (i := k) (j := j) (by omega) hjl
theorem uniq_lt (L : List Tn) : (uniq (sortL false L)).Pairwise (fun s t => cmpP s t < 0) := (uniqTo_inc (sortL_le L) _ (Nat.le_refl _)).1
theorem incB_of_pairwise {G : List Tn} (h : G.Pairwise (fun s t => cmpP s t < 0)) : incB G = true := by
  rw [incB_iff]
  intro k hk
  rw [getElem!_pos G k (by omega), getElem!_pos G (k + 1) hk]
  exact List.pairwise_iff_getElem.1 h k (k + 1) (by omega) hk (by omega)
theorem uniq_inc (L : List Tn) : incB (uniq (sortL false L)) = true := incB_of_pairwise (uniq_lt L)
/-- The sorted row does not depend on the order of the elements. -/
theorem sortL_of_perm {L L' : List Tn} (h : L.Perm L') : sortL false L = sortL false L' :=
  List.Perm.eq_of_pairwise (le := fun s t => cmpP s t ≤ 0) (fun x y _ _ h1 h2 => cmpP_zero.1 (by have := cmpP_neg x y; omega)) (sortL_le L) (sortL_le L') (((sortL_perm false L).trans h).trans (sortL_perm false L').symm)
theorem sortL_again (L : List Tn) : sortL false (sortL false L) = sortL false L := sortL_of_perm (sortL_perm false L)
/-- Each element of the row is among the different ones. -/
theorem mem_uniqTo {G : List Tn} : ∀ k, k ≤ G.length → ∀ j, j < k → G[j]! ∈ uniqTo G k
  | 0, _, j, h => by omega
  | k + 1, hk, j, hj => by
    have ih := mem_uniqTo (G := G) k (by omega)
    cases hd : dupAt G k with
    | false =>
      rw [uniqTo_new hd, List.mem_append]
      by_cases h : j = k
      · subst h; right; simp
      · left; exact ih j (by omega)
    | true =>
      rw [uniqTo_dup hd]
      by_cases h : j = k
      · subst h
        unfold dupAt at hd
        simp only [Bool.and_eq_true, decide_eq_true_eq] at hd
        rw [cmpP_zero.1 hd.2]
        exact mem_uniqTo j (by omega) (j - 1) (by omega)
      · exact ih j (by omega)
theorem mem_uniq {G : List Tn} {x : Tn} : x ∈ uniq G ↔ x ∈ G := by
  refine ⟨uniq_mem, fun h => ?_⟩
  obtain ⟨j, hj, rfl⟩ := List.mem_iff_getElem.1 h
  have := mem_uniqTo (G := G) G.length (Nat.le_refl _) j hj
  rwa [getElem!_pos G j hj] at this
/-- An element of an increasing row has its index as its rank. -/
theorem rankOf_at {G : List Tn} (h : G.Pairwise (fun s t => cmpP s t < 0)) {k : Nat} (hk : k < G.length) : rankOf G G[k]! = k ∧ rankHas G G[k]! = true := by
  have h0 : cmpP G[k]! G[k]! = 0 := cmpP_zero.2 rfl
  have hr : rankOf G G[k]! = k := rankOf_eq (by omega) (fun j hj => by
    rw [getElem!_pos G j (by omega), getElem!_pos G k hk]
    exact List.pairwise_iff_getElem.1 h j k (by omega) hk hj) (fun _ => by omega)
  refine ⟨hr, ?_⟩
  unfold rankHas
  rw [hr, decide_eq_true hk, Bool.true_and, h0]
  rfl
/-- Where the elements increase: those before the rank come before, the others do not. -/
theorem rankOf_split {G : List Tn} (h : G.Pairwise (fun s t => cmpP s t < 0)) (t : Tn) {k : Nat} (hk : k < G.length) : decide (cmpP G[k]! t < 0) = decide (k < rankOf G t) := by
  have hle := rankOf_le G t
  rcases Nat.lt_or_ge k (rankOf G t) with hlt | hge
  · rw [decide_eq_true hlt]
    have := List.not_of_lt_findIdx (xs := G) (p := fun x => decide (0 ≤ cmpP x t)) hlt
    rw [getElem!_pos G k hk]
    refine decide_eq_true ?_
    have h2 : ¬ 0 ≤ cmpP G[k] t := by simpa using this
    omega
  · rw [decide_eq_false (show ¬ k < rankOf G t by omega)]
    refine decide_eq_false ?_
    have hr : rankOf G t < G.length := by omega
    have h3 := List.findIdx_getElem (xs := G) (p := fun x => decide (0 ≤ cmpP x t)) (w := hr)
    have h4 : 0 ≤ cmpP G[rankOf G t]! t := by rw [getElem!_pos G _ hr]; exact of_decide_eq_true h3
    intro hc
    by_cases he : rankOf G t = k
    · rw [he] at h4; omega
    · have h5 : cmpP G[rankOf G t]! G[k]! < 0 := by
        rw [getElem!_pos G _ hr, getElem!_pos G k hk]
        exact List.pairwise_iff_getElem.1 h _ k hr hk (by omega)
      have := (cmpP_fit G[rankOf G t]! G[k]! t).1 h5 hc
      omega
theorem countP_not {L : List Tn} {q : Tn → Bool} {t : Tn} (hq : ∀ x ∈ L, q x = true ↔ x = t) (h : t ∉ L) : L.countP q = 0 := by
  rw [List.countP_eq_zero]
  intro x hx hqx
  exact h ((hq x hx).1 hqx ▸ hx)
theorem countP_mem {q : Tn → Bool} {t : Tn} : ∀ {L : List Tn}, L.Pairwise (fun s t => cmpP s t < 0) → (∀ x ∈ L, q x = true ↔ x = t) → t ∈ L → L.countP q = 1
  | [], _, _, h => by cases h
  | x :: r, hp, hq, h => by
    rw [List.pairwise_cons] at hp
    by_cases hx : x = t
    · subst hx
      have hn : x ∉ r := fun hm => by have := hp.1 x hm; rw [cmpP_zero.2 rfl] at this; omega
      rw [List.countP_cons, countP_not (fun y hy => hq y (List.mem_cons_of_mem _ hy)) hn, if_pos ((hq x List.mem_cons_self).2 rfl)]
    · have hm : t ∈ r := by
        rcases List.mem_cons.1 h with h | h
        · exact absurd h.symm hx
        · exact h
      rw [List.countP_cons, countP_mem hp.2 (fun y hy => hq y (List.mem_cons_of_mem _ hy)) hm, if_neg (fun e => hx ((hq x List.mem_cons_self).1 e))]
/-- How often a term occurs depends on the elements alone. -/
theorem countF_perm {F G : Fo} (h : (toL F).Perm (toL G)) (p : Pay) (l : Fo) : countF F p l = countF G p l := h.countP_eq _
theorem count_iff {F : Fo} (hv : allV F = true) (p : Pay) (l : Fo) : ∀ x ∈ toL F, (validB x.1 x.2 && sameT x.1 x.2 p l) = true ↔ x = (p, l) := by
  intro x hx
  rw [allV_iff.1 hv x hx, Bool.true_and, sameT_eq]
  exact ⟨fun h => Prod.ext h.1 h.2, fun h => by rw [h]; exact ⟨rfl, rfl⟩⟩
theorem countF_one {F : Fo} (hv : allV F = true) (hp : (toL F).Pairwise (fun s t => cmpP s t < 0)) {p : Pay} {l : Fo} (h : (p, l) ∈ toL F) : countF F p l = 1 := countP_mem hp (count_iff hv p l) h
theorem countF_zero {F : Fo} (hv : allV F = true) {p : Pay} {l : Fo} (h : (p, l) ∉ toL F) : countF F p l = 0 := countP_not (count_iff hv p l) h
theorem countF_pos {F : Fo} (hv : allV F = true) {p : Pay} {l : Fo} (h : (p, l) ∈ toL F) : countF F p l ≠ 0 := by
  intro e
  have := List.countP_eq_zero.1 e (p, l) h
  exact this ((count_iff hv p l _ h).2 rfl)
/-- A term is found exactly where it occurs once. -/
theorem rankHas_iff {F : Fo} (hv : allV F = true) (hp : (toL F).Pairwise (fun s t => cmpP s t < 0)) (p : Pay) (l : Fo) : rankHas (toL F) (p, l) = (((countF F p l : Nat) : Int) == 1) := by
  by_cases h : (p, l) ∈ toL F
  · rw [countF_one hv hp h]
    obtain ⟨k, hk, e⟩ := List.mem_iff_getElem.1 h
    have := (rankOf_at hp hk).2
    rw [getElem!_pos (toL F) k hk, e] at this
    rw [this]
    rfl
  · rw [countF_zero hv h]
    show _ = false
    unfold rankHas
    by_cases hr : rankOf (toL F) (p, l) < (toL F).length
    · rw [decide_eq_true hr, Bool.true_and, decide_eq_false]
      intro e
      rw [getElem!_pos (toL F) _ hr] at e
      exact h (cmpP_zero.1 e ▸ List.getElem_mem hr)
    · rw [decide_eq_false hr, Bool.false_and]
end Tm
end Go.Proofs.YtcjakmafojbhlaaDoor
