/-
  The chapter's examples: the statements' own awake.
  The statements OrderCompares and OrderTotal, as their functions.
  Two new variables of terms, written one behind the other.
-/
import Derived.Test.YtmjlocmcgbnabaaDoorPartG
import Derived.Test.YtmjlocmcgbnabaaDoorPartA
namespace Go.Proofs.YtmjlocmcgbnabaaDoor
set_option linter.unusedVariables false
set_option linter.unusedSimpArgs false
open Go.RowKit
def awF0 : Fo := (.node ((2, 0, ⟨#[99]⟩) : Pay) .nil (.node ((1, 1, ByteArray.empty) : Pay) .nil (.node ((2, 0, ⟨#[98]⟩) : Pay) .nil (.node ((1, 1, ByteArray.empty) : Pay) .nil .nil))))
def awF1 : Fo := (sortR awF0).1
def awF2 : Fo := (stableR awF0).1
def awF3 : Fo := (.node ((2, 0, ⟨#[98]⟩) : Pay) .nil (.node ((1, 1, ByteArray.empty) : Pay) .nil .nil))
def awF4 : Fo := (.node ((2, 0, ⟨#[97]⟩) : Pay) .nil (.node ((1, 2, ByteArray.empty) : Pay) .nil .nil))
def awF5 : Fo := (.node ((2, 0, ⟨#[98]⟩) : Pay) .nil (.node ((1, 0, ByteArray.empty) : Pay) .nil .nil))
def awF6 : Fo := (.node ((3, 0, ⟨#[45]⟩) : Pay) awF3 (.node ((3, 0, ⟨#[45]⟩) : Pay) awF4 (.node ((3, 0, ⟨#[45]⟩) : Pay) awF5 .nil)))
def awF7 : Fo := (keysR awF6).1
def awF8 : Fo := (.node ((2, 0, ⟨#[97]⟩) : Pay) .nil (.node ((2, 0, ⟨#[99]⟩) : Pay) .nil .nil))
def awF9 : Fo := (.node ((2, 0, ⟨#[97]⟩) : Pay) .nil .nil)
def awF10 : Fo := (.node ((2, 0, ⟨#[98]⟩) : Pay) .nil (.node ((2, 0, ⟨#[97]⟩) : Pay) .nil .nil))
def awF11 : Fo := (.node ((1, 1, ByteArray.empty) : Pay) .nil (.node ((2, 0, ⟨#[98]⟩) : Pay) .nil (.node ((2, 0, ⟨#[99]⟩) : Pay) .nil .nil)))
def awF12 : Fo := (.node ((1, 1, ByteArray.empty) : Pay) .nil (.node ((1, 1, ByteArray.empty) : Pay) .nil (.node ((2, 0, ⟨#[98]⟩) : Pay) .nil (.node ((2, 0, ⟨#[99]⟩) : Pay) .nil .nil))))
def awF13 : Fo := (.node ((3, 0, ⟨#[45]⟩) : Pay) awF4 (.node ((3, 0, ⟨#[45]⟩) : Pay) awF3 (.node ((3, 0, ⟨#[45]⟩) : Pay) awF5 .nil)))
noncomputable def aw0Ops : Array Oper := ((Tryd.f14.body).bind (findReg 0)).getD #[]
noncomputable def aw1Ops : Array Oper := ((Tryd.f14.body).bind (findReg 1)).getD #[]
noncomputable def aw2Ops : Array Oper := ((Tryd.f14.body).bind (findReg 2)).getD #[]
noncomputable def aw3Ops : Array Oper := ((Tryd.f14.body).bind (findReg 3)).getD #[]
noncomputable def aw4Ops : Array Oper := ((Tryd.f14.body).bind (findReg 4)).getD #[]
noncomputable def aw5Ops : Array Oper := ((Tryd.f14.body).bind (findReg 5)).getD #[]
theorem aw_body : Tryd.f14.body = some (.seq (.region 0 aw0Ops false) (.seq (.region 1 aw1Ops false) (.seq (.region 2 aw2Ops false) (.seq (.region 3 aw3Ops false) (.seq (.region 4 aw4Ops false) (.seq (.region 5 aw5Ops false) .ret)))))) := by kernel_rfl
theorem aw0_region {Q : Exit → Act → World → Prop}   {w0 : World} {a : Act} {w : World} (h : Hold 141 [(999, .tabs)] w0 a w)
    (hQ : ∀ a' w', Hold 141 [(999, .tabs)] w0 a' w' → Q .normal a' w') : (Code.region 0 aw0Ops false).wp Tryd.prog Q a w := by
  refine region_seq (w0 := w) 1 (by kernel_rfl) ?_
  rw [show List.range 1 = [0] from rfl]
  refine env_one (i := 0) (d := 0) (k := .val (.bool false)) (step_assign (by kernel_rfl) (Opd.const _) rfl) (by kernel_rfl) (by decide) h ?_
  clear h
  intro a w h
  exact hQ a w (h.keep [999])
theorem aw1_region {Q : Exit → Act → World → Prop}   {w0 : World} {a : Act} {w : World} (h : Hold 141 [(999, .tabs)] w0 a w)
    (hQ : ∀ a' w', Hold 141 [(1, .row awF1), (2, .val (.int .i64 (sortR awF0).2)), (999, .tabs)] w0 a' w' → Q .normal a' w') : (Code.region 1 aw1Ops false).wp Tryd.prog Q a w := by
  refine region_seq (w0 := w) 11 (by kernel_rfl) ?_
  rw [show List.range 11 = [0, 1, 2, 3, 4, 5, 6, 7, 8, 9, 10] from rfl]
  refine env_one (i := 0) (d := 10) (k := .term ((2, 0, ⟨#[99]⟩) : Pay) .nil) (step_a (by kernel_rfl) (Opd.const _) rfl) (by kernel_rfl) (by decide) h ?_
  clear h
  intro a w h
  refine env_one (i := 1) (d := 11) (k := .term ((1, 1, ByteArray.empty) : Pay) .nil) (step_n (by kernel_rfl) (Opd.const _) rfl) (by kernel_rfl) (by decide) h ?_
  clear h
  intro a w h
  refine env_one (i := 2) (d := 12) (k := .term ((2, 0, ⟨#[98]⟩) : Pay) .nil) (step_a (by kernel_rfl) (Opd.const _) rfl) (by kernel_rfl) (by decide) h ?_
  clear h
  intro a w h
  refine env_one (i := 3) (d := 13) (k := .term ((1, 1, ByteArray.empty) : Pay) .nil) (step_n (by kernel_rfl) (Opd.const _) rfl) (by kernel_rfl) (by decide) h ?_
  clear h
  intro a w h
  refine env_one (i := 4) (d := 14) (k := .row awF0) (step_slice4 (by kernel_rfl) (Opd.of_base 10 rfl) (Opd.of_base 11 rfl) (Opd.of_base 12 rfl) (Opd.of_base 13 rfl) rfl) (by kernel_rfl) (by decide) h ?_
  clear h
  intro a w h
  refine env_one (i := 5) (d := 15) (k := .rowErr awF1 (sortR awF0).2) (step_osort (by decide) 999 (by kernel_rfl) (Opd.of_base 14 rfl) (Opd.of_base 999 rfl) rfl) (by kernel_rfl) (by decide) h ?_
  clear h
  intro a w h
  refine env_one (i := 6) (d := 9) (k := .rowErr awF1 (sortR awF0).2) (step_move (by kernel_rfl) (Opd.of_base 15 rfl) rfl) (by kernel_rfl) (by decide) h ?_
  clear h
  intro a w h
  refine env_one (i := 7) (d := 16) (k := .row awF1) (step_rowErr0 (by kernel_rfl) (Opd.of_base 9 rfl) rfl) (by kernel_rfl) (by decide) h ?_
  clear h
  intro a w h
  refine env_one (i := 8) (d := 17) (k := .val (.int .i64 (sortR awF0).2)) (step_rowErr1 (by kernel_rfl) (Opd.of_base 9 rfl) rfl) (by kernel_rfl) (by decide) h ?_
  clear h
  intro a w h
  refine env_one (i := 9) (d := 1) (k := .row awF1) (step_assign (by kernel_rfl) (Opd.of_base 16 rfl) rfl) (by kernel_rfl) (by decide) h ?_
  clear h
  intro a w h
  refine env_one (i := 10) (d := 2) (k := .val (.int .i64 (sortR awF0).2)) (step_assign (by kernel_rfl) (Opd.of_base 17 rfl) rfl) (by kernel_rfl) (by decide) h ?_
  clear h
  intro a w h
  exact hQ a w (h.keep [1, 2, 999])
theorem aw2_region {Q : Exit → Act → World → Prop}   {w0 : World} {a : Act} {w : World} (h : Hold 141 [(1, .row awF1), (2, .val (.int .i64 (sortR awF0).2)), (999, .tabs)] w0 a w)
    (hQ : ∀ a' w', Hold 141 [(1, .row awF1), (2, .val (.int .i64 (sortR awF0).2)), (3, .row awF2), (4, .val (.int .i64 (stableR awF0).2)), (999, .tabs)] w0 a' w' → Q .normal a' w') : (Code.region 2 aw2Ops false).wp Tryd.prog Q a w := by
  refine region_seq (w0 := w) 11 (by kernel_rfl) ?_
  rw [show List.range 11 = [0, 1, 2, 3, 4, 5, 6, 7, 8, 9, 10] from rfl]
  refine env_one (i := 0) (d := 19) (k := .term ((2, 0, ⟨#[99]⟩) : Pay) .nil) (step_a (by kernel_rfl) (Opd.const _) rfl) (by kernel_rfl) (by decide) h ?_
  clear h
  intro a w h
  refine env_one (i := 1) (d := 20) (k := .term ((1, 1, ByteArray.empty) : Pay) .nil) (step_n (by kernel_rfl) (Opd.const _) rfl) (by kernel_rfl) (by decide) h ?_
  clear h
  intro a w h
  refine env_one (i := 2) (d := 21) (k := .term ((2, 0, ⟨#[98]⟩) : Pay) .nil) (step_a (by kernel_rfl) (Opd.const _) rfl) (by kernel_rfl) (by decide) h ?_
  clear h
  intro a w h
  refine env_one (i := 3) (d := 22) (k := .term ((1, 1, ByteArray.empty) : Pay) .nil) (step_n (by kernel_rfl) (Opd.const _) rfl) (by kernel_rfl) (by decide) h ?_
  clear h
  intro a w h
  refine env_one (i := 4) (d := 23) (k := .row awF0) (step_slice4 (by kernel_rfl) (Opd.of_base 19 rfl) (Opd.of_base 20 rfl) (Opd.of_base 21 rfl) (Opd.of_base 22 rfl) rfl) (by kernel_rfl) (by decide) h ?_
  clear h
  intro a w h
  refine env_one (i := 5) (d := 24) (k := .rowErr awF2 (stableR awF0).2) (step_ostable (by decide) 999 (by kernel_rfl) (Opd.of_base 23 rfl) (Opd.of_base 999 rfl) rfl) (by kernel_rfl) (by decide) h ?_
  clear h
  intro a w h
  refine env_one (i := 6) (d := 18) (k := .rowErr awF2 (stableR awF0).2) (step_move (by kernel_rfl) (Opd.of_base 24 rfl) rfl) (by kernel_rfl) (by decide) h ?_
  clear h
  intro a w h
  refine env_one (i := 7) (d := 25) (k := .row awF2) (step_rowErr0 (by kernel_rfl) (Opd.of_base 18 rfl) rfl) (by kernel_rfl) (by decide) h ?_
  clear h
  intro a w h
  refine env_one (i := 8) (d := 26) (k := .val (.int .i64 (stableR awF0).2)) (step_rowErr1 (by kernel_rfl) (Opd.of_base 18 rfl) rfl) (by kernel_rfl) (by decide) h ?_
  clear h
  intro a w h
  refine env_one (i := 9) (d := 3) (k := .row awF2) (step_assign (by kernel_rfl) (Opd.of_base 25 rfl) rfl) (by kernel_rfl) (by decide) h ?_
  clear h
  intro a w h
  refine env_one (i := 10) (d := 4) (k := .val (.int .i64 (stableR awF0).2)) (step_assign (by kernel_rfl) (Opd.of_base 26 rfl) rfl) (by kernel_rfl) (by decide) h ?_
  clear h
  intro a w h
  exact hQ a w (h.keep [1, 2, 3, 4, 999])
theorem aw3_region {Q : Exit → Act → World → Prop}   {w0 : World} {a : Act} {w : World} (h : Hold 141 [(1, .row awF1), (2, .val (.int .i64 (sortR awF0).2)), (3, .row awF2), (4, .val (.int .i64 (stableR awF0).2)), (999, .tabs)] w0 a w)
    (hQ : ∀ a' w', Hold 141 [(1, .row awF1), (2, .val (.int .i64 (sortR awF0).2)), (3, .row awF2), (4, .val (.int .i64 (stableR awF0).2)), (5, .row awF7), (6, .val (.int .i64 (keysR awF6).2)), (999, .tabs)] w0 a' w' → Q .normal a' w') : (Code.region 3 aw3Ops false).wp Tryd.prog Q a w := by
  refine region_seq (w0 := w) 19 (by kernel_rfl) ?_
  rw [show List.range 19 = [0, 1, 2, 3, 4, 5, 6, 7, 8, 9, 10, 11, 12, 13, 14, 15, 16, 17, 18] from rfl]
  refine env_one (i := 0) (d := 28) (k := .term ((2, 0, ⟨#[98]⟩) : Pay) .nil) (step_a (by kernel_rfl) (Opd.const _) rfl) (by kernel_rfl) (by decide) h ?_
  clear h
  intro a w h
  refine env_one (i := 1) (d := 29) (k := .term ((1, 1, ByteArray.empty) : Pay) .nil) (step_n (by kernel_rfl) (Opd.const _) rfl) (by kernel_rfl) (by decide) h ?_
  clear h
  intro a w h
  refine env_one (i := 2) (d := 30) (k := .row awF3) (step_slice2 (by kernel_rfl) (Opd.of_base 28 rfl) (Opd.of_base 29 rfl) rfl) (by kernel_rfl) (by decide) h ?_
  clear h
  intro a w h
  refine env_one (i := 3) (d := 31) (k := .term ((3, 0, ⟨#[45]⟩) : Pay) awF3) (step_f (by kernel_rfl) (Opd.const _) (Opd.of_base 30 rfl) rfl) (by kernel_rfl) (by decide) h ?_
  clear h
  intro a w h
  refine env_one (i := 4) (d := 32) (k := .term ((2, 0, ⟨#[97]⟩) : Pay) .nil) (step_a (by kernel_rfl) (Opd.const _) rfl) (by kernel_rfl) (by decide) h ?_
  clear h
  intro a w h
  refine env_one (i := 5) (d := 33) (k := .term ((1, 2, ByteArray.empty) : Pay) .nil) (step_n (by kernel_rfl) (Opd.const _) rfl) (by kernel_rfl) (by decide) h ?_
  clear h
  intro a w h
  refine env_one (i := 6) (d := 34) (k := .row awF4) (step_slice2 (by kernel_rfl) (Opd.of_base 32 rfl) (Opd.of_base 33 rfl) rfl) (by kernel_rfl) (by decide) h ?_
  clear h
  intro a w h
  refine env_one (i := 7) (d := 35) (k := .term ((3, 0, ⟨#[45]⟩) : Pay) awF4) (step_f (by kernel_rfl) (Opd.const _) (Opd.of_base 34 rfl) rfl) (by kernel_rfl) (by decide) h ?_
  clear h
  intro a w h
  refine env_one (i := 8) (d := 36) (k := .term ((2, 0, ⟨#[98]⟩) : Pay) .nil) (step_a (by kernel_rfl) (Opd.const _) rfl) (by kernel_rfl) (by decide) h ?_
  clear h
  intro a w h
  refine env_one (i := 9) (d := 37) (k := .term ((1, 0, ByteArray.empty) : Pay) .nil) (step_n (by kernel_rfl) (Opd.const _) rfl) (by kernel_rfl) (by decide) h ?_
  clear h
  intro a w h
  refine env_one (i := 10) (d := 38) (k := .row awF5) (step_slice2 (by kernel_rfl) (Opd.of_base 36 rfl) (Opd.of_base 37 rfl) rfl) (by kernel_rfl) (by decide) h ?_
  clear h
  intro a w h
  refine env_one (i := 11) (d := 39) (k := .term ((3, 0, ⟨#[45]⟩) : Pay) awF5) (step_f (by kernel_rfl) (Opd.const _) (Opd.of_base 38 rfl) rfl) (by kernel_rfl) (by decide) h ?_
  clear h
  intro a w h
  refine env_one (i := 12) (d := 40) (k := .row awF6) (step_slice3 (by kernel_rfl) (Opd.of_base 31 rfl) (Opd.of_base 35 rfl) (Opd.of_base 39 rfl) rfl) (by kernel_rfl) (by decide) h ?_
  clear h
  intro a w h
  refine env_one (i := 13) (d := 41) (k := .rowErr awF7 (keysR awF6).2) (step_okeys (by decide) 999 (by kernel_rfl) (Opd.of_base 40 rfl) (Opd.of_base 999 rfl) rfl) (by kernel_rfl) (by decide) h ?_
  clear h
  intro a w h
  refine env_one (i := 14) (d := 27) (k := .rowErr awF7 (keysR awF6).2) (step_move (by kernel_rfl) (Opd.of_base 41 rfl) rfl) (by kernel_rfl) (by decide) h ?_
  clear h
  intro a w h
  refine env_one (i := 15) (d := 42) (k := .row awF7) (step_rowErr0 (by kernel_rfl) (Opd.of_base 27 rfl) rfl) (by kernel_rfl) (by decide) h ?_
  clear h
  intro a w h
  refine env_one (i := 16) (d := 43) (k := .val (.int .i64 (keysR awF6).2)) (step_rowErr1 (by kernel_rfl) (Opd.of_base 27 rfl) rfl) (by kernel_rfl) (by decide) h ?_
  clear h
  intro a w h
  refine env_one (i := 17) (d := 5) (k := .row awF7) (step_assign (by kernel_rfl) (Opd.of_base 42 rfl) rfl) (by kernel_rfl) (by decide) h ?_
  clear h
  intro a w h
  refine env_one (i := 18) (d := 6) (k := .val (.int .i64 (keysR awF6).2)) (step_assign (by kernel_rfl) (Opd.of_base 43 rfl) rfl) (by kernel_rfl) (by decide) h ?_
  clear h
  intro a w h
  exact hQ a w (h.keep [1, 2, 3, 4, 5, 6, 999])
theorem aw4_region {Q : Exit → Act → World → Prop}   {w0 : World} {a : Act} {w : World} (h : Hold 141 [(1, .row awF1), (2, .val (.int .i64 (sortR awF0).2)), (3, .row awF2), (4, .val (.int .i64 (stableR awF0).2)), (5, .row awF7), (6, .val (.int .i64 (keysR awF6).2)), (999, .tabs)] w0 a w)
    (hQ : ∀ a' w', Hold 141 [(1, .row awF1), (2, .val (.int .i64 (sortR awF0).2)), (3, .row awF2), (4, .val (.int .i64 (stableR awF0).2)), (5, .row awF7), (6, .val (.int .i64 (keysR awF6).2)), (7, .val (.int .i64 (rankI awF8 ((2, 0, ⟨#[98]⟩) : Pay) .nil))), (8, .val (.bool (rankB awF8 ((2, 0, ⟨#[98]⟩) : Pay) .nil))), (999, .tabs)] w0 a' w' → Q .normal a' w') : (Code.region 4 aw4Ops false).wp Tryd.prog Q a w := by
  refine region_seq (w0 := w) 10 (by kernel_rfl) ?_
  rw [show List.range 10 = [0, 1, 2, 3, 4, 5, 6, 7, 8, 9] from rfl]
  refine env_one (i := 0) (d := 45) (k := .term ((2, 0, ⟨#[97]⟩) : Pay) .nil) (step_a (by kernel_rfl) (Opd.const _) rfl) (by kernel_rfl) (by decide) h ?_
  clear h
  intro a w h
  refine env_one (i := 1) (d := 46) (k := .term ((2, 0, ⟨#[99]⟩) : Pay) .nil) (step_a (by kernel_rfl) (Opd.const _) rfl) (by kernel_rfl) (by decide) h ?_
  clear h
  intro a w h
  refine env_one (i := 2) (d := 47) (k := .row awF8) (step_slice2 (by kernel_rfl) (Opd.of_base 45 rfl) (Opd.of_base 46 rfl) rfl) (by kernel_rfl) (by decide) h ?_
  clear h
  intro a w h
  refine env_one (i := 3) (d := 48) (k := .term ((2, 0, ⟨#[98]⟩) : Pay) .nil) (step_a (by kernel_rfl) (Opd.const _) rfl) (by kernel_rfl) (by decide) h ?_
  clear h
  intro a w h
  refine env_one (i := 4) (d := 49) (k := .val (.tuple #[.int .i64 (rankI awF8 ((2, 0, ⟨#[98]⟩) : Pay) .nil), .bool (rankB awF8 ((2, 0, ⟨#[98]⟩) : Pay) .nil)])) (step_orank (by decide) 999 (by kernel_rfl) (Opd.of_base 47 rfl) (Opd.of_base 48 rfl) (Opd.of_base 999 rfl) rfl) (by kernel_rfl) (by decide) h ?_
  clear h
  intro a w h
  refine env_one (i := 5) (d := 44) (k := .val (.tuple #[.int .i64 (rankI awF8 ((2, 0, ⟨#[98]⟩) : Pay) .nil), .bool (rankB awF8 ((2, 0, ⟨#[98]⟩) : Pay) .nil)])) (step_move (by kernel_rfl) (Opd.of_base 49 rfl) rfl) (by kernel_rfl) (by decide) h ?_
  clear h
  intro a w h
  refine env_one (i := 6) (d := 50) (k := .val (.int .i64 (rankI awF8 ((2, 0, ⟨#[98]⟩) : Pay) .nil))) (step_two0 (by kernel_rfl) (Opd.of_base 44 rfl) rfl) (by kernel_rfl) (by decide) h ?_
  clear h
  intro a w h
  refine env_one (i := 7) (d := 51) (k := .val (.bool (rankB awF8 ((2, 0, ⟨#[98]⟩) : Pay) .nil))) (step_two1 (by kernel_rfl) (Opd.of_base 44 rfl) rfl) (by kernel_rfl) (by decide) h ?_
  clear h
  intro a w h
  refine env_one (i := 8) (d := 7) (k := .val (.int .i64 (rankI awF8 ((2, 0, ⟨#[98]⟩) : Pay) .nil))) (step_assign (by kernel_rfl) (Opd.of_base 50 rfl) rfl) (by kernel_rfl) (by decide) h ?_
  clear h
  intro a w h
  refine env_one (i := 9) (d := 8) (k := .val (.bool (rankB awF8 ((2, 0, ⟨#[98]⟩) : Pay) .nil))) (step_assign (by kernel_rfl) (Opd.of_base 51 rfl) rfl) (by kernel_rfl) (by decide) h ?_
  clear h
  intro a w h
  exact hQ a w (h.keep [1, 2, 3, 4, 5, 6, 7, 8, 999])
theorem aw5_region {Q : Exit → Act → World → Prop}   {w0 : World} {a : Act} {w : World} (h : Hold 141 [(1, .row awF1), (2, .val (.int .i64 (sortR awF0).2)), (3, .row awF2), (4, .val (.int .i64 (stableR awF0).2)), (5, .row awF7), (6, .val (.int .i64 (keysR awF6).2)), (7, .val (.int .i64 (rankI awF8 ((2, 0, ⟨#[98]⟩) : Pay) .nil))), (8, .val (.bool false)), (999, .tabs)] w0 a w)
    (hQ : ∀ a' w', Hold 141 [(0, .val (.bool true))] w0 a' w' → Q .normal a' w') : (Code.region 5 aw5Ops false).wp Tryd.prog Q a w := by
  refine region_seq (w0 := w) 90 (by kernel_rfl) ?_
  rw [show List.range 90 = [0, 1, 2, 3, 4, 5, 6, 7, 8, 9, 10, 11, 12, 13, 14, 15, 16, 17, 18, 19, 20, 21, 22, 23, 24, 25, 26, 27, 28, 29, 30, 31, 32, 33, 34, 35, 36, 37, 38, 39, 40, 41, 42, 43, 44, 45, 46, 47, 48, 49, 50, 51, 52, 53, 54, 55, 56, 57, 58, 59, 60, 61, 62, 63, 64, 65, 66, 67, 68, 69, 70, 71, 72, 73, 74, 75, 76, 77, 78, 79, 80, 81, 82, 83, 84, 85, 86, 87, 88, 89] from rfl]
  refine env_one (i := 0) (d := 52) (k := .term ((0, 5, ByteArray.empty) : Pay) .nil) (step_x (by kernel_rfl) (Opd.const _) rfl) (by kernel_rfl) (by decide) h ?_
  clear h
  intro a w h
  refine env_one (i := 1) (d := 53) (k := .term ((1, 3, ByteArray.empty) : Pay) .nil) (step_n (by kernel_rfl) (Opd.const _) rfl) (by kernel_rfl) (by decide) h ?_
  clear h
  intro a w h
  refine env_one (i := 2) (d := 54) (k := .val (.int .i64 (Tm.cmpV ((0, 5, ByteArray.empty) : Pay) .nil ((1, 3, ByteArray.empty) : Pay) .nil))) (step_ocmp 999 (by kernel_rfl) (Opd.of_base 52 rfl) (Opd.of_base 53 rfl) (Opd.of_base 999 rfl) rfl) (by kernel_rfl) (by decide) h ?_
  clear h
  intro a w h
  refine env_one (i := 3) (d := 55) (k := .val (.bool true)) (step_eqb_int (m := (Tm.cmpV ((0, 5, ByteArray.empty) : Pay) .nil ((1, 3, ByteArray.empty) : Pay) .nil)) (n := (-1)) (by kernel_rfl) (Opd.of_base 54 rfl) (Opd.const _) (by kernel_rfl) rfl) (by kernel_rfl) (by decide) h ?_
  clear h
  intro a w h
  refine env_one (i := 4) (d := 56) (k := .val (.bool true)) (step_move (by kernel_rfl) (Opd.of_base 55 rfl) rfl) (by kernel_rfl) (by decide) h ?_
  clear h
  intro a w h
  refine env_guard (i := 5) (d := 57) (g := 4) (dg := 56) (b := true) (k := .term ((1, 3, ByteArray.empty) : Pay) .nil) (step_n (by kernel_rfl) (Opd.const _) rfl) (by kernel_rfl) (by decide) (by kernel_rfl) (by decide) rfl h ?_
  clear h
  intro a w h
  refine env_guard (i := 6) (d := 58) (g := 4) (dg := 56) (b := true) (k := .term ((2, 0, ⟨#[97]⟩) : Pay) .nil) (step_a (by kernel_rfl) (Opd.const _) rfl) (by kernel_rfl) (by decide) (by kernel_rfl) (by decide) rfl h ?_
  clear h
  intro a w h
  refine env_guard (i := 7) (d := 59) (g := 4) (dg := 56) (b := true) (k := .val (.int .i64 (Tm.cmpV ((1, 3, ByteArray.empty) : Pay) .nil ((2, 0, ⟨#[97]⟩) : Pay) .nil))) (step_ocmp 999 (by kernel_rfl) (Opd.of_base 57 rfl) (Opd.of_base 58 rfl) (Opd.of_base 999 rfl) rfl) (by kernel_rfl) (by decide) (by kernel_rfl) (by decide) rfl h ?_
  clear h
  intro a w h
  refine env_guard (i := 8) (d := 60) (g := 4) (dg := 56) (b := true) (k := .val (.bool true)) (step_eqb_int (m := (Tm.cmpV ((1, 3, ByteArray.empty) : Pay) .nil ((2, 0, ⟨#[97]⟩) : Pay) .nil)) (n := (-1)) (by kernel_rfl) (Opd.of_base 59 rfl) (Opd.const _) (by kernel_rfl) rfl) (by kernel_rfl) (by decide) (by kernel_rfl) (by decide) rfl h ?_
  clear h
  intro a w h
  refine env_one (i := 9) (d := 61) (k := .val (.bool true)) (step_pick_yes (y := .const (.bool false)) (by kernel_rfl) (Opd.of_base 56 rfl) (Opd.of_base 60 rfl) rfl) (by kernel_rfl) (by decide) h ?_
  clear h
  intro a w h
  refine env_one (i := 10) (d := 62) (k := .val (.bool true)) (step_move (by kernel_rfl) (Opd.of_base 61 rfl) rfl) (by kernel_rfl) (by decide) h ?_
  clear h
  intro a w h
  refine env_guard (i := 11) (d := 63) (g := 10) (dg := 62) (b := true) (k := .term ((2, 0, ⟨#[122, 122, 122]⟩) : Pay) .nil) (step_a (by kernel_rfl) (Opd.const _) rfl) (by kernel_rfl) (by decide) (by kernel_rfl) (by decide) rfl h ?_
  clear h
  intro a w h
  refine env_guard (i := 12) (d := 64) (g := 10) (dg := 62) (b := true) (k := .term ((2, 0, ⟨#[97]⟩) : Pay) .nil) (step_a (by kernel_rfl) (Opd.const _) rfl) (by kernel_rfl) (by decide) (by kernel_rfl) (by decide) rfl h ?_
  clear h
  intro a w h
  refine env_guard (i := 13) (d := 65) (g := 10) (dg := 62) (b := true) (k := .row awF9) (step_slice1 (by kernel_rfl) (Opd.of_base 64 rfl) rfl) (by kernel_rfl) (by decide) (by kernel_rfl) (by decide) rfl h ?_
  clear h
  intro a w h
  refine env_guard (i := 14) (d := 66) (g := 10) (dg := 62) (b := true) (k := .term ((3, 0, ⟨#[102]⟩) : Pay) awF9) (step_f (by kernel_rfl) (Opd.const _) (Opd.of_base 65 rfl) rfl) (by kernel_rfl) (by decide) (by kernel_rfl) (by decide) rfl h ?_
  clear h
  intro a w h
  refine env_guard (i := 15) (d := 67) (g := 10) (dg := 62) (b := true) (k := .val (.int .i64 (Tm.cmpV ((2, 0, ⟨#[122, 122, 122]⟩) : Pay) .nil ((3, 0, ⟨#[102]⟩) : Pay) awF9))) (step_ocmp 999 (by kernel_rfl) (Opd.of_base 63 rfl) (Opd.of_base 66 rfl) (Opd.of_base 999 rfl) rfl) (by kernel_rfl) (by decide) (by kernel_rfl) (by decide) rfl h ?_
  clear h
  intro a w h
  refine env_guard (i := 16) (d := 68) (g := 10) (dg := 62) (b := true) (k := .val (.bool true)) (step_eqb_int (m := (Tm.cmpV ((2, 0, ⟨#[122, 122, 122]⟩) : Pay) .nil ((3, 0, ⟨#[102]⟩) : Pay) awF9)) (n := (-1)) (by kernel_rfl) (Opd.of_base 67 rfl) (Opd.const _) (by kernel_rfl) rfl) (by kernel_rfl) (by decide) (by kernel_rfl) (by decide) rfl h ?_
  clear h
  intro a w h
  refine env_one (i := 17) (d := 69) (k := .val (.bool true)) (step_pick_yes (y := .const (.bool false)) (by kernel_rfl) (Opd.of_base 62 rfl) (Opd.of_base 68 rfl) rfl) (by kernel_rfl) (by decide) h ?_
  clear h
  intro a w h
  refine env_one (i := 18) (d := 70) (k := .val (.bool true)) (step_move (by kernel_rfl) (Opd.of_base 69 rfl) rfl) (by kernel_rfl) (by decide) h ?_
  clear h
  intro a w h
  refine env_guard (i := 19) (d := 71) (g := 18) (dg := 70) (b := true) (k := .term ((2, 0, ⟨#[98]⟩) : Pay) .nil) (step_a (by kernel_rfl) (Opd.const _) rfl) (by kernel_rfl) (by decide) (by kernel_rfl) (by decide) rfl h ?_
  clear h
  intro a w h
  refine env_guard (i := 20) (d := 72) (g := 18) (dg := 70) (b := true) (k := .term ((2, 0, ⟨#[97]⟩) : Pay) .nil) (step_a (by kernel_rfl) (Opd.const _) rfl) (by kernel_rfl) (by decide) (by kernel_rfl) (by decide) rfl h ?_
  clear h
  intro a w h
  refine env_guard (i := 21) (d := 73) (g := 18) (dg := 70) (b := true) (k := .row awF10) (step_slice2 (by kernel_rfl) (Opd.of_base 71 rfl) (Opd.of_base 72 rfl) rfl) (by kernel_rfl) (by decide) (by kernel_rfl) (by decide) rfl h ?_
  clear h
  intro a w h
  refine env_guard (i := 22) (d := 74) (g := 18) (dg := 70) (b := true) (k := .term ((3, 0, ⟨#[102]⟩) : Pay) awF10) (step_f (by kernel_rfl) (Opd.const _) (Opd.of_base 73 rfl) rfl) (by kernel_rfl) (by decide) (by kernel_rfl) (by decide) rfl h ?_
  clear h
  intro a w h
  refine env_guard (i := 23) (d := 75) (g := 18) (dg := 70) (b := true) (k := .term ((2, 0, ⟨#[97]⟩) : Pay) .nil) (step_a (by kernel_rfl) (Opd.const _) rfl) (by kernel_rfl) (by decide) (by kernel_rfl) (by decide) rfl h ?_
  clear h
  intro a w h
  refine env_guard (i := 24) (d := 76) (g := 18) (dg := 70) (b := true) (k := .row awF9) (step_slice1 (by kernel_rfl) (Opd.of_base 75 rfl) rfl) (by kernel_rfl) (by decide) (by kernel_rfl) (by decide) rfl h ?_
  clear h
  intro a w h
  refine env_guard (i := 25) (d := 77) (g := 18) (dg := 70) (b := true) (k := .term ((3, 0, ⟨#[103]⟩) : Pay) awF9) (step_f (by kernel_rfl) (Opd.const _) (Opd.of_base 76 rfl) rfl) (by kernel_rfl) (by decide) (by kernel_rfl) (by decide) rfl h ?_
  clear h
  intro a w h
  refine env_guard (i := 26) (d := 78) (g := 18) (dg := 70) (b := true) (k := .val (.int .i64 (Tm.cmpV ((3, 0, ⟨#[102]⟩) : Pay) awF10 ((3, 0, ⟨#[103]⟩) : Pay) awF9))) (step_ocmp 999 (by kernel_rfl) (Opd.of_base 74 rfl) (Opd.of_base 77 rfl) (Opd.of_base 999 rfl) rfl) (by kernel_rfl) (by decide) (by kernel_rfl) (by decide) rfl h ?_
  clear h
  intro a w h
  refine env_guard (i := 27) (d := 79) (g := 18) (dg := 70) (b := true) (k := .val (.bool true)) (step_eqb_int (m := (Tm.cmpV ((3, 0, ⟨#[102]⟩) : Pay) awF10 ((3, 0, ⟨#[103]⟩) : Pay) awF9)) (n := 1) (by kernel_rfl) (Opd.of_base 78 rfl) (Opd.const _) (by kernel_rfl) rfl) (by kernel_rfl) (by decide) (by kernel_rfl) (by decide) rfl h ?_
  clear h
  intro a w h
  refine env_one (i := 28) (d := 80) (k := .val (.bool true)) (step_pick_yes (y := .const (.bool false)) (by kernel_rfl) (Opd.of_base 70 rfl) (Opd.of_base 79 rfl) rfl) (by kernel_rfl) (by decide) h ?_
  clear h
  intro a w h
  refine env_one (i := 29) (d := 81) (k := .val (.bool true)) (step_move (by kernel_rfl) (Opd.of_base 80 rfl) rfl) (by kernel_rfl) (by decide) h ?_
  clear h
  intro a w h
  refine env_guard (i := 30) (d := 82) (g := 29) (dg := 81) (b := true) (k := .term ((2, 0, ⟨#[97, 98]⟩) : Pay) .nil) (step_a (by kernel_rfl) (Opd.const _) rfl) (by kernel_rfl) (by decide) (by kernel_rfl) (by decide) rfl h ?_
  clear h
  intro a w h
  refine env_guard (i := 31) (d := 83) (g := 29) (dg := 81) (b := true) (k := .term ((2, 0, ⟨#[97]⟩) : Pay) .nil) (step_a (by kernel_rfl) (Opd.const _) rfl) (by kernel_rfl) (by decide) (by kernel_rfl) (by decide) rfl h ?_
  clear h
  intro a w h
  refine env_guard (i := 32) (d := 84) (g := 29) (dg := 81) (b := true) (k := .val (.int .i64 (Tm.cmpV ((2, 0, ⟨#[97, 98]⟩) : Pay) .nil ((2, 0, ⟨#[97]⟩) : Pay) .nil))) (step_ocmp 999 (by kernel_rfl) (Opd.of_base 82 rfl) (Opd.of_base 83 rfl) (Opd.of_base 999 rfl) rfl) (by kernel_rfl) (by decide) (by kernel_rfl) (by decide) rfl h ?_
  clear h
  intro a w h
  refine env_guard (i := 33) (d := 85) (g := 29) (dg := 81) (b := true) (k := .val (.bool true)) (step_eqb_int (m := (Tm.cmpV ((2, 0, ⟨#[97, 98]⟩) : Pay) .nil ((2, 0, ⟨#[97]⟩) : Pay) .nil)) (n := 1) (by kernel_rfl) (Opd.of_base 84 rfl) (Opd.const _) (by kernel_rfl) rfl) (by kernel_rfl) (by decide) (by kernel_rfl) (by decide) rfl h ?_
  clear h
  intro a w h
  refine env_one (i := 34) (d := 86) (k := .val (.bool true)) (step_pick_yes (y := .const (.bool false)) (by kernel_rfl) (Opd.of_base 81 rfl) (Opd.of_base 85 rfl) rfl) (by kernel_rfl) (by decide) h ?_
  clear h
  intro a w h
  refine env_one (i := 35) (d := 87) (k := .val (.bool true)) (step_move (by kernel_rfl) (Opd.of_base 86 rfl) rfl) (by kernel_rfl) (by decide) h ?_
  clear h
  intro a w h
  refine env_guard (i := 36) (d := 88) (g := 35) (dg := 87) (b := true) (k := .val (.int .i64 (sortR awF0).2)) (step_move (by kernel_rfl) (Opd.of_base 2 rfl) rfl) (by kernel_rfl) (by decide) (by kernel_rfl) (by decide) rfl h ?_
  clear h
  intro a w h
  refine env_guard (i := 37) (d := 89) (g := 35) (dg := 87) (b := true) (k := .val (.bool true)) (step_eqb_err (m := (sortR awF0).2) (n := 0) (by kernel_rfl) (Opd.of_base 88 rfl) (Opd.const _) (by kernel_rfl) rfl) (by kernel_rfl) (by decide) (by kernel_rfl) (by decide) rfl h ?_
  clear h
  intro a w h
  refine env_one (i := 38) (d := 90) (k := .val (.bool true)) (step_pick_yes (y := .const (.bool false)) (by kernel_rfl) (Opd.of_base 87 rfl) (Opd.of_base 89 rfl) rfl) (by kernel_rfl) (by decide) h ?_
  clear h
  intro a w h
  refine env_one (i := 39) (d := 91) (k := .val (.bool true)) (step_move (by kernel_rfl) (Opd.of_base 90 rfl) rfl) (by kernel_rfl) (by decide) h ?_
  clear h
  intro a w h
  refine env_guard (i := 40) (d := 92) (g := 39) (dg := 91) (b := true) (k := .row awF1) (step_move (by kernel_rfl) (Opd.of_base 1 rfl) rfl) (by kernel_rfl) (by decide) (by kernel_rfl) (by decide) rfl h ?_
  clear h
  intro a w h
  refine env_guard (i := 41) (d := 93) (g := 39) (dg := 91) (b := true) (k := .term ((1, 1, ByteArray.empty) : Pay) .nil) (step_n (by kernel_rfl) (Opd.const _) rfl) (by kernel_rfl) (by decide) (by kernel_rfl) (by decide) rfl h ?_
  clear h
  intro a w h
  refine env_guard (i := 42) (d := 94) (g := 39) (dg := 91) (b := true) (k := .term ((2, 0, ⟨#[98]⟩) : Pay) .nil) (step_a (by kernel_rfl) (Opd.const _) rfl) (by kernel_rfl) (by decide) (by kernel_rfl) (by decide) rfl h ?_
  clear h
  intro a w h
  refine env_guard (i := 43) (d := 95) (g := 39) (dg := 91) (b := true) (k := .term ((2, 0, ⟨#[99]⟩) : Pay) .nil) (step_a (by kernel_rfl) (Opd.const _) rfl) (by kernel_rfl) (by decide) (by kernel_rfl) (by decide) rfl h ?_
  clear h
  intro a w h
  refine env_guard (i := 44) (d := 96) (g := 39) (dg := 91) (b := true) (k := .row awF11) (step_slice3 (by kernel_rfl) (Opd.of_base 93 rfl) (Opd.of_base 94 rfl) (Opd.of_base 95 rfl) rfl) (by kernel_rfl) (by decide) (by kernel_rfl) (by decide) rfl h ?_
  clear h
  intro a w h
  refine env_guard (i := 45) (d := 97) (g := 39) (dg := 91) (b := true) (k := .val (.bool true)) (step_sameAll (by decide) (by kernel_rfl) (Opd.of_base 92 rfl) (Opd.of_base 96 rfl) (by kernel_rfl) rfl) (by kernel_rfl) (by decide) (by kernel_rfl) (by decide) rfl h ?_
  clear h
  intro a w h
  refine env_one (i := 46) (d := 98) (k := .val (.bool true)) (step_pick_yes (y := .const (.bool false)) (by kernel_rfl) (Opd.of_base 91 rfl) (Opd.of_base 97 rfl) rfl) (by kernel_rfl) (by decide) h ?_
  clear h
  intro a w h
  refine env_one (i := 47) (d := 99) (k := .val (.bool true)) (step_move (by kernel_rfl) (Opd.of_base 98 rfl) rfl) (by kernel_rfl) (by decide) h ?_
  clear h
  intro a w h
  refine env_guard (i := 48) (d := 100) (g := 47) (dg := 99) (b := true) (k := .val (.int .i64 (stableR awF0).2)) (step_move (by kernel_rfl) (Opd.of_base 4 rfl) rfl) (by kernel_rfl) (by decide) (by kernel_rfl) (by decide) rfl h ?_
  clear h
  intro a w h
  refine env_guard (i := 49) (d := 101) (g := 47) (dg := 99) (b := true) (k := .val (.bool true)) (step_eqb_err (m := (stableR awF0).2) (n := 0) (by kernel_rfl) (Opd.of_base 100 rfl) (Opd.const _) (by kernel_rfl) rfl) (by kernel_rfl) (by decide) (by kernel_rfl) (by decide) rfl h ?_
  clear h
  intro a w h
  refine env_one (i := 50) (d := 102) (k := .val (.bool true)) (step_pick_yes (y := .const (.bool false)) (by kernel_rfl) (Opd.of_base 99 rfl) (Opd.of_base 101 rfl) rfl) (by kernel_rfl) (by decide) h ?_
  clear h
  intro a w h
  refine env_one (i := 51) (d := 103) (k := .val (.bool true)) (step_move (by kernel_rfl) (Opd.of_base 102 rfl) rfl) (by kernel_rfl) (by decide) h ?_
  clear h
  intro a w h
  refine env_guard (i := 52) (d := 104) (g := 51) (dg := 103) (b := true) (k := .row awF2) (step_move (by kernel_rfl) (Opd.of_base 3 rfl) rfl) (by kernel_rfl) (by decide) (by kernel_rfl) (by decide) rfl h ?_
  clear h
  intro a w h
  refine env_guard (i := 53) (d := 105) (g := 51) (dg := 103) (b := true) (k := .term ((1, 1, ByteArray.empty) : Pay) .nil) (step_n (by kernel_rfl) (Opd.const _) rfl) (by kernel_rfl) (by decide) (by kernel_rfl) (by decide) rfl h ?_
  clear h
  intro a w h
  refine env_guard (i := 54) (d := 106) (g := 51) (dg := 103) (b := true) (k := .term ((1, 1, ByteArray.empty) : Pay) .nil) (step_n (by kernel_rfl) (Opd.const _) rfl) (by kernel_rfl) (by decide) (by kernel_rfl) (by decide) rfl h ?_
  clear h
  intro a w h
  refine env_guard (i := 55) (d := 107) (g := 51) (dg := 103) (b := true) (k := .term ((2, 0, ⟨#[98]⟩) : Pay) .nil) (step_a (by kernel_rfl) (Opd.const _) rfl) (by kernel_rfl) (by decide) (by kernel_rfl) (by decide) rfl h ?_
  clear h
  intro a w h
  refine env_guard (i := 56) (d := 108) (g := 51) (dg := 103) (b := true) (k := .term ((2, 0, ⟨#[99]⟩) : Pay) .nil) (step_a (by kernel_rfl) (Opd.const _) rfl) (by kernel_rfl) (by decide) (by kernel_rfl) (by decide) rfl h ?_
  clear h
  intro a w h
  refine env_guard (i := 57) (d := 109) (g := 51) (dg := 103) (b := true) (k := .row awF12) (step_slice4 (by kernel_rfl) (Opd.of_base 105 rfl) (Opd.of_base 106 rfl) (Opd.of_base 107 rfl) (Opd.of_base 108 rfl) rfl) (by kernel_rfl) (by decide) (by kernel_rfl) (by decide) rfl h ?_
  clear h
  intro a w h
  refine env_guard (i := 58) (d := 110) (g := 51) (dg := 103) (b := true) (k := .val (.bool true)) (step_sameAll (by decide) (by kernel_rfl) (Opd.of_base 104 rfl) (Opd.of_base 109 rfl) (by kernel_rfl) rfl) (by kernel_rfl) (by decide) (by kernel_rfl) (by decide) rfl h ?_
  clear h
  intro a w h
  refine env_one (i := 59) (d := 111) (k := .val (.bool true)) (step_pick_yes (y := .const (.bool false)) (by kernel_rfl) (Opd.of_base 103 rfl) (Opd.of_base 110 rfl) rfl) (by kernel_rfl) (by decide) h ?_
  clear h
  intro a w h
  refine env_one (i := 60) (d := 112) (k := .val (.bool true)) (step_move (by kernel_rfl) (Opd.of_base 111 rfl) rfl) (by kernel_rfl) (by decide) h ?_
  clear h
  intro a w h
  refine env_guard (i := 61) (d := 113) (g := 60) (dg := 112) (b := true) (k := .val (.int .i64 (keysR awF6).2)) (step_move (by kernel_rfl) (Opd.of_base 6 rfl) rfl) (by kernel_rfl) (by decide) (by kernel_rfl) (by decide) rfl h ?_
  clear h
  intro a w h
  refine env_guard (i := 62) (d := 114) (g := 60) (dg := 112) (b := true) (k := .val (.bool true)) (step_eqb_err (m := (keysR awF6).2) (n := 0) (by kernel_rfl) (Opd.of_base 113 rfl) (Opd.const _) (by kernel_rfl) rfl) (by kernel_rfl) (by decide) (by kernel_rfl) (by decide) rfl h ?_
  clear h
  intro a w h
  refine env_one (i := 63) (d := 115) (k := .val (.bool true)) (step_pick_yes (y := .const (.bool false)) (by kernel_rfl) (Opd.of_base 112 rfl) (Opd.of_base 114 rfl) rfl) (by kernel_rfl) (by decide) h ?_
  clear h
  intro a w h
  refine env_one (i := 64) (d := 116) (k := .val (.bool true)) (step_move (by kernel_rfl) (Opd.of_base 115 rfl) rfl) (by kernel_rfl) (by decide) h ?_
  clear h
  intro a w h
  refine env_guard (i := 65) (d := 117) (g := 64) (dg := 116) (b := true) (k := .row awF7) (step_move (by kernel_rfl) (Opd.of_base 5 rfl) rfl) (by kernel_rfl) (by decide) (by kernel_rfl) (by decide) rfl h ?_
  clear h
  intro a w h
  refine env_guard (i := 66) (d := 118) (g := 64) (dg := 116) (b := true) (k := .term ((2, 0, ⟨#[97]⟩) : Pay) .nil) (step_a (by kernel_rfl) (Opd.const _) rfl) (by kernel_rfl) (by decide) (by kernel_rfl) (by decide) rfl h ?_
  clear h
  intro a w h
  refine env_guard (i := 67) (d := 119) (g := 64) (dg := 116) (b := true) (k := .term ((1, 2, ByteArray.empty) : Pay) .nil) (step_n (by kernel_rfl) (Opd.const _) rfl) (by kernel_rfl) (by decide) (by kernel_rfl) (by decide) rfl h ?_
  clear h
  intro a w h
  refine env_guard (i := 68) (d := 120) (g := 64) (dg := 116) (b := true) (k := .row awF4) (step_slice2 (by kernel_rfl) (Opd.of_base 118 rfl) (Opd.of_base 119 rfl) rfl) (by kernel_rfl) (by decide) (by kernel_rfl) (by decide) rfl h ?_
  clear h
  intro a w h
  refine env_guard (i := 69) (d := 121) (g := 64) (dg := 116) (b := true) (k := .term ((3, 0, ⟨#[45]⟩) : Pay) awF4) (step_f (by kernel_rfl) (Opd.const _) (Opd.of_base 120 rfl) rfl) (by kernel_rfl) (by decide) (by kernel_rfl) (by decide) rfl h ?_
  clear h
  intro a w h
  refine env_guard (i := 70) (d := 122) (g := 64) (dg := 116) (b := true) (k := .term ((2, 0, ⟨#[98]⟩) : Pay) .nil) (step_a (by kernel_rfl) (Opd.const _) rfl) (by kernel_rfl) (by decide) (by kernel_rfl) (by decide) rfl h ?_
  clear h
  intro a w h
  refine env_guard (i := 71) (d := 123) (g := 64) (dg := 116) (b := true) (k := .term ((1, 1, ByteArray.empty) : Pay) .nil) (step_n (by kernel_rfl) (Opd.const _) rfl) (by kernel_rfl) (by decide) (by kernel_rfl) (by decide) rfl h ?_
  clear h
  intro a w h
  refine env_guard (i := 72) (d := 124) (g := 64) (dg := 116) (b := true) (k := .row awF3) (step_slice2 (by kernel_rfl) (Opd.of_base 122 rfl) (Opd.of_base 123 rfl) rfl) (by kernel_rfl) (by decide) (by kernel_rfl) (by decide) rfl h ?_
  clear h
  intro a w h
  refine env_guard (i := 73) (d := 125) (g := 64) (dg := 116) (b := true) (k := .term ((3, 0, ⟨#[45]⟩) : Pay) awF3) (step_f (by kernel_rfl) (Opd.const _) (Opd.of_base 124 rfl) rfl) (by kernel_rfl) (by decide) (by kernel_rfl) (by decide) rfl h ?_
  clear h
  intro a w h
  refine env_guard (i := 74) (d := 126) (g := 64) (dg := 116) (b := true) (k := .term ((2, 0, ⟨#[98]⟩) : Pay) .nil) (step_a (by kernel_rfl) (Opd.const _) rfl) (by kernel_rfl) (by decide) (by kernel_rfl) (by decide) rfl h ?_
  clear h
  intro a w h
  refine env_guard (i := 75) (d := 127) (g := 64) (dg := 116) (b := true) (k := .term ((1, 0, ByteArray.empty) : Pay) .nil) (step_n (by kernel_rfl) (Opd.const _) rfl) (by kernel_rfl) (by decide) (by kernel_rfl) (by decide) rfl h ?_
  clear h
  intro a w h
  refine env_guard (i := 76) (d := 128) (g := 64) (dg := 116) (b := true) (k := .row awF5) (step_slice2 (by kernel_rfl) (Opd.of_base 126 rfl) (Opd.of_base 127 rfl) rfl) (by kernel_rfl) (by decide) (by kernel_rfl) (by decide) rfl h ?_
  clear h
  intro a w h
  refine env_guard (i := 77) (d := 129) (g := 64) (dg := 116) (b := true) (k := .term ((3, 0, ⟨#[45]⟩) : Pay) awF5) (step_f (by kernel_rfl) (Opd.const _) (Opd.of_base 128 rfl) rfl) (by kernel_rfl) (by decide) (by kernel_rfl) (by decide) rfl h ?_
  clear h
  intro a w h
  refine env_guard (i := 78) (d := 130) (g := 64) (dg := 116) (b := true) (k := .row awF13) (step_slice3 (by kernel_rfl) (Opd.of_base 121 rfl) (Opd.of_base 125 rfl) (Opd.of_base 129 rfl) rfl) (by kernel_rfl) (by decide) (by kernel_rfl) (by decide) rfl h ?_
  clear h
  intro a w h
  refine env_guard (i := 79) (d := 131) (g := 64) (dg := 116) (b := true) (k := .val (.bool true)) (step_sameAll (by decide) (by kernel_rfl) (Opd.of_base 117 rfl) (Opd.of_base 130 rfl) (by kernel_rfl) rfl) (by kernel_rfl) (by decide) (by kernel_rfl) (by decide) rfl h ?_
  clear h
  intro a w h
  refine env_one (i := 80) (d := 132) (k := .val (.bool true)) (step_pick_yes (y := .const (.bool false)) (by kernel_rfl) (Opd.of_base 116 rfl) (Opd.of_base 131 rfl) rfl) (by kernel_rfl) (by decide) h ?_
  clear h
  intro a w h
  refine env_one (i := 81) (d := 133) (k := .val (.bool true)) (step_move (by kernel_rfl) (Opd.of_base 132 rfl) rfl) (by kernel_rfl) (by decide) h ?_
  clear h
  intro a w h
  refine env_guard (i := 82) (d := 134) (g := 81) (dg := 133) (b := true) (k := .val (.int .i64 (rankI awF8 ((2, 0, ⟨#[98]⟩) : Pay) .nil))) (step_move (by kernel_rfl) (Opd.of_base 7 rfl) rfl) (by kernel_rfl) (by decide) (by kernel_rfl) (by decide) rfl h ?_
  clear h
  intro a w h
  refine env_guard (i := 83) (d := 135) (g := 81) (dg := 133) (b := true) (k := .val (.bool true)) (step_eqb_int (m := (rankI awF8 ((2, 0, ⟨#[98]⟩) : Pay) .nil)) (n := 1) (by kernel_rfl) (Opd.of_base 134 rfl) (Opd.const _) (by kernel_rfl) rfl) (by kernel_rfl) (by decide) (by kernel_rfl) (by decide) rfl h ?_
  clear h
  intro a w h
  refine env_one (i := 84) (d := 136) (k := .val (.bool true)) (step_pick_yes (y := .const (.bool false)) (by kernel_rfl) (Opd.of_base 133 rfl) (Opd.of_base 135 rfl) rfl) (by kernel_rfl) (by decide) h ?_
  clear h
  intro a w h
  refine env_one (i := 85) (d := 137) (k := .val (.bool true)) (step_move (by kernel_rfl) (Opd.of_base 136 rfl) rfl) (by kernel_rfl) (by decide) h ?_
  clear h
  intro a w h
  refine env_guard (i := 86) (d := 138) (g := 85) (dg := 137) (b := true) (k := .val (.bool false)) (step_move (by kernel_rfl) (Opd.of_base 8 rfl) rfl) (by kernel_rfl) (by decide) (by kernel_rfl) (by decide) rfl h ?_
  clear h
  intro a w h
  refine env_guard (i := 87) (d := 139) (g := 85) (dg := 137) (b := true) (k := .val (.bool true)) (step_not (b := false) (by kernel_rfl) (by simpa using (Opd.of_base 138 rfl)) rfl) (by kernel_rfl) (by decide) (by kernel_rfl) (by decide) rfl h ?_
  clear h
  intro a w h
  refine env_one (i := 88) (d := 140) (k := .val (.bool true)) (step_pick_yes (y := .const (.bool false)) (by kernel_rfl) (Opd.of_base 137 rfl) (Opd.of_base 139 rfl) rfl) (by kernel_rfl) (by decide) h ?_
  clear h
  intro a w h
  refine env_one (i := 89) (d := 0) (k := .val (.bool true)) (step_assign (by kernel_rfl) (Opd.of_base 140 rfl) rfl) (by kernel_rfl) (by decide) h ?_
  clear h
  intro a w h
  exact hQ a w (h.keep [0])

theorem awake_any (w : World) (hT : Tabs w) : Calls Tryd.prog 14 #[] w fun e w' => e = .returned (.bool true) ∧ Below w.heap.size w w' := by
  refine calls_of_wp Tryd.func14 aw_body ?_
  have hsN : ((#[] : Array Value) ++ Array.replicate (Tryd.f14.ntmps - (#[] : Array Value).size) undef : Array Value).size = 141 := by kernel_rfl
  generalize ((#[] : Array Value) ++ Array.replicate (Tryd.f14.ntmps - (#[] : Array Value).size) undef : Array Value) = tm at hsN  ⊢
  refine wp_seq ?_
  refine aw0_region (w0 := w) ⟨hsN, rfl, Below.refl _ _, (slots_cons 999 (k0 := .tabs) hT slots_nil)⟩ ?_
  intro a w1 h
  show Code.wp _ _ _ a w1
  refine wp_seq ?_
  refine aw1_region h ?_
  intro a w1 h
  show Code.wp _ _ _ a w1
  refine wp_seq ?_
  refine aw2_region h ?_
  intro a w1 h
  show Code.wp _ _ _ a w1
  refine wp_seq ?_
  refine aw3_region h ?_
  intro a w1 h
  show Code.wp _ _ _ a w1
  refine wp_seq ?_
  refine aw4_region h ?_
  intro a w1 h
  show Code.wp _ _ _ a w1
  refine wp_seq ?_
  refine aw5_region h ?_
  intro a w1 h
  show Code.wp _ _ _ a w1
  refine wp_ret ?_
  (try simp only [then_ret, block_ret])
  refine law_out rfl (h.get 0 rfl) h.defers ⟨rfl, h.world⟩
end Go.Proofs.YtmjlocmcgbnabaaDoor
namespace Go.Proofs.YtmjlocmcgbnabaaDoor
set_option linter.unusedVariables false
set_option linter.unusedSimpArgs false
open Go.RowKit
section
variable {ops : Array Oper} {Q : Exit → Act → World → Prop} {E : Nat → Kd} {D : Nat → Nat} {base : Nat → Option Kd} {N : Nat}
theorem step_awake {i : Nat} (tt : Nat) (hop : (ops[i]?).map (·.op) = some (.call { callee := .value (.func 14), args := #[], argTypes := #[] })) (hT : Opd ops E D base N i (.tmp tt) .tabs) (hE : E i = .val (.bool true)) : Step Tryd.prog ops Q E D base N i :=
  step_call hop (fun _ _ => by kernel_rfl) fun a w h => by
    have hT' : Tabs w := hT a w h
    rw [show (#[] : Array Operand).map a.eval = #[] by simp, hE]
    exact below_R (awake_any w hT')
theorem step_neg {i : Nat} {x : Operand} {n : Int} (hs : IntKind.i64.wrap (-n) = -n) (hop : (ops[i]?).map (·.op) = some (.unOp .neg 3 x)) (hx : Opd ops E D base N i x (.val (.int .i64 n))) (hE : E i = .val (.int .i64 (-n))) : Step Tryd.prog ops Q E D base N i :=
  step_still hop hE fun a w h dst ty' pos after guard => by
    have e : a.eval x = .int .i64 n := hx a w h
    refine ⟨.int .i64 (-n), ?_, rfl⟩
    unfold execOp
    simp only [e]
    go_simp
end
theorem Tm.cmpV_of {p q : Pay} {l m : Fo} (h : Tm.validB p l = true) (h' : Tm.validB q m = true) : Tm.cmpV p l q m = Tm.cmpT p l q m := by unfold Tm.cmpV; rw [h, h']; rfl
theorem Tm.cmpV_neg (p : Pay) (l : Fo) (q : Pay) (m : Fo) : Tm.cmpV q m p l = -(Tm.cmpV p l q m) := by
  unfold Tm.cmpV
  rw [Bool.and_comm]
  split
  · exact Tm.cmpT_neg p l q m
  · rfl
theorem Tm.cmpV_sgn (p : Pay) (l : Fo) (q : Pay) (m : Fo) : Tm.Sgn (Tm.cmpV p l q m) := by
  unfold Tm.cmpV
  split
  · exact Tm.cmpT_sgn p l q m
  · exact .inr (.inl rfl)
theorem negw {x : Int} (h : Tm.Sgn x) : IntKind.i64.wrap (-x) = -x := by
  unfold Tm.Sgn at h
  rw [IntKind.wrap_i64]
  omega
theorem Tm.same_iff {p q : Pay} {l m : Fo} (h : Tm.validB p l = true) (h' : Tm.validB q m = true) : (Tm.cmpV p l q m == 0) = (Tm.validB p l && Tm.sameT p l q m) := by
  rw [h, Bool.true_and, Tm.cmpV_of h h', Bool.eq_iff_iff, beq_iff_eq, Tm.cmpT_zero, Tm.sameT_eq]
noncomputable def lc0Ops : Array Oper := ((Tryd.f3.body).bind (findReg 0)).getD #[]
noncomputable def lc1Ops : Array Oper := ((Tryd.f3.body).bind (findReg 1)).getD #[]
theorem lc_body : Tryd.f3.body = some (.seq (.region 0 lc0Ops false) (.seq (.region 1 lc1Ops true) .ret)) := by kernel_rfl
theorem lc0_region {Q : Exit → Act → World → Prop} (p : Pay) (l : Fo) (q : Pay) (m : Fo)  {w0 : World} {a : Act} {w : World} (h : Hold 15 [(0, .term p l), (1, .term q m), (999, .tabs)] w0 a w)
    (hQ : ∀ a' w', Hold 15 [(2, .ptrT p l), (3, .ptrT q m), (999, .tabs)] w0 a' w' → Q .normal a' w') : (Code.region 0 lc0Ops false).wp Tryd.prog Q a w := by
  refine region_seq (w0 := w) 3 (by kernel_rfl) ?_
  rw [show List.range 3 = [0, 1, 2] from rfl]
  refine env_one (i := 0) (d := 2) (k := .ptrT p l) (step_box (by kernel_rfl) (Opd.of_base 0 rfl) rfl) (by kernel_rfl) (by decide) h ?_
  clear h
  intro a w h
  refine env_one (i := 1) (d := 3) (k := .ptrT q m) (step_box (by kernel_rfl) (Opd.of_base 1 rfl) rfl) (by kernel_rfl) (by decide) h ?_
  clear h
  intro a w h
  refine env_one (i := 2) (d := 4) (k := .val (.bool false)) (step_assign (by kernel_rfl) (Opd.const _) rfl) (by kernel_rfl) (by decide) h ?_
  clear h
  intro a w h
  exact hQ a w (h.keep [2, 3, 999])
def lc1Es (p : Pay) (l : Fo) (q : Pay) (m : Fo) : List Kd := [
  .term p l,
  .term q m,
  .val (.int .i64 (Tm.cmpV p l q m)),
  .term p l,
  .term q m,
  .val (.int .i64 (Tm.cmpV p l q m)),
  .val (.bool true),
  .val (.bool true),
  .val (.bool true),
  .val (.bool true),
  .val (.bool true)]
def lc1Ds : List Nat := [5, 6, 7, 8, 9, 10, 11, 12, 13, 14, 4]
def lc1Env (p : Pay) (l : Fo) (q : Pay) (m : Fo) : Env := [(2, .ptrT p l), (3, .ptrT q m), (999, .tabs)]
theorem lc1_0 {Q : Exit → Act → World → Prop} (p : Pay) (l : Fo) (q : Pay) (m : Fo)  : RStep lc1Ops Q (fun i => ((lc1Es p l q m)[i]?).getD .any) (fun i => (lc1Ds[i]?).getD (1000 + i)) (look (lc1Env p l q m)) 15 0 := fun _ => step_load_term (by kernel_rfl) (Opd.of_base 2 rfl) rfl
theorem lc1_1 {Q : Exit → Act → World → Prop} (p : Pay) (l : Fo) (q : Pay) (m : Fo)  : RStep lc1Ops Q (fun i => ((lc1Es p l q m)[i]?).getD .any) (fun i => (lc1Ds[i]?).getD (1000 + i)) (look (lc1Env p l q m)) 15 1 := fun _ => step_load_term (by kernel_rfl) (Opd.of_base 3 rfl) rfl
theorem lc1_2 {Q : Exit → Act → World → Prop} (p : Pay) (l : Fo) (q : Pay) (m : Fo)  : RStep lc1Ops Q (fun i => ((lc1Es p l q m)[i]?).getD .any) (fun i => (lc1Ds[i]?).getD (1000 + i)) (look (lc1Env p l q m)) 15 2 := fun _ => step_ocmp 999 (by kernel_rfl) (Opd.dep 0 rfl rfl (by kernel_rfl)) (Opd.dep 1 rfl rfl (by kernel_rfl)) (Opd.of_base 999 rfl) rfl
theorem lc1_3 {Q : Exit → Act → World → Prop} (p : Pay) (l : Fo) (q : Pay) (m : Fo)  : RStep lc1Ops Q (fun i => ((lc1Es p l q m)[i]?).getD .any) (fun i => (lc1Ds[i]?).getD (1000 + i)) (look (lc1Env p l q m)) 15 3 := fun _ => step_load_term (by kernel_rfl) (Opd.of_base 2 rfl) rfl
theorem lc1_4 {Q : Exit → Act → World → Prop} (p : Pay) (l : Fo) (q : Pay) (m : Fo)  : RStep lc1Ops Q (fun i => ((lc1Es p l q m)[i]?).getD .any) (fun i => (lc1Ds[i]?).getD (1000 + i)) (look (lc1Env p l q m)) 15 4 := fun _ => step_load_term (by kernel_rfl) (Opd.of_base 3 rfl) rfl
theorem lc1_5 {Q : Exit → Act → World → Prop} (p : Pay) (l : Fo) (q : Pay) (m : Fo)  : RStep lc1Ops Q (fun i => ((lc1Es p l q m)[i]?).getD .any) (fun i => (lc1Ds[i]?).getD (1000 + i)) (look (lc1Env p l q m)) 15 5 := fun _ => step_rcmp (by kernel_rfl) (Opd.dep 3 rfl rfl (by kernel_rfl)) (Opd.dep 4 rfl rfl (by kernel_rfl)) rfl
theorem lc1_6 {Q : Exit → Act → World → Prop} (p : Pay) (l : Fo) (q : Pay) (m : Fo)  : RStep lc1Ops Q (fun i => ((lc1Es p l q m)[i]?).getD .any) (fun i => (lc1Ds[i]?).getD (1000 + i)) (look (lc1Env p l q m)) 15 6 := fun _ => step_eqs_int (by kernel_rfl) (Opd.dep 2 rfl rfl (by kernel_rfl)) (Opd.dep 5 rfl rfl (by kernel_rfl)) rfl
theorem lc1_7 {Q : Exit → Act → World → Prop} (p : Pay) (l : Fo) (q : Pay) (m : Fo)  : RStep lc1Ops Q (fun i => ((lc1Es p l q m)[i]?).getD .any) (fun i => (lc1Ds[i]?).getD (1000 + i)) (look (lc1Env p l q m)) 15 7 := fun _ => step_move (by kernel_rfl) (Opd.dep 6 rfl rfl (by kernel_rfl)) rfl
theorem lc1_8 {Q : Exit → Act → World → Prop} (p : Pay) (l : Fo) (q : Pay) (m : Fo)  : RStep lc1Ops Q (fun i => ((lc1Es p l q m)[i]?).getD .any) (fun i => (lc1Ds[i]?).getD (1000 + i)) (look (lc1Env p l q m)) 15 8 := fun _ => step_awake 999 (by kernel_rfl) (Opd.of_base 999 rfl) rfl
theorem lc1_9 {Q : Exit → Act → World → Prop} (p : Pay) (l : Fo) (q : Pay) (m : Fo)  : RStep lc1Ops Q (fun i => ((lc1Es p l q m)[i]?).getD .any) (fun i => (lc1Ds[i]?).getD (1000 + i)) (look (lc1Env p l q m)) 15 9 := fun _ => step_pick_yes (y := .const (.bool false)) (by kernel_rfl) (Opd.dep 7 rfl rfl (by kernel_rfl)) (Opd.dep 8 rfl rfl (by kernel_rfl)) rfl
theorem lc1_10 {Q : Exit → Act → World → Prop} (p : Pay) (l : Fo) (q : Pay) (m : Fo)  : RStep lc1Ops Q (fun i => ((lc1Es p l q m)[i]?).getD .any) (fun i => (lc1Ds[i]?).getD (1000 + i)) (look (lc1Env p l q m)) 15 10 := fun _ => step_assign (by kernel_rfl) (Opd.dep 9 rfl rfl (by kernel_rfl)) rfl
theorem lc1_region {Q : Exit → Act → World → Prop} (p : Pay) (l : Fo) (q : Pay) (m : Fo)  {w0 : World} {a : Act} {w : World} (h : Hold 15 [(2, .ptrT p l), (3, .ptrT q m), (999, .tabs)] w0 a w)
    (hQ : ∀ a' w', Hold 15 [(4, .val (.bool true))] w0 a' w' → Q .normal a' w') : (Code.region 1 lc1Ops true).wp Tryd.prog Q a w := by
  have hall : ∀ i, i < 0 → RStep lc1Ops Q (fun i => ((lc1Es p l q m)[i]?).getD .any) (fun i => (lc1Ds[i]?).getD (1000 + i)) (look (lc1Env p l q m)) 15 i := fun i hi => absurd hi (by omega)
  have hall := below_succ hall (lc1_0 p l q m )
  have hall := below_succ hall (lc1_1 p l q m )
  have hall := below_succ hall (lc1_2 p l q m )
  have hall := below_succ hall (lc1_3 p l q m )
  have hall := below_succ hall (lc1_4 p l q m )
  have hall := below_succ hall (lc1_5 p l q m )
  have hall := below_succ hall (lc1_6 p l q m )
  have hall := below_succ hall (lc1_7 p l q m )
  have hall := below_succ hall (lc1_8 p l q m )
  have hall := below_succ hall (lc1_9 p l q m )
  have hall := below_succ hall (lc1_10 p l q m )
  refine env_any (env := lc1Env p l q m) (N := 15) (w0 := w0) lc1Ds (lc1Es p l q m) (by kernel_rfl) (by kernel_rfl) (of_decide_eq_true (by kernel_rfl)) (fun i_ hi_ => hall i_ (by rw [show (lc1Es p l q m).length = 11 by kernel_rfl] at hi_; exact hi_)) h fun a' w' h => ?_
  exact hQ a' w' (h.keep [4])
theorem law_compares (p : Pay) (l : Fo) (q : Pay) (m : Fo) (A A' : Option Addr) (c c' : Nat) (w : World) (hA : ArgsB w w.heap.size A (Tm.len l) l) (hA' : ArgsB w w.heap.size A' (Tm.len m) m) (hT : Tabs w) :
    Calls Tryd.prog 3 #[tv p A (Tm.len l) c, tv q A' (Tm.len m) c'] w fun e w' => e = .returned (.bool true) ∧ Below w.heap.size w w' := by
  refine calls_of_wp Tryd.func3 lc_body ?_
  obtain ⟨v0, hv0⟩ : ∃ v : Value, v = tv p A (Tm.len l) c := ⟨_, rfl⟩
  obtain ⟨v1, hv1⟩ : ∃ v : Value, v = tv q A' (Tm.len m) c' := ⟨_, rfl⟩
  rw [← hv0, ← hv1]
  have hk0 : (Kd.term p l).R v0 w := ⟨A, c, hv0, hA⟩
  have hk1 : (Kd.term q m).R v1 w := ⟨A', c', hv1, hA'⟩
  have hsN : (#[v0, v1] ++ Array.replicate (Tryd.f3.ntmps - #[v0, v1].size) undef : Array Value).size = 15 := by kernel_rfl
  have gs0 : (#[v0, v1] ++ Array.replicate (Tryd.f3.ntmps - #[v0, v1].size) undef : Array Value).getD 0 undef = v0 := by kernel_rfl
  have gs1 : (#[v0, v1] ++ Array.replicate (Tryd.f3.ntmps - #[v0, v1].size) undef : Array Value).getD 1 undef = v1 := by kernel_rfl
  generalize (#[v0, v1] ++ Array.replicate (Tryd.f3.ntmps - #[v0, v1].size) undef : Array Value) = tm at hsN gs0 gs1 ⊢
  refine wp_seq ?_
  refine lc0_region p l q m (w0 := w) ⟨hsN, rfl, Below.refl _ _, (slots_cons 0 (by rw [gs0]; exact hk0) (slots_cons 1 (by rw [gs1]; exact hk1) (slots_cons 999 (k0 := .tabs) hT slots_nil)))⟩ ?_
  intro a w1 h
  show Code.wp _ _ _ a w1
  refine wp_seq ?_
  refine lc1_region p l q m h ?_
  intro a w1 h
  show Code.wp _ _ _ a w1
  refine wp_ret ?_
  (try simp only [then_ret, block_ret])
  refine law_out rfl (h.get 4 rfl) h.defers ⟨rfl, h.world⟩

theorem total_fit {p q s : Pay} {l m n : Fo} (v0 : Tm.validB p l = true) (v1 : Tm.validB q m = true) (v2 : Tm.validB s n = true) (h1 : Tm.cmpV p l q m ≤ 0) (h2 : Tm.cmpV q m s n ≤ 0) : ¬ 0 < Tm.cmpV p l s n := by
  rw [Tm.cmpV_of v0 v1] at h1
  rw [Tm.cmpV_of v1 v2] at h2
  rw [Tm.cmpV_of v0 v2]
  obtain ⟨f1, f2, f3, f4⟩ := Tm.cmpT_fit p l q m s n
  omega
noncomputable def lt0Ops : Array Oper := ((Tryd.f6.body).bind (findReg 0)).getD #[]
noncomputable def lt1Ops : Array Oper := ((Tryd.f6.body).bind (findReg 1)).getD #[]
noncomputable def lt2Ops : Array Oper := ((Tryd.f6.body).bind (findReg 2)).getD #[]
noncomputable def lt3Ops : Array Oper := ((Tryd.f6.body).bind (findReg 3)).getD #[]
noncomputable def lt4Ops : Array Oper := ((Tryd.f6.body).bind (findReg 4)).getD #[]
noncomputable def lt5Ops : Array Oper := ((Tryd.f6.body).bind (findReg 5)).getD #[]
noncomputable def lt6Ops : Array Oper := ((Tryd.f6.body).bind (findReg 6)).getD #[]
noncomputable def lt7Ops : Array Oper := ((Tryd.f6.body).bind (findReg 7)).getD #[]
noncomputable def lt8Ops : Array Oper := ((Tryd.f6.body).bind (findReg 8)).getD #[]
noncomputable def lt9Ops : Array Oper := ((Tryd.f6.body).bind (findReg 9)).getD #[]
theorem lt_body : Tryd.f6.body = some (.seq (.region 0 lt0Ops false) (.seq (.seq (.region 1 lt1Ops true) (.cond (.tmp 14) (.seq (.region 2 lt2Ops false) .ret) .skip)) (.seq (.seq (.region 3 lt3Ops false) (.cond (.tmp 20) (.seq (.region 4 lt4Ops false) .ret) .skip)) (.seq (.seq (.region 5 lt5Ops true) (.cond (.tmp 29) (.seq (.region 6 lt6Ops false) .ret) .skip)) (.seq (.seq (.region 7 lt7Ops false) (.cond (.tmp 45) (.seq (.region 8 lt8Ops false) .ret) .skip)) (.seq (.region 9 lt9Ops false) .ret)))))) := by kernel_rfl
theorem lt0_region {Q : Exit → Act → World → Prop} (p : Pay) (l : Fo) (q : Pay) (m : Fo) (s : Pay) (n : Fo)  {w0 : World} {a : Act} {w : World} (h : Hold 47 [(0, .term p l), (1, .term q m), (2, .term s n), (999, .tabs)] w0 a w)
    (hQ : ∀ a' w', Hold 47 [(3, .ptrT p l), (4, .ptrT q m), (5, .ptrT s n), (999, .tabs)] w0 a' w' → Q .normal a' w') : (Code.region 0 lt0Ops false).wp Tryd.prog Q a w := by
  refine region_seq (w0 := w) 4 (by kernel_rfl) ?_
  rw [show List.range 4 = [0, 1, 2, 3] from rfl]
  refine env_one (i := 0) (d := 3) (k := .ptrT p l) (step_box (by kernel_rfl) (Opd.of_base 0 rfl) rfl) (by kernel_rfl) (by decide) h ?_
  clear h
  intro a w h
  refine env_one (i := 1) (d := 4) (k := .ptrT q m) (step_box (by kernel_rfl) (Opd.of_base 1 rfl) rfl) (by kernel_rfl) (by decide) h ?_
  clear h
  intro a w h
  refine env_one (i := 2) (d := 5) (k := .ptrT s n) (step_box (by kernel_rfl) (Opd.of_base 2 rfl) rfl) (by kernel_rfl) (by decide) h ?_
  clear h
  intro a w h
  refine env_one (i := 3) (d := 6) (k := .val (.bool false)) (step_assign (by kernel_rfl) (Opd.const _) rfl) (by kernel_rfl) (by decide) h ?_
  clear h
  intro a w h
  exact hQ a w (h.keep [3, 4, 5, 999])
def lt1Es (p : Pay) (l : Fo) (q : Pay) (m : Fo) (s : Pay) (n : Fo) : List Kd := [
  .term p l,
  .term q m,
  .val (.int .i64 (Tm.cmpV p l q m)),
  .term q m,
  .term p l,
  .val (.int .i64 (Tm.cmpV q m p l)),
  .val (.int .i64 (-((Tm.cmpV q m p l)))),
  .val (.bool false)]
def lt1Ds : List Nat := [7, 8, 9, 10, 11, 12, 13, 14]
def lt1Env (p : Pay) (l : Fo) (q : Pay) (m : Fo) (s : Pay) (n : Fo) : Env := [(3, .ptrT p l), (4, .ptrT q m), (5, .ptrT s n), (999, .tabs)]
theorem lt1_0 {Q : Exit → Act → World → Prop} (p : Pay) (l : Fo) (q : Pay) (m : Fo) (s : Pay) (n : Fo)  : RStep lt1Ops Q (fun i => ((lt1Es p l q m s n)[i]?).getD .any) (fun i => (lt1Ds[i]?).getD (1000 + i)) (look (lt1Env p l q m s n)) 47 0 := fun _ => step_load_term (by kernel_rfl) (Opd.of_base 3 rfl) rfl
theorem lt1_1 {Q : Exit → Act → World → Prop} (p : Pay) (l : Fo) (q : Pay) (m : Fo) (s : Pay) (n : Fo)  : RStep lt1Ops Q (fun i => ((lt1Es p l q m s n)[i]?).getD .any) (fun i => (lt1Ds[i]?).getD (1000 + i)) (look (lt1Env p l q m s n)) 47 1 := fun _ => step_load_term (by kernel_rfl) (Opd.of_base 4 rfl) rfl
theorem lt1_2 {Q : Exit → Act → World → Prop} (p : Pay) (l : Fo) (q : Pay) (m : Fo) (s : Pay) (n : Fo)  : RStep lt1Ops Q (fun i => ((lt1Es p l q m s n)[i]?).getD .any) (fun i => (lt1Ds[i]?).getD (1000 + i)) (look (lt1Env p l q m s n)) 47 2 := fun _ => step_ocmp 999 (by kernel_rfl) (Opd.dep 0 rfl rfl (by kernel_rfl)) (Opd.dep 1 rfl rfl (by kernel_rfl)) (Opd.of_base 999 rfl) rfl
theorem lt1_3 {Q : Exit → Act → World → Prop} (p : Pay) (l : Fo) (q : Pay) (m : Fo) (s : Pay) (n : Fo)  : RStep lt1Ops Q (fun i => ((lt1Es p l q m s n)[i]?).getD .any) (fun i => (lt1Ds[i]?).getD (1000 + i)) (look (lt1Env p l q m s n)) 47 3 := fun _ => step_load_term (by kernel_rfl) (Opd.of_base 4 rfl) rfl
theorem lt1_4 {Q : Exit → Act → World → Prop} (p : Pay) (l : Fo) (q : Pay) (m : Fo) (s : Pay) (n : Fo)  : RStep lt1Ops Q (fun i => ((lt1Es p l q m s n)[i]?).getD .any) (fun i => (lt1Ds[i]?).getD (1000 + i)) (look (lt1Env p l q m s n)) 47 4 := fun _ => step_load_term (by kernel_rfl) (Opd.of_base 3 rfl) rfl
theorem lt1_5 {Q : Exit → Act → World → Prop} (p : Pay) (l : Fo) (q : Pay) (m : Fo) (s : Pay) (n : Fo)  : RStep lt1Ops Q (fun i => ((lt1Es p l q m s n)[i]?).getD .any) (fun i => (lt1Ds[i]?).getD (1000 + i)) (look (lt1Env p l q m s n)) 47 5 := fun _ => step_ocmp 999 (by kernel_rfl) (Opd.dep 3 rfl rfl (by kernel_rfl)) (Opd.dep 4 rfl rfl (by kernel_rfl)) (Opd.of_base 999 rfl) rfl
theorem lt1_6 {Q : Exit → Act → World → Prop} (p : Pay) (l : Fo) (q : Pay) (m : Fo) (s : Pay) (n : Fo)  : RStep lt1Ops Q (fun i => ((lt1Es p l q m s n)[i]?).getD .any) (fun i => (lt1Ds[i]?).getD (1000 + i)) (look (lt1Env p l q m s n)) 47 6 := fun _ => step_neg (n := (Tm.cmpV q m p l)) (negw (Tm.cmpV_sgn q m p l)) (by kernel_rfl) (Opd.dep 5 rfl rfl (by kernel_rfl)) rfl
theorem lt1_7 {Q : Exit → Act → World → Prop} (p : Pay) (l : Fo) (q : Pay) (m : Fo) (s : Pay) (n : Fo)  : RStep lt1Ops Q (fun i => ((lt1Es p l q m s n)[i]?).getD .any) (fun i => (lt1Ds[i]?).getD (1000 + i)) (look (lt1Env p l q m s n)) 47 7 := fun _ => step_ne_int (m := (Tm.cmpV p l q m)) (n := (-((Tm.cmpV q m p l)))) (by kernel_rfl) (Opd.dep 2 rfl rfl (by kernel_rfl)) (Opd.dep 6 rfl rfl (by kernel_rfl)) (by rw [Tm.cmpV_neg p l q m, Int.neg_neg]; simp) rfl
theorem lt1_region {Q : Exit → Act → World → Prop} (p : Pay) (l : Fo) (q : Pay) (m : Fo) (s : Pay) (n : Fo)  {w0 : World} {a : Act} {w : World} (h : Hold 47 [(3, .ptrT p l), (4, .ptrT q m), (5, .ptrT s n), (999, .tabs)] w0 a w)
    (hQ : ∀ a' w', Hold 47 [(3, .ptrT p l), (4, .ptrT q m), (5, .ptrT s n), (999, .tabs), (14, .val (.bool false))] w0 a' w' → Q .normal a' w') : (Code.region 1 lt1Ops true).wp Tryd.prog Q a w := by
  have hall : ∀ i, i < 0 → RStep lt1Ops Q (fun i => ((lt1Es p l q m s n)[i]?).getD .any) (fun i => (lt1Ds[i]?).getD (1000 + i)) (look (lt1Env p l q m s n)) 47 i := fun i hi => absurd hi (by omega)
  have hall := below_succ hall (lt1_0 p l q m s n )
  have hall := below_succ hall (lt1_1 p l q m s n )
  have hall := below_succ hall (lt1_2 p l q m s n )
  have hall := below_succ hall (lt1_3 p l q m s n )
  have hall := below_succ hall (lt1_4 p l q m s n )
  have hall := below_succ hall (lt1_5 p l q m s n )
  have hall := below_succ hall (lt1_6 p l q m s n )
  have hall := below_succ hall (lt1_7 p l q m s n )
  refine env_any (env := lt1Env p l q m s n) (N := 47) (w0 := w0) lt1Ds (lt1Es p l q m s n) (by kernel_rfl) (by kernel_rfl) (of_decide_eq_true (by kernel_rfl)) (fun i_ hi_ => hall i_ (by rw [show (lt1Es p l q m s n).length = 8 by kernel_rfl] at hi_; exact hi_)) h fun a' w' h => ?_
  exact hQ a' w' (h.keep [3, 4, 5, 999, 14])
theorem lt3n_region {Q : Exit → Act → World → Prop} (p : Pay) (l : Fo) (q : Pay) (m : Fo) (s : Pay) (n : Fo) (h0 : Tm.allV (.node p l (.node q m (.node s n .nil))) = false) {w0 : World} {a : Act} {w : World} (h : Hold 47 [(3, .ptrT p l), (4, .ptrT q m), (5, .ptrT s n), (999, .tabs)] w0 a w)
    (hQ : ∀ a' w', Hold 47 [(3, .ptrT p l), (4, .ptrT q m), (5, .ptrT s n), (999, .tabs), (20, .val (.bool true))] w0 a' w' → Q .normal a' w') : (Code.region 3 lt3Ops false).wp Tryd.prog Q a w := by
  refine region_seq (w0 := w) 6 (by kernel_rfl) ?_
  rw [show List.range 6 = [0, 1, 2, 3, 4, 5] from rfl]
  refine env_one (i := 0) (d := 15) (k := .term p l) (step_load_term (by kernel_rfl) (Opd.of_base 3 rfl) rfl) (by kernel_rfl) (by decide) h ?_
  clear h
  intro a w h
  refine env_one (i := 1) (d := 16) (k := .term q m) (step_load_term (by kernel_rfl) (Opd.of_base 4 rfl) rfl) (by kernel_rfl) (by decide) h ?_
  clear h
  intro a w h
  refine env_one (i := 2) (d := 17) (k := .term s n) (step_load_term (by kernel_rfl) (Opd.of_base 5 rfl) rfl) (by kernel_rfl) (by decide) h ?_
  clear h
  intro a w h
  refine env_one (i := 3) (d := 18) (k := .row (.node p l (.node q m (.node s n .nil)))) (step_slice3 (by kernel_rfl) (Opd.of_base 15 rfl) (Opd.of_base 16 rfl) (Opd.of_base 17 rfl) rfl) (by kernel_rfl) (by decide) h ?_
  clear h
  intro a w h
  refine env_one (i := 4) (d := 19) (k := .val (.bool false)) (step_lvalid (show Tm.len (Fo.node p l (.node q m (.node s n .nil))) ≤ 50000 by show 0 + 1 + 1 + 1 ≤ 50000; omega) (by kernel_rfl) (Opd.of_base 18 rfl) h0 rfl) (by kernel_rfl) (by decide) h ?_
  clear h
  intro a w h
  refine env_one (i := 5) (d := 20) (k := .val (.bool true)) (step_not (by kernel_rfl) (Opd.of_base 19 rfl) rfl) (by kernel_rfl) (by decide) h ?_
  clear h
  intro a w h
  exact hQ a w (h.keep [3, 4, 5, 999, 20])
theorem lt3y_region {Q : Exit → Act → World → Prop} (p : Pay) (l : Fo) (q : Pay) (m : Fo) (s : Pay) (n : Fo) (h0 : Tm.allV (.node p l (.node q m (.node s n .nil))) = true) {w0 : World} {a : Act} {w : World} (h : Hold 47 [(3, .ptrT p l), (4, .ptrT q m), (5, .ptrT s n), (999, .tabs)] w0 a w)
    (hQ : ∀ a' w', Hold 47 [(3, .ptrT p l), (4, .ptrT q m), (5, .ptrT s n), (999, .tabs), (20, .val (.bool false))] w0 a' w' → Q .normal a' w') : (Code.region 3 lt3Ops false).wp Tryd.prog Q a w := by
  refine region_seq (w0 := w) 6 (by kernel_rfl) ?_
  rw [show List.range 6 = [0, 1, 2, 3, 4, 5] from rfl]
  refine env_one (i := 0) (d := 15) (k := .term p l) (step_load_term (by kernel_rfl) (Opd.of_base 3 rfl) rfl) (by kernel_rfl) (by decide) h ?_
  clear h
  intro a w h
  refine env_one (i := 1) (d := 16) (k := .term q m) (step_load_term (by kernel_rfl) (Opd.of_base 4 rfl) rfl) (by kernel_rfl) (by decide) h ?_
  clear h
  intro a w h
  refine env_one (i := 2) (d := 17) (k := .term s n) (step_load_term (by kernel_rfl) (Opd.of_base 5 rfl) rfl) (by kernel_rfl) (by decide) h ?_
  clear h
  intro a w h
  refine env_one (i := 3) (d := 18) (k := .row (.node p l (.node q m (.node s n .nil)))) (step_slice3 (by kernel_rfl) (Opd.of_base 15 rfl) (Opd.of_base 16 rfl) (Opd.of_base 17 rfl) rfl) (by kernel_rfl) (by decide) h ?_
  clear h
  intro a w h
  refine env_one (i := 4) (d := 19) (k := .val (.bool true)) (step_lvalid (show Tm.len (Fo.node p l (.node q m (.node s n .nil))) ≤ 50000 by show 0 + 1 + 1 + 1 ≤ 50000; omega) (by kernel_rfl) (Opd.of_base 18 rfl) h0 rfl) (by kernel_rfl) (by decide) h ?_
  clear h
  intro a w h
  refine env_one (i := 5) (d := 20) (k := .val (.bool false)) (step_not (by kernel_rfl) (Opd.of_base 19 rfl) rfl) (by kernel_rfl) (by decide) h ?_
  clear h
  intro a w h
  exact hQ a w (h.keep [3, 4, 5, 999, 20])
theorem lt4_region {Q : Exit → Act → World → Prop} (p : Pay) (l : Fo) (q : Pay) (m : Fo) (s : Pay) (n : Fo)  {w0 : World} {a : Act} {w : World} (h : Hold 47 [(3, .ptrT p l), (4, .ptrT q m), (5, .ptrT s n), (999, .tabs)] w0 a w)
    (hQ : ∀ a' w', Hold 47 [(6, .val (.bool true))] w0 a' w' → Q .normal a' w') : (Code.region 4 lt4Ops false).wp Tryd.prog Q a w := by
  refine region_seq (w0 := w) 2 (by kernel_rfl) ?_
  rw [show List.range 2 = [0, 1] from rfl]
  refine env_one (i := 0) (d := 21) (k := .val (.bool true)) (step_awake 999 (by kernel_rfl) (Opd.of_base 999 rfl) rfl) (by kernel_rfl) (by decide) h ?_
  clear h
  intro a w h
  refine env_one (i := 1) (d := 6) (k := .val (.bool true)) (step_assign (by kernel_rfl) (Opd.of_base 21 rfl) rfl) (by kernel_rfl) (by decide) h ?_
  clear h
  intro a w h
  exact hQ a w (h.keep [6])
def lt5Es (p : Pay) (l : Fo) (q : Pay) (m : Fo) (s : Pay) (n : Fo) : List Kd := [
  .term p l,
  .term q m,
  .val (.int .i64 (Tm.cmpV p l q m)),
  .val (.bool ((Tm.cmpV p l q m) == 0)),
  .term p l,
  .term q m,
  .val (.bool (Tm.validB p l && Tm.sameT p l q m)),
  .val (.bool false)]
def lt5Ds : List Nat := [22, 23, 24, 25, 26, 27, 28, 29]
def lt5Env (p : Pay) (l : Fo) (q : Pay) (m : Fo) (s : Pay) (n : Fo) : Env := [(3, .ptrT p l), (4, .ptrT q m), (5, .ptrT s n), (999, .tabs)]
theorem lt5_0 {Q : Exit → Act → World → Prop} (p : Pay) (l : Fo) (q : Pay) (m : Fo) (s : Pay) (n : Fo) (v0 : Tm.validB p l = true) (v1 : Tm.validB q m = true) (v2 : Tm.validB s n = true) : RStep lt5Ops Q (fun i => ((lt5Es p l q m s n)[i]?).getD .any) (fun i => (lt5Ds[i]?).getD (1000 + i)) (look (lt5Env p l q m s n)) 47 0 := fun _ => step_load_term (by kernel_rfl) (Opd.of_base 3 rfl) rfl
theorem lt5_1 {Q : Exit → Act → World → Prop} (p : Pay) (l : Fo) (q : Pay) (m : Fo) (s : Pay) (n : Fo) (v0 : Tm.validB p l = true) (v1 : Tm.validB q m = true) (v2 : Tm.validB s n = true) : RStep lt5Ops Q (fun i => ((lt5Es p l q m s n)[i]?).getD .any) (fun i => (lt5Ds[i]?).getD (1000 + i)) (look (lt5Env p l q m s n)) 47 1 := fun _ => step_load_term (by kernel_rfl) (Opd.of_base 4 rfl) rfl
theorem lt5_2 {Q : Exit → Act → World → Prop} (p : Pay) (l : Fo) (q : Pay) (m : Fo) (s : Pay) (n : Fo) (v0 : Tm.validB p l = true) (v1 : Tm.validB q m = true) (v2 : Tm.validB s n = true) : RStep lt5Ops Q (fun i => ((lt5Es p l q m s n)[i]?).getD .any) (fun i => (lt5Ds[i]?).getD (1000 + i)) (look (lt5Env p l q m s n)) 47 2 := fun _ => step_ocmp 999 (by kernel_rfl) (Opd.dep 0 rfl rfl (by kernel_rfl)) (Opd.dep 1 rfl rfl (by kernel_rfl)) (Opd.of_base 999 rfl) rfl
theorem lt5_3 {Q : Exit → Act → World → Prop} (p : Pay) (l : Fo) (q : Pay) (m : Fo) (s : Pay) (n : Fo) (v0 : Tm.validB p l = true) (v1 : Tm.validB q m = true) (v2 : Tm.validB s n = true) : RStep lt5Ops Q (fun i => ((lt5Es p l q m s n)[i]?).getD .any) (fun i => (lt5Ds[i]?).getD (1000 + i)) (look (lt5Env p l q m s n)) 47 3 := fun _ => step_eqb_int (m := (Tm.cmpV p l q m)) (n := 0) (by kernel_rfl) (Opd.dep 2 rfl rfl (by kernel_rfl)) (Opd.const _) rfl rfl
theorem lt5_4 {Q : Exit → Act → World → Prop} (p : Pay) (l : Fo) (q : Pay) (m : Fo) (s : Pay) (n : Fo) (v0 : Tm.validB p l = true) (v1 : Tm.validB q m = true) (v2 : Tm.validB s n = true) : RStep lt5Ops Q (fun i => ((lt5Es p l q m s n)[i]?).getD .any) (fun i => (lt5Ds[i]?).getD (1000 + i)) (look (lt5Env p l q m s n)) 47 4 := fun _ => step_load_term (by kernel_rfl) (Opd.of_base 3 rfl) rfl
theorem lt5_5 {Q : Exit → Act → World → Prop} (p : Pay) (l : Fo) (q : Pay) (m : Fo) (s : Pay) (n : Fo) (v0 : Tm.validB p l = true) (v1 : Tm.validB q m = true) (v2 : Tm.validB s n = true) : RStep lt5Ops Q (fun i => ((lt5Es p l q m s n)[i]?).getD .any) (fun i => (lt5Ds[i]?).getD (1000 + i)) (look (lt5Env p l q m s n)) 47 5 := fun _ => step_load_term (by kernel_rfl) (Opd.of_base 4 rfl) rfl
theorem lt5_6 {Q : Exit → Act → World → Prop} (p : Pay) (l : Fo) (q : Pay) (m : Fo) (s : Pay) (n : Fo) (v0 : Tm.validB p l = true) (v1 : Tm.validB q m = true) (v2 : Tm.validB s n = true) : RStep lt5Ops Q (fun i => ((lt5Es p l q m s n)[i]?).getD .any) (fun i => (lt5Ds[i]?).getD (1000 + i)) (look (lt5Env p l q m s n)) 47 6 := fun _ => step_rsame (by kernel_rfl) (Opd.dep 4 rfl rfl (by kernel_rfl)) (Opd.dep 5 rfl rfl (by kernel_rfl)) rfl rfl
theorem lt5_7 {Q : Exit → Act → World → Prop} (p : Pay) (l : Fo) (q : Pay) (m : Fo) (s : Pay) (n : Fo) (v0 : Tm.validB p l = true) (v1 : Tm.validB q m = true) (v2 : Tm.validB s n = true) : RStep lt5Ops Q (fun i => ((lt5Es p l q m s n)[i]?).getD .any) (fun i => (lt5Ds[i]?).getD (1000 + i)) (look (lt5Env p l q m s n)) 47 7 := fun _ => step_ne_bool (by kernel_rfl) (Opd.dep 3 rfl rfl (by kernel_rfl)) (Opd.dep 6 rfl rfl (by kernel_rfl)) (by rw [Tm.same_iff v0 v1]; simp) rfl
theorem lt5_region {Q : Exit → Act → World → Prop} (p : Pay) (l : Fo) (q : Pay) (m : Fo) (s : Pay) (n : Fo) (v0 : Tm.validB p l = true) (v1 : Tm.validB q m = true) (v2 : Tm.validB s n = true) {w0 : World} {a : Act} {w : World} (h : Hold 47 [(3, .ptrT p l), (4, .ptrT q m), (5, .ptrT s n), (999, .tabs)] w0 a w)
    (hQ : ∀ a' w', Hold 47 [(3, .ptrT p l), (4, .ptrT q m), (5, .ptrT s n), (999, .tabs), (29, .val (.bool false))] w0 a' w' → Q .normal a' w') : (Code.region 5 lt5Ops true).wp Tryd.prog Q a w := by
  have hall : ∀ i, i < 0 → RStep lt5Ops Q (fun i => ((lt5Es p l q m s n)[i]?).getD .any) (fun i => (lt5Ds[i]?).getD (1000 + i)) (look (lt5Env p l q m s n)) 47 i := fun i hi => absurd hi (by omega)
  have hall := below_succ hall (lt5_0 p l q m s n v0 v1 v2)
  have hall := below_succ hall (lt5_1 p l q m s n v0 v1 v2)
  have hall := below_succ hall (lt5_2 p l q m s n v0 v1 v2)
  have hall := below_succ hall (lt5_3 p l q m s n v0 v1 v2)
  have hall := below_succ hall (lt5_4 p l q m s n v0 v1 v2)
  have hall := below_succ hall (lt5_5 p l q m s n v0 v1 v2)
  have hall := below_succ hall (lt5_6 p l q m s n v0 v1 v2)
  have hall := below_succ hall (lt5_7 p l q m s n v0 v1 v2)
  refine env_any (env := lt5Env p l q m s n) (N := 47) (w0 := w0) lt5Ds (lt5Es p l q m s n) (by kernel_rfl) (by kernel_rfl) (of_decide_eq_true (by kernel_rfl)) (fun i_ hi_ => hall i_ (by rw [show (lt5Es p l q m s n).length = 8 by kernel_rfl] at hi_; exact hi_)) h fun a' w' h => ?_
  exact hQ a' w' (h.keep [3, 4, 5, 999, 29])
theorem lt7a_region {Q : Exit → Act → World → Prop} (p : Pay) (l : Fo) (q : Pay) (m : Fo) (s : Pay) (n : Fo) (v0 : Tm.validB p l = true) (v1 : Tm.validB q m = true) (v2 : Tm.validB s n = true) (h1 : ¬ Tm.cmpV p l q m ≤ 0) {w0 : World} {a : Act} {w : World} (h : Hold 47 [(3, .ptrT p l), (4, .ptrT q m), (5, .ptrT s n), (999, .tabs)] w0 a w)
    (hQ : ∀ a' w', Hold 47 [(3, .ptrT p l), (4, .ptrT q m), (5, .ptrT s n), (999, .tabs), (45, .val (.bool false))] w0 a' w' → Q .normal a' w') : (Code.region 7 lt7Ops false).wp Tryd.prog Q a w := by
  refine region_seq (w0 := w) 16 (by kernel_rfl) ?_
  rw [show List.range 16 = [0, 1, 2, 3, 4, 5, 6, 7, 8, 9, 10, 11, 12, 13, 14, 15] from rfl]
  refine env_one (i := 0) (d := 30) (k := .term p l) (step_load_term (by kernel_rfl) (Opd.of_base 3 rfl) rfl) (by kernel_rfl) (by decide) h ?_
  clear h
  intro a w h
  refine env_one (i := 1) (d := 31) (k := .term q m) (step_load_term (by kernel_rfl) (Opd.of_base 4 rfl) rfl) (by kernel_rfl) (by decide) h ?_
  clear h
  intro a w h
  refine env_one (i := 2) (d := 32) (k := .val (.int .i64 (Tm.cmpV p l q m))) (step_ocmp 999 (by kernel_rfl) (Opd.of_base 30 rfl) (Opd.of_base 31 rfl) (Opd.of_base 999 rfl) rfl) (by kernel_rfl) (by decide) h ?_
  clear h
  intro a w h
  refine env_one (i := 3) (d := 33) (k := .val (.bool false)) (step_le_int (m := (Tm.cmpV p l q m)) (n := 0) (by kernel_rfl) (Opd.of_base 32 rfl) (Opd.const _) (decide_eq_false h1) rfl) (by kernel_rfl) (by decide) h ?_
  clear h
  intro a w h
  refine env_one (i := 4) (d := 34) (k := .val (.bool false)) (step_move (by kernel_rfl) (Opd.of_base 33 rfl) rfl) (by kernel_rfl) (by decide) h ?_
  clear h
  intro a w h
  refine env_skip (i := 5) (d := 35) (g := 4) (dg := 34) (b := true) (by kernel_rfl) (by decide) (by kernel_rfl) rfl rfl h ?_
  clear h
  intro a w h
  refine env_skip (i := 6) (d := 36) (g := 4) (dg := 34) (b := true) (by kernel_rfl) (by decide) (by kernel_rfl) rfl rfl h ?_
  clear h
  intro a w h
  refine env_skip (i := 7) (d := 37) (g := 4) (dg := 34) (b := true) (by kernel_rfl) (by decide) (by kernel_rfl) rfl rfl h ?_
  clear h
  intro a w h
  refine env_skip (i := 8) (d := 38) (g := 4) (dg := 34) (b := true) (by kernel_rfl) (by decide) (by kernel_rfl) rfl rfl h ?_
  clear h
  intro a w h
  refine env_one (i := 9) (d := 39) (k := .val (.bool false)) (step_pick_no (x := .tmp 38) (by kernel_rfl) (Opd.of_base 34 rfl) (Opd.const _) rfl) (by kernel_rfl) (by decide) h ?_
  clear h
  intro a w h
  refine env_one (i := 10) (d := 40) (k := .val (.bool false)) (step_move (by kernel_rfl) (Opd.of_base 39 rfl) rfl) (by kernel_rfl) (by decide) h ?_
  clear h
  intro a w h
  refine env_skip (i := 11) (d := 41) (g := 10) (dg := 40) (b := true) (by kernel_rfl) (by decide) (by kernel_rfl) rfl rfl h ?_
  clear h
  intro a w h
  refine env_skip (i := 12) (d := 42) (g := 10) (dg := 40) (b := true) (by kernel_rfl) (by decide) (by kernel_rfl) rfl rfl h ?_
  clear h
  intro a w h
  refine env_skip (i := 13) (d := 43) (g := 10) (dg := 40) (b := true) (by kernel_rfl) (by decide) (by kernel_rfl) rfl rfl h ?_
  clear h
  intro a w h
  refine env_skip (i := 14) (d := 44) (g := 10) (dg := 40) (b := true) (by kernel_rfl) (by decide) (by kernel_rfl) rfl rfl h ?_
  clear h
  intro a w h
  refine env_one (i := 15) (d := 45) (k := .val (.bool false)) (step_pick_no (x := .tmp 44) (by kernel_rfl) (Opd.of_base 40 rfl) (Opd.const _) rfl) (by kernel_rfl) (by decide) h ?_
  clear h
  intro a w h
  exact hQ a w (h.keep [3, 4, 5, 999, 45])
theorem lt7b_region {Q : Exit → Act → World → Prop} (p : Pay) (l : Fo) (q : Pay) (m : Fo) (s : Pay) (n : Fo) (v0 : Tm.validB p l = true) (v1 : Tm.validB q m = true) (v2 : Tm.validB s n = true) (h1 : Tm.cmpV p l q m ≤ 0) (h2 : ¬ Tm.cmpV q m s n ≤ 0) {w0 : World} {a : Act} {w : World} (h : Hold 47 [(3, .ptrT p l), (4, .ptrT q m), (5, .ptrT s n), (999, .tabs)] w0 a w)
    (hQ : ∀ a' w', Hold 47 [(3, .ptrT p l), (4, .ptrT q m), (5, .ptrT s n), (999, .tabs), (45, .val (.bool false))] w0 a' w' → Q .normal a' w') : (Code.region 7 lt7Ops false).wp Tryd.prog Q a w := by
  refine region_seq (w0 := w) 16 (by kernel_rfl) ?_
  rw [show List.range 16 = [0, 1, 2, 3, 4, 5, 6, 7, 8, 9, 10, 11, 12, 13, 14, 15] from rfl]
  refine env_one (i := 0) (d := 30) (k := .term p l) (step_load_term (by kernel_rfl) (Opd.of_base 3 rfl) rfl) (by kernel_rfl) (by decide) h ?_
  clear h
  intro a w h
  refine env_one (i := 1) (d := 31) (k := .term q m) (step_load_term (by kernel_rfl) (Opd.of_base 4 rfl) rfl) (by kernel_rfl) (by decide) h ?_
  clear h
  intro a w h
  refine env_one (i := 2) (d := 32) (k := .val (.int .i64 (Tm.cmpV p l q m))) (step_ocmp 999 (by kernel_rfl) (Opd.of_base 30 rfl) (Opd.of_base 31 rfl) (Opd.of_base 999 rfl) rfl) (by kernel_rfl) (by decide) h ?_
  clear h
  intro a w h
  refine env_one (i := 3) (d := 33) (k := .val (.bool true)) (step_le_int (m := (Tm.cmpV p l q m)) (n := 0) (by kernel_rfl) (Opd.of_base 32 rfl) (Opd.const _) (decide_eq_true h1) rfl) (by kernel_rfl) (by decide) h ?_
  clear h
  intro a w h
  refine env_one (i := 4) (d := 34) (k := .val (.bool true)) (step_move (by kernel_rfl) (Opd.of_base 33 rfl) rfl) (by kernel_rfl) (by decide) h ?_
  clear h
  intro a w h
  refine env_guard (i := 5) (d := 35) (g := 4) (dg := 34) (b := true) (k := .term q m) (step_load_term (by kernel_rfl) (Opd.of_base 4 rfl) rfl) (by kernel_rfl) (by decide) (by kernel_rfl) (by decide) rfl h ?_
  clear h
  intro a w h
  refine env_guard (i := 6) (d := 36) (g := 4) (dg := 34) (b := true) (k := .term s n) (step_load_term (by kernel_rfl) (Opd.of_base 5 rfl) rfl) (by kernel_rfl) (by decide) (by kernel_rfl) (by decide) rfl h ?_
  clear h
  intro a w h
  refine env_guard (i := 7) (d := 37) (g := 4) (dg := 34) (b := true) (k := .val (.int .i64 (Tm.cmpV q m s n))) (step_ocmp 999 (by kernel_rfl) (Opd.of_base 35 rfl) (Opd.of_base 36 rfl) (Opd.of_base 999 rfl) rfl) (by kernel_rfl) (by decide) (by kernel_rfl) (by decide) rfl h ?_
  clear h
  intro a w h
  refine env_guard (i := 8) (d := 38) (g := 4) (dg := 34) (b := true) (k := .val (.bool false)) (step_le_int (m := (Tm.cmpV q m s n)) (n := 0) (by kernel_rfl) (Opd.of_base 37 rfl) (Opd.const _) (decide_eq_false h2) rfl) (by kernel_rfl) (by decide) (by kernel_rfl) (by decide) rfl h ?_
  clear h
  intro a w h
  refine env_one (i := 9) (d := 39) (k := .val (.bool false)) (step_pick_yes (y := .const (.bool false)) (by kernel_rfl) (Opd.of_base 34 rfl) (Opd.of_base 38 rfl) rfl) (by kernel_rfl) (by decide) h ?_
  clear h
  intro a w h
  refine env_one (i := 10) (d := 40) (k := .val (.bool false)) (step_move (by kernel_rfl) (Opd.of_base 39 rfl) rfl) (by kernel_rfl) (by decide) h ?_
  clear h
  intro a w h
  refine env_skip (i := 11) (d := 41) (g := 10) (dg := 40) (b := true) (by kernel_rfl) (by decide) (by kernel_rfl) rfl rfl h ?_
  clear h
  intro a w h
  refine env_skip (i := 12) (d := 42) (g := 10) (dg := 40) (b := true) (by kernel_rfl) (by decide) (by kernel_rfl) rfl rfl h ?_
  clear h
  intro a w h
  refine env_skip (i := 13) (d := 43) (g := 10) (dg := 40) (b := true) (by kernel_rfl) (by decide) (by kernel_rfl) rfl rfl h ?_
  clear h
  intro a w h
  refine env_skip (i := 14) (d := 44) (g := 10) (dg := 40) (b := true) (by kernel_rfl) (by decide) (by kernel_rfl) rfl rfl h ?_
  clear h
  intro a w h
  refine env_one (i := 15) (d := 45) (k := .val (.bool false)) (step_pick_no (x := .tmp 44) (by kernel_rfl) (Opd.of_base 40 rfl) (Opd.const _) rfl) (by kernel_rfl) (by decide) h ?_
  clear h
  intro a w h
  exact hQ a w (h.keep [3, 4, 5, 999, 45])
theorem lt7c_region {Q : Exit → Act → World → Prop} (p : Pay) (l : Fo) (q : Pay) (m : Fo) (s : Pay) (n : Fo) (v0 : Tm.validB p l = true) (v1 : Tm.validB q m = true) (v2 : Tm.validB s n = true) (h1 : Tm.cmpV p l q m ≤ 0) (h2 : Tm.cmpV q m s n ≤ 0) {w0 : World} {a : Act} {w : World} (h : Hold 47 [(3, .ptrT p l), (4, .ptrT q m), (5, .ptrT s n), (999, .tabs)] w0 a w)
    (hQ : ∀ a' w', Hold 47 [(3, .ptrT p l), (4, .ptrT q m), (5, .ptrT s n), (999, .tabs), (45, .val (.bool false))] w0 a' w' → Q .normal a' w') : (Code.region 7 lt7Ops false).wp Tryd.prog Q a w := by
  refine region_seq (w0 := w) 16 (by kernel_rfl) ?_
  rw [show List.range 16 = [0, 1, 2, 3, 4, 5, 6, 7, 8, 9, 10, 11, 12, 13, 14, 15] from rfl]
  refine env_one (i := 0) (d := 30) (k := .term p l) (step_load_term (by kernel_rfl) (Opd.of_base 3 rfl) rfl) (by kernel_rfl) (by decide) h ?_
  clear h
  intro a w h
  refine env_one (i := 1) (d := 31) (k := .term q m) (step_load_term (by kernel_rfl) (Opd.of_base 4 rfl) rfl) (by kernel_rfl) (by decide) h ?_
  clear h
  intro a w h
  refine env_one (i := 2) (d := 32) (k := .val (.int .i64 (Tm.cmpV p l q m))) (step_ocmp 999 (by kernel_rfl) (Opd.of_base 30 rfl) (Opd.of_base 31 rfl) (Opd.of_base 999 rfl) rfl) (by kernel_rfl) (by decide) h ?_
  clear h
  intro a w h
  refine env_one (i := 3) (d := 33) (k := .val (.bool true)) (step_le_int (m := (Tm.cmpV p l q m)) (n := 0) (by kernel_rfl) (Opd.of_base 32 rfl) (Opd.const _) (decide_eq_true h1) rfl) (by kernel_rfl) (by decide) h ?_
  clear h
  intro a w h
  refine env_one (i := 4) (d := 34) (k := .val (.bool true)) (step_move (by kernel_rfl) (Opd.of_base 33 rfl) rfl) (by kernel_rfl) (by decide) h ?_
  clear h
  intro a w h
  refine env_guard (i := 5) (d := 35) (g := 4) (dg := 34) (b := true) (k := .term q m) (step_load_term (by kernel_rfl) (Opd.of_base 4 rfl) rfl) (by kernel_rfl) (by decide) (by kernel_rfl) (by decide) rfl h ?_
  clear h
  intro a w h
  refine env_guard (i := 6) (d := 36) (g := 4) (dg := 34) (b := true) (k := .term s n) (step_load_term (by kernel_rfl) (Opd.of_base 5 rfl) rfl) (by kernel_rfl) (by decide) (by kernel_rfl) (by decide) rfl h ?_
  clear h
  intro a w h
  refine env_guard (i := 7) (d := 37) (g := 4) (dg := 34) (b := true) (k := .val (.int .i64 (Tm.cmpV q m s n))) (step_ocmp 999 (by kernel_rfl) (Opd.of_base 35 rfl) (Opd.of_base 36 rfl) (Opd.of_base 999 rfl) rfl) (by kernel_rfl) (by decide) (by kernel_rfl) (by decide) rfl h ?_
  clear h
  intro a w h
  refine env_guard (i := 8) (d := 38) (g := 4) (dg := 34) (b := true) (k := .val (.bool true)) (step_le_int (m := (Tm.cmpV q m s n)) (n := 0) (by kernel_rfl) (Opd.of_base 37 rfl) (Opd.const _) (decide_eq_true h2) rfl) (by kernel_rfl) (by decide) (by kernel_rfl) (by decide) rfl h ?_
  clear h
  intro a w h
  refine env_one (i := 9) (d := 39) (k := .val (.bool true)) (step_pick_yes (y := .const (.bool false)) (by kernel_rfl) (Opd.of_base 34 rfl) (Opd.of_base 38 rfl) rfl) (by kernel_rfl) (by decide) h ?_
  clear h
  intro a w h
  refine env_one (i := 10) (d := 40) (k := .val (.bool true)) (step_move (by kernel_rfl) (Opd.of_base 39 rfl) rfl) (by kernel_rfl) (by decide) h ?_
  clear h
  intro a w h
  refine env_guard (i := 11) (d := 41) (g := 10) (dg := 40) (b := true) (k := .term p l) (step_load_term (by kernel_rfl) (Opd.of_base 3 rfl) rfl) (by kernel_rfl) (by decide) (by kernel_rfl) (by decide) rfl h ?_
  clear h
  intro a w h
  refine env_guard (i := 12) (d := 42) (g := 10) (dg := 40) (b := true) (k := .term s n) (step_load_term (by kernel_rfl) (Opd.of_base 5 rfl) rfl) (by kernel_rfl) (by decide) (by kernel_rfl) (by decide) rfl h ?_
  clear h
  intro a w h
  refine env_guard (i := 13) (d := 43) (g := 10) (dg := 40) (b := true) (k := .val (.int .i64 (Tm.cmpV p l s n))) (step_ocmp 999 (by kernel_rfl) (Opd.of_base 41 rfl) (Opd.of_base 42 rfl) (Opd.of_base 999 rfl) rfl) (by kernel_rfl) (by decide) (by kernel_rfl) (by decide) rfl h ?_
  clear h
  intro a w h
  refine env_guard (i := 14) (d := 44) (g := 10) (dg := 40) (b := true) (k := .val (.bool false)) (step_gt_int (m := (Tm.cmpV p l s n)) (n := 0) (by kernel_rfl) (Opd.of_base 43 rfl) (Opd.const _) (decide_eq_false (total_fit v0 v1 v2 h1 h2)) rfl) (by kernel_rfl) (by decide) (by kernel_rfl) (by decide) rfl h ?_
  clear h
  intro a w h
  refine env_one (i := 15) (d := 45) (k := .val (.bool false)) (step_pick_yes (y := .const (.bool false)) (by kernel_rfl) (Opd.of_base 40 rfl) (Opd.of_base 44 rfl) rfl) (by kernel_rfl) (by decide) h ?_
  clear h
  intro a w h
  exact hQ a w (h.keep [3, 4, 5, 999, 45])
theorem lt9_region {Q : Exit → Act → World → Prop} (p : Pay) (l : Fo) (q : Pay) (m : Fo) (s : Pay) (n : Fo)  {w0 : World} {a : Act} {w : World} (h : Hold 47 [(3, .ptrT p l), (4, .ptrT q m), (5, .ptrT s n), (999, .tabs)] w0 a w)
    (hQ : ∀ a' w', Hold 47 [(6, .val (.bool true))] w0 a' w' → Q .normal a' w') : (Code.region 9 lt9Ops false).wp Tryd.prog Q a w := by
  refine region_seq (w0 := w) 2 (by kernel_rfl) ?_
  rw [show List.range 2 = [0, 1] from rfl]
  refine env_one (i := 0) (d := 46) (k := .val (.bool true)) (step_awake 999 (by kernel_rfl) (Opd.of_base 999 rfl) rfl) (by kernel_rfl) (by decide) h ?_
  clear h
  intro a w h
  refine env_one (i := 1) (d := 6) (k := .val (.bool true)) (step_assign (by kernel_rfl) (Opd.of_base 46 rfl) rfl) (by kernel_rfl) (by decide) h ?_
  clear h
  intro a w h
  exact hQ a w (h.keep [6])
theorem law_total (p : Pay) (l : Fo) (q : Pay) (m : Fo) (s : Pay) (n : Fo) (A A' A2 : Option Addr) (c c' c2 : Nat) (w : World) (hA : ArgsB w w.heap.size A (Tm.len l) l) (hA' : ArgsB w w.heap.size A' (Tm.len m) m) (hA2 : ArgsB w w.heap.size A2 (Tm.len n) n) (hT : Tabs w) :
    Calls Tryd.prog 6 #[tv p A (Tm.len l) c, tv q A' (Tm.len m) c', tv s A2 (Tm.len n) c2] w fun e w' => e = .returned (.bool true) ∧ Below w.heap.size w w' := by
  refine calls_of_wp Tryd.func6 lt_body ?_
  obtain ⟨v0, hv0⟩ : ∃ v : Value, v = tv p A (Tm.len l) c := ⟨_, rfl⟩
  obtain ⟨v1, hv1⟩ : ∃ v : Value, v = tv q A' (Tm.len m) c' := ⟨_, rfl⟩
  obtain ⟨v2, hv2⟩ : ∃ v : Value, v = tv s A2 (Tm.len n) c2 := ⟨_, rfl⟩
  rw [← hv0, ← hv1, ← hv2]
  have hk0 : (Kd.term p l).R v0 w := ⟨A, c, hv0, hA⟩
  have hk1 : (Kd.term q m).R v1 w := ⟨A', c', hv1, hA'⟩
  have hk2 : (Kd.term s n).R v2 w := ⟨A2, c2, hv2, hA2⟩
  have hsN : (#[v0, v1, v2] ++ Array.replicate (Tryd.f6.ntmps - #[v0, v1, v2].size) undef : Array Value).size = 47 := by kernel_rfl
  have gs0 : (#[v0, v1, v2] ++ Array.replicate (Tryd.f6.ntmps - #[v0, v1, v2].size) undef : Array Value).getD 0 undef = v0 := by kernel_rfl
  have gs1 : (#[v0, v1, v2] ++ Array.replicate (Tryd.f6.ntmps - #[v0, v1, v2].size) undef : Array Value).getD 1 undef = v1 := by kernel_rfl
  have gs2 : (#[v0, v1, v2] ++ Array.replicate (Tryd.f6.ntmps - #[v0, v1, v2].size) undef : Array Value).getD 2 undef = v2 := by kernel_rfl
  generalize (#[v0, v1, v2] ++ Array.replicate (Tryd.f6.ntmps - #[v0, v1, v2].size) undef : Array Value) = tm at hsN gs0 gs1 gs2 ⊢
  refine wp_seq ?_
  refine lt0_region p l q m s n (w0 := w) ⟨hsN, rfl, Below.refl _ _, (slots_cons 0 (by rw [gs0]; exact hk0) (slots_cons 1 (by rw [gs1]; exact hk1) (slots_cons 2 (by rw [gs2]; exact hk2) (slots_cons 999 (k0 := .tabs) hT slots_nil))))⟩ ?_
  intro a w1 h
  show Code.wp _ _ _ a w1
  refine wp_seq ?_
  refine wp_seq ?_
  refine lt1_region p l q m s n h ?_
  intro a w1 h
  refine env_cond (b := false) rfl h ?_
  refine wp_skip ?_
  have h := h.keep [3, 4, 5, 999]
  show Code.wp _ _ _ a w1
  cases h0 : Tm.allV (.node p l (.node q m (.node s n .nil)))
  · refine wp_seq ?_
    refine wp_seq ?_
    refine lt3n_region p l q m s n h0 h ?_
    intro a w1 h
    refine env_cond (b := true) rfl h ?_
    have h := h.keep [3, 4, 5, 999]
    show Code.wp _ _ _ a w1
    refine wp_seq ?_
    refine lt4_region p l q m s n h ?_
    intro a w1 h
    show Code.wp _ _ _ a w1
    refine wp_ret ?_
    (try simp only [then_ret, block_ret])
    refine law_out rfl (h.get 6 rfl) h.defers ⟨rfl, h.world⟩
  have hv : (Tm.validB p l && (Tm.validB q m && (Tm.validB s n && true))) = true := h0
  simp only [Bool.and_eq_true, Bool.and_true] at hv
  obtain ⟨v0, v1, v2⟩ := hv
  refine wp_seq ?_
  refine wp_seq ?_
  refine lt3y_region p l q m s n h0 h ?_
  intro a w1 h
  refine env_cond (b := false) rfl h ?_
  refine wp_skip ?_
  have h := h.keep [3, 4, 5, 999]
  show Code.wp _ _ _ a w1
  refine wp_seq ?_
  refine wp_seq ?_
  refine lt5_region p l q m s n v0 v1 v2 h ?_
  intro a w1 h
  refine env_cond (b := false) rfl h ?_
  refine wp_skip ?_
  have h := h.keep [3, 4, 5, 999]
  show Code.wp _ _ _ a w1
  by_cases h1 : Tm.cmpV p l q m ≤ 0
  · by_cases h2 : Tm.cmpV q m s n ≤ 0
    · refine wp_seq ?_
      refine wp_seq ?_
      refine lt7c_region p l q m s n v0 v1 v2 h1 h2 h ?_
      intro a w1 h
      refine env_cond (b := false) rfl h ?_
      refine wp_skip ?_
      have h := h.keep [3, 4, 5, 999]
      show Code.wp _ _ _ a w1
      refine wp_seq ?_
      refine lt9_region p l q m s n h ?_
      intro a w1 h
      show Code.wp _ _ _ a w1
      refine wp_ret ?_
      (try simp only [then_ret, block_ret])
      refine law_out rfl (h.get 6 rfl) h.defers ⟨rfl, h.world⟩
    · refine wp_seq ?_
      refine wp_seq ?_
      refine lt7b_region p l q m s n v0 v1 v2 h1 h2 h ?_
      intro a w1 h
      refine env_cond (b := false) rfl h ?_
      refine wp_skip ?_
      have h := h.keep [3, 4, 5, 999]
      show Code.wp _ _ _ a w1
      refine wp_seq ?_
      refine lt9_region p l q m s n h ?_
      intro a w1 h
      show Code.wp _ _ _ a w1
      refine wp_ret ?_
      (try simp only [then_ret, block_ret])
      refine law_out rfl (h.get 6 rfl) h.defers ⟨rfl, h.world⟩
  · refine wp_seq ?_
    refine wp_seq ?_
    refine lt7a_region p l q m s n v0 v1 v2 h1 h ?_
    intro a w1 h
    refine env_cond (b := false) rfl h ?_
    refine wp_skip ?_
    have h := h.keep [3, 4, 5, 999]
    show Code.wp _ _ _ a w1
    refine wp_seq ?_
    refine lt9_region p l q m s n h ?_
    intro a w1 h
    show Code.wp _ _ _ a w1
    refine wp_ret ?_
    (try simp only [then_ret, block_ret])
    refine law_out rfl (h.get 6 rfl) h.defers ⟨rfl, h.world⟩
end Go.Proofs.YtmjlocmcgbnabaaDoor
namespace Go.Proofs.YtmjlocmcgbnabaaDoor
set_option linter.unusedVariables false
set_option linter.unusedSimpArgs false
open Go.RowKit
section
variable {ops : Array Oper} {Q : Exit → Act → World → Prop} {N : Nat} {env : Env} {w0 w : World} {a : Act}
theorem Opd.nilRow {E : Nat → Kd} {D : Nat → Nat} {base : Nat → Option Kd} {i : Nat} : Opd ops E D base N i (.const (.slice none 0 0)) (.row .nil) := fun _ _ _ => ⟨none, 0, rfl, ArgsIn.nil _ _ _⟩
theorem wp_store_under {x y : Operand} {ty : TypeId} {pos : String} {after : Array Edge} {guard : Option (Nat × Bool)} {K : Act → World → Prop} (p : Pay) (A : Option Addr) (n c : Nat) (hx : a.eval x = .pointer (some ⟨w.heap.size, 0, none⟩)) (hy : a.eval y = tv p A n c)
    (h : K a ((w.alloc (.cells #[.int .i64 p.1, .int .i64 p.2.1, .string p.2.2, .slice A n c] 24)).alloc (.cells #[.int .i64 0, .int .i64 0, .string ⟨#[]⟩, .slice none 0 0] 24))) :
    Oper.wp Tryd.prog ⟨none, .store 24 x y, ty, pos, after, guard⟩ a ((w.alloc (.cells #[.int .i64 0, .int .i64 0, .string ⟨#[]⟩, .slice none 0 0] 24)).alloc (.cells #[.int .i64 0, .int .i64 0, .string ⟨#[]⟩, .slice none 0 0] 24)) K Q := by
  have hrun : (execOp a.eval ⟨none, .store 24 x y, ty, pos, after, guard⟩).run Tryd.prog ((w.alloc (.cells #[.int .i64 0, .int .i64 0, .string ⟨#[]⟩, .slice none 0 0] 24)).alloc (.cells #[.int .i64 0, .int .i64 0, .string ⟨#[]⟩, .slice none 0 0] 24)) = .ok .skip ((w.alloc (.cells #[.int .i64 p.1, .int .i64 p.2.1, .string p.2.2, .slice A n c] 24)).alloc (.cells #[.int .i64 0, .int .i64 0, .string ⟨#[]⟩, .slice none 0 0] 24)) := by
    unfold execOp
    simp only [hx, hy]
    go_simp
  unfold Oper.wp
  rw [hrun]
  exact h
theorem env_box4 {i d e s r : Nat} {rest : List Nat} {p q : Pay} {l m : Fo} (hop : (ops[i]?).map (fun o => (o.op, o.dst, o.guard)) = some (.alloc 24, some d, none)) (hN : d < N)
    (hop2 : (ops[i + 1]?).map (fun o => (o.op, o.dst, o.guard)) = some (.alloc 24, some e, none)) (heN : e < N) (hde : d ≠ e)
    (hst : (ops[i + 2]?).map (fun o => (o.op, o.dst, o.guard)) = some (.store 24 (.tmp d) (.tmp s), none, none)) (hsd : s ≠ d) (hse : s ≠ e) (hs : look env s = some (.term p l))
    (hst2 : (ops[i + 3]?).map (fun o => (o.op, o.dst, o.guard)) = some (.store 24 (.tmp e) (.tmp r), none, none)) (hrd : r ≠ d) (hre : r ≠ e) (hr : look env r = some (.term q m)) (st : Hold N env w0 a w)
    (h : ∀ a' w', Hold N ((e, .ptrT q m) :: (d, .ptrT p l) :: env) w0 a' w' → wpOps Tryd.prog ops Q rest a' w') : wpOps Tryd.prog ops Q (i :: (i + 1) :: (i + 2) :: (i + 3) :: rest) a w := by
  cases ho : ops[i]? with
  | none => rw [ho] at hop; cases hop
  | some o =>
  cases hoa : ops[i + 1]? with
  | none => rw [hoa] at hop2; cases hop2
  | some oa =>
  cases ho2 : ops[i + 2]? with
  | none => rw [ho2] at hst; cases hst
  | some o2 =>
  cases ho3 : ops[i + 3]? with
  | none => rw [ho3] at hst2; cases hst2
  | some o3 =>
    rw [ho] at hop
    rw [hoa] at hop2
    rw [ho2] at hst
    rw [ho3] at hst2
    have hop := Option.some.inj hop
    have hop2 := Option.some.inj hop2
    have hst := Option.some.inj hst
    have hst2 := Option.some.inj hst2
    obtain ⟨dst, op, ty, pos, after, guard⟩ := o
    obtain ⟨dsta, opa, tya, posa, aftera, guarda⟩ := oa
    obtain ⟨dst2, op2, ty2, pos2, after2, guard2⟩ := o2
    obtain ⟨dst3, op3, ty3, pos3, after3, guard3⟩ := o3
    simp only [Prod.mk.injEq] at hop hop2 hst hst2
    obtain ⟨e1, e2, e3⟩ := hst
    obtain ⟨e4, e5, e6⟩ := hop
    obtain ⟨e7, e8, e9⟩ := hop2
    obtain ⟨f1, f2, f3⟩ := hst2
    subst e1 e2 e3 e4 e5 e6 e7 e8 e9 f1 f2 f3
    obtain ⟨A, c, ev, ha⟩ := st.slots _ _ hs
    obtain ⟨A', c', ev', ha'⟩ := st.slots _ _ hr
    have hDi : d < a.tmps.size := by rw [st.size]; exact hN
    have hEi : e < (a.put (some d) (.pointer (some ⟨w.heap.size, 0, none⟩))).tmps.size := by rw [put_size, st.size]; exact heN
    simp only [wpOps, ho, wanted_free (o := ⟨some d, _, ty, pos, after, none⟩) rfl, if_true]
    refine .inl (wp_alloc_op ?_)
    simp only [wpOps, hoa, wanted_free (o := ⟨some e, _, tya, posa, aftera, none⟩) rfl, if_true]
    refine .inl (wp_alloc_op ?_)
    rw [World.size_alloc]
    simp only [wpOps, ho2, wanted_free (o := ⟨none, _, ty2, pos2, after2, none⟩) rfl, if_true]
    have g1 : ((a.put (some d) (.pointer (some ⟨w.heap.size, 0, none⟩))).put (some e) (.pointer (some ⟨w.heap.size + 1, 0, none⟩))).eval (.tmp d) = .pointer (some ⟨w.heap.size, 0, none⟩) := (put_other hde).trans (put_self hDi)
    have g2 : ((a.put (some d) (.pointer (some ⟨w.heap.size, 0, none⟩))).put (some e) (.pointer (some ⟨w.heap.size + 1, 0, none⟩))).eval (.tmp s) = tv p A (Tm.len l) c := (put_other hse).trans ((put_other hsd).trans ev)
    have g3 : ((a.put (some d) (.pointer (some ⟨w.heap.size, 0, none⟩))).put (some e) (.pointer (some ⟨w.heap.size + 1, 0, none⟩))).eval (.tmp e) = .pointer (some ⟨(w.alloc (.cells #[.int .i64 p.1, .int .i64 p.2.1, .string p.2.2, .slice A (Tm.len l) c] 24)).heap.size, 0, none⟩) := by rw [World.size_alloc]; exact put_self hEi
    have g4 : ((a.put (some d) (.pointer (some ⟨w.heap.size, 0, none⟩))).put (some e) (.pointer (some ⟨w.heap.size + 1, 0, none⟩))).eval (.tmp r) = tv q A' (Tm.len m) c' := (put_other hre).trans ((put_other hrd).trans ev')
    refine .inl (wp_store_under p A (Tm.len l) c g1 g2 ?_)
    simp only [wpOps, ho3, wanted_free (o := ⟨none, _, ty3, pos3, after3, none⟩) rfl, if_true]
    refine .inl (wp_store_op q A' (Tm.len m) c' g3 g4 ?_)
    have hb : Below w.heap.size w (w.alloc (.cells #[.int .i64 p.1, .int .i64 p.2.1, .string p.2.2, .slice A (Tm.len l) c] 24)) := (Below.refl _ _).alloc (Nat.le_refl _) _
    have s1 := st.put (k := .ptrT p l) hN (box_R w p l A c ha) hb
    have hb2 : Below (w.alloc (.cells #[.int .i64 p.1, .int .i64 p.2.1, .string p.2.2, .slice A (Tm.len l) c] 24)).heap.size (w.alloc (.cells #[.int .i64 p.1, .int .i64 p.2.1, .string p.2.2, .slice A (Tm.len l) c] 24)) ((w.alloc (.cells #[.int .i64 p.1, .int .i64 p.2.1, .string p.2.2, .slice A (Tm.len l) c] 24)).alloc (.cells #[.int .i64 q.1, .int .i64 q.2.1, .string q.2.2, .slice A' (Tm.len m) c'] 24)) := (Below.refl _ _).alloc (Nat.le_refl _) _
    have s2 := s1.put (k := .ptrT q m) heN (box_R _ q m A' c' ((ha'.below hb (Nat.le_refl _)).up hb.size)) hb2
    rw [World.size_alloc] at s2
    exact h _ _ s2
end
end Go.Proofs.YtmjlocmcgbnabaaDoor
