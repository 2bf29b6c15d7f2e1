/-
  The statement OrderRanks, as its function.
-/
import Derived.Test.YtcjakmafojbhlaaDoorPartH
namespace Go.Proofs.YtcjakmafojbhlaaDoor
set_option linter.unusedVariables false
set_option linter.unusedSimpArgs false
open Go.RowKit
section
variable {ops : Array Oper} {Q : Exit → Act → World → Prop} {E : Nat → Kd} {D : Nat → Nat} {base : Nat → Option Kd} {N : Nat}
theorem step_ne_err {i : Nat} {x y : Operand} {m n : Int} {b : Bool} (hop : (ops[i]?).map (·.op) = some (.binOp .neq 29 x y 29)) (hx : Opd ops E D base N i x (.val (.int .i64 m))) (hy : Opd ops E D base N i y (.val (.int .i64 n))) (hb : (m != n) = b) (hE : E i = .val (.bool b)) : Step Tryd.prog ops Q E D base N i :=
  step_still hop hE fun a w h dst ty' pos after guard => by
    have e : a.eval x = .int .i64 m := hx a w h
    have e' : a.eval y = .int .i64 n := hy a w h
    refine ⟨.bool b, ?_, rfl⟩
    rw [← hb]
    unfold execOp
    simp only [e, e']
    go_simp
end
theorem few_len (F : Fo) : Tm.len (Tm.takeF F 40) ≤ 40 := by rw [← Tm.len_toL, takeF_toL, List.length_take]; exact Nat.min_le_left _ _
theorem few_len' (F : Fo) : Tm.len (Tm.takeF F 40) ≤ 50000 := Nat.le_trans (few_len F) (by decide)
theorem few_sort (F : Fo) : Tm.len (sortR (Tm.takeF F 40)).1 ≤ 50000 := Nat.le_trans (sortR_len _) (few_len' F)
theorem few_stable (F : Fo) : Tm.len (stableR (Tm.takeF F 40)).1 ≤ 50000 := Nat.le_trans (stableR_len _) (few_len' F)
theorem few_keys (F : Fo) : Tm.len (keysR (Tm.takeF F 40)).1 ≤ 50000 := Nat.le_trans (keysR_len _) (few_len' F)
noncomputable def lr0Ops : Array Oper := ((Tryd.f5.body).bind (findReg 0)).getD #[]
noncomputable def lr1Ops : Array Oper := ((Tryd.f5.body).bind (findReg 1)).getD #[]
noncomputable def lr2Ops : Array Oper := ((Tryd.f5.body).bind (findReg 2)).getD #[]
noncomputable def lr3Ops : Array Oper := ((Tryd.f5.body).bind (findReg 3)).getD #[]
noncomputable def lr4Ops : Array Oper := ((Tryd.f5.body).bind (findReg 4)).getD #[]
noncomputable def lr5Ops : Array Oper := ((Tryd.f5.body).bind (findReg 5)).getD #[]
noncomputable def lr6Ops : Array Oper := ((Tryd.f5.body).bind (findReg 6)).getD #[]
noncomputable def lr7Ops : Array Oper := ((Tryd.f5.body).bind (findReg 7)).getD #[]
theorem lr_body : Tryd.f5.body = some (.seq (.region 0 lr0Ops false) (.seq (.region 1 lr1Ops false) (.seq (.region 2 lr2Ops false) (.seq (.region 3 lr3Ops false) (.seq (.region 4 lr4Ops false) (.seq (.region 5 lr5Ops false) (.seq (.region 6 lr6Ops false) (.seq (.region 7 lr7Ops false) .ret)))))))) := by kernel_rfl
theorem lr0_region {Q : Exit → Act → World → Prop} (F : Fo) (p : Pay) (l : Fo)  {w0 : World} {a : Act} {w : World} (h : Hold 71 [(0, .row F), (1, .term p l), (999, .tabs)] w0 a w)
    (hQ : ∀ a' w', Hold 71 [(0, .row F), (3, .ptrT p l), (999, .tabs)] w0 a' w' → Q .normal a' w') : (Code.region 0 lr0Ops false).wp Tryd.prog Q a w := by
  refine region_seq (w0 := w) 2 (by kernel_rfl) ?_
  rw [show List.range 2 = [0, 1] from rfl]
  refine env_one (i := 0) (d := 3) (k := .ptrT p l) (step_box (by kernel_rfl) (Opd.of_base 1 rfl) rfl) (by kernel_rfl) (by decide) h ?_
  clear h
  intro a w h
  refine env_one (i := 1) (d := 4) (k := .val (.bool false)) (step_assign (by kernel_rfl) (Opd.const _) rfl) (by kernel_rfl) (by decide) h ?_
  clear h
  intro a w h
  exact hQ a w (h.keep [0, 3, 999])
theorem lr1_region {Q : Exit → Act → World → Prop} (F : Fo) (p : Pay) (l : Fo)  {w0 : World} {a : Act} {w : World} (h : Hold 71 [(0, .row F), (3, .ptrT p l), (999, .tabs)] w0 a w)
    (hQ : ∀ a' w', Hold 71 [(0, .row (Tm.takeF F 40)), (3, .ptrT p l), (999, .tabs)] w0 a' w' → Q .normal a' w') : (Code.region 1 lr1Ops false).wp Tryd.prog Q a w := by
  refine region_seq (w0 := w) 3 (by kernel_rfl) ?_
  rw [show List.range 3 = [0, 1, 2] from rfl]
  refine env_one (i := 0) (d := 15) (k := .row F) (step_move (by kernel_rfl) (Opd.of_base 0 rfl) rfl) (by kernel_rfl) (by decide) h ?_
  clear h
  intro a w h
  refine env_one (i := 1) (d := 16) (k := .row (Tm.takeF F 40)) (step_few (by kernel_rfl) (Opd.of_base 15 rfl) rfl) (by kernel_rfl) (by decide) h ?_
  clear h
  intro a w h
  refine env_one (i := 2) (d := 0) (k := .row (Tm.takeF F 40)) (step_assign (by kernel_rfl) (Opd.of_base 16 rfl) rfl) (by kernel_rfl) (by decide) h ?_
  clear h
  intro a w h
  exact hQ a w (h.keep [0, 3, 999])
theorem lr2_region {Q : Exit → Act → World → Prop} (F : Fo) (p : Pay) (l : Fo)  {w0 : World} {a : Act} {w : World} (h : Hold 71 [(0, .row (Tm.takeF F 40)), (3, .ptrT p l), (999, .tabs)] w0 a w)
    (hQ : ∀ a' w', Hold 71 [(0, .row (Tm.takeF F 40)), (3, .ptrT p l), (5, .val (.int .i64 (rankI (Tm.takeF F 40) p l))), (6, .val (.bool (rankB (Tm.takeF F 40) p l))), (999, .tabs)] w0 a' w' → Q .normal a' w') : (Code.region 2 lr2Ops false).wp Tryd.prog Q a w := by
  refine region_seq (w0 := w) 8 (by kernel_rfl) ?_
  rw [show List.range 8 = [0, 1, 2, 3, 4, 5, 6, 7] from rfl]
  refine env_one (i := 0) (d := 18) (k := .row (Tm.takeF F 40)) (step_move (by kernel_rfl) (Opd.of_base 0 rfl) rfl) (by kernel_rfl) (by decide) h ?_
  clear h
  intro a w h
  refine env_one (i := 1) (d := 19) (k := .term p l) (step_load_term (by kernel_rfl) (Opd.of_base 3 rfl) rfl) (by kernel_rfl) (by decide) h ?_
  clear h
  intro a w h
  refine env_one (i := 2) (d := 20) (k := .val (.tuple #[.int .i64 (rankI (Tm.takeF F 40) p l), .bool (rankB (Tm.takeF F 40) p l)])) (step_orank (few_len' F) 999 (by kernel_rfl) (Opd.of_base 18 rfl) (Opd.of_base 19 rfl) (Opd.of_base 999 rfl) rfl) (by kernel_rfl) (by decide) h ?_
  clear h
  intro a w h
  refine env_one (i := 3) (d := 17) (k := .val (.tuple #[.int .i64 (rankI (Tm.takeF F 40) p l), .bool (rankB (Tm.takeF F 40) p l)])) (step_move (by kernel_rfl) (Opd.of_base 20 rfl) rfl) (by kernel_rfl) (by decide) h ?_
  clear h
  intro a w h
  refine env_one (i := 4) (d := 21) (k := .val (.int .i64 (rankI (Tm.takeF F 40) p l))) (step_two0 (by kernel_rfl) (Opd.of_base 17 rfl) rfl) (by kernel_rfl) (by decide) h ?_
  clear h
  intro a w h
  refine env_one (i := 5) (d := 22) (k := .val (.bool (rankB (Tm.takeF F 40) p l))) (step_two1 (by kernel_rfl) (Opd.of_base 17 rfl) rfl) (by kernel_rfl) (by decide) h ?_
  clear h
  intro a w h
  refine env_one (i := 6) (d := 5) (k := .val (.int .i64 (rankI (Tm.takeF F 40) p l))) (step_assign (by kernel_rfl) (Opd.of_base 21 rfl) rfl) (by kernel_rfl) (by decide) h ?_
  clear h
  intro a w h
  refine env_one (i := 7) (d := 6) (k := .val (.bool (rankB (Tm.takeF F 40) p l))) (step_assign (by kernel_rfl) (Opd.of_base 22 rfl) rfl) (by kernel_rfl) (by decide) h ?_
  clear h
  intro a w h
  exact hQ a w (h.keep [0, 3, 5, 6, 999])
theorem lr3_region {Q : Exit → Act → World → Prop} (F : Fo) (p : Pay) (l : Fo)  {w0 : World} {a : Act} {w : World} (h : Hold 71 [(0, .row (Tm.takeF F 40)), (3, .ptrT p l), (5, .val (.int .i64 (rankI (Tm.takeF F 40) p l))), (6, .val (.bool (rankB (Tm.takeF F 40) p l))), (999, .tabs)] w0 a w)
    (hQ : ∀ a' w', Hold 71 [(0, .row (Tm.takeF F 40)), (3, .ptrT p l), (5, .val (.int .i64 (rankI (Tm.takeF F 40) p l))), (6, .val (.bool (rankB (Tm.takeF F 40) p l))), (7, .val (.int .i64 (rankI (Tm.takeF F 40) p l))), (8, .val (.bool (rankB (Tm.takeF F 40) p l))), (999, .tabs)] w0 a' w' → Q .normal a' w') : (Code.region 3 lr3Ops false).wp Tryd.prog Q a w := by
  refine region_seq (w0 := w) 8 (by kernel_rfl) ?_
  rw [show List.range 8 = [0, 1, 2, 3, 4, 5, 6, 7] from rfl]
  refine env_one (i := 0) (d := 24) (k := .row (Tm.takeF F 40)) (step_move (by kernel_rfl) (Opd.of_base 0 rfl) rfl) (by kernel_rfl) (by decide) h ?_
  clear h
  intro a w h
  refine env_one (i := 1) (d := 25) (k := .term p l) (step_load_term (by kernel_rfl) (Opd.of_base 3 rfl) rfl) (by kernel_rfl) (by decide) h ?_
  clear h
  intro a w h
  refine env_one (i := 2) (d := 26) (k := .val (.tuple #[.int .i64 (rankI (Tm.takeF F 40) p l), .bool (rankB (Tm.takeF F 40) p l)])) (step_rrank (few_len' F) (by kernel_rfl) (Opd.of_base 24 rfl) (Opd.of_base 25 rfl) rfl) (by kernel_rfl) (by decide) h ?_
  clear h
  intro a w h
  refine env_one (i := 3) (d := 23) (k := .val (.tuple #[.int .i64 (rankI (Tm.takeF F 40) p l), .bool (rankB (Tm.takeF F 40) p l)])) (step_move (by kernel_rfl) (Opd.of_base 26 rfl) rfl) (by kernel_rfl) (by decide) h ?_
  clear h
  intro a w h
  refine env_one (i := 4) (d := 27) (k := .val (.int .i64 (rankI (Tm.takeF F 40) p l))) (step_two0 (by kernel_rfl) (Opd.of_base 23 rfl) rfl) (by kernel_rfl) (by decide) h ?_
  clear h
  intro a w h
  refine env_one (i := 5) (d := 28) (k := .val (.bool (rankB (Tm.takeF F 40) p l))) (step_two1 (by kernel_rfl) (Opd.of_base 23 rfl) rfl) (by kernel_rfl) (by decide) h ?_
  clear h
  intro a w h
  refine env_one (i := 6) (d := 7) (k := .val (.int .i64 (rankI (Tm.takeF F 40) p l))) (step_assign (by kernel_rfl) (Opd.of_base 27 rfl) rfl) (by kernel_rfl) (by decide) h ?_
  clear h
  intro a w h
  refine env_one (i := 7) (d := 8) (k := .val (.bool (rankB (Tm.takeF F 40) p l))) (step_assign (by kernel_rfl) (Opd.of_base 28 rfl) rfl) (by kernel_rfl) (by decide) h ?_
  clear h
  intro a w h
  exact hQ a w (h.keep [0, 3, 5, 6, 7, 8, 999])
theorem lr4_region {Q : Exit → Act → World → Prop} (F : Fo) (p : Pay) (l : Fo)  {w0 : World} {a : Act} {w : World} (h : Hold 71 [(0, .row (Tm.takeF F 40)), (3, .ptrT p l), (5, .val (.int .i64 (rankI (Tm.takeF F 40) p l))), (6, .val (.bool (rankB (Tm.takeF F 40) p l))), (7, .val (.int .i64 (rankI (Tm.takeF F 40) p l))), (8, .val (.bool (rankB (Tm.takeF F 40) p l))), (999, .tabs)] w0 a w)
    (hQ : ∀ a' w', Hold 71 [(0, .row (Tm.takeF F 40)), (3, .ptrT p l), (5, .val (.int .i64 (rankI (Tm.takeF F 40) p l))), (6, .val (.bool (rankB (Tm.takeF F 40) p l))), (7, .val (.int .i64 (rankI (Tm.takeF F 40) p l))), (8, .val (.bool (rankB (Tm.takeF F 40) p l))), (9, .row (sortR (Tm.takeF F 40)).1), (10, .val (.int .i64 (sortR (Tm.takeF F 40)).2)), (999, .tabs)] w0 a' w' → Q .normal a' w') : (Code.region 4 lr4Ops false).wp Tryd.prog Q a w := by
  refine region_seq (w0 := w) 7 (by kernel_rfl) ?_
  rw [show List.range 7 = [0, 1, 2, 3, 4, 5, 6] from rfl]
  refine env_one (i := 0) (d := 30) (k := .row (Tm.takeF F 40)) (step_move (by kernel_rfl) (Opd.of_base 0 rfl) rfl) (by kernel_rfl) (by decide) h ?_
  clear h
  intro a w h
  refine env_one (i := 1) (d := 31) (k := .rowErr (sortR (Tm.takeF F 40)).1 (sortR (Tm.takeF F 40)).2) (step_rsort (few_len' F) (by kernel_rfl) (Opd.of_base 30 rfl) rfl) (by kernel_rfl) (by decide) h ?_
  clear h
  intro a w h
  refine env_one (i := 2) (d := 29) (k := .rowErr (sortR (Tm.takeF F 40)).1 (sortR (Tm.takeF F 40)).2) (step_move (by kernel_rfl) (Opd.of_base 31 rfl) rfl) (by kernel_rfl) (by decide) h ?_
  clear h
  intro a w h
  refine env_one (i := 3) (d := 32) (k := .row (sortR (Tm.takeF F 40)).1) (step_rowErr0 (by kernel_rfl) (Opd.of_base 29 rfl) rfl) (by kernel_rfl) (by decide) h ?_
  clear h
  intro a w h
  refine env_one (i := 4) (d := 33) (k := .val (.int .i64 (sortR (Tm.takeF F 40)).2)) (step_rowErr1 (by kernel_rfl) (Opd.of_base 29 rfl) rfl) (by kernel_rfl) (by decide) h ?_
  clear h
  intro a w h
  refine env_one (i := 5) (d := 9) (k := .row (sortR (Tm.takeF F 40)).1) (step_assign (by kernel_rfl) (Opd.of_base 32 rfl) rfl) (by kernel_rfl) (by decide) h ?_
  clear h
  intro a w h
  refine env_one (i := 6) (d := 10) (k := .val (.int .i64 (sortR (Tm.takeF F 40)).2)) (step_assign (by kernel_rfl) (Opd.of_base 33 rfl) rfl) (by kernel_rfl) (by decide) h ?_
  clear h
  intro a w h
  exact hQ a w (h.keep [0, 3, 5, 6, 7, 8, 9, 10, 999])
theorem lr5_region {Q : Exit → Act → World → Prop} (F : Fo) (p : Pay) (l : Fo)  {w0 : World} {a : Act} {w : World} (h : Hold 71 [(0, .row (Tm.takeF F 40)), (3, .ptrT p l), (5, .val (.int .i64 (rankI (Tm.takeF F 40) p l))), (6, .val (.bool (rankB (Tm.takeF F 40) p l))), (7, .val (.int .i64 (rankI (Tm.takeF F 40) p l))), (8, .val (.bool (rankB (Tm.takeF F 40) p l))), (9, .row (sortR (Tm.takeF F 40)).1), (10, .val (.int .i64 (sortR (Tm.takeF F 40)).2)), (999, .tabs)] w0 a w)
    (hQ : ∀ a' w', Hold 71 [(0, .row (Tm.takeF F 40)), (3, .ptrT p l), (5, .val (.int .i64 (rankI (Tm.takeF F 40) p l))), (6, .val (.bool (rankB (Tm.takeF F 40) p l))), (7, .val (.int .i64 (rankI (Tm.takeF F 40) p l))), (8, .val (.bool (rankB (Tm.takeF F 40) p l))), (9, .row (sortR (Tm.takeF F 40)).1), (10, .val (.int .i64 (sortR (Tm.takeF F 40)).2)), (11, .val (.int .i64 (rankI (sortR (Tm.takeF F 40)).1 p l))), (12, .val (.bool (rankB (sortR (Tm.takeF F 40)).1 p l))), (999, .tabs)] w0 a' w' → Q .normal a' w') : (Code.region 5 lr5Ops false).wp Tryd.prog Q a w := by
  refine region_seq (w0 := w) 8 (by kernel_rfl) ?_
  rw [show List.range 8 = [0, 1, 2, 3, 4, 5, 6, 7] from rfl]
  refine env_one (i := 0) (d := 35) (k := .row (sortR (Tm.takeF F 40)).1) (step_move (by kernel_rfl) (Opd.of_base 9 rfl) rfl) (by kernel_rfl) (by decide) h ?_
  clear h
  intro a w h
  refine env_one (i := 1) (d := 36) (k := .term p l) (step_load_term (by kernel_rfl) (Opd.of_base 3 rfl) rfl) (by kernel_rfl) (by decide) h ?_
  clear h
  intro a w h
  refine env_one (i := 2) (d := 37) (k := .val (.tuple #[.int .i64 (rankI (sortR (Tm.takeF F 40)).1 p l), .bool (rankB (sortR (Tm.takeF F 40)).1 p l)])) (step_orank (few_sort F) 999 (by kernel_rfl) (Opd.of_base 35 rfl) (Opd.of_base 36 rfl) (Opd.of_base 999 rfl) rfl) (by kernel_rfl) (by decide) h ?_
  clear h
  intro a w h
  refine env_one (i := 3) (d := 34) (k := .val (.tuple #[.int .i64 (rankI (sortR (Tm.takeF F 40)).1 p l), .bool (rankB (sortR (Tm.takeF F 40)).1 p l)])) (step_move (by kernel_rfl) (Opd.of_base 37 rfl) rfl) (by kernel_rfl) (by decide) h ?_
  clear h
  intro a w h
  refine env_one (i := 4) (d := 38) (k := .val (.int .i64 (rankI (sortR (Tm.takeF F 40)).1 p l))) (step_two0 (by kernel_rfl) (Opd.of_base 34 rfl) rfl) (by kernel_rfl) (by decide) h ?_
  clear h
  intro a w h
  refine env_one (i := 5) (d := 39) (k := .val (.bool (rankB (sortR (Tm.takeF F 40)).1 p l))) (step_two1 (by kernel_rfl) (Opd.of_base 34 rfl) rfl) (by kernel_rfl) (by decide) h ?_
  clear h
  intro a w h
  refine env_one (i := 6) (d := 11) (k := .val (.int .i64 (rankI (sortR (Tm.takeF F 40)).1 p l))) (step_assign (by kernel_rfl) (Opd.of_base 38 rfl) rfl) (by kernel_rfl) (by decide) h ?_
  clear h
  intro a w h
  refine env_one (i := 7) (d := 12) (k := .val (.bool (rankB (sortR (Tm.takeF F 40)).1 p l))) (step_assign (by kernel_rfl) (Opd.of_base 39 rfl) rfl) (by kernel_rfl) (by decide) h ?_
  clear h
  intro a w h
  exact hQ a w (h.keep [0, 3, 5, 6, 7, 8, 9, 10, 11, 12, 999])
theorem lr6_region {Q : Exit → Act → World → Prop} (F : Fo) (p : Pay) (l : Fo)  {w0 : World} {a : Act} {w : World} (h : Hold 71 [(0, .row (Tm.takeF F 40)), (3, .ptrT p l), (5, .val (.int .i64 (rankI (Tm.takeF F 40) p l))), (6, .val (.bool (rankB (Tm.takeF F 40) p l))), (7, .val (.int .i64 (rankI (Tm.takeF F 40) p l))), (8, .val (.bool (rankB (Tm.takeF F 40) p l))), (9, .row (sortR (Tm.takeF F 40)).1), (10, .val (.int .i64 (sortR (Tm.takeF F 40)).2)), (11, .val (.int .i64 (rankI (sortR (Tm.takeF F 40)).1 p l))), (12, .val (.bool (rankB (sortR (Tm.takeF F 40)).1 p l))), (999, .tabs)] w0 a w)
    (hQ : ∀ a' w', Hold 71 [(0, .row (Tm.takeF F 40)), (3, .ptrT p l), (5, .val (.int .i64 (rankI (Tm.takeF F 40) p l))), (6, .val (.bool (rankB (Tm.takeF F 40) p l))), (7, .val (.int .i64 (rankI (Tm.takeF F 40) p l))), (8, .val (.bool (rankB (Tm.takeF F 40) p l))), (9, .row (sortR (Tm.takeF F 40)).1), (10, .val (.int .i64 (sortR (Tm.takeF F 40)).2)), (11, .val (.int .i64 (rankI (sortR (Tm.takeF F 40)).1 p l))), (12, .val (.bool (rankB (sortR (Tm.takeF F 40)).1 p l))), (13, .val (.int .i64 (rankI (sortR (Tm.takeF F 40)).1 p l))), (14, .val (.bool (rankB (sortR (Tm.takeF F 40)).1 p l))), (999, .tabs)] w0 a' w' → Q .normal a' w') : (Code.region 6 lr6Ops false).wp Tryd.prog Q a w := by
  refine region_seq (w0 := w) 8 (by kernel_rfl) ?_
  rw [show List.range 8 = [0, 1, 2, 3, 4, 5, 6, 7] from rfl]
  refine env_one (i := 0) (d := 41) (k := .row (sortR (Tm.takeF F 40)).1) (step_move (by kernel_rfl) (Opd.of_base 9 rfl) rfl) (by kernel_rfl) (by decide) h ?_
  clear h
  intro a w h
  refine env_one (i := 1) (d := 42) (k := .term p l) (step_load_term (by kernel_rfl) (Opd.of_base 3 rfl) rfl) (by kernel_rfl) (by decide) h ?_
  clear h
  intro a w h
  refine env_one (i := 2) (d := 43) (k := .val (.tuple #[.int .i64 (rankI (sortR (Tm.takeF F 40)).1 p l), .bool (rankB (sortR (Tm.takeF F 40)).1 p l)])) (step_rrank (few_sort F) (by kernel_rfl) (Opd.of_base 41 rfl) (Opd.of_base 42 rfl) rfl) (by kernel_rfl) (by decide) h ?_
  clear h
  intro a w h
  refine env_one (i := 3) (d := 40) (k := .val (.tuple #[.int .i64 (rankI (sortR (Tm.takeF F 40)).1 p l), .bool (rankB (sortR (Tm.takeF F 40)).1 p l)])) (step_move (by kernel_rfl) (Opd.of_base 43 rfl) rfl) (by kernel_rfl) (by decide) h ?_
  clear h
  intro a w h
  refine env_one (i := 4) (d := 44) (k := .val (.int .i64 (rankI (sortR (Tm.takeF F 40)).1 p l))) (step_two0 (by kernel_rfl) (Opd.of_base 40 rfl) rfl) (by kernel_rfl) (by decide) h ?_
  clear h
  intro a w h
  refine env_one (i := 5) (d := 45) (k := .val (.bool (rankB (sortR (Tm.takeF F 40)).1 p l))) (step_two1 (by kernel_rfl) (Opd.of_base 40 rfl) rfl) (by kernel_rfl) (by decide) h ?_
  clear h
  intro a w h
  refine env_one (i := 6) (d := 13) (k := .val (.int .i64 (rankI (sortR (Tm.takeF F 40)).1 p l))) (step_assign (by kernel_rfl) (Opd.of_base 44 rfl) rfl) (by kernel_rfl) (by decide) h ?_
  clear h
  intro a w h
  refine env_one (i := 7) (d := 14) (k := .val (.bool (rankB (sortR (Tm.takeF F 40)).1 p l))) (step_assign (by kernel_rfl) (Opd.of_base 45 rfl) rfl) (by kernel_rfl) (by decide) h ?_
  clear h
  intro a w h
  exact hQ a w (h.keep [0, 3, 5, 6, 7, 8, 9, 10, 11, 12, 13, 14, 999])
theorem lr7a_region {Q : Exit → Act → World → Prop} (F : Fo) (p : Pay) (l : Fo) (h0 : ((sortR (Tm.takeF F 40)).2 != 0) = true) {w0 : World} {a : Act} {w : World} (h : Hold 71 [(0, .row (Tm.takeF F 40)), (3, .ptrT p l), (5, .val (.int .i64 (rankI (Tm.takeF F 40) p l))), (6, .val (.bool (rankB (Tm.takeF F 40) p l))), (7, .val (.int .i64 (rankI (Tm.takeF F 40) p l))), (8, .val (.bool (rankB (Tm.takeF F 40) p l))), (9, .row (sortR (Tm.takeF F 40)).1), (10, .val (.int .i64 (sortR (Tm.takeF F 40)).2)), (11, .val (.int .i64 (rankI (sortR (Tm.takeF F 40)).1 p l))), (12, .val (.bool (rankB (sortR (Tm.takeF F 40)).1 p l))), (13, .val (.int .i64 (rankI (sortR (Tm.takeF F 40)).1 p l))), (14, .val (.bool (rankB (sortR (Tm.takeF F 40)).1 p l))), (999, .tabs)] w0 a w)
    (hQ : ∀ a' w', Hold 71 [(4, .val (.bool true))] w0 a' w' → Q .normal a' w') : (Code.region 7 lr7Ops false).wp Tryd.prog Q a w := by
  refine region_seq (w0 := w) 26 (by kernel_rfl) ?_
  rw [show List.range 26 = [0, 1, 2, 3, 4, 5, 6, 7, 8, 9, 10, 11, 12, 13, 14, 15, 16, 17, 18, 19, 20, 21, 22, 23, 24, 25] from rfl]
  refine env_one (i := 0) (d := 46) (k := .val (.int .i64 (rankI (Tm.takeF F 40) p l))) (step_move (by kernel_rfl) (Opd.of_base 5 rfl) rfl) (by kernel_rfl) (by decide) h ?_
  clear h
  intro a w h
  refine env_one (i := 1) (d := 47) (k := .val (.int .i64 (rankI (Tm.takeF F 40) p l))) (step_move (by kernel_rfl) (Opd.of_base 7 rfl) rfl) (by kernel_rfl) (by decide) h ?_
  clear h
  intro a w h
  refine env_one (i := 2) (d := 48) (k := .val (.bool true)) (step_eqs_int (by kernel_rfl) (Opd.of_base 46 rfl) (Opd.of_base 47 rfl) rfl) (by kernel_rfl) (by decide) h ?_
  clear h
  intro a w h
  refine env_one (i := 3) (d := 49) (k := .val (.bool true)) (step_move (by kernel_rfl) (Opd.of_base 48 rfl) rfl) (by kernel_rfl) (by decide) h ?_
  clear h
  intro a w h
  refine env_guard (i := 4) (d := 50) (g := 3) (dg := 49) (b := true) (k := .val (.bool (rankB (Tm.takeF F 40) p l))) (step_move (by kernel_rfl) (Opd.of_base 6 rfl) rfl) (by kernel_rfl) (by decide) (by kernel_rfl) (by decide) rfl h ?_
  clear h
  intro a w h
  refine env_guard (i := 5) (d := 51) (g := 3) (dg := 49) (b := true) (k := .val (.bool (rankB (Tm.takeF F 40) p l))) (step_move (by kernel_rfl) (Opd.of_base 8 rfl) rfl) (by kernel_rfl) (by decide) (by kernel_rfl) (by decide) rfl h ?_
  clear h
  intro a w h
  refine env_guard (i := 6) (d := 52) (g := 3) (dg := 49) (b := true) (k := .val (.bool true)) (step_eq_bool (by kernel_rfl) (Opd.of_base 50 rfl) (Opd.of_base 51 rfl) rfl) (by kernel_rfl) (by decide) (by kernel_rfl) (by decide) rfl h ?_
  clear h
  intro a w h
  refine env_one (i := 7) (d := 53) (k := .val (.bool true)) (step_pick_yes (y := .const (.bool false)) (by kernel_rfl) (Opd.of_base 49 rfl) (Opd.of_base 52 rfl) rfl) (by kernel_rfl) (by decide) h ?_
  clear h
  intro a w h
  refine env_one (i := 8) (d := 54) (k := .val (.bool true)) (step_move (by kernel_rfl) (Opd.of_base 53 rfl) rfl) (by kernel_rfl) (by decide) h ?_
  clear h
  intro a w h
  refine env_guard (i := 9) (d := 55) (g := 8) (dg := 54) (b := true) (k := .val (.int .i64 (sortR (Tm.takeF F 40)).2)) (step_move (by kernel_rfl) (Opd.of_base 10 rfl) rfl) (by kernel_rfl) (by decide) (by kernel_rfl) (by decide) rfl h ?_
  clear h
  intro a w h
  refine env_guard (i := 10) (d := 56) (g := 8) (dg := 54) (b := true) (k := .val (.bool true)) (step_ne_err (m := (sortR (Tm.takeF F 40)).2) (n := 0) (by kernel_rfl) (Opd.of_base 55 rfl) (Opd.const _) h0 rfl) (by kernel_rfl) (by decide) (by kernel_rfl) (by decide) rfl h ?_
  clear h
  intro a w h
  refine env_guard (i := 11) (d := 57) (g := 8) (dg := 54) (b := true) (k := .val (.bool true)) (step_move (by kernel_rfl) (Opd.of_base 56 rfl) rfl) (by kernel_rfl) (by decide) (by kernel_rfl) (by decide) rfl h ?_
  clear h
  intro a w h
  refine env_skip (i := 12) (d := 58) (g := 11) (dg := 57) (b := false) (by kernel_rfl) (by decide) (by kernel_rfl) rfl rfl h ?_
  clear h
  intro a w h
  refine env_skip (i := 13) (d := 59) (g := 11) (dg := 57) (b := false) (by kernel_rfl) (by decide) (by kernel_rfl) rfl rfl h ?_
  clear h
  intro a w h
  refine env_skip (i := 14) (d := 60) (g := 11) (dg := 57) (b := false) (by kernel_rfl) (by decide) (by kernel_rfl) rfl rfl h ?_
  clear h
  intro a w h
  refine env_skip (i := 15) (d := 61) (g := 11) (dg := 57) (b := false) (by kernel_rfl) (by decide) (by kernel_rfl) rfl rfl h ?_
  clear h
  intro a w h
  refine env_skip (i := 16) (d := 62) (g := 15) (dg := 61) (b := true) (by kernel_rfl) (by decide) (by kernel_rfl) rfl rfl h ?_
  clear h
  intro a w h
  refine env_skip (i := 17) (d := 63) (g := 15) (dg := 61) (b := true) (by kernel_rfl) (by decide) (by kernel_rfl) rfl rfl h ?_
  clear h
  intro a w h
  refine env_skip (i := 18) (d := 64) (g := 15) (dg := 61) (b := true) (by kernel_rfl) (by decide) (by kernel_rfl) rfl rfl h ?_
  clear h
  intro a w h
  refine env_skip (i := 19) (d := 65) (g := 11) (dg := 57) (b := false) (by kernel_rfl) (by decide) (by kernel_rfl) rfl rfl h ?_
  clear h
  intro a w h
  refine env_guard (i := 20) (d := 66) (g := 8) (dg := 54) (b := true) (k := .val (.bool true)) (step_pick_yes (y := .tmp 65) (by kernel_rfl) (Opd.of_base 57 rfl) (Opd.const _) rfl) (by kernel_rfl) (by decide) (by kernel_rfl) (by decide) rfl h ?_
  clear h
  intro a w h
  refine env_one (i := 21) (d := 67) (k := .val (.bool true)) (step_pick_yes (y := .const (.bool false)) (by kernel_rfl) (Opd.of_base 54 rfl) (Opd.of_base 66 rfl) rfl) (by kernel_rfl) (by decide) h ?_
  clear h
  intro a w h
  refine env_one (i := 22) (d := 68) (k := .val (.bool true)) (step_move (by kernel_rfl) (Opd.of_base 67 rfl) rfl) (by kernel_rfl) (by decide) h ?_
  clear h
  intro a w h
  refine env_guard (i := 23) (d := 69) (g := 22) (dg := 68) (b := true) (k := .val (.bool true)) (step_awake 999 (by kernel_rfl) (Opd.of_base 999 rfl) rfl) (by kernel_rfl) (by decide) (by kernel_rfl) (by decide) rfl h ?_
  clear h
  intro a w h
  refine env_one (i := 24) (d := 70) (k := .val (.bool true)) (step_pick_yes (y := .const (.bool false)) (by kernel_rfl) (Opd.of_base 68 rfl) (Opd.of_base 69 rfl) rfl) (by kernel_rfl) (by decide) h ?_
  clear h
  intro a w h
  refine env_one (i := 25) (d := 4) (k := .val (.bool true)) (step_assign (by kernel_rfl) (Opd.of_base 70 rfl) rfl) (by kernel_rfl) (by decide) h ?_
  clear h
  intro a w h
  exact hQ a w (h.keep [4])
theorem lr7b_region {Q : Exit → Act → World → Prop} (F : Fo) (p : Pay) (l : Fo) (h0 : ((sortR (Tm.takeF F 40)).2 != 0) = false) {w0 : World} {a : Act} {w : World} (h : Hold 71 [(0, .row (Tm.takeF F 40)), (3, .ptrT p l), (5, .val (.int .i64 (rankI (Tm.takeF F 40) p l))), (6, .val (.bool (rankB (Tm.takeF F 40) p l))), (7, .val (.int .i64 (rankI (Tm.takeF F 40) p l))), (8, .val (.bool (rankB (Tm.takeF F 40) p l))), (9, .row (sortR (Tm.takeF F 40)).1), (10, .val (.int .i64 (sortR (Tm.takeF F 40)).2)), (11, .val (.int .i64 (rankI (sortR (Tm.takeF F 40)).1 p l))), (12, .val (.bool (rankB (sortR (Tm.takeF F 40)).1 p l))), (13, .val (.int .i64 (rankI (sortR (Tm.takeF F 40)).1 p l))), (14, .val (.bool (rankB (sortR (Tm.takeF F 40)).1 p l))), (999, .tabs)] w0 a w)
    (hQ : ∀ a' w', Hold 71 [(4, .val (.bool true))] w0 a' w' → Q .normal a' w') : (Code.region 7 lr7Ops false).wp Tryd.prog Q a w := by
  refine region_seq (w0 := w) 26 (by kernel_rfl) ?_
  rw [show List.range 26 = [0, 1, 2, 3, 4, 5, 6, 7, 8, 9, 10, 11, 12, 13, 14, 15, 16, 17, 18, 19, 20, 21, 22, 23, 24, 25] from rfl]
  refine env_one (i := 0) (d := 46) (k := .val (.int .i64 (rankI (Tm.takeF F 40) p l))) (step_move (by kernel_rfl) (Opd.of_base 5 rfl) rfl) (by kernel_rfl) (by decide) h ?_
  clear h
  intro a w h
  refine env_one (i := 1) (d := 47) (k := .val (.int .i64 (rankI (Tm.takeF F 40) p l))) (step_move (by kernel_rfl) (Opd.of_base 7 rfl) rfl) (by kernel_rfl) (by decide) h ?_
  clear h
  intro a w h
  refine env_one (i := 2) (d := 48) (k := .val (.bool true)) (step_eqs_int (by kernel_rfl) (Opd.of_base 46 rfl) (Opd.of_base 47 rfl) rfl) (by kernel_rfl) (by decide) h ?_
  clear h
  intro a w h
  refine env_one (i := 3) (d := 49) (k := .val (.bool true)) (step_move (by kernel_rfl) (Opd.of_base 48 rfl) rfl) (by kernel_rfl) (by decide) h ?_
  clear h
  intro a w h
  refine env_guard (i := 4) (d := 50) (g := 3) (dg := 49) (b := true) (k := .val (.bool (rankB (Tm.takeF F 40) p l))) (step_move (by kernel_rfl) (Opd.of_base 6 rfl) rfl) (by kernel_rfl) (by decide) (by kernel_rfl) (by decide) rfl h ?_
  clear h
  intro a w h
  refine env_guard (i := 5) (d := 51) (g := 3) (dg := 49) (b := true) (k := .val (.bool (rankB (Tm.takeF F 40) p l))) (step_move (by kernel_rfl) (Opd.of_base 8 rfl) rfl) (by kernel_rfl) (by decide) (by kernel_rfl) (by decide) rfl h ?_
  clear h
  intro a w h
  refine env_guard (i := 6) (d := 52) (g := 3) (dg := 49) (b := true) (k := .val (.bool true)) (step_eq_bool (by kernel_rfl) (Opd.of_base 50 rfl) (Opd.of_base 51 rfl) rfl) (by kernel_rfl) (by decide) (by kernel_rfl) (by decide) rfl h ?_
  clear h
  intro a w h
  refine env_one (i := 7) (d := 53) (k := .val (.bool true)) (step_pick_yes (y := .const (.bool false)) (by kernel_rfl) (Opd.of_base 49 rfl) (Opd.of_base 52 rfl) rfl) (by kernel_rfl) (by decide) h ?_
  clear h
  intro a w h
  refine env_one (i := 8) (d := 54) (k := .val (.bool true)) (step_move (by kernel_rfl) (Opd.of_base 53 rfl) rfl) (by kernel_rfl) (by decide) h ?_
  clear h
  intro a w h
  refine env_guard (i := 9) (d := 55) (g := 8) (dg := 54) (b := true) (k := .val (.int .i64 (sortR (Tm.takeF F 40)).2)) (step_move (by kernel_rfl) (Opd.of_base 10 rfl) rfl) (by kernel_rfl) (by decide) (by kernel_rfl) (by decide) rfl h ?_
  clear h
  intro a w h
  refine env_guard (i := 10) (d := 56) (g := 8) (dg := 54) (b := true) (k := .val (.bool false)) (step_ne_err (m := (sortR (Tm.takeF F 40)).2) (n := 0) (by kernel_rfl) (Opd.of_base 55 rfl) (Opd.const _) h0 rfl) (by kernel_rfl) (by decide) (by kernel_rfl) (by decide) rfl h ?_
  clear h
  intro a w h
  refine env_guard (i := 11) (d := 57) (g := 8) (dg := 54) (b := true) (k := .val (.bool false)) (step_move (by kernel_rfl) (Opd.of_base 56 rfl) rfl) (by kernel_rfl) (by decide) (by kernel_rfl) (by decide) rfl h ?_
  clear h
  intro a w h
  refine env_guard (i := 12) (d := 58) (g := 11) (dg := 57) (b := false) (k := .val (.int .i64 (rankI (sortR (Tm.takeF F 40)).1 p l))) (step_move (by kernel_rfl) (Opd.of_base 11 rfl) rfl) (by kernel_rfl) (by decide) (by kernel_rfl) (by decide) rfl h ?_
  clear h
  intro a w h
  refine env_guard (i := 13) (d := 59) (g := 11) (dg := 57) (b := false) (k := .val (.int .i64 (rankI (sortR (Tm.takeF F 40)).1 p l))) (step_move (by kernel_rfl) (Opd.of_base 13 rfl) rfl) (by kernel_rfl) (by decide) (by kernel_rfl) (by decide) rfl h ?_
  clear h
  intro a w h
  refine env_guard (i := 14) (d := 60) (g := 11) (dg := 57) (b := false) (k := .val (.bool true)) (step_eqs_int (by kernel_rfl) (Opd.of_base 58 rfl) (Opd.of_base 59 rfl) rfl) (by kernel_rfl) (by decide) (by kernel_rfl) (by decide) rfl h ?_
  clear h
  intro a w h
  refine env_guard (i := 15) (d := 61) (g := 11) (dg := 57) (b := false) (k := .val (.bool true)) (step_move (by kernel_rfl) (Opd.of_base 60 rfl) rfl) (by kernel_rfl) (by decide) (by kernel_rfl) (by decide) rfl h ?_
  clear h
  intro a w h
  refine env_guard (i := 16) (d := 62) (g := 15) (dg := 61) (b := true) (k := .val (.bool (rankB (sortR (Tm.takeF F 40)).1 p l))) (step_move (by kernel_rfl) (Opd.of_base 12 rfl) rfl) (by kernel_rfl) (by decide) (by kernel_rfl) (by decide) rfl h ?_
  clear h
  intro a w h
  refine env_guard (i := 17) (d := 63) (g := 15) (dg := 61) (b := true) (k := .val (.bool (rankB (sortR (Tm.takeF F 40)).1 p l))) (step_move (by kernel_rfl) (Opd.of_base 14 rfl) rfl) (by kernel_rfl) (by decide) (by kernel_rfl) (by decide) rfl h ?_
  clear h
  intro a w h
  refine env_guard (i := 18) (d := 64) (g := 15) (dg := 61) (b := true) (k := .val (.bool true)) (step_eq_bool (by kernel_rfl) (Opd.of_base 62 rfl) (Opd.of_base 63 rfl) rfl) (by kernel_rfl) (by decide) (by kernel_rfl) (by decide) rfl h ?_
  clear h
  intro a w h
  refine env_guard (i := 19) (d := 65) (g := 11) (dg := 57) (b := false) (k := .val (.bool true)) (step_pick_yes (y := .const (.bool false)) (by kernel_rfl) (Opd.of_base 61 rfl) (Opd.of_base 64 rfl) rfl) (by kernel_rfl) (by decide) (by kernel_rfl) (by decide) rfl h ?_
  clear h
  intro a w h
  refine env_guard (i := 20) (d := 66) (g := 8) (dg := 54) (b := true) (k := .val (.bool true)) (step_pick_no (x := .const (.bool true)) (by kernel_rfl) (Opd.of_base 57 rfl) (Opd.of_base 65 rfl) rfl) (by kernel_rfl) (by decide) (by kernel_rfl) (by decide) rfl h ?_
  clear h
  intro a w h
  refine env_one (i := 21) (d := 67) (k := .val (.bool true)) (step_pick_yes (y := .const (.bool false)) (by kernel_rfl) (Opd.of_base 54 rfl) (Opd.of_base 66 rfl) rfl) (by kernel_rfl) (by decide) h ?_
  clear h
  intro a w h
  refine env_one (i := 22) (d := 68) (k := .val (.bool true)) (step_move (by kernel_rfl) (Opd.of_base 67 rfl) rfl) (by kernel_rfl) (by decide) h ?_
  clear h
  intro a w h
  refine env_guard (i := 23) (d := 69) (g := 22) (dg := 68) (b := true) (k := .val (.bool true)) (step_awake 999 (by kernel_rfl) (Opd.of_base 999 rfl) rfl) (by kernel_rfl) (by decide) (by kernel_rfl) (by decide) rfl h ?_
  clear h
  intro a w h
  refine env_one (i := 24) (d := 70) (k := .val (.bool true)) (step_pick_yes (y := .const (.bool false)) (by kernel_rfl) (Opd.of_base 68 rfl) (Opd.of_base 69 rfl) rfl) (by kernel_rfl) (by decide) h ?_
  clear h
  intro a w h
  refine env_one (i := 25) (d := 4) (k := .val (.bool true)) (step_assign (by kernel_rfl) (Opd.of_base 70 rfl) rfl) (by kernel_rfl) (by decide) h ?_
  clear h
  intro a w h
  exact hQ a w (h.keep [4])
theorem law_ranks (F : Fo) (p : Pay) (l : Fo) (A A' : Option Addr) (c c' : Nat) (w : World) (hA : ArgsB w w.heap.size A (Tm.len F) F) (hA' : ArgsB w w.heap.size A' (Tm.len l) l) (hT : Tabs w) :
    Calls Tryd.prog 5 #[.slice A (Tm.len F) c, tv p A' (Tm.len l) c'] w fun e w' => e = .returned (.bool true) ∧ Below w.heap.size w w' := by
  refine calls_of_wp Tryd.func5 lr_body ?_
  obtain ⟨v0, hv0⟩ : ∃ v : Value, v = .slice A (Tm.len F) c := ⟨_, rfl⟩
  obtain ⟨v1, hv1⟩ : ∃ v : Value, v = tv p A' (Tm.len l) c' := ⟨_, rfl⟩
  rw [← hv0, ← hv1]
  have hk0 : (Kd.row F).R v0 w := ⟨A, c, hv0, hA⟩
  have hk1 : (Kd.term p l).R v1 w := ⟨A', c', hv1, hA'⟩
  have hsN : (#[v0, v1] ++ Array.replicate (Tryd.f5.ntmps - #[v0, v1].size) undef : Array Value).size = 71 := by kernel_rfl
  have gs0 : (#[v0, v1] ++ Array.replicate (Tryd.f5.ntmps - #[v0, v1].size) undef : Array Value).getD 0 undef = v0 := by kernel_rfl
  have gs1 : (#[v0, v1] ++ Array.replicate (Tryd.f5.ntmps - #[v0, v1].size) undef : Array Value).getD 1 undef = v1 := by kernel_rfl
  generalize (#[v0, v1] ++ Array.replicate (Tryd.f5.ntmps - #[v0, v1].size) undef : Array Value) = tm at hsN gs0 gs1 ⊢
  refine wp_seq ?_
  refine lr0_region F p l (w0 := w) ⟨hsN, rfl, Below.refl _ _, (slots_cons 0 (by rw [gs0]; exact hk0) (slots_cons 1 (by rw [gs1]; exact hk1) (slots_cons 999 (k0 := .tabs) hT slots_nil)))⟩ ?_
  intro a w1 h
  show Code.wp _ _ _ a w1
  refine wp_seq ?_
  refine lr1_region F p l h ?_
  intro a w1 h
  show Code.wp _ _ _ a w1
  refine wp_seq ?_
  refine lr2_region F p l h ?_
  intro a w1 h
  show Code.wp _ _ _ a w1
  refine wp_seq ?_
  refine lr3_region F p l h ?_
  intro a w1 h
  show Code.wp _ _ _ a w1
  refine wp_seq ?_
  refine lr4_region F p l h ?_
  intro a w1 h
  show Code.wp _ _ _ a w1
  refine wp_seq ?_
  refine lr5_region F p l h ?_
  intro a w1 h
  show Code.wp _ _ _ a w1
  refine wp_seq ?_
  refine lr6_region F p l h ?_
  intro a w1 h
  show Code.wp _ _ _ a w1
  cases h0 : ((sortR (Tm.takeF F 40)).2 != 0)
  · refine wp_seq ?_
    refine lr7b_region F p l h0 h ?_
    intro a w1 h
    show Code.wp _ _ _ a w1
    refine wp_ret ?_
    (try simp only [then_ret, block_ret])
    refine law_out rfl (h.get 4 rfl) h.defers ⟨rfl, h.world⟩
  · refine wp_seq ?_
    refine lr7a_region F p l h0 h ?_
    intro a w1 h
    show Code.wp _ _ _ a w1
    refine wp_ret ?_
    (try simp only [then_ret, block_ret])
    refine law_out rfl (h.get 4 rfl) h.defers ⟨rfl, h.world⟩
end Go.Proofs.YtcjakmafojbhlaaDoor
