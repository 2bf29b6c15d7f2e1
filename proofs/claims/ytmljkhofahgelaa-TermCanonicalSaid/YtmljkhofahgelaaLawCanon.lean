/-
  TermCanonical answers true.
-/
import Derived.Test.YtmljkhofahgelaaLawRen
namespace Go.Proofs.Ytmljkhofahgelaa
set_option linter.unusedVariables false
set_option linter.unusedSimpArgs false
open Go.RowKit
namespace Tm
theorem canonFn_valid {p : Pay} {l : Fo} (h : validB p l = true) : canonFn p l = canonOf p l := by unfold canonFn; exact if_pos h
theorem varsFn_valid {p : Pay} {l : Fo} (h : validB p l = true) : varsFn p l = varsOf p l := by unfold varsFn; exact if_pos h
end Tm
noncomputable def lc0Ops : Array Oper := ((Try.f8.body).bind (findReg 0)).getD #[]
noncomputable def lc1Ops : Array Oper := ((Try.f8.body).bind (findReg 1)).getD #[]
noncomputable def lc2Ops : Array Oper := ((Try.f8.body).bind (findReg 2)).getD #[]
noncomputable def lc3Ops : Array Oper := ((Try.f8.body).bind (findReg 3)).getD #[]
noncomputable def lc4Ops : Array Oper := ((Try.f8.body).bind (findReg 4)).getD #[]
noncomputable def lc5Ops : Array Oper := ((Try.f8.body).bind (findReg 5)).getD #[]
noncomputable def lc6Ops : Array Oper := ((Try.f8.body).bind (findReg 6)).getD #[]
noncomputable def lc7Ops : Array Oper := ((Try.f8.body).bind (findReg 7)).getD #[]
noncomputable def lc8Ops : Array Oper := ((Try.f8.body).bind (findReg 8)).getD #[]
noncomputable def lc9Ops : Array Oper := ((Try.f8.body).bind (findReg 9)).getD #[]
noncomputable def lc10Ops : Array Oper := ((Try.f8.body).bind (findReg 10)).getD #[]
noncomputable def lc11Ops : Array Oper := ((Try.f8.body).bind (findReg 11)).getD #[]
noncomputable def lc12Ops : Array Oper := ((Try.f8.body).bind (findReg 12)).getD #[]
noncomputable def lc13Ops : Array Oper := ((Try.f8.body).bind (findReg 13)).getD #[]
theorem lc_body : Try.f8.body = some (.seq (.region 0 lc0Ops false) (.seq (.seq (.region 1 lc1Ops false) (.cond (.tmp 12) (.seq (.region 2 lc2Ops false) .ret) .skip)) (.seq (.region 3 lc3Ops false) (.seq (.region 4 lc4Ops false) (.seq (.seq (.region 5 lc5Ops false) (.block 0 (.loop (.seq (.seq (.region 6 lc6Ops false) (.cond (.tmp 21) .skip (.exit 0))) (.seq (.block 1 (.seq (.region 8 lc8Ops false) (.cond (.tmp 29) (.seq (.region 9 lc9Ops false) .ret) .skip))) (.region 7 lc7Ops false)))))) (.seq (.region 10 lc10Ops false) (.seq (.seq (.region 11 lc11Ops true) (.cond (.tmp 50) (.seq (.region 12 lc12Ops false) .ret) .skip)) (.seq (.region 13 lc13Ops true) .ret)))))))) := by kernel_rfl
theorem lc0_region {Q : Exit → Act → World → Prop} (p : Pay) (l : Fo) (d : Int)  {w0 : World} {a : Act} {w : World} (h : Hold 78 [(0, .term p l), (1, .val (.int .i64 d))] w0 a w)
    (hQ : ∀ a' w', Hold 78 [(1, .val (.int .i64 d)), (2, .ptrT p l), (4, .val (.bool false))] w0 a' w' → Q .normal a' w') : (Code.region 0 lc0Ops false).wp Try.prog Q a w := by
  refine region_seq (w0 := w) 2 (by kernel_rfl) ?_
  rw [show List.range 2 = [0, 1] from rfl]
  refine env_one (i := 0) (d := 2) (k := .ptrT p l) (step_box (by kernel_rfl) (Opd.of_base 0 rfl) rfl) (by kernel_rfl) (by decide) h ?_
  clear h
  intro a w h
  refine env_one (i := 1) (d := 4) (k := .val (.bool false)) (step_assign (by kernel_rfl) (Opd.const _) rfl) (by kernel_rfl) (by decide) h ?_
  clear h
  intro a w h
  exact hQ a w (h.keep [1, 2, 4])
theorem lc1f_region {Q : Exit → Act → World → Prop} (p : Pay) (l : Fo) (d : Int) (hv : Tm.validB p l = false) {w0 : World} {a : Act} {w : World} (h : Hold 78 [(1, .val (.int .i64 d)), (2, .ptrT p l), (4, .val (.bool false))] w0 a w)
    (hQ : ∀ a' w', Hold 78 [(12, .val (.bool true))] w0 a' w' → Q .normal a' w') : (Code.region 1 lc1Ops false).wp Try.prog Q a w := by
  refine region_seq (w0 := w) 3 (by kernel_rfl) ?_
  rw [show List.range 3 = [0, 1, 2] from rfl]
  refine env_one (i := 0) (d := 10) (k := .term p l) (step_load_term (by kernel_rfl) (Opd.of_base 2 rfl) rfl) (by kernel_rfl) (by decide) h ?_
  clear h
  intro a w h
  refine env_one (i := 1) (d := 11) (k := .val (.bool false)) (step_valid (by kernel_rfl) (Opd.of_base 10 rfl) hv rfl) (by kernel_rfl) (by decide) h ?_
  clear h
  intro a w h
  refine env_one (i := 2) (d := 12) (k := .val (.bool true)) (step_not (by kernel_rfl) (Opd.of_base 11 rfl) rfl) (by kernel_rfl) (by decide) h ?_
  clear h
  intro a w h
  exact hQ a w (h.keep [12])
theorem lc2_region {Q : Exit → Act → World → Prop} (p : Pay) (l : Fo) (d : Int)  {w0 : World} {a : Act} {w : World} (h : Hold 78 [(12, .val (.bool true))] w0 a w)
    (hQ : ∀ a' w', Hold 78 [(4, .val (.bool true))] w0 a' w' → Q .normal a' w') : (Code.region 2 lc2Ops false).wp Try.prog Q a w := by
  refine region_seq (w0 := w) 2 (by kernel_rfl) ?_
  rw [show List.range 2 = [0, 1] from rfl]
  refine env_one (i := 0) (d := 13) (k := .val (.bool true)) (step_awake (by kernel_rfl) rfl) (by kernel_rfl) (by decide) h ?_
  clear h
  intro a w h
  refine env_one (i := 1) (d := 4) (k := .val (.bool true)) (step_assign (by kernel_rfl) (Opd.of_base 13 rfl) rfl) (by kernel_rfl) (by decide) h ?_
  clear h
  intro a w h
  exact hQ a w (h.keep [4])
theorem lc1t_region {Q : Exit → Act → World → Prop} (p : Pay) (l : Fo) (d : Int) (hv : Tm.validB p l = true) {w0 : World} {a : Act} {w : World} (h : Hold 78 [(1, .val (.int .i64 d)), (2, .ptrT p l), (4, .val (.bool false))] w0 a w)
    (hQ : ∀ a' w', Hold 78 [(1, .val (.int .i64 d)), (2, .ptrT p l), (12, .val (.bool false))] w0 a' w' → Q .normal a' w') : (Code.region 1 lc1Ops false).wp Try.prog Q a w := by
  refine region_seq (w0 := w) 3 (by kernel_rfl) ?_
  rw [show List.range 3 = [0, 1, 2] from rfl]
  refine env_one (i := 0) (d := 10) (k := .term p l) (step_load_term (by kernel_rfl) (Opd.of_base 2 rfl) rfl) (by kernel_rfl) (by decide) h ?_
  clear h
  intro a w h
  refine env_one (i := 1) (d := 11) (k := .val (.bool true)) (step_valid (by kernel_rfl) (Opd.of_base 10 rfl) hv rfl) (by kernel_rfl) (by decide) h ?_
  clear h
  intro a w h
  refine env_one (i := 2) (d := 12) (k := .val (.bool false)) (step_not (by kernel_rfl) (Opd.of_base 11 rfl) rfl) (by kernel_rfl) (by decide) h ?_
  clear h
  intro a w h
  exact hQ a w (h.keep [1, 2, 12])
theorem lc3_region {Q : Exit → Act → World → Prop} (p : Pay) (l : Fo) (d : Int) (hv : Tm.validB p l = true) {w0 : World} {a : Act} {w : World} (h : Hold 78 [(1, .val (.int .i64 d)), (2, .ptrT p l)] w0 a w)
    (hQ : ∀ a' w', Hold 78 [(1, .val (.int .i64 d)), (2, .ptrT p l), (5, .ptrT (Tm.canonOf p l).1 (Tm.canonOf p l).2)] w0 a' w' → Q .normal a' w') : (Code.region 3 lc3Ops false).wp Try.prog Q a w := by
  refine region_seq (w0 := w) 4 (by kernel_rfl) ?_
  rw [show List.range 4 = [0, 1, 2, 3] from rfl]
  refine env_one (i := 0) (d := 14) (k := .term p l) (step_load_term (by kernel_rfl) (Opd.of_base 2 rfl) rfl) (by kernel_rfl) (by decide) h ?_
  clear h
  intro a w h
  refine env_one (i := 1) (d := 15) (k := .term (Tm.canonOf p l).1 (Tm.canonOf p l).2) (step_canon (by kernel_rfl) (Opd.of_base 14 rfl) (Tm.canonFn_valid hv) rfl) (by kernel_rfl) (by decide) h ?_
  clear h
  intro a w h
  refine env_box (i := 2) (d := 5) (by kernel_rfl) (by decide) (by kernel_rfl) (by decide) (s := 15) rfl h ?_
  clear h
  intro a w h
  exact hQ a w (h.keep [1, 2, 5])
theorem lc4_region {Q : Exit → Act → World → Prop} (p : Pay) (l : Fo) (d : Int) (hv : Tm.validB p l = true) {w0 : World} {a : Act} {w : World} (h : Hold 78 [(1, .val (.int .i64 d)), (2, .ptrT p l), (5, .ptrT (Tm.canonOf p l).1 (Tm.canonOf p l).2)] w0 a w)
    (hQ : ∀ a' w', Hold 78 [(1, .val (.int .i64 d)), (2, .ptrT p l), (5, .ptrT (Tm.canonOf p l).1 (Tm.canonOf p l).2), (6, .ints (Tm.varsOf (Tm.canonOf p l).1 (Tm.canonOf p l).2))] w0 a' w' → Q .normal a' w') : (Code.region 4 lc4Ops false).wp Try.prog Q a w := by
  refine region_seq (w0 := w) 3 (by kernel_rfl) ?_
  rw [show List.range 3 = [0, 1, 2] from rfl]
  refine env_one (i := 0) (d := 16) (k := .term (Tm.canonOf p l).1 (Tm.canonOf p l).2) (step_load_term (by kernel_rfl) (Opd.of_base 5 rfl) rfl) (by kernel_rfl) (by decide) h ?_
  clear h
  intro a w h
  refine env_one (i := 1) (d := 17) (k := .ints (Tm.varsOf (Tm.canonOf p l).1 (Tm.canonOf p l).2)) (step_vars (by kernel_rfl) (Opd.of_base 16 rfl) (Tm.varsFn_valid (Tm.canon_valid hv)) rfl) (by kernel_rfl) (by decide) h ?_
  clear h
  intro a w h
  refine env_one (i := 2) (d := 6) (k := .ints (Tm.varsOf (Tm.canonOf p l).1 (Tm.canonOf p l).2)) (step_assign (by kernel_rfl) (Opd.of_base 17 rfl) rfl) (by kernel_rfl) (by decide) h ?_
  clear h
  intro a w h
  exact hQ a w (h.keep [1, 2, 5, 6])
theorem lc5_region {Q : Exit → Act → World → Prop} (p : Pay) (l : Fo) (d : Int)  {w0 : World} {a : Act} {w : World} (h : Hold 78 [(1, .val (.int .i64 d)), (2, .ptrT p l), (5, .ptrT (Tm.canonOf p l).1 (Tm.canonOf p l).2), (6, .ints (Tm.varsOf (Tm.canonOf p l).1 (Tm.canonOf p l).2))] w0 a w)
    (hQ : ∀ a' w', Hold 78 [(1, .val (.int .i64 d)), (2, .ptrT p l), (5, .ptrT (Tm.canonOf p l).1 (Tm.canonOf p l).2), (6, .ints (Tm.varsOf (Tm.canonOf p l).1 (Tm.canonOf p l).2)), (7, .val (.int .i64 0))] w0 a' w' → Q .normal a' w') : (Code.region 5 lc5Ops false).wp Try.prog Q a w := by
  refine region_seq (w0 := w) 1 (by kernel_rfl) ?_
  rw [show List.range 1 = [0] from rfl]
  refine env_one (i := 0) (d := 7) (k := .val (.int .i64 0)) (step_assign (by kernel_rfl) (Opd.const _) rfl) (by kernel_rfl) (by decide) h ?_
  clear h
  intro a w h
  exact hQ a w (h.keep [1, 2, 5, 6, 7])
theorem lc6t_region {Q : Exit → Act → World → Prop} (p : Pay) (l : Fo) (d : Int) (k : Nat) (hb : decide (((k : Nat) : Int) < (((Tm.varsOf (Tm.canonOf p l).1 (Tm.canonOf p l).2).length : Nat) : Int)) = true) {w0 : World} {a : Act} {w : World} (h : Hold 78 [(1, .val (.int .i64 d)), (2, .ptrT p l), (5, .ptrT (Tm.canonOf p l).1 (Tm.canonOf p l).2), (6, .ints (Tm.varsOf (Tm.canonOf p l).1 (Tm.canonOf p l).2)), (7, .val (.int .i64 ((k : Nat) : Int)))] w0 a w)
    (hQ : ∀ a' w', Hold 78 [(1, .val (.int .i64 d)), (2, .ptrT p l), (5, .ptrT (Tm.canonOf p l).1 (Tm.canonOf p l).2), (6, .ints (Tm.varsOf (Tm.canonOf p l).1 (Tm.canonOf p l).2)), (7, .val (.int .i64 ((k : Nat) : Int))), (21, .val (.bool true))] w0 a' w' → Q .normal a' w') : (Code.region 6 lc6Ops false).wp Try.prog Q a w := by
  refine region_seq (w0 := w) 4 (by kernel_rfl) ?_
  rw [show List.range 4 = [0, 1, 2, 3] from rfl]
  refine env_one (i := 0) (d := 18) (k := .val (.int .i64 ((k : Nat) : Int))) (step_move (by kernel_rfl) (Opd.of_base 7 rfl) rfl) (by kernel_rfl) (by decide) h ?_
  clear h
  intro a w h
  refine env_one (i := 1) (d := 19) (k := .ints (Tm.varsOf (Tm.canonOf p l).1 (Tm.canonOf p l).2)) (step_move (by kernel_rfl) (Opd.of_base 6 rfl) rfl) (by kernel_rfl) (by decide) h ?_
  clear h
  intro a w h
  refine env_one (i := 2) (d := 20) (k := .val (.int .i64 (((Tm.varsOf (Tm.canonOf p l).1 (Tm.canonOf p l).2).length : Nat) : Int))) (step_len_ints (by kernel_rfl) (Opd.of_base 19 rfl) rfl) (by kernel_rfl) (by decide) h ?_
  clear h
  intro a w h
  refine env_one (i := 3) (d := 21) (k := .val (.bool true)) (step_lt_int (by kernel_rfl) (Opd.of_base 18 rfl) (Opd.of_base 20 rfl) hb rfl) (by kernel_rfl) (by decide) h ?_
  clear h
  intro a w h
  exact hQ a w (h.keep [1, 2, 5, 6, 7, 21])
theorem lc6f_region {Q : Exit → Act → World → Prop} (p : Pay) (l : Fo) (d : Int) (k : Nat) (hb : decide (((k : Nat) : Int) < (((Tm.varsOf (Tm.canonOf p l).1 (Tm.canonOf p l).2).length : Nat) : Int)) = false) {w0 : World} {a : Act} {w : World} (h : Hold 78 [(1, .val (.int .i64 d)), (2, .ptrT p l), (5, .ptrT (Tm.canonOf p l).1 (Tm.canonOf p l).2), (6, .ints (Tm.varsOf (Tm.canonOf p l).1 (Tm.canonOf p l).2)), (7, .val (.int .i64 ((k : Nat) : Int)))] w0 a w)
    (hQ : ∀ a' w', Hold 78 [(1, .val (.int .i64 d)), (2, .ptrT p l), (5, .ptrT (Tm.canonOf p l).1 (Tm.canonOf p l).2), (6, .ints (Tm.varsOf (Tm.canonOf p l).1 (Tm.canonOf p l).2)), (7, .val (.int .i64 ((k : Nat) : Int))), (21, .val (.bool false))] w0 a' w' → Q .normal a' w') : (Code.region 6 lc6Ops false).wp Try.prog Q a w := by
  refine region_seq (w0 := w) 4 (by kernel_rfl) ?_
  rw [show List.range 4 = [0, 1, 2, 3] from rfl]
  refine env_one (i := 0) (d := 18) (k := .val (.int .i64 ((k : Nat) : Int))) (step_move (by kernel_rfl) (Opd.of_base 7 rfl) rfl) (by kernel_rfl) (by decide) h ?_
  clear h
  intro a w h
  refine env_one (i := 1) (d := 19) (k := .ints (Tm.varsOf (Tm.canonOf p l).1 (Tm.canonOf p l).2)) (step_move (by kernel_rfl) (Opd.of_base 6 rfl) rfl) (by kernel_rfl) (by decide) h ?_
  clear h
  intro a w h
  refine env_one (i := 2) (d := 20) (k := .val (.int .i64 (((Tm.varsOf (Tm.canonOf p l).1 (Tm.canonOf p l).2).length : Nat) : Int))) (step_len_ints (by kernel_rfl) (Opd.of_base 19 rfl) rfl) (by kernel_rfl) (by decide) h ?_
  clear h
  intro a w h
  refine env_one (i := 3) (d := 21) (k := .val (.bool false)) (step_lt_int (by kernel_rfl) (Opd.of_base 18 rfl) (Opd.of_base 20 rfl) hb rfl) (by kernel_rfl) (by decide) h ?_
  clear h
  intro a w h
  exact hQ a w (h.keep [1, 2, 5, 6, 7, 21])
theorem lc8_region {Q : Exit → Act → World → Prop} (p : Pay) (l : Fo) (d : Int) (k : Nat) (hz : (Tm.varsOf (Tm.canonOf p l).1 (Tm.canonOf p l).2)[k]? = some ((k : Nat) : Int)) {w0 : World} {a : Act} {w : World} (h : Hold 78 [(1, .val (.int .i64 d)), (2, .ptrT p l), (5, .ptrT (Tm.canonOf p l).1 (Tm.canonOf p l).2), (6, .ints (Tm.varsOf (Tm.canonOf p l).1 (Tm.canonOf p l).2)), (7, .val (.int .i64 ((k : Nat) : Int)))] w0 a w)
    (hQ : ∀ a' w', Hold 78 [(1, .val (.int .i64 d)), (2, .ptrT p l), (5, .ptrT (Tm.canonOf p l).1 (Tm.canonOf p l).2), (6, .ints (Tm.varsOf (Tm.canonOf p l).1 (Tm.canonOf p l).2)), (7, .val (.int .i64 ((k : Nat) : Int))), (29, .val (.bool false))] w0 a' w' → Q .normal a' w') : (Code.region 8 lc8Ops false).wp Try.prog Q a w := by
  refine region_seq (w0 := w) 6 (by kernel_rfl) ?_
  rw [show List.range 6 = [0, 1, 2, 3, 4, 5] from rfl]
  refine env_one (i := 0) (d := 24) (k := .ints (Tm.varsOf (Tm.canonOf p l).1 (Tm.canonOf p l).2)) (step_move (by kernel_rfl) (Opd.of_base 6 rfl) rfl) (by kernel_rfl) (by decide) h ?_
  clear h
  intro a w h
  refine env_one (i := 1) (d := 25) (k := .val (.int .i64 ((k : Nat) : Int))) (step_move (by kernel_rfl) (Opd.of_base 7 rfl) rfl) (by kernel_rfl) (by decide) h ?_
  clear h
  intro a w h
  refine env_one (i := 2) (d := 26) (k := .ptrI ((k : Nat) : Int)) (step_ints_at (by kernel_rfl) (Opd.of_base 24 rfl) (Opd.of_base 25 rfl) hz rfl) (by kernel_rfl) (by decide) h ?_
  clear h
  intro a w h
  refine env_one (i := 3) (d := 27) (k := .val (.int .i64 ((k : Nat) : Int))) (step_load_int (by kernel_rfl) (Opd.of_base 26 rfl) rfl) (by kernel_rfl) (by decide) h ?_
  clear h
  intro a w h
  refine env_one (i := 4) (d := 28) (k := .val (.int .i64 ((k : Nat) : Int))) (step_move (by kernel_rfl) (Opd.of_base 7 rfl) rfl) (by kernel_rfl) (by decide) h ?_
  clear h
  intro a w h
  refine env_one (i := 5) (d := 29) (k := .val (.bool false)) (step_ne_int64 (by kernel_rfl) (Opd.of_base 27 rfl) (Opd.of_base 28 rfl) (by simp) rfl) (by kernel_rfl) (by decide) h ?_
  clear h
  intro a w h
  exact hQ a w (h.keep [1, 2, 5, 6, 7, 29])
theorem lc7_region {Q : Exit → Act → World → Prop} (p : Pay) (l : Fo) (d : Int) (k : Nat) (hk : k ≤ 5000) {w0 : World} {a : Act} {w : World} (h : Hold 78 [(1, .val (.int .i64 d)), (2, .ptrT p l), (5, .ptrT (Tm.canonOf p l).1 (Tm.canonOf p l).2), (6, .ints (Tm.varsOf (Tm.canonOf p l).1 (Tm.canonOf p l).2)), (7, .val (.int .i64 ((k : Nat) : Int)))] w0 a w)
    (hQ : ∀ a' w', Hold 78 [(1, .val (.int .i64 d)), (2, .ptrT p l), (5, .ptrT (Tm.canonOf p l).1 (Tm.canonOf p l).2), (6, .ints (Tm.varsOf (Tm.canonOf p l).1 (Tm.canonOf p l).2)), (7, .val (.int .i64 ((k + 1 : Nat) : Int)))] w0 a' w' → Q .normal a' w') : (Code.region 7 lc7Ops false).wp Try.prog Q a w := by
  refine region_seq (w0 := w) 3 (by kernel_rfl) ?_
  rw [show List.range 3 = [0, 1, 2] from rfl]
  refine env_one (i := 0) (d := 22) (k := .val (.int .i64 ((k : Nat) : Int))) (step_move (by kernel_rfl) (Opd.of_base 7 rfl) rfl) (by kernel_rfl) (by decide) h ?_
  clear h
  intro a w h
  refine env_one (i := 1) (d := 23) (k := .val (.int .i64 ((k + 1 : Nat) : Int))) (step_add (by kernel_rfl) (Opd.of_base 22 rfl) (Opd.const _) (by rw [show ((k : Nat) : Int) + 1 = ((k + 1 : Nat) : Int) by omega]; exact IntWalk.i64_in _ (by omega)) rfl) (by kernel_rfl) (by decide) h ?_
  clear h
  intro a w h
  refine env_one (i := 2) (d := 7) (k := .val (.int .i64 ((k + 1 : Nat) : Int))) (step_assign (by kernel_rfl) (Opd.of_base 23 rfl) rfl) (by kernel_rfl) (by decide) h ?_
  clear h
  intro a w h
  exact hQ a w (h.keep [1, 2, 5, 6, 7])
theorem lc10_region {Q : Exit → Act → World → Prop} (p : Pay) (l : Fo) (d : Int)  {w0 : World} {a : Act} {w : World} (h : Hold 78 [(1, .val (.int .i64 d)), (2, .ptrT p l), (5, .ptrT (Tm.canonOf p l).1 (Tm.canonOf p l).2), (6, .ints (Tm.varsOf (Tm.canonOf p l).1 (Tm.canonOf p l).2))] w0 a w)
    (hQ : ∀ a' w', Hold 78 [(2, .ptrT p l), (5, .ptrT (Tm.canonOf p l).1 (Tm.canonOf p l).2), (6, .ints (Tm.varsOf (Tm.canonOf p l).1 (Tm.canonOf p l).2)), (8, .ptrT (Tm.renameOf p l d).1.1 (Tm.renameOf p l d).1.2), (9, .val (.int .i64 (Tm.renameOf p l d).2))] w0 a' w' → Q .normal a' w') : (Code.region 10 lc10Ops false).wp Try.prog Q a w := by
  refine region_seq (w0 := w) 9 (by kernel_rfl) ?_
  rw [show List.range 9 = [0, 1, 2, 3, 4, 5, 6, 7, 8] from rfl]
  refine env_one (i := 0) (d := 31) (k := .term p l) (step_load_term (by kernel_rfl) (Opd.of_base 2 rfl) rfl) (by kernel_rfl) (by decide) h ?_
  clear h
  intro a w h
  refine env_one (i := 1) (d := 32) (k := .val (.int .i64 d)) (step_move (by kernel_rfl) (Opd.of_base 1 rfl) rfl) (by kernel_rfl) (by decide) h ?_
  clear h
  intro a w h
  refine env_one (i := 2) (d := 33) (k := .pair (Tm.renameOf p l d).1.1 (Tm.renameOf p l d).1.2 (Tm.renameOf p l d).2) (step_rename2 (by kernel_rfl) (Opd.of_base 31 rfl) (Opd.of_base 32 rfl) rfl rfl) (by kernel_rfl) (by decide) h ?_
  clear h
  intro a w h
  refine env_one (i := 3) (d := 30) (k := .pair (Tm.renameOf p l d).1.1 (Tm.renameOf p l d).1.2 (Tm.renameOf p l d).2) (step_move (by kernel_rfl) (Opd.of_base 33 rfl) rfl) (by kernel_rfl) (by decide) h ?_
  clear h
  intro a w h
  refine env_one (i := 4) (d := 34) (k := .term (Tm.renameOf p l d).1.1 (Tm.renameOf p l d).1.2) (step_pair0 (by kernel_rfl) (Opd.of_base 30 rfl) rfl) (by kernel_rfl) (by decide) h ?_
  clear h
  intro a w h
  refine env_one (i := 5) (d := 35) (k := .val (.int .i64 (Tm.renameOf p l d).2)) (step_pair1 (by kernel_rfl) (Opd.of_base 30 rfl) rfl) (by kernel_rfl) (by decide) h ?_
  clear h
  intro a w h
  refine env_box (i := 6) (d := 8) (by kernel_rfl) (by decide) (by kernel_rfl) (by decide) (s := 34) rfl h ?_
  clear h
  intro a w h
  refine env_one (i := 8) (d := 9) (k := .val (.int .i64 (Tm.renameOf p l d).2)) (step_assign (by kernel_rfl) (Opd.of_base 35 rfl) rfl) (by kernel_rfl) (by decide) h ?_
  clear h
  intro a w h
  exact hQ a w (h.keep [2, 5, 6, 8, 9])
def lc11tEs (p : Pay) (l : Fo) (d : Int) : List Kd := [
  .val (.int .i64 (Tm.renameOf p l d).2),
  .val (.bool true),
  .val (.bool true),
  .term (Tm.renameOf p l d).1.1 (Tm.renameOf p l d).1.2,
  .term p l,
  .val (.bool true),
  .val (.bool false),
  .val (.bool false),
  .term (Tm.renameOf p l d).1.1 (Tm.renameOf p l d).1.2,
  .term (Tm.canonOf p l).1 (Tm.canonOf p l).2,
  .term (Tm.canonOf p l).1 (Tm.canonOf p l).2,
  .val (.bool true),
  .val (.bool false),
  .val (.bool false),
  .val (.bool false)]
def lc11tDs : List Nat := [36, 37, 38, 39, 40, 41, 42, 43, 44, 45, 46, 47, 48, 49, 50]
def lc11tEnv (p : Pay) (l : Fo) (d : Int) : Env := [(2, .ptrT p l), (5, .ptrT (Tm.canonOf p l).1 (Tm.canonOf p l).2), (6, .ints (Tm.varsOf (Tm.canonOf p l).1 (Tm.canonOf p l).2)), (8, .ptrT (Tm.renameOf p l d).1.1 (Tm.renameOf p l d).1.2), (9, .val (.int .i64 (Tm.renameOf p l d).2))]
theorem lc11t_0 {Q : Exit → Act → World → Prop} (p : Pay) (l : Fo) (d : Int) (hv : Tm.validB p l = true) (he : (Tm.renameOf p l d).2 = 0) : RStep lc11Ops Q (fun i => ((lc11tEs p l d)[i]?).getD .any) (fun i => (lc11tDs[i]?).getD (1000 + i)) (look (lc11tEnv p l d)) 78 0 := fun _ => step_move (by kernel_rfl) (Opd.of_base 9 rfl) rfl
theorem lc11t_1 {Q : Exit → Act → World → Prop} (p : Pay) (l : Fo) (d : Int) (hv : Tm.validB p l = true) (he : (Tm.renameOf p l d).2 = 0) : RStep lc11Ops Q (fun i => ((lc11tEs p l d)[i]?).getD .any) (fun i => (lc11tDs[i]?).getD (1000 + i)) (look (lc11tEnv p l d)) 78 1 := fun _ => step_eqb_err (by kernel_rfl) (Opd.dep 0 rfl rfl (by kernel_rfl)) (Opd.const _) (by simpa using he) rfl
theorem lc11t_2 {Q : Exit → Act → World → Prop} (p : Pay) (l : Fo) (d : Int) (hv : Tm.validB p l = true) (he : (Tm.renameOf p l d).2 = 0) : RStep lc11Ops Q (fun i => ((lc11tEs p l d)[i]?).getD .any) (fun i => (lc11tDs[i]?).getD (1000 + i)) (look (lc11tEnv p l d)) 78 2 := fun _ => step_move (by kernel_rfl) (Opd.dep 1 rfl rfl (by kernel_rfl)) rfl
theorem lc11t_3 {Q : Exit → Act → World → Prop} (p : Pay) (l : Fo) (d : Int) (hv : Tm.validB p l = true) (he : (Tm.renameOf p l d).2 = 0) : RStep lc11Ops Q (fun i => ((lc11tEs p l d)[i]?).getD .any) (fun i => (lc11tDs[i]?).getD (1000 + i)) (look (lc11tEnv p l d)) 78 3 := fun _ => step_load_term (by kernel_rfl) (Opd.of_base 8 rfl) rfl
theorem lc11t_4 {Q : Exit → Act → World → Prop} (p : Pay) (l : Fo) (d : Int) (hv : Tm.validB p l = true) (he : (Tm.renameOf p l d).2 = 0) : RStep lc11Ops Q (fun i => ((lc11tEs p l d)[i]?).getD .any) (fun i => (lc11tDs[i]?).getD (1000 + i)) (look (lc11tEnv p l d)) 78 4 := fun _ => step_load_term (by kernel_rfl) (Opd.of_base 2 rfl) rfl
theorem lc11t_5 {Q : Exit → Act → World → Prop} (p : Pay) (l : Fo) (d : Int) (hv : Tm.validB p l = true) (he : (Tm.renameOf p l d).2 = 0) : RStep lc11Ops Q (fun i => ((lc11tEs p l d)[i]?).getD .any) (fun i => (lc11tDs[i]?).getD (1000 + i)) (look (lc11tEnv p l d)) 78 5 := fun _ => step_variant (by kernel_rfl) (Opd.dep 3 rfl rfl (by kernel_rfl)) (Opd.dep 4 rfl rfl (by kernel_rfl)) (Tm.variant_of (Tm.rename_valid p l d) hv (Tm.rename_ok he).2) rfl
theorem lc11t_6 {Q : Exit → Act → World → Prop} (p : Pay) (l : Fo) (d : Int) (hv : Tm.validB p l = true) (he : (Tm.renameOf p l d).2 = 0) : RStep lc11Ops Q (fun i => ((lc11tEs p l d)[i]?).getD .any) (fun i => (lc11tDs[i]?).getD (1000 + i)) (look (lc11tEnv p l d)) 78 6 := fun _ => step_not (by kernel_rfl) (Opd.dep 5 rfl rfl (by kernel_rfl)) rfl
theorem lc11t_7 {Q : Exit → Act → World → Prop} (p : Pay) (l : Fo) (d : Int) (hv : Tm.validB p l = true) (he : (Tm.renameOf p l d).2 = 0) : RStep lc11Ops Q (fun i => ((lc11tEs p l d)[i]?).getD .any) (fun i => (lc11tDs[i]?).getD (1000 + i)) (look (lc11tEnv p l d)) 78 7 := fun _ => step_move (by kernel_rfl) (Opd.dep 6 rfl rfl (by kernel_rfl)) rfl
theorem lc11t_8 {Q : Exit → Act → World → Prop} (p : Pay) (l : Fo) (d : Int) (hv : Tm.validB p l = true) (he : (Tm.renameOf p l d).2 = 0) : RStep lc11Ops Q (fun i => ((lc11tEs p l d)[i]?).getD .any) (fun i => (lc11tDs[i]?).getD (1000 + i)) (look (lc11tEnv p l d)) 78 8 := fun _ => step_load_term (by kernel_rfl) (Opd.of_base 8 rfl) rfl
theorem lc11t_9 {Q : Exit → Act → World → Prop} (p : Pay) (l : Fo) (d : Int) (hv : Tm.validB p l = true) (he : (Tm.renameOf p l d).2 = 0) : RStep lc11Ops Q (fun i => ((lc11tEs p l d)[i]?).getD .any) (fun i => (lc11tDs[i]?).getD (1000 + i)) (look (lc11tEnv p l d)) 78 9 := fun _ => step_canon (by kernel_rfl) (Opd.dep 8 rfl rfl (by kernel_rfl)) ((Tm.canonFn_valid (Tm.rename_valid p l d)).trans (Tm.rename_ok he).2) rfl
theorem lc11t_10 {Q : Exit → Act → World → Prop} (p : Pay) (l : Fo) (d : Int) (hv : Tm.validB p l = true) (he : (Tm.renameOf p l d).2 = 0) : RStep lc11Ops Q (fun i => ((lc11tEs p l d)[i]?).getD .any) (fun i => (lc11tDs[i]?).getD (1000 + i)) (look (lc11tEnv p l d)) 78 10 := fun _ => step_load_term (by kernel_rfl) (Opd.of_base 5 rfl) rfl
theorem lc11t_11 {Q : Exit → Act → World → Prop} (p : Pay) (l : Fo) (d : Int) (hv : Tm.validB p l = true) (he : (Tm.renameOf p l d).2 = 0) : RStep lc11Ops Q (fun i => ((lc11tEs p l d)[i]?).getD .any) (fun i => (lc11tDs[i]?).getD (1000 + i)) (look (lc11tEnv p l d)) 78 11 := fun _ => step_same (by kernel_rfl) (Opd.dep 9 rfl rfl (by kernel_rfl)) (Opd.dep 10 rfl rfl (by kernel_rfl)) (Tm.same_self (Tm.canon_valid hv)) rfl
theorem lc11t_12 {Q : Exit → Act → World → Prop} (p : Pay) (l : Fo) (d : Int) (hv : Tm.validB p l = true) (he : (Tm.renameOf p l d).2 = 0) : RStep lc11Ops Q (fun i => ((lc11tEs p l d)[i]?).getD .any) (fun i => (lc11tDs[i]?).getD (1000 + i)) (look (lc11tEnv p l d)) 78 12 := fun _ => step_not (by kernel_rfl) (Opd.dep 11 rfl rfl (by kernel_rfl)) rfl
theorem lc11t_13 {Q : Exit → Act → World → Prop} (p : Pay) (l : Fo) (d : Int) (hv : Tm.validB p l = true) (he : (Tm.renameOf p l d).2 = 0) : RStep lc11Ops Q (fun i => ((lc11tEs p l d)[i]?).getD .any) (fun i => (lc11tDs[i]?).getD (1000 + i)) (look (lc11tEnv p l d)) 78 13 := fun _ => step_pick_no (x := .const (.bool true)) (by kernel_rfl) (Opd.dep 7 rfl rfl (by kernel_rfl)) (Opd.dep 12 rfl rfl (by kernel_rfl)) rfl
theorem lc11t_14 {Q : Exit → Act → World → Prop} (p : Pay) (l : Fo) (d : Int) (hv : Tm.validB p l = true) (he : (Tm.renameOf p l d).2 = 0) : RStep lc11Ops Q (fun i => ((lc11tEs p l d)[i]?).getD .any) (fun i => (lc11tDs[i]?).getD (1000 + i)) (look (lc11tEnv p l d)) 78 14 := fun _ => step_pick_yes (y := .const (.bool false)) (by kernel_rfl) (Opd.dep 2 rfl rfl (by kernel_rfl)) (Opd.dep 13 rfl rfl (by kernel_rfl)) rfl
theorem lc11t_region {Q : Exit → Act → World → Prop} (p : Pay) (l : Fo) (d : Int) (hv : Tm.validB p l = true) (he : (Tm.renameOf p l d).2 = 0) {w0 : World} {a : Act} {w : World} (h : Hold 78 [(2, .ptrT p l), (5, .ptrT (Tm.canonOf p l).1 (Tm.canonOf p l).2), (6, .ints (Tm.varsOf (Tm.canonOf p l).1 (Tm.canonOf p l).2)), (8, .ptrT (Tm.renameOf p l d).1.1 (Tm.renameOf p l d).1.2), (9, .val (.int .i64 (Tm.renameOf p l d).2))] w0 a w)
    (hQ : ∀ a' w', Hold 78 [(2, .ptrT p l), (5, .ptrT (Tm.canonOf p l).1 (Tm.canonOf p l).2), (6, .ints (Tm.varsOf (Tm.canonOf p l).1 (Tm.canonOf p l).2)), (50, .val (.bool false))] w0 a' w' → Q .normal a' w') : (Code.region 11 lc11Ops true).wp Try.prog Q a w := by
  have hall : ∀ i, i < 0 → RStep lc11Ops Q (fun i => ((lc11tEs p l d)[i]?).getD .any) (fun i => (lc11tDs[i]?).getD (1000 + i)) (look (lc11tEnv p l d)) 78 i := fun i hi => absurd hi (by omega)
  have hall := below_succ hall (lc11t_0 p l d hv he)
  have hall := below_succ hall (lc11t_1 p l d hv he)
  have hall := below_succ hall (lc11t_2 p l d hv he)
  have hall := below_succ hall (lc11t_3 p l d hv he)
  have hall := below_succ hall (lc11t_4 p l d hv he)
  have hall := below_succ hall (lc11t_5 p l d hv he)
  have hall := below_succ hall (lc11t_6 p l d hv he)
  have hall := below_succ hall (lc11t_7 p l d hv he)
  have hall := below_succ hall (lc11t_8 p l d hv he)
  have hall := below_succ hall (lc11t_9 p l d hv he)
  have hall := below_succ hall (lc11t_10 p l d hv he)
  have hall := below_succ hall (lc11t_11 p l d hv he)
  have hall := below_succ hall (lc11t_12 p l d hv he)
  have hall := below_succ hall (lc11t_13 p l d hv he)
  have hall := below_succ hall (lc11t_14 p l d hv he)
  refine env_any (env := lc11tEnv p l d) (N := 78) (w0 := w0) lc11tDs (lc11tEs p l d) (by kernel_rfl) (by kernel_rfl) (of_decide_eq_true (by kernel_rfl)) (fun i hi => hall i (by rw [show (lc11tEs p l d).length = 15 by kernel_rfl] at hi; exact hi)) h fun a' w' h => ?_
  exact hQ a' w' (h.keep [2, 5, 6, 50])
def lc11fEs (p : Pay) (l : Fo) (d : Int) : List Kd := [
  .val (.int .i64 (Tm.renameOf p l d).2),
  .val (.bool false),
  .val (.bool false),
  .val undef,
  .val undef,
  .val undef,
  .val undef,
  .val undef,
  .val undef,
  .val undef,
  .val undef,
  .val undef,
  .val undef,
  .val undef,
  .val (.bool false)]
def lc11fDs : List Nat := [36, 37, 38, 39, 40, 41, 42, 43, 44, 45, 46, 47, 48, 49, 50]
def lc11fEnv (p : Pay) (l : Fo) (d : Int) : Env := [(2, .ptrT p l), (5, .ptrT (Tm.canonOf p l).1 (Tm.canonOf p l).2), (6, .ints (Tm.varsOf (Tm.canonOf p l).1 (Tm.canonOf p l).2)), (8, .ptrT (Tm.renameOf p l d).1.1 (Tm.renameOf p l d).1.2), (9, .val (.int .i64 (Tm.renameOf p l d).2))]
theorem lc11f_0 {Q : Exit → Act → World → Prop} (p : Pay) (l : Fo) (d : Int) (he : ¬ (Tm.renameOf p l d).2 = 0) : RStep lc11Ops Q (fun i => ((lc11fEs p l d)[i]?).getD .any) (fun i => (lc11fDs[i]?).getD (1000 + i)) (look (lc11fEnv p l d)) 78 0 := fun _ => step_move (by kernel_rfl) (Opd.of_base 9 rfl) rfl
theorem lc11f_1 {Q : Exit → Act → World → Prop} (p : Pay) (l : Fo) (d : Int) (he : ¬ (Tm.renameOf p l d).2 = 0) : RStep lc11Ops Q (fun i => ((lc11fEs p l d)[i]?).getD .any) (fun i => (lc11fDs[i]?).getD (1000 + i)) (look (lc11fEnv p l d)) 78 1 := fun _ => step_eqb_err (by kernel_rfl) (Opd.dep 0 rfl rfl (by kernel_rfl)) (Opd.const _) (by simpa using he) rfl
theorem lc11f_2 {Q : Exit → Act → World → Prop} (p : Pay) (l : Fo) (d : Int) (he : ¬ (Tm.renameOf p l d).2 = 0) : RStep lc11Ops Q (fun i => ((lc11fEs p l d)[i]?).getD .any) (fun i => (lc11fDs[i]?).getD (1000 + i)) (look (lc11fEnv p l d)) 78 2 := fun _ => step_move (by kernel_rfl) (Opd.dep 1 rfl rfl (by kernel_rfl)) rfl
theorem lc11f_3 {Q : Exit → Act → World → Prop} (p : Pay) (l : Fo) (d : Int) (he : ¬ (Tm.renameOf p l d).2 = 0) : RStep lc11Ops Q (fun i => ((lc11fEs p l d)[i]?).getD .any) (fun i => (lc11fDs[i]?).getD (1000 + i)) (look (lc11fEnv p l d)) 78 3 := rstep_skip (by kernel_rfl)
theorem lc11f_4 {Q : Exit → Act → World → Prop} (p : Pay) (l : Fo) (d : Int) (he : ¬ (Tm.renameOf p l d).2 = 0) : RStep lc11Ops Q (fun i => ((lc11fEs p l d)[i]?).getD .any) (fun i => (lc11fDs[i]?).getD (1000 + i)) (look (lc11fEnv p l d)) 78 4 := rstep_skip (by kernel_rfl)
theorem lc11f_5 {Q : Exit → Act → World → Prop} (p : Pay) (l : Fo) (d : Int) (he : ¬ (Tm.renameOf p l d).2 = 0) : RStep lc11Ops Q (fun i => ((lc11fEs p l d)[i]?).getD .any) (fun i => (lc11fDs[i]?).getD (1000 + i)) (look (lc11fEnv p l d)) 78 5 := rstep_skip (by kernel_rfl)
theorem lc11f_6 {Q : Exit → Act → World → Prop} (p : Pay) (l : Fo) (d : Int) (he : ¬ (Tm.renameOf p l d).2 = 0) : RStep lc11Ops Q (fun i => ((lc11fEs p l d)[i]?).getD .any) (fun i => (lc11fDs[i]?).getD (1000 + i)) (look (lc11fEnv p l d)) 78 6 := rstep_skip (by kernel_rfl)
theorem lc11f_7 {Q : Exit → Act → World → Prop} (p : Pay) (l : Fo) (d : Int) (he : ¬ (Tm.renameOf p l d).2 = 0) : RStep lc11Ops Q (fun i => ((lc11fEs p l d)[i]?).getD .any) (fun i => (lc11fDs[i]?).getD (1000 + i)) (look (lc11fEnv p l d)) 78 7 := rstep_skip (by kernel_rfl)
theorem lc11f_8 {Q : Exit → Act → World → Prop} (p : Pay) (l : Fo) (d : Int) (he : ¬ (Tm.renameOf p l d).2 = 0) : RStep lc11Ops Q (fun i => ((lc11fEs p l d)[i]?).getD .any) (fun i => (lc11fDs[i]?).getD (1000 + i)) (look (lc11fEnv p l d)) 78 8 := rstep_skip (by kernel_rfl)
theorem lc11f_9 {Q : Exit → Act → World → Prop} (p : Pay) (l : Fo) (d : Int) (he : ¬ (Tm.renameOf p l d).2 = 0) : RStep lc11Ops Q (fun i => ((lc11fEs p l d)[i]?).getD .any) (fun i => (lc11fDs[i]?).getD (1000 + i)) (look (lc11fEnv p l d)) 78 9 := rstep_skip (by kernel_rfl)
theorem lc11f_10 {Q : Exit → Act → World → Prop} (p : Pay) (l : Fo) (d : Int) (he : ¬ (Tm.renameOf p l d).2 = 0) : RStep lc11Ops Q (fun i => ((lc11fEs p l d)[i]?).getD .any) (fun i => (lc11fDs[i]?).getD (1000 + i)) (look (lc11fEnv p l d)) 78 10 := rstep_skip (by kernel_rfl)
theorem lc11f_11 {Q : Exit → Act → World → Prop} (p : Pay) (l : Fo) (d : Int) (he : ¬ (Tm.renameOf p l d).2 = 0) : RStep lc11Ops Q (fun i => ((lc11fEs p l d)[i]?).getD .any) (fun i => (lc11fDs[i]?).getD (1000 + i)) (look (lc11fEnv p l d)) 78 11 := rstep_skip (by kernel_rfl)
theorem lc11f_12 {Q : Exit → Act → World → Prop} (p : Pay) (l : Fo) (d : Int) (he : ¬ (Tm.renameOf p l d).2 = 0) : RStep lc11Ops Q (fun i => ((lc11fEs p l d)[i]?).getD .any) (fun i => (lc11fDs[i]?).getD (1000 + i)) (look (lc11fEnv p l d)) 78 12 := rstep_skip (by kernel_rfl)
theorem lc11f_13 {Q : Exit → Act → World → Prop} (p : Pay) (l : Fo) (d : Int) (he : ¬ (Tm.renameOf p l d).2 = 0) : RStep lc11Ops Q (fun i => ((lc11fEs p l d)[i]?).getD .any) (fun i => (lc11fDs[i]?).getD (1000 + i)) (look (lc11fEnv p l d)) 78 13 := rstep_skip (by kernel_rfl)
theorem lc11f_14 {Q : Exit → Act → World → Prop} (p : Pay) (l : Fo) (d : Int) (he : ¬ (Tm.renameOf p l d).2 = 0) : RStep lc11Ops Q (fun i => ((lc11fEs p l d)[i]?).getD .any) (fun i => (lc11fDs[i]?).getD (1000 + i)) (look (lc11fEnv p l d)) 78 14 := fun _ => step_pick_no (x := .tmp 49) (by kernel_rfl) (Opd.dep 2 rfl rfl (by kernel_rfl)) (Opd.const _) rfl
theorem lc11f_region {Q : Exit → Act → World → Prop} (p : Pay) (l : Fo) (d : Int) (he : ¬ (Tm.renameOf p l d).2 = 0) {w0 : World} {a : Act} {w : World} (h : Hold 78 [(2, .ptrT p l), (5, .ptrT (Tm.canonOf p l).1 (Tm.canonOf p l).2), (6, .ints (Tm.varsOf (Tm.canonOf p l).1 (Tm.canonOf p l).2)), (8, .ptrT (Tm.renameOf p l d).1.1 (Tm.renameOf p l d).1.2), (9, .val (.int .i64 (Tm.renameOf p l d).2))] w0 a w)
    (hQ : ∀ a' w', Hold 78 [(2, .ptrT p l), (5, .ptrT (Tm.canonOf p l).1 (Tm.canonOf p l).2), (6, .ints (Tm.varsOf (Tm.canonOf p l).1 (Tm.canonOf p l).2)), (50, .val (.bool false))] w0 a' w' → Q .normal a' w') : (Code.region 11 lc11Ops true).wp Try.prog Q a w := by
  have hall : ∀ i, i < 0 → RStep lc11Ops Q (fun i => ((lc11fEs p l d)[i]?).getD .any) (fun i => (lc11fDs[i]?).getD (1000 + i)) (look (lc11fEnv p l d)) 78 i := fun i hi => absurd hi (by omega)
  have hall := below_succ hall (lc11f_0 p l d he)
  have hall := below_succ hall (lc11f_1 p l d he)
  have hall := below_succ hall (lc11f_2 p l d he)
  have hall := below_succ hall (lc11f_3 p l d he)
  have hall := below_succ hall (lc11f_4 p l d he)
  have hall := below_succ hall (lc11f_5 p l d he)
  have hall := below_succ hall (lc11f_6 p l d he)
  have hall := below_succ hall (lc11f_7 p l d he)
  have hall := below_succ hall (lc11f_8 p l d he)
  have hall := below_succ hall (lc11f_9 p l d he)
  have hall := below_succ hall (lc11f_10 p l d he)
  have hall := below_succ hall (lc11f_11 p l d he)
  have hall := below_succ hall (lc11f_12 p l d he)
  have hall := below_succ hall (lc11f_13 p l d he)
  have hall := below_succ hall (lc11f_14 p l d he)
  refine env_any (env := lc11fEnv p l d) (N := 78) (w0 := w0) lc11fDs (lc11fEs p l d) (by kernel_rfl) (by kernel_rfl) (of_decide_eq_true (by kernel_rfl)) (fun i hi => hall i (by rw [show (lc11fEs p l d).length = 15 by kernel_rfl] at hi; exact hi)) h fun a' w' h => ?_
  exact hQ a' w' (h.keep [2, 5, 6, 50])
def lc13Es (p : Pay) (l : Fo) (d : Int) : List Kd := [
  .ints (Tm.varsOf (Tm.canonOf p l).1 (Tm.canonOf p l).2),
  .val (.int .i64 (((Tm.varsOf (Tm.canonOf p l).1 (Tm.canonOf p l).2).length : Nat) : Int)),
  .term p l,
  .ints (Tm.varsOf p l),
  .val (.int .i64 (((Tm.varsOf p l).length : Nat) : Int)),
  .val (.bool true),
  .val (.bool true),
  .term (Tm.canonOf p l).1 (Tm.canonOf p l).2,
  .val (.int .i64 ((Tm.sizeB (Tm.canonOf p l).2 : Nat) : Int)),
  .term p l,
  .val (.int .i64 ((Tm.sizeB l : Nat) : Int)),
  .val (.bool true),
  .val (.bool true),
  .val (.bool true),
  .term (Tm.canonOf p l).1 (Tm.canonOf p l).2,
  .term p l,
  .val (.bool true),
  .val (.bool true),
  .val (.bool true),
  .term (Tm.canonOf p l).1 (Tm.canonOf p l).2,
  .term (Tm.canonOf p l).1 (Tm.canonOf p l).2,
  .term (Tm.canonOf p l).1 (Tm.canonOf p l).2,
  .val (.bool true),
  .val (.bool true),
  .val (.bool true),
  .val (.bool true),
  .val (.bool true),
  .val (.bool true)]
def lc13Ds : List Nat := [51, 52, 53, 54, 55, 56, 57, 58, 59, 60, 61, 62, 63, 64, 65, 66, 67, 68, 69, 70, 71, 72, 73, 74, 75, 76, 77, 4]
def lc13Env (p : Pay) (l : Fo) (d : Int) : Env := [(2, .ptrT p l), (5, .ptrT (Tm.canonOf p l).1 (Tm.canonOf p l).2), (6, .ints (Tm.varsOf (Tm.canonOf p l).1 (Tm.canonOf p l).2))]
theorem lc13_0 {Q : Exit → Act → World → Prop} (p : Pay) (l : Fo) (d : Int) (hv : Tm.validB p l = true) : RStep lc13Ops Q (fun i => ((lc13Es p l d)[i]?).getD .any) (fun i => (lc13Ds[i]?).getD (1000 + i)) (look (lc13Env p l d)) 78 0 := fun _ => step_move (by kernel_rfl) (Opd.of_base 6 rfl) rfl
theorem lc13_1 {Q : Exit → Act → World → Prop} (p : Pay) (l : Fo) (d : Int) (hv : Tm.validB p l = true) : RStep lc13Ops Q (fun i => ((lc13Es p l d)[i]?).getD .any) (fun i => (lc13Ds[i]?).getD (1000 + i)) (look (lc13Env p l d)) 78 1 := fun _ => step_len_ints (by kernel_rfl) (Opd.dep 0 rfl rfl (by kernel_rfl)) rfl
theorem lc13_2 {Q : Exit → Act → World → Prop} (p : Pay) (l : Fo) (d : Int) (hv : Tm.validB p l = true) : RStep lc13Ops Q (fun i => ((lc13Es p l d)[i]?).getD .any) (fun i => (lc13Ds[i]?).getD (1000 + i)) (look (lc13Env p l d)) 78 2 := fun _ => step_load_term (by kernel_rfl) (Opd.of_base 2 rfl) rfl
theorem lc13_3 {Q : Exit → Act → World → Prop} (p : Pay) (l : Fo) (d : Int) (hv : Tm.validB p l = true) : RStep lc13Ops Q (fun i => ((lc13Es p l d)[i]?).getD .any) (fun i => (lc13Ds[i]?).getD (1000 + i)) (look (lc13Env p l d)) 78 3 := fun _ => step_vars (by kernel_rfl) (Opd.dep 2 rfl rfl (by kernel_rfl)) (Tm.varsFn_valid hv) rfl
theorem lc13_4 {Q : Exit → Act → World → Prop} (p : Pay) (l : Fo) (d : Int) (hv : Tm.validB p l = true) : RStep lc13Ops Q (fun i => ((lc13Es p l d)[i]?).getD .any) (fun i => (lc13Ds[i]?).getD (1000 + i)) (look (lc13Env p l d)) 78 4 := fun _ => step_len_ints (by kernel_rfl) (Opd.dep 3 rfl rfl (by kernel_rfl)) rfl
theorem lc13_5 {Q : Exit → Act → World → Prop} (p : Pay) (l : Fo) (d : Int) (hv : Tm.validB p l = true) : RStep lc13Ops Q (fun i => ((lc13Es p l d)[i]?).getD .any) (fun i => (lc13Ds[i]?).getD (1000 + i)) (look (lc13Env p l d)) 78 5 := fun _ => step_eqb_int (by kernel_rfl) (Opd.dep 1 rfl rfl (by kernel_rfl)) (Opd.dep 4 rfl rfl (by kernel_rfl)) (by rw [Tm.canon_vars_len hv]; simp) rfl
theorem lc13_6 {Q : Exit → Act → World → Prop} (p : Pay) (l : Fo) (d : Int) (hv : Tm.validB p l = true) : RStep lc13Ops Q (fun i => ((lc13Es p l d)[i]?).getD .any) (fun i => (lc13Ds[i]?).getD (1000 + i)) (look (lc13Env p l d)) 78 6 := fun _ => step_move (by kernel_rfl) (Opd.dep 5 rfl rfl (by kernel_rfl)) rfl
theorem lc13_7 {Q : Exit → Act → World → Prop} (p : Pay) (l : Fo) (d : Int) (hv : Tm.validB p l = true) : RStep lc13Ops Q (fun i => ((lc13Es p l d)[i]?).getD .any) (fun i => (lc13Ds[i]?).getD (1000 + i)) (look (lc13Env p l d)) 78 7 := fun _ => step_load_term (by kernel_rfl) (Opd.of_base 5 rfl) rfl
theorem lc13_8 {Q : Exit → Act → World → Prop} (p : Pay) (l : Fo) (d : Int) (hv : Tm.validB p l = true) : RStep lc13Ops Q (fun i => ((lc13Es p l d)[i]?).getD .any) (fun i => (lc13Ds[i]?).getD (1000 + i)) (look (lc13Env p l d)) 78 8 := fun _ => step_size (by kernel_rfl) (Opd.dep 7 rfl rfl (by kernel_rfl)) rfl rfl
theorem lc13_9 {Q : Exit → Act → World → Prop} (p : Pay) (l : Fo) (d : Int) (hv : Tm.validB p l = true) : RStep lc13Ops Q (fun i => ((lc13Es p l d)[i]?).getD .any) (fun i => (lc13Ds[i]?).getD (1000 + i)) (look (lc13Env p l d)) 78 9 := fun _ => step_load_term (by kernel_rfl) (Opd.of_base 2 rfl) rfl
theorem lc13_10 {Q : Exit → Act → World → Prop} (p : Pay) (l : Fo) (d : Int) (hv : Tm.validB p l = true) : RStep lc13Ops Q (fun i => ((lc13Es p l d)[i]?).getD .any) (fun i => (lc13Ds[i]?).getD (1000 + i)) (look (lc13Env p l d)) 78 10 := fun _ => step_size (by kernel_rfl) (Opd.dep 9 rfl rfl (by kernel_rfl)) rfl rfl
theorem lc13_11 {Q : Exit → Act → World → Prop} (p : Pay) (l : Fo) (d : Int) (hv : Tm.validB p l = true) : RStep lc13Ops Q (fun i => ((lc13Es p l d)[i]?).getD .any) (fun i => (lc13Ds[i]?).getD (1000 + i)) (look (lc13Env p l d)) 78 11 := fun _ => step_eqb_int (by kernel_rfl) (Opd.dep 8 rfl rfl (by kernel_rfl)) (Opd.dep 10 rfl rfl (by kernel_rfl)) (by unfold Tm.sizeB; rw [Tm.canon_size (Tm.valid_parts hv).2]; simp) rfl
theorem lc13_12 {Q : Exit → Act → World → Prop} (p : Pay) (l : Fo) (d : Int) (hv : Tm.validB p l = true) : RStep lc13Ops Q (fun i => ((lc13Es p l d)[i]?).getD .any) (fun i => (lc13Ds[i]?).getD (1000 + i)) (look (lc13Env p l d)) 78 12 := fun _ => step_pick_yes (y := .const (.bool false)) (by kernel_rfl) (Opd.dep 6 rfl rfl (by kernel_rfl)) (Opd.dep 11 rfl rfl (by kernel_rfl)) rfl
theorem lc13_13 {Q : Exit → Act → World → Prop} (p : Pay) (l : Fo) (d : Int) (hv : Tm.validB p l = true) : RStep lc13Ops Q (fun i => ((lc13Es p l d)[i]?).getD .any) (fun i => (lc13Ds[i]?).getD (1000 + i)) (look (lc13Env p l d)) 78 13 := fun _ => step_move (by kernel_rfl) (Opd.dep 12 rfl rfl (by kernel_rfl)) rfl
theorem lc13_14 {Q : Exit → Act → World → Prop} (p : Pay) (l : Fo) (d : Int) (hv : Tm.validB p l = true) : RStep lc13Ops Q (fun i => ((lc13Es p l d)[i]?).getD .any) (fun i => (lc13Ds[i]?).getD (1000 + i)) (look (lc13Env p l d)) 78 14 := fun _ => step_load_term (by kernel_rfl) (Opd.of_base 5 rfl) rfl
theorem lc13_15 {Q : Exit → Act → World → Prop} (p : Pay) (l : Fo) (d : Int) (hv : Tm.validB p l = true) : RStep lc13Ops Q (fun i => ((lc13Es p l d)[i]?).getD .any) (fun i => (lc13Ds[i]?).getD (1000 + i)) (look (lc13Env p l d)) 78 15 := fun _ => step_load_term (by kernel_rfl) (Opd.of_base 2 rfl) rfl
theorem lc13_16 {Q : Exit → Act → World → Prop} (p : Pay) (l : Fo) (d : Int) (hv : Tm.validB p l = true) : RStep lc13Ops Q (fun i => ((lc13Es p l d)[i]?).getD .any) (fun i => (lc13Ds[i]?).getD (1000 + i)) (look (lc13Env p l d)) 78 16 := fun _ => step_variant (by kernel_rfl) (Opd.dep 14 rfl rfl (by kernel_rfl)) (Opd.dep 15 rfl rfl (by kernel_rfl)) (Tm.variant_of (Tm.canon_valid hv) hv (Tm.canon_canon hv)) rfl
theorem lc13_17 {Q : Exit → Act → World → Prop} (p : Pay) (l : Fo) (d : Int) (hv : Tm.validB p l = true) : RStep lc13Ops Q (fun i => ((lc13Es p l d)[i]?).getD .any) (fun i => (lc13Ds[i]?).getD (1000 + i)) (look (lc13Env p l d)) 78 17 := fun _ => step_pick_yes (y := .const (.bool false)) (by kernel_rfl) (Opd.dep 13 rfl rfl (by kernel_rfl)) (Opd.dep 16 rfl rfl (by kernel_rfl)) rfl
theorem lc13_18 {Q : Exit → Act → World → Prop} (p : Pay) (l : Fo) (d : Int) (hv : Tm.validB p l = true) : RStep lc13Ops Q (fun i => ((lc13Es p l d)[i]?).getD .any) (fun i => (lc13Ds[i]?).getD (1000 + i)) (look (lc13Env p l d)) 78 18 := fun _ => step_move (by kernel_rfl) (Opd.dep 17 rfl rfl (by kernel_rfl)) rfl
theorem lc13_19 {Q : Exit → Act → World → Prop} (p : Pay) (l : Fo) (d : Int) (hv : Tm.validB p l = true) : RStep lc13Ops Q (fun i => ((lc13Es p l d)[i]?).getD .any) (fun i => (lc13Ds[i]?).getD (1000 + i)) (look (lc13Env p l d)) 78 19 := fun _ => step_load_term (by kernel_rfl) (Opd.of_base 5 rfl) rfl
theorem lc13_20 {Q : Exit → Act → World → Prop} (p : Pay) (l : Fo) (d : Int) (hv : Tm.validB p l = true) : RStep lc13Ops Q (fun i => ((lc13Es p l d)[i]?).getD .any) (fun i => (lc13Ds[i]?).getD (1000 + i)) (look (lc13Env p l d)) 78 20 := fun _ => step_canon (by kernel_rfl) (Opd.dep 19 rfl rfl (by kernel_rfl)) ((Tm.canonFn_valid (Tm.canon_valid hv)).trans (Tm.canon_canon hv)) rfl
theorem lc13_21 {Q : Exit → Act → World → Prop} (p : Pay) (l : Fo) (d : Int) (hv : Tm.validB p l = true) : RStep lc13Ops Q (fun i => ((lc13Es p l d)[i]?).getD .any) (fun i => (lc13Ds[i]?).getD (1000 + i)) (look (lc13Env p l d)) 78 21 := fun _ => step_load_term (by kernel_rfl) (Opd.of_base 5 rfl) rfl
theorem lc13_22 {Q : Exit → Act → World → Prop} (p : Pay) (l : Fo) (d : Int) (hv : Tm.validB p l = true) : RStep lc13Ops Q (fun i => ((lc13Es p l d)[i]?).getD .any) (fun i => (lc13Ds[i]?).getD (1000 + i)) (look (lc13Env p l d)) 78 22 := fun _ => step_same (by kernel_rfl) (Opd.dep 20 rfl rfl (by kernel_rfl)) (Opd.dep 21 rfl rfl (by kernel_rfl)) (Tm.same_self (Tm.canon_valid hv)) rfl
theorem lc13_23 {Q : Exit → Act → World → Prop} (p : Pay) (l : Fo) (d : Int) (hv : Tm.validB p l = true) : RStep lc13Ops Q (fun i => ((lc13Es p l d)[i]?).getD .any) (fun i => (lc13Ds[i]?).getD (1000 + i)) (look (lc13Env p l d)) 78 23 := fun _ => step_pick_yes (y := .const (.bool false)) (by kernel_rfl) (Opd.dep 18 rfl rfl (by kernel_rfl)) (Opd.dep 22 rfl rfl (by kernel_rfl)) rfl
theorem lc13_24 {Q : Exit → Act → World → Prop} (p : Pay) (l : Fo) (d : Int) (hv : Tm.validB p l = true) : RStep lc13Ops Q (fun i => ((lc13Es p l d)[i]?).getD .any) (fun i => (lc13Ds[i]?).getD (1000 + i)) (look (lc13Env p l d)) 78 24 := fun _ => step_move (by kernel_rfl) (Opd.dep 23 rfl rfl (by kernel_rfl)) rfl
theorem lc13_25 {Q : Exit → Act → World → Prop} (p : Pay) (l : Fo) (d : Int) (hv : Tm.validB p l = true) : RStep lc13Ops Q (fun i => ((lc13Es p l d)[i]?).getD .any) (fun i => (lc13Ds[i]?).getD (1000 + i)) (look (lc13Env p l d)) 78 25 := fun _ => step_awake (by kernel_rfl) rfl
theorem lc13_26 {Q : Exit → Act → World → Prop} (p : Pay) (l : Fo) (d : Int) (hv : Tm.validB p l = true) : RStep lc13Ops Q (fun i => ((lc13Es p l d)[i]?).getD .any) (fun i => (lc13Ds[i]?).getD (1000 + i)) (look (lc13Env p l d)) 78 26 := fun _ => step_pick_yes (y := .const (.bool false)) (by kernel_rfl) (Opd.dep 24 rfl rfl (by kernel_rfl)) (Opd.dep 25 rfl rfl (by kernel_rfl)) rfl
theorem lc13_27 {Q : Exit → Act → World → Prop} (p : Pay) (l : Fo) (d : Int) (hv : Tm.validB p l = true) : RStep lc13Ops Q (fun i => ((lc13Es p l d)[i]?).getD .any) (fun i => (lc13Ds[i]?).getD (1000 + i)) (look (lc13Env p l d)) 78 27 := fun _ => step_assign (by kernel_rfl) (Opd.dep 26 rfl rfl (by kernel_rfl)) rfl
theorem lc13_region {Q : Exit → Act → World → Prop} (p : Pay) (l : Fo) (d : Int) (hv : Tm.validB p l = true) {w0 : World} {a : Act} {w : World} (h : Hold 78 [(2, .ptrT p l), (5, .ptrT (Tm.canonOf p l).1 (Tm.canonOf p l).2), (6, .ints (Tm.varsOf (Tm.canonOf p l).1 (Tm.canonOf p l).2))] w0 a w)
    (hQ : ∀ a' w', Hold 78 [(4, .val (.bool true))] w0 a' w' → Q .normal a' w') : (Code.region 13 lc13Ops true).wp Try.prog Q a w := by
  have hall : ∀ i, i < 0 → RStep lc13Ops Q (fun i => ((lc13Es p l d)[i]?).getD .any) (fun i => (lc13Ds[i]?).getD (1000 + i)) (look (lc13Env p l d)) 78 i := fun i hi => absurd hi (by omega)
  have hall := below_succ hall (lc13_0 p l d hv)
  have hall := below_succ hall (lc13_1 p l d hv)
  have hall := below_succ hall (lc13_2 p l d hv)
  have hall := below_succ hall (lc13_3 p l d hv)
  have hall := below_succ hall (lc13_4 p l d hv)
  have hall := below_succ hall (lc13_5 p l d hv)
  have hall := below_succ hall (lc13_6 p l d hv)
  have hall := below_succ hall (lc13_7 p l d hv)
  have hall := below_succ hall (lc13_8 p l d hv)
  have hall := below_succ hall (lc13_9 p l d hv)
  have hall := below_succ hall (lc13_10 p l d hv)
  have hall := below_succ hall (lc13_11 p l d hv)
  have hall := below_succ hall (lc13_12 p l d hv)
  have hall := below_succ hall (lc13_13 p l d hv)
  have hall := below_succ hall (lc13_14 p l d hv)
  have hall := below_succ hall (lc13_15 p l d hv)
  have hall := below_succ hall (lc13_16 p l d hv)
  have hall := below_succ hall (lc13_17 p l d hv)
  have hall := below_succ hall (lc13_18 p l d hv)
  have hall := below_succ hall (lc13_19 p l d hv)
  have hall := below_succ hall (lc13_20 p l d hv)
  have hall := below_succ hall (lc13_21 p l d hv)
  have hall := below_succ hall (lc13_22 p l d hv)
  have hall := below_succ hall (lc13_23 p l d hv)
  have hall := below_succ hall (lc13_24 p l d hv)
  have hall := below_succ hall (lc13_25 p l d hv)
  have hall := below_succ hall (lc13_26 p l d hv)
  have hall := below_succ hall (lc13_27 p l d hv)
  refine env_any (env := lc13Env p l d) (N := 78) (w0 := w0) lc13Ds (lc13Es p l d) (by kernel_rfl) (by kernel_rfl) (of_decide_eq_true (by kernel_rfl)) (fun i hi => hall i (by rw [show (lc13Es p l d).length = 28 by kernel_rfl] at hi; exact hi)) h fun a' w' h => ?_
  exact hQ a' w' (h.keep [4])
theorem law_canonical (p : Pay) (l : Fo) (A : Option Addr) (c : Nat) (d : Int) (W : World) (hA : ArgsB W W.heap.size A (Tm.len l) l) :
    Calls Try.prog 8 #[tv p A (Tm.len l) c, .int .i64 d] W fun e w' => e = .returned (.bool true) ∧ Below W.heap.size W w' := by
  refine calls_of_wp Try.func8 lc_body ?_
  obtain ⟨v0, hv0⟩ : ∃ v : Value, v = tv p A (Tm.len l) c := ⟨_, rfl⟩
  obtain ⟨v1, hv1⟩ : ∃ v : Value, v = .int .i64 d := ⟨_, rfl⟩
  rw [← hv0, ← hv1]
  have hk0 : (Kd.term p l).R v0 W := ⟨A, c, hv0, hA⟩
  have hk1 : (Kd.val (.int .i64 d)).R v1 W := hv1
  have hs : (#[v0, v1] ++ Array.replicate (Try.f8.ntmps - #[v0, v1].size) undef : Array Value).size = 78 := by kernel_rfl
  have g0 : (#[v0, v1] ++ Array.replicate (Try.f8.ntmps - #[v0, v1].size) undef : Array Value).getD 0 undef = v0 := by kernel_rfl
  have g1 : (#[v0, v1] ++ Array.replicate (Try.f8.ntmps - #[v0, v1].size) undef : Array Value).getD 1 undef = v1 := by kernel_rfl
  generalize (#[v0, v1] ++ Array.replicate (Try.f8.ntmps - #[v0, v1].size) undef : Array Value) = tm at hs g0 g1 ⊢
  refine wp_seq ?_
  refine lc0_region p l d (w0 := W) ⟨hs, rfl, Below.refl _ _, (slots_cons 0 (by rw [g0]; exact hk0) (slots_cons 1 (by rw [g1]; exact hk1) slots_nil))⟩ ?_
  intro a w h
  show Code.wp _ _ _ a w
  refine wp_seq ?_
  refine wp_seq ?_
  cases hv : Tm.validB p l with
  | false =>
    refine lc1f_region p l d hv h ?_
    intro a w h
    show Code.wp _ _ _ a w
    refine env_cond (b := true) rfl h ?_
    rw [if_pos rfl]
    refine wp_seq ?_
    refine lc2_region p l d h ?_
    intro a w h
    show Code.wp _ _ _ a w
    refine wp_ret ?_
    (try simp only [then_ret, block_ret])
    exact law_fin rfl (h.get 4 rfl) h.defers ⟨rfl, h.world⟩
  | true =>
    refine lc1t_region p l d hv h ?_
    intro a w h
    show Code.wp _ _ _ a w
    refine env_cond (b := false) rfl h ?_
    rw [if_neg (by decide)]
    refine wp_skip ?_
    show Code.wp _ _ _ a w
    refine wp_seq ?_
    refine lc3_region p l d hv (h.keep [1, 2]) ?_
    intro a w h
    show Code.wp _ _ _ a w
    refine wp_seq ?_
    refine lc4_region p l d hv h ?_
    intro a w h
    show Code.wp _ _ _ a w
    refine wp_seq ?_
    refine wp_seq ?_
    refine lc5_region p l d h ?_
    intro a w h
    show Code.wp _ _ _ a w
    have hlen : (Tm.varsOf (Tm.canonOf p l).1 (Tm.canonOf p l).2).length ≤ 2000 := by rw [Tm.canon_vars_len hv]; have := Tm.vars_len (Tm.valid_parts hv).2; have := (Tm.valid_parts hv).1; omega
    refine wp_block ?_
    refine wp_for (n := (Tm.varsOf (Tm.canonOf p l).1 (Tm.canonOf p l).2).length) (fun k a' w' => Hold 78 [(1, .val (.int .i64 d)), (2, .ptrT p l), (5, .ptrT (Tm.canonOf p l).1 (Tm.canonOf p l).2), (6, .ints (Tm.varsOf (Tm.canonOf p l).1 (Tm.canonOf p l).2)), (7, .val (.int .i64 ((k : Nat) : Int)))] W a' w') h (fun k a w hk h => ?_) (fun a w h => ?_)
    · refine wp_seq ?_
      refine wp_seq ?_
      refine lc6t_region p l d k (by simpa using hk) h ?_
      intro a w h
      show Code.wp _ _ _ a w
      refine env_cond (b := true) rfl h ?_
      rw [if_pos rfl]
      refine wp_skip ?_
      show Code.wp _ _ _ a w
      refine wp_seq ?_
      refine wp_block ?_
      refine wp_seq ?_
      obtain ⟨z, hz⟩ : ∃ z, (Tm.varsOf (Tm.canonOf p l).1 (Tm.canonOf p l).2)[k]? = some z := ⟨_, List.getElem?_eq_getElem hk⟩
      have hz' := Tm.canon_vars_at hv k z hz
      subst hz'
      refine lc8_region p l d k hz (h.keep [1, 2, 5, 6, 7]) ?_
      intro a w h
      show Code.wp _ _ _ a w
      refine env_cond (b := false) rfl h ?_
      rw [if_neg (by decide)]
      refine wp_skip ?_
      show Code.wp _ _ _ a w
      refine lc7_region p l d k (by omega) (h.keep [1, 2, 5, 6, 7]) ?_
      intro a w h
      exact h
    · refine wp_seq ?_
      refine wp_seq ?_
      refine lc6f_region p l d _ (by simp) h ?_
      intro a w h
      show Code.wp _ _ _ a w
      refine env_cond (b := false) rfl h ?_
      rw [if_neg (by decide)]
      refine wp_exit ?_
      show Code.wp _ _ _ a w
      have h := h.keep [1, 2, 5, 6]
      refine wp_seq ?_
      refine lc10_region p l d h ?_
      intro a w h
      show Code.wp _ _ _ a w
      refine wp_seq ?_
      refine wp_seq ?_
      by_cases he : (Tm.renameOf p l d).2 = 0
      · refine lc11t_region p l d hv he h ?_
        intro a w h
        show Code.wp _ _ _ a w
        refine env_cond (b := false) rfl h ?_
        rw [if_neg (by decide)]
        refine wp_skip ?_
        show Code.wp _ _ _ a w
        refine wp_seq ?_
        refine lc13_region p l d hv (h.keep [2, 5, 6]) ?_
        intro a w h
        show Code.wp _ _ _ a w
        refine wp_ret ?_
        (try simp only [then_ret, block_ret])
        exact law_fin rfl (h.get 4 rfl) h.defers ⟨rfl, h.world⟩
      · refine lc11f_region p l d he h ?_
        intro a w h
        show Code.wp _ _ _ a w
        refine env_cond (b := false) rfl h ?_
        rw [if_neg (by decide)]
        refine wp_skip ?_
        show Code.wp _ _ _ a w
        refine wp_seq ?_
        refine lc13_region p l d hv (h.keep [2, 5, 6]) ?_
        intro a w h
        show Code.wp _ _ _ a w
        refine wp_ret ?_
        (try simp only [then_ret, block_ret])
        exact law_fin rfl (h.get 4 rfl) h.defers ⟨rfl, h.world⟩
end Go.Proofs.Ytmljkhofahgelaa
