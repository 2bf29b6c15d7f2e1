/-
  The statement BallsLists, as its function.
-/
import Derived.Test.YtapcnehpechkpaaListM
import Derived.Test.YtapcnehpechkpaaErr1
import Derived.Test.YtapcnehpechkpaaIndM
namespace Go.Proofs.Ytapcnehpechkpaa
set_option linter.unusedVariables false
set_option linter.unusedSimpArgs false
set_option maxRecDepth 100000
open Go.RowKit
noncomputable def lLists0Ops : Array Oper := ((Try.f9.body).bind (findReg 0)).getD #[]
noncomputable def lLists1Ops : Array Oper := ((Try.f9.body).bind (findReg 1)).getD #[]
noncomputable def lLists2Ops : Array Oper := ((Try.f9.body).bind (findReg 2)).getD #[]
noncomputable def lLists3Ops : Array Oper := ((Try.f9.body).bind (findReg 3)).getD #[]
noncomputable def lLists4Ops : Array Oper := ((Try.f9.body).bind (findReg 4)).getD #[]
noncomputable def lLists5Ops : Array Oper := ((Try.f9.body).bind (findReg 5)).getD #[]
noncomputable def lLists6Ops : Array Oper := ((Try.f9.body).bind (findReg 6)).getD #[]
noncomputable def lLists7Ops : Array Oper := ((Try.f9.body).bind (findReg 7)).getD #[]
noncomputable def lLists8Ops : Array Oper := ((Try.f9.body).bind (findReg 8)).getD #[]
noncomputable def lLists9Ops : Array Oper := ((Try.f9.body).bind (findReg 9)).getD #[]
noncomputable def lLists10Ops : Array Oper := ((Try.f9.body).bind (findReg 10)).getD #[]
noncomputable def lLists11Ops : Array Oper := ((Try.f9.body).bind (findReg 11)).getD #[]
noncomputable def lLists12Ops : Array Oper := ((Try.f9.body).bind (findReg 12)).getD #[]
noncomputable def lLists13Ops : Array Oper := ((Try.f9.body).bind (findReg 13)).getD #[]
noncomputable def lLists14Ops : Array Oper := ((Try.f9.body).bind (findReg 14)).getD #[]
noncomputable def lLists15Ops : Array Oper := ((Try.f9.body).bind (findReg 15)).getD #[]
noncomputable def lLists16Ops : Array Oper := ((Try.f9.body).bind (findReg 16)).getD #[]
noncomputable def lLists17Ops : Array Oper := ((Try.f9.body).bind (findReg 17)).getD #[]
noncomputable def lLists18Ops : Array Oper := ((Try.f9.body).bind (findReg 18)).getD #[]
noncomputable def lLists19Ops : Array Oper := ((Try.f9.body).bind (findReg 19)).getD #[]
theorem lLists_body : Try.f9.body = some (.seq (.region 0 lLists0Ops false) (.seq (.region 1 lLists1Ops false) (.seq (.seq (.region 2 lLists2Ops false) (.cond (.tmp 24) (.seq (.region 3 lLists3Ops false) .ret) .skip)) (.seq (.region 4 lLists4Ops false) (.seq (.block 0 (.seq (.region 5 lLists5Ops false) (.cond (.tmp 32) (.seq (.region 6 lLists6Ops true) .ret) (.seq (.region 7 lLists7Ops true) (.cond (.tmp 52) (.seq (.region 8 lLists8Ops false) .ret) (.seq (.region 9 lLists9Ops false) (.cond (.tmp 70) (.seq (.region 10 lLists10Ops false) (.seq (.seq (.region 11 lLists11Ops false) (.cond (.tmp 93) (.seq (.region 12 lLists12Ops false) .ret) .skip)) (.seq (.seq (.region 13 lLists13Ops false) (.cond (.tmp 94) (.seq (.region 14 lLists14Ops false) .ret) .skip)) (.seq (.region 15 lLists15Ops true) .ret)))) .skip))))))) (.seq (.region 16 lLists16Ops false) (.seq (.seq (.region 17 lLists17Ops false) (.cond (.tmp 120) (.region 18 lLists18Ops false) .skip)) (.seq (.region 19 lLists19Ops true) .ret)))))))) := by kernel_rfl
theorem lLists0a_region {Q : Exit → Act → World → Prop} (F0 : Fo) (p1 : Pay) (l1 : Fo)  {w0 : World} {a : Act} {w : World} (h : Hold 141 [(0, .row F0), (1, .term p1 l1), (990, .sat (gP 0 none))] w0 a w)
    (hQ : ∀ a' w', Hold 141 [(0, .row F0), (990, .sat (gP 0 none)), (3, .ptrT p1 l1), (4, .val (.bool false))] w0 a' w' → Q .normal a' w') : (Code.region 0 lLists0Ops false).wp Try.prog Q a w := by
  refine region_seq (w0 := w) 2 (by kernel_rfl) ?_
  rw [show List.range 2 = [0, 1] from rfl]
  refine env_one (i := 0) (d := 3) (k := .ptrT p1 l1) (step_box (by kernel_rfl) (Opd.of_base 1 rfl) rfl) (by kernel_rfl) (by decide) h ?_
  clear h
  intro a w h
  refine env_one (i := 1) (d := 4) (k := .val (.bool false)) (step_assign (by kernel_rfl) (Opd.const _) rfl) (by kernel_rfl) (by decide) h ?_
  clear h
  intro a w h
  exact hQ a w (h.keep [0, 990, 3, 4])
theorem lLists1a_region {Q : Exit → Act → World → Prop} (F0 : Fo) (p1 : Pay) (l1 : Fo)  {w0 : World} {a : Act} {w : World} (h : Hold 141 [(0, .row F0), (990, .sat (gP 0 none)), (3, .ptrT p1 l1), (4, .val (.bool false))] w0 a w)
    (hQ : ∀ a' w', Hold 141 [(0, .row F0), (990, .sat (gP 0 none)), (3, .ptrT p1 l1), (4, .val (.bool false)), (5, .ptrT ((Bl.mkList F0 p1 l1).1) ((Bl.mkList F0 p1 l1).2))] w0 a' w' → Q .normal a' w') : (Code.region 1 lLists1Ops false).wp Try.prog Q a w := by
  refine region_seq (w0 := w) 5 (by kernel_rfl) ?_
  rw [show List.range 5 = [0, 1, 2, 3, 4] from rfl]
  refine env_one (i := 0) (d := 13) (k := .row F0) (step_move (by kernel_rfl) (Opd.of_base 0 rfl) rfl) (by kernel_rfl) (by decide) h ?_
  clear h
  intro a w h
  refine env_one (i := 1) (d := 14) (k := .term p1 l1) (step_load_term (by kernel_rfl) (Opd.of_base 3 rfl) rfl) (by kernel_rfl) (by decide) h ?_
  clear h
  intro a w h
  refine env_one (i := 2) (d := 15) (k := .sat (nT 0 none ((Bl.mkList F0 p1 l1).1) ((Bl.mkList F0 p1 l1).2))) (step_rList3 (g := 990) (by kernel_rfl) (Opd.of_base 13 rfl) (Opd.of_base 14 rfl) (Opd.of_base 990 rfl) rfl) (by kernel_rfl) (by decide) h ?_
  clear h
  intro a w h
  have h := h.cast 15 rfl
  refine env_box (i := 3) (d := 5) (by kernel_rfl) (by decide) (by kernel_rfl) (by decide) (s := 15) rfl h ?_
  clear h
  intro a w h
  exact hQ a w (h.keep [0, 990, 3, 4, 5])
theorem lLists2a_region {Q : Exit → Act → World → Prop} (F0 : Fo) (p1 : Pay) (l1 : Fo) (g0 : ((Tm.len F0 : Nat) : Int) = 0) {w0 : World} {a : Act} {w : World} (h : Hold 141 [(0, .row F0), (990, .sat (gP 0 none)), (3, .ptrT p1 l1), (4, .val (.bool false)), (5, .ptrT ((Bl.mkList F0 p1 l1).1) ((Bl.mkList F0 p1 l1).2))] w0 a w)
    (hQ : ∀ a' w', Hold 141 [(0, .row F0), (990, .sat (gP 0 none)), (3, .ptrT p1 l1), (4, .val (.bool false)), (5, .ptrT ((Bl.mkList F0 p1 l1).1) ((Bl.mkList F0 p1 l1).2)), (24, .val (.bool true))] w0 a' w' → Q .normal a' w') : (Code.region 2 lLists2Ops false).wp Try.prog Q a w := by
  refine region_seq (w0 := w) 9 (by kernel_rfl) ?_
  rw [show List.range 9 = [0, 1, 2, 3, 4, 5, 6, 7, 8] from rfl]
  refine env_one (i := 0) (d := 16) (k := .row F0) (step_move (by kernel_rfl) (Opd.of_base 0 rfl) rfl) (by kernel_rfl) (by decide) h ?_
  clear h
  intro a w h
  refine env_one (i := 1) (d := 17) (k := .val (.int .i64 ((Tm.len F0 : Nat) : Int))) (step_len_row (by kernel_rfl) (Opd.of_base 16 rfl) rfl) (by kernel_rfl) (by decide) h ?_
  clear h
  intro a w h
  refine env_one (i := 2) (d := 18) (k := .val (.bool true)) (step_eqb_int (m := ((Tm.len F0 : Nat) : Int)) (n := 0) (by kernel_rfl) (Opd.of_base 17 rfl) (Opd.const _) (by rw [g0]; rfl) rfl) (by kernel_rfl) (by decide) h ?_
  clear h
  intro a w h
  refine env_one (i := 3) (d := 19) (k := .val (.bool true)) (step_move (by kernel_rfl) (Opd.of_base 18 rfl) rfl) (by kernel_rfl) (by decide) h ?_
  clear h
  intro a w h
  refine env_skip (i := 4) (d := 20) (g := 3) (dg := 19) (b := false) (by kernel_rfl) (by decide) (by kernel_rfl) rfl rfl h ?_
  clear h
  intro a w h
  refine env_skip (i := 5) (d := 21) (g := 3) (dg := 19) (b := false) (by kernel_rfl) (by decide) (by kernel_rfl) rfl rfl h ?_
  clear h
  intro a w h
  refine env_skip (i := 6) (d := 22) (g := 3) (dg := 19) (b := false) (by kernel_rfl) (by decide) (by kernel_rfl) rfl rfl h ?_
  clear h
  intro a w h
  refine env_skip (i := 7) (d := 23) (g := 3) (dg := 19) (b := false) (by kernel_rfl) (by decide) (by kernel_rfl) rfl rfl h ?_
  clear h
  intro a w h
  refine env_one (i := 8) (d := 24) (k := .val (.bool true)) (step_pick_yes (y := .tmp 23) (by kernel_rfl) (Opd.of_base 19 rfl) (Opd.const _) rfl) (by kernel_rfl) (by decide) h ?_
  clear h
  intro a w h
  exact hQ a w (h.keep [0, 990, 3, 4, 5, 24])
theorem lLists3a_region {Q : Exit → Act → World → Prop} (F0 : Fo) (p1 : Pay) (l1 : Fo)  {w0 : World} {a : Act} {w : World} (h : Hold 141 [(0, .row F0), (990, .sat (gP 0 none)), (3, .ptrT p1 l1), (4, .val (.bool false)), (5, .ptrT ((Bl.mkList F0 p1 l1).1) ((Bl.mkList F0 p1 l1).2))] w0 a w)
    (hQ : ∀ a' w', Hold 141 [(0, .row F0), (990, .sat (gP 0 none)), (3, .ptrT p1 l1), (4, .val (.bool true)), (5, .ptrT ((Bl.mkList F0 p1 l1).1) ((Bl.mkList F0 p1 l1).2))] w0 a' w' → Q .normal a' w') : (Code.region 3 lLists3Ops false).wp Try.prog Q a w := by
  refine region_seq (w0 := w) 2 (by kernel_rfl) ?_
  rw [show List.range 2 = [0, 1] from rfl]
  refine env_one (i := 0) (d := 25) (k := .val (.bool true)) (step_awake (by kernel_rfl)  rfl) (by kernel_rfl) (by decide) h ?_
  clear h
  intro a w h
  refine env_one (i := 1) (d := 4) (k := .val (.bool true)) (step_assign (by kernel_rfl) (Opd.of_base 25 rfl) rfl) (by kernel_rfl) (by decide) h ?_
  clear h
  intro a w h
  exact hQ a w (h.keep [0, 990, 3, 4, 5])
theorem lLists2b_region {Q : Exit → Act → World → Prop} (F0 : Fo) (p1 : Pay) (l1 : Fo) (g0 : ¬ ((Tm.len F0 : Nat) : Int) = 0) (gt : ¬ ((Tm.len (Bl.mkList F0 p1 l1).2 : Nat) : Int) = 2) {w0 : World} {a : Act} {w : World} (h : Hold 141 [(0, .row F0), (990, .sat (gP 0 none)), (3, .ptrT p1 l1), (4, .val (.bool false)), (5, .ptrT ((Bl.mkList F0 p1 l1).1) ((Bl.mkList F0 p1 l1).2))] w0 a w)
    (hQ : ∀ a' w', Hold 141 [(0, .row F0), (990, .sat (gP 0 none)), (3, .ptrT p1 l1), (4, .val (.bool false)), (5, .ptrT ((Bl.mkList F0 p1 l1).1) ((Bl.mkList F0 p1 l1).2)), (24, .val (.bool true))] w0 a' w' → Q .normal a' w') : (Code.region 2 lLists2Ops false).wp Try.prog Q a w := by
  refine region_seq (w0 := w) 9 (by kernel_rfl) ?_
  rw [show List.range 9 = [0, 1, 2, 3, 4, 5, 6, 7, 8] from rfl]
  refine env_one (i := 0) (d := 16) (k := .row F0) (step_move (by kernel_rfl) (Opd.of_base 0 rfl) rfl) (by kernel_rfl) (by decide) h ?_
  clear h
  intro a w h
  refine env_one (i := 1) (d := 17) (k := .val (.int .i64 ((Tm.len F0 : Nat) : Int))) (step_len_row (by kernel_rfl) (Opd.of_base 16 rfl) rfl) (by kernel_rfl) (by decide) h ?_
  clear h
  intro a w h
  refine env_one (i := 2) (d := 18) (k := .val (.bool false)) (step_eqb_int (m := ((Tm.len F0 : Nat) : Int)) (n := 0) (by kernel_rfl) (Opd.of_base 17 rfl) (Opd.const _) (by simpa using g0) rfl) (by kernel_rfl) (by decide) h ?_
  clear h
  intro a w h
  refine env_one (i := 3) (d := 19) (k := .val (.bool false)) (step_move (by kernel_rfl) (Opd.of_base 18 rfl) rfl) (by kernel_rfl) (by decide) h ?_
  clear h
  intro a w h
  refine env_guard (i := 4) (d := 20) (g := 3) (dg := 19) (b := false) (k := .ptrR ((Bl.mkList F0 p1 l1).2)) (step_field3 (by kernel_rfl) (Opd.of_base 5 rfl) rfl) (by kernel_rfl) (by decide) (by kernel_rfl) (by decide) rfl h ?_
  clear h
  intro a w h
  refine env_guard (i := 5) (d := 21) (g := 3) (dg := 19) (b := false) (k := .row ((Bl.mkList F0 p1 l1).2)) (step_load_row (by kernel_rfl) (Opd.of_base 20 rfl) rfl) (by kernel_rfl) (by decide) (by kernel_rfl) (by decide) rfl h ?_
  clear h
  intro a w h
  refine env_guard (i := 6) (d := 22) (g := 3) (dg := 19) (b := false) (k := .val (.int .i64 ((Tm.len (Bl.mkList F0 p1 l1).2 : Nat) : Int))) (step_len_row (by kernel_rfl) (Opd.of_base 21 rfl) rfl) (by kernel_rfl) (by decide) (by kernel_rfl) (by decide) rfl h ?_
  clear h
  intro a w h
  refine env_guard (i := 7) (d := 23) (g := 3) (dg := 19) (b := false) (k := .val (.bool true)) (step_ne_int (m := ((Tm.len (Bl.mkList F0 p1 l1).2 : Nat) : Int)) (n := 2) (by kernel_rfl) (Opd.of_base 22 rfl) (Opd.const _) (by simpa using gt) rfl) (by kernel_rfl) (by decide) (by kernel_rfl) (by decide) rfl h ?_
  clear h
  intro a w h
  refine env_one (i := 8) (d := 24) (k := .val (.bool true)) (step_pick_no (x := .const (.bool true)) (by kernel_rfl) (Opd.of_base 19 rfl) (Opd.of_base 23 rfl) rfl) (by kernel_rfl) (by decide) h ?_
  clear h
  intro a w h
  exact hQ a w (h.keep [0, 990, 3, 4, 5, 24])
theorem lLists2c_region {Q : Exit → Act → World → Prop} (F0 : Fo) (p1 : Pay) (l1 : Fo) (g0 : ¬ ((Tm.len F0 : Nat) : Int) = 0) (gt : ((Tm.len (Bl.mkList F0 p1 l1).2 : Nat) : Int) = 2) {w0 : World} {a : Act} {w : World} (h : Hold 141 [(0, .row F0), (990, .sat (gP 0 none)), (3, .ptrT p1 l1), (4, .val (.bool false)), (5, .ptrT ((Bl.mkList F0 p1 l1).1) ((Bl.mkList F0 p1 l1).2))] w0 a w)
    (hQ : ∀ a' w', Hold 141 [(0, .row F0), (990, .sat (gP 0 none)), (3, .ptrT p1 l1), (4, .val (.bool false)), (5, .ptrT ((Bl.mkList F0 p1 l1).1) ((Bl.mkList F0 p1 l1).2)), (24, .val (.bool false))] w0 a' w' → Q .normal a' w') : (Code.region 2 lLists2Ops false).wp Try.prog Q a w := by
  refine region_seq (w0 := w) 9 (by kernel_rfl) ?_
  rw [show List.range 9 = [0, 1, 2, 3, 4, 5, 6, 7, 8] from rfl]
  refine env_one (i := 0) (d := 16) (k := .row F0) (step_move (by kernel_rfl) (Opd.of_base 0 rfl) rfl) (by kernel_rfl) (by decide) h ?_
  clear h
  intro a w h
  refine env_one (i := 1) (d := 17) (k := .val (.int .i64 ((Tm.len F0 : Nat) : Int))) (step_len_row (by kernel_rfl) (Opd.of_base 16 rfl) rfl) (by kernel_rfl) (by decide) h ?_
  clear h
  intro a w h
  refine env_one (i := 2) (d := 18) (k := .val (.bool false)) (step_eqb_int (m := ((Tm.len F0 : Nat) : Int)) (n := 0) (by kernel_rfl) (Opd.of_base 17 rfl) (Opd.const _) (by simpa using g0) rfl) (by kernel_rfl) (by decide) h ?_
  clear h
  intro a w h
  refine env_one (i := 3) (d := 19) (k := .val (.bool false)) (step_move (by kernel_rfl) (Opd.of_base 18 rfl) rfl) (by kernel_rfl) (by decide) h ?_
  clear h
  intro a w h
  refine env_guard (i := 4) (d := 20) (g := 3) (dg := 19) (b := false) (k := .ptrR ((Bl.mkList F0 p1 l1).2)) (step_field3 (by kernel_rfl) (Opd.of_base 5 rfl) rfl) (by kernel_rfl) (by decide) (by kernel_rfl) (by decide) rfl h ?_
  clear h
  intro a w h
  refine env_guard (i := 5) (d := 21) (g := 3) (dg := 19) (b := false) (k := .row ((Bl.mkList F0 p1 l1).2)) (step_load_row (by kernel_rfl) (Opd.of_base 20 rfl) rfl) (by kernel_rfl) (by decide) (by kernel_rfl) (by decide) rfl h ?_
  clear h
  intro a w h
  refine env_guard (i := 6) (d := 22) (g := 3) (dg := 19) (b := false) (k := .val (.int .i64 ((Tm.len (Bl.mkList F0 p1 l1).2 : Nat) : Int))) (step_len_row (by kernel_rfl) (Opd.of_base 21 rfl) rfl) (by kernel_rfl) (by decide) (by kernel_rfl) (by decide) rfl h ?_
  clear h
  intro a w h
  refine env_guard (i := 7) (d := 23) (g := 3) (dg := 19) (b := false) (k := .val (.bool false)) (step_ne_int (m := ((Tm.len (Bl.mkList F0 p1 l1).2 : Nat) : Int)) (n := 2) (by kernel_rfl) (Opd.of_base 22 rfl) (Opd.const _) (by rw [gt]; rfl) rfl) (by kernel_rfl) (by decide) (by kernel_rfl) (by decide) rfl h ?_
  clear h
  intro a w h
  refine env_one (i := 8) (d := 24) (k := .val (.bool false)) (step_pick_no (x := .const (.bool true)) (by kernel_rfl) (Opd.of_base 19 rfl) (Opd.of_base 23 rfl) rfl) (by kernel_rfl) (by decide) h ?_
  clear h
  intro a w h
  exact hQ a w (h.keep [0, 990, 3, 4, 5, 24])
theorem lLists4a_region {Q : Exit → Act → World → Prop} (F0 : Fo) (p1 : Pay) (l1 : Fo)  {w0 : World} {a : Act} {w : World} (h : Hold 141 [(0, .row F0), (990, .sat (gP 0 none)), (3, .ptrT p1 l1), (4, .val (.bool false)), (5, .ptrT ((Bl.consL F0 p1 l1).1) ((Bl.consL F0 p1 l1).2))] w0 a w)
    (hQ : ∀ a' w', Hold 141 [(0, .row F0), (990, .sat (gP 0 none)), (3, .ptrT p1 l1), (4, .val (.bool false)), (5, .ptrT ((Bl.consL F0 p1 l1).1) ((Bl.consL F0 p1 l1).2)), (7, .ptrT (((Bl.list ((Bl.consL F0 p1 l1).1) ((Bl.consL F0 p1 l1).2)).2.1).1) (((Bl.list ((Bl.consL F0 p1 l1).1) ((Bl.consL F0 p1 l1).2)).2.1).2)), (6, .sat (nR 0 none ((Bl.list ((Bl.consL F0 p1 l1).1) ((Bl.consL F0 p1 l1).2)).1))), (8, .val (.bool ((Bl.list ((Bl.consL F0 p1 l1).1) ((Bl.consL F0 p1 l1).2)).2.2)))] w0 a' w' → Q .normal a' w') : (Code.region 4 lLists4Ops false).wp Try.prog Q a w := by
  refine region_seq (w0 := w) 10 (by kernel_rfl) ?_
  rw [show List.range 10 = [0, 1, 2, 3, 4, 5, 6, 7, 8, 9] from rfl]
  refine env_one (i := 0) (d := 27) (k := .term ((Bl.consL F0 p1 l1).1) ((Bl.consL F0 p1 l1).2)) (step_load_term (by kernel_rfl) (Opd.of_base 5 rfl) rfl) (by kernel_rfl) (by decide) h ?_
  clear h
  intro a w h
  refine env_one (i := 1) (d := 28) (k := .sat (nL3 0 none ((Bl.list ((Bl.consL F0 p1 l1).1) ((Bl.consL F0 p1 l1).2)).1) (((Bl.list ((Bl.consL F0 p1 l1).1) ((Bl.consL F0 p1 l1).2)).2.1).1) (((Bl.list ((Bl.consL F0 p1 l1).1) ((Bl.consL F0 p1 l1).2)).2.1).2) ((Bl.list ((Bl.consL F0 p1 l1).1) ((Bl.consL F0 p1 l1).2)).2.2))) (step_bList (g := 990) (by kernel_rfl) (Opd.of_base 27 rfl) (Opd.of_base 990 rfl) rfl) (by kernel_rfl) (by decide) h ?_
  clear h
  intro a w h
  refine env_one (i := 2) (d := 26) (k := .sat (nL3 0 none ((Bl.list ((Bl.consL F0 p1 l1).1) ((Bl.consL F0 p1 l1).2)).1) (((Bl.list ((Bl.consL F0 p1 l1).1) ((Bl.consL F0 p1 l1).2)).2.1).1) (((Bl.list ((Bl.consL F0 p1 l1).1) ((Bl.consL F0 p1 l1).2)).2.1).2) ((Bl.list ((Bl.consL F0 p1 l1).1) ((Bl.consL F0 p1 l1).2)).2.2))) (step_move (by kernel_rfl) (Opd.of_base 28 rfl) rfl) (by kernel_rfl) (by decide) h ?_
  clear h
  intro a w h
  refine env_one (i := 3) (d := 29) (k := .sat (nR 0 none ((Bl.list ((Bl.consL F0 p1 l1).1) ((Bl.consL F0 p1 l1).2)).1))) (step_nL3_0 (by kernel_rfl) (Opd.of_base 26 rfl) rfl) (by kernel_rfl) (by decide) h ?_
  clear h
  intro a w h
  refine env_one (i := 4) (d := 30) (k := .sat (nT 0 none (((Bl.list ((Bl.consL F0 p1 l1).1) ((Bl.consL F0 p1 l1).2)).2.1).1) (((Bl.list ((Bl.consL F0 p1 l1).1) ((Bl.consL F0 p1 l1).2)).2.1).2))) (step_nL3_1 (by kernel_rfl) (Opd.of_base 26 rfl) rfl) (by kernel_rfl) (by decide) h ?_
  clear h
  intro a w h
  refine env_one (i := 5) (d := 31) (k := .val (.bool ((Bl.list ((Bl.consL F0 p1 l1).1) ((Bl.consL F0 p1 l1).2)).2.2))) (step_nL3_2 (by kernel_rfl) (Opd.of_base 26 rfl) rfl) (by kernel_rfl) (by decide) h ?_
  clear h
  intro a w h
  have h := h.cast 30 rfl
  refine env_box3 (i := 6) (d := 7) (e := 6) (by kernel_rfl) (by decide) (by kernel_rfl) (by decide) (x := 29) rfl (by decide) (by decide) (by kernel_rfl) (by decide) (by decide) (s := 30) rfl h ?_
  clear h
  intro a w h
  refine env_one (i := 9) (d := 8) (k := .val (.bool ((Bl.list ((Bl.consL F0 p1 l1).1) ((Bl.consL F0 p1 l1).2)).2.2))) (step_assign (by kernel_rfl) (Opd.of_base 31 rfl) rfl) (by kernel_rfl) (by decide) h ?_
  clear h
  intro a w h
  exact hQ a w (h.keep [0, 990, 3, 4, 5, 7, 6, 8])
theorem lLists5a_region {Q : Exit → Act → World → Prop} (F0 : Fo) (p1 : Pay) (l1 : Fo) (g1 : p1.1 = 0) {w0 : World} {a : Act} {w : World} (h : Hold 141 [(0, .row F0), (990, .sat (gP 0 none)), (3, .ptrT p1 l1), (4, .val (.bool false)), (5, .ptrT ((Bl.consL F0 p1 l1).1) ((Bl.consL F0 p1 l1).2)), (7, .ptrT Bl.inst.1 Bl.inst.2), (6, .sat (nR 0 none .nil)), (8, .val (.bool false))] w0 a w)
    (hQ : ∀ a' w', Hold 141 [(0, .row F0), (990, .sat (gP 0 none)), (3, .ptrT p1 l1), (4, .val (.bool false)), (5, .ptrT ((Bl.consL F0 p1 l1).1) ((Bl.consL F0 p1 l1).2)), (7, .ptrT Bl.inst.1 Bl.inst.2), (6, .sat (nR 0 none .nil)), (8, .val (.bool false)), (32, .val (.bool true))] w0 a' w' → Q .normal a' w') : (Code.region 5 lLists5Ops false).wp Try.prog Q a w := by
  refine region_seq (w0 := w) 4 (by kernel_rfl) ?_
  rw [show List.range 4 = [0, 1, 2, 3] from rfl]
  refine env_one (i := 0) (d := 33) (k := .ptrI (p1.1)) (step_field0 (by kernel_rfl) (Opd.of_base 3 rfl) rfl) (by kernel_rfl) (by decide) h ?_
  clear h
  intro a w h
  refine env_one (i := 1) (d := 34) (k := .val (.int .i64 (p1.1))) (step_load_int3 (by kernel_rfl) (Opd.of_base 33 rfl) rfl) (by kernel_rfl) (by decide) h ?_
  clear h
  intro a w h
  refine env_one (i := 2) (d := 35) (k := .val (.bool true)) (step_eqb_int (m := (p1.1)) (n := 0) (by kernel_rfl) (Opd.of_base 34 rfl) (Opd.const _) (by rw [g1]; rfl) rfl) (by kernel_rfl) (by decide) h ?_
  clear h
  intro a w h
  refine env_one (i := 3) (d := 32) (k := .val (.bool true)) (step_assign (by kernel_rfl) (Opd.of_base 35 rfl) rfl) (by kernel_rfl) (by decide) h ?_
  clear h
  intro a w h
  exact hQ a w (h.keep [0, 990, 3, 4, 5, 7, 6, 8, 32])
def lLists6aEs (F0 : Fo) (p1 : Pay) (l1 : Fo) : List Kd := [
  .val (.bool false),
  .val (.bool true),
  .val (.bool true),
  .sat (nR 0 none .nil),
  .val (.int .i64 ((Tm.len .nil : Nat) : Int)),
  .val (.bool true),
  .val (.bool true),
  .val (.bool true),
  .term Bl.inst.1 Bl.inst.2,
  .sat (nT 0 none (2, 0, (⟨#[105, 110, 115, 116, 97, 110, 116, 105, 97, 116, 105, 111, 110, 95, 101, 114, 114, 111, 114]⟩)) .nil),
  .sat (nT 0 none (3, 0, Tm.errName) (.node (2, 0, (⟨#[105, 110, 115, 116, 97, 110, 116, 105, 97, 116, 105, 111, 110, 95, 101, 114, 114, 111, 114]⟩)) .nil (.node Tm.emptyA .nil .nil))),
  .val (.bool true),
  .val (.bool true),
  .val (.bool true),
  .val (.bool true),
  .val (.bool true),
  .val (.bool true)]
def lLists6aDs : List Nat := [36, 37, 38, 39, 40, 41, 42, 43, 44, 45, 46, 47, 48, 49, 50, 51, 4]
def lLists6aEnv (F0 : Fo) (p1 : Pay) (l1 : Fo) : Env := [(990, .sat (gP 0 none)), (5, .ptrT ((Bl.consL F0 p1 l1).1) ((Bl.consL F0 p1 l1).2)), (7, .ptrT Bl.inst.1 Bl.inst.2), (6, .sat (nR 0 none .nil)), (8, .val (.bool false))]
theorem lLists6a_0 {Q : Exit → Act → World → Prop} (F0 : Fo) (p1 : Pay) (l1 : Fo)  : RStep (strip lLists6Ops) Q (fun i => ((lLists6aEs F0 p1 l1)[i]?).getD .any) (fun i => (lLists6aDs[i]?).getD (1000 + i)) (look (lLists6aEnv F0 p1 l1)) 141 0 := fun _ => step_move (by kernel_rfl) (Opd.of_base 8 rfl) rfl
theorem lLists6a_1 {Q : Exit → Act → World → Prop} (F0 : Fo) (p1 : Pay) (l1 : Fo)  : RStep (strip lLists6Ops) Q (fun i => ((lLists6aEs F0 p1 l1)[i]?).getD .any) (fun i => (lLists6aDs[i]?).getD (1000 + i)) (look (lLists6aEnv F0 p1 l1)) 141 1 := fun _ => step_not (by kernel_rfl) (Opd.dep 0 rfl rfl (by kernel_rfl)) rfl
theorem lLists6a_2 {Q : Exit → Act → World → Prop} (F0 : Fo) (p1 : Pay) (l1 : Fo)  : RStep (strip lLists6Ops) Q (fun i => ((lLists6aEs F0 p1 l1)[i]?).getD .any) (fun i => (lLists6aDs[i]?).getD (1000 + i)) (look (lLists6aEnv F0 p1 l1)) 141 2 := fun _ => step_move (by kernel_rfl) (Opd.dep 1 rfl rfl (by kernel_rfl)) rfl
theorem lLists6a_3 {Q : Exit → Act → World → Prop} (F0 : Fo) (p1 : Pay) (l1 : Fo)  : RStep (strip lLists6Ops) Q (fun i => ((lLists6aEs F0 p1 l1)[i]?).getD .any) (fun i => (lLists6aDs[i]?).getD (1000 + i)) (look (lLists6aEnv F0 p1 l1)) 141 3 := fun _ => step_move (by kernel_rfl) (Opd.of_base 6 rfl) rfl
theorem lLists6a_4 {Q : Exit → Act → World → Prop} (F0 : Fo) (p1 : Pay) (l1 : Fo)  : RStep (strip lLists6Ops) Q (fun i => ((lLists6aEs F0 p1 l1)[i]?).getD .any) (fun i => (lLists6aDs[i]?).getD (1000 + i)) (look (lLists6aEnv F0 p1 l1)) 141 4 := fun _ => step_len_row (by kernel_rfl) (Opd.ofR (Opd.dep 3 rfl rfl (by kernel_rfl))) rfl
theorem lLists6a_5 {Q : Exit → Act → World → Prop} (F0 : Fo) (p1 : Pay) (l1 : Fo)  : RStep (strip lLists6Ops) Q (fun i => ((lLists6aEs F0 p1 l1)[i]?).getD .any) (fun i => (lLists6aDs[i]?).getD (1000 + i)) (look (lLists6aEnv F0 p1 l1)) 141 5 := fun _ => step_eqb_int (m := ((Tm.len .nil : Nat) : Int)) (n := 0) (by kernel_rfl) (Opd.dep 4 rfl rfl (by kernel_rfl)) (Opd.const _) rfl rfl
theorem lLists6a_6 {Q : Exit → Act → World → Prop} (F0 : Fo) (p1 : Pay) (l1 : Fo)  : RStep (strip lLists6Ops) Q (fun i => ((lLists6aEs F0 p1 l1)[i]?).getD .any) (fun i => (lLists6aDs[i]?).getD (1000 + i)) (look (lLists6aEnv F0 p1 l1)) 141 6 := fun _ => step_pick_yes (y := .const (.bool false)) (by kernel_rfl) (Opd.dep 2 rfl rfl (by kernel_rfl)) (Opd.dep 5 rfl rfl (by kernel_rfl)) rfl
theorem lLists6a_7 {Q : Exit → Act → World → Prop} (F0 : Fo) (p1 : Pay) (l1 : Fo)  : RStep (strip lLists6Ops) Q (fun i => ((lLists6aEs F0 p1 l1)[i]?).getD .any) (fun i => (lLists6aDs[i]?).getD (1000 + i)) (look (lLists6aEnv F0 p1 l1)) 141 7 := fun _ => step_move (by kernel_rfl) (Opd.dep 6 rfl rfl (by kernel_rfl)) rfl
theorem lLists6a_8 {Q : Exit → Act → World → Prop} (F0 : Fo) (p1 : Pay) (l1 : Fo)  : RStep (strip lLists6Ops) Q (fun i => ((lLists6aEs F0 p1 l1)[i]?).getD .any) (fun i => (lLists6aDs[i]?).getD (1000 + i)) (look (lLists6aEnv F0 p1 l1)) 141 8 := fun _ => step_load_term (by kernel_rfl) (Opd.of_base 7 rfl) rfl
theorem lLists6a_9 {Q : Exit → Act → World → Prop} (F0 : Fo) (p1 : Pay) (l1 : Fo)  : RStep (strip lLists6Ops) Q (fun i => ((lLists6aEs F0 p1 l1)[i]?).getD .any) (fun i => (lLists6aDs[i]?).getD (1000 + i)) (look (lLists6aEnv F0 p1 l1)) 141 9 := fun _ => step_la (g := 990) (by kernel_rfl) (Opd.const _) (Opd.of_base 990 rfl) rfl
theorem lLists6a_10 {Q : Exit → Act → World → Prop} (F0 : Fo) (p1 : Pay) (l1 : Fo)  : RStep (strip lLists6Ops) Q (fun i => ((lLists6aEs F0 p1 l1)[i]?).getD .any) (fun i => (lLists6aDs[i]?).getD (1000 + i)) (look (lLists6aEnv F0 p1 l1)) 141 10 := fun _ => step_lerrN (g := 990) (by kernel_rfl) (Opd.dep 9 rfl rfl (by kernel_rfl)) (Opd.of_base 990 rfl) rfl
theorem lLists6a_11 {Q : Exit → Act → World → Prop} (F0 : Fo) (p1 : Pay) (l1 : Fo)  : RStep (strip lLists6Ops) Q (fun i => ((lLists6aEs F0 p1 l1)[i]?).getD .any) (fun i => (lLists6aDs[i]?).getD (1000 + i)) (look (lLists6aEnv F0 p1 l1)) 141 11 := fun _ => step_lsame (by kernel_rfl) (Opd.dep 8 rfl rfl (by kernel_rfl)) (Opd.ofT (Opd.dep 10 rfl rfl (by kernel_rfl))) (congrArg (fun b => Kd.val (.bool b)) (Eq.symm (Bl.same_of Bl.inst_is Bl.inst_valid)))
theorem lLists6a_12 {Q : Exit → Act → World → Prop} (F0 : Fo) (p1 : Pay) (l1 : Fo)  : RStep (strip lLists6Ops) Q (fun i => ((lLists6aEs F0 p1 l1)[i]?).getD .any) (fun i => (lLists6aDs[i]?).getD (1000 + i)) (look (lLists6aEnv F0 p1 l1)) 141 12 := fun _ => step_pick_yes (y := .const (.bool false)) (by kernel_rfl) (Opd.dep 7 rfl rfl (by kernel_rfl)) (Opd.dep 11 rfl rfl (by kernel_rfl)) rfl
theorem lLists6a_13 {Q : Exit → Act → World → Prop} (F0 : Fo) (p1 : Pay) (l1 : Fo)  : RStep (strip lLists6Ops) Q (fun i => ((lLists6aEs F0 p1 l1)[i]?).getD .any) (fun i => (lLists6aDs[i]?).getD (1000 + i)) (look (lLists6aEnv F0 p1 l1)) 141 13 := fun _ => step_move (by kernel_rfl) (Opd.dep 12 rfl rfl (by kernel_rfl)) rfl
theorem lLists6a_14 {Q : Exit → Act → World → Prop} (F0 : Fo) (p1 : Pay) (l1 : Fo)  : RStep (strip lLists6Ops) Q (fun i => ((lLists6aEs F0 p1 l1)[i]?).getD .any) (fun i => (lLists6aDs[i]?).getD (1000 + i)) (look (lLists6aEnv F0 p1 l1)) 141 14 := fun _ => step_awake (by kernel_rfl)  rfl
theorem lLists6a_15 {Q : Exit → Act → World → Prop} (F0 : Fo) (p1 : Pay) (l1 : Fo)  : RStep (strip lLists6Ops) Q (fun i => ((lLists6aEs F0 p1 l1)[i]?).getD .any) (fun i => (lLists6aDs[i]?).getD (1000 + i)) (look (lLists6aEnv F0 p1 l1)) 141 15 := fun _ => step_pick_yes (y := .const (.bool false)) (by kernel_rfl) (Opd.dep 13 rfl rfl (by kernel_rfl)) (Opd.dep 14 rfl rfl (by kernel_rfl)) rfl
theorem lLists6a_16 {Q : Exit → Act → World → Prop} (F0 : Fo) (p1 : Pay) (l1 : Fo)  : RStep (strip lLists6Ops) Q (fun i => ((lLists6aEs F0 p1 l1)[i]?).getD .any) (fun i => (lLists6aDs[i]?).getD (1000 + i)) (look (lLists6aEnv F0 p1 l1)) 141 16 := fun _ => step_assign (by kernel_rfl) (Opd.dep 15 rfl rfl (by kernel_rfl)) rfl
theorem lLists6a_region {Q : Exit → Act → World → Prop} (F0 : Fo) (p1 : Pay) (l1 : Fo)  {w0 : World} {a : Act} {w : World} (h : Hold 141 [(990, .sat (gP 0 none)), (5, .ptrT ((Bl.consL F0 p1 l1).1) ((Bl.consL F0 p1 l1).2)), (7, .ptrT Bl.inst.1 Bl.inst.2), (6, .sat (nR 0 none .nil)), (8, .val (.bool false))] w0 a w)
    (hQ : ∀ a' w', Hold 141 [(990, .sat (gP 0 none)), (5, .ptrT ((Bl.consL F0 p1 l1).1) ((Bl.consL F0 p1 l1).2)), (7, .ptrT Bl.inst.1 Bl.inst.2), (6, .sat (nR 0 none .nil)), (8, .val (.bool false)), (4, .val (.bool true))] w0 a' w' → Q .normal a' w') : (Code.region 6 lLists6Ops true).wp Try.prog Q a w := by
  have hall : ∀ i, i < 0 → RStep (strip lLists6Ops) Q (fun i => ((lLists6aEs F0 p1 l1)[i]?).getD .any) (fun i => (lLists6aDs[i]?).getD (1000 + i)) (look (lLists6aEnv F0 p1 l1)) 141 i := fun i hi => absurd hi (by omega)
  have hall := below_succ hall (lLists6a_0 F0 p1 l1 )
  have hall := below_succ hall (lLists6a_1 F0 p1 l1 )
  have hall := below_succ hall (lLists6a_2 F0 p1 l1 )
  have hall := below_succ hall (lLists6a_3 F0 p1 l1 )
  have hall := below_succ hall (lLists6a_4 F0 p1 l1 )
  have hall := below_succ hall (lLists6a_5 F0 p1 l1 )
  have hall := below_succ hall (lLists6a_6 F0 p1 l1 )
  have hall := below_succ hall (lLists6a_7 F0 p1 l1 )
  have hall := below_succ hall (lLists6a_8 F0 p1 l1 )
  have hall := below_succ hall (lLists6a_9 F0 p1 l1 )
  have hall := below_succ hall (lLists6a_10 F0 p1 l1 )
  have hall := below_succ hall (lLists6a_11 F0 p1 l1 )
  have hall := below_succ hall (lLists6a_12 F0 p1 l1 )
  have hall := below_succ hall (lLists6a_13 F0 p1 l1 )
  have hall := below_succ hall (lLists6a_14 F0 p1 l1 )
  have hall := below_succ hall (lLists6a_15 F0 p1 l1 )
  have hall := below_succ hall (lLists6a_16 F0 p1 l1 )
  refine env_then (m := 17) (n := 17) lLists6aDs (lLists6aEs F0 p1 l1) rfl (by kernel_rfl) (by decide) (by kernel_rfl) (of_decide_eq_true (by kernel_rfl)) (by kernel_rfl) (by kernel_rfl) (fun i_ hi_ => hall i_ hi_) h fun a w h => ?_
  clear hall
  have h := h.keep [990, 5, 7, 6, 8, 36, 37, 38, 39, 40, 41, 42, 43, 44, 45, 46, 47, 48, 49, 50, 51, 4]
  show wpOps Try.prog _ Q [] a w
  exact hQ a w (h.keep [990, 5, 7, 6, 8, 4])
theorem lLists5b_region {Q : Exit → Act → World → Prop} (F0 : Fo) (p1 : Pay) (l1 : Fo) (g1 : ¬ p1.1 = 0) {w0 : World} {a : Act} {w : World} (h : Hold 141 [(0, .row F0), (990, .sat (gP 0 none)), (3, .ptrT p1 l1), (4, .val (.bool false)), (5, .ptrT ((Bl.consL F0 p1 l1).1) ((Bl.consL F0 p1 l1).2)), (7, .ptrT (((Bl.list ((Bl.consL F0 p1 l1).1) ((Bl.consL F0 p1 l1).2)).2.1).1) (((Bl.list ((Bl.consL F0 p1 l1).1) ((Bl.consL F0 p1 l1).2)).2.1).2)), (6, .sat (nR 0 none ((Bl.list ((Bl.consL F0 p1 l1).1) ((Bl.consL F0 p1 l1).2)).1))), (8, .val (.bool ((Bl.list ((Bl.consL F0 p1 l1).1) ((Bl.consL F0 p1 l1).2)).2.2)))] w0 a w)
    (hQ : ∀ a' w', Hold 141 [(0, .row F0), (990, .sat (gP 0 none)), (3, .ptrT p1 l1), (4, .val (.bool false)), (5, .ptrT ((Bl.consL F0 p1 l1).1) ((Bl.consL F0 p1 l1).2)), (7, .ptrT (((Bl.list ((Bl.consL F0 p1 l1).1) ((Bl.consL F0 p1 l1).2)).2.1).1) (((Bl.list ((Bl.consL F0 p1 l1).1) ((Bl.consL F0 p1 l1).2)).2.1).2)), (6, .sat (nR 0 none ((Bl.list ((Bl.consL F0 p1 l1).1) ((Bl.consL F0 p1 l1).2)).1))), (8, .val (.bool ((Bl.list ((Bl.consL F0 p1 l1).1) ((Bl.consL F0 p1 l1).2)).2.2))), (32, .val (.bool false))] w0 a' w' → Q .normal a' w') : (Code.region 5 lLists5Ops false).wp Try.prog Q a w := by
  refine region_seq (w0 := w) 4 (by kernel_rfl) ?_
  rw [show List.range 4 = [0, 1, 2, 3] from rfl]
  refine env_one (i := 0) (d := 33) (k := .ptrI (p1.1)) (step_field0 (by kernel_rfl) (Opd.of_base 3 rfl) rfl) (by kernel_rfl) (by decide) h ?_
  clear h
  intro a w h
  refine env_one (i := 1) (d := 34) (k := .val (.int .i64 (p1.1))) (step_load_int3 (by kernel_rfl) (Opd.of_base 33 rfl) rfl) (by kernel_rfl) (by decide) h ?_
  clear h
  intro a w h
  refine env_one (i := 2) (d := 35) (k := .val (.bool false)) (step_eqb_int (m := (p1.1)) (n := 0) (by kernel_rfl) (Opd.of_base 34 rfl) (Opd.const _) (by simpa using g1) rfl) (by kernel_rfl) (by decide) h ?_
  clear h
  intro a w h
  refine env_one (i := 3) (d := 32) (k := .val (.bool false)) (step_assign (by kernel_rfl) (Opd.of_base 35 rfl) rfl) (by kernel_rfl) (by decide) h ?_
  clear h
  intro a w h
  exact hQ a w (h.keep [0, 990, 3, 4, 5, 7, 6, 8, 32])
def lLists7aEs (F0 : Fo) (p1 : Pay) (l1 : Fo) : List Kd := [
  .term p1 l1,
  .sat (nT 0 none (2, 0, (⟨#[91, 93]⟩)) .nil),
  .val (.bool true),
  .val (.bool true)]
def lLists7aDs : List Nat := [53, 54, 55, 52]
def lLists7aEnv (F0 : Fo) (p1 : Pay) (l1 : Fo) : Env := [(0, .row F0), (990, .sat (gP 0 none)), (3, .ptrT p1 l1), (4, .val (.bool false)), (5, .ptrT ((Bl.consL F0 p1 l1).1) ((Bl.consL F0 p1 l1).2)), (7, .ptrT zp .nil), (6, .sat (nR 0 none F0)), (8, .val (.bool true))]
theorem lLists7a_0 {Q : Exit → Act → World → Prop} (F0 : Fo) (p1 : Pay) (l1 : Fo) (g2 : p1 = Tm.emptyA ∧ l1 = .nil) : RStep (strip lLists7Ops) Q (fun i => ((lLists7aEs F0 p1 l1)[i]?).getD .any) (fun i => (lLists7aDs[i]?).getD (1000 + i)) (look (lLists7aEnv F0 p1 l1)) 141 0 := fun _ => step_load_term (by kernel_rfl) (Opd.of_base 3 rfl) rfl
theorem lLists7a_1 {Q : Exit → Act → World → Prop} (F0 : Fo) (p1 : Pay) (l1 : Fo) (g2 : p1 = Tm.emptyA ∧ l1 = .nil) : RStep (strip lLists7Ops) Q (fun i => ((lLists7aEs F0 p1 l1)[i]?).getD .any) (fun i => (lLists7aDs[i]?).getD (1000 + i)) (look (lLists7aEnv F0 p1 l1)) 141 1 := fun _ => step_la (g := 990) (by kernel_rfl) (Opd.const _) (Opd.of_base 990 rfl) rfl
theorem lLists7a_2 {Q : Exit → Act → World → Prop} (F0 : Fo) (p1 : Pay) (l1 : Fo) (g2 : p1 = Tm.emptyA ∧ l1 = .nil) : RStep (strip lLists7Ops) Q (fun i => ((lLists7aEs F0 p1 l1)[i]?).getD .any) (fun i => (lLists7aDs[i]?).getD (1000 + i)) (look (lLists7aEnv F0 p1 l1)) 141 2 := fun _ => step_lsame (by kernel_rfl) (Opd.dep 0 rfl rfl (by kernel_rfl)) (Opd.ofT (Opd.dep 1 rfl rfl (by kernel_rfl))) (congrArg (fun b => Kd.val (.bool b)) (Eq.symm (show (Tm.validB p1 l1 && Tm.sameT p1 l1 (2, 0, ⟨#[91, 93]⟩) .nil) = true by rw [g2.1, g2.2]; kernel_rfl)))
theorem lLists7a_3 {Q : Exit → Act → World → Prop} (F0 : Fo) (p1 : Pay) (l1 : Fo) (g2 : p1 = Tm.emptyA ∧ l1 = .nil) : RStep (strip lLists7Ops) Q (fun i => ((lLists7aEs F0 p1 l1)[i]?).getD .any) (fun i => (lLists7aDs[i]?).getD (1000 + i)) (look (lLists7aEnv F0 p1 l1)) 141 3 := fun _ => step_assign (by kernel_rfl) (Opd.dep 2 rfl rfl (by kernel_rfl)) rfl
theorem lLists7a_region {Q : Exit → Act → World → Prop} (F0 : Fo) (p1 : Pay) (l1 : Fo) (g2 : p1 = Tm.emptyA ∧ l1 = .nil) {w0 : World} {a : Act} {w : World} (h : Hold 141 [(0, .row F0), (990, .sat (gP 0 none)), (3, .ptrT p1 l1), (4, .val (.bool false)), (5, .ptrT ((Bl.consL F0 p1 l1).1) ((Bl.consL F0 p1 l1).2)), (7, .ptrT zp .nil), (6, .sat (nR 0 none F0)), (8, .val (.bool true))] w0 a w)
    (hQ : ∀ a' w', Hold 141 [(0, .row F0), (990, .sat (gP 0 none)), (3, .ptrT p1 l1), (4, .val (.bool false)), (5, .ptrT ((Bl.consL F0 p1 l1).1) ((Bl.consL F0 p1 l1).2)), (7, .ptrT zp .nil), (6, .sat (nR 0 none F0)), (8, .val (.bool true)), (52, .val (.bool true))] w0 a' w' → Q .normal a' w') : (Code.region 7 lLists7Ops true).wp Try.prog Q a w := by
  have hall : ∀ i, i < 0 → RStep (strip lLists7Ops) Q (fun i => ((lLists7aEs F0 p1 l1)[i]?).getD .any) (fun i => (lLists7aDs[i]?).getD (1000 + i)) (look (lLists7aEnv F0 p1 l1)) 141 i := fun i hi => absurd hi (by omega)
  have hall := below_succ hall (lLists7a_0 F0 p1 l1 g2)
  have hall := below_succ hall (lLists7a_1 F0 p1 l1 g2)
  have hall := below_succ hall (lLists7a_2 F0 p1 l1 g2)
  have hall := below_succ hall (lLists7a_3 F0 p1 l1 g2)
  refine env_then (m := 4) (n := 4) lLists7aDs (lLists7aEs F0 p1 l1) rfl (by kernel_rfl) (by decide) (by kernel_rfl) (of_decide_eq_true (by kernel_rfl)) (by kernel_rfl) (by kernel_rfl) (fun i_ hi_ => hall i_ hi_) h fun a w h => ?_
  clear hall
  have h := h.keep [0, 990, 3, 4, 5, 7, 6, 8, 53, 54, 55, 52]
  show wpOps Try.prog _ Q [] a w
  exact hQ a w (h.keep [0, 990, 3, 4, 5, 7, 6, 8, 52])
theorem lLists8a_region {Q : Exit → Act → World → Prop} (F0 : Fo) (p1 : Pay) (l1 : Fo) (hv : Tm.validB (Bl.consL F0 p1 l1).1 (Bl.consL F0 p1 l1).2 = true) (hlen : Tm.len F0 ≤ 2000) {w0 : World} {a : Act} {w : World} (h : Hold 141 [(0, .row F0), (990, .sat (gP 0 none)), (4, .val (.bool false)), (5, .ptrT ((Bl.consL F0 p1 l1).1) ((Bl.consL F0 p1 l1).2)), (7, .ptrT zp .nil), (6, .sat (nR 0 none F0)), (8, .val (.bool true))] w0 a w)
    (hQ : ∀ a' w', Hold 141 [(990, .sat (gP 0 none)), (4, .val (.bool true)), (5, .ptrT ((Bl.consL F0 p1 l1).1) ((Bl.consL F0 p1 l1).2)), (7, .ptrT zp .nil), (6, .sat (nR 0 none F0)), (8, .val (.bool true))] w0 a' w' → Q .normal a' w') : (Code.region 8 lLists8Ops false).wp Try.prog Q a w := by
  refine region_seq (w0 := w) 15 (by kernel_rfl) ?_
  rw [show List.range 15 = [0, 1, 2, 3, 4, 5, 6, 7, 8, 9, 10, 11, 12, 13, 14] from rfl]
  refine env_one (i := 0) (d := 56) (k := .val (.bool true)) (step_move (by kernel_rfl) (Opd.of_base 8 rfl) rfl) (by kernel_rfl) (by decide) h ?_
  clear h
  intro a w h
  refine env_one (i := 1) (d := 57) (k := .val (.bool true)) (step_move (by kernel_rfl) (Opd.of_base 56 rfl) rfl) (by kernel_rfl) (by decide) h ?_
  clear h
  intro a w h
  refine env_guard (i := 2) (d := 58) (g := 1) (dg := 57) (b := true) (k := .sat (nR 0 none F0)) (step_move (by kernel_rfl) (Opd.of_base 6 rfl) rfl) (by kernel_rfl) (by decide) (by kernel_rfl) (by decide) rfl h ?_
  clear h
  intro a w h
  refine env_guard (i := 3) (d := 59) (g := 1) (dg := 57) (b := true) (k := .row F0) (step_move (by kernel_rfl) (Opd.of_base 0 rfl) rfl) (by kernel_rfl) (by decide) (by kernel_rfl) (by decide) rfl h ?_
  clear h
  intro a w h
  refine env_guard (i := 4) (d := 60) (g := 1) (dg := 57) (b := true) (k := .val (.bool true)) (step_sameAll6 (by omega) (by kernel_rfl) (Opd.ofR (Opd.of_base 58 rfl)) (Opd.of_base 59 rfl) (congrArg (fun b => Kd.val (.bool b)) (Eq.symm (Tm.sameRows_refl (Bl.consL_valid F0 p1 l1 hv).2)))) (by kernel_rfl) (by decide) (by kernel_rfl) (by decide) rfl h ?_
  clear h
  intro a w h
  refine env_one (i := 5) (d := 61) (k := .val (.bool true)) (step_pick_yes (y := .const (.bool false)) (by kernel_rfl) (Opd.of_base 57 rfl) (Opd.of_base 60 rfl) rfl) (by kernel_rfl) (by decide) h ?_
  clear h
  intro a w h
  refine env_one (i := 6) (d := 62) (k := .val (.bool true)) (step_move (by kernel_rfl) (Opd.of_base 61 rfl) rfl) (by kernel_rfl) (by decide) h ?_
  clear h
  intro a w h
  refine env_guard (i := 7) (d := 63) (g := 6) (dg := 62) (b := true) (k := .term zp .nil) (step_load_term (by kernel_rfl) (Opd.of_base 7 rfl) rfl) (by kernel_rfl) (by decide) (by kernel_rfl) (by decide) rfl h ?_
  clear h
  intro a w h
  refine env_guard (i := 8) (d := 64) (g := 6) (dg := 62) (b := true) (k := .sat (nT 0 none zp .nil)) (step_nzero (by kernel_rfl) rfl) (by kernel_rfl) (by decide) (by kernel_rfl) (by decide) rfl h ?_
  clear h
  intro a w h
  refine env_guard (i := 9) (d := 65) (g := 6) (dg := 62) (b := true) (k := .val (.bool true)) (step_lsame (by kernel_rfl) (Opd.of_base 63 rfl) (Opd.ofT (Opd.of_base 64 rfl)) (congrArg (fun b => Kd.val (.bool b)) (Eq.symm (same_self Bl.zt_valid)))) (by kernel_rfl) (by decide) (by kernel_rfl) (by decide) rfl h ?_
  clear h
  intro a w h
  refine env_one (i := 10) (d := 66) (k := .val (.bool true)) (step_pick_yes (y := .const (.bool false)) (by kernel_rfl) (Opd.of_base 62 rfl) (Opd.of_base 65 rfl) rfl) (by kernel_rfl) (by decide) h ?_
  clear h
  intro a w h
  refine env_one (i := 11) (d := 67) (k := .val (.bool true)) (step_move (by kernel_rfl) (Opd.of_base 66 rfl) rfl) (by kernel_rfl) (by decide) h ?_
  clear h
  intro a w h
  refine env_guard (i := 12) (d := 68) (g := 11) (dg := 67) (b := true) (k := .val (.bool true)) (step_awake (by kernel_rfl)  rfl) (by kernel_rfl) (by decide) (by kernel_rfl) (by decide) rfl h ?_
  clear h
  intro a w h
  refine env_one (i := 13) (d := 69) (k := .val (.bool true)) (step_pick_yes (y := .const (.bool false)) (by kernel_rfl) (Opd.of_base 67 rfl) (Opd.of_base 68 rfl) rfl) (by kernel_rfl) (by decide) h ?_
  clear h
  intro a w h
  refine env_one (i := 14) (d := 4) (k := .val (.bool true)) (step_assign (by kernel_rfl) (Opd.of_base 69 rfl) rfl) (by kernel_rfl) (by decide) h ?_
  clear h
  intro a w h
  exact hQ a w (h.keep [990, 4, 5, 7, 6, 8])
def lLists7bEs (F0 : Fo) (p1 : Pay) (l1 : Fo) : List Kd := [
  .term p1 l1,
  .sat (nT 0 none (2, 0, (⟨#[91, 93]⟩)) .nil),
  .val (.bool false),
  .val (.bool false)]
def lLists7bDs : List Nat := [53, 54, 55, 52]
def lLists7bEnv (F0 : Fo) (p1 : Pay) (l1 : Fo) : Env := [(0, .row F0), (990, .sat (gP 0 none)), (3, .ptrT p1 l1), (4, .val (.bool false)), (5, .ptrT ((Bl.consL F0 p1 l1).1) ((Bl.consL F0 p1 l1).2)), (7, .ptrT (((Bl.list ((Bl.consL F0 p1 l1).1) ((Bl.consL F0 p1 l1).2)).2.1).1) (((Bl.list ((Bl.consL F0 p1 l1).1) ((Bl.consL F0 p1 l1).2)).2.1).2)), (6, .sat (nR 0 none ((Bl.list ((Bl.consL F0 p1 l1).1) ((Bl.consL F0 p1 l1).2)).1))), (8, .val (.bool ((Bl.list ((Bl.consL F0 p1 l1).1) ((Bl.consL F0 p1 l1).2)).2.2)))]
theorem lLists7b_0 {Q : Exit → Act → World → Prop} (F0 : Fo) (p1 : Pay) (l1 : Fo) (g2 : ¬ (p1 = Tm.emptyA ∧ l1 = .nil)) : RStep (strip lLists7Ops) Q (fun i => ((lLists7bEs F0 p1 l1)[i]?).getD .any) (fun i => (lLists7bDs[i]?).getD (1000 + i)) (look (lLists7bEnv F0 p1 l1)) 141 0 := fun _ => step_load_term (by kernel_rfl) (Opd.of_base 3 rfl) rfl
theorem lLists7b_1 {Q : Exit → Act → World → Prop} (F0 : Fo) (p1 : Pay) (l1 : Fo) (g2 : ¬ (p1 = Tm.emptyA ∧ l1 = .nil)) : RStep (strip lLists7Ops) Q (fun i => ((lLists7bEs F0 p1 l1)[i]?).getD .any) (fun i => (lLists7bDs[i]?).getD (1000 + i)) (look (lLists7bEnv F0 p1 l1)) 141 1 := fun _ => step_la (g := 990) (by kernel_rfl) (Opd.const _) (Opd.of_base 990 rfl) rfl
theorem lLists7b_2 {Q : Exit → Act → World → Prop} (F0 : Fo) (p1 : Pay) (l1 : Fo) (g2 : ¬ (p1 = Tm.emptyA ∧ l1 = .nil)) : RStep (strip lLists7Ops) Q (fun i => ((lLists7bEs F0 p1 l1)[i]?).getD .any) (fun i => (lLists7bDs[i]?).getD (1000 + i)) (look (lLists7bEnv F0 p1 l1)) 141 2 := fun _ => step_lsame (by kernel_rfl) (Opd.dep 0 rfl rfl (by kernel_rfl)) (Opd.ofT (Opd.dep 1 rfl rfl (by kernel_rfl))) (congrArg (fun b => Kd.val (.bool b)) (Eq.symm (same_no g2)))
theorem lLists7b_3 {Q : Exit → Act → World → Prop} (F0 : Fo) (p1 : Pay) (l1 : Fo) (g2 : ¬ (p1 = Tm.emptyA ∧ l1 = .nil)) : RStep (strip lLists7Ops) Q (fun i => ((lLists7bEs F0 p1 l1)[i]?).getD .any) (fun i => (lLists7bDs[i]?).getD (1000 + i)) (look (lLists7bEnv F0 p1 l1)) 141 3 := fun _ => step_assign (by kernel_rfl) (Opd.dep 2 rfl rfl (by kernel_rfl)) rfl
theorem lLists7b_region {Q : Exit → Act → World → Prop} (F0 : Fo) (p1 : Pay) (l1 : Fo) (g2 : ¬ (p1 = Tm.emptyA ∧ l1 = .nil)) {w0 : World} {a : Act} {w : World} (h : Hold 141 [(0, .row F0), (990, .sat (gP 0 none)), (3, .ptrT p1 l1), (4, .val (.bool false)), (5, .ptrT ((Bl.consL F0 p1 l1).1) ((Bl.consL F0 p1 l1).2)), (7, .ptrT (((Bl.list ((Bl.consL F0 p1 l1).1) ((Bl.consL F0 p1 l1).2)).2.1).1) (((Bl.list ((Bl.consL F0 p1 l1).1) ((Bl.consL F0 p1 l1).2)).2.1).2)), (6, .sat (nR 0 none ((Bl.list ((Bl.consL F0 p1 l1).1) ((Bl.consL F0 p1 l1).2)).1))), (8, .val (.bool ((Bl.list ((Bl.consL F0 p1 l1).1) ((Bl.consL F0 p1 l1).2)).2.2)))] w0 a w)
    (hQ : ∀ a' w', Hold 141 [(0, .row F0), (990, .sat (gP 0 none)), (3, .ptrT p1 l1), (4, .val (.bool false)), (5, .ptrT ((Bl.consL F0 p1 l1).1) ((Bl.consL F0 p1 l1).2)), (7, .ptrT (((Bl.list ((Bl.consL F0 p1 l1).1) ((Bl.consL F0 p1 l1).2)).2.1).1) (((Bl.list ((Bl.consL F0 p1 l1).1) ((Bl.consL F0 p1 l1).2)).2.1).2)), (6, .sat (nR 0 none ((Bl.list ((Bl.consL F0 p1 l1).1) ((Bl.consL F0 p1 l1).2)).1))), (8, .val (.bool ((Bl.list ((Bl.consL F0 p1 l1).1) ((Bl.consL F0 p1 l1).2)).2.2))), (52, .val (.bool false))] w0 a' w' → Q .normal a' w') : (Code.region 7 lLists7Ops true).wp Try.prog Q a w := by
  have hall : ∀ i, i < 0 → RStep (strip lLists7Ops) Q (fun i => ((lLists7bEs F0 p1 l1)[i]?).getD .any) (fun i => (lLists7bDs[i]?).getD (1000 + i)) (look (lLists7bEnv F0 p1 l1)) 141 i := fun i hi => absurd hi (by omega)
  have hall := below_succ hall (lLists7b_0 F0 p1 l1 g2)
  have hall := below_succ hall (lLists7b_1 F0 p1 l1 g2)
  have hall := below_succ hall (lLists7b_2 F0 p1 l1 g2)
  have hall := below_succ hall (lLists7b_3 F0 p1 l1 g2)
  refine env_then (m := 4) (n := 4) lLists7bDs (lLists7bEs F0 p1 l1) rfl (by kernel_rfl) (by decide) (by kernel_rfl) (of_decide_eq_true (by kernel_rfl)) (by kernel_rfl) (by kernel_rfl) (fun i_ hi_ => hall i_ hi_) h fun a w h => ?_
  clear hall
  have h := h.keep [0, 990, 3, 4, 5, 7, 6, 8, 53, 54, 55, 52]
  show wpOps Try.prog _ Q [] a w
  exact hQ a w (h.keep [0, 990, 3, 4, 5, 7, 6, 8, 52])
theorem lLists9a_region {Q : Exit → Act → World → Prop} (F0 : Fo) (p1 : Pay) (l1 : Fo) (a1 : ¬ p1.1 = 3) {w0 : World} {a : Act} {w : World} (h : Hold 141 [(0, .row F0), (990, .sat (gP 0 none)), (3, .ptrT p1 l1), (4, .val (.bool false)), (5, .ptrT ((Bl.consL F0 p1 l1).1) ((Bl.consL F0 p1 l1).2)), (7, .ptrT ((Bl.ty ⟨#[108, 105, 115, 116]⟩ (Bl.consL F0 p1 l1).1 (Bl.consL F0 p1 l1).2).1) ((Bl.ty ⟨#[108, 105, 115, 116]⟩ (Bl.consL F0 p1 l1).1 (Bl.consL F0 p1 l1).2).2)), (6, .sat (nR 0 none .nil)), (8, .val (.bool false))] w0 a w)
    (hQ : ∀ a' w', Hold 141 [(0, .row F0), (990, .sat (gP 0 none)), (3, .ptrT p1 l1), (4, .val (.bool false)), (5, .ptrT ((Bl.consL F0 p1 l1).1) ((Bl.consL F0 p1 l1).2)), (7, .ptrT ((Bl.ty ⟨#[108, 105, 115, 116]⟩ (Bl.consL F0 p1 l1).1 (Bl.consL F0 p1 l1).2).1) ((Bl.ty ⟨#[108, 105, 115, 116]⟩ (Bl.consL F0 p1 l1).1 (Bl.consL F0 p1 l1).2).2)), (6, .sat (nR 0 none .nil)), (8, .val (.bool false)), (70, .val (.bool false))] w0 a' w' → Q .normal a' w') : (Code.region 9 lLists9Ops false).wp Try.prog Q a w := by
  refine region_seq (w0 := w) 15 (by kernel_rfl) ?_
  rw [show List.range 15 = [0, 1, 2, 3, 4, 5, 6, 7, 8, 9, 10, 11, 12, 13, 14] from rfl]
  refine env_one (i := 0) (d := 71) (k := .ptrI (p1.1)) (step_field0 (by kernel_rfl) (Opd.of_base 3 rfl) rfl) (by kernel_rfl) (by decide) h ?_
  clear h
  intro a w h
  refine env_one (i := 1) (d := 72) (k := .val (.int .i64 (p1.1))) (step_load_int3 (by kernel_rfl) (Opd.of_base 71 rfl) rfl) (by kernel_rfl) (by decide) h ?_
  clear h
  intro a w h
  refine env_one (i := 2) (d := 73) (k := .val (.bool false)) (step_eqb_int (m := (p1.1)) (n := 3) (by kernel_rfl) (Opd.of_base 72 rfl) (Opd.const _) (by simpa using a1) rfl) (by kernel_rfl) (by decide) h ?_
  clear h
  intro a w h
  refine env_one (i := 3) (d := 74) (k := .val (.bool false)) (step_move (by kernel_rfl) (Opd.of_base 73 rfl) rfl) (by kernel_rfl) (by decide) h ?_
  clear h
  intro a w h
  refine env_skip (i := 4) (d := 75) (g := 3) (dg := 74) (b := true) (by kernel_rfl) (by decide) (by kernel_rfl) rfl rfl h ?_
  clear h
  intro a w h
  refine env_skip (i := 5) (d := 76) (g := 3) (dg := 74) (b := true) (by kernel_rfl) (by decide) (by kernel_rfl) rfl rfl h ?_
  clear h
  intro a w h
  refine env_skip (i := 6) (d := 77) (g := 3) (dg := 74) (b := true) (by kernel_rfl) (by decide) (by kernel_rfl) rfl rfl h ?_
  clear h
  intro a w h
  refine env_one (i := 7) (d := 78) (k := .val (.bool false)) (step_pick_no (x := .tmp 77) (by kernel_rfl) (Opd.of_base 74 rfl) (Opd.const _) rfl) (by kernel_rfl) (by decide) h ?_
  clear h
  intro a w h
  refine env_one (i := 8) (d := 79) (k := .val (.bool false)) (step_move (by kernel_rfl) (Opd.of_base 78 rfl) rfl) (by kernel_rfl) (by decide) h ?_
  clear h
  intro a w h
  refine env_skip (i := 9) (d := 80) (g := 8) (dg := 79) (b := true) (by kernel_rfl) (by decide) (by kernel_rfl) rfl rfl h ?_
  clear h
  intro a w h
  refine env_skip (i := 10) (d := 81) (g := 8) (dg := 79) (b := true) (by kernel_rfl) (by decide) (by kernel_rfl) rfl rfl h ?_
  clear h
  intro a w h
  refine env_skip (i := 11) (d := 82) (g := 8) (dg := 79) (b := true) (by kernel_rfl) (by decide) (by kernel_rfl) rfl rfl h ?_
  clear h
  intro a w h
  refine env_skip (i := 12) (d := 83) (g := 8) (dg := 79) (b := true) (by kernel_rfl) (by decide) (by kernel_rfl) rfl rfl h ?_
  clear h
  intro a w h
  refine env_one (i := 13) (d := 84) (k := .val (.bool false)) (step_pick_no (x := .tmp 83) (by kernel_rfl) (Opd.of_base 79 rfl) (Opd.const _) rfl) (by kernel_rfl) (by decide) h ?_
  clear h
  intro a w h
  refine env_one (i := 14) (d := 70) (k := .val (.bool false)) (step_assign (by kernel_rfl) (Opd.of_base 84 rfl) rfl) (by kernel_rfl) (by decide) h ?_
  clear h
  intro a w h
  exact hQ a w (h.keep [0, 990, 3, 4, 5, 7, 6, 8, 70])
theorem lLists16a_region {Q : Exit → Act → World → Prop} (F0 : Fo) (p1 : Pay) (l1 : Fo)  {w0 : World} {a : Act} {w : World} (h : Hold 141 [(990, .sat (gP 0 none)), (4, .val (.bool false)), (5, .ptrT ((Bl.consL F0 p1 l1).1) ((Bl.consL F0 p1 l1).2)), (7, .ptrT ((Bl.ty ⟨#[108, 105, 115, 116]⟩ (Bl.consL F0 p1 l1).1 (Bl.consL F0 p1 l1).2).1) ((Bl.ty ⟨#[108, 105, 115, 116]⟩ (Bl.consL F0 p1 l1).1 (Bl.consL F0 p1 l1).2).2)), (6, .sat (nR 0 none .nil)), (8, .val (.bool false))] w0 a w)
    (hQ : ∀ r a' w', w0.heap.size ≤ r → Hold 141 [(4, .val (.bool false)), (5, .sat (nP 0 (some r) ((Bl.consL F0 p1 l1).1) ((Bl.consL F0 p1 l1).2))), (7, .sat (nP 0 (some r) ((Bl.ty ⟨#[108, 105, 115, 116]⟩ (Bl.consL F0 p1 l1).1 (Bl.consL F0 p1 l1).2).1) ((Bl.ty ⟨#[108, 105, 115, 116]⟩ (Bl.consL F0 p1 l1).1 (Bl.consL F0 p1 l1).2).2))), (6, .sat (nR 0 (some r) .nil)), (8, .val (.bool false)), (990, .sat (gP 0 (some r))), (12, .sat (rC 0 r ((Bl.consL F0 p1 l1).1) ((Bl.consL F0 p1 l1).2)))] w0 a' w' → Q .normal a' w') : (Code.region 16 lLists16Ops false).wp Try.prog Q a w := by
  refine region_seq (w0 := w) 3 (by kernel_rfl) ?_
  rw [show List.range 3 = [0, 1, 2] from rfl]
  refine env_one (i := 0) (d := 116) (k := .term ((Bl.consL F0 p1 l1).1) ((Bl.consL F0 p1 l1).2)) (step_load_term (by kernel_rfl) (Opd.of_base 5 rfl) rfl) (by kernel_rfl) (by decide) h ?_
  clear h
  intro a w h
  refine env_res (i := 1) (d := 12) (n := 0) (fun r => [(4, .val (.bool false)), (5, .sat (nP 0 (some r) ((Bl.consL F0 p1 l1).1) ((Bl.consL F0 p1 l1).2))), (7, .sat (nP 0 (some r) ((Bl.ty ⟨#[108, 105, 115, 116]⟩ (Bl.consL F0 p1 l1).1 (Bl.consL F0 p1 l1).2).1) ((Bl.ty ⟨#[108, 105, 115, 116]⟩ (Bl.consL F0 p1 l1).1 (Bl.consL F0 p1 l1).2).2))), (6, .sat (nR 0 (some r) .nil)), (8, .val (.bool false)), (116, .sat (nT 0 (some r) ((Bl.consL F0 p1 l1).1) ((Bl.consL F0 p1 l1).2)))]) (by kernel_rfl) (by decide) (by decide) (Nat.zero_le _) (fun r => (goes_cons 4 rfl (turns_val _ _) (goes_cons 5 rfl (turns_ptr _ _ _) (goes_cons 7 rfl (turns_ptr _ _ _) (goes_cons 6 rfl (turns_nR _ _ _) (goes_cons 8 rfl (turns_val _ _) (goes_cons 116 rfl (turns_term _ _ _) (goes_nil _ _)))))))) h ?_
  clear h
  intro r a w hr h
  refine env_store (i := 2) (x := 12) (y := 116) (r := r) [(4, .val (.bool false)), (5, .sat (nP 0 (some r) ((Bl.consL F0 p1 l1).1) ((Bl.consL F0 p1 l1).2))), (7, .sat (nP 0 (some r) ((Bl.ty ⟨#[108, 105, 115, 116]⟩ (Bl.consL F0 p1 l1).1 (Bl.consL F0 p1 l1).2).1) ((Bl.ty ⟨#[108, 105, 115, 116]⟩ (Bl.consL F0 p1 l1).1 (Bl.consL F0 p1 l1).2).2))), (6, .sat (nR 0 (some r) .nil)), (8, .val (.bool false)), (116, .sat (nT 0 (some r) ((Bl.consL F0 p1 l1).1) ((Bl.consL F0 p1 l1).2))), (990, .sat (gP 0 (some r)))] (by kernel_rfl) rfl rfl hr (stays_cons 4 rfl (away_val _ _) (stays_cons 5 rfl (away_nP _ _ _ _) (stays_cons 7 rfl (away_nP _ _ _ _) (stays_cons 6 rfl (away_nR _ _ _) (stays_cons 8 rfl (away_val _ _) (stays_cons 116 rfl (away_nT _ _ _ _) (stays_cons 990 rfl (away_gP _ _ _) (stays_nil _ _)))))))) h ?_
  clear h
  intro a w h
  exact hQ r a w hr (h.keep [4, 5, 7, 6, 8, 990, 12])
theorem lLists17a_region {Q : Exit → Act → World → Prop} (F0 : Fo) (p1 : Pay) (l1 : Fo) (r : Nat) (hz : Tm.sizeB (Bl.consL F0 p1 l1).2 = 1 + Tm.size (Bl.consL F0 p1 l1).2 ∧ Tm.sizeB (Bl.consL F0 p1 l1).2 ≤ 2000) (gs : 2000 < 1 + Tm.size (Bl.consL F0 p1 l1).2 + 4) {w0 : World} {a : Act} {w : World} (hr : w0.heap.size ≤ r) (h : Hold 141 [(4, .val (.bool false)), (5, .sat (nP 0 (some r) ((Bl.consL F0 p1 l1).1) ((Bl.consL F0 p1 l1).2))), (7, .sat (nP 0 (some r) ((Bl.ty ⟨#[108, 105, 115, 116]⟩ (Bl.consL F0 p1 l1).1 (Bl.consL F0 p1 l1).2).1) ((Bl.ty ⟨#[108, 105, 115, 116]⟩ (Bl.consL F0 p1 l1).1 (Bl.consL F0 p1 l1).2).2))), (6, .sat (nR 0 (some r) .nil)), (8, .val (.bool false)), (990, .sat (gP 0 (some r))), (12, .sat (rC 0 r ((Bl.consL F0 p1 l1).1) ((Bl.consL F0 p1 l1).2)))] w0 a w)
    (hQ : ∀ a' w', Hold 141 [(4, .val (.bool false)), (7, .sat (nP 0 (some r) ((Bl.ty ⟨#[108, 105, 115, 116]⟩ (Bl.consL F0 p1 l1).1 (Bl.consL F0 p1 l1).2).1) ((Bl.ty ⟨#[108, 105, 115, 116]⟩ (Bl.consL F0 p1 l1).1 (Bl.consL F0 p1 l1).2).2))), (6, .sat (nR 0 (some r) .nil)), (8, .val (.bool false)), (990, .sat (gP 0 (some r))), (12, .sat (rC 0 r ((Bl.consL F0 p1 l1).1) ((Bl.consL F0 p1 l1).2))), (120, .val (.bool true))] w0 a' w' → Q .normal a' w') : (Code.region 17 lLists17Ops false).wp Try.prog Q a w := by
  refine region_seq (w0 := w) 4 (by kernel_rfl) ?_
  rw [show List.range 4 = [0, 1, 2, 3] from rfl]
  refine env_one (i := 0) (d := 117) (k := .sat (nT 0 (some r) ((Bl.consL F0 p1 l1).1) ((Bl.consL F0 p1 l1).2))) (step_nload (by kernel_rfl) (Opd.of_base 5 rfl) rfl) (by kernel_rfl) (by decide) h ?_
  clear h
  intro a w h
  refine env_one (i := 1) (d := 118) (k := .val (.int .i64 ((Tm.sizeB ((Bl.consL F0 p1 l1).2) : Nat) : Int))) (step_rsize (by kernel_rfl) (Opd.ofT (Opd.of_base 117 rfl)) rfl) (by kernel_rfl) (by decide) h ?_
  clear h
  intro a w h
  refine env_one (i := 2) (d := 119) (k := .val (.int .i64 (((Tm.sizeB ((Bl.consL F0 p1 l1).2)) + 4 : Nat) : Int))) (step_add (m := ((Tm.sizeB ((Bl.consL F0 p1 l1).2) : Nat) : Int)) (n := 4) (s := (((Tm.sizeB ((Bl.consL F0 p1 l1).2)) + 4 : Nat) : Int)) (by kernel_rfl) (Opd.of_base 118 rfl) (Opd.const _) (by rw [IntKind.wrap_i64]; omega) rfl) (by kernel_rfl) (by decide) h ?_
  clear h
  intro a w h
  refine env_one (i := 3) (d := 120) (k := .val (.bool true)) (step_gt_int (m := (((Tm.sizeB ((Bl.consL F0 p1 l1).2)) + 4 : Nat) : Int)) (n := 2000) (by kernel_rfl) (Opd.of_base 119 rfl) (Opd.const _) (decide_eq_true (by omega)) rfl) (by kernel_rfl) (by decide) h ?_
  clear h
  intro a w h
  exact hQ a w (h.keep [4, 7, 6, 8, 990, 12, 120])
theorem lLists18a_region {Q : Exit → Act → World → Prop} (F0 : Fo) (p1 : Pay) (l1 : Fo) (r : Nat)  {w0 : World} {a : Act} {w : World} (hr : w0.heap.size ≤ r) (h : Hold 141 [(4, .val (.bool false)), (7, .sat (nP 0 (some r) ((Bl.ty ⟨#[108, 105, 115, 116]⟩ (Bl.consL F0 p1 l1).1 (Bl.consL F0 p1 l1).2).1) ((Bl.ty ⟨#[108, 105, 115, 116]⟩ (Bl.consL F0 p1 l1).1 (Bl.consL F0 p1 l1).2).2))), (6, .sat (nR 0 (some r) .nil)), (8, .val (.bool false)), (990, .sat (gP 0 (some r))), (12, .sat (rC 0 r ((Bl.consL F0 p1 l1).1) ((Bl.consL F0 p1 l1).2)))] w0 a w)
    (hQ : ∀ a' w', Hold 141 [(4, .val (.bool false)), (7, .sat (nP 0 (some r) ((Bl.ty ⟨#[108, 105, 115, 116]⟩ (Bl.consL F0 p1 l1).1 (Bl.consL F0 p1 l1).2).1) ((Bl.ty ⟨#[108, 105, 115, 116]⟩ (Bl.consL F0 p1 l1).1 (Bl.consL F0 p1 l1).2).2))), (6, .sat (nR 0 (some r) .nil)), (8, .val (.bool false)), (990, .sat (gP 0 (some r))), (12, .sat (rC 0 r (2, 0, (⟨#[46, 46, 46]⟩)) .nil))] w0 a' w' → Q .normal a' w') : (Code.region 18 lLists18Ops false).wp Try.prog Q a w := by
  refine region_seq (w0 := w) 2 (by kernel_rfl) ?_
  rw [show List.range 2 = [0, 1] from rfl]
  refine env_one (i := 0) (d := 121) (k := .sat (nT 0 (some r) (2, 0, (⟨#[46, 46, 46]⟩)) .nil)) (step_la (g := 990) (by kernel_rfl) (Opd.const _) (Opd.of_base 990 rfl) rfl) (by kernel_rfl) (by decide) h ?_
  clear h
  intro a w h
  refine env_store (i := 1) (x := 12) (y := 121) (r := r) [(4, .val (.bool false)), (7, .sat (nP 0 (some r) ((Bl.ty ⟨#[108, 105, 115, 116]⟩ (Bl.consL F0 p1 l1).1 (Bl.consL F0 p1 l1).2).1) ((Bl.ty ⟨#[108, 105, 115, 116]⟩ (Bl.consL F0 p1 l1).1 (Bl.consL F0 p1 l1).2).2))), (6, .sat (nR 0 (some r) .nil)), (8, .val (.bool false)), (990, .sat (gP 0 (some r))), (121, .sat (nT 0 (some r) (2, 0, (⟨#[46, 46, 46]⟩)) .nil))] (by kernel_rfl) rfl rfl hr (stays_cons 4 rfl (away_val _ _) (stays_cons 7 rfl (away_nP _ _ _ _) (stays_cons 6 rfl (away_nR _ _ _) (stays_cons 8 rfl (away_val _ _) (stays_cons 990 rfl (away_gP _ _ _) (stays_cons 121 rfl (away_nT _ _ _ _) (stays_nil _ _))))))) h ?_
  clear h
  intro a w h
  exact hQ a w (h.keep [4, 7, 6, 8, 990, 12])
def lLists19aEs (F0 : Fo) (p1 : Pay) (l1 : Fo) (r : Nat) : List Kd := [
  .val (.bool false),
  .val (.bool true),
  .val (.bool true),
  .sat (nR 0 (some r) .nil),
  .val (.int .i64 ((Tm.len .nil : Nat) : Int)),
  .val (.bool true),
  .val (.bool true),
  .val (.bool true),
  .sat (nT 0 (some r) ((Bl.ty ⟨#[108, 105, 115, 116]⟩ (Bl.consL F0 p1 l1).1 (Bl.consL F0 p1 l1).2).1) ((Bl.ty ⟨#[108, 105, 115, 116]⟩ (Bl.consL F0 p1 l1).1 (Bl.consL F0 p1 l1).2).2)),
  .sat (nT 0 (some r) (2, 0, (⟨#[108, 105, 115, 116]⟩)) .nil),
  .sat (nT 0 (some r) (2, 0, (⟨#[46, 46, 46]⟩)) .nil),
  .sat (nK 0 (some r) (.node (2, 0, (⟨#[108, 105, 115, 116]⟩)) .nil (.node (2, 0, (⟨#[46, 46, 46]⟩)) .nil .nil))),
  .sat (nT 0 (some r) (3, 0, ⟨#[116, 121, 112, 101, 95, 101, 114, 114, 111, 114]⟩) (.node (2, 0, (⟨#[108, 105, 115, 116]⟩)) .nil (.node (2, 0, (⟨#[46, 46, 46]⟩)) .nil .nil))),
  .sat (nT 0 (some r) (3, 0, Tm.errName) (.node (3, 0, ⟨#[116, 121, 112, 101, 95, 101, 114, 114, 111, 114]⟩) (.node (2, 0, (⟨#[108, 105, 115, 116]⟩)) .nil (.node (2, 0, (⟨#[46, 46, 46]⟩)) .nil .nil)) (.node Tm.emptyA .nil .nil))),
  .val (.bool true),
  .val (.bool true),
  .val (.bool true),
  .val (.bool true),
  .val (.bool true),
  .val (.bool true)]
def lLists19aDs : List Nat := [122, 123, 124, 125, 126, 127, 128, 129, 130, 131, 132, 133, 134, 135, 136, 137, 138, 139, 140, 4]
def lLists19aEnv (F0 : Fo) (p1 : Pay) (l1 : Fo) (r : Nat) : Env := [(7, .sat (nP 0 (some r) ((Bl.ty ⟨#[108, 105, 115, 116]⟩ (Bl.consL F0 p1 l1).1 (Bl.consL F0 p1 l1).2).1) ((Bl.ty ⟨#[108, 105, 115, 116]⟩ (Bl.consL F0 p1 l1).1 (Bl.consL F0 p1 l1).2).2))), (6, .sat (nR 0 (some r) .nil)), (8, .val (.bool false)), (990, .sat (gP 0 (some r))), (12, .sat (rC 0 r (2, 0, (⟨#[46, 46, 46]⟩)) .nil))]
theorem lLists19a_0 {Q : Exit → Act → World → Prop} (F0 : Fo) (p1 : Pay) (l1 : Fo) (r : Nat) (hv : Tm.validB (Bl.consL F0 p1 l1).1 (Bl.consL F0 p1 l1).2 = true) (gs : 2000 < 1 + Tm.size (Bl.consL F0 p1 l1).2 + 4) : RStep (strip lLists19Ops) Q (fun i => ((lLists19aEs F0 p1 l1 r)[i]?).getD .any) (fun i => (lLists19aDs[i]?).getD (1000 + i)) (look (lLists19aEnv F0 p1 l1 r)) 141 0 := fun _ => step_move (by kernel_rfl) (Opd.of_base 8 rfl) rfl
theorem lLists19a_1 {Q : Exit → Act → World → Prop} (F0 : Fo) (p1 : Pay) (l1 : Fo) (r : Nat) (hv : Tm.validB (Bl.consL F0 p1 l1).1 (Bl.consL F0 p1 l1).2 = true) (gs : 2000 < 1 + Tm.size (Bl.consL F0 p1 l1).2 + 4) : RStep (strip lLists19Ops) Q (fun i => ((lLists19aEs F0 p1 l1 r)[i]?).getD .any) (fun i => (lLists19aDs[i]?).getD (1000 + i)) (look (lLists19aEnv F0 p1 l1 r)) 141 1 := fun _ => step_not (by kernel_rfl) (Opd.dep 0 rfl rfl (by kernel_rfl)) rfl
theorem lLists19a_2 {Q : Exit → Act → World → Prop} (F0 : Fo) (p1 : Pay) (l1 : Fo) (r : Nat) (hv : Tm.validB (Bl.consL F0 p1 l1).1 (Bl.consL F0 p1 l1).2 = true) (gs : 2000 < 1 + Tm.size (Bl.consL F0 p1 l1).2 + 4) : RStep (strip lLists19Ops) Q (fun i => ((lLists19aEs F0 p1 l1 r)[i]?).getD .any) (fun i => (lLists19aDs[i]?).getD (1000 + i)) (look (lLists19aEnv F0 p1 l1 r)) 141 2 := fun _ => step_move (by kernel_rfl) (Opd.dep 1 rfl rfl (by kernel_rfl)) rfl
theorem lLists19a_3 {Q : Exit → Act → World → Prop} (F0 : Fo) (p1 : Pay) (l1 : Fo) (r : Nat) (hv : Tm.validB (Bl.consL F0 p1 l1).1 (Bl.consL F0 p1 l1).2 = true) (gs : 2000 < 1 + Tm.size (Bl.consL F0 p1 l1).2 + 4) : RStep (strip lLists19Ops) Q (fun i => ((lLists19aEs F0 p1 l1 r)[i]?).getD .any) (fun i => (lLists19aDs[i]?).getD (1000 + i)) (look (lLists19aEnv F0 p1 l1 r)) 141 3 := fun _ => step_move (by kernel_rfl) (Opd.of_base 6 rfl) rfl
theorem lLists19a_4 {Q : Exit → Act → World → Prop} (F0 : Fo) (p1 : Pay) (l1 : Fo) (r : Nat) (hv : Tm.validB (Bl.consL F0 p1 l1).1 (Bl.consL F0 p1 l1).2 = true) (gs : 2000 < 1 + Tm.size (Bl.consL F0 p1 l1).2 + 4) : RStep (strip lLists19Ops) Q (fun i => ((lLists19aEs F0 p1 l1 r)[i]?).getD .any) (fun i => (lLists19aDs[i]?).getD (1000 + i)) (look (lLists19aEnv F0 p1 l1 r)) 141 4 := fun _ => step_len_row (by kernel_rfl) (Opd.ofR (Opd.dep 3 rfl rfl (by kernel_rfl))) rfl
theorem lLists19a_5 {Q : Exit → Act → World → Prop} (F0 : Fo) (p1 : Pay) (l1 : Fo) (r : Nat) (hv : Tm.validB (Bl.consL F0 p1 l1).1 (Bl.consL F0 p1 l1).2 = true) (gs : 2000 < 1 + Tm.size (Bl.consL F0 p1 l1).2 + 4) : RStep (strip lLists19Ops) Q (fun i => ((lLists19aEs F0 p1 l1 r)[i]?).getD .any) (fun i => (lLists19aDs[i]?).getD (1000 + i)) (look (lLists19aEnv F0 p1 l1 r)) 141 5 := fun _ => step_eqb_int (m := ((Tm.len .nil : Nat) : Int)) (n := 0) (by kernel_rfl) (Opd.dep 4 rfl rfl (by kernel_rfl)) (Opd.const _) rfl rfl
theorem lLists19a_6 {Q : Exit → Act → World → Prop} (F0 : Fo) (p1 : Pay) (l1 : Fo) (r : Nat) (hv : Tm.validB (Bl.consL F0 p1 l1).1 (Bl.consL F0 p1 l1).2 = true) (gs : 2000 < 1 + Tm.size (Bl.consL F0 p1 l1).2 + 4) : RStep (strip lLists19Ops) Q (fun i => ((lLists19aEs F0 p1 l1 r)[i]?).getD .any) (fun i => (lLists19aDs[i]?).getD (1000 + i)) (look (lLists19aEnv F0 p1 l1 r)) 141 6 := fun _ => step_pick_yes (y := .const (.bool false)) (by kernel_rfl) (Opd.dep 2 rfl rfl (by kernel_rfl)) (Opd.dep 5 rfl rfl (by kernel_rfl)) rfl
theorem lLists19a_7 {Q : Exit → Act → World → Prop} (F0 : Fo) (p1 : Pay) (l1 : Fo) (r : Nat) (hv : Tm.validB (Bl.consL F0 p1 l1).1 (Bl.consL F0 p1 l1).2 = true) (gs : 2000 < 1 + Tm.size (Bl.consL F0 p1 l1).2 + 4) : RStep (strip lLists19Ops) Q (fun i => ((lLists19aEs F0 p1 l1 r)[i]?).getD .any) (fun i => (lLists19aDs[i]?).getD (1000 + i)) (look (lLists19aEnv F0 p1 l1 r)) 141 7 := fun _ => step_move (by kernel_rfl) (Opd.dep 6 rfl rfl (by kernel_rfl)) rfl
theorem lLists19a_8 {Q : Exit → Act → World → Prop} (F0 : Fo) (p1 : Pay) (l1 : Fo) (r : Nat) (hv : Tm.validB (Bl.consL F0 p1 l1).1 (Bl.consL F0 p1 l1).2 = true) (gs : 2000 < 1 + Tm.size (Bl.consL F0 p1 l1).2 + 4) : RStep (strip lLists19Ops) Q (fun i => ((lLists19aEs F0 p1 l1 r)[i]?).getD .any) (fun i => (lLists19aDs[i]?).getD (1000 + i)) (look (lLists19aEnv F0 p1 l1 r)) 141 8 := fun _ => step_nload (by kernel_rfl) (Opd.of_base 7 rfl) rfl
theorem lLists19a_9 {Q : Exit → Act → World → Prop} (F0 : Fo) (p1 : Pay) (l1 : Fo) (r : Nat) (hv : Tm.validB (Bl.consL F0 p1 l1).1 (Bl.consL F0 p1 l1).2 = true) (gs : 2000 < 1 + Tm.size (Bl.consL F0 p1 l1).2 + 4) : RStep (strip lLists19Ops) Q (fun i => ((lLists19aEs F0 p1 l1 r)[i]?).getD .any) (fun i => (lLists19aDs[i]?).getD (1000 + i)) (look (lLists19aEnv F0 p1 l1 r)) 141 9 := fun _ => step_la (g := 990) (by kernel_rfl) (Opd.const _) (Opd.of_base 990 rfl) rfl
theorem lLists19a_10 {Q : Exit → Act → World → Prop} (F0 : Fo) (p1 : Pay) (l1 : Fo) (r : Nat) (hv : Tm.validB (Bl.consL F0 p1 l1).1 (Bl.consL F0 p1 l1).2 = true) (gs : 2000 < 1 + Tm.size (Bl.consL F0 p1 l1).2 + 4) : RStep (strip lLists19Ops) Q (fun i => ((lLists19aEs F0 p1 l1 r)[i]?).getD .any) (fun i => (lLists19aDs[i]?).getD (1000 + i)) (look (lLists19aEnv F0 p1 l1 r)) 141 10 := fun _ => step_cload (by kernel_rfl) (Opd.of_base 12 rfl) rfl
theorem lLists19a_11 {Q : Exit → Act → World → Prop} (F0 : Fo) (p1 : Pay) (l1 : Fo) (r : Nat) (hv : Tm.validB (Bl.consL F0 p1 l1).1 (Bl.consL F0 p1 l1).2 = true) (gs : 2000 < 1 + Tm.size (Bl.consL F0 p1 l1).2 + 4) : RStep (strip lLists19Ops) Q (fun i => ((lLists19aEs F0 p1 l1 r)[i]?).getD .any) (fun i => (lLists19aDs[i]?).getD (1000 + i)) (look (lLists19aEnv F0 p1 l1 r)) 141 11 := fun _ => step_nslice2 (g := 990) (by kernel_rfl) (Opd.dep 9 rfl rfl (by kernel_rfl)) (Opd.dep 10 rfl rfl (by kernel_rfl)) (Opd.of_base 990 rfl) rfl
theorem lLists19a_12 {Q : Exit → Act → World → Prop} (F0 : Fo) (p1 : Pay) (l1 : Fo) (r : Nat) (hv : Tm.validB (Bl.consL F0 p1 l1).1 (Bl.consL F0 p1 l1).2 = true) (gs : 2000 < 1 + Tm.size (Bl.consL F0 p1 l1).2 + 4) : RStep (strip lLists19Ops) Q (fun i => ((lLists19aEs F0 p1 l1 r)[i]?).getD .any) (fun i => (lLists19aDs[i]?).getD (1000 + i)) (look (lLists19aEnv F0 p1 l1 r)) 141 12 := fun _ => step_lf (by kernel_rfl) (Opd.const _) (Opd.ofK (Opd.dep 11 rfl rfl (by kernel_rfl))) rfl
theorem lLists19a_13 {Q : Exit → Act → World → Prop} (F0 : Fo) (p1 : Pay) (l1 : Fo) (r : Nat) (hv : Tm.validB (Bl.consL F0 p1 l1).1 (Bl.consL F0 p1 l1).2 = true) (gs : 2000 < 1 + Tm.size (Bl.consL F0 p1 l1).2 + 4) : RStep (strip lLists19Ops) Q (fun i => ((lLists19aEs F0 p1 l1 r)[i]?).getD .any) (fun i => (lLists19aDs[i]?).getD (1000 + i)) (look (lLists19aEnv F0 p1 l1 r)) 141 13 := fun _ => step_lerrN (g := 990) (by kernel_rfl) (Opd.dep 12 rfl rfl (by kernel_rfl)) (Opd.of_base 990 rfl) rfl
theorem lLists19a_14 {Q : Exit → Act → World → Prop} (F0 : Fo) (p1 : Pay) (l1 : Fo) (r : Nat) (hv : Tm.validB (Bl.consL F0 p1 l1).1 (Bl.consL F0 p1 l1).2 = true) (gs : 2000 < 1 + Tm.size (Bl.consL F0 p1 l1).2 + 4) : RStep (strip lLists19Ops) Q (fun i => ((lLists19aEs F0 p1 l1 r)[i]?).getD .any) (fun i => (lLists19aDs[i]?).getD (1000 + i)) (look (lLists19aEnv F0 p1 l1 r)) 141 14 := fun _ => step_lsame (by kernel_rfl) (Opd.ofT (Opd.dep 8 rfl rfl (by kernel_rfl))) (Opd.ofT (Opd.dep 13 rfl rfl (by kernel_rfl))) (congrArg (fun b => Kd.val (.bool b)) (Eq.symm (Bl.same_of (Bl.ty_big Bl.listN_valid hv gs) (Bl.ty_valid _ _ _))))
theorem lLists19a_15 {Q : Exit → Act → World → Prop} (F0 : Fo) (p1 : Pay) (l1 : Fo) (r : Nat) (hv : Tm.validB (Bl.consL F0 p1 l1).1 (Bl.consL F0 p1 l1).2 = true) (gs : 2000 < 1 + Tm.size (Bl.consL F0 p1 l1).2 + 4) : RStep (strip lLists19Ops) Q (fun i => ((lLists19aEs F0 p1 l1 r)[i]?).getD .any) (fun i => (lLists19aDs[i]?).getD (1000 + i)) (look (lLists19aEnv F0 p1 l1 r)) 141 15 := fun _ => step_pick_yes (y := .const (.bool false)) (by kernel_rfl) (Opd.dep 7 rfl rfl (by kernel_rfl)) (Opd.dep 14 rfl rfl (by kernel_rfl)) rfl
theorem lLists19a_16 {Q : Exit → Act → World → Prop} (F0 : Fo) (p1 : Pay) (l1 : Fo) (r : Nat) (hv : Tm.validB (Bl.consL F0 p1 l1).1 (Bl.consL F0 p1 l1).2 = true) (gs : 2000 < 1 + Tm.size (Bl.consL F0 p1 l1).2 + 4) : RStep (strip lLists19Ops) Q (fun i => ((lLists19aEs F0 p1 l1 r)[i]?).getD .any) (fun i => (lLists19aDs[i]?).getD (1000 + i)) (look (lLists19aEnv F0 p1 l1 r)) 141 16 := fun _ => step_move (by kernel_rfl) (Opd.dep 15 rfl rfl (by kernel_rfl)) rfl
theorem lLists19a_17 {Q : Exit → Act → World → Prop} (F0 : Fo) (p1 : Pay) (l1 : Fo) (r : Nat) (hv : Tm.validB (Bl.consL F0 p1 l1).1 (Bl.consL F0 p1 l1).2 = true) (gs : 2000 < 1 + Tm.size (Bl.consL F0 p1 l1).2 + 4) : RStep (strip lLists19Ops) Q (fun i => ((lLists19aEs F0 p1 l1 r)[i]?).getD .any) (fun i => (lLists19aDs[i]?).getD (1000 + i)) (look (lLists19aEnv F0 p1 l1 r)) 141 17 := fun _ => step_awake (by kernel_rfl)  rfl
theorem lLists19a_18 {Q : Exit → Act → World → Prop} (F0 : Fo) (p1 : Pay) (l1 : Fo) (r : Nat) (hv : Tm.validB (Bl.consL F0 p1 l1).1 (Bl.consL F0 p1 l1).2 = true) (gs : 2000 < 1 + Tm.size (Bl.consL F0 p1 l1).2 + 4) : RStep (strip lLists19Ops) Q (fun i => ((lLists19aEs F0 p1 l1 r)[i]?).getD .any) (fun i => (lLists19aDs[i]?).getD (1000 + i)) (look (lLists19aEnv F0 p1 l1 r)) 141 18 := fun _ => step_pick_yes (y := .const (.bool false)) (by kernel_rfl) (Opd.dep 16 rfl rfl (by kernel_rfl)) (Opd.dep 17 rfl rfl (by kernel_rfl)) rfl
theorem lLists19a_19 {Q : Exit → Act → World → Prop} (F0 : Fo) (p1 : Pay) (l1 : Fo) (r : Nat) (hv : Tm.validB (Bl.consL F0 p1 l1).1 (Bl.consL F0 p1 l1).2 = true) (gs : 2000 < 1 + Tm.size (Bl.consL F0 p1 l1).2 + 4) : RStep (strip lLists19Ops) Q (fun i => ((lLists19aEs F0 p1 l1 r)[i]?).getD .any) (fun i => (lLists19aDs[i]?).getD (1000 + i)) (look (lLists19aEnv F0 p1 l1 r)) 141 19 := fun _ => step_assign (by kernel_rfl) (Opd.dep 18 rfl rfl (by kernel_rfl)) rfl
theorem lLists19a_region {Q : Exit → Act → World → Prop} (F0 : Fo) (p1 : Pay) (l1 : Fo) (r : Nat) (hv : Tm.validB (Bl.consL F0 p1 l1).1 (Bl.consL F0 p1 l1).2 = true) (gs : 2000 < 1 + Tm.size (Bl.consL F0 p1 l1).2 + 4) {w0 : World} {a : Act} {w : World} (hr : w0.heap.size ≤ r) (h : Hold 141 [(7, .sat (nP 0 (some r) ((Bl.ty ⟨#[108, 105, 115, 116]⟩ (Bl.consL F0 p1 l1).1 (Bl.consL F0 p1 l1).2).1) ((Bl.ty ⟨#[108, 105, 115, 116]⟩ (Bl.consL F0 p1 l1).1 (Bl.consL F0 p1 l1).2).2))), (6, .sat (nR 0 (some r) .nil)), (8, .val (.bool false)), (990, .sat (gP 0 (some r))), (12, .sat (rC 0 r (2, 0, (⟨#[46, 46, 46]⟩)) .nil))] w0 a w)
    (hQ : ∀ a' w', Hold 141 [(990, .sat (gP 0 (some r))), (4, .val (.bool true))] w0 a' w' → Q .normal a' w') : (Code.region 19 lLists19Ops true).wp Try.prog Q a w := by
  have hall : ∀ i, i < 0 → RStep (strip lLists19Ops) Q (fun i => ((lLists19aEs F0 p1 l1 r)[i]?).getD .any) (fun i => (lLists19aDs[i]?).getD (1000 + i)) (look (lLists19aEnv F0 p1 l1 r)) 141 i := fun i hi => absurd hi (by omega)
  have hall := below_succ hall (lLists19a_0 F0 p1 l1 r hv gs)
  have hall := below_succ hall (lLists19a_1 F0 p1 l1 r hv gs)
  have hall := below_succ hall (lLists19a_2 F0 p1 l1 r hv gs)
  have hall := below_succ hall (lLists19a_3 F0 p1 l1 r hv gs)
  have hall := below_succ hall (lLists19a_4 F0 p1 l1 r hv gs)
  have hall := below_succ hall (lLists19a_5 F0 p1 l1 r hv gs)
  have hall := below_succ hall (lLists19a_6 F0 p1 l1 r hv gs)
  have hall := below_succ hall (lLists19a_7 F0 p1 l1 r hv gs)
  have hall := below_succ hall (lLists19a_8 F0 p1 l1 r hv gs)
  have hall := below_succ hall (lLists19a_9 F0 p1 l1 r hv gs)
  have hall := below_succ hall (lLists19a_10 F0 p1 l1 r hv gs)
  have hall := below_succ hall (lLists19a_11 F0 p1 l1 r hv gs)
  have hall := below_succ hall (lLists19a_12 F0 p1 l1 r hv gs)
  have hall := below_succ hall (lLists19a_13 F0 p1 l1 r hv gs)
  have hall := below_succ hall (lLists19a_14 F0 p1 l1 r hv gs)
  have hall := below_succ hall (lLists19a_15 F0 p1 l1 r hv gs)
  have hall := below_succ hall (lLists19a_16 F0 p1 l1 r hv gs)
  have hall := below_succ hall (lLists19a_17 F0 p1 l1 r hv gs)
  have hall := below_succ hall (lLists19a_18 F0 p1 l1 r hv gs)
  have hall := below_succ hall (lLists19a_19 F0 p1 l1 r hv gs)
  refine env_then (m := 20) (n := 20) lLists19aDs (lLists19aEs F0 p1 l1 r) rfl (by kernel_rfl) (by decide) (by kernel_rfl) (of_decide_eq_true (by kernel_rfl)) (by kernel_rfl) (by kernel_rfl) (fun i_ hi_ => hall i_ hi_) h fun a w h => ?_
  clear hall
  have h := h.keep [7, 6, 8, 990, 12, 122, 123, 124, 125, 126, 127, 128, 129, 130, 131, 132, 133, 134, 135, 136, 137, 138, 139, 140, 4]
  show wpOps Try.prog _ Q [] a w
  exact hQ a w (h.keep [990, 4])
theorem lLists17b_region {Q : Exit → Act → World → Prop} (F0 : Fo) (p1 : Pay) (l1 : Fo) (r : Nat) (hz : Tm.sizeB (Bl.consL F0 p1 l1).2 = 1 + Tm.size (Bl.consL F0 p1 l1).2 ∧ Tm.sizeB (Bl.consL F0 p1 l1).2 ≤ 2000) (gs : ¬ 2000 < 1 + Tm.size (Bl.consL F0 p1 l1).2 + 4) {w0 : World} {a : Act} {w : World} (hr : w0.heap.size ≤ r) (h : Hold 141 [(4, .val (.bool false)), (5, .sat (nP 0 (some r) ((Bl.consL F0 p1 l1).1) ((Bl.consL F0 p1 l1).2))), (7, .sat (nP 0 (some r) ((Bl.ty ⟨#[108, 105, 115, 116]⟩ (Bl.consL F0 p1 l1).1 (Bl.consL F0 p1 l1).2).1) ((Bl.ty ⟨#[108, 105, 115, 116]⟩ (Bl.consL F0 p1 l1).1 (Bl.consL F0 p1 l1).2).2))), (6, .sat (nR 0 (some r) .nil)), (8, .val (.bool false)), (990, .sat (gP 0 (some r))), (12, .sat (rC 0 r ((Bl.consL F0 p1 l1).1) ((Bl.consL F0 p1 l1).2)))] w0 a w)
    (hQ : ∀ a' w', Hold 141 [(4, .val (.bool false)), (7, .sat (nP 0 (some r) ((Bl.ty ⟨#[108, 105, 115, 116]⟩ (Bl.consL F0 p1 l1).1 (Bl.consL F0 p1 l1).2).1) ((Bl.ty ⟨#[108, 105, 115, 116]⟩ (Bl.consL F0 p1 l1).1 (Bl.consL F0 p1 l1).2).2))), (6, .sat (nR 0 (some r) .nil)), (8, .val (.bool false)), (990, .sat (gP 0 (some r))), (12, .sat (rC 0 r ((Bl.consL F0 p1 l1).1) ((Bl.consL F0 p1 l1).2))), (120, .val (.bool false))] w0 a' w' → Q .normal a' w') : (Code.region 17 lLists17Ops false).wp Try.prog Q a w := by
  refine region_seq (w0 := w) 4 (by kernel_rfl) ?_
  rw [show List.range 4 = [0, 1, 2, 3] from rfl]
  refine env_one (i := 0) (d := 117) (k := .sat (nT 0 (some r) ((Bl.consL F0 p1 l1).1) ((Bl.consL F0 p1 l1).2))) (step_nload (by kernel_rfl) (Opd.of_base 5 rfl) rfl) (by kernel_rfl) (by decide) h ?_
  clear h
  intro a w h
  refine env_one (i := 1) (d := 118) (k := .val (.int .i64 ((Tm.sizeB ((Bl.consL F0 p1 l1).2) : Nat) : Int))) (step_rsize (by kernel_rfl) (Opd.ofT (Opd.of_base 117 rfl)) rfl) (by kernel_rfl) (by decide) h ?_
  clear h
  intro a w h
  refine env_one (i := 2) (d := 119) (k := .val (.int .i64 (((Tm.sizeB ((Bl.consL F0 p1 l1).2)) + 4 : Nat) : Int))) (step_add (m := ((Tm.sizeB ((Bl.consL F0 p1 l1).2) : Nat) : Int)) (n := 4) (s := (((Tm.sizeB ((Bl.consL F0 p1 l1).2)) + 4 : Nat) : Int)) (by kernel_rfl) (Opd.of_base 118 rfl) (Opd.const _) (by rw [IntKind.wrap_i64]; omega) rfl) (by kernel_rfl) (by decide) h ?_
  clear h
  intro a w h
  refine env_one (i := 3) (d := 120) (k := .val (.bool false)) (step_gt_int (m := (((Tm.sizeB ((Bl.consL F0 p1 l1).2)) + 4 : Nat) : Int)) (n := 2000) (by kernel_rfl) (Opd.of_base 119 rfl) (Opd.const _) (decide_eq_false (by omega)) rfl) (by kernel_rfl) (by decide) h ?_
  clear h
  intro a w h
  exact hQ a w (h.keep [4, 7, 6, 8, 990, 12, 120])
def lLists19bEs (F0 : Fo) (p1 : Pay) (l1 : Fo) (r : Nat) : List Kd := [
  .val (.bool false),
  .val (.bool true),
  .val (.bool true),
  .sat (nR 0 (some r) .nil),
  .val (.int .i64 ((Tm.len .nil : Nat) : Int)),
  .val (.bool true),
  .val (.bool true),
  .val (.bool true),
  .sat (nT 0 (some r) ((Bl.ty ⟨#[108, 105, 115, 116]⟩ (Bl.consL F0 p1 l1).1 (Bl.consL F0 p1 l1).2).1) ((Bl.ty ⟨#[108, 105, 115, 116]⟩ (Bl.consL F0 p1 l1).1 (Bl.consL F0 p1 l1).2).2)),
  .sat (nT 0 (some r) (2, 0, (⟨#[108, 105, 115, 116]⟩)) .nil),
  .sat (nT 0 (some r) ((Bl.consL F0 p1 l1).1) ((Bl.consL F0 p1 l1).2)),
  .sat (nK 0 (some r) (.node (2, 0, (⟨#[108, 105, 115, 116]⟩)) .nil (.node ((Bl.consL F0 p1 l1).1) ((Bl.consL F0 p1 l1).2) .nil))),
  .sat (nT 0 (some r) (3, 0, ⟨#[116, 121, 112, 101, 95, 101, 114, 114, 111, 114]⟩) (.node (2, 0, (⟨#[108, 105, 115, 116]⟩)) .nil (.node ((Bl.consL F0 p1 l1).1) ((Bl.consL F0 p1 l1).2) .nil))),
  .sat (nT 0 (some r) (3, 0, Tm.errName) (.node (3, 0, ⟨#[116, 121, 112, 101, 95, 101, 114, 114, 111, 114]⟩) (.node (2, 0, (⟨#[108, 105, 115, 116]⟩)) .nil (.node ((Bl.consL F0 p1 l1).1) ((Bl.consL F0 p1 l1).2) .nil)) (.node Tm.emptyA .nil .nil))),
  .val (.bool true),
  .val (.bool true),
  .val (.bool true),
  .val (.bool true),
  .val (.bool true),
  .val (.bool true)]
def lLists19bDs : List Nat := [122, 123, 124, 125, 126, 127, 128, 129, 130, 131, 132, 133, 134, 135, 136, 137, 138, 139, 140, 4]
def lLists19bEnv (F0 : Fo) (p1 : Pay) (l1 : Fo) (r : Nat) : Env := [(7, .sat (nP 0 (some r) ((Bl.ty ⟨#[108, 105, 115, 116]⟩ (Bl.consL F0 p1 l1).1 (Bl.consL F0 p1 l1).2).1) ((Bl.ty ⟨#[108, 105, 115, 116]⟩ (Bl.consL F0 p1 l1).1 (Bl.consL F0 p1 l1).2).2))), (6, .sat (nR 0 (some r) .nil)), (8, .val (.bool false)), (990, .sat (gP 0 (some r))), (12, .sat (rC 0 r ((Bl.consL F0 p1 l1).1) ((Bl.consL F0 p1 l1).2)))]
theorem lLists19b_0 {Q : Exit → Act → World → Prop} (F0 : Fo) (p1 : Pay) (l1 : Fo) (r : Nat) (hv : Tm.validB (Bl.consL F0 p1 l1).1 (Bl.consL F0 p1 l1).2 = true) (gs : ¬ 2000 < 1 + Tm.size (Bl.consL F0 p1 l1).2 + 4) : RStep (strip lLists19Ops) Q (fun i => ((lLists19bEs F0 p1 l1 r)[i]?).getD .any) (fun i => (lLists19bDs[i]?).getD (1000 + i)) (look (lLists19bEnv F0 p1 l1 r)) 141 0 := fun _ => step_move (by kernel_rfl) (Opd.of_base 8 rfl) rfl
theorem lLists19b_1 {Q : Exit → Act → World → Prop} (F0 : Fo) (p1 : Pay) (l1 : Fo) (r : Nat) (hv : Tm.validB (Bl.consL F0 p1 l1).1 (Bl.consL F0 p1 l1).2 = true) (gs : ¬ 2000 < 1 + Tm.size (Bl.consL F0 p1 l1).2 + 4) : RStep (strip lLists19Ops) Q (fun i => ((lLists19bEs F0 p1 l1 r)[i]?).getD .any) (fun i => (lLists19bDs[i]?).getD (1000 + i)) (look (lLists19bEnv F0 p1 l1 r)) 141 1 := fun _ => step_not (by kernel_rfl) (Opd.dep 0 rfl rfl (by kernel_rfl)) rfl
theorem lLists19b_2 {Q : Exit → Act → World → Prop} (F0 : Fo) (p1 : Pay) (l1 : Fo) (r : Nat) (hv : Tm.validB (Bl.consL F0 p1 l1).1 (Bl.consL F0 p1 l1).2 = true) (gs : ¬ 2000 < 1 + Tm.size (Bl.consL F0 p1 l1).2 + 4) : RStep (strip lLists19Ops) Q (fun i => ((lLists19bEs F0 p1 l1 r)[i]?).getD .any) (fun i => (lLists19bDs[i]?).getD (1000 + i)) (look (lLists19bEnv F0 p1 l1 r)) 141 2 := fun _ => step_move (by kernel_rfl) (Opd.dep 1 rfl rfl (by kernel_rfl)) rfl
theorem lLists19b_3 {Q : Exit → Act → World → Prop} (F0 : Fo) (p1 : Pay) (l1 : Fo) (r : Nat) (hv : Tm.validB (Bl.consL F0 p1 l1).1 (Bl.consL F0 p1 l1).2 = true) (gs : ¬ 2000 < 1 + Tm.size (Bl.consL F0 p1 l1).2 + 4) : RStep (strip lLists19Ops) Q (fun i => ((lLists19bEs F0 p1 l1 r)[i]?).getD .any) (fun i => (lLists19bDs[i]?).getD (1000 + i)) (look (lLists19bEnv F0 p1 l1 r)) 141 3 := fun _ => step_move (by kernel_rfl) (Opd.of_base 6 rfl) rfl
theorem lLists19b_4 {Q : Exit → Act → World → Prop} (F0 : Fo) (p1 : Pay) (l1 : Fo) (r : Nat) (hv : Tm.validB (Bl.consL F0 p1 l1).1 (Bl.consL F0 p1 l1).2 = true) (gs : ¬ 2000 < 1 + Tm.size (Bl.consL F0 p1 l1).2 + 4) : RStep (strip lLists19Ops) Q (fun i => ((lLists19bEs F0 p1 l1 r)[i]?).getD .any) (fun i => (lLists19bDs[i]?).getD (1000 + i)) (look (lLists19bEnv F0 p1 l1 r)) 141 4 := fun _ => step_len_row (by kernel_rfl) (Opd.ofR (Opd.dep 3 rfl rfl (by kernel_rfl))) rfl
theorem lLists19b_5 {Q : Exit → Act → World → Prop} (F0 : Fo) (p1 : Pay) (l1 : Fo) (r : Nat) (hv : Tm.validB (Bl.consL F0 p1 l1).1 (Bl.consL F0 p1 l1).2 = true) (gs : ¬ 2000 < 1 + Tm.size (Bl.consL F0 p1 l1).2 + 4) : RStep (strip lLists19Ops) Q (fun i => ((lLists19bEs F0 p1 l1 r)[i]?).getD .any) (fun i => (lLists19bDs[i]?).getD (1000 + i)) (look (lLists19bEnv F0 p1 l1 r)) 141 5 := fun _ => step_eqb_int (m := ((Tm.len .nil : Nat) : Int)) (n := 0) (by kernel_rfl) (Opd.dep 4 rfl rfl (by kernel_rfl)) (Opd.const _) rfl rfl
theorem lLists19b_6 {Q : Exit → Act → World → Prop} (F0 : Fo) (p1 : Pay) (l1 : Fo) (r : Nat) (hv : Tm.validB (Bl.consL F0 p1 l1).1 (Bl.consL F0 p1 l1).2 = true) (gs : ¬ 2000 < 1 + Tm.size (Bl.consL F0 p1 l1).2 + 4) : RStep (strip lLists19Ops) Q (fun i => ((lLists19bEs F0 p1 l1 r)[i]?).getD .any) (fun i => (lLists19bDs[i]?).getD (1000 + i)) (look (lLists19bEnv F0 p1 l1 r)) 141 6 := fun _ => step_pick_yes (y := .const (.bool false)) (by kernel_rfl) (Opd.dep 2 rfl rfl (by kernel_rfl)) (Opd.dep 5 rfl rfl (by kernel_rfl)) rfl
theorem lLists19b_7 {Q : Exit → Act → World → Prop} (F0 : Fo) (p1 : Pay) (l1 : Fo) (r : Nat) (hv : Tm.validB (Bl.consL F0 p1 l1).1 (Bl.consL F0 p1 l1).2 = true) (gs : ¬ 2000 < 1 + Tm.size (Bl.consL F0 p1 l1).2 + 4) : RStep (strip lLists19Ops) Q (fun i => ((lLists19bEs F0 p1 l1 r)[i]?).getD .any) (fun i => (lLists19bDs[i]?).getD (1000 + i)) (look (lLists19bEnv F0 p1 l1 r)) 141 7 := fun _ => step_move (by kernel_rfl) (Opd.dep 6 rfl rfl (by kernel_rfl)) rfl
theorem lLists19b_8 {Q : Exit → Act → World → Prop} (F0 : Fo) (p1 : Pay) (l1 : Fo) (r : Nat) (hv : Tm.validB (Bl.consL F0 p1 l1).1 (Bl.consL F0 p1 l1).2 = true) (gs : ¬ 2000 < 1 + Tm.size (Bl.consL F0 p1 l1).2 + 4) : RStep (strip lLists19Ops) Q (fun i => ((lLists19bEs F0 p1 l1 r)[i]?).getD .any) (fun i => (lLists19bDs[i]?).getD (1000 + i)) (look (lLists19bEnv F0 p1 l1 r)) 141 8 := fun _ => step_nload (by kernel_rfl) (Opd.of_base 7 rfl) rfl
theorem lLists19b_9 {Q : Exit → Act → World → Prop} (F0 : Fo) (p1 : Pay) (l1 : Fo) (r : Nat) (hv : Tm.validB (Bl.consL F0 p1 l1).1 (Bl.consL F0 p1 l1).2 = true) (gs : ¬ 2000 < 1 + Tm.size (Bl.consL F0 p1 l1).2 + 4) : RStep (strip lLists19Ops) Q (fun i => ((lLists19bEs F0 p1 l1 r)[i]?).getD .any) (fun i => (lLists19bDs[i]?).getD (1000 + i)) (look (lLists19bEnv F0 p1 l1 r)) 141 9 := fun _ => step_la (g := 990) (by kernel_rfl) (Opd.const _) (Opd.of_base 990 rfl) rfl
theorem lLists19b_10 {Q : Exit → Act → World → Prop} (F0 : Fo) (p1 : Pay) (l1 : Fo) (r : Nat) (hv : Tm.validB (Bl.consL F0 p1 l1).1 (Bl.consL F0 p1 l1).2 = true) (gs : ¬ 2000 < 1 + Tm.size (Bl.consL F0 p1 l1).2 + 4) : RStep (strip lLists19Ops) Q (fun i => ((lLists19bEs F0 p1 l1 r)[i]?).getD .any) (fun i => (lLists19bDs[i]?).getD (1000 + i)) (look (lLists19bEnv F0 p1 l1 r)) 141 10 := fun _ => step_cload (by kernel_rfl) (Opd.of_base 12 rfl) rfl
theorem lLists19b_11 {Q : Exit → Act → World → Prop} (F0 : Fo) (p1 : Pay) (l1 : Fo) (r : Nat) (hv : Tm.validB (Bl.consL F0 p1 l1).1 (Bl.consL F0 p1 l1).2 = true) (gs : ¬ 2000 < 1 + Tm.size (Bl.consL F0 p1 l1).2 + 4) : RStep (strip lLists19Ops) Q (fun i => ((lLists19bEs F0 p1 l1 r)[i]?).getD .any) (fun i => (lLists19bDs[i]?).getD (1000 + i)) (look (lLists19bEnv F0 p1 l1 r)) 141 11 := fun _ => step_nslice2 (g := 990) (by kernel_rfl) (Opd.dep 9 rfl rfl (by kernel_rfl)) (Opd.dep 10 rfl rfl (by kernel_rfl)) (Opd.of_base 990 rfl) rfl
theorem lLists19b_12 {Q : Exit → Act → World → Prop} (F0 : Fo) (p1 : Pay) (l1 : Fo) (r : Nat) (hv : Tm.validB (Bl.consL F0 p1 l1).1 (Bl.consL F0 p1 l1).2 = true) (gs : ¬ 2000 < 1 + Tm.size (Bl.consL F0 p1 l1).2 + 4) : RStep (strip lLists19Ops) Q (fun i => ((lLists19bEs F0 p1 l1 r)[i]?).getD .any) (fun i => (lLists19bDs[i]?).getD (1000 + i)) (look (lLists19bEnv F0 p1 l1 r)) 141 12 := fun _ => step_lf (by kernel_rfl) (Opd.const _) (Opd.ofK (Opd.dep 11 rfl rfl (by kernel_rfl))) rfl
theorem lLists19b_13 {Q : Exit → Act → World → Prop} (F0 : Fo) (p1 : Pay) (l1 : Fo) (r : Nat) (hv : Tm.validB (Bl.consL F0 p1 l1).1 (Bl.consL F0 p1 l1).2 = true) (gs : ¬ 2000 < 1 + Tm.size (Bl.consL F0 p1 l1).2 + 4) : RStep (strip lLists19Ops) Q (fun i => ((lLists19bEs F0 p1 l1 r)[i]?).getD .any) (fun i => (lLists19bDs[i]?).getD (1000 + i)) (look (lLists19bEnv F0 p1 l1 r)) 141 13 := fun _ => step_lerrN (g := 990) (by kernel_rfl) (Opd.dep 12 rfl rfl (by kernel_rfl)) (Opd.of_base 990 rfl) rfl
theorem lLists19b_14 {Q : Exit → Act → World → Prop} (F0 : Fo) (p1 : Pay) (l1 : Fo) (r : Nat) (hv : Tm.validB (Bl.consL F0 p1 l1).1 (Bl.consL F0 p1 l1).2 = true) (gs : ¬ 2000 < 1 + Tm.size (Bl.consL F0 p1 l1).2 + 4) : RStep (strip lLists19Ops) Q (fun i => ((lLists19bEs F0 p1 l1 r)[i]?).getD .any) (fun i => (lLists19bDs[i]?).getD (1000 + i)) (look (lLists19bEnv F0 p1 l1 r)) 141 14 := fun _ => step_lsame (by kernel_rfl) (Opd.ofT (Opd.dep 8 rfl rfl (by kernel_rfl))) (Opd.ofT (Opd.dep 13 rfl rfl (by kernel_rfl))) (congrArg (fun b => Kd.val (.bool b)) (Eq.symm (Bl.same_of (Bl.ty_small Bl.listN_valid hv gs) (Bl.ty_valid _ _ _))))
theorem lLists19b_15 {Q : Exit → Act → World → Prop} (F0 : Fo) (p1 : Pay) (l1 : Fo) (r : Nat) (hv : Tm.validB (Bl.consL F0 p1 l1).1 (Bl.consL F0 p1 l1).2 = true) (gs : ¬ 2000 < 1 + Tm.size (Bl.consL F0 p1 l1).2 + 4) : RStep (strip lLists19Ops) Q (fun i => ((lLists19bEs F0 p1 l1 r)[i]?).getD .any) (fun i => (lLists19bDs[i]?).getD (1000 + i)) (look (lLists19bEnv F0 p1 l1 r)) 141 15 := fun _ => step_pick_yes (y := .const (.bool false)) (by kernel_rfl) (Opd.dep 7 rfl rfl (by kernel_rfl)) (Opd.dep 14 rfl rfl (by kernel_rfl)) rfl
theorem lLists19b_16 {Q : Exit → Act → World → Prop} (F0 : Fo) (p1 : Pay) (l1 : Fo) (r : Nat) (hv : Tm.validB (Bl.consL F0 p1 l1).1 (Bl.consL F0 p1 l1).2 = true) (gs : ¬ 2000 < 1 + Tm.size (Bl.consL F0 p1 l1).2 + 4) : RStep (strip lLists19Ops) Q (fun i => ((lLists19bEs F0 p1 l1 r)[i]?).getD .any) (fun i => (lLists19bDs[i]?).getD (1000 + i)) (look (lLists19bEnv F0 p1 l1 r)) 141 16 := fun _ => step_move (by kernel_rfl) (Opd.dep 15 rfl rfl (by kernel_rfl)) rfl
theorem lLists19b_17 {Q : Exit → Act → World → Prop} (F0 : Fo) (p1 : Pay) (l1 : Fo) (r : Nat) (hv : Tm.validB (Bl.consL F0 p1 l1).1 (Bl.consL F0 p1 l1).2 = true) (gs : ¬ 2000 < 1 + Tm.size (Bl.consL F0 p1 l1).2 + 4) : RStep (strip lLists19Ops) Q (fun i => ((lLists19bEs F0 p1 l1 r)[i]?).getD .any) (fun i => (lLists19bDs[i]?).getD (1000 + i)) (look (lLists19bEnv F0 p1 l1 r)) 141 17 := fun _ => step_awake (by kernel_rfl)  rfl
theorem lLists19b_18 {Q : Exit → Act → World → Prop} (F0 : Fo) (p1 : Pay) (l1 : Fo) (r : Nat) (hv : Tm.validB (Bl.consL F0 p1 l1).1 (Bl.consL F0 p1 l1).2 = true) (gs : ¬ 2000 < 1 + Tm.size (Bl.consL F0 p1 l1).2 + 4) : RStep (strip lLists19Ops) Q (fun i => ((lLists19bEs F0 p1 l1 r)[i]?).getD .any) (fun i => (lLists19bDs[i]?).getD (1000 + i)) (look (lLists19bEnv F0 p1 l1 r)) 141 18 := fun _ => step_pick_yes (y := .const (.bool false)) (by kernel_rfl) (Opd.dep 16 rfl rfl (by kernel_rfl)) (Opd.dep 17 rfl rfl (by kernel_rfl)) rfl
theorem lLists19b_19 {Q : Exit → Act → World → Prop} (F0 : Fo) (p1 : Pay) (l1 : Fo) (r : Nat) (hv : Tm.validB (Bl.consL F0 p1 l1).1 (Bl.consL F0 p1 l1).2 = true) (gs : ¬ 2000 < 1 + Tm.size (Bl.consL F0 p1 l1).2 + 4) : RStep (strip lLists19Ops) Q (fun i => ((lLists19bEs F0 p1 l1 r)[i]?).getD .any) (fun i => (lLists19bDs[i]?).getD (1000 + i)) (look (lLists19bEnv F0 p1 l1 r)) 141 19 := fun _ => step_assign (by kernel_rfl) (Opd.dep 18 rfl rfl (by kernel_rfl)) rfl
theorem lLists19b_region {Q : Exit → Act → World → Prop} (F0 : Fo) (p1 : Pay) (l1 : Fo) (r : Nat) (hv : Tm.validB (Bl.consL F0 p1 l1).1 (Bl.consL F0 p1 l1).2 = true) (gs : ¬ 2000 < 1 + Tm.size (Bl.consL F0 p1 l1).2 + 4) {w0 : World} {a : Act} {w : World} (hr : w0.heap.size ≤ r) (h : Hold 141 [(7, .sat (nP 0 (some r) ((Bl.ty ⟨#[108, 105, 115, 116]⟩ (Bl.consL F0 p1 l1).1 (Bl.consL F0 p1 l1).2).1) ((Bl.ty ⟨#[108, 105, 115, 116]⟩ (Bl.consL F0 p1 l1).1 (Bl.consL F0 p1 l1).2).2))), (6, .sat (nR 0 (some r) .nil)), (8, .val (.bool false)), (990, .sat (gP 0 (some r))), (12, .sat (rC 0 r ((Bl.consL F0 p1 l1).1) ((Bl.consL F0 p1 l1).2)))] w0 a w)
    (hQ : ∀ a' w', Hold 141 [(990, .sat (gP 0 (some r))), (4, .val (.bool true))] w0 a' w' → Q .normal a' w') : (Code.region 19 lLists19Ops true).wp Try.prog Q a w := by
  have hall : ∀ i, i < 0 → RStep (strip lLists19Ops) Q (fun i => ((lLists19bEs F0 p1 l1 r)[i]?).getD .any) (fun i => (lLists19bDs[i]?).getD (1000 + i)) (look (lLists19bEnv F0 p1 l1 r)) 141 i := fun i hi => absurd hi (by omega)
  have hall := below_succ hall (lLists19b_0 F0 p1 l1 r hv gs)
  have hall := below_succ hall (lLists19b_1 F0 p1 l1 r hv gs)
  have hall := below_succ hall (lLists19b_2 F0 p1 l1 r hv gs)
  have hall := below_succ hall (lLists19b_3 F0 p1 l1 r hv gs)
  have hall := below_succ hall (lLists19b_4 F0 p1 l1 r hv gs)
  have hall := below_succ hall (lLists19b_5 F0 p1 l1 r hv gs)
  have hall := below_succ hall (lLists19b_6 F0 p1 l1 r hv gs)
  have hall := below_succ hall (lLists19b_7 F0 p1 l1 r hv gs)
  have hall := below_succ hall (lLists19b_8 F0 p1 l1 r hv gs)
  have hall := below_succ hall (lLists19b_9 F0 p1 l1 r hv gs)
  have hall := below_succ hall (lLists19b_10 F0 p1 l1 r hv gs)
  have hall := below_succ hall (lLists19b_11 F0 p1 l1 r hv gs)
  have hall := below_succ hall (lLists19b_12 F0 p1 l1 r hv gs)
  have hall := below_succ hall (lLists19b_13 F0 p1 l1 r hv gs)
  have hall := below_succ hall (lLists19b_14 F0 p1 l1 r hv gs)
  have hall := below_succ hall (lLists19b_15 F0 p1 l1 r hv gs)
  have hall := below_succ hall (lLists19b_16 F0 p1 l1 r hv gs)
  have hall := below_succ hall (lLists19b_17 F0 p1 l1 r hv gs)
  have hall := below_succ hall (lLists19b_18 F0 p1 l1 r hv gs)
  have hall := below_succ hall (lLists19b_19 F0 p1 l1 r hv gs)
  refine env_then (m := 20) (n := 20) lLists19bDs (lLists19bEs F0 p1 l1 r) rfl (by kernel_rfl) (by decide) (by kernel_rfl) (of_decide_eq_true (by kernel_rfl)) (by kernel_rfl) (by kernel_rfl) (fun i_ hi_ => hall i_ hi_) h fun a w h => ?_
  clear hall
  have h := h.keep [7, 6, 8, 990, 12, 122, 123, 124, 125, 126, 127, 128, 129, 130, 131, 132, 133, 134, 135, 136, 137, 138, 139, 140, 4]
  show wpOps Try.prog _ Q [] a w
  exact hQ a w (h.keep [990, 4])
theorem lLists9b_region {Q : Exit → Act → World → Prop} (F0 : Fo) (p1 : Pay) (l1 : Fo) (a1 : p1.1 = 3) (a2 : ¬ p1.2.2 = (⟨#[46]⟩ : ByteArray)) {w0 : World} {a : Act} {w : World} (h : Hold 141 [(0, .row F0), (990, .sat (gP 0 none)), (3, .ptrT p1 l1), (4, .val (.bool false)), (5, .ptrT ((Bl.consL F0 p1 l1).1) ((Bl.consL F0 p1 l1).2)), (7, .ptrT ((Bl.ty ⟨#[108, 105, 115, 116]⟩ (Bl.consL F0 p1 l1).1 (Bl.consL F0 p1 l1).2).1) ((Bl.ty ⟨#[108, 105, 115, 116]⟩ (Bl.consL F0 p1 l1).1 (Bl.consL F0 p1 l1).2).2)), (6, .sat (nR 0 none .nil)), (8, .val (.bool false))] w0 a w)
    (hQ : ∀ a' w', Hold 141 [(0, .row F0), (990, .sat (gP 0 none)), (3, .ptrT p1 l1), (4, .val (.bool false)), (5, .ptrT ((Bl.consL F0 p1 l1).1) ((Bl.consL F0 p1 l1).2)), (7, .ptrT ((Bl.ty ⟨#[108, 105, 115, 116]⟩ (Bl.consL F0 p1 l1).1 (Bl.consL F0 p1 l1).2).1) ((Bl.ty ⟨#[108, 105, 115, 116]⟩ (Bl.consL F0 p1 l1).1 (Bl.consL F0 p1 l1).2).2)), (6, .sat (nR 0 none .nil)), (8, .val (.bool false)), (70, .val (.bool false))] w0 a' w' → Q .normal a' w') : (Code.region 9 lLists9Ops false).wp Try.prog Q a w := by
  refine region_seq (w0 := w) 15 (by kernel_rfl) ?_
  rw [show List.range 15 = [0, 1, 2, 3, 4, 5, 6, 7, 8, 9, 10, 11, 12, 13, 14] from rfl]
  refine env_one (i := 0) (d := 71) (k := .ptrI (p1.1)) (step_field0 (by kernel_rfl) (Opd.of_base 3 rfl) rfl) (by kernel_rfl) (by decide) h ?_
  clear h
  intro a w h
  refine env_one (i := 1) (d := 72) (k := .val (.int .i64 (p1.1))) (step_load_int3 (by kernel_rfl) (Opd.of_base 71 rfl) rfl) (by kernel_rfl) (by decide) h ?_
  clear h
  intro a w h
  refine env_one (i := 2) (d := 73) (k := .val (.bool true)) (step_eqb_int (m := (p1.1)) (n := 3) (by kernel_rfl) (Opd.of_base 72 rfl) (Opd.const _) (by rw [a1]; rfl) rfl) (by kernel_rfl) (by decide) h ?_
  clear h
  intro a w h
  refine env_one (i := 3) (d := 74) (k := .val (.bool true)) (step_move (by kernel_rfl) (Opd.of_base 73 rfl) rfl) (by kernel_rfl) (by decide) h ?_
  clear h
  intro a w h
  refine env_guard (i := 4) (d := 75) (g := 3) (dg := 74) (b := true) (k := .ptrS (p1.2.2)) (step_field2 (by kernel_rfl) (Opd.of_base 3 rfl) rfl) (by kernel_rfl) (by decide) (by kernel_rfl) (by decide) rfl h ?_
  clear h
  intro a w h
  refine env_guard (i := 5) (d := 76) (g := 3) (dg := 74) (b := true) (k := .val (.string (p1.2.2))) (step_load_string (by kernel_rfl) (Opd.of_base 75 rfl) rfl) (by kernel_rfl) (by decide) (by kernel_rfl) (by decide) rfl h ?_
  clear h
  intro a w h
  refine env_guard (i := 6) (d := 77) (g := 3) (dg := 74) (b := true) (k := .val (.bool false)) (step_eqb_str (s := (p1.2.2)) (t := ⟨#[46]⟩) (by kernel_rfl) (Opd.of_base 76 rfl) (Opd.const _) (decide_eq_false a2) rfl) (by kernel_rfl) (by decide) (by kernel_rfl) (by decide) rfl h ?_
  clear h
  intro a w h
  refine env_one (i := 7) (d := 78) (k := .val (.bool false)) (step_pick_yes (y := .const (.bool false)) (by kernel_rfl) (Opd.of_base 74 rfl) (Opd.of_base 77 rfl) rfl) (by kernel_rfl) (by decide) h ?_
  clear h
  intro a w h
  refine env_one (i := 8) (d := 79) (k := .val (.bool false)) (step_move (by kernel_rfl) (Opd.of_base 78 rfl) rfl) (by kernel_rfl) (by decide) h ?_
  clear h
  intro a w h
  refine env_skip (i := 9) (d := 80) (g := 8) (dg := 79) (b := true) (by kernel_rfl) (by decide) (by kernel_rfl) rfl rfl h ?_
  clear h
  intro a w h
  refine env_skip (i := 10) (d := 81) (g := 8) (dg := 79) (b := true) (by kernel_rfl) (by decide) (by kernel_rfl) rfl rfl h ?_
  clear h
  intro a w h
  refine env_skip (i := 11) (d := 82) (g := 8) (dg := 79) (b := true) (by kernel_rfl) (by decide) (by kernel_rfl) rfl rfl h ?_
  clear h
  intro a w h
  refine env_skip (i := 12) (d := 83) (g := 8) (dg := 79) (b := true) (by kernel_rfl) (by decide) (by kernel_rfl) rfl rfl h ?_
  clear h
  intro a w h
  refine env_one (i := 13) (d := 84) (k := .val (.bool false)) (step_pick_no (x := .tmp 83) (by kernel_rfl) (Opd.of_base 79 rfl) (Opd.const _) rfl) (by kernel_rfl) (by decide) h ?_
  clear h
  intro a w h
  refine env_one (i := 14) (d := 70) (k := .val (.bool false)) (step_assign (by kernel_rfl) (Opd.of_base 84 rfl) rfl) (by kernel_rfl) (by decide) h ?_
  clear h
  intro a w h
  exact hQ a w (h.keep [0, 990, 3, 4, 5, 7, 6, 8, 70])
theorem lLists9c_region {Q : Exit → Act → World → Prop} (F0 : Fo) (p1 : Pay) (l1 : Fo) (a1 : p1.1 = 3) (a2 : p1.2.2 = (⟨#[46]⟩ : ByteArray)) (a3 : ¬ ((Tm.len l1 : Nat) : Int) = 2) {w0 : World} {a : Act} {w : World} (h : Hold 141 [(0, .row F0), (990, .sat (gP 0 none)), (3, .ptrT p1 l1), (4, .val (.bool false)), (5, .ptrT ((Bl.consL F0 p1 l1).1) ((Bl.consL F0 p1 l1).2)), (7, .ptrT ((Bl.ty ⟨#[108, 105, 115, 116]⟩ (Bl.consL F0 p1 l1).1 (Bl.consL F0 p1 l1).2).1) ((Bl.ty ⟨#[108, 105, 115, 116]⟩ (Bl.consL F0 p1 l1).1 (Bl.consL F0 p1 l1).2).2)), (6, .sat (nR 0 none .nil)), (8, .val (.bool false))] w0 a w)
    (hQ : ∀ a' w', Hold 141 [(0, .row F0), (990, .sat (gP 0 none)), (3, .ptrT p1 l1), (4, .val (.bool false)), (5, .ptrT ((Bl.consL F0 p1 l1).1) ((Bl.consL F0 p1 l1).2)), (7, .ptrT ((Bl.ty ⟨#[108, 105, 115, 116]⟩ (Bl.consL F0 p1 l1).1 (Bl.consL F0 p1 l1).2).1) ((Bl.ty ⟨#[108, 105, 115, 116]⟩ (Bl.consL F0 p1 l1).1 (Bl.consL F0 p1 l1).2).2)), (6, .sat (nR 0 none .nil)), (8, .val (.bool false)), (70, .val (.bool false))] w0 a' w' → Q .normal a' w') : (Code.region 9 lLists9Ops false).wp Try.prog Q a w := by
  refine region_seq (w0 := w) 15 (by kernel_rfl) ?_
  rw [show List.range 15 = [0, 1, 2, 3, 4, 5, 6, 7, 8, 9, 10, 11, 12, 13, 14] from rfl]
  refine env_one (i := 0) (d := 71) (k := .ptrI (p1.1)) (step_field0 (by kernel_rfl) (Opd.of_base 3 rfl) rfl) (by kernel_rfl) (by decide) h ?_
  clear h
  intro a w h
  refine env_one (i := 1) (d := 72) (k := .val (.int .i64 (p1.1))) (step_load_int3 (by kernel_rfl) (Opd.of_base 71 rfl) rfl) (by kernel_rfl) (by decide) h ?_
  clear h
  intro a w h
  refine env_one (i := 2) (d := 73) (k := .val (.bool true)) (step_eqb_int (m := (p1.1)) (n := 3) (by kernel_rfl) (Opd.of_base 72 rfl) (Opd.const _) (by rw [a1]; rfl) rfl) (by kernel_rfl) (by decide) h ?_
  clear h
  intro a w h
  refine env_one (i := 3) (d := 74) (k := .val (.bool true)) (step_move (by kernel_rfl) (Opd.of_base 73 rfl) rfl) (by kernel_rfl) (by decide) h ?_
  clear h
  intro a w h
  refine env_guard (i := 4) (d := 75) (g := 3) (dg := 74) (b := true) (k := .ptrS (p1.2.2)) (step_field2 (by kernel_rfl) (Opd.of_base 3 rfl) rfl) (by kernel_rfl) (by decide) (by kernel_rfl) (by decide) rfl h ?_
  clear h
  intro a w h
  refine env_guard (i := 5) (d := 76) (g := 3) (dg := 74) (b := true) (k := .val (.string (p1.2.2))) (step_load_string (by kernel_rfl) (Opd.of_base 75 rfl) rfl) (by kernel_rfl) (by decide) (by kernel_rfl) (by decide) rfl h ?_
  clear h
  intro a w h
  refine env_guard (i := 6) (d := 77) (g := 3) (dg := 74) (b := true) (k := .val (.bool true)) (step_eqb_str (s := (p1.2.2)) (t := ⟨#[46]⟩) (by kernel_rfl) (Opd.of_base 76 rfl) (Opd.const _) (decide_eq_true a2) rfl) (by kernel_rfl) (by decide) (by kernel_rfl) (by decide) rfl h ?_
  clear h
  intro a w h
  refine env_one (i := 7) (d := 78) (k := .val (.bool true)) (step_pick_yes (y := .const (.bool false)) (by kernel_rfl) (Opd.of_base 74 rfl) (Opd.of_base 77 rfl) rfl) (by kernel_rfl) (by decide) h ?_
  clear h
  intro a w h
  refine env_one (i := 8) (d := 79) (k := .val (.bool true)) (step_move (by kernel_rfl) (Opd.of_base 78 rfl) rfl) (by kernel_rfl) (by decide) h ?_
  clear h
  intro a w h
  refine env_guard (i := 9) (d := 80) (g := 8) (dg := 79) (b := true) (k := .ptrR l1) (step_field3 (by kernel_rfl) (Opd.of_base 3 rfl) rfl) (by kernel_rfl) (by decide) (by kernel_rfl) (by decide) rfl h ?_
  clear h
  intro a w h
  refine env_guard (i := 10) (d := 81) (g := 8) (dg := 79) (b := true) (k := .row l1) (step_load_row (by kernel_rfl) (Opd.of_base 80 rfl) rfl) (by kernel_rfl) (by decide) (by kernel_rfl) (by decide) rfl h ?_
  clear h
  intro a w h
  refine env_guard (i := 11) (d := 82) (g := 8) (dg := 79) (b := true) (k := .val (.int .i64 ((Tm.len l1 : Nat) : Int))) (step_len_row (by kernel_rfl) (Opd.of_base 81 rfl) rfl) (by kernel_rfl) (by decide) (by kernel_rfl) (by decide) rfl h ?_
  clear h
  intro a w h
  refine env_guard (i := 12) (d := 83) (g := 8) (dg := 79) (b := true) (k := .val (.bool false)) (step_eqb_int (m := ((Tm.len l1 : Nat) : Int)) (n := 2) (by kernel_rfl) (Opd.of_base 82 rfl) (Opd.const _) (by simpa using a3) rfl) (by kernel_rfl) (by decide) (by kernel_rfl) (by decide) rfl h ?_
  clear h
  intro a w h
  refine env_one (i := 13) (d := 84) (k := .val (.bool false)) (step_pick_yes (y := .const (.bool false)) (by kernel_rfl) (Opd.of_base 79 rfl) (Opd.of_base 83 rfl) rfl) (by kernel_rfl) (by decide) h ?_
  clear h
  intro a w h
  refine env_one (i := 14) (d := 70) (k := .val (.bool false)) (step_assign (by kernel_rfl) (Opd.of_base 84 rfl) rfl) (by kernel_rfl) (by decide) h ?_
  clear h
  intro a w h
  exact hQ a w (h.keep [0, 990, 3, 4, 5, 7, 6, 8, 70])
theorem lLists9d_region {Q : Exit → Act → World → Prop} (F0 : Fo) (p1 : Pay) (l1 : Fo) (a1 : p1.1 = 3) (a2 : p1.2.2 = (⟨#[46]⟩ : ByteArray)) (a3 : ((Tm.len l1 : Nat) : Int) = 2) {w0 : World} {a : Act} {w : World} (h : Hold 141 [(0, .row F0), (990, .sat (gP 0 none)), (3, .ptrT p1 l1), (4, .val (.bool false)), (5, .ptrT ((Bl.consL F0 p1 l1).1) ((Bl.consL F0 p1 l1).2)), (7, .ptrT (((Bl.list ((Bl.consL F0 p1 l1).1) ((Bl.consL F0 p1 l1).2)).2.1).1) (((Bl.list ((Bl.consL F0 p1 l1).1) ((Bl.consL F0 p1 l1).2)).2.1).2)), (6, .sat (nR 0 none ((Bl.list ((Bl.consL F0 p1 l1).1) ((Bl.consL F0 p1 l1).2)).1))), (8, .val (.bool ((Bl.list ((Bl.consL F0 p1 l1).1) ((Bl.consL F0 p1 l1).2)).2.2)))] w0 a w)
    (hQ : ∀ a' w', Hold 141 [(0, .row F0), (990, .sat (gP 0 none)), (3, .ptrT p1 l1), (4, .val (.bool false)), (5, .ptrT ((Bl.consL F0 p1 l1).1) ((Bl.consL F0 p1 l1).2)), (7, .ptrT (((Bl.list ((Bl.consL F0 p1 l1).1) ((Bl.consL F0 p1 l1).2)).2.1).1) (((Bl.list ((Bl.consL F0 p1 l1).1) ((Bl.consL F0 p1 l1).2)).2.1).2)), (6, .sat (nR 0 none ((Bl.list ((Bl.consL F0 p1 l1).1) ((Bl.consL F0 p1 l1).2)).1))), (8, .val (.bool ((Bl.list ((Bl.consL F0 p1 l1).1) ((Bl.consL F0 p1 l1).2)).2.2))), (70, .val (.bool true))] w0 a' w' → Q .normal a' w') : (Code.region 9 lLists9Ops false).wp Try.prog Q a w := by
  refine region_seq (w0 := w) 15 (by kernel_rfl) ?_
  rw [show List.range 15 = [0, 1, 2, 3, 4, 5, 6, 7, 8, 9, 10, 11, 12, 13, 14] from rfl]
  refine env_one (i := 0) (d := 71) (k := .ptrI (p1.1)) (step_field0 (by kernel_rfl) (Opd.of_base 3 rfl) rfl) (by kernel_rfl) (by decide) h ?_
  clear h
  intro a w h
  refine env_one (i := 1) (d := 72) (k := .val (.int .i64 (p1.1))) (step_load_int3 (by kernel_rfl) (Opd.of_base 71 rfl) rfl) (by kernel_rfl) (by decide) h ?_
  clear h
  intro a w h
  refine env_one (i := 2) (d := 73) (k := .val (.bool true)) (step_eqb_int (m := (p1.1)) (n := 3) (by kernel_rfl) (Opd.of_base 72 rfl) (Opd.const _) (by rw [a1]; rfl) rfl) (by kernel_rfl) (by decide) h ?_
  clear h
  intro a w h
  refine env_one (i := 3) (d := 74) (k := .val (.bool true)) (step_move (by kernel_rfl) (Opd.of_base 73 rfl) rfl) (by kernel_rfl) (by decide) h ?_
  clear h
  intro a w h
  refine env_guard (i := 4) (d := 75) (g := 3) (dg := 74) (b := true) (k := .ptrS (p1.2.2)) (step_field2 (by kernel_rfl) (Opd.of_base 3 rfl) rfl) (by kernel_rfl) (by decide) (by kernel_rfl) (by decide) rfl h ?_
  clear h
  intro a w h
  refine env_guard (i := 5) (d := 76) (g := 3) (dg := 74) (b := true) (k := .val (.string (p1.2.2))) (step_load_string (by kernel_rfl) (Opd.of_base 75 rfl) rfl) (by kernel_rfl) (by decide) (by kernel_rfl) (by decide) rfl h ?_
  clear h
  intro a w h
  refine env_guard (i := 6) (d := 77) (g := 3) (dg := 74) (b := true) (k := .val (.bool true)) (step_eqb_str (s := (p1.2.2)) (t := ⟨#[46]⟩) (by kernel_rfl) (Opd.of_base 76 rfl) (Opd.const _) (decide_eq_true a2) rfl) (by kernel_rfl) (by decide) (by kernel_rfl) (by decide) rfl h ?_
  clear h
  intro a w h
  refine env_one (i := 7) (d := 78) (k := .val (.bool true)) (step_pick_yes (y := .const (.bool false)) (by kernel_rfl) (Opd.of_base 74 rfl) (Opd.of_base 77 rfl) rfl) (by kernel_rfl) (by decide) h ?_
  clear h
  intro a w h
  refine env_one (i := 8) (d := 79) (k := .val (.bool true)) (step_move (by kernel_rfl) (Opd.of_base 78 rfl) rfl) (by kernel_rfl) (by decide) h ?_
  clear h
  intro a w h
  refine env_guard (i := 9) (d := 80) (g := 8) (dg := 79) (b := true) (k := .ptrR l1) (step_field3 (by kernel_rfl) (Opd.of_base 3 rfl) rfl) (by kernel_rfl) (by decide) (by kernel_rfl) (by decide) rfl h ?_
  clear h
  intro a w h
  refine env_guard (i := 10) (d := 81) (g := 8) (dg := 79) (b := true) (k := .row l1) (step_load_row (by kernel_rfl) (Opd.of_base 80 rfl) rfl) (by kernel_rfl) (by decide) (by kernel_rfl) (by decide) rfl h ?_
  clear h
  intro a w h
  refine env_guard (i := 11) (d := 82) (g := 8) (dg := 79) (b := true) (k := .val (.int .i64 ((Tm.len l1 : Nat) : Int))) (step_len_row (by kernel_rfl) (Opd.of_base 81 rfl) rfl) (by kernel_rfl) (by decide) (by kernel_rfl) (by decide) rfl h ?_
  clear h
  intro a w h
  refine env_guard (i := 12) (d := 83) (g := 8) (dg := 79) (b := true) (k := .val (.bool true)) (step_eqb_int (m := ((Tm.len l1 : Nat) : Int)) (n := 2) (by kernel_rfl) (Opd.of_base 82 rfl) (Opd.const _) (by rw [a3]; rfl) rfl) (by kernel_rfl) (by decide) (by kernel_rfl) (by decide) rfl h ?_
  clear h
  intro a w h
  refine env_one (i := 13) (d := 84) (k := .val (.bool true)) (step_pick_yes (y := .const (.bool false)) (by kernel_rfl) (Opd.of_base 79 rfl) (Opd.of_base 83 rfl) rfl) (by kernel_rfl) (by decide) h ?_
  clear h
  intro a w h
  refine env_one (i := 14) (d := 70) (k := .val (.bool true)) (step_assign (by kernel_rfl) (Opd.of_base 84 rfl) rfl) (by kernel_rfl) (by decide) h ?_
  clear h
  intro a w h
  exact hQ a w (h.keep [0, 990, 3, 4, 5, 7, 6, 8, 70])
theorem lLists10a_region {Q : Exit → Act → World → Prop} (F0 : Fo) (p1 : Pay) (l1 : Fo)  {w0 : World} {a : Act} {w : World} (h : Hold 141 [(0, .row F0), (990, .sat (gP 0 none)), (3, .ptrT p1 l1), (4, .val (.bool false)), (5, .ptrT ((Bl.consL F0 p1 l1).1) ((Bl.consL F0 p1 l1).2)), (7, .ptrT (((Bl.list ((Bl.consL F0 p1 l1).1) ((Bl.consL F0 p1 l1).2)).2.1).1) (((Bl.list ((Bl.consL F0 p1 l1).1) ((Bl.consL F0 p1 l1).2)).2.1).2)), (6, .sat (nR 0 none ((Bl.list ((Bl.consL F0 p1 l1).1) ((Bl.consL F0 p1 l1).2)).1))), (8, .val (.bool ((Bl.list ((Bl.consL F0 p1 l1).1) ((Bl.consL F0 p1 l1).2)).2.2)))] w0 a w)
    (hQ : ∀ a' w', Hold 141 [(0, .row F0), (990, .sat (gP 0 none)), (4, .val (.bool false)), (5, .ptrT ((Bl.consL F0 p1 l1).1) ((Bl.consL F0 p1 l1).2)), (7, .ptrT (((Bl.list ((Bl.consL F0 p1 l1).1) ((Bl.consL F0 p1 l1).2)).2.1).1) (((Bl.list ((Bl.consL F0 p1 l1).1) ((Bl.consL F0 p1 l1).2)).2.1).2)), (6, .sat (nR 0 none ((Bl.list ((Bl.consL F0 p1 l1).1) ((Bl.consL F0 p1 l1).2)).1))), (8, .val (.bool ((Bl.list ((Bl.consL F0 p1 l1).1) ((Bl.consL F0 p1 l1).2)).2.2))), (10, .ptrT (((Bl.list p1 l1).2.1).1) (((Bl.list p1 l1).2.1).2)), (9, .sat (nR 0 none ((Bl.list p1 l1).1))), (11, .val (.bool ((Bl.list p1 l1).2.2)))] w0 a' w' → Q .normal a' w') : (Code.region 10 lLists10Ops false).wp Try.prog Q a w := by
  refine region_seq (w0 := w) 10 (by kernel_rfl) ?_
  rw [show List.range 10 = [0, 1, 2, 3, 4, 5, 6, 7, 8, 9] from rfl]
  refine env_one (i := 0) (d := 86) (k := .term p1 l1) (step_load_term (by kernel_rfl) (Opd.of_base 3 rfl) rfl) (by kernel_rfl) (by decide) h ?_
  clear h
  intro a w h
  refine env_one (i := 1) (d := 87) (k := .sat (nL3 0 none ((Bl.list p1 l1).1) (((Bl.list p1 l1).2.1).1) (((Bl.list p1 l1).2.1).2) ((Bl.list p1 l1).2.2))) (step_bList (g := 990) (by kernel_rfl) (Opd.of_base 86 rfl) (Opd.of_base 990 rfl) rfl) (by kernel_rfl) (by decide) h ?_
  clear h
  intro a w h
  refine env_one (i := 2) (d := 85) (k := .sat (nL3 0 none ((Bl.list p1 l1).1) (((Bl.list p1 l1).2.1).1) (((Bl.list p1 l1).2.1).2) ((Bl.list p1 l1).2.2))) (step_move (by kernel_rfl) (Opd.of_base 87 rfl) rfl) (by kernel_rfl) (by decide) h ?_
  clear h
  intro a w h
  refine env_one (i := 3) (d := 88) (k := .sat (nR 0 none ((Bl.list p1 l1).1))) (step_nL3_0 (by kernel_rfl) (Opd.of_base 85 rfl) rfl) (by kernel_rfl) (by decide) h ?_
  clear h
  intro a w h
  refine env_one (i := 4) (d := 89) (k := .sat (nT 0 none (((Bl.list p1 l1).2.1).1) (((Bl.list p1 l1).2.1).2))) (step_nL3_1 (by kernel_rfl) (Opd.of_base 85 rfl) rfl) (by kernel_rfl) (by decide) h ?_
  clear h
  intro a w h
  refine env_one (i := 5) (d := 90) (k := .val (.bool ((Bl.list p1 l1).2.2))) (step_nL3_2 (by kernel_rfl) (Opd.of_base 85 rfl) rfl) (by kernel_rfl) (by decide) h ?_
  clear h
  intro a w h
  have h := h.cast 89 rfl
  refine env_box3 (i := 6) (d := 10) (e := 9) (by kernel_rfl) (by decide) (by kernel_rfl) (by decide) (x := 88) rfl (by decide) (by decide) (by kernel_rfl) (by decide) (by decide) (s := 89) rfl h ?_
  clear h
  intro a w h
  refine env_one (i := 9) (d := 11) (k := .val (.bool ((Bl.list p1 l1).2.2))) (step_assign (by kernel_rfl) (Opd.of_base 90 rfl) rfl) (by kernel_rfl) (by decide) h ?_
  clear h
  intro a w h
  exact hQ a w (h.keep [0, 990, 4, 5, 7, 6, 8, 10, 9, 11])
theorem lLists11a_region {Q : Exit → Act → World → Prop} (F0 : Fo) (p1 : Pay) (l1 : Fo)  {w0 : World} {a : Act} {w : World} (h : Hold 141 [(0, .row F0), (990, .sat (gP 0 none)), (4, .val (.bool false)), (5, .ptrT ((Bl.consL F0 p1 l1).1) ((Bl.consL F0 p1 l1).2)), (7, .ptrT Bl.inst.1 Bl.inst.2), (6, .sat (nR 0 none .nil)), (8, .val (.bool false)), (10, .ptrT Bl.inst.1 Bl.inst.2), (9, .sat (nR 0 none .nil)), (11, .val (.bool false))] w0 a w)
    (hQ : ∀ a' w', Hold 141 [(0, .row F0), (990, .sat (gP 0 none)), (4, .val (.bool false)), (5, .ptrT ((Bl.consL F0 p1 l1).1) ((Bl.consL F0 p1 l1).2)), (7, .ptrT Bl.inst.1 Bl.inst.2), (6, .sat (nR 0 none .nil)), (8, .val (.bool false)), (10, .ptrT Bl.inst.1 Bl.inst.2), (9, .sat (nR 0 none .nil)), (93, .val (.bool false))] w0 a' w' → Q .normal a' w') : (Code.region 11 lLists11Ops false).wp Try.prog Q a w := by
  refine region_seq (w0 := w) 3 (by kernel_rfl) ?_
  rw [show List.range 3 = [0, 1, 2] from rfl]
  refine env_one (i := 0) (d := 91) (k := .val (.bool false)) (step_move (by kernel_rfl) (Opd.of_base 8 rfl) rfl) (by kernel_rfl) (by decide) h ?_
  clear h
  intro a w h
  refine env_one (i := 1) (d := 92) (k := .val (.bool false)) (step_move (by kernel_rfl) (Opd.of_base 11 rfl) rfl) (by kernel_rfl) (by decide) h ?_
  clear h
  intro a w h
  refine env_one (i := 2) (d := 93) (k := .val (.bool false)) (step_ne_bool (by kernel_rfl) (Opd.of_base 91 rfl) (Opd.of_base 92 rfl) (by simp) rfl) (by kernel_rfl) (by decide) h ?_
  clear h
  intro a w h
  exact hQ a w (h.keep [0, 990, 4, 5, 7, 6, 8, 10, 9, 93])
theorem lLists13a_region {Q : Exit → Act → World → Prop} (F0 : Fo) (p1 : Pay) (l1 : Fo)  {w0 : World} {a : Act} {w : World} (h : Hold 141 [(0, .row F0), (990, .sat (gP 0 none)), (4, .val (.bool false)), (5, .ptrT ((Bl.consL F0 p1 l1).1) ((Bl.consL F0 p1 l1).2)), (7, .ptrT Bl.inst.1 Bl.inst.2), (6, .sat (nR 0 none .nil)), (8, .val (.bool false)), (10, .ptrT Bl.inst.1 Bl.inst.2), (9, .sat (nR 0 none .nil))] w0 a w)
    (hQ : ∀ a' w', Hold 141 [(0, .row F0), (990, .sat (gP 0 none)), (4, .val (.bool false)), (5, .ptrT ((Bl.consL F0 p1 l1).1) ((Bl.consL F0 p1 l1).2)), (7, .ptrT Bl.inst.1 Bl.inst.2), (6, .sat (nR 0 none .nil)), (8, .val (.bool false)), (10, .ptrT Bl.inst.1 Bl.inst.2), (9, .sat (nR 0 none .nil)), (94, .val (.bool false))] w0 a' w' → Q .normal a' w') : (Code.region 13 lLists13Ops false).wp Try.prog Q a w := by
  refine region_seq (w0 := w) 1 (by kernel_rfl) ?_
  rw [show List.range 1 = [0] from rfl]
  refine env_one (i := 0) (d := 94) (k := .val (.bool false)) (step_move (by kernel_rfl) (Opd.of_base 8 rfl) rfl) (by kernel_rfl) (by decide) h ?_
  clear h
  intro a w h
  exact hQ a w (h.keep [0, 990, 4, 5, 7, 6, 8, 10, 9, 94])
def lLists15aEs (F0 : Fo) (p1 : Pay) (l1 : Fo) : List Kd := [
  .term Bl.inst.1 Bl.inst.2,
  .sat (nT 0 none (2, 0, (⟨#[105, 110, 115, 116, 97, 110, 116, 105, 97, 116, 105, 111, 110, 95, 101, 114, 114, 111, 114]⟩)) .nil),
  .sat (nT 0 none (3, 0, Tm.errName) (.node (2, 0, (⟨#[105, 110, 115, 116, 97, 110, 116, 105, 97, 116, 105, 111, 110, 95, 101, 114, 114, 111, 114]⟩)) .nil (.node Tm.emptyA .nil .nil))),
  .val (.bool true),
  .term Bl.inst.1 Bl.inst.2,
  .sat (nT 0 none (2, 0, (⟨#[105, 110, 115, 116, 97, 110, 116, 105, 97, 116, 105, 111, 110, 95, 101, 114, 114, 111, 114]⟩)) .nil),
  .sat (nT 0 none (3, 0, Tm.errName) (.node (2, 0, (⟨#[105, 110, 115, 116, 97, 110, 116, 105, 97, 116, 105, 111, 110, 95, 101, 114, 114, 111, 114]⟩)) .nil (.node Tm.emptyA .nil .nil))),
  .val (.bool true),
  .val (.bool true),
  .val (.bool true),
  .val (.bool true),
  .val (.bool true),
  .val (.bool true)]
def lLists15aDs : List Nat := [104, 105, 106, 107, 108, 109, 110, 111, 112, 113, 114, 115, 4]
def lLists15aEnv (F0 : Fo) (p1 : Pay) (l1 : Fo) : Env := [(990, .sat (gP 0 none)), (5, .ptrT ((Bl.consL F0 p1 l1).1) ((Bl.consL F0 p1 l1).2)), (7, .ptrT Bl.inst.1 Bl.inst.2), (6, .sat (nR 0 none .nil)), (8, .val (.bool false)), (10, .ptrT Bl.inst.1 Bl.inst.2)]
theorem lLists15a_0 {Q : Exit → Act → World → Prop} (F0 : Fo) (p1 : Pay) (l1 : Fo)  : RStep (strip lLists15Ops) Q (fun i => ((lLists15aEs F0 p1 l1)[i]?).getD .any) (fun i => (lLists15aDs[i]?).getD (1000 + i)) (look (lLists15aEnv F0 p1 l1)) 141 0 := fun _ => step_load_term (by kernel_rfl) (Opd.of_base 7 rfl) rfl
theorem lLists15a_1 {Q : Exit → Act → World → Prop} (F0 : Fo) (p1 : Pay) (l1 : Fo)  : RStep (strip lLists15Ops) Q (fun i => ((lLists15aEs F0 p1 l1)[i]?).getD .any) (fun i => (lLists15aDs[i]?).getD (1000 + i)) (look (lLists15aEnv F0 p1 l1)) 141 1 := fun _ => step_la (g := 990) (by kernel_rfl) (Opd.const _) (Opd.of_base 990 rfl) rfl
theorem lLists15a_2 {Q : Exit → Act → World → Prop} (F0 : Fo) (p1 : Pay) (l1 : Fo)  : RStep (strip lLists15Ops) Q (fun i => ((lLists15aEs F0 p1 l1)[i]?).getD .any) (fun i => (lLists15aDs[i]?).getD (1000 + i)) (look (lLists15aEnv F0 p1 l1)) 141 2 := fun _ => step_lerrN (g := 990) (by kernel_rfl) (Opd.dep 1 rfl rfl (by kernel_rfl)) (Opd.of_base 990 rfl) rfl
theorem lLists15a_3 {Q : Exit → Act → World → Prop} (F0 : Fo) (p1 : Pay) (l1 : Fo)  : RStep (strip lLists15Ops) Q (fun i => ((lLists15aEs F0 p1 l1)[i]?).getD .any) (fun i => (lLists15aDs[i]?).getD (1000 + i)) (look (lLists15aEnv F0 p1 l1)) 141 3 := fun _ => step_lsame (by kernel_rfl) (Opd.dep 0 rfl rfl (by kernel_rfl)) (Opd.ofT (Opd.dep 2 rfl rfl (by kernel_rfl))) (congrArg (fun b => Kd.val (.bool b)) (Eq.symm (Bl.same_of Bl.inst_is Bl.inst_valid)))
theorem lLists15a_4 {Q : Exit → Act → World → Prop} (F0 : Fo) (p1 : Pay) (l1 : Fo)  : RStep (strip lLists15Ops) Q (fun i => ((lLists15aEs F0 p1 l1)[i]?).getD .any) (fun i => (lLists15aDs[i]?).getD (1000 + i)) (look (lLists15aEnv F0 p1 l1)) 141 4 := fun _ => step_load_term (by kernel_rfl) (Opd.of_base 10 rfl) rfl
theorem lLists15a_5 {Q : Exit → Act → World → Prop} (F0 : Fo) (p1 : Pay) (l1 : Fo)  : RStep (strip lLists15Ops) Q (fun i => ((lLists15aEs F0 p1 l1)[i]?).getD .any) (fun i => (lLists15aDs[i]?).getD (1000 + i)) (look (lLists15aEnv F0 p1 l1)) 141 5 := fun _ => step_la (g := 990) (by kernel_rfl) (Opd.const _) (Opd.of_base 990 rfl) rfl
theorem lLists15a_6 {Q : Exit → Act → World → Prop} (F0 : Fo) (p1 : Pay) (l1 : Fo)  : RStep (strip lLists15Ops) Q (fun i => ((lLists15aEs F0 p1 l1)[i]?).getD .any) (fun i => (lLists15aDs[i]?).getD (1000 + i)) (look (lLists15aEnv F0 p1 l1)) 141 6 := fun _ => step_lerrN (g := 990) (by kernel_rfl) (Opd.dep 5 rfl rfl (by kernel_rfl)) (Opd.of_base 990 rfl) rfl
theorem lLists15a_7 {Q : Exit → Act → World → Prop} (F0 : Fo) (p1 : Pay) (l1 : Fo)  : RStep (strip lLists15Ops) Q (fun i => ((lLists15aEs F0 p1 l1)[i]?).getD .any) (fun i => (lLists15aDs[i]?).getD (1000 + i)) (look (lLists15aEnv F0 p1 l1)) 141 7 := fun _ => step_lsame (by kernel_rfl) (Opd.dep 4 rfl rfl (by kernel_rfl)) (Opd.ofT (Opd.dep 6 rfl rfl (by kernel_rfl))) (congrArg (fun b => Kd.val (.bool b)) (Eq.symm (Bl.same_of Bl.inst_is Bl.inst_valid)))
theorem lLists15a_8 {Q : Exit → Act → World → Prop} (F0 : Fo) (p1 : Pay) (l1 : Fo)  : RStep (strip lLists15Ops) Q (fun i => ((lLists15aEs F0 p1 l1)[i]?).getD .any) (fun i => (lLists15aDs[i]?).getD (1000 + i)) (look (lLists15aEnv F0 p1 l1)) 141 8 := fun _ => step_eq_bool (by kernel_rfl) (Opd.dep 3 rfl rfl (by kernel_rfl)) (Opd.dep 7 rfl rfl (by kernel_rfl)) rfl
theorem lLists15a_9 {Q : Exit → Act → World → Prop} (F0 : Fo) (p1 : Pay) (l1 : Fo)  : RStep (strip lLists15Ops) Q (fun i => ((lLists15aEs F0 p1 l1)[i]?).getD .any) (fun i => (lLists15aDs[i]?).getD (1000 + i)) (look (lLists15aEnv F0 p1 l1)) 141 9 := fun _ => step_move (by kernel_rfl) (Opd.dep 8 rfl rfl (by kernel_rfl)) rfl
theorem lLists15a_10 {Q : Exit → Act → World → Prop} (F0 : Fo) (p1 : Pay) (l1 : Fo)  : RStep (strip lLists15Ops) Q (fun i => ((lLists15aEs F0 p1 l1)[i]?).getD .any) (fun i => (lLists15aDs[i]?).getD (1000 + i)) (look (lLists15aEnv F0 p1 l1)) 141 10 := fun _ => step_awake (by kernel_rfl)  rfl
theorem lLists15a_11 {Q : Exit → Act → World → Prop} (F0 : Fo) (p1 : Pay) (l1 : Fo)  : RStep (strip lLists15Ops) Q (fun i => ((lLists15aEs F0 p1 l1)[i]?).getD .any) (fun i => (lLists15aDs[i]?).getD (1000 + i)) (look (lLists15aEnv F0 p1 l1)) 141 11 := fun _ => step_pick_yes (y := .const (.bool false)) (by kernel_rfl) (Opd.dep 9 rfl rfl (by kernel_rfl)) (Opd.dep 10 rfl rfl (by kernel_rfl)) rfl
theorem lLists15a_12 {Q : Exit → Act → World → Prop} (F0 : Fo) (p1 : Pay) (l1 : Fo)  : RStep (strip lLists15Ops) Q (fun i => ((lLists15aEs F0 p1 l1)[i]?).getD .any) (fun i => (lLists15aDs[i]?).getD (1000 + i)) (look (lLists15aEnv F0 p1 l1)) 141 12 := fun _ => step_assign (by kernel_rfl) (Opd.dep 11 rfl rfl (by kernel_rfl)) rfl
theorem lLists15a_region {Q : Exit → Act → World → Prop} (F0 : Fo) (p1 : Pay) (l1 : Fo)  {w0 : World} {a : Act} {w : World} (h : Hold 141 [(990, .sat (gP 0 none)), (5, .ptrT ((Bl.consL F0 p1 l1).1) ((Bl.consL F0 p1 l1).2)), (7, .ptrT Bl.inst.1 Bl.inst.2), (6, .sat (nR 0 none .nil)), (8, .val (.bool false)), (10, .ptrT Bl.inst.1 Bl.inst.2)] w0 a w)
    (hQ : ∀ a' w', Hold 141 [(990, .sat (gP 0 none)), (5, .ptrT ((Bl.consL F0 p1 l1).1) ((Bl.consL F0 p1 l1).2)), (7, .ptrT Bl.inst.1 Bl.inst.2), (6, .sat (nR 0 none .nil)), (8, .val (.bool false)), (4, .val (.bool true))] w0 a' w' → Q .normal a' w') : (Code.region 15 lLists15Ops true).wp Try.prog Q a w := by
  have hall : ∀ i, i < 0 → RStep (strip lLists15Ops) Q (fun i => ((lLists15aEs F0 p1 l1)[i]?).getD .any) (fun i => (lLists15aDs[i]?).getD (1000 + i)) (look (lLists15aEnv F0 p1 l1)) 141 i := fun i hi => absurd hi (by omega)
  have hall := below_succ hall (lLists15a_0 F0 p1 l1 )
  have hall := below_succ hall (lLists15a_1 F0 p1 l1 )
  have hall := below_succ hall (lLists15a_2 F0 p1 l1 )
  have hall := below_succ hall (lLists15a_3 F0 p1 l1 )
  have hall := below_succ hall (lLists15a_4 F0 p1 l1 )
  have hall := below_succ hall (lLists15a_5 F0 p1 l1 )
  have hall := below_succ hall (lLists15a_6 F0 p1 l1 )
  have hall := below_succ hall (lLists15a_7 F0 p1 l1 )
  have hall := below_succ hall (lLists15a_8 F0 p1 l1 )
  have hall := below_succ hall (lLists15a_9 F0 p1 l1 )
  have hall := below_succ hall (lLists15a_10 F0 p1 l1 )
  have hall := below_succ hall (lLists15a_11 F0 p1 l1 )
  have hall := below_succ hall (lLists15a_12 F0 p1 l1 )
  refine env_then (m := 13) (n := 13) lLists15aDs (lLists15aEs F0 p1 l1) rfl (by kernel_rfl) (by decide) (by kernel_rfl) (of_decide_eq_true (by kernel_rfl)) (by kernel_rfl) (by kernel_rfl) (fun i_ hi_ => hall i_ hi_) h fun a w h => ?_
  clear hall
  have h := h.keep [990, 5, 7, 6, 8, 10, 104, 105, 106, 107, 108, 109, 110, 111, 112, 113, 114, 115, 4]
  show wpOps Try.prog _ Q [] a w
  exact hQ a w (h.keep [990, 5, 7, 6, 8, 4])
theorem lLists11b_region {Q : Exit → Act → World → Prop} (F0 : Fo) (p1 : Pay) (l1 : Fo)  {w0 : World} {a : Act} {w : World} (h : Hold 141 [(0, .row F0), (990, .sat (gP 0 none)), (4, .val (.bool false)), (5, .ptrT ((Bl.consL F0 p1 l1).1) ((Bl.consL F0 p1 l1).2)), (7, .ptrT ((Bl.ty ⟨#[108, 105, 115, 116]⟩ (Bl.consL F0 p1 l1).1 (Bl.consL F0 p1 l1).2).1) ((Bl.ty ⟨#[108, 105, 115, 116]⟩ (Bl.consL F0 p1 l1).1 (Bl.consL F0 p1 l1).2).2)), (6, .sat (nR 0 none .nil)), (8, .val (.bool false)), (10, .ptrT ((Bl.ty ⟨#[108, 105, 115, 116]⟩ p1 l1).1) ((Bl.ty ⟨#[108, 105, 115, 116]⟩ p1 l1).2)), (9, .sat (nR 0 none .nil)), (11, .val (.bool false))] w0 a w)
    (hQ : ∀ a' w', Hold 141 [(0, .row F0), (990, .sat (gP 0 none)), (4, .val (.bool false)), (5, .ptrT ((Bl.consL F0 p1 l1).1) ((Bl.consL F0 p1 l1).2)), (7, .ptrT ((Bl.ty ⟨#[108, 105, 115, 116]⟩ (Bl.consL F0 p1 l1).1 (Bl.consL F0 p1 l1).2).1) ((Bl.ty ⟨#[108, 105, 115, 116]⟩ (Bl.consL F0 p1 l1).1 (Bl.consL F0 p1 l1).2).2)), (6, .sat (nR 0 none .nil)), (8, .val (.bool false)), (10, .ptrT ((Bl.ty ⟨#[108, 105, 115, 116]⟩ p1 l1).1) ((Bl.ty ⟨#[108, 105, 115, 116]⟩ p1 l1).2)), (9, .sat (nR 0 none .nil)), (93, .val (.bool false))] w0 a' w' → Q .normal a' w') : (Code.region 11 lLists11Ops false).wp Try.prog Q a w := by
  refine region_seq (w0 := w) 3 (by kernel_rfl) ?_
  rw [show List.range 3 = [0, 1, 2] from rfl]
  refine env_one (i := 0) (d := 91) (k := .val (.bool false)) (step_move (by kernel_rfl) (Opd.of_base 8 rfl) rfl) (by kernel_rfl) (by decide) h ?_
  clear h
  intro a w h
  refine env_one (i := 1) (d := 92) (k := .val (.bool false)) (step_move (by kernel_rfl) (Opd.of_base 11 rfl) rfl) (by kernel_rfl) (by decide) h ?_
  clear h
  intro a w h
  refine env_one (i := 2) (d := 93) (k := .val (.bool false)) (step_ne_bool (by kernel_rfl) (Opd.of_base 91 rfl) (Opd.of_base 92 rfl) (by simp) rfl) (by kernel_rfl) (by decide) h ?_
  clear h
  intro a w h
  exact hQ a w (h.keep [0, 990, 4, 5, 7, 6, 8, 10, 9, 93])
theorem lLists13b_region {Q : Exit → Act → World → Prop} (F0 : Fo) (p1 : Pay) (l1 : Fo)  {w0 : World} {a : Act} {w : World} (h : Hold 141 [(0, .row F0), (990, .sat (gP 0 none)), (4, .val (.bool false)), (5, .ptrT ((Bl.consL F0 p1 l1).1) ((Bl.consL F0 p1 l1).2)), (7, .ptrT ((Bl.ty ⟨#[108, 105, 115, 116]⟩ (Bl.consL F0 p1 l1).1 (Bl.consL F0 p1 l1).2).1) ((Bl.ty ⟨#[108, 105, 115, 116]⟩ (Bl.consL F0 p1 l1).1 (Bl.consL F0 p1 l1).2).2)), (6, .sat (nR 0 none .nil)), (8, .val (.bool false)), (10, .ptrT ((Bl.ty ⟨#[108, 105, 115, 116]⟩ p1 l1).1) ((Bl.ty ⟨#[108, 105, 115, 116]⟩ p1 l1).2)), (9, .sat (nR 0 none .nil))] w0 a w)
    (hQ : ∀ a' w', Hold 141 [(0, .row F0), (990, .sat (gP 0 none)), (4, .val (.bool false)), (5, .ptrT ((Bl.consL F0 p1 l1).1) ((Bl.consL F0 p1 l1).2)), (7, .ptrT ((Bl.ty ⟨#[108, 105, 115, 116]⟩ (Bl.consL F0 p1 l1).1 (Bl.consL F0 p1 l1).2).1) ((Bl.ty ⟨#[108, 105, 115, 116]⟩ (Bl.consL F0 p1 l1).1 (Bl.consL F0 p1 l1).2).2)), (6, .sat (nR 0 none .nil)), (8, .val (.bool false)), (10, .ptrT ((Bl.ty ⟨#[108, 105, 115, 116]⟩ p1 l1).1) ((Bl.ty ⟨#[108, 105, 115, 116]⟩ p1 l1).2)), (9, .sat (nR 0 none .nil)), (94, .val (.bool false))] w0 a' w' → Q .normal a' w') : (Code.region 13 lLists13Ops false).wp Try.prog Q a w := by
  refine region_seq (w0 := w) 1 (by kernel_rfl) ?_
  rw [show List.range 1 = [0] from rfl]
  refine env_one (i := 0) (d := 94) (k := .val (.bool false)) (step_move (by kernel_rfl) (Opd.of_base 8 rfl) rfl) (by kernel_rfl) (by decide) h ?_
  clear h
  intro a w h
  exact hQ a w (h.keep [0, 990, 4, 5, 7, 6, 8, 10, 9, 94])
def lLists15bEs (F0 : Fo) (p1 : Pay) (l1 : Fo) : List Kd := [
  .term ((Bl.ty ⟨#[108, 105, 115, 116]⟩ (Bl.consL F0 p1 l1).1 (Bl.consL F0 p1 l1).2).1) ((Bl.ty ⟨#[108, 105, 115, 116]⟩ (Bl.consL F0 p1 l1).1 (Bl.consL F0 p1 l1).2).2),
  .sat (nT 0 none (2, 0, (⟨#[105, 110, 115, 116, 97, 110, 116, 105, 97, 116, 105, 111, 110, 95, 101, 114, 114, 111, 114]⟩)) .nil),
  .sat (nT 0 none (3, 0, Tm.errName) (.node (2, 0, (⟨#[105, 110, 115, 116, 97, 110, 116, 105, 97, 116, 105, 111, 110, 95, 101, 114, 114, 111, 114]⟩)) .nil (.node Tm.emptyA .nil .nil))),
  .val (.bool false),
  .term ((Bl.ty ⟨#[108, 105, 115, 116]⟩ p1 l1).1) ((Bl.ty ⟨#[108, 105, 115, 116]⟩ p1 l1).2),
  .sat (nT 0 none (2, 0, (⟨#[105, 110, 115, 116, 97, 110, 116, 105, 97, 116, 105, 111, 110, 95, 101, 114, 114, 111, 114]⟩)) .nil),
  .sat (nT 0 none (3, 0, Tm.errName) (.node (2, 0, (⟨#[105, 110, 115, 116, 97, 110, 116, 105, 97, 116, 105, 111, 110, 95, 101, 114, 114, 111, 114]⟩)) .nil (.node Tm.emptyA .nil .nil))),
  .val (.bool false),
  .val (.bool true),
  .val (.bool true),
  .val (.bool true),
  .val (.bool true),
  .val (.bool true)]
def lLists15bDs : List Nat := [104, 105, 106, 107, 108, 109, 110, 111, 112, 113, 114, 115, 4]
def lLists15bEnv (F0 : Fo) (p1 : Pay) (l1 : Fo) : Env := [(990, .sat (gP 0 none)), (5, .ptrT ((Bl.consL F0 p1 l1).1) ((Bl.consL F0 p1 l1).2)), (7, .ptrT ((Bl.ty ⟨#[108, 105, 115, 116]⟩ (Bl.consL F0 p1 l1).1 (Bl.consL F0 p1 l1).2).1) ((Bl.ty ⟨#[108, 105, 115, 116]⟩ (Bl.consL F0 p1 l1).1 (Bl.consL F0 p1 l1).2).2)), (6, .sat (nR 0 none .nil)), (8, .val (.bool false)), (10, .ptrT ((Bl.ty ⟨#[108, 105, 115, 116]⟩ p1 l1).1) ((Bl.ty ⟨#[108, 105, 115, 116]⟩ p1 l1).2))]
theorem lLists15b_0 {Q : Exit → Act → World → Prop} (F0 : Fo) (p1 : Pay) (l1 : Fo) (hv : Tm.validB (Bl.consL F0 p1 l1).1 (Bl.consL F0 p1 l1).2 = true) (hvp : Tm.validB p1 l1 = true) : RStep (strip lLists15Ops) Q (fun i => ((lLists15bEs F0 p1 l1)[i]?).getD .any) (fun i => (lLists15bDs[i]?).getD (1000 + i)) (look (lLists15bEnv F0 p1 l1)) 141 0 := fun _ => step_load_term (by kernel_rfl) (Opd.of_base 7 rfl) rfl
theorem lLists15b_1 {Q : Exit → Act → World → Prop} (F0 : Fo) (p1 : Pay) (l1 : Fo) (hv : Tm.validB (Bl.consL F0 p1 l1).1 (Bl.consL F0 p1 l1).2 = true) (hvp : Tm.validB p1 l1 = true) : RStep (strip lLists15Ops) Q (fun i => ((lLists15bEs F0 p1 l1)[i]?).getD .any) (fun i => (lLists15bDs[i]?).getD (1000 + i)) (look (lLists15bEnv F0 p1 l1)) 141 1 := fun _ => step_la (g := 990) (by kernel_rfl) (Opd.const _) (Opd.of_base 990 rfl) rfl
theorem lLists15b_2 {Q : Exit → Act → World → Prop} (F0 : Fo) (p1 : Pay) (l1 : Fo) (hv : Tm.validB (Bl.consL F0 p1 l1).1 (Bl.consL F0 p1 l1).2 = true) (hvp : Tm.validB p1 l1 = true) : RStep (strip lLists15Ops) Q (fun i => ((lLists15bEs F0 p1 l1)[i]?).getD .any) (fun i => (lLists15bDs[i]?).getD (1000 + i)) (look (lLists15bEnv F0 p1 l1)) 141 2 := fun _ => step_lerrN (g := 990) (by kernel_rfl) (Opd.dep 1 rfl rfl (by kernel_rfl)) (Opd.of_base 990 rfl) rfl
theorem lLists15b_3 {Q : Exit → Act → World → Prop} (F0 : Fo) (p1 : Pay) (l1 : Fo) (hv : Tm.validB (Bl.consL F0 p1 l1).1 (Bl.consL F0 p1 l1).2 = true) (hvp : Tm.validB p1 l1 = true) : RStep (strip lLists15Ops) Q (fun i => ((lLists15bEs F0 p1 l1)[i]?).getD .any) (fun i => (lLists15bDs[i]?).getD (1000 + i)) (look (lLists15bEnv F0 p1 l1)) 141 3 := fun _ => step_lsame (by kernel_rfl) (Opd.dep 0 rfl rfl (by kernel_rfl)) (Opd.ofT (Opd.dep 2 rfl rfl (by kernel_rfl))) (congrArg (fun b => Kd.val (.bool b)) (Eq.symm (same_no (Bl.ty_not_inst Bl.listN_valid hv))))
theorem lLists15b_4 {Q : Exit → Act → World → Prop} (F0 : Fo) (p1 : Pay) (l1 : Fo) (hv : Tm.validB (Bl.consL F0 p1 l1).1 (Bl.consL F0 p1 l1).2 = true) (hvp : Tm.validB p1 l1 = true) : RStep (strip lLists15Ops) Q (fun i => ((lLists15bEs F0 p1 l1)[i]?).getD .any) (fun i => (lLists15bDs[i]?).getD (1000 + i)) (look (lLists15bEnv F0 p1 l1)) 141 4 := fun _ => step_load_term (by kernel_rfl) (Opd.of_base 10 rfl) rfl
theorem lLists15b_5 {Q : Exit → Act → World → Prop} (F0 : Fo) (p1 : Pay) (l1 : Fo) (hv : Tm.validB (Bl.consL F0 p1 l1).1 (Bl.consL F0 p1 l1).2 = true) (hvp : Tm.validB p1 l1 = true) : RStep (strip lLists15Ops) Q (fun i => ((lLists15bEs F0 p1 l1)[i]?).getD .any) (fun i => (lLists15bDs[i]?).getD (1000 + i)) (look (lLists15bEnv F0 p1 l1)) 141 5 := fun _ => step_la (g := 990) (by kernel_rfl) (Opd.const _) (Opd.of_base 990 rfl) rfl
theorem lLists15b_6 {Q : Exit → Act → World → Prop} (F0 : Fo) (p1 : Pay) (l1 : Fo) (hv : Tm.validB (Bl.consL F0 p1 l1).1 (Bl.consL F0 p1 l1).2 = true) (hvp : Tm.validB p1 l1 = true) : RStep (strip lLists15Ops) Q (fun i => ((lLists15bEs F0 p1 l1)[i]?).getD .any) (fun i => (lLists15bDs[i]?).getD (1000 + i)) (look (lLists15bEnv F0 p1 l1)) 141 6 := fun _ => step_lerrN (g := 990) (by kernel_rfl) (Opd.dep 5 rfl rfl (by kernel_rfl)) (Opd.of_base 990 rfl) rfl
theorem lLists15b_7 {Q : Exit → Act → World → Prop} (F0 : Fo) (p1 : Pay) (l1 : Fo) (hv : Tm.validB (Bl.consL F0 p1 l1).1 (Bl.consL F0 p1 l1).2 = true) (hvp : Tm.validB p1 l1 = true) : RStep (strip lLists15Ops) Q (fun i => ((lLists15bEs F0 p1 l1)[i]?).getD .any) (fun i => (lLists15bDs[i]?).getD (1000 + i)) (look (lLists15bEnv F0 p1 l1)) 141 7 := fun _ => step_lsame (by kernel_rfl) (Opd.dep 4 rfl rfl (by kernel_rfl)) (Opd.ofT (Opd.dep 6 rfl rfl (by kernel_rfl))) (congrArg (fun b => Kd.val (.bool b)) (Eq.symm (same_no (Bl.ty_not_inst Bl.listN_valid hvp))))
theorem lLists15b_8 {Q : Exit → Act → World → Prop} (F0 : Fo) (p1 : Pay) (l1 : Fo) (hv : Tm.validB (Bl.consL F0 p1 l1).1 (Bl.consL F0 p1 l1).2 = true) (hvp : Tm.validB p1 l1 = true) : RStep (strip lLists15Ops) Q (fun i => ((lLists15bEs F0 p1 l1)[i]?).getD .any) (fun i => (lLists15bDs[i]?).getD (1000 + i)) (look (lLists15bEnv F0 p1 l1)) 141 8 := fun _ => step_eq_bool (by kernel_rfl) (Opd.dep 3 rfl rfl (by kernel_rfl)) (Opd.dep 7 rfl rfl (by kernel_rfl)) rfl
theorem lLists15b_9 {Q : Exit → Act → World → Prop} (F0 : Fo) (p1 : Pay) (l1 : Fo) (hv : Tm.validB (Bl.consL F0 p1 l1).1 (Bl.consL F0 p1 l1).2 = true) (hvp : Tm.validB p1 l1 = true) : RStep (strip lLists15Ops) Q (fun i => ((lLists15bEs F0 p1 l1)[i]?).getD .any) (fun i => (lLists15bDs[i]?).getD (1000 + i)) (look (lLists15bEnv F0 p1 l1)) 141 9 := fun _ => step_move (by kernel_rfl) (Opd.dep 8 rfl rfl (by kernel_rfl)) rfl
theorem lLists15b_10 {Q : Exit → Act → World → Prop} (F0 : Fo) (p1 : Pay) (l1 : Fo) (hv : Tm.validB (Bl.consL F0 p1 l1).1 (Bl.consL F0 p1 l1).2 = true) (hvp : Tm.validB p1 l1 = true) : RStep (strip lLists15Ops) Q (fun i => ((lLists15bEs F0 p1 l1)[i]?).getD .any) (fun i => (lLists15bDs[i]?).getD (1000 + i)) (look (lLists15bEnv F0 p1 l1)) 141 10 := fun _ => step_awake (by kernel_rfl)  rfl
theorem lLists15b_11 {Q : Exit → Act → World → Prop} (F0 : Fo) (p1 : Pay) (l1 : Fo) (hv : Tm.validB (Bl.consL F0 p1 l1).1 (Bl.consL F0 p1 l1).2 = true) (hvp : Tm.validB p1 l1 = true) : RStep (strip lLists15Ops) Q (fun i => ((lLists15bEs F0 p1 l1)[i]?).getD .any) (fun i => (lLists15bDs[i]?).getD (1000 + i)) (look (lLists15bEnv F0 p1 l1)) 141 11 := fun _ => step_pick_yes (y := .const (.bool false)) (by kernel_rfl) (Opd.dep 9 rfl rfl (by kernel_rfl)) (Opd.dep 10 rfl rfl (by kernel_rfl)) rfl
theorem lLists15b_12 {Q : Exit → Act → World → Prop} (F0 : Fo) (p1 : Pay) (l1 : Fo) (hv : Tm.validB (Bl.consL F0 p1 l1).1 (Bl.consL F0 p1 l1).2 = true) (hvp : Tm.validB p1 l1 = true) : RStep (strip lLists15Ops) Q (fun i => ((lLists15bEs F0 p1 l1)[i]?).getD .any) (fun i => (lLists15bDs[i]?).getD (1000 + i)) (look (lLists15bEnv F0 p1 l1)) 141 12 := fun _ => step_assign (by kernel_rfl) (Opd.dep 11 rfl rfl (by kernel_rfl)) rfl
theorem lLists15b_region {Q : Exit → Act → World → Prop} (F0 : Fo) (p1 : Pay) (l1 : Fo) (hv : Tm.validB (Bl.consL F0 p1 l1).1 (Bl.consL F0 p1 l1).2 = true) (hvp : Tm.validB p1 l1 = true) {w0 : World} {a : Act} {w : World} (h : Hold 141 [(990, .sat (gP 0 none)), (5, .ptrT ((Bl.consL F0 p1 l1).1) ((Bl.consL F0 p1 l1).2)), (7, .ptrT ((Bl.ty ⟨#[108, 105, 115, 116]⟩ (Bl.consL F0 p1 l1).1 (Bl.consL F0 p1 l1).2).1) ((Bl.ty ⟨#[108, 105, 115, 116]⟩ (Bl.consL F0 p1 l1).1 (Bl.consL F0 p1 l1).2).2)), (6, .sat (nR 0 none .nil)), (8, .val (.bool false)), (10, .ptrT ((Bl.ty ⟨#[108, 105, 115, 116]⟩ p1 l1).1) ((Bl.ty ⟨#[108, 105, 115, 116]⟩ p1 l1).2))] w0 a w)
    (hQ : ∀ a' w', Hold 141 [(990, .sat (gP 0 none)), (5, .ptrT ((Bl.consL F0 p1 l1).1) ((Bl.consL F0 p1 l1).2)), (7, .ptrT ((Bl.ty ⟨#[108, 105, 115, 116]⟩ (Bl.consL F0 p1 l1).1 (Bl.consL F0 p1 l1).2).1) ((Bl.ty ⟨#[108, 105, 115, 116]⟩ (Bl.consL F0 p1 l1).1 (Bl.consL F0 p1 l1).2).2)), (6, .sat (nR 0 none .nil)), (8, .val (.bool false)), (4, .val (.bool true))] w0 a' w' → Q .normal a' w') : (Code.region 15 lLists15Ops true).wp Try.prog Q a w := by
  have hall : ∀ i, i < 0 → RStep (strip lLists15Ops) Q (fun i => ((lLists15bEs F0 p1 l1)[i]?).getD .any) (fun i => (lLists15bDs[i]?).getD (1000 + i)) (look (lLists15bEnv F0 p1 l1)) 141 i := fun i hi => absurd hi (by omega)
  have hall := below_succ hall (lLists15b_0 F0 p1 l1 hv hvp)
  have hall := below_succ hall (lLists15b_1 F0 p1 l1 hv hvp)
  have hall := below_succ hall (lLists15b_2 F0 p1 l1 hv hvp)
  have hall := below_succ hall (lLists15b_3 F0 p1 l1 hv hvp)
  have hall := below_succ hall (lLists15b_4 F0 p1 l1 hv hvp)
  have hall := below_succ hall (lLists15b_5 F0 p1 l1 hv hvp)
  have hall := below_succ hall (lLists15b_6 F0 p1 l1 hv hvp)
  have hall := below_succ hall (lLists15b_7 F0 p1 l1 hv hvp)
  have hall := below_succ hall (lLists15b_8 F0 p1 l1 hv hvp)
  have hall := below_succ hall (lLists15b_9 F0 p1 l1 hv hvp)
  have hall := below_succ hall (lLists15b_10 F0 p1 l1 hv hvp)
  have hall := below_succ hall (lLists15b_11 F0 p1 l1 hv hvp)
  have hall := below_succ hall (lLists15b_12 F0 p1 l1 hv hvp)
  refine env_then (m := 13) (n := 13) lLists15bDs (lLists15bEs F0 p1 l1) rfl (by kernel_rfl) (by decide) (by kernel_rfl) (of_decide_eq_true (by kernel_rfl)) (by kernel_rfl) (by kernel_rfl) (fun i_ hi_ => hall i_ hi_) h fun a w h => ?_
  clear hall
  have h := h.keep [990, 5, 7, 6, 8, 10, 104, 105, 106, 107, 108, 109, 110, 111, 112, 113, 114, 115, 4]
  show wpOps Try.prog _ Q [] a w
  exact hQ a w (h.keep [990, 5, 7, 6, 8, 4])
theorem lLists11c_region {Q : Exit → Act → World → Prop} (F0 : Fo) (p1 : Pay) (l1 : Fo)  {w0 : World} {a : Act} {w : World} (h : Hold 141 [(0, .row F0), (990, .sat (gP 0 none)), (4, .val (.bool false)), (5, .ptrT ((Bl.consL F0 p1 l1).1) ((Bl.consL F0 p1 l1).2)), (7, .ptrT zp .nil), (6, .sat (nR 0 none (Tm.app F0 (Tm.elemsOf p1 l1).1))), (8, .val (.bool true)), (10, .ptrT zp .nil), (9, .sat (nR 0 none ((Tm.elemsOf p1 l1).1))), (11, .val (.bool true))] w0 a w)
    (hQ : ∀ a' w', Hold 141 [(0, .row F0), (990, .sat (gP 0 none)), (4, .val (.bool false)), (5, .ptrT ((Bl.consL F0 p1 l1).1) ((Bl.consL F0 p1 l1).2)), (7, .ptrT zp .nil), (6, .sat (nR 0 none (Tm.app F0 (Tm.elemsOf p1 l1).1))), (8, .val (.bool true)), (10, .ptrT zp .nil), (9, .sat (nR 0 none ((Tm.elemsOf p1 l1).1))), (93, .val (.bool false))] w0 a' w' → Q .normal a' w') : (Code.region 11 lLists11Ops false).wp Try.prog Q a w := by
  refine region_seq (w0 := w) 3 (by kernel_rfl) ?_
  rw [show List.range 3 = [0, 1, 2] from rfl]
  refine env_one (i := 0) (d := 91) (k := .val (.bool true)) (step_move (by kernel_rfl) (Opd.of_base 8 rfl) rfl) (by kernel_rfl) (by decide) h ?_
  clear h
  intro a w h
  refine env_one (i := 1) (d := 92) (k := .val (.bool true)) (step_move (by kernel_rfl) (Opd.of_base 11 rfl) rfl) (by kernel_rfl) (by decide) h ?_
  clear h
  intro a w h
  refine env_one (i := 2) (d := 93) (k := .val (.bool false)) (step_ne_bool (by kernel_rfl) (Opd.of_base 91 rfl) (Opd.of_base 92 rfl) (by simp) rfl) (by kernel_rfl) (by decide) h ?_
  clear h
  intro a w h
  exact hQ a w (h.keep [0, 990, 4, 5, 7, 6, 8, 10, 9, 93])
theorem lLists13c_region {Q : Exit → Act → World → Prop} (F0 : Fo) (p1 : Pay) (l1 : Fo)  {w0 : World} {a : Act} {w : World} (h : Hold 141 [(0, .row F0), (990, .sat (gP 0 none)), (4, .val (.bool false)), (5, .ptrT ((Bl.consL F0 p1 l1).1) ((Bl.consL F0 p1 l1).2)), (7, .ptrT zp .nil), (6, .sat (nR 0 none (Tm.app F0 (Tm.elemsOf p1 l1).1))), (8, .val (.bool true)), (10, .ptrT zp .nil), (9, .sat (nR 0 none ((Tm.elemsOf p1 l1).1)))] w0 a w)
    (hQ : ∀ a' w', Hold 141 [(0, .row F0), (990, .sat (gP 0 none)), (4, .val (.bool false)), (5, .ptrT ((Bl.consL F0 p1 l1).1) ((Bl.consL F0 p1 l1).2)), (7, .ptrT zp .nil), (6, .sat (nR 0 none (Tm.app F0 (Tm.elemsOf p1 l1).1))), (8, .val (.bool true)), (10, .ptrT zp .nil), (9, .sat (nR 0 none ((Tm.elemsOf p1 l1).1))), (94, .val (.bool true))] w0 a' w' → Q .normal a' w') : (Code.region 13 lLists13Ops false).wp Try.prog Q a w := by
  refine region_seq (w0 := w) 1 (by kernel_rfl) ?_
  rw [show List.range 1 = [0] from rfl]
  refine env_one (i := 0) (d := 94) (k := .val (.bool true)) (step_move (by kernel_rfl) (Opd.of_base 8 rfl) rfl) (by kernel_rfl) (by decide) h ?_
  clear h
  intro a w h
  exact hQ a w (h.keep [0, 990, 4, 5, 7, 6, 8, 10, 9, 94])
theorem lLists14a_region {Q : Exit → Act → World → Prop} (F0 : Fo) (p1 : Pay) (l1 : Fo) (hla : Tm.allV (Tm.app F0 (Tm.elemsOf p1 l1).1) = true ∧ Tm.len (Tm.app F0 (Tm.elemsOf p1 l1).1) ≤ 2000) (hlb : Tm.len F0 + Tm.len (Tm.elemsOf p1 l1).1 ≤ 2000 ∧ Tm.len (Tm.app F0 (Tm.elemsOf p1 l1).1) ≤ 2000) {w0 : World} {a : Act} {w : World} (h : Hold 141 [(0, .row F0), (990, .sat (gP 0 none)), (4, .val (.bool false)), (5, .ptrT ((Bl.consL F0 p1 l1).1) ((Bl.consL F0 p1 l1).2)), (7, .ptrT zp .nil), (6, .sat (nR 0 none (Tm.app F0 (Tm.elemsOf p1 l1).1))), (8, .val (.bool true)), (10, .ptrT zp .nil), (9, .sat (nR 0 none ((Tm.elemsOf p1 l1).1)))] w0 a w)
    (hQ : ∀ a' w', Hold 141 [(990, .sat (gP 0 none)), (4, .val (.bool true)), (5, .ptrT ((Bl.consL F0 p1 l1).1) ((Bl.consL F0 p1 l1).2)), (7, .ptrT zp .nil), (6, .sat (nR 0 none (Tm.app F0 (Tm.elemsOf p1 l1).1))), (8, .val (.bool true)), (10, .ptrT zp .nil)] w0 a' w' → Q .normal a' w') : (Code.region 14 lLists14Ops false).wp Try.prog Q a w := by
  refine region_seq (w0 := w) 10 (by kernel_rfl) ?_
  rw [show List.range 10 = [0, 1, 2, 3, 4, 5, 6, 7, 8, 9] from rfl]
  refine env_one (i := 0) (d := 95) (k := .sat (nR 0 none (Tm.app F0 (Tm.elemsOf p1 l1).1))) (step_move (by kernel_rfl) (Opd.of_base 6 rfl) rfl) (by kernel_rfl) (by decide) h ?_
  clear h
  intro a w h
  refine env_one (i := 1) (d := 96) (k := .row F0) (step_move (by kernel_rfl) (Opd.of_base 0 rfl) rfl) (by kernel_rfl) (by decide) h ?_
  clear h
  intro a w h
  refine env_app2 (i1 := 2) (i2 := 3) (i3 := 4) (d1 := 97) (d2 := 98) (d3 := 99) (x := 96) (y := 9) (kx := .row F0) (ky := .sat (nR 0 none ((Tm.elemsOf p1 l1).1))) (F := F0) (G := (Tm.elemsOf p1 l1).1) (by kernel_rfl) (by kernel_rfl) (by kernel_rfl) rfl (fun _ _ h => h) rfl (fun v w ⟨A, c, e, ha⟩ => ⟨A, c, e, ha.low⟩) (by omega) (by decide) (by decide) (by decide) (by decide) (by decide) rfl rfl rfl h ?_
  clear h
  intro a w h
  refine env_one (i := 5) (d := 100) (k := .val (.bool true)) (step_sameAll6 (by omega) (by kernel_rfl) (Opd.ofR (Opd.of_base 95 rfl)) (Opd.of_base 99 rfl) (congrArg (fun b => Kd.val (.bool b)) (Eq.symm (Tm.sameRows_refl hla.1)))) (by kernel_rfl) (by decide) h ?_
  clear h
  intro a w h
  refine env_one (i := 6) (d := 101) (k := .val (.bool true)) (step_move (by kernel_rfl) (Opd.of_base 100 rfl) rfl) (by kernel_rfl) (by decide) h ?_
  clear h
  intro a w h
  refine env_guard (i := 7) (d := 102) (g := 6) (dg := 101) (b := true) (k := .val (.bool true)) (step_awake (by kernel_rfl)  rfl) (by kernel_rfl) (by decide) (by kernel_rfl) (by decide) rfl h ?_
  clear h
  intro a w h
  refine env_one (i := 8) (d := 103) (k := .val (.bool true)) (step_pick_yes (y := .const (.bool false)) (by kernel_rfl) (Opd.of_base 101 rfl) (Opd.of_base 102 rfl) rfl) (by kernel_rfl) (by decide) h ?_
  clear h
  intro a w h
  refine env_one (i := 9) (d := 4) (k := .val (.bool true)) (step_assign (by kernel_rfl) (Opd.of_base 103 rfl) rfl) (by kernel_rfl) (by decide) h ?_
  clear h
  intro a w h
  exact hQ a w (h.keep [990, 4, 5, 7, 6, 8, 10])
set_option maxHeartbeats 1000000 in
theorem lLists_any (F0 : Fo) (A0 : Option Addr) (c0 : Nat) (p1 : Pay) (l1 : Fo) (A1 : Option Addr) (c1 : Nat) (B : Nat) (w : World) (hA0 : ArgsB w B A0 (Tm.len F0) F0) (hA1 : ArgsB w B A1 (Tm.len l1) l1) (hB : B ≤ w.heap.size)  : Calls Try.prog 9 #[Value.slice A0 (Tm.len F0) c0, tv p1 A1 (Tm.len l1) c1] w (fun e w' => e = .returned (.bool true) ∧ Below w.heap.size w w') := by
  refine calls_of_wp Try.func9 lLists_body ?_
  obtain ⟨v0, hv0⟩ : ∃ v : Value, v = Value.slice A0 (Tm.len F0) c0 := ⟨_, rfl⟩
  obtain ⟨v1, hv1⟩ : ∃ v : Value, v = tv p1 A1 (Tm.len l1) c1 := ⟨_, rfl⟩
  rw [← hv0, ← hv1]
  have hk0 : (Kd.row F0).R v0 w := by rw [hv0]; exact ⟨A0, c0, rfl, hA0.up hB⟩
  have hk1 : (Kd.term p1 l1).R v1 w := by rw [hv1]; exact ⟨A1, c1, rfl, hA1.up hB⟩
  have hsN : (#[v0, v1] ++ Array.replicate (Try.f9.ntmps - #[v0, v1].size) undef : Array Value).size = 141 := by kernel_rfl
  have gs0 : (#[v0, v1] ++ Array.replicate (Try.f9.ntmps - #[v0, v1].size) undef : Array Value).getD 0 undef = v0 := by kernel_rfl
  have gs1 : (#[v0, v1] ++ Array.replicate (Try.f9.ntmps - #[v0, v1].size) undef : Array Value).getD 1 undef = v1 := by kernel_rfl
  generalize (#[v0, v1] ++ Array.replicate (Try.f9.ntmps - #[v0, v1].size) undef : Array Value) = tm at hsN gs0 gs1 ⊢
  obtain ⟨a, ha0⟩ : ∃ a : Act, a = ⟨tm, []⟩ := ⟨_, rfl⟩
  have h : Hold 141 [(0, .row F0), (1, .term p1 l1), (990, .sat (gP 0 none))] w ⟨tm, []⟩ w := ⟨hsN, rfl, Below.refl _ _, (slots_cons 0 (by rw [gs0]; exact hk0) (slots_cons 1 (by rw [gs1]; exact hk1) (slots_cons 990 (k0 := .sat (gP 0 none)) ⟨Nat.zero_le _, fun r e => by cases e⟩ slots_nil)))⟩
  refine wp_seq ?_
  refine lLists0a_region F0 p1 l1  h ?_
  intro a w1 h
  show Code.wp _ _ _ a w1
  refine wp_seq ?_
  refine lLists1a_region F0 p1 l1  h ?_
  intro a w1 h
  show Code.wp _ _ _ a w1
  refine wp_seq ?_
  refine wp_seq ?_
  by_cases g0 : ((Tm.len F0 : Nat) : Int) = 0
  · refine lLists2a_region F0 p1 l1 g0 h ?_
    intro a w1 h
    show Code.wp _ _ _ a w1
    refine env_cond (b := true) rfl h ?_
    have h := h.keep [0, 990, 3, 4, 5]
    show Code.wp _ _ _ a w1
    refine wp_seq ?_
    refine lLists3a_region F0 p1 l1  h ?_
    intro a w1 h
    show Code.wp _ _ _ a w1
    refine wp_ret ?_
    (try simp only [then_ret, block_ret])
    exact law_out rfl (h.get 4 rfl) h.defers ⟨rfl, h.world⟩
  by_cases gt : ((Tm.len (Bl.mkList F0 p1 l1).2 : Nat) : Int) = 2
  rotate_left
  · refine lLists2b_region F0 p1 l1 g0 gt h ?_
    intro a w1 h
    show Code.wp _ _ _ a w1
    refine env_cond (b := true) rfl h ?_
    have h := h.keep [0, 990, 3, 4, 5]
    show Code.wp _ _ _ a w1
    refine wp_seq ?_
    refine lLists3a_region F0 p1 l1  h ?_
    intro a w1 h
    show Code.wp _ _ _ a w1
    refine wp_ret ?_
    (try simp only [then_ret, block_ret])
    exact law_out rfl (h.get 4 rfl) h.defers ⟨rfl, h.world⟩
  · refine lLists2c_region F0 p1 l1 g0 gt h ?_
    intro a w1 h
    obtain ⟨hT, hv, hlen⟩ := Bl.mk_good g0 gt
    have hvp := (Bl.consL_valid F0 p1 l1 hv).1
    rw [hT] at h
    show Code.wp _ _ _ a w1
    refine env_cond (b := false) rfl h ?_
    refine wp_skip ?_
    have h := h.keep [0, 990, 3, 4, 5]
    show Code.wp _ _ _ a w1
    refine wp_seq ?_
    refine lLists4a_region F0 p1 l1  h ?_
    intro a w1 h
    show Code.wp _ _ _ a w1
    refine wp_seq ?_
    refine wp_block ?_
    refine wp_seq ?_
    by_cases g1 : p1.1 = 0
    · rw [Bl.list_var hv g1] at h
      dsimp only at h
      refine lLists5a_region F0 p1 l1 g1 h ?_
      intro a w1 h
      show Code.wp _ _ _ a w1
      refine env_cond (b := true) rfl h ?_
      have h := h.keep [990, 4, 5, 7, 6, 8]
      show Code.wp _ _ _ a w1
      refine wp_seq ?_
      have h := h.keep [990, 5, 7, 6, 8]
      refine lLists6a_region F0 p1 l1  h ?_
      intro a w1 h
      show Code.wp _ _ _ a w1
      refine wp_ret ?_
      (try simp only [then_ret, block_ret])
      exact law_out rfl (h.get 4 rfl) h.defers ⟨rfl, h.world⟩
    · refine lLists5b_region F0 p1 l1 g1 h ?_
      intro a w1 h
      show Code.wp _ _ _ a w1
      refine env_cond (b := false) rfl h ?_
      have h := h.keep [0, 990, 3, 4, 5, 7, 6, 8]
      show Code.wp _ _ _ a w1
      refine wp_seq ?_
      by_cases g2 : p1 = Tm.emptyA ∧ l1 = .nil
      · rw [Bl.list_nil hv g2.1 g2.2] at h
        dsimp only at h
        refine lLists7a_region F0 p1 l1 g2 h ?_
        intro a w1 h
        show Code.wp _ _ _ a w1
        refine env_cond (b := true) rfl h ?_
        have h := h.keep [0, 990, 4, 5, 7, 6, 8]
        show Code.wp _ _ _ a w1
        refine wp_seq ?_
        refine lLists8a_region F0 p1 l1 hv hlen h ?_
        intro a w1 h
        show Code.wp _ _ _ a w1
        refine wp_ret ?_
        (try simp only [then_ret, block_ret])
        exact law_out rfl (h.get 4 rfl) h.defers ⟨rfl, h.world⟩
      · refine lLists7b_region F0 p1 l1 g2 h ?_
        intro a w1 h
        show Code.wp _ _ _ a w1
        refine env_cond (b := false) rfl h ?_
        have h := h.keep [0, 990, 3, 4, 5, 7, 6, 8]
        show Code.wp _ _ _ a w1
        refine wp_seq ?_
        by_cases a1 : p1.1 = 3
        rotate_left
        · have g3 : ¬ (p1.1 = 3 ∧ p1.2.2 = ⟨#[46]⟩ ∧ Tm.len l1 = 2) := fun ⟨x1, x2, x3⟩ => a1 x1
          rw [Bl.list_other hv g1 g2 g3] at h
          dsimp only at h
          refine lLists9a_region F0 p1 l1 a1 h ?_
          intro a w1 h
          show Code.wp _ _ _ a w1
          refine env_cond (b := false) rfl h ?_
          refine wp_skip ?_
          have h := h.keep [990, 4, 5, 7, 6, 8]
          show Code.wp _ _ _ a w1
          refine wp_seq ?_
          refine lLists16a_region F0 p1 l1  h ?_
          intro r a w1 hr h
          show Code.wp _ _ _ a w1
          refine wp_seq ?_
          refine wp_seq ?_
          have hz := Bl.sizeB_valid hv
          by_cases gs : 2000 < 1 + Tm.size (Bl.consL F0 p1 l1).2 + 4
          · refine lLists17a_region F0 p1 l1 r hz gs hr h ?_
            intro a w1 h
            show Code.wp _ _ _ a w1
            refine env_cond (b := true) rfl h ?_
            have h := h.keep [4, 7, 6, 8, 990, 12]
            show Code.wp _ _ _ a w1
            refine lLists18a_region F0 p1 l1 r  hr h ?_
            intro a w1 h
            show Code.wp _ _ _ a w1
            refine wp_seq ?_
            have h := h.keep [7, 6, 8, 990, 12]
            refine lLists19a_region F0 p1 l1 r hv gs hr h ?_
            intro a w1 h
            show Code.wp _ _ _ a w1
            refine wp_ret ?_
            (try simp only [then_ret, block_ret])
            exact law_out rfl (h.get 4 rfl) h.defers ⟨rfl, h.world⟩
          · refine lLists17b_region F0 p1 l1 r hz gs hr h ?_
            intro a w1 h
            show Code.wp _ _ _ a w1
            refine env_cond (b := false) rfl h ?_
            refine wp_skip ?_
            have h := h.keep [4, 7, 6, 8, 990, 12]
            show Code.wp _ _ _ a w1
            refine wp_seq ?_
            have h := h.keep [7, 6, 8, 990, 12]
            refine lLists19b_region F0 p1 l1 r hv gs hr h ?_
            intro a w1 h
            show Code.wp _ _ _ a w1
            refine wp_ret ?_
            (try simp only [then_ret, block_ret])
            exact law_out rfl (h.get 4 rfl) h.defers ⟨rfl, h.world⟩
        by_cases a2 : p1.2.2 = (⟨#[46]⟩ : ByteArray)
        rotate_left
        · have g3 : ¬ (p1.1 = 3 ∧ p1.2.2 = ⟨#[46]⟩ ∧ Tm.len l1 = 2) := fun ⟨x1, x2, x3⟩ => a2 x2
          rw [Bl.list_other hv g1 g2 g3] at h
          dsimp only at h
          refine lLists9b_region F0 p1 l1 a1 a2 h ?_
          intro a w1 h
          show Code.wp _ _ _ a w1
          refine env_cond (b := false) rfl h ?_
          refine wp_skip ?_
          have h := h.keep [990, 4, 5, 7, 6, 8]
          show Code.wp _ _ _ a w1
          refine wp_seq ?_
          refine lLists16a_region F0 p1 l1  h ?_
          intro r a w1 hr h
          show Code.wp _ _ _ a w1
          refine wp_seq ?_
          refine wp_seq ?_
          have hz := Bl.sizeB_valid hv
          by_cases gs : 2000 < 1 + Tm.size (Bl.consL F0 p1 l1).2 + 4
          · refine lLists17a_region F0 p1 l1 r hz gs hr h ?_
            intro a w1 h
            show Code.wp _ _ _ a w1
            refine env_cond (b := true) rfl h ?_
            have h := h.keep [4, 7, 6, 8, 990, 12]
            show Code.wp _ _ _ a w1
            refine lLists18a_region F0 p1 l1 r  hr h ?_
            intro a w1 h
            show Code.wp _ _ _ a w1
            refine wp_seq ?_
            have h := h.keep [7, 6, 8, 990, 12]
            refine lLists19a_region F0 p1 l1 r hv gs hr h ?_
            intro a w1 h
            show Code.wp _ _ _ a w1
            refine wp_ret ?_
            (try simp only [then_ret, block_ret])
            exact law_out rfl (h.get 4 rfl) h.defers ⟨rfl, h.world⟩
          · refine lLists17b_region F0 p1 l1 r hz gs hr h ?_
            intro a w1 h
            show Code.wp _ _ _ a w1
            refine env_cond (b := false) rfl h ?_
            refine wp_skip ?_
            have h := h.keep [4, 7, 6, 8, 990, 12]
            show Code.wp _ _ _ a w1
            refine wp_seq ?_
            have h := h.keep [7, 6, 8, 990, 12]
            refine lLists19b_region F0 p1 l1 r hv gs hr h ?_
            intro a w1 h
            show Code.wp _ _ _ a w1
            refine wp_ret ?_
            (try simp only [then_ret, block_ret])
            exact law_out rfl (h.get 4 rfl) h.defers ⟨rfl, h.world⟩
        by_cases a3 : ((Tm.len l1 : Nat) : Int) = 2
        rotate_left
        · have g3 : ¬ (p1.1 = 3 ∧ p1.2.2 = ⟨#[46]⟩ ∧ Tm.len l1 = 2) := fun ⟨x1, x2, x3⟩ => a3 (by rw [x3]; rfl)
          rw [Bl.list_other hv g1 g2 g3] at h
          dsimp only at h
          refine lLists9c_region F0 p1 l1 a1 a2 a3 h ?_
          intro a w1 h
          show Code.wp _ _ _ a w1
          refine env_cond (b := false) rfl h ?_
          refine wp_skip ?_
          have h := h.keep [990, 4, 5, 7, 6, 8]
          show Code.wp _ _ _ a w1
          refine wp_seq ?_
          refine lLists16a_region F0 p1 l1  h ?_
          intro r a w1 hr h
          show Code.wp _ _ _ a w1
          refine wp_seq ?_
          refine wp_seq ?_
          have hz := Bl.sizeB_valid hv
          by_cases gs : 2000 < 1 + Tm.size (Bl.consL F0 p1 l1).2 + 4
          · refine lLists17a_region F0 p1 l1 r hz gs hr h ?_
            intro a w1 h
            show Code.wp _ _ _ a w1
            refine env_cond (b := true) rfl h ?_
            have h := h.keep [4, 7, 6, 8, 990, 12]
            show Code.wp _ _ _ a w1
            refine lLists18a_region F0 p1 l1 r  hr h ?_
            intro a w1 h
            show Code.wp _ _ _ a w1
            refine wp_seq ?_
            have h := h.keep [7, 6, 8, 990, 12]
            refine lLists19a_region F0 p1 l1 r hv gs hr h ?_
            intro a w1 h
            show Code.wp _ _ _ a w1
            refine wp_ret ?_
            (try simp only [then_ret, block_ret])
            exact law_out rfl (h.get 4 rfl) h.defers ⟨rfl, h.world⟩
          · refine lLists17b_region F0 p1 l1 r hz gs hr h ?_
            intro a w1 h
            show Code.wp _ _ _ a w1
            refine env_cond (b := false) rfl h ?_
            refine wp_skip ?_
            have h := h.keep [4, 7, 6, 8, 990, 12]
            show Code.wp _ _ _ a w1
            refine wp_seq ?_
            have h := h.keep [7, 6, 8, 990, 12]
            refine lLists19b_region F0 p1 l1 r hv gs hr h ?_
            intro a w1 h
            show Code.wp _ _ _ a w1
            refine wp_ret ?_
            (try simp only [then_ret, block_ret])
            exact law_out rfl (h.get 4 rfl) h.defers ⟨rfl, h.world⟩
        · refine lLists9d_region F0 p1 l1 a1 a2 a3 h ?_
          intro a w1 h
          show Code.wp _ _ _ a w1
          refine env_cond (b := true) rfl h ?_
          have h := h.keep [0, 990, 3, 4, 5, 7, 6, 8]
          show Code.wp _ _ _ a w1
          refine wp_seq ?_
          refine lLists10a_region F0 p1 l1  h ?_
          intro a w1 h
          rcases Bl.list_more hv with ⟨m1, m2⟩ | ⟨m1, m2⟩ | ⟨m1, m2⟩
          · rw [m1, m2] at h
            dsimp only at h
            show Code.wp _ _ _ a w1
            refine wp_seq ?_
            refine wp_seq ?_
            refine lLists11a_region F0 p1 l1  h ?_
            intro a w1 h
            show Code.wp _ _ _ a w1
            refine env_cond (b := false) rfl h ?_
            refine wp_skip ?_
            have h := h.keep [0, 990, 4, 5, 7, 6, 8, 10, 9]
            show Code.wp _ _ _ a w1
            refine wp_seq ?_
            refine wp_seq ?_
            refine lLists13a_region F0 p1 l1  h ?_
            intro a w1 h
            show Code.wp _ _ _ a w1
            refine env_cond (b := false) rfl h ?_
            refine wp_skip ?_
            have h := h.keep [990, 4, 5, 7, 6, 8, 10]
            show Code.wp _ _ _ a w1
            refine wp_seq ?_
            have h := h.keep [990, 5, 7, 6, 8, 10]
            refine lLists15a_region F0 p1 l1  h ?_
            intro a w1 h
            show Code.wp _ _ _ a w1
            refine wp_ret ?_
            (try simp only [then_ret, block_ret])
            exact law_out rfl (h.get 4 rfl) h.defers ⟨rfl, h.world⟩
          · rw [m1, m2] at h
            dsimp only at h
            show Code.wp _ _ _ a w1
            refine wp_seq ?_
            refine wp_seq ?_
            refine lLists11b_region F0 p1 l1  h ?_
            intro a w1 h
            show Code.wp _ _ _ a w1
            refine env_cond (b := false) rfl h ?_
            refine wp_skip ?_
            have h := h.keep [0, 990, 4, 5, 7, 6, 8, 10, 9]
            show Code.wp _ _ _ a w1
            refine wp_seq ?_
            refine wp_seq ?_
            refine lLists13b_region F0 p1 l1  h ?_
            intro a w1 h
            show Code.wp _ _ _ a w1
            refine env_cond (b := false) rfl h ?_
            refine wp_skip ?_
            have h := h.keep [990, 4, 5, 7, 6, 8, 10]
            show Code.wp _ _ _ a w1
            refine wp_seq ?_
            have h := h.keep [990, 5, 7, 6, 8, 10]
            refine lLists15b_region F0 p1 l1 hv hvp h ?_
            intro a w1 h
            show Code.wp _ _ _ a w1
            refine wp_ret ?_
            (try simp only [then_ret, block_ret])
            exact law_out rfl (h.get 4 rfl) h.defers ⟨rfl, h.world⟩
          · rw [m1, m2] at h
            dsimp only at h
            have hla := Bl.list_rows (Bl.consL F0 p1 l1).1 (Bl.consL F0 p1 l1).2
            rw [m2] at hla
            dsimp only at hla
            show Code.wp _ _ _ a w1
            refine wp_seq ?_
            refine wp_seq ?_
            refine lLists11c_region F0 p1 l1  h ?_
            intro a w1 h
            show Code.wp _ _ _ a w1
            refine env_cond (b := false) rfl h ?_
            refine wp_skip ?_
            have h := h.keep [0, 990, 4, 5, 7, 6, 8, 10, 9]
            show Code.wp _ _ _ a w1
            refine wp_seq ?_
            refine wp_seq ?_
            refine lLists13c_region F0 p1 l1  h ?_
            intro a w1 h
            show Code.wp _ _ _ a w1
            refine env_cond (b := true) rfl h ?_
            have h := h.keep [0, 990, 4, 5, 7, 6, 8, 10, 9]
            show Code.wp _ _ _ a w1
            refine wp_seq ?_
            have hlb : Tm.len F0 + Tm.len (Tm.elemsOf p1 l1).1 ≤ 2000 ∧ Tm.len (Tm.app F0 (Tm.elemsOf p1 l1).1) ≤ 2000 := ⟨by rw [← Bl.len_app]; exact hla.2, hla.2⟩
            refine lLists14a_region F0 p1 l1 hla hlb h ?_
            intro a w1 h
            show Code.wp _ _ _ a w1
            refine wp_ret ?_
            (try simp only [then_ret, block_ret])
            exact law_out rfl (h.get 4 rfl) h.defers ⟨rfl, h.world⟩
end Go.Proofs.Ytapcnehpechkpaa
