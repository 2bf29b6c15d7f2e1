/-
  The statement BallsKinds, as its function.
-/
import Derived.Test.YtapcnehpechkpaaFacts6
import Derived.Test.YtapcnehpechkpaaRefChk
namespace Go.Proofs.Ytapcnehpechkpaa
set_option linter.unusedVariables false
set_option linter.unusedSimpArgs false
set_option maxRecDepth 100000
open Go.RowKit
noncomputable def lKinds0Ops : Array Oper := ((Try.f5.body).bind (findReg 0)).getD #[]
noncomputable def lKinds1Ops : Array Oper := ((Try.f5.body).bind (findReg 1)).getD #[]
noncomputable def lKinds2Ops : Array Oper := ((Try.f5.body).bind (findReg 2)).getD #[]
noncomputable def lKinds3Ops : Array Oper := ((Try.f5.body).bind (findReg 3)).getD #[]
noncomputable def lKinds4Ops : Array Oper := ((Try.f5.body).bind (findReg 4)).getD #[]
noncomputable def lKinds5Ops : Array Oper := ((Try.f5.body).bind (findReg 5)).getD #[]
noncomputable def lKinds6Ops : Array Oper := ((Try.f5.body).bind (findReg 6)).getD #[]
noncomputable def lKinds7Ops : Array Oper := ((Try.f5.body).bind (findReg 7)).getD #[]
noncomputable def lKinds8Ops : Array Oper := ((Try.f5.body).bind (findReg 8)).getD #[]
noncomputable def lKinds9Ops : Array Oper := ((Try.f5.body).bind (findReg 9)).getD #[]
noncomputable def lKinds10Ops : Array Oper := ((Try.f5.body).bind (findReg 10)).getD #[]
noncomputable def lKinds11Ops : Array Oper := ((Try.f5.body).bind (findReg 11)).getD #[]
noncomputable def lKinds12Ops : Array Oper := ((Try.f5.body).bind (findReg 12)).getD #[]
noncomputable def lKinds13Ops : Array Oper := ((Try.f5.body).bind (findReg 13)).getD #[]
noncomputable def lKinds14Ops : Array Oper := ((Try.f5.body).bind (findReg 14)).getD #[]
noncomputable def lKinds15Ops : Array Oper := ((Try.f5.body).bind (findReg 15)).getD #[]
theorem lKinds_body : Try.f5.body = some (.seq (.region 0 lKinds0Ops false) (.seq (.region 1 lKinds1Ops false) (.seq (.region 2 lKinds2Ops false) (.seq (.seq (.region 3 lKinds3Ops false) (.cond (.tmp 42) (.seq (.region 4 lKinds4Ops false) .ret) .skip)) (.seq (.region 5 lKinds5Ops false) (.seq (.region 6 lKinds6Ops false) (.seq (.seq (.region 7 lKinds7Ops false) (.cond (.tmp 68) (.seq (.region 8 lKinds8Ops false) .ret) .skip)) (.seq (.region 9 lKinds9Ops false) (.seq (.region 10 lKinds10Ops false) (.seq (.seq (.region 11 lKinds11Ops false) (.cond (.tmp 87) (.seq (.region 12 lKinds12Ops false) .ret) .skip)) (.seq (.region 13 lKinds13Ops false) (.seq (.region 14 lKinds14Ops false) (.seq (.region 15 lKinds15Ops false) .ret))))))))))))) := by kernel_rfl
theorem lKinds0a_region {Q : Exit → Act → World → Prop} (p0 : Pay) (l0 : Fo)  {w0 : World} {a : Act} {w : World} (h : Hold 109 [(0, .term p0 l0), (990, .sat (gP 0 none))] w0 a w)
    (hQ : ∀ a' w', Hold 109 [(990, .sat (gP 0 none)), (1, .ptrT p0 l0), (2, .val (.bool false))] w0 a' w' → Q .normal a' w') : (Code.region 0 lKinds0Ops false).wp Try.prog Q a w := by
  refine region_seq (w0 := w) 2 (by kernel_rfl) ?_
  rw [show List.range 2 = [0, 1] from rfl]
  refine env_one (i := 0) (d := 1) (k := .ptrT p0 l0) (step_box (by kernel_rfl) (Opd.of_base 0 rfl) rfl) (by kernel_rfl) (by decide) h ?_
  clear h
  intro a w h
  refine env_one (i := 1) (d := 2) (k := .val (.bool false)) (step_assign (by kernel_rfl) (Opd.const _) rfl) (by kernel_rfl) (by decide) h ?_
  clear h
  intro a w h
  exact hQ a w (h.keep [990, 1, 2])
theorem lKinds1a_region {Q : Exit → Act → World → Prop} (p0 : Pay) (l0 : Fo)  {w0 : World} {a : Act} {w : World} (h : Hold 109 [(990, .sat (gP 0 none)), (1, .ptrT p0 l0), (2, .val (.bool false))] w0 a w)
    (hQ : ∀ a' w', Hold 109 [(990, .sat (gP 0 none)), (1, .ptrT p0 l0), (2, .val (.bool false)), (4, .ptrT (((Bl.atom p0 l0).2.1).1) (((Bl.atom p0 l0).2.1).2)), (3, .val (.string (Bl.atom p0 l0).1)), (5, .val (.bool ((Bl.atom p0 l0).2.2)))] w0 a' w' → Q .normal a' w') : (Code.region 1 lKinds1Ops false).wp Try.prog Q a w := by
  refine region_seq (w0 := w) 10 (by kernel_rfl) ?_
  rw [show List.range 10 = [0, 1, 2, 3, 4, 5, 6, 7, 8, 9] from rfl]
  refine env_one (i := 0) (d := 18) (k := .term p0 l0) (step_load_term (by kernel_rfl) (Opd.of_base 1 rfl) rfl) (by kernel_rfl) (by decide) h ?_
  clear h
  intro a w h
  refine env_one (i := 1) (d := 19) (k := .sat (nT3 0 none (.string (Bl.atom p0 l0).1) (((Bl.atom p0 l0).2.1).1) (((Bl.atom p0 l0).2.1).2) ((Bl.atom p0 l0).2.2))) (step_bAtom (g := 990) (by kernel_rfl) (Opd.of_base 18 rfl) (Opd.of_base 990 rfl) rfl) (by kernel_rfl) (by decide) h ?_
  clear h
  intro a w h
  refine env_one (i := 2) (d := 17) (k := .sat (nT3 0 none (.string (Bl.atom p0 l0).1) (((Bl.atom p0 l0).2.1).1) (((Bl.atom p0 l0).2.1).2) ((Bl.atom p0 l0).2.2))) (step_move (by kernel_rfl) (Opd.of_base 19 rfl) rfl) (by kernel_rfl) (by decide) h ?_
  clear h
  intro a w h
  refine env_one (i := 3) (d := 20) (k := .val (.string (Bl.atom p0 l0).1)) (step_nT3_0 (by kernel_rfl) (Opd.of_base 17 rfl) rfl) (by kernel_rfl) (by decide) h ?_
  clear h
  intro a w h
  refine env_one (i := 4) (d := 21) (k := .sat (nT 0 none (((Bl.atom p0 l0).2.1).1) (((Bl.atom p0 l0).2.1).2))) (step_nT3_1 (by kernel_rfl) (Opd.of_base 17 rfl) rfl) (by kernel_rfl) (by decide) h ?_
  clear h
  intro a w h
  refine env_one (i := 5) (d := 22) (k := .val (.bool ((Bl.atom p0 l0).2.2))) (step_nT3_2 (by kernel_rfl) (Opd.of_base 17 rfl) rfl) (by kernel_rfl) (by decide) h ?_
  clear h
  intro a w h
  have h := h.cast 21 rfl
  refine env_box3 (i := 6) (d := 4) (e := 3) (by kernel_rfl) (by decide) (by kernel_rfl) (by decide) (x := 20) rfl (by decide) (by decide) (by kernel_rfl) (by decide) (by decide) (s := 21) rfl h ?_
  clear h
  intro a w h
  refine env_one (i := 9) (d := 5) (k := .val (.bool ((Bl.atom p0 l0).2.2))) (step_assign (by kernel_rfl) (Opd.of_base 22 rfl) rfl) (by kernel_rfl) (by decide) h ?_
  clear h
  intro a w h
  exact hQ a w (h.keep [990, 1, 2, 4, 3, 5])
theorem lKinds2a_region {Q : Exit → Act → World → Prop} (p0 : Pay) (l0 : Fo)  {w0 : World} {a : Act} {w : World} (h : Hold 109 [(990, .sat (gP 0 none)), (1, .ptrT p0 l0), (2, .val (.bool false)), (4, .ptrT (((Bl.atom p0 l0).2.1).1) (((Bl.atom p0 l0).2.1).2)), (3, .val (.string (Bl.atom p0 l0).1)), (5, .val (.bool ((Bl.atom p0 l0).2.2)))] w0 a w)
    (hQ : ∀ a' w', Hold 109 [(990, .sat (gP 0 none)), (1, .ptrT p0 l0), (2, .val (.bool false)), (4, .ptrT (((Bl.atom p0 l0).2.1).1) (((Bl.atom p0 l0).2.1).2)), (3, .val (.string (Bl.atom p0 l0).1)), (5, .val (.bool ((Bl.atom p0 l0).2.2))), (7, .ptrT (((Bl.atom p0 l0).2.1).1) (((Bl.atom p0 l0).2.1).2)), (6, .val (.string (Bl.atom p0 l0).1)), (8, .val (.bool ((Bl.atom p0 l0).2.2)))] w0 a' w' → Q .normal a' w') : (Code.region 2 lKinds2Ops false).wp Try.prog Q a w := by
  refine region_seq (w0 := w) 10 (by kernel_rfl) ?_
  rw [show List.range 10 = [0, 1, 2, 3, 4, 5, 6, 7, 8, 9] from rfl]
  refine env_one (i := 0) (d := 24) (k := .term p0 l0) (step_load_term (by kernel_rfl) (Opd.of_base 1 rfl) rfl) (by kernel_rfl) (by decide) h ?_
  clear h
  intro a w h
  refine env_one (i := 1) (d := 25) (k := .sat (nT3 0 none (.string (Bl.atom p0 l0).1) (((Bl.atom p0 l0).2.1).1) (((Bl.atom p0 l0).2.1).2) ((Bl.atom p0 l0).2.2))) (step_rAtom (g := 990) (by kernel_rfl) (Opd.of_base 24 rfl) (Opd.of_base 990 rfl) rfl) (by kernel_rfl) (by decide) h ?_
  clear h
  intro a w h
  refine env_one (i := 2) (d := 23) (k := .sat (nT3 0 none (.string (Bl.atom p0 l0).1) (((Bl.atom p0 l0).2.1).1) (((Bl.atom p0 l0).2.1).2) ((Bl.atom p0 l0).2.2))) (step_move (by kernel_rfl) (Opd.of_base 25 rfl) rfl) (by kernel_rfl) (by decide) h ?_
  clear h
  intro a w h
  refine env_one (i := 3) (d := 26) (k := .val (.string (Bl.atom p0 l0).1)) (step_nT3_0 (by kernel_rfl) (Opd.of_base 23 rfl) rfl) (by kernel_rfl) (by decide) h ?_
  clear h
  intro a w h
  refine env_one (i := 4) (d := 27) (k := .sat (nT 0 none (((Bl.atom p0 l0).2.1).1) (((Bl.atom p0 l0).2.1).2))) (step_nT3_1 (by kernel_rfl) (Opd.of_base 23 rfl) rfl) (by kernel_rfl) (by decide) h ?_
  clear h
  intro a w h
  refine env_one (i := 5) (d := 28) (k := .val (.bool ((Bl.atom p0 l0).2.2))) (step_nT3_2 (by kernel_rfl) (Opd.of_base 23 rfl) rfl) (by kernel_rfl) (by decide) h ?_
  clear h
  intro a w h
  have h := h.cast 27 rfl
  refine env_box3 (i := 6) (d := 7) (e := 6) (by kernel_rfl) (by decide) (by kernel_rfl) (by decide) (x := 26) rfl (by decide) (by decide) (by kernel_rfl) (by decide) (by decide) (s := 27) rfl h ?_
  clear h
  intro a w h
  refine env_one (i := 9) (d := 8) (k := .val (.bool ((Bl.atom p0 l0).2.2))) (step_assign (by kernel_rfl) (Opd.of_base 28 rfl) rfl) (by kernel_rfl) (by decide) h ?_
  clear h
  intro a w h
  exact hQ a w (h.keep [990, 1, 2, 4, 3, 5, 7, 6, 8])
theorem lKinds3a_region {Q : Exit → Act → World → Prop} (p0 : Pay) (l0 : Fo)  {w0 : World} {a : Act} {w : World} (h : Hold 109 [(990, .sat (gP 0 none)), (1, .ptrT p0 l0), (2, .val (.bool false)), (4, .ptrT (((Bl.atom p0 l0).2.1).1) (((Bl.atom p0 l0).2.1).2)), (3, .val (.string (Bl.atom p0 l0).1)), (5, .val (.bool ((Bl.atom p0 l0).2.2))), (7, .ptrT (((Bl.atom p0 l0).2.1).1) (((Bl.atom p0 l0).2.1).2)), (6, .val (.string (Bl.atom p0 l0).1)), (8, .val (.bool ((Bl.atom p0 l0).2.2)))] w0 a w)
    (hQ : ∀ a' w', Hold 109 [(990, .sat (gP 0 none)), (1, .ptrT p0 l0), (2, .val (.bool false)), (5, .val (.bool ((Bl.atom p0 l0).2.2))), (8, .val (.bool ((Bl.atom p0 l0).2.2))), (42, .val (.bool false))] w0 a' w' → Q .normal a' w') : (Code.region 3 lKinds3Ops false).wp Try.prog Q a w := by
  refine region_seq (w0 := w) 14 (by kernel_rfl) ?_
  rw [show List.range 14 = [0, 1, 2, 3, 4, 5, 6, 7, 8, 9, 10, 11, 12, 13] from rfl]
  refine env_one (i := 0) (d := 29) (k := .val (.string (Bl.atom p0 l0).1)) (step_move (by kernel_rfl) (Opd.of_base 3 rfl) rfl) (by kernel_rfl) (by decide) h ?_
  clear h
  intro a w h
  refine env_one (i := 1) (d := 30) (k := .val (.string (Bl.atom p0 l0).1)) (step_move (by kernel_rfl) (Opd.of_base 6 rfl) rfl) (by kernel_rfl) (by decide) h ?_
  clear h
  intro a w h
  refine env_one (i := 2) (d := 31) (k := .val (.bool false)) (step_ne_str (s := (Bl.atom p0 l0).1) (t := (Bl.atom p0 l0).1) (by kernel_rfl) (Opd.of_base 29 rfl) (Opd.of_base 30 rfl) (by simp) rfl) (by kernel_rfl) (by decide) h ?_
  clear h
  intro a w h
  refine env_one (i := 3) (d := 32) (k := .val (.bool false)) (step_move (by kernel_rfl) (Opd.of_base 31 rfl) rfl) (by kernel_rfl) (by decide) h ?_
  clear h
  intro a w h
  refine env_guard (i := 4) (d := 33) (g := 3) (dg := 32) (b := false) (k := .term (((Bl.atom p0 l0).2.1).1) (((Bl.atom p0 l0).2.1).2)) (step_load_term (by kernel_rfl) (Opd.of_base 4 rfl) rfl) (by kernel_rfl) (by decide) (by kernel_rfl) (by decide) rfl h ?_
  clear h
  intro a w h
  refine env_guard (i := 5) (d := 34) (g := 3) (dg := 32) (b := false) (k := .term (((Bl.atom p0 l0).2.1).1) (((Bl.atom p0 l0).2.1).2)) (step_load_term (by kernel_rfl) (Opd.of_base 7 rfl) rfl) (by kernel_rfl) (by decide) (by kernel_rfl) (by decide) rfl h ?_
  clear h
  intro a w h
  refine env_guard (i := 6) (d := 35) (g := 3) (dg := 32) (b := false) (k := .val (.bool true)) (step_lsame (by kernel_rfl) (Opd.of_base 33 rfl) (Opd.of_base 34 rfl) (by rw [same_self (Bl.atom_valid p0 l0)]; rfl)) (by kernel_rfl) (by decide) (by kernel_rfl) (by decide) rfl h ?_
  clear h
  intro a w h
  refine env_guard (i := 7) (d := 36) (g := 3) (dg := 32) (b := false) (k := .val (.bool false)) (step_not (by kernel_rfl) (Opd.of_base 35 rfl) rfl) (by kernel_rfl) (by decide) (by kernel_rfl) (by decide) rfl h ?_
  clear h
  intro a w h
  refine env_one (i := 8) (d := 37) (k := .val (.bool false)) (step_pick_no (x := .const (.bool true)) (by kernel_rfl) (Opd.of_base 32 rfl) (Opd.of_base 36 rfl) rfl) (by kernel_rfl) (by decide) h ?_
  clear h
  intro a w h
  refine env_one (i := 9) (d := 38) (k := .val (.bool false)) (step_move (by kernel_rfl) (Opd.of_base 37 rfl) rfl) (by kernel_rfl) (by decide) h ?_
  clear h
  intro a w h
  refine env_guard (i := 10) (d := 39) (g := 9) (dg := 38) (b := false) (k := .val (.bool ((Bl.atom p0 l0).2.2))) (step_move (by kernel_rfl) (Opd.of_base 5 rfl) rfl) (by kernel_rfl) (by decide) (by kernel_rfl) (by decide) rfl h ?_
  clear h
  intro a w h
  refine env_guard (i := 11) (d := 40) (g := 9) (dg := 38) (b := false) (k := .val (.bool ((Bl.atom p0 l0).2.2))) (step_move (by kernel_rfl) (Opd.of_base 8 rfl) rfl) (by kernel_rfl) (by decide) (by kernel_rfl) (by decide) rfl h ?_
  clear h
  intro a w h
  refine env_guard (i := 12) (d := 41) (g := 9) (dg := 38) (b := false) (k := .val (.bool false)) (step_ne_bool (by kernel_rfl) (Opd.of_base 39 rfl) (Opd.of_base 40 rfl) (by simp) rfl) (by kernel_rfl) (by decide) (by kernel_rfl) (by decide) rfl h ?_
  clear h
  intro a w h
  refine env_one (i := 13) (d := 42) (k := .val (.bool false)) (step_pick_no (x := .const (.bool true)) (by kernel_rfl) (Opd.of_base 38 rfl) (Opd.of_base 41 rfl) rfl) (by kernel_rfl) (by decide) h ?_
  clear h
  intro a w h
  exact hQ a w (h.keep [990, 1, 2, 5, 8, 42])
theorem lKinds5a_region {Q : Exit → Act → World → Prop} (p0 : Pay) (l0 : Fo)  {w0 : World} {a : Act} {w : World} (h : Hold 109 [(990, .sat (gP 0 none)), (1, .ptrT p0 l0), (2, .val (.bool false)), (5, .val (.bool ((Bl.atom p0 l0).2.2))), (8, .val (.bool ((Bl.atom p0 l0).2.2)))] w0 a w)
    (hQ : ∀ a' w', Hold 109 [(990, .sat (gP 0 none)), (1, .ptrT p0 l0), (2, .val (.bool false)), (5, .val (.bool ((Bl.int p0 l0).2.2))), (8, .val (.bool ((Bl.atom p0 l0).2.2))), (10, .ptrT (((Bl.int p0 l0).2.1).1) (((Bl.int p0 l0).2.1).2)), (9, .val (.int .i64 (Bl.int p0 l0).1))] w0 a' w' → Q .normal a' w') : (Code.region 5 lKinds5Ops false).wp Try.prog Q a w := by
  refine region_seq (w0 := w) 10 (by kernel_rfl) ?_
  rw [show List.range 10 = [0, 1, 2, 3, 4, 5, 6, 7, 8, 9] from rfl]
  refine env_one (i := 0) (d := 44) (k := .term p0 l0) (step_load_term (by kernel_rfl) (Opd.of_base 1 rfl) rfl) (by kernel_rfl) (by decide) h ?_
  clear h
  intro a w h
  refine env_one (i := 1) (d := 45) (k := .sat (nT3 0 none (.int .i64 (Bl.int p0 l0).1) (((Bl.int p0 l0).2.1).1) (((Bl.int p0 l0).2.1).2) ((Bl.int p0 l0).2.2))) (step_bInt (g := 990) (by kernel_rfl) (Opd.of_base 44 rfl) (Opd.of_base 990 rfl) rfl) (by kernel_rfl) (by decide) h ?_
  clear h
  intro a w h
  refine env_one (i := 2) (d := 43) (k := .sat (nT3 0 none (.int .i64 (Bl.int p0 l0).1) (((Bl.int p0 l0).2.1).1) (((Bl.int p0 l0).2.1).2) ((Bl.int p0 l0).2.2))) (step_move (by kernel_rfl) (Opd.of_base 45 rfl) rfl) (by kernel_rfl) (by decide) h ?_
  clear h
  intro a w h
  refine env_one (i := 3) (d := 46) (k := .val (.int .i64 (Bl.int p0 l0).1)) (step_nT3_0 (by kernel_rfl) (Opd.of_base 43 rfl) rfl) (by kernel_rfl) (by decide) h ?_
  clear h
  intro a w h
  refine env_one (i := 4) (d := 47) (k := .sat (nT 0 none (((Bl.int p0 l0).2.1).1) (((Bl.int p0 l0).2.1).2))) (step_nT3_1 (by kernel_rfl) (Opd.of_base 43 rfl) rfl) (by kernel_rfl) (by decide) h ?_
  clear h
  intro a w h
  refine env_one (i := 5) (d := 48) (k := .val (.bool ((Bl.int p0 l0).2.2))) (step_nT3_2 (by kernel_rfl) (Opd.of_base 43 rfl) rfl) (by kernel_rfl) (by decide) h ?_
  clear h
  intro a w h
  have h := h.cast 47 rfl
  refine env_box3 (i := 6) (d := 10) (e := 9) (by kernel_rfl) (by decide) (by kernel_rfl) (by decide) (x := 46) rfl (by decide) (by decide) (by kernel_rfl) (by decide) (by decide) (s := 47) rfl h ?_
  clear h
  intro a w h
  refine env_one (i := 9) (d := 5) (k := .val (.bool ((Bl.int p0 l0).2.2))) (step_assign (by kernel_rfl) (Opd.of_base 48 rfl) rfl) (by kernel_rfl) (by decide) h ?_
  clear h
  intro a w h
  exact hQ a w (h.keep [990, 1, 2, 5, 8, 10, 9])
theorem lKinds6a_region {Q : Exit → Act → World → Prop} (p0 : Pay) (l0 : Fo)  {w0 : World} {a : Act} {w : World} (h : Hold 109 [(990, .sat (gP 0 none)), (1, .ptrT p0 l0), (2, .val (.bool false)), (5, .val (.bool ((Bl.int p0 l0).2.2))), (8, .val (.bool ((Bl.atom p0 l0).2.2))), (10, .ptrT (((Bl.int p0 l0).2.1).1) (((Bl.int p0 l0).2.1).2)), (9, .val (.int .i64 (Bl.int p0 l0).1))] w0 a w)
    (hQ : ∀ a' w', Hold 109 [(990, .sat (gP 0 none)), (1, .ptrT p0 l0), (2, .val (.bool false)), (5, .val (.bool ((Bl.int p0 l0).2.2))), (8, .val (.bool ((Bl.int p0 l0).2.2))), (10, .ptrT (((Bl.int p0 l0).2.1).1) (((Bl.int p0 l0).2.1).2)), (9, .val (.int .i64 (Bl.int p0 l0).1)), (12, .ptrT (((Bl.int p0 l0).2.1).1) (((Bl.int p0 l0).2.1).2)), (11, .val (.int .i64 (Bl.int p0 l0).1))] w0 a' w' → Q .normal a' w') : (Code.region 6 lKinds6Ops false).wp Try.prog Q a w := by
  refine region_seq (w0 := w) 10 (by kernel_rfl) ?_
  rw [show List.range 10 = [0, 1, 2, 3, 4, 5, 6, 7, 8, 9] from rfl]
  refine env_one (i := 0) (d := 50) (k := .term p0 l0) (step_load_term (by kernel_rfl) (Opd.of_base 1 rfl) rfl) (by kernel_rfl) (by decide) h ?_
  clear h
  intro a w h
  refine env_one (i := 1) (d := 51) (k := .sat (nT3 0 none (.int .i64 (Bl.int p0 l0).1) (((Bl.int p0 l0).2.1).1) (((Bl.int p0 l0).2.1).2) ((Bl.int p0 l0).2.2))) (step_rInt6 (g := 990) (by kernel_rfl) (Opd.of_base 50 rfl) (Opd.of_base 990 rfl) rfl) (by kernel_rfl) (by decide) h ?_
  clear h
  intro a w h
  refine env_one (i := 2) (d := 49) (k := .sat (nT3 0 none (.int .i64 (Bl.int p0 l0).1) (((Bl.int p0 l0).2.1).1) (((Bl.int p0 l0).2.1).2) ((Bl.int p0 l0).2.2))) (step_move (by kernel_rfl) (Opd.of_base 51 rfl) rfl) (by kernel_rfl) (by decide) h ?_
  clear h
  intro a w h
  refine env_one (i := 3) (d := 52) (k := .val (.int .i64 (Bl.int p0 l0).1)) (step_nT3_0 (by kernel_rfl) (Opd.of_base 49 rfl) rfl) (by kernel_rfl) (by decide) h ?_
  clear h
  intro a w h
  refine env_one (i := 4) (d := 53) (k := .sat (nT 0 none (((Bl.int p0 l0).2.1).1) (((Bl.int p0 l0).2.1).2))) (step_nT3_1 (by kernel_rfl) (Opd.of_base 49 rfl) rfl) (by kernel_rfl) (by decide) h ?_
  clear h
  intro a w h
  refine env_one (i := 5) (d := 54) (k := .val (.bool ((Bl.int p0 l0).2.2))) (step_nT3_2 (by kernel_rfl) (Opd.of_base 49 rfl) rfl) (by kernel_rfl) (by decide) h ?_
  clear h
  intro a w h
  have h := h.cast 53 rfl
  refine env_box3 (i := 6) (d := 12) (e := 11) (by kernel_rfl) (by decide) (by kernel_rfl) (by decide) (x := 52) rfl (by decide) (by decide) (by kernel_rfl) (by decide) (by decide) (s := 53) rfl h ?_
  clear h
  intro a w h
  refine env_one (i := 9) (d := 8) (k := .val (.bool ((Bl.int p0 l0).2.2))) (step_assign (by kernel_rfl) (Opd.of_base 54 rfl) rfl) (by kernel_rfl) (by decide) h ?_
  clear h
  intro a w h
  exact hQ a w (h.keep [990, 1, 2, 5, 8, 10, 9, 12, 11])
theorem lKinds7a_region {Q : Exit → Act → World → Prop} (p0 : Pay) (l0 : Fo)  {w0 : World} {a : Act} {w : World} (h : Hold 109 [(990, .sat (gP 0 none)), (1, .ptrT p0 l0), (2, .val (.bool false)), (5, .val (.bool ((Bl.int p0 l0).2.2))), (8, .val (.bool ((Bl.int p0 l0).2.2))), (10, .ptrT (((Bl.int p0 l0).2.1).1) (((Bl.int p0 l0).2.1).2)), (9, .val (.int .i64 (Bl.int p0 l0).1)), (12, .ptrT (((Bl.int p0 l0).2.1).1) (((Bl.int p0 l0).2.1).2)), (11, .val (.int .i64 (Bl.int p0 l0).1))] w0 a w)
    (hQ : ∀ a' w', Hold 109 [(990, .sat (gP 0 none)), (1, .ptrT p0 l0), (2, .val (.bool false)), (5, .val (.bool ((Bl.int p0 l0).2.2))), (8, .val (.bool ((Bl.int p0 l0).2.2))), (68, .val (.bool false))] w0 a' w' → Q .normal a' w') : (Code.region 7 lKinds7Ops false).wp Try.prog Q a w := by
  refine region_seq (w0 := w) 14 (by kernel_rfl) ?_
  rw [show List.range 14 = [0, 1, 2, 3, 4, 5, 6, 7, 8, 9, 10, 11, 12, 13] from rfl]
  refine env_one (i := 0) (d := 55) (k := .val (.int .i64 (Bl.int p0 l0).1)) (step_move (by kernel_rfl) (Opd.of_base 9 rfl) rfl) (by kernel_rfl) (by decide) h ?_
  clear h
  intro a w h
  refine env_one (i := 1) (d := 56) (k := .val (.int .i64 (Bl.int p0 l0).1)) (step_move (by kernel_rfl) (Opd.of_base 11 rfl) rfl) (by kernel_rfl) (by decide) h ?_
  clear h
  intro a w h
  refine env_one (i := 2) (d := 57) (k := .val (.bool false)) (step_ne_int64 (m := (Bl.int p0 l0).1) (n := (Bl.int p0 l0).1) (by kernel_rfl) (Opd.of_base 55 rfl) (Opd.of_base 56 rfl) (by simp) rfl) (by kernel_rfl) (by decide) h ?_
  clear h
  intro a w h
  refine env_one (i := 3) (d := 58) (k := .val (.bool false)) (step_move (by kernel_rfl) (Opd.of_base 57 rfl) rfl) (by kernel_rfl) (by decide) h ?_
  clear h
  intro a w h
  refine env_guard (i := 4) (d := 59) (g := 3) (dg := 58) (b := false) (k := .term (((Bl.int p0 l0).2.1).1) (((Bl.int p0 l0).2.1).2)) (step_load_term (by kernel_rfl) (Opd.of_base 10 rfl) rfl) (by kernel_rfl) (by decide) (by kernel_rfl) (by decide) rfl h ?_
  clear h
  intro a w h
  refine env_guard (i := 5) (d := 60) (g := 3) (dg := 58) (b := false) (k := .term (((Bl.int p0 l0).2.1).1) (((Bl.int p0 l0).2.1).2)) (step_load_term (by kernel_rfl) (Opd.of_base 12 rfl) rfl) (by kernel_rfl) (by decide) (by kernel_rfl) (by decide) rfl h ?_
  clear h
  intro a w h
  refine env_guard (i := 6) (d := 61) (g := 3) (dg := 58) (b := false) (k := .val (.bool true)) (step_lsame (by kernel_rfl) (Opd.of_base 59 rfl) (Opd.of_base 60 rfl) (by rw [same_self (Bl.int_valid p0 l0)]; rfl)) (by kernel_rfl) (by decide) (by kernel_rfl) (by decide) rfl h ?_
  clear h
  intro a w h
  refine env_guard (i := 7) (d := 62) (g := 3) (dg := 58) (b := false) (k := .val (.bool false)) (step_not (by kernel_rfl) (Opd.of_base 61 rfl) rfl) (by kernel_rfl) (by decide) (by kernel_rfl) (by decide) rfl h ?_
  clear h
  intro a w h
  refine env_one (i := 8) (d := 63) (k := .val (.bool false)) (step_pick_no (x := .const (.bool true)) (by kernel_rfl) (Opd.of_base 58 rfl) (Opd.of_base 62 rfl) rfl) (by kernel_rfl) (by decide) h ?_
  clear h
  intro a w h
  refine env_one (i := 9) (d := 64) (k := .val (.bool false)) (step_move (by kernel_rfl) (Opd.of_base 63 rfl) rfl) (by kernel_rfl) (by decide) h ?_
  clear h
  intro a w h
  refine env_guard (i := 10) (d := 65) (g := 9) (dg := 64) (b := false) (k := .val (.bool ((Bl.int p0 l0).2.2))) (step_move (by kernel_rfl) (Opd.of_base 5 rfl) rfl) (by kernel_rfl) (by decide) (by kernel_rfl) (by decide) rfl h ?_
  clear h
  intro a w h
  refine env_guard (i := 11) (d := 66) (g := 9) (dg := 64) (b := false) (k := .val (.bool ((Bl.int p0 l0).2.2))) (step_move (by kernel_rfl) (Opd.of_base 8 rfl) rfl) (by kernel_rfl) (by decide) (by kernel_rfl) (by decide) rfl h ?_
  clear h
  intro a w h
  refine env_guard (i := 12) (d := 67) (g := 9) (dg := 64) (b := false) (k := .val (.bool false)) (step_ne_bool (by kernel_rfl) (Opd.of_base 65 rfl) (Opd.of_base 66 rfl) (by simp) rfl) (by kernel_rfl) (by decide) (by kernel_rfl) (by decide) rfl h ?_
  clear h
  intro a w h
  refine env_one (i := 13) (d := 68) (k := .val (.bool false)) (step_pick_no (x := .const (.bool true)) (by kernel_rfl) (Opd.of_base 64 rfl) (Opd.of_base 67 rfl) rfl) (by kernel_rfl) (by decide) h ?_
  clear h
  intro a w h
  exact hQ a w (h.keep [990, 1, 2, 5, 8, 68])
theorem lKinds9a_region {Q : Exit → Act → World → Prop} (p0 : Pay) (l0 : Fo)  {w0 : World} {a : Act} {w : World} (h : Hold 109 [(990, .sat (gP 0 none)), (1, .ptrT p0 l0), (2, .val (.bool false)), (5, .val (.bool ((Bl.int p0 l0).2.2))), (8, .val (.bool ((Bl.int p0 l0).2.2)))] w0 a w)
    (hQ : ∀ a' w', Hold 109 [(990, .sat (gP 0 none)), (1, .ptrT p0 l0), (2, .val (.bool false)), (5, .val (.bool ((Bl.callable p0 l0).2))), (8, .val (.bool ((Bl.int p0 l0).2.2))), (13, .ptrT (((Bl.callable p0 l0).1).1) (((Bl.callable p0 l0).1).2))] w0 a' w' → Q .normal a' w') : (Code.region 9 lKinds9Ops false).wp Try.prog Q a w := by
  refine region_seq (w0 := w) 8 (by kernel_rfl) ?_
  rw [show List.range 8 = [0, 1, 2, 3, 4, 5, 6, 7] from rfl]
  refine env_one (i := 0) (d := 70) (k := .term p0 l0) (step_load_term (by kernel_rfl) (Opd.of_base 1 rfl) rfl) (by kernel_rfl) (by decide) h ?_
  clear h
  intro a w h
  refine env_one (i := 1) (d := 71) (k := .sat (nT2 0 none (((Bl.callable p0 l0).1).1) (((Bl.callable p0 l0).1).2) ((Bl.callable p0 l0).2))) (step_bCallable (g := 990) (by kernel_rfl) (Opd.of_base 70 rfl) (Opd.of_base 990 rfl) rfl) (by kernel_rfl) (by decide) h ?_
  clear h
  intro a w h
  refine env_one (i := 2) (d := 69) (k := .sat (nT2 0 none (((Bl.callable p0 l0).1).1) (((Bl.callable p0 l0).1).2) ((Bl.callable p0 l0).2))) (step_move (by kernel_rfl) (Opd.of_base 71 rfl) rfl) (by kernel_rfl) (by decide) h ?_
  clear h
  intro a w h
  refine env_one (i := 3) (d := 72) (k := .sat (nT 0 none (((Bl.callable p0 l0).1).1) (((Bl.callable p0 l0).1).2))) (step_nT2_0 (by kernel_rfl) (Opd.of_base 69 rfl) rfl) (by kernel_rfl) (by decide) h ?_
  clear h
  intro a w h
  refine env_one (i := 4) (d := 73) (k := .val (.bool ((Bl.callable p0 l0).2))) (step_nT2_1 (by kernel_rfl) (Opd.of_base 69 rfl) rfl) (by kernel_rfl) (by decide) h ?_
  clear h
  intro a w h
  have h := h.cast 72 rfl
  refine env_box (i := 5) (d := 13) (by kernel_rfl) (by decide) (by kernel_rfl) (by decide) (s := 72) rfl h ?_
  clear h
  intro a w h
  refine env_one (i := 7) (d := 5) (k := .val (.bool ((Bl.callable p0 l0).2))) (step_assign (by kernel_rfl) (Opd.of_base 73 rfl) rfl) (by kernel_rfl) (by decide) h ?_
  clear h
  intro a w h
  exact hQ a w (h.keep [990, 1, 2, 5, 8, 13])
theorem lKinds10a_region {Q : Exit → Act → World → Prop} (p0 : Pay) (l0 : Fo)  {w0 : World} {a : Act} {w : World} (h : Hold 109 [(990, .sat (gP 0 none)), (1, .ptrT p0 l0), (2, .val (.bool false)), (5, .val (.bool ((Bl.callable p0 l0).2))), (8, .val (.bool ((Bl.int p0 l0).2.2))), (13, .ptrT (((Bl.callable p0 l0).1).1) (((Bl.callable p0 l0).1).2))] w0 a w)
    (hQ : ∀ a' w', Hold 109 [(990, .sat (gP 0 none)), (1, .ptrT p0 l0), (2, .val (.bool false)), (5, .val (.bool ((Bl.callable p0 l0).2))), (8, .val (.bool ((Bl.callable p0 l0).2))), (13, .ptrT (((Bl.callable p0 l0).1).1) (((Bl.callable p0 l0).1).2)), (14, .ptrT (((Bl.callable p0 l0).1).1) (((Bl.callable p0 l0).1).2))] w0 a' w' → Q .normal a' w') : (Code.region 10 lKinds10Ops false).wp Try.prog Q a w := by
  refine region_seq (w0 := w) 8 (by kernel_rfl) ?_
  rw [show List.range 8 = [0, 1, 2, 3, 4, 5, 6, 7] from rfl]
  refine env_one (i := 0) (d := 75) (k := .term p0 l0) (step_load_term (by kernel_rfl) (Opd.of_base 1 rfl) rfl) (by kernel_rfl) (by decide) h ?_
  clear h
  intro a w h
  refine env_one (i := 1) (d := 76) (k := .sat (nT2 0 none (((Bl.callable p0 l0).1).1) (((Bl.callable p0 l0).1).2) ((Bl.callable p0 l0).2))) (step_rCallable (g := 990) (by kernel_rfl) (Opd.of_base 75 rfl) (Opd.of_base 990 rfl) rfl) (by kernel_rfl) (by decide) h ?_
  clear h
  intro a w h
  refine env_one (i := 2) (d := 74) (k := .sat (nT2 0 none (((Bl.callable p0 l0).1).1) (((Bl.callable p0 l0).1).2) ((Bl.callable p0 l0).2))) (step_move (by kernel_rfl) (Opd.of_base 76 rfl) rfl) (by kernel_rfl) (by decide) h ?_
  clear h
  intro a w h
  refine env_one (i := 3) (d := 77) (k := .sat (nT 0 none (((Bl.callable p0 l0).1).1) (((Bl.callable p0 l0).1).2))) (step_nT2_0 (by kernel_rfl) (Opd.of_base 74 rfl) rfl) (by kernel_rfl) (by decide) h ?_
  clear h
  intro a w h
  refine env_one (i := 4) (d := 78) (k := .val (.bool ((Bl.callable p0 l0).2))) (step_nT2_1 (by kernel_rfl) (Opd.of_base 74 rfl) rfl) (by kernel_rfl) (by decide) h ?_
  clear h
  intro a w h
  have h := h.cast 77 rfl
  refine env_box (i := 5) (d := 14) (by kernel_rfl) (by decide) (by kernel_rfl) (by decide) (s := 77) rfl h ?_
  clear h
  intro a w h
  refine env_one (i := 7) (d := 8) (k := .val (.bool ((Bl.callable p0 l0).2))) (step_assign (by kernel_rfl) (Opd.of_base 78 rfl) rfl) (by kernel_rfl) (by decide) h ?_
  clear h
  intro a w h
  exact hQ a w (h.keep [990, 1, 2, 5, 8, 13, 14])
theorem lKinds11a_region {Q : Exit → Act → World → Prop} (p0 : Pay) (l0 : Fo)  {w0 : World} {a : Act} {w : World} (h : Hold 109 [(990, .sat (gP 0 none)), (1, .ptrT p0 l0), (2, .val (.bool false)), (5, .val (.bool ((Bl.callable p0 l0).2))), (8, .val (.bool ((Bl.callable p0 l0).2))), (13, .ptrT (((Bl.callable p0 l0).1).1) (((Bl.callable p0 l0).1).2)), (14, .ptrT (((Bl.callable p0 l0).1).1) (((Bl.callable p0 l0).1).2))] w0 a w)
    (hQ : ∀ a' w', Hold 109 [(990, .sat (gP 0 none)), (1, .ptrT p0 l0), (2, .val (.bool false)), (5, .val (.bool ((Bl.callable p0 l0).2))), (8, .val (.bool ((Bl.callable p0 l0).2))), (87, .val (.bool false))] w0 a' w' → Q .normal a' w') : (Code.region 11 lKinds11Ops false).wp Try.prog Q a w := by
  refine region_seq (w0 := w) 9 (by kernel_rfl) ?_
  rw [show List.range 9 = [0, 1, 2, 3, 4, 5, 6, 7, 8] from rfl]
  refine env_one (i := 0) (d := 79) (k := .term (((Bl.callable p0 l0).1).1) (((Bl.callable p0 l0).1).2)) (step_load_term (by kernel_rfl) (Opd.of_base 13 rfl) rfl) (by kernel_rfl) (by decide) h ?_
  clear h
  intro a w h
  refine env_one (i := 1) (d := 80) (k := .term (((Bl.callable p0 l0).1).1) (((Bl.callable p0 l0).1).2)) (step_load_term (by kernel_rfl) (Opd.of_base 14 rfl) rfl) (by kernel_rfl) (by decide) h ?_
  clear h
  intro a w h
  refine env_one (i := 2) (d := 81) (k := .val (.bool true)) (step_lsame (by kernel_rfl) (Opd.of_base 79 rfl) (Opd.of_base 80 rfl) (by rw [same_self (Bl.callable_valid p0 l0)]; rfl)) (by kernel_rfl) (by decide) h ?_
  clear h
  intro a w h
  refine env_one (i := 3) (d := 82) (k := .val (.bool false)) (step_not (by kernel_rfl) (Opd.of_base 81 rfl) rfl) (by kernel_rfl) (by decide) h ?_
  clear h
  intro a w h
  refine env_one (i := 4) (d := 83) (k := .val (.bool false)) (step_move (by kernel_rfl) (Opd.of_base 82 rfl) rfl) (by kernel_rfl) (by decide) h ?_
  clear h
  intro a w h
  refine env_guard (i := 5) (d := 84) (g := 4) (dg := 83) (b := false) (k := .val (.bool ((Bl.callable p0 l0).2))) (step_move (by kernel_rfl) (Opd.of_base 5 rfl) rfl) (by kernel_rfl) (by decide) (by kernel_rfl) (by decide) rfl h ?_
  clear h
  intro a w h
  refine env_guard (i := 6) (d := 85) (g := 4) (dg := 83) (b := false) (k := .val (.bool ((Bl.callable p0 l0).2))) (step_move (by kernel_rfl) (Opd.of_base 8 rfl) rfl) (by kernel_rfl) (by decide) (by kernel_rfl) (by decide) rfl h ?_
  clear h
  intro a w h
  refine env_guard (i := 7) (d := 86) (g := 4) (dg := 83) (b := false) (k := .val (.bool false)) (step_ne_bool (by kernel_rfl) (Opd.of_base 84 rfl) (Opd.of_base 85 rfl) (by simp) rfl) (by kernel_rfl) (by decide) (by kernel_rfl) (by decide) rfl h ?_
  clear h
  intro a w h
  refine env_one (i := 8) (d := 87) (k := .val (.bool false)) (step_pick_no (x := .const (.bool true)) (by kernel_rfl) (Opd.of_base 83 rfl) (Opd.of_base 86 rfl) rfl) (by kernel_rfl) (by decide) h ?_
  clear h
  intro a w h
  exact hQ a w (h.keep [990, 1, 2, 5, 8, 87])
theorem lKinds13a_region {Q : Exit → Act → World → Prop} (p0 : Pay) (l0 : Fo)  {w0 : World} {a : Act} {w : World} (h : Hold 109 [(990, .sat (gP 0 none)), (1, .ptrT p0 l0), (2, .val (.bool false)), (5, .val (.bool ((Bl.callable p0 l0).2))), (8, .val (.bool ((Bl.callable p0 l0).2)))] w0 a w)
    (hQ : ∀ a' w', Hold 109 [(990, .sat (gP 0 none)), (1, .ptrT p0 l0), (2, .val (.bool false)), (5, .val (.bool ((Bl.atomic p0 l0).2))), (8, .val (.bool ((Bl.callable p0 l0).2))), (15, .ptrT (((Bl.atomic p0 l0).1).1) (((Bl.atomic p0 l0).1).2))] w0 a' w' → Q .normal a' w') : (Code.region 13 lKinds13Ops false).wp Try.prog Q a w := by
  refine region_seq (w0 := w) 8 (by kernel_rfl) ?_
  rw [show List.range 8 = [0, 1, 2, 3, 4, 5, 6, 7] from rfl]
  refine env_one (i := 0) (d := 89) (k := .term p0 l0) (step_load_term (by kernel_rfl) (Opd.of_base 1 rfl) rfl) (by kernel_rfl) (by decide) h ?_
  clear h
  intro a w h
  refine env_one (i := 1) (d := 90) (k := .sat (nT2 0 none (((Bl.atomic p0 l0).1).1) (((Bl.atomic p0 l0).1).2) ((Bl.atomic p0 l0).2))) (step_bAtomic (g := 990) (by kernel_rfl) (Opd.of_base 89 rfl) (Opd.of_base 990 rfl) rfl) (by kernel_rfl) (by decide) h ?_
  clear h
  intro a w h
  refine env_one (i := 2) (d := 88) (k := .sat (nT2 0 none (((Bl.atomic p0 l0).1).1) (((Bl.atomic p0 l0).1).2) ((Bl.atomic p0 l0).2))) (step_move (by kernel_rfl) (Opd.of_base 90 rfl) rfl) (by kernel_rfl) (by decide) h ?_
  clear h
  intro a w h
  refine env_one (i := 3) (d := 91) (k := .sat (nT 0 none (((Bl.atomic p0 l0).1).1) (((Bl.atomic p0 l0).1).2))) (step_nT2_0 (by kernel_rfl) (Opd.of_base 88 rfl) rfl) (by kernel_rfl) (by decide) h ?_
  clear h
  intro a w h
  refine env_one (i := 4) (d := 92) (k := .val (.bool ((Bl.atomic p0 l0).2))) (step_nT2_1 (by kernel_rfl) (Opd.of_base 88 rfl) rfl) (by kernel_rfl) (by decide) h ?_
  clear h
  intro a w h
  have h := h.cast 91 rfl
  refine env_box (i := 5) (d := 15) (by kernel_rfl) (by decide) (by kernel_rfl) (by decide) (s := 91) rfl h ?_
  clear h
  intro a w h
  refine env_one (i := 7) (d := 5) (k := .val (.bool ((Bl.atomic p0 l0).2))) (step_assign (by kernel_rfl) (Opd.of_base 92 rfl) rfl) (by kernel_rfl) (by decide) h ?_
  clear h
  intro a w h
  exact hQ a w (h.keep [990, 1, 2, 5, 8, 15])
theorem lKinds14a_region {Q : Exit → Act → World → Prop} (p0 : Pay) (l0 : Fo)  {w0 : World} {a : Act} {w : World} (h : Hold 109 [(990, .sat (gP 0 none)), (1, .ptrT p0 l0), (2, .val (.bool false)), (5, .val (.bool ((Bl.atomic p0 l0).2))), (8, .val (.bool ((Bl.callable p0 l0).2))), (15, .ptrT (((Bl.atomic p0 l0).1).1) (((Bl.atomic p0 l0).1).2))] w0 a w)
    (hQ : ∀ a' w', Hold 109 [(990, .sat (gP 0 none)), (2, .val (.bool false)), (5, .val (.bool ((Bl.atomic p0 l0).2))), (8, .val (.bool ((Bl.atomic p0 l0).2))), (15, .ptrT (((Bl.atomic p0 l0).1).1) (((Bl.atomic p0 l0).1).2)), (16, .ptrT (((Bl.atomic p0 l0).1).1) (((Bl.atomic p0 l0).1).2))] w0 a' w' → Q .normal a' w') : (Code.region 14 lKinds14Ops false).wp Try.prog Q a w := by
  refine region_seq (w0 := w) 8 (by kernel_rfl) ?_
  rw [show List.range 8 = [0, 1, 2, 3, 4, 5, 6, 7] from rfl]
  refine env_one (i := 0) (d := 94) (k := .term p0 l0) (step_load_term (by kernel_rfl) (Opd.of_base 1 rfl) rfl) (by kernel_rfl) (by decide) h ?_
  clear h
  intro a w h
  refine env_one (i := 1) (d := 95) (k := .sat (nT2 0 none (((Bl.atomic p0 l0).1).1) (((Bl.atomic p0 l0).1).2) ((Bl.atomic p0 l0).2))) (step_rAtomic (g := 990) (by kernel_rfl) (Opd.of_base 94 rfl) (Opd.of_base 990 rfl) rfl) (by kernel_rfl) (by decide) h ?_
  clear h
  intro a w h
  refine env_one (i := 2) (d := 93) (k := .sat (nT2 0 none (((Bl.atomic p0 l0).1).1) (((Bl.atomic p0 l0).1).2) ((Bl.atomic p0 l0).2))) (step_move (by kernel_rfl) (Opd.of_base 95 rfl) rfl) (by kernel_rfl) (by decide) h ?_
  clear h
  intro a w h
  refine env_one (i := 3) (d := 96) (k := .sat (nT 0 none (((Bl.atomic p0 l0).1).1) (((Bl.atomic p0 l0).1).2))) (step_nT2_0 (by kernel_rfl) (Opd.of_base 93 rfl) rfl) (by kernel_rfl) (by decide) h ?_
  clear h
  intro a w h
  refine env_one (i := 4) (d := 97) (k := .val (.bool ((Bl.atomic p0 l0).2))) (step_nT2_1 (by kernel_rfl) (Opd.of_base 93 rfl) rfl) (by kernel_rfl) (by decide) h ?_
  clear h
  intro a w h
  have h := h.cast 96 rfl
  refine env_box (i := 5) (d := 16) (by kernel_rfl) (by decide) (by kernel_rfl) (by decide) (s := 96) rfl h ?_
  clear h
  intro a w h
  refine env_one (i := 7) (d := 8) (k := .val (.bool ((Bl.atomic p0 l0).2))) (step_assign (by kernel_rfl) (Opd.of_base 97 rfl) rfl) (by kernel_rfl) (by decide) h ?_
  clear h
  intro a w h
  exact hQ a w (h.keep [990, 2, 5, 8, 15, 16])
theorem lKinds15a_region {Q : Exit → Act → World → Prop} (p0 : Pay) (l0 : Fo)  {w0 : World} {a : Act} {w : World} (h : Hold 109 [(990, .sat (gP 0 none)), (2, .val (.bool false)), (5, .val (.bool ((Bl.atomic p0 l0).2))), (8, .val (.bool ((Bl.atomic p0 l0).2))), (15, .ptrT (((Bl.atomic p0 l0).1).1) (((Bl.atomic p0 l0).1).2)), (16, .ptrT (((Bl.atomic p0 l0).1).1) (((Bl.atomic p0 l0).1).2))] w0 a w)
    (hQ : ∀ a' w', Hold 109 [(990, .sat (gP 0 none)), (2, .val (.bool true))] w0 a' w' → Q .normal a' w') : (Code.region 15 lKinds15Ops false).wp Try.prog Q a w := by
  refine region_seq (w0 := w) 12 (by kernel_rfl) ?_
  rw [show List.range 12 = [0, 1, 2, 3, 4, 5, 6, 7, 8, 9, 10, 11] from rfl]
  refine env_one (i := 0) (d := 98) (k := .term (((Bl.atomic p0 l0).1).1) (((Bl.atomic p0 l0).1).2)) (step_load_term (by kernel_rfl) (Opd.of_base 15 rfl) rfl) (by kernel_rfl) (by decide) h ?_
  clear h
  intro a w h
  refine env_one (i := 1) (d := 99) (k := .term (((Bl.atomic p0 l0).1).1) (((Bl.atomic p0 l0).1).2)) (step_load_term (by kernel_rfl) (Opd.of_base 16 rfl) rfl) (by kernel_rfl) (by decide) h ?_
  clear h
  intro a w h
  refine env_one (i := 2) (d := 100) (k := .val (.bool true)) (step_lsame (by kernel_rfl) (Opd.of_base 98 rfl) (Opd.of_base 99 rfl) (by rw [same_self (Bl.atomic_valid p0 l0)]; rfl)) (by kernel_rfl) (by decide) h ?_
  clear h
  intro a w h
  refine env_one (i := 3) (d := 101) (k := .val (.bool true)) (step_move (by kernel_rfl) (Opd.of_base 100 rfl) rfl) (by kernel_rfl) (by decide) h ?_
  clear h
  intro a w h
  refine env_guard (i := 4) (d := 102) (g := 3) (dg := 101) (b := true) (k := .val (.bool ((Bl.atomic p0 l0).2))) (step_move (by kernel_rfl) (Opd.of_base 5 rfl) rfl) (by kernel_rfl) (by decide) (by kernel_rfl) (by decide) rfl h ?_
  clear h
  intro a w h
  refine env_guard (i := 5) (d := 103) (g := 3) (dg := 101) (b := true) (k := .val (.bool ((Bl.atomic p0 l0).2))) (step_move (by kernel_rfl) (Opd.of_base 8 rfl) rfl) (by kernel_rfl) (by decide) (by kernel_rfl) (by decide) rfl h ?_
  clear h
  intro a w h
  refine env_guard (i := 6) (d := 104) (g := 3) (dg := 101) (b := true) (k := .val (.bool true)) (step_eq_bool (by kernel_rfl) (Opd.of_base 102 rfl) (Opd.of_base 103 rfl) rfl) (by kernel_rfl) (by decide) (by kernel_rfl) (by decide) rfl h ?_
  clear h
  intro a w h
  refine env_one (i := 7) (d := 105) (k := .val (.bool true)) (step_pick_yes (y := .const (.bool false)) (by kernel_rfl) (Opd.of_base 101 rfl) (Opd.of_base 104 rfl) rfl) (by kernel_rfl) (by decide) h ?_
  clear h
  intro a w h
  refine env_one (i := 8) (d := 106) (k := .val (.bool true)) (step_move (by kernel_rfl) (Opd.of_base 105 rfl) rfl) (by kernel_rfl) (by decide) h ?_
  clear h
  intro a w h
  refine env_guard (i := 9) (d := 107) (g := 8) (dg := 106) (b := true) (k := .val (.bool true)) (step_awake (by kernel_rfl)  rfl) (by kernel_rfl) (by decide) (by kernel_rfl) (by decide) rfl h ?_
  clear h
  intro a w h
  refine env_one (i := 10) (d := 108) (k := .val (.bool true)) (step_pick_yes (y := .const (.bool false)) (by kernel_rfl) (Opd.of_base 106 rfl) (Opd.of_base 107 rfl) rfl) (by kernel_rfl) (by decide) h ?_
  clear h
  intro a w h
  refine env_one (i := 11) (d := 2) (k := .val (.bool true)) (step_assign (by kernel_rfl) (Opd.of_base 108 rfl) rfl) (by kernel_rfl) (by decide) h ?_
  clear h
  intro a w h
  exact hQ a w (h.keep [990, 2])
set_option maxHeartbeats 1000000 in
theorem lKinds_any (p0 : Pay) (l0 : Fo) (A0 : Option Addr) (c0 : Nat) (B : Nat) (w : World) (hA0 : ArgsB w B A0 (Tm.len l0) l0) (hB : B ≤ w.heap.size)  : Calls Try.prog 5 #[tv p0 A0 (Tm.len l0) c0] w (fun e w' => e = .returned (.bool true) ∧ Below w.heap.size w w') := by
  refine calls_of_wp Try.func5 lKinds_body ?_
  obtain ⟨v0, hv0⟩ : ∃ v : Value, v = tv p0 A0 (Tm.len l0) c0 := ⟨_, rfl⟩
  rw [← hv0]
  have hk0 : (Kd.term p0 l0).R v0 w := by rw [hv0]; exact ⟨A0, c0, rfl, hA0.up hB⟩
  have hsN : (#[v0] ++ Array.replicate (Try.f5.ntmps - #[v0].size) undef : Array Value).size = 109 := by kernel_rfl
  have gs0 : (#[v0] ++ Array.replicate (Try.f5.ntmps - #[v0].size) undef : Array Value).getD 0 undef = v0 := by kernel_rfl
  generalize (#[v0] ++ Array.replicate (Try.f5.ntmps - #[v0].size) undef : Array Value) = tm at hsN gs0 ⊢
  obtain ⟨a, ha0⟩ : ∃ a : Act, a = ⟨tm, []⟩ := ⟨_, rfl⟩
  have h : Hold 109 [(0, .term p0 l0), (990, .sat (gP 0 none))] w ⟨tm, []⟩ w := ⟨hsN, rfl, Below.refl _ _, (slots_cons 0 (by rw [gs0]; exact hk0) (slots_cons 990 (k0 := .sat (gP 0 none)) ⟨Nat.zero_le _, fun r e => by cases e⟩ slots_nil))⟩
  refine wp_seq ?_
  refine lKinds0a_region p0 l0  h ?_
  intro a w1 h
  show Code.wp _ _ _ a w1
  refine wp_seq ?_
  refine lKinds1a_region p0 l0  h ?_
  intro a w1 h
  show Code.wp _ _ _ a w1
  refine wp_seq ?_
  refine lKinds2a_region p0 l0  h ?_
  intro a w1 h
  show Code.wp _ _ _ a w1
  refine wp_seq ?_
  refine wp_seq ?_
  refine lKinds3a_region p0 l0  h ?_
  intro a w1 h
  show Code.wp _ _ _ a w1
  refine env_cond (b := false) rfl h ?_
  refine wp_skip ?_
  have h := h.keep [990, 1, 2, 5, 8]
  show Code.wp _ _ _ a w1
  refine wp_seq ?_
  refine lKinds5a_region p0 l0  h ?_
  intro a w1 h
  show Code.wp _ _ _ a w1
  refine wp_seq ?_
  refine lKinds6a_region p0 l0  h ?_
  intro a w1 h
  show Code.wp _ _ _ a w1
  refine wp_seq ?_
  refine wp_seq ?_
  refine lKinds7a_region p0 l0  h ?_
  intro a w1 h
  show Code.wp _ _ _ a w1
  refine env_cond (b := false) rfl h ?_
  refine wp_skip ?_
  have h := h.keep [990, 1, 2, 5, 8]
  show Code.wp _ _ _ a w1
  refine wp_seq ?_
  refine lKinds9a_region p0 l0  h ?_
  intro a w1 h
  show Code.wp _ _ _ a w1
  refine wp_seq ?_
  refine lKinds10a_region p0 l0  h ?_
  intro a w1 h
  show Code.wp _ _ _ a w1
  refine wp_seq ?_
  refine wp_seq ?_
  refine lKinds11a_region p0 l0  h ?_
  intro a w1 h
  show Code.wp _ _ _ a w1
  refine env_cond (b := false) rfl h ?_
  refine wp_skip ?_
  have h := h.keep [990, 1, 2, 5, 8]
  show Code.wp _ _ _ a w1
  refine wp_seq ?_
  refine lKinds13a_region p0 l0  h ?_
  intro a w1 h
  show Code.wp _ _ _ a w1
  refine wp_seq ?_
  refine lKinds14a_region p0 l0  h ?_
  intro a w1 h
  show Code.wp _ _ _ a w1
  refine wp_seq ?_
  refine lKinds15a_region p0 l0  h ?_
  intro a w1 h
  show Code.wp _ _ _ a w1
  refine wp_ret ?_
  (try simp only [then_ret, block_ret])
  exact law_out rfl (h.get 2 rfl) h.defers ⟨rfl, h.world⟩
end Go.Proofs.Ytapcnehpechkpaa
