/-
  The statement BallsIndicators, as its function.
-/
import Derived.Test.YtapcnehpechkpaaIndM
namespace Go.Proofs.Ytapcnehpechkpaa
set_option linter.unusedVariables false
set_option linter.unusedSimpArgs false
set_option maxRecDepth 100000
open Go.RowKit
theorem Bl.max_is : Bl.rep ⟨#[109, 97, 120, 95, 97, 114, 105, 116, 121]⟩ = ((3, 0, Tm.errName), .node (3, 0, ⟨#[114, 101, 112, 114, 101, 115, 101, 110, 116, 97, 116, 105, 111, 110, 95, 101, 114, 114, 111, 114]⟩) (.node (2, 0, ⟨#[109, 97, 120, 95, 97, 114, 105, 116, 121]⟩) .nil .nil) (.node Tm.emptyA .nil .nil)) := by kernel_rfl
theorem Bl.int_leaf {p : Pay} {l : Fo} (hv : Tm.validB p l = true) (h : p.1 = 1) : l = .nil := by
  unfold Tm.validB Tm.goodB Tm.nodeB at hv
  simp only [Bool.and_eq_true, h] at hv
  have := hv.2.1
  simp at this
  exact Tm.len_zero this.2
theorem Bl.dom_is {p : Pay} {l : Fo} {q : Pay} {m : Fo} (hv : Tm.validB (3, 0, ⟨#[47]⟩) (Bl.indT p l q m) = true) (h : q.1 = 1) : Bl.dom ⟨#[110, 111, 116, 95, 108, 101, 115, 115, 95, 116, 104, 97, 110, 95, 122, 101, 114, 111]⟩ q m = ((3, 0, Tm.errName), .node (3, 0, ⟨#[100, 111, 109, 97, 105, 110, 95, 101, 114, 114, 111, 114]⟩) (.node (2, 0, ⟨#[110, 111, 116, 95, 108, 101, 115, 115, 95, 116, 104, 97, 110, 95, 122, 101, 114, 111]⟩) .nil (.node q m .nil)) (.node Tm.emptyA .nil .nil)) := by
  have hq := (Bl.ind_valid_args hv).2
  obtain rfl := Bl.int_leaf hq h
  unfold Bl.dom
  refine Bl.err_small (by decide) ⟨by simp [Bl.at1, Tm.len], by simp [Bl.at1, Tm.len]⟩ ?_ (by simp [Bl.at1, Tm.size])
  simp only [Bl.at1, Tm.allV, Bool.and_true, Bool.and_eq_true]
  exact ⟨by kernel_rfl, hq⟩
noncomputable def lInd0Ops : Array Oper := ((Try.f10.body).bind (findReg 0)).getD #[]
noncomputable def lInd1Ops : Array Oper := ((Try.f10.body).bind (findReg 1)).getD #[]
noncomputable def lInd2Ops : Array Oper := ((Try.f10.body).bind (findReg 2)).getD #[]
noncomputable def lInd3Ops : Array Oper := ((Try.f10.body).bind (findReg 3)).getD #[]
noncomputable def lInd4Ops : Array Oper := ((Try.f10.body).bind (findReg 4)).getD #[]
noncomputable def lInd5Ops : Array Oper := ((Try.f10.body).bind (findReg 5)).getD #[]
noncomputable def lInd6Ops : Array Oper := ((Try.f10.body).bind (findReg 6)).getD #[]
noncomputable def lInd7Ops : Array Oper := ((Try.f10.body).bind (findReg 7)).getD #[]
noncomputable def lInd8Ops : Array Oper := ((Try.f10.body).bind (findReg 8)).getD #[]
noncomputable def lInd9Ops : Array Oper := ((Try.f10.body).bind (findReg 9)).getD #[]
noncomputable def lInd10Ops : Array Oper := ((Try.f10.body).bind (findReg 10)).getD #[]
noncomputable def lInd11Ops : Array Oper := ((Try.f10.body).bind (findReg 11)).getD #[]
noncomputable def lInd12Ops : Array Oper := ((Try.f10.body).bind (findReg 12)).getD #[]
noncomputable def lInd13Ops : Array Oper := ((Try.f10.body).bind (findReg 13)).getD #[]
noncomputable def lInd14Ops : Array Oper := ((Try.f10.body).bind (findReg 14)).getD #[]
noncomputable def lInd15Ops : Array Oper := ((Try.f10.body).bind (findReg 15)).getD #[]
noncomputable def lInd16Ops : Array Oper := ((Try.f10.body).bind (findReg 16)).getD #[]
theorem lInd_body : Try.f10.body = some (.seq (.region 0 lInd0Ops false) (.seq (.region 1 lInd1Ops false) (.seq (.seq (.region 2 lInd2Ops false) (.cond (.tmp 17) (.seq (.region 3 lInd3Ops false) .ret) .skip)) (.seq (.region 4 lInd4Ops false) (.seq (.region 5 lInd5Ops false) (.seq (.block 0 (.seq (.region 7 lInd7Ops false) (.cond (.tmp 49) .skip (.seq (.region 8 lInd8Ops false) (.cond (.tmp 58) (.region 9 lInd9Ops false) (.seq (.region 10 lInd10Ops false) (.cond (.tmp 64) (.region 11 lInd11Ops false) (.seq (.region 12 lInd12Ops false) (.cond (.tmp 70) (.region 13 lInd13Ops true) (.seq (.region 14 lInd14Ops false) (.cond (.tmp 79) (.region 15 lInd15Ops false) (.seq (.region 6 lInd6Ops false) .ret)))))))))))) (.seq (.region 16 lInd16Ops false) .ret))))))) := by kernel_rfl
theorem lInd0a_region {Q : Exit → Act → World → Prop} (p0 : Pay) (l0 : Fo) (p1 : Pay) (l1 : Fo)  {w0 : World} {a : Act} {w : World} (h : Hold 105 [(0, .term p0 l0), (1, .term p1 l1), (990, .sat (gP 0 none))] w0 a w)
    (hQ : ∀ a' w', Hold 105 [(990, .sat (gP 0 none)), (2, .ptrT p0 l0), (3, .ptrT p1 l1), (4, .val (.bool false))] w0 a' w' → Q .normal a' w') : (Code.region 0 lInd0Ops false).wp Try.prog Q a w := by
  refine region_seq (w0 := w) 3 (by kernel_rfl) ?_
  rw [show List.range 3 = [0, 1, 2] from rfl]
  refine env_one (i := 0) (d := 2) (k := .ptrT p0 l0) (step_box (by kernel_rfl) (Opd.of_base 0 rfl) rfl) (by kernel_rfl) (by decide) h ?_
  clear h
  intro a w h
  refine env_one (i := 1) (d := 3) (k := .ptrT p1 l1) (step_box (by kernel_rfl) (Opd.of_base 1 rfl) rfl) (by kernel_rfl) (by decide) h ?_
  clear h
  intro a w h
  refine env_one (i := 2) (d := 4) (k := .val (.bool false)) (step_assign (by kernel_rfl) (Opd.const _) rfl) (by kernel_rfl) (by decide) h ?_
  clear h
  intro a w h
  exact hQ a w (h.keep [990, 2, 3, 4])
theorem lInd1a_region {Q : Exit → Act → World → Prop} (p0 : Pay) (l0 : Fo) (p1 : Pay) (l1 : Fo)  {w0 : World} {a : Act} {w : World} (h : Hold 105 [(990, .sat (gP 0 none)), (2, .ptrT p0 l0), (3, .ptrT p1 l1), (4, .val (.bool false))] w0 a w)
    (hQ : ∀ a' w', Hold 105 [(990, .sat (gP 0 none)), (2, .ptrT p0 l0), (3, .ptrT p1 l1), (4, .val (.bool false)), (5, .ptrT (3, 0, ⟨#[47]⟩) (.node p0 l0 (.node p1 l1 .nil)))] w0 a' w' → Q .normal a' w') : (Code.region 1 lInd1Ops false).wp Try.prog Q a w := by
  refine region_seq (w0 := w) 6 (by kernel_rfl) ?_
  rw [show List.range 6 = [0, 1, 2, 3, 4, 5] from rfl]
  refine env_one (i := 0) (d := 11) (k := .term p0 l0) (step_load_term (by kernel_rfl) (Opd.of_base 2 rfl) rfl) (by kernel_rfl) (by decide) h ?_
  clear h
  intro a w h
  refine env_one (i := 1) (d := 12) (k := .term p1 l1) (step_load_term (by kernel_rfl) (Opd.of_base 3 rfl) rfl) (by kernel_rfl) (by decide) h ?_
  clear h
  intro a w h
  refine env_one (i := 2) (d := 13) (k := .sat (nK 0 none (.node p0 l0 (.node p1 l1 .nil)))) (step_nslice2 (g := 990) (by kernel_rfl) (Opd.tT (Opd.of_base 11 rfl)) (Opd.tT (Opd.of_base 12 rfl)) (Opd.of_base 990 rfl) rfl) (by kernel_rfl) (by decide) h ?_
  clear h
  intro a w h
  refine env_one (i := 3) (d := 14) (k := .sat (nT 0 none (3, 0, ⟨#[47]⟩) (.node p0 l0 (.node p1 l1 .nil)))) (step_lf (by kernel_rfl) (Opd.const _) (Opd.ofK (Opd.of_base 13 rfl)) rfl) (by kernel_rfl) (by decide) h ?_
  clear h
  intro a w h
  have h := h.cast 14 rfl
  refine env_box (i := 4) (d := 5) (by kernel_rfl) (by decide) (by kernel_rfl) (by decide) (s := 14) rfl h ?_
  clear h
  intro a w h
  exact hQ a w (h.keep [990, 2, 3, 4, 5])
theorem lInd2a_region {Q : Exit → Act → World → Prop} (p0 : Pay) (l0 : Fo) (p1 : Pay) (l1 : Fo)  {w0 : World} {a : Act} {w : World} (h : Hold 105 [(990, .sat (gP 0 none)), (2, .ptrT p0 l0), (3, .ptrT p1 l1), (4, .val (.bool false)), (5, .ptrT (3, 0, ⟨#[47]⟩) (.node p0 l0 (.node p1 l1 .nil)))] w0 a w)
    (hQ : ∀ a' w', Hold 105 [(990, .sat (gP 0 none)), (2, .ptrT p0 l0), (3, .ptrT p1 l1), (4, .val (.bool false)), (5, .ptrT (3, 0, ⟨#[47]⟩) (.node p0 l0 (.node p1 l1 .nil))), (17, .val (.bool (!(Tm.validB (3, 0, ⟨#[47]⟩) (.node p0 l0 (.node p1 l1 .nil))))))] w0 a' w' → Q .normal a' w') : (Code.region 2 lInd2Ops false).wp Try.prog Q a w := by
  refine region_seq (w0 := w) 3 (by kernel_rfl) ?_
  rw [show List.range 3 = [0, 1, 2] from rfl]
  refine env_one (i := 0) (d := 15) (k := .term (3, 0, ⟨#[47]⟩) (.node p0 l0 (.node p1 l1 .nil))) (step_load_term (by kernel_rfl) (Opd.of_base 5 rfl) rfl) (by kernel_rfl) (by decide) h ?_
  clear h
  intro a w h
  refine env_one (i := 1) (d := 16) (k := .val (.bool (Tm.validB (3, 0, ⟨#[47]⟩) (.node p0 l0 (.node p1 l1 .nil))))) (step_rvalid6 (by kernel_rfl) (Opd.of_base 15 rfl) rfl) (by kernel_rfl) (by decide) h ?_
  clear h
  intro a w h
  refine env_one (i := 2) (d := 17) (k := .val (.bool (!(Tm.validB (3, 0, ⟨#[47]⟩) (.node p0 l0 (.node p1 l1 .nil)))))) (step_not (by kernel_rfl) (Opd.of_base 16 rfl) rfl) (by kernel_rfl) (by decide) h ?_
  clear h
  intro a w h
  exact hQ a w (h.keep [990, 2, 3, 4, 5, 17])
theorem lInd4a_region {Q : Exit → Act → World → Prop} (p0 : Pay) (l0 : Fo) (p1 : Pay) (l1 : Fo)  {w0 : World} {a : Act} {w : World} (h : Hold 105 [(990, .sat (gP 0 none)), (2, .ptrT p0 l0), (3, .ptrT p1 l1), (4, .val (.bool false)), (5, .ptrT (3, 0, ⟨#[47]⟩) (.node p0 l0 (.node p1 l1 .nil)))] w0 a w)
    (hQ : ∀ a' w', Hold 105 [(990, .sat (gP 0 none)), (2, .ptrT p0 l0), (3, .ptrT p1 l1), (4, .val (.bool false)), (8, .ptrT (((Bl.ind (3, 0, ⟨#[47]⟩) (.node p0 l0 (.node p1 l1 .nil))).2.2.1).1) (((Bl.ind (3, 0, ⟨#[47]⟩) (.node p0 l0 (.node p1 l1 .nil))).2.2.1).2)), (6, .val (.string (Bl.ind (3, 0, ⟨#[47]⟩) (.node p0 l0 (.node p1 l1 .nil))).1)), (7, .val (.int .i64 (Bl.ind (3, 0, ⟨#[47]⟩) (.node p0 l0 (.node p1 l1 .nil))).2.1)), (9, .val (.bool ((Bl.ind (3, 0, ⟨#[47]⟩) (.node p0 l0 (.node p1 l1 .nil))).2.2.2)))] w0 a' w' → Q .normal a' w') : (Code.region 4 lInd4Ops false).wp Try.prog Q a w := by
  refine region_seq (w0 := w) 12 (by kernel_rfl) ?_
  rw [show List.range 12 = [0, 1, 2, 3, 4, 5, 6, 7, 8, 9, 10, 11] from rfl]
  refine env_one (i := 0) (d := 20) (k := .term (3, 0, ⟨#[47]⟩) (.node p0 l0 (.node p1 l1 .nil))) (step_load_term (by kernel_rfl) (Opd.of_base 5 rfl) rfl) (by kernel_rfl) (by decide) h ?_
  clear h
  intro a w h
  refine env_one (i := 1) (d := 21) (k := .sat (nT4 0 none (.string (Bl.ind (3, 0, ⟨#[47]⟩) (.node p0 l0 (.node p1 l1 .nil))).1) (.int .i64 (Bl.ind (3, 0, ⟨#[47]⟩) (.node p0 l0 (.node p1 l1 .nil))).2.1) (((Bl.ind (3, 0, ⟨#[47]⟩) (.node p0 l0 (.node p1 l1 .nil))).2.2.1).1) (((Bl.ind (3, 0, ⟨#[47]⟩) (.node p0 l0 (.node p1 l1 .nil))).2.2.1).2) ((Bl.ind (3, 0, ⟨#[47]⟩) (.node p0 l0 (.node p1 l1 .nil))).2.2.2))) (step_bInd (g := 990) (by kernel_rfl) (Opd.of_base 20 rfl) (Opd.of_base 990 rfl) rfl) (by kernel_rfl) (by decide) h ?_
  clear h
  intro a w h
  refine env_one (i := 2) (d := 19) (k := .sat (nT4 0 none (.string (Bl.ind (3, 0, ⟨#[47]⟩) (.node p0 l0 (.node p1 l1 .nil))).1) (.int .i64 (Bl.ind (3, 0, ⟨#[47]⟩) (.node p0 l0 (.node p1 l1 .nil))).2.1) (((Bl.ind (3, 0, ⟨#[47]⟩) (.node p0 l0 (.node p1 l1 .nil))).2.2.1).1) (((Bl.ind (3, 0, ⟨#[47]⟩) (.node p0 l0 (.node p1 l1 .nil))).2.2.1).2) ((Bl.ind (3, 0, ⟨#[47]⟩) (.node p0 l0 (.node p1 l1 .nil))).2.2.2))) (step_move (by kernel_rfl) (Opd.of_base 21 rfl) rfl) (by kernel_rfl) (by decide) h ?_
  clear h
  intro a w h
  refine env_one (i := 3) (d := 22) (k := .val (.string (Bl.ind (3, 0, ⟨#[47]⟩) (.node p0 l0 (.node p1 l1 .nil))).1)) (step_nT4_0 (by kernel_rfl) (Opd.of_base 19 rfl) rfl) (by kernel_rfl) (by decide) h ?_
  clear h
  intro a w h
  refine env_one (i := 4) (d := 23) (k := .val (.int .i64 (Bl.ind (3, 0, ⟨#[47]⟩) (.node p0 l0 (.node p1 l1 .nil))).2.1)) (step_nT4_1 (by kernel_rfl) (Opd.of_base 19 rfl) rfl) (by kernel_rfl) (by decide) h ?_
  clear h
  intro a w h
  refine env_one (i := 5) (d := 24) (k := .sat (nT 0 none (((Bl.ind (3, 0, ⟨#[47]⟩) (.node p0 l0 (.node p1 l1 .nil))).2.2.1).1) (((Bl.ind (3, 0, ⟨#[47]⟩) (.node p0 l0 (.node p1 l1 .nil))).2.2.1).2))) (step_nT4_2 (by kernel_rfl) (Opd.of_base 19 rfl) rfl) (by kernel_rfl) (by decide) h ?_
  clear h
  intro a w h
  refine env_one (i := 6) (d := 25) (k := .val (.bool ((Bl.ind (3, 0, ⟨#[47]⟩) (.node p0 l0 (.node p1 l1 .nil))).2.2.2))) (step_nT4_3 (by kernel_rfl) (Opd.of_base 19 rfl) rfl) (by kernel_rfl) (by decide) h ?_
  clear h
  intro a w h
  have h := h.cast 24 rfl
  refine env_box5 (i := 7) (d := 8) (e := 6) (e2 := 7) (by kernel_rfl) (by decide) (by kernel_rfl) (by decide) (x := 22) rfl (by decide) (by decide) (by kernel_rfl) (by decide) (x2 := 23) rfl (by decide) (by decide) (by decide) (by kernel_rfl) (by decide) (by decide) (by decide) (s := 24) rfl h ?_
  clear h
  intro a w h
  refine env_one (i := 11) (d := 9) (k := .val (.bool ((Bl.ind (3, 0, ⟨#[47]⟩) (.node p0 l0 (.node p1 l1 .nil))).2.2.2))) (step_assign (by kernel_rfl) (Opd.of_base 25 rfl) rfl) (by kernel_rfl) (by decide) h ?_
  clear h
  intro a w h
  exact hQ a w (h.keep [990, 2, 3, 4, 8, 6, 7, 9])
theorem lInd5a_region {Q : Exit → Act → World → Prop} (p0 : Pay) (l0 : Fo) (p1 : Pay) (l1 : Fo)  {w0 : World} {a : Act} {w : World} (h : Hold 105 [(990, .sat (gP 0 none)), (2, .ptrT p0 l0), (3, .ptrT p1 l1), (4, .val (.bool false)), (8, .ptrT (((Bl.ind (3, 0, ⟨#[47]⟩) (.node p0 l0 (.node p1 l1 .nil))).2.2.1).1) (((Bl.ind (3, 0, ⟨#[47]⟩) (.node p0 l0 (.node p1 l1 .nil))).2.2.1).2)), (6, .val (.string (Bl.ind (3, 0, ⟨#[47]⟩) (.node p0 l0 (.node p1 l1 .nil))).1)), (7, .val (.int .i64 (Bl.ind (3, 0, ⟨#[47]⟩) (.node p0 l0 (.node p1 l1 .nil))).2.1)), (9, .val (.bool ((Bl.ind (3, 0, ⟨#[47]⟩) (.node p0 l0 (.node p1 l1 .nil))).2.2.2)))] w0 a w)
    (hQ : ∀ r a' w', w0.heap.size ≤ r → Hold 105 [(2, .sat (nP 0 (some r) p0 l0)), (3, .sat (nP 0 (some r) p1 l1)), (4, .val (.bool false)), (8, .sat (nP 0 (some r) (((Bl.ind (3, 0, ⟨#[47]⟩) (.node p0 l0 (.node p1 l1 .nil))).2.2.1).1) (((Bl.ind (3, 0, ⟨#[47]⟩) (.node p0 l0 (.node p1 l1 .nil))).2.2.1).2))), (6, .val (.string (Bl.ind (3, 0, ⟨#[47]⟩) (.node p0 l0 (.node p1 l1 .nil))).1)), (7, .val (.int .i64 (Bl.ind (3, 0, ⟨#[47]⟩) (.node p0 l0 (.node p1 l1 .nil))).2.1)), (9, .val (.bool ((Bl.ind (3, 0, ⟨#[47]⟩) (.node p0 l0 (.node p1 l1 .nil))).2.2.2))), (990, .sat (gP 0 (some r))), (10, .sat (rC 0 r (3, 0, Tm.errName) (.node (2, 0, (⟨#[105, 110, 115, 116, 97, 110, 116, 105, 97, 116, 105, 111, 110, 95, 101, 114, 114, 111, 114]⟩)) .nil (.node Tm.emptyA .nil .nil))))] w0 a' w' → Q .normal a' w') : (Code.region 5 lInd5Ops false).wp Try.prog Q a w := by
  refine region_seq (w0 := w) 4 (by kernel_rfl) ?_
  rw [show List.range 4 = [0, 1, 2, 3] from rfl]
  refine env_one (i := 0) (d := 26) (k := .sat (nT 0 none (2, 0, (⟨#[105, 110, 115, 116, 97, 110, 116, 105, 97, 116, 105, 111, 110, 95, 101, 114, 114, 111, 114]⟩)) .nil)) (step_la (g := 990) (by kernel_rfl) (Opd.const _) (Opd.of_base 990 rfl) rfl) (by kernel_rfl) (by decide) h ?_
  clear h
  intro a w h
  refine env_one (i := 1) (d := 27) (k := .sat (nT 0 none (3, 0, Tm.errName) (.node (2, 0, (⟨#[105, 110, 115, 116, 97, 110, 116, 105, 97, 116, 105, 111, 110, 95, 101, 114, 114, 111, 114]⟩)) .nil (.node Tm.emptyA .nil .nil)))) (step_lerrN (g := 990) (by kernel_rfl) (Opd.of_base 26 rfl) (Opd.of_base 990 rfl) rfl) (by kernel_rfl) (by decide) h ?_
  clear h
  intro a w h
  refine env_res (i := 2) (d := 10) (n := 0) (fun r => [(2, .sat (nP 0 (some r) p0 l0)), (3, .sat (nP 0 (some r) p1 l1)), (4, .val (.bool false)), (8, .sat (nP 0 (some r) (((Bl.ind (3, 0, ⟨#[47]⟩) (.node p0 l0 (.node p1 l1 .nil))).2.2.1).1) (((Bl.ind (3, 0, ⟨#[47]⟩) (.node p0 l0 (.node p1 l1 .nil))).2.2.1).2))), (6, .val (.string (Bl.ind (3, 0, ⟨#[47]⟩) (.node p0 l0 (.node p1 l1 .nil))).1)), (7, .val (.int .i64 (Bl.ind (3, 0, ⟨#[47]⟩) (.node p0 l0 (.node p1 l1 .nil))).2.1)), (9, .val (.bool ((Bl.ind (3, 0, ⟨#[47]⟩) (.node p0 l0 (.node p1 l1 .nil))).2.2.2))), (26, .sat (nT 0 (some r) (2, 0, (⟨#[105, 110, 115, 116, 97, 110, 116, 105, 97, 116, 105, 111, 110, 95, 101, 114, 114, 111, 114]⟩)) .nil)), (27, .sat (nT 0 (some r) (3, 0, Tm.errName) (.node (2, 0, (⟨#[105, 110, 115, 116, 97, 110, 116, 105, 97, 116, 105, 111, 110, 95, 101, 114, 114, 111, 114]⟩)) .nil (.node Tm.emptyA .nil .nil))))]) (by kernel_rfl) (by decide) (by decide) (Nat.zero_le _) (fun r => (goes_cons 2 rfl (turns_ptr _ _ _) (goes_cons 3 rfl (turns_ptr _ _ _) (goes_cons 4 rfl (turns_val _ _) (goes_cons 8 rfl (turns_ptr _ _ _) (goes_cons 6 rfl (turns_val _ _) (goes_cons 7 rfl (turns_val _ _) (goes_cons 9 rfl (turns_val _ _) (goes_cons 26 rfl (turns_nT _ _ _ _) (goes_cons 27 rfl (turns_nT _ _ _ _) (goes_nil _ _))))))))))) h ?_
  clear h
  intro r a w hr h
  refine env_store (i := 3) (x := 10) (y := 27) (r := r) [(2, .sat (nP 0 (some r) p0 l0)), (3, .sat (nP 0 (some r) p1 l1)), (4, .val (.bool false)), (8, .sat (nP 0 (some r) (((Bl.ind (3, 0, ⟨#[47]⟩) (.node p0 l0 (.node p1 l1 .nil))).2.2.1).1) (((Bl.ind (3, 0, ⟨#[47]⟩) (.node p0 l0 (.node p1 l1 .nil))).2.2.1).2))), (6, .val (.string (Bl.ind (3, 0, ⟨#[47]⟩) (.node p0 l0 (.node p1 l1 .nil))).1)), (7, .val (.int .i64 (Bl.ind (3, 0, ⟨#[47]⟩) (.node p0 l0 (.node p1 l1 .nil))).2.1)), (9, .val (.bool ((Bl.ind (3, 0, ⟨#[47]⟩) (.node p0 l0 (.node p1 l1 .nil))).2.2.2))), (26, .sat (nT 0 (some r) (2, 0, (⟨#[105, 110, 115, 116, 97, 110, 116, 105, 97, 116, 105, 111, 110, 95, 101, 114, 114, 111, 114]⟩)) .nil)), (27, .sat (nT 0 (some r) (3, 0, Tm.errName) (.node (2, 0, (⟨#[105, 110, 115, 116, 97, 110, 116, 105, 97, 116, 105, 111, 110, 95, 101, 114, 114, 111, 114]⟩)) .nil (.node Tm.emptyA .nil .nil)))), (990, .sat (gP 0 (some r)))] (by kernel_rfl) rfl rfl hr (stays_cons 2 rfl (away_nP _ _ _ _) (stays_cons 3 rfl (away_nP _ _ _ _) (stays_cons 4 rfl (away_val _ _) (stays_cons 8 rfl (away_nP _ _ _ _) (stays_cons 6 rfl (away_val _ _) (stays_cons 7 rfl (away_val _ _) (stays_cons 9 rfl (away_val _ _) (stays_cons 26 rfl (away_nT _ _ _ _) (stays_cons 27 rfl (away_nT _ _ _ _) (stays_cons 990 rfl (away_gP _ _ _) (stays_nil _ _))))))))))) h ?_
  clear h
  intro a w h
  exact hQ r a w hr (h.keep [2, 3, 4, 8, 6, 7, 9, 990, 10])
theorem lInd7a_region {Q : Exit → Act → World → Prop} (p0 : Pay) (l0 : Fo) (p1 : Pay) (l1 : Fo) (r : Nat) (h1 : p0.1 = 0) {w0 : World} {a : Act} {w : World} (hr : w0.heap.size ≤ r) (h : Hold 105 [(2, .sat (nP 0 (some r) p0 l0)), (3, .sat (nP 0 (some r) p1 l1)), (4, .val (.bool false)), (8, .sat (nP 0 (some r) (((Bl.ind (3, 0, ⟨#[47]⟩) (.node p0 l0 (.node p1 l1 .nil))).2.2.1).1) (((Bl.ind (3, 0, ⟨#[47]⟩) (.node p0 l0 (.node p1 l1 .nil))).2.2.1).2))), (6, .val (.string (Bl.ind (3, 0, ⟨#[47]⟩) (.node p0 l0 (.node p1 l1 .nil))).1)), (7, .val (.int .i64 (Bl.ind (3, 0, ⟨#[47]⟩) (.node p0 l0 (.node p1 l1 .nil))).2.1)), (9, .val (.bool ((Bl.ind (3, 0, ⟨#[47]⟩) (.node p0 l0 (.node p1 l1 .nil))).2.2.2))), (990, .sat (gP 0 (some r))), (10, .sat (rC 0 r (3, 0, Tm.errName) (.node (2, 0, (⟨#[105, 110, 115, 116, 97, 110, 116, 105, 97, 116, 105, 111, 110, 95, 101, 114, 114, 111, 114]⟩)) .nil (.node Tm.emptyA .nil .nil))))] w0 a w)
    (hQ : ∀ a' w', Hold 105 [(2, .sat (nP 0 (some r) p0 l0)), (3, .sat (nP 0 (some r) p1 l1)), (4, .val (.bool false)), (8, .sat (nP 0 (some r) (((Bl.ind (3, 0, ⟨#[47]⟩) (.node p0 l0 (.node p1 l1 .nil))).2.2.1).1) (((Bl.ind (3, 0, ⟨#[47]⟩) (.node p0 l0 (.node p1 l1 .nil))).2.2.1).2))), (6, .val (.string (Bl.ind (3, 0, ⟨#[47]⟩) (.node p0 l0 (.node p1 l1 .nil))).1)), (7, .val (.int .i64 (Bl.ind (3, 0, ⟨#[47]⟩) (.node p0 l0 (.node p1 l1 .nil))).2.1)), (9, .val (.bool ((Bl.ind (3, 0, ⟨#[47]⟩) (.node p0 l0 (.node p1 l1 .nil))).2.2.2))), (990, .sat (gP 0 (some r))), (10, .sat (rC 0 r (3, 0, Tm.errName) (.node (2, 0, (⟨#[105, 110, 115, 116, 97, 110, 116, 105, 97, 116, 105, 111, 110, 95, 101, 114, 114, 111, 114]⟩)) .nil (.node Tm.emptyA .nil .nil)))), (49, .val (.bool true))] w0 a' w' → Q .normal a' w') : (Code.region 7 lInd7Ops false).wp Try.prog Q a w := by
  refine region_seq (w0 := w) 9 (by kernel_rfl) ?_
  rw [show List.range 9 = [0, 1, 2, 3, 4, 5, 6, 7, 8] from rfl]
  refine env_one (i := 0) (d := 50) (k := .ptrI (p0.1)) (step_field0 (by kernel_rfl) (Opd.ofP (Opd.of_base 2 rfl)) rfl) (by kernel_rfl) (by decide) h ?_
  clear h
  intro a w h
  refine env_one (i := 1) (d := 51) (k := .val (.int .i64 (p0.1))) (step_load_int3 (by kernel_rfl) (Opd.of_base 50 rfl) rfl) (by kernel_rfl) (by decide) h ?_
  clear h
  intro a w h
  refine env_one (i := 2) (d := 52) (k := .val (.bool true)) (step_eqb_int (m := (p0.1)) (n := 0) (by kernel_rfl) (Opd.of_base 51 rfl) (Opd.const _) (by rw [h1]; rfl) rfl) (by kernel_rfl) (by decide) h ?_
  clear h
  intro a w h
  refine env_one (i := 3) (d := 53) (k := .val (.bool true)) (step_move (by kernel_rfl) (Opd.of_base 52 rfl) rfl) (by kernel_rfl) (by decide) h ?_
  clear h
  intro a w h
  refine env_skip (i := 4) (d := 54) (g := 3) (dg := 53) (b := false) (by kernel_rfl) (by decide) (by kernel_rfl) rfl rfl h ?_
  clear h
  intro a w h
  refine env_skip (i := 5) (d := 55) (g := 3) (dg := 53) (b := false) (by kernel_rfl) (by decide) (by kernel_rfl) rfl rfl h ?_
  clear h
  intro a w h
  refine env_skip (i := 6) (d := 56) (g := 3) (dg := 53) (b := false) (by kernel_rfl) (by decide) (by kernel_rfl) rfl rfl h ?_
  clear h
  intro a w h
  refine env_one (i := 7) (d := 57) (k := .val (.bool true)) (step_pick_yes (y := .tmp 56) (by kernel_rfl) (Opd.of_base 53 rfl) (Opd.const _) rfl) (by kernel_rfl) (by decide) h ?_
  clear h
  intro a w h
  refine env_one (i := 8) (d := 49) (k := .val (.bool true)) (step_assign (by kernel_rfl) (Opd.of_base 57 rfl) rfl) (by kernel_rfl) (by decide) h ?_
  clear h
  intro a w h
  exact hQ a w (h.keep [2, 3, 4, 8, 6, 7, 9, 990, 10, 49])
theorem lInd16a_region {Q : Exit → Act → World → Prop} (p0 : Pay) (l0 : Fo) (p1 : Pay) (l1 : Fo) (r : Nat) (hsm : (Tm.validB Bl.inst.1 Bl.inst.2 && Tm.sameT Bl.inst.1 Bl.inst.2 (3, 0, Tm.errName) (.node (2, 0, (⟨#[105, 110, 115, 116, 97, 110, 116, 105, 97, 116, 105, 111, 110, 95, 101, 114, 114, 111, 114]⟩)) .nil (.node Tm.emptyA .nil .nil))) = true) {w0 : World} {a : Act} {w : World} (hr : w0.heap.size ≤ r) (h : Hold 105 [(4, .val (.bool false)), (8, .sat (nP 0 (some r) Bl.inst.1 Bl.inst.2)), (6, .val (.string ⟨#[]⟩)), (7, .val (.int .i64 0)), (9, .val (.bool false)), (990, .sat (gP 0 (some r))), (10, .sat (rC 0 r (3, 0, Tm.errName) (.node (2, 0, (⟨#[105, 110, 115, 116, 97, 110, 116, 105, 97, 116, 105, 111, 110, 95, 101, 114, 114, 111, 114]⟩)) .nil (.node Tm.emptyA .nil .nil))))] w0 a w)
    (hQ : ∀ a' w', Hold 105 [(4, .val (.bool true)), (990, .sat (gP 0 (some r)))] w0 a' w' → Q .normal a' w') : (Code.region 16 lInd16Ops false).wp Try.prog Q a w := by
  refine region_seq (w0 := w) 19 (by kernel_rfl) ?_
  rw [show List.range 19 = [0, 1, 2, 3, 4, 5, 6, 7, 8, 9, 10, 11, 12, 13, 14, 15, 16, 17, 18] from rfl]
  refine env_one (i := 0) (d := 87) (k := .val (.bool false)) (step_move (by kernel_rfl) (Opd.of_base 9 rfl) rfl) (by kernel_rfl) (by decide) h ?_
  clear h
  intro a w h
  refine env_one (i := 1) (d := 88) (k := .val (.bool true)) (step_not (by kernel_rfl) (Opd.of_base 87 rfl) rfl) (by kernel_rfl) (by decide) h ?_
  clear h
  intro a w h
  refine env_one (i := 2) (d := 89) (k := .val (.bool true)) (step_move (by kernel_rfl) (Opd.of_base 88 rfl) rfl) (by kernel_rfl) (by decide) h ?_
  clear h
  intro a w h
  refine env_guard (i := 3) (d := 90) (g := 2) (dg := 89) (b := true) (k := .val (.string ⟨#[]⟩)) (step_move (by kernel_rfl) (Opd.of_base 6 rfl) rfl) (by kernel_rfl) (by decide) (by kernel_rfl) (by decide) rfl h ?_
  clear h
  intro a w h
  refine env_guard (i := 4) (d := 91) (g := 2) (dg := 89) (b := true) (k := .val (.bool true)) (step_eqb_str (s := ⟨#[]⟩) (t := ⟨#[]⟩) (by kernel_rfl) (Opd.of_base 90 rfl) (Opd.const _) (decide_eq_true rfl) rfl) (by kernel_rfl) (by decide) (by kernel_rfl) (by decide) rfl h ?_
  clear h
  intro a w h
  refine env_one (i := 5) (d := 92) (k := .val (.bool true)) (step_pick_yes (y := .const (.bool false)) (by kernel_rfl) (Opd.of_base 89 rfl) (Opd.of_base 91 rfl) rfl) (by kernel_rfl) (by decide) h ?_
  clear h
  intro a w h
  refine env_one (i := 6) (d := 93) (k := .val (.bool true)) (step_move (by kernel_rfl) (Opd.of_base 92 rfl) rfl) (by kernel_rfl) (by decide) h ?_
  clear h
  intro a w h
  refine env_guard (i := 7) (d := 94) (g := 6) (dg := 93) (b := true) (k := .val (.int .i64 0)) (step_move (by kernel_rfl) (Opd.of_base 7 rfl) rfl) (by kernel_rfl) (by decide) (by kernel_rfl) (by decide) rfl h ?_
  clear h
  intro a w h
  refine env_guard (i := 8) (d := 95) (g := 6) (dg := 93) (b := true) (k := .val (.bool true)) (step_eqs_int (by kernel_rfl) (Opd.of_base 94 rfl) (Opd.const _) rfl) (by kernel_rfl) (by decide) (by kernel_rfl) (by decide) rfl h ?_
  clear h
  intro a w h
  refine env_one (i := 9) (d := 96) (k := .val (.bool true)) (step_pick_yes (y := .const (.bool false)) (by kernel_rfl) (Opd.of_base 93 rfl) (Opd.of_base 95 rfl) rfl) (by kernel_rfl) (by decide) h ?_
  clear h
  intro a w h
  refine env_one (i := 10) (d := 97) (k := .val (.bool true)) (step_move (by kernel_rfl) (Opd.of_base 96 rfl) rfl) (by kernel_rfl) (by decide) h ?_
  clear h
  intro a w h
  refine env_guard (i := 11) (d := 98) (g := 10) (dg := 97) (b := true) (k := .sat (nT 0 (some r) Bl.inst.1 Bl.inst.2)) (step_nload (by kernel_rfl) (Opd.of_base 8 rfl) rfl) (by kernel_rfl) (by decide) (by kernel_rfl) (by decide) rfl h ?_
  clear h
  intro a w h
  refine env_guard (i := 12) (d := 99) (g := 10) (dg := 97) (b := true) (k := .sat (nT 0 (some r) (3, 0, Tm.errName) (.node (2, 0, (⟨#[105, 110, 115, 116, 97, 110, 116, 105, 97, 116, 105, 111, 110, 95, 101, 114, 114, 111, 114]⟩)) .nil (.node Tm.emptyA .nil .nil)))) (step_cload (by kernel_rfl) (Opd.of_base 10 rfl) rfl) (by kernel_rfl) (by decide) (by kernel_rfl) (by decide) rfl h ?_
  clear h
  intro a w h
  refine env_guard (i := 13) (d := 100) (g := 10) (dg := 97) (b := true) (k := .val (.bool true)) (step_lsame (by kernel_rfl) (Opd.ofT (Opd.of_base 98 rfl)) (Opd.ofT (Opd.of_base 99 rfl)) (by rw [hsm]; rfl)) (by kernel_rfl) (by decide) (by kernel_rfl) (by decide) rfl h ?_
  clear h
  intro a w h
  refine env_one (i := 14) (d := 101) (k := .val (.bool true)) (step_pick_yes (y := .const (.bool false)) (by kernel_rfl) (Opd.of_base 97 rfl) (Opd.of_base 100 rfl) rfl) (by kernel_rfl) (by decide) h ?_
  clear h
  intro a w h
  refine env_one (i := 15) (d := 102) (k := .val (.bool true)) (step_move (by kernel_rfl) (Opd.of_base 101 rfl) rfl) (by kernel_rfl) (by decide) h ?_
  clear h
  intro a w h
  refine env_guard (i := 16) (d := 103) (g := 15) (dg := 102) (b := true) (k := .val (.bool true)) (step_awake (by kernel_rfl)  rfl) (by kernel_rfl) (by decide) (by kernel_rfl) (by decide) rfl h ?_
  clear h
  intro a w h
  refine env_one (i := 17) (d := 104) (k := .val (.bool true)) (step_pick_yes (y := .const (.bool false)) (by kernel_rfl) (Opd.of_base 102 rfl) (Opd.of_base 103 rfl) rfl) (by kernel_rfl) (by decide) h ?_
  clear h
  intro a w h
  refine env_one (i := 18) (d := 4) (k := .val (.bool true)) (step_assign (by kernel_rfl) (Opd.of_base 104 rfl) rfl) (by kernel_rfl) (by decide) h ?_
  clear h
  intro a w h
  exact hQ a w (h.keep [4, 990])
theorem lInd7b_region {Q : Exit → Act → World → Prop} (p0 : Pay) (l0 : Fo) (p1 : Pay) (l1 : Fo) (r : Nat) (h1 : ¬ p0.1 = 0) (h2 : p1.1 = 0) {w0 : World} {a : Act} {w : World} (hr : w0.heap.size ≤ r) (h : Hold 105 [(2, .sat (nP 0 (some r) p0 l0)), (3, .sat (nP 0 (some r) p1 l1)), (4, .val (.bool false)), (8, .sat (nP 0 (some r) (((Bl.ind (3, 0, ⟨#[47]⟩) (.node p0 l0 (.node p1 l1 .nil))).2.2.1).1) (((Bl.ind (3, 0, ⟨#[47]⟩) (.node p0 l0 (.node p1 l1 .nil))).2.2.1).2))), (6, .val (.string (Bl.ind (3, 0, ⟨#[47]⟩) (.node p0 l0 (.node p1 l1 .nil))).1)), (7, .val (.int .i64 (Bl.ind (3, 0, ⟨#[47]⟩) (.node p0 l0 (.node p1 l1 .nil))).2.1)), (9, .val (.bool ((Bl.ind (3, 0, ⟨#[47]⟩) (.node p0 l0 (.node p1 l1 .nil))).2.2.2))), (990, .sat (gP 0 (some r))), (10, .sat (rC 0 r (3, 0, Tm.errName) (.node (2, 0, (⟨#[105, 110, 115, 116, 97, 110, 116, 105, 97, 116, 105, 111, 110, 95, 101, 114, 114, 111, 114]⟩)) .nil (.node Tm.emptyA .nil .nil))))] w0 a w)
    (hQ : ∀ a' w', Hold 105 [(2, .sat (nP 0 (some r) p0 l0)), (3, .sat (nP 0 (some r) p1 l1)), (4, .val (.bool false)), (8, .sat (nP 0 (some r) (((Bl.ind (3, 0, ⟨#[47]⟩) (.node p0 l0 (.node p1 l1 .nil))).2.2.1).1) (((Bl.ind (3, 0, ⟨#[47]⟩) (.node p0 l0 (.node p1 l1 .nil))).2.2.1).2))), (6, .val (.string (Bl.ind (3, 0, ⟨#[47]⟩) (.node p0 l0 (.node p1 l1 .nil))).1)), (7, .val (.int .i64 (Bl.ind (3, 0, ⟨#[47]⟩) (.node p0 l0 (.node p1 l1 .nil))).2.1)), (9, .val (.bool ((Bl.ind (3, 0, ⟨#[47]⟩) (.node p0 l0 (.node p1 l1 .nil))).2.2.2))), (990, .sat (gP 0 (some r))), (10, .sat (rC 0 r (3, 0, Tm.errName) (.node (2, 0, (⟨#[105, 110, 115, 116, 97, 110, 116, 105, 97, 116, 105, 111, 110, 95, 101, 114, 114, 111, 114]⟩)) .nil (.node Tm.emptyA .nil .nil)))), (49, .val (.bool true))] w0 a' w' → Q .normal a' w') : (Code.region 7 lInd7Ops false).wp Try.prog Q a w := by
  refine region_seq (w0 := w) 9 (by kernel_rfl) ?_
  rw [show List.range 9 = [0, 1, 2, 3, 4, 5, 6, 7, 8] from rfl]
  refine env_one (i := 0) (d := 50) (k := .ptrI (p0.1)) (step_field0 (by kernel_rfl) (Opd.ofP (Opd.of_base 2 rfl)) rfl) (by kernel_rfl) (by decide) h ?_
  clear h
  intro a w h
  refine env_one (i := 1) (d := 51) (k := .val (.int .i64 (p0.1))) (step_load_int3 (by kernel_rfl) (Opd.of_base 50 rfl) rfl) (by kernel_rfl) (by decide) h ?_
  clear h
  intro a w h
  refine env_one (i := 2) (d := 52) (k := .val (.bool false)) (step_eqb_int (m := (p0.1)) (n := 0) (by kernel_rfl) (Opd.of_base 51 rfl) (Opd.const _) (by simpa using h1) rfl) (by kernel_rfl) (by decide) h ?_
  clear h
  intro a w h
  refine env_one (i := 3) (d := 53) (k := .val (.bool false)) (step_move (by kernel_rfl) (Opd.of_base 52 rfl) rfl) (by kernel_rfl) (by decide) h ?_
  clear h
  intro a w h
  refine env_guard (i := 4) (d := 54) (g := 3) (dg := 53) (b := false) (k := .ptrI (p1.1)) (step_field0 (by kernel_rfl) (Opd.ofP (Opd.of_base 3 rfl)) rfl) (by kernel_rfl) (by decide) (by kernel_rfl) (by decide) rfl h ?_
  clear h
  intro a w h
  refine env_guard (i := 5) (d := 55) (g := 3) (dg := 53) (b := false) (k := .val (.int .i64 (p1.1))) (step_load_int3 (by kernel_rfl) (Opd.of_base 54 rfl) rfl) (by kernel_rfl) (by decide) (by kernel_rfl) (by decide) rfl h ?_
  clear h
  intro a w h
  refine env_guard (i := 6) (d := 56) (g := 3) (dg := 53) (b := false) (k := .val (.bool true)) (step_eqb_int (m := (p1.1)) (n := 0) (by kernel_rfl) (Opd.of_base 55 rfl) (Opd.const _) (by rw [h2]; rfl) rfl) (by kernel_rfl) (by decide) (by kernel_rfl) (by decide) rfl h ?_
  clear h
  intro a w h
  refine env_one (i := 7) (d := 57) (k := .val (.bool true)) (step_pick_no (x := .const (.bool true)) (by kernel_rfl) (Opd.of_base 53 rfl) (Opd.of_base 56 rfl) rfl) (by kernel_rfl) (by decide) h ?_
  clear h
  intro a w h
  refine env_one (i := 8) (d := 49) (k := .val (.bool true)) (step_assign (by kernel_rfl) (Opd.of_base 57 rfl) rfl) (by kernel_rfl) (by decide) h ?_
  clear h
  intro a w h
  exact hQ a w (h.keep [2, 3, 4, 8, 6, 7, 9, 990, 10, 49])
theorem lInd7c_region {Q : Exit → Act → World → Prop} (p0 : Pay) (l0 : Fo) (p1 : Pay) (l1 : Fo) (r : Nat) (h1 : ¬ p0.1 = 0) (h2 : ¬ p1.1 = 0) {w0 : World} {a : Act} {w : World} (hr : w0.heap.size ≤ r) (h : Hold 105 [(2, .sat (nP 0 (some r) p0 l0)), (3, .sat (nP 0 (some r) p1 l1)), (4, .val (.bool false)), (8, .sat (nP 0 (some r) (((Bl.ind (3, 0, ⟨#[47]⟩) (.node p0 l0 (.node p1 l1 .nil))).2.2.1).1) (((Bl.ind (3, 0, ⟨#[47]⟩) (.node p0 l0 (.node p1 l1 .nil))).2.2.1).2))), (6, .val (.string (Bl.ind (3, 0, ⟨#[47]⟩) (.node p0 l0 (.node p1 l1 .nil))).1)), (7, .val (.int .i64 (Bl.ind (3, 0, ⟨#[47]⟩) (.node p0 l0 (.node p1 l1 .nil))).2.1)), (9, .val (.bool ((Bl.ind (3, 0, ⟨#[47]⟩) (.node p0 l0 (.node p1 l1 .nil))).2.2.2))), (990, .sat (gP 0 (some r))), (10, .sat (rC 0 r (3, 0, Tm.errName) (.node (2, 0, (⟨#[105, 110, 115, 116, 97, 110, 116, 105, 97, 116, 105, 111, 110, 95, 101, 114, 114, 111, 114]⟩)) .nil (.node Tm.emptyA .nil .nil))))] w0 a w)
    (hQ : ∀ a' w', Hold 105 [(2, .sat (nP 0 (some r) p0 l0)), (3, .sat (nP 0 (some r) p1 l1)), (4, .val (.bool false)), (8, .sat (nP 0 (some r) (((Bl.ind (3, 0, ⟨#[47]⟩) (.node p0 l0 (.node p1 l1 .nil))).2.2.1).1) (((Bl.ind (3, 0, ⟨#[47]⟩) (.node p0 l0 (.node p1 l1 .nil))).2.2.1).2))), (6, .val (.string (Bl.ind (3, 0, ⟨#[47]⟩) (.node p0 l0 (.node p1 l1 .nil))).1)), (7, .val (.int .i64 (Bl.ind (3, 0, ⟨#[47]⟩) (.node p0 l0 (.node p1 l1 .nil))).2.1)), (9, .val (.bool ((Bl.ind (3, 0, ⟨#[47]⟩) (.node p0 l0 (.node p1 l1 .nil))).2.2.2))), (990, .sat (gP 0 (some r))), (10, .sat (rC 0 r (3, 0, Tm.errName) (.node (2, 0, (⟨#[105, 110, 115, 116, 97, 110, 116, 105, 97, 116, 105, 111, 110, 95, 101, 114, 114, 111, 114]⟩)) .nil (.node Tm.emptyA .nil .nil)))), (49, .val (.bool false))] w0 a' w' → Q .normal a' w') : (Code.region 7 lInd7Ops false).wp Try.prog Q a w := by
  refine region_seq (w0 := w) 9 (by kernel_rfl) ?_
  rw [show List.range 9 = [0, 1, 2, 3, 4, 5, 6, 7, 8] from rfl]
  refine env_one (i := 0) (d := 50) (k := .ptrI (p0.1)) (step_field0 (by kernel_rfl) (Opd.ofP (Opd.of_base 2 rfl)) rfl) (by kernel_rfl) (by decide) h ?_
  clear h
  intro a w h
  refine env_one (i := 1) (d := 51) (k := .val (.int .i64 (p0.1))) (step_load_int3 (by kernel_rfl) (Opd.of_base 50 rfl) rfl) (by kernel_rfl) (by decide) h ?_
  clear h
  intro a w h
  refine env_one (i := 2) (d := 52) (k := .val (.bool false)) (step_eqb_int (m := (p0.1)) (n := 0) (by kernel_rfl) (Opd.of_base 51 rfl) (Opd.const _) (by simpa using h1) rfl) (by kernel_rfl) (by decide) h ?_
  clear h
  intro a w h
  refine env_one (i := 3) (d := 53) (k := .val (.bool false)) (step_move (by kernel_rfl) (Opd.of_base 52 rfl) rfl) (by kernel_rfl) (by decide) h ?_
  clear h
  intro a w h
  refine env_guard (i := 4) (d := 54) (g := 3) (dg := 53) (b := false) (k := .ptrI (p1.1)) (step_field0 (by kernel_rfl) (Opd.ofP (Opd.of_base 3 rfl)) rfl) (by kernel_rfl) (by decide) (by kernel_rfl) (by decide) rfl h ?_
  clear h
  intro a w h
  refine env_guard (i := 5) (d := 55) (g := 3) (dg := 53) (b := false) (k := .val (.int .i64 (p1.1))) (step_load_int3 (by kernel_rfl) (Opd.of_base 54 rfl) rfl) (by kernel_rfl) (by decide) (by kernel_rfl) (by decide) rfl h ?_
  clear h
  intro a w h
  refine env_guard (i := 6) (d := 56) (g := 3) (dg := 53) (b := false) (k := .val (.bool false)) (step_eqb_int (m := (p1.1)) (n := 0) (by kernel_rfl) (Opd.of_base 55 rfl) (Opd.const _) (by simpa using h2) rfl) (by kernel_rfl) (by decide) (by kernel_rfl) (by decide) rfl h ?_
  clear h
  intro a w h
  refine env_one (i := 7) (d := 57) (k := .val (.bool false)) (step_pick_no (x := .const (.bool true)) (by kernel_rfl) (Opd.of_base 53 rfl) (Opd.of_base 56 rfl) rfl) (by kernel_rfl) (by decide) h ?_
  clear h
  intro a w h
  refine env_one (i := 8) (d := 49) (k := .val (.bool false)) (step_assign (by kernel_rfl) (Opd.of_base 57 rfl) rfl) (by kernel_rfl) (by decide) h ?_
  clear h
  intro a w h
  exact hQ a w (h.keep [2, 3, 4, 8, 6, 7, 9, 990, 10, 49])
theorem lInd8a_region {Q : Exit → Act → World → Prop} (p0 : Pay) (l0 : Fo) (p1 : Pay) (l1 : Fo) (r : Nat) (h3 : p0.1 = 2) {w0 : World} {a : Act} {w : World} (hr : w0.heap.size ≤ r) (h : Hold 105 [(2, .sat (nP 0 (some r) p0 l0)), (3, .sat (nP 0 (some r) p1 l1)), (4, .val (.bool false)), (8, .sat (nP 0 (some r) (((Bl.ind (3, 0, ⟨#[47]⟩) (.node p0 l0 (.node p1 l1 .nil))).2.2.1).1) (((Bl.ind (3, 0, ⟨#[47]⟩) (.node p0 l0 (.node p1 l1 .nil))).2.2.1).2))), (6, .val (.string (Bl.ind (3, 0, ⟨#[47]⟩) (.node p0 l0 (.node p1 l1 .nil))).1)), (7, .val (.int .i64 (Bl.ind (3, 0, ⟨#[47]⟩) (.node p0 l0 (.node p1 l1 .nil))).2.1)), (9, .val (.bool ((Bl.ind (3, 0, ⟨#[47]⟩) (.node p0 l0 (.node p1 l1 .nil))).2.2.2))), (990, .sat (gP 0 (some r))), (10, .sat (rC 0 r (3, 0, Tm.errName) (.node (2, 0, (⟨#[105, 110, 115, 116, 97, 110, 116, 105, 97, 116, 105, 111, 110, 95, 101, 114, 114, 111, 114]⟩)) .nil (.node Tm.emptyA .nil .nil))))] w0 a w)
    (hQ : ∀ a' w', Hold 105 [(2, .sat (nP 0 (some r) p0 l0)), (3, .sat (nP 0 (some r) p1 l1)), (4, .val (.bool false)), (8, .sat (nP 0 (some r) (((Bl.ind (3, 0, ⟨#[47]⟩) (.node p0 l0 (.node p1 l1 .nil))).2.2.1).1) (((Bl.ind (3, 0, ⟨#[47]⟩) (.node p0 l0 (.node p1 l1 .nil))).2.2.1).2))), (6, .val (.string (Bl.ind (3, 0, ⟨#[47]⟩) (.node p0 l0 (.node p1 l1 .nil))).1)), (7, .val (.int .i64 (Bl.ind (3, 0, ⟨#[47]⟩) (.node p0 l0 (.node p1 l1 .nil))).2.1)), (9, .val (.bool ((Bl.ind (3, 0, ⟨#[47]⟩) (.node p0 l0 (.node p1 l1 .nil))).2.2.2))), (990, .sat (gP 0 (some r))), (10, .sat (rC 0 r (3, 0, Tm.errName) (.node (2, 0, (⟨#[105, 110, 115, 116, 97, 110, 116, 105, 97, 116, 105, 111, 110, 95, 101, 114, 114, 111, 114]⟩)) .nil (.node Tm.emptyA .nil .nil)))), (58, .val (.bool false))] w0 a' w' → Q .normal a' w') : (Code.region 8 lInd8Ops false).wp Try.prog Q a w := by
  refine region_seq (w0 := w) 4 (by kernel_rfl) ?_
  rw [show List.range 4 = [0, 1, 2, 3] from rfl]
  refine env_one (i := 0) (d := 59) (k := .ptrI (p0.1)) (step_field0 (by kernel_rfl) (Opd.ofP (Opd.of_base 2 rfl)) rfl) (by kernel_rfl) (by decide) h ?_
  clear h
  intro a w h
  refine env_one (i := 1) (d := 60) (k := .val (.int .i64 (p0.1))) (step_load_int3 (by kernel_rfl) (Opd.of_base 59 rfl) rfl) (by kernel_rfl) (by decide) h ?_
  clear h
  intro a w h
  refine env_one (i := 2) (d := 61) (k := .val (.bool false)) (step_ne_int (m := (p0.1)) (n := 2) (by kernel_rfl) (Opd.of_base 60 rfl) (Opd.const _) (by rw [h3]; rfl) rfl) (by kernel_rfl) (by decide) h ?_
  clear h
  intro a w h
  refine env_one (i := 3) (d := 58) (k := .val (.bool false)) (step_assign (by kernel_rfl) (Opd.of_base 61 rfl) rfl) (by kernel_rfl) (by decide) h ?_
  clear h
  intro a w h
  exact hQ a w (h.keep [2, 3, 4, 8, 6, 7, 9, 990, 10, 58])
theorem lInd10a_region {Q : Exit → Act → World → Prop} (p0 : Pay) (l0 : Fo) (p1 : Pay) (l1 : Fo) (r : Nat) (h4 : p1.1 = 1) {w0 : World} {a : Act} {w : World} (hr : w0.heap.size ≤ r) (h : Hold 105 [(2, .sat (nP 0 (some r) p0 l0)), (3, .sat (nP 0 (some r) p1 l1)), (4, .val (.bool false)), (8, .sat (nP 0 (some r) (((Bl.ind (3, 0, ⟨#[47]⟩) (.node p0 l0 (.node p1 l1 .nil))).2.2.1).1) (((Bl.ind (3, 0, ⟨#[47]⟩) (.node p0 l0 (.node p1 l1 .nil))).2.2.1).2))), (6, .val (.string (Bl.ind (3, 0, ⟨#[47]⟩) (.node p0 l0 (.node p1 l1 .nil))).1)), (7, .val (.int .i64 (Bl.ind (3, 0, ⟨#[47]⟩) (.node p0 l0 (.node p1 l1 .nil))).2.1)), (9, .val (.bool ((Bl.ind (3, 0, ⟨#[47]⟩) (.node p0 l0 (.node p1 l1 .nil))).2.2.2))), (990, .sat (gP 0 (some r))), (10, .sat (rC 0 r (3, 0, Tm.errName) (.node (2, 0, (⟨#[105, 110, 115, 116, 97, 110, 116, 105, 97, 116, 105, 111, 110, 95, 101, 114, 114, 111, 114]⟩)) .nil (.node Tm.emptyA .nil .nil))))] w0 a w)
    (hQ : ∀ a' w', Hold 105 [(2, .sat (nP 0 (some r) p0 l0)), (3, .sat (nP 0 (some r) p1 l1)), (4, .val (.bool false)), (8, .sat (nP 0 (some r) (((Bl.ind (3, 0, ⟨#[47]⟩) (.node p0 l0 (.node p1 l1 .nil))).2.2.1).1) (((Bl.ind (3, 0, ⟨#[47]⟩) (.node p0 l0 (.node p1 l1 .nil))).2.2.1).2))), (6, .val (.string (Bl.ind (3, 0, ⟨#[47]⟩) (.node p0 l0 (.node p1 l1 .nil))).1)), (7, .val (.int .i64 (Bl.ind (3, 0, ⟨#[47]⟩) (.node p0 l0 (.node p1 l1 .nil))).2.1)), (9, .val (.bool ((Bl.ind (3, 0, ⟨#[47]⟩) (.node p0 l0 (.node p1 l1 .nil))).2.2.2))), (990, .sat (gP 0 (some r))), (10, .sat (rC 0 r (3, 0, Tm.errName) (.node (2, 0, (⟨#[105, 110, 115, 116, 97, 110, 116, 105, 97, 116, 105, 111, 110, 95, 101, 114, 114, 111, 114]⟩)) .nil (.node Tm.emptyA .nil .nil)))), (64, .val (.bool false))] w0 a' w' → Q .normal a' w') : (Code.region 10 lInd10Ops false).wp Try.prog Q a w := by
  refine region_seq (w0 := w) 4 (by kernel_rfl) ?_
  rw [show List.range 4 = [0, 1, 2, 3] from rfl]
  refine env_one (i := 0) (d := 65) (k := .ptrI (p1.1)) (step_field0 (by kernel_rfl) (Opd.ofP (Opd.of_base 3 rfl)) rfl) (by kernel_rfl) (by decide) h ?_
  clear h
  intro a w h
  refine env_one (i := 1) (d := 66) (k := .val (.int .i64 (p1.1))) (step_load_int3 (by kernel_rfl) (Opd.of_base 65 rfl) rfl) (by kernel_rfl) (by decide) h ?_
  clear h
  intro a w h
  refine env_one (i := 2) (d := 67) (k := .val (.bool false)) (step_ne_int (m := (p1.1)) (n := 1) (by kernel_rfl) (Opd.of_base 66 rfl) (Opd.const _) (by rw [h4]; rfl) rfl) (by kernel_rfl) (by decide) h ?_
  clear h
  intro a w h
  refine env_one (i := 3) (d := 64) (k := .val (.bool false)) (step_assign (by kernel_rfl) (Opd.of_base 67 rfl) rfl) (by kernel_rfl) (by decide) h ?_
  clear h
  intro a w h
  exact hQ a w (h.keep [2, 3, 4, 8, 6, 7, 9, 990, 10, 64])
theorem lInd12a_region {Q : Exit → Act → World → Prop} (p0 : Pay) (l0 : Fo) (p1 : Pay) (l1 : Fo) (r : Nat) (h5 : p1.2.1 < 0) {w0 : World} {a : Act} {w : World} (hr : w0.heap.size ≤ r) (h : Hold 105 [(2, .sat (nP 0 (some r) p0 l0)), (3, .sat (nP 0 (some r) p1 l1)), (4, .val (.bool false)), (8, .sat (nP 0 (some r) (((Bl.ind (3, 0, ⟨#[47]⟩) (.node p0 l0 (.node p1 l1 .nil))).2.2.1).1) (((Bl.ind (3, 0, ⟨#[47]⟩) (.node p0 l0 (.node p1 l1 .nil))).2.2.1).2))), (6, .val (.string (Bl.ind (3, 0, ⟨#[47]⟩) (.node p0 l0 (.node p1 l1 .nil))).1)), (7, .val (.int .i64 (Bl.ind (3, 0, ⟨#[47]⟩) (.node p0 l0 (.node p1 l1 .nil))).2.1)), (9, .val (.bool ((Bl.ind (3, 0, ⟨#[47]⟩) (.node p0 l0 (.node p1 l1 .nil))).2.2.2))), (990, .sat (gP 0 (some r))), (10, .sat (rC 0 r (3, 0, Tm.errName) (.node (2, 0, (⟨#[105, 110, 115, 116, 97, 110, 116, 105, 97, 116, 105, 111, 110, 95, 101, 114, 114, 111, 114]⟩)) .nil (.node Tm.emptyA .nil .nil))))] w0 a w)
    (hQ : ∀ a' w', Hold 105 [(2, .sat (nP 0 (some r) p0 l0)), (3, .sat (nP 0 (some r) p1 l1)), (4, .val (.bool false)), (8, .sat (nP 0 (some r) (((Bl.ind (3, 0, ⟨#[47]⟩) (.node p0 l0 (.node p1 l1 .nil))).2.2.1).1) (((Bl.ind (3, 0, ⟨#[47]⟩) (.node p0 l0 (.node p1 l1 .nil))).2.2.1).2))), (6, .val (.string (Bl.ind (3, 0, ⟨#[47]⟩) (.node p0 l0 (.node p1 l1 .nil))).1)), (7, .val (.int .i64 (Bl.ind (3, 0, ⟨#[47]⟩) (.node p0 l0 (.node p1 l1 .nil))).2.1)), (9, .val (.bool ((Bl.ind (3, 0, ⟨#[47]⟩) (.node p0 l0 (.node p1 l1 .nil))).2.2.2))), (990, .sat (gP 0 (some r))), (10, .sat (rC 0 r (3, 0, Tm.errName) (.node (2, 0, (⟨#[105, 110, 115, 116, 97, 110, 116, 105, 97, 116, 105, 111, 110, 95, 101, 114, 114, 111, 114]⟩)) .nil (.node Tm.emptyA .nil .nil)))), (70, .val (.bool true))] w0 a' w' → Q .normal a' w') : (Code.region 12 lInd12Ops false).wp Try.prog Q a w := by
  refine region_seq (w0 := w) 4 (by kernel_rfl) ?_
  rw [show List.range 4 = [0, 1, 2, 3] from rfl]
  refine env_one (i := 0) (d := 71) (k := .ptrI (p1.2.1)) (step_field1 (by kernel_rfl) (Opd.ofP (Opd.of_base 3 rfl)) rfl) (by kernel_rfl) (by decide) h ?_
  clear h
  intro a w h
  refine env_one (i := 1) (d := 72) (k := .val (.int .i64 (p1.2.1))) (step_load_int (by kernel_rfl) (Opd.of_base 71 rfl) rfl) (by kernel_rfl) (by decide) h ?_
  clear h
  intro a w h
  refine env_one (i := 2) (d := 73) (k := .val (.bool true)) (step_lt_int64 (m := (p1.2.1)) (n := 0) (by kernel_rfl) (Opd.of_base 72 rfl) (Opd.const _) (decide_eq_true h5) rfl) (by kernel_rfl) (by decide) h ?_
  clear h
  intro a w h
  refine env_one (i := 3) (d := 70) (k := .val (.bool true)) (step_assign (by kernel_rfl) (Opd.of_base 73 rfl) rfl) (by kernel_rfl) (by decide) h ?_
  clear h
  intro a w h
  exact hQ a w (h.keep [2, 3, 4, 8, 6, 7, 9, 990, 10, 70])
def lInd13aEs (p0 : Pay) (l0 : Fo) (p1 : Pay) (l1 : Fo) (r : Nat) : List Kd := [
  .sat (nT 0 (some r) (2, 0, (⟨#[110, 111, 116, 95, 108, 101, 115, 115, 95, 116, 104, 97, 110, 95, 122, 101, 114, 111]⟩)) .nil),
  .sat (nT 0 (some r) p1 l1),
  .sat (nK 0 (some r) (.node (2, 0, (⟨#[110, 111, 116, 95, 108, 101, 115, 115, 95, 116, 104, 97, 110, 95, 122, 101, 114, 111]⟩)) .nil (.node p1 l1 .nil))),
  .sat (nT 0 (some r) (3, 0, ⟨#[100, 111, 109, 97, 105, 110, 95, 101, 114, 114, 111, 114]⟩) (.node (2, 0, (⟨#[110, 111, 116, 95, 108, 101, 115, 115, 95, 116, 104, 97, 110, 95, 122, 101, 114, 111]⟩)) .nil (.node p1 l1 .nil))),
  .sat (nT 0 (some r) (3, 0, Tm.errName) (.node (3, 0, ⟨#[100, 111, 109, 97, 105, 110, 95, 101, 114, 114, 111, 114]⟩) (.node (2, 0, (⟨#[110, 111, 116, 95, 108, 101, 115, 115, 95, 116, 104, 97, 110, 95, 122, 101, 114, 111]⟩)) .nil (.node p1 l1 .nil)) (.node Tm.emptyA .nil .nil)))]
def lInd13aDs : List Nat := [74, 75, 76, 77, 78]
def lInd13aEnv (p0 : Pay) (l0 : Fo) (p1 : Pay) (l1 : Fo) (r : Nat) : Env := [(3, .sat (nP 0 (some r) p1 l1)), (4, .val (.bool false)), (8, .sat (nP 0 (some r) (((Bl.ind (3, 0, ⟨#[47]⟩) (.node p0 l0 (.node p1 l1 .nil))).2.2.1).1) (((Bl.ind (3, 0, ⟨#[47]⟩) (.node p0 l0 (.node p1 l1 .nil))).2.2.1).2))), (6, .val (.string (Bl.ind (3, 0, ⟨#[47]⟩) (.node p0 l0 (.node p1 l1 .nil))).1)), (7, .val (.int .i64 (Bl.ind (3, 0, ⟨#[47]⟩) (.node p0 l0 (.node p1 l1 .nil))).2.1)), (9, .val (.bool ((Bl.ind (3, 0, ⟨#[47]⟩) (.node p0 l0 (.node p1 l1 .nil))).2.2.2))), (990, .sat (gP 0 (some r))), (10, .sat (rC 0 r (3, 0, Tm.errName) (.node (2, 0, (⟨#[105, 110, 115, 116, 97, 110, 116, 105, 97, 116, 105, 111, 110, 95, 101, 114, 114, 111, 114]⟩)) .nil (.node Tm.emptyA .nil .nil))))]
theorem lInd13a_0 {Q : Exit → Act → World → Prop} (p0 : Pay) (l0 : Fo) (p1 : Pay) (l1 : Fo) (r : Nat)  : RStep (strip lInd13Ops) Q (fun i => ((lInd13aEs p0 l0 p1 l1 r)[i]?).getD .any) (fun i => (lInd13aDs[i]?).getD (1000 + i)) (look (lInd13aEnv p0 l0 p1 l1 r)) 105 0 := fun _ => step_la (g := 990) (by kernel_rfl) (Opd.const _) (Opd.of_base 990 rfl) rfl
theorem lInd13a_1 {Q : Exit → Act → World → Prop} (p0 : Pay) (l0 : Fo) (p1 : Pay) (l1 : Fo) (r : Nat)  : RStep (strip lInd13Ops) Q (fun i => ((lInd13aEs p0 l0 p1 l1 r)[i]?).getD .any) (fun i => (lInd13aDs[i]?).getD (1000 + i)) (look (lInd13aEnv p0 l0 p1 l1 r)) 105 1 := fun _ => step_nload (by kernel_rfl) (Opd.of_base 3 rfl) rfl
theorem lInd13a_2 {Q : Exit → Act → World → Prop} (p0 : Pay) (l0 : Fo) (p1 : Pay) (l1 : Fo) (r : Nat)  : RStep (strip lInd13Ops) Q (fun i => ((lInd13aEs p0 l0 p1 l1 r)[i]?).getD .any) (fun i => (lInd13aDs[i]?).getD (1000 + i)) (look (lInd13aEnv p0 l0 p1 l1 r)) 105 2 := fun _ => step_nslice2 (g := 990) (by kernel_rfl) (Opd.dep 0 rfl rfl (by kernel_rfl)) (Opd.dep 1 rfl rfl (by kernel_rfl)) (Opd.of_base 990 rfl) rfl
theorem lInd13a_3 {Q : Exit → Act → World → Prop} (p0 : Pay) (l0 : Fo) (p1 : Pay) (l1 : Fo) (r : Nat)  : RStep (strip lInd13Ops) Q (fun i => ((lInd13aEs p0 l0 p1 l1 r)[i]?).getD .any) (fun i => (lInd13aDs[i]?).getD (1000 + i)) (look (lInd13aEnv p0 l0 p1 l1 r)) 105 3 := fun _ => step_lf (by kernel_rfl) (Opd.const _) (Opd.ofK (Opd.dep 2 rfl rfl (by kernel_rfl))) rfl
theorem lInd13a_4 {Q : Exit → Act → World → Prop} (p0 : Pay) (l0 : Fo) (p1 : Pay) (l1 : Fo) (r : Nat)  : RStep (strip lInd13Ops) Q (fun i => ((lInd13aEs p0 l0 p1 l1 r)[i]?).getD .any) (fun i => (lInd13aDs[i]?).getD (1000 + i)) (look (lInd13aEnv p0 l0 p1 l1 r)) 105 4 := fun _ => step_lerrN (g := 990) (by kernel_rfl) (Opd.dep 3 rfl rfl (by kernel_rfl)) (Opd.of_base 990 rfl) rfl
theorem lInd13a_region {Q : Exit → Act → World → Prop} (p0 : Pay) (l0 : Fo) (p1 : Pay) (l1 : Fo) (r : Nat)  {w0 : World} {a : Act} {w : World} (hr : w0.heap.size ≤ r) (h : Hold 105 [(3, .sat (nP 0 (some r) p1 l1)), (4, .val (.bool false)), (8, .sat (nP 0 (some r) (((Bl.ind (3, 0, ⟨#[47]⟩) (.node p0 l0 (.node p1 l1 .nil))).2.2.1).1) (((Bl.ind (3, 0, ⟨#[47]⟩) (.node p0 l0 (.node p1 l1 .nil))).2.2.1).2))), (6, .val (.string (Bl.ind (3, 0, ⟨#[47]⟩) (.node p0 l0 (.node p1 l1 .nil))).1)), (7, .val (.int .i64 (Bl.ind (3, 0, ⟨#[47]⟩) (.node p0 l0 (.node p1 l1 .nil))).2.1)), (9, .val (.bool ((Bl.ind (3, 0, ⟨#[47]⟩) (.node p0 l0 (.node p1 l1 .nil))).2.2.2))), (990, .sat (gP 0 (some r))), (10, .sat (rC 0 r (3, 0, Tm.errName) (.node (2, 0, (⟨#[105, 110, 115, 116, 97, 110, 116, 105, 97, 116, 105, 111, 110, 95, 101, 114, 114, 111, 114]⟩)) .nil (.node Tm.emptyA .nil .nil))))] w0 a w)
    (hQ : ∀ a' w', Hold 105 [(4, .val (.bool false)), (8, .sat (nP 0 (some r) (((Bl.ind (3, 0, ⟨#[47]⟩) (.node p0 l0 (.node p1 l1 .nil))).2.2.1).1) (((Bl.ind (3, 0, ⟨#[47]⟩) (.node p0 l0 (.node p1 l1 .nil))).2.2.1).2))), (6, .val (.string (Bl.ind (3, 0, ⟨#[47]⟩) (.node p0 l0 (.node p1 l1 .nil))).1)), (7, .val (.int .i64 (Bl.ind (3, 0, ⟨#[47]⟩) (.node p0 l0 (.node p1 l1 .nil))).2.1)), (9, .val (.bool ((Bl.ind (3, 0, ⟨#[47]⟩) (.node p0 l0 (.node p1 l1 .nil))).2.2.2))), (990, .sat (gP 0 (some r))), (10, .sat (rC 0 r (3, 0, Tm.errName) (.node (3, 0, ⟨#[100, 111, 109, 97, 105, 110, 95, 101, 114, 114, 111, 114]⟩) (.node (2, 0, (⟨#[110, 111, 116, 95, 108, 101, 115, 115, 95, 116, 104, 97, 110, 95, 122, 101, 114, 111]⟩)) .nil (.node p1 l1 .nil)) (.node Tm.emptyA .nil .nil))))] w0 a' w' → Q .normal a' w') : (Code.region 13 lInd13Ops true).wp Try.prog Q a w := by
  have hall : ∀ i, i < 0 → RStep (strip lInd13Ops) Q (fun i => ((lInd13aEs p0 l0 p1 l1 r)[i]?).getD .any) (fun i => (lInd13aDs[i]?).getD (1000 + i)) (look (lInd13aEnv p0 l0 p1 l1 r)) 105 i := fun i hi => absurd hi (by omega)
  have hall := below_succ hall (lInd13a_0 p0 l0 p1 l1 r )
  have hall := below_succ hall (lInd13a_1 p0 l0 p1 l1 r )
  have hall := below_succ hall (lInd13a_2 p0 l0 p1 l1 r )
  have hall := below_succ hall (lInd13a_3 p0 l0 p1 l1 r )
  have hall := below_succ hall (lInd13a_4 p0 l0 p1 l1 r )
  refine env_then (m := 5) (n := 6) lInd13aDs (lInd13aEs p0 l0 p1 l1 r) rfl (by kernel_rfl) (by decide) (by kernel_rfl) (of_decide_eq_true (by kernel_rfl)) (by kernel_rfl) (by kernel_rfl) (fun i_ hi_ => hall i_ hi_) h fun a w h => ?_
  clear hall
  have h := h.keep [3, 4, 8, 6, 7, 9, 990, 10, 74, 75, 76, 77, 78]
  show wpOps Try.prog _ Q [5] a w
  refine env_store (i := 5) (x := 10) (y := 78) (r := r) [(3, .sat (nP 0 (some r) p1 l1)), (4, .val (.bool false)), (8, .sat (nP 0 (some r) (((Bl.ind (3, 0, ⟨#[47]⟩) (.node p0 l0 (.node p1 l1 .nil))).2.2.1).1) (((Bl.ind (3, 0, ⟨#[47]⟩) (.node p0 l0 (.node p1 l1 .nil))).2.2.1).2))), (6, .val (.string (Bl.ind (3, 0, ⟨#[47]⟩) (.node p0 l0 (.node p1 l1 .nil))).1)), (7, .val (.int .i64 (Bl.ind (3, 0, ⟨#[47]⟩) (.node p0 l0 (.node p1 l1 .nil))).2.1)), (9, .val (.bool ((Bl.ind (3, 0, ⟨#[47]⟩) (.node p0 l0 (.node p1 l1 .nil))).2.2.2))), (990, .sat (gP 0 (some r))), (74, .sat (nT 0 (some r) (2, 0, (⟨#[110, 111, 116, 95, 108, 101, 115, 115, 95, 116, 104, 97, 110, 95, 122, 101, 114, 111]⟩)) .nil)), (75, .sat (nT 0 (some r) p1 l1)), (76, .sat (nK 0 (some r) (.node (2, 0, (⟨#[110, 111, 116, 95, 108, 101, 115, 115, 95, 116, 104, 97, 110, 95, 122, 101, 114, 111]⟩)) .nil (.node p1 l1 .nil)))), (77, .sat (nT 0 (some r) (3, 0, ⟨#[100, 111, 109, 97, 105, 110, 95, 101, 114, 114, 111, 114]⟩) (.node (2, 0, (⟨#[110, 111, 116, 95, 108, 101, 115, 115, 95, 116, 104, 97, 110, 95, 122, 101, 114, 111]⟩)) .nil (.node p1 l1 .nil)))), (78, .sat (nT 0 (some r) (3, 0, Tm.errName) (.node (3, 0, ⟨#[100, 111, 109, 97, 105, 110, 95, 101, 114, 114, 111, 114]⟩) (.node (2, 0, (⟨#[110, 111, 116, 95, 108, 101, 115, 115, 95, 116, 104, 97, 110, 95, 122, 101, 114, 111]⟩)) .nil (.node p1 l1 .nil)) (.node Tm.emptyA .nil .nil))))] (by kernel_rfl) rfl rfl hr (stays_cons 3 rfl (away_nP _ _ _ _) (stays_cons 4 rfl (away_val _ _) (stays_cons 8 rfl (away_nP _ _ _ _) (stays_cons 6 rfl (away_val _ _) (stays_cons 7 rfl (away_val _ _) (stays_cons 9 rfl (away_val _ _) (stays_cons 990 rfl (away_gP _ _ _) (stays_cons 74 rfl (away_nT _ _ _ _) (stays_cons 75 rfl (away_nT _ _ _ _) (stays_cons 76 rfl (away_nK _ _ _) (stays_cons 77 rfl (away_nT _ _ _ _) (stays_cons 78 rfl (away_nT _ _ _ _) (stays_nil _ _))))))))))))) h ?_
  clear h
  intro a w h
  exact hQ a w (h.keep [4, 8, 6, 7, 9, 990, 10])
theorem lInd16b_region {Q : Exit → Act → World → Prop} (p0 : Pay) (l0 : Fo) (p1 : Pay) (l1 : Fo) (r : Nat) (hsm : (Tm.validB (Bl.dom ⟨#[110, 111, 116, 95, 108, 101, 115, 115, 95, 116, 104, 97, 110, 95, 122, 101, 114, 111]⟩ p1 l1).1 (Bl.dom ⟨#[110, 111, 116, 95, 108, 101, 115, 115, 95, 116, 104, 97, 110, 95, 122, 101, 114, 111]⟩ p1 l1).2 && Tm.sameT (Bl.dom ⟨#[110, 111, 116, 95, 108, 101, 115, 115, 95, 116, 104, 97, 110, 95, 122, 101, 114, 111]⟩ p1 l1).1 (Bl.dom ⟨#[110, 111, 116, 95, 108, 101, 115, 115, 95, 116, 104, 97, 110, 95, 122, 101, 114, 111]⟩ p1 l1).2 (3, 0, Tm.errName) (.node (3, 0, ⟨#[100, 111, 109, 97, 105, 110, 95, 101, 114, 114, 111, 114]⟩) (.node (2, 0, (⟨#[110, 111, 116, 95, 108, 101, 115, 115, 95, 116, 104, 97, 110, 95, 122, 101, 114, 111]⟩)) .nil (.node p1 l1 .nil)) (.node Tm.emptyA .nil .nil))) = true) {w0 : World} {a : Act} {w : World} (hr : w0.heap.size ≤ r) (h : Hold 105 [(4, .val (.bool false)), (8, .sat (nP 0 (some r) ((Bl.dom ⟨#[110, 111, 116, 95, 108, 101, 115, 115, 95, 116, 104, 97, 110, 95, 122, 101, 114, 111]⟩ p1 l1).1) ((Bl.dom ⟨#[110, 111, 116, 95, 108, 101, 115, 115, 95, 116, 104, 97, 110, 95, 122, 101, 114, 111]⟩ p1 l1).2))), (6, .val (.string ⟨#[]⟩)), (7, .val (.int .i64 0)), (9, .val (.bool false)), (990, .sat (gP 0 (some r))), (10, .sat (rC 0 r (3, 0, Tm.errName) (.node (3, 0, ⟨#[100, 111, 109, 97, 105, 110, 95, 101, 114, 114, 111, 114]⟩) (.node (2, 0, (⟨#[110, 111, 116, 95, 108, 101, 115, 115, 95, 116, 104, 97, 110, 95, 122, 101, 114, 111]⟩)) .nil (.node p1 l1 .nil)) (.node Tm.emptyA .nil .nil))))] w0 a w)
    (hQ : ∀ a' w', Hold 105 [(4, .val (.bool true)), (990, .sat (gP 0 (some r)))] w0 a' w' → Q .normal a' w') : (Code.region 16 lInd16Ops false).wp Try.prog Q a w := by
  refine region_seq (w0 := w) 19 (by kernel_rfl) ?_
  rw [show List.range 19 = [0, 1, 2, 3, 4, 5, 6, 7, 8, 9, 10, 11, 12, 13, 14, 15, 16, 17, 18] from rfl]
  refine env_one (i := 0) (d := 87) (k := .val (.bool false)) (step_move (by kernel_rfl) (Opd.of_base 9 rfl) rfl) (by kernel_rfl) (by decide) h ?_
  clear h
  intro a w h
  refine env_one (i := 1) (d := 88) (k := .val (.bool true)) (step_not (by kernel_rfl) (Opd.of_base 87 rfl) rfl) (by kernel_rfl) (by decide) h ?_
  clear h
  intro a w h
  refine env_one (i := 2) (d := 89) (k := .val (.bool true)) (step_move (by kernel_rfl) (Opd.of_base 88 rfl) rfl) (by kernel_rfl) (by decide) h ?_
  clear h
  intro a w h
  refine env_guard (i := 3) (d := 90) (g := 2) (dg := 89) (b := true) (k := .val (.string ⟨#[]⟩)) (step_move (by kernel_rfl) (Opd.of_base 6 rfl) rfl) (by kernel_rfl) (by decide) (by kernel_rfl) (by decide) rfl h ?_
  clear h
  intro a w h
  refine env_guard (i := 4) (d := 91) (g := 2) (dg := 89) (b := true) (k := .val (.bool true)) (step_eqb_str (s := ⟨#[]⟩) (t := ⟨#[]⟩) (by kernel_rfl) (Opd.of_base 90 rfl) (Opd.const _) (decide_eq_true rfl) rfl) (by kernel_rfl) (by decide) (by kernel_rfl) (by decide) rfl h ?_
  clear h
  intro a w h
  refine env_one (i := 5) (d := 92) (k := .val (.bool true)) (step_pick_yes (y := .const (.bool false)) (by kernel_rfl) (Opd.of_base 89 rfl) (Opd.of_base 91 rfl) rfl) (by kernel_rfl) (by decide) h ?_
  clear h
  intro a w h
  refine env_one (i := 6) (d := 93) (k := .val (.bool true)) (step_move (by kernel_rfl) (Opd.of_base 92 rfl) rfl) (by kernel_rfl) (by decide) h ?_
  clear h
  intro a w h
  refine env_guard (i := 7) (d := 94) (g := 6) (dg := 93) (b := true) (k := .val (.int .i64 0)) (step_move (by kernel_rfl) (Opd.of_base 7 rfl) rfl) (by kernel_rfl) (by decide) (by kernel_rfl) (by decide) rfl h ?_
  clear h
  intro a w h
  refine env_guard (i := 8) (d := 95) (g := 6) (dg := 93) (b := true) (k := .val (.bool true)) (step_eqs_int (by kernel_rfl) (Opd.of_base 94 rfl) (Opd.const _) rfl) (by kernel_rfl) (by decide) (by kernel_rfl) (by decide) rfl h ?_
  clear h
  intro a w h
  refine env_one (i := 9) (d := 96) (k := .val (.bool true)) (step_pick_yes (y := .const (.bool false)) (by kernel_rfl) (Opd.of_base 93 rfl) (Opd.of_base 95 rfl) rfl) (by kernel_rfl) (by decide) h ?_
  clear h
  intro a w h
  refine env_one (i := 10) (d := 97) (k := .val (.bool true)) (step_move (by kernel_rfl) (Opd.of_base 96 rfl) rfl) (by kernel_rfl) (by decide) h ?_
  clear h
  intro a w h
  refine env_guard (i := 11) (d := 98) (g := 10) (dg := 97) (b := true) (k := .sat (nT 0 (some r) ((Bl.dom ⟨#[110, 111, 116, 95, 108, 101, 115, 115, 95, 116, 104, 97, 110, 95, 122, 101, 114, 111]⟩ p1 l1).1) ((Bl.dom ⟨#[110, 111, 116, 95, 108, 101, 115, 115, 95, 116, 104, 97, 110, 95, 122, 101, 114, 111]⟩ p1 l1).2))) (step_nload (by kernel_rfl) (Opd.of_base 8 rfl) rfl) (by kernel_rfl) (by decide) (by kernel_rfl) (by decide) rfl h ?_
  clear h
  intro a w h
  refine env_guard (i := 12) (d := 99) (g := 10) (dg := 97) (b := true) (k := .sat (nT 0 (some r) (3, 0, Tm.errName) (.node (3, 0, ⟨#[100, 111, 109, 97, 105, 110, 95, 101, 114, 114, 111, 114]⟩) (.node (2, 0, (⟨#[110, 111, 116, 95, 108, 101, 115, 115, 95, 116, 104, 97, 110, 95, 122, 101, 114, 111]⟩)) .nil (.node p1 l1 .nil)) (.node Tm.emptyA .nil .nil)))) (step_cload (by kernel_rfl) (Opd.of_base 10 rfl) rfl) (by kernel_rfl) (by decide) (by kernel_rfl) (by decide) rfl h ?_
  clear h
  intro a w h
  refine env_guard (i := 13) (d := 100) (g := 10) (dg := 97) (b := true) (k := .val (.bool true)) (step_lsame (by kernel_rfl) (Opd.ofT (Opd.of_base 98 rfl)) (Opd.ofT (Opd.of_base 99 rfl)) (by rw [hsm]; rfl)) (by kernel_rfl) (by decide) (by kernel_rfl) (by decide) rfl h ?_
  clear h
  intro a w h
  refine env_one (i := 14) (d := 101) (k := .val (.bool true)) (step_pick_yes (y := .const (.bool false)) (by kernel_rfl) (Opd.of_base 97 rfl) (Opd.of_base 100 rfl) rfl) (by kernel_rfl) (by decide) h ?_
  clear h
  intro a w h
  refine env_one (i := 15) (d := 102) (k := .val (.bool true)) (step_move (by kernel_rfl) (Opd.of_base 101 rfl) rfl) (by kernel_rfl) (by decide) h ?_
  clear h
  intro a w h
  refine env_guard (i := 16) (d := 103) (g := 15) (dg := 102) (b := true) (k := .val (.bool true)) (step_awake (by kernel_rfl)  rfl) (by kernel_rfl) (by decide) (by kernel_rfl) (by decide) rfl h ?_
  clear h
  intro a w h
  refine env_one (i := 17) (d := 104) (k := .val (.bool true)) (step_pick_yes (y := .const (.bool false)) (by kernel_rfl) (Opd.of_base 102 rfl) (Opd.of_base 103 rfl) rfl) (by kernel_rfl) (by decide) h ?_
  clear h
  intro a w h
  refine env_one (i := 18) (d := 4) (k := .val (.bool true)) (step_assign (by kernel_rfl) (Opd.of_base 104 rfl) rfl) (by kernel_rfl) (by decide) h ?_
  clear h
  intro a w h
  exact hQ a w (h.keep [4, 990])
theorem lInd12b_region {Q : Exit → Act → World → Prop} (p0 : Pay) (l0 : Fo) (p1 : Pay) (l1 : Fo) (r : Nat) (h5 : ¬ p1.2.1 < 0) {w0 : World} {a : Act} {w : World} (hr : w0.heap.size ≤ r) (h : Hold 105 [(2, .sat (nP 0 (some r) p0 l0)), (3, .sat (nP 0 (some r) p1 l1)), (4, .val (.bool false)), (8, .sat (nP 0 (some r) (((Bl.ind (3, 0, ⟨#[47]⟩) (.node p0 l0 (.node p1 l1 .nil))).2.2.1).1) (((Bl.ind (3, 0, ⟨#[47]⟩) (.node p0 l0 (.node p1 l1 .nil))).2.2.1).2))), (6, .val (.string (Bl.ind (3, 0, ⟨#[47]⟩) (.node p0 l0 (.node p1 l1 .nil))).1)), (7, .val (.int .i64 (Bl.ind (3, 0, ⟨#[47]⟩) (.node p0 l0 (.node p1 l1 .nil))).2.1)), (9, .val (.bool ((Bl.ind (3, 0, ⟨#[47]⟩) (.node p0 l0 (.node p1 l1 .nil))).2.2.2))), (990, .sat (gP 0 (some r))), (10, .sat (rC 0 r (3, 0, Tm.errName) (.node (2, 0, (⟨#[105, 110, 115, 116, 97, 110, 116, 105, 97, 116, 105, 111, 110, 95, 101, 114, 114, 111, 114]⟩)) .nil (.node Tm.emptyA .nil .nil))))] w0 a w)
    (hQ : ∀ a' w', Hold 105 [(2, .sat (nP 0 (some r) p0 l0)), (3, .sat (nP 0 (some r) p1 l1)), (4, .val (.bool false)), (8, .sat (nP 0 (some r) (((Bl.ind (3, 0, ⟨#[47]⟩) (.node p0 l0 (.node p1 l1 .nil))).2.2.1).1) (((Bl.ind (3, 0, ⟨#[47]⟩) (.node p0 l0 (.node p1 l1 .nil))).2.2.1).2))), (6, .val (.string (Bl.ind (3, 0, ⟨#[47]⟩) (.node p0 l0 (.node p1 l1 .nil))).1)), (7, .val (.int .i64 (Bl.ind (3, 0, ⟨#[47]⟩) (.node p0 l0 (.node p1 l1 .nil))).2.1)), (9, .val (.bool ((Bl.ind (3, 0, ⟨#[47]⟩) (.node p0 l0 (.node p1 l1 .nil))).2.2.2))), (990, .sat (gP 0 (some r))), (10, .sat (rC 0 r (3, 0, Tm.errName) (.node (2, 0, (⟨#[105, 110, 115, 116, 97, 110, 116, 105, 97, 116, 105, 111, 110, 95, 101, 114, 114, 111, 114]⟩)) .nil (.node Tm.emptyA .nil .nil)))), (70, .val (.bool false))] w0 a' w' → Q .normal a' w') : (Code.region 12 lInd12Ops false).wp Try.prog Q a w := by
  refine region_seq (w0 := w) 4 (by kernel_rfl) ?_
  rw [show List.range 4 = [0, 1, 2, 3] from rfl]
  refine env_one (i := 0) (d := 71) (k := .ptrI (p1.2.1)) (step_field1 (by kernel_rfl) (Opd.ofP (Opd.of_base 3 rfl)) rfl) (by kernel_rfl) (by decide) h ?_
  clear h
  intro a w h
  refine env_one (i := 1) (d := 72) (k := .val (.int .i64 (p1.2.1))) (step_load_int (by kernel_rfl) (Opd.of_base 71 rfl) rfl) (by kernel_rfl) (by decide) h ?_
  clear h
  intro a w h
  refine env_one (i := 2) (d := 73) (k := .val (.bool false)) (step_lt_int64 (m := (p1.2.1)) (n := 0) (by kernel_rfl) (Opd.of_base 72 rfl) (Opd.const _) (decide_eq_false h5) rfl) (by kernel_rfl) (by decide) h ?_
  clear h
  intro a w h
  refine env_one (i := 3) (d := 70) (k := .val (.bool false)) (step_assign (by kernel_rfl) (Opd.of_base 73 rfl) rfl) (by kernel_rfl) (by decide) h ?_
  clear h
  intro a w h
  exact hQ a w (h.keep [2, 3, 4, 8, 6, 7, 9, 990, 10, 70])
theorem lInd14a_region {Q : Exit → Act → World → Prop} (p0 : Pay) (l0 : Fo) (p1 : Pay) (l1 : Fo) (r : Nat) (h6 : 8 < p1.2.1) {w0 : World} {a : Act} {w : World} (hr : w0.heap.size ≤ r) (h : Hold 105 [(2, .sat (nP 0 (some r) p0 l0)), (3, .sat (nP 0 (some r) p1 l1)), (4, .val (.bool false)), (8, .sat (nP 0 (some r) (((Bl.ind (3, 0, ⟨#[47]⟩) (.node p0 l0 (.node p1 l1 .nil))).2.2.1).1) (((Bl.ind (3, 0, ⟨#[47]⟩) (.node p0 l0 (.node p1 l1 .nil))).2.2.1).2))), (6, .val (.string (Bl.ind (3, 0, ⟨#[47]⟩) (.node p0 l0 (.node p1 l1 .nil))).1)), (7, .val (.int .i64 (Bl.ind (3, 0, ⟨#[47]⟩) (.node p0 l0 (.node p1 l1 .nil))).2.1)), (9, .val (.bool ((Bl.ind (3, 0, ⟨#[47]⟩) (.node p0 l0 (.node p1 l1 .nil))).2.2.2))), (990, .sat (gP 0 (some r))), (10, .sat (rC 0 r (3, 0, Tm.errName) (.node (2, 0, (⟨#[105, 110, 115, 116, 97, 110, 116, 105, 97, 116, 105, 111, 110, 95, 101, 114, 114, 111, 114]⟩)) .nil (.node Tm.emptyA .nil .nil))))] w0 a w)
    (hQ : ∀ a' w', Hold 105 [(2, .sat (nP 0 (some r) p0 l0)), (3, .sat (nP 0 (some r) p1 l1)), (4, .val (.bool false)), (8, .sat (nP 0 (some r) (((Bl.ind (3, 0, ⟨#[47]⟩) (.node p0 l0 (.node p1 l1 .nil))).2.2.1).1) (((Bl.ind (3, 0, ⟨#[47]⟩) (.node p0 l0 (.node p1 l1 .nil))).2.2.1).2))), (6, .val (.string (Bl.ind (3, 0, ⟨#[47]⟩) (.node p0 l0 (.node p1 l1 .nil))).1)), (7, .val (.int .i64 (Bl.ind (3, 0, ⟨#[47]⟩) (.node p0 l0 (.node p1 l1 .nil))).2.1)), (9, .val (.bool ((Bl.ind (3, 0, ⟨#[47]⟩) (.node p0 l0 (.node p1 l1 .nil))).2.2.2))), (990, .sat (gP 0 (some r))), (10, .sat (rC 0 r (3, 0, Tm.errName) (.node (2, 0, (⟨#[105, 110, 115, 116, 97, 110, 116, 105, 97, 116, 105, 111, 110, 95, 101, 114, 114, 111, 114]⟩)) .nil (.node Tm.emptyA .nil .nil)))), (79, .val (.bool true))] w0 a' w' → Q .normal a' w') : (Code.region 14 lInd14Ops false).wp Try.prog Q a w := by
  refine region_seq (w0 := w) 4 (by kernel_rfl) ?_
  rw [show List.range 4 = [0, 1, 2, 3] from rfl]
  refine env_one (i := 0) (d := 80) (k := .ptrI (p1.2.1)) (step_field1 (by kernel_rfl) (Opd.ofP (Opd.of_base 3 rfl)) rfl) (by kernel_rfl) (by decide) h ?_
  clear h
  intro a w h
  refine env_one (i := 1) (d := 81) (k := .val (.int .i64 (p1.2.1))) (step_load_int (by kernel_rfl) (Opd.of_base 80 rfl) rfl) (by kernel_rfl) (by decide) h ?_
  clear h
  intro a w h
  refine env_one (i := 2) (d := 82) (k := .val (.bool true)) (step_gt_int64 (m := (p1.2.1)) (n := 8) (by kernel_rfl) (Opd.of_base 81 rfl) (Opd.const _) (decide_eq_true h6) rfl) (by kernel_rfl) (by decide) h ?_
  clear h
  intro a w h
  refine env_one (i := 3) (d := 79) (k := .val (.bool true)) (step_assign (by kernel_rfl) (Opd.of_base 82 rfl) rfl) (by kernel_rfl) (by decide) h ?_
  clear h
  intro a w h
  exact hQ a w (h.keep [2, 3, 4, 8, 6, 7, 9, 990, 10, 79])
theorem lInd15a_region {Q : Exit → Act → World → Prop} (p0 : Pay) (l0 : Fo) (p1 : Pay) (l1 : Fo) (r : Nat)  {w0 : World} {a : Act} {w : World} (hr : w0.heap.size ≤ r) (h : Hold 105 [(4, .val (.bool false)), (8, .sat (nP 0 (some r) (((Bl.ind (3, 0, ⟨#[47]⟩) (.node p0 l0 (.node p1 l1 .nil))).2.2.1).1) (((Bl.ind (3, 0, ⟨#[47]⟩) (.node p0 l0 (.node p1 l1 .nil))).2.2.1).2))), (6, .val (.string (Bl.ind (3, 0, ⟨#[47]⟩) (.node p0 l0 (.node p1 l1 .nil))).1)), (7, .val (.int .i64 (Bl.ind (3, 0, ⟨#[47]⟩) (.node p0 l0 (.node p1 l1 .nil))).2.1)), (9, .val (.bool ((Bl.ind (3, 0, ⟨#[47]⟩) (.node p0 l0 (.node p1 l1 .nil))).2.2.2))), (990, .sat (gP 0 (some r))), (10, .sat (rC 0 r (3, 0, Tm.errName) (.node (2, 0, (⟨#[105, 110, 115, 116, 97, 110, 116, 105, 97, 116, 105, 111, 110, 95, 101, 114, 114, 111, 114]⟩)) .nil (.node Tm.emptyA .nil .nil))))] w0 a w)
    (hQ : ∀ a' w', Hold 105 [(4, .val (.bool false)), (8, .sat (nP 0 (some r) (((Bl.ind (3, 0, ⟨#[47]⟩) (.node p0 l0 (.node p1 l1 .nil))).2.2.1).1) (((Bl.ind (3, 0, ⟨#[47]⟩) (.node p0 l0 (.node p1 l1 .nil))).2.2.1).2))), (6, .val (.string (Bl.ind (3, 0, ⟨#[47]⟩) (.node p0 l0 (.node p1 l1 .nil))).1)), (7, .val (.int .i64 (Bl.ind (3, 0, ⟨#[47]⟩) (.node p0 l0 (.node p1 l1 .nil))).2.1)), (9, .val (.bool ((Bl.ind (3, 0, ⟨#[47]⟩) (.node p0 l0 (.node p1 l1 .nil))).2.2.2))), (990, .sat (gP 0 (some r))), (10, .sat (rC 0 r (3, 0, Tm.errName) (.node (3, 0, ⟨#[114, 101, 112, 114, 101, 115, 101, 110, 116, 97, 116, 105, 111, 110, 95, 101, 114, 114, 111, 114]⟩) (.node (2, 0, (⟨#[109, 97, 120, 95, 97, 114, 105, 116, 121]⟩)) .nil .nil) (.node Tm.emptyA .nil .nil))))] w0 a' w' → Q .normal a' w') : (Code.region 15 lInd15Ops false).wp Try.prog Q a w := by
  refine region_seq (w0 := w) 5 (by kernel_rfl) ?_
  rw [show List.range 5 = [0, 1, 2, 3, 4] from rfl]
  refine env_one (i := 0) (d := 83) (k := .sat (nT 0 (some r) (2, 0, (⟨#[109, 97, 120, 95, 97, 114, 105, 116, 121]⟩)) .nil)) (step_la (g := 990) (by kernel_rfl) (Opd.const _) (Opd.of_base 990 rfl) rfl) (by kernel_rfl) (by decide) h ?_
  clear h
  intro a w h
  refine env_one (i := 1) (d := 84) (k := .sat (nK 0 (some r) (.node (2, 0, (⟨#[109, 97, 120, 95, 97, 114, 105, 116, 121]⟩)) .nil .nil))) (step_nslice1 (g := 990) (by kernel_rfl) (Opd.of_base 83 rfl) (Opd.of_base 990 rfl) rfl) (by kernel_rfl) (by decide) h ?_
  clear h
  intro a w h
  refine env_one (i := 2) (d := 85) (k := .sat (nT 0 (some r) (3, 0, ⟨#[114, 101, 112, 114, 101, 115, 101, 110, 116, 97, 116, 105, 111, 110, 95, 101, 114, 114, 111, 114]⟩) (.node (2, 0, (⟨#[109, 97, 120, 95, 97, 114, 105, 116, 121]⟩)) .nil .nil))) (step_lf (by kernel_rfl) (Opd.const _) (Opd.ofK (Opd.of_base 84 rfl)) rfl) (by kernel_rfl) (by decide) h ?_
  clear h
  intro a w h
  refine env_one (i := 3) (d := 86) (k := .sat (nT 0 (some r) (3, 0, Tm.errName) (.node (3, 0, ⟨#[114, 101, 112, 114, 101, 115, 101, 110, 116, 97, 116, 105, 111, 110, 95, 101, 114, 114, 111, 114]⟩) (.node (2, 0, (⟨#[109, 97, 120, 95, 97, 114, 105, 116, 121]⟩)) .nil .nil) (.node Tm.emptyA .nil .nil)))) (step_lerrN (g := 990) (by kernel_rfl) (Opd.of_base 85 rfl) (Opd.of_base 990 rfl) rfl) (by kernel_rfl) (by decide) h ?_
  clear h
  intro a w h
  refine env_store (i := 4) (x := 10) (y := 86) (r := r) [(4, .val (.bool false)), (8, .sat (nP 0 (some r) (((Bl.ind (3, 0, ⟨#[47]⟩) (.node p0 l0 (.node p1 l1 .nil))).2.2.1).1) (((Bl.ind (3, 0, ⟨#[47]⟩) (.node p0 l0 (.node p1 l1 .nil))).2.2.1).2))), (6, .val (.string (Bl.ind (3, 0, ⟨#[47]⟩) (.node p0 l0 (.node p1 l1 .nil))).1)), (7, .val (.int .i64 (Bl.ind (3, 0, ⟨#[47]⟩) (.node p0 l0 (.node p1 l1 .nil))).2.1)), (9, .val (.bool ((Bl.ind (3, 0, ⟨#[47]⟩) (.node p0 l0 (.node p1 l1 .nil))).2.2.2))), (990, .sat (gP 0 (some r))), (83, .sat (nT 0 (some r) (2, 0, (⟨#[109, 97, 120, 95, 97, 114, 105, 116, 121]⟩)) .nil)), (84, .sat (nK 0 (some r) (.node (2, 0, (⟨#[109, 97, 120, 95, 97, 114, 105, 116, 121]⟩)) .nil .nil))), (85, .sat (nT 0 (some r) (3, 0, ⟨#[114, 101, 112, 114, 101, 115, 101, 110, 116, 97, 116, 105, 111, 110, 95, 101, 114, 114, 111, 114]⟩) (.node (2, 0, (⟨#[109, 97, 120, 95, 97, 114, 105, 116, 121]⟩)) .nil .nil))), (86, .sat (nT 0 (some r) (3, 0, Tm.errName) (.node (3, 0, ⟨#[114, 101, 112, 114, 101, 115, 101, 110, 116, 97, 116, 105, 111, 110, 95, 101, 114, 114, 111, 114]⟩) (.node (2, 0, (⟨#[109, 97, 120, 95, 97, 114, 105, 116, 121]⟩)) .nil .nil) (.node Tm.emptyA .nil .nil))))] (by kernel_rfl) rfl rfl hr (stays_cons 4 rfl (away_val _ _) (stays_cons 8 rfl (away_nP _ _ _ _) (stays_cons 6 rfl (away_val _ _) (stays_cons 7 rfl (away_val _ _) (stays_cons 9 rfl (away_val _ _) (stays_cons 990 rfl (away_gP _ _ _) (stays_cons 83 rfl (away_nT _ _ _ _) (stays_cons 84 rfl (away_nK _ _ _) (stays_cons 85 rfl (away_nT _ _ _ _) (stays_cons 86 rfl (away_nT _ _ _ _) (stays_nil _ _))))))))))) h ?_
  clear h
  intro a w h
  exact hQ a w (h.keep [4, 8, 6, 7, 9, 990, 10])
theorem lInd16c_region {Q : Exit → Act → World → Prop} (p0 : Pay) (l0 : Fo) (p1 : Pay) (l1 : Fo) (r : Nat) (hsm : (Tm.validB (Bl.rep ⟨#[109, 97, 120, 95, 97, 114, 105, 116, 121]⟩).1 (Bl.rep ⟨#[109, 97, 120, 95, 97, 114, 105, 116, 121]⟩).2 && Tm.sameT (Bl.rep ⟨#[109, 97, 120, 95, 97, 114, 105, 116, 121]⟩).1 (Bl.rep ⟨#[109, 97, 120, 95, 97, 114, 105, 116, 121]⟩).2 (3, 0, Tm.errName) (.node (3, 0, ⟨#[114, 101, 112, 114, 101, 115, 101, 110, 116, 97, 116, 105, 111, 110, 95, 101, 114, 114, 111, 114]⟩) (.node (2, 0, (⟨#[109, 97, 120, 95, 97, 114, 105, 116, 121]⟩)) .nil .nil) (.node Tm.emptyA .nil .nil))) = true) {w0 : World} {a : Act} {w : World} (hr : w0.heap.size ≤ r) (h : Hold 105 [(4, .val (.bool false)), (8, .sat (nP 0 (some r) ((Bl.rep ⟨#[109, 97, 120, 95, 97, 114, 105, 116, 121]⟩).1) ((Bl.rep ⟨#[109, 97, 120, 95, 97, 114, 105, 116, 121]⟩).2))), (6, .val (.string ⟨#[]⟩)), (7, .val (.int .i64 0)), (9, .val (.bool false)), (990, .sat (gP 0 (some r))), (10, .sat (rC 0 r (3, 0, Tm.errName) (.node (3, 0, ⟨#[114, 101, 112, 114, 101, 115, 101, 110, 116, 97, 116, 105, 111, 110, 95, 101, 114, 114, 111, 114]⟩) (.node (2, 0, (⟨#[109, 97, 120, 95, 97, 114, 105, 116, 121]⟩)) .nil .nil) (.node Tm.emptyA .nil .nil))))] w0 a w)
    (hQ : ∀ a' w', Hold 105 [(4, .val (.bool true)), (990, .sat (gP 0 (some r)))] w0 a' w' → Q .normal a' w') : (Code.region 16 lInd16Ops false).wp Try.prog Q a w := by
  refine region_seq (w0 := w) 19 (by kernel_rfl) ?_
  rw [show List.range 19 = [0, 1, 2, 3, 4, 5, 6, 7, 8, 9, 10, 11, 12, 13, 14, 15, 16, 17, 18] from rfl]
  refine env_one (i := 0) (d := 87) (k := .val (.bool false)) (step_move (by kernel_rfl) (Opd.of_base 9 rfl) rfl) (by kernel_rfl) (by decide) h ?_
  clear h
  intro a w h
  refine env_one (i := 1) (d := 88) (k := .val (.bool true)) (step_not (by kernel_rfl) (Opd.of_base 87 rfl) rfl) (by kernel_rfl) (by decide) h ?_
  clear h
  intro a w h
  refine env_one (i := 2) (d := 89) (k := .val (.bool true)) (step_move (by kernel_rfl) (Opd.of_base 88 rfl) rfl) (by kernel_rfl) (by decide) h ?_
  clear h
  intro a w h
  refine env_guard (i := 3) (d := 90) (g := 2) (dg := 89) (b := true) (k := .val (.string ⟨#[]⟩)) (step_move (by kernel_rfl) (Opd.of_base 6 rfl) rfl) (by kernel_rfl) (by decide) (by kernel_rfl) (by decide) rfl h ?_
  clear h
  intro a w h
  refine env_guard (i := 4) (d := 91) (g := 2) (dg := 89) (b := true) (k := .val (.bool true)) (step_eqb_str (s := ⟨#[]⟩) (t := ⟨#[]⟩) (by kernel_rfl) (Opd.of_base 90 rfl) (Opd.const _) (decide_eq_true rfl) rfl) (by kernel_rfl) (by decide) (by kernel_rfl) (by decide) rfl h ?_
  clear h
  intro a w h
  refine env_one (i := 5) (d := 92) (k := .val (.bool true)) (step_pick_yes (y := .const (.bool false)) (by kernel_rfl) (Opd.of_base 89 rfl) (Opd.of_base 91 rfl) rfl) (by kernel_rfl) (by decide) h ?_
  clear h
  intro a w h
  refine env_one (i := 6) (d := 93) (k := .val (.bool true)) (step_move (by kernel_rfl) (Opd.of_base 92 rfl) rfl) (by kernel_rfl) (by decide) h ?_
  clear h
  intro a w h
  refine env_guard (i := 7) (d := 94) (g := 6) (dg := 93) (b := true) (k := .val (.int .i64 0)) (step_move (by kernel_rfl) (Opd.of_base 7 rfl) rfl) (by kernel_rfl) (by decide) (by kernel_rfl) (by decide) rfl h ?_
  clear h
  intro a w h
  refine env_guard (i := 8) (d := 95) (g := 6) (dg := 93) (b := true) (k := .val (.bool true)) (step_eqs_int (by kernel_rfl) (Opd.of_base 94 rfl) (Opd.const _) rfl) (by kernel_rfl) (by decide) (by kernel_rfl) (by decide) rfl h ?_
  clear h
  intro a w h
  refine env_one (i := 9) (d := 96) (k := .val (.bool true)) (step_pick_yes (y := .const (.bool false)) (by kernel_rfl) (Opd.of_base 93 rfl) (Opd.of_base 95 rfl) rfl) (by kernel_rfl) (by decide) h ?_
  clear h
  intro a w h
  refine env_one (i := 10) (d := 97) (k := .val (.bool true)) (step_move (by kernel_rfl) (Opd.of_base 96 rfl) rfl) (by kernel_rfl) (by decide) h ?_
  clear h
  intro a w h
  refine env_guard (i := 11) (d := 98) (g := 10) (dg := 97) (b := true) (k := .sat (nT 0 (some r) ((Bl.rep ⟨#[109, 97, 120, 95, 97, 114, 105, 116, 121]⟩).1) ((Bl.rep ⟨#[109, 97, 120, 95, 97, 114, 105, 116, 121]⟩).2))) (step_nload (by kernel_rfl) (Opd.of_base 8 rfl) rfl) (by kernel_rfl) (by decide) (by kernel_rfl) (by decide) rfl h ?_
  clear h
  intro a w h
  refine env_guard (i := 12) (d := 99) (g := 10) (dg := 97) (b := true) (k := .sat (nT 0 (some r) (3, 0, Tm.errName) (.node (3, 0, ⟨#[114, 101, 112, 114, 101, 115, 101, 110, 116, 97, 116, 105, 111, 110, 95, 101, 114, 114, 111, 114]⟩) (.node (2, 0, (⟨#[109, 97, 120, 95, 97, 114, 105, 116, 121]⟩)) .nil .nil) (.node Tm.emptyA .nil .nil)))) (step_cload (by kernel_rfl) (Opd.of_base 10 rfl) rfl) (by kernel_rfl) (by decide) (by kernel_rfl) (by decide) rfl h ?_
  clear h
  intro a w h
  refine env_guard (i := 13) (d := 100) (g := 10) (dg := 97) (b := true) (k := .val (.bool true)) (step_lsame (by kernel_rfl) (Opd.ofT (Opd.of_base 98 rfl)) (Opd.ofT (Opd.of_base 99 rfl)) (by rw [hsm]; rfl)) (by kernel_rfl) (by decide) (by kernel_rfl) (by decide) rfl h ?_
  clear h
  intro a w h
  refine env_one (i := 14) (d := 101) (k := .val (.bool true)) (step_pick_yes (y := .const (.bool false)) (by kernel_rfl) (Opd.of_base 97 rfl) (Opd.of_base 100 rfl) rfl) (by kernel_rfl) (by decide) h ?_
  clear h
  intro a w h
  refine env_one (i := 15) (d := 102) (k := .val (.bool true)) (step_move (by kernel_rfl) (Opd.of_base 101 rfl) rfl) (by kernel_rfl) (by decide) h ?_
  clear h
  intro a w h
  refine env_guard (i := 16) (d := 103) (g := 15) (dg := 102) (b := true) (k := .val (.bool true)) (step_awake (by kernel_rfl)  rfl) (by kernel_rfl) (by decide) (by kernel_rfl) (by decide) rfl h ?_
  clear h
  intro a w h
  refine env_one (i := 17) (d := 104) (k := .val (.bool true)) (step_pick_yes (y := .const (.bool false)) (by kernel_rfl) (Opd.of_base 102 rfl) (Opd.of_base 103 rfl) rfl) (by kernel_rfl) (by decide) h ?_
  clear h
  intro a w h
  refine env_one (i := 18) (d := 4) (k := .val (.bool true)) (step_assign (by kernel_rfl) (Opd.of_base 104 rfl) rfl) (by kernel_rfl) (by decide) h ?_
  clear h
  intro a w h
  exact hQ a w (h.keep [4, 990])
theorem lInd14b_region {Q : Exit → Act → World → Prop} (p0 : Pay) (l0 : Fo) (p1 : Pay) (l1 : Fo) (r : Nat) (h6 : ¬ 8 < p1.2.1) {w0 : World} {a : Act} {w : World} (hr : w0.heap.size ≤ r) (h : Hold 105 [(2, .sat (nP 0 (some r) p0 l0)), (3, .sat (nP 0 (some r) p1 l1)), (4, .val (.bool false)), (8, .sat (nP 0 (some r) (((Bl.ind (3, 0, ⟨#[47]⟩) (.node p0 l0 (.node p1 l1 .nil))).2.2.1).1) (((Bl.ind (3, 0, ⟨#[47]⟩) (.node p0 l0 (.node p1 l1 .nil))).2.2.1).2))), (6, .val (.string (Bl.ind (3, 0, ⟨#[47]⟩) (.node p0 l0 (.node p1 l1 .nil))).1)), (7, .val (.int .i64 (Bl.ind (3, 0, ⟨#[47]⟩) (.node p0 l0 (.node p1 l1 .nil))).2.1)), (9, .val (.bool ((Bl.ind (3, 0, ⟨#[47]⟩) (.node p0 l0 (.node p1 l1 .nil))).2.2.2))), (990, .sat (gP 0 (some r))), (10, .sat (rC 0 r (3, 0, Tm.errName) (.node (2, 0, (⟨#[105, 110, 115, 116, 97, 110, 116, 105, 97, 116, 105, 111, 110, 95, 101, 114, 114, 111, 114]⟩)) .nil (.node Tm.emptyA .nil .nil))))] w0 a w)
    (hQ : ∀ a' w', Hold 105 [(2, .sat (nP 0 (some r) p0 l0)), (3, .sat (nP 0 (some r) p1 l1)), (4, .val (.bool false)), (8, .sat (nP 0 (some r) (((Bl.ind (3, 0, ⟨#[47]⟩) (.node p0 l0 (.node p1 l1 .nil))).2.2.1).1) (((Bl.ind (3, 0, ⟨#[47]⟩) (.node p0 l0 (.node p1 l1 .nil))).2.2.1).2))), (6, .val (.string (Bl.ind (3, 0, ⟨#[47]⟩) (.node p0 l0 (.node p1 l1 .nil))).1)), (7, .val (.int .i64 (Bl.ind (3, 0, ⟨#[47]⟩) (.node p0 l0 (.node p1 l1 .nil))).2.1)), (9, .val (.bool ((Bl.ind (3, 0, ⟨#[47]⟩) (.node p0 l0 (.node p1 l1 .nil))).2.2.2))), (990, .sat (gP 0 (some r))), (10, .sat (rC 0 r (3, 0, Tm.errName) (.node (2, 0, (⟨#[105, 110, 115, 116, 97, 110, 116, 105, 97, 116, 105, 111, 110, 95, 101, 114, 114, 111, 114]⟩)) .nil (.node Tm.emptyA .nil .nil)))), (79, .val (.bool false))] w0 a' w' → Q .normal a' w') : (Code.region 14 lInd14Ops false).wp Try.prog Q a w := by
  refine region_seq (w0 := w) 4 (by kernel_rfl) ?_
  rw [show List.range 4 = [0, 1, 2, 3] from rfl]
  refine env_one (i := 0) (d := 80) (k := .ptrI (p1.2.1)) (step_field1 (by kernel_rfl) (Opd.ofP (Opd.of_base 3 rfl)) rfl) (by kernel_rfl) (by decide) h ?_
  clear h
  intro a w h
  refine env_one (i := 1) (d := 81) (k := .val (.int .i64 (p1.2.1))) (step_load_int (by kernel_rfl) (Opd.of_base 80 rfl) rfl) (by kernel_rfl) (by decide) h ?_
  clear h
  intro a w h
  refine env_one (i := 2) (d := 82) (k := .val (.bool false)) (step_gt_int64 (m := (p1.2.1)) (n := 8) (by kernel_rfl) (Opd.of_base 81 rfl) (Opd.const _) (decide_eq_false h6) rfl) (by kernel_rfl) (by decide) h ?_
  clear h
  intro a w h
  refine env_one (i := 3) (d := 79) (k := .val (.bool false)) (step_assign (by kernel_rfl) (Opd.of_base 82 rfl) rfl) (by kernel_rfl) (by decide) h ?_
  clear h
  intro a w h
  exact hQ a w (h.keep [2, 3, 4, 8, 6, 7, 9, 990, 10, 79])
theorem lInd6a_region {Q : Exit → Act → World → Prop} (p0 : Pay) (l0 : Fo) (p1 : Pay) (l1 : Fo) (r : Nat)  {w0 : World} {a : Act} {w : World} (hr : w0.heap.size ≤ r) (h : Hold 105 [(2, .sat (nP 0 (some r) p0 l0)), (3, .sat (nP 0 (some r) p1 l1)), (4, .val (.bool false)), (8, .sat (nP 0 (some r) zp .nil)), (6, .val (.string p0.2.2)), (7, .val (.int .i64 p1.2.1)), (9, .val (.bool true)), (990, .sat (gP 0 (some r))), (10, .sat (rC 0 r (3, 0, Tm.errName) (.node (2, 0, (⟨#[105, 110, 115, 116, 97, 110, 116, 105, 97, 116, 105, 111, 110, 95, 101, 114, 114, 111, 114]⟩)) .nil (.node Tm.emptyA .nil .nil))))] w0 a w)
    (hQ : ∀ a' w', Hold 105 [(4, .val (.bool true)), (8, .sat (nP 0 (some r) zp .nil)), (6, .val (.string p0.2.2)), (7, .val (.int .i64 p1.2.1)), (9, .val (.bool true)), (990, .sat (gP 0 (some r))), (10, .sat (rC 0 r (3, 0, Tm.errName) (.node (2, 0, (⟨#[105, 110, 115, 116, 97, 110, 116, 105, 97, 116, 105, 111, 110, 95, 101, 114, 114, 111, 114]⟩)) .nil (.node Tm.emptyA .nil .nil))))] w0 a' w' → Q .normal a' w') : (Code.region 6 lInd6Ops false).wp Try.prog Q a w := by
  refine region_seq (w0 := w) 22 (by kernel_rfl) ?_
  rw [show List.range 22 = [0, 1, 2, 3, 4, 5, 6, 7, 8, 9, 10, 11, 12, 13, 14, 15, 16, 17, 18, 19, 20, 21] from rfl]
  refine env_one (i := 0) (d := 28) (k := .val (.bool true)) (step_move (by kernel_rfl) (Opd.of_base 9 rfl) rfl) (by kernel_rfl) (by decide) h ?_
  clear h
  intro a w h
  refine env_one (i := 1) (d := 29) (k := .val (.bool true)) (step_move (by kernel_rfl) (Opd.of_base 28 rfl) rfl) (by kernel_rfl) (by decide) h ?_
  clear h
  intro a w h
  refine env_guard (i := 2) (d := 30) (g := 1) (dg := 29) (b := true) (k := .val (.string p0.2.2)) (step_move (by kernel_rfl) (Opd.of_base 6 rfl) rfl) (by kernel_rfl) (by decide) (by kernel_rfl) (by decide) rfl h ?_
  clear h
  intro a w h
  refine env_guard (i := 3) (d := 31) (g := 1) (dg := 29) (b := true) (k := .ptrS (p0.2.2)) (step_field2 (by kernel_rfl) (Opd.ofP (Opd.of_base 2 rfl)) rfl) (by kernel_rfl) (by decide) (by kernel_rfl) (by decide) rfl h ?_
  clear h
  intro a w h
  refine env_guard (i := 4) (d := 32) (g := 1) (dg := 29) (b := true) (k := .val (.string (p0.2.2))) (step_load_string (by kernel_rfl) (Opd.of_base 31 rfl) rfl) (by kernel_rfl) (by decide) (by kernel_rfl) (by decide) rfl h ?_
  clear h
  intro a w h
  refine env_guard (i := 5) (d := 33) (g := 1) (dg := 29) (b := true) (k := .val (.bool true)) (step_eqb_str (s := p0.2.2) (t := (p0.2.2)) (by kernel_rfl) (Opd.of_base 30 rfl) (Opd.of_base 32 rfl) (decide_eq_true rfl) rfl) (by kernel_rfl) (by decide) (by kernel_rfl) (by decide) rfl h ?_
  clear h
  intro a w h
  refine env_one (i := 6) (d := 34) (k := .val (.bool true)) (step_pick_yes (y := .const (.bool false)) (by kernel_rfl) (Opd.of_base 29 rfl) (Opd.of_base 33 rfl) rfl) (by kernel_rfl) (by decide) h ?_
  clear h
  intro a w h
  refine env_one (i := 7) (d := 35) (k := .val (.bool true)) (step_move (by kernel_rfl) (Opd.of_base 34 rfl) rfl) (by kernel_rfl) (by decide) h ?_
  clear h
  intro a w h
  refine env_guard (i := 8) (d := 36) (g := 7) (dg := 35) (b := true) (k := .val (.int .i64 p1.2.1)) (step_move (by kernel_rfl) (Opd.of_base 7 rfl) rfl) (by kernel_rfl) (by decide) (by kernel_rfl) (by decide) rfl h ?_
  clear h
  intro a w h
  refine env_guard (i := 9) (d := 37) (g := 7) (dg := 35) (b := true) (k := .ptrI (p1.2.1)) (step_field1 (by kernel_rfl) (Opd.ofP (Opd.of_base 3 rfl)) rfl) (by kernel_rfl) (by decide) (by kernel_rfl) (by decide) rfl h ?_
  clear h
  intro a w h
  refine env_guard (i := 10) (d := 38) (g := 7) (dg := 35) (b := true) (k := .val (.int .i64 (p1.2.1))) (step_load_int (by kernel_rfl) (Opd.of_base 37 rfl) rfl) (by kernel_rfl) (by decide) (by kernel_rfl) (by decide) rfl h ?_
  clear h
  intro a w h
  refine env_guard (i := 11) (d := 39) (g := 7) (dg := 35) (b := true) (k := .val (.bool true)) (step_eqb_int64 (m := p1.2.1) (n := (p1.2.1)) (by kernel_rfl) (Opd.of_base 36 rfl) (Opd.of_base 38 rfl) (by simp) rfl) (by kernel_rfl) (by decide) (by kernel_rfl) (by decide) rfl h ?_
  clear h
  intro a w h
  refine env_one (i := 12) (d := 40) (k := .val (.bool true)) (step_pick_yes (y := .const (.bool false)) (by kernel_rfl) (Opd.of_base 35 rfl) (Opd.of_base 39 rfl) rfl) (by kernel_rfl) (by decide) h ?_
  clear h
  intro a w h
  refine env_one (i := 13) (d := 41) (k := .val (.bool true)) (step_move (by kernel_rfl) (Opd.of_base 40 rfl) rfl) (by kernel_rfl) (by decide) h ?_
  clear h
  intro a w h
  refine env_guard (i := 14) (d := 42) (g := 13) (dg := 41) (b := true) (k := .sat (nT 0 (some r) zp .nil)) (step_nload (by kernel_rfl) (Opd.of_base 8 rfl) rfl) (by kernel_rfl) (by decide) (by kernel_rfl) (by decide) rfl h ?_
  clear h
  intro a w h
  refine env_guard (i := 15) (d := 43) (g := 13) (dg := 41) (b := true) (k := .sat (nT 0 (some r) zp .nil)) (step_nzero (by kernel_rfl) rfl) (by kernel_rfl) (by decide) (by kernel_rfl) (by decide) rfl h ?_
  clear h
  intro a w h
  refine env_guard (i := 16) (d := 44) (g := 13) (dg := 41) (b := true) (k := .val (.bool true)) (step_lsame (by kernel_rfl) (Opd.ofT (Opd.of_base 42 rfl)) (Opd.ofT (Opd.of_base 43 rfl)) (by rw [same_self Bl.zt_valid]; rfl)) (by kernel_rfl) (by decide) (by kernel_rfl) (by decide) rfl h ?_
  clear h
  intro a w h
  refine env_one (i := 17) (d := 45) (k := .val (.bool true)) (step_pick_yes (y := .const (.bool false)) (by kernel_rfl) (Opd.of_base 41 rfl) (Opd.of_base 44 rfl) rfl) (by kernel_rfl) (by decide) h ?_
  clear h
  intro a w h
  refine env_one (i := 18) (d := 46) (k := .val (.bool true)) (step_move (by kernel_rfl) (Opd.of_base 45 rfl) rfl) (by kernel_rfl) (by decide) h ?_
  clear h
  intro a w h
  refine env_guard (i := 19) (d := 47) (g := 18) (dg := 46) (b := true) (k := .val (.bool true)) (step_awake (by kernel_rfl)  rfl) (by kernel_rfl) (by decide) (by kernel_rfl) (by decide) rfl h ?_
  clear h
  intro a w h
  refine env_one (i := 20) (d := 48) (k := .val (.bool true)) (step_pick_yes (y := .const (.bool false)) (by kernel_rfl) (Opd.of_base 46 rfl) (Opd.of_base 47 rfl) rfl) (by kernel_rfl) (by decide) h ?_
  clear h
  intro a w h
  refine env_one (i := 21) (d := 4) (k := .val (.bool true)) (step_assign (by kernel_rfl) (Opd.of_base 48 rfl) rfl) (by kernel_rfl) (by decide) h ?_
  clear h
  intro a w h
  exact hQ a w (h.keep [4, 8, 6, 7, 9, 990, 10])
theorem lInd10b_region {Q : Exit → Act → World → Prop} (p0 : Pay) (l0 : Fo) (p1 : Pay) (l1 : Fo) (r : Nat) (h4 : ¬ p1.1 = 1) {w0 : World} {a : Act} {w : World} (hr : w0.heap.size ≤ r) (h : Hold 105 [(2, .sat (nP 0 (some r) p0 l0)), (3, .sat (nP 0 (some r) p1 l1)), (4, .val (.bool false)), (8, .sat (nP 0 (some r) (((Bl.ind (3, 0, ⟨#[47]⟩) (.node p0 l0 (.node p1 l1 .nil))).2.2.1).1) (((Bl.ind (3, 0, ⟨#[47]⟩) (.node p0 l0 (.node p1 l1 .nil))).2.2.1).2))), (6, .val (.string (Bl.ind (3, 0, ⟨#[47]⟩) (.node p0 l0 (.node p1 l1 .nil))).1)), (7, .val (.int .i64 (Bl.ind (3, 0, ⟨#[47]⟩) (.node p0 l0 (.node p1 l1 .nil))).2.1)), (9, .val (.bool ((Bl.ind (3, 0, ⟨#[47]⟩) (.node p0 l0 (.node p1 l1 .nil))).2.2.2))), (990, .sat (gP 0 (some r))), (10, .sat (rC 0 r (3, 0, Tm.errName) (.node (2, 0, (⟨#[105, 110, 115, 116, 97, 110, 116, 105, 97, 116, 105, 111, 110, 95, 101, 114, 114, 111, 114]⟩)) .nil (.node Tm.emptyA .nil .nil))))] w0 a w)
    (hQ : ∀ a' w', Hold 105 [(2, .sat (nP 0 (some r) p0 l0)), (3, .sat (nP 0 (some r) p1 l1)), (4, .val (.bool false)), (8, .sat (nP 0 (some r) (((Bl.ind (3, 0, ⟨#[47]⟩) (.node p0 l0 (.node p1 l1 .nil))).2.2.1).1) (((Bl.ind (3, 0, ⟨#[47]⟩) (.node p0 l0 (.node p1 l1 .nil))).2.2.1).2))), (6, .val (.string (Bl.ind (3, 0, ⟨#[47]⟩) (.node p0 l0 (.node p1 l1 .nil))).1)), (7, .val (.int .i64 (Bl.ind (3, 0, ⟨#[47]⟩) (.node p0 l0 (.node p1 l1 .nil))).2.1)), (9, .val (.bool ((Bl.ind (3, 0, ⟨#[47]⟩) (.node p0 l0 (.node p1 l1 .nil))).2.2.2))), (990, .sat (gP 0 (some r))), (10, .sat (rC 0 r (3, 0, Tm.errName) (.node (2, 0, (⟨#[105, 110, 115, 116, 97, 110, 116, 105, 97, 116, 105, 111, 110, 95, 101, 114, 114, 111, 114]⟩)) .nil (.node Tm.emptyA .nil .nil)))), (64, .val (.bool true))] w0 a' w' → Q .normal a' w') : (Code.region 10 lInd10Ops false).wp Try.prog Q a w := by
  refine region_seq (w0 := w) 4 (by kernel_rfl) ?_
  rw [show List.range 4 = [0, 1, 2, 3] from rfl]
  refine env_one (i := 0) (d := 65) (k := .ptrI (p1.1)) (step_field0 (by kernel_rfl) (Opd.ofP (Opd.of_base 3 rfl)) rfl) (by kernel_rfl) (by decide) h ?_
  clear h
  intro a w h
  refine env_one (i := 1) (d := 66) (k := .val (.int .i64 (p1.1))) (step_load_int3 (by kernel_rfl) (Opd.of_base 65 rfl) rfl) (by kernel_rfl) (by decide) h ?_
  clear h
  intro a w h
  refine env_one (i := 2) (d := 67) (k := .val (.bool true)) (step_ne_int (m := (p1.1)) (n := 1) (by kernel_rfl) (Opd.of_base 66 rfl) (Opd.const _) (by simpa using h4) rfl) (by kernel_rfl) (by decide) h ?_
  clear h
  intro a w h
  refine env_one (i := 3) (d := 64) (k := .val (.bool true)) (step_assign (by kernel_rfl) (Opd.of_base 67 rfl) rfl) (by kernel_rfl) (by decide) h ?_
  clear h
  intro a w h
  exact hQ a w (h.keep [2, 3, 4, 8, 6, 7, 9, 990, 10, 64])
theorem lInd11a_region {Q : Exit → Act → World → Prop} (p0 : Pay) (l0 : Fo) (p1 : Pay) (l1 : Fo) (r : Nat)  {w0 : World} {a : Act} {w : World} (hr : w0.heap.size ≤ r) (h : Hold 105 [(3, .sat (nP 0 (some r) p1 l1)), (4, .val (.bool false)), (8, .sat (nP 0 (some r) (((Bl.ind (3, 0, ⟨#[47]⟩) (.node p0 l0 (.node p1 l1 .nil))).2.2.1).1) (((Bl.ind (3, 0, ⟨#[47]⟩) (.node p0 l0 (.node p1 l1 .nil))).2.2.1).2))), (6, .val (.string (Bl.ind (3, 0, ⟨#[47]⟩) (.node p0 l0 (.node p1 l1 .nil))).1)), (7, .val (.int .i64 (Bl.ind (3, 0, ⟨#[47]⟩) (.node p0 l0 (.node p1 l1 .nil))).2.1)), (9, .val (.bool ((Bl.ind (3, 0, ⟨#[47]⟩) (.node p0 l0 (.node p1 l1 .nil))).2.2.2))), (990, .sat (gP 0 (some r))), (10, .sat (rC 0 r (3, 0, Tm.errName) (.node (2, 0, (⟨#[105, 110, 115, 116, 97, 110, 116, 105, 97, 116, 105, 111, 110, 95, 101, 114, 114, 111, 114]⟩)) .nil (.node Tm.emptyA .nil .nil))))] w0 a w)
    (hQ : ∀ a' w', Hold 105 [(4, .val (.bool false)), (8, .sat (nP 0 (some r) (((Bl.ind (3, 0, ⟨#[47]⟩) (.node p0 l0 (.node p1 l1 .nil))).2.2.1).1) (((Bl.ind (3, 0, ⟨#[47]⟩) (.node p0 l0 (.node p1 l1 .nil))).2.2.1).2))), (6, .val (.string (Bl.ind (3, 0, ⟨#[47]⟩) (.node p0 l0 (.node p1 l1 .nil))).1)), (7, .val (.int .i64 (Bl.ind (3, 0, ⟨#[47]⟩) (.node p0 l0 (.node p1 l1 .nil))).2.1)), (9, .val (.bool ((Bl.ind (3, 0, ⟨#[47]⟩) (.node p0 l0 (.node p1 l1 .nil))).2.2.2))), (990, .sat (gP 0 (some r))), (10, .sat (rC 0 r ((Bl.ty (⟨#[105, 110, 116, 101, 103, 101, 114]⟩) p1 l1).1) ((Bl.ty (⟨#[105, 110, 116, 101, 103, 101, 114]⟩) p1 l1).2)))] w0 a' w' → Q .normal a' w') : (Code.region 11 lInd11Ops false).wp Try.prog Q a w := by
  refine region_seq (w0 := w) 3 (by kernel_rfl) ?_
  rw [show List.range 3 = [0, 1, 2] from rfl]
  refine env_one (i := 0) (d := 68) (k := .sat (nT 0 (some r) p1 l1)) (step_nload (by kernel_rfl) (Opd.of_base 3 rfl) rfl) (by kernel_rfl) (by decide) h ?_
  clear h
  intro a w h
  refine env_one (i := 1) (d := 69) (k := .sat (nT 0 (some r) ((Bl.ty (⟨#[105, 110, 116, 101, 103, 101, 114]⟩) p1 l1).1) ((Bl.ty (⟨#[105, 110, 116, 101, 103, 101, 114]⟩) p1 l1).2))) (step_bTy (g := 990) (by kernel_rfl) (Opd.const _) (Opd.ofT (Opd.of_base 68 rfl)) (Opd.of_base 990 rfl) rfl) (by kernel_rfl) (by decide) h ?_
  clear h
  intro a w h
  refine env_store (i := 2) (x := 10) (y := 69) (r := r) [(3, .sat (nP 0 (some r) p1 l1)), (4, .val (.bool false)), (8, .sat (nP 0 (some r) (((Bl.ind (3, 0, ⟨#[47]⟩) (.node p0 l0 (.node p1 l1 .nil))).2.2.1).1) (((Bl.ind (3, 0, ⟨#[47]⟩) (.node p0 l0 (.node p1 l1 .nil))).2.2.1).2))), (6, .val (.string (Bl.ind (3, 0, ⟨#[47]⟩) (.node p0 l0 (.node p1 l1 .nil))).1)), (7, .val (.int .i64 (Bl.ind (3, 0, ⟨#[47]⟩) (.node p0 l0 (.node p1 l1 .nil))).2.1)), (9, .val (.bool ((Bl.ind (3, 0, ⟨#[47]⟩) (.node p0 l0 (.node p1 l1 .nil))).2.2.2))), (990, .sat (gP 0 (some r))), (68, .sat (nT 0 (some r) p1 l1)), (69, .sat (nT 0 (some r) ((Bl.ty (⟨#[105, 110, 116, 101, 103, 101, 114]⟩) p1 l1).1) ((Bl.ty (⟨#[105, 110, 116, 101, 103, 101, 114]⟩) p1 l1).2)))] (by kernel_rfl) rfl rfl hr (stays_cons 3 rfl (away_nP _ _ _ _) (stays_cons 4 rfl (away_val _ _) (stays_cons 8 rfl (away_nP _ _ _ _) (stays_cons 6 rfl (away_val _ _) (stays_cons 7 rfl (away_val _ _) (stays_cons 9 rfl (away_val _ _) (stays_cons 990 rfl (away_gP _ _ _) (stays_cons 68 rfl (away_nT _ _ _ _) (stays_cons 69 rfl (away_nT _ _ _ _) (stays_nil _ _)))))))))) h ?_
  clear h
  intro a w h
  exact hQ a w (h.keep [4, 8, 6, 7, 9, 990, 10])
theorem lInd16d_region {Q : Exit → Act → World → Prop} (p0 : Pay) (l0 : Fo) (p1 : Pay) (l1 : Fo) (r : Nat) (hsm : (Tm.validB (Bl.ty ⟨#[105, 110, 116, 101, 103, 101, 114]⟩ p1 l1).1 (Bl.ty ⟨#[105, 110, 116, 101, 103, 101, 114]⟩ p1 l1).2 && Tm.sameT (Bl.ty ⟨#[105, 110, 116, 101, 103, 101, 114]⟩ p1 l1).1 (Bl.ty ⟨#[105, 110, 116, 101, 103, 101, 114]⟩ p1 l1).2 (Bl.ty (⟨#[105, 110, 116, 101, 103, 101, 114]⟩) p1 l1).1 (Bl.ty (⟨#[105, 110, 116, 101, 103, 101, 114]⟩) p1 l1).2) = true) {w0 : World} {a : Act} {w : World} (hr : w0.heap.size ≤ r) (h : Hold 105 [(4, .val (.bool false)), (8, .sat (nP 0 (some r) ((Bl.ty ⟨#[105, 110, 116, 101, 103, 101, 114]⟩ p1 l1).1) ((Bl.ty ⟨#[105, 110, 116, 101, 103, 101, 114]⟩ p1 l1).2))), (6, .val (.string ⟨#[]⟩)), (7, .val (.int .i64 0)), (9, .val (.bool false)), (990, .sat (gP 0 (some r))), (10, .sat (rC 0 r ((Bl.ty (⟨#[105, 110, 116, 101, 103, 101, 114]⟩) p1 l1).1) ((Bl.ty (⟨#[105, 110, 116, 101, 103, 101, 114]⟩) p1 l1).2)))] w0 a w)
    (hQ : ∀ a' w', Hold 105 [(4, .val (.bool true)), (990, .sat (gP 0 (some r)))] w0 a' w' → Q .normal a' w') : (Code.region 16 lInd16Ops false).wp Try.prog Q a w := by
  refine region_seq (w0 := w) 19 (by kernel_rfl) ?_
  rw [show List.range 19 = [0, 1, 2, 3, 4, 5, 6, 7, 8, 9, 10, 11, 12, 13, 14, 15, 16, 17, 18] from rfl]
  refine env_one (i := 0) (d := 87) (k := .val (.bool false)) (step_move (by kernel_rfl) (Opd.of_base 9 rfl) rfl) (by kernel_rfl) (by decide) h ?_
  clear h
  intro a w h
  refine env_one (i := 1) (d := 88) (k := .val (.bool true)) (step_not (by kernel_rfl) (Opd.of_base 87 rfl) rfl) (by kernel_rfl) (by decide) h ?_
  clear h
  intro a w h
  refine env_one (i := 2) (d := 89) (k := .val (.bool true)) (step_move (by kernel_rfl) (Opd.of_base 88 rfl) rfl) (by kernel_rfl) (by decide) h ?_
  clear h
  intro a w h
  refine env_guard (i := 3) (d := 90) (g := 2) (dg := 89) (b := true) (k := .val (.string ⟨#[]⟩)) (step_move (by kernel_rfl) (Opd.of_base 6 rfl) rfl) (by kernel_rfl) (by decide) (by kernel_rfl) (by decide) rfl h ?_
  clear h
  intro a w h
  refine env_guard (i := 4) (d := 91) (g := 2) (dg := 89) (b := true) (k := .val (.bool true)) (step_eqb_str (s := ⟨#[]⟩) (t := ⟨#[]⟩) (by kernel_rfl) (Opd.of_base 90 rfl) (Opd.const _) (decide_eq_true rfl) rfl) (by kernel_rfl) (by decide) (by kernel_rfl) (by decide) rfl h ?_
  clear h
  intro a w h
  refine env_one (i := 5) (d := 92) (k := .val (.bool true)) (step_pick_yes (y := .const (.bool false)) (by kernel_rfl) (Opd.of_base 89 rfl) (Opd.of_base 91 rfl) rfl) (by kernel_rfl) (by decide) h ?_
  clear h
  intro a w h
  refine env_one (i := 6) (d := 93) (k := .val (.bool true)) (step_move (by kernel_rfl) (Opd.of_base 92 rfl) rfl) (by kernel_rfl) (by decide) h ?_
  clear h
  intro a w h
  refine env_guard (i := 7) (d := 94) (g := 6) (dg := 93) (b := true) (k := .val (.int .i64 0)) (step_move (by kernel_rfl) (Opd.of_base 7 rfl) rfl) (by kernel_rfl) (by decide) (by kernel_rfl) (by decide) rfl h ?_
  clear h
  intro a w h
  refine env_guard (i := 8) (d := 95) (g := 6) (dg := 93) (b := true) (k := .val (.bool true)) (step_eqs_int (by kernel_rfl) (Opd.of_base 94 rfl) (Opd.const _) rfl) (by kernel_rfl) (by decide) (by kernel_rfl) (by decide) rfl h ?_
  clear h
  intro a w h
  refine env_one (i := 9) (d := 96) (k := .val (.bool true)) (step_pick_yes (y := .const (.bool false)) (by kernel_rfl) (Opd.of_base 93 rfl) (Opd.of_base 95 rfl) rfl) (by kernel_rfl) (by decide) h ?_
  clear h
  intro a w h
  refine env_one (i := 10) (d := 97) (k := .val (.bool true)) (step_move (by kernel_rfl) (Opd.of_base 96 rfl) rfl) (by kernel_rfl) (by decide) h ?_
  clear h
  intro a w h
  refine env_guard (i := 11) (d := 98) (g := 10) (dg := 97) (b := true) (k := .sat (nT 0 (some r) ((Bl.ty ⟨#[105, 110, 116, 101, 103, 101, 114]⟩ p1 l1).1) ((Bl.ty ⟨#[105, 110, 116, 101, 103, 101, 114]⟩ p1 l1).2))) (step_nload (by kernel_rfl) (Opd.of_base 8 rfl) rfl) (by kernel_rfl) (by decide) (by kernel_rfl) (by decide) rfl h ?_
  clear h
  intro a w h
  refine env_guard (i := 12) (d := 99) (g := 10) (dg := 97) (b := true) (k := .sat (nT 0 (some r) ((Bl.ty (⟨#[105, 110, 116, 101, 103, 101, 114]⟩) p1 l1).1) ((Bl.ty (⟨#[105, 110, 116, 101, 103, 101, 114]⟩) p1 l1).2))) (step_cload (by kernel_rfl) (Opd.of_base 10 rfl) rfl) (by kernel_rfl) (by decide) (by kernel_rfl) (by decide) rfl h ?_
  clear h
  intro a w h
  refine env_guard (i := 13) (d := 100) (g := 10) (dg := 97) (b := true) (k := .val (.bool true)) (step_lsame (by kernel_rfl) (Opd.ofT (Opd.of_base 98 rfl)) (Opd.ofT (Opd.of_base 99 rfl)) (by rw [hsm]; rfl)) (by kernel_rfl) (by decide) (by kernel_rfl) (by decide) rfl h ?_
  clear h
  intro a w h
  refine env_one (i := 14) (d := 101) (k := .val (.bool true)) (step_pick_yes (y := .const (.bool false)) (by kernel_rfl) (Opd.of_base 97 rfl) (Opd.of_base 100 rfl) rfl) (by kernel_rfl) (by decide) h ?_
  clear h
  intro a w h
  refine env_one (i := 15) (d := 102) (k := .val (.bool true)) (step_move (by kernel_rfl) (Opd.of_base 101 rfl) rfl) (by kernel_rfl) (by decide) h ?_
  clear h
  intro a w h
  refine env_guard (i := 16) (d := 103) (g := 15) (dg := 102) (b := true) (k := .val (.bool true)) (step_awake (by kernel_rfl)  rfl) (by kernel_rfl) (by decide) (by kernel_rfl) (by decide) rfl h ?_
  clear h
  intro a w h
  refine env_one (i := 17) (d := 104) (k := .val (.bool true)) (step_pick_yes (y := .const (.bool false)) (by kernel_rfl) (Opd.of_base 102 rfl) (Opd.of_base 103 rfl) rfl) (by kernel_rfl) (by decide) h ?_
  clear h
  intro a w h
  refine env_one (i := 18) (d := 4) (k := .val (.bool true)) (step_assign (by kernel_rfl) (Opd.of_base 104 rfl) rfl) (by kernel_rfl) (by decide) h ?_
  clear h
  intro a w h
  exact hQ a w (h.keep [4, 990])
theorem lInd8b_region {Q : Exit → Act → World → Prop} (p0 : Pay) (l0 : Fo) (p1 : Pay) (l1 : Fo) (r : Nat) (h3 : ¬ p0.1 = 2) {w0 : World} {a : Act} {w : World} (hr : w0.heap.size ≤ r) (h : Hold 105 [(2, .sat (nP 0 (some r) p0 l0)), (3, .sat (nP 0 (some r) p1 l1)), (4, .val (.bool false)), (8, .sat (nP 0 (some r) (((Bl.ind (3, 0, ⟨#[47]⟩) (.node p0 l0 (.node p1 l1 .nil))).2.2.1).1) (((Bl.ind (3, 0, ⟨#[47]⟩) (.node p0 l0 (.node p1 l1 .nil))).2.2.1).2))), (6, .val (.string (Bl.ind (3, 0, ⟨#[47]⟩) (.node p0 l0 (.node p1 l1 .nil))).1)), (7, .val (.int .i64 (Bl.ind (3, 0, ⟨#[47]⟩) (.node p0 l0 (.node p1 l1 .nil))).2.1)), (9, .val (.bool ((Bl.ind (3, 0, ⟨#[47]⟩) (.node p0 l0 (.node p1 l1 .nil))).2.2.2))), (990, .sat (gP 0 (some r))), (10, .sat (rC 0 r (3, 0, Tm.errName) (.node (2, 0, (⟨#[105, 110, 115, 116, 97, 110, 116, 105, 97, 116, 105, 111, 110, 95, 101, 114, 114, 111, 114]⟩)) .nil (.node Tm.emptyA .nil .nil))))] w0 a w)
    (hQ : ∀ a' w', Hold 105 [(2, .sat (nP 0 (some r) p0 l0)), (3, .sat (nP 0 (some r) p1 l1)), (4, .val (.bool false)), (8, .sat (nP 0 (some r) (((Bl.ind (3, 0, ⟨#[47]⟩) (.node p0 l0 (.node p1 l1 .nil))).2.2.1).1) (((Bl.ind (3, 0, ⟨#[47]⟩) (.node p0 l0 (.node p1 l1 .nil))).2.2.1).2))), (6, .val (.string (Bl.ind (3, 0, ⟨#[47]⟩) (.node p0 l0 (.node p1 l1 .nil))).1)), (7, .val (.int .i64 (Bl.ind (3, 0, ⟨#[47]⟩) (.node p0 l0 (.node p1 l1 .nil))).2.1)), (9, .val (.bool ((Bl.ind (3, 0, ⟨#[47]⟩) (.node p0 l0 (.node p1 l1 .nil))).2.2.2))), (990, .sat (gP 0 (some r))), (10, .sat (rC 0 r (3, 0, Tm.errName) (.node (2, 0, (⟨#[105, 110, 115, 116, 97, 110, 116, 105, 97, 116, 105, 111, 110, 95, 101, 114, 114, 111, 114]⟩)) .nil (.node Tm.emptyA .nil .nil)))), (58, .val (.bool true))] w0 a' w' → Q .normal a' w') : (Code.region 8 lInd8Ops false).wp Try.prog Q a w := by
  refine region_seq (w0 := w) 4 (by kernel_rfl) ?_
  rw [show List.range 4 = [0, 1, 2, 3] from rfl]
  refine env_one (i := 0) (d := 59) (k := .ptrI (p0.1)) (step_field0 (by kernel_rfl) (Opd.ofP (Opd.of_base 2 rfl)) rfl) (by kernel_rfl) (by decide) h ?_
  clear h
  intro a w h
  refine env_one (i := 1) (d := 60) (k := .val (.int .i64 (p0.1))) (step_load_int3 (by kernel_rfl) (Opd.of_base 59 rfl) rfl) (by kernel_rfl) (by decide) h ?_
  clear h
  intro a w h
  refine env_one (i := 2) (d := 61) (k := .val (.bool true)) (step_ne_int (m := (p0.1)) (n := 2) (by kernel_rfl) (Opd.of_base 60 rfl) (Opd.const _) (by simpa using h3) rfl) (by kernel_rfl) (by decide) h ?_
  clear h
  intro a w h
  refine env_one (i := 3) (d := 58) (k := .val (.bool true)) (step_assign (by kernel_rfl) (Opd.of_base 61 rfl) rfl) (by kernel_rfl) (by decide) h ?_
  clear h
  intro a w h
  exact hQ a w (h.keep [2, 3, 4, 8, 6, 7, 9, 990, 10, 58])
theorem lInd9a_region {Q : Exit → Act → World → Prop} (p0 : Pay) (l0 : Fo) (p1 : Pay) (l1 : Fo) (r : Nat)  {w0 : World} {a : Act} {w : World} (hr : w0.heap.size ≤ r) (h : Hold 105 [(2, .sat (nP 0 (some r) p0 l0)), (4, .val (.bool false)), (8, .sat (nP 0 (some r) (((Bl.ind (3, 0, ⟨#[47]⟩) (.node p0 l0 (.node p1 l1 .nil))).2.2.1).1) (((Bl.ind (3, 0, ⟨#[47]⟩) (.node p0 l0 (.node p1 l1 .nil))).2.2.1).2))), (6, .val (.string (Bl.ind (3, 0, ⟨#[47]⟩) (.node p0 l0 (.node p1 l1 .nil))).1)), (7, .val (.int .i64 (Bl.ind (3, 0, ⟨#[47]⟩) (.node p0 l0 (.node p1 l1 .nil))).2.1)), (9, .val (.bool ((Bl.ind (3, 0, ⟨#[47]⟩) (.node p0 l0 (.node p1 l1 .nil))).2.2.2))), (990, .sat (gP 0 (some r))), (10, .sat (rC 0 r (3, 0, Tm.errName) (.node (2, 0, (⟨#[105, 110, 115, 116, 97, 110, 116, 105, 97, 116, 105, 111, 110, 95, 101, 114, 114, 111, 114]⟩)) .nil (.node Tm.emptyA .nil .nil))))] w0 a w)
    (hQ : ∀ a' w', Hold 105 [(4, .val (.bool false)), (8, .sat (nP 0 (some r) (((Bl.ind (3, 0, ⟨#[47]⟩) (.node p0 l0 (.node p1 l1 .nil))).2.2.1).1) (((Bl.ind (3, 0, ⟨#[47]⟩) (.node p0 l0 (.node p1 l1 .nil))).2.2.1).2))), (6, .val (.string (Bl.ind (3, 0, ⟨#[47]⟩) (.node p0 l0 (.node p1 l1 .nil))).1)), (7, .val (.int .i64 (Bl.ind (3, 0, ⟨#[47]⟩) (.node p0 l0 (.node p1 l1 .nil))).2.1)), (9, .val (.bool ((Bl.ind (3, 0, ⟨#[47]⟩) (.node p0 l0 (.node p1 l1 .nil))).2.2.2))), (990, .sat (gP 0 (some r))), (10, .sat (rC 0 r ((Bl.ty (⟨#[97, 116, 111, 109]⟩) p0 l0).1) ((Bl.ty (⟨#[97, 116, 111, 109]⟩) p0 l0).2)))] w0 a' w' → Q .normal a' w') : (Code.region 9 lInd9Ops false).wp Try.prog Q a w := by
  refine region_seq (w0 := w) 3 (by kernel_rfl) ?_
  rw [show List.range 3 = [0, 1, 2] from rfl]
  refine env_one (i := 0) (d := 62) (k := .sat (nT 0 (some r) p0 l0)) (step_nload (by kernel_rfl) (Opd.of_base 2 rfl) rfl) (by kernel_rfl) (by decide) h ?_
  clear h
  intro a w h
  refine env_one (i := 1) (d := 63) (k := .sat (nT 0 (some r) ((Bl.ty (⟨#[97, 116, 111, 109]⟩) p0 l0).1) ((Bl.ty (⟨#[97, 116, 111, 109]⟩) p0 l0).2))) (step_bTy (g := 990) (by kernel_rfl) (Opd.const _) (Opd.ofT (Opd.of_base 62 rfl)) (Opd.of_base 990 rfl) rfl) (by kernel_rfl) (by decide) h ?_
  clear h
  intro a w h
  refine env_store (i := 2) (x := 10) (y := 63) (r := r) [(2, .sat (nP 0 (some r) p0 l0)), (4, .val (.bool false)), (8, .sat (nP 0 (some r) (((Bl.ind (3, 0, ⟨#[47]⟩) (.node p0 l0 (.node p1 l1 .nil))).2.2.1).1) (((Bl.ind (3, 0, ⟨#[47]⟩) (.node p0 l0 (.node p1 l1 .nil))).2.2.1).2))), (6, .val (.string (Bl.ind (3, 0, ⟨#[47]⟩) (.node p0 l0 (.node p1 l1 .nil))).1)), (7, .val (.int .i64 (Bl.ind (3, 0, ⟨#[47]⟩) (.node p0 l0 (.node p1 l1 .nil))).2.1)), (9, .val (.bool ((Bl.ind (3, 0, ⟨#[47]⟩) (.node p0 l0 (.node p1 l1 .nil))).2.2.2))), (990, .sat (gP 0 (some r))), (62, .sat (nT 0 (some r) p0 l0)), (63, .sat (nT 0 (some r) ((Bl.ty (⟨#[97, 116, 111, 109]⟩) p0 l0).1) ((Bl.ty (⟨#[97, 116, 111, 109]⟩) p0 l0).2)))] (by kernel_rfl) rfl rfl hr (stays_cons 2 rfl (away_nP _ _ _ _) (stays_cons 4 rfl (away_val _ _) (stays_cons 8 rfl (away_nP _ _ _ _) (stays_cons 6 rfl (away_val _ _) (stays_cons 7 rfl (away_val _ _) (stays_cons 9 rfl (away_val _ _) (stays_cons 990 rfl (away_gP _ _ _) (stays_cons 62 rfl (away_nT _ _ _ _) (stays_cons 63 rfl (away_nT _ _ _ _) (stays_nil _ _)))))))))) h ?_
  clear h
  intro a w h
  exact hQ a w (h.keep [4, 8, 6, 7, 9, 990, 10])
theorem lInd16e_region {Q : Exit → Act → World → Prop} (p0 : Pay) (l0 : Fo) (p1 : Pay) (l1 : Fo) (r : Nat) (hsm : (Tm.validB (Bl.ty ⟨#[97, 116, 111, 109]⟩ p0 l0).1 (Bl.ty ⟨#[97, 116, 111, 109]⟩ p0 l0).2 && Tm.sameT (Bl.ty ⟨#[97, 116, 111, 109]⟩ p0 l0).1 (Bl.ty ⟨#[97, 116, 111, 109]⟩ p0 l0).2 (Bl.ty (⟨#[97, 116, 111, 109]⟩) p0 l0).1 (Bl.ty (⟨#[97, 116, 111, 109]⟩) p0 l0).2) = true) {w0 : World} {a : Act} {w : World} (hr : w0.heap.size ≤ r) (h : Hold 105 [(4, .val (.bool false)), (8, .sat (nP 0 (some r) ((Bl.ty ⟨#[97, 116, 111, 109]⟩ p0 l0).1) ((Bl.ty ⟨#[97, 116, 111, 109]⟩ p0 l0).2))), (6, .val (.string ⟨#[]⟩)), (7, .val (.int .i64 0)), (9, .val (.bool false)), (990, .sat (gP 0 (some r))), (10, .sat (rC 0 r ((Bl.ty (⟨#[97, 116, 111, 109]⟩) p0 l0).1) ((Bl.ty (⟨#[97, 116, 111, 109]⟩) p0 l0).2)))] w0 a w)
    (hQ : ∀ a' w', Hold 105 [(4, .val (.bool true)), (990, .sat (gP 0 (some r)))] w0 a' w' → Q .normal a' w') : (Code.region 16 lInd16Ops false).wp Try.prog Q a w := by
  refine region_seq (w0 := w) 19 (by kernel_rfl) ?_
  rw [show List.range 19 = [0, 1, 2, 3, 4, 5, 6, 7, 8, 9, 10, 11, 12, 13, 14, 15, 16, 17, 18] from rfl]
  refine env_one (i := 0) (d := 87) (k := .val (.bool false)) (step_move (by kernel_rfl) (Opd.of_base 9 rfl) rfl) (by kernel_rfl) (by decide) h ?_
  clear h
  intro a w h
  refine env_one (i := 1) (d := 88) (k := .val (.bool true)) (step_not (by kernel_rfl) (Opd.of_base 87 rfl) rfl) (by kernel_rfl) (by decide) h ?_
  clear h
  intro a w h
  refine env_one (i := 2) (d := 89) (k := .val (.bool true)) (step_move (by kernel_rfl) (Opd.of_base 88 rfl) rfl) (by kernel_rfl) (by decide) h ?_
  clear h
  intro a w h
  refine env_guard (i := 3) (d := 90) (g := 2) (dg := 89) (b := true) (k := .val (.string ⟨#[]⟩)) (step_move (by kernel_rfl) (Opd.of_base 6 rfl) rfl) (by kernel_rfl) (by decide) (by kernel_rfl) (by decide) rfl h ?_
  clear h
  intro a w h
  refine env_guard (i := 4) (d := 91) (g := 2) (dg := 89) (b := true) (k := .val (.bool true)) (step_eqb_str (s := ⟨#[]⟩) (t := ⟨#[]⟩) (by kernel_rfl) (Opd.of_base 90 rfl) (Opd.const _) (decide_eq_true rfl) rfl) (by kernel_rfl) (by decide) (by kernel_rfl) (by decide) rfl h ?_
  clear h
  intro a w h
  refine env_one (i := 5) (d := 92) (k := .val (.bool true)) (step_pick_yes (y := .const (.bool false)) (by kernel_rfl) (Opd.of_base 89 rfl) (Opd.of_base 91 rfl) rfl) (by kernel_rfl) (by decide) h ?_
  clear h
  intro a w h
  refine env_one (i := 6) (d := 93) (k := .val (.bool true)) (step_move (by kernel_rfl) (Opd.of_base 92 rfl) rfl) (by kernel_rfl) (by decide) h ?_
  clear h
  intro a w h
  refine env_guard (i := 7) (d := 94) (g := 6) (dg := 93) (b := true) (k := .val (.int .i64 0)) (step_move (by kernel_rfl) (Opd.of_base 7 rfl) rfl) (by kernel_rfl) (by decide) (by kernel_rfl) (by decide) rfl h ?_
  clear h
  intro a w h
  refine env_guard (i := 8) (d := 95) (g := 6) (dg := 93) (b := true) (k := .val (.bool true)) (step_eqs_int (by kernel_rfl) (Opd.of_base 94 rfl) (Opd.const _) rfl) (by kernel_rfl) (by decide) (by kernel_rfl) (by decide) rfl h ?_
  clear h
  intro a w h
  refine env_one (i := 9) (d := 96) (k := .val (.bool true)) (step_pick_yes (y := .const (.bool false)) (by kernel_rfl) (Opd.of_base 93 rfl) (Opd.of_base 95 rfl) rfl) (by kernel_rfl) (by decide) h ?_
  clear h
  intro a w h
  refine env_one (i := 10) (d := 97) (k := .val (.bool true)) (step_move (by kernel_rfl) (Opd.of_base 96 rfl) rfl) (by kernel_rfl) (by decide) h ?_
  clear h
  intro a w h
  refine env_guard (i := 11) (d := 98) (g := 10) (dg := 97) (b := true) (k := .sat (nT 0 (some r) ((Bl.ty ⟨#[97, 116, 111, 109]⟩ p0 l0).1) ((Bl.ty ⟨#[97, 116, 111, 109]⟩ p0 l0).2))) (step_nload (by kernel_rfl) (Opd.of_base 8 rfl) rfl) (by kernel_rfl) (by decide) (by kernel_rfl) (by decide) rfl h ?_
  clear h
  intro a w h
  refine env_guard (i := 12) (d := 99) (g := 10) (dg := 97) (b := true) (k := .sat (nT 0 (some r) ((Bl.ty (⟨#[97, 116, 111, 109]⟩) p0 l0).1) ((Bl.ty (⟨#[97, 116, 111, 109]⟩) p0 l0).2))) (step_cload (by kernel_rfl) (Opd.of_base 10 rfl) rfl) (by kernel_rfl) (by decide) (by kernel_rfl) (by decide) rfl h ?_
  clear h
  intro a w h
  refine env_guard (i := 13) (d := 100) (g := 10) (dg := 97) (b := true) (k := .val (.bool true)) (step_lsame (by kernel_rfl) (Opd.ofT (Opd.of_base 98 rfl)) (Opd.ofT (Opd.of_base 99 rfl)) (by rw [hsm]; rfl)) (by kernel_rfl) (by decide) (by kernel_rfl) (by decide) rfl h ?_
  clear h
  intro a w h
  refine env_one (i := 14) (d := 101) (k := .val (.bool true)) (step_pick_yes (y := .const (.bool false)) (by kernel_rfl) (Opd.of_base 97 rfl) (Opd.of_base 100 rfl) rfl) (by kernel_rfl) (by decide) h ?_
  clear h
  intro a w h
  refine env_one (i := 15) (d := 102) (k := .val (.bool true)) (step_move (by kernel_rfl) (Opd.of_base 101 rfl) rfl) (by kernel_rfl) (by decide) h ?_
  clear h
  intro a w h
  refine env_guard (i := 16) (d := 103) (g := 15) (dg := 102) (b := true) (k := .val (.bool true)) (step_awake (by kernel_rfl)  rfl) (by kernel_rfl) (by decide) (by kernel_rfl) (by decide) rfl h ?_
  clear h
  intro a w h
  refine env_one (i := 17) (d := 104) (k := .val (.bool true)) (step_pick_yes (y := .const (.bool false)) (by kernel_rfl) (Opd.of_base 102 rfl) (Opd.of_base 103 rfl) rfl) (by kernel_rfl) (by decide) h ?_
  clear h
  intro a w h
  refine env_one (i := 18) (d := 4) (k := .val (.bool true)) (step_assign (by kernel_rfl) (Opd.of_base 104 rfl) rfl) (by kernel_rfl) (by decide) h ?_
  clear h
  intro a w h
  exact hQ a w (h.keep [4, 990])
theorem lInd3a_region {Q : Exit → Act → World → Prop} (p0 : Pay) (l0 : Fo) (p1 : Pay) (l1 : Fo)  {w0 : World} {a : Act} {w : World} (h : Hold 105 [(990, .sat (gP 0 none)), (2, .ptrT p0 l0), (3, .ptrT p1 l1), (4, .val (.bool false)), (5, .ptrT (3, 0, ⟨#[47]⟩) (.node p0 l0 (.node p1 l1 .nil)))] w0 a w)
    (hQ : ∀ a' w', Hold 105 [(990, .sat (gP 0 none)), (2, .ptrT p0 l0), (3, .ptrT p1 l1), (4, .val (.bool true)), (5, .ptrT (3, 0, ⟨#[47]⟩) (.node p0 l0 (.node p1 l1 .nil)))] w0 a' w' → Q .normal a' w') : (Code.region 3 lInd3Ops false).wp Try.prog Q a w := by
  refine region_seq (w0 := w) 2 (by kernel_rfl) ?_
  rw [show List.range 2 = [0, 1] from rfl]
  refine env_one (i := 0) (d := 18) (k := .val (.bool true)) (step_awake (by kernel_rfl)  rfl) (by kernel_rfl) (by decide) h ?_
  clear h
  intro a w h
  refine env_one (i := 1) (d := 4) (k := .val (.bool true)) (step_assign (by kernel_rfl) (Opd.of_base 18 rfl) rfl) (by kernel_rfl) (by decide) h ?_
  clear h
  intro a w h
  exact hQ a w (h.keep [990, 2, 3, 4, 5])
set_option maxHeartbeats 1000000 in
theorem lInd_any (p0 : Pay) (l0 : Fo) (A0 : Option Addr) (c0 : Nat) (p1 : Pay) (l1 : Fo) (A1 : Option Addr) (c1 : Nat) (B : Nat) (w : World) (hA0 : ArgsB w B A0 (Tm.len l0) l0) (hA1 : ArgsB w B A1 (Tm.len l1) l1) (hB : B ≤ w.heap.size)  : Calls Try.prog 10 #[tv p0 A0 (Tm.len l0) c0, tv p1 A1 (Tm.len l1) c1] w (fun e w' => e = .returned (.bool true) ∧ Below w.heap.size w w') := by
  refine calls_of_wp Try.func10 lInd_body ?_
  obtain ⟨v0, hv0⟩ : ∃ v : Value, v = tv p0 A0 (Tm.len l0) c0 := ⟨_, rfl⟩
  obtain ⟨v1, hv1⟩ : ∃ v : Value, v = tv p1 A1 (Tm.len l1) c1 := ⟨_, rfl⟩
  rw [← hv0, ← hv1]
  have hk0 : (Kd.term p0 l0).R v0 w := by rw [hv0]; exact ⟨A0, c0, rfl, hA0.up hB⟩
  have hk1 : (Kd.term p1 l1).R v1 w := by rw [hv1]; exact ⟨A1, c1, rfl, hA1.up hB⟩
  have hsN : (#[v0, v1] ++ Array.replicate (Try.f10.ntmps - #[v0, v1].size) undef : Array Value).size = 105 := by kernel_rfl
  have gs0 : (#[v0, v1] ++ Array.replicate (Try.f10.ntmps - #[v0, v1].size) undef : Array Value).getD 0 undef = v0 := by kernel_rfl
  have gs1 : (#[v0, v1] ++ Array.replicate (Try.f10.ntmps - #[v0, v1].size) undef : Array Value).getD 1 undef = v1 := by kernel_rfl
  generalize (#[v0, v1] ++ Array.replicate (Try.f10.ntmps - #[v0, v1].size) undef : Array Value) = tm at hsN gs0 gs1 ⊢
  obtain ⟨a, ha0⟩ : ∃ a : Act, a = ⟨tm, []⟩ := ⟨_, rfl⟩
  have h : Hold 105 [(0, .term p0 l0), (1, .term p1 l1), (990, .sat (gP 0 none))] w ⟨tm, []⟩ w := ⟨hsN, rfl, Below.refl _ _, (slots_cons 0 (by rw [gs0]; exact hk0) (slots_cons 1 (by rw [gs1]; exact hk1) (slots_cons 990 (k0 := .sat (gP 0 none)) ⟨Nat.zero_le _, fun r e => by cases e⟩ slots_nil)))⟩
  refine wp_seq ?_
  refine lInd0a_region p0 l0 p1 l1  h ?_
  intro a w1 h
  show Code.wp _ _ _ a w1
  refine wp_seq ?_
  refine lInd1a_region p0 l0 p1 l1  h ?_
  intro a w1 h
  show Code.wp _ _ _ a w1
  refine wp_seq ?_
  refine wp_seq ?_
  refine lInd2a_region p0 l0 p1 l1  h ?_
  intro a w1 h
  rcases Bool.eq_false_or_eq_true (Tm.validB (3, 0, ⟨#[47]⟩) (.node p0 l0 (.node p1 l1 .nil))) with hv | hv
  · rw [hv] at h
    (try simp only [Bool.not_true, Bool.not_false] at h)
    show Code.wp _ _ _ a w1
    refine env_cond (b := false) rfl h ?_
    refine wp_skip ?_
    have h := h.keep [990, 2, 3, 4, 5]
    show Code.wp _ _ _ a w1
    refine wp_seq ?_
    refine lInd4a_region p0 l0 p1 l1  h ?_
    intro a w1 h
    show Code.wp _ _ _ a w1
    refine wp_seq ?_
    refine lInd5a_region p0 l0 p1 l1  h ?_
    intro r a w1 hr h
    show Code.wp _ _ _ a w1
    refine wp_seq ?_
    refine wp_block ?_
    refine wp_seq ?_
    by_cases h1 : p0.1 = 0
    · refine lInd7a_region p0 l0 p1 l1 r h1 hr h ?_
      intro a w1 h
      show Code.wp _ _ _ a w1
      refine env_cond (b := true) rfl h ?_
      refine wp_skip ?_
      have h := h.keep [4, 8, 6, 7, 9, 990, 10]
      show Code.wp _ _ _ a w1
      refine wp_seq ?_
      have hi := (Bl.ind_var hv (.inl h1))
      rw [hi] at h
      dsimp only at h
      have hsm : (Tm.validB Bl.inst.1 Bl.inst.2 && Tm.sameT Bl.inst.1 Bl.inst.2 (3, 0, Tm.errName) (.node (2, 0, (⟨#[105, 110, 115, 116, 97, 110, 116, 105, 97, 116, 105, 111, 110, 95, 101, 114, 114, 111, 114]⟩)) .nil (.node Tm.emptyA .nil .nil))) = true := (Bl.same_of Bl.inst_is Bl.inst_valid)
      refine lInd16a_region p0 l0 p1 l1 r hsm hr h ?_
      intro a w1 h
      show Code.wp _ _ _ a w1
      refine wp_ret ?_
      (try simp only [then_ret, block_ret])
      exact law_out rfl (h.get 4 rfl) h.defers ⟨rfl, h.world⟩
    by_cases h2 : p1.1 = 0
    · refine lInd7b_region p0 l0 p1 l1 r h1 h2 hr h ?_
      intro a w1 h
      show Code.wp _ _ _ a w1
      refine env_cond (b := true) rfl h ?_
      refine wp_skip ?_
      have h := h.keep [4, 8, 6, 7, 9, 990, 10]
      show Code.wp _ _ _ a w1
      refine wp_seq ?_
      have hi := (Bl.ind_var hv (.inr h2))
      rw [hi] at h
      dsimp only at h
      have hsm : (Tm.validB Bl.inst.1 Bl.inst.2 && Tm.sameT Bl.inst.1 Bl.inst.2 (3, 0, Tm.errName) (.node (2, 0, (⟨#[105, 110, 115, 116, 97, 110, 116, 105, 97, 116, 105, 111, 110, 95, 101, 114, 114, 111, 114]⟩)) .nil (.node Tm.emptyA .nil .nil))) = true := (Bl.same_of Bl.inst_is Bl.inst_valid)
      refine lInd16a_region p0 l0 p1 l1 r hsm hr h ?_
      intro a w1 h
      show Code.wp _ _ _ a w1
      refine wp_ret ?_
      (try simp only [then_ret, block_ret])
      exact law_out rfl (h.get 4 rfl) h.defers ⟨rfl, h.world⟩
    · refine lInd7c_region p0 l0 p1 l1 r h1 h2 hr h ?_
      intro a w1 h
      show Code.wp _ _ _ a w1
      refine env_cond (b := false) rfl h ?_
      have h := h.keep [2, 3, 4, 8, 6, 7, 9, 990, 10]
      show Code.wp _ _ _ a w1
      refine wp_seq ?_
      by_cases h3 : p0.1 = 2
      · refine lInd8a_region p0 l0 p1 l1 r h3 hr h ?_
        intro a w1 h
        show Code.wp _ _ _ a w1
        refine env_cond (b := false) rfl h ?_
        have h := h.keep [2, 3, 4, 8, 6, 7, 9, 990, 10]
        show Code.wp _ _ _ a w1
        refine wp_seq ?_
        by_cases h4 : p1.1 = 1
        · refine lInd10a_region p0 l0 p1 l1 r h4 hr h ?_
          intro a w1 h
          show Code.wp _ _ _ a w1
          refine env_cond (b := false) rfl h ?_
          have h := h.keep [2, 3, 4, 8, 6, 7, 9, 990, 10]
          show Code.wp _ _ _ a w1
          refine wp_seq ?_
          by_cases h5 : p1.2.1 < 0
          · refine lInd12a_region p0 l0 p1 l1 r h5 hr h ?_
            intro a w1 h
            show Code.wp _ _ _ a w1
            refine env_cond (b := true) rfl h ?_
            have h := h.keep [3, 4, 8, 6, 7, 9, 990, 10]
            show Code.wp _ _ _ a w1
            refine lInd13a_region p0 l0 p1 l1 r  hr h ?_
            intro a w1 h
            show Code.wp _ _ _ a w1
            refine wp_seq ?_
            have hi := (Bl.ind_neg hv h1 h2 h3 h4 h5)
            rw [hi] at h
            dsimp only at h
            have hsm : (Tm.validB (Bl.dom ⟨#[110, 111, 116, 95, 108, 101, 115, 115, 95, 116, 104, 97, 110, 95, 122, 101, 114, 111]⟩ p1 l1).1 (Bl.dom ⟨#[110, 111, 116, 95, 108, 101, 115, 115, 95, 116, 104, 97, 110, 95, 122, 101, 114, 111]⟩ p1 l1).2 && Tm.sameT (Bl.dom ⟨#[110, 111, 116, 95, 108, 101, 115, 115, 95, 116, 104, 97, 110, 95, 122, 101, 114, 111]⟩ p1 l1).1 (Bl.dom ⟨#[110, 111, 116, 95, 108, 101, 115, 115, 95, 116, 104, 97, 110, 95, 122, 101, 114, 111]⟩ p1 l1).2 (3, 0, Tm.errName) (.node (3, 0, ⟨#[100, 111, 109, 97, 105, 110, 95, 101, 114, 114, 111, 114]⟩) (.node (2, 0, (⟨#[110, 111, 116, 95, 108, 101, 115, 115, 95, 116, 104, 97, 110, 95, 122, 101, 114, 111]⟩)) .nil (.node p1 l1 .nil)) (.node Tm.emptyA .nil .nil))) = true := (Bl.same_of (Bl.dom_is hv h4) (Bl.dom_valid _ _ _))
            refine lInd16b_region p0 l0 p1 l1 r hsm hr h ?_
            intro a w1 h
            show Code.wp _ _ _ a w1
            refine wp_ret ?_
            (try simp only [then_ret, block_ret])
            exact law_out rfl (h.get 4 rfl) h.defers ⟨rfl, h.world⟩
          · refine lInd12b_region p0 l0 p1 l1 r h5 hr h ?_
            intro a w1 h
            show Code.wp _ _ _ a w1
            refine env_cond (b := false) rfl h ?_
            have h := h.keep [2, 3, 4, 8, 6, 7, 9, 990, 10]
            show Code.wp _ _ _ a w1
            refine wp_seq ?_
            by_cases h6 : 8 < p1.2.1
            · refine lInd14a_region p0 l0 p1 l1 r h6 hr h ?_
              intro a w1 h
              show Code.wp _ _ _ a w1
              refine env_cond (b := true) rfl h ?_
              have h := h.keep [4, 8, 6, 7, 9, 990, 10]
              show Code.wp _ _ _ a w1
              refine lInd15a_region p0 l0 p1 l1 r  hr h ?_
              intro a w1 h
              show Code.wp _ _ _ a w1
              refine wp_seq ?_
              have hi := (Bl.ind_big hv h1 h2 h3 h4 h5 h6)
              rw [hi] at h
              dsimp only at h
              have hsm : (Tm.validB (Bl.rep ⟨#[109, 97, 120, 95, 97, 114, 105, 116, 121]⟩).1 (Bl.rep ⟨#[109, 97, 120, 95, 97, 114, 105, 116, 121]⟩).2 && Tm.sameT (Bl.rep ⟨#[109, 97, 120, 95, 97, 114, 105, 116, 121]⟩).1 (Bl.rep ⟨#[109, 97, 120, 95, 97, 114, 105, 116, 121]⟩).2 (3, 0, Tm.errName) (.node (3, 0, ⟨#[114, 101, 112, 114, 101, 115, 101, 110, 116, 97, 116, 105, 111, 110, 95, 101, 114, 114, 111, 114]⟩) (.node (2, 0, (⟨#[109, 97, 120, 95, 97, 114, 105, 116, 121]⟩)) .nil .nil) (.node Tm.emptyA .nil .nil))) = true := (Bl.same_of Bl.max_is (Bl.rep_valid _))
              refine lInd16c_region p0 l0 p1 l1 r hsm hr h ?_
              intro a w1 h
              show Code.wp _ _ _ a w1
              refine wp_ret ?_
              (try simp only [then_ret, block_ret])
              exact law_out rfl (h.get 4 rfl) h.defers ⟨rfl, h.world⟩
            · refine lInd14b_region p0 l0 p1 l1 r h6 hr h ?_
              intro a w1 h
              show Code.wp _ _ _ a w1
              refine env_cond (b := false) rfl h ?_
              have h := h.keep [2, 3, 4, 8, 6, 7, 9, 990, 10]
              show Code.wp _ _ _ a w1
              refine wp_seq ?_
              have hi := Bl.ind_yes hv h1 h2 h3 h4 h5 h6
              rw [hi] at h
              dsimp only at h
              refine lInd6a_region p0 l0 p1 l1 r  hr h ?_
              intro a w1 h
              show Code.wp _ _ _ a w1
              refine wp_ret ?_
              (try simp only [then_ret, block_ret])
              exact law_out rfl (h.get 4 rfl) h.defers ⟨rfl, h.world⟩
        · refine lInd10b_region p0 l0 p1 l1 r h4 hr h ?_
          intro a w1 h
          show Code.wp _ _ _ a w1
          refine env_cond (b := true) rfl h ?_
          have h := h.keep [3, 4, 8, 6, 7, 9, 990, 10]
          show Code.wp _ _ _ a w1
          refine lInd11a_region p0 l0 p1 l1 r  hr h ?_
          intro a w1 h
          show Code.wp _ _ _ a w1
          refine wp_seq ?_
          have hi := (Bl.ind_int hv h1 h2 h3 h4)
          rw [hi] at h
          dsimp only at h
          have hsm : (Tm.validB (Bl.ty ⟨#[105, 110, 116, 101, 103, 101, 114]⟩ p1 l1).1 (Bl.ty ⟨#[105, 110, 116, 101, 103, 101, 114]⟩ p1 l1).2 && Tm.sameT (Bl.ty ⟨#[105, 110, 116, 101, 103, 101, 114]⟩ p1 l1).1 (Bl.ty ⟨#[105, 110, 116, 101, 103, 101, 114]⟩ p1 l1).2 (Bl.ty (⟨#[105, 110, 116, 101, 103, 101, 114]⟩) p1 l1).1 (Bl.ty (⟨#[105, 110, 116, 101, 103, 101, 114]⟩) p1 l1).2) = true := (same_self (Bl.ty_valid _ _ _))
          refine lInd16d_region p0 l0 p1 l1 r hsm hr h ?_
          intro a w1 h
          show Code.wp _ _ _ a w1
          refine wp_ret ?_
          (try simp only [then_ret, block_ret])
          exact law_out rfl (h.get 4 rfl) h.defers ⟨rfl, h.world⟩
      · refine lInd8b_region p0 l0 p1 l1 r h3 hr h ?_
        intro a w1 h
        show Code.wp _ _ _ a w1
        refine env_cond (b := true) rfl h ?_
        have h := h.keep [2, 4, 8, 6, 7, 9, 990, 10]
        show Code.wp _ _ _ a w1
        refine lInd9a_region p0 l0 p1 l1 r  hr h ?_
        intro a w1 h
        show Code.wp _ _ _ a w1
        refine wp_seq ?_
        have hi := (Bl.ind_atom hv h1 h2 h3)
        rw [hi] at h
        dsimp only at h
        have hsm : (Tm.validB (Bl.ty ⟨#[97, 116, 111, 109]⟩ p0 l0).1 (Bl.ty ⟨#[97, 116, 111, 109]⟩ p0 l0).2 && Tm.sameT (Bl.ty ⟨#[97, 116, 111, 109]⟩ p0 l0).1 (Bl.ty ⟨#[97, 116, 111, 109]⟩ p0 l0).2 (Bl.ty (⟨#[97, 116, 111, 109]⟩) p0 l0).1 (Bl.ty (⟨#[97, 116, 111, 109]⟩) p0 l0).2) = true := (same_self (Bl.ty_valid _ _ _))
        refine lInd16e_region p0 l0 p1 l1 r hsm hr h ?_
        intro a w1 h
        show Code.wp _ _ _ a w1
        refine wp_ret ?_
        (try simp only [then_ret, block_ret])
        exact law_out rfl (h.get 4 rfl) h.defers ⟨rfl, h.world⟩
  · rw [hv] at h
    (try simp only [Bool.not_true, Bool.not_false] at h)
    show Code.wp _ _ _ a w1
    refine env_cond (b := true) rfl h ?_
    have h := h.keep [990, 2, 3, 4, 5]
    show Code.wp _ _ _ a w1
    refine wp_seq ?_
    refine lInd3a_region p0 l0 p1 l1  h ?_
    intro a w1 h
    show Code.wp _ _ _ a w1
    refine wp_ret ?_
    (try simp only [then_ret, block_ret])
    exact law_out rfl (h.get 4 rfl) h.defers ⟨rfl, h.world⟩
end Go.Proofs.Ytapcnehpechkpaa
