/-
  The reference's Indicator.
-/
import Derived.Test.YtapcnehpechkpaaRefChk
import Derived.Test.YtapcnehpechkpaaIndM
import Derived.Test.YtapcnehpechkpaaPair
namespace Go.Proofs.Ytapcnehpechkpaa
set_option linter.unusedVariables false
set_option linter.unusedSimpArgs false
set_option maxRecDepth 100000
open Go.RowKit
namespace Bl
theorem valid_zero {p : Pay} {l : Fo} (hv : Tm.validB p l = true) (h : p.1 = 3) : p.2.1 = 0 := by
  unfold Tm.validB Tm.goodB Tm.nodeB at hv
  rw [if_neg (by rw [h]; decide), if_neg (by rw [h]; decide), if_neg (by rw [h]; decide), if_pos h] at hv
  simp only [Bool.and_eq_true, decide_eq_true_eq] at hv
  exact hv.2.1.1.1.1
theorem valid_pay {p : Pay} {l : Fo} {s : ByteArray} (hv : Tm.validB p l = true) (h : p.1 = 3) (hs : p.2.2 = s) : p = (3, 0, s) := by
  have h0 := valid_zero hv h
  obtain ⟨k, n, m⟩ := p
  simp only at h h0 hs
  rw [h, h0, hs]
end Bl
noncomputable def rInd0Ops : Array Oper := ((Try.f50.body).bind (findReg 0)).getD #[]
noncomputable def rInd1Ops : Array Oper := ((Try.f50.body).bind (findReg 1)).getD #[]
noncomputable def rInd2Ops : Array Oper := ((Try.f50.body).bind (findReg 2)).getD #[]
noncomputable def rInd3Ops : Array Oper := ((Try.f50.body).bind (findReg 3)).getD #[]
noncomputable def rInd4Ops : Array Oper := ((Try.f50.body).bind (findReg 4)).getD #[]
noncomputable def rInd5Ops : Array Oper := ((Try.f50.body).bind (findReg 5)).getD #[]
noncomputable def rInd6Ops : Array Oper := ((Try.f50.body).bind (findReg 6)).getD #[]
noncomputable def rInd7Ops : Array Oper := ((Try.f50.body).bind (findReg 7)).getD #[]
noncomputable def rInd8Ops : Array Oper := ((Try.f50.body).bind (findReg 8)).getD #[]
noncomputable def rInd9Ops : Array Oper := ((Try.f50.body).bind (findReg 9)).getD #[]
noncomputable def rInd10Ops : Array Oper := ((Try.f50.body).bind (findReg 10)).getD #[]
noncomputable def rInd11Ops : Array Oper := ((Try.f50.body).bind (findReg 11)).getD #[]
noncomputable def rInd12Ops : Array Oper := ((Try.f50.body).bind (findReg 12)).getD #[]
noncomputable def rInd13Ops : Array Oper := ((Try.f50.body).bind (findReg 13)).getD #[]
noncomputable def rInd14Ops : Array Oper := ((Try.f50.body).bind (findReg 14)).getD #[]
noncomputable def rInd15Ops : Array Oper := ((Try.f50.body).bind (findReg 15)).getD #[]
noncomputable def rInd16Ops : Array Oper := ((Try.f50.body).bind (findReg 16)).getD #[]
noncomputable def rInd17Ops : Array Oper := ((Try.f50.body).bind (findReg 17)).getD #[]
noncomputable def rInd18Ops : Array Oper := ((Try.f50.body).bind (findReg 18)).getD #[]
theorem rInd_body : Try.f50.body = some (.seq (.region 0 rInd0Ops false) (.seq (.seq (.region 1 rInd1Ops false) (.cond (.tmp 10) (.seq (.region 2 rInd2Ops false) .ret) .skip)) (.seq (.seq (.region 3 rInd3Ops false) (.cond (.tmp 14) (.seq (.region 4 rInd4Ops false) .ret) .skip)) (.seq (.seq (.region 5 rInd5Ops false) (.cond (.tmp 29) (.seq (.region 6 rInd6Ops false) .ret) .skip)) (.seq (.region 7 rInd7Ops true) (.seq (.seq (.region 8 rInd8Ops false) (.cond (.tmp 47) (.seq (.region 9 rInd9Ops false) .ret) .skip)) (.seq (.seq (.region 10 rInd10Ops false) (.cond (.tmp 51) (.seq (.region 11 rInd11Ops false) .ret) .skip)) (.seq (.seq (.region 12 rInd12Ops false) (.cond (.tmp 56) (.seq (.region 13 rInd13Ops false) .ret) .skip)) (.seq (.seq (.region 14 rInd14Ops false) (.cond (.tmp 61) (.seq (.region 15 rInd15Ops false) .ret) .skip)) (.seq (.seq (.region 16 rInd16Ops false) (.cond (.tmp 66) (.seq (.region 17 rInd17Ops false) .ret) .skip)) (.seq (.region 18 rInd18Ops true) .ret))))))))))) := by kernel_rfl
theorem rInd0a_region {Q : Exit → Act → World → Prop} (p0 : Pay) (l0 : Fo) (nb : Nat)  {w0 : World} {a : Act} {w : World} (hn : nb ≤ w0.heap.size) (h : Hold 73 [(0, .term p0 l0)] w0 a w)
    (hQ : ∀ r a' w', w0.heap.size ≤ r → Hold 73 [(1, .sat (nP 0 (some r) p0 l0)), (2, .val (.string ⟨#[]⟩)), (3, .val (.int .i64 0)), (4, .sat (rC nb r zp .nil)), (990, .sat (gP nb (some r))), (5, .val (.bool false))] w0 a' w' → Q .normal a' w') : (Code.region 0 rInd0Ops false).wp Try.prog Q a w := by
  refine region_seq (w0 := w) 5 (by kernel_rfl) ?_
  rw [show List.range 5 = [0, 1, 2, 3, 4] from rfl]
  refine env_one (i := 0) (d := 1) (k := .ptrT p0 l0) (step_box (by kernel_rfl) (Opd.of_base 0 rfl) rfl) (by kernel_rfl) (by decide) h ?_
  clear h
  intro a w h
  refine env_one (i := 1) (d := 2) (k := .val (.string ⟨#[]⟩)) (step_assign (by kernel_rfl) (Opd.const _) rfl) (by kernel_rfl) (by decide) h ?_
  clear h
  intro a w h
  refine env_one (i := 2) (d := 3) (k := .val (.int .i64 0)) (step_assign (by kernel_rfl) (Opd.const _) rfl) (by kernel_rfl) (by decide) h ?_
  clear h
  intro a w h
  refine env_res (i := 3) (d := 4) (n := nb) (fun r => [(0, .sat (nT 0 (some r) p0 l0)), (1, .sat (nP 0 (some r) p0 l0)), (2, .val (.string ⟨#[]⟩)), (3, .val (.int .i64 0))]) (by kernel_rfl) (by decide) (by decide) hn (fun r => (goes_cons 0 rfl (turns_term _ _ _) (goes_cons 1 rfl (turns_ptr _ _ _) (goes_cons 2 rfl (turns_val _ _) (goes_cons 3 rfl (turns_val _ _) (goes_nil _ _)))))) h ?_
  clear h
  intro r a w hr h
  refine env_one (i := 4) (d := 5) (k := .val (.bool false)) (step_assign (by kernel_rfl) (Opd.const _) rfl) (by kernel_rfl) (by decide) h ?_
  clear h
  intro a w h
  exact hQ r a w hr (h.keep [1, 2, 3, 4, 990, 5])
theorem rInd1a_region {Q : Exit → Act → World → Prop} (p0 : Pay) (l0 : Fo) (nb r : Nat)  {w0 : World} {a : Act} {w : World} (hr : w0.heap.size ≤ r) (h : Hold 73 [(1, .sat (nP 0 (some r) p0 l0)), (2, .val (.string ⟨#[]⟩)), (3, .val (.int .i64 0)), (4, .sat (rC nb r zp .nil)), (990, .sat (gP nb (some r))), (5, .val (.bool false))] w0 a w)
    (hQ : ∀ a' w', Hold 73 [(1, .sat (nP 0 (some r) p0 l0)), (2, .val (.string ⟨#[]⟩)), (3, .val (.int .i64 0)), (4, .sat (rC nb r zp .nil)), (990, .sat (gP nb (some r))), (5, .val (.bool false)), (10, .val (.bool (!(Tm.validB p0 l0))))] w0 a' w' → Q .normal a' w') : (Code.region 1 rInd1Ops false).wp Try.prog Q a w := by
  refine region_seq (w0 := w) 3 (by kernel_rfl) ?_
  rw [show List.range 3 = [0, 1, 2] from rfl]
  refine env_one (i := 0) (d := 8) (k := .sat (nT 0 (some r) p0 l0)) (step_nload (by kernel_rfl) (Opd.of_base 1 rfl) rfl) (by kernel_rfl) (by decide) h ?_
  clear h
  intro a w h
  refine env_one (i := 1) (d := 9) (k := .val (.bool (Tm.validB p0 l0))) (step_rvalid6 (by kernel_rfl) (Opd.ofT (Opd.of_base 8 rfl)) rfl) (by kernel_rfl) (by decide) h ?_
  clear h
  intro a w h
  refine env_one (i := 2) (d := 10) (k := .val (.bool (!(Tm.validB p0 l0)))) (step_not (by kernel_rfl) (Opd.of_base 9 rfl) rfl) (by kernel_rfl) (by decide) h ?_
  clear h
  intro a w h
  exact hQ a w (h.keep [1, 2, 3, 4, 990, 5, 10])
theorem rInd3a_region {Q : Exit → Act → World → Prop} (p0 : Pay) (l0 : Fo) (nb r : Nat) (h1 : p0.1 = 0) {w0 : World} {a : Act} {w : World} (hr : w0.heap.size ≤ r) (h : Hold 73 [(1, .sat (nP 0 (some r) p0 l0)), (2, .val (.string ⟨#[]⟩)), (3, .val (.int .i64 0)), (4, .sat (rC nb r zp .nil)), (990, .sat (gP nb (some r))), (5, .val (.bool false))] w0 a w)
    (hQ : ∀ a' w', Hold 73 [(1, .sat (nP 0 (some r) p0 l0)), (2, .val (.string ⟨#[]⟩)), (3, .val (.int .i64 0)), (4, .sat (rC nb r zp .nil)), (990, .sat (gP nb (some r))), (5, .val (.bool false)), (14, .val (.bool true))] w0 a' w' → Q .normal a' w') : (Code.region 3 rInd3Ops false).wp Try.prog Q a w := by
  refine region_seq (w0 := w) 3 (by kernel_rfl) ?_
  rw [show List.range 3 = [0, 1, 2] from rfl]
  refine env_one (i := 0) (d := 12) (k := .ptrI (p0.1)) (step_field0 (by kernel_rfl) (Opd.ofP (Opd.of_base 1 rfl)) rfl) (by kernel_rfl) (by decide) h ?_
  clear h
  intro a w h
  refine env_one (i := 1) (d := 13) (k := .val (.int .i64 (p0.1))) (step_load_int3 (by kernel_rfl) (Opd.of_base 12 rfl) rfl) (by kernel_rfl) (by decide) h ?_
  clear h
  intro a w h
  refine env_one (i := 2) (d := 14) (k := .val (.bool true)) (step_eqb_int (m := (p0.1)) (n := 0) (by kernel_rfl) (Opd.of_base 13 rfl) (Opd.const _) (by rw [h1]; rfl) rfl) (by kernel_rfl) (by decide) h ?_
  clear h
  intro a w h
  exact hQ a w (h.keep [1, 2, 3, 4, 990, 5, 14])
theorem rInd4a_region {Q : Exit → Act → World → Prop} (p0 : Pay) (l0 : Fo) (nb r : Nat)  {w0 : World} {a : Act} {w : World} (hr : w0.heap.size ≤ r) (h : Hold 73 [(1, .sat (nP 0 (some r) p0 l0)), (2, .val (.string ⟨#[]⟩)), (3, .val (.int .i64 0)), (4, .sat (rC nb r zp .nil)), (990, .sat (gP nb (some r))), (5, .val (.bool false))] w0 a w)
    (hQ : ∀ a' w', Hold 73 [(1, .sat (nP 0 (some r) p0 l0)), (2, .val (.string ⟨#[]⟩)), (3, .val (.int .i64 0)), (990, .sat (gP nb (some r))), (5, .val (.bool false)), (4, .sat (rC nb r Bl.inst.1 Bl.inst.2))] w0 a' w' → Q .normal a' w') : (Code.region 4 rInd4Ops false).wp Try.prog Q a w := by
  refine region_seq (w0 := w) 5 (by kernel_rfl) ?_
  rw [show List.range 5 = [0, 1, 2, 3, 4] from rfl]
  refine env_one (i := 0) (d := 15) (k := .sat (nT nb (some r) Bl.inst.1 Bl.inst.2)) (step_rInst (g := 990) (by kernel_rfl)  (Opd.of_base 990 rfl) rfl) (by kernel_rfl) (by decide) h ?_
  clear h
  intro a w h
  refine env_one (i := 1) (d := 2) (k := .val (.string ⟨#[]⟩)) (step_assign (by kernel_rfl) (Opd.const _) rfl) (by kernel_rfl) (by decide) h ?_
  clear h
  intro a w h
  refine env_one (i := 2) (d := 3) (k := .val (.int .i64 0)) (step_assign (by kernel_rfl) (Opd.const _) rfl) (by kernel_rfl) (by decide) h ?_
  clear h
  intro a w h
  refine env_store (i := 3) (x := 4) (y := 15) (r := r) [(1, .sat (nP 0 (some r) p0 l0)), (2, .val (.string ⟨#[]⟩)), (3, .val (.int .i64 0)), (990, .sat (gP nb (some r))), (5, .val (.bool false)), (15, .sat (nT nb (some r) Bl.inst.1 Bl.inst.2))] (by kernel_rfl) rfl rfl hr (stays_cons 1 rfl (away_nP _ _ _ _) (stays_cons 2 rfl (away_val _ _) (stays_cons 3 rfl (away_val _ _) (stays_cons 990 rfl (away_gP _ _ _) (stays_cons 5 rfl (away_val _ _) (stays_cons 15 rfl (away_nT _ _ _ _) (stays_nil _ _))))))) h ?_
  clear h
  intro a w h
  refine env_one (i := 4) (d := 5) (k := .val (.bool false)) (step_assign (by kernel_rfl) (Opd.const _) rfl) (by kernel_rfl) (by decide) h ?_
  clear h
  intro a w h
  exact hQ a w (h.keep [1, 2, 3, 990, 5, 4])
theorem rInd3b_region {Q : Exit → Act → World → Prop} (p0 : Pay) (l0 : Fo) (nb r : Nat) (h1 : ¬ p0.1 = 0) {w0 : World} {a : Act} {w : World} (hr : w0.heap.size ≤ r) (h : Hold 73 [(1, .sat (nP 0 (some r) p0 l0)), (2, .val (.string ⟨#[]⟩)), (3, .val (.int .i64 0)), (4, .sat (rC nb r zp .nil)), (990, .sat (gP nb (some r))), (5, .val (.bool false))] w0 a w)
    (hQ : ∀ a' w', Hold 73 [(1, .sat (nP 0 (some r) p0 l0)), (2, .val (.string ⟨#[]⟩)), (3, .val (.int .i64 0)), (4, .sat (rC nb r zp .nil)), (990, .sat (gP nb (some r))), (5, .val (.bool false)), (14, .val (.bool false))] w0 a' w' → Q .normal a' w') : (Code.region 3 rInd3Ops false).wp Try.prog Q a w := by
  refine region_seq (w0 := w) 3 (by kernel_rfl) ?_
  rw [show List.range 3 = [0, 1, 2] from rfl]
  refine env_one (i := 0) (d := 12) (k := .ptrI (p0.1)) (step_field0 (by kernel_rfl) (Opd.ofP (Opd.of_base 1 rfl)) rfl) (by kernel_rfl) (by decide) h ?_
  clear h
  intro a w h
  refine env_one (i := 1) (d := 13) (k := .val (.int .i64 (p0.1))) (step_load_int3 (by kernel_rfl) (Opd.of_base 12 rfl) rfl) (by kernel_rfl) (by decide) h ?_
  clear h
  intro a w h
  refine env_one (i := 2) (d := 14) (k := .val (.bool false)) (step_eqb_int (m := (p0.1)) (n := 0) (by kernel_rfl) (Opd.of_base 13 rfl) (Opd.const _) (by simpa using h1) rfl) (by kernel_rfl) (by decide) h ?_
  clear h
  intro a w h
  exact hQ a w (h.keep [1, 2, 3, 4, 990, 5, 14])
theorem rInd5a_region {Q : Exit → Act → World → Prop} (p0 : Pay) (l0 : Fo) (nb r : Nat) (a1 : ¬ p0.1 = 3) {w0 : World} {a : Act} {w : World} (hr : w0.heap.size ≤ r) (h : Hold 73 [(1, .sat (nP 0 (some r) p0 l0)), (2, .val (.string ⟨#[]⟩)), (3, .val (.int .i64 0)), (4, .sat (rC nb r zp .nil)), (990, .sat (gP nb (some r))), (5, .val (.bool false))] w0 a w)
    (hQ : ∀ a' w', Hold 73 [(1, .sat (nP 0 (some r) p0 l0)), (2, .val (.string ⟨#[]⟩)), (3, .val (.int .i64 0)), (4, .sat (rC nb r zp .nil)), (990, .sat (gP nb (some r))), (5, .val (.bool false)), (29, .val (.bool true))] w0 a' w' → Q .normal a' w') : (Code.region 5 rInd5Ops false).wp Try.prog Q a w := by
  refine region_seq (w0 := w) 14 (by kernel_rfl) ?_
  rw [show List.range 14 = [0, 1, 2, 3, 4, 5, 6, 7, 8, 9, 10, 11, 12, 13] from rfl]
  refine env_one (i := 0) (d := 16) (k := .ptrI (p0.1)) (step_field0 (by kernel_rfl) (Opd.ofP (Opd.of_base 1 rfl)) rfl) (by kernel_rfl) (by decide) h ?_
  clear h
  intro a w h
  refine env_one (i := 1) (d := 17) (k := .val (.int .i64 (p0.1))) (step_load_int3 (by kernel_rfl) (Opd.of_base 16 rfl) rfl) (by kernel_rfl) (by decide) h ?_
  clear h
  intro a w h
  refine env_one (i := 2) (d := 18) (k := .val (.bool true)) (step_ne_int (m := (p0.1)) (n := 3) (by kernel_rfl) (Opd.of_base 17 rfl) (Opd.const _) (by simpa using a1) rfl) (by kernel_rfl) (by decide) h ?_
  clear h
  intro a w h
  refine env_one (i := 3) (d := 19) (k := .val (.bool true)) (step_move (by kernel_rfl) (Opd.of_base 18 rfl) rfl) (by kernel_rfl) (by decide) h ?_
  clear h
  intro a w h
  refine env_skip (i := 4) (d := 20) (g := 3) (dg := 19) (b := false) (by kernel_rfl) (by decide) (by kernel_rfl) rfl rfl h ?_
  clear h
  intro a w h
  refine env_skip (i := 5) (d := 21) (g := 3) (dg := 19) (b := false) (by kernel_rfl) (by decide) (by kernel_rfl) rfl rfl h ?_
  clear h
  intro a w h
  refine env_skip (i := 6) (d := 22) (g := 3) (dg := 19) (b := false) (by kernel_rfl) (by decide) (by kernel_rfl) rfl rfl h ?_
  clear h
  intro a w h
  refine env_one (i := 7) (d := 23) (k := .val (.bool true)) (step_pick_yes (y := .tmp 22) (by kernel_rfl) (Opd.of_base 19 rfl) (Opd.const _) rfl) (by kernel_rfl) (by decide) h ?_
  clear h
  intro a w h
  refine env_one (i := 8) (d := 24) (k := .val (.bool true)) (step_move (by kernel_rfl) (Opd.of_base 23 rfl) rfl) (by kernel_rfl) (by decide) h ?_
  clear h
  intro a w h
  refine env_skip (i := 9) (d := 25) (g := 8) (dg := 24) (b := false) (by kernel_rfl) (by decide) (by kernel_rfl) rfl rfl h ?_
  clear h
  intro a w h
  refine env_skip (i := 10) (d := 26) (g := 8) (dg := 24) (b := false) (by kernel_rfl) (by decide) (by kernel_rfl) rfl rfl h ?_
  clear h
  intro a w h
  refine env_skip (i := 11) (d := 27) (g := 8) (dg := 24) (b := false) (by kernel_rfl) (by decide) (by kernel_rfl) rfl rfl h ?_
  clear h
  intro a w h
  refine env_skip (i := 12) (d := 28) (g := 8) (dg := 24) (b := false) (by kernel_rfl) (by decide) (by kernel_rfl) rfl rfl h ?_
  clear h
  intro a w h
  refine env_one (i := 13) (d := 29) (k := .val (.bool true)) (step_pick_yes (y := .tmp 28) (by kernel_rfl) (Opd.of_base 24 rfl) (Opd.const _) rfl) (by kernel_rfl) (by decide) h ?_
  clear h
  intro a w h
  exact hQ a w (h.keep [1, 2, 3, 4, 990, 5, 29])
theorem rInd6a_region {Q : Exit → Act → World → Prop} (p0 : Pay) (l0 : Fo) (nb r : Nat)  {w0 : World} {a : Act} {w : World} (hr : w0.heap.size ≤ r) (h : Hold 73 [(1, .sat (nP 0 (some r) p0 l0)), (2, .val (.string ⟨#[]⟩)), (3, .val (.int .i64 0)), (4, .sat (rC nb r zp .nil)), (990, .sat (gP nb (some r))), (5, .val (.bool false))] w0 a w)
    (hQ : ∀ a' w', Hold 73 [(1, .sat (nP 0 (some r) p0 l0)), (2, .val (.string ⟨#[]⟩)), (3, .val (.int .i64 0)), (990, .sat (gP nb (some r))), (5, .val (.bool false)), (4, .sat (rC nb r ((Bl.ty (⟨#[112, 114, 101, 100, 105, 99, 97, 116, 101, 95, 105, 110, 100, 105, 99, 97, 116, 111, 114]⟩) p0 l0).1) ((Bl.ty (⟨#[112, 114, 101, 100, 105, 99, 97, 116, 101, 95, 105, 110, 100, 105, 99, 97, 116, 111, 114]⟩) p0 l0).2)))] w0 a' w' → Q .normal a' w') : (Code.region 6 rInd6Ops false).wp Try.prog Q a w := by
  refine region_seq (w0 := w) 6 (by kernel_rfl) ?_
  rw [show List.range 6 = [0, 1, 2, 3, 4, 5] from rfl]
  refine env_one (i := 0) (d := 30) (k := .sat (nT 0 (some r) p0 l0)) (step_nload (by kernel_rfl) (Opd.of_base 1 rfl) rfl) (by kernel_rfl) (by decide) h ?_
  clear h
  intro a w h
  refine env_one (i := 1) (d := 31) (k := .sat (nT nb (some r) ((Bl.ty (⟨#[112, 114, 101, 100, 105, 99, 97, 116, 101, 95, 105, 110, 100, 105, 99, 97, 116, 111, 114]⟩) p0 l0).1) ((Bl.ty (⟨#[112, 114, 101, 100, 105, 99, 97, 116, 101, 95, 105, 110, 100, 105, 99, 97, 116, 111, 114]⟩) p0 l0).2))) (step_rTy (g := 990) (by kernel_rfl) (Opd.const _) (Opd.ofT (Opd.of_base 30 rfl)) (Opd.of_base 990 rfl) rfl) (by kernel_rfl) (by decide) h ?_
  clear h
  intro a w h
  refine env_one (i := 2) (d := 2) (k := .val (.string ⟨#[]⟩)) (step_assign (by kernel_rfl) (Opd.const _) rfl) (by kernel_rfl) (by decide) h ?_
  clear h
  intro a w h
  refine env_one (i := 3) (d := 3) (k := .val (.int .i64 0)) (step_assign (by kernel_rfl) (Opd.const _) rfl) (by kernel_rfl) (by decide) h ?_
  clear h
  intro a w h
  refine env_store (i := 4) (x := 4) (y := 31) (r := r) [(1, .sat (nP 0 (some r) p0 l0)), (2, .val (.string ⟨#[]⟩)), (3, .val (.int .i64 0)), (990, .sat (gP nb (some r))), (5, .val (.bool false)), (30, .sat (nT 0 (some r) p0 l0)), (31, .sat (nT nb (some r) ((Bl.ty (⟨#[112, 114, 101, 100, 105, 99, 97, 116, 101, 95, 105, 110, 100, 105, 99, 97, 116, 111, 114]⟩) p0 l0).1) ((Bl.ty (⟨#[112, 114, 101, 100, 105, 99, 97, 116, 101, 95, 105, 110, 100, 105, 99, 97, 116, 111, 114]⟩) p0 l0).2)))] (by kernel_rfl) rfl rfl hr (stays_cons 1 rfl (away_nP _ _ _ _) (stays_cons 2 rfl (away_val _ _) (stays_cons 3 rfl (away_val _ _) (stays_cons 990 rfl (away_gP _ _ _) (stays_cons 5 rfl (away_val _ _) (stays_cons 30 rfl (away_nT _ _ _ _) (stays_cons 31 rfl (away_nT _ _ _ _) (stays_nil _ _)))))))) h ?_
  clear h
  intro a w h
  refine env_one (i := 5) (d := 5) (k := .val (.bool false)) (step_assign (by kernel_rfl) (Opd.const _) rfl) (by kernel_rfl) (by decide) h ?_
  clear h
  intro a w h
  exact hQ a w (h.keep [1, 2, 3, 990, 5, 4])
theorem rInd5b_region {Q : Exit → Act → World → Prop} (p0 : Pay) (l0 : Fo) (nb r : Nat) (a1 : p0.1 = 3) (a2 : ¬ p0.2.2 = ⟨#[47]⟩) {w0 : World} {a : Act} {w : World} (hr : w0.heap.size ≤ r) (h : Hold 73 [(1, .sat (nP 0 (some r) p0 l0)), (2, .val (.string ⟨#[]⟩)), (3, .val (.int .i64 0)), (4, .sat (rC nb r zp .nil)), (990, .sat (gP nb (some r))), (5, .val (.bool false))] w0 a w)
    (hQ : ∀ a' w', Hold 73 [(1, .sat (nP 0 (some r) p0 l0)), (2, .val (.string ⟨#[]⟩)), (3, .val (.int .i64 0)), (4, .sat (rC nb r zp .nil)), (990, .sat (gP nb (some r))), (5, .val (.bool false)), (29, .val (.bool true))] w0 a' w' → Q .normal a' w') : (Code.region 5 rInd5Ops false).wp Try.prog Q a w := by
  refine region_seq (w0 := w) 14 (by kernel_rfl) ?_
  rw [show List.range 14 = [0, 1, 2, 3, 4, 5, 6, 7, 8, 9, 10, 11, 12, 13] from rfl]
  refine env_one (i := 0) (d := 16) (k := .ptrI (p0.1)) (step_field0 (by kernel_rfl) (Opd.ofP (Opd.of_base 1 rfl)) rfl) (by kernel_rfl) (by decide) h ?_
  clear h
  intro a w h
  refine env_one (i := 1) (d := 17) (k := .val (.int .i64 (p0.1))) (step_load_int3 (by kernel_rfl) (Opd.of_base 16 rfl) rfl) (by kernel_rfl) (by decide) h ?_
  clear h
  intro a w h
  refine env_one (i := 2) (d := 18) (k := .val (.bool false)) (step_ne_int (m := (p0.1)) (n := 3) (by kernel_rfl) (Opd.of_base 17 rfl) (Opd.const _) (by rw [a1]; rfl) rfl) (by kernel_rfl) (by decide) h ?_
  clear h
  intro a w h
  refine env_one (i := 3) (d := 19) (k := .val (.bool false)) (step_move (by kernel_rfl) (Opd.of_base 18 rfl) rfl) (by kernel_rfl) (by decide) h ?_
  clear h
  intro a w h
  refine env_guard (i := 4) (d := 20) (g := 3) (dg := 19) (b := false) (k := .ptrS (p0.2.2)) (step_field2 (by kernel_rfl) (Opd.ofP (Opd.of_base 1 rfl)) rfl) (by kernel_rfl) (by decide) (by kernel_rfl) (by decide) rfl h ?_
  clear h
  intro a w h
  refine env_guard (i := 5) (d := 21) (g := 3) (dg := 19) (b := false) (k := .val (.string (p0.2.2))) (step_load_string (by kernel_rfl) (Opd.of_base 20 rfl) rfl) (by kernel_rfl) (by decide) (by kernel_rfl) (by decide) rfl h ?_
  clear h
  intro a w h
  refine env_guard (i := 6) (d := 22) (g := 3) (dg := 19) (b := false) (k := .val (.bool true)) (step_ne_str (s := (p0.2.2)) (t := ⟨#[47]⟩) (by kernel_rfl) (Opd.of_base 21 rfl) (Opd.const _) (by rw [decide_eq_false a2]; rfl) rfl) (by kernel_rfl) (by decide) (by kernel_rfl) (by decide) rfl h ?_
  clear h
  intro a w h
  refine env_one (i := 7) (d := 23) (k := .val (.bool true)) (step_pick_no (x := .const (.bool true)) (by kernel_rfl) (Opd.of_base 19 rfl) (Opd.of_base 22 rfl) rfl) (by kernel_rfl) (by decide) h ?_
  clear h
  intro a w h
  refine env_one (i := 8) (d := 24) (k := .val (.bool true)) (step_move (by kernel_rfl) (Opd.of_base 23 rfl) rfl) (by kernel_rfl) (by decide) h ?_
  clear h
  intro a w h
  refine env_skip (i := 9) (d := 25) (g := 8) (dg := 24) (b := false) (by kernel_rfl) (by decide) (by kernel_rfl) rfl rfl h ?_
  clear h
  intro a w h
  refine env_skip (i := 10) (d := 26) (g := 8) (dg := 24) (b := false) (by kernel_rfl) (by decide) (by kernel_rfl) rfl rfl h ?_
  clear h
  intro a w h
  refine env_skip (i := 11) (d := 27) (g := 8) (dg := 24) (b := false) (by kernel_rfl) (by decide) (by kernel_rfl) rfl rfl h ?_
  clear h
  intro a w h
  refine env_skip (i := 12) (d := 28) (g := 8) (dg := 24) (b := false) (by kernel_rfl) (by decide) (by kernel_rfl) rfl rfl h ?_
  clear h
  intro a w h
  refine env_one (i := 13) (d := 29) (k := .val (.bool true)) (step_pick_yes (y := .tmp 28) (by kernel_rfl) (Opd.of_base 24 rfl) (Opd.const _) rfl) (by kernel_rfl) (by decide) h ?_
  clear h
  intro a w h
  exact hQ a w (h.keep [1, 2, 3, 4, 990, 5, 29])
theorem rInd5c_region {Q : Exit → Act → World → Prop} (p0 : Pay) (l0 : Fo) (nb r : Nat) (a1 : p0.1 = 3) (a2 : p0.2.2 = ⟨#[47]⟩) (a3 : ¬ ((Tm.len l0 : Nat) : Int) = 2) {w0 : World} {a : Act} {w : World} (hr : w0.heap.size ≤ r) (h : Hold 73 [(1, .sat (nP 0 (some r) p0 l0)), (2, .val (.string ⟨#[]⟩)), (3, .val (.int .i64 0)), (4, .sat (rC nb r zp .nil)), (990, .sat (gP nb (some r))), (5, .val (.bool false))] w0 a w)
    (hQ : ∀ a' w', Hold 73 [(1, .sat (nP 0 (some r) p0 l0)), (2, .val (.string ⟨#[]⟩)), (3, .val (.int .i64 0)), (4, .sat (rC nb r zp .nil)), (990, .sat (gP nb (some r))), (5, .val (.bool false)), (29, .val (.bool true))] w0 a' w' → Q .normal a' w') : (Code.region 5 rInd5Ops false).wp Try.prog Q a w := by
  refine region_seq (w0 := w) 14 (by kernel_rfl) ?_
  rw [show List.range 14 = [0, 1, 2, 3, 4, 5, 6, 7, 8, 9, 10, 11, 12, 13] from rfl]
  refine env_one (i := 0) (d := 16) (k := .ptrI (p0.1)) (step_field0 (by kernel_rfl) (Opd.ofP (Opd.of_base 1 rfl)) rfl) (by kernel_rfl) (by decide) h ?_
  clear h
  intro a w h
  refine env_one (i := 1) (d := 17) (k := .val (.int .i64 (p0.1))) (step_load_int3 (by kernel_rfl) (Opd.of_base 16 rfl) rfl) (by kernel_rfl) (by decide) h ?_
  clear h
  intro a w h
  refine env_one (i := 2) (d := 18) (k := .val (.bool false)) (step_ne_int (m := (p0.1)) (n := 3) (by kernel_rfl) (Opd.of_base 17 rfl) (Opd.const _) (by rw [a1]; rfl) rfl) (by kernel_rfl) (by decide) h ?_
  clear h
  intro a w h
  refine env_one (i := 3) (d := 19) (k := .val (.bool false)) (step_move (by kernel_rfl) (Opd.of_base 18 rfl) rfl) (by kernel_rfl) (by decide) h ?_
  clear h
  intro a w h
  refine env_guard (i := 4) (d := 20) (g := 3) (dg := 19) (b := false) (k := .ptrS (p0.2.2)) (step_field2 (by kernel_rfl) (Opd.ofP (Opd.of_base 1 rfl)) rfl) (by kernel_rfl) (by decide) (by kernel_rfl) (by decide) rfl h ?_
  clear h
  intro a w h
  refine env_guard (i := 5) (d := 21) (g := 3) (dg := 19) (b := false) (k := .val (.string (p0.2.2))) (step_load_string (by kernel_rfl) (Opd.of_base 20 rfl) rfl) (by kernel_rfl) (by decide) (by kernel_rfl) (by decide) rfl h ?_
  clear h
  intro a w h
  refine env_guard (i := 6) (d := 22) (g := 3) (dg := 19) (b := false) (k := .val (.bool false)) (step_ne_str (s := (p0.2.2)) (t := ⟨#[47]⟩) (by kernel_rfl) (Opd.of_base 21 rfl) (Opd.const _) (by rw [decide_eq_true a2]; rfl) rfl) (by kernel_rfl) (by decide) (by kernel_rfl) (by decide) rfl h ?_
  clear h
  intro a w h
  refine env_one (i := 7) (d := 23) (k := .val (.bool false)) (step_pick_no (x := .const (.bool true)) (by kernel_rfl) (Opd.of_base 19 rfl) (Opd.of_base 22 rfl) rfl) (by kernel_rfl) (by decide) h ?_
  clear h
  intro a w h
  refine env_one (i := 8) (d := 24) (k := .val (.bool false)) (step_move (by kernel_rfl) (Opd.of_base 23 rfl) rfl) (by kernel_rfl) (by decide) h ?_
  clear h
  intro a w h
  refine env_guard (i := 9) (d := 25) (g := 8) (dg := 24) (b := false) (k := .sat (nQ 0 (some r) l0)) (step_nfield3 (by kernel_rfl) (Opd.of_base 1 rfl) rfl) (by kernel_rfl) (by decide) (by kernel_rfl) (by decide) rfl h ?_
  clear h
  intro a w h
  refine env_guard (i := 10) (d := 26) (g := 8) (dg := 24) (b := false) (k := .sat (nR 0 (some r) l0)) (step_nload_row (by kernel_rfl) (Opd.of_base 25 rfl) rfl) (by kernel_rfl) (by decide) (by kernel_rfl) (by decide) rfl h ?_
  clear h
  intro a w h
  refine env_guard (i := 11) (d := 27) (g := 8) (dg := 24) (b := false) (k := .val (.int .i64 ((Tm.len l0 : Nat) : Int))) (step_len_row (by kernel_rfl) (Opd.ofR (Opd.of_base 26 rfl)) rfl) (by kernel_rfl) (by decide) (by kernel_rfl) (by decide) rfl h ?_
  clear h
  intro a w h
  refine env_guard (i := 12) (d := 28) (g := 8) (dg := 24) (b := false) (k := .val (.bool true)) (step_ne_int (m := ((Tm.len l0 : Nat) : Int)) (n := 2) (by kernel_rfl) (Opd.of_base 27 rfl) (Opd.const _) (by simpa using a3) rfl) (by kernel_rfl) (by decide) (by kernel_rfl) (by decide) rfl h ?_
  clear h
  intro a w h
  refine env_one (i := 13) (d := 29) (k := .val (.bool true)) (step_pick_no (x := .const (.bool true)) (by kernel_rfl) (Opd.of_base 24 rfl) (Opd.of_base 28 rfl) rfl) (by kernel_rfl) (by decide) h ?_
  clear h
  intro a w h
  exact hQ a w (h.keep [1, 2, 3, 4, 990, 5, 29])
theorem rInd5d_region {Q : Exit → Act → World → Prop} (p0 : Pay) (l0 : Fo) (nb r : Nat) (a1 : p0.1 = 3) (a2 : p0.2.2 = ⟨#[47]⟩) (a3 : ((Tm.len l0 : Nat) : Int) = 2) {w0 : World} {a : Act} {w : World} (hr : w0.heap.size ≤ r) (h : Hold 73 [(1, .sat (nP 0 (some r) p0 l0)), (2, .val (.string ⟨#[]⟩)), (3, .val (.int .i64 0)), (4, .sat (rC nb r zp .nil)), (990, .sat (gP nb (some r))), (5, .val (.bool false))] w0 a w)
    (hQ : ∀ a' w', Hold 73 [(1, .sat (nP 0 (some r) p0 l0)), (2, .val (.string ⟨#[]⟩)), (3, .val (.int .i64 0)), (4, .sat (rC nb r zp .nil)), (990, .sat (gP nb (some r))), (5, .val (.bool false)), (29, .val (.bool false))] w0 a' w' → Q .normal a' w') : (Code.region 5 rInd5Ops false).wp Try.prog Q a w := by
  refine region_seq (w0 := w) 14 (by kernel_rfl) ?_
  rw [show List.range 14 = [0, 1, 2, 3, 4, 5, 6, 7, 8, 9, 10, 11, 12, 13] from rfl]
  refine env_one (i := 0) (d := 16) (k := .ptrI (p0.1)) (step_field0 (by kernel_rfl) (Opd.ofP (Opd.of_base 1 rfl)) rfl) (by kernel_rfl) (by decide) h ?_
  clear h
  intro a w h
  refine env_one (i := 1) (d := 17) (k := .val (.int .i64 (p0.1))) (step_load_int3 (by kernel_rfl) (Opd.of_base 16 rfl) rfl) (by kernel_rfl) (by decide) h ?_
  clear h
  intro a w h
  refine env_one (i := 2) (d := 18) (k := .val (.bool false)) (step_ne_int (m := (p0.1)) (n := 3) (by kernel_rfl) (Opd.of_base 17 rfl) (Opd.const _) (by rw [a1]; rfl) rfl) (by kernel_rfl) (by decide) h ?_
  clear h
  intro a w h
  refine env_one (i := 3) (d := 19) (k := .val (.bool false)) (step_move (by kernel_rfl) (Opd.of_base 18 rfl) rfl) (by kernel_rfl) (by decide) h ?_
  clear h
  intro a w h
  refine env_guard (i := 4) (d := 20) (g := 3) (dg := 19) (b := false) (k := .ptrS (p0.2.2)) (step_field2 (by kernel_rfl) (Opd.ofP (Opd.of_base 1 rfl)) rfl) (by kernel_rfl) (by decide) (by kernel_rfl) (by decide) rfl h ?_
  clear h
  intro a w h
  refine env_guard (i := 5) (d := 21) (g := 3) (dg := 19) (b := false) (k := .val (.string (p0.2.2))) (step_load_string (by kernel_rfl) (Opd.of_base 20 rfl) rfl) (by kernel_rfl) (by decide) (by kernel_rfl) (by decide) rfl h ?_
  clear h
  intro a w h
  refine env_guard (i := 6) (d := 22) (g := 3) (dg := 19) (b := false) (k := .val (.bool false)) (step_ne_str (s := (p0.2.2)) (t := ⟨#[47]⟩) (by kernel_rfl) (Opd.of_base 21 rfl) (Opd.const _) (by rw [decide_eq_true a2]; rfl) rfl) (by kernel_rfl) (by decide) (by kernel_rfl) (by decide) rfl h ?_
  clear h
  intro a w h
  refine env_one (i := 7) (d := 23) (k := .val (.bool false)) (step_pick_no (x := .const (.bool true)) (by kernel_rfl) (Opd.of_base 19 rfl) (Opd.of_base 22 rfl) rfl) (by kernel_rfl) (by decide) h ?_
  clear h
  intro a w h
  refine env_one (i := 8) (d := 24) (k := .val (.bool false)) (step_move (by kernel_rfl) (Opd.of_base 23 rfl) rfl) (by kernel_rfl) (by decide) h ?_
  clear h
  intro a w h
  refine env_guard (i := 9) (d := 25) (g := 8) (dg := 24) (b := false) (k := .sat (nQ 0 (some r) l0)) (step_nfield3 (by kernel_rfl) (Opd.of_base 1 rfl) rfl) (by kernel_rfl) (by decide) (by kernel_rfl) (by decide) rfl h ?_
  clear h
  intro a w h
  refine env_guard (i := 10) (d := 26) (g := 8) (dg := 24) (b := false) (k := .sat (nR 0 (some r) l0)) (step_nload_row (by kernel_rfl) (Opd.of_base 25 rfl) rfl) (by kernel_rfl) (by decide) (by kernel_rfl) (by decide) rfl h ?_
  clear h
  intro a w h
  refine env_guard (i := 11) (d := 27) (g := 8) (dg := 24) (b := false) (k := .val (.int .i64 ((Tm.len l0 : Nat) : Int))) (step_len_row (by kernel_rfl) (Opd.ofR (Opd.of_base 26 rfl)) rfl) (by kernel_rfl) (by decide) (by kernel_rfl) (by decide) rfl h ?_
  clear h
  intro a w h
  refine env_guard (i := 12) (d := 28) (g := 8) (dg := 24) (b := false) (k := .val (.bool false)) (step_ne_int (m := ((Tm.len l0 : Nat) : Int)) (n := 2) (by kernel_rfl) (Opd.of_base 27 rfl) (Opd.const _) (by rw [a3]; rfl) rfl) (by kernel_rfl) (by decide) (by kernel_rfl) (by decide) rfl h ?_
  clear h
  intro a w h
  refine env_one (i := 13) (d := 29) (k := .val (.bool false)) (step_pick_no (x := .const (.bool true)) (by kernel_rfl) (Opd.of_base 24 rfl) (Opd.of_base 28 rfl) rfl) (by kernel_rfl) (by decide) h ?_
  clear h
  intro a w h
  exact hQ a w (h.keep [1, 2, 3, 4, 990, 5, 29])
theorem rInd7_region {Q : Exit → Act → World → Prop} (p0 : Pay) (l0 : Fo) (p1 : Pay) (l1 : Fo) (p2 : Pay) (l2 : Fo) (nb r : Nat) (hl : l0 = Bl.indT p1 l1 p2 l2) {w0 : World} {a : Act} {w : World} (h : Hold 73 [(1, .sat (nP 0 (some r) p0 l0)), (2, .val (.string ⟨#[]⟩)), (3, .val (.int .i64 0)), (4, .sat (rC nb r zp .nil)), (990, .sat (gP nb (some r))), (5, .val (.bool false))] w0 a w)
    (hQ : ∀ a' w', Hold 73 [(2, .val (.string ⟨#[]⟩)), (3, .val (.int .i64 0)), (4, .sat (rC nb r zp .nil)), (5, .val (.bool false)), (6, .sat (nP 0 (some r) p1 l1)), (7, .sat (nP 0 (some r) p2 l2)), (990, .sat (gP nb (some r)))] w0 a' w' → Q .normal a' w') : (Code.region 7 rInd7Ops true).wp Try.prog Q a w := by
  obtain ⟨b, o, A, c, e1, hb, hn⟩ := h.get 1 rfl
  subst hl
  have ha : ArgsIn (Ns 0 (some r) w) w A 2 (Bl.indT p1 l1 p2 l2) := hn.inn
  obtain ⟨b1, o1, q1, m1, r1, A1, c1, eA, hb1, hd1, hn1⟩ := ha.at (k := 0) (by decide)
  obtain ⟨b2, o2, q2, m2, r2, A2, c2, eA2, hb2, hd2, hn2⟩ := ha.at (k := 1) (by decide)
  have hd1' : Fo.node p1 l1 (.node p2 l2 .nil) = .node q1 m1 r1 := hd1
  have hd2' : Fo.node p2 l2 .nil = .node q2 m2 r2 := hd2
  cases hd1'
  cases hd2'
  subst eA
  injection eA2 with e
  injection e with e e'
  subst e e'
  obtain ⟨e4, hr4, _⟩ := h.get 4 rfl
  have s0 : RStep (strip rInd7Ops) Q (fun i => (([.val (.pointer (some ⟨b, o + 3, none⟩)), .val (.slice (some ⟨b1, o1, none⟩) 2 c), .val (.pointer (some ⟨b1, o1 + 0 * 4, none⟩)), .val (tv p1 A1 (Tm.len l1) c1), .val (.pointer (some ⟨b, o + 3, none⟩)), .val (.slice (some ⟨b1, o1, none⟩) 2 c), .val (.pointer (some ⟨b1, o1 + 1 * 4, none⟩)), .val (tv p2 A2 (Tm.len l2) c2), .any, .sat (zF w.heap.size), .any] : List Kd)[i]?).getD .any) (fun i => (([32, 33, 34, 35, 36, 37, 38, 39, 6, 7, 1010] : List Nat)[i]?).getD (1000 + i)) (look [(1, .val (.pointer (some ⟨b, o, none⟩))), (2, .val (.string ⟨#[]⟩)), (3, .val (.int .i64 0)), (5, .val (.bool false)), (4, .sat (rC nb r zp .nil)), (990, .sat (gP nb (some r))), (991, .sat (aft w))]) 73 0 := fun _ => step_vfield3 (by kernel_rfl) (Opd.of_base 1 rfl) rfl
  have s1 : RStep (strip rInd7Ops) Q (fun i => (([.val (.pointer (some ⟨b, o + 3, none⟩)), .val (.slice (some ⟨b1, o1, none⟩) 2 c), .val (.pointer (some ⟨b1, o1 + 0 * 4, none⟩)), .val (tv p1 A1 (Tm.len l1) c1), .val (.pointer (some ⟨b, o + 3, none⟩)), .val (.slice (some ⟨b1, o1, none⟩) 2 c), .val (.pointer (some ⟨b1, o1 + 1 * 4, none⟩)), .val (tv p2 A2 (Tm.len l2) c2), .any, .sat (zF w.heap.size), .any] : List Kd)[i]?).getD .any) (fun i => (([32, 33, 34, 35, 36, 37, 38, 39, 6, 7, 1010] : List Nat)[i]?).getD (1000 + i)) (look [(1, .val (.pointer (some ⟨b, o, none⟩))), (2, .val (.string ⟨#[]⟩)), (3, .val (.int .i64 0)), (5, .val (.bool false)), (4, .sat (rC nb r zp .nil)), (990, .sat (gP nb (some r))), (991, .sat (aft w))]) 73 1 := fun _ => step_vload_row hb.2.1 hn.args (by kernel_rfl) (Opd.dep 0 rfl rfl (by kernel_rfl)) (Opd.of_base 991 rfl) rfl
  have s2 : RStep (strip rInd7Ops) Q (fun i => (([.val (.pointer (some ⟨b, o + 3, none⟩)), .val (.slice (some ⟨b1, o1, none⟩) 2 c), .val (.pointer (some ⟨b1, o1 + 0 * 4, none⟩)), .val (tv p1 A1 (Tm.len l1) c1), .val (.pointer (some ⟨b, o + 3, none⟩)), .val (.slice (some ⟨b1, o1, none⟩) 2 c), .val (.pointer (some ⟨b1, o1 + 1 * 4, none⟩)), .val (tv p2 A2 (Tm.len l2) c2), .any, .sat (zF w.heap.size), .any] : List Kd)[i]?).getD .any) (fun i => (([32, 33, 34, 35, 36, 37, 38, 39, 6, 7, 1010] : List Nat)[i]?).getD (1000 + i)) (look [(1, .val (.pointer (some ⟨b, o, none⟩))), (2, .val (.string ⟨#[]⟩)), (3, .val (.int .i64 0)), (5, .val (.bool false)), (4, .sat (rC nb r zp .nil)), (990, .sat (gP nb (some r))), (991, .sat (aft w))]) 73 2 := fun _ => step_vindex (by decide) (by kernel_rfl) (Opd.dep 1 rfl rfl (by kernel_rfl)) (Opd.const _) rfl
  have s3 : RStep (strip rInd7Ops) Q (fun i => (([.val (.pointer (some ⟨b, o + 3, none⟩)), .val (.slice (some ⟨b1, o1, none⟩) 2 c), .val (.pointer (some ⟨b1, o1 + 0 * 4, none⟩)), .val (tv p1 A1 (Tm.len l1) c1), .val (.pointer (some ⟨b, o + 3, none⟩)), .val (.slice (some ⟨b1, o1, none⟩) 2 c), .val (.pointer (some ⟨b1, o1 + 1 * 4, none⟩)), .val (tv p2 A2 (Tm.len l2) c2), .any, .sat (zF w.heap.size), .any] : List Kd)[i]?).getD .any) (fun i => (([32, 33, 34, 35, 36, 37, 38, 39, 6, 7, 1010] : List Nat)[i]?).getD (1000 + i)) (look [(1, .val (.pointer (some ⟨b, o, none⟩))), (2, .val (.string ⟨#[]⟩)), (3, .val (.int .i64 0)), (5, .val (.bool false)), (4, .sat (rC nb r zp .nil)), (990, .sat (gP nb (some r))), (991, .sat (aft w))]) 73 3 := fun _ => step_vload hb1.2.1 hn1.kind hn1.num hn1.name hn1.args (by kernel_rfl) (Opd.dep 2 rfl rfl (by kernel_rfl)) (Opd.of_base 991 rfl) rfl
  have s4 : RStep (strip rInd7Ops) Q (fun i => (([.val (.pointer (some ⟨b, o + 3, none⟩)), .val (.slice (some ⟨b1, o1, none⟩) 2 c), .val (.pointer (some ⟨b1, o1 + 0 * 4, none⟩)), .val (tv p1 A1 (Tm.len l1) c1), .val (.pointer (some ⟨b, o + 3, none⟩)), .val (.slice (some ⟨b1, o1, none⟩) 2 c), .val (.pointer (some ⟨b1, o1 + 1 * 4, none⟩)), .val (tv p2 A2 (Tm.len l2) c2), .any, .sat (zF w.heap.size), .any] : List Kd)[i]?).getD .any) (fun i => (([32, 33, 34, 35, 36, 37, 38, 39, 6, 7, 1010] : List Nat)[i]?).getD (1000 + i)) (look [(1, .val (.pointer (some ⟨b, o, none⟩))), (2, .val (.string ⟨#[]⟩)), (3, .val (.int .i64 0)), (5, .val (.bool false)), (4, .sat (rC nb r zp .nil)), (990, .sat (gP nb (some r))), (991, .sat (aft w))]) 73 4 := fun _ => step_vfield3 (by kernel_rfl) (Opd.of_base 1 rfl) rfl
  have s5 : RStep (strip rInd7Ops) Q (fun i => (([.val (.pointer (some ⟨b, o + 3, none⟩)), .val (.slice (some ⟨b1, o1, none⟩) 2 c), .val (.pointer (some ⟨b1, o1 + 0 * 4, none⟩)), .val (tv p1 A1 (Tm.len l1) c1), .val (.pointer (some ⟨b, o + 3, none⟩)), .val (.slice (some ⟨b1, o1, none⟩) 2 c), .val (.pointer (some ⟨b1, o1 + 1 * 4, none⟩)), .val (tv p2 A2 (Tm.len l2) c2), .any, .sat (zF w.heap.size), .any] : List Kd)[i]?).getD .any) (fun i => (([32, 33, 34, 35, 36, 37, 38, 39, 6, 7, 1010] : List Nat)[i]?).getD (1000 + i)) (look [(1, .val (.pointer (some ⟨b, o, none⟩))), (2, .val (.string ⟨#[]⟩)), (3, .val (.int .i64 0)), (5, .val (.bool false)), (4, .sat (rC nb r zp .nil)), (990, .sat (gP nb (some r))), (991, .sat (aft w))]) 73 5 := fun _ => step_vload_row hb.2.1 hn.args (by kernel_rfl) (Opd.dep 4 rfl rfl (by kernel_rfl)) (Opd.of_base 991 rfl) rfl
  have s6 : RStep (strip rInd7Ops) Q (fun i => (([.val (.pointer (some ⟨b, o + 3, none⟩)), .val (.slice (some ⟨b1, o1, none⟩) 2 c), .val (.pointer (some ⟨b1, o1 + 0 * 4, none⟩)), .val (tv p1 A1 (Tm.len l1) c1), .val (.pointer (some ⟨b, o + 3, none⟩)), .val (.slice (some ⟨b1, o1, none⟩) 2 c), .val (.pointer (some ⟨b1, o1 + 1 * 4, none⟩)), .val (tv p2 A2 (Tm.len l2) c2), .any, .sat (zF w.heap.size), .any] : List Kd)[i]?).getD .any) (fun i => (([32, 33, 34, 35, 36, 37, 38, 39, 6, 7, 1010] : List Nat)[i]?).getD (1000 + i)) (look [(1, .val (.pointer (some ⟨b, o, none⟩))), (2, .val (.string ⟨#[]⟩)), (3, .val (.int .i64 0)), (5, .val (.bool false)), (4, .sat (rC nb r zp .nil)), (990, .sat (gP nb (some r))), (991, .sat (aft w))]) 73 6 := fun _ => step_vindex (by decide) (by kernel_rfl) (Opd.dep 5 rfl rfl (by kernel_rfl)) (Opd.const _) rfl
  have s7 : RStep (strip rInd7Ops) Q (fun i => (([.val (.pointer (some ⟨b, o + 3, none⟩)), .val (.slice (some ⟨b1, o1, none⟩) 2 c), .val (.pointer (some ⟨b1, o1 + 0 * 4, none⟩)), .val (tv p1 A1 (Tm.len l1) c1), .val (.pointer (some ⟨b, o + 3, none⟩)), .val (.slice (some ⟨b1, o1, none⟩) 2 c), .val (.pointer (some ⟨b1, o1 + 1 * 4, none⟩)), .val (tv p2 A2 (Tm.len l2) c2), .any, .sat (zF w.heap.size), .any] : List Kd)[i]?).getD .any) (fun i => (([32, 33, 34, 35, 36, 37, 38, 39, 6, 7, 1010] : List Nat)[i]?).getD (1000 + i)) (look [(1, .val (.pointer (some ⟨b, o, none⟩))), (2, .val (.string ⟨#[]⟩)), (3, .val (.int .i64 0)), (5, .val (.bool false)), (4, .sat (rC nb r zp .nil)), (990, .sat (gP nb (some r))), (991, .sat (aft w))]) 73 7 := fun _ => step_vload hb1.2.1 hn2.kind hn2.num hn2.name hn2.args (by kernel_rfl) (Opd.dep 6 rfl rfl (by kernel_rfl)) (Opd.of_base 991 rfl) rfl
  have hP : Hold 73 [(1, .val (.pointer (some ⟨b, o, none⟩))), (2, .val (.string ⟨#[]⟩)), (3, .val (.int .i64 0)), (5, .val (.bool false)), (4, .sat (rC nb r zp .nil)), (990, .sat (gP nb (some r))), (991, .sat (aft w))] w a w := ⟨h.size, h.defers, Below.refl _ _, (slots_cons 1 e1 (slots_cons 2 (h.get 2 rfl) (slots_cons 3 (h.get 3 rfl) (slots_cons 5 (h.get 5 rfl) (slots_cons 4 (h.get 4 rfl) (slots_cons 990 (h.get 990 rfl) (slots_cons 991 (Below.refl _ _) slots_nil)))))))⟩
  refine env_pair (m := 11) (n := 12) (i1 := 8) (i2 := 9) (s := 10) (jy := 3) (x := 6) (y := 35) (p := p1) (A := A1) (k := Tm.len l1) (c := c1) [32, 33, 34, 35, 36, 37, 38, 39, 6, 7, 1010] [.val (.pointer (some ⟨b, o + 3, none⟩)), .val (.slice (some ⟨b1, o1, none⟩) 2 c), .val (.pointer (some ⟨b1, o1 + 0 * 4, none⟩)), .val (tv p1 A1 (Tm.len l1) c1), .val (.pointer (some ⟨b, o + 3, none⟩)), .val (.slice (some ⟨b1, o1, none⟩) 2 c), .val (.pointer (some ⟨b1, o1 + 1 * 4, none⟩)), .val (tv p2 A2 (Tm.len l2) c2), .any, .sat (zF w.heap.size), .any] (by kernel_rfl) (by decide) (by decide) (by decide) (by decide) (by decide) (by decide) (by decide) (by decide) (by kernel_rfl) (by kernel_rfl) (by kernel_rfl) (by kernel_rfl) (by kernel_rfl) (by kernel_rfl) (by kernel_rfl) rfl rfl rfl (by kernel_rfl) rfl (of_decide_eq_true (by kernel_rfl)) (fun i hi h1 h2 h3 => ?_) rfl rfl rfl (ups_cons 1 (up_val _ _) (ups_cons 2 (up_val _ _) (ups_cons 3 (up_val _ _) (ups_cons 5 (up_val _ _) (ups_cons 4 (up_rC hr4) (ups_cons 990 (up_gP _ _ _) (ups_cons 991 (up_aft _) (ups_nil _)))))))) (fun j hj => ?_) hP ?_
  · rcases (show i = 0 ∨ i = 1 ∨ i = 2 ∨ i = 3 ∨ i = 4 ∨ i = 5 ∨ i = 6 ∨ i = 7 by omega) with rfl | rfl | rfl | rfl | rfl | rfl | rfl | rfl
    · exact s0
    · exact s1
    · exact s2
    · exact s3
    · exact s4
    · exact s5
    · exact s6
    · exact s7
  · match j, hj with
    | 0, _ => exact up_val _ _
    | 1, _ => exact up_val _ _
    | 2, _ => exact up_val _ _
    | 3, _ => exact up_val _ _
    | 4, _ => exact up_val _ _
    | 5, _ => exact up_val _ _
    | 6, _ => exact up_val _ _
    | 7, _ => exact up_val _ _
    | 8, _ => exact up_any _
    | 9, h => exact absurd rfl h
    | 10, _ => exact up_any _
    | _ + 11, _ => exact up_any _
  intro a' w' hne hone h2
  clear s0 s1 s2 s3 s4 s5 s6 s7
  show wpOps Try.prog _ Q [11] a' w'
  obtain ⟨x1, e6, hs1, hlt1, f1, t1⟩ := hone
  have e6 : a'.tmps.getD 6 undef = .pointer (some ⟨x1, 0, none⟩) := e6
  obtain ⟨x2, e7, hs2, hlt2, f2, B2, d2, t2⟩ := h2.get 7 rfl
  have hx : x1 ≠ x2 := fun e => hne (by
    show a'.tmps.getD 6 undef = a'.tmps.getD 7 undef
    rw [e6, e7, e])
  have e39 : a'.tmps.getD 39 undef = tv p2 A2 (Tm.len l2) c2 := h2.get 39 rfl
  have sd2 := stored w' x2 p2 zp A2 B2 (Tm.len l2) c2 0 d2 t2 f2
  refine wpOps_store (x := 7) (y := 39) (by kernel_rfl) e7 e39 t2 f2 ?_
  obtain ⟨w2, hw2⟩ : ∃ w2, w2 = set4 w' x2 0 p2 A2 (Tm.len l2) c2 := ⟨_, rfl⟩
  rw [← hw2] at sd2 ⊢
  have hsz : w2.heap.size = w'.heap.size := sd2.size
  have hup : w.heap.size ≤ w'.heap.size := h2.world.size
  have hbl : ∀ k, k ≠ x2 → w2.heap[k]? = w'.heap[k]? := fun k h2 => sd2.block k h2
  have hold : ∀ k, k < w.heap.size → w2.heap[k]? = w.heap[k]? := fun k hk => (hbl k (by omega)).trans (h2.world.block k hk)
  obtain ⟨e4', hr4', f4, A4, c4, t4, _⟩ := h2.get 4 rfl
  obtain ⟨g1, g2⟩ := h2.get 990 rfl
  have args : ∀ (A' : Option Addr) (n : Nat) (F : Fo), ArgsIn (Ns 0 (some r) w) w A' n F → ArgsIn (Ns 0 (some r) w2) w2 A' n F := fun A' n F ha => (ha.keep fun b hb => hold b hb.2.1).mono fun b hb => ⟨hb.1, by have := hb.2.1; omega, hb.2.2⟩
  have k4 : (Kd.sat (rC nb r zp .nil)).R (a'.tmps.getD 4 undef) w2 := ⟨e4', by omega, f4.same (hbl r (by omega)), A4, c4, t4.same (hbl r (by omega)), ArgsIn.nil _ _ _⟩
  have k990 : (Kd.sat (gP nb (some r))).R (a'.tmps.getD 990 undef) w2 := ⟨by rw [hsz]; exact g1, fun q hq => by rw [hsz]; exact g2 q hq⟩
  have T1 := t1.same (sd2.block x1 hx)
  have T2 := sd2.term
  have k6 : (Kd.sat (nP 0 (some r) p1 l1)).R (a'.tmps.getD 6 undef) w2 := ⟨x1, 0, A1, c1, e6, ⟨Nat.zero_le _, by omega, fun e => by injection e with e; omega⟩, T1.kind, T1.num, T1.name, T1.args, args _ _ _ hn1.inn⟩
  have k7 : (Kd.sat (nP 0 (some r) p2 l2)).R (a'.tmps.getD 7 undef) w2 := ⟨x2, 0, A2, c2, e7, ⟨Nat.zero_le _, by omega, fun e => by injection e with e; omega⟩, T2.kind, T2.num, T2.name, T2.args, args _ _ _ hn2.inn⟩
  exact hQ a' w2 ⟨h2.size, h2.defers, sd2.below _ _ (h.world.trans (h2.world.mono h.world.size)) (by have := h.world.size; omega), (slots_cons 2 (h2.get 2 rfl) (slots_cons 3 (h2.get 3 rfl) (slots_cons 4 k4 (slots_cons 5 (h2.get 5 rfl) (slots_cons 6 k6 (slots_cons 7 k7 (slots_cons 990 k990 slots_nil)))))))⟩
theorem rInd8a_region {Q : Exit → Act → World → Prop} (p0 : Pay) (l0 : Fo) (p1 : Pay) (l1 : Fo) (p2 : Pay) (l2 : Fo) (nb r : Nat) (g1 : p1.1 = 0) {w0 : World} {a : Act} {w : World} (hr : w0.heap.size ≤ r) (h : Hold 73 [(2, .val (.string ⟨#[]⟩)), (3, .val (.int .i64 0)), (4, .sat (rC nb r zp .nil)), (5, .val (.bool false)), (6, .sat (nP 0 (some r) p1 l1)), (7, .sat (nP 0 (some r) p2 l2)), (990, .sat (gP nb (some r)))] w0 a w)
    (hQ : ∀ a' w', Hold 73 [(2, .val (.string ⟨#[]⟩)), (3, .val (.int .i64 0)), (4, .sat (rC nb r zp .nil)), (5, .val (.bool false)), (6, .sat (nP 0 (some r) p1 l1)), (7, .sat (nP 0 (some r) p2 l2)), (990, .sat (gP nb (some r))), (47, .val (.bool true))] w0 a' w' → Q .normal a' w') : (Code.region 8 rInd8Ops false).wp Try.prog Q a w := by
  refine region_seq (w0 := w) 8 (by kernel_rfl) ?_
  rw [show List.range 8 = [0, 1, 2, 3, 4, 5, 6, 7] from rfl]
  refine env_one (i := 0) (d := 40) (k := .ptrI (p1.1)) (step_field0 (by kernel_rfl) (Opd.ofP (Opd.of_base 6 rfl)) rfl) (by kernel_rfl) (by decide) h ?_
  clear h
  intro a w h
  refine env_one (i := 1) (d := 41) (k := .val (.int .i64 (p1.1))) (step_load_int3 (by kernel_rfl) (Opd.of_base 40 rfl) rfl) (by kernel_rfl) (by decide) h ?_
  clear h
  intro a w h
  refine env_one (i := 2) (d := 42) (k := .val (.bool true)) (step_eqb_int (m := (p1.1)) (n := 0) (by kernel_rfl) (Opd.of_base 41 rfl) (Opd.const _) (by rw [g1]; rfl) rfl) (by kernel_rfl) (by decide) h ?_
  clear h
  intro a w h
  refine env_one (i := 3) (d := 43) (k := .val (.bool true)) (step_move (by kernel_rfl) (Opd.of_base 42 rfl) rfl) (by kernel_rfl) (by decide) h ?_
  clear h
  intro a w h
  refine env_skip (i := 4) (d := 44) (g := 3) (dg := 43) (b := false) (by kernel_rfl) (by decide) (by kernel_rfl) rfl rfl h ?_
  clear h
  intro a w h
  refine env_skip (i := 5) (d := 45) (g := 3) (dg := 43) (b := false) (by kernel_rfl) (by decide) (by kernel_rfl) rfl rfl h ?_
  clear h
  intro a w h
  refine env_skip (i := 6) (d := 46) (g := 3) (dg := 43) (b := false) (by kernel_rfl) (by decide) (by kernel_rfl) rfl rfl h ?_
  clear h
  intro a w h
  refine env_one (i := 7) (d := 47) (k := .val (.bool true)) (step_pick_yes (y := .tmp 46) (by kernel_rfl) (Opd.of_base 43 rfl) (Opd.const _) rfl) (by kernel_rfl) (by decide) h ?_
  clear h
  intro a w h
  exact hQ a w (h.keep [2, 3, 4, 5, 6, 7, 990, 47])
theorem rInd9a_region {Q : Exit → Act → World → Prop} (p0 : Pay) (l0 : Fo) (p1 : Pay) (l1 : Fo) (p2 : Pay) (l2 : Fo) (nb r : Nat)  {w0 : World} {a : Act} {w : World} (hr : w0.heap.size ≤ r) (h : Hold 73 [(2, .val (.string ⟨#[]⟩)), (3, .val (.int .i64 0)), (4, .sat (rC nb r zp .nil)), (5, .val (.bool false)), (6, .sat (nP 0 (some r) p1 l1)), (7, .sat (nP 0 (some r) p2 l2)), (990, .sat (gP nb (some r)))] w0 a w)
    (hQ : ∀ a' w', Hold 73 [(2, .val (.string ⟨#[]⟩)), (3, .val (.int .i64 0)), (5, .val (.bool false)), (6, .sat (nP 0 (some r) p1 l1)), (7, .sat (nP 0 (some r) p2 l2)), (990, .sat (gP nb (some r))), (4, .sat (rC nb r Bl.inst.1 Bl.inst.2))] w0 a' w' → Q .normal a' w') : (Code.region 9 rInd9Ops false).wp Try.prog Q a w := by
  refine region_seq (w0 := w) 5 (by kernel_rfl) ?_
  rw [show List.range 5 = [0, 1, 2, 3, 4] from rfl]
  refine env_one (i := 0) (d := 48) (k := .sat (nT nb (some r) Bl.inst.1 Bl.inst.2)) (step_rInst (g := 990) (by kernel_rfl)  (Opd.of_base 990 rfl) rfl) (by kernel_rfl) (by decide) h ?_
  clear h
  intro a w h
  refine env_one (i := 1) (d := 2) (k := .val (.string ⟨#[]⟩)) (step_assign (by kernel_rfl) (Opd.const _) rfl) (by kernel_rfl) (by decide) h ?_
  clear h
  intro a w h
  refine env_one (i := 2) (d := 3) (k := .val (.int .i64 0)) (step_assign (by kernel_rfl) (Opd.const _) rfl) (by kernel_rfl) (by decide) h ?_
  clear h
  intro a w h
  refine env_store (i := 3) (x := 4) (y := 48) (r := r) [(2, .val (.string ⟨#[]⟩)), (3, .val (.int .i64 0)), (5, .val (.bool false)), (6, .sat (nP 0 (some r) p1 l1)), (7, .sat (nP 0 (some r) p2 l2)), (990, .sat (gP nb (some r))), (48, .sat (nT nb (some r) Bl.inst.1 Bl.inst.2))] (by kernel_rfl) rfl rfl hr (stays_cons 2 rfl (away_val _ _) (stays_cons 3 rfl (away_val _ _) (stays_cons 5 rfl (away_val _ _) (stays_cons 6 rfl (away_nP _ _ _ _) (stays_cons 7 rfl (away_nP _ _ _ _) (stays_cons 990 rfl (away_gP _ _ _) (stays_cons 48 rfl (away_nT _ _ _ _) (stays_nil _ _)))))))) h ?_
  clear h
  intro a w h
  refine env_one (i := 4) (d := 5) (k := .val (.bool false)) (step_assign (by kernel_rfl) (Opd.const _) rfl) (by kernel_rfl) (by decide) h ?_
  clear h
  intro a w h
  exact hQ a w (h.keep [2, 3, 5, 6, 7, 990, 4])
theorem rInd8b_region {Q : Exit → Act → World → Prop} (p0 : Pay) (l0 : Fo) (p1 : Pay) (l1 : Fo) (p2 : Pay) (l2 : Fo) (nb r : Nat) (g1 : ¬ p1.1 = 0) (g2 : p2.1 = 0) {w0 : World} {a : Act} {w : World} (hr : w0.heap.size ≤ r) (h : Hold 73 [(2, .val (.string ⟨#[]⟩)), (3, .val (.int .i64 0)), (4, .sat (rC nb r zp .nil)), (5, .val (.bool false)), (6, .sat (nP 0 (some r) p1 l1)), (7, .sat (nP 0 (some r) p2 l2)), (990, .sat (gP nb (some r)))] w0 a w)
    (hQ : ∀ a' w', Hold 73 [(2, .val (.string ⟨#[]⟩)), (3, .val (.int .i64 0)), (4, .sat (rC nb r zp .nil)), (5, .val (.bool false)), (6, .sat (nP 0 (some r) p1 l1)), (7, .sat (nP 0 (some r) p2 l2)), (990, .sat (gP nb (some r))), (47, .val (.bool true))] w0 a' w' → Q .normal a' w') : (Code.region 8 rInd8Ops false).wp Try.prog Q a w := by
  refine region_seq (w0 := w) 8 (by kernel_rfl) ?_
  rw [show List.range 8 = [0, 1, 2, 3, 4, 5, 6, 7] from rfl]
  refine env_one (i := 0) (d := 40) (k := .ptrI (p1.1)) (step_field0 (by kernel_rfl) (Opd.ofP (Opd.of_base 6 rfl)) rfl) (by kernel_rfl) (by decide) h ?_
  clear h
  intro a w h
  refine env_one (i := 1) (d := 41) (k := .val (.int .i64 (p1.1))) (step_load_int3 (by kernel_rfl) (Opd.of_base 40 rfl) rfl) (by kernel_rfl) (by decide) h ?_
  clear h
  intro a w h
  refine env_one (i := 2) (d := 42) (k := .val (.bool false)) (step_eqb_int (m := (p1.1)) (n := 0) (by kernel_rfl) (Opd.of_base 41 rfl) (Opd.const _) (by simpa using g1) rfl) (by kernel_rfl) (by decide) h ?_
  clear h
  intro a w h
  refine env_one (i := 3) (d := 43) (k := .val (.bool false)) (step_move (by kernel_rfl) (Opd.of_base 42 rfl) rfl) (by kernel_rfl) (by decide) h ?_
  clear h
  intro a w h
  refine env_guard (i := 4) (d := 44) (g := 3) (dg := 43) (b := false) (k := .ptrI (p2.1)) (step_field0 (by kernel_rfl) (Opd.ofP (Opd.of_base 7 rfl)) rfl) (by kernel_rfl) (by decide) (by kernel_rfl) (by decide) rfl h ?_
  clear h
  intro a w h
  refine env_guard (i := 5) (d := 45) (g := 3) (dg := 43) (b := false) (k := .val (.int .i64 (p2.1))) (step_load_int3 (by kernel_rfl) (Opd.of_base 44 rfl) rfl) (by kernel_rfl) (by decide) (by kernel_rfl) (by decide) rfl h ?_
  clear h
  intro a w h
  refine env_guard (i := 6) (d := 46) (g := 3) (dg := 43) (b := false) (k := .val (.bool true)) (step_eqb_int (m := (p2.1)) (n := 0) (by kernel_rfl) (Opd.of_base 45 rfl) (Opd.const _) (by rw [g2]; rfl) rfl) (by kernel_rfl) (by decide) (by kernel_rfl) (by decide) rfl h ?_
  clear h
  intro a w h
  refine env_one (i := 7) (d := 47) (k := .val (.bool true)) (step_pick_no (x := .const (.bool true)) (by kernel_rfl) (Opd.of_base 43 rfl) (Opd.of_base 46 rfl) rfl) (by kernel_rfl) (by decide) h ?_
  clear h
  intro a w h
  exact hQ a w (h.keep [2, 3, 4, 5, 6, 7, 990, 47])
theorem rInd8c_region {Q : Exit → Act → World → Prop} (p0 : Pay) (l0 : Fo) (p1 : Pay) (l1 : Fo) (p2 : Pay) (l2 : Fo) (nb r : Nat) (g1 : ¬ p1.1 = 0) (g2 : ¬ p2.1 = 0) {w0 : World} {a : Act} {w : World} (hr : w0.heap.size ≤ r) (h : Hold 73 [(2, .val (.string ⟨#[]⟩)), (3, .val (.int .i64 0)), (4, .sat (rC nb r zp .nil)), (5, .val (.bool false)), (6, .sat (nP 0 (some r) p1 l1)), (7, .sat (nP 0 (some r) p2 l2)), (990, .sat (gP nb (some r)))] w0 a w)
    (hQ : ∀ a' w', Hold 73 [(2, .val (.string ⟨#[]⟩)), (3, .val (.int .i64 0)), (4, .sat (rC nb r zp .nil)), (5, .val (.bool false)), (6, .sat (nP 0 (some r) p1 l1)), (7, .sat (nP 0 (some r) p2 l2)), (990, .sat (gP nb (some r))), (47, .val (.bool false))] w0 a' w' → Q .normal a' w') : (Code.region 8 rInd8Ops false).wp Try.prog Q a w := by
  refine region_seq (w0 := w) 8 (by kernel_rfl) ?_
  rw [show List.range 8 = [0, 1, 2, 3, 4, 5, 6, 7] from rfl]
  refine env_one (i := 0) (d := 40) (k := .ptrI (p1.1)) (step_field0 (by kernel_rfl) (Opd.ofP (Opd.of_base 6 rfl)) rfl) (by kernel_rfl) (by decide) h ?_
  clear h
  intro a w h
  refine env_one (i := 1) (d := 41) (k := .val (.int .i64 (p1.1))) (step_load_int3 (by kernel_rfl) (Opd.of_base 40 rfl) rfl) (by kernel_rfl) (by decide) h ?_
  clear h
  intro a w h
  refine env_one (i := 2) (d := 42) (k := .val (.bool false)) (step_eqb_int (m := (p1.1)) (n := 0) (by kernel_rfl) (Opd.of_base 41 rfl) (Opd.const _) (by simpa using g1) rfl) (by kernel_rfl) (by decide) h ?_
  clear h
  intro a w h
  refine env_one (i := 3) (d := 43) (k := .val (.bool false)) (step_move (by kernel_rfl) (Opd.of_base 42 rfl) rfl) (by kernel_rfl) (by decide) h ?_
  clear h
  intro a w h
  refine env_guard (i := 4) (d := 44) (g := 3) (dg := 43) (b := false) (k := .ptrI (p2.1)) (step_field0 (by kernel_rfl) (Opd.ofP (Opd.of_base 7 rfl)) rfl) (by kernel_rfl) (by decide) (by kernel_rfl) (by decide) rfl h ?_
  clear h
  intro a w h
  refine env_guard (i := 5) (d := 45) (g := 3) (dg := 43) (b := false) (k := .val (.int .i64 (p2.1))) (step_load_int3 (by kernel_rfl) (Opd.of_base 44 rfl) rfl) (by kernel_rfl) (by decide) (by kernel_rfl) (by decide) rfl h ?_
  clear h
  intro a w h
  refine env_guard (i := 6) (d := 46) (g := 3) (dg := 43) (b := false) (k := .val (.bool false)) (step_eqb_int (m := (p2.1)) (n := 0) (by kernel_rfl) (Opd.of_base 45 rfl) (Opd.const _) (by simpa using g2) rfl) (by kernel_rfl) (by decide) (by kernel_rfl) (by decide) rfl h ?_
  clear h
  intro a w h
  refine env_one (i := 7) (d := 47) (k := .val (.bool false)) (step_pick_no (x := .const (.bool true)) (by kernel_rfl) (Opd.of_base 43 rfl) (Opd.of_base 46 rfl) rfl) (by kernel_rfl) (by decide) h ?_
  clear h
  intro a w h
  exact hQ a w (h.keep [2, 3, 4, 5, 6, 7, 990, 47])
theorem rInd10a_region {Q : Exit → Act → World → Prop} (p0 : Pay) (l0 : Fo) (p1 : Pay) (l1 : Fo) (p2 : Pay) (l2 : Fo) (nb r : Nat) (g3 : p1.1 = 2) {w0 : World} {a : Act} {w : World} (hr : w0.heap.size ≤ r) (h : Hold 73 [(2, .val (.string ⟨#[]⟩)), (3, .val (.int .i64 0)), (4, .sat (rC nb r zp .nil)), (5, .val (.bool false)), (6, .sat (nP 0 (some r) p1 l1)), (7, .sat (nP 0 (some r) p2 l2)), (990, .sat (gP nb (some r)))] w0 a w)
    (hQ : ∀ a' w', Hold 73 [(2, .val (.string ⟨#[]⟩)), (3, .val (.int .i64 0)), (4, .sat (rC nb r zp .nil)), (5, .val (.bool false)), (6, .sat (nP 0 (some r) p1 l1)), (7, .sat (nP 0 (some r) p2 l2)), (990, .sat (gP nb (some r))), (51, .val (.bool false))] w0 a' w' → Q .normal a' w') : (Code.region 10 rInd10Ops false).wp Try.prog Q a w := by
  refine region_seq (w0 := w) 3 (by kernel_rfl) ?_
  rw [show List.range 3 = [0, 1, 2] from rfl]
  refine env_one (i := 0) (d := 49) (k := .ptrI (p1.1)) (step_field0 (by kernel_rfl) (Opd.ofP (Opd.of_base 6 rfl)) rfl) (by kernel_rfl) (by decide) h ?_
  clear h
  intro a w h
  refine env_one (i := 1) (d := 50) (k := .val (.int .i64 (p1.1))) (step_load_int3 (by kernel_rfl) (Opd.of_base 49 rfl) rfl) (by kernel_rfl) (by decide) h ?_
  clear h
  intro a w h
  refine env_one (i := 2) (d := 51) (k := .val (.bool false)) (step_ne_int (m := (p1.1)) (n := 2) (by kernel_rfl) (Opd.of_base 50 rfl) (Opd.const _) (by rw [g3]; rfl) rfl) (by kernel_rfl) (by decide) h ?_
  clear h
  intro a w h
  exact hQ a w (h.keep [2, 3, 4, 5, 6, 7, 990, 51])
theorem rInd12a_region {Q : Exit → Act → World → Prop} (p0 : Pay) (l0 : Fo) (p1 : Pay) (l1 : Fo) (p2 : Pay) (l2 : Fo) (nb r : Nat) (g4 : p2.1 = 1) {w0 : World} {a : Act} {w : World} (hr : w0.heap.size ≤ r) (h : Hold 73 [(2, .val (.string ⟨#[]⟩)), (3, .val (.int .i64 0)), (4, .sat (rC nb r zp .nil)), (5, .val (.bool false)), (6, .sat (nP 0 (some r) p1 l1)), (7, .sat (nP 0 (some r) p2 l2)), (990, .sat (gP nb (some r)))] w0 a w)
    (hQ : ∀ a' w', Hold 73 [(2, .val (.string ⟨#[]⟩)), (3, .val (.int .i64 0)), (4, .sat (rC nb r zp .nil)), (5, .val (.bool false)), (6, .sat (nP 0 (some r) p1 l1)), (7, .sat (nP 0 (some r) p2 l2)), (990, .sat (gP nb (some r))), (56, .val (.bool false))] w0 a' w' → Q .normal a' w') : (Code.region 12 rInd12Ops false).wp Try.prog Q a w := by
  refine region_seq (w0 := w) 3 (by kernel_rfl) ?_
  rw [show List.range 3 = [0, 1, 2] from rfl]
  refine env_one (i := 0) (d := 54) (k := .ptrI (p2.1)) (step_field0 (by kernel_rfl) (Opd.ofP (Opd.of_base 7 rfl)) rfl) (by kernel_rfl) (by decide) h ?_
  clear h
  intro a w h
  refine env_one (i := 1) (d := 55) (k := .val (.int .i64 (p2.1))) (step_load_int3 (by kernel_rfl) (Opd.of_base 54 rfl) rfl) (by kernel_rfl) (by decide) h ?_
  clear h
  intro a w h
  refine env_one (i := 2) (d := 56) (k := .val (.bool false)) (step_ne_int (m := (p2.1)) (n := 1) (by kernel_rfl) (Opd.of_base 55 rfl) (Opd.const _) (by rw [g4]; rfl) rfl) (by kernel_rfl) (by decide) h ?_
  clear h
  intro a w h
  exact hQ a w (h.keep [2, 3, 4, 5, 6, 7, 990, 56])
theorem rInd14a_region {Q : Exit → Act → World → Prop} (p0 : Pay) (l0 : Fo) (p1 : Pay) (l1 : Fo) (p2 : Pay) (l2 : Fo) (nb r : Nat) (g5 : p2.2.1 < 0) {w0 : World} {a : Act} {w : World} (hr : w0.heap.size ≤ r) (h : Hold 73 [(2, .val (.string ⟨#[]⟩)), (3, .val (.int .i64 0)), (4, .sat (rC nb r zp .nil)), (5, .val (.bool false)), (6, .sat (nP 0 (some r) p1 l1)), (7, .sat (nP 0 (some r) p2 l2)), (990, .sat (gP nb (some r)))] w0 a w)
    (hQ : ∀ a' w', Hold 73 [(2, .val (.string ⟨#[]⟩)), (3, .val (.int .i64 0)), (4, .sat (rC nb r zp .nil)), (5, .val (.bool false)), (6, .sat (nP 0 (some r) p1 l1)), (7, .sat (nP 0 (some r) p2 l2)), (990, .sat (gP nb (some r))), (61, .val (.bool true))] w0 a' w' → Q .normal a' w') : (Code.region 14 rInd14Ops false).wp Try.prog Q a w := by
  refine region_seq (w0 := w) 3 (by kernel_rfl) ?_
  rw [show List.range 3 = [0, 1, 2] from rfl]
  refine env_one (i := 0) (d := 59) (k := .ptrI (p2.2.1)) (step_field1 (by kernel_rfl) (Opd.ofP (Opd.of_base 7 rfl)) rfl) (by kernel_rfl) (by decide) h ?_
  clear h
  intro a w h
  refine env_one (i := 1) (d := 60) (k := .val (.int .i64 (p2.2.1))) (step_load_int (by kernel_rfl) (Opd.of_base 59 rfl) rfl) (by kernel_rfl) (by decide) h ?_
  clear h
  intro a w h
  refine env_one (i := 2) (d := 61) (k := .val (.bool true)) (step_lt_int64 (m := (p2.2.1)) (n := 0) (by kernel_rfl) (Opd.of_base 60 rfl) (Opd.const _) (decide_eq_true g5) rfl) (by kernel_rfl) (by decide) h ?_
  clear h
  intro a w h
  exact hQ a w (h.keep [2, 3, 4, 5, 6, 7, 990, 61])
theorem rInd15a_region {Q : Exit → Act → World → Prop} (p0 : Pay) (l0 : Fo) (p1 : Pay) (l1 : Fo) (p2 : Pay) (l2 : Fo) (nb r : Nat)  {w0 : World} {a : Act} {w : World} (hr : w0.heap.size ≤ r) (h : Hold 73 [(2, .val (.string ⟨#[]⟩)), (3, .val (.int .i64 0)), (4, .sat (rC nb r zp .nil)), (5, .val (.bool false)), (6, .sat (nP 0 (some r) p1 l1)), (7, .sat (nP 0 (some r) p2 l2)), (990, .sat (gP nb (some r)))] w0 a w)
    (hQ : ∀ a' w', Hold 73 [(2, .val (.string ⟨#[]⟩)), (3, .val (.int .i64 0)), (5, .val (.bool false)), (6, .sat (nP 0 (some r) p1 l1)), (7, .sat (nP 0 (some r) p2 l2)), (990, .sat (gP nb (some r))), (4, .sat (rC nb r ((Bl.dom (⟨#[110, 111, 116, 95, 108, 101, 115, 115, 95, 116, 104, 97, 110, 95, 122, 101, 114, 111]⟩) p2 l2).1) ((Bl.dom (⟨#[110, 111, 116, 95, 108, 101, 115, 115, 95, 116, 104, 97, 110, 95, 122, 101, 114, 111]⟩) p2 l2).2)))] w0 a' w' → Q .normal a' w') : (Code.region 15 rInd15Ops false).wp Try.prog Q a w := by
  refine region_seq (w0 := w) 6 (by kernel_rfl) ?_
  rw [show List.range 6 = [0, 1, 2, 3, 4, 5] from rfl]
  refine env_one (i := 0) (d := 62) (k := .sat (nT 0 (some r) p2 l2)) (step_nload (by kernel_rfl) (Opd.of_base 7 rfl) rfl) (by kernel_rfl) (by decide) h ?_
  clear h
  intro a w h
  refine env_one (i := 1) (d := 63) (k := .sat (nT nb (some r) ((Bl.dom (⟨#[110, 111, 116, 95, 108, 101, 115, 115, 95, 116, 104, 97, 110, 95, 122, 101, 114, 111]⟩) p2 l2).1) ((Bl.dom (⟨#[110, 111, 116, 95, 108, 101, 115, 115, 95, 116, 104, 97, 110, 95, 122, 101, 114, 111]⟩) p2 l2).2))) (step_rDom (g := 990) (by kernel_rfl) (Opd.const _) (Opd.ofT (Opd.of_base 62 rfl)) (Opd.of_base 990 rfl) rfl) (by kernel_rfl) (by decide) h ?_
  clear h
  intro a w h
  refine env_one (i := 2) (d := 2) (k := .val (.string ⟨#[]⟩)) (step_assign (by kernel_rfl) (Opd.const _) rfl) (by kernel_rfl) (by decide) h ?_
  clear h
  intro a w h
  refine env_one (i := 3) (d := 3) (k := .val (.int .i64 0)) (step_assign (by kernel_rfl) (Opd.const _) rfl) (by kernel_rfl) (by decide) h ?_
  clear h
  intro a w h
  refine env_store (i := 4) (x := 4) (y := 63) (r := r) [(2, .val (.string ⟨#[]⟩)), (3, .val (.int .i64 0)), (5, .val (.bool false)), (6, .sat (nP 0 (some r) p1 l1)), (7, .sat (nP 0 (some r) p2 l2)), (990, .sat (gP nb (some r))), (62, .sat (nT 0 (some r) p2 l2)), (63, .sat (nT nb (some r) ((Bl.dom (⟨#[110, 111, 116, 95, 108, 101, 115, 115, 95, 116, 104, 97, 110, 95, 122, 101, 114, 111]⟩) p2 l2).1) ((Bl.dom (⟨#[110, 111, 116, 95, 108, 101, 115, 115, 95, 116, 104, 97, 110, 95, 122, 101, 114, 111]⟩) p2 l2).2)))] (by kernel_rfl) rfl rfl hr (stays_cons 2 rfl (away_val _ _) (stays_cons 3 rfl (away_val _ _) (stays_cons 5 rfl (away_val _ _) (stays_cons 6 rfl (away_nP _ _ _ _) (stays_cons 7 rfl (away_nP _ _ _ _) (stays_cons 990 rfl (away_gP _ _ _) (stays_cons 62 rfl (away_nT _ _ _ _) (stays_cons 63 rfl (away_nT _ _ _ _) (stays_nil _ _))))))))) h ?_
  clear h
  intro a w h
  refine env_one (i := 5) (d := 5) (k := .val (.bool false)) (step_assign (by kernel_rfl) (Opd.const _) rfl) (by kernel_rfl) (by decide) h ?_
  clear h
  intro a w h
  exact hQ a w (h.keep [2, 3, 5, 6, 7, 990, 4])
theorem rInd14b_region {Q : Exit → Act → World → Prop} (p0 : Pay) (l0 : Fo) (p1 : Pay) (l1 : Fo) (p2 : Pay) (l2 : Fo) (nb r : Nat) (g5 : ¬ p2.2.1 < 0) {w0 : World} {a : Act} {w : World} (hr : w0.heap.size ≤ r) (h : Hold 73 [(2, .val (.string ⟨#[]⟩)), (3, .val (.int .i64 0)), (4, .sat (rC nb r zp .nil)), (5, .val (.bool false)), (6, .sat (nP 0 (some r) p1 l1)), (7, .sat (nP 0 (some r) p2 l2)), (990, .sat (gP nb (some r)))] w0 a w)
    (hQ : ∀ a' w', Hold 73 [(2, .val (.string ⟨#[]⟩)), (3, .val (.int .i64 0)), (4, .sat (rC nb r zp .nil)), (5, .val (.bool false)), (6, .sat (nP 0 (some r) p1 l1)), (7, .sat (nP 0 (some r) p2 l2)), (990, .sat (gP nb (some r))), (61, .val (.bool false))] w0 a' w' → Q .normal a' w') : (Code.region 14 rInd14Ops false).wp Try.prog Q a w := by
  refine region_seq (w0 := w) 3 (by kernel_rfl) ?_
  rw [show List.range 3 = [0, 1, 2] from rfl]
  refine env_one (i := 0) (d := 59) (k := .ptrI (p2.2.1)) (step_field1 (by kernel_rfl) (Opd.ofP (Opd.of_base 7 rfl)) rfl) (by kernel_rfl) (by decide) h ?_
  clear h
  intro a w h
  refine env_one (i := 1) (d := 60) (k := .val (.int .i64 (p2.2.1))) (step_load_int (by kernel_rfl) (Opd.of_base 59 rfl) rfl) (by kernel_rfl) (by decide) h ?_
  clear h
  intro a w h
  refine env_one (i := 2) (d := 61) (k := .val (.bool false)) (step_lt_int64 (m := (p2.2.1)) (n := 0) (by kernel_rfl) (Opd.of_base 60 rfl) (Opd.const _) (decide_eq_false g5) rfl) (by kernel_rfl) (by decide) h ?_
  clear h
  intro a w h
  exact hQ a w (h.keep [2, 3, 4, 5, 6, 7, 990, 61])
theorem rInd16a_region {Q : Exit → Act → World → Prop} (p0 : Pay) (l0 : Fo) (p1 : Pay) (l1 : Fo) (p2 : Pay) (l2 : Fo) (nb r : Nat) (g6 : 8 < p2.2.1) {w0 : World} {a : Act} {w : World} (hr : w0.heap.size ≤ r) (h : Hold 73 [(2, .val (.string ⟨#[]⟩)), (3, .val (.int .i64 0)), (4, .sat (rC nb r zp .nil)), (5, .val (.bool false)), (6, .sat (nP 0 (some r) p1 l1)), (7, .sat (nP 0 (some r) p2 l2)), (990, .sat (gP nb (some r)))] w0 a w)
    (hQ : ∀ a' w', Hold 73 [(2, .val (.string ⟨#[]⟩)), (3, .val (.int .i64 0)), (4, .sat (rC nb r zp .nil)), (5, .val (.bool false)), (6, .sat (nP 0 (some r) p1 l1)), (7, .sat (nP 0 (some r) p2 l2)), (990, .sat (gP nb (some r))), (66, .val (.bool true))] w0 a' w' → Q .normal a' w') : (Code.region 16 rInd16Ops false).wp Try.prog Q a w := by
  refine region_seq (w0 := w) 3 (by kernel_rfl) ?_
  rw [show List.range 3 = [0, 1, 2] from rfl]
  refine env_one (i := 0) (d := 64) (k := .ptrI (p2.2.1)) (step_field1 (by kernel_rfl) (Opd.ofP (Opd.of_base 7 rfl)) rfl) (by kernel_rfl) (by decide) h ?_
  clear h
  intro a w h
  refine env_one (i := 1) (d := 65) (k := .val (.int .i64 (p2.2.1))) (step_load_int (by kernel_rfl) (Opd.of_base 64 rfl) rfl) (by kernel_rfl) (by decide) h ?_
  clear h
  intro a w h
  refine env_one (i := 2) (d := 66) (k := .val (.bool true)) (step_gt_int64 (m := (p2.2.1)) (n := 8) (by kernel_rfl) (Opd.of_base 65 rfl) (Opd.const _) (decide_eq_true g6) rfl) (by kernel_rfl) (by decide) h ?_
  clear h
  intro a w h
  exact hQ a w (h.keep [2, 3, 4, 5, 6, 7, 990, 66])
theorem rInd17a_region {Q : Exit → Act → World → Prop} (p0 : Pay) (l0 : Fo) (p1 : Pay) (l1 : Fo) (p2 : Pay) (l2 : Fo) (nb r : Nat)  {w0 : World} {a : Act} {w : World} (hr : w0.heap.size ≤ r) (h : Hold 73 [(2, .val (.string ⟨#[]⟩)), (3, .val (.int .i64 0)), (4, .sat (rC nb r zp .nil)), (5, .val (.bool false)), (6, .sat (nP 0 (some r) p1 l1)), (7, .sat (nP 0 (some r) p2 l2)), (990, .sat (gP nb (some r)))] w0 a w)
    (hQ : ∀ a' w', Hold 73 [(2, .val (.string ⟨#[]⟩)), (3, .val (.int .i64 0)), (5, .val (.bool false)), (6, .sat (nP 0 (some r) p1 l1)), (7, .sat (nP 0 (some r) p2 l2)), (990, .sat (gP nb (some r))), (4, .sat (rC nb r ((Bl.rep (⟨#[109, 97, 120, 95, 97, 114, 105, 116, 121]⟩)).1) ((Bl.rep (⟨#[109, 97, 120, 95, 97, 114, 105, 116, 121]⟩)).2)))] w0 a' w' → Q .normal a' w') : (Code.region 17 rInd17Ops false).wp Try.prog Q a w := by
  refine region_seq (w0 := w) 5 (by kernel_rfl) ?_
  rw [show List.range 5 = [0, 1, 2, 3, 4] from rfl]
  refine env_one (i := 0) (d := 67) (k := .sat (nT nb (some r) ((Bl.rep (⟨#[109, 97, 120, 95, 97, 114, 105, 116, 121]⟩)).1) ((Bl.rep (⟨#[109, 97, 120, 95, 97, 114, 105, 116, 121]⟩)).2))) (step_rRep (g := 990) (by kernel_rfl) (Opd.const _) (Opd.of_base 990 rfl) rfl) (by kernel_rfl) (by decide) h ?_
  clear h
  intro a w h
  refine env_one (i := 1) (d := 2) (k := .val (.string ⟨#[]⟩)) (step_assign (by kernel_rfl) (Opd.const _) rfl) (by kernel_rfl) (by decide) h ?_
  clear h
  intro a w h
  refine env_one (i := 2) (d := 3) (k := .val (.int .i64 0)) (step_assign (by kernel_rfl) (Opd.const _) rfl) (by kernel_rfl) (by decide) h ?_
  clear h
  intro a w h
  refine env_store (i := 3) (x := 4) (y := 67) (r := r) [(2, .val (.string ⟨#[]⟩)), (3, .val (.int .i64 0)), (5, .val (.bool false)), (6, .sat (nP 0 (some r) p1 l1)), (7, .sat (nP 0 (some r) p2 l2)), (990, .sat (gP nb (some r))), (67, .sat (nT nb (some r) ((Bl.rep (⟨#[109, 97, 120, 95, 97, 114, 105, 116, 121]⟩)).1) ((Bl.rep (⟨#[109, 97, 120, 95, 97, 114, 105, 116, 121]⟩)).2)))] (by kernel_rfl) rfl rfl hr (stays_cons 2 rfl (away_val _ _) (stays_cons 3 rfl (away_val _ _) (stays_cons 5 rfl (away_val _ _) (stays_cons 6 rfl (away_nP _ _ _ _) (stays_cons 7 rfl (away_nP _ _ _ _) (stays_cons 990 rfl (away_gP _ _ _) (stays_cons 67 rfl (away_nT _ _ _ _) (stays_nil _ _)))))))) h ?_
  clear h
  intro a w h
  refine env_one (i := 4) (d := 5) (k := .val (.bool false)) (step_assign (by kernel_rfl) (Opd.const _) rfl) (by kernel_rfl) (by decide) h ?_
  clear h
  intro a w h
  exact hQ a w (h.keep [2, 3, 5, 6, 7, 990, 4])
theorem rInd16b_region {Q : Exit → Act → World → Prop} (p0 : Pay) (l0 : Fo) (p1 : Pay) (l1 : Fo) (p2 : Pay) (l2 : Fo) (nb r : Nat) (g6 : ¬ 8 < p2.2.1) {w0 : World} {a : Act} {w : World} (hr : w0.heap.size ≤ r) (h : Hold 73 [(2, .val (.string ⟨#[]⟩)), (3, .val (.int .i64 0)), (4, .sat (rC nb r zp .nil)), (5, .val (.bool false)), (6, .sat (nP 0 (some r) p1 l1)), (7, .sat (nP 0 (some r) p2 l2)), (990, .sat (gP nb (some r)))] w0 a w)
    (hQ : ∀ a' w', Hold 73 [(2, .val (.string ⟨#[]⟩)), (3, .val (.int .i64 0)), (4, .sat (rC nb r zp .nil)), (5, .val (.bool false)), (6, .sat (nP 0 (some r) p1 l1)), (7, .sat (nP 0 (some r) p2 l2)), (990, .sat (gP nb (some r))), (66, .val (.bool false))] w0 a' w' → Q .normal a' w') : (Code.region 16 rInd16Ops false).wp Try.prog Q a w := by
  refine region_seq (w0 := w) 3 (by kernel_rfl) ?_
  rw [show List.range 3 = [0, 1, 2] from rfl]
  refine env_one (i := 0) (d := 64) (k := .ptrI (p2.2.1)) (step_field1 (by kernel_rfl) (Opd.ofP (Opd.of_base 7 rfl)) rfl) (by kernel_rfl) (by decide) h ?_
  clear h
  intro a w h
  refine env_one (i := 1) (d := 65) (k := .val (.int .i64 (p2.2.1))) (step_load_int (by kernel_rfl) (Opd.of_base 64 rfl) rfl) (by kernel_rfl) (by decide) h ?_
  clear h
  intro a w h
  refine env_one (i := 2) (d := 66) (k := .val (.bool false)) (step_gt_int64 (m := (p2.2.1)) (n := 8) (by kernel_rfl) (Opd.of_base 65 rfl) (Opd.const _) (decide_eq_false g6) rfl) (by kernel_rfl) (by decide) h ?_
  clear h
  intro a w h
  exact hQ a w (h.keep [2, 3, 4, 5, 6, 7, 990, 66])
def rInd18aEs (p0 : Pay) (l0 : Fo) (p1 : Pay) (l1 : Fo) (p2 : Pay) (l2 : Fo) (nb r : Nat) : List Kd := [
  .ptrS (p1.2.2),
  .val (.string (p1.2.2)),
  .ptrI (p2.2.1),
  .val (.int .i64 (p2.2.1)),
  .sat (nT nb (some r) zp .nil),
  .val (.string (p1.2.2)),
  .val (.int .i64 (p2.2.1))]
def rInd18aDs : List Nat := [68, 69, 70, 71, 72, 2, 3]
def rInd18aEnv (p0 : Pay) (l0 : Fo) (p1 : Pay) (l1 : Fo) (p2 : Pay) (l2 : Fo) (nb r : Nat) : Env := [(4, .sat (rC nb r zp .nil)), (5, .val (.bool false)), (6, .sat (nP 0 (some r) p1 l1)), (7, .sat (nP 0 (some r) p2 l2)), (990, .sat (gP nb (some r)))]
theorem rInd18a_0 {Q : Exit → Act → World → Prop} (p0 : Pay) (l0 : Fo) (p1 : Pay) (l1 : Fo) (p2 : Pay) (l2 : Fo) (nb r : Nat)  : RStep (strip rInd18Ops) Q (fun i => ((rInd18aEs p0 l0 p1 l1 p2 l2 nb r)[i]?).getD .any) (fun i => (rInd18aDs[i]?).getD (1000 + i)) (look (rInd18aEnv p0 l0 p1 l1 p2 l2 nb r)) 73 0 := fun _ => step_field2 (by kernel_rfl) (Opd.ofP (Opd.of_base 6 rfl)) rfl
theorem rInd18a_1 {Q : Exit → Act → World → Prop} (p0 : Pay) (l0 : Fo) (p1 : Pay) (l1 : Fo) (p2 : Pay) (l2 : Fo) (nb r : Nat)  : RStep (strip rInd18Ops) Q (fun i => ((rInd18aEs p0 l0 p1 l1 p2 l2 nb r)[i]?).getD .any) (fun i => (rInd18aDs[i]?).getD (1000 + i)) (look (rInd18aEnv p0 l0 p1 l1 p2 l2 nb r)) 73 1 := fun _ => step_load_string (by kernel_rfl) (Opd.dep 0 rfl rfl (by kernel_rfl)) rfl
theorem rInd18a_2 {Q : Exit → Act → World → Prop} (p0 : Pay) (l0 : Fo) (p1 : Pay) (l1 : Fo) (p2 : Pay) (l2 : Fo) (nb r : Nat)  : RStep (strip rInd18Ops) Q (fun i => ((rInd18aEs p0 l0 p1 l1 p2 l2 nb r)[i]?).getD .any) (fun i => (rInd18aDs[i]?).getD (1000 + i)) (look (rInd18aEnv p0 l0 p1 l1 p2 l2 nb r)) 73 2 := fun _ => step_field1 (by kernel_rfl) (Opd.ofP (Opd.of_base 7 rfl)) rfl
theorem rInd18a_3 {Q : Exit → Act → World → Prop} (p0 : Pay) (l0 : Fo) (p1 : Pay) (l1 : Fo) (p2 : Pay) (l2 : Fo) (nb r : Nat)  : RStep (strip rInd18Ops) Q (fun i => ((rInd18aEs p0 l0 p1 l1 p2 l2 nb r)[i]?).getD .any) (fun i => (rInd18aDs[i]?).getD (1000 + i)) (look (rInd18aEnv p0 l0 p1 l1 p2 l2 nb r)) 73 3 := fun _ => step_load_int (by kernel_rfl) (Opd.dep 2 rfl rfl (by kernel_rfl)) rfl
theorem rInd18a_4 {Q : Exit → Act → World → Prop} (p0 : Pay) (l0 : Fo) (p1 : Pay) (l1 : Fo) (p2 : Pay) (l2 : Fo) (nb r : Nat)  : RStep (strip rInd18Ops) Q (fun i => ((rInd18aEs p0 l0 p1 l1 p2 l2 nb r)[i]?).getD .any) (fun i => (rInd18aDs[i]?).getD (1000 + i)) (look (rInd18aEnv p0 l0 p1 l1 p2 l2 nb r)) 73 4 := fun _ => step_nzero (by kernel_rfl) rfl
theorem rInd18a_5 {Q : Exit → Act → World → Prop} (p0 : Pay) (l0 : Fo) (p1 : Pay) (l1 : Fo) (p2 : Pay) (l2 : Fo) (nb r : Nat)  : RStep (strip rInd18Ops) Q (fun i => ((rInd18aEs p0 l0 p1 l1 p2 l2 nb r)[i]?).getD .any) (fun i => (rInd18aDs[i]?).getD (1000 + i)) (look (rInd18aEnv p0 l0 p1 l1 p2 l2 nb r)) 73 5 := fun _ => step_assign (by kernel_rfl) (Opd.dep 1 rfl rfl (by kernel_rfl)) rfl
theorem rInd18a_6 {Q : Exit → Act → World → Prop} (p0 : Pay) (l0 : Fo) (p1 : Pay) (l1 : Fo) (p2 : Pay) (l2 : Fo) (nb r : Nat)  : RStep (strip rInd18Ops) Q (fun i => ((rInd18aEs p0 l0 p1 l1 p2 l2 nb r)[i]?).getD .any) (fun i => (rInd18aDs[i]?).getD (1000 + i)) (look (rInd18aEnv p0 l0 p1 l1 p2 l2 nb r)) 73 6 := fun _ => step_assign (by kernel_rfl) (Opd.dep 3 rfl rfl (by kernel_rfl)) rfl
theorem rInd18a_region {Q : Exit → Act → World → Prop} (p0 : Pay) (l0 : Fo) (p1 : Pay) (l1 : Fo) (p2 : Pay) (l2 : Fo) (nb r : Nat)  {w0 : World} {a : Act} {w : World} (hr : w0.heap.size ≤ r) (h : Hold 73 [(4, .sat (rC nb r zp .nil)), (5, .val (.bool false)), (6, .sat (nP 0 (some r) p1 l1)), (7, .sat (nP 0 (some r) p2 l2)), (990, .sat (gP nb (some r)))] w0 a w)
    (hQ : ∀ a' w', Hold 73 [(5, .val (.bool true)), (990, .sat (gP nb (some r))), (2, .val (.string (p1.2.2))), (3, .val (.int .i64 (p2.2.1))), (4, .sat (rC nb r zp .nil))] w0 a' w' → Q .normal a' w') : (Code.region 18 rInd18Ops true).wp Try.prog Q a w := by
  have hall : ∀ i, i < 0 → RStep (strip rInd18Ops) Q (fun i => ((rInd18aEs p0 l0 p1 l1 p2 l2 nb r)[i]?).getD .any) (fun i => (rInd18aDs[i]?).getD (1000 + i)) (look (rInd18aEnv p0 l0 p1 l1 p2 l2 nb r)) 73 i := fun i hi => absurd hi (by omega)
  have hall := below_succ hall (rInd18a_0 p0 l0 p1 l1 p2 l2 nb r )
  have hall := below_succ hall (rInd18a_1 p0 l0 p1 l1 p2 l2 nb r )
  have hall := below_succ hall (rInd18a_2 p0 l0 p1 l1 p2 l2 nb r )
  have hall := below_succ hall (rInd18a_3 p0 l0 p1 l1 p2 l2 nb r )
  have hall := below_succ hall (rInd18a_4 p0 l0 p1 l1 p2 l2 nb r )
  have hall := below_succ hall (rInd18a_5 p0 l0 p1 l1 p2 l2 nb r )
  have hall := below_succ hall (rInd18a_6 p0 l0 p1 l1 p2 l2 nb r )
  refine env_then (m := 7) (n := 9) rInd18aDs (rInd18aEs p0 l0 p1 l1 p2 l2 nb r) rfl (by kernel_rfl) (by decide) (by kernel_rfl) (of_decide_eq_true (by kernel_rfl)) (by kernel_rfl) (by kernel_rfl) (fun i_ hi_ => hall i_ hi_) h fun a w h => ?_
  clear hall
  have h := h.keep [4, 5, 6, 7, 990, 68, 69, 70, 71, 72, 2, 3]
  show wpOps Try.prog _ Q [7, 8] a w
  refine env_store (i := 7) (x := 4) (y := 72) (r := r) [(5, .val (.bool false)), (6, .sat (nP 0 (some r) p1 l1)), (7, .sat (nP 0 (some r) p2 l2)), (990, .sat (gP nb (some r))), (69, .val (.string (p1.2.2))), (71, .val (.int .i64 (p2.2.1))), (72, .sat (nT nb (some r) zp .nil)), (2, .val (.string (p1.2.2))), (3, .val (.int .i64 (p2.2.1)))] (by kernel_rfl) rfl rfl hr (stays_cons 5 rfl (away_val _ _) (stays_cons 6 rfl (away_nP _ _ _ _) (stays_cons 7 rfl (away_nP _ _ _ _) (stays_cons 990 rfl (away_gP _ _ _) (stays_cons 69 rfl (away_val _ _) (stays_cons 71 rfl (away_val _ _) (stays_cons 72 rfl (away_nT _ _ _ _) (stays_cons 2 rfl (away_val _ _) (stays_cons 3 rfl (away_val _ _) (stays_nil _ _)))))))))) h ?_
  clear h
  intro a w h
  refine env_one (i := 8) (d := 5) (k := .val (.bool true)) (step_assign (by kernel_rfl) (Opd.const _) rfl) (by kernel_rfl) (by decide) h ?_
  clear h
  intro a w h
  exact hQ a w (h.keep [5, 990, 2, 3, 4])
theorem rInd12b_region {Q : Exit → Act → World → Prop} (p0 : Pay) (l0 : Fo) (p1 : Pay) (l1 : Fo) (p2 : Pay) (l2 : Fo) (nb r : Nat) (g4 : ¬ p2.1 = 1) {w0 : World} {a : Act} {w : World} (hr : w0.heap.size ≤ r) (h : Hold 73 [(2, .val (.string ⟨#[]⟩)), (3, .val (.int .i64 0)), (4, .sat (rC nb r zp .nil)), (5, .val (.bool false)), (6, .sat (nP 0 (some r) p1 l1)), (7, .sat (nP 0 (some r) p2 l2)), (990, .sat (gP nb (some r)))] w0 a w)
    (hQ : ∀ a' w', Hold 73 [(2, .val (.string ⟨#[]⟩)), (3, .val (.int .i64 0)), (4, .sat (rC nb r zp .nil)), (5, .val (.bool false)), (6, .sat (nP 0 (some r) p1 l1)), (7, .sat (nP 0 (some r) p2 l2)), (990, .sat (gP nb (some r))), (56, .val (.bool true))] w0 a' w' → Q .normal a' w') : (Code.region 12 rInd12Ops false).wp Try.prog Q a w := by
  refine region_seq (w0 := w) 3 (by kernel_rfl) ?_
  rw [show List.range 3 = [0, 1, 2] from rfl]
  refine env_one (i := 0) (d := 54) (k := .ptrI (p2.1)) (step_field0 (by kernel_rfl) (Opd.ofP (Opd.of_base 7 rfl)) rfl) (by kernel_rfl) (by decide) h ?_
  clear h
  intro a w h
  refine env_one (i := 1) (d := 55) (k := .val (.int .i64 (p2.1))) (step_load_int3 (by kernel_rfl) (Opd.of_base 54 rfl) rfl) (by kernel_rfl) (by decide) h ?_
  clear h
  intro a w h
  refine env_one (i := 2) (d := 56) (k := .val (.bool true)) (step_ne_int (m := (p2.1)) (n := 1) (by kernel_rfl) (Opd.of_base 55 rfl) (Opd.const _) (by simpa using g4) rfl) (by kernel_rfl) (by decide) h ?_
  clear h
  intro a w h
  exact hQ a w (h.keep [2, 3, 4, 5, 6, 7, 990, 56])
theorem rInd13a_region {Q : Exit → Act → World → Prop} (p0 : Pay) (l0 : Fo) (p1 : Pay) (l1 : Fo) (p2 : Pay) (l2 : Fo) (nb r : Nat)  {w0 : World} {a : Act} {w : World} (hr : w0.heap.size ≤ r) (h : Hold 73 [(2, .val (.string ⟨#[]⟩)), (3, .val (.int .i64 0)), (4, .sat (rC nb r zp .nil)), (5, .val (.bool false)), (6, .sat (nP 0 (some r) p1 l1)), (7, .sat (nP 0 (some r) p2 l2)), (990, .sat (gP nb (some r)))] w0 a w)
    (hQ : ∀ a' w', Hold 73 [(2, .val (.string ⟨#[]⟩)), (3, .val (.int .i64 0)), (5, .val (.bool false)), (6, .sat (nP 0 (some r) p1 l1)), (7, .sat (nP 0 (some r) p2 l2)), (990, .sat (gP nb (some r))), (4, .sat (rC nb r ((Bl.ty (⟨#[105, 110, 116, 101, 103, 101, 114]⟩) p2 l2).1) ((Bl.ty (⟨#[105, 110, 116, 101, 103, 101, 114]⟩) p2 l2).2)))] w0 a' w' → Q .normal a' w') : (Code.region 13 rInd13Ops false).wp Try.prog Q a w := by
  refine region_seq (w0 := w) 6 (by kernel_rfl) ?_
  rw [show List.range 6 = [0, 1, 2, 3, 4, 5] from rfl]
  refine env_one (i := 0) (d := 57) (k := .sat (nT 0 (some r) p2 l2)) (step_nload (by kernel_rfl) (Opd.of_base 7 rfl) rfl) (by kernel_rfl) (by decide) h ?_
  clear h
  intro a w h
  refine env_one (i := 1) (d := 58) (k := .sat (nT nb (some r) ((Bl.ty (⟨#[105, 110, 116, 101, 103, 101, 114]⟩) p2 l2).1) ((Bl.ty (⟨#[105, 110, 116, 101, 103, 101, 114]⟩) p2 l2).2))) (step_rTy (g := 990) (by kernel_rfl) (Opd.const _) (Opd.ofT (Opd.of_base 57 rfl)) (Opd.of_base 990 rfl) rfl) (by kernel_rfl) (by decide) h ?_
  clear h
  intro a w h
  refine env_one (i := 2) (d := 2) (k := .val (.string ⟨#[]⟩)) (step_assign (by kernel_rfl) (Opd.const _) rfl) (by kernel_rfl) (by decide) h ?_
  clear h
  intro a w h
  refine env_one (i := 3) (d := 3) (k := .val (.int .i64 0)) (step_assign (by kernel_rfl) (Opd.const _) rfl) (by kernel_rfl) (by decide) h ?_
  clear h
  intro a w h
  refine env_store (i := 4) (x := 4) (y := 58) (r := r) [(2, .val (.string ⟨#[]⟩)), (3, .val (.int .i64 0)), (5, .val (.bool false)), (6, .sat (nP 0 (some r) p1 l1)), (7, .sat (nP 0 (some r) p2 l2)), (990, .sat (gP nb (some r))), (57, .sat (nT 0 (some r) p2 l2)), (58, .sat (nT nb (some r) ((Bl.ty (⟨#[105, 110, 116, 101, 103, 101, 114]⟩) p2 l2).1) ((Bl.ty (⟨#[105, 110, 116, 101, 103, 101, 114]⟩) p2 l2).2)))] (by kernel_rfl) rfl rfl hr (stays_cons 2 rfl (away_val _ _) (stays_cons 3 rfl (away_val _ _) (stays_cons 5 rfl (away_val _ _) (stays_cons 6 rfl (away_nP _ _ _ _) (stays_cons 7 rfl (away_nP _ _ _ _) (stays_cons 990 rfl (away_gP _ _ _) (stays_cons 57 rfl (away_nT _ _ _ _) (stays_cons 58 rfl (away_nT _ _ _ _) (stays_nil _ _))))))))) h ?_
  clear h
  intro a w h
  refine env_one (i := 5) (d := 5) (k := .val (.bool false)) (step_assign (by kernel_rfl) (Opd.const _) rfl) (by kernel_rfl) (by decide) h ?_
  clear h
  intro a w h
  exact hQ a w (h.keep [2, 3, 5, 6, 7, 990, 4])
theorem rInd10b_region {Q : Exit → Act → World → Prop} (p0 : Pay) (l0 : Fo) (p1 : Pay) (l1 : Fo) (p2 : Pay) (l2 : Fo) (nb r : Nat) (g3 : ¬ p1.1 = 2) {w0 : World} {a : Act} {w : World} (hr : w0.heap.size ≤ r) (h : Hold 73 [(2, .val (.string ⟨#[]⟩)), (3, .val (.int .i64 0)), (4, .sat (rC nb r zp .nil)), (5, .val (.bool false)), (6, .sat (nP 0 (some r) p1 l1)), (7, .sat (nP 0 (some r) p2 l2)), (990, .sat (gP nb (some r)))] w0 a w)
    (hQ : ∀ a' w', Hold 73 [(2, .val (.string ⟨#[]⟩)), (3, .val (.int .i64 0)), (4, .sat (rC nb r zp .nil)), (5, .val (.bool false)), (6, .sat (nP 0 (some r) p1 l1)), (7, .sat (nP 0 (some r) p2 l2)), (990, .sat (gP nb (some r))), (51, .val (.bool true))] w0 a' w' → Q .normal a' w') : (Code.region 10 rInd10Ops false).wp Try.prog Q a w := by
  refine region_seq (w0 := w) 3 (by kernel_rfl) ?_
  rw [show List.range 3 = [0, 1, 2] from rfl]
  refine env_one (i := 0) (d := 49) (k := .ptrI (p1.1)) (step_field0 (by kernel_rfl) (Opd.ofP (Opd.of_base 6 rfl)) rfl) (by kernel_rfl) (by decide) h ?_
  clear h
  intro a w h
  refine env_one (i := 1) (d := 50) (k := .val (.int .i64 (p1.1))) (step_load_int3 (by kernel_rfl) (Opd.of_base 49 rfl) rfl) (by kernel_rfl) (by decide) h ?_
  clear h
  intro a w h
  refine env_one (i := 2) (d := 51) (k := .val (.bool true)) (step_ne_int (m := (p1.1)) (n := 2) (by kernel_rfl) (Opd.of_base 50 rfl) (Opd.const _) (by simpa using g3) rfl) (by kernel_rfl) (by decide) h ?_
  clear h
  intro a w h
  exact hQ a w (h.keep [2, 3, 4, 5, 6, 7, 990, 51])
theorem rInd11a_region {Q : Exit → Act → World → Prop} (p0 : Pay) (l0 : Fo) (p1 : Pay) (l1 : Fo) (p2 : Pay) (l2 : Fo) (nb r : Nat)  {w0 : World} {a : Act} {w : World} (hr : w0.heap.size ≤ r) (h : Hold 73 [(2, .val (.string ⟨#[]⟩)), (3, .val (.int .i64 0)), (4, .sat (rC nb r zp .nil)), (5, .val (.bool false)), (6, .sat (nP 0 (some r) p1 l1)), (7, .sat (nP 0 (some r) p2 l2)), (990, .sat (gP nb (some r)))] w0 a w)
    (hQ : ∀ a' w', Hold 73 [(2, .val (.string ⟨#[]⟩)), (3, .val (.int .i64 0)), (5, .val (.bool false)), (6, .sat (nP 0 (some r) p1 l1)), (7, .sat (nP 0 (some r) p2 l2)), (990, .sat (gP nb (some r))), (4, .sat (rC nb r ((Bl.ty (⟨#[97, 116, 111, 109]⟩) p1 l1).1) ((Bl.ty (⟨#[97, 116, 111, 109]⟩) p1 l1).2)))] w0 a' w' → Q .normal a' w') : (Code.region 11 rInd11Ops false).wp Try.prog Q a w := by
  refine region_seq (w0 := w) 6 (by kernel_rfl) ?_
  rw [show List.range 6 = [0, 1, 2, 3, 4, 5] from rfl]
  refine env_one (i := 0) (d := 52) (k := .sat (nT 0 (some r) p1 l1)) (step_nload (by kernel_rfl) (Opd.of_base 6 rfl) rfl) (by kernel_rfl) (by decide) h ?_
  clear h
  intro a w h
  refine env_one (i := 1) (d := 53) (k := .sat (nT nb (some r) ((Bl.ty (⟨#[97, 116, 111, 109]⟩) p1 l1).1) ((Bl.ty (⟨#[97, 116, 111, 109]⟩) p1 l1).2))) (step_rTy (g := 990) (by kernel_rfl) (Opd.const _) (Opd.ofT (Opd.of_base 52 rfl)) (Opd.of_base 990 rfl) rfl) (by kernel_rfl) (by decide) h ?_
  clear h
  intro a w h
  refine env_one (i := 2) (d := 2) (k := .val (.string ⟨#[]⟩)) (step_assign (by kernel_rfl) (Opd.const _) rfl) (by kernel_rfl) (by decide) h ?_
  clear h
  intro a w h
  refine env_one (i := 3) (d := 3) (k := .val (.int .i64 0)) (step_assign (by kernel_rfl) (Opd.const _) rfl) (by kernel_rfl) (by decide) h ?_
  clear h
  intro a w h
  refine env_store (i := 4) (x := 4) (y := 53) (r := r) [(2, .val (.string ⟨#[]⟩)), (3, .val (.int .i64 0)), (5, .val (.bool false)), (6, .sat (nP 0 (some r) p1 l1)), (7, .sat (nP 0 (some r) p2 l2)), (990, .sat (gP nb (some r))), (52, .sat (nT 0 (some r) p1 l1)), (53, .sat (nT nb (some r) ((Bl.ty (⟨#[97, 116, 111, 109]⟩) p1 l1).1) ((Bl.ty (⟨#[97, 116, 111, 109]⟩) p1 l1).2)))] (by kernel_rfl) rfl rfl hr (stays_cons 2 rfl (away_val _ _) (stays_cons 3 rfl (away_val _ _) (stays_cons 5 rfl (away_val _ _) (stays_cons 6 rfl (away_nP _ _ _ _) (stays_cons 7 rfl (away_nP _ _ _ _) (stays_cons 990 rfl (away_gP _ _ _) (stays_cons 52 rfl (away_nT _ _ _ _) (stays_cons 53 rfl (away_nT _ _ _ _) (stays_nil _ _))))))))) h ?_
  clear h
  intro a w h
  refine env_one (i := 5) (d := 5) (k := .val (.bool false)) (step_assign (by kernel_rfl) (Opd.const _) rfl) (by kernel_rfl) (by decide) h ?_
  clear h
  intro a w h
  exact hQ a w (h.keep [2, 3, 5, 6, 7, 990, 4])
theorem rInd2a_region {Q : Exit → Act → World → Prop} (p0 : Pay) (l0 : Fo) (nb r : Nat)  {w0 : World} {a : Act} {w : World} (hr : w0.heap.size ≤ r) (h : Hold 73 [(1, .sat (nP 0 (some r) p0 l0)), (2, .val (.string ⟨#[]⟩)), (3, .val (.int .i64 0)), (4, .sat (rC nb r zp .nil)), (990, .sat (gP nb (some r))), (5, .val (.bool false))] w0 a w)
    (hQ : ∀ a' w', Hold 73 [(1, .sat (nP 0 (some r) p0 l0)), (2, .val (.string ⟨#[]⟩)), (3, .val (.int .i64 0)), (990, .sat (gP nb (some r))), (5, .val (.bool false)), (4, .sat (rC nb r zp .nil))] w0 a' w' → Q .normal a' w') : (Code.region 2 rInd2Ops false).wp Try.prog Q a w := by
  refine region_seq (w0 := w) 5 (by kernel_rfl) ?_
  rw [show List.range 5 = [0, 1, 2, 3, 4] from rfl]
  refine env_one (i := 0) (d := 11) (k := .sat (nT nb (some r) zp .nil)) (step_nzero (by kernel_rfl) rfl) (by kernel_rfl) (by decide) h ?_
  clear h
  intro a w h
  refine env_one (i := 1) (d := 2) (k := .val (.string ⟨#[]⟩)) (step_assign (by kernel_rfl) (Opd.const _) rfl) (by kernel_rfl) (by decide) h ?_
  clear h
  intro a w h
  refine env_one (i := 2) (d := 3) (k := .val (.int .i64 0)) (step_assign (by kernel_rfl) (Opd.const _) rfl) (by kernel_rfl) (by decide) h ?_
  clear h
  intro a w h
  refine env_store (i := 3) (x := 4) (y := 11) (r := r) [(1, .sat (nP 0 (some r) p0 l0)), (2, .val (.string ⟨#[]⟩)), (3, .val (.int .i64 0)), (990, .sat (gP nb (some r))), (5, .val (.bool false)), (11, .sat (nT nb (some r) zp .nil))] (by kernel_rfl) rfl rfl hr (stays_cons 1 rfl (away_nP _ _ _ _) (stays_cons 2 rfl (away_val _ _) (stays_cons 3 rfl (away_val _ _) (stays_cons 990 rfl (away_gP _ _ _) (stays_cons 5 rfl (away_val _ _) (stays_cons 11 rfl (away_nT _ _ _ _) (stays_nil _ _))))))) h ?_
  clear h
  intro a w h
  refine env_one (i := 4) (d := 5) (k := .val (.bool false)) (step_assign (by kernel_rfl) (Opd.const _) rfl) (by kernel_rfl) (by decide) h ?_
  clear h
  intro a w h
  exact hQ a w (h.keep [1, 2, 3, 990, 5, 4])
set_option maxHeartbeats 1000000 in
theorem rInd_any (p0 : Pay) (l0 : Fo) (A0 : Option Addr) (c0 : Nat) (B : Nat) (w : World) (hA0 : ArgsB w B A0 (Tm.len l0) l0) (hB : B ≤ w.heap.size)  : Calls Try.prog 50 #[tv p0 A0 (Tm.len l0) c0] w (MkXXB w.heap.size (.string (Bl.ind p0 l0).1) (.int .i64 (Bl.ind p0 l0).2.1) ((Bl.ind p0 l0).2.2.1).1 ((Bl.ind p0 l0).2.2.1).2 ((Bl.ind p0 l0).2.2.2) w) := by
  refine calls_of_wp Try.func50 rInd_body ?_
  obtain ⟨v0, hv0⟩ : ∃ v : Value, v = tv p0 A0 (Tm.len l0) c0 := ⟨_, rfl⟩
  rw [← hv0]
  have hk0 : (Kd.term p0 l0).R v0 w := by rw [hv0]; exact ⟨A0, c0, rfl, hA0.up hB⟩
  have hsN : (#[v0] ++ Array.replicate (Try.f50.ntmps - #[v0].size) undef : Array Value).size = 73 := by kernel_rfl
  have gs0 : (#[v0] ++ Array.replicate (Try.f50.ntmps - #[v0].size) undef : Array Value).getD 0 undef = v0 := by kernel_rfl
  generalize (#[v0] ++ Array.replicate (Try.f50.ntmps - #[v0].size) undef : Array Value) = tm at hsN gs0 ⊢
  obtain ⟨a, ha0⟩ : ∃ a : Act, a = ⟨tm, []⟩ := ⟨_, rfl⟩
  have h : Hold 73 [(0, .term p0 l0)] w ⟨tm, []⟩ w := ⟨hsN, rfl, Below.refl _ _, (slots_cons 0 (by rw [gs0]; exact hk0) slots_nil)⟩
  obtain ⟨nb, hnb⟩ : ∃ nb, nb = w.heap.size := ⟨_, rfl⟩
  have hn : nb ≤ w.heap.size := by omega
  refine wp_seq ?_
  refine rInd0a_region p0 l0 nb  hn h ?_
  intro r a w1 hr h
  show Code.wp _ _ _ a w1
  refine wp_seq ?_
  refine wp_seq ?_
  refine rInd1a_region p0 l0 nb r  hr h ?_
  intro a w1 h
  rcases Bool.eq_false_or_eq_true (Tm.validB p0 l0) with hv | hv
  · rw [hv] at h
    (try simp only [Bool.not_true, Bool.not_false] at h)
    show Code.wp _ _ _ a w1
    refine env_cond (b := false) rfl h ?_
    refine wp_skip ?_
    have h := h.keep [1, 2, 3, 4, 990, 5]
    show Code.wp _ _ _ a w1
    refine wp_seq ?_
    refine wp_seq ?_
    by_cases h1 : p0.1 = 0
    · refine rInd3a_region p0 l0 nb r h1 hr h ?_
      intro a w1 h
      show Code.wp _ _ _ a w1
      refine env_cond (b := true) rfl h ?_
      have h := h.keep [1, 2, 3, 4, 990, 5]
      show Code.wp _ _ _ a w1
      refine wp_seq ?_
      refine rInd4a_region p0 l0 nb r  hr h ?_
      intro a w1 h
      show Code.wp _ _ _ a w1
      have ev : Bl.ind p0 l0 = (⟨#[]⟩, (0, ((Bl.inst.1, Bl.inst.2), false))) := by simp [Bl.ind, Bl.check, hv, h1]
      rw [ev]
      refine wp_ret ?_
      (try simp only [then_ret, block_ret])
      exact law_xxcb rfl (h.get 2 rfl) (h.get 3 rfl) (h.get 5 rfl) (h.get 4 rfl) h.defers fun A c ha => ⟨A, c, rfl, ha.mono fun b hb => ⟨by have := hb.1; omega, hb.2.1⟩, h.world⟩
    · refine rInd3b_region p0 l0 nb r h1 hr h ?_
      intro a w1 h
      show Code.wp _ _ _ a w1
      refine env_cond (b := false) rfl h ?_
      refine wp_skip ?_
      have h := h.keep [1, 2, 3, 4, 990, 5]
      show Code.wp _ _ _ a w1
      refine wp_seq ?_
      refine wp_seq ?_
      by_cases a1 : p0.1 = 3
      rotate_left
      · have hs : Bl.isS p0 l0 ⟨#[47]⟩ 2 = false := Bl.isS_false fun h => a1 h.1
        refine rInd5a_region p0 l0 nb r a1 hr h ?_
        intro a w1 h
        show Code.wp _ _ _ a w1
        refine env_cond (b := true) rfl h ?_
        have h := h.keep [1, 2, 3, 4, 990, 5]
        show Code.wp _ _ _ a w1
        refine wp_seq ?_
        refine rInd6a_region p0 l0 nb r  hr h ?_
        intro a w1 h
        show Code.wp _ _ _ a w1
        have ev : Bl.ind p0 l0 = (⟨#[]⟩, (0, (((Bl.ty (⟨#[112, 114, 101, 100, 105, 99, 97, 116, 101, 95, 105, 110, 100, 105, 99, 97, 116, 111, 114]⟩) p0 l0).1, (Bl.ty (⟨#[112, 114, 101, 100, 105, 99, 97, 116, 101, 95, 105, 110, 100, 105, 99, 97, 116, 111, 114]⟩) p0 l0).2), false))) := by simp [Bl.ind, Bl.check, hv, h1, hs]
        rw [ev]
        refine wp_ret ?_
        (try simp only [then_ret, block_ret])
        exact law_xxcb rfl (h.get 2 rfl) (h.get 3 rfl) (h.get 5 rfl) (h.get 4 rfl) h.defers fun A c ha => ⟨A, c, rfl, ha.mono fun b hb => ⟨by have := hb.1; omega, hb.2.1⟩, h.world⟩
      by_cases a2 : p0.2.2 = ⟨#[47]⟩
      rotate_left
      · have hs : Bl.isS p0 l0 ⟨#[47]⟩ 2 = false := Bl.isS_false fun h => a2 h.2.1
        refine rInd5b_region p0 l0 nb r a1 a2 hr h ?_
        intro a w1 h
        show Code.wp _ _ _ a w1
        refine env_cond (b := true) rfl h ?_
        have h := h.keep [1, 2, 3, 4, 990, 5]
        show Code.wp _ _ _ a w1
        refine wp_seq ?_
        refine rInd6a_region p0 l0 nb r  hr h ?_
        intro a w1 h
        show Code.wp _ _ _ a w1
        have ev : Bl.ind p0 l0 = (⟨#[]⟩, (0, (((Bl.ty (⟨#[112, 114, 101, 100, 105, 99, 97, 116, 101, 95, 105, 110, 100, 105, 99, 97, 116, 111, 114]⟩) p0 l0).1, (Bl.ty (⟨#[112, 114, 101, 100, 105, 99, 97, 116, 101, 95, 105, 110, 100, 105, 99, 97, 116, 111, 114]⟩) p0 l0).2), false))) := by simp [Bl.ind, Bl.check, hv, h1, hs]
        rw [ev]
        refine wp_ret ?_
        (try simp only [then_ret, block_ret])
        exact law_xxcb rfl (h.get 2 rfl) (h.get 3 rfl) (h.get 5 rfl) (h.get 4 rfl) h.defers fun A c ha => ⟨A, c, rfl, ha.mono fun b hb => ⟨by have := hb.1; omega, hb.2.1⟩, h.world⟩
      by_cases a3 : ((Tm.len l0 : Nat) : Int) = 2
      rotate_left
      · have hs : Bl.isS p0 l0 ⟨#[47]⟩ 2 = false := Bl.isS_false fun h => a3 h.2.2
        refine rInd5c_region p0 l0 nb r a1 a2 a3 hr h ?_
        intro a w1 h
        show Code.wp _ _ _ a w1
        refine env_cond (b := true) rfl h ?_
        have h := h.keep [1, 2, 3, 4, 990, 5]
        show Code.wp _ _ _ a w1
        refine wp_seq ?_
        refine rInd6a_region p0 l0 nb r  hr h ?_
        intro a w1 h
        show Code.wp _ _ _ a w1
        have ev : Bl.ind p0 l0 = (⟨#[]⟩, (0, (((Bl.ty (⟨#[112, 114, 101, 100, 105, 99, 97, 116, 101, 95, 105, 110, 100, 105, 99, 97, 116, 111, 114]⟩) p0 l0).1, (Bl.ty (⟨#[112, 114, 101, 100, 105, 99, 97, 116, 101, 95, 105, 110, 100, 105, 99, 97, 116, 111, 114]⟩) p0 l0).2), false))) := by simp [Bl.ind, Bl.check, hv, h1, hs]
        rw [ev]
        refine wp_ret ?_
        (try simp only [then_ret, block_ret])
        exact law_xxcb rfl (h.get 2 rfl) (h.get 3 rfl) (h.get 5 rfl) (h.get 4 rfl) h.defers fun A c ha => ⟨A, c, rfl, ha.mono fun b hb => ⟨by have := hb.1; omega, hb.2.1⟩, h.world⟩
      · obtain ⟨p1, l1, p2, l2, hl⟩ := Tm.len_two (show Tm.len l0 = 2 by omega)
        have hp : p0 = (3, 0, ⟨#[47]⟩) := Bl.valid_pay hv a1 a2
        have hv2 := hv
        rw [hp, hl] at hv2
        refine rInd5d_region p0 l0 nb r a1 a2 a3 hr h ?_
        intro a w1 h
        show Code.wp _ _ _ a w1
        refine env_cond (b := false) rfl h ?_
        refine wp_skip ?_
        have h := h.keep [1, 2, 3, 4, 990, 5]
        show Code.wp _ _ _ a w1
        refine wp_seq ?_
        refine rInd7_region p0 l0 p1 l1 p2 l2 nb r hl h ?_
        intro a w1 h
        show Code.wp _ _ _ a w1
        refine wp_seq ?_
        refine wp_seq ?_
        by_cases g1 : p1.1 = 0
        · refine rInd8a_region p0 l0 p1 l1 p2 l2 nb r g1 hr h ?_
          intro a w1 h
          show Code.wp _ _ _ a w1
          refine env_cond (b := true) rfl h ?_
          have h := h.keep [2, 3, 4, 5, 6, 7, 990]
          show Code.wp _ _ _ a w1
          refine wp_seq ?_
          refine rInd9a_region p0 l0 p1 l1 p2 l2 nb r  hr h ?_
          intro a w1 h
          show Code.wp _ _ _ a w1
          have ev : Bl.ind p0 l0 = (⟨#[]⟩, (0, ((Bl.inst.1, Bl.inst.2), false))) := by
            rw [hp, hl]
            exact Bl.ind_var hv2 (.inl g1)
          rw [ev]
          refine wp_ret ?_
          (try simp only [then_ret, block_ret])
          exact law_xxcb rfl (h.get 2 rfl) (h.get 3 rfl) (h.get 5 rfl) (h.get 4 rfl) h.defers fun A c ha => ⟨A, c, rfl, ha.mono fun b hb => ⟨by have := hb.1; omega, hb.2.1⟩, h.world⟩
        by_cases g2 : p2.1 = 0
        · refine rInd8b_region p0 l0 p1 l1 p2 l2 nb r g1 g2 hr h ?_
          intro a w1 h
          show Code.wp _ _ _ a w1
          refine env_cond (b := true) rfl h ?_
          have h := h.keep [2, 3, 4, 5, 6, 7, 990]
          show Code.wp _ _ _ a w1
          refine wp_seq ?_
          refine rInd9a_region p0 l0 p1 l1 p2 l2 nb r  hr h ?_
          intro a w1 h
          show Code.wp _ _ _ a w1
          have ev : Bl.ind p0 l0 = (⟨#[]⟩, (0, ((Bl.inst.1, Bl.inst.2), false))) := by
            rw [hp, hl]
            exact Bl.ind_var hv2 (.inr g2)
          rw [ev]
          refine wp_ret ?_
          (try simp only [then_ret, block_ret])
          exact law_xxcb rfl (h.get 2 rfl) (h.get 3 rfl) (h.get 5 rfl) (h.get 4 rfl) h.defers fun A c ha => ⟨A, c, rfl, ha.mono fun b hb => ⟨by have := hb.1; omega, hb.2.1⟩, h.world⟩
        · refine rInd8c_region p0 l0 p1 l1 p2 l2 nb r g1 g2 hr h ?_
          intro a w1 h
          show Code.wp _ _ _ a w1
          refine env_cond (b := false) rfl h ?_
          refine wp_skip ?_
          have h := h.keep [2, 3, 4, 5, 6, 7, 990]
          show Code.wp _ _ _ a w1
          refine wp_seq ?_
          refine wp_seq ?_
          by_cases g3 : p1.1 = 2
          · refine rInd10a_region p0 l0 p1 l1 p2 l2 nb r g3 hr h ?_
            intro a w1 h
            show Code.wp _ _ _ a w1
            refine env_cond (b := false) rfl h ?_
            refine wp_skip ?_
            have h := h.keep [2, 3, 4, 5, 6, 7, 990]
            show Code.wp _ _ _ a w1
            refine wp_seq ?_
            refine wp_seq ?_
            by_cases g4 : p2.1 = 1
            · refine rInd12a_region p0 l0 p1 l1 p2 l2 nb r g4 hr h ?_
              intro a w1 h
              show Code.wp _ _ _ a w1
              refine env_cond (b := false) rfl h ?_
              refine wp_skip ?_
              have h := h.keep [2, 3, 4, 5, 6, 7, 990]
              show Code.wp _ _ _ a w1
              refine wp_seq ?_
              refine wp_seq ?_
              by_cases g5 : p2.2.1 < 0
              · refine rInd14a_region p0 l0 p1 l1 p2 l2 nb r g5 hr h ?_
                intro a w1 h
                show Code.wp _ _ _ a w1
                refine env_cond (b := true) rfl h ?_
                have h := h.keep [2, 3, 4, 5, 6, 7, 990]
                show Code.wp _ _ _ a w1
                refine wp_seq ?_
                refine rInd15a_region p0 l0 p1 l1 p2 l2 nb r  hr h ?_
                intro a w1 h
                show Code.wp _ _ _ a w1
                have ev : Bl.ind p0 l0 = (⟨#[]⟩, (0, (((Bl.dom (⟨#[110, 111, 116, 95, 108, 101, 115, 115, 95, 116, 104, 97, 110, 95, 122, 101, 114, 111]⟩) p2 l2).1, (Bl.dom (⟨#[110, 111, 116, 95, 108, 101, 115, 115, 95, 116, 104, 97, 110, 95, 122, 101, 114, 111]⟩) p2 l2).2), false))) := by
                  rw [hp, hl]
                  exact Bl.ind_neg hv2 g1 g2 g3 g4 g5
                rw [ev]
                refine wp_ret ?_
                (try simp only [then_ret, block_ret])
                exact law_xxcb rfl (h.get 2 rfl) (h.get 3 rfl) (h.get 5 rfl) (h.get 4 rfl) h.defers fun A c ha => ⟨A, c, rfl, ha.mono fun b hb => ⟨by have := hb.1; omega, hb.2.1⟩, h.world⟩
              · refine rInd14b_region p0 l0 p1 l1 p2 l2 nb r g5 hr h ?_
                intro a w1 h
                show Code.wp _ _ _ a w1
                refine env_cond (b := false) rfl h ?_
                refine wp_skip ?_
                have h := h.keep [2, 3, 4, 5, 6, 7, 990]
                show Code.wp _ _ _ a w1
                refine wp_seq ?_
                refine wp_seq ?_
                by_cases g6 : 8 < p2.2.1
                · refine rInd16a_region p0 l0 p1 l1 p2 l2 nb r g6 hr h ?_
                  intro a w1 h
                  show Code.wp _ _ _ a w1
                  refine env_cond (b := true) rfl h ?_
                  have h := h.keep [2, 3, 4, 5, 6, 7, 990]
                  show Code.wp _ _ _ a w1
                  refine wp_seq ?_
                  refine rInd17a_region p0 l0 p1 l1 p2 l2 nb r  hr h ?_
                  intro a w1 h
                  show Code.wp _ _ _ a w1
                  have ev : Bl.ind p0 l0 = (⟨#[]⟩, (0, (((Bl.rep (⟨#[109, 97, 120, 95, 97, 114, 105, 116, 121]⟩)).1, (Bl.rep (⟨#[109, 97, 120, 95, 97, 114, 105, 116, 121]⟩)).2), false))) := by
                    rw [hp, hl]
                    exact Bl.ind_big hv2 g1 g2 g3 g4 g5 g6
                  rw [ev]
                  refine wp_ret ?_
                  (try simp only [then_ret, block_ret])
                  exact law_xxcb rfl (h.get 2 rfl) (h.get 3 rfl) (h.get 5 rfl) (h.get 4 rfl) h.defers fun A c ha => ⟨A, c, rfl, ha.mono fun b hb => ⟨by have := hb.1; omega, hb.2.1⟩, h.world⟩
                · refine rInd16b_region p0 l0 p1 l1 p2 l2 nb r g6 hr h ?_
                  intro a w1 h
                  show Code.wp _ _ _ a w1
                  refine env_cond (b := false) rfl h ?_
                  refine wp_skip ?_
                  have h := h.keep [2, 3, 4, 5, 6, 7, 990]
                  show Code.wp _ _ _ a w1
                  refine wp_seq ?_
                  have h := h.keep [4, 5, 6, 7, 990]
                  refine rInd18a_region p0 l0 p1 l1 p2 l2 nb r  hr h ?_
                  intro a w1 h
                  show Code.wp _ _ _ a w1
                  have ev : Bl.ind p0 l0 = ((p1.2.2), ((p2.2.1), ((zp, .nil), true))) := by
                    rw [hp, hl]
                    exact Bl.ind_yes hv2 g1 g2 g3 g4 g5 g6
                  rw [ev]
                  refine wp_ret ?_
                  (try simp only [then_ret, block_ret])
                  exact law_xxcb rfl (h.get 2 rfl) (h.get 3 rfl) (h.get 5 rfl) (h.get 4 rfl) h.defers fun A c ha => ⟨A, c, rfl, ha.mono fun b hb => ⟨by have := hb.1; omega, hb.2.1⟩, h.world⟩
            · refine rInd12b_region p0 l0 p1 l1 p2 l2 nb r g4 hr h ?_
              intro a w1 h
              show Code.wp _ _ _ a w1
              refine env_cond (b := true) rfl h ?_
              have h := h.keep [2, 3, 4, 5, 6, 7, 990]
              show Code.wp _ _ _ a w1
              refine wp_seq ?_
              refine rInd13a_region p0 l0 p1 l1 p2 l2 nb r  hr h ?_
              intro a w1 h
              show Code.wp _ _ _ a w1
              have ev : Bl.ind p0 l0 = (⟨#[]⟩, (0, (((Bl.ty (⟨#[105, 110, 116, 101, 103, 101, 114]⟩) p2 l2).1, (Bl.ty (⟨#[105, 110, 116, 101, 103, 101, 114]⟩) p2 l2).2), false))) := by
                rw [hp, hl]
                exact Bl.ind_int hv2 g1 g2 g3 g4
              rw [ev]
              refine wp_ret ?_
              (try simp only [then_ret, block_ret])
              exact law_xxcb rfl (h.get 2 rfl) (h.get 3 rfl) (h.get 5 rfl) (h.get 4 rfl) h.defers fun A c ha => ⟨A, c, rfl, ha.mono fun b hb => ⟨by have := hb.1; omega, hb.2.1⟩, h.world⟩
          · refine rInd10b_region p0 l0 p1 l1 p2 l2 nb r g3 hr h ?_
            intro a w1 h
            show Code.wp _ _ _ a w1
            refine env_cond (b := true) rfl h ?_
            have h := h.keep [2, 3, 4, 5, 6, 7, 990]
            show Code.wp _ _ _ a w1
            refine wp_seq ?_
            refine rInd11a_region p0 l0 p1 l1 p2 l2 nb r  hr h ?_
            intro a w1 h
            show Code.wp _ _ _ a w1
            have ev : Bl.ind p0 l0 = (⟨#[]⟩, (0, (((Bl.ty (⟨#[97, 116, 111, 109]⟩) p1 l1).1, (Bl.ty (⟨#[97, 116, 111, 109]⟩) p1 l1).2), false))) := by
              rw [hp, hl]
              exact Bl.ind_atom hv2 g1 g2 g3
            rw [ev]
            refine wp_ret ?_
            (try simp only [then_ret, block_ret])
            exact law_xxcb rfl (h.get 2 rfl) (h.get 3 rfl) (h.get 5 rfl) (h.get 4 rfl) h.defers fun A c ha => ⟨A, c, rfl, ha.mono fun b hb => ⟨by have := hb.1; omega, hb.2.1⟩, h.world⟩
  · rw [hv] at h
    (try simp only [Bool.not_true, Bool.not_false] at h)
    show Code.wp _ _ _ a w1
    refine env_cond (b := true) rfl h ?_
    have h := h.keep [1, 2, 3, 4, 990, 5]
    show Code.wp _ _ _ a w1
    refine wp_seq ?_
    refine rInd2a_region p0 l0 nb r  hr h ?_
    intro a w1 h
    show Code.wp _ _ _ a w1
    have ev : Bl.ind p0 l0 = (⟨#[]⟩, (0, ((zp, .nil), false))) := by simp [Bl.ind, Bl.check, hv]
    rw [ev]
    refine wp_ret ?_
    (try simp only [then_ret, block_ret])
    exact law_xxcb rfl (h.get 2 rfl) (h.get 3 rfl) (h.get 5 rfl) (h.get 4 rfl) h.defers fun A c ha => ⟨A, c, rfl, ha.mono fun b hb => ⟨by have := hb.1; omega, hb.2.1⟩, h.world⟩
section
variable {ops : Array Oper} {Q : Exit → Act → World → Prop} {E : Nat → Kd} {D : Nat → Nat} {base : Nat → Option Kd} {N : Nat}
theorem step_rInd {i : Nat} {n g : Nat} {G : Option Nat} {x0 : Operand} {p0 : Pay} {l0 : Fo} (hop : (ops[i]?).map (·.op) = some (.call { callee := .value (.func 50), args := #[x0], argTypes := #[24] })) (h0 : Opd ops E D base N i x0 (.term p0 l0)) (hg : Opd ops E D base N i (.tmp g) (.sat (gP n G))) (hE : E i = .sat (nT4 n G (.string (Bl.ind p0 l0).1) (.int .i64 (Bl.ind p0 l0).2.1) ((Bl.ind p0 l0).2.2.1).1 ((Bl.ind p0 l0).2.2.1).2 ((Bl.ind p0 l0).2.2.2))) : Step Try.prog ops Q E D base N i :=
  step_mkXXB hop (fun _ _ => by kernel_rfl) hg (fun a w h => by
    obtain ⟨A0, c0, e0, ha0⟩ := h0 a w h
    rw [show (#[x0] : Array Operand).map a.eval = #[tv p0 A0 (Tm.len l0) c0] by rw [← e0]; simp]
    exact rInd_any p0 l0 A0 c0 w.heap.size w ha0 (Nat.le_refl _)) hE
end
end Go.Proofs.Ytapcnehpechkpaa
