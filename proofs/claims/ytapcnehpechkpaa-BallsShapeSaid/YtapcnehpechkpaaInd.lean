/-
  Package balls: Indicator.
-/
import Derived.Test.YtapcnehpechkpaaChk2
import Derived.Test.YtapcnehpechkpaaLate
namespace Go.Proofs.Ytapcnehpechkpaa
set_option linter.unusedVariables false
set_option linter.unusedSimpArgs false
set_option maxRecDepth 100000
open Go.RowKit
noncomputable def bInd0Ops : Array Oper := ((Try.f49.body).bind (findReg 0)).getD #[]
noncomputable def bInd1Ops : Array Oper := ((Try.f49.body).bind (findReg 1)).getD #[]
noncomputable def bInd2Ops : Array Oper := ((Try.f49.body).bind (findReg 2)).getD #[]
noncomputable def bInd3Ops : Array Oper := ((Try.f49.body).bind (findReg 3)).getD #[]
noncomputable def bInd4Ops : Array Oper := ((Try.f49.body).bind (findReg 4)).getD #[]
noncomputable def bInd5Ops : Array Oper := ((Try.f49.body).bind (findReg 5)).getD #[]
noncomputable def bInd6Ops : Array Oper := ((Try.f49.body).bind (findReg 6)).getD #[]
noncomputable def bInd7Ops : Array Oper := ((Try.f49.body).bind (findReg 7)).getD #[]
noncomputable def bInd8Ops : Array Oper := ((Try.f49.body).bind (findReg 8)).getD #[]
noncomputable def bInd9Ops : Array Oper := ((Try.f49.body).bind (findReg 9)).getD #[]
noncomputable def bInd10Ops : Array Oper := ((Try.f49.body).bind (findReg 10)).getD #[]
noncomputable def bInd11Ops : Array Oper := ((Try.f49.body).bind (findReg 11)).getD #[]
noncomputable def bInd12Ops : Array Oper := ((Try.f49.body).bind (findReg 12)).getD #[]
theorem bInd_body : Try.f49.body = some (.seq (.region 0 bInd0Ops false) (.seq (.region 1 bInd1Ops true) (.seq (.seq (.region 2 bInd2Ops false) (.cond (.tmp 14) (.seq (.region 3 bInd3Ops true) .ret) .skip)) (.seq (.seq (.region 4 bInd4Ops false) (.cond (.tmp 18) (.seq (.region 5 bInd5Ops false) .ret) .skip)) (.seq (.region 6 bInd6Ops false) (.seq (.seq (.region 7 bInd7Ops false) (.cond (.tmp 30) (.seq (.region 8 bInd8Ops true) .ret) .skip)) (.seq (.region 9 bInd9Ops false) (.seq (.seq (.region 10 bInd10Ops false) (.cond (.tmp 42) (.seq (.region 11 bInd11Ops true) .ret) .skip)) (.seq (.region 12 bInd12Ops false) .ret))))))))) := by kernel_rfl
theorem bInd0a_region {Q : Exit → Act → World → Prop} (p0 : Pay) (l0 : Fo) (nb : Nat)  {w0 : World} {a : Act} {w : World} (hn : nb ≤ w0.heap.size) (h : Hold 47 [(0, .term p0 l0)] w0 a w)
    (hQ : ∀ r a' w', w0.heap.size ≤ r → Hold 47 [(1, .sat (nP 0 (some r) p0 l0)), (2, .val (.string ⟨#[]⟩)), (3, .val (.int .i64 0)), (4, .sat (rC nb r zp .nil)), (990, .sat (gP nb (some r))), (5, .val (.bool false))] w0 a' w' → Q .normal a' w') : (Code.region 0 bInd0Ops false).wp Try.prog Q a w := by
  refine region_seq (w0 := w) 5 (by kernel_rfl) ?_
  rw [show List.range 5 = [0, 1, 2, 3, 4] from rfl]
  refine env_one (i := 0) (d := 1) (k := .ptrT p0 l0) (step_box (by kernel_rfl) (Opd.of_base 0 rfl) rfl) (by kernel_rfl) (by decide) h ?_
  clear h
  intro a w h
  refine env_one (i := 1) (d := 2) (k := .val (.string ⟨#[]⟩)) (step_assign (by kernel_rfl) (Opd.const _) rfl) (by kernel_rfl) (by decide) h ?_
  clear h
  intro a w h
  refine env_one (i := 2) (d := 3) (k := .val (.int .i64 0)) (step_assign (by kernel_rfl) (Opd.const _) rfl) (by kernel_rfl) (by decide) h ?_
  clear h
  intro a w h
  refine env_res (i := 3) (d := 4) (n := nb) (fun r => [(0, .sat (nT 0 (some r) p0 l0)), (1, .sat (nP 0 (some r) p0 l0)), (2, .val (.string ⟨#[]⟩)), (3, .val (.int .i64 0))]) (by kernel_rfl) (by decide) (by decide) hn (fun r => (goes_cons 0 rfl (turns_term _ _ _) (goes_cons 1 rfl (turns_ptr _ _ _) (goes_cons 2 rfl (turns_val _ _) (goes_cons 3 rfl (turns_val _ _) (goes_nil _ _)))))) h ?_
  clear h
  intro r a w hr h
  refine env_one (i := 4) (d := 5) (k := .val (.bool false)) (step_assign (by kernel_rfl) (Opd.const _) rfl) (by kernel_rfl) (by decide) h ?_
  clear h
  intro a w h
  exact hQ r a w hr (h.keep [1, 2, 3, 4, 990, 5])
def bInd1aEs (p0 : Pay) (l0 : Fo) (nb r : Nat) : List Kd := [
  .sat (nT 0 (some r) p0 l0),
  .sat (nT 0 (some r) p0 l0),
  .val (.bool (Bl.isS p0 l0 ⟨#[47]⟩ 2)),
  .sat (nT2 nb (some r) (((Bl.check p0 l0 (Bl.isS p0 l0 ⟨#[47]⟩ 2) (⟨#[112, 114, 101, 100, 105, 99, 97, 116, 101, 95, 105, 110, 100, 105, 99, 97, 116, 111, 114]⟩)).1).1) (((Bl.check p0 l0 (Bl.isS p0 l0 ⟨#[47]⟩ 2) (⟨#[112, 114, 101, 100, 105, 99, 97, 116, 101, 95, 105, 110, 100, 105, 99, 97, 116, 111, 114]⟩)).1).2) ((Bl.check p0 l0 (Bl.isS p0 l0 ⟨#[47]⟩ 2) (⟨#[112, 114, 101, 100, 105, 99, 97, 116, 101, 95, 105, 110, 100, 105, 99, 97, 116, 111, 114]⟩)).2)),
  .sat (nT2 nb (some r) (((Bl.check p0 l0 (Bl.isS p0 l0 ⟨#[47]⟩ 2) (⟨#[112, 114, 101, 100, 105, 99, 97, 116, 101, 95, 105, 110, 100, 105, 99, 97, 116, 111, 114]⟩)).1).1) (((Bl.check p0 l0 (Bl.isS p0 l0 ⟨#[47]⟩ 2) (⟨#[112, 114, 101, 100, 105, 99, 97, 116, 101, 95, 105, 110, 100, 105, 99, 97, 116, 111, 114]⟩)).1).2) ((Bl.check p0 l0 (Bl.isS p0 l0 ⟨#[47]⟩ 2) (⟨#[112, 114, 101, 100, 105, 99, 97, 116, 101, 95, 105, 110, 100, 105, 99, 97, 116, 111, 114]⟩)).2)),
  .sat (nT nb (some r) (((Bl.check p0 l0 (Bl.isS p0 l0 ⟨#[47]⟩ 2) (⟨#[112, 114, 101, 100, 105, 99, 97, 116, 101, 95, 105, 110, 100, 105, 99, 97, 116, 111, 114]⟩)).1).1) (((Bl.check p0 l0 (Bl.isS p0 l0 ⟨#[47]⟩ 2) (⟨#[112, 114, 101, 100, 105, 99, 97, 116, 101, 95, 105, 110, 100, 105, 99, 97, 116, 111, 114]⟩)).1).2)),
  .val (.bool ((Bl.check p0 l0 (Bl.isS p0 l0 ⟨#[47]⟩ 2) (⟨#[112, 114, 101, 100, 105, 99, 97, 116, 101, 95, 105, 110, 100, 105, 99, 97, 116, 111, 114]⟩)).2)),
  .any]
def bInd1aEs2 (p0 : Pay) (l0 : Fo) (nb r : Nat) : List Kd := [
  .sat (nT 0 (some r) p0 l0),
  .sat (nT 0 (some r) p0 l0),
  .val (.bool (Bl.isS p0 l0 ⟨#[47]⟩ 2)),
  .sat (nT2 nb (some r) (((Bl.check p0 l0 (Bl.isS p0 l0 ⟨#[47]⟩ 2) (⟨#[112, 114, 101, 100, 105, 99, 97, 116, 101, 95, 105, 110, 100, 105, 99, 97, 116, 111, 114]⟩)).1).1) (((Bl.check p0 l0 (Bl.isS p0 l0 ⟨#[47]⟩ 2) (⟨#[112, 114, 101, 100, 105, 99, 97, 116, 101, 95, 105, 110, 100, 105, 99, 97, 116, 111, 114]⟩)).1).2) ((Bl.check p0 l0 (Bl.isS p0 l0 ⟨#[47]⟩ 2) (⟨#[112, 114, 101, 100, 105, 99, 97, 116, 101, 95, 105, 110, 100, 105, 99, 97, 116, 111, 114]⟩)).2)),
  .sat (nT2 nb (some r) (((Bl.check p0 l0 (Bl.isS p0 l0 ⟨#[47]⟩ 2) (⟨#[112, 114, 101, 100, 105, 99, 97, 116, 101, 95, 105, 110, 100, 105, 99, 97, 116, 111, 114]⟩)).1).1) (((Bl.check p0 l0 (Bl.isS p0 l0 ⟨#[47]⟩ 2) (⟨#[112, 114, 101, 100, 105, 99, 97, 116, 101, 95, 105, 110, 100, 105, 99, 97, 116, 111, 114]⟩)).1).2) ((Bl.check p0 l0 (Bl.isS p0 l0 ⟨#[47]⟩ 2) (⟨#[112, 114, 101, 100, 105, 99, 97, 116, 101, 95, 105, 110, 100, 105, 99, 97, 116, 111, 114]⟩)).2)),
  .sat (nT nb (some r) (((Bl.check p0 l0 (Bl.isS p0 l0 ⟨#[47]⟩ 2) (⟨#[112, 114, 101, 100, 105, 99, 97, 116, 101, 95, 105, 110, 100, 105, 99, 97, 116, 111, 114]⟩)).1).1) (((Bl.check p0 l0 (Bl.isS p0 l0 ⟨#[47]⟩ 2) (⟨#[112, 114, 101, 100, 105, 99, 97, 116, 101, 95, 105, 110, 100, 105, 99, 97, 116, 111, 114]⟩)).1).2)),
  .val (.bool ((Bl.check p0 l0 (Bl.isS p0 l0 ⟨#[47]⟩ 2) (⟨#[112, 114, 101, 100, 105, 99, 97, 116, 101, 95, 105, 110, 100, 105, 99, 97, 116, 111, 114]⟩)).2)),
  .any]
def bInd1aDs : List Nat := [7, 8, 9, 10, 6, 11, 12, 1007]
def bInd1aEnv (p0 : Pay) (l0 : Fo) (nb r : Nat) : Env := [(1, .sat (nP 0 (some r) p0 l0)), (2, .val (.string ⟨#[]⟩)), (3, .val (.int .i64 0)), (4, .sat (rC nb r zp .nil)), (990, .sat (gP nb (some r))), (5, .val (.bool false))]
def bInd1aEnv2 (p0 : Pay) (l0 : Fo) (nb r : Nat) : Env := [(4, .sat (rC nb r (((Bl.check p0 l0 (Bl.isS p0 l0 ⟨#[47]⟩ 2) (⟨#[112, 114, 101, 100, 105, 99, 97, 116, 101, 95, 105, 110, 100, 105, 99, 97, 116, 111, 114]⟩)).1).1) (((Bl.check p0 l0 (Bl.isS p0 l0 ⟨#[47]⟩ 2) (⟨#[112, 114, 101, 100, 105, 99, 97, 116, 101, 95, 105, 110, 100, 105, 99, 97, 116, 111, 114]⟩)).1).2))), (1, .sat (nP 0 (some r) p0 l0)), (2, .val (.string ⟨#[]⟩)), (3, .val (.int .i64 0)), (990, .sat (gP nb (some r))), (5, .val (.bool false))]
theorem bInd1a_0 {Q : Exit → Act → World → Prop} (p0 : Pay) (l0 : Fo) (nb r : Nat)  : RStep (strip bInd1Ops) Q (fun i => ((bInd1aEs p0 l0 nb r)[i]?).getD .any) (fun i => (bInd1aDs[i]?).getD (1000 + i)) (look (bInd1aEnv p0 l0 nb r)) 47 0 := fun _ => step_nload (by kernel_rfl) (Opd.of_base 1 rfl) rfl
theorem bInd1a_1 {Q : Exit → Act → World → Prop} (p0 : Pay) (l0 : Fo) (nb r : Nat)  : RStep (strip bInd1Ops) Q (fun i => ((bInd1aEs p0 l0 nb r)[i]?).getD .any) (fun i => (bInd1aDs[i]?).getD (1000 + i)) (look (bInd1aEnv p0 l0 nb r)) 47 1 := fun _ => step_nload (by kernel_rfl) (Opd.of_base 1 rfl) rfl
theorem bInd1a_2 {Q : Exit → Act → World → Prop} (p0 : Pay) (l0 : Fo) (nb r : Nat)  : RStep (strip bInd1Ops) Q (fun i => ((bInd1aEs p0 l0 nb r)[i]?).getD .any) (fun i => (bInd1aDs[i]?).getD (1000 + i)) (look (bInd1aEnv p0 l0 nb r)) 47 2 := fun _ => step_bIs (by kernel_rfl) (Opd.ofT (Opd.dep 1 rfl rfl (by kernel_rfl))) (Opd.const _) (Opd.const _) rfl
theorem bInd1a_3 {Q : Exit → Act → World → Prop} (p0 : Pay) (l0 : Fo) (nb r : Nat)  : RStep (strip bInd1Ops) Q (fun i => ((bInd1aEs p0 l0 nb r)[i]?).getD .any) (fun i => (bInd1aDs[i]?).getD (1000 + i)) (look (bInd1aEnv p0 l0 nb r)) 47 3 := fun _ => step_bCheck (g := 990) (by kernel_rfl) (Opd.ofT (Opd.dep 0 rfl rfl (by kernel_rfl))) (Opd.dep 2 rfl rfl (by kernel_rfl)) (Opd.const _) (Opd.of_base 990 rfl) rfl
theorem bInd1a_4 {Q : Exit → Act → World → Prop} (p0 : Pay) (l0 : Fo) (nb r : Nat)  : RStep (strip bInd1Ops) Q (fun i => ((bInd1aEs p0 l0 nb r)[i]?).getD .any) (fun i => (bInd1aDs[i]?).getD (1000 + i)) (look (bInd1aEnv p0 l0 nb r)) 47 4 := fun _ => step_move (by kernel_rfl) (Opd.dep 3 rfl rfl (by kernel_rfl)) rfl
theorem bInd1a_5 {Q : Exit → Act → World → Prop} (p0 : Pay) (l0 : Fo) (nb r : Nat)  : RStep (strip bInd1Ops) Q (fun i => ((bInd1aEs p0 l0 nb r)[i]?).getD .any) (fun i => (bInd1aDs[i]?).getD (1000 + i)) (look (bInd1aEnv p0 l0 nb r)) 47 5 := fun _ => step_nT2_0 (by kernel_rfl) (Opd.dep 4 rfl rfl (by kernel_rfl)) rfl
theorem bInd1a_6 {Q : Exit → Act → World → Prop} (p0 : Pay) (l0 : Fo) (nb r : Nat)  : RStep (strip bInd1Ops) Q (fun i => ((bInd1aEs p0 l0 nb r)[i]?).getD .any) (fun i => (bInd1aDs[i]?).getD (1000 + i)) (look (bInd1aEnv p0 l0 nb r)) 47 6 := fun _ => step_nT2_1 (by kernel_rfl) (Opd.dep 4 rfl rfl (by kernel_rfl)) rfl
theorem bInd1a_6b {Q : Exit → Act → World → Prop} (p0 : Pay) (l0 : Fo) (nb r : Nat)  : RStep (strip bInd1Ops) Q (fun i => ((bInd1aEs2 p0 l0 nb r)[i]?).getD .any) (fun i => (bInd1aDs[i]?).getD (1000 + i)) (look (bInd1aEnv2 p0 l0 nb r)) 47 6 := fun _ => step_nT2_1 (by kernel_rfl) (Opd.dep 4 rfl rfl (by kernel_rfl)) rfl
theorem bInd1a_away (p0 : Pay) (l0 : Fo) (nb r : Nat) : ∀ j, j < 8 → ((bInd1aEs2 p0 l0 nb r)[j]?).getD .any = .any ∨ (((bInd1aEs2 p0 l0 nb r)[j]?).getD .any = ((bInd1aEs p0 l0 nb r)[j]?).getD .any ∧ Away r (((bInd1aEs p0 l0 nb r)[j]?).getD .any))
  | 0, _ => .inr ⟨rfl, (away_nT _ _ _ _)⟩
  | 1, _ => .inr ⟨rfl, (away_nT _ _ _ _)⟩
  | 2, _ => .inr ⟨rfl, (away_val _ _)⟩
  | 3, _ => .inr ⟨rfl, (away_nT2 _ _ _ _ _)⟩
  | 4, _ => .inr ⟨rfl, (away_nT2 _ _ _ _ _)⟩
  | 5, _ => .inr ⟨rfl, (away_nT _ _ _ _)⟩
  | 6, _ => .inr ⟨rfl, (away_val _ _)⟩
  | 7, _ => .inl rfl
  | _ + 8, h => absurd h (by omega)
theorem bInd1a_region {Q : Exit → Act → World → Prop} (p0 : Pay) (l0 : Fo) (nb r : Nat)  {w0 : World} {a : Act} {w : World} (hr : w0.heap.size ≤ r) (h : Hold 47 [(1, .sat (nP 0 (some r) p0 l0)), (2, .val (.string ⟨#[]⟩)), (3, .val (.int .i64 0)), (4, .sat (rC nb r zp .nil)), (990, .sat (gP nb (some r))), (5, .val (.bool false))] w0 a w)
    (hQ : ∀ a' w', Hold 47 [(1, .sat (nP 0 (some r) p0 l0)), (2, .val (.string ⟨#[]⟩)), (3, .val (.int .i64 0)), (990, .sat (gP nb (some r))), (5, .val (.bool ((Bl.check p0 l0 (Bl.isS p0 l0 ⟨#[47]⟩ 2) (⟨#[112, 114, 101, 100, 105, 99, 97, 116, 101, 95, 105, 110, 100, 105, 99, 97, 116, 111, 114]⟩)).2))), (4, .sat (rC nb r (((Bl.check p0 l0 (Bl.isS p0 l0 ⟨#[47]⟩ 2) (⟨#[112, 114, 101, 100, 105, 99, 97, 116, 101, 95, 105, 110, 100, 105, 99, 97, 116, 111, 114]⟩)).1).1) (((Bl.check p0 l0 (Bl.isS p0 l0 ⟨#[47]⟩ 2) (⟨#[112, 114, 101, 100, 105, 99, 97, 116, 101, 95, 105, 110, 100, 105, 99, 97, 116, 111, 114]⟩)).1).2)))] w0 a' w' → Q .normal a' w') : (Code.region 1 bInd1Ops true).wp Try.prog Q a w := by
  have hall : ∀ i, i < 0 → RStep (strip bInd1Ops) Q (fun i => ((bInd1aEs p0 l0 nb r)[i]?).getD .any) (fun i => (bInd1aDs[i]?).getD (1000 + i)) (look (bInd1aEnv p0 l0 nb r)) 47 i := fun i hi => absurd hi (by omega)
  have hall := below_succ hall (bInd1a_0 p0 l0 nb r )
  have hall := below_succ hall (bInd1a_1 p0 l0 nb r )
  have hall := below_succ hall (bInd1a_2 p0 l0 nb r )
  have hall := below_succ hall (bInd1a_3 p0 l0 nb r )
  have hall := below_succ hall (bInd1a_4 p0 l0 nb r )
  have hall := below_succ hall (bInd1a_5 p0 l0 nb r )
  have hall := below_succ hall (bInd1a_6 p0 l0 nb r )
  refine env_late (m := 8) (n := 9) (s := 7) (x := 4) (y := 11) (r := r) (jy := 5) bInd1aDs (bInd1aEs p0 l0 nb r) (bInd1aEs2 p0 l0 nb r) [(1, .sat (nP 0 (some r) p0 l0)), (2, .val (.string ⟨#[]⟩)), (3, .val (.int .i64 0)), (990, .sat (gP nb (some r))), (5, .val (.bool false))] [6] rfl (by kernel_rfl) (by decide) (by decide) (by kernel_rfl) (by kernel_rfl) (by kernel_rfl) (by kernel_rfl) (of_decide_eq_true (by kernel_rfl)) (fun i_ hi_ hs_ => hall i_ (by omega)) (late_cons (bInd1a_6b p0 l0 nb r ) late_nil) (by kernel_rfl) rfl (by decide) (by decide) (by kernel_rfl) rfl rfl rfl hr (stays_cons 1 rfl (away_nP _ _ _ _) (stays_cons 2 rfl (away_val _ _) (stays_cons 3 rfl (away_val _ _) (stays_cons 990 rfl (away_gP _ _ _) (stays_cons 5 rfl (away_val _ _) (stays_nil _ _)))))) (bInd1a_away p0 l0 nb r) rfl h fun a w h => ?_
  clear hall
  have h := h.keep [7, 8, 9, 10, 6, 11, 12, 4, 1, 2, 3, 990, 5]
  show wpOps Try.prog _ Q [8] a w
  refine env_one (i := 8) (d := 5) (k := .val (.bool ((Bl.check p0 l0 (Bl.isS p0 l0 ⟨#[47]⟩ 2) (⟨#[112, 114, 101, 100, 105, 99, 97, 116, 101, 95, 105, 110, 100, 105, 99, 97, 116, 111, 114]⟩)).2))) (step_assign (by kernel_rfl) (Opd.of_base 12 rfl) rfl) (by kernel_rfl) (by decide) h ?_
  clear h
  intro a w h
  exact hQ a w (h.keep [1, 2, 3, 990, 5, 4])
theorem bInd2a_region {Q : Exit → Act → World → Prop} (p0 : Pay) (l0 : Fo) (nb r : Nat)  {w0 : World} {a : Act} {w : World} (hr : w0.heap.size ≤ r) (h : Hold 47 [(1, .sat (nP 0 (some r) p0 l0)), (2, .val (.string ⟨#[]⟩)), (3, .val (.int .i64 0)), (990, .sat (gP nb (some r))), (5, .val (.bool true)), (4, .sat (rC nb r (((Bl.check p0 l0 (Bl.isS p0 l0 ⟨#[47]⟩ 2) (⟨#[112, 114, 101, 100, 105, 99, 97, 116, 101, 95, 105, 110, 100, 105, 99, 97, 116, 111, 114]⟩)).1).1) (((Bl.check p0 l0 (Bl.isS p0 l0 ⟨#[47]⟩ 2) (⟨#[112, 114, 101, 100, 105, 99, 97, 116, 101, 95, 105, 110, 100, 105, 99, 97, 116, 111, 114]⟩)).1).2)))] w0 a w)
    (hQ : ∀ a' w', Hold 47 [(1, .sat (nP 0 (some r) p0 l0)), (2, .val (.string ⟨#[]⟩)), (3, .val (.int .i64 0)), (990, .sat (gP nb (some r))), (5, .val (.bool true)), (4, .sat (rC nb r (((Bl.check p0 l0 (Bl.isS p0 l0 ⟨#[47]⟩ 2) (⟨#[112, 114, 101, 100, 105, 99, 97, 116, 101, 95, 105, 110, 100, 105, 99, 97, 116, 111, 114]⟩)).1).1) (((Bl.check p0 l0 (Bl.isS p0 l0 ⟨#[47]⟩ 2) (⟨#[112, 114, 101, 100, 105, 99, 97, 116, 101, 95, 105, 110, 100, 105, 99, 97, 116, 111, 114]⟩)).1).2))), (14, .val (.bool false))] w0 a' w' → Q .normal a' w') : (Code.region 2 bInd2Ops false).wp Try.prog Q a w := by
  refine region_seq (w0 := w) 2 (by kernel_rfl) ?_
  rw [show List.range 2 = [0, 1] from rfl]
  refine env_one (i := 0) (d := 13) (k := .val (.bool true)) (step_move (by kernel_rfl) (Opd.of_base 5 rfl) rfl) (by kernel_rfl) (by decide) h ?_
  clear h
  intro a w h
  refine env_one (i := 1) (d := 14) (k := .val (.bool false)) (step_not (by kernel_rfl) (Opd.of_base 13 rfl) rfl) (by kernel_rfl) (by decide) h ?_
  clear h
  intro a w h
  exact hQ a w (h.keep [1, 2, 3, 990, 5, 4, 14])
theorem bInd4a_region {Q : Exit → Act → World → Prop} (p0 : Pay) (l0 : Fo) (nb r : Nat) (hl2 : Tm.len l0 = 2) {w0 : World} {a : Act} {w : World} (hr : w0.heap.size ≤ r) (h : Hold 47 [(1, .sat (nP 0 (some r) p0 l0)), (2, .val (.string ⟨#[]⟩)), (3, .val (.int .i64 0)), (990, .sat (gP nb (some r))), (5, .val (.bool true)), (4, .sat (rC nb r (((Bl.check p0 l0 (Bl.isS p0 l0 ⟨#[47]⟩ 2) (⟨#[112, 114, 101, 100, 105, 99, 97, 116, 101, 95, 105, 110, 100, 105, 99, 97, 116, 111, 114]⟩)).1).1) (((Bl.check p0 l0 (Bl.isS p0 l0 ⟨#[47]⟩ 2) (⟨#[112, 114, 101, 100, 105, 99, 97, 116, 101, 95, 105, 110, 100, 105, 99, 97, 116, 111, 114]⟩)).1).2)))] w0 a w)
    (hQ : ∀ a' w', Hold 47 [(1, .sat (nP 0 (some r) p0 l0)), (2, .val (.string ⟨#[]⟩)), (3, .val (.int .i64 0)), (990, .sat (gP nb (some r))), (5, .val (.bool true)), (4, .sat (rC nb r (((Bl.check p0 l0 (Bl.isS p0 l0 ⟨#[47]⟩ 2) (⟨#[112, 114, 101, 100, 105, 99, 97, 116, 101, 95, 105, 110, 100, 105, 99, 97, 116, 111, 114]⟩)).1).1) (((Bl.check p0 l0 (Bl.isS p0 l0 ⟨#[47]⟩ 2) (⟨#[112, 114, 101, 100, 105, 99, 97, 116, 101, 95, 105, 110, 100, 105, 99, 97, 116, 111, 114]⟩)).1).2))), (18, .val (.bool (Bl.anyVar l0)))] w0 a' w' → Q .normal a' w') : (Code.region 4 bInd4Ops false).wp Try.prog Q a w := by
  refine region_seq (w0 := w) 3 (by kernel_rfl) ?_
  rw [show List.range 3 = [0, 1, 2] from rfl]
  refine env_one (i := 0) (d := 16) (k := .sat (nQ 0 (some r) l0)) (step_nfield3 (by kernel_rfl) (Opd.of_base 1 rfl) rfl) (by kernel_rfl) (by decide) h ?_
  clear h
  intro a w h
  refine env_one (i := 1) (d := 17) (k := .sat (nR 0 (some r) l0)) (step_nload_row (by kernel_rfl) (Opd.of_base 16 rfl) rfl) (by kernel_rfl) (by decide) h ?_
  clear h
  intro a w h
  refine env_one (i := 2) (d := 18) (k := .val (.bool (Bl.anyVar l0))) (step_contains (by omega) (by kernel_rfl) (Opd.ofR (Opd.of_base 17 rfl)) rfl) (by kernel_rfl) (by decide) h ?_
  clear h
  intro a w h
  exact hQ a w (h.keep [1, 2, 3, 990, 5, 4, 18])
theorem bInd5a_region {Q : Exit → Act → World → Prop} (p0 : Pay) (l0 : Fo) (nb r : Nat)  {w0 : World} {a : Act} {w : World} (hr : w0.heap.size ≤ r) (h : Hold 47 [(1, .sat (nP 0 (some r) p0 l0)), (2, .val (.string ⟨#[]⟩)), (3, .val (.int .i64 0)), (990, .sat (gP nb (some r))), (5, .val (.bool true)), (4, .sat (rC nb r (((Bl.check p0 l0 (Bl.isS p0 l0 ⟨#[47]⟩ 2) (⟨#[112, 114, 101, 100, 105, 99, 97, 116, 101, 95, 105, 110, 100, 105, 99, 97, 116, 111, 114]⟩)).1).1) (((Bl.check p0 l0 (Bl.isS p0 l0 ⟨#[47]⟩ 2) (⟨#[112, 114, 101, 100, 105, 99, 97, 116, 101, 95, 105, 110, 100, 105, 99, 97, 116, 111, 114]⟩)).1).2)))] w0 a w)
    (hQ : ∀ a' w', Hold 47 [(1, .sat (nP 0 (some r) p0 l0)), (2, .val (.string ⟨#[]⟩)), (3, .val (.int .i64 0)), (990, .sat (gP nb (some r))), (5, .val (.bool false)), (4, .sat (rC nb r Bl.inst.1 Bl.inst.2))] w0 a' w' → Q .normal a' w') : (Code.region 5 bInd5Ops false).wp Try.prog Q a w := by
  refine region_seq (w0 := w) 5 (by kernel_rfl) ?_
  rw [show List.range 5 = [0, 1, 2, 3, 4] from rfl]
  refine env_one (i := 0) (d := 19) (k := .sat (nT nb (some r) Bl.inst.1 Bl.inst.2)) (step_bInst (g := 990) (by kernel_rfl)  (Opd.of_base 990 rfl) rfl) (by kernel_rfl) (by decide) h ?_
  clear h
  intro a w h
  refine env_one (i := 1) (d := 2) (k := .val (.string ⟨#[]⟩)) (step_assign (by kernel_rfl) (Opd.const _) rfl) (by kernel_rfl) (by decide) h ?_
  clear h
  intro a w h
  refine env_one (i := 2) (d := 3) (k := .val (.int .i64 0)) (step_assign (by kernel_rfl) (Opd.const _) rfl) (by kernel_rfl) (by decide) h ?_
  clear h
  intro a w h
  refine env_store (i := 3) (x := 4) (y := 19) (r := r) [(1, .sat (nP 0 (some r) p0 l0)), (2, .val (.string ⟨#[]⟩)), (3, .val (.int .i64 0)), (990, .sat (gP nb (some r))), (5, .val (.bool true)), (19, .sat (nT nb (some r) Bl.inst.1 Bl.inst.2))] (by kernel_rfl) rfl rfl hr (stays_cons 1 rfl (away_nP _ _ _ _) (stays_cons 2 rfl (away_val _ _) (stays_cons 3 rfl (away_val _ _) (stays_cons 990 rfl (away_gP _ _ _) (stays_cons 5 rfl (away_val _ _) (stays_cons 19 rfl (away_nT _ _ _ _) (stays_nil _ _))))))) h ?_
  clear h
  intro a w h
  refine env_one (i := 4) (d := 5) (k := .val (.bool false)) (step_assign (by kernel_rfl) (Opd.const _) rfl) (by kernel_rfl) (by decide) h ?_
  clear h
  intro a w h
  exact hQ a w (h.keep [1, 2, 3, 990, 5, 4])
theorem bInd6a_region {Q : Exit → Act → World → Prop} (p0 : Pay) (l0 : Fo) (nb r : Nat) (hl2 : Tm.len l0 = 2) {w0 : World} {a : Act} {w : World} (hr : w0.heap.size ≤ r) (h : Hold 47 [(1, .sat (nP 0 (some r) p0 l0)), (2, .val (.string ⟨#[]⟩)), (3, .val (.int .i64 0)), (990, .sat (gP nb (some r))), (5, .val (.bool true)), (4, .sat (rC nb r (((Bl.check p0 l0 (Bl.isS p0 l0 ⟨#[47]⟩ 2) (⟨#[112, 114, 101, 100, 105, 99, 97, 116, 101, 95, 105, 110, 100, 105, 99, 97, 116, 111, 114]⟩)).1).1) (((Bl.check p0 l0 (Bl.isS p0 l0 ⟨#[47]⟩ 2) (⟨#[112, 114, 101, 100, 105, 99, 97, 116, 101, 95, 105, 110, 100, 105, 99, 97, 116, 111, 114]⟩)).1).2)))] w0 a w)
    (hQ : ∀ a' w', Hold 47 [(1, .sat (nP 0 (some r) p0 l0)), (2, .val (.string (Bl.atom ((Bl.arg0 l0).1) ((Bl.arg0 l0).2)).1)), (3, .val (.int .i64 0)), (990, .sat (gP nb (some r))), (5, .val (.bool ((Bl.atom ((Bl.arg0 l0).1) ((Bl.arg0 l0).2)).2.2))), (4, .sat (rC nb r (((Bl.atom ((Bl.arg0 l0).1) ((Bl.arg0 l0).2)).2.1).1) (((Bl.atom ((Bl.arg0 l0).1) ((Bl.arg0 l0).2)).2.1).2)))] w0 a' w' → Q .normal a' w') : (Code.region 6 bInd6Ops false).wp Try.prog Q a w := by
  refine region_seq (w0 := w) 12 (by kernel_rfl) ?_
  rw [show List.range 12 = [0, 1, 2, 3, 4, 5, 6, 7, 8, 9, 10, 11] from rfl]
  refine env_one (i := 0) (d := 21) (k := .sat (nQ 0 (some r) l0)) (step_nfield3 (by kernel_rfl) (Opd.of_base 1 rfl) rfl) (by kernel_rfl) (by decide) h ?_
  clear h
  intro a w h
  refine env_one (i := 1) (d := 22) (k := .sat (nR 0 (some r) l0)) (step_nload_row (by kernel_rfl) (Opd.of_base 21 rfl) rfl) (by kernel_rfl) (by decide) h ?_
  clear h
  intro a w h
  refine env_one (i := 2) (d := 23) (k := .sat (nP 0 (some r) ((Bl.arg0 l0).1) ((Bl.arg0 l0).2))) (step_nindex (k := 0) (r := (Tm.dropF l0 1)) (by kernel_rfl) (Opd.of_base 22 rfl) (Opd.const _) (Bl.drop0 hl2) rfl) (by kernel_rfl) (by decide) h ?_
  clear h
  intro a w h
  refine env_one (i := 3) (d := 24) (k := .sat (nT 0 (some r) ((Bl.arg0 l0).1) ((Bl.arg0 l0).2))) (step_nload (by kernel_rfl) (Opd.of_base 23 rfl) rfl) (by kernel_rfl) (by decide) h ?_
  clear h
  intro a w h
  refine env_one (i := 4) (d := 25) (k := .sat (nT3 nb (some r) (.string (Bl.atom ((Bl.arg0 l0).1) ((Bl.arg0 l0).2)).1) (((Bl.atom ((Bl.arg0 l0).1) ((Bl.arg0 l0).2)).2.1).1) (((Bl.atom ((Bl.arg0 l0).1) ((Bl.arg0 l0).2)).2.1).2) ((Bl.atom ((Bl.arg0 l0).1) ((Bl.arg0 l0).2)).2.2))) (step_bAtom (g := 990) (by kernel_rfl) (Opd.ofT (Opd.of_base 24 rfl)) (Opd.of_base 990 rfl) rfl) (by kernel_rfl) (by decide) h ?_
  clear h
  intro a w h
  refine env_one (i := 5) (d := 20) (k := .sat (nT3 nb (some r) (.string (Bl.atom ((Bl.arg0 l0).1) ((Bl.arg0 l0).2)).1) (((Bl.atom ((Bl.arg0 l0).1) ((Bl.arg0 l0).2)).2.1).1) (((Bl.atom ((Bl.arg0 l0).1) ((Bl.arg0 l0).2)).2.1).2) ((Bl.atom ((Bl.arg0 l0).1) ((Bl.arg0 l0).2)).2.2))) (step_move (by kernel_rfl) (Opd.of_base 25 rfl) rfl) (by kernel_rfl) (by decide) h ?_
  clear h
  intro a w h
  refine env_one (i := 6) (d := 26) (k := .val (.string (Bl.atom ((Bl.arg0 l0).1) ((Bl.arg0 l0).2)).1)) (step_nT3_0 (by kernel_rfl) (Opd.of_base 20 rfl) rfl) (by kernel_rfl) (by decide) h ?_
  clear h
  intro a w h
  refine env_one (i := 7) (d := 27) (k := .sat (nT nb (some r) (((Bl.atom ((Bl.arg0 l0).1) ((Bl.arg0 l0).2)).2.1).1) (((Bl.atom ((Bl.arg0 l0).1) ((Bl.arg0 l0).2)).2.1).2))) (step_nT3_1 (by kernel_rfl) (Opd.of_base 20 rfl) rfl) (by kernel_rfl) (by decide) h ?_
  clear h
  intro a w h
  refine env_one (i := 8) (d := 28) (k := .val (.bool ((Bl.atom ((Bl.arg0 l0).1) ((Bl.arg0 l0).2)).2.2))) (step_nT3_2 (by kernel_rfl) (Opd.of_base 20 rfl) rfl) (by kernel_rfl) (by decide) h ?_
  clear h
  intro a w h
  refine env_one (i := 9) (d := 2) (k := .val (.string (Bl.atom ((Bl.arg0 l0).1) ((Bl.arg0 l0).2)).1)) (step_assign (by kernel_rfl) (Opd.of_base 26 rfl) rfl) (by kernel_rfl) (by decide) h ?_
  clear h
  intro a w h
  refine env_store (i := 10) (x := 4) (y := 27) (r := r) [(1, .sat (nP 0 (some r) p0 l0)), (2, .val (.string (Bl.atom ((Bl.arg0 l0).1) ((Bl.arg0 l0).2)).1)), (3, .val (.int .i64 0)), (990, .sat (gP nb (some r))), (5, .val (.bool true)), (22, .sat (nR 0 (some r) l0)), (23, .sat (nP 0 (some r) ((Bl.arg0 l0).1) ((Bl.arg0 l0).2))), (24, .sat (nT 0 (some r) ((Bl.arg0 l0).1) ((Bl.arg0 l0).2))), (25, .sat (nT3 nb (some r) (.string (Bl.atom ((Bl.arg0 l0).1) ((Bl.arg0 l0).2)).1) (((Bl.atom ((Bl.arg0 l0).1) ((Bl.arg0 l0).2)).2.1).1) (((Bl.atom ((Bl.arg0 l0).1) ((Bl.arg0 l0).2)).2.1).2) ((Bl.atom ((Bl.arg0 l0).1) ((Bl.arg0 l0).2)).2.2))), (20, .sat (nT3 nb (some r) (.string (Bl.atom ((Bl.arg0 l0).1) ((Bl.arg0 l0).2)).1) (((Bl.atom ((Bl.arg0 l0).1) ((Bl.arg0 l0).2)).2.1).1) (((Bl.atom ((Bl.arg0 l0).1) ((Bl.arg0 l0).2)).2.1).2) ((Bl.atom ((Bl.arg0 l0).1) ((Bl.arg0 l0).2)).2.2))), (26, .val (.string (Bl.atom ((Bl.arg0 l0).1) ((Bl.arg0 l0).2)).1)), (27, .sat (nT nb (some r) (((Bl.atom ((Bl.arg0 l0).1) ((Bl.arg0 l0).2)).2.1).1) (((Bl.atom ((Bl.arg0 l0).1) ((Bl.arg0 l0).2)).2.1).2))), (28, .val (.bool ((Bl.atom ((Bl.arg0 l0).1) ((Bl.arg0 l0).2)).2.2)))] (by kernel_rfl) rfl rfl hr (stays_cons 1 rfl (away_nP _ _ _ _) (stays_cons 2 rfl (away_val _ _) (stays_cons 3 rfl (away_val _ _) (stays_cons 990 rfl (away_gP _ _ _) (stays_cons 5 rfl (away_val _ _) (stays_cons 22 rfl (away_nR _ _ _) (stays_cons 23 rfl (away_nP _ _ _ _) (stays_cons 24 rfl (away_nT _ _ _ _) (stays_cons 25 rfl (away_nT3 _ _ _ _ _ _) (stays_cons 20 rfl (away_nT3 _ _ _ _ _ _) (stays_cons 26 rfl (away_val _ _) (stays_cons 27 rfl (away_nT _ _ _ _) (stays_cons 28 rfl (away_val _ _) (stays_nil _ _)))))))))))))) h ?_
  clear h
  intro a w h
  refine env_one (i := 11) (d := 5) (k := .val (.bool ((Bl.atom ((Bl.arg0 l0).1) ((Bl.arg0 l0).2)).2.2))) (step_assign (by kernel_rfl) (Opd.of_base 28 rfl) rfl) (by kernel_rfl) (by decide) h ?_
  clear h
  intro a w h
  exact hQ a w (h.keep [1, 2, 3, 990, 5, 4])
theorem bInd7a_region {Q : Exit → Act → World → Prop} (p0 : Pay) (l0 : Fo) (nb r : Nat)  {w0 : World} {a : Act} {w : World} (hr : w0.heap.size ≤ r) (h : Hold 47 [(1, .sat (nP 0 (some r) p0 l0)), (2, .val (.string (Bl.atom ((Bl.arg0 l0).1) ((Bl.arg0 l0).2)).1)), (3, .val (.int .i64 0)), (990, .sat (gP nb (some r))), (5, .val (.bool true)), (4, .sat (rC nb r (((Bl.atom ((Bl.arg0 l0).1) ((Bl.arg0 l0).2)).2.1).1) (((Bl.atom ((Bl.arg0 l0).1) ((Bl.arg0 l0).2)).2.1).2)))] w0 a w)
    (hQ : ∀ a' w', Hold 47 [(1, .sat (nP 0 (some r) p0 l0)), (2, .val (.string (Bl.atom ((Bl.arg0 l0).1) ((Bl.arg0 l0).2)).1)), (3, .val (.int .i64 0)), (990, .sat (gP nb (some r))), (5, .val (.bool true)), (4, .sat (rC nb r (((Bl.atom ((Bl.arg0 l0).1) ((Bl.arg0 l0).2)).2.1).1) (((Bl.atom ((Bl.arg0 l0).1) ((Bl.arg0 l0).2)).2.1).2))), (30, .val (.bool false))] w0 a' w' → Q .normal a' w') : (Code.region 7 bInd7Ops false).wp Try.prog Q a w := by
  refine region_seq (w0 := w) 2 (by kernel_rfl) ?_
  rw [show List.range 2 = [0, 1] from rfl]
  refine env_one (i := 0) (d := 29) (k := .val (.bool true)) (step_move (by kernel_rfl) (Opd.of_base 5 rfl) rfl) (by kernel_rfl) (by decide) h ?_
  clear h
  intro a w h
  refine env_one (i := 1) (d := 30) (k := .val (.bool false)) (step_not (by kernel_rfl) (Opd.of_base 29 rfl) rfl) (by kernel_rfl) (by decide) h ?_
  clear h
  intro a w h
  exact hQ a w (h.keep [1, 2, 3, 990, 5, 4, 30])
theorem bInd9a_region {Q : Exit → Act → World → Prop} (p0 : Pay) (l0 : Fo) (nb r : Nat) (hl2 : Tm.len l0 = 2) {w0 : World} {a : Act} {w : World} (hr : w0.heap.size ≤ r) (h : Hold 47 [(1, .sat (nP 0 (some r) p0 l0)), (2, .val (.string (Bl.atom ((Bl.arg0 l0).1) ((Bl.arg0 l0).2)).1)), (3, .val (.int .i64 0)), (990, .sat (gP nb (some r))), (5, .val (.bool true)), (4, .sat (rC nb r (((Bl.atom ((Bl.arg0 l0).1) ((Bl.arg0 l0).2)).2.1).1) (((Bl.atom ((Bl.arg0 l0).1) ((Bl.arg0 l0).2)).2.1).2)))] w0 a w)
    (hQ : ∀ a' w', Hold 47 [(2, .val (.string (Bl.atom ((Bl.arg0 l0).1) ((Bl.arg0 l0).2)).1)), (3, .val (.int .i64 (Bl.arity ((Bl.arg1 l0).1) ((Bl.arg1 l0).2)).1)), (990, .sat (gP nb (some r))), (5, .val (.bool ((Bl.arity ((Bl.arg1 l0).1) ((Bl.arg1 l0).2)).2.2))), (4, .sat (rC nb r (((Bl.arity ((Bl.arg1 l0).1) ((Bl.arg1 l0).2)).2.1).1) (((Bl.arity ((Bl.arg1 l0).1) ((Bl.arg1 l0).2)).2.1).2)))] w0 a' w' → Q .normal a' w') : (Code.region 9 bInd9Ops false).wp Try.prog Q a w := by
  refine region_seq (w0 := w) 12 (by kernel_rfl) ?_
  rw [show List.range 12 = [0, 1, 2, 3, 4, 5, 6, 7, 8, 9, 10, 11] from rfl]
  refine env_one (i := 0) (d := 33) (k := .sat (nQ 0 (some r) l0)) (step_nfield3 (by kernel_rfl) (Opd.of_base 1 rfl) rfl) (by kernel_rfl) (by decide) h ?_
  clear h
  intro a w h
  refine env_one (i := 1) (d := 34) (k := .sat (nR 0 (some r) l0)) (step_nload_row (by kernel_rfl) (Opd.of_base 33 rfl) rfl) (by kernel_rfl) (by decide) h ?_
  clear h
  intro a w h
  refine env_one (i := 2) (d := 35) (k := .sat (nP 0 (some r) ((Bl.arg1 l0).1) ((Bl.arg1 l0).2))) (step_nindex (k := 1) (r := (Tm.dropF l0 2)) (by kernel_rfl) (Opd.of_base 34 rfl) (Opd.const _) (Bl.drop1 hl2) rfl) (by kernel_rfl) (by decide) h ?_
  clear h
  intro a w h
  refine env_one (i := 3) (d := 36) (k := .sat (nT 0 (some r) ((Bl.arg1 l0).1) ((Bl.arg1 l0).2))) (step_nload (by kernel_rfl) (Opd.of_base 35 rfl) rfl) (by kernel_rfl) (by decide) h ?_
  clear h
  intro a w h
  refine env_one (i := 4) (d := 37) (k := .sat (nT3 nb (some r) (.int .i64 (Bl.arity ((Bl.arg1 l0).1) ((Bl.arg1 l0).2)).1) (((Bl.arity ((Bl.arg1 l0).1) ((Bl.arg1 l0).2)).2.1).1) (((Bl.arity ((Bl.arg1 l0).1) ((Bl.arg1 l0).2)).2.1).2) ((Bl.arity ((Bl.arg1 l0).1) ((Bl.arg1 l0).2)).2.2))) (step_bArity (g := 990) (by kernel_rfl) (Opd.ofT (Opd.of_base 36 rfl)) (Opd.of_base 990 rfl) rfl) (by kernel_rfl) (by decide) h ?_
  clear h
  intro a w h
  refine env_one (i := 5) (d := 32) (k := .sat (nT3 nb (some r) (.int .i64 (Bl.arity ((Bl.arg1 l0).1) ((Bl.arg1 l0).2)).1) (((Bl.arity ((Bl.arg1 l0).1) ((Bl.arg1 l0).2)).2.1).1) (((Bl.arity ((Bl.arg1 l0).1) ((Bl.arg1 l0).2)).2.1).2) ((Bl.arity ((Bl.arg1 l0).1) ((Bl.arg1 l0).2)).2.2))) (step_move (by kernel_rfl) (Opd.of_base 37 rfl) rfl) (by kernel_rfl) (by decide) h ?_
  clear h
  intro a w h
  refine env_one (i := 6) (d := 38) (k := .val (.int .i64 (Bl.arity ((Bl.arg1 l0).1) ((Bl.arg1 l0).2)).1)) (step_nT3_0 (by kernel_rfl) (Opd.of_base 32 rfl) rfl) (by kernel_rfl) (by decide) h ?_
  clear h
  intro a w h
  refine env_one (i := 7) (d := 39) (k := .sat (nT nb (some r) (((Bl.arity ((Bl.arg1 l0).1) ((Bl.arg1 l0).2)).2.1).1) (((Bl.arity ((Bl.arg1 l0).1) ((Bl.arg1 l0).2)).2.1).2))) (step_nT3_1 (by kernel_rfl) (Opd.of_base 32 rfl) rfl) (by kernel_rfl) (by decide) h ?_
  clear h
  intro a w h
  refine env_one (i := 8) (d := 40) (k := .val (.bool ((Bl.arity ((Bl.arg1 l0).1) ((Bl.arg1 l0).2)).2.2))) (step_nT3_2 (by kernel_rfl) (Opd.of_base 32 rfl) rfl) (by kernel_rfl) (by decide) h ?_
  clear h
  intro a w h
  refine env_one (i := 9) (d := 3) (k := .val (.int .i64 (Bl.arity ((Bl.arg1 l0).1) ((Bl.arg1 l0).2)).1)) (step_assign (by kernel_rfl) (Opd.of_base 38 rfl) rfl) (by kernel_rfl) (by decide) h ?_
  clear h
  intro a w h
  refine env_store (i := 10) (x := 4) (y := 39) (r := r) [(1, .sat (nP 0 (some r) p0 l0)), (2, .val (.string (Bl.atom ((Bl.arg0 l0).1) ((Bl.arg0 l0).2)).1)), (3, .val (.int .i64 (Bl.arity ((Bl.arg1 l0).1) ((Bl.arg1 l0).2)).1)), (990, .sat (gP nb (some r))), (5, .val (.bool true)), (34, .sat (nR 0 (some r) l0)), (35, .sat (nP 0 (some r) ((Bl.arg1 l0).1) ((Bl.arg1 l0).2))), (36, .sat (nT 0 (some r) ((Bl.arg1 l0).1) ((Bl.arg1 l0).2))), (37, .sat (nT3 nb (some r) (.int .i64 (Bl.arity ((Bl.arg1 l0).1) ((Bl.arg1 l0).2)).1) (((Bl.arity ((Bl.arg1 l0).1) ((Bl.arg1 l0).2)).2.1).1) (((Bl.arity ((Bl.arg1 l0).1) ((Bl.arg1 l0).2)).2.1).2) ((Bl.arity ((Bl.arg1 l0).1) ((Bl.arg1 l0).2)).2.2))), (32, .sat (nT3 nb (some r) (.int .i64 (Bl.arity ((Bl.arg1 l0).1) ((Bl.arg1 l0).2)).1) (((Bl.arity ((Bl.arg1 l0).1) ((Bl.arg1 l0).2)).2.1).1) (((Bl.arity ((Bl.arg1 l0).1) ((Bl.arg1 l0).2)).2.1).2) ((Bl.arity ((Bl.arg1 l0).1) ((Bl.arg1 l0).2)).2.2))), (38, .val (.int .i64 (Bl.arity ((Bl.arg1 l0).1) ((Bl.arg1 l0).2)).1)), (39, .sat (nT nb (some r) (((Bl.arity ((Bl.arg1 l0).1) ((Bl.arg1 l0).2)).2.1).1) (((Bl.arity ((Bl.arg1 l0).1) ((Bl.arg1 l0).2)).2.1).2))), (40, .val (.bool ((Bl.arity ((Bl.arg1 l0).1) ((Bl.arg1 l0).2)).2.2)))] (by kernel_rfl) rfl rfl hr (stays_cons 1 rfl (away_nP _ _ _ _) (stays_cons 2 rfl (away_val _ _) (stays_cons 3 rfl (away_val _ _) (stays_cons 990 rfl (away_gP _ _ _) (stays_cons 5 rfl (away_val _ _) (stays_cons 34 rfl (away_nR _ _ _) (stays_cons 35 rfl (away_nP _ _ _ _) (stays_cons 36 rfl (away_nT _ _ _ _) (stays_cons 37 rfl (away_nT3 _ _ _ _ _ _) (stays_cons 32 rfl (away_nT3 _ _ _ _ _ _) (stays_cons 38 rfl (away_val _ _) (stays_cons 39 rfl (away_nT _ _ _ _) (stays_cons 40 rfl (away_val _ _) (stays_nil _ _)))))))))))))) h ?_
  clear h
  intro a w h
  refine env_one (i := 11) (d := 5) (k := .val (.bool ((Bl.arity ((Bl.arg1 l0).1) ((Bl.arg1 l0).2)).2.2))) (step_assign (by kernel_rfl) (Opd.of_base 40 rfl) rfl) (by kernel_rfl) (by decide) h ?_
  clear h
  intro a w h
  exact hQ a w (h.keep [2, 3, 990, 5, 4])
theorem bInd10a_region {Q : Exit → Act → World → Prop} (p0 : Pay) (l0 : Fo) (nb r : Nat)  {w0 : World} {a : Act} {w : World} (hr : w0.heap.size ≤ r) (h : Hold 47 [(2, .val (.string (Bl.atom ((Bl.arg0 l0).1) ((Bl.arg0 l0).2)).1)), (3, .val (.int .i64 (Bl.arity ((Bl.arg1 l0).1) ((Bl.arg1 l0).2)).1)), (990, .sat (gP nb (some r))), (5, .val (.bool true)), (4, .sat (rC nb r (((Bl.arity ((Bl.arg1 l0).1) ((Bl.arg1 l0).2)).2.1).1) (((Bl.arity ((Bl.arg1 l0).1) ((Bl.arg1 l0).2)).2.1).2)))] w0 a w)
    (hQ : ∀ a' w', Hold 47 [(2, .val (.string (Bl.atom ((Bl.arg0 l0).1) ((Bl.arg0 l0).2)).1)), (3, .val (.int .i64 (Bl.arity ((Bl.arg1 l0).1) ((Bl.arg1 l0).2)).1)), (990, .sat (gP nb (some r))), (5, .val (.bool true)), (4, .sat (rC nb r (((Bl.arity ((Bl.arg1 l0).1) ((Bl.arg1 l0).2)).2.1).1) (((Bl.arity ((Bl.arg1 l0).1) ((Bl.arg1 l0).2)).2.1).2))), (42, .val (.bool false))] w0 a' w' → Q .normal a' w') : (Code.region 10 bInd10Ops false).wp Try.prog Q a w := by
  refine region_seq (w0 := w) 2 (by kernel_rfl) ?_
  rw [show List.range 2 = [0, 1] from rfl]
  refine env_one (i := 0) (d := 41) (k := .val (.bool true)) (step_move (by kernel_rfl) (Opd.of_base 5 rfl) rfl) (by kernel_rfl) (by decide) h ?_
  clear h
  intro a w h
  refine env_one (i := 1) (d := 42) (k := .val (.bool false)) (step_not (by kernel_rfl) (Opd.of_base 41 rfl) rfl) (by kernel_rfl) (by decide) h ?_
  clear h
  intro a w h
  exact hQ a w (h.keep [2, 3, 990, 5, 4, 42])
theorem bInd12a_region {Q : Exit → Act → World → Prop} (p0 : Pay) (l0 : Fo) (nb r : Nat)  {w0 : World} {a : Act} {w : World} (hr : w0.heap.size ≤ r) (h : Hold 47 [(2, .val (.string (Bl.atom ((Bl.arg0 l0).1) ((Bl.arg0 l0).2)).1)), (3, .val (.int .i64 (Bl.arity ((Bl.arg1 l0).1) ((Bl.arg1 l0).2)).1)), (990, .sat (gP nb (some r))), (5, .val (.bool true)), (4, .sat (rC nb r (((Bl.arity ((Bl.arg1 l0).1) ((Bl.arg1 l0).2)).2.1).1) (((Bl.arity ((Bl.arg1 l0).1) ((Bl.arg1 l0).2)).2.1).2)))] w0 a w)
    (hQ : ∀ a' w', Hold 47 [(2, .val (.string (Bl.atom ((Bl.arg0 l0).1) ((Bl.arg0 l0).2)).1)), (3, .val (.int .i64 (Bl.arity ((Bl.arg1 l0).1) ((Bl.arg1 l0).2)).1)), (990, .sat (gP nb (some r))), (5, .val (.bool true)), (4, .sat (rC nb r zp .nil))] w0 a' w' → Q .normal a' w') : (Code.region 12 bInd12Ops false).wp Try.prog Q a w := by
  refine region_seq (w0 := w) 7 (by kernel_rfl) ?_
  rw [show List.range 7 = [0, 1, 2, 3, 4, 5, 6] from rfl]
  refine env_one (i := 0) (d := 44) (k := .val (.string (Bl.atom ((Bl.arg0 l0).1) ((Bl.arg0 l0).2)).1)) (step_move (by kernel_rfl) (Opd.of_base 2 rfl) rfl) (by kernel_rfl) (by decide) h ?_
  clear h
  intro a w h
  refine env_one (i := 1) (d := 45) (k := .val (.int .i64 (Bl.arity ((Bl.arg1 l0).1) ((Bl.arg1 l0).2)).1)) (step_move (by kernel_rfl) (Opd.of_base 3 rfl) rfl) (by kernel_rfl) (by decide) h ?_
  clear h
  intro a w h
  refine env_one (i := 2) (d := 46) (k := .sat (nT nb (some r) zp .nil)) (step_nzero (by kernel_rfl) rfl) (by kernel_rfl) (by decide) h ?_
  clear h
  intro a w h
  refine env_one (i := 3) (d := 2) (k := .val (.string (Bl.atom ((Bl.arg0 l0).1) ((Bl.arg0 l0).2)).1)) (step_assign (by kernel_rfl) (Opd.of_base 44 rfl) rfl) (by kernel_rfl) (by decide) h ?_
  clear h
  intro a w h
  refine env_one (i := 4) (d := 3) (k := .val (.int .i64 (Bl.arity ((Bl.arg1 l0).1) ((Bl.arg1 l0).2)).1)) (step_assign (by kernel_rfl) (Opd.of_base 45 rfl) rfl) (by kernel_rfl) (by decide) h ?_
  clear h
  intro a w h
  refine env_store (i := 5) (x := 4) (y := 46) (r := r) [(2, .val (.string (Bl.atom ((Bl.arg0 l0).1) ((Bl.arg0 l0).2)).1)), (3, .val (.int .i64 (Bl.arity ((Bl.arg1 l0).1) ((Bl.arg1 l0).2)).1)), (990, .sat (gP nb (some r))), (5, .val (.bool true)), (44, .val (.string (Bl.atom ((Bl.arg0 l0).1) ((Bl.arg0 l0).2)).1)), (45, .val (.int .i64 (Bl.arity ((Bl.arg1 l0).1) ((Bl.arg1 l0).2)).1)), (46, .sat (nT nb (some r) zp .nil))] (by kernel_rfl) rfl rfl hr (stays_cons 2 rfl (away_val _ _) (stays_cons 3 rfl (away_val _ _) (stays_cons 990 rfl (away_gP _ _ _) (stays_cons 5 rfl (away_val _ _) (stays_cons 44 rfl (away_val _ _) (stays_cons 45 rfl (away_val _ _) (stays_cons 46 rfl (away_nT _ _ _ _) (stays_nil _ _)))))))) h ?_
  clear h
  intro a w h
  refine env_one (i := 6) (d := 5) (k := .val (.bool true)) (step_assign (by kernel_rfl) (Opd.const _) rfl) (by kernel_rfl) (by decide) h ?_
  clear h
  intro a w h
  exact hQ a w (h.keep [2, 3, 990, 5, 4])
theorem bInd10b_region {Q : Exit → Act → World → Prop} (p0 : Pay) (l0 : Fo) (nb r : Nat)  {w0 : World} {a : Act} {w : World} (hr : w0.heap.size ≤ r) (h : Hold 47 [(2, .val (.string (Bl.atom ((Bl.arg0 l0).1) ((Bl.arg0 l0).2)).1)), (3, .val (.int .i64 (Bl.arity ((Bl.arg1 l0).1) ((Bl.arg1 l0).2)).1)), (990, .sat (gP nb (some r))), (5, .val (.bool false)), (4, .sat (rC nb r (((Bl.arity ((Bl.arg1 l0).1) ((Bl.arg1 l0).2)).2.1).1) (((Bl.arity ((Bl.arg1 l0).1) ((Bl.arg1 l0).2)).2.1).2)))] w0 a w)
    (hQ : ∀ a' w', Hold 47 [(2, .val (.string (Bl.atom ((Bl.arg0 l0).1) ((Bl.arg0 l0).2)).1)), (3, .val (.int .i64 (Bl.arity ((Bl.arg1 l0).1) ((Bl.arg1 l0).2)).1)), (990, .sat (gP nb (some r))), (5, .val (.bool false)), (4, .sat (rC nb r (((Bl.arity ((Bl.arg1 l0).1) ((Bl.arg1 l0).2)).2.1).1) (((Bl.arity ((Bl.arg1 l0).1) ((Bl.arg1 l0).2)).2.1).2))), (42, .val (.bool true))] w0 a' w' → Q .normal a' w') : (Code.region 10 bInd10Ops false).wp Try.prog Q a w := by
  refine region_seq (w0 := w) 2 (by kernel_rfl) ?_
  rw [show List.range 2 = [0, 1] from rfl]
  refine env_one (i := 0) (d := 41) (k := .val (.bool false)) (step_move (by kernel_rfl) (Opd.of_base 5 rfl) rfl) (by kernel_rfl) (by decide) h ?_
  clear h
  intro a w h
  refine env_one (i := 1) (d := 42) (k := .val (.bool true)) (step_not (by kernel_rfl) (Opd.of_base 41 rfl) rfl) (by kernel_rfl) (by decide) h ?_
  clear h
  intro a w h
  exact hQ a w (h.keep [2, 3, 990, 5, 4, 42])
def bInd11aEs (p0 : Pay) (l0 : Fo) (nb r : Nat) : List Kd := [
  .sat (nT nb (some r) (((Bl.arity ((Bl.arg1 l0).1) ((Bl.arg1 l0).2)).2.1).1) (((Bl.arity ((Bl.arg1 l0).1) ((Bl.arg1 l0).2)).2.1).2)),
  .val (.string ⟨#[]⟩),
  .val (.int .i64 0)]
def bInd11aDs : List Nat := [43, 2, 3]
def bInd11aEnv (p0 : Pay) (l0 : Fo) (nb r : Nat) : Env := [(990, .sat (gP nb (some r))), (5, .val (.bool false)), (4, .sat (rC nb r (((Bl.arity ((Bl.arg1 l0).1) ((Bl.arg1 l0).2)).2.1).1) (((Bl.arity ((Bl.arg1 l0).1) ((Bl.arg1 l0).2)).2.1).2)))]
theorem bInd11a_0 {Q : Exit → Act → World → Prop} (p0 : Pay) (l0 : Fo) (nb r : Nat)  : RStep (strip bInd11Ops) Q (fun i => ((bInd11aEs p0 l0 nb r)[i]?).getD .any) (fun i => (bInd11aDs[i]?).getD (1000 + i)) (look (bInd11aEnv p0 l0 nb r)) 47 0 := fun _ => step_cload (by kernel_rfl) (Opd.of_base 4 rfl) rfl
theorem bInd11a_1 {Q : Exit → Act → World → Prop} (p0 : Pay) (l0 : Fo) (nb r : Nat)  : RStep (strip bInd11Ops) Q (fun i => ((bInd11aEs p0 l0 nb r)[i]?).getD .any) (fun i => (bInd11aDs[i]?).getD (1000 + i)) (look (bInd11aEnv p0 l0 nb r)) 47 1 := fun _ => step_assign (by kernel_rfl) (Opd.const _) rfl
theorem bInd11a_2 {Q : Exit → Act → World → Prop} (p0 : Pay) (l0 : Fo) (nb r : Nat)  : RStep (strip bInd11Ops) Q (fun i => ((bInd11aEs p0 l0 nb r)[i]?).getD .any) (fun i => (bInd11aDs[i]?).getD (1000 + i)) (look (bInd11aEnv p0 l0 nb r)) 47 2 := fun _ => step_assign (by kernel_rfl) (Opd.const _) rfl
theorem bInd11a_region {Q : Exit → Act → World → Prop} (p0 : Pay) (l0 : Fo) (nb r : Nat)  {w0 : World} {a : Act} {w : World} (hr : w0.heap.size ≤ r) (h : Hold 47 [(990, .sat (gP nb (some r))), (5, .val (.bool false)), (4, .sat (rC nb r (((Bl.arity ((Bl.arg1 l0).1) ((Bl.arg1 l0).2)).2.1).1) (((Bl.arity ((Bl.arg1 l0).1) ((Bl.arg1 l0).2)).2.1).2)))] w0 a w)
    (hQ : ∀ a' w', Hold 47 [(990, .sat (gP nb (some r))), (5, .val (.bool false)), (2, .val (.string ⟨#[]⟩)), (3, .val (.int .i64 0)), (4, .sat (rC nb r (((Bl.arity ((Bl.arg1 l0).1) ((Bl.arg1 l0).2)).2.1).1) (((Bl.arity ((Bl.arg1 l0).1) ((Bl.arg1 l0).2)).2.1).2)))] w0 a' w' → Q .normal a' w') : (Code.region 11 bInd11Ops true).wp Try.prog Q a w := by
  have hall : ∀ i, i < 0 → RStep (strip bInd11Ops) Q (fun i => ((bInd11aEs p0 l0 nb r)[i]?).getD .any) (fun i => (bInd11aDs[i]?).getD (1000 + i)) (look (bInd11aEnv p0 l0 nb r)) 47 i := fun i hi => absurd hi (by omega)
  have hall := below_succ hall (bInd11a_0 p0 l0 nb r )
  have hall := below_succ hall (bInd11a_1 p0 l0 nb r )
  have hall := below_succ hall (bInd11a_2 p0 l0 nb r )
  refine env_then (m := 3) (n := 5) bInd11aDs (bInd11aEs p0 l0 nb r) rfl (by kernel_rfl) (by decide) (by kernel_rfl) (of_decide_eq_true (by kernel_rfl)) (by kernel_rfl) (by kernel_rfl) (fun i_ hi_ => hall i_ hi_) h fun a w h => ?_
  clear hall
  have h := h.keep [990, 5, 4, 43, 2, 3]
  show wpOps Try.prog _ Q [3, 4] a w
  refine env_store (i := 3) (x := 4) (y := 43) (r := r) [(990, .sat (gP nb (some r))), (5, .val (.bool false)), (43, .sat (nT nb (some r) (((Bl.arity ((Bl.arg1 l0).1) ((Bl.arg1 l0).2)).2.1).1) (((Bl.arity ((Bl.arg1 l0).1) ((Bl.arg1 l0).2)).2.1).2))), (2, .val (.string ⟨#[]⟩)), (3, .val (.int .i64 0))] (by kernel_rfl) rfl rfl hr (stays_cons 990 rfl (away_gP _ _ _) (stays_cons 5 rfl (away_val _ _) (stays_cons 43 rfl (away_nT _ _ _ _) (stays_cons 2 rfl (away_val _ _) (stays_cons 3 rfl (away_val _ _) (stays_nil _ _)))))) h ?_
  clear h
  intro a w h
  refine env_one (i := 4) (d := 5) (k := .val (.bool false)) (step_assign (by kernel_rfl) (Opd.const _) rfl) (by kernel_rfl) (by decide) h ?_
  clear h
  intro a w h
  exact hQ a w (h.keep [990, 5, 2, 3, 4])
theorem bInd7b_region {Q : Exit → Act → World → Prop} (p0 : Pay) (l0 : Fo) (nb r : Nat)  {w0 : World} {a : Act} {w : World} (hr : w0.heap.size ≤ r) (h : Hold 47 [(1, .sat (nP 0 (some r) p0 l0)), (2, .val (.string (Bl.atom ((Bl.arg0 l0).1) ((Bl.arg0 l0).2)).1)), (3, .val (.int .i64 0)), (990, .sat (gP nb (some r))), (5, .val (.bool false)), (4, .sat (rC nb r (((Bl.atom ((Bl.arg0 l0).1) ((Bl.arg0 l0).2)).2.1).1) (((Bl.atom ((Bl.arg0 l0).1) ((Bl.arg0 l0).2)).2.1).2)))] w0 a w)
    (hQ : ∀ a' w', Hold 47 [(1, .sat (nP 0 (some r) p0 l0)), (2, .val (.string (Bl.atom ((Bl.arg0 l0).1) ((Bl.arg0 l0).2)).1)), (3, .val (.int .i64 0)), (990, .sat (gP nb (some r))), (5, .val (.bool false)), (4, .sat (rC nb r (((Bl.atom ((Bl.arg0 l0).1) ((Bl.arg0 l0).2)).2.1).1) (((Bl.atom ((Bl.arg0 l0).1) ((Bl.arg0 l0).2)).2.1).2))), (30, .val (.bool true))] w0 a' w' → Q .normal a' w') : (Code.region 7 bInd7Ops false).wp Try.prog Q a w := by
  refine region_seq (w0 := w) 2 (by kernel_rfl) ?_
  rw [show List.range 2 = [0, 1] from rfl]
  refine env_one (i := 0) (d := 29) (k := .val (.bool false)) (step_move (by kernel_rfl) (Opd.of_base 5 rfl) rfl) (by kernel_rfl) (by decide) h ?_
  clear h
  intro a w h
  refine env_one (i := 1) (d := 30) (k := .val (.bool true)) (step_not (by kernel_rfl) (Opd.of_base 29 rfl) rfl) (by kernel_rfl) (by decide) h ?_
  clear h
  intro a w h
  exact hQ a w (h.keep [1, 2, 3, 990, 5, 4, 30])
def bInd8aEs (p0 : Pay) (l0 : Fo) (nb r : Nat) : List Kd := [
  .sat (nT nb (some r) (((Bl.atom ((Bl.arg0 l0).1) ((Bl.arg0 l0).2)).2.1).1) (((Bl.atom ((Bl.arg0 l0).1) ((Bl.arg0 l0).2)).2.1).2)),
  .val (.string ⟨#[]⟩),
  .val (.int .i64 0)]
def bInd8aDs : List Nat := [31, 2, 3]
def bInd8aEnv (p0 : Pay) (l0 : Fo) (nb r : Nat) : Env := [(1, .sat (nP 0 (some r) p0 l0)), (990, .sat (gP nb (some r))), (5, .val (.bool false)), (4, .sat (rC nb r (((Bl.atom ((Bl.arg0 l0).1) ((Bl.arg0 l0).2)).2.1).1) (((Bl.atom ((Bl.arg0 l0).1) ((Bl.arg0 l0).2)).2.1).2)))]
theorem bInd8a_0 {Q : Exit → Act → World → Prop} (p0 : Pay) (l0 : Fo) (nb r : Nat)  : RStep (strip bInd8Ops) Q (fun i => ((bInd8aEs p0 l0 nb r)[i]?).getD .any) (fun i => (bInd8aDs[i]?).getD (1000 + i)) (look (bInd8aEnv p0 l0 nb r)) 47 0 := fun _ => step_cload (by kernel_rfl) (Opd.of_base 4 rfl) rfl
theorem bInd8a_1 {Q : Exit → Act → World → Prop} (p0 : Pay) (l0 : Fo) (nb r : Nat)  : RStep (strip bInd8Ops) Q (fun i => ((bInd8aEs p0 l0 nb r)[i]?).getD .any) (fun i => (bInd8aDs[i]?).getD (1000 + i)) (look (bInd8aEnv p0 l0 nb r)) 47 1 := fun _ => step_assign (by kernel_rfl) (Opd.const _) rfl
theorem bInd8a_2 {Q : Exit → Act → World → Prop} (p0 : Pay) (l0 : Fo) (nb r : Nat)  : RStep (strip bInd8Ops) Q (fun i => ((bInd8aEs p0 l0 nb r)[i]?).getD .any) (fun i => (bInd8aDs[i]?).getD (1000 + i)) (look (bInd8aEnv p0 l0 nb r)) 47 2 := fun _ => step_assign (by kernel_rfl) (Opd.const _) rfl
theorem bInd8a_region {Q : Exit → Act → World → Prop} (p0 : Pay) (l0 : Fo) (nb r : Nat)  {w0 : World} {a : Act} {w : World} (hr : w0.heap.size ≤ r) (h : Hold 47 [(1, .sat (nP 0 (some r) p0 l0)), (990, .sat (gP nb (some r))), (5, .val (.bool false)), (4, .sat (rC nb r (((Bl.atom ((Bl.arg0 l0).1) ((Bl.arg0 l0).2)).2.1).1) (((Bl.atom ((Bl.arg0 l0).1) ((Bl.arg0 l0).2)).2.1).2)))] w0 a w)
    (hQ : ∀ a' w', Hold 47 [(1, .sat (nP 0 (some r) p0 l0)), (990, .sat (gP nb (some r))), (5, .val (.bool false)), (2, .val (.string ⟨#[]⟩)), (3, .val (.int .i64 0)), (4, .sat (rC nb r (((Bl.atom ((Bl.arg0 l0).1) ((Bl.arg0 l0).2)).2.1).1) (((Bl.atom ((Bl.arg0 l0).1) ((Bl.arg0 l0).2)).2.1).2)))] w0 a' w' → Q .normal a' w') : (Code.region 8 bInd8Ops true).wp Try.prog Q a w := by
  have hall : ∀ i, i < 0 → RStep (strip bInd8Ops) Q (fun i => ((bInd8aEs p0 l0 nb r)[i]?).getD .any) (fun i => (bInd8aDs[i]?).getD (1000 + i)) (look (bInd8aEnv p0 l0 nb r)) 47 i := fun i hi => absurd hi (by omega)
  have hall := below_succ hall (bInd8a_0 p0 l0 nb r )
  have hall := below_succ hall (bInd8a_1 p0 l0 nb r )
  have hall := below_succ hall (bInd8a_2 p0 l0 nb r )
  refine env_then (m := 3) (n := 5) bInd8aDs (bInd8aEs p0 l0 nb r) rfl (by kernel_rfl) (by decide) (by kernel_rfl) (of_decide_eq_true (by kernel_rfl)) (by kernel_rfl) (by kernel_rfl) (fun i_ hi_ => hall i_ hi_) h fun a w h => ?_
  clear hall
  have h := h.keep [1, 990, 5, 4, 31, 2, 3]
  show wpOps Try.prog _ Q [3, 4] a w
  refine env_store (i := 3) (x := 4) (y := 31) (r := r) [(1, .sat (nP 0 (some r) p0 l0)), (990, .sat (gP nb (some r))), (5, .val (.bool false)), (31, .sat (nT nb (some r) (((Bl.atom ((Bl.arg0 l0).1) ((Bl.arg0 l0).2)).2.1).1) (((Bl.atom ((Bl.arg0 l0).1) ((Bl.arg0 l0).2)).2.1).2))), (2, .val (.string ⟨#[]⟩)), (3, .val (.int .i64 0))] (by kernel_rfl) rfl rfl hr (stays_cons 1 rfl (away_nP _ _ _ _) (stays_cons 990 rfl (away_gP _ _ _) (stays_cons 5 rfl (away_val _ _) (stays_cons 31 rfl (away_nT _ _ _ _) (stays_cons 2 rfl (away_val _ _) (stays_cons 3 rfl (away_val _ _) (stays_nil _ _))))))) h ?_
  clear h
  intro a w h
  refine env_one (i := 4) (d := 5) (k := .val (.bool false)) (step_assign (by kernel_rfl) (Opd.const _) rfl) (by kernel_rfl) (by decide) h ?_
  clear h
  intro a w h
  exact hQ a w (h.keep [1, 990, 5, 2, 3, 4])
theorem bInd2b_region {Q : Exit → Act → World → Prop} (p0 : Pay) (l0 : Fo) (nb r : Nat)  {w0 : World} {a : Act} {w : World} (hr : w0.heap.size ≤ r) (h : Hold 47 [(1, .sat (nP 0 (some r) p0 l0)), (2, .val (.string ⟨#[]⟩)), (3, .val (.int .i64 0)), (990, .sat (gP nb (some r))), (5, .val (.bool false)), (4, .sat (rC nb r (((Bl.check p0 l0 (Bl.isS p0 l0 ⟨#[47]⟩ 2) (⟨#[112, 114, 101, 100, 105, 99, 97, 116, 101, 95, 105, 110, 100, 105, 99, 97, 116, 111, 114]⟩)).1).1) (((Bl.check p0 l0 (Bl.isS p0 l0 ⟨#[47]⟩ 2) (⟨#[112, 114, 101, 100, 105, 99, 97, 116, 101, 95, 105, 110, 100, 105, 99, 97, 116, 111, 114]⟩)).1).2)))] w0 a w)
    (hQ : ∀ a' w', Hold 47 [(1, .sat (nP 0 (some r) p0 l0)), (2, .val (.string ⟨#[]⟩)), (3, .val (.int .i64 0)), (990, .sat (gP nb (some r))), (5, .val (.bool false)), (4, .sat (rC nb r (((Bl.check p0 l0 (Bl.isS p0 l0 ⟨#[47]⟩ 2) (⟨#[112, 114, 101, 100, 105, 99, 97, 116, 101, 95, 105, 110, 100, 105, 99, 97, 116, 111, 114]⟩)).1).1) (((Bl.check p0 l0 (Bl.isS p0 l0 ⟨#[47]⟩ 2) (⟨#[112, 114, 101, 100, 105, 99, 97, 116, 101, 95, 105, 110, 100, 105, 99, 97, 116, 111, 114]⟩)).1).2))), (14, .val (.bool true))] w0 a' w' → Q .normal a' w') : (Code.region 2 bInd2Ops false).wp Try.prog Q a w := by
  refine region_seq (w0 := w) 2 (by kernel_rfl) ?_
  rw [show List.range 2 = [0, 1] from rfl]
  refine env_one (i := 0) (d := 13) (k := .val (.bool false)) (step_move (by kernel_rfl) (Opd.of_base 5 rfl) rfl) (by kernel_rfl) (by decide) h ?_
  clear h
  intro a w h
  refine env_one (i := 1) (d := 14) (k := .val (.bool true)) (step_not (by kernel_rfl) (Opd.of_base 13 rfl) rfl) (by kernel_rfl) (by decide) h ?_
  clear h
  intro a w h
  exact hQ a w (h.keep [1, 2, 3, 990, 5, 4, 14])
def bInd3aEs (p0 : Pay) (l0 : Fo) (nb r : Nat) : List Kd := [
  .sat (nT nb (some r) (((Bl.check p0 l0 (Bl.isS p0 l0 ⟨#[47]⟩ 2) (⟨#[112, 114, 101, 100, 105, 99, 97, 116, 101, 95, 105, 110, 100, 105, 99, 97, 116, 111, 114]⟩)).1).1) (((Bl.check p0 l0 (Bl.isS p0 l0 ⟨#[47]⟩ 2) (⟨#[112, 114, 101, 100, 105, 99, 97, 116, 101, 95, 105, 110, 100, 105, 99, 97, 116, 111, 114]⟩)).1).2)),
  .val (.string ⟨#[]⟩),
  .val (.int .i64 0)]
def bInd3aDs : List Nat := [15, 2, 3]
def bInd3aEnv (p0 : Pay) (l0 : Fo) (nb r : Nat) : Env := [(1, .sat (nP 0 (some r) p0 l0)), (990, .sat (gP nb (some r))), (5, .val (.bool false)), (4, .sat (rC nb r (((Bl.check p0 l0 (Bl.isS p0 l0 ⟨#[47]⟩ 2) (⟨#[112, 114, 101, 100, 105, 99, 97, 116, 101, 95, 105, 110, 100, 105, 99, 97, 116, 111, 114]⟩)).1).1) (((Bl.check p0 l0 (Bl.isS p0 l0 ⟨#[47]⟩ 2) (⟨#[112, 114, 101, 100, 105, 99, 97, 116, 101, 95, 105, 110, 100, 105, 99, 97, 116, 111, 114]⟩)).1).2)))]
theorem bInd3a_0 {Q : Exit → Act → World → Prop} (p0 : Pay) (l0 : Fo) (nb r : Nat)  : RStep (strip bInd3Ops) Q (fun i => ((bInd3aEs p0 l0 nb r)[i]?).getD .any) (fun i => (bInd3aDs[i]?).getD (1000 + i)) (look (bInd3aEnv p0 l0 nb r)) 47 0 := fun _ => step_cload (by kernel_rfl) (Opd.of_base 4 rfl) rfl
theorem bInd3a_1 {Q : Exit → Act → World → Prop} (p0 : Pay) (l0 : Fo) (nb r : Nat)  : RStep (strip bInd3Ops) Q (fun i => ((bInd3aEs p0 l0 nb r)[i]?).getD .any) (fun i => (bInd3aDs[i]?).getD (1000 + i)) (look (bInd3aEnv p0 l0 nb r)) 47 1 := fun _ => step_assign (by kernel_rfl) (Opd.const _) rfl
theorem bInd3a_2 {Q : Exit → Act → World → Prop} (p0 : Pay) (l0 : Fo) (nb r : Nat)  : RStep (strip bInd3Ops) Q (fun i => ((bInd3aEs p0 l0 nb r)[i]?).getD .any) (fun i => (bInd3aDs[i]?).getD (1000 + i)) (look (bInd3aEnv p0 l0 nb r)) 47 2 := fun _ => step_assign (by kernel_rfl) (Opd.const _) rfl
theorem bInd3a_region {Q : Exit → Act → World → Prop} (p0 : Pay) (l0 : Fo) (nb r : Nat)  {w0 : World} {a : Act} {w : World} (hr : w0.heap.size ≤ r) (h : Hold 47 [(1, .sat (nP 0 (some r) p0 l0)), (990, .sat (gP nb (some r))), (5, .val (.bool false)), (4, .sat (rC nb r (((Bl.check p0 l0 (Bl.isS p0 l0 ⟨#[47]⟩ 2) (⟨#[112, 114, 101, 100, 105, 99, 97, 116, 101, 95, 105, 110, 100, 105, 99, 97, 116, 111, 114]⟩)).1).1) (((Bl.check p0 l0 (Bl.isS p0 l0 ⟨#[47]⟩ 2) (⟨#[112, 114, 101, 100, 105, 99, 97, 116, 101, 95, 105, 110, 100, 105, 99, 97, 116, 111, 114]⟩)).1).2)))] w0 a w)
    (hQ : ∀ a' w', Hold 47 [(1, .sat (nP 0 (some r) p0 l0)), (990, .sat (gP nb (some r))), (5, .val (.bool false)), (2, .val (.string ⟨#[]⟩)), (3, .val (.int .i64 0)), (4, .sat (rC nb r (((Bl.check p0 l0 (Bl.isS p0 l0 ⟨#[47]⟩ 2) (⟨#[112, 114, 101, 100, 105, 99, 97, 116, 101, 95, 105, 110, 100, 105, 99, 97, 116, 111, 114]⟩)).1).1) (((Bl.check p0 l0 (Bl.isS p0 l0 ⟨#[47]⟩ 2) (⟨#[112, 114, 101, 100, 105, 99, 97, 116, 101, 95, 105, 110, 100, 105, 99, 97, 116, 111, 114]⟩)).1).2)))] w0 a' w' → Q .normal a' w') : (Code.region 3 bInd3Ops true).wp Try.prog Q a w := by
  have hall : ∀ i, i < 0 → RStep (strip bInd3Ops) Q (fun i => ((bInd3aEs p0 l0 nb r)[i]?).getD .any) (fun i => (bInd3aDs[i]?).getD (1000 + i)) (look (bInd3aEnv p0 l0 nb r)) 47 i := fun i hi => absurd hi (by omega)
  have hall := below_succ hall (bInd3a_0 p0 l0 nb r )
  have hall := below_succ hall (bInd3a_1 p0 l0 nb r )
  have hall := below_succ hall (bInd3a_2 p0 l0 nb r )
  refine env_then (m := 3) (n := 5) bInd3aDs (bInd3aEs p0 l0 nb r) rfl (by kernel_rfl) (by decide) (by kernel_rfl) (of_decide_eq_true (by kernel_rfl)) (by kernel_rfl) (by kernel_rfl) (fun i_ hi_ => hall i_ hi_) h fun a w h => ?_
  clear hall
  have h := h.keep [1, 990, 5, 4, 15, 2, 3]
  show wpOps Try.prog _ Q [3, 4] a w
  refine env_store (i := 3) (x := 4) (y := 15) (r := r) [(1, .sat (nP 0 (some r) p0 l0)), (990, .sat (gP nb (some r))), (5, .val (.bool false)), (15, .sat (nT nb (some r) (((Bl.check p0 l0 (Bl.isS p0 l0 ⟨#[47]⟩ 2) (⟨#[112, 114, 101, 100, 105, 99, 97, 116, 101, 95, 105, 110, 100, 105, 99, 97, 116, 111, 114]⟩)).1).1) (((Bl.check p0 l0 (Bl.isS p0 l0 ⟨#[47]⟩ 2) (⟨#[112, 114, 101, 100, 105, 99, 97, 116, 101, 95, 105, 110, 100, 105, 99, 97, 116, 111, 114]⟩)).1).2))), (2, .val (.string ⟨#[]⟩)), (3, .val (.int .i64 0))] (by kernel_rfl) rfl rfl hr (stays_cons 1 rfl (away_nP _ _ _ _) (stays_cons 990 rfl (away_gP _ _ _) (stays_cons 5 rfl (away_val _ _) (stays_cons 15 rfl (away_nT _ _ _ _) (stays_cons 2 rfl (away_val _ _) (stays_cons 3 rfl (away_val _ _) (stays_nil _ _))))))) h ?_
  clear h
  intro a w h
  refine env_one (i := 4) (d := 5) (k := .val (.bool false)) (step_assign (by kernel_rfl) (Opd.const _) rfl) (by kernel_rfl) (by decide) h ?_
  clear h
  intro a w h
  exact hQ a w (h.keep [1, 990, 5, 2, 3, 4])
set_option maxHeartbeats 1000000 in
theorem bInd_any (p0 : Pay) (l0 : Fo) (A0 : Option Addr) (c0 : Nat) (B : Nat) (w : World) (hA0 : ArgsB w B A0 (Tm.len l0) l0) (hB : B ≤ w.heap.size)  : Calls Try.prog 49 #[tv p0 A0 (Tm.len l0) c0] w (MkXXB w.heap.size (.string (Bl.ind p0 l0).1) (.int .i64 (Bl.ind p0 l0).2.1) ((Bl.ind p0 l0).2.2.1).1 ((Bl.ind p0 l0).2.2.1).2 ((Bl.ind p0 l0).2.2.2) w) := by
  refine calls_of_wp Try.func49 bInd_body ?_
  obtain ⟨v0, hv0⟩ : ∃ v : Value, v = tv p0 A0 (Tm.len l0) c0 := ⟨_, rfl⟩
  rw [← hv0]
  have hk0 : (Kd.term p0 l0).R v0 w := by rw [hv0]; exact ⟨A0, c0, rfl, hA0.up hB⟩
  have hsN : (#[v0] ++ Array.replicate (Try.f49.ntmps - #[v0].size) undef : Array Value).size = 47 := by kernel_rfl
  have gs0 : (#[v0] ++ Array.replicate (Try.f49.ntmps - #[v0].size) undef : Array Value).getD 0 undef = v0 := by kernel_rfl
  generalize (#[v0] ++ Array.replicate (Try.f49.ntmps - #[v0].size) undef : Array Value) = tm at hsN gs0 ⊢
  obtain ⟨a, ha0⟩ : ∃ a : Act, a = ⟨tm, []⟩ := ⟨_, rfl⟩
  have h : Hold 47 [(0, .term p0 l0)] w ⟨tm, []⟩ w := ⟨hsN, rfl, Below.refl _ _, (slots_cons 0 (by rw [gs0]; exact hk0) slots_nil)⟩
  obtain ⟨nb, hnb⟩ : ∃ nb, nb = w.heap.size := ⟨_, rfl⟩
  have hn : nb ≤ w.heap.size := by omega
  refine wp_seq ?_
  refine bInd0a_region p0 l0 nb  hn h ?_
  intro r a w1 hr h
  show Code.wp _ _ _ a w1
  refine wp_seq ?_
  refine bInd1a_region p0 l0 nb r  hr h ?_
  intro a w1 h
  show Code.wp _ _ _ a w1
  refine wp_seq ?_
  refine wp_seq ?_
  rcases Bool.eq_false_or_eq_true ((Bl.check p0 l0 (Bl.isS p0 l0 ⟨#[47]⟩ 2) (⟨#[112, 114, 101, 100, 105, 99, 97, 116, 101, 95, 105, 110, 100, 105, 99, 97, 116, 111, 114]⟩)).2) with hc | hc
  · rw [hc] at h
    refine bInd2a_region p0 l0 nb r  hr h ?_
    intro a w1 h
    show Code.wp _ _ _ a w1
    refine env_cond (b := false) rfl h ?_
    refine wp_skip ?_
    have h := h.keep [1, 2, 3, 990, 5, 4]
    show Code.wp _ _ _ a w1
    refine wp_seq ?_
    refine wp_seq ?_
    rcases Bool.eq_false_or_eq_true (Bl.anyVar l0) with hv | hv
    · have hl2 : Tm.len l0 = 2 := Bl.isS_len (Bl.check_ok hc).1
      refine bInd4a_region p0 l0 nb r hl2 hr h ?_
      intro a w1 h
      rw [hv] at h
      (try simp only [Bool.not_true, Bool.not_false] at h)
      show Code.wp _ _ _ a w1
      refine env_cond (b := true) rfl h ?_
      have h := h.keep [1, 2, 3, 990, 5, 4]
      show Code.wp _ _ _ a w1
      refine wp_seq ?_
      refine bInd5a_region p0 l0 nb r  hr h ?_
      intro a w1 h
      show Code.wp _ _ _ a w1
      have ev : Bl.ind p0 l0 = (⟨#[]⟩, (0, ((Bl.inst.1, Bl.inst.2), false))) := by simp [Bl.ind, hc, hv]
      rw [ev]
      refine wp_ret ?_
      (try simp only [then_ret, block_ret])
      exact law_xxcb rfl (h.get 2 rfl) (h.get 3 rfl) (h.get 5 rfl) (h.get 4 rfl) h.defers fun A c ha => ⟨A, c, rfl, ha.mono fun b hb => ⟨by have := hb.1; omega, hb.2.1⟩, h.world⟩
    · have hl2 : Tm.len l0 = 2 := Bl.isS_len (Bl.check_ok hc).1
      refine bInd4a_region p0 l0 nb r hl2 hr h ?_
      intro a w1 h
      rw [hv] at h
      (try simp only [Bool.not_true, Bool.not_false] at h)
      show Code.wp _ _ _ a w1
      refine env_cond (b := false) rfl h ?_
      refine wp_skip ?_
      have h := h.keep [1, 2, 3, 990, 5, 4]
      show Code.wp _ _ _ a w1
      refine wp_seq ?_
      refine bInd6a_region p0 l0 nb r hl2 hr h ?_
      intro a w1 h
      show Code.wp _ _ _ a w1
      refine wp_seq ?_
      refine wp_seq ?_
      rcases Bool.eq_false_or_eq_true ((Bl.atom ((Bl.arg0 l0).1) ((Bl.arg0 l0).2)).2.2) with ha | ha
      · rw [ha] at h
        refine bInd7a_region p0 l0 nb r  hr h ?_
        intro a w1 h
        show Code.wp _ _ _ a w1
        refine env_cond (b := false) rfl h ?_
        refine wp_skip ?_
        have h := h.keep [1, 2, 3, 990, 5, 4]
        show Code.wp _ _ _ a w1
        refine wp_seq ?_
        refine bInd9a_region p0 l0 nb r hl2 hr h ?_
        intro a w1 h
        show Code.wp _ _ _ a w1
        refine wp_seq ?_
        refine wp_seq ?_
        rcases Bool.eq_false_or_eq_true ((Bl.arity ((Bl.arg1 l0).1) ((Bl.arg1 l0).2)).2.2) with hb | hb
        · rw [hb] at h
          refine bInd10a_region p0 l0 nb r  hr h ?_
          intro a w1 h
          show Code.wp _ _ _ a w1
          refine env_cond (b := false) rfl h ?_
          refine wp_skip ?_
          have h := h.keep [2, 3, 990, 5, 4]
          show Code.wp _ _ _ a w1
          refine wp_seq ?_
          refine bInd12a_region p0 l0 nb r  hr h ?_
          intro a w1 h
          show Code.wp _ _ _ a w1
          have ev : Bl.ind p0 l0 = ((Bl.atom ((Bl.arg0 l0).1) ((Bl.arg0 l0).2)).1, ((Bl.arity ((Bl.arg1 l0).1) ((Bl.arg1 l0).2)).1, ((zp, .nil), true))) := by simp [Bl.ind, hc, hv, ha, hb]
          rw [ev]
          refine wp_ret ?_
          (try simp only [then_ret, block_ret])
          exact law_xxcb rfl (h.get 2 rfl) (h.get 3 rfl) (h.get 5 rfl) (h.get 4 rfl) h.defers fun A c ha => ⟨A, c, rfl, ha.mono fun b hb => ⟨by have := hb.1; omega, hb.2.1⟩, h.world⟩
        · rw [hb] at h
          refine bInd10b_region p0 l0 nb r  hr h ?_
          intro a w1 h
          show Code.wp _ _ _ a w1
          refine env_cond (b := true) rfl h ?_
          have h := h.keep [2, 3, 990, 5, 4]
          show Code.wp _ _ _ a w1
          refine wp_seq ?_
          have h := h.keep [990, 5, 4]
          refine bInd11a_region p0 l0 nb r  hr h ?_
          intro a w1 h
          show Code.wp _ _ _ a w1
          have ev : Bl.ind p0 l0 = (⟨#[]⟩, (0, ((((Bl.arity ((Bl.arg1 l0).1) ((Bl.arg1 l0).2)).2.1).1, ((Bl.arity ((Bl.arg1 l0).1) ((Bl.arg1 l0).2)).2.1).2), false))) := by simp [Bl.ind, hc, hv, ha, hb]
          rw [ev]
          refine wp_ret ?_
          (try simp only [then_ret, block_ret])
          exact law_xxcb rfl (h.get 2 rfl) (h.get 3 rfl) (h.get 5 rfl) (h.get 4 rfl) h.defers fun A c ha => ⟨A, c, rfl, ha.mono fun b hb => ⟨by have := hb.1; omega, hb.2.1⟩, h.world⟩
      · rw [ha] at h
        refine bInd7b_region p0 l0 nb r  hr h ?_
        intro a w1 h
        show Code.wp _ _ _ a w1
        refine env_cond (b := true) rfl h ?_
        have h := h.keep [1, 2, 3, 990, 5, 4]
        show Code.wp _ _ _ a w1
        refine wp_seq ?_
        have h := h.keep [1, 990, 5, 4]
        refine bInd8a_region p0 l0 nb r  hr h ?_
        intro a w1 h
        show Code.wp _ _ _ a w1
        have ev : Bl.ind p0 l0 = (⟨#[]⟩, (0, ((((Bl.atom ((Bl.arg0 l0).1) ((Bl.arg0 l0).2)).2.1).1, ((Bl.atom ((Bl.arg0 l0).1) ((Bl.arg0 l0).2)).2.1).2), false))) := by simp [Bl.ind, hc, hv, ha]
        rw [ev]
        refine wp_ret ?_
        (try simp only [then_ret, block_ret])
        exact law_xxcb rfl (h.get 2 rfl) (h.get 3 rfl) (h.get 5 rfl) (h.get 4 rfl) h.defers fun A c ha => ⟨A, c, rfl, ha.mono fun b hb => ⟨by have := hb.1; omega, hb.2.1⟩, h.world⟩
  · rw [hc] at h
    refine bInd2b_region p0 l0 nb r  hr h ?_
    intro a w1 h
    show Code.wp _ _ _ a w1
    refine env_cond (b := true) rfl h ?_
    have h := h.keep [1, 2, 3, 990, 5, 4]
    show Code.wp _ _ _ a w1
    refine wp_seq ?_
    have h := h.keep [1, 990, 5, 4]
    refine bInd3a_region p0 l0 nb r  hr h ?_
    intro a w1 h
    show Code.wp _ _ _ a w1
    have ev : Bl.ind p0 l0 = (⟨#[]⟩, (0, ((((Bl.check p0 l0 (Bl.isS p0 l0 ⟨#[47]⟩ 2) (⟨#[112, 114, 101, 100, 105, 99, 97, 116, 101, 95, 105, 110, 100, 105, 99, 97, 116, 111, 114]⟩)).1).1, ((Bl.check p0 l0 (Bl.isS p0 l0 ⟨#[47]⟩ 2) (⟨#[112, 114, 101, 100, 105, 99, 97, 116, 101, 95, 105, 110, 100, 105, 99, 97, 116, 111, 114]⟩)).1).2), false))) := by simp [Bl.ind, hc]
    rw [ev]
    refine wp_ret ?_
    (try simp only [then_ret, block_ret])
    exact law_xxcb rfl (h.get 2 rfl) (h.get 3 rfl) (h.get 5 rfl) (h.get 4 rfl) h.defers fun A c ha => ⟨A, c, rfl, ha.mono fun b hb => ⟨by have := hb.1; omega, hb.2.1⟩, h.world⟩
section
variable {ops : Array Oper} {Q : Exit → Act → World → Prop} {E : Nat → Kd} {D : Nat → Nat} {base : Nat → Option Kd} {N : Nat}
theorem step_bInd {i : Nat} {n g : Nat} {G : Option Nat} {x0 : Operand} {p0 : Pay} {l0 : Fo} (hop : (ops[i]?).map (·.op) = some (.call { callee := .value (.func 49), args := #[x0], argTypes := #[24] })) (h0 : Opd ops E D base N i x0 (.term p0 l0)) (hg : Opd ops E D base N i (.tmp g) (.sat (gP n G))) (hE : E i = .sat (nT4 n G (.string (Bl.ind p0 l0).1) (.int .i64 (Bl.ind p0 l0).2.1) ((Bl.ind p0 l0).2.2.1).1 ((Bl.ind p0 l0).2.2.1).2 ((Bl.ind p0 l0).2.2.2))) : Step Try.prog ops Q E D base N i :=
  step_mkXXB hop (fun _ _ => by kernel_rfl) hg (fun a w h => by
    obtain ⟨A0, c0, e0, ha0⟩ := h0 a w h
    rw [show (#[x0] : Array Operand).map a.eval = #[tv p0 A0 (Tm.len l0) c0] by rw [← e0]; simp]
    exact bInd_any p0 l0 A0 c0 w.heap.size w ha0 (Nat.le_refl _)) hE
end
end Go.Proofs.Ytapcnehpechkpaa
