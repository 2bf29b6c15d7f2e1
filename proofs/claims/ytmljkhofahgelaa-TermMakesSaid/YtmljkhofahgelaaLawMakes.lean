/-
  TermMakes answers true.
-/
import Derived.Test.YtmljkhofahgelaaLawRen
namespace Go.Proofs.Ytmljkhofahgelaa
set_option linter.unusedVariables false
set_option linter.unusedSimpArgs false
open Go.RowKit
namespace Tm
theorem clone_valid (p : Pay) (l : Fo) : validB (cloneOf p l).1 (cloneOf p l).2 = true := by
  unfold cloneOf
  split
  · assumption
  · exact valid_zero
theorem struct_valid (s : ByteArray) (F : Fo) : validB (structFn s F).1 (structFn s F).2 = true := by
  unfold structFn
  split <;> exact clone_valid _ _
theorem ind_valid (s : ByteArray) (d : Int) : validB (indFn s d).1 (indFn s d).2 = true := by
  unfold indFn
  split
  · exact clone_valid _ _
  · exact valid_zero
end Tm
noncomputable def lm0Ops : Array Oper := ((Try.f7.body).bind (findReg 0)).getD #[]
noncomputable def lm1Ops : Array Oper := ((Try.f7.body).bind (findReg 1)).getD #[]
noncomputable def lm2Ops : Array Oper := ((Try.f7.body).bind (findReg 2)).getD #[]
noncomputable def lm3Ops : Array Oper := ((Try.f7.body).bind (findReg 3)).getD #[]
noncomputable def lm4Ops : Array Oper := ((Try.f7.body).bind (findReg 4)).getD #[]
theorem lm_body : Try.f7.body = some (.seq (.region 0 lm0Ops false) (.seq (.region 1 lm1Ops false) (.seq (.seq (.region 2 lm2Ops true) (.cond (.tmp 40) (.seq (.region 3 lm3Ops false) .ret) .skip)) (.seq (.region 4 lm4Ops false) .ret)))) := by kernel_rfl
theorem lm0_region {Q : Exit → Act → World → Prop} (d : Int) (s : ByteArray) (F : Fo)  {w0 : World} {a : Act} {w : World} (h : Hold 51 [(0, .val (.int .i64 d)), (1, .val (.string s)), (2, .row F)] w0 a w)
    (hQ : ∀ a' w', Hold 51 [(0, .val (.int .i64 d)), (1, .val (.string s)), (2, .row F)] w0 a' w' → Q .normal a' w') : (Code.region 0 lm0Ops false).wp Try.prog Q a w := by
  refine region_seq (w0 := w) 1 (by kernel_rfl) ?_
  rw [show List.range 1 = [0] from rfl]
  refine env_one (i := 0) (d := 6) (k := .val (.bool false)) (step_assign (by kernel_rfl) (Opd.const _) rfl) (by kernel_rfl) (by decide) h ?_
  clear h
  intro a w h
  exact hQ a w (h.keep [0, 1, 2])
theorem lm1_region {Q : Exit → Act → World → Prop} (d : Int) (s : ByteArray) (F : Fo)  {w0 : World} {a : Act} {w : World} (h : Hold 51 [(0, .val (.int .i64 d)), (1, .val (.string s)), (2, .row F)] w0 a w)
    (hQ : ∀ a' w', Hold 51 [(0, .val (.int .i64 d)), (1, .val (.string s)), (2, .row F), (7, .ptrT (Tm.structFn s F).1 (Tm.structFn s F).2)] w0 a' w' → Q .normal a' w') : (Code.region 1 lm1Ops false).wp Try.prog Q a w := by
  refine region_seq (w0 := w) 5 (by kernel_rfl) ?_
  rw [show List.range 5 = [0, 1, 2, 3, 4] from rfl]
  refine env_one (i := 0) (d := 8) (k := .val (.string s)) (step_move (by kernel_rfl) (Opd.of_base 1 rfl) rfl) (by kernel_rfl) (by decide) h ?_
  clear h
  intro a w h
  refine env_one (i := 1) (d := 9) (k := .row F) (step_move (by kernel_rfl) (Opd.of_base 2 rfl) rfl) (by kernel_rfl) (by decide) h ?_
  clear h
  intro a w h
  refine env_one (i := 2) (d := 10) (k := .term (Tm.structFn s F).1 (Tm.structFn s F).2) (step_struct (by kernel_rfl) (Opd.of_base 8 rfl) (Opd.of_base 9 rfl) rfl rfl) (by kernel_rfl) (by decide) h ?_
  clear h
  intro a w h
  refine env_box (i := 3) (d := 7) (by kernel_rfl) (by decide) (by kernel_rfl) (by decide) (s := 10) rfl h ?_
  clear h
  intro a w h
  exact hQ a w (h.keep [0, 1, 2, 7])
def lm2Es (d : Int) (s : ByteArray) (F : Fo) : List Kd := [
  .val (.int .i64 d),
  .term (Tm.cloneOf (0, d, ByteArray.empty) .nil).1 (Tm.cloneOf (0, d, ByteArray.empty) .nil).2,
  .val (.int .i64 d),
  .term (Tm.cloneOf (0, d, ByteArray.empty) .nil).1 (Tm.cloneOf (0, d, ByteArray.empty) .nil).2,
  .val (.bool true),
  .val (.bool false),
  .val (.bool false),
  .val (.int .i64 d),
  .term (Tm.cloneOf (1, d, ByteArray.empty) .nil).1 (Tm.cloneOf (1, d, ByteArray.empty) .nil).2,
  .val (.int .i64 d),
  .term (Tm.cloneOf (1, d, ByteArray.empty) .nil).1 (Tm.cloneOf (1, d, ByteArray.empty) .nil).2,
  .val (.bool true),
  .val (.bool false),
  .val (.bool false),
  .val (.bool false),
  .val (.string s),
  .term (Tm.cloneOf (2, 0, s) .nil).1 (Tm.cloneOf (2, 0, s) .nil).2,
  .val (.string s),
  .term (Tm.cloneOf (2, 0, s) .nil).1 (Tm.cloneOf (2, 0, s) .nil).2,
  .val (.bool true),
  .val (.bool false),
  .val (.bool false),
  .val (.bool false),
  .term (Tm.structFn s F).1 (Tm.structFn s F).2,
  .val (.string s),
  .row F,
  .term (Tm.structFn s F).1 (Tm.structFn s F).2,
  .val (.bool true),
  .val (.bool false),
  .val (.bool false)]
def lm2Ds : List Nat := [11, 12, 13, 14, 15, 16, 17, 18, 19, 20, 21, 22, 23, 24, 25, 26, 27, 28, 29, 30, 31, 32, 33, 34, 35, 36, 37, 38, 39, 40]
def lm2Env (d : Int) (s : ByteArray) (F : Fo) : Env := [(0, .val (.int .i64 d)), (1, .val (.string s)), (2, .row F), (7, .ptrT (Tm.structFn s F).1 (Tm.structFn s F).2)]
theorem lm2_0 {Q : Exit → Act → World → Prop} (d : Int) (s : ByteArray) (F : Fo)  : RStep lm2Ops Q (fun i => ((lm2Es d s F)[i]?).getD .any) (fun i => (lm2Ds[i]?).getD (1000 + i)) (look (lm2Env d s F)) 51 0 := fun _ => step_move (by kernel_rfl) (Opd.of_base 0 rfl) rfl
theorem lm2_1 {Q : Exit → Act → World → Prop} (d : Int) (s : ByteArray) (F : Fo)  : RStep lm2Ops Q (fun i => ((lm2Es d s F)[i]?).getD .any) (fun i => (lm2Ds[i]?).getD (1000 + i)) (look (lm2Env d s F)) 51 1 := fun _ => step_var (by kernel_rfl) (Opd.dep 0 rfl rfl (by kernel_rfl)) rfl rfl
theorem lm2_2 {Q : Exit → Act → World → Prop} (d : Int) (s : ByteArray) (F : Fo)  : RStep lm2Ops Q (fun i => ((lm2Es d s F)[i]?).getD .any) (fun i => (lm2Ds[i]?).getD (1000 + i)) (look (lm2Env d s F)) 51 2 := fun _ => step_move (by kernel_rfl) (Opd.of_base 0 rfl) rfl
theorem lm2_3 {Q : Exit → Act → World → Prop} (d : Int) (s : ByteArray) (F : Fo)  : RStep lm2Ops Q (fun i => ((lm2Es d s F)[i]?).getD .any) (fun i => (lm2Ds[i]?).getD (1000 + i)) (look (lm2Env d s F)) 51 3 := fun _ => step_rvar (by kernel_rfl) (Opd.dep 2 rfl rfl (by kernel_rfl)) rfl rfl
theorem lm2_4 {Q : Exit → Act → World → Prop} (d : Int) (s : ByteArray) (F : Fo)  : RStep lm2Ops Q (fun i => ((lm2Es d s F)[i]?).getD .any) (fun i => (lm2Ds[i]?).getD (1000 + i)) (look (lm2Env d s F)) 51 4 := fun _ => step_lsame (by kernel_rfl) (Opd.dep 1 rfl rfl (by kernel_rfl)) (Opd.dep 3 rfl rfl (by kernel_rfl)) (Tm.same_self (Tm.clone_valid _ _)) rfl
theorem lm2_5 {Q : Exit → Act → World → Prop} (d : Int) (s : ByteArray) (F : Fo)  : RStep lm2Ops Q (fun i => ((lm2Es d s F)[i]?).getD .any) (fun i => (lm2Ds[i]?).getD (1000 + i)) (look (lm2Env d s F)) 51 5 := fun _ => step_not (by kernel_rfl) (Opd.dep 4 rfl rfl (by kernel_rfl)) rfl
theorem lm2_6 {Q : Exit → Act → World → Prop} (d : Int) (s : ByteArray) (F : Fo)  : RStep lm2Ops Q (fun i => ((lm2Es d s F)[i]?).getD .any) (fun i => (lm2Ds[i]?).getD (1000 + i)) (look (lm2Env d s F)) 51 6 := fun _ => step_move (by kernel_rfl) (Opd.dep 5 rfl rfl (by kernel_rfl)) rfl
theorem lm2_7 {Q : Exit → Act → World → Prop} (d : Int) (s : ByteArray) (F : Fo)  : RStep lm2Ops Q (fun i => ((lm2Es d s F)[i]?).getD .any) (fun i => (lm2Ds[i]?).getD (1000 + i)) (look (lm2Env d s F)) 51 7 := fun _ => step_move (by kernel_rfl) (Opd.of_base 0 rfl) rfl
theorem lm2_8 {Q : Exit → Act → World → Prop} (d : Int) (s : ByteArray) (F : Fo)  : RStep lm2Ops Q (fun i => ((lm2Es d s F)[i]?).getD .any) (fun i => (lm2Ds[i]?).getD (1000 + i)) (look (lm2Env d s F)) 51 8 := fun _ => step_int2 (by kernel_rfl) (Opd.dep 7 rfl rfl (by kernel_rfl)) rfl rfl
theorem lm2_9 {Q : Exit → Act → World → Prop} (d : Int) (s : ByteArray) (F : Fo)  : RStep lm2Ops Q (fun i => ((lm2Es d s F)[i]?).getD .any) (fun i => (lm2Ds[i]?).getD (1000 + i)) (look (lm2Env d s F)) 51 9 := fun _ => step_move (by kernel_rfl) (Opd.of_base 0 rfl) rfl
theorem lm2_10 {Q : Exit → Act → World → Prop} (d : Int) (s : ByteArray) (F : Fo)  : RStep lm2Ops Q (fun i => ((lm2Es d s F)[i]?).getD .any) (fun i => (lm2Ds[i]?).getD (1000 + i)) (look (lm2Env d s F)) 51 10 := fun _ => step_rint (by kernel_rfl) (Opd.dep 9 rfl rfl (by kernel_rfl)) rfl rfl
theorem lm2_11 {Q : Exit → Act → World → Prop} (d : Int) (s : ByteArray) (F : Fo)  : RStep lm2Ops Q (fun i => ((lm2Es d s F)[i]?).getD .any) (fun i => (lm2Ds[i]?).getD (1000 + i)) (look (lm2Env d s F)) 51 11 := fun _ => step_lsame (by kernel_rfl) (Opd.dep 8 rfl rfl (by kernel_rfl)) (Opd.dep 10 rfl rfl (by kernel_rfl)) (Tm.same_self (Tm.clone_valid _ _)) rfl
theorem lm2_12 {Q : Exit → Act → World → Prop} (d : Int) (s : ByteArray) (F : Fo)  : RStep lm2Ops Q (fun i => ((lm2Es d s F)[i]?).getD .any) (fun i => (lm2Ds[i]?).getD (1000 + i)) (look (lm2Env d s F)) 51 12 := fun _ => step_not (by kernel_rfl) (Opd.dep 11 rfl rfl (by kernel_rfl)) rfl
theorem lm2_13 {Q : Exit → Act → World → Prop} (d : Int) (s : ByteArray) (F : Fo)  : RStep lm2Ops Q (fun i => ((lm2Es d s F)[i]?).getD .any) (fun i => (lm2Ds[i]?).getD (1000 + i)) (look (lm2Env d s F)) 51 13 := fun _ => step_pick_no (x := .const (.bool true)) (by kernel_rfl) (Opd.dep 6 rfl rfl (by kernel_rfl)) (Opd.dep 12 rfl rfl (by kernel_rfl)) rfl
theorem lm2_14 {Q : Exit → Act → World → Prop} (d : Int) (s : ByteArray) (F : Fo)  : RStep lm2Ops Q (fun i => ((lm2Es d s F)[i]?).getD .any) (fun i => (lm2Ds[i]?).getD (1000 + i)) (look (lm2Env d s F)) 51 14 := fun _ => step_move (by kernel_rfl) (Opd.dep 13 rfl rfl (by kernel_rfl)) rfl
theorem lm2_15 {Q : Exit → Act → World → Prop} (d : Int) (s : ByteArray) (F : Fo)  : RStep lm2Ops Q (fun i => ((lm2Es d s F)[i]?).getD .any) (fun i => (lm2Ds[i]?).getD (1000 + i)) (look (lm2Env d s F)) 51 15 := fun _ => step_move (by kernel_rfl) (Opd.of_base 1 rfl) rfl
theorem lm2_16 {Q : Exit → Act → World → Prop} (d : Int) (s : ByteArray) (F : Fo)  : RStep lm2Ops Q (fun i => ((lm2Es d s F)[i]?).getD .any) (fun i => (lm2Ds[i]?).getD (1000 + i)) (look (lm2Env d s F)) 51 16 := fun _ => step_atom (by kernel_rfl) (Opd.dep 15 rfl rfl (by kernel_rfl)) rfl rfl
theorem lm2_17 {Q : Exit → Act → World → Prop} (d : Int) (s : ByteArray) (F : Fo)  : RStep lm2Ops Q (fun i => ((lm2Es d s F)[i]?).getD .any) (fun i => (lm2Ds[i]?).getD (1000 + i)) (look (lm2Env d s F)) 51 17 := fun _ => step_move (by kernel_rfl) (Opd.of_base 1 rfl) rfl
theorem lm2_18 {Q : Exit → Act → World → Prop} (d : Int) (s : ByteArray) (F : Fo)  : RStep lm2Ops Q (fun i => ((lm2Es d s F)[i]?).getD .any) (fun i => (lm2Ds[i]?).getD (1000 + i)) (look (lm2Env d s F)) 51 18 := fun _ => step_ratom (by kernel_rfl) (Opd.dep 17 rfl rfl (by kernel_rfl)) rfl rfl
theorem lm2_19 {Q : Exit → Act → World → Prop} (d : Int) (s : ByteArray) (F : Fo)  : RStep lm2Ops Q (fun i => ((lm2Es d s F)[i]?).getD .any) (fun i => (lm2Ds[i]?).getD (1000 + i)) (look (lm2Env d s F)) 51 19 := fun _ => step_lsame (by kernel_rfl) (Opd.dep 16 rfl rfl (by kernel_rfl)) (Opd.dep 18 rfl rfl (by kernel_rfl)) (Tm.same_self (Tm.clone_valid _ _)) rfl
theorem lm2_20 {Q : Exit → Act → World → Prop} (d : Int) (s : ByteArray) (F : Fo)  : RStep lm2Ops Q (fun i => ((lm2Es d s F)[i]?).getD .any) (fun i => (lm2Ds[i]?).getD (1000 + i)) (look (lm2Env d s F)) 51 20 := fun _ => step_not (by kernel_rfl) (Opd.dep 19 rfl rfl (by kernel_rfl)) rfl
theorem lm2_21 {Q : Exit → Act → World → Prop} (d : Int) (s : ByteArray) (F : Fo)  : RStep lm2Ops Q (fun i => ((lm2Es d s F)[i]?).getD .any) (fun i => (lm2Ds[i]?).getD (1000 + i)) (look (lm2Env d s F)) 51 21 := fun _ => step_pick_no (x := .const (.bool true)) (by kernel_rfl) (Opd.dep 14 rfl rfl (by kernel_rfl)) (Opd.dep 20 rfl rfl (by kernel_rfl)) rfl
theorem lm2_22 {Q : Exit → Act → World → Prop} (d : Int) (s : ByteArray) (F : Fo)  : RStep lm2Ops Q (fun i => ((lm2Es d s F)[i]?).getD .any) (fun i => (lm2Ds[i]?).getD (1000 + i)) (look (lm2Env d s F)) 51 22 := fun _ => step_move (by kernel_rfl) (Opd.dep 21 rfl rfl (by kernel_rfl)) rfl
theorem lm2_23 {Q : Exit → Act → World → Prop} (d : Int) (s : ByteArray) (F : Fo)  : RStep lm2Ops Q (fun i => ((lm2Es d s F)[i]?).getD .any) (fun i => (lm2Ds[i]?).getD (1000 + i)) (look (lm2Env d s F)) 51 23 := fun _ => step_load_term (by kernel_rfl) (Opd.of_base 7 rfl) rfl
theorem lm2_24 {Q : Exit → Act → World → Prop} (d : Int) (s : ByteArray) (F : Fo)  : RStep lm2Ops Q (fun i => ((lm2Es d s F)[i]?).getD .any) (fun i => (lm2Ds[i]?).getD (1000 + i)) (look (lm2Env d s F)) 51 24 := fun _ => step_move (by kernel_rfl) (Opd.of_base 1 rfl) rfl
theorem lm2_25 {Q : Exit → Act → World → Prop} (d : Int) (s : ByteArray) (F : Fo)  : RStep lm2Ops Q (fun i => ((lm2Es d s F)[i]?).getD .any) (fun i => (lm2Ds[i]?).getD (1000 + i)) (look (lm2Env d s F)) 51 25 := fun _ => step_move (by kernel_rfl) (Opd.of_base 2 rfl) rfl
theorem lm2_26 {Q : Exit → Act → World → Prop} (d : Int) (s : ByteArray) (F : Fo)  : RStep lm2Ops Q (fun i => ((lm2Es d s F)[i]?).getD .any) (fun i => (lm2Ds[i]?).getD (1000 + i)) (look (lm2Env d s F)) 51 26 := fun _ => step_rstruct (by kernel_rfl) (Opd.dep 24 rfl rfl (by kernel_rfl)) (Opd.dep 25 rfl rfl (by kernel_rfl)) rfl rfl
theorem lm2_27 {Q : Exit → Act → World → Prop} (d : Int) (s : ByteArray) (F : Fo)  : RStep lm2Ops Q (fun i => ((lm2Es d s F)[i]?).getD .any) (fun i => (lm2Ds[i]?).getD (1000 + i)) (look (lm2Env d s F)) 51 27 := fun _ => step_lsame (by kernel_rfl) (Opd.dep 23 rfl rfl (by kernel_rfl)) (Opd.dep 26 rfl rfl (by kernel_rfl)) (Tm.same_self (Tm.struct_valid _ _)) rfl
theorem lm2_28 {Q : Exit → Act → World → Prop} (d : Int) (s : ByteArray) (F : Fo)  : RStep lm2Ops Q (fun i => ((lm2Es d s F)[i]?).getD .any) (fun i => (lm2Ds[i]?).getD (1000 + i)) (look (lm2Env d s F)) 51 28 := fun _ => step_not (by kernel_rfl) (Opd.dep 27 rfl rfl (by kernel_rfl)) rfl
theorem lm2_29 {Q : Exit → Act → World → Prop} (d : Int) (s : ByteArray) (F : Fo)  : RStep lm2Ops Q (fun i => ((lm2Es d s F)[i]?).getD .any) (fun i => (lm2Ds[i]?).getD (1000 + i)) (look (lm2Env d s F)) 51 29 := fun _ => step_pick_no (x := .const (.bool true)) (by kernel_rfl) (Opd.dep 22 rfl rfl (by kernel_rfl)) (Opd.dep 28 rfl rfl (by kernel_rfl)) rfl
theorem lm2_region {Q : Exit → Act → World → Prop} (d : Int) (s : ByteArray) (F : Fo)  {w0 : World} {a : Act} {w : World} (h : Hold 51 [(0, .val (.int .i64 d)), (1, .val (.string s)), (2, .row F), (7, .ptrT (Tm.structFn s F).1 (Tm.structFn s F).2)] w0 a w)
    (hQ : ∀ a' w', Hold 51 [(0, .val (.int .i64 d)), (1, .val (.string s)), (40, .val (.bool false))] w0 a' w' → Q .normal a' w') : (Code.region 2 lm2Ops true).wp Try.prog Q a w := by
  have hall : ∀ i, i < 0 → RStep lm2Ops Q (fun i => ((lm2Es d s F)[i]?).getD .any) (fun i => (lm2Ds[i]?).getD (1000 + i)) (look (lm2Env d s F)) 51 i := fun i hi => absurd hi (by omega)
  have hall := below_succ hall (lm2_0 d s F )
  have hall := below_succ hall (lm2_1 d s F )
  have hall := below_succ hall (lm2_2 d s F )
  have hall := below_succ hall (lm2_3 d s F )
  have hall := below_succ hall (lm2_4 d s F )
  have hall := below_succ hall (lm2_5 d s F )
  have hall := below_succ hall (lm2_6 d s F )
  have hall := below_succ hall (lm2_7 d s F )
  have hall := below_succ hall (lm2_8 d s F )
  have hall := below_succ hall (lm2_9 d s F )
  have hall := below_succ hall (lm2_10 d s F )
  have hall := below_succ hall (lm2_11 d s F )
  have hall := below_succ hall (lm2_12 d s F )
  have hall := below_succ hall (lm2_13 d s F )
  have hall := below_succ hall (lm2_14 d s F )
  have hall := below_succ hall (lm2_15 d s F )
  have hall := below_succ hall (lm2_16 d s F )
  have hall := below_succ hall (lm2_17 d s F )
  have hall := below_succ hall (lm2_18 d s F )
  have hall := below_succ hall (lm2_19 d s F )
  have hall := below_succ hall (lm2_20 d s F )
  have hall := below_succ hall (lm2_21 d s F )
  have hall := below_succ hall (lm2_22 d s F )
  have hall := below_succ hall (lm2_23 d s F )
  have hall := below_succ hall (lm2_24 d s F )
  have hall := below_succ hall (lm2_25 d s F )
  have hall := below_succ hall (lm2_26 d s F )
  have hall := below_succ hall (lm2_27 d s F )
  have hall := below_succ hall (lm2_28 d s F )
  have hall := below_succ hall (lm2_29 d s F )
  refine env_any (env := lm2Env d s F) (N := 51) (w0 := w0) lm2Ds (lm2Es d s F) (by kernel_rfl) (by kernel_rfl) (of_decide_eq_true (by kernel_rfl)) (fun i hi => hall i (by rw [show (lm2Es d s F).length = 30 by kernel_rfl] at hi; exact hi)) h fun a' w' h => ?_
  exact hQ a' w' (h.keep [0, 1, 40])
theorem lm4_region {Q : Exit → Act → World → Prop} (d : Int) (s : ByteArray) (F : Fo)  {w0 : World} {a : Act} {w : World} (h : Hold 51 [(0, .val (.int .i64 d)), (1, .val (.string s)), (40, .val (.bool false))] w0 a w)
    (hQ : ∀ a' w', Hold 51 [(6, .val (.bool true))] w0 a' w' → Q .normal a' w') : (Code.region 4 lm4Ops false).wp Try.prog Q a w := by
  refine region_seq (w0 := w) 11 (by kernel_rfl) ?_
  rw [show List.range 11 = [0, 1, 2, 3, 4, 5, 6, 7, 8, 9, 10] from rfl]
  refine env_one (i := 0) (d := 41) (k := .val (.string s)) (step_move (by kernel_rfl) (Opd.of_base 1 rfl) rfl) (by kernel_rfl) (by decide) h ?_
  clear h
  intro a w h
  refine env_one (i := 1) (d := 42) (k := .val (.int .i64 d)) (step_move (by kernel_rfl) (Opd.of_base 0 rfl) rfl) (by kernel_rfl) (by decide) h ?_
  clear h
  intro a w h
  refine env_one (i := 2) (d := 43) (k := .term (Tm.indFn s d).1 (Tm.indFn s d).2) (step_ind (by kernel_rfl) (Opd.of_base 41 rfl) (Opd.of_base 42 rfl) rfl rfl) (by kernel_rfl) (by decide) h ?_
  clear h
  intro a w h
  refine env_one (i := 3) (d := 44) (k := .val (.string s)) (step_move (by kernel_rfl) (Opd.of_base 1 rfl) rfl) (by kernel_rfl) (by decide) h ?_
  clear h
  intro a w h
  refine env_one (i := 4) (d := 45) (k := .val (.int .i64 d)) (step_move (by kernel_rfl) (Opd.of_base 0 rfl) rfl) (by kernel_rfl) (by decide) h ?_
  clear h
  intro a w h
  refine env_one (i := 5) (d := 46) (k := .term (Tm.indFn s d).1 (Tm.indFn s d).2) (step_rind (by kernel_rfl) (Opd.of_base 44 rfl) (Opd.of_base 45 rfl) rfl rfl) (by kernel_rfl) (by decide) h ?_
  clear h
  intro a w h
  refine env_one (i := 6) (d := 47) (k := .val (.bool true)) (step_lsame (by kernel_rfl) (Opd.of_base 43 rfl) (Opd.of_base 46 rfl) (Tm.same_self (Tm.ind_valid _ _)) rfl) (by kernel_rfl) (by decide) h ?_
  clear h
  intro a w h
  refine env_one (i := 7) (d := 48) (k := .val (.bool true)) (step_move (by kernel_rfl) (Opd.of_base 47 rfl) rfl) (by kernel_rfl) (by decide) h ?_
  clear h
  intro a w h
  refine env_guard (i := 8) (d := 49) (g := 7) (dg := 48) (b := true) (k := .val (.bool true)) (step_awake (by kernel_rfl) rfl) (by kernel_rfl) (by decide) (by kernel_rfl) (by decide) rfl h ?_
  clear h
  intro a w h
  refine env_one (i := 9) (d := 50) (k := .val (.bool true)) (step_pick_yes (y := .const (.bool false)) (by kernel_rfl) (Opd.of_base 48 rfl) (Opd.of_base 49 rfl) rfl) (by kernel_rfl) (by decide) h ?_
  clear h
  intro a w h
  refine env_one (i := 10) (d := 6) (k := .val (.bool true)) (step_assign (by kernel_rfl) (Opd.of_base 50 rfl) rfl) (by kernel_rfl) (by decide) h ?_
  clear h
  intro a w h
  exact hQ a w (h.keep [6])
theorem law_makes (d : Int) (s : ByteArray) (F : Fo) (A : Option Addr) (c : Nat) (w : World) (hA : ArgsB w w.heap.size A (Tm.len F) F) :
    Calls Try.prog 7 #[.int .i64 d, .string s, .slice A (Tm.len F) c] w fun e w' => e = .returned (.bool true) ∧ Below w.heap.size w w' := by
  refine calls_of_wp Try.func7 lm_body ?_
  obtain ⟨v0, hv0⟩ : ∃ v : Value, v = .int .i64 d := ⟨_, rfl⟩
  obtain ⟨v1, hv1⟩ : ∃ v : Value, v = .string s := ⟨_, rfl⟩
  obtain ⟨v2, hv2⟩ : ∃ v : Value, v = .slice A (Tm.len F) c := ⟨_, rfl⟩
  rw [← hv0, ← hv1, ← hv2]
  have hk0 : (Kd.val (.int .i64 d)).R v0 w := hv0
  have hk1 : (Kd.val (.string s)).R v1 w := hv1
  have hk2 : (Kd.row F).R v2 w := ⟨A, c, hv2, hA⟩
  have hs : (#[v0, v1, v2] ++ Array.replicate (Try.f7.ntmps - #[v0, v1, v2].size) undef : Array Value).size = 51 := by kernel_rfl
  have g0 : (#[v0, v1, v2] ++ Array.replicate (Try.f7.ntmps - #[v0, v1, v2].size) undef : Array Value).getD 0 undef = v0 := by kernel_rfl
  have g1 : (#[v0, v1, v2] ++ Array.replicate (Try.f7.ntmps - #[v0, v1, v2].size) undef : Array Value).getD 1 undef = v1 := by kernel_rfl
  have g2 : (#[v0, v1, v2] ++ Array.replicate (Try.f7.ntmps - #[v0, v1, v2].size) undef : Array Value).getD 2 undef = v2 := by kernel_rfl
  generalize (#[v0, v1, v2] ++ Array.replicate (Try.f7.ntmps - #[v0, v1, v2].size) undef : Array Value) = tm at hs g0 g1 g2 ⊢
  refine wp_seq ?_
  refine lm0_region d s F (w0 := w) ⟨hs, rfl, Below.refl _ _, (slots_cons 0 (by rw [g0]; exact hk0) (slots_cons 1 (by rw [g1]; exact hk1) (slots_cons 2 (by rw [g2]; exact hk2) slots_nil)))⟩ ?_
  intro a w h
  show Code.wp _ _ _ a w
  refine wp_seq ?_
  refine lm1_region d s F h ?_
  intro a w h
  show Code.wp _ _ _ a w
  refine wp_seq ?_
  refine wp_seq ?_
  refine lm2_region d s F h ?_
  intro a w h
  show Code.wp _ _ _ a w
  refine env_cond (b := false) rfl h ?_
  rw [if_neg (by decide)]
  refine wp_skip ?_
  show Code.wp _ _ _ a w
  refine wp_seq ?_
  refine lm4_region d s F h ?_
  intro a w h
  show Code.wp _ _ _ a w
  refine wp_ret ?_
  (try simp only [then_ret, block_ret])
  exact law_fin rfl (h.get 6 rfl) h.defers ⟨rfl, h.world⟩
end Go.Proofs.Ytmljkhofahgelaa
