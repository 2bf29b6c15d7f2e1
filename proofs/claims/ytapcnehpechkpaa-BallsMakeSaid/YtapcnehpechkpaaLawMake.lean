/-
  The statement BallsMake, as its function.
-/
import Derived.Test.YtapcnehpechkpaaFacts6
import Derived.Test.YtapcnehpechkpaaRefChk
namespace Go.Proofs.Ytapcnehpechkpaa
set_option linter.unusedVariables false
set_option linter.unusedSimpArgs false
set_option maxRecDepth 100000
open Go.RowKit
namespace Bl
theorem un_valid (p : Pay) (l : Fo) : Tm.validB (un p l).1 (un p l).2 = true := err_valid _ _
theorem ext_valid (k : ByteArray) (p : Pay) (l : Fo) : Tm.validB (ext k p l).1 (ext k p l).2 = true := err_valid _ _
theorem perm_valid (a k : ByteArray) (p : Pay) (l : Fo) : Tm.validB (perm a k p l).1 (perm a k p l).2 = true := err_valid _ _
theorem ev_valid (k : ByteArray) : Tm.validB (ev k).1 (ev k).2 = true := err_valid _ _
theorem syn_valid (z : Int) : Tm.validB (syn z).1 (syn z).2 = true := by
  unfold syn
  split
  · exact zt_valid
  · exact err_valid _ _
end Bl
section
variable {ops : Array Oper} {Q : Exit → Act → World → Prop} {E : Nat → Kd} {D : Nat → Nat} {base : Nat → Option Kd} {N : Nat}
theorem step_nslice9 {i n g : Nat} {G : Option Nat} {x0 x1 x2 x3 x4 x5 x6 x7 x8 : Operand} {p0 p1 p2 p3 p4 p5 p6 p7 p8 : Pay} {l0 l1 l2 l3 l4 l5 l6 l7 l8 : Fo} (hop : (ops[i]?).map (·.op) = some (.buildSlice 22 9 #[(0, x0), (1, x1), (2, x2), (3, x3), (4, x4), (5, x5), (6, x6), (7, x7), (8, x8)])) (h0 : Opd ops E D base N i x0 (.sat (nT n G p0 l0))) (h1 : Opd ops E D base N i x1 (.sat (nT n G p1 l1))) (h2 : Opd ops E D base N i x2 (.sat (nT n G p2 l2))) (h3 : Opd ops E D base N i x3 (.sat (nT n G p3 l3))) (h4 : Opd ops E D base N i x4 (.sat (nT n G p4 l4))) (h5 : Opd ops E D base N i x5 (.sat (nT n G p5 l5))) (h6 : Opd ops E D base N i x6 (.sat (nT n G p6 l6))) (h7 : Opd ops E D base N i x7 (.sat (nT n G p7 l7))) (h8 : Opd ops E D base N i x8 (.sat (nT n G p8 l8))) (hg : Opd ops E D base N i (.tmp g) (.sat (gP n G))) (hE : E i = .sat (nK n G (.node p0 l0 (.node p1 l1 (.node p2 l2 (.node p3 l3 (.node p4 l4 (.node p5 l5 (.node p6 l6 (.node p7 l7 (.node p8 l8 .nil))))))))))) : Step Try.prog ops Q E D base N i := by
  intro o ho a w hc K hK
  have hxo := op_of ho hop
  obtain ⟨dst, op, ty, pos, after, guard⟩ := o
  have hx' : op = _ := hxo
  subst hx'
  have hgg := hg a w hc
  obtain ⟨A0, c0, e0, ha0⟩ := h0 a w hc
  obtain ⟨A1, c1, e1, ha1⟩ := h1 a w hc
  obtain ⟨A2, c2, e2, ha2⟩ := h2 a w hc
  obtain ⟨A3, c3, e3, ha3⟩ := h3 a w hc
  obtain ⟨A4, c4, e4, ha4⟩ := h4 a w hc
  obtain ⟨A5, c5, e5, ha5⟩ := h5 a w hc
  obtain ⟨A6, c6, e6, ha6⟩ := h6 a w hc
  obtain ⟨A7, c7, e7, ha7⟩ := h7 a w hc
  obtain ⟨A8, c8, e8, ha8⟩ := h8 a w hc
  have hv : Vals (Ns n G w) w [tv p0 A0 (Tm.len l0) c0, tv p1 A1 (Tm.len l1) c1, tv p2 A2 (Tm.len l2) c2, tv p3 A3 (Tm.len l3) c3, tv p4 A4 (Tm.len l4) c4, tv p5 A5 (Tm.len l5) c5, tv p6 A6 (Tm.len l6) c6, tv p7 A7 (Tm.len l7) c7, tv p8 A8 (Tm.len l8) c8] (.node p0 l0 (.node p1 l1 (.node p2 l2 (.node p3 l3 (.node p4 l4 (.node p5 l5 (.node p6 l6 (.node p7 l7 (.node p8 l8 .nil))))))))) := ⟨⟨A0, c0, rfl, ha0⟩, ⟨A1, c1, rfl, ha1⟩, ⟨A2, c2, rfl, ha2⟩, ⟨A3, c3, rfl, ha3⟩, ⟨A4, c4, rfl, ha4⟩, ⟨A5, c5, rfl, ha5⟩, ⟨A6, c6, rfl, ha6⟩, ⟨A7, c7, rfl, ha7⟩, ⟨A8, c8, rfl, ha8⟩, trivial⟩
  have hr := nrow_new _ _ 9 24 hgg hv rfl (by decide)
  have hrun : (execOp a.eval ⟨dst, .buildSlice 22 9 #[(0, x0), (1, x1), (2, x2), (3, x3), (4, x4), (5, x5), (6, x6), (7, x7), (8, x8)], ty, pos, after, guard⟩).run Try.prog w = .ok (.value (.slice (some ⟨w.heap.size, 0, none⟩) 9 9)) (w.alloc (.cells (tcells [tv p0 A0 (Tm.len l0) c0, tv p1 A1 (Tm.len l1) c1, tv p2 A2 (Tm.len l2) c2, tv p3 A3 (Tm.len l3) c3, tv p4 A4 (Tm.len l4) c4, tv p5 A5 (Tm.len l5) c5, tv p6 A6 (Tm.len l6) c6, tv p7 A7 (Tm.len l7) c7, tv p8 A8 (Tm.len l8) c8]).toArray 24)) := by
    unfold execOp
    simp only [List.map_toArray, List.map_cons, List.map_nil, e0, e1, e2, e3, e4, e5, e6, e7, e8]
    go_simp
    rfl
  unfold Oper.wp
  rw [hrun]
  exact hK _ _ (hE ▸ hr) ((Below.refl _ _).alloc (Nat.le_refl _) _)
end
noncomputable def lMake0Ops : Array Oper := ((Try.f3.body).bind (findReg 0)).getD #[]
noncomputable def lMake1Ops : Array Oper := ((Try.f3.body).bind (findReg 1)).getD #[]
noncomputable def lMake2Ops : Array Oper := ((Try.f3.body).bind (findReg 2)).getD #[]
noncomputable def lMake3Ops : Array Oper := ((Try.f3.body).bind (findReg 3)).getD #[]
theorem lMake_body : Try.f3.body = some (.seq (.region 0 lMake0Ops false) (.seq (.region 1 lMake1Ops true) (.seq (.region 2 lMake2Ops true) (.seq (.region 3 lMake3Ops false) .ret)))) := by kernel_rfl
theorem lMake0a_region {Q : Exit → Act → World → Prop} (s0 : ByteArray) (s1 : ByteArray) (p2 : Pay) (l2 : Fo) (s3 : Int)  {w0 : World} {a : Act} {w : World} (h : Hold 63 [(0, .val (.string s0)), (1, .val (.string s1)), (2, .term p2 l2), (3, .val (.int .i64 s3)), (990, .sat (gP 0 none))] w0 a w)
    (hQ : ∀ a' w', Hold 63 [(0, .val (.string s0)), (1, .val (.string s1)), (3, .val (.int .i64 s3)), (990, .sat (gP 0 none)), (6, .ptrT p2 l2), (8, .val (.bool false))] w0 a' w' → Q .normal a' w') : (Code.region 0 lMake0Ops false).wp Try.prog Q a w := by
  refine region_seq (w0 := w) 2 (by kernel_rfl) ?_
  rw [show List.range 2 = [0, 1] from rfl]
  refine env_one (i := 0) (d := 6) (k := .ptrT p2 l2) (step_box (by kernel_rfl) (Opd.of_base 2 rfl) rfl) (by kernel_rfl) (by decide) h ?_
  clear h
  intro a w h
  refine env_one (i := 1) (d := 8) (k := .val (.bool false)) (step_assign (by kernel_rfl) (Opd.const _) rfl) (by kernel_rfl) (by decide) h ?_
  clear h
  intro a w h
  exact hQ a w (h.keep [0, 1, 3, 990, 6, 8])
def lMake1aEs (s0 : ByteArray) (s1 : ByteArray) (p2 : Pay) (l2 : Fo) (s3 : Int) : List Kd := [
  .sat (nT 0 none Bl.inst.1 Bl.inst.2),
  .term p2 l2,
  .sat (nT 0 none ((Bl.un p2 l2).1) ((Bl.un p2 l2).2)),
  .val (.string s0),
  .term p2 l2,
  .sat (nT 0 none ((Bl.ty s0 p2 l2).1) ((Bl.ty s0 p2 l2).2)),
  .val (.string s0),
  .term p2 l2,
  .sat (nT 0 none ((Bl.dom s0 p2 l2).1) ((Bl.dom s0 p2 l2).2)),
  .val (.string s0),
  .term p2 l2,
  .sat (nT 0 none ((Bl.ext s0 p2 l2).1) ((Bl.ext s0 p2 l2).2)),
  .val (.string s1),
  .val (.string s0),
  .term p2 l2,
  .sat (nT 0 none ((Bl.perm s1 s0 p2 l2).1) ((Bl.perm s1 s0 p2 l2).2)),
  .val (.string s0),
  .sat (nT 0 none ((Bl.rep s0).1) ((Bl.rep s0).2)),
  .val (.string s1),
  .sat (nT 0 none ((Bl.ev s1).1) ((Bl.ev s1).2)),
  .val (.int .i64 s3),
  .sat (nT 0 none ((Bl.syn s3).1) ((Bl.syn s3).2)),
  .sat (nK 0 none (.node Bl.inst.1 Bl.inst.2 (.node ((Bl.un p2 l2).1) ((Bl.un p2 l2).2) (.node ((Bl.ty s0 p2 l2).1) ((Bl.ty s0 p2 l2).2) (.node ((Bl.dom s0 p2 l2).1) ((Bl.dom s0 p2 l2).2) (.node ((Bl.ext s0 p2 l2).1) ((Bl.ext s0 p2 l2).2) (.node ((Bl.perm s1 s0 p2 l2).1) ((Bl.perm s1 s0 p2 l2).2) (.node ((Bl.rep s0).1) ((Bl.rep s0).2) (.node ((Bl.ev s1).1) ((Bl.ev s1).2) (.node ((Bl.syn s3).1) ((Bl.syn s3).2) .nil)))))))))),
  .sat (nK 0 none (.node Bl.inst.1 Bl.inst.2 (.node ((Bl.un p2 l2).1) ((Bl.un p2 l2).2) (.node ((Bl.ty s0 p2 l2).1) ((Bl.ty s0 p2 l2).2) (.node ((Bl.dom s0 p2 l2).1) ((Bl.dom s0 p2 l2).2) (.node ((Bl.ext s0 p2 l2).1) ((Bl.ext s0 p2 l2).2) (.node ((Bl.perm s1 s0 p2 l2).1) ((Bl.perm s1 s0 p2 l2).2) (.node ((Bl.rep s0).1) ((Bl.rep s0).2) (.node ((Bl.ev s1).1) ((Bl.ev s1).2) (.node ((Bl.syn s3).1) ((Bl.syn s3).2) .nil))))))))))]
def lMake1aDs : List Nat := [11, 12, 13, 14, 15, 16, 17, 18, 19, 20, 21, 22, 23, 24, 25, 26, 27, 28, 29, 30, 31, 32, 33, 9]
def lMake1aEnv (s0 : ByteArray) (s1 : ByteArray) (p2 : Pay) (l2 : Fo) (s3 : Int) : Env := [(0, .val (.string s0)), (1, .val (.string s1)), (3, .val (.int .i64 s3)), (990, .sat (gP 0 none)), (6, .ptrT p2 l2), (8, .val (.bool false))]
theorem lMake1a_0 {Q : Exit → Act → World → Prop} (s0 : ByteArray) (s1 : ByteArray) (p2 : Pay) (l2 : Fo) (s3 : Int)  : RStep (strip lMake1Ops) Q (fun i => ((lMake1aEs s0 s1 p2 l2 s3)[i]?).getD .any) (fun i => (lMake1aDs[i]?).getD (1000 + i)) (look (lMake1aEnv s0 s1 p2 l2 s3)) 63 0 := fun _ => step_bInst (g := 990) (by kernel_rfl)  (Opd.of_base 990 rfl) rfl
theorem lMake1a_1 {Q : Exit → Act → World → Prop} (s0 : ByteArray) (s1 : ByteArray) (p2 : Pay) (l2 : Fo) (s3 : Int)  : RStep (strip lMake1Ops) Q (fun i => ((lMake1aEs s0 s1 p2 l2 s3)[i]?).getD .any) (fun i => (lMake1aDs[i]?).getD (1000 + i)) (look (lMake1aEnv s0 s1 p2 l2 s3)) 63 1 := fun _ => step_load_term (by kernel_rfl) (Opd.of_base 6 rfl) rfl
theorem lMake1a_2 {Q : Exit → Act → World → Prop} (s0 : ByteArray) (s1 : ByteArray) (p2 : Pay) (l2 : Fo) (s3 : Int)  : RStep (strip lMake1Ops) Q (fun i => ((lMake1aEs s0 s1 p2 l2 s3)[i]?).getD .any) (fun i => (lMake1aDs[i]?).getD (1000 + i)) (look (lMake1aEnv s0 s1 p2 l2 s3)) 63 2 := fun _ => step_bUn (g := 990) (by kernel_rfl) (Opd.dep 1 rfl rfl (by kernel_rfl)) (Opd.of_base 990 rfl) rfl
theorem lMake1a_3 {Q : Exit → Act → World → Prop} (s0 : ByteArray) (s1 : ByteArray) (p2 : Pay) (l2 : Fo) (s3 : Int)  : RStep (strip lMake1Ops) Q (fun i => ((lMake1aEs s0 s1 p2 l2 s3)[i]?).getD .any) (fun i => (lMake1aDs[i]?).getD (1000 + i)) (look (lMake1aEnv s0 s1 p2 l2 s3)) 63 3 := fun _ => step_move (by kernel_rfl) (Opd.of_base 0 rfl) rfl
theorem lMake1a_4 {Q : Exit → Act → World → Prop} (s0 : ByteArray) (s1 : ByteArray) (p2 : Pay) (l2 : Fo) (s3 : Int)  : RStep (strip lMake1Ops) Q (fun i => ((lMake1aEs s0 s1 p2 l2 s3)[i]?).getD .any) (fun i => (lMake1aDs[i]?).getD (1000 + i)) (look (lMake1aEnv s0 s1 p2 l2 s3)) 63 4 := fun _ => step_load_term (by kernel_rfl) (Opd.of_base 6 rfl) rfl
theorem lMake1a_5 {Q : Exit → Act → World → Prop} (s0 : ByteArray) (s1 : ByteArray) (p2 : Pay) (l2 : Fo) (s3 : Int)  : RStep (strip lMake1Ops) Q (fun i => ((lMake1aEs s0 s1 p2 l2 s3)[i]?).getD .any) (fun i => (lMake1aDs[i]?).getD (1000 + i)) (look (lMake1aEnv s0 s1 p2 l2 s3)) 63 5 := fun _ => step_bTy (g := 990) (by kernel_rfl) (Opd.dep 3 rfl rfl (by kernel_rfl)) (Opd.dep 4 rfl rfl (by kernel_rfl)) (Opd.of_base 990 rfl) rfl
theorem lMake1a_6 {Q : Exit → Act → World → Prop} (s0 : ByteArray) (s1 : ByteArray) (p2 : Pay) (l2 : Fo) (s3 : Int)  : RStep (strip lMake1Ops) Q (fun i => ((lMake1aEs s0 s1 p2 l2 s3)[i]?).getD .any) (fun i => (lMake1aDs[i]?).getD (1000 + i)) (look (lMake1aEnv s0 s1 p2 l2 s3)) 63 6 := fun _ => step_move (by kernel_rfl) (Opd.of_base 0 rfl) rfl
theorem lMake1a_7 {Q : Exit → Act → World → Prop} (s0 : ByteArray) (s1 : ByteArray) (p2 : Pay) (l2 : Fo) (s3 : Int)  : RStep (strip lMake1Ops) Q (fun i => ((lMake1aEs s0 s1 p2 l2 s3)[i]?).getD .any) (fun i => (lMake1aDs[i]?).getD (1000 + i)) (look (lMake1aEnv s0 s1 p2 l2 s3)) 63 7 := fun _ => step_load_term (by kernel_rfl) (Opd.of_base 6 rfl) rfl
theorem lMake1a_8 {Q : Exit → Act → World → Prop} (s0 : ByteArray) (s1 : ByteArray) (p2 : Pay) (l2 : Fo) (s3 : Int)  : RStep (strip lMake1Ops) Q (fun i => ((lMake1aEs s0 s1 p2 l2 s3)[i]?).getD .any) (fun i => (lMake1aDs[i]?).getD (1000 + i)) (look (lMake1aEnv s0 s1 p2 l2 s3)) 63 8 := fun _ => step_bDom (g := 990) (by kernel_rfl) (Opd.dep 6 rfl rfl (by kernel_rfl)) (Opd.dep 7 rfl rfl (by kernel_rfl)) (Opd.of_base 990 rfl) rfl
theorem lMake1a_9 {Q : Exit → Act → World → Prop} (s0 : ByteArray) (s1 : ByteArray) (p2 : Pay) (l2 : Fo) (s3 : Int)  : RStep (strip lMake1Ops) Q (fun i => ((lMake1aEs s0 s1 p2 l2 s3)[i]?).getD .any) (fun i => (lMake1aDs[i]?).getD (1000 + i)) (look (lMake1aEnv s0 s1 p2 l2 s3)) 63 9 := fun _ => step_move (by kernel_rfl) (Opd.of_base 0 rfl) rfl
theorem lMake1a_10 {Q : Exit → Act → World → Prop} (s0 : ByteArray) (s1 : ByteArray) (p2 : Pay) (l2 : Fo) (s3 : Int)  : RStep (strip lMake1Ops) Q (fun i => ((lMake1aEs s0 s1 p2 l2 s3)[i]?).getD .any) (fun i => (lMake1aDs[i]?).getD (1000 + i)) (look (lMake1aEnv s0 s1 p2 l2 s3)) 63 10 := fun _ => step_load_term (by kernel_rfl) (Opd.of_base 6 rfl) rfl
theorem lMake1a_11 {Q : Exit → Act → World → Prop} (s0 : ByteArray) (s1 : ByteArray) (p2 : Pay) (l2 : Fo) (s3 : Int)  : RStep (strip lMake1Ops) Q (fun i => ((lMake1aEs s0 s1 p2 l2 s3)[i]?).getD .any) (fun i => (lMake1aDs[i]?).getD (1000 + i)) (look (lMake1aEnv s0 s1 p2 l2 s3)) 63 11 := fun _ => step_bExt (g := 990) (by kernel_rfl) (Opd.dep 9 rfl rfl (by kernel_rfl)) (Opd.dep 10 rfl rfl (by kernel_rfl)) (Opd.of_base 990 rfl) rfl
theorem lMake1a_12 {Q : Exit → Act → World → Prop} (s0 : ByteArray) (s1 : ByteArray) (p2 : Pay) (l2 : Fo) (s3 : Int)  : RStep (strip lMake1Ops) Q (fun i => ((lMake1aEs s0 s1 p2 l2 s3)[i]?).getD .any) (fun i => (lMake1aDs[i]?).getD (1000 + i)) (look (lMake1aEnv s0 s1 p2 l2 s3)) 63 12 := fun _ => step_move (by kernel_rfl) (Opd.of_base 1 rfl) rfl
theorem lMake1a_13 {Q : Exit → Act → World → Prop} (s0 : ByteArray) (s1 : ByteArray) (p2 : Pay) (l2 : Fo) (s3 : Int)  : RStep (strip lMake1Ops) Q (fun i => ((lMake1aEs s0 s1 p2 l2 s3)[i]?).getD .any) (fun i => (lMake1aDs[i]?).getD (1000 + i)) (look (lMake1aEnv s0 s1 p2 l2 s3)) 63 13 := fun _ => step_move (by kernel_rfl) (Opd.of_base 0 rfl) rfl
theorem lMake1a_14 {Q : Exit → Act → World → Prop} (s0 : ByteArray) (s1 : ByteArray) (p2 : Pay) (l2 : Fo) (s3 : Int)  : RStep (strip lMake1Ops) Q (fun i => ((lMake1aEs s0 s1 p2 l2 s3)[i]?).getD .any) (fun i => (lMake1aDs[i]?).getD (1000 + i)) (look (lMake1aEnv s0 s1 p2 l2 s3)) 63 14 := fun _ => step_load_term (by kernel_rfl) (Opd.of_base 6 rfl) rfl
theorem lMake1a_15 {Q : Exit → Act → World → Prop} (s0 : ByteArray) (s1 : ByteArray) (p2 : Pay) (l2 : Fo) (s3 : Int)  : RStep (strip lMake1Ops) Q (fun i => ((lMake1aEs s0 s1 p2 l2 s3)[i]?).getD .any) (fun i => (lMake1aDs[i]?).getD (1000 + i)) (look (lMake1aEnv s0 s1 p2 l2 s3)) 63 15 := fun _ => step_bPerm (g := 990) (by kernel_rfl) (Opd.dep 12 rfl rfl (by kernel_rfl)) (Opd.dep 13 rfl rfl (by kernel_rfl)) (Opd.dep 14 rfl rfl (by kernel_rfl)) (Opd.of_base 990 rfl) rfl
theorem lMake1a_16 {Q : Exit → Act → World → Prop} (s0 : ByteArray) (s1 : ByteArray) (p2 : Pay) (l2 : Fo) (s3 : Int)  : RStep (strip lMake1Ops) Q (fun i => ((lMake1aEs s0 s1 p2 l2 s3)[i]?).getD .any) (fun i => (lMake1aDs[i]?).getD (1000 + i)) (look (lMake1aEnv s0 s1 p2 l2 s3)) 63 16 := fun _ => step_move (by kernel_rfl) (Opd.of_base 0 rfl) rfl
theorem lMake1a_17 {Q : Exit → Act → World → Prop} (s0 : ByteArray) (s1 : ByteArray) (p2 : Pay) (l2 : Fo) (s3 : Int)  : RStep (strip lMake1Ops) Q (fun i => ((lMake1aEs s0 s1 p2 l2 s3)[i]?).getD .any) (fun i => (lMake1aDs[i]?).getD (1000 + i)) (look (lMake1aEnv s0 s1 p2 l2 s3)) 63 17 := fun _ => step_bRep (g := 990) (by kernel_rfl) (Opd.dep 16 rfl rfl (by kernel_rfl)) (Opd.of_base 990 rfl) rfl
theorem lMake1a_18 {Q : Exit → Act → World → Prop} (s0 : ByteArray) (s1 : ByteArray) (p2 : Pay) (l2 : Fo) (s3 : Int)  : RStep (strip lMake1Ops) Q (fun i => ((lMake1aEs s0 s1 p2 l2 s3)[i]?).getD .any) (fun i => (lMake1aDs[i]?).getD (1000 + i)) (look (lMake1aEnv s0 s1 p2 l2 s3)) 63 18 := fun _ => step_move (by kernel_rfl) (Opd.of_base 1 rfl) rfl
theorem lMake1a_19 {Q : Exit → Act → World → Prop} (s0 : ByteArray) (s1 : ByteArray) (p2 : Pay) (l2 : Fo) (s3 : Int)  : RStep (strip lMake1Ops) Q (fun i => ((lMake1aEs s0 s1 p2 l2 s3)[i]?).getD .any) (fun i => (lMake1aDs[i]?).getD (1000 + i)) (look (lMake1aEnv s0 s1 p2 l2 s3)) 63 19 := fun _ => step_bEv (g := 990) (by kernel_rfl) (Opd.dep 18 rfl rfl (by kernel_rfl)) (Opd.of_base 990 rfl) rfl
theorem lMake1a_20 {Q : Exit → Act → World → Prop} (s0 : ByteArray) (s1 : ByteArray) (p2 : Pay) (l2 : Fo) (s3 : Int)  : RStep (strip lMake1Ops) Q (fun i => ((lMake1aEs s0 s1 p2 l2 s3)[i]?).getD .any) (fun i => (lMake1aDs[i]?).getD (1000 + i)) (look (lMake1aEnv s0 s1 p2 l2 s3)) 63 20 := fun _ => step_move (by kernel_rfl) (Opd.of_base 3 rfl) rfl
theorem lMake1a_21 {Q : Exit → Act → World → Prop} (s0 : ByteArray) (s1 : ByteArray) (p2 : Pay) (l2 : Fo) (s3 : Int)  : RStep (strip lMake1Ops) Q (fun i => ((lMake1aEs s0 s1 p2 l2 s3)[i]?).getD .any) (fun i => (lMake1aDs[i]?).getD (1000 + i)) (look (lMake1aEnv s0 s1 p2 l2 s3)) 63 21 := fun _ => step_bSyn (g := 990) (by kernel_rfl) (Opd.dep 20 rfl rfl (by kernel_rfl)) (Opd.of_base 990 rfl) rfl
theorem lMake1a_22 {Q : Exit → Act → World → Prop} (s0 : ByteArray) (s1 : ByteArray) (p2 : Pay) (l2 : Fo) (s3 : Int)  : RStep (strip lMake1Ops) Q (fun i => ((lMake1aEs s0 s1 p2 l2 s3)[i]?).getD .any) (fun i => (lMake1aDs[i]?).getD (1000 + i)) (look (lMake1aEnv s0 s1 p2 l2 s3)) 63 22 := fun _ => step_nslice9 (g := 990) (by kernel_rfl) (Opd.dep 0 rfl rfl (by kernel_rfl)) (Opd.dep 2 rfl rfl (by kernel_rfl)) (Opd.dep 5 rfl rfl (by kernel_rfl)) (Opd.dep 8 rfl rfl (by kernel_rfl)) (Opd.dep 11 rfl rfl (by kernel_rfl)) (Opd.dep 15 rfl rfl (by kernel_rfl)) (Opd.dep 17 rfl rfl (by kernel_rfl)) (Opd.dep 19 rfl rfl (by kernel_rfl)) (Opd.dep 21 rfl rfl (by kernel_rfl)) (Opd.of_base 990 rfl) rfl
theorem lMake1a_23 {Q : Exit → Act → World → Prop} (s0 : ByteArray) (s1 : ByteArray) (p2 : Pay) (l2 : Fo) (s3 : Int)  : RStep (strip lMake1Ops) Q (fun i => ((lMake1aEs s0 s1 p2 l2 s3)[i]?).getD .any) (fun i => (lMake1aDs[i]?).getD (1000 + i)) (look (lMake1aEnv s0 s1 p2 l2 s3)) 63 23 := fun _ => step_assign (by kernel_rfl) (Opd.dep 22 rfl rfl (by kernel_rfl)) rfl
theorem lMake1a_region {Q : Exit → Act → World → Prop} (s0 : ByteArray) (s1 : ByteArray) (p2 : Pay) (l2 : Fo) (s3 : Int)  {w0 : World} {a : Act} {w : World} (h : Hold 63 [(0, .val (.string s0)), (1, .val (.string s1)), (3, .val (.int .i64 s3)), (990, .sat (gP 0 none)), (6, .ptrT p2 l2), (8, .val (.bool false))] w0 a w)
    (hQ : ∀ a' w', Hold 63 [(0, .val (.string s0)), (1, .val (.string s1)), (3, .val (.int .i64 s3)), (990, .sat (gP 0 none)), (6, .ptrT p2 l2), (8, .val (.bool false)), (9, .sat (nK 0 none (.node Bl.inst.1 Bl.inst.2 (.node ((Bl.un p2 l2).1) ((Bl.un p2 l2).2) (.node ((Bl.ty s0 p2 l2).1) ((Bl.ty s0 p2 l2).2) (.node ((Bl.dom s0 p2 l2).1) ((Bl.dom s0 p2 l2).2) (.node ((Bl.ext s0 p2 l2).1) ((Bl.ext s0 p2 l2).2) (.node ((Bl.perm s1 s0 p2 l2).1) ((Bl.perm s1 s0 p2 l2).2) (.node ((Bl.rep s0).1) ((Bl.rep s0).2) (.node ((Bl.ev s1).1) ((Bl.ev s1).2) (.node ((Bl.syn s3).1) ((Bl.syn s3).2) .nil)))))))))))] w0 a' w' → Q .normal a' w') : (Code.region 1 lMake1Ops true).wp Try.prog Q a w := by
  have hall : ∀ i, i < 0 → RStep (strip lMake1Ops) Q (fun i => ((lMake1aEs s0 s1 p2 l2 s3)[i]?).getD .any) (fun i => (lMake1aDs[i]?).getD (1000 + i)) (look (lMake1aEnv s0 s1 p2 l2 s3)) 63 i := fun i hi => absurd hi (by omega)
  have hall := below_succ hall (lMake1a_0 s0 s1 p2 l2 s3 )
  have hall := below_succ hall (lMake1a_1 s0 s1 p2 l2 s3 )
  have hall := below_succ hall (lMake1a_2 s0 s1 p2 l2 s3 )
  have hall := below_succ hall (lMake1a_3 s0 s1 p2 l2 s3 )
  have hall := below_succ hall (lMake1a_4 s0 s1 p2 l2 s3 )
  have hall := below_succ hall (lMake1a_5 s0 s1 p2 l2 s3 )
  have hall := below_succ hall (lMake1a_6 s0 s1 p2 l2 s3 )
  have hall := below_succ hall (lMake1a_7 s0 s1 p2 l2 s3 )
  have hall := below_succ hall (lMake1a_8 s0 s1 p2 l2 s3 )
  have hall := below_succ hall (lMake1a_9 s0 s1 p2 l2 s3 )
  have hall := below_succ hall (lMake1a_10 s0 s1 p2 l2 s3 )
  have hall := below_succ hall (lMake1a_11 s0 s1 p2 l2 s3 )
  have hall := below_succ hall (lMake1a_12 s0 s1 p2 l2 s3 )
  have hall := below_succ hall (lMake1a_13 s0 s1 p2 l2 s3 )
  have hall := below_succ hall (lMake1a_14 s0 s1 p2 l2 s3 )
  have hall := below_succ hall (lMake1a_15 s0 s1 p2 l2 s3 )
  have hall := below_succ hall (lMake1a_16 s0 s1 p2 l2 s3 )
  have hall := below_succ hall (lMake1a_17 s0 s1 p2 l2 s3 )
  have hall := below_succ hall (lMake1a_18 s0 s1 p2 l2 s3 )
  have hall := below_succ hall (lMake1a_19 s0 s1 p2 l2 s3 )
  have hall := below_succ hall (lMake1a_20 s0 s1 p2 l2 s3 )
  have hall := below_succ hall (lMake1a_21 s0 s1 p2 l2 s3 )
  have hall := below_succ hall (lMake1a_22 s0 s1 p2 l2 s3 )
  have hall := below_succ hall (lMake1a_23 s0 s1 p2 l2 s3 )
  refine env_then (m := 24) (n := 24) lMake1aDs (lMake1aEs s0 s1 p2 l2 s3) rfl (by kernel_rfl) (by decide) (by kernel_rfl) (of_decide_eq_true (by kernel_rfl)) (by kernel_rfl) (by kernel_rfl) (fun i_ hi_ => hall i_ hi_) h fun a w h => ?_
  clear hall
  have h := h.keep [0, 1, 3, 990, 6, 8, 11, 12, 13, 14, 15, 16, 17, 18, 19, 20, 21, 22, 23, 24, 25, 26, 27, 28, 29, 30, 31, 32, 33, 9]
  show wpOps Try.prog _ Q [] a w
  exact hQ a w (h.keep [0, 1, 3, 990, 6, 8, 9])
def lMake2aEs (s0 : ByteArray) (s1 : ByteArray) (p2 : Pay) (l2 : Fo) (s3 : Int) : List Kd := [
  .sat (nT 0 none Bl.inst.1 Bl.inst.2),
  .term p2 l2,
  .sat (nT 0 none ((Bl.un p2 l2).1) ((Bl.un p2 l2).2)),
  .val (.string s0),
  .term p2 l2,
  .sat (nT 0 none ((Bl.ty s0 p2 l2).1) ((Bl.ty s0 p2 l2).2)),
  .val (.string s0),
  .term p2 l2,
  .sat (nT 0 none ((Bl.dom s0 p2 l2).1) ((Bl.dom s0 p2 l2).2)),
  .val (.string s0),
  .term p2 l2,
  .sat (nT 0 none ((Bl.ext s0 p2 l2).1) ((Bl.ext s0 p2 l2).2)),
  .val (.string s1),
  .val (.string s0),
  .term p2 l2,
  .sat (nT 0 none ((Bl.perm s1 s0 p2 l2).1) ((Bl.perm s1 s0 p2 l2).2)),
  .val (.string s0),
  .sat (nT 0 none ((Bl.rep s0).1) ((Bl.rep s0).2)),
  .val (.string s1),
  .sat (nT 0 none ((Bl.ev s1).1) ((Bl.ev s1).2)),
  .val (.int .i64 s3),
  .sat (nT 0 none ((Bl.syn s3).1) ((Bl.syn s3).2)),
  .sat (nK 0 none (.node Bl.inst.1 Bl.inst.2 (.node ((Bl.un p2 l2).1) ((Bl.un p2 l2).2) (.node ((Bl.ty s0 p2 l2).1) ((Bl.ty s0 p2 l2).2) (.node ((Bl.dom s0 p2 l2).1) ((Bl.dom s0 p2 l2).2) (.node ((Bl.ext s0 p2 l2).1) ((Bl.ext s0 p2 l2).2) (.node ((Bl.perm s1 s0 p2 l2).1) ((Bl.perm s1 s0 p2 l2).2) (.node ((Bl.rep s0).1) ((Bl.rep s0).2) (.node ((Bl.ev s1).1) ((Bl.ev s1).2) (.node ((Bl.syn s3).1) ((Bl.syn s3).2) .nil)))))))))),
  .sat (nK 0 none (.node Bl.inst.1 Bl.inst.2 (.node ((Bl.un p2 l2).1) ((Bl.un p2 l2).2) (.node ((Bl.ty s0 p2 l2).1) ((Bl.ty s0 p2 l2).2) (.node ((Bl.dom s0 p2 l2).1) ((Bl.dom s0 p2 l2).2) (.node ((Bl.ext s0 p2 l2).1) ((Bl.ext s0 p2 l2).2) (.node ((Bl.perm s1 s0 p2 l2).1) ((Bl.perm s1 s0 p2 l2).2) (.node ((Bl.rep s0).1) ((Bl.rep s0).2) (.node ((Bl.ev s1).1) ((Bl.ev s1).2) (.node ((Bl.syn s3).1) ((Bl.syn s3).2) .nil))))))))))]
def lMake2aDs : List Nat := [34, 35, 36, 37, 38, 39, 40, 41, 42, 43, 44, 45, 46, 47, 48, 49, 50, 51, 52, 53, 54, 55, 56, 10]
def lMake2aEnv (s0 : ByteArray) (s1 : ByteArray) (p2 : Pay) (l2 : Fo) (s3 : Int) : Env := [(0, .val (.string s0)), (1, .val (.string s1)), (3, .val (.int .i64 s3)), (990, .sat (gP 0 none)), (6, .ptrT p2 l2), (8, .val (.bool false)), (9, .sat (nK 0 none (.node Bl.inst.1 Bl.inst.2 (.node ((Bl.un p2 l2).1) ((Bl.un p2 l2).2) (.node ((Bl.ty s0 p2 l2).1) ((Bl.ty s0 p2 l2).2) (.node ((Bl.dom s0 p2 l2).1) ((Bl.dom s0 p2 l2).2) (.node ((Bl.ext s0 p2 l2).1) ((Bl.ext s0 p2 l2).2) (.node ((Bl.perm s1 s0 p2 l2).1) ((Bl.perm s1 s0 p2 l2).2) (.node ((Bl.rep s0).1) ((Bl.rep s0).2) (.node ((Bl.ev s1).1) ((Bl.ev s1).2) (.node ((Bl.syn s3).1) ((Bl.syn s3).2) .nil)))))))))))]
theorem lMake2a_0 {Q : Exit → Act → World → Prop} (s0 : ByteArray) (s1 : ByteArray) (p2 : Pay) (l2 : Fo) (s3 : Int)  : RStep (strip lMake2Ops) Q (fun i => ((lMake2aEs s0 s1 p2 l2 s3)[i]?).getD .any) (fun i => (lMake2aDs[i]?).getD (1000 + i)) (look (lMake2aEnv s0 s1 p2 l2 s3)) 63 0 := fun _ => step_rInst (g := 990) (by kernel_rfl)  (Opd.of_base 990 rfl) rfl
theorem lMake2a_1 {Q : Exit → Act → World → Prop} (s0 : ByteArray) (s1 : ByteArray) (p2 : Pay) (l2 : Fo) (s3 : Int)  : RStep (strip lMake2Ops) Q (fun i => ((lMake2aEs s0 s1 p2 l2 s3)[i]?).getD .any) (fun i => (lMake2aDs[i]?).getD (1000 + i)) (look (lMake2aEnv s0 s1 p2 l2 s3)) 63 1 := fun _ => step_load_term (by kernel_rfl) (Opd.of_base 6 rfl) rfl
theorem lMake2a_2 {Q : Exit → Act → World → Prop} (s0 : ByteArray) (s1 : ByteArray) (p2 : Pay) (l2 : Fo) (s3 : Int)  : RStep (strip lMake2Ops) Q (fun i => ((lMake2aEs s0 s1 p2 l2 s3)[i]?).getD .any) (fun i => (lMake2aDs[i]?).getD (1000 + i)) (look (lMake2aEnv s0 s1 p2 l2 s3)) 63 2 := fun _ => step_rUn (g := 990) (by kernel_rfl) (Opd.dep 1 rfl rfl (by kernel_rfl)) (Opd.of_base 990 rfl) rfl
theorem lMake2a_3 {Q : Exit → Act → World → Prop} (s0 : ByteArray) (s1 : ByteArray) (p2 : Pay) (l2 : Fo) (s3 : Int)  : RStep (strip lMake2Ops) Q (fun i => ((lMake2aEs s0 s1 p2 l2 s3)[i]?).getD .any) (fun i => (lMake2aDs[i]?).getD (1000 + i)) (look (lMake2aEnv s0 s1 p2 l2 s3)) 63 3 := fun _ => step_move (by kernel_rfl) (Opd.of_base 0 rfl) rfl
theorem lMake2a_4 {Q : Exit → Act → World → Prop} (s0 : ByteArray) (s1 : ByteArray) (p2 : Pay) (l2 : Fo) (s3 : Int)  : RStep (strip lMake2Ops) Q (fun i => ((lMake2aEs s0 s1 p2 l2 s3)[i]?).getD .any) (fun i => (lMake2aDs[i]?).getD (1000 + i)) (look (lMake2aEnv s0 s1 p2 l2 s3)) 63 4 := fun _ => step_load_term (by kernel_rfl) (Opd.of_base 6 rfl) rfl
theorem lMake2a_5 {Q : Exit → Act → World → Prop} (s0 : ByteArray) (s1 : ByteArray) (p2 : Pay) (l2 : Fo) (s3 : Int)  : RStep (strip lMake2Ops) Q (fun i => ((lMake2aEs s0 s1 p2 l2 s3)[i]?).getD .any) (fun i => (lMake2aDs[i]?).getD (1000 + i)) (look (lMake2aEnv s0 s1 p2 l2 s3)) 63 5 := fun _ => step_rTy (g := 990) (by kernel_rfl) (Opd.dep 3 rfl rfl (by kernel_rfl)) (Opd.dep 4 rfl rfl (by kernel_rfl)) (Opd.of_base 990 rfl) rfl
theorem lMake2a_6 {Q : Exit → Act → World → Prop} (s0 : ByteArray) (s1 : ByteArray) (p2 : Pay) (l2 : Fo) (s3 : Int)  : RStep (strip lMake2Ops) Q (fun i => ((lMake2aEs s0 s1 p2 l2 s3)[i]?).getD .any) (fun i => (lMake2aDs[i]?).getD (1000 + i)) (look (lMake2aEnv s0 s1 p2 l2 s3)) 63 6 := fun _ => step_move (by kernel_rfl) (Opd.of_base 0 rfl) rfl
theorem lMake2a_7 {Q : Exit → Act → World → Prop} (s0 : ByteArray) (s1 : ByteArray) (p2 : Pay) (l2 : Fo) (s3 : Int)  : RStep (strip lMake2Ops) Q (fun i => ((lMake2aEs s0 s1 p2 l2 s3)[i]?).getD .any) (fun i => (lMake2aDs[i]?).getD (1000 + i)) (look (lMake2aEnv s0 s1 p2 l2 s3)) 63 7 := fun _ => step_load_term (by kernel_rfl) (Opd.of_base 6 rfl) rfl
theorem lMake2a_8 {Q : Exit → Act → World → Prop} (s0 : ByteArray) (s1 : ByteArray) (p2 : Pay) (l2 : Fo) (s3 : Int)  : RStep (strip lMake2Ops) Q (fun i => ((lMake2aEs s0 s1 p2 l2 s3)[i]?).getD .any) (fun i => (lMake2aDs[i]?).getD (1000 + i)) (look (lMake2aEnv s0 s1 p2 l2 s3)) 63 8 := fun _ => step_rDom (g := 990) (by kernel_rfl) (Opd.dep 6 rfl rfl (by kernel_rfl)) (Opd.dep 7 rfl rfl (by kernel_rfl)) (Opd.of_base 990 rfl) rfl
theorem lMake2a_9 {Q : Exit → Act → World → Prop} (s0 : ByteArray) (s1 : ByteArray) (p2 : Pay) (l2 : Fo) (s3 : Int)  : RStep (strip lMake2Ops) Q (fun i => ((lMake2aEs s0 s1 p2 l2 s3)[i]?).getD .any) (fun i => (lMake2aDs[i]?).getD (1000 + i)) (look (lMake2aEnv s0 s1 p2 l2 s3)) 63 9 := fun _ => step_move (by kernel_rfl) (Opd.of_base 0 rfl) rfl
theorem lMake2a_10 {Q : Exit → Act → World → Prop} (s0 : ByteArray) (s1 : ByteArray) (p2 : Pay) (l2 : Fo) (s3 : Int)  : RStep (strip lMake2Ops) Q (fun i => ((lMake2aEs s0 s1 p2 l2 s3)[i]?).getD .any) (fun i => (lMake2aDs[i]?).getD (1000 + i)) (look (lMake2aEnv s0 s1 p2 l2 s3)) 63 10 := fun _ => step_load_term (by kernel_rfl) (Opd.of_base 6 rfl) rfl
theorem lMake2a_11 {Q : Exit → Act → World → Prop} (s0 : ByteArray) (s1 : ByteArray) (p2 : Pay) (l2 : Fo) (s3 : Int)  : RStep (strip lMake2Ops) Q (fun i => ((lMake2aEs s0 s1 p2 l2 s3)[i]?).getD .any) (fun i => (lMake2aDs[i]?).getD (1000 + i)) (look (lMake2aEnv s0 s1 p2 l2 s3)) 63 11 := fun _ => step_rExt (g := 990) (by kernel_rfl) (Opd.dep 9 rfl rfl (by kernel_rfl)) (Opd.dep 10 rfl rfl (by kernel_rfl)) (Opd.of_base 990 rfl) rfl
theorem lMake2a_12 {Q : Exit → Act → World → Prop} (s0 : ByteArray) (s1 : ByteArray) (p2 : Pay) (l2 : Fo) (s3 : Int)  : RStep (strip lMake2Ops) Q (fun i => ((lMake2aEs s0 s1 p2 l2 s3)[i]?).getD .any) (fun i => (lMake2aDs[i]?).getD (1000 + i)) (look (lMake2aEnv s0 s1 p2 l2 s3)) 63 12 := fun _ => step_move (by kernel_rfl) (Opd.of_base 1 rfl) rfl
theorem lMake2a_13 {Q : Exit → Act → World → Prop} (s0 : ByteArray) (s1 : ByteArray) (p2 : Pay) (l2 : Fo) (s3 : Int)  : RStep (strip lMake2Ops) Q (fun i => ((lMake2aEs s0 s1 p2 l2 s3)[i]?).getD .any) (fun i => (lMake2aDs[i]?).getD (1000 + i)) (look (lMake2aEnv s0 s1 p2 l2 s3)) 63 13 := fun _ => step_move (by kernel_rfl) (Opd.of_base 0 rfl) rfl
theorem lMake2a_14 {Q : Exit → Act → World → Prop} (s0 : ByteArray) (s1 : ByteArray) (p2 : Pay) (l2 : Fo) (s3 : Int)  : RStep (strip lMake2Ops) Q (fun i => ((lMake2aEs s0 s1 p2 l2 s3)[i]?).getD .any) (fun i => (lMake2aDs[i]?).getD (1000 + i)) (look (lMake2aEnv s0 s1 p2 l2 s3)) 63 14 := fun _ => step_load_term (by kernel_rfl) (Opd.of_base 6 rfl) rfl
theorem lMake2a_15 {Q : Exit → Act → World → Prop} (s0 : ByteArray) (s1 : ByteArray) (p2 : Pay) (l2 : Fo) (s3 : Int)  : RStep (strip lMake2Ops) Q (fun i => ((lMake2aEs s0 s1 p2 l2 s3)[i]?).getD .any) (fun i => (lMake2aDs[i]?).getD (1000 + i)) (look (lMake2aEnv s0 s1 p2 l2 s3)) 63 15 := fun _ => step_rPerm (g := 990) (by kernel_rfl) (Opd.dep 12 rfl rfl (by kernel_rfl)) (Opd.dep 13 rfl rfl (by kernel_rfl)) (Opd.dep 14 rfl rfl (by kernel_rfl)) (Opd.of_base 990 rfl) rfl
theorem lMake2a_16 {Q : Exit → Act → World → Prop} (s0 : ByteArray) (s1 : ByteArray) (p2 : Pay) (l2 : Fo) (s3 : Int)  : RStep (strip lMake2Ops) Q (fun i => ((lMake2aEs s0 s1 p2 l2 s3)[i]?).getD .any) (fun i => (lMake2aDs[i]?).getD (1000 + i)) (look (lMake2aEnv s0 s1 p2 l2 s3)) 63 16 := fun _ => step_move (by kernel_rfl) (Opd.of_base 0 rfl) rfl
theorem lMake2a_17 {Q : Exit → Act → World → Prop} (s0 : ByteArray) (s1 : ByteArray) (p2 : Pay) (l2 : Fo) (s3 : Int)  : RStep (strip lMake2Ops) Q (fun i => ((lMake2aEs s0 s1 p2 l2 s3)[i]?).getD .any) (fun i => (lMake2aDs[i]?).getD (1000 + i)) (look (lMake2aEnv s0 s1 p2 l2 s3)) 63 17 := fun _ => step_rRep (g := 990) (by kernel_rfl) (Opd.dep 16 rfl rfl (by kernel_rfl)) (Opd.of_base 990 rfl) rfl
theorem lMake2a_18 {Q : Exit → Act → World → Prop} (s0 : ByteArray) (s1 : ByteArray) (p2 : Pay) (l2 : Fo) (s3 : Int)  : RStep (strip lMake2Ops) Q (fun i => ((lMake2aEs s0 s1 p2 l2 s3)[i]?).getD .any) (fun i => (lMake2aDs[i]?).getD (1000 + i)) (look (lMake2aEnv s0 s1 p2 l2 s3)) 63 18 := fun _ => step_move (by kernel_rfl) (Opd.of_base 1 rfl) rfl
theorem lMake2a_19 {Q : Exit → Act → World → Prop} (s0 : ByteArray) (s1 : ByteArray) (p2 : Pay) (l2 : Fo) (s3 : Int)  : RStep (strip lMake2Ops) Q (fun i => ((lMake2aEs s0 s1 p2 l2 s3)[i]?).getD .any) (fun i => (lMake2aDs[i]?).getD (1000 + i)) (look (lMake2aEnv s0 s1 p2 l2 s3)) 63 19 := fun _ => step_rEv (g := 990) (by kernel_rfl) (Opd.dep 18 rfl rfl (by kernel_rfl)) (Opd.of_base 990 rfl) rfl
theorem lMake2a_20 {Q : Exit → Act → World → Prop} (s0 : ByteArray) (s1 : ByteArray) (p2 : Pay) (l2 : Fo) (s3 : Int)  : RStep (strip lMake2Ops) Q (fun i => ((lMake2aEs s0 s1 p2 l2 s3)[i]?).getD .any) (fun i => (lMake2aDs[i]?).getD (1000 + i)) (look (lMake2aEnv s0 s1 p2 l2 s3)) 63 20 := fun _ => step_move (by kernel_rfl) (Opd.of_base 3 rfl) rfl
theorem lMake2a_21 {Q : Exit → Act → World → Prop} (s0 : ByteArray) (s1 : ByteArray) (p2 : Pay) (l2 : Fo) (s3 : Int)  : RStep (strip lMake2Ops) Q (fun i => ((lMake2aEs s0 s1 p2 l2 s3)[i]?).getD .any) (fun i => (lMake2aDs[i]?).getD (1000 + i)) (look (lMake2aEnv s0 s1 p2 l2 s3)) 63 21 := fun _ => step_rSyn (g := 990) (by kernel_rfl) (Opd.dep 20 rfl rfl (by kernel_rfl)) (Opd.of_base 990 rfl) rfl
theorem lMake2a_22 {Q : Exit → Act → World → Prop} (s0 : ByteArray) (s1 : ByteArray) (p2 : Pay) (l2 : Fo) (s3 : Int)  : RStep (strip lMake2Ops) Q (fun i => ((lMake2aEs s0 s1 p2 l2 s3)[i]?).getD .any) (fun i => (lMake2aDs[i]?).getD (1000 + i)) (look (lMake2aEnv s0 s1 p2 l2 s3)) 63 22 := fun _ => step_nslice9 (g := 990) (by kernel_rfl) (Opd.dep 0 rfl rfl (by kernel_rfl)) (Opd.dep 2 rfl rfl (by kernel_rfl)) (Opd.dep 5 rfl rfl (by kernel_rfl)) (Opd.dep 8 rfl rfl (by kernel_rfl)) (Opd.dep 11 rfl rfl (by kernel_rfl)) (Opd.dep 15 rfl rfl (by kernel_rfl)) (Opd.dep 17 rfl rfl (by kernel_rfl)) (Opd.dep 19 rfl rfl (by kernel_rfl)) (Opd.dep 21 rfl rfl (by kernel_rfl)) (Opd.of_base 990 rfl) rfl
theorem lMake2a_23 {Q : Exit → Act → World → Prop} (s0 : ByteArray) (s1 : ByteArray) (p2 : Pay) (l2 : Fo) (s3 : Int)  : RStep (strip lMake2Ops) Q (fun i => ((lMake2aEs s0 s1 p2 l2 s3)[i]?).getD .any) (fun i => (lMake2aDs[i]?).getD (1000 + i)) (look (lMake2aEnv s0 s1 p2 l2 s3)) 63 23 := fun _ => step_assign (by kernel_rfl) (Opd.dep 22 rfl rfl (by kernel_rfl)) rfl
theorem lMake2a_region {Q : Exit → Act → World → Prop} (s0 : ByteArray) (s1 : ByteArray) (p2 : Pay) (l2 : Fo) (s3 : Int)  {w0 : World} {a : Act} {w : World} (h : Hold 63 [(0, .val (.string s0)), (1, .val (.string s1)), (3, .val (.int .i64 s3)), (990, .sat (gP 0 none)), (6, .ptrT p2 l2), (8, .val (.bool false)), (9, .sat (nK 0 none (.node Bl.inst.1 Bl.inst.2 (.node ((Bl.un p2 l2).1) ((Bl.un p2 l2).2) (.node ((Bl.ty s0 p2 l2).1) ((Bl.ty s0 p2 l2).2) (.node ((Bl.dom s0 p2 l2).1) ((Bl.dom s0 p2 l2).2) (.node ((Bl.ext s0 p2 l2).1) ((Bl.ext s0 p2 l2).2) (.node ((Bl.perm s1 s0 p2 l2).1) ((Bl.perm s1 s0 p2 l2).2) (.node ((Bl.rep s0).1) ((Bl.rep s0).2) (.node ((Bl.ev s1).1) ((Bl.ev s1).2) (.node ((Bl.syn s3).1) ((Bl.syn s3).2) .nil)))))))))))] w0 a w)
    (hQ : ∀ a' w', Hold 63 [(990, .sat (gP 0 none)), (8, .val (.bool false)), (9, .sat (nK 0 none (.node Bl.inst.1 Bl.inst.2 (.node ((Bl.un p2 l2).1) ((Bl.un p2 l2).2) (.node ((Bl.ty s0 p2 l2).1) ((Bl.ty s0 p2 l2).2) (.node ((Bl.dom s0 p2 l2).1) ((Bl.dom s0 p2 l2).2) (.node ((Bl.ext s0 p2 l2).1) ((Bl.ext s0 p2 l2).2) (.node ((Bl.perm s1 s0 p2 l2).1) ((Bl.perm s1 s0 p2 l2).2) (.node ((Bl.rep s0).1) ((Bl.rep s0).2) (.node ((Bl.ev s1).1) ((Bl.ev s1).2) (.node ((Bl.syn s3).1) ((Bl.syn s3).2) .nil))))))))))), (10, .sat (nK 0 none (.node Bl.inst.1 Bl.inst.2 (.node ((Bl.un p2 l2).1) ((Bl.un p2 l2).2) (.node ((Bl.ty s0 p2 l2).1) ((Bl.ty s0 p2 l2).2) (.node ((Bl.dom s0 p2 l2).1) ((Bl.dom s0 p2 l2).2) (.node ((Bl.ext s0 p2 l2).1) ((Bl.ext s0 p2 l2).2) (.node ((Bl.perm s1 s0 p2 l2).1) ((Bl.perm s1 s0 p2 l2).2) (.node ((Bl.rep s0).1) ((Bl.rep s0).2) (.node ((Bl.ev s1).1) ((Bl.ev s1).2) (.node ((Bl.syn s3).1) ((Bl.syn s3).2) .nil)))))))))))] w0 a' w' → Q .normal a' w') : (Code.region 2 lMake2Ops true).wp Try.prog Q a w := by
  have hall : ∀ i, i < 0 → RStep (strip lMake2Ops) Q (fun i => ((lMake2aEs s0 s1 p2 l2 s3)[i]?).getD .any) (fun i => (lMake2aDs[i]?).getD (1000 + i)) (look (lMake2aEnv s0 s1 p2 l2 s3)) 63 i := fun i hi => absurd hi (by omega)
  have hall := below_succ hall (lMake2a_0 s0 s1 p2 l2 s3 )
  have hall := below_succ hall (lMake2a_1 s0 s1 p2 l2 s3 )
  have hall := below_succ hall (lMake2a_2 s0 s1 p2 l2 s3 )
  have hall := below_succ hall (lMake2a_3 s0 s1 p2 l2 s3 )
  have hall := below_succ hall (lMake2a_4 s0 s1 p2 l2 s3 )
  have hall := below_succ hall (lMake2a_5 s0 s1 p2 l2 s3 )
  have hall := below_succ hall (lMake2a_6 s0 s1 p2 l2 s3 )
  have hall := below_succ hall (lMake2a_7 s0 s1 p2 l2 s3 )
  have hall := below_succ hall (lMake2a_8 s0 s1 p2 l2 s3 )
  have hall := below_succ hall (lMake2a_9 s0 s1 p2 l2 s3 )
  have hall := below_succ hall (lMake2a_10 s0 s1 p2 l2 s3 )
  have hall := below_succ hall (lMake2a_11 s0 s1 p2 l2 s3 )
  have hall := below_succ hall (lMake2a_12 s0 s1 p2 l2 s3 )
  have hall := below_succ hall (lMake2a_13 s0 s1 p2 l2 s3 )
  have hall := below_succ hall (lMake2a_14 s0 s1 p2 l2 s3 )
  have hall := below_succ hall (lMake2a_15 s0 s1 p2 l2 s3 )
  have hall := below_succ hall (lMake2a_16 s0 s1 p2 l2 s3 )
  have hall := below_succ hall (lMake2a_17 s0 s1 p2 l2 s3 )
  have hall := below_succ hall (lMake2a_18 s0 s1 p2 l2 s3 )
  have hall := below_succ hall (lMake2a_19 s0 s1 p2 l2 s3 )
  have hall := below_succ hall (lMake2a_20 s0 s1 p2 l2 s3 )
  have hall := below_succ hall (lMake2a_21 s0 s1 p2 l2 s3 )
  have hall := below_succ hall (lMake2a_22 s0 s1 p2 l2 s3 )
  have hall := below_succ hall (lMake2a_23 s0 s1 p2 l2 s3 )
  refine env_then (m := 24) (n := 24) lMake2aDs (lMake2aEs s0 s1 p2 l2 s3) rfl (by kernel_rfl) (by decide) (by kernel_rfl) (of_decide_eq_true (by kernel_rfl)) (by kernel_rfl) (by kernel_rfl) (fun i_ hi_ => hall i_ hi_) h fun a w h => ?_
  clear hall
  have h := h.keep [0, 1, 3, 990, 6, 8, 9, 34, 35, 36, 37, 38, 39, 40, 41, 42, 43, 44, 45, 46, 47, 48, 49, 50, 51, 52, 53, 54, 55, 56, 10]
  show wpOps Try.prog _ Q [] a w
  exact hQ a w (h.keep [990, 8, 9, 10])
theorem lMake3a_region {Q : Exit → Act → World → Prop} (s0 : ByteArray) (s1 : ByteArray) (p2 : Pay) (l2 : Fo) (s3 : Int)  {w0 : World} {a : Act} {w : World} (h : Hold 63 [(990, .sat (gP 0 none)), (8, .val (.bool false)), (9, .sat (nK 0 none (.node Bl.inst.1 Bl.inst.2 (.node ((Bl.un p2 l2).1) ((Bl.un p2 l2).2) (.node ((Bl.ty s0 p2 l2).1) ((Bl.ty s0 p2 l2).2) (.node ((Bl.dom s0 p2 l2).1) ((Bl.dom s0 p2 l2).2) (.node ((Bl.ext s0 p2 l2).1) ((Bl.ext s0 p2 l2).2) (.node ((Bl.perm s1 s0 p2 l2).1) ((Bl.perm s1 s0 p2 l2).2) (.node ((Bl.rep s0).1) ((Bl.rep s0).2) (.node ((Bl.ev s1).1) ((Bl.ev s1).2) (.node ((Bl.syn s3).1) ((Bl.syn s3).2) .nil))))))))))), (10, .sat (nK 0 none (.node Bl.inst.1 Bl.inst.2 (.node ((Bl.un p2 l2).1) ((Bl.un p2 l2).2) (.node ((Bl.ty s0 p2 l2).1) ((Bl.ty s0 p2 l2).2) (.node ((Bl.dom s0 p2 l2).1) ((Bl.dom s0 p2 l2).2) (.node ((Bl.ext s0 p2 l2).1) ((Bl.ext s0 p2 l2).2) (.node ((Bl.perm s1 s0 p2 l2).1) ((Bl.perm s1 s0 p2 l2).2) (.node ((Bl.rep s0).1) ((Bl.rep s0).2) (.node ((Bl.ev s1).1) ((Bl.ev s1).2) (.node ((Bl.syn s3).1) ((Bl.syn s3).2) .nil)))))))))))] w0 a w)
    (hQ : ∀ a' w', Hold 63 [(990, .sat (gP 0 none)), (8, .val (.bool true))] w0 a' w' → Q .normal a' w') : (Code.region 3 lMake3Ops false).wp Try.prog Q a w := by
  refine region_seq (w0 := w) 7 (by kernel_rfl) ?_
  rw [show List.range 7 = [0, 1, 2, 3, 4, 5, 6] from rfl]
  refine env_one (i := 0) (d := 57) (k := .sat (nK 0 none (.node Bl.inst.1 Bl.inst.2 (.node ((Bl.un p2 l2).1) ((Bl.un p2 l2).2) (.node ((Bl.ty s0 p2 l2).1) ((Bl.ty s0 p2 l2).2) (.node ((Bl.dom s0 p2 l2).1) ((Bl.dom s0 p2 l2).2) (.node ((Bl.ext s0 p2 l2).1) ((Bl.ext s0 p2 l2).2) (.node ((Bl.perm s1 s0 p2 l2).1) ((Bl.perm s1 s0 p2 l2).2) (.node ((Bl.rep s0).1) ((Bl.rep s0).2) (.node ((Bl.ev s1).1) ((Bl.ev s1).2) (.node ((Bl.syn s3).1) ((Bl.syn s3).2) .nil))))))))))) (step_move (by kernel_rfl) (Opd.of_base 9 rfl) rfl) (by kernel_rfl) (by decide) h ?_
  clear h
  intro a w h
  refine env_one (i := 1) (d := 58) (k := .sat (nK 0 none (.node Bl.inst.1 Bl.inst.2 (.node ((Bl.un p2 l2).1) ((Bl.un p2 l2).2) (.node ((Bl.ty s0 p2 l2).1) ((Bl.ty s0 p2 l2).2) (.node ((Bl.dom s0 p2 l2).1) ((Bl.dom s0 p2 l2).2) (.node ((Bl.ext s0 p2 l2).1) ((Bl.ext s0 p2 l2).2) (.node ((Bl.perm s1 s0 p2 l2).1) ((Bl.perm s1 s0 p2 l2).2) (.node ((Bl.rep s0).1) ((Bl.rep s0).2) (.node ((Bl.ev s1).1) ((Bl.ev s1).2) (.node ((Bl.syn s3).1) ((Bl.syn s3).2) .nil))))))))))) (step_move (by kernel_rfl) (Opd.of_base 10 rfl) rfl) (by kernel_rfl) (by decide) h ?_
  clear h
  intro a w h
  refine env_one (i := 2) (d := 59) (k := .val (.bool true)) (step_sameAll6 (by simp [Tm.len]) (by kernel_rfl) (Opd.ofR (Opd.ofK (Opd.of_base 57 rfl))) (Opd.ofR (Opd.ofK (Opd.of_base 58 rfl))) (by rw [Tm.sameRows_refl (by simp only [Tm.allV, Bl.inst_valid, Bl.un_valid, Bl.ty_valid, Bl.dom_valid, Bl.ext_valid, Bl.perm_valid, Bl.rep_valid, Bl.ev_valid, Bl.syn_valid, Bool.and_self])]; rfl)) (by kernel_rfl) (by decide) h ?_
  clear h
  intro a w h
  refine env_one (i := 3) (d := 60) (k := .val (.bool true)) (step_move (by kernel_rfl) (Opd.of_base 59 rfl) rfl) (by kernel_rfl) (by decide) h ?_
  clear h
  intro a w h
  refine env_guard (i := 4) (d := 61) (g := 3) (dg := 60) (b := true) (k := .val (.bool true)) (step_awake (by kernel_rfl)  rfl) (by kernel_rfl) (by decide) (by kernel_rfl) (by decide) rfl h ?_
  clear h
  intro a w h
  refine env_one (i := 5) (d := 62) (k := .val (.bool true)) (step_pick_yes (y := .const (.bool false)) (by kernel_rfl) (Opd.of_base 60 rfl) (Opd.of_base 61 rfl) rfl) (by kernel_rfl) (by decide) h ?_
  clear h
  intro a w h
  refine env_one (i := 6) (d := 8) (k := .val (.bool true)) (step_assign (by kernel_rfl) (Opd.of_base 62 rfl) rfl) (by kernel_rfl) (by decide) h ?_
  clear h
  intro a w h
  exact hQ a w (h.keep [990, 8])
set_option maxHeartbeats 1000000 in
theorem lMake_any (s0 : ByteArray) (s1 : ByteArray) (p2 : Pay) (l2 : Fo) (A2 : Option Addr) (c2 : Nat) (s3 : Int) (B : Nat) (w : World) (hA2 : ArgsB w B A2 (Tm.len l2) l2) (hB : B ≤ w.heap.size)  : Calls Try.prog 3 #[Value.string s0, Value.string s1, tv p2 A2 (Tm.len l2) c2, Value.int .i64 s3] w (fun e w' => e = .returned (.bool true) ∧ Below w.heap.size w w') := by
  refine calls_of_wp Try.func3 lMake_body ?_
  obtain ⟨v0, hv0⟩ : ∃ v : Value, v = Value.string s0 := ⟨_, rfl⟩
  obtain ⟨v1, hv1⟩ : ∃ v : Value, v = Value.string s1 := ⟨_, rfl⟩
  obtain ⟨v2, hv2⟩ : ∃ v : Value, v = tv p2 A2 (Tm.len l2) c2 := ⟨_, rfl⟩
  obtain ⟨v3, hv3⟩ : ∃ v : Value, v = Value.int .i64 s3 := ⟨_, rfl⟩
  rw [← hv0, ← hv1, ← hv2, ← hv3]
  have hk0 : (Kd.val (.string s0)).R v0 w := hv0
  have hk1 : (Kd.val (.string s1)).R v1 w := hv1
  have hk2 : (Kd.term p2 l2).R v2 w := by rw [hv2]; exact ⟨A2, c2, rfl, hA2.up hB⟩
  have hk3 : (Kd.val (.int .i64 s3)).R v3 w := hv3
  have hsN : (#[v0, v1, v2, v3] ++ Array.replicate (Try.f3.ntmps - #[v0, v1, v2, v3].size) undef : Array Value).size = 63 := by kernel_rfl
  have gs0 : (#[v0, v1, v2, v3] ++ Array.replicate (Try.f3.ntmps - #[v0, v1, v2, v3].size) undef : Array Value).getD 0 undef = v0 := by kernel_rfl
  have gs1 : (#[v0, v1, v2, v3] ++ Array.replicate (Try.f3.ntmps - #[v0, v1, v2, v3].size) undef : Array Value).getD 1 undef = v1 := by kernel_rfl
  have gs2 : (#[v0, v1, v2, v3] ++ Array.replicate (Try.f3.ntmps - #[v0, v1, v2, v3].size) undef : Array Value).getD 2 undef = v2 := by kernel_rfl
  have gs3 : (#[v0, v1, v2, v3] ++ Array.replicate (Try.f3.ntmps - #[v0, v1, v2, v3].size) undef : Array Value).getD 3 undef = v3 := by kernel_rfl
  generalize (#[v0, v1, v2, v3] ++ Array.replicate (Try.f3.ntmps - #[v0, v1, v2, v3].size) undef : Array Value) = tm at hsN gs0 gs1 gs2 gs3 ⊢
  obtain ⟨a, ha0⟩ : ∃ a : Act, a = ⟨tm, []⟩ := ⟨_, rfl⟩
  have h : Hold 63 [(0, .val (.string s0)), (1, .val (.string s1)), (2, .term p2 l2), (3, .val (.int .i64 s3)), (990, .sat (gP 0 none))] w ⟨tm, []⟩ w := ⟨hsN, rfl, Below.refl _ _, (slots_cons 0 (by rw [gs0]; exact hk0) (slots_cons 1 (by rw [gs1]; exact hk1) (slots_cons 2 (by rw [gs2]; exact hk2) (slots_cons 3 (by rw [gs3]; exact hk3) (slots_cons 990 (k0 := .sat (gP 0 none)) ⟨Nat.zero_le _, fun r e => by cases e⟩ slots_nil)))))⟩
  refine wp_seq ?_
  refine lMake0a_region s0 s1 p2 l2 s3  h ?_
  intro a w1 h
  show Code.wp _ _ _ a w1
  refine wp_seq ?_
  refine lMake1a_region s0 s1 p2 l2 s3  h ?_
  intro a w1 h
  show Code.wp _ _ _ a w1
  refine wp_seq ?_
  refine lMake2a_region s0 s1 p2 l2 s3  h ?_
  intro a w1 h
  show Code.wp _ _ _ a w1
  refine wp_seq ?_
  refine lMake3a_region s0 s1 p2 l2 s3  h ?_
  intro a w1 h
  show Code.wp _ _ _ a w1
  refine wp_ret ?_
  (try simp only [then_ret, block_ret])
  exact law_out rfl (h.get 8 rfl) h.defers ⟨rfl, h.world⟩
end Go.Proofs.Ytapcnehpechkpaa
