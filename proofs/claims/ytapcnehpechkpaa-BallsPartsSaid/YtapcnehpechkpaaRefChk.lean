/-
  The reference's checks are the package's.
-/
import Derived.Test.YtapcnehpechkpaaRefMk
import Derived.Test.YtapcnehpechkpaaRef6
namespace Go.Proofs.Ytapcnehpechkpaa
set_option linter.unusedVariables false
set_option linter.unusedSimpArgs false
set_option maxRecDepth 100000
open Go.RowKit
noncomputable def rAtom0Ops : Array Oper := ((Try.f36.body).bind (findReg 0)).getD #[]
noncomputable def rAtom1Ops : Array Oper := ((Try.f36.body).bind (findReg 1)).getD #[]
noncomputable def rAtom2Ops : Array Oper := ((Try.f36.body).bind (findReg 2)).getD #[]
noncomputable def rAtom3Ops : Array Oper := ((Try.f36.body).bind (findReg 3)).getD #[]
noncomputable def rAtom4Ops : Array Oper := ((Try.f36.body).bind (findReg 4)).getD #[]
noncomputable def rAtom5Ops : Array Oper := ((Try.f36.body).bind (findReg 5)).getD #[]
noncomputable def rAtom6Ops : Array Oper := ((Try.f36.body).bind (findReg 6)).getD #[]
noncomputable def rAtom7Ops : Array Oper := ((Try.f36.body).bind (findReg 7)).getD #[]
theorem rAtom_body : Try.f36.body = some (.seq (.region 0 rAtom0Ops false) (.seq (.seq (.region 1 rAtom1Ops false) (.cond (.tmp 7) (.seq (.region 2 rAtom2Ops false) .ret) .skip)) (.seq (.seq (.region 3 rAtom3Ops false) (.cond (.tmp 11) (.seq (.region 4 rAtom4Ops false) .ret) .skip)) (.seq (.seq (.region 5 rAtom5Ops false) (.cond (.tmp 15) (.seq (.region 6 rAtom6Ops false) .ret) .skip)) (.seq (.region 7 rAtom7Ops false) .ret))))) := by kernel_rfl
theorem rAtom0a_region {Q : Exit → Act → World → Prop} (p0 : Pay) (l0 : Fo) (nb : Nat)  {w0 : World} {a : Act} {w : World} (hn : nb ≤ w0.heap.size) (h : Hold 21 [(0, .term p0 l0)] w0 a w)
    (hQ : ∀ r a' w', w0.heap.size ≤ r → Hold 21 [(1, .sat (nP 0 (some r) p0 l0)), (2, .val (.string ⟨#[]⟩)), (3, .sat (rC nb r zp .nil)), (990, .sat (gP nb (some r))), (4, .val (.bool false))] w0 a' w' → Q .normal a' w') : (Code.region 0 rAtom0Ops false).wp Try.prog Q a w := by
  refine region_seq (w0 := w) 4 (by kernel_rfl) ?_
  rw [show List.range 4 = [0, 1, 2, 3] from rfl]
  refine env_one (i := 0) (d := 1) (k := .ptrT p0 l0) (step_box (by kernel_rfl) (Opd.of_base 0 rfl) rfl) (by kernel_rfl) (by decide) h ?_
  clear h
  intro a w h
  refine env_one (i := 1) (d := 2) (k := .val (.string ⟨#[]⟩)) (step_assign (by kernel_rfl) (Opd.const _) rfl) (by kernel_rfl) (by decide) h ?_
  clear h
  intro a w h
  refine env_res (i := 2) (d := 3) (n := nb) (fun r => [(0, .sat (nT 0 (some r) p0 l0)), (1, .sat (nP 0 (some r) p0 l0)), (2, .val (.string ⟨#[]⟩))]) (by kernel_rfl) (by decide) (by decide) hn (fun r => (goes_cons 0 rfl (turns_term _ _ _) (goes_cons 1 rfl (turns_ptr _ _ _) (goes_cons 2 rfl (turns_val _ _) (goes_nil _ _))))) h ?_
  clear h
  intro r a w hr h
  refine env_one (i := 3) (d := 4) (k := .val (.bool false)) (step_assign (by kernel_rfl) (Opd.const _) rfl) (by kernel_rfl) (by decide) h ?_
  clear h
  intro a w h
  exact hQ r a w hr (h.keep [1, 2, 3, 990, 4])
theorem rAtom1a_region {Q : Exit → Act → World → Prop} (p0 : Pay) (l0 : Fo) (nb r : Nat)  {w0 : World} {a : Act} {w : World} (hr : w0.heap.size ≤ r) (h : Hold 21 [(1, .sat (nP 0 (some r) p0 l0)), (2, .val (.string ⟨#[]⟩)), (3, .sat (rC nb r zp .nil)), (990, .sat (gP nb (some r))), (4, .val (.bool false))] w0 a w)
    (hQ : ∀ a' w', Hold 21 [(1, .sat (nP 0 (some r) p0 l0)), (2, .val (.string ⟨#[]⟩)), (3, .sat (rC nb r zp .nil)), (990, .sat (gP nb (some r))), (4, .val (.bool false)), (7, .val (.bool (!(Tm.validB p0 l0))))] w0 a' w' → Q .normal a' w') : (Code.region 1 rAtom1Ops false).wp Try.prog Q a w := by
  refine region_seq (w0 := w) 3 (by kernel_rfl) ?_
  rw [show List.range 3 = [0, 1, 2] from rfl]
  refine env_one (i := 0) (d := 5) (k := .sat (nT 0 (some r) p0 l0)) (step_nload (by kernel_rfl) (Opd.of_base 1 rfl) rfl) (by kernel_rfl) (by decide) h ?_
  clear h
  intro a w h
  refine env_one (i := 1) (d := 6) (k := .val (.bool (Tm.validB p0 l0))) (step_rvalid6 (by kernel_rfl) (Opd.ofT (Opd.of_base 5 rfl)) rfl) (by kernel_rfl) (by decide) h ?_
  clear h
  intro a w h
  refine env_one (i := 2) (d := 7) (k := .val (.bool (!(Tm.validB p0 l0)))) (step_not (by kernel_rfl) (Opd.of_base 6 rfl) rfl) (by kernel_rfl) (by decide) h ?_
  clear h
  intro a w h
  exact hQ a w (h.keep [1, 2, 3, 990, 4, 7])
theorem rAtom3a_region {Q : Exit → Act → World → Prop} (p0 : Pay) (l0 : Fo) (nb r : Nat) (h1 : p0.1 = 0) {w0 : World} {a : Act} {w : World} (hr : w0.heap.size ≤ r) (h : Hold 21 [(1, .sat (nP 0 (some r) p0 l0)), (2, .val (.string ⟨#[]⟩)), (3, .sat (rC nb r zp .nil)), (990, .sat (gP nb (some r))), (4, .val (.bool false))] w0 a w)
    (hQ : ∀ a' w', Hold 21 [(1, .sat (nP 0 (some r) p0 l0)), (2, .val (.string ⟨#[]⟩)), (3, .sat (rC nb r zp .nil)), (990, .sat (gP nb (some r))), (4, .val (.bool false)), (11, .val (.bool true))] w0 a' w' → Q .normal a' w') : (Code.region 3 rAtom3Ops false).wp Try.prog Q a w := by
  refine region_seq (w0 := w) 3 (by kernel_rfl) ?_
  rw [show List.range 3 = [0, 1, 2] from rfl]
  refine env_one (i := 0) (d := 9) (k := .ptrI (p0.1)) (step_field0 (by kernel_rfl) (Opd.ofP (Opd.of_base 1 rfl)) rfl) (by kernel_rfl) (by decide) h ?_
  clear h
  intro a w h
  refine env_one (i := 1) (d := 10) (k := .val (.int .i64 (p0.1))) (step_load_int3 (by kernel_rfl) (Opd.of_base 9 rfl) rfl) (by kernel_rfl) (by decide) h ?_
  clear h
  intro a w h
  refine env_one (i := 2) (d := 11) (k := .val (.bool true)) (step_eqb_int (m := (p0.1)) (n := 0) (by kernel_rfl) (Opd.of_base 10 rfl) (Opd.const _) (by rw [h1]; rfl) rfl) (by kernel_rfl) (by decide) h ?_
  clear h
  intro a w h
  exact hQ a w (h.keep [1, 2, 3, 990, 4, 11])
theorem rAtom4a_region {Q : Exit → Act → World → Prop} (p0 : Pay) (l0 : Fo) (nb r : Nat)  {w0 : World} {a : Act} {w : World} (hr : w0.heap.size ≤ r) (h : Hold 21 [(1, .sat (nP 0 (some r) p0 l0)), (2, .val (.string ⟨#[]⟩)), (3, .sat (rC nb r zp .nil)), (990, .sat (gP nb (some r))), (4, .val (.bool false))] w0 a w)
    (hQ : ∀ a' w', Hold 21 [(1, .sat (nP 0 (some r) p0 l0)), (2, .val (.string ⟨#[]⟩)), (990, .sat (gP nb (some r))), (4, .val (.bool false)), (3, .sat (rC nb r Bl.inst.1 Bl.inst.2))] w0 a' w' → Q .normal a' w') : (Code.region 4 rAtom4Ops false).wp Try.prog Q a w := by
  refine region_seq (w0 := w) 4 (by kernel_rfl) ?_
  rw [show List.range 4 = [0, 1, 2, 3] from rfl]
  refine env_one (i := 0) (d := 12) (k := .sat (nT nb (some r) Bl.inst.1 Bl.inst.2)) (step_rInst (g := 990) (by kernel_rfl)  (Opd.of_base 990 rfl) rfl) (by kernel_rfl) (by decide) h ?_
  clear h
  intro a w h
  refine env_one (i := 1) (d := 2) (k := .val (.string ⟨#[]⟩)) (step_assign (by kernel_rfl) (Opd.const _) rfl) (by kernel_rfl) (by decide) h ?_
  clear h
  intro a w h
  refine env_store (i := 2) (x := 3) (y := 12) (r := r) [(1, .sat (nP 0 (some r) p0 l0)), (2, .val (.string ⟨#[]⟩)), (990, .sat (gP nb (some r))), (4, .val (.bool false)), (12, .sat (nT nb (some r) Bl.inst.1 Bl.inst.2))] (by kernel_rfl) rfl rfl hr (stays_cons 1 rfl (away_nP _ _ _ _) (stays_cons 2 rfl (away_val _ _) (stays_cons 990 rfl (away_gP _ _ _) (stays_cons 4 rfl (away_val _ _) (stays_cons 12 rfl (away_nT _ _ _ _) (stays_nil _ _)))))) h ?_
  clear h
  intro a w h
  refine env_one (i := 3) (d := 4) (k := .val (.bool false)) (step_assign (by kernel_rfl) (Opd.const _) rfl) (by kernel_rfl) (by decide) h ?_
  clear h
  intro a w h
  exact hQ a w (h.keep [1, 2, 990, 4, 3])
theorem rAtom3b_region {Q : Exit → Act → World → Prop} (p0 : Pay) (l0 : Fo) (nb r : Nat) (h1 : ¬ p0.1 = 0) {w0 : World} {a : Act} {w : World} (hr : w0.heap.size ≤ r) (h : Hold 21 [(1, .sat (nP 0 (some r) p0 l0)), (2, .val (.string ⟨#[]⟩)), (3, .sat (rC nb r zp .nil)), (990, .sat (gP nb (some r))), (4, .val (.bool false))] w0 a w)
    (hQ : ∀ a' w', Hold 21 [(1, .sat (nP 0 (some r) p0 l0)), (2, .val (.string ⟨#[]⟩)), (3, .sat (rC nb r zp .nil)), (990, .sat (gP nb (some r))), (4, .val (.bool false)), (11, .val (.bool false))] w0 a' w' → Q .normal a' w') : (Code.region 3 rAtom3Ops false).wp Try.prog Q a w := by
  refine region_seq (w0 := w) 3 (by kernel_rfl) ?_
  rw [show List.range 3 = [0, 1, 2] from rfl]
  refine env_one (i := 0) (d := 9) (k := .ptrI (p0.1)) (step_field0 (by kernel_rfl) (Opd.ofP (Opd.of_base 1 rfl)) rfl) (by kernel_rfl) (by decide) h ?_
  clear h
  intro a w h
  refine env_one (i := 1) (d := 10) (k := .val (.int .i64 (p0.1))) (step_load_int3 (by kernel_rfl) (Opd.of_base 9 rfl) rfl) (by kernel_rfl) (by decide) h ?_
  clear h
  intro a w h
  refine env_one (i := 2) (d := 11) (k := .val (.bool false)) (step_eqb_int (m := (p0.1)) (n := 0) (by kernel_rfl) (Opd.of_base 10 rfl) (Opd.const _) (by simpa using h1) rfl) (by kernel_rfl) (by decide) h ?_
  clear h
  intro a w h
  exact hQ a w (h.keep [1, 2, 3, 990, 4, 11])
theorem rAtom5a_region {Q : Exit → Act → World → Prop} (p0 : Pay) (l0 : Fo) (nb r : Nat) (h2 : p0.1 = 2) {w0 : World} {a : Act} {w : World} (hr : w0.heap.size ≤ r) (h : Hold 21 [(1, .sat (nP 0 (some r) p0 l0)), (2, .val (.string ⟨#[]⟩)), (3, .sat (rC nb r zp .nil)), (990, .sat (gP nb (some r))), (4, .val (.bool false))] w0 a w)
    (hQ : ∀ a' w', Hold 21 [(1, .sat (nP 0 (some r) p0 l0)), (2, .val (.string ⟨#[]⟩)), (3, .sat (rC nb r zp .nil)), (990, .sat (gP nb (some r))), (4, .val (.bool false)), (15, .val (.bool false))] w0 a' w' → Q .normal a' w') : (Code.region 5 rAtom5Ops false).wp Try.prog Q a w := by
  refine region_seq (w0 := w) 3 (by kernel_rfl) ?_
  rw [show List.range 3 = [0, 1, 2] from rfl]
  refine env_one (i := 0) (d := 13) (k := .ptrI (p0.1)) (step_field0 (by kernel_rfl) (Opd.ofP (Opd.of_base 1 rfl)) rfl) (by kernel_rfl) (by decide) h ?_
  clear h
  intro a w h
  refine env_one (i := 1) (d := 14) (k := .val (.int .i64 (p0.1))) (step_load_int3 (by kernel_rfl) (Opd.of_base 13 rfl) rfl) (by kernel_rfl) (by decide) h ?_
  clear h
  intro a w h
  refine env_one (i := 2) (d := 15) (k := .val (.bool false)) (step_ne_int (m := (p0.1)) (n := 2) (by kernel_rfl) (Opd.of_base 14 rfl) (Opd.const _) (by rw [h2]; rfl) rfl) (by kernel_rfl) (by decide) h ?_
  clear h
  intro a w h
  exact hQ a w (h.keep [1, 2, 3, 990, 4, 15])
theorem rAtom7a_region {Q : Exit → Act → World → Prop} (p0 : Pay) (l0 : Fo) (nb r : Nat)  {w0 : World} {a : Act} {w : World} (hr : w0.heap.size ≤ r) (h : Hold 21 [(1, .sat (nP 0 (some r) p0 l0)), (2, .val (.string ⟨#[]⟩)), (3, .sat (rC nb r zp .nil)), (990, .sat (gP nb (some r))), (4, .val (.bool false))] w0 a w)
    (hQ : ∀ a' w', Hold 21 [(2, .val (.string (p0.2.2))), (990, .sat (gP nb (some r))), (4, .val (.bool true)), (3, .sat (rC nb r zp .nil))] w0 a' w' → Q .normal a' w') : (Code.region 7 rAtom7Ops false).wp Try.prog Q a w := by
  refine region_seq (w0 := w) 6 (by kernel_rfl) ?_
  rw [show List.range 6 = [0, 1, 2, 3, 4, 5] from rfl]
  refine env_one (i := 0) (d := 18) (k := .ptrS (p0.2.2)) (step_field2 (by kernel_rfl) (Opd.ofP (Opd.of_base 1 rfl)) rfl) (by kernel_rfl) (by decide) h ?_
  clear h
  intro a w h
  refine env_one (i := 1) (d := 19) (k := .val (.string (p0.2.2))) (step_load_string (by kernel_rfl) (Opd.of_base 18 rfl) rfl) (by kernel_rfl) (by decide) h ?_
  clear h
  intro a w h
  refine env_one (i := 2) (d := 20) (k := .sat (nT nb (some r) zp .nil)) (step_nzero (by kernel_rfl) rfl) (by kernel_rfl) (by decide) h ?_
  clear h
  intro a w h
  refine env_one (i := 3) (d := 2) (k := .val (.string (p0.2.2))) (step_assign (by kernel_rfl) (Opd.of_base 19 rfl) rfl) (by kernel_rfl) (by decide) h ?_
  clear h
  intro a w h
  refine env_store (i := 4) (x := 3) (y := 20) (r := r) [(1, .sat (nP 0 (some r) p0 l0)), (2, .val (.string (p0.2.2))), (990, .sat (gP nb (some r))), (4, .val (.bool false)), (19, .val (.string (p0.2.2))), (20, .sat (nT nb (some r) zp .nil))] (by kernel_rfl) rfl rfl hr (stays_cons 1 rfl (away_nP _ _ _ _) (stays_cons 2 rfl (away_val _ _) (stays_cons 990 rfl (away_gP _ _ _) (stays_cons 4 rfl (away_val _ _) (stays_cons 19 rfl (away_val _ _) (stays_cons 20 rfl (away_nT _ _ _ _) (stays_nil _ _))))))) h ?_
  clear h
  intro a w h
  refine env_one (i := 5) (d := 4) (k := .val (.bool true)) (step_assign (by kernel_rfl) (Opd.const _) rfl) (by kernel_rfl) (by decide) h ?_
  clear h
  intro a w h
  exact hQ a w (h.keep [2, 990, 4, 3])
theorem rAtom5b_region {Q : Exit → Act → World → Prop} (p0 : Pay) (l0 : Fo) (nb r : Nat) (h2 : ¬ p0.1 = 2) {w0 : World} {a : Act} {w : World} (hr : w0.heap.size ≤ r) (h : Hold 21 [(1, .sat (nP 0 (some r) p0 l0)), (2, .val (.string ⟨#[]⟩)), (3, .sat (rC nb r zp .nil)), (990, .sat (gP nb (some r))), (4, .val (.bool false))] w0 a w)
    (hQ : ∀ a' w', Hold 21 [(1, .sat (nP 0 (some r) p0 l0)), (2, .val (.string ⟨#[]⟩)), (3, .sat (rC nb r zp .nil)), (990, .sat (gP nb (some r))), (4, .val (.bool false)), (15, .val (.bool true))] w0 a' w' → Q .normal a' w') : (Code.region 5 rAtom5Ops false).wp Try.prog Q a w := by
  refine region_seq (w0 := w) 3 (by kernel_rfl) ?_
  rw [show List.range 3 = [0, 1, 2] from rfl]
  refine env_one (i := 0) (d := 13) (k := .ptrI (p0.1)) (step_field0 (by kernel_rfl) (Opd.ofP (Opd.of_base 1 rfl)) rfl) (by kernel_rfl) (by decide) h ?_
  clear h
  intro a w h
  refine env_one (i := 1) (d := 14) (k := .val (.int .i64 (p0.1))) (step_load_int3 (by kernel_rfl) (Opd.of_base 13 rfl) rfl) (by kernel_rfl) (by decide) h ?_
  clear h
  intro a w h
  refine env_one (i := 2) (d := 15) (k := .val (.bool true)) (step_ne_int (m := (p0.1)) (n := 2) (by kernel_rfl) (Opd.of_base 14 rfl) (Opd.const _) (by simpa using h2) rfl) (by kernel_rfl) (by decide) h ?_
  clear h
  intro a w h
  exact hQ a w (h.keep [1, 2, 3, 990, 4, 15])
theorem rAtom6a_region {Q : Exit → Act → World → Prop} (p0 : Pay) (l0 : Fo) (nb r : Nat)  {w0 : World} {a : Act} {w : World} (hr : w0.heap.size ≤ r) (h : Hold 21 [(1, .sat (nP 0 (some r) p0 l0)), (2, .val (.string ⟨#[]⟩)), (3, .sat (rC nb r zp .nil)), (990, .sat (gP nb (some r))), (4, .val (.bool false))] w0 a w)
    (hQ : ∀ a' w', Hold 21 [(1, .sat (nP 0 (some r) p0 l0)), (2, .val (.string ⟨#[]⟩)), (990, .sat (gP nb (some r))), (4, .val (.bool false)), (3, .sat (rC nb r ((Bl.ty (⟨#[97, 116, 111, 109]⟩) p0 l0).1) ((Bl.ty (⟨#[97, 116, 111, 109]⟩) p0 l0).2)))] w0 a' w' → Q .normal a' w') : (Code.region 6 rAtom6Ops false).wp Try.prog Q a w := by
  refine region_seq (w0 := w) 5 (by kernel_rfl) ?_
  rw [show List.range 5 = [0, 1, 2, 3, 4] from rfl]
  refine env_one (i := 0) (d := 16) (k := .sat (nT 0 (some r) p0 l0)) (step_nload (by kernel_rfl) (Opd.of_base 1 rfl) rfl) (by kernel_rfl) (by decide) h ?_
  clear h
  intro a w h
  refine env_one (i := 1) (d := 17) (k := .sat (nT nb (some r) ((Bl.ty (⟨#[97, 116, 111, 109]⟩) p0 l0).1) ((Bl.ty (⟨#[97, 116, 111, 109]⟩) p0 l0).2))) (step_rTy (g := 990) (by kernel_rfl) (Opd.const _) (Opd.ofT (Opd.of_base 16 rfl)) (Opd.of_base 990 rfl) rfl) (by kernel_rfl) (by decide) h ?_
  clear h
  intro a w h
  refine env_one (i := 2) (d := 2) (k := .val (.string ⟨#[]⟩)) (step_assign (by kernel_rfl) (Opd.const _) rfl) (by kernel_rfl) (by decide) h ?_
  clear h
  intro a w h
  refine env_store (i := 3) (x := 3) (y := 17) (r := r) [(1, .sat (nP 0 (some r) p0 l0)), (2, .val (.string ⟨#[]⟩)), (990, .sat (gP nb (some r))), (4, .val (.bool false)), (16, .sat (nT 0 (some r) p0 l0)), (17, .sat (nT nb (some r) ((Bl.ty (⟨#[97, 116, 111, 109]⟩) p0 l0).1) ((Bl.ty (⟨#[97, 116, 111, 109]⟩) p0 l0).2)))] (by kernel_rfl) rfl rfl hr (stays_cons 1 rfl (away_nP _ _ _ _) (stays_cons 2 rfl (away_val _ _) (stays_cons 990 rfl (away_gP _ _ _) (stays_cons 4 rfl (away_val _ _) (stays_cons 16 rfl (away_nT _ _ _ _) (stays_cons 17 rfl (away_nT _ _ _ _) (stays_nil _ _))))))) h ?_
  clear h
  intro a w h
  refine env_one (i := 4) (d := 4) (k := .val (.bool false)) (step_assign (by kernel_rfl) (Opd.const _) rfl) (by kernel_rfl) (by decide) h ?_
  clear h
  intro a w h
  exact hQ a w (h.keep [1, 2, 990, 4, 3])
theorem rAtom2a_region {Q : Exit → Act → World → Prop} (p0 : Pay) (l0 : Fo) (nb r : Nat)  {w0 : World} {a : Act} {w : World} (hr : w0.heap.size ≤ r) (h : Hold 21 [(1, .sat (nP 0 (some r) p0 l0)), (2, .val (.string ⟨#[]⟩)), (3, .sat (rC nb r zp .nil)), (990, .sat (gP nb (some r))), (4, .val (.bool false))] w0 a w)
    (hQ : ∀ a' w', Hold 21 [(1, .sat (nP 0 (some r) p0 l0)), (2, .val (.string ⟨#[]⟩)), (990, .sat (gP nb (some r))), (4, .val (.bool false)), (3, .sat (rC nb r zp .nil))] w0 a' w' → Q .normal a' w') : (Code.region 2 rAtom2Ops false).wp Try.prog Q a w := by
  refine region_seq (w0 := w) 4 (by kernel_rfl) ?_
  rw [show List.range 4 = [0, 1, 2, 3] from rfl]
  refine env_one (i := 0) (d := 8) (k := .sat (nT nb (some r) zp .nil)) (step_nzero (by kernel_rfl) rfl) (by kernel_rfl) (by decide) h ?_
  clear h
  intro a w h
  refine env_one (i := 1) (d := 2) (k := .val (.string ⟨#[]⟩)) (step_assign (by kernel_rfl) (Opd.const _) rfl) (by kernel_rfl) (by decide) h ?_
  clear h
  intro a w h
  refine env_store (i := 2) (x := 3) (y := 8) (r := r) [(1, .sat (nP 0 (some r) p0 l0)), (2, .val (.string ⟨#[]⟩)), (990, .sat (gP nb (some r))), (4, .val (.bool false)), (8, .sat (nT nb (some r) zp .nil))] (by kernel_rfl) rfl rfl hr (stays_cons 1 rfl (away_nP _ _ _ _) (stays_cons 2 rfl (away_val _ _) (stays_cons 990 rfl (away_gP _ _ _) (stays_cons 4 rfl (away_val _ _) (stays_cons 8 rfl (away_nT _ _ _ _) (stays_nil _ _)))))) h ?_
  clear h
  intro a w h
  refine env_one (i := 3) (d := 4) (k := .val (.bool false)) (step_assign (by kernel_rfl) (Opd.const _) rfl) (by kernel_rfl) (by decide) h ?_
  clear h
  intro a w h
  exact hQ a w (h.keep [1, 2, 990, 4, 3])
set_option maxHeartbeats 1000000 in
theorem rAtom_any (p0 : Pay) (l0 : Fo) (A0 : Option Addr) (c0 : Nat) (B : Nat) (w : World) (hA0 : ArgsB w B A0 (Tm.len l0) l0) (hB : B ≤ w.heap.size)  : Calls Try.prog 36 #[tv p0 A0 (Tm.len l0) c0] w (MkXB w.heap.size (.string (Bl.atom p0 l0).1) ((Bl.atom p0 l0).2.1).1 ((Bl.atom p0 l0).2.1).2 ((Bl.atom p0 l0).2.2) w) := by
  refine calls_of_wp Try.func36 rAtom_body ?_
  obtain ⟨v0, hv0⟩ : ∃ v : Value, v = tv p0 A0 (Tm.len l0) c0 := ⟨_, rfl⟩
  rw [← hv0]
  have hk0 : (Kd.term p0 l0).R v0 w := by rw [hv0]; exact ⟨A0, c0, rfl, hA0.up hB⟩
  have hsN : (#[v0] ++ Array.replicate (Try.f36.ntmps - #[v0].size) undef : Array Value).size = 21 := by kernel_rfl
  have gs0 : (#[v0] ++ Array.replicate (Try.f36.ntmps - #[v0].size) undef : Array Value).getD 0 undef = v0 := by kernel_rfl
  generalize (#[v0] ++ Array.replicate (Try.f36.ntmps - #[v0].size) undef : Array Value) = tm at hsN gs0 ⊢
  obtain ⟨a, ha0⟩ : ∃ a : Act, a = ⟨tm, []⟩ := ⟨_, rfl⟩
  have h : Hold 21 [(0, .term p0 l0)] w ⟨tm, []⟩ w := ⟨hsN, rfl, Below.refl _ _, (slots_cons 0 (by rw [gs0]; exact hk0) slots_nil)⟩
  obtain ⟨nb, hnb⟩ : ∃ nb, nb = w.heap.size := ⟨_, rfl⟩
  have hn : nb ≤ w.heap.size := by omega
  refine wp_seq ?_
  refine rAtom0a_region p0 l0 nb  hn h ?_
  intro r a w1 hr h
  show Code.wp _ _ _ a w1
  refine wp_seq ?_
  refine wp_seq ?_
  refine rAtom1a_region p0 l0 nb r  hr h ?_
  intro a w1 h
  rcases Bool.eq_false_or_eq_true (Tm.validB p0 l0) with hv | hv
  · rw [hv] at h
    (try simp only [Bool.not_true, Bool.not_false] at h)
    show Code.wp _ _ _ a w1
    refine env_cond (b := false) rfl h ?_
    refine wp_skip ?_
    have h := h.keep [1, 2, 3, 990, 4]
    show Code.wp _ _ _ a w1
    refine wp_seq ?_
    refine wp_seq ?_
    by_cases h1 : p0.1 = 0
    · refine rAtom3a_region p0 l0 nb r h1 hr h ?_
      intro a w1 h
      show Code.wp _ _ _ a w1
      refine env_cond (b := true) rfl h ?_
      have h := h.keep [1, 2, 3, 990, 4]
      show Code.wp _ _ _ a w1
      refine wp_seq ?_
      refine rAtom4a_region p0 l0 nb r  hr h ?_
      intro a w1 h
      show Code.wp _ _ _ a w1
      have ev : Bl.atom p0 l0 = (⟨#[]⟩, ((Bl.inst.1, Bl.inst.2), false)) := by simp [Bl.atom, Bl.check, hv, h1]
      rw [ev]
      refine wp_ret ?_
      (try simp only [then_ret, block_ret])
      exact law_xcb rfl (h.get 2 rfl) (h.get 4 rfl) (h.get 3 rfl) h.defers fun A c ha => ⟨A, c, rfl, ha.mono fun b hb => ⟨by have := hb.1; omega, hb.2.1⟩, h.world⟩
    · refine rAtom3b_region p0 l0 nb r h1 hr h ?_
      intro a w1 h
      show Code.wp _ _ _ a w1
      refine env_cond (b := false) rfl h ?_
      refine wp_skip ?_
      have h := h.keep [1, 2, 3, 990, 4]
      show Code.wp _ _ _ a w1
      refine wp_seq ?_
      refine wp_seq ?_
      by_cases h2 : p0.1 = 2
      · have h2b : (p0.1 == 2) = true := by rw [h2]; rfl
        refine rAtom5a_region p0 l0 nb r h2 hr h ?_
        intro a w1 h
        show Code.wp _ _ _ a w1
        refine env_cond (b := false) rfl h ?_
        refine wp_skip ?_
        have h := h.keep [1, 2, 3, 990, 4]
        show Code.wp _ _ _ a w1
        refine wp_seq ?_
        refine rAtom7a_region p0 l0 nb r  hr h ?_
        intro a w1 h
        show Code.wp _ _ _ a w1
        have ev : Bl.atom p0 l0 = ((p0.2.2), ((zp, .nil), true)) := by simp [Bl.atom, Bl.check, hv, h1, h2b]
        rw [ev]
        refine wp_ret ?_
        (try simp only [then_ret, block_ret])
        exact law_xcb rfl (h.get 2 rfl) (h.get 4 rfl) (h.get 3 rfl) h.defers fun A c ha => ⟨A, c, rfl, ha.mono fun b hb => ⟨by have := hb.1; omega, hb.2.1⟩, h.world⟩
      · have h2b : (p0.1 == 2) = false := by simpa using h2
        refine rAtom5b_region p0 l0 nb r h2 hr h ?_
        intro a w1 h
        show Code.wp _ _ _ a w1
        refine env_cond (b := true) rfl h ?_
        have h := h.keep [1, 2, 3, 990, 4]
        show Code.wp _ _ _ a w1
        refine wp_seq ?_
        refine rAtom6a_region p0 l0 nb r  hr h ?_
        intro a w1 h
        show Code.wp _ _ _ a w1
        have ev : Bl.atom p0 l0 = (⟨#[]⟩, (((Bl.ty (⟨#[97, 116, 111, 109]⟩) p0 l0).1, (Bl.ty (⟨#[97, 116, 111, 109]⟩) p0 l0).2), false)) := by simp [Bl.atom, Bl.check, hv, h1, h2b]
        rw [ev]
        refine wp_ret ?_
        (try simp only [then_ret, block_ret])
        exact law_xcb rfl (h.get 2 rfl) (h.get 4 rfl) (h.get 3 rfl) h.defers fun A c ha => ⟨A, c, rfl, ha.mono fun b hb => ⟨by have := hb.1; omega, hb.2.1⟩, h.world⟩
  · rw [hv] at h
    (try simp only [Bool.not_true, Bool.not_false] at h)
    show Code.wp _ _ _ a w1
    refine env_cond (b := true) rfl h ?_
    have h := h.keep [1, 2, 3, 990, 4]
    show Code.wp _ _ _ a w1
    refine wp_seq ?_
    refine rAtom2a_region p0 l0 nb r  hr h ?_
    intro a w1 h
    show Code.wp _ _ _ a w1
    have ev : Bl.atom p0 l0 = (⟨#[]⟩, ((zp, .nil), false)) := by simp [Bl.atom, Bl.check, hv]
    rw [ev]
    refine wp_ret ?_
    (try simp only [then_ret, block_ret])
    exact law_xcb rfl (h.get 2 rfl) (h.get 4 rfl) (h.get 3 rfl) h.defers fun A c ha => ⟨A, c, rfl, ha.mono fun b hb => ⟨by have := hb.1; omega, hb.2.1⟩, h.world⟩
section
variable {ops : Array Oper} {Q : Exit → Act → World → Prop} {E : Nat → Kd} {D : Nat → Nat} {base : Nat → Option Kd} {N : Nat}
theorem step_rAtom {i : Nat} {n g : Nat} {G : Option Nat} {x0 : Operand} {p0 : Pay} {l0 : Fo} (hop : (ops[i]?).map (·.op) = some (.call { callee := .value (.func 36), args := #[x0], argTypes := #[24] })) (h0 : Opd ops E D base N i x0 (.term p0 l0)) (hg : Opd ops E D base N i (.tmp g) (.sat (gP n G))) (hE : E i = .sat (nT3 n G (.string (Bl.atom p0 l0).1) ((Bl.atom p0 l0).2.1).1 ((Bl.atom p0 l0).2.1).2 ((Bl.atom p0 l0).2.2))) : Step Try.prog ops Q E D base N i :=
  step_mkXB hop (fun _ _ => by kernel_rfl) hg (fun a w h => by
    obtain ⟨A0, c0, e0, ha0⟩ := h0 a w h
    rw [show (#[x0] : Array Operand).map a.eval = #[tv p0 A0 (Tm.len l0) c0] by rw [← e0]; simp]
    exact rAtom_any p0 l0 A0 c0 w.heap.size w ha0 (Nat.le_refl _)) hE
end
noncomputable def rInt60Ops : Array Oper := ((Try.f38.body).bind (findReg 0)).getD #[]
noncomputable def rInt61Ops : Array Oper := ((Try.f38.body).bind (findReg 1)).getD #[]
noncomputable def rInt62Ops : Array Oper := ((Try.f38.body).bind (findReg 2)).getD #[]
noncomputable def rInt63Ops : Array Oper := ((Try.f38.body).bind (findReg 3)).getD #[]
noncomputable def rInt64Ops : Array Oper := ((Try.f38.body).bind (findReg 4)).getD #[]
noncomputable def rInt65Ops : Array Oper := ((Try.f38.body).bind (findReg 5)).getD #[]
noncomputable def rInt66Ops : Array Oper := ((Try.f38.body).bind (findReg 6)).getD #[]
noncomputable def rInt67Ops : Array Oper := ((Try.f38.body).bind (findReg 7)).getD #[]
theorem rInt6_body : Try.f38.body = some (.seq (.region 0 rInt60Ops false) (.seq (.seq (.region 1 rInt61Ops false) (.cond (.tmp 7) (.seq (.region 2 rInt62Ops false) .ret) .skip)) (.seq (.seq (.region 3 rInt63Ops false) (.cond (.tmp 11) (.seq (.region 4 rInt64Ops false) .ret) .skip)) (.seq (.seq (.region 5 rInt65Ops false) (.cond (.tmp 15) (.seq (.region 6 rInt66Ops false) .ret) .skip)) (.seq (.region 7 rInt67Ops false) .ret))))) := by kernel_rfl
theorem rInt60a_region {Q : Exit → Act → World → Prop} (p0 : Pay) (l0 : Fo) (nb : Nat)  {w0 : World} {a : Act} {w : World} (hn : nb ≤ w0.heap.size) (h : Hold 21 [(0, .term p0 l0)] w0 a w)
    (hQ : ∀ r a' w', w0.heap.size ≤ r → Hold 21 [(1, .sat (nP 0 (some r) p0 l0)), (2, .val (.int .i64 0)), (3, .sat (rC nb r zp .nil)), (990, .sat (gP nb (some r))), (4, .val (.bool false))] w0 a' w' → Q .normal a' w') : (Code.region 0 rInt60Ops false).wp Try.prog Q a w := by
  refine region_seq (w0 := w) 4 (by kernel_rfl) ?_
  rw [show List.range 4 = [0, 1, 2, 3] from rfl]
  refine env_one (i := 0) (d := 1) (k := .ptrT p0 l0) (step_box (by kernel_rfl) (Opd.of_base 0 rfl) rfl) (by kernel_rfl) (by decide) h ?_
  clear h
  intro a w h
  refine env_one (i := 1) (d := 2) (k := .val (.int .i64 0)) (step_assign (by kernel_rfl) (Opd.const _) rfl) (by kernel_rfl) (by decide) h ?_
  clear h
  intro a w h
  refine env_res (i := 2) (d := 3) (n := nb) (fun r => [(0, .sat (nT 0 (some r) p0 l0)), (1, .sat (nP 0 (some r) p0 l0)), (2, .val (.int .i64 0))]) (by kernel_rfl) (by decide) (by decide) hn (fun r => (goes_cons 0 rfl (turns_term _ _ _) (goes_cons 1 rfl (turns_ptr _ _ _) (goes_cons 2 rfl (turns_val _ _) (goes_nil _ _))))) h ?_
  clear h
  intro r a w hr h
  refine env_one (i := 3) (d := 4) (k := .val (.bool false)) (step_assign (by kernel_rfl) (Opd.const _) rfl) (by kernel_rfl) (by decide) h ?_
  clear h
  intro a w h
  exact hQ r a w hr (h.keep [1, 2, 3, 990, 4])
theorem rInt61a_region {Q : Exit → Act → World → Prop} (p0 : Pay) (l0 : Fo) (nb r : Nat)  {w0 : World} {a : Act} {w : World} (hr : w0.heap.size ≤ r) (h : Hold 21 [(1, .sat (nP 0 (some r) p0 l0)), (2, .val (.int .i64 0)), (3, .sat (rC nb r zp .nil)), (990, .sat (gP nb (some r))), (4, .val (.bool false))] w0 a w)
    (hQ : ∀ a' w', Hold 21 [(1, .sat (nP 0 (some r) p0 l0)), (2, .val (.int .i64 0)), (3, .sat (rC nb r zp .nil)), (990, .sat (gP nb (some r))), (4, .val (.bool false)), (7, .val (.bool (!(Tm.validB p0 l0))))] w0 a' w' → Q .normal a' w') : (Code.region 1 rInt61Ops false).wp Try.prog Q a w := by
  refine region_seq (w0 := w) 3 (by kernel_rfl) ?_
  rw [show List.range 3 = [0, 1, 2] from rfl]
  refine env_one (i := 0) (d := 5) (k := .sat (nT 0 (some r) p0 l0)) (step_nload (by kernel_rfl) (Opd.of_base 1 rfl) rfl) (by kernel_rfl) (by decide) h ?_
  clear h
  intro a w h
  refine env_one (i := 1) (d := 6) (k := .val (.bool (Tm.validB p0 l0))) (step_rvalid6 (by kernel_rfl) (Opd.ofT (Opd.of_base 5 rfl)) rfl) (by kernel_rfl) (by decide) h ?_
  clear h
  intro a w h
  refine env_one (i := 2) (d := 7) (k := .val (.bool (!(Tm.validB p0 l0)))) (step_not (by kernel_rfl) (Opd.of_base 6 rfl) rfl) (by kernel_rfl) (by decide) h ?_
  clear h
  intro a w h
  exact hQ a w (h.keep [1, 2, 3, 990, 4, 7])
theorem rInt63a_region {Q : Exit → Act → World → Prop} (p0 : Pay) (l0 : Fo) (nb r : Nat) (h1 : p0.1 = 0) {w0 : World} {a : Act} {w : World} (hr : w0.heap.size ≤ r) (h : Hold 21 [(1, .sat (nP 0 (some r) p0 l0)), (2, .val (.int .i64 0)), (3, .sat (rC nb r zp .nil)), (990, .sat (gP nb (some r))), (4, .val (.bool false))] w0 a w)
    (hQ : ∀ a' w', Hold 21 [(1, .sat (nP 0 (some r) p0 l0)), (2, .val (.int .i64 0)), (3, .sat (rC nb r zp .nil)), (990, .sat (gP nb (some r))), (4, .val (.bool false)), (11, .val (.bool true))] w0 a' w' → Q .normal a' w') : (Code.region 3 rInt63Ops false).wp Try.prog Q a w := by
  refine region_seq (w0 := w) 3 (by kernel_rfl) ?_
  rw [show List.range 3 = [0, 1, 2] from rfl]
  refine env_one (i := 0) (d := 9) (k := .ptrI (p0.1)) (step_field0 (by kernel_rfl) (Opd.ofP (Opd.of_base 1 rfl)) rfl) (by kernel_rfl) (by decide) h ?_
  clear h
  intro a w h
  refine env_one (i := 1) (d := 10) (k := .val (.int .i64 (p0.1))) (step_load_int3 (by kernel_rfl) (Opd.of_base 9 rfl) rfl) (by kernel_rfl) (by decide) h ?_
  clear h
  intro a w h
  refine env_one (i := 2) (d := 11) (k := .val (.bool true)) (step_eqb_int (m := (p0.1)) (n := 0) (by kernel_rfl) (Opd.of_base 10 rfl) (Opd.const _) (by rw [h1]; rfl) rfl) (by kernel_rfl) (by decide) h ?_
  clear h
  intro a w h
  exact hQ a w (h.keep [1, 2, 3, 990, 4, 11])
theorem rInt64a_region {Q : Exit → Act → World → Prop} (p0 : Pay) (l0 : Fo) (nb r : Nat)  {w0 : World} {a : Act} {w : World} (hr : w0.heap.size ≤ r) (h : Hold 21 [(1, .sat (nP 0 (some r) p0 l0)), (2, .val (.int .i64 0)), (3, .sat (rC nb r zp .nil)), (990, .sat (gP nb (some r))), (4, .val (.bool false))] w0 a w)
    (hQ : ∀ a' w', Hold 21 [(1, .sat (nP 0 (some r) p0 l0)), (2, .val (.int .i64 0)), (990, .sat (gP nb (some r))), (4, .val (.bool false)), (3, .sat (rC nb r Bl.inst.1 Bl.inst.2))] w0 a' w' → Q .normal a' w') : (Code.region 4 rInt64Ops false).wp Try.prog Q a w := by
  refine region_seq (w0 := w) 4 (by kernel_rfl) ?_
  rw [show List.range 4 = [0, 1, 2, 3] from rfl]
  refine env_one (i := 0) (d := 12) (k := .sat (nT nb (some r) Bl.inst.1 Bl.inst.2)) (step_rInst (g := 990) (by kernel_rfl)  (Opd.of_base 990 rfl) rfl) (by kernel_rfl) (by decide) h ?_
  clear h
  intro a w h
  refine env_one (i := 1) (d := 2) (k := .val (.int .i64 0)) (step_assign (by kernel_rfl) (Opd.const _) rfl) (by kernel_rfl) (by decide) h ?_
  clear h
  intro a w h
  refine env_store (i := 2) (x := 3) (y := 12) (r := r) [(1, .sat (nP 0 (some r) p0 l0)), (2, .val (.int .i64 0)), (990, .sat (gP nb (some r))), (4, .val (.bool false)), (12, .sat (nT nb (some r) Bl.inst.1 Bl.inst.2))] (by kernel_rfl) rfl rfl hr (stays_cons 1 rfl (away_nP _ _ _ _) (stays_cons 2 rfl (away_val _ _) (stays_cons 990 rfl (away_gP _ _ _) (stays_cons 4 rfl (away_val _ _) (stays_cons 12 rfl (away_nT _ _ _ _) (stays_nil _ _)))))) h ?_
  clear h
  intro a w h
  refine env_one (i := 3) (d := 4) (k := .val (.bool false)) (step_assign (by kernel_rfl) (Opd.const _) rfl) (by kernel_rfl) (by decide) h ?_
  clear h
  intro a w h
  exact hQ a w (h.keep [1, 2, 990, 4, 3])
theorem rInt63b_region {Q : Exit → Act → World → Prop} (p0 : Pay) (l0 : Fo) (nb r : Nat) (h1 : ¬ p0.1 = 0) {w0 : World} {a : Act} {w : World} (hr : w0.heap.size ≤ r) (h : Hold 21 [(1, .sat (nP 0 (some r) p0 l0)), (2, .val (.int .i64 0)), (3, .sat (rC nb r zp .nil)), (990, .sat (gP nb (some r))), (4, .val (.bool false))] w0 a w)
    (hQ : ∀ a' w', Hold 21 [(1, .sat (nP 0 (some r) p0 l0)), (2, .val (.int .i64 0)), (3, .sat (rC nb r zp .nil)), (990, .sat (gP nb (some r))), (4, .val (.bool false)), (11, .val (.bool false))] w0 a' w' → Q .normal a' w') : (Code.region 3 rInt63Ops false).wp Try.prog Q a w := by
  refine region_seq (w0 := w) 3 (by kernel_rfl) ?_
  rw [show List.range 3 = [0, 1, 2] from rfl]
  refine env_one (i := 0) (d := 9) (k := .ptrI (p0.1)) (step_field0 (by kernel_rfl) (Opd.ofP (Opd.of_base 1 rfl)) rfl) (by kernel_rfl) (by decide) h ?_
  clear h
  intro a w h
  refine env_one (i := 1) (d := 10) (k := .val (.int .i64 (p0.1))) (step_load_int3 (by kernel_rfl) (Opd.of_base 9 rfl) rfl) (by kernel_rfl) (by decide) h ?_
  clear h
  intro a w h
  refine env_one (i := 2) (d := 11) (k := .val (.bool false)) (step_eqb_int (m := (p0.1)) (n := 0) (by kernel_rfl) (Opd.of_base 10 rfl) (Opd.const _) (by simpa using h1) rfl) (by kernel_rfl) (by decide) h ?_
  clear h
  intro a w h
  exact hQ a w (h.keep [1, 2, 3, 990, 4, 11])
theorem rInt65a_region {Q : Exit → Act → World → Prop} (p0 : Pay) (l0 : Fo) (nb r : Nat) (h2 : p0.1 = 1) {w0 : World} {a : Act} {w : World} (hr : w0.heap.size ≤ r) (h : Hold 21 [(1, .sat (nP 0 (some r) p0 l0)), (2, .val (.int .i64 0)), (3, .sat (rC nb r zp .nil)), (990, .sat (gP nb (some r))), (4, .val (.bool false))] w0 a w)
    (hQ : ∀ a' w', Hold 21 [(1, .sat (nP 0 (some r) p0 l0)), (2, .val (.int .i64 0)), (3, .sat (rC nb r zp .nil)), (990, .sat (gP nb (some r))), (4, .val (.bool false)), (15, .val (.bool false))] w0 a' w' → Q .normal a' w') : (Code.region 5 rInt65Ops false).wp Try.prog Q a w := by
  refine region_seq (w0 := w) 3 (by kernel_rfl) ?_
  rw [show List.range 3 = [0, 1, 2] from rfl]
  refine env_one (i := 0) (d := 13) (k := .ptrI (p0.1)) (step_field0 (by kernel_rfl) (Opd.ofP (Opd.of_base 1 rfl)) rfl) (by kernel_rfl) (by decide) h ?_
  clear h
  intro a w h
  refine env_one (i := 1) (d := 14) (k := .val (.int .i64 (p0.1))) (step_load_int3 (by kernel_rfl) (Opd.of_base 13 rfl) rfl) (by kernel_rfl) (by decide) h ?_
  clear h
  intro a w h
  refine env_one (i := 2) (d := 15) (k := .val (.bool false)) (step_ne_int (m := (p0.1)) (n := 1) (by kernel_rfl) (Opd.of_base 14 rfl) (Opd.const _) (by rw [h2]; rfl) rfl) (by kernel_rfl) (by decide) h ?_
  clear h
  intro a w h
  exact hQ a w (h.keep [1, 2, 3, 990, 4, 15])
theorem rInt67a_region {Q : Exit → Act → World → Prop} (p0 : Pay) (l0 : Fo) (nb r : Nat)  {w0 : World} {a : Act} {w : World} (hr : w0.heap.size ≤ r) (h : Hold 21 [(1, .sat (nP 0 (some r) p0 l0)), (2, .val (.int .i64 0)), (3, .sat (rC nb r zp .nil)), (990, .sat (gP nb (some r))), (4, .val (.bool false))] w0 a w)
    (hQ : ∀ a' w', Hold 21 [(2, .val (.int .i64 (p0.2.1))), (990, .sat (gP nb (some r))), (4, .val (.bool true)), (3, .sat (rC nb r zp .nil))] w0 a' w' → Q .normal a' w') : (Code.region 7 rInt67Ops false).wp Try.prog Q a w := by
  refine region_seq (w0 := w) 6 (by kernel_rfl) ?_
  rw [show List.range 6 = [0, 1, 2, 3, 4, 5] from rfl]
  refine env_one (i := 0) (d := 18) (k := .ptrI (p0.2.1)) (step_field1 (by kernel_rfl) (Opd.ofP (Opd.of_base 1 rfl)) rfl) (by kernel_rfl) (by decide) h ?_
  clear h
  intro a w h
  refine env_one (i := 1) (d := 19) (k := .val (.int .i64 (p0.2.1))) (step_load_int (by kernel_rfl) (Opd.of_base 18 rfl) rfl) (by kernel_rfl) (by decide) h ?_
  clear h
  intro a w h
  refine env_one (i := 2) (d := 20) (k := .sat (nT nb (some r) zp .nil)) (step_nzero (by kernel_rfl) rfl) (by kernel_rfl) (by decide) h ?_
  clear h
  intro a w h
  refine env_one (i := 3) (d := 2) (k := .val (.int .i64 (p0.2.1))) (step_assign (by kernel_rfl) (Opd.of_base 19 rfl) rfl) (by kernel_rfl) (by decide) h ?_
  clear h
  intro a w h
  refine env_store (i := 4) (x := 3) (y := 20) (r := r) [(1, .sat (nP 0 (some r) p0 l0)), (2, .val (.int .i64 (p0.2.1))), (990, .sat (gP nb (some r))), (4, .val (.bool false)), (19, .val (.int .i64 (p0.2.1))), (20, .sat (nT nb (some r) zp .nil))] (by kernel_rfl) rfl rfl hr (stays_cons 1 rfl (away_nP _ _ _ _) (stays_cons 2 rfl (away_val _ _) (stays_cons 990 rfl (away_gP _ _ _) (stays_cons 4 rfl (away_val _ _) (stays_cons 19 rfl (away_val _ _) (stays_cons 20 rfl (away_nT _ _ _ _) (stays_nil _ _))))))) h ?_
  clear h
  intro a w h
  refine env_one (i := 5) (d := 4) (k := .val (.bool true)) (step_assign (by kernel_rfl) (Opd.const _) rfl) (by kernel_rfl) (by decide) h ?_
  clear h
  intro a w h
  exact hQ a w (h.keep [2, 990, 4, 3])
theorem rInt65b_region {Q : Exit → Act → World → Prop} (p0 : Pay) (l0 : Fo) (nb r : Nat) (h2 : ¬ p0.1 = 1) {w0 : World} {a : Act} {w : World} (hr : w0.heap.size ≤ r) (h : Hold 21 [(1, .sat (nP 0 (some r) p0 l0)), (2, .val (.int .i64 0)), (3, .sat (rC nb r zp .nil)), (990, .sat (gP nb (some r))), (4, .val (.bool false))] w0 a w)
    (hQ : ∀ a' w', Hold 21 [(1, .sat (nP 0 (some r) p0 l0)), (2, .val (.int .i64 0)), (3, .sat (rC nb r zp .nil)), (990, .sat (gP nb (some r))), (4, .val (.bool false)), (15, .val (.bool true))] w0 a' w' → Q .normal a' w') : (Code.region 5 rInt65Ops false).wp Try.prog Q a w := by
  refine region_seq (w0 := w) 3 (by kernel_rfl) ?_
  rw [show List.range 3 = [0, 1, 2] from rfl]
  refine env_one (i := 0) (d := 13) (k := .ptrI (p0.1)) (step_field0 (by kernel_rfl) (Opd.ofP (Opd.of_base 1 rfl)) rfl) (by kernel_rfl) (by decide) h ?_
  clear h
  intro a w h
  refine env_one (i := 1) (d := 14) (k := .val (.int .i64 (p0.1))) (step_load_int3 (by kernel_rfl) (Opd.of_base 13 rfl) rfl) (by kernel_rfl) (by decide) h ?_
  clear h
  intro a w h
  refine env_one (i := 2) (d := 15) (k := .val (.bool true)) (step_ne_int (m := (p0.1)) (n := 1) (by kernel_rfl) (Opd.of_base 14 rfl) (Opd.const _) (by simpa using h2) rfl) (by kernel_rfl) (by decide) h ?_
  clear h
  intro a w h
  exact hQ a w (h.keep [1, 2, 3, 990, 4, 15])
theorem rInt66a_region {Q : Exit → Act → World → Prop} (p0 : Pay) (l0 : Fo) (nb r : Nat)  {w0 : World} {a : Act} {w : World} (hr : w0.heap.size ≤ r) (h : Hold 21 [(1, .sat (nP 0 (some r) p0 l0)), (2, .val (.int .i64 0)), (3, .sat (rC nb r zp .nil)), (990, .sat (gP nb (some r))), (4, .val (.bool false))] w0 a w)
    (hQ : ∀ a' w', Hold 21 [(1, .sat (nP 0 (some r) p0 l0)), (2, .val (.int .i64 0)), (990, .sat (gP nb (some r))), (4, .val (.bool false)), (3, .sat (rC nb r ((Bl.ty (⟨#[105, 110, 116, 101, 103, 101, 114]⟩) p0 l0).1) ((Bl.ty (⟨#[105, 110, 116, 101, 103, 101, 114]⟩) p0 l0).2)))] w0 a' w' → Q .normal a' w') : (Code.region 6 rInt66Ops false).wp Try.prog Q a w := by
  refine region_seq (w0 := w) 5 (by kernel_rfl) ?_
  rw [show List.range 5 = [0, 1, 2, 3, 4] from rfl]
  refine env_one (i := 0) (d := 16) (k := .sat (nT 0 (some r) p0 l0)) (step_nload (by kernel_rfl) (Opd.of_base 1 rfl) rfl) (by kernel_rfl) (by decide) h ?_
  clear h
  intro a w h
  refine env_one (i := 1) (d := 17) (k := .sat (nT nb (some r) ((Bl.ty (⟨#[105, 110, 116, 101, 103, 101, 114]⟩) p0 l0).1) ((Bl.ty (⟨#[105, 110, 116, 101, 103, 101, 114]⟩) p0 l0).2))) (step_rTy (g := 990) (by kernel_rfl) (Opd.const _) (Opd.ofT (Opd.of_base 16 rfl)) (Opd.of_base 990 rfl) rfl) (by kernel_rfl) (by decide) h ?_
  clear h
  intro a w h
  refine env_one (i := 2) (d := 2) (k := .val (.int .i64 0)) (step_assign (by kernel_rfl) (Opd.const _) rfl) (by kernel_rfl) (by decide) h ?_
  clear h
  intro a w h
  refine env_store (i := 3) (x := 3) (y := 17) (r := r) [(1, .sat (nP 0 (some r) p0 l0)), (2, .val (.int .i64 0)), (990, .sat (gP nb (some r))), (4, .val (.bool false)), (16, .sat (nT 0 (some r) p0 l0)), (17, .sat (nT nb (some r) ((Bl.ty (⟨#[105, 110, 116, 101, 103, 101, 114]⟩) p0 l0).1) ((Bl.ty (⟨#[105, 110, 116, 101, 103, 101, 114]⟩) p0 l0).2)))] (by kernel_rfl) rfl rfl hr (stays_cons 1 rfl (away_nP _ _ _ _) (stays_cons 2 rfl (away_val _ _) (stays_cons 990 rfl (away_gP _ _ _) (stays_cons 4 rfl (away_val _ _) (stays_cons 16 rfl (away_nT _ _ _ _) (stays_cons 17 rfl (away_nT _ _ _ _) (stays_nil _ _))))))) h ?_
  clear h
  intro a w h
  refine env_one (i := 4) (d := 4) (k := .val (.bool false)) (step_assign (by kernel_rfl) (Opd.const _) rfl) (by kernel_rfl) (by decide) h ?_
  clear h
  intro a w h
  exact hQ a w (h.keep [1, 2, 990, 4, 3])
theorem rInt62a_region {Q : Exit → Act → World → Prop} (p0 : Pay) (l0 : Fo) (nb r : Nat)  {w0 : World} {a : Act} {w : World} (hr : w0.heap.size ≤ r) (h : Hold 21 [(1, .sat (nP 0 (some r) p0 l0)), (2, .val (.int .i64 0)), (3, .sat (rC nb r zp .nil)), (990, .sat (gP nb (some r))), (4, .val (.bool false))] w0 a w)
    (hQ : ∀ a' w', Hold 21 [(1, .sat (nP 0 (some r) p0 l0)), (2, .val (.int .i64 0)), (990, .sat (gP nb (some r))), (4, .val (.bool false)), (3, .sat (rC nb r zp .nil))] w0 a' w' → Q .normal a' w') : (Code.region 2 rInt62Ops false).wp Try.prog Q a w := by
  refine region_seq (w0 := w) 4 (by kernel_rfl) ?_
  rw [show List.range 4 = [0, 1, 2, 3] from rfl]
  refine env_one (i := 0) (d := 8) (k := .sat (nT nb (some r) zp .nil)) (step_nzero (by kernel_rfl) rfl) (by kernel_rfl) (by decide) h ?_
  clear h
  intro a w h
  refine env_one (i := 1) (d := 2) (k := .val (.int .i64 0)) (step_assign (by kernel_rfl) (Opd.const _) rfl) (by kernel_rfl) (by decide) h ?_
  clear h
  intro a w h
  refine env_store (i := 2) (x := 3) (y := 8) (r := r) [(1, .sat (nP 0 (some r) p0 l0)), (2, .val (.int .i64 0)), (990, .sat (gP nb (some r))), (4, .val (.bool false)), (8, .sat (nT nb (some r) zp .nil))] (by kernel_rfl) rfl rfl hr (stays_cons 1 rfl (away_nP _ _ _ _) (stays_cons 2 rfl (away_val _ _) (stays_cons 990 rfl (away_gP _ _ _) (stays_cons 4 rfl (away_val _ _) (stays_cons 8 rfl (away_nT _ _ _ _) (stays_nil _ _)))))) h ?_
  clear h
  intro a w h
  refine env_one (i := 3) (d := 4) (k := .val (.bool false)) (step_assign (by kernel_rfl) (Opd.const _) rfl) (by kernel_rfl) (by decide) h ?_
  clear h
  intro a w h
  exact hQ a w (h.keep [1, 2, 990, 4, 3])
set_option maxHeartbeats 1000000 in
theorem rInt6_any (p0 : Pay) (l0 : Fo) (A0 : Option Addr) (c0 : Nat) (B : Nat) (w : World) (hA0 : ArgsB w B A0 (Tm.len l0) l0) (hB : B ≤ w.heap.size)  : Calls Try.prog 38 #[tv p0 A0 (Tm.len l0) c0] w (MkXB w.heap.size (.int .i64 (Bl.int p0 l0).1) ((Bl.int p0 l0).2.1).1 ((Bl.int p0 l0).2.1).2 ((Bl.int p0 l0).2.2) w) := by
  refine calls_of_wp Try.func38 rInt6_body ?_
  obtain ⟨v0, hv0⟩ : ∃ v : Value, v = tv p0 A0 (Tm.len l0) c0 := ⟨_, rfl⟩
  rw [← hv0]
  have hk0 : (Kd.term p0 l0).R v0 w := by rw [hv0]; exact ⟨A0, c0, rfl, hA0.up hB⟩
  have hsN : (#[v0] ++ Array.replicate (Try.f38.ntmps - #[v0].size) undef : Array Value).size = 21 := by kernel_rfl
  have gs0 : (#[v0] ++ Array.replicate (Try.f38.ntmps - #[v0].size) undef : Array Value).getD 0 undef = v0 := by kernel_rfl
  generalize (#[v0] ++ Array.replicate (Try.f38.ntmps - #[v0].size) undef : Array Value) = tm at hsN gs0 ⊢
  obtain ⟨a, ha0⟩ : ∃ a : Act, a = ⟨tm, []⟩ := ⟨_, rfl⟩
  have h : Hold 21 [(0, .term p0 l0)] w ⟨tm, []⟩ w := ⟨hsN, rfl, Below.refl _ _, (slots_cons 0 (by rw [gs0]; exact hk0) slots_nil)⟩
  obtain ⟨nb, hnb⟩ : ∃ nb, nb = w.heap.size := ⟨_, rfl⟩
  have hn : nb ≤ w.heap.size := by omega
  refine wp_seq ?_
  refine rInt60a_region p0 l0 nb  hn h ?_
  intro r a w1 hr h
  show Code.wp _ _ _ a w1
  refine wp_seq ?_
  refine wp_seq ?_
  refine rInt61a_region p0 l0 nb r  hr h ?_
  intro a w1 h
  rcases Bool.eq_false_or_eq_true (Tm.validB p0 l0) with hv | hv
  · rw [hv] at h
    (try simp only [Bool.not_true, Bool.not_false] at h)
    show Code.wp _ _ _ a w1
    refine env_cond (b := false) rfl h ?_
    refine wp_skip ?_
    have h := h.keep [1, 2, 3, 990, 4]
    show Code.wp _ _ _ a w1
    refine wp_seq ?_
    refine wp_seq ?_
    by_cases h1 : p0.1 = 0
    · refine rInt63a_region p0 l0 nb r h1 hr h ?_
      intro a w1 h
      show Code.wp _ _ _ a w1
      refine env_cond (b := true) rfl h ?_
      have h := h.keep [1, 2, 3, 990, 4]
      show Code.wp _ _ _ a w1
      refine wp_seq ?_
      refine rInt64a_region p0 l0 nb r  hr h ?_
      intro a w1 h
      show Code.wp _ _ _ a w1
      have ev : Bl.int p0 l0 = (0, ((Bl.inst.1, Bl.inst.2), false)) := by simp [Bl.int, Bl.check, hv, h1]
      rw [ev]
      refine wp_ret ?_
      (try simp only [then_ret, block_ret])
      exact law_xcb rfl (h.get 2 rfl) (h.get 4 rfl) (h.get 3 rfl) h.defers fun A c ha => ⟨A, c, rfl, ha.mono fun b hb => ⟨by have := hb.1; omega, hb.2.1⟩, h.world⟩
    · refine rInt63b_region p0 l0 nb r h1 hr h ?_
      intro a w1 h
      show Code.wp _ _ _ a w1
      refine env_cond (b := false) rfl h ?_
      refine wp_skip ?_
      have h := h.keep [1, 2, 3, 990, 4]
      show Code.wp _ _ _ a w1
      refine wp_seq ?_
      refine wp_seq ?_
      by_cases h2 : p0.1 = 1
      · have h2b : (p0.1 == 1) = true := by rw [h2]; rfl
        refine rInt65a_region p0 l0 nb r h2 hr h ?_
        intro a w1 h
        show Code.wp _ _ _ a w1
        refine env_cond (b := false) rfl h ?_
        refine wp_skip ?_
        have h := h.keep [1, 2, 3, 990, 4]
        show Code.wp _ _ _ a w1
        refine wp_seq ?_
        refine rInt67a_region p0 l0 nb r  hr h ?_
        intro a w1 h
        show Code.wp _ _ _ a w1
        have ev : Bl.int p0 l0 = ((p0.2.1), ((zp, .nil), true)) := by simp [Bl.int, Bl.check, hv, h1, h2b]
        rw [ev]
        refine wp_ret ?_
        (try simp only [then_ret, block_ret])
        exact law_xcb rfl (h.get 2 rfl) (h.get 4 rfl) (h.get 3 rfl) h.defers fun A c ha => ⟨A, c, rfl, ha.mono fun b hb => ⟨by have := hb.1; omega, hb.2.1⟩, h.world⟩
      · have h2b : (p0.1 == 1) = false := by simpa using h2
        refine rInt65b_region p0 l0 nb r h2 hr h ?_
        intro a w1 h
        show Code.wp _ _ _ a w1
        refine env_cond (b := true) rfl h ?_
        have h := h.keep [1, 2, 3, 990, 4]
        show Code.wp _ _ _ a w1
        refine wp_seq ?_
        refine rInt66a_region p0 l0 nb r  hr h ?_
        intro a w1 h
        show Code.wp _ _ _ a w1
        have ev : Bl.int p0 l0 = (0, (((Bl.ty (⟨#[105, 110, 116, 101, 103, 101, 114]⟩) p0 l0).1, (Bl.ty (⟨#[105, 110, 116, 101, 103, 101, 114]⟩) p0 l0).2), false)) := by simp [Bl.int, Bl.check, hv, h1, h2b]
        rw [ev]
        refine wp_ret ?_
        (try simp only [then_ret, block_ret])
        exact law_xcb rfl (h.get 2 rfl) (h.get 4 rfl) (h.get 3 rfl) h.defers fun A c ha => ⟨A, c, rfl, ha.mono fun b hb => ⟨by have := hb.1; omega, hb.2.1⟩, h.world⟩
  · rw [hv] at h
    (try simp only [Bool.not_true, Bool.not_false] at h)
    show Code.wp _ _ _ a w1
    refine env_cond (b := true) rfl h ?_
    have h := h.keep [1, 2, 3, 990, 4]
    show Code.wp _ _ _ a w1
    refine wp_seq ?_
    refine rInt62a_region p0 l0 nb r  hr h ?_
    intro a w1 h
    show Code.wp _ _ _ a w1
    have ev : Bl.int p0 l0 = (0, ((zp, .nil), false)) := by simp [Bl.int, Bl.check, hv]
    rw [ev]
    refine wp_ret ?_
    (try simp only [then_ret, block_ret])
    exact law_xcb rfl (h.get 2 rfl) (h.get 4 rfl) (h.get 3 rfl) h.defers fun A c ha => ⟨A, c, rfl, ha.mono fun b hb => ⟨by have := hb.1; omega, hb.2.1⟩, h.world⟩
section
variable {ops : Array Oper} {Q : Exit → Act → World → Prop} {E : Nat → Kd} {D : Nat → Nat} {base : Nat → Option Kd} {N : Nat}
theorem step_rInt6 {i : Nat} {n g : Nat} {G : Option Nat} {x0 : Operand} {p0 : Pay} {l0 : Fo} (hop : (ops[i]?).map (·.op) = some (.call { callee := .value (.func 38), args := #[x0], argTypes := #[24] })) (h0 : Opd ops E D base N i x0 (.term p0 l0)) (hg : Opd ops E D base N i (.tmp g) (.sat (gP n G))) (hE : E i = .sat (nT3 n G (.int .i64 (Bl.int p0 l0).1) ((Bl.int p0 l0).2.1).1 ((Bl.int p0 l0).2.1).2 ((Bl.int p0 l0).2.2))) : Step Try.prog ops Q E D base N i :=
  step_mkXB hop (fun _ _ => by kernel_rfl) hg (fun a w h => by
    obtain ⟨A0, c0, e0, ha0⟩ := h0 a w h
    rw [show (#[x0] : Array Operand).map a.eval = #[tv p0 A0 (Tm.len l0) c0] by rw [← e0]; simp]
    exact rInt6_any p0 l0 A0 c0 w.heap.size w ha0 (Nat.le_refl _)) hE
end
noncomputable def rCallable0Ops : Array Oper := ((Try.f40.body).bind (findReg 0)).getD #[]
noncomputable def rCallable1Ops : Array Oper := ((Try.f40.body).bind (findReg 1)).getD #[]
noncomputable def rCallable2Ops : Array Oper := ((Try.f40.body).bind (findReg 2)).getD #[]
noncomputable def rCallable3Ops : Array Oper := ((Try.f40.body).bind (findReg 3)).getD #[]
noncomputable def rCallable4Ops : Array Oper := ((Try.f40.body).bind (findReg 4)).getD #[]
noncomputable def rCallable5Ops : Array Oper := ((Try.f40.body).bind (findReg 5)).getD #[]
noncomputable def rCallable6Ops : Array Oper := ((Try.f40.body).bind (findReg 6)).getD #[]
noncomputable def rCallable7Ops : Array Oper := ((Try.f40.body).bind (findReg 7)).getD #[]
theorem rCallable_body : Try.f40.body = some (.seq (.region 0 rCallable0Ops false) (.seq (.seq (.region 1 rCallable1Ops false) (.cond (.tmp 6) (.seq (.region 2 rCallable2Ops false) .ret) .skip)) (.seq (.seq (.region 3 rCallable3Ops false) (.cond (.tmp 10) (.seq (.region 4 rCallable4Ops false) .ret) .skip)) (.seq (.seq (.region 5 rCallable5Ops false) (.cond (.tmp 14) (.seq (.region 6 rCallable6Ops false) .ret) .skip)) (.seq (.region 7 rCallable7Ops false) .ret))))) := by kernel_rfl
theorem rCallable0a_region {Q : Exit → Act → World → Prop} (p0 : Pay) (l0 : Fo) (nb : Nat)  {w0 : World} {a : Act} {w : World} (hn : nb ≤ w0.heap.size) (h : Hold 18 [(0, .term p0 l0)] w0 a w)
    (hQ : ∀ r a' w', w0.heap.size ≤ r → Hold 18 [(1, .sat (nP 0 (some r) p0 l0)), (2, .sat (rC nb r zp .nil)), (990, .sat (gP nb (some r))), (3, .val (.bool false))] w0 a' w' → Q .normal a' w') : (Code.region 0 rCallable0Ops false).wp Try.prog Q a w := by
  refine region_seq (w0 := w) 3 (by kernel_rfl) ?_
  rw [show List.range 3 = [0, 1, 2] from rfl]
  refine env_one (i := 0) (d := 1) (k := .ptrT p0 l0) (step_box (by kernel_rfl) (Opd.of_base 0 rfl) rfl) (by kernel_rfl) (by decide) h ?_
  clear h
  intro a w h
  refine env_res (i := 1) (d := 2) (n := nb) (fun r => [(0, .sat (nT 0 (some r) p0 l0)), (1, .sat (nP 0 (some r) p0 l0))]) (by kernel_rfl) (by decide) (by decide) hn (fun r => (goes_cons 0 rfl (turns_term _ _ _) (goes_cons 1 rfl (turns_ptr _ _ _) (goes_nil _ _)))) h ?_
  clear h
  intro r a w hr h
  refine env_one (i := 2) (d := 3) (k := .val (.bool false)) (step_assign (by kernel_rfl) (Opd.const _) rfl) (by kernel_rfl) (by decide) h ?_
  clear h
  intro a w h
  exact hQ r a w hr (h.keep [1, 2, 990, 3])
theorem rCallable1a_region {Q : Exit → Act → World → Prop} (p0 : Pay) (l0 : Fo) (nb r : Nat)  {w0 : World} {a : Act} {w : World} (hr : w0.heap.size ≤ r) (h : Hold 18 [(1, .sat (nP 0 (some r) p0 l0)), (2, .sat (rC nb r zp .nil)), (990, .sat (gP nb (some r))), (3, .val (.bool false))] w0 a w)
    (hQ : ∀ a' w', Hold 18 [(1, .sat (nP 0 (some r) p0 l0)), (2, .sat (rC nb r zp .nil)), (990, .sat (gP nb (some r))), (3, .val (.bool false)), (6, .val (.bool (!(Tm.validB p0 l0))))] w0 a' w' → Q .normal a' w') : (Code.region 1 rCallable1Ops false).wp Try.prog Q a w := by
  refine region_seq (w0 := w) 3 (by kernel_rfl) ?_
  rw [show List.range 3 = [0, 1, 2] from rfl]
  refine env_one (i := 0) (d := 4) (k := .sat (nT 0 (some r) p0 l0)) (step_nload (by kernel_rfl) (Opd.of_base 1 rfl) rfl) (by kernel_rfl) (by decide) h ?_
  clear h
  intro a w h
  refine env_one (i := 1) (d := 5) (k := .val (.bool (Tm.validB p0 l0))) (step_rvalid6 (by kernel_rfl) (Opd.ofT (Opd.of_base 4 rfl)) rfl) (by kernel_rfl) (by decide) h ?_
  clear h
  intro a w h
  refine env_one (i := 2) (d := 6) (k := .val (.bool (!(Tm.validB p0 l0)))) (step_not (by kernel_rfl) (Opd.of_base 5 rfl) rfl) (by kernel_rfl) (by decide) h ?_
  clear h
  intro a w h
  exact hQ a w (h.keep [1, 2, 990, 3, 6])
theorem rCallable3a_region {Q : Exit → Act → World → Prop} (p0 : Pay) (l0 : Fo) (nb r : Nat) (h1 : p0.1 = 0) {w0 : World} {a : Act} {w : World} (hr : w0.heap.size ≤ r) (h : Hold 18 [(1, .sat (nP 0 (some r) p0 l0)), (2, .sat (rC nb r zp .nil)), (990, .sat (gP nb (some r))), (3, .val (.bool false))] w0 a w)
    (hQ : ∀ a' w', Hold 18 [(1, .sat (nP 0 (some r) p0 l0)), (2, .sat (rC nb r zp .nil)), (990, .sat (gP nb (some r))), (3, .val (.bool false)), (10, .val (.bool true))] w0 a' w' → Q .normal a' w') : (Code.region 3 rCallable3Ops false).wp Try.prog Q a w := by
  refine region_seq (w0 := w) 3 (by kernel_rfl) ?_
  rw [show List.range 3 = [0, 1, 2] from rfl]
  refine env_one (i := 0) (d := 8) (k := .ptrI (p0.1)) (step_field0 (by kernel_rfl) (Opd.ofP (Opd.of_base 1 rfl)) rfl) (by kernel_rfl) (by decide) h ?_
  clear h
  intro a w h
  refine env_one (i := 1) (d := 9) (k := .val (.int .i64 (p0.1))) (step_load_int3 (by kernel_rfl) (Opd.of_base 8 rfl) rfl) (by kernel_rfl) (by decide) h ?_
  clear h
  intro a w h
  refine env_one (i := 2) (d := 10) (k := .val (.bool true)) (step_eqb_int (m := (p0.1)) (n := 0) (by kernel_rfl) (Opd.of_base 9 rfl) (Opd.const _) (by rw [h1]; rfl) rfl) (by kernel_rfl) (by decide) h ?_
  clear h
  intro a w h
  exact hQ a w (h.keep [1, 2, 990, 3, 10])
theorem rCallable4a_region {Q : Exit → Act → World → Prop} (p0 : Pay) (l0 : Fo) (nb r : Nat)  {w0 : World} {a : Act} {w : World} (hr : w0.heap.size ≤ r) (h : Hold 18 [(1, .sat (nP 0 (some r) p0 l0)), (2, .sat (rC nb r zp .nil)), (990, .sat (gP nb (some r))), (3, .val (.bool false))] w0 a w)
    (hQ : ∀ a' w', Hold 18 [(1, .sat (nP 0 (some r) p0 l0)), (990, .sat (gP nb (some r))), (3, .val (.bool false)), (2, .sat (rC nb r Bl.inst.1 Bl.inst.2))] w0 a' w' → Q .normal a' w') : (Code.region 4 rCallable4Ops false).wp Try.prog Q a w := by
  refine region_seq (w0 := w) 3 (by kernel_rfl) ?_
  rw [show List.range 3 = [0, 1, 2] from rfl]
  refine env_one (i := 0) (d := 11) (k := .sat (nT nb (some r) Bl.inst.1 Bl.inst.2)) (step_rInst (g := 990) (by kernel_rfl)  (Opd.of_base 990 rfl) rfl) (by kernel_rfl) (by decide) h ?_
  clear h
  intro a w h
  refine env_store (i := 1) (x := 2) (y := 11) (r := r) [(1, .sat (nP 0 (some r) p0 l0)), (990, .sat (gP nb (some r))), (3, .val (.bool false)), (11, .sat (nT nb (some r) Bl.inst.1 Bl.inst.2))] (by kernel_rfl) rfl rfl hr (stays_cons 1 rfl (away_nP _ _ _ _) (stays_cons 990 rfl (away_gP _ _ _) (stays_cons 3 rfl (away_val _ _) (stays_cons 11 rfl (away_nT _ _ _ _) (stays_nil _ _))))) h ?_
  clear h
  intro a w h
  refine env_one (i := 2) (d := 3) (k := .val (.bool false)) (step_assign (by kernel_rfl) (Opd.const _) rfl) (by kernel_rfl) (by decide) h ?_
  clear h
  intro a w h
  exact hQ a w (h.keep [1, 990, 3, 2])
theorem rCallable3b_region {Q : Exit → Act → World → Prop} (p0 : Pay) (l0 : Fo) (nb r : Nat) (h1 : ¬ p0.1 = 0) {w0 : World} {a : Act} {w : World} (hr : w0.heap.size ≤ r) (h : Hold 18 [(1, .sat (nP 0 (some r) p0 l0)), (2, .sat (rC nb r zp .nil)), (990, .sat (gP nb (some r))), (3, .val (.bool false))] w0 a w)
    (hQ : ∀ a' w', Hold 18 [(1, .sat (nP 0 (some r) p0 l0)), (2, .sat (rC nb r zp .nil)), (990, .sat (gP nb (some r))), (3, .val (.bool false)), (10, .val (.bool false))] w0 a' w' → Q .normal a' w') : (Code.region 3 rCallable3Ops false).wp Try.prog Q a w := by
  refine region_seq (w0 := w) 3 (by kernel_rfl) ?_
  rw [show List.range 3 = [0, 1, 2] from rfl]
  refine env_one (i := 0) (d := 8) (k := .ptrI (p0.1)) (step_field0 (by kernel_rfl) (Opd.ofP (Opd.of_base 1 rfl)) rfl) (by kernel_rfl) (by decide) h ?_
  clear h
  intro a w h
  refine env_one (i := 1) (d := 9) (k := .val (.int .i64 (p0.1))) (step_load_int3 (by kernel_rfl) (Opd.of_base 8 rfl) rfl) (by kernel_rfl) (by decide) h ?_
  clear h
  intro a w h
  refine env_one (i := 2) (d := 10) (k := .val (.bool false)) (step_eqb_int (m := (p0.1)) (n := 0) (by kernel_rfl) (Opd.of_base 9 rfl) (Opd.const _) (by simpa using h1) rfl) (by kernel_rfl) (by decide) h ?_
  clear h
  intro a w h
  exact hQ a w (h.keep [1, 2, 990, 3, 10])
theorem rCallable5a_region {Q : Exit → Act → World → Prop} (p0 : Pay) (l0 : Fo) (nb r : Nat) (h2 : p0.1 = 1) {w0 : World} {a : Act} {w : World} (hr : w0.heap.size ≤ r) (h : Hold 18 [(1, .sat (nP 0 (some r) p0 l0)), (2, .sat (rC nb r zp .nil)), (990, .sat (gP nb (some r))), (3, .val (.bool false))] w0 a w)
    (hQ : ∀ a' w', Hold 18 [(1, .sat (nP 0 (some r) p0 l0)), (2, .sat (rC nb r zp .nil)), (990, .sat (gP nb (some r))), (3, .val (.bool false)), (14, .val (.bool true))] w0 a' w' → Q .normal a' w') : (Code.region 5 rCallable5Ops false).wp Try.prog Q a w := by
  refine region_seq (w0 := w) 3 (by kernel_rfl) ?_
  rw [show List.range 3 = [0, 1, 2] from rfl]
  refine env_one (i := 0) (d := 12) (k := .ptrI (p0.1)) (step_field0 (by kernel_rfl) (Opd.ofP (Opd.of_base 1 rfl)) rfl) (by kernel_rfl) (by decide) h ?_
  clear h
  intro a w h
  refine env_one (i := 1) (d := 13) (k := .val (.int .i64 (p0.1))) (step_load_int3 (by kernel_rfl) (Opd.of_base 12 rfl) rfl) (by kernel_rfl) (by decide) h ?_
  clear h
  intro a w h
  refine env_one (i := 2) (d := 14) (k := .val (.bool true)) (step_eqb_int (m := (p0.1)) (n := 1) (by kernel_rfl) (Opd.of_base 13 rfl) (Opd.const _) (by rw [h2]; rfl) rfl) (by kernel_rfl) (by decide) h ?_
  clear h
  intro a w h
  exact hQ a w (h.keep [1, 2, 990, 3, 14])
theorem rCallable6a_region {Q : Exit → Act → World → Prop} (p0 : Pay) (l0 : Fo) (nb r : Nat)  {w0 : World} {a : Act} {w : World} (hr : w0.heap.size ≤ r) (h : Hold 18 [(1, .sat (nP 0 (some r) p0 l0)), (2, .sat (rC nb r zp .nil)), (990, .sat (gP nb (some r))), (3, .val (.bool false))] w0 a w)
    (hQ : ∀ a' w', Hold 18 [(990, .sat (gP nb (some r))), (3, .val (.bool false)), (2, .sat (rC nb r ((Bl.ty (⟨#[99, 97, 108, 108, 97, 98, 108, 101]⟩) p0 l0).1) ((Bl.ty (⟨#[99, 97, 108, 108, 97, 98, 108, 101]⟩) p0 l0).2)))] w0 a' w' → Q .normal a' w') : (Code.region 6 rCallable6Ops false).wp Try.prog Q a w := by
  refine region_seq (w0 := w) 4 (by kernel_rfl) ?_
  rw [show List.range 4 = [0, 1, 2, 3] from rfl]
  refine env_one (i := 0) (d := 15) (k := .sat (nT 0 (some r) p0 l0)) (step_nload (by kernel_rfl) (Opd.of_base 1 rfl) rfl) (by kernel_rfl) (by decide) h ?_
  clear h
  intro a w h
  refine env_one (i := 1) (d := 16) (k := .sat (nT nb (some r) ((Bl.ty (⟨#[99, 97, 108, 108, 97, 98, 108, 101]⟩) p0 l0).1) ((Bl.ty (⟨#[99, 97, 108, 108, 97, 98, 108, 101]⟩) p0 l0).2))) (step_rTy (g := 990) (by kernel_rfl) (Opd.const _) (Opd.ofT (Opd.of_base 15 rfl)) (Opd.of_base 990 rfl) rfl) (by kernel_rfl) (by decide) h ?_
  clear h
  intro a w h
  refine env_store (i := 2) (x := 2) (y := 16) (r := r) [(1, .sat (nP 0 (some r) p0 l0)), (990, .sat (gP nb (some r))), (3, .val (.bool false)), (15, .sat (nT 0 (some r) p0 l0)), (16, .sat (nT nb (some r) ((Bl.ty (⟨#[99, 97, 108, 108, 97, 98, 108, 101]⟩) p0 l0).1) ((Bl.ty (⟨#[99, 97, 108, 108, 97, 98, 108, 101]⟩) p0 l0).2)))] (by kernel_rfl) rfl rfl hr (stays_cons 1 rfl (away_nP _ _ _ _) (stays_cons 990 rfl (away_gP _ _ _) (stays_cons 3 rfl (away_val _ _) (stays_cons 15 rfl (away_nT _ _ _ _) (stays_cons 16 rfl (away_nT _ _ _ _) (stays_nil _ _)))))) h ?_
  clear h
  intro a w h
  refine env_one (i := 3) (d := 3) (k := .val (.bool false)) (step_assign (by kernel_rfl) (Opd.const _) rfl) (by kernel_rfl) (by decide) h ?_
  clear h
  intro a w h
  exact hQ a w (h.keep [990, 3, 2])
theorem rCallable5b_region {Q : Exit → Act → World → Prop} (p0 : Pay) (l0 : Fo) (nb r : Nat) (h2 : ¬ p0.1 = 1) {w0 : World} {a : Act} {w : World} (hr : w0.heap.size ≤ r) (h : Hold 18 [(1, .sat (nP 0 (some r) p0 l0)), (2, .sat (rC nb r zp .nil)), (990, .sat (gP nb (some r))), (3, .val (.bool false))] w0 a w)
    (hQ : ∀ a' w', Hold 18 [(1, .sat (nP 0 (some r) p0 l0)), (2, .sat (rC nb r zp .nil)), (990, .sat (gP nb (some r))), (3, .val (.bool false)), (14, .val (.bool false))] w0 a' w' → Q .normal a' w') : (Code.region 5 rCallable5Ops false).wp Try.prog Q a w := by
  refine region_seq (w0 := w) 3 (by kernel_rfl) ?_
  rw [show List.range 3 = [0, 1, 2] from rfl]
  refine env_one (i := 0) (d := 12) (k := .ptrI (p0.1)) (step_field0 (by kernel_rfl) (Opd.ofP (Opd.of_base 1 rfl)) rfl) (by kernel_rfl) (by decide) h ?_
  clear h
  intro a w h
  refine env_one (i := 1) (d := 13) (k := .val (.int .i64 (p0.1))) (step_load_int3 (by kernel_rfl) (Opd.of_base 12 rfl) rfl) (by kernel_rfl) (by decide) h ?_
  clear h
  intro a w h
  refine env_one (i := 2) (d := 14) (k := .val (.bool false)) (step_eqb_int (m := (p0.1)) (n := 1) (by kernel_rfl) (Opd.of_base 13 rfl) (Opd.const _) (by simpa using h2) rfl) (by kernel_rfl) (by decide) h ?_
  clear h
  intro a w h
  exact hQ a w (h.keep [1, 2, 990, 3, 14])
theorem rCallable7a_region {Q : Exit → Act → World → Prop} (p0 : Pay) (l0 : Fo) (nb r : Nat)  {w0 : World} {a : Act} {w : World} (hr : w0.heap.size ≤ r) (h : Hold 18 [(2, .sat (rC nb r zp .nil)), (990, .sat (gP nb (some r))), (3, .val (.bool false))] w0 a w)
    (hQ : ∀ a' w', Hold 18 [(990, .sat (gP nb (some r))), (3, .val (.bool true)), (2, .sat (rC nb r zp .nil))] w0 a' w' → Q .normal a' w') : (Code.region 7 rCallable7Ops false).wp Try.prog Q a w := by
  refine region_seq (w0 := w) 3 (by kernel_rfl) ?_
  rw [show List.range 3 = [0, 1, 2] from rfl]
  refine env_one (i := 0) (d := 17) (k := .sat (nT nb (some r) zp .nil)) (step_nzero (by kernel_rfl) rfl) (by kernel_rfl) (by decide) h ?_
  clear h
  intro a w h
  refine env_store (i := 1) (x := 2) (y := 17) (r := r) [(990, .sat (gP nb (some r))), (3, .val (.bool false)), (17, .sat (nT nb (some r) zp .nil))] (by kernel_rfl) rfl rfl hr (stays_cons 990 rfl (away_gP _ _ _) (stays_cons 3 rfl (away_val _ _) (stays_cons 17 rfl (away_nT _ _ _ _) (stays_nil _ _)))) h ?_
  clear h
  intro a w h
  refine env_one (i := 2) (d := 3) (k := .val (.bool true)) (step_assign (by kernel_rfl) (Opd.const _) rfl) (by kernel_rfl) (by decide) h ?_
  clear h
  intro a w h
  exact hQ a w (h.keep [990, 3, 2])
theorem rCallable2a_region {Q : Exit → Act → World → Prop} (p0 : Pay) (l0 : Fo) (nb r : Nat)  {w0 : World} {a : Act} {w : World} (hr : w0.heap.size ≤ r) (h : Hold 18 [(1, .sat (nP 0 (some r) p0 l0)), (2, .sat (rC nb r zp .nil)), (990, .sat (gP nb (some r))), (3, .val (.bool false))] w0 a w)
    (hQ : ∀ a' w', Hold 18 [(1, .sat (nP 0 (some r) p0 l0)), (990, .sat (gP nb (some r))), (3, .val (.bool false)), (2, .sat (rC nb r zp .nil))] w0 a' w' → Q .normal a' w') : (Code.region 2 rCallable2Ops false).wp Try.prog Q a w := by
  refine region_seq (w0 := w) 3 (by kernel_rfl) ?_
  rw [show List.range 3 = [0, 1, 2] from rfl]
  refine env_one (i := 0) (d := 7) (k := .sat (nT nb (some r) zp .nil)) (step_nzero (by kernel_rfl) rfl) (by kernel_rfl) (by decide) h ?_
  clear h
  intro a w h
  refine env_store (i := 1) (x := 2) (y := 7) (r := r) [(1, .sat (nP 0 (some r) p0 l0)), (990, .sat (gP nb (some r))), (3, .val (.bool false)), (7, .sat (nT nb (some r) zp .nil))] (by kernel_rfl) rfl rfl hr (stays_cons 1 rfl (away_nP _ _ _ _) (stays_cons 990 rfl (away_gP _ _ _) (stays_cons 3 rfl (away_val _ _) (stays_cons 7 rfl (away_nT _ _ _ _) (stays_nil _ _))))) h ?_
  clear h
  intro a w h
  refine env_one (i := 2) (d := 3) (k := .val (.bool false)) (step_assign (by kernel_rfl) (Opd.const _) rfl) (by kernel_rfl) (by decide) h ?_
  clear h
  intro a w h
  exact hQ a w (h.keep [1, 990, 3, 2])
set_option maxHeartbeats 1000000 in
theorem rCallable_any (p0 : Pay) (l0 : Fo) (A0 : Option Addr) (c0 : Nat) (B : Nat) (w : World) (hA0 : ArgsB w B A0 (Tm.len l0) l0) (hB : B ≤ w.heap.size)  : Calls Try.prog 40 #[tv p0 A0 (Tm.len l0) c0] w (MkB w.heap.size ((Bl.callable p0 l0).1).1 ((Bl.callable p0 l0).1).2 ((Bl.callable p0 l0).2) w) := by
  refine calls_of_wp Try.func40 rCallable_body ?_
  obtain ⟨v0, hv0⟩ : ∃ v : Value, v = tv p0 A0 (Tm.len l0) c0 := ⟨_, rfl⟩
  rw [← hv0]
  have hk0 : (Kd.term p0 l0).R v0 w := by rw [hv0]; exact ⟨A0, c0, rfl, hA0.up hB⟩
  have hsN : (#[v0] ++ Array.replicate (Try.f40.ntmps - #[v0].size) undef : Array Value).size = 18 := by kernel_rfl
  have gs0 : (#[v0] ++ Array.replicate (Try.f40.ntmps - #[v0].size) undef : Array Value).getD 0 undef = v0 := by kernel_rfl
  generalize (#[v0] ++ Array.replicate (Try.f40.ntmps - #[v0].size) undef : Array Value) = tm at hsN gs0 ⊢
  obtain ⟨a, ha0⟩ : ∃ a : Act, a = ⟨tm, []⟩ := ⟨_, rfl⟩
  have h : Hold 18 [(0, .term p0 l0)] w ⟨tm, []⟩ w := ⟨hsN, rfl, Below.refl _ _, (slots_cons 0 (by rw [gs0]; exact hk0) slots_nil)⟩
  obtain ⟨nb, hnb⟩ : ∃ nb, nb = w.heap.size := ⟨_, rfl⟩
  have hn : nb ≤ w.heap.size := by omega
  refine wp_seq ?_
  refine rCallable0a_region p0 l0 nb  hn h ?_
  intro r a w1 hr h
  show Code.wp _ _ _ a w1
  refine wp_seq ?_
  refine wp_seq ?_
  refine rCallable1a_region p0 l0 nb r  hr h ?_
  intro a w1 h
  rcases Bool.eq_false_or_eq_true (Tm.validB p0 l0) with hv | hv
  · rw [hv] at h
    (try simp only [Bool.not_true, Bool.not_false] at h)
    show Code.wp _ _ _ a w1
    refine env_cond (b := false) rfl h ?_
    refine wp_skip ?_
    have h := h.keep [1, 2, 990, 3]
    show Code.wp _ _ _ a w1
    refine wp_seq ?_
    refine wp_seq ?_
    by_cases h1 : p0.1 = 0
    · refine rCallable3a_region p0 l0 nb r h1 hr h ?_
      intro a w1 h
      show Code.wp _ _ _ a w1
      refine env_cond (b := true) rfl h ?_
      have h := h.keep [1, 2, 990, 3]
      show Code.wp _ _ _ a w1
      refine wp_seq ?_
      refine rCallable4a_region p0 l0 nb r  hr h ?_
      intro a w1 h
      show Code.wp _ _ _ a w1
      have ev : Bl.callable p0 l0 = ((Bl.inst.1, Bl.inst.2), false) := by simp [Bl.callable, Bl.check, hv, h1]
      rw [ev]
      refine wp_ret ?_
      (try simp only [then_ret, block_ret])
      exact law_cb rfl (h.get 3 rfl) (h.get 2 rfl) h.defers fun A c ha => ⟨A, c, rfl, ha.mono fun b hb => ⟨by have := hb.1; omega, hb.2.1⟩, h.world⟩
    · refine rCallable3b_region p0 l0 nb r h1 hr h ?_
      intro a w1 h
      show Code.wp _ _ _ a w1
      refine env_cond (b := false) rfl h ?_
      refine wp_skip ?_
      have h := h.keep [1, 2, 990, 3]
      show Code.wp _ _ _ a w1
      refine wp_seq ?_
      refine wp_seq ?_
      by_cases h2 : p0.1 = 1
      · have h2b : (p0.1 != 1) = false := by rw [h2]; rfl
        refine rCallable5a_region p0 l0 nb r h2 hr h ?_
        intro a w1 h
        show Code.wp _ _ _ a w1
        refine env_cond (b := true) rfl h ?_
        have h := h.keep [1, 2, 990, 3]
        show Code.wp _ _ _ a w1
        refine wp_seq ?_
        refine rCallable6a_region p0 l0 nb r  hr h ?_
        intro a w1 h
        show Code.wp _ _ _ a w1
        have ev : Bl.callable p0 l0 = (((Bl.ty (⟨#[99, 97, 108, 108, 97, 98, 108, 101]⟩) p0 l0).1, (Bl.ty (⟨#[99, 97, 108, 108, 97, 98, 108, 101]⟩) p0 l0).2), false) := by simp [Bl.callable, Bl.check, hv, h1, h2b]
        rw [ev]
        refine wp_ret ?_
        (try simp only [then_ret, block_ret])
        exact law_cb rfl (h.get 3 rfl) (h.get 2 rfl) h.defers fun A c ha => ⟨A, c, rfl, ha.mono fun b hb => ⟨by have := hb.1; omega, hb.2.1⟩, h.world⟩
      · have h2b : (p0.1 != 1) = true := by simpa using h2
        refine rCallable5b_region p0 l0 nb r h2 hr h ?_
        intro a w1 h
        show Code.wp _ _ _ a w1
        refine env_cond (b := false) rfl h ?_
        refine wp_skip ?_
        have h := h.keep [2, 990, 3]
        show Code.wp _ _ _ a w1
        refine wp_seq ?_
        refine rCallable7a_region p0 l0 nb r  hr h ?_
        intro a w1 h
        show Code.wp _ _ _ a w1
        have ev : Bl.callable p0 l0 = ((zp, .nil), true) := by simp [Bl.callable, Bl.check, hv, h1, h2b]
        rw [ev]
        refine wp_ret ?_
        (try simp only [then_ret, block_ret])
        exact law_cb rfl (h.get 3 rfl) (h.get 2 rfl) h.defers fun A c ha => ⟨A, c, rfl, ha.mono fun b hb => ⟨by have := hb.1; omega, hb.2.1⟩, h.world⟩
  · rw [hv] at h
    (try simp only [Bool.not_true, Bool.not_false] at h)
    show Code.wp _ _ _ a w1
    refine env_cond (b := true) rfl h ?_
    have h := h.keep [1, 2, 990, 3]
    show Code.wp _ _ _ a w1
    refine wp_seq ?_
    refine rCallable2a_region p0 l0 nb r  hr h ?_
    intro a w1 h
    show Code.wp _ _ _ a w1
    have ev : Bl.callable p0 l0 = ((zp, .nil), false) := by simp [Bl.callable, Bl.check, hv]
    rw [ev]
    refine wp_ret ?_
    (try simp only [then_ret, block_ret])
    exact law_cb rfl (h.get 3 rfl) (h.get 2 rfl) h.defers fun A c ha => ⟨A, c, rfl, ha.mono fun b hb => ⟨by have := hb.1; omega, hb.2.1⟩, h.world⟩
section
variable {ops : Array Oper} {Q : Exit → Act → World → Prop} {E : Nat → Kd} {D : Nat → Nat} {base : Nat → Option Kd} {N : Nat}
theorem step_rCallable {i : Nat} {n g : Nat} {G : Option Nat} {x0 : Operand} {p0 : Pay} {l0 : Fo} (hop : (ops[i]?).map (·.op) = some (.call { callee := .value (.func 40), args := #[x0], argTypes := #[24] })) (h0 : Opd ops E D base N i x0 (.term p0 l0)) (hg : Opd ops E D base N i (.tmp g) (.sat (gP n G))) (hE : E i = .sat (nT2 n G ((Bl.callable p0 l0).1).1 ((Bl.callable p0 l0).1).2 ((Bl.callable p0 l0).2))) : Step Try.prog ops Q E D base N i :=
  step_mkB hop (fun _ _ => by kernel_rfl) hg (fun a w h => by
    obtain ⟨A0, c0, e0, ha0⟩ := h0 a w h
    rw [show (#[x0] : Array Operand).map a.eval = #[tv p0 A0 (Tm.len l0) c0] by rw [← e0]; simp]
    exact rCallable_any p0 l0 A0 c0 w.heap.size w ha0 (Nat.le_refl _)) hE
end
noncomputable def rAtomic0Ops : Array Oper := ((Try.f42.body).bind (findReg 0)).getD #[]
noncomputable def rAtomic1Ops : Array Oper := ((Try.f42.body).bind (findReg 1)).getD #[]
noncomputable def rAtomic2Ops : Array Oper := ((Try.f42.body).bind (findReg 2)).getD #[]
noncomputable def rAtomic3Ops : Array Oper := ((Try.f42.body).bind (findReg 3)).getD #[]
noncomputable def rAtomic4Ops : Array Oper := ((Try.f42.body).bind (findReg 4)).getD #[]
noncomputable def rAtomic5Ops : Array Oper := ((Try.f42.body).bind (findReg 5)).getD #[]
noncomputable def rAtomic6Ops : Array Oper := ((Try.f42.body).bind (findReg 6)).getD #[]
noncomputable def rAtomic7Ops : Array Oper := ((Try.f42.body).bind (findReg 7)).getD #[]
theorem rAtomic_body : Try.f42.body = some (.seq (.region 0 rAtomic0Ops false) (.seq (.seq (.region 1 rAtomic1Ops false) (.cond (.tmp 6) (.seq (.region 2 rAtomic2Ops false) .ret) .skip)) (.seq (.seq (.region 3 rAtomic3Ops false) (.cond (.tmp 10) (.seq (.region 4 rAtomic4Ops false) .ret) .skip)) (.seq (.seq (.region 5 rAtomic5Ops false) (.cond (.tmp 14) (.seq (.region 6 rAtomic6Ops false) .ret) .skip)) (.seq (.region 7 rAtomic7Ops false) .ret))))) := by kernel_rfl
theorem rAtomic0a_region {Q : Exit → Act → World → Prop} (p0 : Pay) (l0 : Fo) (nb : Nat)  {w0 : World} {a : Act} {w : World} (hn : nb ≤ w0.heap.size) (h : Hold 18 [(0, .term p0 l0)] w0 a w)
    (hQ : ∀ r a' w', w0.heap.size ≤ r → Hold 18 [(1, .sat (nP 0 (some r) p0 l0)), (2, .sat (rC nb r zp .nil)), (990, .sat (gP nb (some r))), (3, .val (.bool false))] w0 a' w' → Q .normal a' w') : (Code.region 0 rAtomic0Ops false).wp Try.prog Q a w := by
  refine region_seq (w0 := w) 3 (by kernel_rfl) ?_
  rw [show List.range 3 = [0, 1, 2] from rfl]
  refine env_one (i := 0) (d := 1) (k := .ptrT p0 l0) (step_box (by kernel_rfl) (Opd.of_base 0 rfl) rfl) (by kernel_rfl) (by decide) h ?_
  clear h
  intro a w h
  refine env_res (i := 1) (d := 2) (n := nb) (fun r => [(0, .sat (nT 0 (some r) p0 l0)), (1, .sat (nP 0 (some r) p0 l0))]) (by kernel_rfl) (by decide) (by decide) hn (fun r => (goes_cons 0 rfl (turns_term _ _ _) (goes_cons 1 rfl (turns_ptr _ _ _) (goes_nil _ _)))) h ?_
  clear h
  intro r a w hr h
  refine env_one (i := 2) (d := 3) (k := .val (.bool false)) (step_assign (by kernel_rfl) (Opd.const _) rfl) (by kernel_rfl) (by decide) h ?_
  clear h
  intro a w h
  exact hQ r a w hr (h.keep [1, 2, 990, 3])
theorem rAtomic1a_region {Q : Exit → Act → World → Prop} (p0 : Pay) (l0 : Fo) (nb r : Nat)  {w0 : World} {a : Act} {w : World} (hr : w0.heap.size ≤ r) (h : Hold 18 [(1, .sat (nP 0 (some r) p0 l0)), (2, .sat (rC nb r zp .nil)), (990, .sat (gP nb (some r))), (3, .val (.bool false))] w0 a w)
    (hQ : ∀ a' w', Hold 18 [(1, .sat (nP 0 (some r) p0 l0)), (2, .sat (rC nb r zp .nil)), (990, .sat (gP nb (some r))), (3, .val (.bool false)), (6, .val (.bool (!(Tm.validB p0 l0))))] w0 a' w' → Q .normal a' w') : (Code.region 1 rAtomic1Ops false).wp Try.prog Q a w := by
  refine region_seq (w0 := w) 3 (by kernel_rfl) ?_
  rw [show List.range 3 = [0, 1, 2] from rfl]
  refine env_one (i := 0) (d := 4) (k := .sat (nT 0 (some r) p0 l0)) (step_nload (by kernel_rfl) (Opd.of_base 1 rfl) rfl) (by kernel_rfl) (by decide) h ?_
  clear h
  intro a w h
  refine env_one (i := 1) (d := 5) (k := .val (.bool (Tm.validB p0 l0))) (step_rvalid6 (by kernel_rfl) (Opd.ofT (Opd.of_base 4 rfl)) rfl) (by kernel_rfl) (by decide) h ?_
  clear h
  intro a w h
  refine env_one (i := 2) (d := 6) (k := .val (.bool (!(Tm.validB p0 l0)))) (step_not (by kernel_rfl) (Opd.of_base 5 rfl) rfl) (by kernel_rfl) (by decide) h ?_
  clear h
  intro a w h
  exact hQ a w (h.keep [1, 2, 990, 3, 6])
theorem rAtomic3a_region {Q : Exit → Act → World → Prop} (p0 : Pay) (l0 : Fo) (nb r : Nat) (h1 : p0.1 = 0) {w0 : World} {a : Act} {w : World} (hr : w0.heap.size ≤ r) (h : Hold 18 [(1, .sat (nP 0 (some r) p0 l0)), (2, .sat (rC nb r zp .nil)), (990, .sat (gP nb (some r))), (3, .val (.bool false))] w0 a w)
    (hQ : ∀ a' w', Hold 18 [(1, .sat (nP 0 (some r) p0 l0)), (2, .sat (rC nb r zp .nil)), (990, .sat (gP nb (some r))), (3, .val (.bool false)), (10, .val (.bool true))] w0 a' w' → Q .normal a' w') : (Code.region 3 rAtomic3Ops false).wp Try.prog Q a w := by
  refine region_seq (w0 := w) 3 (by kernel_rfl) ?_
  rw [show List.range 3 = [0, 1, 2] from rfl]
  refine env_one (i := 0) (d := 8) (k := .ptrI (p0.1)) (step_field0 (by kernel_rfl) (Opd.ofP (Opd.of_base 1 rfl)) rfl) (by kernel_rfl) (by decide) h ?_
  clear h
  intro a w h
  refine env_one (i := 1) (d := 9) (k := .val (.int .i64 (p0.1))) (step_load_int3 (by kernel_rfl) (Opd.of_base 8 rfl) rfl) (by kernel_rfl) (by decide) h ?_
  clear h
  intro a w h
  refine env_one (i := 2) (d := 10) (k := .val (.bool true)) (step_eqb_int (m := (p0.1)) (n := 0) (by kernel_rfl) (Opd.of_base 9 rfl) (Opd.const _) (by rw [h1]; rfl) rfl) (by kernel_rfl) (by decide) h ?_
  clear h
  intro a w h
  exact hQ a w (h.keep [1, 2, 990, 3, 10])
theorem rAtomic4a_region {Q : Exit → Act → World → Prop} (p0 : Pay) (l0 : Fo) (nb r : Nat)  {w0 : World} {a : Act} {w : World} (hr : w0.heap.size ≤ r) (h : Hold 18 [(1, .sat (nP 0 (some r) p0 l0)), (2, .sat (rC nb r zp .nil)), (990, .sat (gP nb (some r))), (3, .val (.bool false))] w0 a w)
    (hQ : ∀ a' w', Hold 18 [(1, .sat (nP 0 (some r) p0 l0)), (990, .sat (gP nb (some r))), (3, .val (.bool false)), (2, .sat (rC nb r Bl.inst.1 Bl.inst.2))] w0 a' w' → Q .normal a' w') : (Code.region 4 rAtomic4Ops false).wp Try.prog Q a w := by
  refine region_seq (w0 := w) 3 (by kernel_rfl) ?_
  rw [show List.range 3 = [0, 1, 2] from rfl]
  refine env_one (i := 0) (d := 11) (k := .sat (nT nb (some r) Bl.inst.1 Bl.inst.2)) (step_rInst (g := 990) (by kernel_rfl)  (Opd.of_base 990 rfl) rfl) (by kernel_rfl) (by decide) h ?_
  clear h
  intro a w h
  refine env_store (i := 1) (x := 2) (y := 11) (r := r) [(1, .sat (nP 0 (some r) p0 l0)), (990, .sat (gP nb (some r))), (3, .val (.bool false)), (11, .sat (nT nb (some r) Bl.inst.1 Bl.inst.2))] (by kernel_rfl) rfl rfl hr (stays_cons 1 rfl (away_nP _ _ _ _) (stays_cons 990 rfl (away_gP _ _ _) (stays_cons 3 rfl (away_val _ _) (stays_cons 11 rfl (away_nT _ _ _ _) (stays_nil _ _))))) h ?_
  clear h
  intro a w h
  refine env_one (i := 2) (d := 3) (k := .val (.bool false)) (step_assign (by kernel_rfl) (Opd.const _) rfl) (by kernel_rfl) (by decide) h ?_
  clear h
  intro a w h
  exact hQ a w (h.keep [1, 990, 3, 2])
theorem rAtomic3b_region {Q : Exit → Act → World → Prop} (p0 : Pay) (l0 : Fo) (nb r : Nat) (h1 : ¬ p0.1 = 0) {w0 : World} {a : Act} {w : World} (hr : w0.heap.size ≤ r) (h : Hold 18 [(1, .sat (nP 0 (some r) p0 l0)), (2, .sat (rC nb r zp .nil)), (990, .sat (gP nb (some r))), (3, .val (.bool false))] w0 a w)
    (hQ : ∀ a' w', Hold 18 [(1, .sat (nP 0 (some r) p0 l0)), (2, .sat (rC nb r zp .nil)), (990, .sat (gP nb (some r))), (3, .val (.bool false)), (10, .val (.bool false))] w0 a' w' → Q .normal a' w') : (Code.region 3 rAtomic3Ops false).wp Try.prog Q a w := by
  refine region_seq (w0 := w) 3 (by kernel_rfl) ?_
  rw [show List.range 3 = [0, 1, 2] from rfl]
  refine env_one (i := 0) (d := 8) (k := .ptrI (p0.1)) (step_field0 (by kernel_rfl) (Opd.ofP (Opd.of_base 1 rfl)) rfl) (by kernel_rfl) (by decide) h ?_
  clear h
  intro a w h
  refine env_one (i := 1) (d := 9) (k := .val (.int .i64 (p0.1))) (step_load_int3 (by kernel_rfl) (Opd.of_base 8 rfl) rfl) (by kernel_rfl) (by decide) h ?_
  clear h
  intro a w h
  refine env_one (i := 2) (d := 10) (k := .val (.bool false)) (step_eqb_int (m := (p0.1)) (n := 0) (by kernel_rfl) (Opd.of_base 9 rfl) (Opd.const _) (by simpa using h1) rfl) (by kernel_rfl) (by decide) h ?_
  clear h
  intro a w h
  exact hQ a w (h.keep [1, 2, 990, 3, 10])
theorem rAtomic5a_region {Q : Exit → Act → World → Prop} (p0 : Pay) (l0 : Fo) (nb r : Nat) (h2 : p0.1 = 3) {w0 : World} {a : Act} {w : World} (hr : w0.heap.size ≤ r) (h : Hold 18 [(1, .sat (nP 0 (some r) p0 l0)), (2, .sat (rC nb r zp .nil)), (990, .sat (gP nb (some r))), (3, .val (.bool false))] w0 a w)
    (hQ : ∀ a' w', Hold 18 [(1, .sat (nP 0 (some r) p0 l0)), (2, .sat (rC nb r zp .nil)), (990, .sat (gP nb (some r))), (3, .val (.bool false)), (14, .val (.bool true))] w0 a' w' → Q .normal a' w') : (Code.region 5 rAtomic5Ops false).wp Try.prog Q a w := by
  refine region_seq (w0 := w) 3 (by kernel_rfl) ?_
  rw [show List.range 3 = [0, 1, 2] from rfl]
  refine env_one (i := 0) (d := 12) (k := .ptrI (p0.1)) (step_field0 (by kernel_rfl) (Opd.ofP (Opd.of_base 1 rfl)) rfl) (by kernel_rfl) (by decide) h ?_
  clear h
  intro a w h
  refine env_one (i := 1) (d := 13) (k := .val (.int .i64 (p0.1))) (step_load_int3 (by kernel_rfl) (Opd.of_base 12 rfl) rfl) (by kernel_rfl) (by decide) h ?_
  clear h
  intro a w h
  refine env_one (i := 2) (d := 14) (k := .val (.bool true)) (step_eqb_int (m := (p0.1)) (n := 3) (by kernel_rfl) (Opd.of_base 13 rfl) (Opd.const _) (by rw [h2]; rfl) rfl) (by kernel_rfl) (by decide) h ?_
  clear h
  intro a w h
  exact hQ a w (h.keep [1, 2, 990, 3, 14])
theorem rAtomic6a_region {Q : Exit → Act → World → Prop} (p0 : Pay) (l0 : Fo) (nb r : Nat)  {w0 : World} {a : Act} {w : World} (hr : w0.heap.size ≤ r) (h : Hold 18 [(1, .sat (nP 0 (some r) p0 l0)), (2, .sat (rC nb r zp .nil)), (990, .sat (gP nb (some r))), (3, .val (.bool false))] w0 a w)
    (hQ : ∀ a' w', Hold 18 [(990, .sat (gP nb (some r))), (3, .val (.bool false)), (2, .sat (rC nb r ((Bl.ty (⟨#[97, 116, 111, 109, 105, 99]⟩) p0 l0).1) ((Bl.ty (⟨#[97, 116, 111, 109, 105, 99]⟩) p0 l0).2)))] w0 a' w' → Q .normal a' w') : (Code.region 6 rAtomic6Ops false).wp Try.prog Q a w := by
  refine region_seq (w0 := w) 4 (by kernel_rfl) ?_
  rw [show List.range 4 = [0, 1, 2, 3] from rfl]
  refine env_one (i := 0) (d := 15) (k := .sat (nT 0 (some r) p0 l0)) (step_nload (by kernel_rfl) (Opd.of_base 1 rfl) rfl) (by kernel_rfl) (by decide) h ?_
  clear h
  intro a w h
  refine env_one (i := 1) (d := 16) (k := .sat (nT nb (some r) ((Bl.ty (⟨#[97, 116, 111, 109, 105, 99]⟩) p0 l0).1) ((Bl.ty (⟨#[97, 116, 111, 109, 105, 99]⟩) p0 l0).2))) (step_rTy (g := 990) (by kernel_rfl) (Opd.const _) (Opd.ofT (Opd.of_base 15 rfl)) (Opd.of_base 990 rfl) rfl) (by kernel_rfl) (by decide) h ?_
  clear h
  intro a w h
  refine env_store (i := 2) (x := 2) (y := 16) (r := r) [(1, .sat (nP 0 (some r) p0 l0)), (990, .sat (gP nb (some r))), (3, .val (.bool false)), (15, .sat (nT 0 (some r) p0 l0)), (16, .sat (nT nb (some r) ((Bl.ty (⟨#[97, 116, 111, 109, 105, 99]⟩) p0 l0).1) ((Bl.ty (⟨#[97, 116, 111, 109, 105, 99]⟩) p0 l0).2)))] (by kernel_rfl) rfl rfl hr (stays_cons 1 rfl (away_nP _ _ _ _) (stays_cons 990 rfl (away_gP _ _ _) (stays_cons 3 rfl (away_val _ _) (stays_cons 15 rfl (away_nT _ _ _ _) (stays_cons 16 rfl (away_nT _ _ _ _) (stays_nil _ _)))))) h ?_
  clear h
  intro a w h
  refine env_one (i := 3) (d := 3) (k := .val (.bool false)) (step_assign (by kernel_rfl) (Opd.const _) rfl) (by kernel_rfl) (by decide) h ?_
  clear h
  intro a w h
  exact hQ a w (h.keep [990, 3, 2])
theorem rAtomic5b_region {Q : Exit → Act → World → Prop} (p0 : Pay) (l0 : Fo) (nb r : Nat) (h2 : ¬ p0.1 = 3) {w0 : World} {a : Act} {w : World} (hr : w0.heap.size ≤ r) (h : Hold 18 [(1, .sat (nP 0 (some r) p0 l0)), (2, .sat (rC nb r zp .nil)), (990, .sat (gP nb (some r))), (3, .val (.bool false))] w0 a w)
    (hQ : ∀ a' w', Hold 18 [(1, .sat (nP 0 (some r) p0 l0)), (2, .sat (rC nb r zp .nil)), (990, .sat (gP nb (some r))), (3, .val (.bool false)), (14, .val (.bool false))] w0 a' w' → Q .normal a' w') : (Code.region 5 rAtomic5Ops false).wp Try.prog Q a w := by
  refine region_seq (w0 := w) 3 (by kernel_rfl) ?_
  rw [show List.range 3 = [0, 1, 2] from rfl]
  refine env_one (i := 0) (d := 12) (k := .ptrI (p0.1)) (step_field0 (by kernel_rfl) (Opd.ofP (Opd.of_base 1 rfl)) rfl) (by kernel_rfl) (by decide) h ?_
  clear h
  intro a w h
  refine env_one (i := 1) (d := 13) (k := .val (.int .i64 (p0.1))) (step_load_int3 (by kernel_rfl) (Opd.of_base 12 rfl) rfl) (by kernel_rfl) (by decide) h ?_
  clear h
  intro a w h
  refine env_one (i := 2) (d := 14) (k := .val (.bool false)) (step_eqb_int (m := (p0.1)) (n := 3) (by kernel_rfl) (Opd.of_base 13 rfl) (Opd.const _) (by simpa using h2) rfl) (by kernel_rfl) (by decide) h ?_
  clear h
  intro a w h
  exact hQ a w (h.keep [1, 2, 990, 3, 14])
theorem rAtomic7a_region {Q : Exit → Act → World → Prop} (p0 : Pay) (l0 : Fo) (nb r : Nat)  {w0 : World} {a : Act} {w : World} (hr : w0.heap.size ≤ r) (h : Hold 18 [(2, .sat (rC nb r zp .nil)), (990, .sat (gP nb (some r))), (3, .val (.bool false))] w0 a w)
    (hQ : ∀ a' w', Hold 18 [(990, .sat (gP nb (some r))), (3, .val (.bool true)), (2, .sat (rC nb r zp .nil))] w0 a' w' → Q .normal a' w') : (Code.region 7 rAtomic7Ops false).wp Try.prog Q a w := by
  refine region_seq (w0 := w) 3 (by kernel_rfl) ?_
  rw [show List.range 3 = [0, 1, 2] from rfl]
  refine env_one (i := 0) (d := 17) (k := .sat (nT nb (some r) zp .nil)) (step_nzero (by kernel_rfl) rfl) (by kernel_rfl) (by decide) h ?_
  clear h
  intro a w h
  refine env_store (i := 1) (x := 2) (y := 17) (r := r) [(990, .sat (gP nb (some r))), (3, .val (.bool false)), (17, .sat (nT nb (some r) zp .nil))] (by kernel_rfl) rfl rfl hr (stays_cons 990 rfl (away_gP _ _ _) (stays_cons 3 rfl (away_val _ _) (stays_cons 17 rfl (away_nT _ _ _ _) (stays_nil _ _)))) h ?_
  clear h
  intro a w h
  refine env_one (i := 2) (d := 3) (k := .val (.bool true)) (step_assign (by kernel_rfl) (Opd.const _) rfl) (by kernel_rfl) (by decide) h ?_
  clear h
  intro a w h
  exact hQ a w (h.keep [990, 3, 2])
theorem rAtomic2a_region {Q : Exit → Act → World → Prop} (p0 : Pay) (l0 : Fo) (nb r : Nat)  {w0 : World} {a : Act} {w : World} (hr : w0.heap.size ≤ r) (h : Hold 18 [(1, .sat (nP 0 (some r) p0 l0)), (2, .sat (rC nb r zp .nil)), (990, .sat (gP nb (some r))), (3, .val (.bool false))] w0 a w)
    (hQ : ∀ a' w', Hold 18 [(1, .sat (nP 0 (some r) p0 l0)), (990, .sat (gP nb (some r))), (3, .val (.bool false)), (2, .sat (rC nb r zp .nil))] w0 a' w' → Q .normal a' w') : (Code.region 2 rAtomic2Ops false).wp Try.prog Q a w := by
  refine region_seq (w0 := w) 3 (by kernel_rfl) ?_
  rw [show List.range 3 = [0, 1, 2] from rfl]
  refine env_one (i := 0) (d := 7) (k := .sat (nT nb (some r) zp .nil)) (step_nzero (by kernel_rfl) rfl) (by kernel_rfl) (by decide) h ?_
  clear h
  intro a w h
  refine env_store (i := 1) (x := 2) (y := 7) (r := r) [(1, .sat (nP 0 (some r) p0 l0)), (990, .sat (gP nb (some r))), (3, .val (.bool false)), (7, .sat (nT nb (some r) zp .nil))] (by kernel_rfl) rfl rfl hr (stays_cons 1 rfl (away_nP _ _ _ _) (stays_cons 990 rfl (away_gP _ _ _) (stays_cons 3 rfl (away_val _ _) (stays_cons 7 rfl (away_nT _ _ _ _) (stays_nil _ _))))) h ?_
  clear h
  intro a w h
  refine env_one (i := 2) (d := 3) (k := .val (.bool false)) (step_assign (by kernel_rfl) (Opd.const _) rfl) (by kernel_rfl) (by decide) h ?_
  clear h
  intro a w h
  exact hQ a w (h.keep [1, 990, 3, 2])
set_option maxHeartbeats 1000000 in
theorem rAtomic_any (p0 : Pay) (l0 : Fo) (A0 : Option Addr) (c0 : Nat) (B : Nat) (w : World) (hA0 : ArgsB w B A0 (Tm.len l0) l0) (hB : B ≤ w.heap.size)  : Calls Try.prog 42 #[tv p0 A0 (Tm.len l0) c0] w (MkB w.heap.size ((Bl.atomic p0 l0).1).1 ((Bl.atomic p0 l0).1).2 ((Bl.atomic p0 l0).2) w) := by
  refine calls_of_wp Try.func42 rAtomic_body ?_
  obtain ⟨v0, hv0⟩ : ∃ v : Value, v = tv p0 A0 (Tm.len l0) c0 := ⟨_, rfl⟩
  rw [← hv0]
  have hk0 : (Kd.term p0 l0).R v0 w := by rw [hv0]; exact ⟨A0, c0, rfl, hA0.up hB⟩
  have hsN : (#[v0] ++ Array.replicate (Try.f42.ntmps - #[v0].size) undef : Array Value).size = 18 := by kernel_rfl
  have gs0 : (#[v0] ++ Array.replicate (Try.f42.ntmps - #[v0].size) undef : Array Value).getD 0 undef = v0 := by kernel_rfl
  generalize (#[v0] ++ Array.replicate (Try.f42.ntmps - #[v0].size) undef : Array Value) = tm at hsN gs0 ⊢
  obtain ⟨a, ha0⟩ : ∃ a : Act, a = ⟨tm, []⟩ := ⟨_, rfl⟩
  have h : Hold 18 [(0, .term p0 l0)] w ⟨tm, []⟩ w := ⟨hsN, rfl, Below.refl _ _, (slots_cons 0 (by rw [gs0]; exact hk0) slots_nil)⟩
  obtain ⟨nb, hnb⟩ : ∃ nb, nb = w.heap.size := ⟨_, rfl⟩
  have hn : nb ≤ w.heap.size := by omega
  refine wp_seq ?_
  refine rAtomic0a_region p0 l0 nb  hn h ?_
  intro r a w1 hr h
  show Code.wp _ _ _ a w1
  refine wp_seq ?_
  refine wp_seq ?_
  refine rAtomic1a_region p0 l0 nb r  hr h ?_
  intro a w1 h
  rcases Bool.eq_false_or_eq_true (Tm.validB p0 l0) with hv | hv
  · rw [hv] at h
    (try simp only [Bool.not_true, Bool.not_false] at h)
    show Code.wp _ _ _ a w1
    refine env_cond (b := false) rfl h ?_
    refine wp_skip ?_
    have h := h.keep [1, 2, 990, 3]
    show Code.wp _ _ _ a w1
    refine wp_seq ?_
    refine wp_seq ?_
    by_cases h1 : p0.1 = 0
    · refine rAtomic3a_region p0 l0 nb r h1 hr h ?_
      intro a w1 h
      show Code.wp _ _ _ a w1
      refine env_cond (b := true) rfl h ?_
      have h := h.keep [1, 2, 990, 3]
      show Code.wp _ _ _ a w1
      refine wp_seq ?_
      refine rAtomic4a_region p0 l0 nb r  hr h ?_
      intro a w1 h
      show Code.wp _ _ _ a w1
      have ev : Bl.atomic p0 l0 = ((Bl.inst.1, Bl.inst.2), false) := by simp [Bl.atomic, Bl.check, hv, h1]
      rw [ev]
      refine wp_ret ?_
      (try simp only [then_ret, block_ret])
      exact law_cb rfl (h.get 3 rfl) (h.get 2 rfl) h.defers fun A c ha => ⟨A, c, rfl, ha.mono fun b hb => ⟨by have := hb.1; omega, hb.2.1⟩, h.world⟩
    · refine rAtomic3b_region p0 l0 nb r h1 hr h ?_
      intro a w1 h
      show Code.wp _ _ _ a w1
      refine env_cond (b := false) rfl h ?_
      refine wp_skip ?_
      have h := h.keep [1, 2, 990, 3]
      show Code.wp _ _ _ a w1
      refine wp_seq ?_
      refine wp_seq ?_
      by_cases h2 : p0.1 = 3
      · have h2b : (p0.1 != 3) = false := by rw [h2]; rfl
        refine rAtomic5a_region p0 l0 nb r h2 hr h ?_
        intro a w1 h
        show Code.wp _ _ _ a w1
        refine env_cond (b := true) rfl h ?_
        have h := h.keep [1, 2, 990, 3]
        show Code.wp _ _ _ a w1
        refine wp_seq ?_
        refine rAtomic6a_region p0 l0 nb r  hr h ?_
        intro a w1 h
        show Code.wp _ _ _ a w1
        have ev : Bl.atomic p0 l0 = (((Bl.ty (⟨#[97, 116, 111, 109, 105, 99]⟩) p0 l0).1, (Bl.ty (⟨#[97, 116, 111, 109, 105, 99]⟩) p0 l0).2), false) := by simp [Bl.atomic, Bl.check, hv, h1, h2b]
        rw [ev]
        refine wp_ret ?_
        (try simp only [then_ret, block_ret])
        exact law_cb rfl (h.get 3 rfl) (h.get 2 rfl) h.defers fun A c ha => ⟨A, c, rfl, ha.mono fun b hb => ⟨by have := hb.1; omega, hb.2.1⟩, h.world⟩
      · have h2b : (p0.1 != 3) = true := by simpa using h2
        refine rAtomic5b_region p0 l0 nb r h2 hr h ?_
        intro a w1 h
        show Code.wp _ _ _ a w1
        refine env_cond (b := false) rfl h ?_
        refine wp_skip ?_
        have h := h.keep [2, 990, 3]
        show Code.wp _ _ _ a w1
        refine wp_seq ?_
        refine rAtomic7a_region p0 l0 nb r  hr h ?_
        intro a w1 h
        show Code.wp _ _ _ a w1
        have ev : Bl.atomic p0 l0 = ((zp, .nil), true) := by simp [Bl.atomic, Bl.check, hv, h1, h2b]
        rw [ev]
        refine wp_ret ?_
        (try simp only [then_ret, block_ret])
        exact law_cb rfl (h.get 3 rfl) (h.get 2 rfl) h.defers fun A c ha => ⟨A, c, rfl, ha.mono fun b hb => ⟨by have := hb.1; omega, hb.2.1⟩, h.world⟩
  · rw [hv] at h
    (try simp only [Bool.not_true, Bool.not_false] at h)
    show Code.wp _ _ _ a w1
    refine env_cond (b := true) rfl h ?_
    have h := h.keep [1, 2, 990, 3]
    show Code.wp _ _ _ a w1
    refine wp_seq ?_
    refine rAtomic2a_region p0 l0 nb r  hr h ?_
    intro a w1 h
    show Code.wp _ _ _ a w1
    have ev : Bl.atomic p0 l0 = ((zp, .nil), false) := by simp [Bl.atomic, Bl.check, hv]
    rw [ev]
    refine wp_ret ?_
    (try simp only [then_ret, block_ret])
    exact law_cb rfl (h.get 3 rfl) (h.get 2 rfl) h.defers fun A c ha => ⟨A, c, rfl, ha.mono fun b hb => ⟨by have := hb.1; omega, hb.2.1⟩, h.world⟩
section
variable {ops : Array Oper} {Q : Exit → Act → World → Prop} {E : Nat → Kd} {D : Nat → Nat} {base : Nat → Option Kd} {N : Nat}
theorem step_rAtomic {i : Nat} {n g : Nat} {G : Option Nat} {x0 : Operand} {p0 : Pay} {l0 : Fo} (hop : (ops[i]?).map (·.op) = some (.call { callee := .value (.func 42), args := #[x0], argTypes := #[24] })) (h0 : Opd ops E D base N i x0 (.term p0 l0)) (hg : Opd ops E D base N i (.tmp g) (.sat (gP n G))) (hE : E i = .sat (nT2 n G ((Bl.atomic p0 l0).1).1 ((Bl.atomic p0 l0).1).2 ((Bl.atomic p0 l0).2))) : Step Try.prog ops Q E D base N i :=
  step_mkB hop (fun _ _ => by kernel_rfl) hg (fun a w h => by
    obtain ⟨A0, c0, e0, ha0⟩ := h0 a w h
    rw [show (#[x0] : Array Operand).map a.eval = #[tv p0 A0 (Tm.len l0) c0] by rw [← e0]; simp]
    exact rAtomic_any p0 l0 A0 c0 w.heap.size w ha0 (Nat.le_refl _)) hE
end
end Go.Proofs.Ytapcnehpechkpaa
