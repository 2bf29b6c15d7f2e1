/-
  The examples of the chapter: the statements' own awake.
-/
import Derived.Test.YtapcnehpechkpaaLaw6
namespace Go.Proofs.Ytapcnehpechkpaa
set_option linter.unusedVariables false
set_option linter.unusedSimpArgs false
set_option maxRecDepth 100000
open Go.RowKit
section
variable {ops : Array Oper} {Q : Exit → Act → World → Prop} {E : Nat → Kd} {D : Nat → Nat} {base : Nat → Option Kd} {N : Nat}
theorem step_bList {i : Nat} {n g : Nat} {G : Option Nat} {x0 : Operand} {p0 : Pay} {l0 : Fo} (hop : (ops[i]?).map (·.op) = some (.call { callee := .value (.func 43), args := #[x0], argTypes := #[24] })) (h0 : Opd ops E D base N i x0 (.term p0 l0)) (hg : Opd ops E D base N i (.tmp g) (.sat (gP n G))) (hE : E i = .sat (nL3 n G ((Bl.list p0 l0).1) ((Bl.list p0 l0).2.1).1 ((Bl.list p0 l0).2.1).2 ((Bl.list p0 l0).2.2))) : Step Try.prog ops Q E D base N i :=
  step_mkLB hop (fun _ _ => by kernel_rfl) hg (fun a w h => by
    obtain ⟨A0, c0, e0, ha0⟩ := h0 a w h
    rw [show (#[x0] : Array Operand).map a.eval = #[tv p0 A0 (Tm.len l0) c0] by rw [← e0]; simp]
    exact bList_any p0 l0 A0 c0 w.heap.size w ha0 (Nat.le_refl _)) hE
end
def awF0 : Fo := (.node (2, 0, ⟨#[102]⟩) .nil (.node (1, 1, ByteArray.empty) .nil .nil))
def awF1 : Fo := (.node (2, 0, ⟨#[97]⟩) .nil (.node (0, 0, ByteArray.empty) .nil .nil))
def awF2 : Fo := (.node (2, 0, ⟨#[98]⟩) .nil (.node (0, 0, ByteArray.empty) .nil .nil))
def awF3 : Fo := (.node (2, 0, ⟨#[97]⟩) .nil (.node (3, 0, ⟨#[46]⟩) awF2 .nil))
def awF4 : Fo := (.node (2, 0, ⟨#[102]⟩) .nil (.node (1, 2, ByteArray.empty) .nil .nil))
def awF5 : Fo := (.node (2, 0, (⟨#[109, 111, 100, 105, 102, 121]⟩)) .nil (.node (2, 0, (⟨#[115, 116, 97, 116, 105, 99, 95, 112, 114, 111, 99, 101, 100, 117, 114, 101]⟩)) .nil (.node (3, 0, ⟨#[47]⟩) awF0 .nil)))
def awF6 : Fo := (.node (1, 3, ByteArray.empty) .nil .nil)
def awF7 : Fo := (.node (2, 0, (⟨#[97, 116, 111, 109]⟩)) .nil (.node (1, 3, ByteArray.empty) .nil .nil))
def awF8 : Fo := (.node (2, 0, (⟨#[99, 104, 97, 114, 97, 99, 116, 101, 114, 95, 99, 111, 100, 101]⟩)) .nil .nil)
noncomputable def awake0Ops : Array Oper := ((Try.f31.body).bind (findReg 0)).getD #[]
noncomputable def awake1Ops : Array Oper := ((Try.f31.body).bind (findReg 1)).getD #[]
noncomputable def awake2Ops : Array Oper := ((Try.f31.body).bind (findReg 2)).getD #[]
noncomputable def awake3Ops : Array Oper := ((Try.f31.body).bind (findReg 3)).getD #[]
noncomputable def awake4Ops : Array Oper := ((Try.f31.body).bind (findReg 4)).getD #[]
noncomputable def awake5Ops : Array Oper := ((Try.f31.body).bind (findReg 5)).getD #[]
noncomputable def awake6Ops : Array Oper := ((Try.f31.body).bind (findReg 6)).getD #[]
noncomputable def awake7Ops : Array Oper := ((Try.f31.body).bind (findReg 7)).getD #[]
noncomputable def awake8Ops : Array Oper := ((Try.f31.body).bind (findReg 8)).getD #[]
theorem awake_body : Try.f31.body = some (.seq (.region 0 awake0Ops false) (.seq (.region 1 awake1Ops false) (.seq (.region 2 awake2Ops false) (.seq (.region 3 awake3Ops false) (.seq (.region 4 awake4Ops false) (.seq (.region 5 awake5Ops false) (.seq (.region 6 awake6Ops false) (.seq (.region 7 awake7Ops false) (.seq (.region 8 awake8Ops true) .ret))))))))) := by kernel_rfl
theorem awake0a_region {Q : Exit → Act → World → Prop}   {w0 : World} {a : Act} {w : World} (h : Hold 163 [(990, .sat (gP 0 none))] w0 a w)
    (hQ : ∀ a' w', Hold 163 [(990, .sat (gP 0 none)), (0, .val (.bool false))] w0 a' w' → Q .normal a' w') : (Code.region 0 awake0Ops false).wp Try.prog Q a w := by
  refine region_seq (w0 := w) 1 (by kernel_rfl) ?_
  rw [show List.range 1 = [0] from rfl]
  refine env_one (i := 0) (d := 0) (k := .val (.bool false)) (step_assign (by kernel_rfl) (Opd.const _) rfl) (by kernel_rfl) (by decide) h ?_
  clear h
  intro a w h
  exact hQ a w (h.keep [990, 0])
theorem awake1a_region {Q : Exit → Act → World → Prop}   {w0 : World} {a : Act} {w : World} (h : Hold 163 [(990, .sat (gP 0 none)), (0, .val (.bool false))] w0 a w)
    (hQ : ∀ a' w', Hold 163 [(990, .sat (gP 0 none)), (0, .val (.bool false)), (1, .ptrT ((Bl.perm (⟨#[109, 111, 100, 105, 102, 121]⟩) (⟨#[115, 116, 97, 116, 105, 99, 95, 112, 114, 111, 99, 101, 100, 117, 114, 101]⟩) (3, 0, ⟨#[47]⟩) awF0).1) ((Bl.perm (⟨#[109, 111, 100, 105, 102, 121]⟩) (⟨#[115, 116, 97, 116, 105, 99, 95, 112, 114, 111, 99, 101, 100, 117, 114, 101]⟩) (3, 0, ⟨#[47]⟩) awF0).2))] w0 a' w' → Q .normal a' w') : (Code.region 1 awake1Ops false).wp Try.prog Q a w := by
  refine region_seq (w0 := w) 7 (by kernel_rfl) ?_
  rw [show List.range 7 = [0, 1, 2, 3, 4, 5, 6] from rfl]
  refine env_one (i := 0) (d := 20) (k := .sat (nT 0 none (2, 0, ⟨#[102]⟩) .nil)) (step_la (g := 990) (by kernel_rfl) (Opd.const _) (Opd.of_base 990 rfl) rfl) (by kernel_rfl) (by decide) h ?_
  clear h
  intro a w h
  refine env_one (i := 1) (d := 21) (k := .sat (nT 0 none (1, 1, ByteArray.empty) .nil)) (step_ln (g := 990) (by kernel_rfl) (Opd.const _) (Opd.of_base 990 rfl) rfl) (by kernel_rfl) (by decide) h ?_
  clear h
  intro a w h
  refine env_one (i := 2) (d := 22) (k := .sat (nK 0 none awF0)) (step_nslice2 (g := 990) (by kernel_rfl) (Opd.of_base 20 rfl) (Opd.of_base 21 rfl) (Opd.of_base 990 rfl) rfl) (by kernel_rfl) (by decide) h ?_
  clear h
  intro a w h
  refine env_one (i := 3) (d := 23) (k := .sat (nT 0 none (3, 0, ⟨#[47]⟩) awF0)) (step_lf (by kernel_rfl) (Opd.const _) (Opd.ofK (Opd.of_base 22 rfl)) rfl) (by kernel_rfl) (by decide) h ?_
  clear h
  intro a w h
  refine env_one (i := 4) (d := 24) (k := .sat (nT 0 none ((Bl.perm (⟨#[109, 111, 100, 105, 102, 121]⟩) (⟨#[115, 116, 97, 116, 105, 99, 95, 112, 114, 111, 99, 101, 100, 117, 114, 101]⟩) (3, 0, ⟨#[47]⟩) awF0).1) ((Bl.perm (⟨#[109, 111, 100, 105, 102, 121]⟩) (⟨#[115, 116, 97, 116, 105, 99, 95, 112, 114, 111, 99, 101, 100, 117, 114, 101]⟩) (3, 0, ⟨#[47]⟩) awF0).2))) (step_bPerm (g := 990) (by kernel_rfl) (Opd.const _) (Opd.const _) (Opd.ofT (Opd.of_base 23 rfl)) (Opd.of_base 990 rfl) rfl) (by kernel_rfl) (by decide) h ?_
  clear h
  intro a w h
  have h := h.cast 24 rfl
  refine env_box (i := 5) (d := 1) (by kernel_rfl) (by decide) (by kernel_rfl) (by decide) (s := 24) rfl h ?_
  clear h
  intro a w h
  exact hQ a w (h.keep [990, 0, 1])
theorem awake2a_region {Q : Exit → Act → World → Prop}   {w0 : World} {a : Act} {w : World} (h : Hold 163 [(990, .sat (gP 0 none)), (0, .val (.bool false)), (1, .ptrT ((Bl.perm (⟨#[109, 111, 100, 105, 102, 121]⟩) (⟨#[115, 116, 97, 116, 105, 99, 95, 112, 114, 111, 99, 101, 100, 117, 114, 101]⟩) (3, 0, ⟨#[47]⟩) awF0).1) ((Bl.perm (⟨#[109, 111, 100, 105, 102, 121]⟩) (⟨#[115, 116, 97, 116, 105, 99, 95, 112, 114, 111, 99, 101, 100, 117, 114, 101]⟩) (3, 0, ⟨#[47]⟩) awF0).2))] w0 a w)
    (hQ : ∀ a' w', Hold 163 [(990, .sat (gP 0 none)), (0, .val (.bool false)), (1, .ptrT ((Bl.perm (⟨#[109, 111, 100, 105, 102, 121]⟩) (⟨#[115, 116, 97, 116, 105, 99, 95, 112, 114, 111, 99, 101, 100, 117, 114, 101]⟩) (3, 0, ⟨#[47]⟩) awF0).1) ((Bl.perm (⟨#[109, 111, 100, 105, 102, 121]⟩) (⟨#[115, 116, 97, 116, 105, 99, 95, 112, 114, 111, 99, 101, 100, 117, 114, 101]⟩) (3, 0, ⟨#[47]⟩) awF0).2)), (2, .ptrT (((Bl.formal (3, 0, ⟨#[101, 114, 114, 111, 114]⟩) awF1).1).1) (((Bl.formal (3, 0, ⟨#[101, 114, 114, 111, 114]⟩) awF1).1).2)), (3, .val (.bool true))] w0 a' w' → Q .normal a' w') : (Code.region 2 awake2Ops false).wp Try.prog Q a w := by
  refine region_seq (w0 := w) 11 (by kernel_rfl) ?_
  rw [show List.range 11 = [0, 1, 2, 3, 4, 5, 6, 7, 8, 9, 10] from rfl]
  refine env_one (i := 0) (d := 26) (k := .sat (nT 0 none (2, 0, ⟨#[97]⟩) .nil)) (step_la (g := 990) (by kernel_rfl) (Opd.const _) (Opd.of_base 990 rfl) rfl) (by kernel_rfl) (by decide) h ?_
  clear h
  intro a w h
  refine env_one (i := 1) (d := 27) (k := .sat (nT 0 none (0, 0, ByteArray.empty) .nil)) (step_lx (g := 990) (by kernel_rfl) (Opd.const _) (Opd.of_base 990 rfl) rfl) (by kernel_rfl) (by decide) h ?_
  clear h
  intro a w h
  refine env_one (i := 2) (d := 28) (k := .sat (nK 0 none awF1)) (step_nslice2 (g := 990) (by kernel_rfl) (Opd.of_base 26 rfl) (Opd.of_base 27 rfl) (Opd.of_base 990 rfl) rfl) (by kernel_rfl) (by decide) h ?_
  clear h
  intro a w h
  refine env_one (i := 3) (d := 29) (k := .sat (nT 0 none (3, 0, ⟨#[101, 114, 114, 111, 114]⟩) awF1)) (step_lf (by kernel_rfl) (Opd.const _) (Opd.ofK (Opd.of_base 28 rfl)) rfl) (by kernel_rfl) (by decide) h ?_
  clear h
  intro a w h
  refine env_one (i := 4) (d := 30) (k := .sat (nT2 0 none (((Bl.formal (3, 0, ⟨#[101, 114, 114, 111, 114]⟩) awF1).1).1) (((Bl.formal (3, 0, ⟨#[101, 114, 114, 111, 114]⟩) awF1).1).2) ((Bl.formal (3, 0, ⟨#[101, 114, 114, 111, 114]⟩) awF1).2))) (step_bFormal (g := 990) (by kernel_rfl) (Opd.ofT (Opd.of_base 29 rfl)) (Opd.of_base 990 rfl) rfl) (by kernel_rfl) (by decide) h ?_
  clear h
  intro a w h
  refine env_one (i := 5) (d := 25) (k := .sat (nT2 0 none (((Bl.formal (3, 0, ⟨#[101, 114, 114, 111, 114]⟩) awF1).1).1) (((Bl.formal (3, 0, ⟨#[101, 114, 114, 111, 114]⟩) awF1).1).2) ((Bl.formal (3, 0, ⟨#[101, 114, 114, 111, 114]⟩) awF1).2))) (step_move (by kernel_rfl) (Opd.of_base 30 rfl) rfl) (by kernel_rfl) (by decide) h ?_
  clear h
  intro a w h
  refine env_one (i := 6) (d := 31) (k := .sat (nT 0 none (((Bl.formal (3, 0, ⟨#[101, 114, 114, 111, 114]⟩) awF1).1).1) (((Bl.formal (3, 0, ⟨#[101, 114, 114, 111, 114]⟩) awF1).1).2))) (step_nT2_0 (by kernel_rfl) (Opd.of_base 25 rfl) rfl) (by kernel_rfl) (by decide) h ?_
  clear h
  intro a w h
  refine env_one (i := 7) (d := 32) (k := .val (.bool true)) (step_nT2_1 (by kernel_rfl) (Opd.of_base 25 rfl) (by kernel_rfl)) (by kernel_rfl) (by decide) h ?_
  clear h
  intro a w h
  have h := h.cast 31 rfl
  refine env_box (i := 8) (d := 2) (by kernel_rfl) (by decide) (by kernel_rfl) (by decide) (s := 31) rfl h ?_
  clear h
  intro a w h
  refine env_one (i := 10) (d := 3) (k := .val (.bool true)) (step_assign (by kernel_rfl) (Opd.of_base 32 rfl) rfl) (by kernel_rfl) (by decide) h ?_
  clear h
  intro a w h
  exact hQ a w (h.keep [990, 0, 1, 2, 3])
theorem awake3a_region {Q : Exit → Act → World → Prop}   {w0 : World} {a : Act} {w : World} (h : Hold 163 [(990, .sat (gP 0 none)), (0, .val (.bool false)), (1, .ptrT ((Bl.perm (⟨#[109, 111, 100, 105, 102, 121]⟩) (⟨#[115, 116, 97, 116, 105, 99, 95, 112, 114, 111, 99, 101, 100, 117, 114, 101]⟩) (3, 0, ⟨#[47]⟩) awF0).1) ((Bl.perm (⟨#[109, 111, 100, 105, 102, 121]⟩) (⟨#[115, 116, 97, 116, 105, 99, 95, 112, 114, 111, 99, 101, 100, 117, 114, 101]⟩) (3, 0, ⟨#[47]⟩) awF0).2)), (2, .ptrT (((Bl.formal (3, 0, ⟨#[101, 114, 114, 111, 114]⟩) awF1).1).1) (((Bl.formal (3, 0, ⟨#[101, 114, 114, 111, 114]⟩) awF1).1).2)), (3, .val (.bool true))] w0 a w)
    (hQ : ∀ a' w', Hold 163 [(990, .sat (gP 0 none)), (0, .val (.bool false)), (1, .ptrT ((Bl.perm (⟨#[109, 111, 100, 105, 102, 121]⟩) (⟨#[115, 116, 97, 116, 105, 99, 95, 112, 114, 111, 99, 101, 100, 117, 114, 101]⟩) (3, 0, ⟨#[47]⟩) awF0).1) ((Bl.perm (⟨#[109, 111, 100, 105, 102, 121]⟩) (⟨#[115, 116, 97, 116, 105, 99, 95, 112, 114, 111, 99, 101, 100, 117, 114, 101]⟩) (3, 0, ⟨#[47]⟩) awF0).2)), (2, .ptrT (((Bl.formal (3, 0, ⟨#[101, 114, 114, 111, 114]⟩) awF1).1).1) (((Bl.formal (3, 0, ⟨#[101, 114, 114, 111, 114]⟩) awF1).1).2)), (3, .val (.bool true)), (5, .ptrT (((Bl.atom (2, 0, (⟨#[97, 98, 99]⟩)) .nil).2.1).1) (((Bl.atom (2, 0, (⟨#[97, 98, 99]⟩)) .nil).2.1).2)), (4, .val (.string (Bl.atom (2, 0, (⟨#[97, 98, 99]⟩)) .nil).1)), (6, .val (.bool true))] w0 a' w' → Q .normal a' w') : (Code.region 3 awake3Ops false).wp Try.prog Q a w := by
  refine region_seq (w0 := w) 10 (by kernel_rfl) ?_
  rw [show List.range 10 = [0, 1, 2, 3, 4, 5, 6, 7, 8, 9] from rfl]
  refine env_one (i := 0) (d := 34) (k := .sat (nT 0 none (2, 0, (⟨#[97, 98, 99]⟩)) .nil)) (step_la (g := 990) (by kernel_rfl) (Opd.const _) (Opd.of_base 990 rfl) rfl) (by kernel_rfl) (by decide) h ?_
  clear h
  intro a w h
  refine env_one (i := 1) (d := 35) (k := .sat (nT3 0 none (.string (Bl.atom (2, 0, (⟨#[97, 98, 99]⟩)) .nil).1) (((Bl.atom (2, 0, (⟨#[97, 98, 99]⟩)) .nil).2.1).1) (((Bl.atom (2, 0, (⟨#[97, 98, 99]⟩)) .nil).2.1).2) ((Bl.atom (2, 0, (⟨#[97, 98, 99]⟩)) .nil).2.2))) (step_bAtom (g := 990) (by kernel_rfl) (Opd.ofT (Opd.of_base 34 rfl)) (Opd.of_base 990 rfl) rfl) (by kernel_rfl) (by decide) h ?_
  clear h
  intro a w h
  refine env_one (i := 2) (d := 33) (k := .sat (nT3 0 none (.string (Bl.atom (2, 0, (⟨#[97, 98, 99]⟩)) .nil).1) (((Bl.atom (2, 0, (⟨#[97, 98, 99]⟩)) .nil).2.1).1) (((Bl.atom (2, 0, (⟨#[97, 98, 99]⟩)) .nil).2.1).2) ((Bl.atom (2, 0, (⟨#[97, 98, 99]⟩)) .nil).2.2))) (step_move (by kernel_rfl) (Opd.of_base 35 rfl) rfl) (by kernel_rfl) (by decide) h ?_
  clear h
  intro a w h
  refine env_one (i := 3) (d := 36) (k := .val (.string (Bl.atom (2, 0, (⟨#[97, 98, 99]⟩)) .nil).1)) (step_nT3_0 (by kernel_rfl) (Opd.of_base 33 rfl) rfl) (by kernel_rfl) (by decide) h ?_
  clear h
  intro a w h
  refine env_one (i := 4) (d := 37) (k := .sat (nT 0 none (((Bl.atom (2, 0, (⟨#[97, 98, 99]⟩)) .nil).2.1).1) (((Bl.atom (2, 0, (⟨#[97, 98, 99]⟩)) .nil).2.1).2))) (step_nT3_1 (by kernel_rfl) (Opd.of_base 33 rfl) rfl) (by kernel_rfl) (by decide) h ?_
  clear h
  intro a w h
  refine env_one (i := 5) (d := 38) (k := .val (.bool true)) (step_nT3_2 (by kernel_rfl) (Opd.of_base 33 rfl) (by kernel_rfl)) (by kernel_rfl) (by decide) h ?_
  clear h
  intro a w h
  have h := h.cast 37 rfl
  refine env_box3 (i := 6) (d := 5) (e := 4) (by kernel_rfl) (by decide) (by kernel_rfl) (by decide) (x := 36) rfl (by decide) (by decide) (by kernel_rfl) (by decide) (by decide) (s := 37) rfl h ?_
  clear h
  intro a w h
  refine env_one (i := 9) (d := 6) (k := .val (.bool true)) (step_assign (by kernel_rfl) (Opd.of_base 38 rfl) rfl) (by kernel_rfl) (by decide) h ?_
  clear h
  intro a w h
  exact hQ a w (h.keep [990, 0, 1, 2, 3, 5, 4, 6])
theorem awake4a_region {Q : Exit → Act → World → Prop}   {w0 : World} {a : Act} {w : World} (h : Hold 163 [(990, .sat (gP 0 none)), (0, .val (.bool false)), (1, .ptrT ((Bl.perm (⟨#[109, 111, 100, 105, 102, 121]⟩) (⟨#[115, 116, 97, 116, 105, 99, 95, 112, 114, 111, 99, 101, 100, 117, 114, 101]⟩) (3, 0, ⟨#[47]⟩) awF0).1) ((Bl.perm (⟨#[109, 111, 100, 105, 102, 121]⟩) (⟨#[115, 116, 97, 116, 105, 99, 95, 112, 114, 111, 99, 101, 100, 117, 114, 101]⟩) (3, 0, ⟨#[47]⟩) awF0).2)), (2, .ptrT (((Bl.formal (3, 0, ⟨#[101, 114, 114, 111, 114]⟩) awF1).1).1) (((Bl.formal (3, 0, ⟨#[101, 114, 114, 111, 114]⟩) awF1).1).2)), (3, .val (.bool true)), (5, .ptrT (((Bl.atom (2, 0, (⟨#[97, 98, 99]⟩)) .nil).2.1).1) (((Bl.atom (2, 0, (⟨#[97, 98, 99]⟩)) .nil).2.1).2)), (4, .val (.string (Bl.atom (2, 0, (⟨#[97, 98, 99]⟩)) .nil).1)), (6, .val (.bool true))] w0 a w)
    (hQ : ∀ a' w', Hold 163 [(990, .sat (gP 0 none)), (0, .val (.bool false)), (1, .ptrT ((Bl.perm (⟨#[109, 111, 100, 105, 102, 121]⟩) (⟨#[115, 116, 97, 116, 105, 99, 95, 112, 114, 111, 99, 101, 100, 117, 114, 101]⟩) (3, 0, ⟨#[47]⟩) awF0).1) ((Bl.perm (⟨#[109, 111, 100, 105, 102, 121]⟩) (⟨#[115, 116, 97, 116, 105, 99, 95, 112, 114, 111, 99, 101, 100, 117, 114, 101]⟩) (3, 0, ⟨#[47]⟩) awF0).2)), (2, .ptrT (((Bl.formal (3, 0, ⟨#[101, 114, 114, 111, 114]⟩) awF1).1).1) (((Bl.formal (3, 0, ⟨#[101, 114, 114, 111, 114]⟩) awF1).1).2)), (3, .val (.bool true)), (5, .ptrT (((Bl.atom (2, 0, (⟨#[97, 98, 99]⟩)) .nil).2.1).1) (((Bl.atom (2, 0, (⟨#[97, 98, 99]⟩)) .nil).2.1).2)), (4, .val (.string (Bl.atom (2, 0, (⟨#[97, 98, 99]⟩)) .nil).1)), (6, .val (.bool true)), (8, .ptrT (((Bl.atom (1, 3, ByteArray.empty) .nil).2.1).1) (((Bl.atom (1, 3, ByteArray.empty) .nil).2.1).2)), (9, .val (.bool false))] w0 a' w' → Q .normal a' w') : (Code.region 4 awake4Ops false).wp Try.prog Q a w := by
  refine region_seq (w0 := w) 10 (by kernel_rfl) ?_
  rw [show List.range 10 = [0, 1, 2, 3, 4, 5, 6, 7, 8, 9] from rfl]
  refine env_one (i := 0) (d := 40) (k := .sat (nT 0 none (1, 3, ByteArray.empty) .nil)) (step_ln (g := 990) (by kernel_rfl) (Opd.const _) (Opd.of_base 990 rfl) rfl) (by kernel_rfl) (by decide) h ?_
  clear h
  intro a w h
  refine env_one (i := 1) (d := 41) (k := .sat (nT3 0 none (.string (Bl.atom (1, 3, ByteArray.empty) .nil).1) (((Bl.atom (1, 3, ByteArray.empty) .nil).2.1).1) (((Bl.atom (1, 3, ByteArray.empty) .nil).2.1).2) ((Bl.atom (1, 3, ByteArray.empty) .nil).2.2))) (step_bAtom (g := 990) (by kernel_rfl) (Opd.ofT (Opd.of_base 40 rfl)) (Opd.of_base 990 rfl) rfl) (by kernel_rfl) (by decide) h ?_
  clear h
  intro a w h
  refine env_one (i := 2) (d := 39) (k := .sat (nT3 0 none (.string (Bl.atom (1, 3, ByteArray.empty) .nil).1) (((Bl.atom (1, 3, ByteArray.empty) .nil).2.1).1) (((Bl.atom (1, 3, ByteArray.empty) .nil).2.1).2) ((Bl.atom (1, 3, ByteArray.empty) .nil).2.2))) (step_move (by kernel_rfl) (Opd.of_base 41 rfl) rfl) (by kernel_rfl) (by decide) h ?_
  clear h
  intro a w h
  refine env_one (i := 3) (d := 42) (k := .val (.string (Bl.atom (1, 3, ByteArray.empty) .nil).1)) (step_nT3_0 (by kernel_rfl) (Opd.of_base 39 rfl) rfl) (by kernel_rfl) (by decide) h ?_
  clear h
  intro a w h
  refine env_one (i := 4) (d := 43) (k := .sat (nT 0 none (((Bl.atom (1, 3, ByteArray.empty) .nil).2.1).1) (((Bl.atom (1, 3, ByteArray.empty) .nil).2.1).2))) (step_nT3_1 (by kernel_rfl) (Opd.of_base 39 rfl) rfl) (by kernel_rfl) (by decide) h ?_
  clear h
  intro a w h
  refine env_one (i := 5) (d := 44) (k := .val (.bool false)) (step_nT3_2 (by kernel_rfl) (Opd.of_base 39 rfl) (by kernel_rfl)) (by kernel_rfl) (by decide) h ?_
  clear h
  intro a w h
  have h := h.cast 43 rfl
  refine env_box3 (i := 6) (d := 8) (e := 7) (by kernel_rfl) (by decide) (by kernel_rfl) (by decide) (x := 42) rfl (by decide) (by decide) (by kernel_rfl) (by decide) (by decide) (s := 43) rfl h ?_
  clear h
  intro a w h
  refine env_one (i := 9) (d := 9) (k := .val (.bool false)) (step_assign (by kernel_rfl) (Opd.of_base 44 rfl) rfl) (by kernel_rfl) (by decide) h ?_
  clear h
  intro a w h
  exact hQ a w (h.keep [990, 0, 1, 2, 3, 5, 4, 6, 8, 9])
theorem awake5a_region {Q : Exit → Act → World → Prop}   {w0 : World} {a : Act} {w : World} (h : Hold 163 [(990, .sat (gP 0 none)), (0, .val (.bool false)), (1, .ptrT ((Bl.perm (⟨#[109, 111, 100, 105, 102, 121]⟩) (⟨#[115, 116, 97, 116, 105, 99, 95, 112, 114, 111, 99, 101, 100, 117, 114, 101]⟩) (3, 0, ⟨#[47]⟩) awF0).1) ((Bl.perm (⟨#[109, 111, 100, 105, 102, 121]⟩) (⟨#[115, 116, 97, 116, 105, 99, 95, 112, 114, 111, 99, 101, 100, 117, 114, 101]⟩) (3, 0, ⟨#[47]⟩) awF0).2)), (2, .ptrT (((Bl.formal (3, 0, ⟨#[101, 114, 114, 111, 114]⟩) awF1).1).1) (((Bl.formal (3, 0, ⟨#[101, 114, 114, 111, 114]⟩) awF1).1).2)), (3, .val (.bool true)), (5, .ptrT (((Bl.atom (2, 0, (⟨#[97, 98, 99]⟩)) .nil).2.1).1) (((Bl.atom (2, 0, (⟨#[97, 98, 99]⟩)) .nil).2.1).2)), (4, .val (.string (Bl.atom (2, 0, (⟨#[97, 98, 99]⟩)) .nil).1)), (6, .val (.bool true)), (8, .ptrT (((Bl.atom (1, 3, ByteArray.empty) .nil).2.1).1) (((Bl.atom (1, 3, ByteArray.empty) .nil).2.1).2)), (9, .val (.bool false))] w0 a w)
    (hQ : ∀ a' w', Hold 163 [(990, .sat (gP 0 none)), (0, .val (.bool false)), (1, .ptrT ((Bl.perm (⟨#[109, 111, 100, 105, 102, 121]⟩) (⟨#[115, 116, 97, 116, 105, 99, 95, 112, 114, 111, 99, 101, 100, 117, 114, 101]⟩) (3, 0, ⟨#[47]⟩) awF0).1) ((Bl.perm (⟨#[109, 111, 100, 105, 102, 121]⟩) (⟨#[115, 116, 97, 116, 105, 99, 95, 112, 114, 111, 99, 101, 100, 117, 114, 101]⟩) (3, 0, ⟨#[47]⟩) awF0).2)), (2, .ptrT (((Bl.formal (3, 0, ⟨#[101, 114, 114, 111, 114]⟩) awF1).1).1) (((Bl.formal (3, 0, ⟨#[101, 114, 114, 111, 114]⟩) awF1).1).2)), (3, .val (.bool true)), (5, .ptrT (((Bl.atom (2, 0, (⟨#[97, 98, 99]⟩)) .nil).2.1).1) (((Bl.atom (2, 0, (⟨#[97, 98, 99]⟩)) .nil).2.1).2)), (4, .val (.string (Bl.atom (2, 0, (⟨#[97, 98, 99]⟩)) .nil).1)), (6, .val (.bool true)), (8, .ptrT (((Bl.atom (1, 3, ByteArray.empty) .nil).2.1).1) (((Bl.atom (1, 3, ByteArray.empty) .nil).2.1).2)), (9, .val (.bool false)), (11, .ptrT (((Bl.code (1, 256, ByteArray.empty) .nil).2.1).1) (((Bl.code (1, 256, ByteArray.empty) .nil).2.1).2)), (12, .val (.bool false))] w0 a' w' → Q .normal a' w') : (Code.region 5 awake5Ops false).wp Try.prog Q a w := by
  refine region_seq (w0 := w) 10 (by kernel_rfl) ?_
  rw [show List.range 10 = [0, 1, 2, 3, 4, 5, 6, 7, 8, 9] from rfl]
  refine env_one (i := 0) (d := 46) (k := .sat (nT 0 none (1, 256, ByteArray.empty) .nil)) (step_ln (g := 990) (by kernel_rfl) (Opd.const _) (Opd.of_base 990 rfl) rfl) (by kernel_rfl) (by decide) h ?_
  clear h
  intro a w h
  refine env_one (i := 1) (d := 47) (k := .sat (nT3 0 none (.int .i64 (Bl.code (1, 256, ByteArray.empty) .nil).1) (((Bl.code (1, 256, ByteArray.empty) .nil).2.1).1) (((Bl.code (1, 256, ByteArray.empty) .nil).2.1).2) ((Bl.code (1, 256, ByteArray.empty) .nil).2.2))) (step_bCode (g := 990) (by kernel_rfl) (Opd.ofT (Opd.of_base 46 rfl)) (Opd.of_base 990 rfl) rfl) (by kernel_rfl) (by decide) h ?_
  clear h
  intro a w h
  refine env_one (i := 2) (d := 45) (k := .sat (nT3 0 none (.int .i64 (Bl.code (1, 256, ByteArray.empty) .nil).1) (((Bl.code (1, 256, ByteArray.empty) .nil).2.1).1) (((Bl.code (1, 256, ByteArray.empty) .nil).2.1).2) ((Bl.code (1, 256, ByteArray.empty) .nil).2.2))) (step_move (by kernel_rfl) (Opd.of_base 47 rfl) rfl) (by kernel_rfl) (by decide) h ?_
  clear h
  intro a w h
  refine env_one (i := 3) (d := 48) (k := .val (.int .i64 (Bl.code (1, 256, ByteArray.empty) .nil).1)) (step_nT3_0 (by kernel_rfl) (Opd.of_base 45 rfl) rfl) (by kernel_rfl) (by decide) h ?_
  clear h
  intro a w h
  refine env_one (i := 4) (d := 49) (k := .sat (nT 0 none (((Bl.code (1, 256, ByteArray.empty) .nil).2.1).1) (((Bl.code (1, 256, ByteArray.empty) .nil).2.1).2))) (step_nT3_1 (by kernel_rfl) (Opd.of_base 45 rfl) rfl) (by kernel_rfl) (by decide) h ?_
  clear h
  intro a w h
  refine env_one (i := 5) (d := 50) (k := .val (.bool false)) (step_nT3_2 (by kernel_rfl) (Opd.of_base 45 rfl) (by kernel_rfl)) (by kernel_rfl) (by decide) h ?_
  clear h
  intro a w h
  have h := h.cast 49 rfl
  refine env_box3 (i := 6) (d := 11) (e := 10) (by kernel_rfl) (by decide) (by kernel_rfl) (by decide) (x := 48) rfl (by decide) (by decide) (by kernel_rfl) (by decide) (by decide) (s := 49) rfl h ?_
  clear h
  intro a w h
  refine env_one (i := 9) (d := 12) (k := .val (.bool false)) (step_assign (by kernel_rfl) (Opd.of_base 50 rfl) rfl) (by kernel_rfl) (by decide) h ?_
  clear h
  intro a w h
  exact hQ a w (h.keep [990, 0, 1, 2, 3, 5, 4, 6, 8, 9, 11, 12])
theorem awake6a_region {Q : Exit → Act → World → Prop}   {w0 : World} {a : Act} {w : World} (h : Hold 163 [(990, .sat (gP 0 none)), (0, .val (.bool false)), (1, .ptrT ((Bl.perm (⟨#[109, 111, 100, 105, 102, 121]⟩) (⟨#[115, 116, 97, 116, 105, 99, 95, 112, 114, 111, 99, 101, 100, 117, 114, 101]⟩) (3, 0, ⟨#[47]⟩) awF0).1) ((Bl.perm (⟨#[109, 111, 100, 105, 102, 121]⟩) (⟨#[115, 116, 97, 116, 105, 99, 95, 112, 114, 111, 99, 101, 100, 117, 114, 101]⟩) (3, 0, ⟨#[47]⟩) awF0).2)), (2, .ptrT (((Bl.formal (3, 0, ⟨#[101, 114, 114, 111, 114]⟩) awF1).1).1) (((Bl.formal (3, 0, ⟨#[101, 114, 114, 111, 114]⟩) awF1).1).2)), (3, .val (.bool true)), (5, .ptrT (((Bl.atom (2, 0, (⟨#[97, 98, 99]⟩)) .nil).2.1).1) (((Bl.atom (2, 0, (⟨#[97, 98, 99]⟩)) .nil).2.1).2)), (4, .val (.string (Bl.atom (2, 0, (⟨#[97, 98, 99]⟩)) .nil).1)), (6, .val (.bool true)), (8, .ptrT (((Bl.atom (1, 3, ByteArray.empty) .nil).2.1).1) (((Bl.atom (1, 3, ByteArray.empty) .nil).2.1).2)), (9, .val (.bool false)), (11, .ptrT (((Bl.code (1, 256, ByteArray.empty) .nil).2.1).1) (((Bl.code (1, 256, ByteArray.empty) .nil).2.1).2)), (12, .val (.bool false))] w0 a w)
    (hQ : ∀ a' w', Hold 163 [(990, .sat (gP 0 none)), (0, .val (.bool false)), (1, .ptrT ((Bl.perm (⟨#[109, 111, 100, 105, 102, 121]⟩) (⟨#[115, 116, 97, 116, 105, 99, 95, 112, 114, 111, 99, 101, 100, 117, 114, 101]⟩) (3, 0, ⟨#[47]⟩) awF0).1) ((Bl.perm (⟨#[109, 111, 100, 105, 102, 121]⟩) (⟨#[115, 116, 97, 116, 105, 99, 95, 112, 114, 111, 99, 101, 100, 117, 114, 101]⟩) (3, 0, ⟨#[47]⟩) awF0).2)), (2, .ptrT (((Bl.formal (3, 0, ⟨#[101, 114, 114, 111, 114]⟩) awF1).1).1) (((Bl.formal (3, 0, ⟨#[101, 114, 114, 111, 114]⟩) awF1).1).2)), (3, .val (.bool true)), (5, .ptrT (((Bl.atom (2, 0, (⟨#[97, 98, 99]⟩)) .nil).2.1).1) (((Bl.atom (2, 0, (⟨#[97, 98, 99]⟩)) .nil).2.1).2)), (4, .val (.string (Bl.atom (2, 0, (⟨#[97, 98, 99]⟩)) .nil).1)), (6, .val (.bool true)), (8, .ptrT (((Bl.atom (1, 3, ByteArray.empty) .nil).2.1).1) (((Bl.atom (1, 3, ByteArray.empty) .nil).2.1).2)), (9, .val (.bool false)), (11, .ptrT (((Bl.code (1, 256, ByteArray.empty) .nil).2.1).1) (((Bl.code (1, 256, ByteArray.empty) .nil).2.1).2)), (12, .val (.bool false)), (14, .ptrT (((Bl.list (3, 0, ⟨#[46]⟩) awF3).2.1).1) (((Bl.list (3, 0, ⟨#[46]⟩) awF3).2.1).2)), (15, .val (.bool false))] w0 a' w' → Q .normal a' w') : (Code.region 6 awake6Ops false).wp Try.prog Q a w := by
  refine region_seq (w0 := w) 16 (by kernel_rfl) ?_
  rw [show List.range 16 = [0, 1, 2, 3, 4, 5, 6, 7, 8, 9, 10, 11, 12, 13, 14, 15] from rfl]
  refine env_one (i := 0) (d := 52) (k := .sat (nT 0 none (2, 0, ⟨#[97]⟩) .nil)) (step_la (g := 990) (by kernel_rfl) (Opd.const _) (Opd.of_base 990 rfl) rfl) (by kernel_rfl) (by decide) h ?_
  clear h
  intro a w h
  refine env_one (i := 1) (d := 53) (k := .sat (nT 0 none (2, 0, ⟨#[98]⟩) .nil)) (step_la (g := 990) (by kernel_rfl) (Opd.const _) (Opd.of_base 990 rfl) rfl) (by kernel_rfl) (by decide) h ?_
  clear h
  intro a w h
  refine env_one (i := 2) (d := 54) (k := .sat (nT 0 none (0, 0, ByteArray.empty) .nil)) (step_lx (g := 990) (by kernel_rfl) (Opd.const _) (Opd.of_base 990 rfl) rfl) (by kernel_rfl) (by decide) h ?_
  clear h
  intro a w h
  refine env_one (i := 3) (d := 55) (k := .sat (nK 0 none awF2)) (step_nslice2 (g := 990) (by kernel_rfl) (Opd.of_base 53 rfl) (Opd.of_base 54 rfl) (Opd.of_base 990 rfl) rfl) (by kernel_rfl) (by decide) h ?_
  clear h
  intro a w h
  refine env_one (i := 4) (d := 56) (k := .sat (nT 0 none (3, 0, ⟨#[46]⟩) awF2)) (step_lf (by kernel_rfl) (Opd.const _) (Opd.ofK (Opd.of_base 55 rfl)) rfl) (by kernel_rfl) (by decide) h ?_
  clear h
  intro a w h
  refine env_one (i := 5) (d := 57) (k := .sat (nK 0 none awF3)) (step_nslice2 (g := 990) (by kernel_rfl) (Opd.of_base 52 rfl) (Opd.of_base 56 rfl) (Opd.of_base 990 rfl) rfl) (by kernel_rfl) (by decide) h ?_
  clear h
  intro a w h
  refine env_one (i := 6) (d := 58) (k := .sat (nT 0 none (3, 0, ⟨#[46]⟩) awF3)) (step_lf (by kernel_rfl) (Opd.const _) (Opd.ofK (Opd.of_base 57 rfl)) rfl) (by kernel_rfl) (by decide) h ?_
  clear h
  intro a w h
  refine env_one (i := 7) (d := 59) (k := .sat (nL3 0 none ((Bl.list (3, 0, ⟨#[46]⟩) awF3).1) (((Bl.list (3, 0, ⟨#[46]⟩) awF3).2.1).1) (((Bl.list (3, 0, ⟨#[46]⟩) awF3).2.1).2) ((Bl.list (3, 0, ⟨#[46]⟩) awF3).2.2))) (step_bList (g := 990) (by kernel_rfl) (Opd.ofT (Opd.of_base 58 rfl)) (Opd.of_base 990 rfl) rfl) (by kernel_rfl) (by decide) h ?_
  clear h
  intro a w h
  refine env_one (i := 8) (d := 51) (k := .sat (nL3 0 none ((Bl.list (3, 0, ⟨#[46]⟩) awF3).1) (((Bl.list (3, 0, ⟨#[46]⟩) awF3).2.1).1) (((Bl.list (3, 0, ⟨#[46]⟩) awF3).2.1).2) ((Bl.list (3, 0, ⟨#[46]⟩) awF3).2.2))) (step_move (by kernel_rfl) (Opd.of_base 59 rfl) rfl) (by kernel_rfl) (by decide) h ?_
  clear h
  intro a w h
  refine env_one (i := 9) (d := 60) (k := .sat (nR 0 none ((Bl.list (3, 0, ⟨#[46]⟩) awF3).1))) (step_nL3_0 (by kernel_rfl) (Opd.of_base 51 rfl) rfl) (by kernel_rfl) (by decide) h ?_
  clear h
  intro a w h
  refine env_one (i := 10) (d := 61) (k := .sat (nT 0 none (((Bl.list (3, 0, ⟨#[46]⟩) awF3).2.1).1) (((Bl.list (3, 0, ⟨#[46]⟩) awF3).2.1).2))) (step_nL3_1 (by kernel_rfl) (Opd.of_base 51 rfl) rfl) (by kernel_rfl) (by decide) h ?_
  clear h
  intro a w h
  refine env_one (i := 11) (d := 62) (k := .val (.bool false)) (step_nL3_2 (by kernel_rfl) (Opd.of_base 51 rfl) (by kernel_rfl)) (by kernel_rfl) (by decide) h ?_
  clear h
  intro a w h
  have h := h.cast 61 rfl
  refine env_box3 (i := 12) (d := 14) (e := 13) (by kernel_rfl) (by decide) (by kernel_rfl) (by decide) (x := 60) rfl (by decide) (by decide) (by kernel_rfl) (by decide) (by decide) (s := 61) rfl h ?_
  clear h
  intro a w h
  refine env_one (i := 15) (d := 15) (k := .val (.bool false)) (step_assign (by kernel_rfl) (Opd.of_base 62 rfl) rfl) (by kernel_rfl) (by decide) h ?_
  clear h
  intro a w h
  exact hQ a w (h.keep [990, 0, 1, 2, 3, 5, 4, 6, 8, 9, 11, 12, 14, 15])
theorem awake7a_region {Q : Exit → Act → World → Prop}   {w0 : World} {a : Act} {w : World} (h : Hold 163 [(990, .sat (gP 0 none)), (0, .val (.bool false)), (1, .ptrT ((Bl.perm (⟨#[109, 111, 100, 105, 102, 121]⟩) (⟨#[115, 116, 97, 116, 105, 99, 95, 112, 114, 111, 99, 101, 100, 117, 114, 101]⟩) (3, 0, ⟨#[47]⟩) awF0).1) ((Bl.perm (⟨#[109, 111, 100, 105, 102, 121]⟩) (⟨#[115, 116, 97, 116, 105, 99, 95, 112, 114, 111, 99, 101, 100, 117, 114, 101]⟩) (3, 0, ⟨#[47]⟩) awF0).2)), (2, .ptrT (((Bl.formal (3, 0, ⟨#[101, 114, 114, 111, 114]⟩) awF1).1).1) (((Bl.formal (3, 0, ⟨#[101, 114, 114, 111, 114]⟩) awF1).1).2)), (3, .val (.bool true)), (5, .ptrT (((Bl.atom (2, 0, (⟨#[97, 98, 99]⟩)) .nil).2.1).1) (((Bl.atom (2, 0, (⟨#[97, 98, 99]⟩)) .nil).2.1).2)), (4, .val (.string (Bl.atom (2, 0, (⟨#[97, 98, 99]⟩)) .nil).1)), (6, .val (.bool true)), (8, .ptrT (((Bl.atom (1, 3, ByteArray.empty) .nil).2.1).1) (((Bl.atom (1, 3, ByteArray.empty) .nil).2.1).2)), (9, .val (.bool false)), (11, .ptrT (((Bl.code (1, 256, ByteArray.empty) .nil).2.1).1) (((Bl.code (1, 256, ByteArray.empty) .nil).2.1).2)), (12, .val (.bool false)), (14, .ptrT (((Bl.list (3, 0, ⟨#[46]⟩) awF3).2.1).1) (((Bl.list (3, 0, ⟨#[46]⟩) awF3).2.1).2)), (15, .val (.bool false))] w0 a w)
    (hQ : ∀ a' w', Hold 163 [(990, .sat (gP 0 none)), (0, .val (.bool false)), (1, .ptrT ((Bl.perm (⟨#[109, 111, 100, 105, 102, 121]⟩) (⟨#[115, 116, 97, 116, 105, 99, 95, 112, 114, 111, 99, 101, 100, 117, 114, 101]⟩) (3, 0, ⟨#[47]⟩) awF0).1) ((Bl.perm (⟨#[109, 111, 100, 105, 102, 121]⟩) (⟨#[115, 116, 97, 116, 105, 99, 95, 112, 114, 111, 99, 101, 100, 117, 114, 101]⟩) (3, 0, ⟨#[47]⟩) awF0).2)), (2, .ptrT (((Bl.formal (3, 0, ⟨#[101, 114, 114, 111, 114]⟩) awF1).1).1) (((Bl.formal (3, 0, ⟨#[101, 114, 114, 111, 114]⟩) awF1).1).2)), (3, .val (.bool true)), (5, .ptrT (((Bl.atom (2, 0, (⟨#[97, 98, 99]⟩)) .nil).2.1).1) (((Bl.atom (2, 0, (⟨#[97, 98, 99]⟩)) .nil).2.1).2)), (4, .val (.string (Bl.atom (2, 0, (⟨#[97, 98, 99]⟩)) .nil).1)), (6, .val (.bool true)), (8, .ptrT (((Bl.atom (1, 3, ByteArray.empty) .nil).2.1).1) (((Bl.atom (1, 3, ByteArray.empty) .nil).2.1).2)), (9, .val (.bool false)), (11, .ptrT (((Bl.code (1, 256, ByteArray.empty) .nil).2.1).1) (((Bl.code (1, 256, ByteArray.empty) .nil).2.1).2)), (12, .val (.bool false)), (14, .ptrT (((Bl.list (3, 0, ⟨#[46]⟩) awF3).2.1).1) (((Bl.list (3, 0, ⟨#[46]⟩) awF3).2.1).2)), (15, .val (.bool false)), (18, .ptrT (((Bl.ind (3, 0, ⟨#[47]⟩) awF4).2.2.1).1) (((Bl.ind (3, 0, ⟨#[47]⟩) awF4).2.2.1).2)), (16, .val (.string (Bl.ind (3, 0, ⟨#[47]⟩) awF4).1)), (17, .val (.int .i64 (Bl.ind (3, 0, ⟨#[47]⟩) awF4).2.1)), (19, .val (.bool true))] w0 a' w' → Q .normal a' w') : (Code.region 7 awake7Ops false).wp Try.prog Q a w := by
  refine region_seq (w0 := w) 15 (by kernel_rfl) ?_
  rw [show List.range 15 = [0, 1, 2, 3, 4, 5, 6, 7, 8, 9, 10, 11, 12, 13, 14] from rfl]
  refine env_one (i := 0) (d := 64) (k := .sat (nT 0 none (2, 0, ⟨#[102]⟩) .nil)) (step_la (g := 990) (by kernel_rfl) (Opd.const _) (Opd.of_base 990 rfl) rfl) (by kernel_rfl) (by decide) h ?_
  clear h
  intro a w h
  refine env_one (i := 1) (d := 65) (k := .sat (nT 0 none (1, 2, ByteArray.empty) .nil)) (step_ln (g := 990) (by kernel_rfl) (Opd.const _) (Opd.of_base 990 rfl) rfl) (by kernel_rfl) (by decide) h ?_
  clear h
  intro a w h
  refine env_one (i := 2) (d := 66) (k := .sat (nK 0 none awF4)) (step_nslice2 (g := 990) (by kernel_rfl) (Opd.of_base 64 rfl) (Opd.of_base 65 rfl) (Opd.of_base 990 rfl) rfl) (by kernel_rfl) (by decide) h ?_
  clear h
  intro a w h
  refine env_one (i := 3) (d := 67) (k := .sat (nT 0 none (3, 0, ⟨#[47]⟩) awF4)) (step_lf (by kernel_rfl) (Opd.const _) (Opd.ofK (Opd.of_base 66 rfl)) rfl) (by kernel_rfl) (by decide) h ?_
  clear h
  intro a w h
  refine env_one (i := 4) (d := 68) (k := .sat (nT4 0 none (.string (Bl.ind (3, 0, ⟨#[47]⟩) awF4).1) (.int .i64 (Bl.ind (3, 0, ⟨#[47]⟩) awF4).2.1) (((Bl.ind (3, 0, ⟨#[47]⟩) awF4).2.2.1).1) (((Bl.ind (3, 0, ⟨#[47]⟩) awF4).2.2.1).2) ((Bl.ind (3, 0, ⟨#[47]⟩) awF4).2.2.2))) (step_bInd (g := 990) (by kernel_rfl) (Opd.ofT (Opd.of_base 67 rfl)) (Opd.of_base 990 rfl) rfl) (by kernel_rfl) (by decide) h ?_
  clear h
  intro a w h
  refine env_one (i := 5) (d := 63) (k := .sat (nT4 0 none (.string (Bl.ind (3, 0, ⟨#[47]⟩) awF4).1) (.int .i64 (Bl.ind (3, 0, ⟨#[47]⟩) awF4).2.1) (((Bl.ind (3, 0, ⟨#[47]⟩) awF4).2.2.1).1) (((Bl.ind (3, 0, ⟨#[47]⟩) awF4).2.2.1).2) ((Bl.ind (3, 0, ⟨#[47]⟩) awF4).2.2.2))) (step_move (by kernel_rfl) (Opd.of_base 68 rfl) rfl) (by kernel_rfl) (by decide) h ?_
  clear h
  intro a w h
  refine env_one (i := 6) (d := 69) (k := .val (.string (Bl.ind (3, 0, ⟨#[47]⟩) awF4).1)) (step_nT4_0 (by kernel_rfl) (Opd.of_base 63 rfl) rfl) (by kernel_rfl) (by decide) h ?_
  clear h
  intro a w h
  refine env_one (i := 7) (d := 70) (k := .val (.int .i64 (Bl.ind (3, 0, ⟨#[47]⟩) awF4).2.1)) (step_nT4_1 (by kernel_rfl) (Opd.of_base 63 rfl) rfl) (by kernel_rfl) (by decide) h ?_
  clear h
  intro a w h
  refine env_one (i := 8) (d := 71) (k := .sat (nT 0 none (((Bl.ind (3, 0, ⟨#[47]⟩) awF4).2.2.1).1) (((Bl.ind (3, 0, ⟨#[47]⟩) awF4).2.2.1).2))) (step_nT4_2 (by kernel_rfl) (Opd.of_base 63 rfl) rfl) (by kernel_rfl) (by decide) h ?_
  clear h
  intro a w h
  refine env_one (i := 9) (d := 72) (k := .val (.bool true)) (step_nT4_3 (by kernel_rfl) (Opd.of_base 63 rfl) (by kernel_rfl)) (by kernel_rfl) (by decide) h ?_
  clear h
  intro a w h
  have h := h.cast 71 rfl
  refine env_box5 (i := 10) (d := 18) (e := 16) (e2 := 17) (by kernel_rfl) (by decide) (by kernel_rfl) (by decide) (x := 69) rfl (by decide) (by decide) (by kernel_rfl) (by decide) (x2 := 70) rfl (by decide) (by decide) (by decide) (by kernel_rfl) (by decide) (by decide) (by decide) (s := 71) rfl h ?_
  clear h
  intro a w h
  refine env_one (i := 14) (d := 19) (k := .val (.bool true)) (step_assign (by kernel_rfl) (Opd.of_base 72 rfl) rfl) (by kernel_rfl) (by decide) h ?_
  clear h
  intro a w h
  exact hQ a w (h.keep [990, 0, 1, 2, 3, 5, 4, 6, 8, 9, 11, 12, 14, 15, 18, 16, 17, 19])
def awake8aEs  : List Kd := [
  .term ((Bl.perm (⟨#[109, 111, 100, 105, 102, 121]⟩) (⟨#[115, 116, 97, 116, 105, 99, 95, 112, 114, 111, 99, 101, 100, 117, 114, 101]⟩) (3, 0, ⟨#[47]⟩) awF0).1) ((Bl.perm (⟨#[109, 111, 100, 105, 102, 121]⟩) (⟨#[115, 116, 97, 116, 105, 99, 95, 112, 114, 111, 99, 101, 100, 117, 114, 101]⟩) (3, 0, ⟨#[47]⟩) awF0).2),
  .sat (nT 0 none (2, 0, (⟨#[109, 111, 100, 105, 102, 121]⟩)) .nil),
  .sat (nT 0 none (2, 0, (⟨#[115, 116, 97, 116, 105, 99, 95, 112, 114, 111, 99, 101, 100, 117, 114, 101]⟩)) .nil),
  .sat (nT 0 none (2, 0, ⟨#[102]⟩) .nil),
  .sat (nT 0 none (1, 1, ByteArray.empty) .nil),
  .sat (nK 0 none awF0),
  .sat (nT 0 none (3, 0, ⟨#[47]⟩) awF0),
  .sat (nK 0 none awF5),
  .sat (nT 0 none (3, 0, ⟨#[112, 101, 114, 109, 105, 115, 115, 105, 111, 110, 95, 101, 114, 114, 111, 114]⟩) awF5),
  .sat (nT 0 none (3, 0, Tm.errName) (.node (3, 0, ⟨#[112, 101, 114, 109, 105, 115, 115, 105, 111, 110, 95, 101, 114, 114, 111, 114]⟩) awF5 (.node Tm.emptyA .nil .nil))),
  .val (.bool true),
  .val (.bool true),
  .sat (nT 0 none ((Bl.syn 3).1) ((Bl.syn 3).2)),
  .sat (nT 0 none (1, 3, ByteArray.empty) .nil),
  .sat (nK 0 none awF6),
  .sat (nT 0 none (3, 0, ⟨#[115, 121, 110, 116, 97, 120, 95, 101, 114, 114, 111, 114]⟩) awF6),
  .sat (nT 0 none (3, 0, Tm.errName) (.node (3, 0, ⟨#[115, 121, 110, 116, 97, 120, 95, 101, 114, 114, 111, 114]⟩) awF6 (.node Tm.emptyA .nil .nil))),
  .val (.bool true),
  .val (.bool true),
  .val (.bool true),
  .val (.bool true),
  .val (.bool true),
  .val (.bool true),
  .term (((Bl.formal (3, 0, ⟨#[101, 114, 114, 111, 114]⟩) awF1).1).1) (((Bl.formal (3, 0, ⟨#[101, 114, 114, 111, 114]⟩) awF1).1).2),
  .sat (nT 0 none (2, 0, ⟨#[97]⟩) .nil),
  .val (.bool true),
  .val (.bool true),
  .val (.bool true),
  .val (.string (Bl.atom (2, 0, (⟨#[97, 98, 99]⟩)) .nil).1),
  .val (.bool true),
  .val (.bool true),
  .val (.bool true),
  .term (((Bl.atom (2, 0, (⟨#[97, 98, 99]⟩)) .nil).2.1).1) (((Bl.atom (2, 0, (⟨#[97, 98, 99]⟩)) .nil).2.1).2),
  .sat (nT 0 none (0, 0, ByteArray.empty) .nil),
  .val (.bool true),
  .val (.bool true),
  .val (.bool true),
  .val (.bool true),
  .val (.bool true),
  .val (.bool true),
  .term (((Bl.atom (1, 3, ByteArray.empty) .nil).2.1).1) (((Bl.atom (1, 3, ByteArray.empty) .nil).2.1).2),
  .sat (nT 0 none (2, 0, (⟨#[97, 116, 111, 109]⟩)) .nil),
  .sat (nT 0 none (1, 3, ByteArray.empty) .nil),
  .sat (nK 0 none awF7),
  .sat (nT 0 none (3, 0, ⟨#[116, 121, 112, 101, 95, 101, 114, 114, 111, 114]⟩) awF7),
  .sat (nT 0 none (3, 0, Tm.errName) (.node (3, 0, ⟨#[116, 121, 112, 101, 95, 101, 114, 114, 111, 114]⟩) awF7 (.node Tm.emptyA .nil .nil))),
  .val (.bool true),
  .val (.bool true),
  .val (.bool true),
  .val (.bool false),
  .val (.bool true),
  .val (.bool true),
  .val (.bool true),
  .term (((Bl.code (1, 256, ByteArray.empty) .nil).2.1).1) (((Bl.code (1, 256, ByteArray.empty) .nil).2.1).2),
  .sat (nT 0 none (2, 0, (⟨#[99, 104, 97, 114, 97, 99, 116, 101, 114, 95, 99, 111, 100, 101]⟩)) .nil),
  .sat (nK 0 none awF8),
  .sat (nT 0 none (3, 0, ⟨#[114, 101, 112, 114, 101, 115, 101, 110, 116, 97, 116, 105, 111, 110, 95, 101, 114, 114, 111, 114]⟩) awF8),
  .sat (nT 0 none (3, 0, Tm.errName) (.node (3, 0, ⟨#[114, 101, 112, 114, 101, 115, 101, 110, 116, 97, 116, 105, 111, 110, 95, 101, 114, 114, 111, 114]⟩) awF8 (.node Tm.emptyA .nil .nil))),
  .val (.bool true),
  .val (.bool true),
  .val (.bool true),
  .val (.bool false),
  .val (.bool true),
  .val (.bool true),
  .val (.bool true),
  .term (((Bl.list (3, 0, ⟨#[46]⟩) awF3).2.1).1) (((Bl.list (3, 0, ⟨#[46]⟩) awF3).2.1).2),
  .sat (nT 0 none (2, 0, (⟨#[105, 110, 115, 116, 97, 110, 116, 105, 97, 116, 105, 111, 110, 95, 101, 114, 114, 111, 114]⟩)) .nil),
  .sat (nT 0 none (3, 0, Tm.errName) (.node (2, 0, (⟨#[105, 110, 115, 116, 97, 110, 116, 105, 97, 116, 105, 111, 110, 95, 101, 114, 114, 111, 114]⟩)) .nil (.node Tm.emptyA .nil .nil))),
  .val (.bool true),
  .val (.bool true),
  .val (.bool true),
  .val (.bool false),
  .val (.bool true),
  .val (.bool true),
  .val (.bool true),
  .val (.string (Bl.ind (3, 0, ⟨#[47]⟩) awF4).1),
  .val (.bool true),
  .val (.bool true),
  .val (.bool true),
  .val (.int .i64 (Bl.ind (3, 0, ⟨#[47]⟩) awF4).2.1),
  .val (.bool true),
  .val (.bool true),
  .val (.bool true),
  .term (((Bl.ind (3, 0, ⟨#[47]⟩) awF4).2.2.1).1) (((Bl.ind (3, 0, ⟨#[47]⟩) awF4).2.2.1).2),
  .sat (nT 0 none (0, 0, ByteArray.empty) .nil),
  .val (.bool true),
  .val (.bool true),
  .val (.bool true),
  .val (.bool true),
  .val (.bool true),
  .val (.bool true)]
def awake8aDs : List Nat := [73, 74, 75, 76, 77, 78, 79, 80, 81, 82, 83, 84, 85, 86, 87, 88, 89, 90, 91, 92, 93, 94, 95, 96, 97, 98, 99, 100, 101, 102, 103, 104, 105, 106, 107, 108, 109, 110, 111, 112, 113, 114, 115, 116, 117, 118, 119, 120, 121, 122, 123, 124, 125, 126, 127, 128, 129, 130, 131, 132, 133, 134, 135, 136, 137, 138, 139, 140, 141, 142, 143, 144, 145, 146, 147, 148, 149, 150, 151, 152, 153, 154, 155, 156, 157, 158, 159, 160, 161, 162, 0]
def awake8aEnv  : Env := [(990, .sat (gP 0 none)), (1, .ptrT ((Bl.perm (⟨#[109, 111, 100, 105, 102, 121]⟩) (⟨#[115, 116, 97, 116, 105, 99, 95, 112, 114, 111, 99, 101, 100, 117, 114, 101]⟩) (3, 0, ⟨#[47]⟩) awF0).1) ((Bl.perm (⟨#[109, 111, 100, 105, 102, 121]⟩) (⟨#[115, 116, 97, 116, 105, 99, 95, 112, 114, 111, 99, 101, 100, 117, 114, 101]⟩) (3, 0, ⟨#[47]⟩) awF0).2)), (2, .ptrT (((Bl.formal (3, 0, ⟨#[101, 114, 114, 111, 114]⟩) awF1).1).1) (((Bl.formal (3, 0, ⟨#[101, 114, 114, 111, 114]⟩) awF1).1).2)), (3, .val (.bool true)), (5, .ptrT (((Bl.atom (2, 0, (⟨#[97, 98, 99]⟩)) .nil).2.1).1) (((Bl.atom (2, 0, (⟨#[97, 98, 99]⟩)) .nil).2.1).2)), (4, .val (.string (Bl.atom (2, 0, (⟨#[97, 98, 99]⟩)) .nil).1)), (6, .val (.bool true)), (8, .ptrT (((Bl.atom (1, 3, ByteArray.empty) .nil).2.1).1) (((Bl.atom (1, 3, ByteArray.empty) .nil).2.1).2)), (9, .val (.bool false)), (11, .ptrT (((Bl.code (1, 256, ByteArray.empty) .nil).2.1).1) (((Bl.code (1, 256, ByteArray.empty) .nil).2.1).2)), (12, .val (.bool false)), (14, .ptrT (((Bl.list (3, 0, ⟨#[46]⟩) awF3).2.1).1) (((Bl.list (3, 0, ⟨#[46]⟩) awF3).2.1).2)), (15, .val (.bool false)), (18, .ptrT (((Bl.ind (3, 0, ⟨#[47]⟩) awF4).2.2.1).1) (((Bl.ind (3, 0, ⟨#[47]⟩) awF4).2.2.1).2)), (16, .val (.string (Bl.ind (3, 0, ⟨#[47]⟩) awF4).1)), (17, .val (.int .i64 (Bl.ind (3, 0, ⟨#[47]⟩) awF4).2.1)), (19, .val (.bool true))]
theorem awake8a_0 {Q : Exit → Act → World → Prop}   : RStep (strip awake8Ops) Q (fun i => ((awake8aEs )[i]?).getD .any) (fun i => (awake8aDs[i]?).getD (1000 + i)) (look (awake8aEnv )) 163 0 := fun _ => step_load_term (by kernel_rfl) (Opd.of_base 1 rfl) rfl
theorem awake8a_1 {Q : Exit → Act → World → Prop}   : RStep (strip awake8Ops) Q (fun i => ((awake8aEs )[i]?).getD .any) (fun i => (awake8aDs[i]?).getD (1000 + i)) (look (awake8aEnv )) 163 1 := fun _ => step_la (g := 990) (by kernel_rfl) (Opd.const _) (Opd.of_base 990 rfl) rfl
theorem awake8a_2 {Q : Exit → Act → World → Prop}   : RStep (strip awake8Ops) Q (fun i => ((awake8aEs )[i]?).getD .any) (fun i => (awake8aDs[i]?).getD (1000 + i)) (look (awake8aEnv )) 163 2 := fun _ => step_la (g := 990) (by kernel_rfl) (Opd.const _) (Opd.of_base 990 rfl) rfl
theorem awake8a_3 {Q : Exit → Act → World → Prop}   : RStep (strip awake8Ops) Q (fun i => ((awake8aEs )[i]?).getD .any) (fun i => (awake8aDs[i]?).getD (1000 + i)) (look (awake8aEnv )) 163 3 := fun _ => step_la (g := 990) (by kernel_rfl) (Opd.const _) (Opd.of_base 990 rfl) rfl
theorem awake8a_4 {Q : Exit → Act → World → Prop}   : RStep (strip awake8Ops) Q (fun i => ((awake8aEs )[i]?).getD .any) (fun i => (awake8aDs[i]?).getD (1000 + i)) (look (awake8aEnv )) 163 4 := fun _ => step_ln (g := 990) (by kernel_rfl) (Opd.const _) (Opd.of_base 990 rfl) rfl
theorem awake8a_5 {Q : Exit → Act → World → Prop}   : RStep (strip awake8Ops) Q (fun i => ((awake8aEs )[i]?).getD .any) (fun i => (awake8aDs[i]?).getD (1000 + i)) (look (awake8aEnv )) 163 5 := fun _ => step_nslice2 (g := 990) (by kernel_rfl) (Opd.dep 3 rfl rfl (by kernel_rfl)) (Opd.dep 4 rfl rfl (by kernel_rfl)) (Opd.of_base 990 rfl) rfl
theorem awake8a_6 {Q : Exit → Act → World → Prop}   : RStep (strip awake8Ops) Q (fun i => ((awake8aEs )[i]?).getD .any) (fun i => (awake8aDs[i]?).getD (1000 + i)) (look (awake8aEnv )) 163 6 := fun _ => step_lf (by kernel_rfl) (Opd.const _) (Opd.ofK (Opd.dep 5 rfl rfl (by kernel_rfl))) rfl
theorem awake8a_7 {Q : Exit → Act → World → Prop}   : RStep (strip awake8Ops) Q (fun i => ((awake8aEs )[i]?).getD .any) (fun i => (awake8aDs[i]?).getD (1000 + i)) (look (awake8aEnv )) 163 7 := fun _ => step_nslice3 (g := 990) (by kernel_rfl) (Opd.dep 1 rfl rfl (by kernel_rfl)) (Opd.dep 2 rfl rfl (by kernel_rfl)) (Opd.dep 6 rfl rfl (by kernel_rfl)) (Opd.of_base 990 rfl) rfl
theorem awake8a_8 {Q : Exit → Act → World → Prop}   : RStep (strip awake8Ops) Q (fun i => ((awake8aEs )[i]?).getD .any) (fun i => (awake8aDs[i]?).getD (1000 + i)) (look (awake8aEnv )) 163 8 := fun _ => step_lf (by kernel_rfl) (Opd.const _) (Opd.ofK (Opd.dep 7 rfl rfl (by kernel_rfl))) rfl
theorem awake8a_9 {Q : Exit → Act → World → Prop}   : RStep (strip awake8Ops) Q (fun i => ((awake8aEs )[i]?).getD .any) (fun i => (awake8aDs[i]?).getD (1000 + i)) (look (awake8aEnv )) 163 9 := fun _ => step_lerr (by kernel_rfl) (Opd.ofT (Opd.dep 8 rfl rfl (by kernel_rfl))) rfl
theorem awake8a_10 {Q : Exit → Act → World → Prop}   : RStep (strip awake8Ops) Q (fun i => ((awake8aEs )[i]?).getD .any) (fun i => (awake8aDs[i]?).getD (1000 + i)) (look (awake8aEnv )) 163 10 := fun _ => step_lsame (by kernel_rfl) (Opd.dep 0 rfl rfl (by kernel_rfl)) (Opd.ofT (Opd.dep 9 rfl rfl (by kernel_rfl))) (by kernel_rfl)
theorem awake8a_11 {Q : Exit → Act → World → Prop}   : RStep (strip awake8Ops) Q (fun i => ((awake8aEs )[i]?).getD .any) (fun i => (awake8aDs[i]?).getD (1000 + i)) (look (awake8aEnv )) 163 11 := fun _ => step_move (by kernel_rfl) (Opd.dep 10 rfl rfl (by kernel_rfl)) rfl
theorem awake8a_12 {Q : Exit → Act → World → Prop}   : RStep (strip awake8Ops) Q (fun i => ((awake8aEs )[i]?).getD .any) (fun i => (awake8aDs[i]?).getD (1000 + i)) (look (awake8aEnv )) 163 12 := fun _ => step_bSyn (g := 990) (by kernel_rfl) (Opd.const _) (Opd.of_base 990 rfl) rfl
theorem awake8a_13 {Q : Exit → Act → World → Prop}   : RStep (strip awake8Ops) Q (fun i => ((awake8aEs )[i]?).getD .any) (fun i => (awake8aDs[i]?).getD (1000 + i)) (look (awake8aEnv )) 163 13 := fun _ => step_ln (g := 990) (by kernel_rfl) (Opd.const _) (Opd.of_base 990 rfl) rfl
theorem awake8a_14 {Q : Exit → Act → World → Prop}   : RStep (strip awake8Ops) Q (fun i => ((awake8aEs )[i]?).getD .any) (fun i => (awake8aDs[i]?).getD (1000 + i)) (look (awake8aEnv )) 163 14 := fun _ => step_nslice1 (g := 990) (by kernel_rfl) (Opd.dep 13 rfl rfl (by kernel_rfl)) (Opd.of_base 990 rfl) rfl
theorem awake8a_15 {Q : Exit → Act → World → Prop}   : RStep (strip awake8Ops) Q (fun i => ((awake8aEs )[i]?).getD .any) (fun i => (awake8aDs[i]?).getD (1000 + i)) (look (awake8aEnv )) 163 15 := fun _ => step_lf (by kernel_rfl) (Opd.const _) (Opd.ofK (Opd.dep 14 rfl rfl (by kernel_rfl))) rfl
theorem awake8a_16 {Q : Exit → Act → World → Prop}   : RStep (strip awake8Ops) Q (fun i => ((awake8aEs )[i]?).getD .any) (fun i => (awake8aDs[i]?).getD (1000 + i)) (look (awake8aEnv )) 163 16 := fun _ => step_lerr (by kernel_rfl) (Opd.ofT (Opd.dep 15 rfl rfl (by kernel_rfl))) rfl
theorem awake8a_17 {Q : Exit → Act → World → Prop}   : RStep (strip awake8Ops) Q (fun i => ((awake8aEs )[i]?).getD .any) (fun i => (awake8aDs[i]?).getD (1000 + i)) (look (awake8aEnv )) 163 17 := fun _ => step_lsame (by kernel_rfl) (Opd.ofT (Opd.dep 12 rfl rfl (by kernel_rfl))) (Opd.ofT (Opd.dep 16 rfl rfl (by kernel_rfl))) (by kernel_rfl)
theorem awake8a_18 {Q : Exit → Act → World → Prop}   : RStep (strip awake8Ops) Q (fun i => ((awake8aEs )[i]?).getD .any) (fun i => (awake8aDs[i]?).getD (1000 + i)) (look (awake8aEnv )) 163 18 := fun _ => step_pick_yes (y := .const (.bool false)) (by kernel_rfl) (Opd.dep 11 rfl rfl (by kernel_rfl)) (Opd.dep 17 rfl rfl (by kernel_rfl)) rfl
theorem awake8a_19 {Q : Exit → Act → World → Prop}   : RStep (strip awake8Ops) Q (fun i => ((awake8aEs )[i]?).getD .any) (fun i => (awake8aDs[i]?).getD (1000 + i)) (look (awake8aEnv )) 163 19 := fun _ => step_move (by kernel_rfl) (Opd.dep 18 rfl rfl (by kernel_rfl)) rfl
theorem awake8a_20 {Q : Exit → Act → World → Prop}   : RStep (strip awake8Ops) Q (fun i => ((awake8aEs )[i]?).getD .any) (fun i => (awake8aDs[i]?).getD (1000 + i)) (look (awake8aEnv )) 163 20 := fun _ => step_move (by kernel_rfl) (Opd.of_base 3 rfl) rfl
theorem awake8a_21 {Q : Exit → Act → World → Prop}   : RStep (strip awake8Ops) Q (fun i => ((awake8aEs )[i]?).getD .any) (fun i => (awake8aDs[i]?).getD (1000 + i)) (look (awake8aEnv )) 163 21 := fun _ => step_pick_yes (y := .const (.bool false)) (by kernel_rfl) (Opd.dep 19 rfl rfl (by kernel_rfl)) (Opd.dep 20 rfl rfl (by kernel_rfl)) rfl
theorem awake8a_22 {Q : Exit → Act → World → Prop}   : RStep (strip awake8Ops) Q (fun i => ((awake8aEs )[i]?).getD .any) (fun i => (awake8aDs[i]?).getD (1000 + i)) (look (awake8aEnv )) 163 22 := fun _ => step_move (by kernel_rfl) (Opd.dep 21 rfl rfl (by kernel_rfl)) rfl
theorem awake8a_23 {Q : Exit → Act → World → Prop}   : RStep (strip awake8Ops) Q (fun i => ((awake8aEs )[i]?).getD .any) (fun i => (awake8aDs[i]?).getD (1000 + i)) (look (awake8aEnv )) 163 23 := fun _ => step_load_term (by kernel_rfl) (Opd.of_base 2 rfl) rfl
theorem awake8a_24 {Q : Exit → Act → World → Prop}   : RStep (strip awake8Ops) Q (fun i => ((awake8aEs )[i]?).getD .any) (fun i => (awake8aDs[i]?).getD (1000 + i)) (look (awake8aEnv )) 163 24 := fun _ => step_la (g := 990) (by kernel_rfl) (Opd.const _) (Opd.of_base 990 rfl) rfl
theorem awake8a_25 {Q : Exit → Act → World → Prop}   : RStep (strip awake8Ops) Q (fun i => ((awake8aEs )[i]?).getD .any) (fun i => (awake8aDs[i]?).getD (1000 + i)) (look (awake8aEnv )) 163 25 := fun _ => step_lsame (by kernel_rfl) (Opd.dep 23 rfl rfl (by kernel_rfl)) (Opd.ofT (Opd.dep 24 rfl rfl (by kernel_rfl))) (by kernel_rfl)
theorem awake8a_26 {Q : Exit → Act → World → Prop}   : RStep (strip awake8Ops) Q (fun i => ((awake8aEs )[i]?).getD .any) (fun i => (awake8aDs[i]?).getD (1000 + i)) (look (awake8aEnv )) 163 26 := fun _ => step_pick_yes (y := .const (.bool false)) (by kernel_rfl) (Opd.dep 22 rfl rfl (by kernel_rfl)) (Opd.dep 25 rfl rfl (by kernel_rfl)) rfl
theorem awake8a_27 {Q : Exit → Act → World → Prop}   : RStep (strip awake8Ops) Q (fun i => ((awake8aEs )[i]?).getD .any) (fun i => (awake8aDs[i]?).getD (1000 + i)) (look (awake8aEnv )) 163 27 := fun _ => step_move (by kernel_rfl) (Opd.dep 26 rfl rfl (by kernel_rfl)) rfl
theorem awake8a_28 {Q : Exit → Act → World → Prop}   : RStep (strip awake8Ops) Q (fun i => ((awake8aEs )[i]?).getD .any) (fun i => (awake8aDs[i]?).getD (1000 + i)) (look (awake8aEnv )) 163 28 := fun _ => step_move (by kernel_rfl) (Opd.of_base 4 rfl) rfl
theorem awake8a_29 {Q : Exit → Act → World → Prop}   : RStep (strip awake8Ops) Q (fun i => ((awake8aEs )[i]?).getD .any) (fun i => (awake8aDs[i]?).getD (1000 + i)) (look (awake8aEnv )) 163 29 := fun _ => step_eqb_str (s := (Bl.atom (2, 0, (⟨#[97, 98, 99]⟩)) .nil).1) (t := ⟨#[97, 98, 99]⟩) (by kernel_rfl) (Opd.dep 28 rfl rfl (by kernel_rfl)) (Opd.const _) (by kernel_rfl) rfl
theorem awake8a_30 {Q : Exit → Act → World → Prop}   : RStep (strip awake8Ops) Q (fun i => ((awake8aEs )[i]?).getD .any) (fun i => (awake8aDs[i]?).getD (1000 + i)) (look (awake8aEnv )) 163 30 := fun _ => step_pick_yes (y := .const (.bool false)) (by kernel_rfl) (Opd.dep 27 rfl rfl (by kernel_rfl)) (Opd.dep 29 rfl rfl (by kernel_rfl)) rfl
theorem awake8a_31 {Q : Exit → Act → World → Prop}   : RStep (strip awake8Ops) Q (fun i => ((awake8aEs )[i]?).getD .any) (fun i => (awake8aDs[i]?).getD (1000 + i)) (look (awake8aEnv )) 163 31 := fun _ => step_move (by kernel_rfl) (Opd.dep 30 rfl rfl (by kernel_rfl)) rfl
theorem awake8a_32 {Q : Exit → Act → World → Prop}   : RStep (strip awake8Ops) Q (fun i => ((awake8aEs )[i]?).getD .any) (fun i => (awake8aDs[i]?).getD (1000 + i)) (look (awake8aEnv )) 163 32 := fun _ => step_load_term (by kernel_rfl) (Opd.of_base 5 rfl) rfl
theorem awake8a_33 {Q : Exit → Act → World → Prop}   : RStep (strip awake8Ops) Q (fun i => ((awake8aEs )[i]?).getD .any) (fun i => (awake8aDs[i]?).getD (1000 + i)) (look (awake8aEnv )) 163 33 := fun _ => step_lx (g := 990) (by kernel_rfl) (Opd.const _) (Opd.of_base 990 rfl) rfl
theorem awake8a_34 {Q : Exit → Act → World → Prop}   : RStep (strip awake8Ops) Q (fun i => ((awake8aEs )[i]?).getD .any) (fun i => (awake8aDs[i]?).getD (1000 + i)) (look (awake8aEnv )) 163 34 := fun _ => step_lsame (by kernel_rfl) (Opd.dep 32 rfl rfl (by kernel_rfl)) (Opd.ofT (Opd.dep 33 rfl rfl (by kernel_rfl))) (by kernel_rfl)
theorem awake8a_35 {Q : Exit → Act → World → Prop}   : RStep (strip awake8Ops) Q (fun i => ((awake8aEs )[i]?).getD .any) (fun i => (awake8aDs[i]?).getD (1000 + i)) (look (awake8aEnv )) 163 35 := fun _ => step_pick_yes (y := .const (.bool false)) (by kernel_rfl) (Opd.dep 31 rfl rfl (by kernel_rfl)) (Opd.dep 34 rfl rfl (by kernel_rfl)) rfl
theorem awake8a_36 {Q : Exit → Act → World → Prop}   : RStep (strip awake8Ops) Q (fun i => ((awake8aEs )[i]?).getD .any) (fun i => (awake8aDs[i]?).getD (1000 + i)) (look (awake8aEnv )) 163 36 := fun _ => step_move (by kernel_rfl) (Opd.dep 35 rfl rfl (by kernel_rfl)) rfl
theorem awake8a_37 {Q : Exit → Act → World → Prop}   : RStep (strip awake8Ops) Q (fun i => ((awake8aEs )[i]?).getD .any) (fun i => (awake8aDs[i]?).getD (1000 + i)) (look (awake8aEnv )) 163 37 := fun _ => step_move (by kernel_rfl) (Opd.of_base 6 rfl) rfl
theorem awake8a_38 {Q : Exit → Act → World → Prop}   : RStep (strip awake8Ops) Q (fun i => ((awake8aEs )[i]?).getD .any) (fun i => (awake8aDs[i]?).getD (1000 + i)) (look (awake8aEnv )) 163 38 := fun _ => step_pick_yes (y := .const (.bool false)) (by kernel_rfl) (Opd.dep 36 rfl rfl (by kernel_rfl)) (Opd.dep 37 rfl rfl (by kernel_rfl)) rfl
theorem awake8a_39 {Q : Exit → Act → World → Prop}   : RStep (strip awake8Ops) Q (fun i => ((awake8aEs )[i]?).getD .any) (fun i => (awake8aDs[i]?).getD (1000 + i)) (look (awake8aEnv )) 163 39 := fun _ => step_move (by kernel_rfl) (Opd.dep 38 rfl rfl (by kernel_rfl)) rfl
theorem awake8a_40 {Q : Exit → Act → World → Prop}   : RStep (strip awake8Ops) Q (fun i => ((awake8aEs )[i]?).getD .any) (fun i => (awake8aDs[i]?).getD (1000 + i)) (look (awake8aEnv )) 163 40 := fun _ => step_load_term (by kernel_rfl) (Opd.of_base 8 rfl) rfl
theorem awake8a_41 {Q : Exit → Act → World → Prop}   : RStep (strip awake8Ops) Q (fun i => ((awake8aEs )[i]?).getD .any) (fun i => (awake8aDs[i]?).getD (1000 + i)) (look (awake8aEnv )) 163 41 := fun _ => step_la (g := 990) (by kernel_rfl) (Opd.const _) (Opd.of_base 990 rfl) rfl
theorem awake8a_42 {Q : Exit → Act → World → Prop}   : RStep (strip awake8Ops) Q (fun i => ((awake8aEs )[i]?).getD .any) (fun i => (awake8aDs[i]?).getD (1000 + i)) (look (awake8aEnv )) 163 42 := fun _ => step_ln (g := 990) (by kernel_rfl) (Opd.const _) (Opd.of_base 990 rfl) rfl
theorem awake8a_43 {Q : Exit → Act → World → Prop}   : RStep (strip awake8Ops) Q (fun i => ((awake8aEs )[i]?).getD .any) (fun i => (awake8aDs[i]?).getD (1000 + i)) (look (awake8aEnv )) 163 43 := fun _ => step_nslice2 (g := 990) (by kernel_rfl) (Opd.dep 41 rfl rfl (by kernel_rfl)) (Opd.dep 42 rfl rfl (by kernel_rfl)) (Opd.of_base 990 rfl) rfl
theorem awake8a_44 {Q : Exit → Act → World → Prop}   : RStep (strip awake8Ops) Q (fun i => ((awake8aEs )[i]?).getD .any) (fun i => (awake8aDs[i]?).getD (1000 + i)) (look (awake8aEnv )) 163 44 := fun _ => step_lf (by kernel_rfl) (Opd.const _) (Opd.ofK (Opd.dep 43 rfl rfl (by kernel_rfl))) rfl
theorem awake8a_45 {Q : Exit → Act → World → Prop}   : RStep (strip awake8Ops) Q (fun i => ((awake8aEs )[i]?).getD .any) (fun i => (awake8aDs[i]?).getD (1000 + i)) (look (awake8aEnv )) 163 45 := fun _ => step_lerr (by kernel_rfl) (Opd.ofT (Opd.dep 44 rfl rfl (by kernel_rfl))) rfl
theorem awake8a_46 {Q : Exit → Act → World → Prop}   : RStep (strip awake8Ops) Q (fun i => ((awake8aEs )[i]?).getD .any) (fun i => (awake8aDs[i]?).getD (1000 + i)) (look (awake8aEnv )) 163 46 := fun _ => step_lsame (by kernel_rfl) (Opd.dep 40 rfl rfl (by kernel_rfl)) (Opd.ofT (Opd.dep 45 rfl rfl (by kernel_rfl))) (by kernel_rfl)
theorem awake8a_47 {Q : Exit → Act → World → Prop}   : RStep (strip awake8Ops) Q (fun i => ((awake8aEs )[i]?).getD .any) (fun i => (awake8aDs[i]?).getD (1000 + i)) (look (awake8aEnv )) 163 47 := fun _ => step_pick_yes (y := .const (.bool false)) (by kernel_rfl) (Opd.dep 39 rfl rfl (by kernel_rfl)) (Opd.dep 46 rfl rfl (by kernel_rfl)) rfl
theorem awake8a_48 {Q : Exit → Act → World → Prop}   : RStep (strip awake8Ops) Q (fun i => ((awake8aEs )[i]?).getD .any) (fun i => (awake8aDs[i]?).getD (1000 + i)) (look (awake8aEnv )) 163 48 := fun _ => step_move (by kernel_rfl) (Opd.dep 47 rfl rfl (by kernel_rfl)) rfl
theorem awake8a_49 {Q : Exit → Act → World → Prop}   : RStep (strip awake8Ops) Q (fun i => ((awake8aEs )[i]?).getD .any) (fun i => (awake8aDs[i]?).getD (1000 + i)) (look (awake8aEnv )) 163 49 := fun _ => step_move (by kernel_rfl) (Opd.of_base 9 rfl) rfl
theorem awake8a_50 {Q : Exit → Act → World → Prop}   : RStep (strip awake8Ops) Q (fun i => ((awake8aEs )[i]?).getD .any) (fun i => (awake8aDs[i]?).getD (1000 + i)) (look (awake8aEnv )) 163 50 := fun _ => step_not (by kernel_rfl) (Opd.dep 49 rfl rfl (by kernel_rfl)) rfl
theorem awake8a_51 {Q : Exit → Act → World → Prop}   : RStep (strip awake8Ops) Q (fun i => ((awake8aEs )[i]?).getD .any) (fun i => (awake8aDs[i]?).getD (1000 + i)) (look (awake8aEnv )) 163 51 := fun _ => step_pick_yes (y := .const (.bool false)) (by kernel_rfl) (Opd.dep 48 rfl rfl (by kernel_rfl)) (Opd.dep 50 rfl rfl (by kernel_rfl)) rfl
theorem awake8a_52 {Q : Exit → Act → World → Prop}   : RStep (strip awake8Ops) Q (fun i => ((awake8aEs )[i]?).getD .any) (fun i => (awake8aDs[i]?).getD (1000 + i)) (look (awake8aEnv )) 163 52 := fun _ => step_move (by kernel_rfl) (Opd.dep 51 rfl rfl (by kernel_rfl)) rfl
theorem awake8a_53 {Q : Exit → Act → World → Prop}   : RStep (strip awake8Ops) Q (fun i => ((awake8aEs )[i]?).getD .any) (fun i => (awake8aDs[i]?).getD (1000 + i)) (look (awake8aEnv )) 163 53 := fun _ => step_load_term (by kernel_rfl) (Opd.of_base 11 rfl) rfl
theorem awake8a_54 {Q : Exit → Act → World → Prop}   : RStep (strip awake8Ops) Q (fun i => ((awake8aEs )[i]?).getD .any) (fun i => (awake8aDs[i]?).getD (1000 + i)) (look (awake8aEnv )) 163 54 := fun _ => step_la (g := 990) (by kernel_rfl) (Opd.const _) (Opd.of_base 990 rfl) rfl
theorem awake8a_55 {Q : Exit → Act → World → Prop}   : RStep (strip awake8Ops) Q (fun i => ((awake8aEs )[i]?).getD .any) (fun i => (awake8aDs[i]?).getD (1000 + i)) (look (awake8aEnv )) 163 55 := fun _ => step_nslice1 (g := 990) (by kernel_rfl) (Opd.dep 54 rfl rfl (by kernel_rfl)) (Opd.of_base 990 rfl) rfl
theorem awake8a_56 {Q : Exit → Act → World → Prop}   : RStep (strip awake8Ops) Q (fun i => ((awake8aEs )[i]?).getD .any) (fun i => (awake8aDs[i]?).getD (1000 + i)) (look (awake8aEnv )) 163 56 := fun _ => step_lf (by kernel_rfl) (Opd.const _) (Opd.ofK (Opd.dep 55 rfl rfl (by kernel_rfl))) rfl
theorem awake8a_57 {Q : Exit → Act → World → Prop}   : RStep (strip awake8Ops) Q (fun i => ((awake8aEs )[i]?).getD .any) (fun i => (awake8aDs[i]?).getD (1000 + i)) (look (awake8aEnv )) 163 57 := fun _ => step_lerr (by kernel_rfl) (Opd.ofT (Opd.dep 56 rfl rfl (by kernel_rfl))) rfl
theorem awake8a_58 {Q : Exit → Act → World → Prop}   : RStep (strip awake8Ops) Q (fun i => ((awake8aEs )[i]?).getD .any) (fun i => (awake8aDs[i]?).getD (1000 + i)) (look (awake8aEnv )) 163 58 := fun _ => step_lsame (by kernel_rfl) (Opd.dep 53 rfl rfl (by kernel_rfl)) (Opd.ofT (Opd.dep 57 rfl rfl (by kernel_rfl))) (by kernel_rfl)
theorem awake8a_59 {Q : Exit → Act → World → Prop}   : RStep (strip awake8Ops) Q (fun i => ((awake8aEs )[i]?).getD .any) (fun i => (awake8aDs[i]?).getD (1000 + i)) (look (awake8aEnv )) 163 59 := fun _ => step_pick_yes (y := .const (.bool false)) (by kernel_rfl) (Opd.dep 52 rfl rfl (by kernel_rfl)) (Opd.dep 58 rfl rfl (by kernel_rfl)) rfl
theorem awake8a_60 {Q : Exit → Act → World → Prop}   : RStep (strip awake8Ops) Q (fun i => ((awake8aEs )[i]?).getD .any) (fun i => (awake8aDs[i]?).getD (1000 + i)) (look (awake8aEnv )) 163 60 := fun _ => step_move (by kernel_rfl) (Opd.dep 59 rfl rfl (by kernel_rfl)) rfl
theorem awake8a_61 {Q : Exit → Act → World → Prop}   : RStep (strip awake8Ops) Q (fun i => ((awake8aEs )[i]?).getD .any) (fun i => (awake8aDs[i]?).getD (1000 + i)) (look (awake8aEnv )) 163 61 := fun _ => step_move (by kernel_rfl) (Opd.of_base 12 rfl) rfl
theorem awake8a_62 {Q : Exit → Act → World → Prop}   : RStep (strip awake8Ops) Q (fun i => ((awake8aEs )[i]?).getD .any) (fun i => (awake8aDs[i]?).getD (1000 + i)) (look (awake8aEnv )) 163 62 := fun _ => step_not (by kernel_rfl) (Opd.dep 61 rfl rfl (by kernel_rfl)) rfl
theorem awake8a_63 {Q : Exit → Act → World → Prop}   : RStep (strip awake8Ops) Q (fun i => ((awake8aEs )[i]?).getD .any) (fun i => (awake8aDs[i]?).getD (1000 + i)) (look (awake8aEnv )) 163 63 := fun _ => step_pick_yes (y := .const (.bool false)) (by kernel_rfl) (Opd.dep 60 rfl rfl (by kernel_rfl)) (Opd.dep 62 rfl rfl (by kernel_rfl)) rfl
theorem awake8a_64 {Q : Exit → Act → World → Prop}   : RStep (strip awake8Ops) Q (fun i => ((awake8aEs )[i]?).getD .any) (fun i => (awake8aDs[i]?).getD (1000 + i)) (look (awake8aEnv )) 163 64 := fun _ => step_move (by kernel_rfl) (Opd.dep 63 rfl rfl (by kernel_rfl)) rfl
theorem awake8a_65 {Q : Exit → Act → World → Prop}   : RStep (strip awake8Ops) Q (fun i => ((awake8aEs )[i]?).getD .any) (fun i => (awake8aDs[i]?).getD (1000 + i)) (look (awake8aEnv )) 163 65 := fun _ => step_load_term (by kernel_rfl) (Opd.of_base 14 rfl) rfl
theorem awake8a_66 {Q : Exit → Act → World → Prop}   : RStep (strip awake8Ops) Q (fun i => ((awake8aEs )[i]?).getD .any) (fun i => (awake8aDs[i]?).getD (1000 + i)) (look (awake8aEnv )) 163 66 := fun _ => step_la (g := 990) (by kernel_rfl) (Opd.const _) (Opd.of_base 990 rfl) rfl
theorem awake8a_67 {Q : Exit → Act → World → Prop}   : RStep (strip awake8Ops) Q (fun i => ((awake8aEs )[i]?).getD .any) (fun i => (awake8aDs[i]?).getD (1000 + i)) (look (awake8aEnv )) 163 67 := fun _ => step_lerr (by kernel_rfl) (Opd.ofT (Opd.dep 66 rfl rfl (by kernel_rfl))) rfl
theorem awake8a_68 {Q : Exit → Act → World → Prop}   : RStep (strip awake8Ops) Q (fun i => ((awake8aEs )[i]?).getD .any) (fun i => (awake8aDs[i]?).getD (1000 + i)) (look (awake8aEnv )) 163 68 := fun _ => step_lsame (by kernel_rfl) (Opd.dep 65 rfl rfl (by kernel_rfl)) (Opd.ofT (Opd.dep 67 rfl rfl (by kernel_rfl))) (by kernel_rfl)
theorem awake8a_69 {Q : Exit → Act → World → Prop}   : RStep (strip awake8Ops) Q (fun i => ((awake8aEs )[i]?).getD .any) (fun i => (awake8aDs[i]?).getD (1000 + i)) (look (awake8aEnv )) 163 69 := fun _ => step_pick_yes (y := .const (.bool false)) (by kernel_rfl) (Opd.dep 64 rfl rfl (by kernel_rfl)) (Opd.dep 68 rfl rfl (by kernel_rfl)) rfl
theorem awake8a_70 {Q : Exit → Act → World → Prop}   : RStep (strip awake8Ops) Q (fun i => ((awake8aEs )[i]?).getD .any) (fun i => (awake8aDs[i]?).getD (1000 + i)) (look (awake8aEnv )) 163 70 := fun _ => step_move (by kernel_rfl) (Opd.dep 69 rfl rfl (by kernel_rfl)) rfl
theorem awake8a_71 {Q : Exit → Act → World → Prop}   : RStep (strip awake8Ops) Q (fun i => ((awake8aEs )[i]?).getD .any) (fun i => (awake8aDs[i]?).getD (1000 + i)) (look (awake8aEnv )) 163 71 := fun _ => step_move (by kernel_rfl) (Opd.of_base 15 rfl) rfl
theorem awake8a_72 {Q : Exit → Act → World → Prop}   : RStep (strip awake8Ops) Q (fun i => ((awake8aEs )[i]?).getD .any) (fun i => (awake8aDs[i]?).getD (1000 + i)) (look (awake8aEnv )) 163 72 := fun _ => step_not (by kernel_rfl) (Opd.dep 71 rfl rfl (by kernel_rfl)) rfl
theorem awake8a_73 {Q : Exit → Act → World → Prop}   : RStep (strip awake8Ops) Q (fun i => ((awake8aEs )[i]?).getD .any) (fun i => (awake8aDs[i]?).getD (1000 + i)) (look (awake8aEnv )) 163 73 := fun _ => step_pick_yes (y := .const (.bool false)) (by kernel_rfl) (Opd.dep 70 rfl rfl (by kernel_rfl)) (Opd.dep 72 rfl rfl (by kernel_rfl)) rfl
theorem awake8a_74 {Q : Exit → Act → World → Prop}   : RStep (strip awake8Ops) Q (fun i => ((awake8aEs )[i]?).getD .any) (fun i => (awake8aDs[i]?).getD (1000 + i)) (look (awake8aEnv )) 163 74 := fun _ => step_move (by kernel_rfl) (Opd.dep 73 rfl rfl (by kernel_rfl)) rfl
theorem awake8a_75 {Q : Exit → Act → World → Prop}   : RStep (strip awake8Ops) Q (fun i => ((awake8aEs )[i]?).getD .any) (fun i => (awake8aDs[i]?).getD (1000 + i)) (look (awake8aEnv )) 163 75 := fun _ => step_move (by kernel_rfl) (Opd.of_base 16 rfl) rfl
theorem awake8a_76 {Q : Exit → Act → World → Prop}   : RStep (strip awake8Ops) Q (fun i => ((awake8aEs )[i]?).getD .any) (fun i => (awake8aDs[i]?).getD (1000 + i)) (look (awake8aEnv )) 163 76 := fun _ => step_eqb_str (s := (Bl.ind (3, 0, ⟨#[47]⟩) awF4).1) (t := ⟨#[102]⟩) (by kernel_rfl) (Opd.dep 75 rfl rfl (by kernel_rfl)) (Opd.const _) (by kernel_rfl) rfl
theorem awake8a_77 {Q : Exit → Act → World → Prop}   : RStep (strip awake8Ops) Q (fun i => ((awake8aEs )[i]?).getD .any) (fun i => (awake8aDs[i]?).getD (1000 + i)) (look (awake8aEnv )) 163 77 := fun _ => step_pick_yes (y := .const (.bool false)) (by kernel_rfl) (Opd.dep 74 rfl rfl (by kernel_rfl)) (Opd.dep 76 rfl rfl (by kernel_rfl)) rfl
theorem awake8a_78 {Q : Exit → Act → World → Prop}   : RStep (strip awake8Ops) Q (fun i => ((awake8aEs )[i]?).getD .any) (fun i => (awake8aDs[i]?).getD (1000 + i)) (look (awake8aEnv )) 163 78 := fun _ => step_move (by kernel_rfl) (Opd.dep 77 rfl rfl (by kernel_rfl)) rfl
theorem awake8a_79 {Q : Exit → Act → World → Prop}   : RStep (strip awake8Ops) Q (fun i => ((awake8aEs )[i]?).getD .any) (fun i => (awake8aDs[i]?).getD (1000 + i)) (look (awake8aEnv )) 163 79 := fun _ => step_move (by kernel_rfl) (Opd.of_base 17 rfl) rfl
theorem awake8a_80 {Q : Exit → Act → World → Prop}   : RStep (strip awake8Ops) Q (fun i => ((awake8aEs )[i]?).getD .any) (fun i => (awake8aDs[i]?).getD (1000 + i)) (look (awake8aEnv )) 163 80 := fun _ => step_eqb_int (m := (Bl.ind (3, 0, ⟨#[47]⟩) awF4).2.1) (n := 2) (by kernel_rfl) (Opd.dep 79 rfl rfl (by kernel_rfl)) (Opd.const _) (by kernel_rfl) rfl
theorem awake8a_81 {Q : Exit → Act → World → Prop}   : RStep (strip awake8Ops) Q (fun i => ((awake8aEs )[i]?).getD .any) (fun i => (awake8aDs[i]?).getD (1000 + i)) (look (awake8aEnv )) 163 81 := fun _ => step_pick_yes (y := .const (.bool false)) (by kernel_rfl) (Opd.dep 78 rfl rfl (by kernel_rfl)) (Opd.dep 80 rfl rfl (by kernel_rfl)) rfl
theorem awake8a_82 {Q : Exit → Act → World → Prop}   : RStep (strip awake8Ops) Q (fun i => ((awake8aEs )[i]?).getD .any) (fun i => (awake8aDs[i]?).getD (1000 + i)) (look (awake8aEnv )) 163 82 := fun _ => step_move (by kernel_rfl) (Opd.dep 81 rfl rfl (by kernel_rfl)) rfl
theorem awake8a_83 {Q : Exit → Act → World → Prop}   : RStep (strip awake8Ops) Q (fun i => ((awake8aEs )[i]?).getD .any) (fun i => (awake8aDs[i]?).getD (1000 + i)) (look (awake8aEnv )) 163 83 := fun _ => step_load_term (by kernel_rfl) (Opd.of_base 18 rfl) rfl
theorem awake8a_84 {Q : Exit → Act → World → Prop}   : RStep (strip awake8Ops) Q (fun i => ((awake8aEs )[i]?).getD .any) (fun i => (awake8aDs[i]?).getD (1000 + i)) (look (awake8aEnv )) 163 84 := fun _ => step_lx (g := 990) (by kernel_rfl) (Opd.const _) (Opd.of_base 990 rfl) rfl
theorem awake8a_85 {Q : Exit → Act → World → Prop}   : RStep (strip awake8Ops) Q (fun i => ((awake8aEs )[i]?).getD .any) (fun i => (awake8aDs[i]?).getD (1000 + i)) (look (awake8aEnv )) 163 85 := fun _ => step_lsame (by kernel_rfl) (Opd.dep 83 rfl rfl (by kernel_rfl)) (Opd.ofT (Opd.dep 84 rfl rfl (by kernel_rfl))) (by kernel_rfl)
theorem awake8a_86 {Q : Exit → Act → World → Prop}   : RStep (strip awake8Ops) Q (fun i => ((awake8aEs )[i]?).getD .any) (fun i => (awake8aDs[i]?).getD (1000 + i)) (look (awake8aEnv )) 163 86 := fun _ => step_pick_yes (y := .const (.bool false)) (by kernel_rfl) (Opd.dep 82 rfl rfl (by kernel_rfl)) (Opd.dep 85 rfl rfl (by kernel_rfl)) rfl
theorem awake8a_87 {Q : Exit → Act → World → Prop}   : RStep (strip awake8Ops) Q (fun i => ((awake8aEs )[i]?).getD .any) (fun i => (awake8aDs[i]?).getD (1000 + i)) (look (awake8aEnv )) 163 87 := fun _ => step_move (by kernel_rfl) (Opd.dep 86 rfl rfl (by kernel_rfl)) rfl
theorem awake8a_88 {Q : Exit → Act → World → Prop}   : RStep (strip awake8Ops) Q (fun i => ((awake8aEs )[i]?).getD .any) (fun i => (awake8aDs[i]?).getD (1000 + i)) (look (awake8aEnv )) 163 88 := fun _ => step_move (by kernel_rfl) (Opd.of_base 19 rfl) rfl
theorem awake8a_89 {Q : Exit → Act → World → Prop}   : RStep (strip awake8Ops) Q (fun i => ((awake8aEs )[i]?).getD .any) (fun i => (awake8aDs[i]?).getD (1000 + i)) (look (awake8aEnv )) 163 89 := fun _ => step_pick_yes (y := .const (.bool false)) (by kernel_rfl) (Opd.dep 87 rfl rfl (by kernel_rfl)) (Opd.dep 88 rfl rfl (by kernel_rfl)) rfl
theorem awake8a_90 {Q : Exit → Act → World → Prop}   : RStep (strip awake8Ops) Q (fun i => ((awake8aEs )[i]?).getD .any) (fun i => (awake8aDs[i]?).getD (1000 + i)) (look (awake8aEnv )) 163 90 := fun _ => step_assign (by kernel_rfl) (Opd.dep 89 rfl rfl (by kernel_rfl)) rfl
theorem awake8a_region {Q : Exit → Act → World → Prop}   {w0 : World} {a : Act} {w : World} (h : Hold 163 [(990, .sat (gP 0 none)), (1, .ptrT ((Bl.perm (⟨#[109, 111, 100, 105, 102, 121]⟩) (⟨#[115, 116, 97, 116, 105, 99, 95, 112, 114, 111, 99, 101, 100, 117, 114, 101]⟩) (3, 0, ⟨#[47]⟩) awF0).1) ((Bl.perm (⟨#[109, 111, 100, 105, 102, 121]⟩) (⟨#[115, 116, 97, 116, 105, 99, 95, 112, 114, 111, 99, 101, 100, 117, 114, 101]⟩) (3, 0, ⟨#[47]⟩) awF0).2)), (2, .ptrT (((Bl.formal (3, 0, ⟨#[101, 114, 114, 111, 114]⟩) awF1).1).1) (((Bl.formal (3, 0, ⟨#[101, 114, 114, 111, 114]⟩) awF1).1).2)), (3, .val (.bool true)), (5, .ptrT (((Bl.atom (2, 0, (⟨#[97, 98, 99]⟩)) .nil).2.1).1) (((Bl.atom (2, 0, (⟨#[97, 98, 99]⟩)) .nil).2.1).2)), (4, .val (.string (Bl.atom (2, 0, (⟨#[97, 98, 99]⟩)) .nil).1)), (6, .val (.bool true)), (8, .ptrT (((Bl.atom (1, 3, ByteArray.empty) .nil).2.1).1) (((Bl.atom (1, 3, ByteArray.empty) .nil).2.1).2)), (9, .val (.bool false)), (11, .ptrT (((Bl.code (1, 256, ByteArray.empty) .nil).2.1).1) (((Bl.code (1, 256, ByteArray.empty) .nil).2.1).2)), (12, .val (.bool false)), (14, .ptrT (((Bl.list (3, 0, ⟨#[46]⟩) awF3).2.1).1) (((Bl.list (3, 0, ⟨#[46]⟩) awF3).2.1).2)), (15, .val (.bool false)), (18, .ptrT (((Bl.ind (3, 0, ⟨#[47]⟩) awF4).2.2.1).1) (((Bl.ind (3, 0, ⟨#[47]⟩) awF4).2.2.1).2)), (16, .val (.string (Bl.ind (3, 0, ⟨#[47]⟩) awF4).1)), (17, .val (.int .i64 (Bl.ind (3, 0, ⟨#[47]⟩) awF4).2.1)), (19, .val (.bool true))] w0 a w)
    (hQ : ∀ a' w', Hold 163 [(990, .sat (gP 0 none)), (0, .val (.bool true))] w0 a' w' → Q .normal a' w') : (Code.region 8 awake8Ops true).wp Try.prog Q a w := by
  have hall : ∀ i, i < 0 → RStep (strip awake8Ops) Q (fun i => ((awake8aEs )[i]?).getD .any) (fun i => (awake8aDs[i]?).getD (1000 + i)) (look (awake8aEnv )) 163 i := fun i hi => absurd hi (by omega)
  have hall := below_succ hall (awake8a_0  )
  have hall := below_succ hall (awake8a_1  )
  have hall := below_succ hall (awake8a_2  )
  have hall := below_succ hall (awake8a_3  )
  have hall := below_succ hall (awake8a_4  )
  have hall := below_succ hall (awake8a_5  )
  have hall := below_succ hall (awake8a_6  )
  have hall := below_succ hall (awake8a_7  )
  have hall := below_succ hall (awake8a_8  )
  have hall := below_succ hall (awake8a_9  )
  have hall := below_succ hall (awake8a_10  )
  have hall := below_succ hall (awake8a_11  )
  have hall := below_succ hall (awake8a_12  )
  have hall := below_succ hall (awake8a_13  )
  have hall := below_succ hall (awake8a_14  )
  have hall := below_succ hall (awake8a_15  )
  have hall := below_succ hall (awake8a_16  )
  have hall := below_succ hall (awake8a_17  )
  have hall := below_succ hall (awake8a_18  )
  have hall := below_succ hall (awake8a_19  )
  have hall := below_succ hall (awake8a_20  )
  have hall := below_succ hall (awake8a_21  )
  have hall := below_succ hall (awake8a_22  )
  have hall := below_succ hall (awake8a_23  )
  have hall := below_succ hall (awake8a_24  )
  have hall := below_succ hall (awake8a_25  )
  have hall := below_succ hall (awake8a_26  )
  have hall := below_succ hall (awake8a_27  )
  have hall := below_succ hall (awake8a_28  )
  have hall := below_succ hall (awake8a_29  )
  have hall := below_succ hall (awake8a_30  )
  have hall := below_succ hall (awake8a_31  )
  have hall := below_succ hall (awake8a_32  )
  have hall := below_succ hall (awake8a_33  )
  have hall := below_succ hall (awake8a_34  )
  have hall := below_succ hall (awake8a_35  )
  have hall := below_succ hall (awake8a_36  )
  have hall := below_succ hall (awake8a_37  )
  have hall := below_succ hall (awake8a_38  )
  have hall := below_succ hall (awake8a_39  )
  have hall := below_succ hall (awake8a_40  )
  have hall := below_succ hall (awake8a_41  )
  have hall := below_succ hall (awake8a_42  )
  have hall := below_succ hall (awake8a_43  )
  have hall := below_succ hall (awake8a_44  )
  have hall := below_succ hall (awake8a_45  )
  have hall := below_succ hall (awake8a_46  )
  have hall := below_succ hall (awake8a_47  )
  have hall := below_succ hall (awake8a_48  )
  have hall := below_succ hall (awake8a_49  )
  have hall := below_succ hall (awake8a_50  )
  have hall := below_succ hall (awake8a_51  )
  have hall := below_succ hall (awake8a_52  )
  have hall := below_succ hall (awake8a_53  )
  have hall := below_succ hall (awake8a_54  )
  have hall := below_succ hall (awake8a_55  )
  have hall := below_succ hall (awake8a_56  )
  have hall := below_succ hall (awake8a_57  )
  have hall := below_succ hall (awake8a_58  )
  have hall := below_succ hall (awake8a_59  )
  have hall := below_succ hall (awake8a_60  )
  have hall := below_succ hall (awake8a_61  )
  have hall := below_succ hall (awake8a_62  )
  have hall := below_succ hall (awake8a_63  )
  have hall := below_succ hall (awake8a_64  )
  have hall := below_succ hall (awake8a_65  )
  have hall := below_succ hall (awake8a_66  )
  have hall := below_succ hall (awake8a_67  )
  have hall := below_succ hall (awake8a_68  )
  have hall := below_succ hall (awake8a_69  )
  have hall := below_succ hall (awake8a_70  )
  have hall := below_succ hall (awake8a_71  )
  have hall := below_succ hall (awake8a_72  )
  have hall := below_succ hall (awake8a_73  )
  have hall := below_succ hall (awake8a_74  )
  have hall := below_succ hall (awake8a_75  )
  have hall := below_succ hall (awake8a_76  )
  have hall := below_succ hall (awake8a_77  )
  have hall := below_succ hall (awake8a_78  )
  have hall := below_succ hall (awake8a_79  )
  have hall := below_succ hall (awake8a_80  )
  have hall := below_succ hall (awake8a_81  )
  have hall := below_succ hall (awake8a_82  )
  have hall := below_succ hall (awake8a_83  )
  have hall := below_succ hall (awake8a_84  )
  have hall := below_succ hall (awake8a_85  )
  have hall := below_succ hall (awake8a_86  )
  have hall := below_succ hall (awake8a_87  )
  have hall := below_succ hall (awake8a_88  )
  have hall := below_succ hall (awake8a_89  )
  have hall := below_succ hall (awake8a_90  )
  refine env_then (m := 91) (n := 91) awake8aDs (awake8aEs ) rfl (by kernel_rfl) (by decide) (by kernel_rfl) (of_decide_eq_true (by kernel_rfl)) (by kernel_rfl) (by kernel_rfl) (fun i_ hi_ => hall i_ hi_) h fun a w h => ?_
  clear hall
  have h := h.keep [990, 1, 2, 3, 5, 4, 6, 8, 9, 11, 12, 14, 15, 18, 16, 17, 19, 73, 74, 75, 76, 77, 78, 79, 80, 81, 82, 83, 84, 85, 86, 87, 88, 89, 90, 91, 92, 93, 94, 95, 96, 97, 98, 99, 100, 101, 102, 103, 104, 105, 106, 107, 108, 109, 110, 111, 112, 113, 114, 115, 116, 117, 118, 119, 120, 121, 122, 123, 124, 125, 126, 127, 128, 129, 130, 131, 132, 133, 134, 135, 136, 137, 138, 139, 140, 141, 142, 143, 144, 145, 146, 147, 148, 149, 150, 151, 152, 153, 154, 155, 156, 157, 158, 159, 160, 161, 162, 0]
  show wpOps Try.prog _ Q [] a w
  exact hQ a w (h.keep [990, 0])
set_option maxHeartbeats 1000000 in
theorem awake_any  (w : World)   : Calls Try.prog 31 #[] w (fun e w' => e = .returned (.bool true) ∧ Below w.heap.size w w') := by
  refine calls_of_wp Try.func31 awake_body ?_
  have hsN : ((#[] : Array Value) ++ Array.replicate (Try.f31.ntmps - (#[] : Array Value).size) undef : Array Value).size = 163 := by kernel_rfl
  generalize ((#[] : Array Value) ++ Array.replicate (Try.f31.ntmps - (#[] : Array Value).size) undef : Array Value) = tm at hsN  ⊢
  obtain ⟨a, ha0⟩ : ∃ a : Act, a = ⟨tm, []⟩ := ⟨_, rfl⟩
  have h : Hold 163 [(990, .sat (gP 0 none))] w ⟨tm, []⟩ w := ⟨hsN, rfl, Below.refl _ _, (slots_cons 990 (k0 := .sat (gP 0 none)) ⟨Nat.zero_le _, fun r e => by cases e⟩ slots_nil)⟩
  refine wp_seq ?_
  refine awake0a_region   h ?_
  intro a w1 h
  show Code.wp _ _ _ a w1
  refine wp_seq ?_
  refine awake1a_region   h ?_
  intro a w1 h
  show Code.wp _ _ _ a w1
  refine wp_seq ?_
  refine awake2a_region   h ?_
  intro a w1 h
  show Code.wp _ _ _ a w1
  refine wp_seq ?_
  refine awake3a_region   h ?_
  intro a w1 h
  show Code.wp _ _ _ a w1
  refine wp_seq ?_
  refine awake4a_region   h ?_
  intro a w1 h
  show Code.wp _ _ _ a w1
  refine wp_seq ?_
  refine awake5a_region   h ?_
  intro a w1 h
  show Code.wp _ _ _ a w1
  refine wp_seq ?_
  refine awake6a_region   h ?_
  intro a w1 h
  show Code.wp _ _ _ a w1
  refine wp_seq ?_
  refine awake7a_region   h ?_
  intro a w1 h
  show Code.wp _ _ _ a w1
  refine wp_seq ?_
  have h := h.keep [990, 1, 2, 3, 5, 4, 6, 8, 9, 11, 12, 14, 15, 18, 16, 17, 19]
  refine awake8a_region   h ?_
  intro a w1 h
  show Code.wp _ _ _ a w1
  refine wp_ret ?_
  (try simp only [then_ret, block_ret])
  exact law_out rfl (h.get 0 rfl) h.defers ⟨rfl, h.world⟩
section
variable {ops : Array Oper} {Q : Exit → Act → World → Prop} {E : Nat → Kd} {D : Nat → Nat} {base : Nat → Option Kd} {N : Nat}
theorem step_awake {i : Nat}  (hop : (ops[i]?).map (·.op) = some (.call { callee := .value (.func 31), args := #[], argTypes := #[] })) (hE : E i = .val ((.bool true))) : Step Try.prog ops Q E D base N i :=
  step_call hop (fun _ _ => by kernel_rfl) fun a w h => by
    rw [show (#[] : Array Operand).map a.eval = #[] from by simp]
    exact (awake_any  w ).mono fun e w' ⟨he, hbl⟩ => ⟨_, he, by rw [hE]; rfl, hbl⟩
end
end Go.Proofs.Ytapcnehpechkpaa
