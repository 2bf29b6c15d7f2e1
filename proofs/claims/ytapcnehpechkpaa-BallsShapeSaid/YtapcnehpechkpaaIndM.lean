/-
  Plain mathematics: what Indicator returns; what error terms consist of.
-/
import Derived.Test.YtapcnehpechkpaaFacts6
import Derived.Test.YtapcnehpechkpaaRef6
import Derived.Test.YtapcnehpechkpaaErr1
namespace Go.Proofs.Ytapcnehpechkpaa
set_option linter.unusedVariables false
set_option linter.unusedSimpArgs false
set_option maxRecDepth 100000
open Go.RowKit
namespace Bl
abbrev indT (p : Pay) (l : Fo) (q : Pay) (m : Fo) : Fo := .node p l (.node q m .nil)
theorem ind_valid_args {p : Pay} {l : Fo} {q : Pay} {m : Fo} (h : Tm.validB (3, 0, ⟨#[47]⟩) (indT p l q m) = true) : Tm.validB p l = true ∧ Tm.validB q m = true := ⟨valid_arg0 h rfl, valid_arg1 h rfl⟩
theorem ind_check {p : Pay} {l : Fo} {q : Pay} {m : Fo} (h : Tm.validB (3, 0, ⟨#[47]⟩) (indT p l q m) = true) (b : ByteArray) : check (3, 0, ⟨#[47]⟩) (indT p l q m) (isS (3, 0, ⟨#[47]⟩) (indT p l q m) ⟨#[47]⟩ 2) b = ((zp, .nil), true) := by
  have hs : isS (3, 0, ⟨#[47]⟩) (indT p l q m) ⟨#[47]⟩ 2 = true := isS_true rfl rfl rfl
  rw [hs]
  unfold check
  rw [if_pos h, if_neg (by decide), if_pos rfl]
theorem anyVar_two (p : Pay) (l : Fo) (q : Pay) (m : Fo) : anyVar (indT p l q m) = (decide (p.1 = 0) || decide (q.1 = 0)) := by simp [anyVar, indT]
theorem ind_var {p : Pay} {l : Fo} {q : Pay} {m : Fo} (h : Tm.validB (3, 0, ⟨#[47]⟩) (indT p l q m) = true) (hx : p.1 = 0 ∨ q.1 = 0) : ind (3, 0, ⟨#[47]⟩) (indT p l q m) = (⟨#[]⟩, 0, inst, false) := by
  unfold ind
  rw [ind_check h, if_pos rfl, if_pos]
  rw [anyVar_two]
  rcases hx with hx | hx <;> simp [hx]
theorem anyVar_no {p : Pay} {l : Fo} {q : Pay} {m : Fo} (h1 : ¬ p.1 = 0) (h2 : ¬ q.1 = 0) : ¬ anyVar (indT p l q m) = true := by
  rw [anyVar_two]
  simp [h1, h2]
theorem check_f {p : Pay} {l : Fo} {s : ByteArray} (hv : Tm.validB p l = true) (h1 : ¬ p.1 = 0) : check p l false s = (ty s p l, false) := by
  unfold check
  rw [if_pos hv, if_neg h1]
  rfl
theorem check_t {p : Pay} {l : Fo} {s : ByteArray} (hv : Tm.validB p l = true) (h1 : ¬ p.1 = 0) : check p l true s = ((zp, .nil), true) := by
  unfold check
  rw [if_pos hv, if_neg h1]
  rfl
theorem atom_no {p : Pay} {l : Fo} (hv : Tm.validB p l = true) (h1 : ¬ p.1 = 0) (h2 : ¬ p.1 = 2) : atom p l = (⟨#[]⟩, ty ⟨#[97, 116, 111, 109]⟩ p l, false) := by
  have hb : (p.1 == 2) = false := by simpa using h2
  unfold atom
  rw [hb, check_f hv h1]
  rfl
theorem atom_yes {p : Pay} {l : Fo} (hv : Tm.validB p l = true) (h2 : p.1 = 2) : atom p l = (p.2.2, (zp, .nil), true) := by
  have hb : (p.1 == 2) = true := by rw [h2]; rfl
  unfold atom
  rw [hb, check_t hv (by rw [h2]; decide)]
  rfl
theorem int_no {p : Pay} {l : Fo} (hv : Tm.validB p l = true) (h1 : ¬ p.1 = 0) (h2 : ¬ p.1 = 1) : int p l = (0, ty ⟨#[105, 110, 116, 101, 103, 101, 114]⟩ p l, false) := by
  have hb : (p.1 == 1) = false := by simpa using h2
  unfold int
  rw [hb, check_f hv h1]
  rfl
theorem int_yes {p : Pay} {l : Fo} (hv : Tm.validB p l = true) (h2 : p.1 = 1) : int p l = (p.2.1, (zp, .nil), true) := by
  have hb : (p.1 == 1) = true := by rw [h2]; rfl
  unfold int
  rw [hb, check_t hv (by rw [h2]; decide)]
  rfl
section
variable {p : Pay} {l : Fo} {q : Pay} {m : Fo} (h : Tm.validB (3, 0, ⟨#[47]⟩) (indT p l q m) = true) (h1 : ¬ p.1 = 0) (h2 : ¬ q.1 = 0)
include h h1 h2
theorem ind_atom (h3 : ¬ p.1 = 2) : ind (3, 0, ⟨#[47]⟩) (indT p l q m) = (⟨#[]⟩, 0, ty ⟨#[97, 116, 111, 109]⟩ p l, false) := by
  unfold ind
  rw [ind_check h, if_pos rfl, if_neg (anyVar_no h1 h2), show atom (arg0 (indT p l q m)).1 (arg0 (indT p l q m)).2 = atom p l from rfl, atom_no (ind_valid_args h).1 h1 h3]
  rfl
theorem ind_more (h3 : p.1 = 2) : ind (3, 0, ⟨#[47]⟩) (indT p l q m) = if (arity q m).2.2 = true then (p.2.2, (arity q m).1, (zp, .nil), true) else (⟨#[]⟩, 0, (arity q m).2.1, false) := by
  unfold ind
  rw [ind_check h, if_pos rfl, if_neg (anyVar_no h1 h2), show atom (arg0 (indT p l q m)).1 (arg0 (indT p l q m)).2 = atom p l from rfl, atom_yes (ind_valid_args h).1 h3]
  rfl
theorem ind_int (h3 : p.1 = 2) (h4 : ¬ q.1 = 1) : ind (3, 0, ⟨#[47]⟩) (indT p l q m) = (⟨#[]⟩, 0, ty ⟨#[105, 110, 116, 101, 103, 101, 114]⟩ q m, false) := by
  rw [ind_more h h1 h2 h3]
  unfold arity
  rw [int_no (ind_valid_args h).2 h2 h4]
  rfl
theorem ind_neg (h3 : p.1 = 2) (h4 : q.1 = 1) (h5 : q.2.1 < 0) : ind (3, 0, ⟨#[47]⟩) (indT p l q m) = (⟨#[]⟩, 0, dom ⟨#[110, 111, 116, 95, 108, 101, 115, 115, 95, 116, 104, 97, 110, 95, 122, 101, 114, 111]⟩ q m, false) := by
  rw [ind_more h h1 h2 h3]
  unfold arity
  rw [int_yes (ind_valid_args h).2 h4]
  simp only [if_true, if_pos h5]
  rfl
theorem ind_big (h3 : p.1 = 2) (h4 : q.1 = 1) (h5 : ¬ q.2.1 < 0) (h6 : 8 < q.2.1) : ind (3, 0, ⟨#[47]⟩) (indT p l q m) = (⟨#[]⟩, 0, rep ⟨#[109, 97, 120, 95, 97, 114, 105, 116, 121]⟩, false) := by
  rw [ind_more h h1 h2 h3]
  unfold arity
  rw [int_yes (ind_valid_args h).2 h4]
  simp only [if_true, if_neg h5, if_pos h6]
  rfl
theorem ind_yes (h3 : p.1 = 2) (h4 : q.1 = 1) (h5 : ¬ q.2.1 < 0) (h6 : ¬ 8 < q.2.1) : ind (3, 0, ⟨#[47]⟩) (indT p l q m) = (p.2.2, q.2.1, (zp, .nil), true) := by
  rw [ind_more h h1 h2 h3]
  unfold arity
  rw [int_yes (ind_valid_args h).2 h4]
  simp only [if_true, if_neg h5, if_neg h6]
end
/-- What the statements write of error terms: the same as the package makes, where the culprit is small. -/
theorem err_small {s : ByteArray} {F : Fo} (hs : s.size ≤ 100) (hl : 1 ≤ Tm.len F ∧ Tm.len F ≤ 8) (ha : Tm.allV F = true) (hz : 3 + Tm.size F ≤ 2000) : Tm.errOf s F = ((3, 0, Tm.errName), .node (3, 0, s) F (.node Tm.emptyA .nil .nil)) := by
  have hall : Tm.allB F = true := by
    revert ha
    clear hl hz
    induction F with
    | nil => intro _; rfl
    | node p l r _ ih =>
      intro ha
      simp only [Tm.allV, Bool.and_eq_true] at ha
      rw [Tm.allB_cons, Bool.and_eq_true]
      exact ⟨by have := ha.1; unfold Tm.validB at this; rw [Bool.and_eq_true] at this; exact this.2, ih ha.2⟩
  have hcut : Tm.cutF F = F := by unfold Tm.cutF; rw [if_neg (by omega)]
  have hnode : Tm.nodeB (3, 0, s) (Tm.len F) = true := by
    unfold Tm.nodeB
    simp [hs, hl.1, hl.2]
  have hgood : Tm.goodB (3, 0, s) F = true := by unfold Tm.goodB; rw [hnode, hall]; rfl
  have hst : Tm.structOf s F = ((3, 0, s), F) := by
    unfold Tm.structOf
    rw [if_neg (by omega)]
    unfold Tm.cloneOf
    rw [if_pos]
    unfold Tm.validB
    rw [hgood, Bool.and_true, decide_eq_true_eq]
    omega
  unfold Tm.errOf
  rw [if_pos ha, hcut, hst]
  unfold Tm.cloneOf
  rw [if_pos]
  unfold Tm.validB Tm.goodB
  rw [Bool.and_eq_true, Bool.and_eq_true, Tm.allB_cons, Tm.allB_cons, Bool.and_eq_true, Bool.and_eq_true, decide_eq_true_eq]
  refine ⟨?_, show Tm.nodeB (3, 0, Tm.errName) 2 = true by decide, hgood, by decide, rfl⟩
  simp only [Tm.size]
  omega
theorem same_of {W : Pay × Fo} {q : Pay} {m : Fo} (h : W = (q, m)) (hv : Tm.validB W.1 W.2 = true) : (Tm.validB W.1 W.2 && Tm.sameT W.1 W.2 q m) = true := by subst h; exact same_self hv
theorem inst_is : inst = ((3, 0, Tm.errName), .node (2, 0, instN) .nil (.node Tm.emptyA .nil .nil)) := by kernel_rfl
end Bl
end Go.Proofs.Ytapcnehpechkpaa
