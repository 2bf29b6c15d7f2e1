/-
  Plain mathematics of BallsChecks: what the eight checks return, together.
-/
import Derived.Test.YtapcnehpechkpaaIndM
import Derived.Test.YtapcnehpechkpaaList6
namespace Go.Proofs.Ytapcnehpechkpaa
set_option linter.unusedVariables false
set_option linter.unusedSimpArgs false
set_option maxRecDepth 100000
namespace Bl
theorem listOf_var {q : Fo × Pay × Fo} (p : Pay) (l : Fo) (h : q.2.1.1 = 0) : listOf q p l = (.nil, inst, false) := if_pos h
theorem listOf_bad {q : Fo × Pay × Fo} (p : Pay) (l : Fo) (h : ¬ q.2.1.1 = 0) (h' : ¬ (q.2.1.1 = 2 ∧ q.2.1.2.2 = ⟨#[91, 93]⟩)) : listOf q p l = (.nil, ty ⟨#[108, 105, 115, 116]⟩ p l, false) := by
  unfold listOf
  rw [if_neg h, if_neg h']
abbrev tyF (k : ByteArray) (p : Pay) (l : Fo) : Fo := .node (2, 0, k) .nil (.node p l .nil)
abbrev errT (F : Fo) : Fo := .node (3, 0, tyN) F (.node Tm.emptyA .nil .nil)
theorem ty_small {k : ByteArray} {p : Pay} {l : Fo} (hk : Tm.validB (2, 0, k) .nil = true) (hv : Tm.validB p l = true) (hs : ¬ 2000 < 1 + Tm.size l + 4) : ty k p l = ((3, 0, Tm.errName), errT (tyF k p l)) := by
  refine err_small (by decide) ⟨by simp [at1, Tm.len], by simp [at1, Tm.len]⟩ ?_ (by simp only [at1, Tm.size]; omega)
  simp only [at1, Tm.allV, hk, hv]
  rfl
theorem ty_big {k : ByteArray} {p : Pay} {l : Fo} (hk : Tm.validB (2, 0, k) .nil = true) (hv : Tm.validB p l = true) (hs : 2000 < 1 + Tm.size l + 4) : ty k p l = ((3, 0, Tm.errName), errT (tyF k Tm.dots .nil)) := by
  have hd : Tm.validB Tm.dots .nil = true := by kernel_rfl
  have e : ty k p l = ty k Tm.dots .nil := by
    unfold ty Tm.errOf
    have a1 : Tm.allV (at1 k (.node p l .nil)) = true := by simp only [at1, Tm.allV, hk, hv]; rfl
    have a2 : Tm.allV (at1 k (.node Tm.dots .nil .nil)) = true := by simp only [at1, Tm.allV, hk, hd]; rfl
    rw [if_pos a1, if_pos a2]
    have c1 : Tm.cutF (at1 k (.node p l .nil)) = at1 k (.node Tm.dots .nil .nil) := by
      unfold Tm.cutF
      rw [if_pos (by simp only [at1, Tm.size]; omega)]
      rfl
    have c2 : Tm.cutF (at1 k (.node Tm.dots .nil .nil)) = at1 k (.node Tm.dots .nil .nil) := by
      unfold Tm.cutF
      rw [if_neg (by simp only [at1, Tm.size]; omega)]
    rw [c1, c2]
  rw [e]
  exact ty_small hk hd (by simp only [Tm.size]; omega)
theorem listN_valid : Tm.validB (2, 0, ⟨#[108, 105, 115, 116]⟩) .nil = true := by kernel_rfl
/-- A check of a valid term passes with the zero Term or returns an error term; of another one it returns the zero Term. -/
def goodR (V ok : Bool) (e : Pay × Fo) : Prop := (V = true ∧ ok = true ∧ e = (zp, .nil)) ∨ (V = true ∧ ok = false ∧ (formal e.1 e.2).2 = true) ∨ (V = false ∧ ok = false ∧ e = (zp, .nil))
theorem goodR.ok_true {V ok : Bool} {e : Pay × Fo} (h : goodR V ok e) (ho : ok = true) : V = true ∧ e = (zp, .nil) := by
  rcases h with ⟨h1, _, h3⟩ | ⟨_, h2, _⟩ | ⟨_, h2, _⟩
  · exact ⟨h1, h3⟩
  · rw [ho] at h2; cases h2
  · rw [ho] at h2; cases h2
theorem goodR.ok_false {V ok : Bool} {e : Pay × Fo} (h : goodR V ok e) (ho : ok = false) : goodR V false e := by rw [← ho]; exact h
theorem goodR.yes {V : Bool} (h : V = true) : goodR V true (zp, .nil) := .inl ⟨h, rfl, rfl⟩
theorem goodR.err {V : Bool} {e : Pay × Fo} (h : V = true) (hf : (formal e.1 e.2).2 = true) : goodR V false e := .inr (.inl ⟨h, rfl, hf⟩)
theorem goodR.none {V : Bool} (h : V = false) : goodR V false (zp, .nil) := .inr (.inr ⟨h, rfl, rfl⟩)
theorem err_formal {e : Pay × Fo} {q : Pay} {m : Fo} (he : e = ((3, 0, Tm.errName), .node q m (.node Tm.emptyA .nil .nil))) (hv : Tm.validB e.1 e.2 = true) : (formal e.1 e.2).2 = true := by
  subst he
  unfold formal
  rw [if_pos hv]
  show (if isS (3, 0, Tm.errName) (Fo.node q m (Fo.node Tm.emptyA Fo.nil Fo.nil)) ⟨#[101, 114, 114, 111, 114]⟩ 2 = true then (Tm.cloneOf q m, true) else ((zp, .nil), false)).2 = true
  have hs : isS (3, 0, Tm.errName) (Fo.node q m (Fo.node Tm.emptyA Fo.nil Fo.nil)) ⟨#[101, 114, 114, 111, 114]⟩ 2 = true := isS_true rfl rfl rfl
  rw [if_pos hs]
theorem ty_formal {k : ByteArray} {p : Pay} {l : Fo} (hk : Tm.validB (2, 0, k) .nil = true) (hv : Tm.validB p l = true) : (formal (ty k p l).1 (ty k p l).2).2 = true := by
  by_cases hs : 2000 < 1 + Tm.size l + 4
  · exact err_formal (ty_big hk hv hs) (ty_valid _ _ _)
  · exact err_formal (ty_small hk hv hs) (ty_valid _ _ _)
theorem inst_formal : (formal inst.1 inst.2).2 = true := err_formal inst_is inst_valid
theorem leaf_of_int {p : Pay} {l : Fo} (hv : Tm.validB p l = true) (h : p.1 = 1) : l = .nil := by
  unfold Tm.validB Tm.goodB Tm.nodeB at hv
  simp only [Bool.and_eq_true, h] at hv
  have := hv.2.1
  simp at this
  exact Tm.len_zero this.2
theorem dom_formal {k : ByteArray} {p : Pay} {l : Fo} (hk : Tm.validB (2, 0, k) .nil = true) (hv : Tm.validB p l = true) (h : p.1 = 1) : (formal (dom k p l).1 (dom k p l).2).2 = true := by
  obtain rfl := leaf_of_int hv h
  refine err_formal (q := (3, 0, domN)) (m := at1 k (.node p .nil .nil)) ?_ (dom_valid _ _ _)
  refine err_small (by decide) ⟨by simp [at1, Tm.len], by simp [at1, Tm.len]⟩ ?_ (by simp [at1, Tm.size])
  simp only [at1, Tm.allV, hk, hv]
  rfl
theorem rep1_formal : (formal (rep ⟨#[99, 104, 97, 114, 97, 99, 116, 101, 114, 95, 99, 111, 100, 101]⟩).1 (rep ⟨#[99, 104, 97, 114, 97, 99, 116, 101, 114, 95, 99, 111, 100, 101]⟩).2).2 = true := by kernel_rfl
theorem rep2_formal : (formal (rep ⟨#[109, 97, 120, 95, 97, 114, 105, 116, 121]⟩).1 (rep ⟨#[109, 97, 120, 95, 97, 114, 105, 116, 121]⟩).2).2 = true := by kernel_rfl
theorem check_good {p : Pay} {l : Fo} {b : Bool} {s : ByteArray} (hk : Tm.validB (2, 0, s) .nil = true) : goodR (Tm.validB p l) (check p l b s).2 (check p l b s).1 := by
  unfold check
  cases hv : Tm.validB p l with
  | false => rw [if_neg (by decide)]; exact .none rfl
  | true =>
    rw [if_pos rfl]
    split
    · exact .err rfl inst_formal
    · split
      · exact .yes rfl
      · exact .err rfl (ty_formal hk hv)
theorem atom_good (p : Pay) (l : Fo) : goodR (Tm.validB p l) (atom p l).2.2 (atom p l).2.1 := by
  have hc := check_good (p := p) (l := l) (b := p.1 == 2) (s := ⟨#[97, 116, 111, 109]⟩) (by kernel_rfl)
  unfold atom
  split
  · rename_i h; exact .yes (hc.ok_true h).1
  · rename_i h; exact hc.ok_false (by simpa using h)
theorem int_good (p : Pay) (l : Fo) : goodR (Tm.validB p l) (int p l).2.2 (int p l).2.1 := by
  have hc := check_good (p := p) (l := l) (b := p.1 == 1) (s := ⟨#[105, 110, 116, 101, 103, 101, 114]⟩) (by kernel_rfl)
  unfold int
  split
  · rename_i h; exact .yes (hc.ok_true h).1
  · rename_i h; exact hc.ok_false (by simpa using h)
theorem callable_good (p : Pay) (l : Fo) : goodR (Tm.validB p l) (callable p l).2 (callable p l).1 := check_good (by kernel_rfl)
theorem atomic_good (p : Pay) (l : Fo) : goodR (Tm.validB p l) (atomic p l).2 (atomic p l).1 := check_good (by kernel_rfl)
theorem char_good (p : Pay) (l : Fo) : goodR (Tm.validB p l) (char p l).2.2 (char p l).2.1 := by
  have hc := check_good (p := p) (l := l) (b := isCh p) (s := ⟨#[99, 104, 97, 114, 97, 99, 116, 101, 114]⟩) (by kernel_rfl)
  unfold char
  split
  · rename_i h; exact .yes (hc.ok_true h).1
  · rename_i h; exact hc.ok_false (by simpa using h)
theorem code_good (p : Pay) (l : Fo) : goodR (Tm.validB p l) (code p l).2.2 (code p l).2.1 := by
  have hc := int_good p l
  unfold code
  split
  · rename_i h
    split
    · exact .err (hc.ok_true h).1 rep1_formal
    · exact .yes (hc.ok_true h).1
  · rename_i h; exact hc.ok_false (by simpa using h)
theorem list_good (p : Pay) (l : Fo) : goodR (Tm.validB p l) (list p l).2.2 (list p l).2.1 := by
  unfold list listOf
  cases hv : Tm.validB p l with
  | false => rw [if_neg (by decide)]; exact .none rfl
  | true =>
    rw [if_pos rfl]
    split
    · exact .err rfl inst_formal
    · split
      · exact .yes rfl
      · exact .err rfl (ty_formal listN_valid hv)
theorem check_tt {p : Pay} {l : Fo} {b : Bool} {s : ByteArray} (h : (check p l b s).2 = true) : b = true ∧ Tm.validB p l = true ∧ ¬ p.1 = 0 := by
  unfold check at h
  split at h
  · rename_i h1
    split at h
    · cases h
    · rename_i h2
      split at h
      · rename_i h3; exact ⟨h3, h1, h2⟩
      · cases h
  · cases h
theorem int_kind {p : Pay} {l : Fo} (h : (int p l).2.2 = true) : p.1 = 1 := by
  unfold int at h
  split at h
  · rename_i h1; simpa using (check_tt h1).1
  · cases h
theorem arity_good (p : Pay) (l : Fo) : goodR (Tm.validB p l) (arity p l).2.2 (arity p l).2.1 := by
  have hc := int_good p l
  unfold arity
  split
  · rename_i h
    have hv := (hc.ok_true h).1
    split
    · exact .err hv (dom_formal (by kernel_rfl) hv (int_kind h))
    · split
      · exact .err hv rep2_formal
      · exact .yes hv
  · rename_i h; exact hc.ok_false (by simpa using h)
theorem ind_good (p : Pay) (l : Fo) : goodR (Tm.validB p l) (ind p l).2.2.2 (ind p l).2.2.1 := by
  have hc := check_good (p := p) (l := l) (b := isS p l ⟨#[47]⟩ 2) (s := ⟨#[112, 114, 101, 100, 105, 99, 97, 116, 101, 95, 105, 110, 100, 105, 99, 97, 116, 111, 114]⟩) (by kernel_rfl)
  unfold ind
  split
  · rename_i h
    have hv := (hc.ok_true h).1
    have hs : Tm.len l = 2 := by
      unfold check at h
      rw [if_pos hv] at h
      split at h
      · cases h
      · split at h
        · rename_i h2
          unfold isS at h2
          have := (of_decide_eq_true h2).2.2
          omega
        · cases h
    have v0 := valid_arg0 hv hs
    have v1 := valid_arg1 hv hs
    have g0 := atom_good (arg0 l).1 (arg0 l).2
    have g1 := arity_good (arg1 l).1 (arg1 l).2
    rw [v0] at g0
    rw [v1] at g1
    rw [hv]
    split
    · exact .err rfl inst_formal
    · split
      · split
        · exact .yes rfl
        · rename_i h; exact g1.ok_false (by simpa using h)
      · rename_i h; exact g0.ok_false (by simpa using h)
  · rename_i h; exact hc.ok_false (by simpa using h)
/-- The eight terms, and whether each check passes. -/
def bs (p : Pay) (l : Fo) : Nat → Pay × Fo
  | 0 => (atom p l).2.1
  | 1 => (int p l).2.1
  | 2 => (callable p l).1
  | 3 => (atomic p l).1
  | 4 => (list p l).2.1
  | 5 => (char p l).2.1
  | 6 => (code p l).2.1
  | _ => (ind p l).2.2.1
def oks (p : Pay) (l : Fo) : Nat → Bool
  | 0 => (atom p l).2.2
  | 1 => (int p l).2.2
  | 2 => (callable p l).2
  | 3 => (atomic p l).2
  | 4 => (list p l).2.2
  | 5 => (char p l).2.2
  | 6 => (code p l).2.2
  | _ => (ind p l).2.2.2
theorem all_good (p : Pay) (l : Fo) (k : Nat) (hk : k < 8) : goodR (Tm.validB p l) (oks p l k) (bs p l k) := by
  rcases (show k = 0 ∨ k = 1 ∨ k = 2 ∨ k = 3 ∨ k = 4 ∨ k = 5 ∨ k = 6 ∨ k = 7 by omega) with rfl | rfl | rfl | rfl | rfl | rfl | rfl | rfl
  · exact atom_good p l
  · exact int_good p l
  · exact callable_good p l
  · exact atomic_good p l
  · exact list_good p l
  · exact char_good p l
  · exact code_good p l
  · exact ind_good p l
theorem check_var {p : Pay} {l : Fo} {b : Bool} {s : ByteArray} (hv : Tm.validB p l = true) (h : p.1 = 0) : check p l b s = (inst, false) := by
  unfold check
  rw [if_pos hv, if_pos h]
theorem all_var {p : Pay} {l : Fo} (hv : Tm.validB p l = true) (h : p.1 = 0) (k : Nat) (hk : k < 8) : bs p l k = inst := by
  rcases (show k = 0 ∨ k = 1 ∨ k = 2 ∨ k = 3 ∨ k = 4 ∨ k = 5 ∨ k = 6 ∨ k = 7 by omega) with rfl | rfl | rfl | rfl | rfl | rfl | rfl | rfl
  · show (atom p l).2.1 = inst
    unfold atom; rw [check_var hv h]; rfl
  · show (int p l).2.1 = inst
    unfold int; rw [check_var hv h]; rfl
  · show (check p l _ _).1 = inst
    rw [check_var hv h]
  · show (check p l _ _).1 = inst
    rw [check_var hv h]
  · show (list p l).2.1 = inst
    unfold list
    rw [if_pos hv, Tm.elemsOf_end (by rw [h]; rintro ⟨h, _⟩; exact absurd h (by decide))]
    rw [listOf_var p l h]
  · show (char p l).2.1 = inst
    unfold char; rw [check_var hv h]; rfl
  · show (code p l).2.1 = inst
    unfold code int; rw [check_var hv h]; rfl
  · show (ind p l).2.2.1 = inst
    unfold ind; rw [check_var hv h]; rfl
/-! ### what comes with a check that does not pass, and with one that does -/
theorem atom_zero {p : Pay} {l : Fo} (h : (atom p l).2.2 = false) : (atom p l).1 = ⟨#[]⟩ := by
  unfold atom at h ⊢; split at h
  · cases h
  · rename_i h1; rw [if_neg h1]
theorem int_zero {p : Pay} {l : Fo} (h : (int p l).2.2 = false) : (int p l).1 = 0 := by
  unfold int at h ⊢; split at h
  · cases h
  · rename_i h1; rw [if_neg h1]
theorem char_zero {p : Pay} {l : Fo} (h : (char p l).2.2 = false) : (char p l).1 = 0 := by
  unfold char at h ⊢; split at h
  · cases h
  · rename_i h1; rw [if_neg h1]
theorem list_zero {p : Pay} {l : Fo} (h : (list p l).2.2 = false) : (list p l).1 = .nil := by
  unfold list listOf at h ⊢
  split at h
  · rename_i h1
    rw [if_pos h1]
    split at h
    · rename_i h2; rw [if_pos h2]
    · rename_i h2
      rw [if_neg h2]
      split at h
      · cases h
      · rename_i h3; rw [if_neg h3]
  · rename_i h1; rw [if_neg h1]
theorem code_zero {p : Pay} {l : Fo} (h : (code p l).2.2 = false) : (code p l).1 = 0 := by
  unfold code at h ⊢
  split at h
  · rename_i h1
    rw [if_pos h1]
    split at h
    · rename_i h2; rw [if_pos h2]
    · cases h
  · rename_i h1; rw [if_neg h1]
theorem ind_zero {p : Pay} {l : Fo} (h : (ind p l).2.2.2 = false) : (ind p l).2.1 = 0 := by
  unfold ind at h ⊢
  split at h
  · rename_i h1
    rw [if_pos h1]
    split at h
    · rename_i h2; rw [if_pos h2]
    · rename_i h2
      rw [if_neg h2]
      split at h
      · rename_i h3
        rw [if_pos h3]
        split at h
        · cases h
        · rename_i h4; rw [if_neg h4]
      · rename_i h3; rw [if_neg h3]
  · rename_i h1; rw [if_neg h1]
theorem check_ok2 {p : Pay} {l : Fo} {b : Bool} {s : ByteArray} (hv : Tm.validB p l = true) (h : ¬ p.1 = 0) : (check p l b s).2 = b := by
  unfold check
  rw [if_pos hv, if_neg h]
  cases b <;> rfl
section
variable {p : Pay} {l : Fo} (hv : Tm.validB p l = true) (h : ¬ p.1 = 0)
include hv h
theorem atom_ok2 : (atom p l).2.2 = (p.1 == 2) := by
  have := check_ok2 (b := p.1 == 2) (s := ⟨#[97, 116, 111, 109]⟩) hv h
  unfold atom
  cases hb : p.1 == 2 <;> rw [hb] at this <;> rw [this] <;> rfl
theorem int_ok2 : (int p l).2.2 = (p.1 == 1) := by
  have := check_ok2 (b := p.1 == 1) (s := ⟨#[105, 110, 116, 101, 103, 101, 114]⟩) hv h
  unfold int
  cases hb : p.1 == 1 <;> rw [hb] at this <;> rw [this] <;> rfl
theorem callable_ok2 : (callable p l).2 = (p.1 != 1) := check_ok2 hv h
theorem atomic_ok2 : (atomic p l).2 = (p.1 != 3) := check_ok2 hv h
theorem char_ok2 : (char p l).2.2 = isCh p := by
  have := check_ok2 (b := isCh p) (s := ⟨#[99, 104, 97, 114, 97, 99, 116, 101, 114]⟩) hv h
  unfold char
  cases hb : isCh p <;> rw [hb] at this <;> rw [this] <;> rfl
end
theorem atom_val {p : Pay} {l : Fo} (h : (atom p l).2.2 = true) : (atom p l).1 = p.2.2 := by
  unfold atom at h ⊢; split at h
  · rename_i h1; rw [if_pos h1]
  · cases h
theorem char_val {p : Pay} {l : Fo} (h : (char p l).2.2 = true) : (char p l).1 = ((byte0 p.2.2 : Nat) : Int) := by
  unfold char at h ⊢; split at h
  · rename_i h1; rw [if_pos h1]
  · cases h
theorem code_val {p : Pay} {l : Fo} (h : (code p l).2.2 = true) : (code p l).1 = (int p l).1 ∧ ¬ (int p l).1 < 0 ∧ ¬ 255 < (int p l).1 := by
  unfold code at h ⊢
  split at h
  · rename_i h1
    split at h
    · cases h
    · rename_i h2
      rw [if_pos h1, if_neg h2]
      exact ⟨rfl, fun h => h2 (.inl h), fun h => h2 (.inr h)⟩
  · cases h
theorem code_not {p : Pay} {l : Fo} (hi : (int p l).2.2 = true) (h : (code p l).2.2 = false) : (int p l).1 < 0 ∨ 255 < (int p l).1 := by
  unfold code at h
  rw [if_pos hi] at h
  split at h
  · assumption
  · cases h
/-! ### which checks pass together -/
theorem atom_kind {p : Pay} {l : Fo} (h : (atom p l).2.2 = true) : p.1 = 2 := by
  unfold atom at h; split at h
  · rename_i h1; simpa using (check_tt h1).1
  · cases h
theorem char_atom {p : Pay} {l : Fo} (h : (char p l).2.2 = true) : (atom p l).2.2 = true := by
  unfold char at h; split at h
  · rename_i h1
    obtain ⟨h2, hv, h0⟩ := check_tt h1
    unfold isCh at h2
    rw [Bool.and_eq_true] at h2
    rw [atom_ok2 hv h0]
    exact h2.1
  · cases h
theorem code_int {p : Pay} {l : Fo} (h : (code p l).2.2 = true) : (int p l).2.2 = true := by
  unfold code at h; split at h
  · assumption
  · cases h
theorem list_kind {p : Pay} {l : Fo} (h : (list p l).2.2 = true) : ¬ p.1 = 1 := by
  intro h1
  unfold list at h
  split at h
  · rename_i hv
    rw [Tm.elemsOf_end (by rw [h1]; rintro ⟨h, _⟩; exact absurd h (by decide)), listOf_bad p l (by show ¬ p.1 = 0; rw [h1]; decide) (by rintro ⟨h2, _⟩; have h2 : p.1 = 2 := h2; rw [h1] at h2; exact absurd h2 (by decide))] at h
    cases h
  · cases h
theorem ind_kind {p : Pay} {l : Fo} (h : (ind p l).2.2.2 = true) : p.1 = 3 := by
  unfold ind at h; split at h
  · rename_i h1
    have := (check_tt h1).1
    unfold isS at this
    exact (of_decide_eq_true this).1
  · cases h
theorem k0 {p : Pay} {l : Fo} (h : (atom p l).2.2 = true) : (int p l).2.2 = false ∧ (code p l).2.2 = false ∧ (ind p l).2.2.2 = false := by
  have hp := atom_kind h
  refine ⟨?_, ?_, ?_⟩ <;> rw [Bool.eq_false_iff] <;> intro h'
  · have := int_kind h'; omega
  · have := int_kind (code_int h'); omega
  · have := ind_kind h'; omega
theorem k1 {p : Pay} {l : Fo} (h : (int p l).2.2 = true) : (atom p l).2.2 = false ∧ (list p l).2.2 = false ∧ (char p l).2.2 = false ∧ (ind p l).2.2.2 = false := by
  have hp := int_kind h
  refine ⟨?_, ?_, ?_, ?_⟩ <;> rw [Bool.eq_false_iff] <;> intro h'
  · have := atom_kind h'; omega
  · exact list_kind h' hp
  · have := atom_kind (char_atom h'); omega
  · have := ind_kind h'; omega
theorem k2 {p : Pay} {l : Fo} (h : (atom p l).2.2 = false) (h' : (int p l).2.2 = false) : (char p l).2.2 = false ∧ (code p l).2.2 = false := by
  refine ⟨?_, ?_⟩ <;> rw [Bool.eq_false_iff] <;> intro h2
  · rw [char_atom h2] at h; cases h
  · rw [code_int h2] at h'; cases h'
theorem combos (p : Pay) (l : Fo) : ((atom p l).2.2 = false ∧ (int p l).2.2 = false ∧ (list p l).2.2 = false ∧ (char p l).2.2 = false ∧ (code p l).2.2 = false ∧ (ind p l).2.2.2 = false) ∨
    ((atom p l).2.2 = false ∧ (int p l).2.2 = false ∧ (list p l).2.2 = false ∧ (char p l).2.2 = false ∧ (code p l).2.2 = false ∧ (ind p l).2.2.2 = true) ∨
    ((atom p l).2.2 = false ∧ (int p l).2.2 = false ∧ (list p l).2.2 = true ∧ (char p l).2.2 = false ∧ (code p l).2.2 = false ∧ (ind p l).2.2.2 = false) ∨
    ((atom p l).2.2 = false ∧ (int p l).2.2 = false ∧ (list p l).2.2 = true ∧ (char p l).2.2 = false ∧ (code p l).2.2 = false ∧ (ind p l).2.2.2 = true) ∨
    ((atom p l).2.2 = true ∧ (int p l).2.2 = false ∧ (list p l).2.2 = false ∧ (char p l).2.2 = false ∧ (code p l).2.2 = false ∧ (ind p l).2.2.2 = false) ∨
    ((atom p l).2.2 = true ∧ (int p l).2.2 = false ∧ (list p l).2.2 = false ∧ (char p l).2.2 = true ∧ (code p l).2.2 = false ∧ (ind p l).2.2.2 = false) ∨
    ((atom p l).2.2 = true ∧ (int p l).2.2 = false ∧ (list p l).2.2 = true ∧ (char p l).2.2 = false ∧ (code p l).2.2 = false ∧ (ind p l).2.2.2 = false) ∨
    ((atom p l).2.2 = true ∧ (int p l).2.2 = false ∧ (list p l).2.2 = true ∧ (char p l).2.2 = true ∧ (code p l).2.2 = false ∧ (ind p l).2.2.2 = false) ∨
    ((atom p l).2.2 = false ∧ (int p l).2.2 = true ∧ (list p l).2.2 = false ∧ (char p l).2.2 = false ∧ (code p l).2.2 = false ∧ (ind p l).2.2.2 = false) ∨
    ((atom p l).2.2 = false ∧ (int p l).2.2 = true ∧ (list p l).2.2 = false ∧ (char p l).2.2 = false ∧ (code p l).2.2 = true ∧ (ind p l).2.2.2 = false) := by
  cases h0 : (atom p l).2.2 with
  | true =>
    obtain ⟨a1, a6, a7⟩ := k0 h0
    cases h4 : (list p l).2.2 <;> cases h5 : (char p l).2.2 <;> simp [a1, a6, a7]
  | false =>
    cases h1 : (int p l).2.2 with
    | true =>
      obtain ⟨_, a4, a5, a7⟩ := k1 h1
      cases h6 : (code p l).2.2 <;> simp [a4, a5, a7]
    | false =>
      obtain ⟨a5, a6⟩ := k2 h0 h1
      cases h4 : (list p l).2.2 <;> cases h7 : (ind p l).2.2.2 <;> simp [a5, a6]
theorem one_byte {s : ByteArray} (h : ((s.size : Nat) : Int) = 1) : (⟨#[UInt8.ofNat (byte0 s)]⟩ : ByteArray) = s := by
  obtain ⟨d⟩ := s
  have h1 : d.size = 1 := by
    have : ((d.size : Nat) : Int) = 1 := h
    omega
  obtain ⟨x, rfl⟩ : ∃ x, d = #[x] := by
    obtain ⟨l⟩ := d
    match l, h1 with
    | [x], _ => exact ⟨x, rfl⟩
  simp [byte0]
end Bl
end Go.Proofs.Ytapcnehpechkpaa
