/-
  What the error terms and the checks are good for.
-/
import Derived.Test.YtapcnehpechkpaaAwake6
namespace Go.Proofs.Ytapcnehpechkpaa
set_option linter.unusedVariables false
set_option linter.unusedSimpArgs false
set_option maxRecDepth 100000
open Go.RowKit
theorem same_self {p : Pay} {l : Fo} (h : Tm.validB p l = true) : (Tm.validB p l && Tm.sameT p l p l) = true := by rw [h, Tm.sameT_refl]; rfl
theorem same_no {p : Pay} {l : Fo} {q : Pay} {m : Fo} (h : ¬ (p = q ∧ l = m)) : (Tm.validB p l && Tm.sameT p l q m) = false := by
  cases hs : Tm.sameT p l q m with
  | false => rw [Bool.and_false]
  | true => exact absurd ((Tm.sameT_eq _ _ _ _).1 hs) h
namespace Bl
theorem zt_valid : Tm.validB zp .nil = true := by kernel_rfl
theorem clone_valid (p : Pay) (l : Fo) : Tm.validB (Tm.cloneOf p l).1 (Tm.cloneOf p l).2 = true := by
  unfold Tm.cloneOf
  split
  · assumption
  · exact zt_valid
theorem err_valid (s : ByteArray) (F : Fo) : Tm.validB (Tm.errOf s F).1 (Tm.errOf s F).2 = true := by
  unfold Tm.errOf
  split
  · exact clone_valid _ _
  · exact zt_valid
theorem inst_valid : Tm.validB inst.1 inst.2 = true := err_valid _ _
theorem ty_valid (k : ByteArray) (p : Pay) (l : Fo) : Tm.validB (ty k p l).1 (ty k p l).2 = true := err_valid _ _
theorem dom_valid (k : ByteArray) (p : Pay) (l : Fo) : Tm.validB (dom k p l).1 (dom k p l).2 = true := err_valid _ _
theorem rep_valid (k : ByteArray) : Tm.validB (rep k).1 (rep k).2 = true := err_valid _ _
theorem formal_valid (p : Pay) (l : Fo) : Tm.validB (formal p l).1.1 (formal p l).1.2 = true := by
  unfold formal
  split
  · split
    · exact clone_valid _ _
    · exact zt_valid
  · exact zt_valid
theorem check_valid (p : Pay) (l : Fo) (b : Bool) (s : ByteArray) : Tm.validB (check p l b s).1.1 (check p l b s).1.2 = true := by
  unfold check
  split
  · split
    · exact inst_valid
    · split
      · exact zt_valid
      · exact ty_valid _ _ _
  · exact zt_valid
theorem atom_valid (p : Pay) (l : Fo) : Tm.validB (atom p l).2.1.1 (atom p l).2.1.2 = true := by
  unfold atom
  split
  · exact zt_valid
  · exact check_valid _ _ _ _
theorem int_valid (p : Pay) (l : Fo) : Tm.validB (int p l).2.1.1 (int p l).2.1.2 = true := by
  unfold int
  split
  · exact zt_valid
  · exact check_valid _ _ _ _
theorem callable_valid (p : Pay) (l : Fo) : Tm.validB (callable p l).1.1 (callable p l).1.2 = true := check_valid _ _ _ _
theorem atomic_valid (p : Pay) (l : Fo) : Tm.validB (atomic p l).1.1 (atomic p l).1.2 = true := check_valid _ _ _ _
theorem char_valid (p : Pay) (l : Fo) : Tm.validB (char p l).2.1.1 (char p l).2.1.2 = true := by
  unfold char
  split
  · exact zt_valid
  · exact check_valid _ _ _ _
theorem code_valid (p : Pay) (l : Fo) : Tm.validB (code p l).2.1.1 (code p l).2.1.2 = true := by
  unfold code
  split
  · split
    · exact rep_valid _
    · exact zt_valid
  · exact int_valid _ _
theorem arity_valid (p : Pay) (l : Fo) : Tm.validB (arity p l).2.1.1 (arity p l).2.1.2 = true := by
  unfold arity
  split
  · split
    · exact dom_valid _ _ _
    · split
      · exact rep_valid _
      · exact zt_valid
  · exact int_valid _ _
theorem ind_valid (p : Pay) (l : Fo) : Tm.validB (ind p l).2.2.1.1 (ind p l).2.2.1.2 = true := by
  unfold ind
  split
  · split
    · exact inst_valid
    · split
      · split
        · exact zt_valid
        · exact arity_valid _ _
      · exact atom_valid _ _
  · exact check_valid _ _ _ _
theorem list_valid (p : Pay) (l : Fo) : Tm.validB (list p l).2.1.1 (list p l).2.1.2 = true := by
  unfold list listOf
  split
  · split
    · exact inst_valid
    · split
      · exact zt_valid
      · exact ty_valid _ _ _
  · exact zt_valid
end Bl
theorem turns_nT (r n : Nat) (p : Pay) (l : Fo) : Turns r (.sat (nT n none p l)) (.sat (nT 0 (some r) p l)) := by
  rintro v w o hr ⟨A, c, e, h⟩
  exact ⟨A, c, e, (h.keep fun b hb => Below.heap_alloc w o b hb.2.1).mono fun b hb => up_ns o hr hb.2.1⟩
theorem turns_nR (r n : Nat) (F : Fo) : Turns r (.sat (nR n none F)) (.sat (nR 0 (some r) F)) := by
  rintro v w o hr ⟨A, c, e, h⟩
  exact ⟨A, c, e, (h.keep fun b hb => Below.heap_alloc w o b hb.2.1).mono fun b hb => up_ns o hr hb.2.1⟩
theorem turns_nK (r n : Nat) (F : Fo) : Turns r (.sat (nK n none F)) (.sat (nR 0 (some r) F)) := by
  rintro v w o hr ⟨A, c, e, _, h⟩
  exact ⟨A, c, e, (h.keep fun b hb => Below.heap_alloc w o b hb.2.1).mono fun b hb => up_ns o hr hb.2.1⟩
end Go.Proofs.Ytapcnehpechkpaa
