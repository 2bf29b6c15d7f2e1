/-
  Plain mathematics: the elements that List returns.
-/
import Derived.Test.YtapcnehpechkpaaRef6
namespace Go.Proofs.Ytapcnehpechkpaa
set_option linter.unusedVariables false
set_option linter.unusedSimpArgs false
set_option maxRecDepth 100000
open Go.RowKit
namespace Bl
theorem elems_ok : ∀ (n : Nat) (p : Pay) (l : Fo), Tm.size l ≤ n → Tm.validB p l = true → Tm.allV (Tm.elemsOf p l).1 = true ∧ Tm.len (Tm.elemsOf p l).1 ≤ Tm.size l := by
  intro n
  induction n with
  | zero =>
    intro p l hn hv
    match l with
    | .nil => exact ⟨rfl, Nat.le_refl _⟩
    | .node p0 l0 r =>
      have : Tm.size (.node p0 l0 r) = 1 + Tm.size l0 + Tm.size r := rfl
      omega
  | succ n ih =>
    intro p l hn hv
    by_cases h : p.1 = 3 ∧ p.2.2 = ⟨#[46]⟩ ∧ Tm.len l = 2
    · obtain ⟨h1, h2, h3⟩ := h
      have v0 := valid_arg0 hv h3
      have v1 := valid_arg1 hv h3
      obtain ⟨p0, l0, p1, l1, rfl⟩ := Tm.len_two h3
      have hs : Tm.size (.node p0 l0 (.node p1 l1 .nil)) = 1 + Tm.size l0 + (1 + Tm.size l1 + 0) := rfl
      obtain ⟨i1, i2⟩ := ih p1 l1 (by omega) v1
      rw [Tm.elemsOf_cons p0 l0 p1 l1 h1 h2]
      refine ⟨?_, ?_⟩
      · show (Tm.validB p0 l0 && Tm.allV (Tm.elemsOf p1 l1).1) = true
        rw [show Tm.validB p0 l0 = true from v0, i1]
        rfl
      · show Tm.len (Tm.elemsOf p1 l1).1 + 1 ≤ _
        omega
    · rw [Tm.elemsOf_end h]
      exact ⟨rfl, Nat.zero_le _⟩
theorem list_rows (p : Pay) (l : Fo) : Tm.allV (list p l).1 = true ∧ Tm.len (list p l).1 ≤ 2000 := by
  unfold list listOf
  split
  · rename_i hv
    obtain ⟨h1, h2⟩ := elems_ok _ p l (Nat.le_refl _) hv
    have h3 : Tm.size l ≤ 2000 := by
      unfold Tm.validB at hv
      rw [Bool.and_eq_true, decide_eq_true_eq] at hv
      omega
    split
    · exact ⟨rfl, Nat.zero_le _⟩
    · split
      · exact ⟨h1, Nat.le_trans h2 h3⟩
      · exact ⟨rfl, Nat.zero_le _⟩
  · exact ⟨rfl, Nat.zero_le _⟩
end Bl
end Go.Proofs.Ytapcnehpechkpaa
