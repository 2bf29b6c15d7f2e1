/-
  PLAIN MATHEMATICS over terms: variables in order of first occurrence, numbering, canonical form, shift, replacement, occurrences.
-/
import Derived.Test.YtmljkhofahgelaaCopied
namespace Go.Proofs.Ytmljkhofahgelaa
set_option linter.unusedVariables false
set_option linter.unusedSimpArgs false
open Go.RowKit

namespace Tm
/-- A variable that is new goes to the end. -/
def vars1 (L : List Int) (p : Pay) : List Int := if p.1 = 0 ∧ ¬ p.2.1 ∈ L then L ++ [p.2.1] else L
def varsF (L : List Int) : Fo → List Int
  | .nil => L
  | .node p l r => varsF (varsF (vars1 L p) l) r
def varsT (L : List Int) (p : Pay) (l : Fo) : List Int := varsF (vars1 L p) l
theorem varsF_cons (L : List Int) (p : Pay) (l r : Fo) : varsF L (.node p l r) = varsF (varsT L p l) r := rfl

/-- The place of a number in a list, or -1. -/
def posI (L : List Int) (v : Int) : Int := if v ∈ L then (L.idxOf v : Int) else -1
/-- A variable gives way to its place in a list. -/
def numF (L : List Int) : Unit → Int → Unit × Pay × Fo := fun _ v => ((), (0, posI L v, ByteArray.empty), .nil)
/-- A variable gives way to its place in the list of those that came before, which it joins. -/
def canF : List Int → Int → List Int × Pay × Fo := fun L v => (if v ∈ L then L else L ++ [v], (0, (L.idxOf v : Int), ByteArray.empty), .nil)
def shiftF (d : Int) : Unit → Int → Unit × Pay × Fo := fun _ v => ((), (0, v + d, ByteArray.empty), .nil)
def putF (x : Int) (by_ : Pay × Fo) : Unit → Int → Unit × Pay × Fo := fun _ v => ((), if v = x then by_ else ((0, v, ByteArray.empty), .nil))
/-- The variables of a valid term, and its canonical form. -/
def varsOf (p : Pay) (l : Fo) : List Int := varsT [] p l
def canonOf (p : Pay) (l : Fo) : Pay × Fo := (rebT (numF (varsOf p l)) () p l).2

theorem vars1_eq (L : List Int) (v : Int) (s : ByteArray) : vars1 L (0, v, s) = if v ∈ L then L else L ++ [v] := by
  unfold vars1
  by_cases h : v ∈ L
  · rw [if_neg (fun e => e.2 h), if_pos h]
  · rw [if_pos ⟨rfl, h⟩, if_neg h]
theorem vars1_no {L : List Int} {p : Pay} (h : ¬ p.1 = 0) : vars1 L p = L := by unfold vars1; rw [if_neg (fun e => h e.1)]
theorem vars1_sub (L : List Int) (p : Pay) : L <+: vars1 L p := by
  unfold vars1
  split
  · exact List.prefix_append _ _
  · exact List.prefix_refl _
theorem varsF_sub (F : Fo) : ∀ L, L <+: varsF L F := by
  induction F with
  | nil => exact fun L => List.prefix_refl _
  | node p l r ihl ihr => exact fun L => (vars1_sub L p).trans ((ihl _).trans (ihr _))
theorem idxOf_pre {L M : List Int} (h : L <+: M) {v : Int} (hv : v ∈ L) : M.idxOf v = L.idxOf v := by
  obtain ⟨R, rfl⟩ := h
  rw [List.idxOf_append, if_pos hv]
theorem mem_pre {L M : List Int} (h : L <+: M) {v : Int} (hv : v ∈ L) : v ∈ M := h.subset hv

/-- Numbering in one go from an empty list is numbering by the whole list. -/
theorem reb_can (F : Fo) (hF : allB F = true) : ∀ (L M : List Int), varsF L F <+: M → reb canF L F = (varsF L F, (reb (numF M) () F).2) := by
  induction F with
  | nil => intro L M _; rfl
  | node p l r ihl ihr =>
    intro L M hM
    simp only [allB, Bool.and_eq_true] at hF
    obtain ⟨⟨hn, hl⟩, hr⟩ := hF
    rw [reb_cons, reb_cons]
    unfold rebT
    obtain ⟨k, v, s⟩ := p
    by_cases h0 : k = 0
    · subst h0
      obtain ⟨_, _, rfl, h4⟩ := nodeB_var hn
      obtain rfl := len_zero h4
      rw [if_pos rfl, if_pos rfl]
      have hM' : varsF (vars1 L (0, v, ByteArray.empty)) r <+: M := hM
      have hs : vars1 L (0, v, ByteArray.empty) <+: M := (varsF_sub r _).trans hM'
      have hin : v ∈ vars1 L (0, v, ByteArray.empty) := by
        rw [vars1_eq]; split
        · assumption
        · simp
      have hidx : (L.idxOf v : Int) = posI M v := by
        unfold posI
        rw [if_pos (mem_pre hs hin), idxOf_pre hs hin, vars1_eq]
        split
        · rfl
        · rename_i h
          congr 1
          rw [List.idxOf_append, if_neg h]
          rw [List.idxOf_eq_length h]
          simp
      have hst : (canF L v).1 = vars1 L (0, v, ByteArray.empty) := (vars1_eq L v _).symm
      rw [hst, ihr hr _ M hM']
      show (varsF (vars1 L (0, v, ByteArray.empty)) r, Fo.node (0, (L.idxOf v : Int), ByteArray.empty) .nil (reb (numF M) () r).2) = (varsF L (.node (0, v, ByteArray.empty) .nil r), Fo.node (0, posI M v, ByteArray.empty) .nil (reb (numF M) () r).2)
      rw [hidx]
      rfl
    · rw [if_neg h0, if_neg h0]
      have h1 : vars1 L (k, v, s) = L := vars1_no h0
      have hM' : varsF (varsF L l) r <+: M := by have := hM; rw [varsF, h1] at this; exact this
      have hl' := ihl hl L M ((varsF_sub r _).trans hM')
      rw [hl']
      have hr' := ihr hr (varsF L l) M hM'
      show ((reb canF (varsF L l) r).1, Fo.node (k, v, s) (reb (numF M) () l).2 (reb canF (varsF L l) r).2) = _
      rw [hr']
      show (varsF (varsF L l) r, Fo.node (k, v, s) (reb (numF M) () l).2 (reb (numF M) () r).2) = _
      rw [varsF, h1]
theorem rebT_can (p : Pay) (l : Fo) (h : goodB p l = true) : rebT canF [] p l = (varsOf p l, canonOf p l) := by
  have hF : allB (.node p l .nil) = true := by rw [allB_cons, h]; rfl
  have e := reb_can (.node p l .nil) hF [] (varsOf p l) (List.prefix_refl _)
  rw [reb_cons, reb_cons] at e
  unfold canonOf
  have e1 := congrArg (fun x : List Int × Fo => x.1) e
  have e2 := congrArg (fun x : List Int × Fo => x.2) e
  simp only [Fo.node.injEq] at e2
  refine Prod.ext e1 (Prod.ext e2.1 e2.2.1)
end Tm
end Go.Proofs.Ytmljkhofahgelaa
