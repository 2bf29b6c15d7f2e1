/-
  Valid terms: package term's isVar, isValid, areValid, Valid and the reference's node, nodes, Valid tell whether a term is valid.
-/
import Derived.Test.YtapcnehpechkpaaSize
namespace Go.Proofs.Ytapcnehpechkpaa
set_option linter.unusedVariables false
set_option linter.unusedSimpArgs false
set_option maxRecDepth 100000
open Go.RowKit

theorem toList_nil (s : ByteArray) : s.toList = [] ↔ s = ByteArray.empty := by
  rw [ByteArray.toList_eq]
  constructor
  · intro h
    have : s.size = s.data.toList.length := (Array.length_toList (xs := s.data)).symm
    rw [h] at this
    exact ByteArray.size_eq_zero_iff.1 this
  · rintro rfl; rfl
theorem isEmpty_size (s : ByteArray) : s.toList.isEmpty = decide (s = ByteArray.empty) := by
  by_cases h : s = ByteArray.empty
  · rw [(toList_nil s).2 h, decide_eq_true h]; rfl
  · rw [decide_eq_false h]
    cases he : s.toList with
    | nil => exact absurd ((toList_nil s).1 he) h
    | cons _ _ => rfl
theorem nat_zero (n : Nat) : ((n : Int) == 0) = decide (n = 0) := by
  by_cases h : n = 0
  · subst h; rfl
  · rw [decide_eq_false h]; simp; omega

theorem isVar_any (v : Int) (w : World) : Calls Try.prog 96 #[.int .i64 v] w fun e w' => e = .returned (.bool (decide (0 ≤ v) && decide (v ≤ 1099511627776))) ∧ w = w' := by
  by_cases h0 : 0 ≤ v
  · rw [decide_eq_true h0]
    go_enter Try.func96, Try.ntmps96
    go_wp2_with fail
    go_ret
    exact ⟨rfl, rfl⟩
  · rw [decide_eq_false h0]
    go_enter Try.func96, Try.ntmps96
    go_wp2_with fail
    go_ret
    exact ⟨rfl, rfl⟩

set_option maxHeartbeats 1000000 in
theorem isValid_any (p : Pay) (n c : Nat) (A : Option Addr) (w : World) : Calls Try.prog 93 #[tv p A n c] w fun e w' => e = .returned (.bool (Tm.nodeB p n)) ∧ Below w.heap.size w w' := by
  obtain ⟨k, v, s⟩ := p
  by_cases h0 : k = 0
  · subst h0
    have C := Lib.hid (isVar_any v)
    go_enter Try.func93, Try.ntmps93
    go_wp2_with fail
    go_quiet (fail)
    go_wp2_with fail
    refine (C.out _).mono ?_
    rintro e w' ⟨rfl, rfl⟩
    go_wp2_with fail
    all_goals go_ret
    all_goals refine ⟨?_, below_drewN ((Below.refl w.heap.size w).alloc (Nat.le_refl _) _) _⟩
    all_goals refine congrArg (fun b : Bool => Ending.returned (.bool b)) ?_
    all_goals simp_all [Tm.nodeB, isEmpty_size, nat_zero, toList_nil]
    all_goals try (rw [Bool.eq_iff_iff]; simp only [decide_eq_true_eq, Bool.and_eq_true, beq_iff_eq])
    all_goals (intros; omega)
  by_cases h1 : k = 1
  · subst h1
    go_enter Try.func93, Try.ntmps93
    go_wp2_with fail
    go_quiet (fail)
    go_wp2_with fail
    all_goals go_ret
    all_goals refine ⟨?_, below_drewN ((Below.refl w.heap.size w).alloc (Nat.le_refl _) _) _⟩
    all_goals refine congrArg (fun b : Bool => Ending.returned (.bool b)) ?_
    all_goals simp_all [Tm.nodeB, isEmpty_size, nat_zero, toList_nil]
    all_goals try (rw [Bool.eq_iff_iff]; simp only [decide_eq_true_eq, Bool.and_eq_true, beq_iff_eq])
    all_goals (intros; omega)
  by_cases h2 : k = 2
  · subst h2
    go_enter Try.func93, Try.ntmps93
    go_wp2_with fail
    go_quiet (fail)
    go_wp2_with fail
    all_goals go_ret
    all_goals refine ⟨?_, below_drewN ((Below.refl w.heap.size w).alloc (Nat.le_refl _) _) _⟩
    all_goals refine congrArg (fun b : Bool => Ending.returned (.bool b)) ?_
    all_goals simp_all [Tm.nodeB, isEmpty_size, nat_zero, toList_nil]
    all_goals try (rw [Bool.eq_iff_iff]; simp only [decide_eq_true_eq, Bool.and_eq_true, beq_iff_eq])
    all_goals (intros; omega)
  by_cases h3 : k = 3
  · subst h3
    go_enter Try.func93, Try.ntmps93
    go_wp2_with fail
    go_quiet (fail)
    go_wp2_with fail
    all_goals go_ret
    all_goals refine ⟨?_, below_drewN ((Below.refl w.heap.size w).alloc (Nat.le_refl _) _) _⟩
    all_goals refine congrArg (fun b : Bool => Ending.returned (.bool b)) ?_
    all_goals simp_all [Tm.nodeB, isEmpty_size, nat_zero, toList_nil]
    all_goals try (rw [Bool.eq_iff_iff]; simp only [decide_eq_true_eq, Bool.and_eq_true, beq_iff_eq])
    all_goals (intros; omega)
  · go_enter Try.func93, Try.ntmps93
    go_wp2_with fail
    go_quiet (fail)
    go_wp2_with fail
    all_goals go_ret
    all_goals refine ⟨?_, below_drewN ((Below.refl w.heap.size w).alloc (Nat.le_refl _) _) _⟩
    all_goals refine congrArg (fun b : Bool => Ending.returned (.bool b)) ?_
    all_goals simp_all [Tm.nodeB, isEmpty_size, nat_zero, toList_nil]
    all_goals try (rw [Bool.eq_iff_iff]; simp only [decide_eq_true_eq, Bool.and_eq_true, beq_iff_eq])
    all_goals (intros; omega)

set_option maxHeartbeats 1000000 in
theorem rnode_any (p : Pay) (n c : Nat) (A : Option Addr) (w : World) : Calls Try.prog 91 #[tv p A n c] w fun e w' => e = .returned (.bool (Tm.nodeB p n)) ∧ Below w.heap.size w w' := by
  obtain ⟨k, v, s⟩ := p
  by_cases h0 : k = 0
  · subst h0
    go_enter Try.func91, Try.ntmps91
    go_wp2_with fail
    all_goals go_ret
    all_goals refine ⟨?_, (Below.refl w.heap.size w).alloc (Nat.le_refl _) _⟩
    all_goals refine congrArg (fun b : Bool => Ending.returned (.bool b)) ?_
    all_goals simp_all [Tm.nodeB, isEmpty_size, nat_zero, toList_nil]
    all_goals try (rw [Bool.eq_iff_iff]; simp only [decide_eq_true_eq, Bool.and_eq_true, beq_iff_eq])
    all_goals (intros; omega)
  by_cases h1 : k = 1
  · subst h1
    go_enter Try.func91, Try.ntmps91
    go_wp2_with fail
    all_goals go_ret
    all_goals refine ⟨?_, (Below.refl w.heap.size w).alloc (Nat.le_refl _) _⟩
    all_goals refine congrArg (fun b : Bool => Ending.returned (.bool b)) ?_
    all_goals simp_all [Tm.nodeB, isEmpty_size, nat_zero, toList_nil]
    all_goals try (rw [Bool.eq_iff_iff]; simp only [decide_eq_true_eq, Bool.and_eq_true, beq_iff_eq])
    all_goals (intros; omega)
  by_cases h2 : k = 2
  · subst h2
    go_enter Try.func91, Try.ntmps91
    go_wp2_with fail
    all_goals go_ret
    all_goals refine ⟨?_, (Below.refl w.heap.size w).alloc (Nat.le_refl _) _⟩
    all_goals refine congrArg (fun b : Bool => Ending.returned (.bool b)) ?_
    all_goals simp_all [Tm.nodeB, isEmpty_size, nat_zero, toList_nil]
    all_goals try (rw [Bool.eq_iff_iff]; simp only [decide_eq_true_eq, Bool.and_eq_true, beq_iff_eq])
    all_goals (intros; omega)
  by_cases h3 : k = 3
  · subst h3
    go_enter Try.func91, Try.ntmps91
    go_wp2_with fail
    all_goals go_ret
    all_goals refine ⟨?_, (Below.refl w.heap.size w).alloc (Nat.le_refl _) _⟩
    all_goals refine congrArg (fun b : Bool => Ending.returned (.bool b)) ?_
    all_goals simp_all [Tm.nodeB, isEmpty_size, nat_zero, toList_nil]
    all_goals try (rw [Bool.eq_iff_iff]; simp only [decide_eq_true_eq, Bool.and_eq_true, beq_iff_eq])
    all_goals (intros; omega)
  · go_enter Try.func91, Try.ntmps91
    go_wp2_with fail
    all_goals go_ret
    all_goals refine ⟨?_, (Below.refl w.heap.size w).alloc (Nat.le_refl _) _⟩
    all_goals refine congrArg (fun b : Bool => Ending.returned (.bool b)) ?_
    all_goals simp_all [Tm.nodeB, isEmpty_size, nat_zero, toList_nil]
    all_goals try (rw [Bool.eq_iff_iff]; simp only [decide_eq_true_eq, Bool.and_eq_true, beq_iff_eq])
    all_goals (intros; omega)
end Go.Proofs.Ytapcnehpechkpaa
