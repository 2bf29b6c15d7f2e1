/-
  Class of the reference returns what its list of ranges gives, and that is what Class of package chars returns, for any integer.
-/
import Derived.Test.YtdlobgnhoiednaaDoorRefEscape
namespace Go.Proofs.YtdlobgnhoiednaaDoor
set_option linter.unusedVariables false
set_option linter.unusedSimpArgs false
open Go.RowKit

/-- The class by ranges. -/
def rcls (c : Int) : Int :=
  if ¬ (0 ≤ c ∧ c ≤ 255) then 0 else if 9 ≤ c ∧ c ≤ 13 ∨ c = 32 then 1 else if 97 ≤ c ∧ c ≤ 122 then 2 else if 65 ≤ c ∧ c ≤ 90 ∨ c = 95 then 3 else if 48 ≤ c ∧ c ≤ 57 then 4
  else if amongB s5.data.toList c then 5 else if amongB s6.data.toList c then 6 else if amongB s7.data.toList c then 7 else 8

theorem cls_rcls (c : Int) : cls c = rcls c := by
  by_cases h : 0 ≤ c ∧ c ≤ 255
  · obtain ⟨n, rfl⟩ := Int.eq_ofNat_of_zero_le h.1
    have hf : ∀ m : Fin 256, cls (m.val : Int) = rcls (m.val : Int) := by decide +kernel
    exact hf ⟨n, by omega⟩
  · unfold cls rcls
    rw [Ch.isCh_no h, if_pos h]
    rfl

set_option maxHeartbeats 1000000 in
theorem refClass_no (c : Int) (w : World) (h : ¬ (0 ≤ c ∧ c ≤ 255)) :
    Calls Tryd.prog 20 #[.int .i64 c] w fun e w' => e = .returned (.int .i64 0) ∧ w = w' := by
  have hi := Ch.isCh_no h
  clear h
  go_enter Tryd.func20, Tryd.ntmps20
  go_wp2_with fail
  refine (refIs_any _ _).mono ?_
  rintro e w' ⟨rfl, rfl⟩
  go_wp2_with fail
  go_ret
  exact ⟨rfl, rfl⟩

set_option maxHeartbeats 2000000 in
theorem refClass_range (c k : Int) (w : World) (h : (9 ≤ c ∧ c ≤ 13 ∧ k = 1) ∨ (c = 32 ∧ k = 1) ∨ (97 ≤ c ∧ c ≤ 122 ∧ k = 2) ∨ (65 ≤ c ∧ c ≤ 90 ∧ k = 3) ∨ (c = 95 ∧ k = 3) ∨ (48 ≤ c ∧ c ≤ 57 ∧ k = 4)) :
    Calls Tryd.prog 20 #[.int .i64 c] w fun e w' => e = .returned (.int .i64 k) ∧ w = w' := by
  have hi := Ch.isCh_yes (c := c) (by omega) (by omega)
  have HI := Lib.hid hi
  clear hi
  rcases h with ⟨h, h', rfl⟩ | ⟨rfl, rfl⟩ | ⟨h, h', rfl⟩ | ⟨h, h', rfl⟩ | ⟨rfl, rfl⟩ | ⟨h, h', rfl⟩
  all_goals
    (try have n32 : (c == 32) = false := by rw [beq_eq_false_iff_ne]; omega)
    (try have n95 : (c == 95) = false := by rw [beq_eq_false_iff_ne]; omega)
    go_enter Tryd.func20, Tryd.ntmps20
    go_wp2_with fail
    refine (refIs_any _ _).mono ?_
    rintro e w' ⟨he, rfl⟩
    rw [HI.out] at he
    subst he
    go_wp2_with fail
    go_ret
    exact ⟨rfl, rfl⟩

set_option maxHeartbeats 4000000 in
theorem refClass_rest (c : Int) (w : World) (h : (0 ≤ c ∧ c < 9) ∨ (13 < c ∧ c < 32) ∨ (32 < c ∧ c < 48) ∨ (57 < c ∧ c < 65) ∨ (90 < c ∧ c < 95) ∨ (95 < c ∧ c < 97) ∨ (122 < c ∧ c ≤ 255)) :
    Calls Tryd.prog 20 #[.int .i64 c] w fun e w' =>
      e = .returned (.int .i64 (if amongB s5.data.toList c then 5 else if amongB s6.data.toList c then 6 else if amongB s7.data.toList c then 7 else 8)) ∧ w = w' := by
  have hi := Ch.isCh_yes (c := c) (by omega) (by omega)
  have HI := Lib.hid hi
  clear hi
  have n32 : (c == 32) = false := by rw [beq_eq_false_iff_ne]; omega
  have n95 : (c == 95) = false := by rw [beq_eq_false_iff_ne]; omega
  have a5 := among_any s5 c w (by decide)
  have a6 := among_any s6 c w (by decide)
  have a7 := among_any s7 c w (by decide)
  rcases h with ⟨h, h'⟩ | ⟨h, h'⟩ | ⟨h, h'⟩ | ⟨h, h'⟩ | ⟨h, h'⟩ | ⟨h, h'⟩ | ⟨h, h'⟩
  all_goals
    cases b5 : amongB s5.data.toList c
    · rw [b5] at a5
      have A5 := Lib.hid a5
      clear a5
      cases b6 : amongB s6.data.toList c
      · rw [b6] at a6
        have A6 := Lib.hid a6
        clear a6
        cases b7 : amongB s7.data.toList c
        · rw [b7] at a7
          have A7 := Lib.hid a7
          clear a7 b5 b6 b7
          go_enter Tryd.func20, Tryd.ntmps20
          go_wp2_with fail
          refine (refIs_any _ _).mono ?_
          rintro e w' ⟨he, rfl⟩
          rw [HI.out] at he
          subst he
          go_wp2_with fail
          refine (A5.out).mono ?_
          rintro e w' ⟨rfl, rfl⟩
          go_wp2_with fail
          refine (A6.out).mono ?_
          rintro e w' ⟨rfl, rfl⟩
          go_wp2_with fail
          refine (A7.out).mono ?_
          rintro e w' ⟨rfl, rfl⟩
          go_wp2_with fail
          go_ret
          exact ⟨rfl, rfl⟩
        · rw [b7] at a7
          have A7 := Lib.hid a7
          clear a7 b5 b6 b7
          go_enter Tryd.func20, Tryd.ntmps20
          go_wp2_with fail
          refine (refIs_any _ _).mono ?_
          rintro e w' ⟨he, rfl⟩
          rw [HI.out] at he
          subst he
          go_wp2_with fail
          refine (A5.out).mono ?_
          rintro e w' ⟨rfl, rfl⟩
          go_wp2_with fail
          refine (A6.out).mono ?_
          rintro e w' ⟨rfl, rfl⟩
          go_wp2_with fail
          refine (A7.out).mono ?_
          rintro e w' ⟨rfl, rfl⟩
          go_wp2_with fail
          go_ret
          exact ⟨rfl, rfl⟩
      · rw [b6] at a6
        have A6 := Lib.hid a6
        clear a6 a7 b5 b6
        go_enter Tryd.func20, Tryd.ntmps20
        go_wp2_with fail
        refine (refIs_any _ _).mono ?_
        rintro e w' ⟨he, rfl⟩
        rw [HI.out] at he
        subst he
        go_wp2_with fail
        refine (A5.out).mono ?_
        rintro e w' ⟨rfl, rfl⟩
        go_wp2_with fail
        refine (A6.out).mono ?_
        rintro e w' ⟨rfl, rfl⟩
        go_wp2_with fail
        go_ret
        exact ⟨rfl, rfl⟩
    · rw [b5] at a5
      have A5 := Lib.hid a5
      clear a5 a6 a7 b5
      go_enter Tryd.func20, Tryd.ntmps20
      go_wp2_with fail
      refine (refIs_any _ _).mono ?_
      rintro e w' ⟨he, rfl⟩
      rw [HI.out] at he
      subst he
      go_wp2_with fail
      refine (A5.out).mono ?_
      rintro e w' ⟨rfl, rfl⟩
      go_wp2_with fail
      go_ret
      exact ⟨rfl, rfl⟩

/-- Class of the reference, for every integer. -/
theorem refClass_any (c : Int) (w : World) :
    Calls Tryd.prog 20 #[.int .i64 c] w fun e w' => e = .returned (.int .i64 (rcls c)) ∧ w = w' := by
  by_cases hc : 0 ≤ c ∧ c ≤ 255
  · have hc' : ¬ ¬ (0 ≤ c ∧ c ≤ 255) := fun h => h hc
    unfold rcls
    rw [if_neg hc']
    by_cases h1 : 9 ≤ c ∧ c ≤ 13 ∨ c = 32
    · rw [if_pos h1]; exact refClass_range c 1 w (by omega)
    · rw [if_neg h1]
      by_cases h2 : 97 ≤ c ∧ c ≤ 122
      · rw [if_pos h2]; exact refClass_range c 2 w (by omega)
      · rw [if_neg h2]
        by_cases h3 : 65 ≤ c ∧ c ≤ 90 ∨ c = 95
        · rw [if_pos h3]; exact refClass_range c 3 w (by omega)
        · rw [if_neg h3]
          by_cases h4 : 48 ≤ c ∧ c ≤ 57
          · rw [if_pos h4]; exact refClass_range c 4 w (by omega)
          · rw [if_neg h4]; exact refClass_rest c w (by omega)
  · unfold rcls
    rw [if_pos hc]
    exact refClass_no c w hc

end Go.Proofs.YtdlobgnhoiednaaDoor
