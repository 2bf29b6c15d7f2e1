/-
  Unescape of package chars returns what the chapter's list gives, for any integer.
-/
import Derived.Test.YtdlobgnhoiednaaDoorShelf
import Derived.Test.YtdlobgnhoiednaaDoorRefDigit
namespace Go.Proofs.YtdlobgnhoiednaaDoor
set_option linter.unusedVariables false
set_option linter.unusedSimpArgs false
open Go.RowKit

/-- The characters that a letter after a backslash denotes. -/
def unV (c : Int) : Int :=
  if c = 92 ∨ c = 39 ∨ c = 34 ∨ c = 96 then c else if c = 97 then 7 else if c = 98 then 8 else if c = 116 then 9 else if c = 110 then 10 else if c = 118 then 11 else if c = 102 then 12 else if c = 114 then 13 else 0
def unB (c : Int) : Bool :=
  decide (c = 92 ∨ c = 39 ∨ c = 34 ∨ c = 96 ∨ c = 97 ∨ c = 98 ∨ c = 116 ∨ c = 110 ∨ c = 118 ∨ c = 102 ∨ c = 114)

theorem idx_none (c : Int) (h0 : 0 ≤ c) (h1 : c ≤ 255) (h : c ≠ 97 ∧ c ≠ 98 ∧ c ≠ 116 ∧ c ≠ 110 ∧ c ≠ 118 ∧ c ≠ 102 ∧ c ≠ 114) : Lib.indexByte [97, 98, 116, 110, 118, 102, 114] c.toNat.toUInt8 = -1 := by
  obtain ⟨n, rfl⟩ := Int.eq_ofNat_of_zero_le h0
  have hf : ∀ m : Fin 256, ¬ (m.val = 97 ∨ m.val = 98 ∨ m.val = 116 ∨ m.val = 110 ∨ m.val = 118 ∨ m.val = 102 ∨ m.val = 114) → Lib.indexByte [97, 98, 116, 110, 118, 102, 114] m.val.toUInt8 = -1 := by decide +kernel
  exact hf ⟨n, by omega⟩ (by simp only; omega)

set_option maxHeartbeats 1000000 in
theorem unescape_any (c : Int) (w : World) :
    Calls Tryd.prog 14 #[.int .i64 c] w fun e w' => e = .returned (.tuple #[.int .i64 (unV c), .bool (unB c)]) ∧ w = w' := by
  by_cases hq : c = 92 ∨ c = 39 ∨ c = 34 ∨ c = 96
  · rcases hq with rfl | rfl | rfl | rfl
    all_goals
      go_enter Tryd.func14, Tryd.ntmps14
      go_wp2_with fail
      go_ret2
      exact ⟨rfl, rfl⟩
  have q1 : (c == 92) = false := by rw [beq_eq_false_iff_ne]; omega
  have q2 : (c == 39) = false := by rw [beq_eq_false_iff_ne]; omega
  have q3 : (c == 34) = false := by rw [beq_eq_false_iff_ne]; omega
  have q4 : (c == 96) = false := by rw [beq_eq_false_iff_ne]; omega
  by_cases hc : 0 ≤ c ∧ c ≤ 255
  · have hi := Ch.isCh_yes hc.1 hc.2
    have hc0 := hc.1
    have hc1 := hc.2
    by_cases hl : c = 97 ∨ c = 98 ∨ c = 116 ∨ c = 110 ∨ c = 118 ∨ c = 102 ∨ c = 114
    · clear q1 q2 q3 q4 hi hc hc0 hc1 hq
      rcases hl with rfl | rfl | rfl | rfl | rfl | rfl | rfl
      all_goals
        have hi := Ch.isCh_yes (c := 97) (by omega) (by omega)
        clear hi
        go_enter Tryd.func14, Tryd.ntmps14
        go_wp2_with fail
        refine (isChar_any _ _).mono ?_
        rintro e w' ⟨he, rfl⟩
        rw [Ch.isCh_yes (by omega) (by omega)] at he
        subst he
        go_wp2_with fail
        refine (Tryd.strings_IndexByte _ _ _).mono ?_
        rintro e w' ⟨he, rfl⟩
        simp [Lib.indexByte] at he
        subst he
        go_wp2_with fail
        go_ret2
        exact ⟨rfl, rfl⟩
    · have hx := idx_none c hc0 hc1 (by omega)
      have ev : unV c = 0 := by unfold unV; repeat rw [if_neg (by omega)]
      have eb : unB c = false := by unfold unB; rw [decide_eq_false]; omega
      rw [ev, eb]
      clear hq hl ev eb hc
      have HX := Lib.hid hx
      clear hx
      go_enter Tryd.func14, Tryd.ntmps14
      go_wp2_with fail
      refine (isChar_any _ _).mono ?_
      rintro e w' ⟨rfl, rfl⟩
      go_wp2_with fail
      refine (Tryd.strings_IndexByte _ _ _).mono ?_
      rintro e w' ⟨he, rfl⟩
      simp only [HX.out] at he
      subst he
      go_wp2_with fail
      go_ret2
      exact ⟨rfl, rfl⟩
  · have hi := Ch.isCh_no hc
    have ev : unV c = 0 := by unfold unV; repeat rw [if_neg (by omega)]
    have eb : unB c = false := by unfold unB; rw [decide_eq_false]; omega
    rw [ev, eb]
    clear hq ev eb hc
    go_enter Tryd.func14, Tryd.ntmps14
    go_wp2_with fail
    refine (isChar_any _ _).mono ?_
    rintro e w' ⟨rfl, rfl⟩
    go_wp2_with fail
    go_ret2
    exact ⟨rfl, rfl⟩

end Go.Proofs.YtdlobgnhoiednaaDoor
