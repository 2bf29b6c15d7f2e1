/-
  The digits of a text: their values, whether a text is one of digits, and the number that it is.
-/
import Derived.Test.YtlajghpikilkgaaDoorSmall
import Derived.Test.YtlajghpikilkgaaDoorMul
import Derived.Shelf.Spec.BitsCarry
namespace Go.Proofs.YtlajghpikilkgaaDoor
set_option linter.unusedVariables false
set_option linter.unusedSimpArgs false
open Go.RowKit

namespace In
/-- The value of a digit, or 36. -/
def dg (c : Int) : Int := if 48 ≤ c ∧ c ≤ 57 then c - 48 else if 97 ≤ c ∧ c ≤ 122 then c - 87 else if 65 ≤ c ∧ c ≤ 90 then c - 55 else 36
theorem dg_bd (c : Int) : 0 ≤ dg c ∧ dg c ≤ 36 := by unfold dg; split <;> (try split) <;> (try split) <;> omega
theorem dg_none {c : Int} (h : c < 48 ∨ (57 < c ∧ c < 65) ∨ (90 < c ∧ c < 97) ∨ 122 < c) : dg c = 36 := by unfold dg; split <;> (try split) <;> (try split) <;> omega
theorem dg_1 {c : Int} (h : 48 ≤ c) (h' : c ≤ 57) : dg c = c - 48 := if_pos ⟨h, h'⟩
theorem dg_2 {c : Int} (h : 97 ≤ c) (h' : c ≤ 122) : dg c = c - 87 := by unfold dg; rw [if_neg (by omega), if_pos ⟨h, h'⟩]
theorem dg_3 {c : Int} (h : 65 ≤ c) (h' : c ≤ 90) : dg c = c - 55 := by unfold dg; rw [if_neg (by omega), if_neg (by omega), if_pos ⟨h, h'⟩]
/-- The reference's: 99 in place of 36. -/
def dgR (c : Int) : Int := if dg c = 36 then 99 else dg c
theorem dg_cases (c : Int) : (c < 48 ∨ (57 < c ∧ c < 65) ∨ (90 < c ∧ c < 97) ∨ 122 < c) ∨ (48 ≤ c ∧ c ≤ 57) ∨ (97 ≤ c ∧ c ≤ 122) ∨ (65 ≤ c ∧ c ≤ 90) := by omega
end In

set_option maxHeartbeats 1000000 in
theorem digit_any (c : Int) (w : World) (h0 : 0 ≤ c) (h1 : c < 256) :
    Calls Tryd.prog 72 #[.int .u8 c] w fun e w' => e = .returned (.int .i64 (In.dg c)) ∧ w = w' := by
  rcases In.dg_cases c with h | ⟨h, h'⟩ | ⟨h, h'⟩ | ⟨h, h'⟩
  · rw [In.dg_none h]
    rcases h with h | ⟨h, h'⟩ | ⟨h, h'⟩ | h
    all_goals
      go_enter Tryd.func72, Tryd.ntmps72
      go_wp2
      go_ret
      exact ⟨rfl, rfl⟩
  · rw [In.dg_1 h h']
    go_enter Tryd.func72, Tryd.ntmps72
    go_wp2
    go_ret
    exact ⟨ret_int (by omega), rfl⟩
  · rw [In.dg_2 h h']
    go_enter Tryd.func72, Tryd.ntmps72
    go_wp2
    go_ret
    exact ⟨ret_int (by omega), rfl⟩
  · rw [In.dg_3 h h']
    go_enter Tryd.func72, Tryd.ntmps72
    go_wp2
    go_ret
    exact ⟨ret_int (by omega), rfl⟩

set_option maxHeartbeats 1000000 in
theorem refDigit_any (c : Int) (w : World) (h0 : 0 ≤ c) (h1 : c < 256) :
    Calls Tryd.prog 43 #[.int .u8 c] w fun e w' => e = .returned (.int .i64 (In.dgR c)) ∧ w = w' := by
  unfold In.dgR
  rcases In.dg_cases c with h | ⟨h, h'⟩ | ⟨h, h'⟩ | ⟨h, h'⟩
  · rw [In.dg_none h, if_pos rfl]
    rcases h with h | ⟨h, h'⟩ | ⟨h, h'⟩ | h
    all_goals
      go_enter Tryd.func43, Tryd.ntmps43
      go_wp2
      go_ret
      exact ⟨rfl, rfl⟩
  · rw [In.dg_1 h h', if_neg (by omega)]
    go_enter Tryd.func43, Tryd.ntmps43
    go_wp2
    go_ret
    exact ⟨ret_int (by omega), rfl⟩
  · rw [In.dg_2 h h', if_neg (by omega)]
    go_enter Tryd.func43, Tryd.ntmps43
    go_wp2
    go_ret
    exact ⟨ret_int (by omega), rfl⟩
  · rw [In.dg_3 h h', if_neg (by omega)]
    go_enter Tryd.func43, Tryd.ntmps43
    go_wp2
    go_ret
    exact ⟨ret_int (by omega), rfl⟩
end Go.Proofs.YtlajghpikilkgaaDoor
