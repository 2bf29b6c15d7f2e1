/-
  Digit of the reference returns what the plain function gives, for any character and base; isChar and Is tell whether an integer is a character.
-/
import Derived.Test.YtdlobgnhoiednaaDoorRows
import Derived.Test.YtdlobgnhoiednaaDoorPlain
import Derived.WalkKit
import Derived.WalkLawsBesides
import Derived.ProofKit
import Derived.Lib.Hide
import Derived.Outline
namespace Go.Proofs.YtdlobgnhoiednaaDoor
set_option linter.unusedVariables false
set_option linter.unusedSimpArgs false
open Go.RowKit

theorem isChar_any (c : Int) (w : World) :
    Calls Tryd.prog 27 #[.int .i64 c] w fun e w' => e = .returned (.bool (Ch.isCh c)) ∧ w = w' := by
  by_cases h0 : 0 ≤ c
  · by_cases h1 : c ≤ 255
    · rw [Ch.isCh_yes h0 h1]
      go_enter Tryd.func27, Tryd.ntmps27
      go_wp2
      go_ret
      exact ⟨rfl, rfl⟩
    · rw [Ch.isCh_no (by omega)]
      go_enter Tryd.func27, Tryd.ntmps27
      go_wp2
      go_ret
      exact ⟨rfl, rfl⟩
  · rw [Ch.isCh_no (by omega)]
    go_enter Tryd.func27, Tryd.ntmps27
    go_wp2
    go_ret
    exact ⟨rfl, rfl⟩

theorem refIs_any (c : Int) (w : World) :
    Calls Tryd.prog 34 #[.int .i64 c] w fun e w' => e = .returned (.bool (Ch.isCh c)) ∧ w = w' := by
  by_cases h0 : 0 ≤ c
  · by_cases h1 : c ≤ 255
    · rw [Ch.isCh_yes h0 h1]
      go_enter Tryd.func34, Tryd.ntmps34
      go_wp2
      go_ret
      exact ⟨rfl, rfl⟩
    · rw [Ch.isCh_no (by omega)]
      go_enter Tryd.func34, Tryd.ntmps34
      go_wp2
      go_ret
      exact ⟨rfl, rfl⟩
  · rw [Ch.isCh_no (by omega)]
    go_enter Tryd.func34, Tryd.ntmps34
    go_wp2
    go_ret
    exact ⟨rfl, rfl⟩

set_option maxHeartbeats 800000 in
theorem refDigit_bad (c b : Int) (h : b < 2 ∨ 36 < b) (w : World) :
    Calls Tryd.prog 17 #[.int .i64 c, .int .i64 b] w fun e w' => e = .returned (.tuple #[.int .i64 0, .bool false]) ∧ w = w' := by
  have hs : c < 48 ∨ (48 ≤ c ∧ c ≤ 57) ∨ (57 < c ∧ c < 65) ∨ (65 ≤ c ∧ c ≤ 90) ∨ (90 < c ∧ c < 97) ∨ (97 ≤ c ∧ c ≤ 122) ∨ 122 < c := by omega
  rcases h with h | h
  · rcases hs with hs | ⟨hs, hs'⟩ | ⟨hs, hs'⟩ | ⟨hs, hs'⟩ | ⟨hs, hs'⟩ | ⟨hs, hs'⟩ | hs
    all_goals
      go_enter Tryd.func17, Tryd.ntmps17
      go_wp2
      go_ret2
      exact ⟨rfl, rfl⟩
  · have h' : ¬ b < 2 := by omega
    rcases hs with hs | ⟨hs, hs'⟩ | ⟨hs, hs'⟩ | ⟨hs, hs'⟩ | ⟨hs, hs'⟩ | ⟨hs, hs'⟩ | hs
    all_goals
      go_enter Tryd.func17, Tryd.ntmps17
      go_wp2
      go_ret2
      exact ⟨rfl, rfl⟩

set_option maxHeartbeats 400000 in
theorem refDigit_none (c b : Int) (h1 : 2 ≤ b) (h2 : b ≤ 36) (hc : ¬ (48 ≤ c ∧ c ≤ 57) ∧ ¬ (97 ≤ c ∧ c ≤ 122) ∧ ¬ (65 ≤ c ∧ c ≤ 90)) (w : World) :
    Calls Tryd.prog 17 #[.int .i64 c, .int .i64 b] w fun e w' => e = .returned (.tuple #[.int .i64 0, .bool false]) ∧ w = w' := by
  have hs : c < 48 ∨ (57 < c ∧ c < 65) ∨ (90 < c ∧ c < 97) ∨ 122 < c := by omega
  clear hc
  rcases hs with h | ⟨h, h'⟩ | ⟨h, h'⟩ | h
  all_goals
    go_enter Tryd.func17, Tryd.ntmps17
    go_wp2
    go_ret2
    exact ⟨rfl, rfl⟩

set_option maxHeartbeats 800000 in
theorem refDigit_some (c b k lo hi : Int) (hk : lo = 48 ∧ hi = 57 ∧ k = 48 ∨ lo = 97 ∧ hi = 122 ∧ k = 87 ∨ lo = 65 ∧ hi = 90 ∧ k = 55) (h1 : 2 ≤ b) (h2 : b ≤ 36) (hl : lo ≤ c) (hh : c ≤ hi) (w : World) :
    Calls Tryd.prog 17 #[.int .i64 c, .int .i64 b] w fun e w' => e = .returned (.tuple #[.int .i64 (if c - k < b then c - k else 0), .bool (decide (c - k < b))]) ∧ w = w' := by
  by_cases h : c - k < b
  · rw [if_pos h, decide_eq_true h]
    rcases hk with ⟨rfl, rfl, rfl⟩ | ⟨rfl, rfl, rfl⟩ | ⟨rfl, rfl, rfl⟩
    · go_enter Tryd.func17, Tryd.ntmps17
      go_wp2
      go_ret2
      exact ⟨rfl, rfl⟩
    · go_enter Tryd.func17, Tryd.ntmps17
      go_wp2
      go_ret2
      exact ⟨by rw [show c - 97 + 10 = c - 87 from by omega]; rfl, rfl⟩
    · go_enter Tryd.func17, Tryd.ntmps17
      go_wp2
      go_ret2
      exact ⟨by rw [show c - 65 + 10 = c - 55 from by omega]; rfl, rfl⟩
  · rw [if_neg h, decide_eq_false h]
    rcases hk with ⟨rfl, rfl, rfl⟩ | ⟨rfl, rfl, rfl⟩ | ⟨rfl, rfl, rfl⟩
    all_goals
      go_enter Tryd.func17, Tryd.ntmps17
      go_wp2
      go_ret2
      exact ⟨rfl, rfl⟩

/-- Digit of the reference, for every two integers. -/
theorem refDigit_any (c b : Int) (w : World) :
    Calls Tryd.prog 17 #[.int .i64 c, .int .i64 b] w fun e w' => e = .returned (.tuple #[.int .i64 (Ch.digV c b), .bool (Ch.digB c b)]) ∧ w = w' := by
  by_cases hb : b < 2 ∨ 36 < b
  · rw [Ch.digV_bad hb, Ch.digB_bad hb]
    exact refDigit_bad c b hb w
  · have h1 : 2 ≤ b := by omega
    have h2 : b ≤ 36 := by omega
    by_cases hn : ¬ (48 ≤ c ∧ c ≤ 57) ∧ ¬ (97 ≤ c ∧ c ≤ 122) ∧ ¬ (65 ≤ c ∧ c ≤ 90)
    · rw [Ch.digV_none hn, Ch.digB_none hn]
      exact refDigit_none c b h1 h2 hn w
    · obtain ⟨lo, hi, k, hk, hl, hh, e, e2⟩ := Ch.dig_some h1 h2 hn
      rw [e, e2]
      exact refDigit_some c b k lo hi hk h1 h2 hl hh w

end Go.Proofs.YtdlobgnhoiednaaDoor
