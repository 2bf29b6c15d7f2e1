/-
  The reference's sum, difference and product.
-/
import Derived.Test.YtlajghpikilkgaaDoorMul
import Derived.Test.YtlajghpikilkgaaDoorDivs
namespace Go.Proofs.YtlajghpikilkgaaDoor
set_option linter.unusedVariables false
set_option linter.unusedSimpArgs false
open Go.RowKit

set_option maxHeartbeats 1000000 in
theorem refAdd_any (a b : Int) (w : World) (ha : In.ok a) (hb : In.ok b) :
    Calls Tryd.prog 30 #[.int .i64 a, .int .i64 b] w fun e w' => e = .returned (.tuple #[.int .i64 (In.fit (a + b)).1, .int .i64 (In.fit (a + b)).2]) ∧ w = w' := by
  obtain ⟨h0, h1⟩ := ha
  obtain ⟨g0, g1⟩ := hb
  by_cases hp : 0 < b
  · by_cases ho : 9223372036854775807 - b < a
    · rw [In.fit_no (by unfold In.ok; omega)]
      go_enter Tryd.func30, Tryd.ntmps30
      go_wp2_with fail
      go_ret2
      exact ⟨rfl, rfl⟩
    · rw [In.fit_yes (by unfold In.ok; omega)]
      have ho' : a ≤ 9223372036854775807 - b := by omega
      have hn : ¬ b < 0 := by omega
      clear ho
      go_enter Tryd.func30, Tryd.ntmps30
      go_wp2_with fail
      go_ret2
      exact ⟨ret_two (by first | rfl | (unfold wrap64; omega)) rfl, rfl⟩
  · by_cases hn : b < 0
    · have hp' : b ≤ 0 := by omega
      clear hp
      by_cases ho : a < -9223372036854775808 - b
      · rw [In.fit_no (by unfold In.ok; omega)]
        go_enter Tryd.func30, Tryd.ntmps30
        go_wp2_with fail
        go_ret2
        exact ⟨rfl, rfl⟩
      · rw [In.fit_yes (by unfold In.ok; omega)]
        have ho' : -9223372036854775808 - b ≤ a := by omega
        clear ho
        go_enter Tryd.func30, Tryd.ntmps30
        go_wp2_with fail
        go_ret2
        exact ⟨ret_two (by first | rfl | (unfold wrap64; omega)) rfl, rfl⟩
    · obtain rfl : b = 0 := by omega
      rw [In.fit_yes (by unfold In.ok; omega)]
      clear hp hn g0 g1
      go_enter Tryd.func30, Tryd.ntmps30
      go_wp2_with fail
      go_ret2
      exact ⟨ret_two (by first | rfl | (unfold wrap64; omega) | omega) rfl, rfl⟩

set_option maxHeartbeats 1000000 in
theorem refSub_any (a b : Int) (w : World) (ha : In.ok a) (hb : In.ok b) :
    Calls Tryd.prog 27 #[.int .i64 a, .int .i64 b] w fun e w' => e = .returned (.tuple #[.int .i64 (In.fit (a - b)).1, .int .i64 (In.fit (a - b)).2]) ∧ w = w' := by
  obtain ⟨h0, h1⟩ := ha
  obtain ⟨g0, g1⟩ := hb
  by_cases hn : b < 0
  · by_cases ho : 9223372036854775807 + b < a
    · rw [In.fit_no (by unfold In.ok; omega)]
      go_enter Tryd.func27, Tryd.ntmps27
      go_wp2_with fail
      go_ret2
      exact ⟨rfl, rfl⟩
    · rw [In.fit_yes (by unfold In.ok; omega)]
      have ho' : a ≤ 9223372036854775807 + b := by omega
      have hp : b ≤ 0 := by omega
      clear ho
      go_enter Tryd.func27, Tryd.ntmps27
      go_wp2_with fail
      go_ret2
      exact ⟨ret_two (by first | rfl | (unfold wrap64; omega)) rfl, rfl⟩
  · by_cases hp : 0 < b
    · have hn' : 0 ≤ b := by omega
      clear hn
      by_cases ho : a < -9223372036854775808 + b
      · rw [In.fit_no (by unfold In.ok; omega)]
        go_enter Tryd.func27, Tryd.ntmps27
        go_wp2_with fail
        go_ret2
        exact ⟨rfl, rfl⟩
      · rw [In.fit_yes (by unfold In.ok; omega)]
        have ho' : -9223372036854775808 + b ≤ a := by omega
        clear ho
        go_enter Tryd.func27, Tryd.ntmps27
        go_wp2_with fail
        go_ret2
        exact ⟨ret_two (by first | rfl | (unfold wrap64; omega)) rfl, rfl⟩
    · obtain rfl : b = 0 := by omega
      rw [In.fit_yes (by unfold In.ok; omega)]
      clear hp hn g0 g1
      go_enter Tryd.func27, Tryd.ntmps27
      go_wp2_with fail
      go_ret2
      exact ⟨ret_two (by first | rfl | (unfold wrap64; omega) | omega) rfl, rfl⟩
end Go.Proofs.YtlajghpikilkgaaDoor
