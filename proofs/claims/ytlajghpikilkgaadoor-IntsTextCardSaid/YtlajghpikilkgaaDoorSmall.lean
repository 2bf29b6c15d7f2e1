/-
  The small functions of package ints: the absolute value, a sign put to it, the sum, the difference.
-/
import Derived.Test.YtlajghpikilkgaaDoorRows
import Derived.Test.YtlajghpikilkgaaDoorPlain
import Derived.WalkKit
import Derived.WalkLawsBesides
import Derived.ProofKit
import Derived.Lib.Hide
import Derived.Outline
import Derived.Deep.DeepFit
namespace Go.Proofs.YtlajghpikilkgaaDoor
set_option linter.unusedVariables false
set_option linter.unusedSimpArgs false
open Go.RowKit

theorem ret_int {k : IntKind} {a b : Int} (h : a = b) : Ending.returned (.int k a) = .returned (.int k b) := by rw [h]
theorem ret_two {a b c d : Int} (h : a = b) (h' : c = d) : Ending.returned (.tuple #[.int .i64 a, .int .i64 c]) = .returned (.tuple #[.int .i64 b, .int .i64 d]) := by rw [h, h']

theorem wrap_u64_nn {a : Int} (h0 : 0 ≤ a) (h1 : a < 18446744073709551616) : IntKind.u64.wrap a = a := by
  rw [IntKind.wrap_u64]; omega

set_option maxHeartbeats 400000 in
theorem size_any (a : Int) (w : World) (h : In.ok a) :
    Calls Tryd.prog 46 #[.int .i64 a] w fun e w' => e = .returned (.int .u64 (In.size a)) ∧ w = w' := by
  obtain ⟨h0, h1⟩ := h
  by_cases hn : a < 0
  · rw [show In.size a = -a from if_pos hn]
    go_enter Tryd.func46, Tryd.ntmps46
    go_wp2
    go_ret
    exact ⟨ret_int (by rw [IntKind.wrap_u64, IntKind.wrap_u64]; omega), rfl⟩
  · rw [show In.size a = a from if_neg hn]
    have hn' : 0 ≤ a := by omega
    go_enter Tryd.func46, Tryd.ntmps46
    go_wp2
    go_ret
    exact ⟨ret_int (by first | rfl | (rw [IntKind.wrap_u64]; omega)), rfl⟩

set_option maxHeartbeats 400000 in
theorem signed_neg (m : Int) (w : World) (h0 : 0 ≤ m) (h1 : m ≤ 9223372036854775808) :
    Calls Tryd.prog 42 #[.bool true, .int .u64 m] w fun e w' => e = .returned (.tuple #[.int .i64 (-m), .int .i64 0]) ∧ w = w' := by
  have hb : decide (m ≤ 9223372036854775808) = true := decide_eq_true h1
  go_enter Tryd.func42, Tryd.ntmps42
  go_wp2
  go_ret2
  exact ⟨ret_two (by simp only [IntKind.wrap_u64, wrap64]; omega) rfl, rfl⟩

set_option maxHeartbeats 400000 in
theorem signed_pos (m : Int) (w : World) (h0 : 0 ≤ m) (h1 : m < 9223372036854775808) :
    Calls Tryd.prog 42 #[.bool false, .int .u64 m] w fun e w' => e = .returned (.tuple #[.int .i64 m, .int .i64 0]) ∧ w = w' := by
  have hb : decide (m < 9223372036854775808) = true := decide_eq_true h1
  go_enter Tryd.func42, Tryd.ntmps42
  go_wp2
  go_ret2
  exact ⟨ret_two (by first | rfl | (simp only [wrap64]; omega)) rfl, rfl⟩

set_option maxHeartbeats 400000 in
theorem signed_over (n : Bool) (m : Int) (w : World) (h0 : 9223372036854775808 ≤ m) (h1 : m < 18446744073709551616) (hn : n = true → 9223372036854775808 < m) :
    Calls Tryd.prog 42 #[.bool n, .int .u64 m] w fun e w' => e = .returned (.tuple #[.int .i64 0, .int .i64 10]) ∧ w = w' := by
  have hb : decide (m < 9223372036854775808) = false := decide_eq_false (by omega)
  cases n
  · clear hn
    go_enter Tryd.func42, Tryd.ntmps42
    go_wp2
    go_ret2
    exact ⟨rfl, rfl⟩
  · have hc : decide (m ≤ 9223372036854775808) = false := decide_eq_false (by have := hn rfl; omega)
    clear hn
    go_enter Tryd.func42, Tryd.ntmps42
    go_wp2
    go_ret2
    exact ⟨rfl, rfl⟩

/-- signed: the number with a sign and an absolute value of 64 bits. (A '-' before a number above 2^63, or none before one of 2^63: overflow.) -/
theorem signed_any (n : Bool) (m : Int) (w : World) (h0 : 0 ≤ m) (h1 : m < 18446744073709551616) :
    Calls Tryd.prog 42 #[.bool n, .int .u64 m] w fun e w' => e = .returned (.tuple #[.int .i64 (In.fit (In.sgn n m)).1, .int .i64 (In.fit (In.sgn n m)).2]) ∧ w = w' := by
  by_cases hs : 9223372036854775808 ≤ m ∧ (n = true → 9223372036854775808 < m)
  · rw [In.fit_no (by unfold In.ok In.sgn; cases n <;> simp at hs ⊢ <;> omega)]
    exact signed_over n m w hs.1 h1 hs.2
  · rw [In.fit_yes (by unfold In.ok In.sgn; cases n <;> simp at hs ⊢ <;> omega)]
    cases n
    · exact signed_pos m w h0 (by simp at hs; omega)
    · exact signed_neg m w h0 (by simp at hs; omega)

set_option maxHeartbeats 400000 in
theorem add_any (a b : Int) (w : World) (ha : In.ok a) (hb : In.ok b) :
    Calls Tryd.prog 52 #[.int .i64 a, .int .i64 b] w fun e w' => e = .returned (.tuple #[.int .i64 (In.fit (a + b)).1, .int .i64 (In.fit (a + b)).2]) ∧ w = w' := by
  obtain ⟨h0, h1⟩ := ha
  obtain ⟨g0, g1⟩ := hb
  by_cases hs : In.ok (a + b)
  · rw [In.fit_yes hs]
    have hw : wrap64 (a + b) = a + b := by unfold In.ok at hs; unfold wrap64; omega
    have hd : (!decide (wrap64 (a + b) < a) == decide (b < 0)) = false := by
      rw [hw]; by_cases hb : b < 0
      · simp [hb]; omega
      · simp [hb]; omega
    have HW := Lib.hid hw
    clear hw hs
    go_enter Tryd.func52, Tryd.ntmps52
    go_wp2
    go_ret2
    exact ⟨ret_two HW.out rfl, rfl⟩
  · rw [In.fit_no hs]
    have hd : (!decide (wrap64 (a + b) < a) == decide (b < 0)) = true := by
      unfold In.ok at hs
      by_cases hb : b < 0
      · have : ¬ wrap64 (a + b) < a := by unfold wrap64; omega
        simp [hb, this]
      · have : wrap64 (a + b) < a := by unfold wrap64; omega
        simp [hb, this]
    clear hs
    go_enter Tryd.func52, Tryd.ntmps52
    go_wp2
    go_ret2
    exact ⟨rfl, rfl⟩

set_option maxHeartbeats 400000 in
theorem subtract_any (a b : Int) (w : World) (ha : In.ok a) (hb : In.ok b) :
    Calls Tryd.prog 53 #[.int .i64 a, .int .i64 b] w fun e w' => e = .returned (.tuple #[.int .i64 (In.fit (a - b)).1, .int .i64 (In.fit (a - b)).2]) ∧ w = w' := by
  obtain ⟨h0, h1⟩ := ha
  obtain ⟨g0, g1⟩ := hb
  by_cases hs : In.ok (a - b)
  · rw [In.fit_yes hs]
    have hw : wrap64 (a - b) = a - b := by unfold In.ok at hs; unfold wrap64; omega
    have hd : (!decide (a < wrap64 (a - b)) == decide (b < 0)) = false := by
      rw [hw]; by_cases hb : b < 0
      · simp [hb]; omega
      · simp [hb]; omega
    have HW := Lib.hid hw
    clear hw hs
    go_enter Tryd.func53, Tryd.ntmps53
    go_wp2
    go_ret2
    exact ⟨ret_two HW.out rfl, rfl⟩
  · rw [In.fit_no hs]
    have hd : (!decide (a < wrap64 (a - b)) == decide (b < 0)) = true := by
      unfold In.ok at hs
      by_cases hb : b < 0
      · have : ¬ a < wrap64 (a - b) := by unfold wrap64; omega
        simp [hb, this]
      · have : a < wrap64 (a - b) := by unfold wrap64; omega
        simp [hb, this]
    clear hs
    go_enter Tryd.func53, Tryd.ntmps53
    go_wp2
    go_ret2
    exact ⟨rfl, rfl⟩
end Go.Proofs.YtlajghpikilkgaaDoor
