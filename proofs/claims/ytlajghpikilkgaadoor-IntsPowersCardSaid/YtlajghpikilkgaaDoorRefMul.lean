/-
  The reference's product, quotients and remainders.
-/
import Derived.Test.YtlajghpikilkgaaDoorRefSmall
namespace Go.Proofs.YtlajghpikilkgaaDoor
set_option linter.unusedVariables false
set_option linter.unusedSimpArgs false
open Go.RowKit

namespace In
theorem wrap_mul {a b : Int} (hb : ok b) (hb0 : b ≠ 0) (h : (wrap64 (a * b)).tdiv b = a) : ok (a * b) := by
  have h1 := Int.mul_tdiv_add_tmod (wrap64 (a * b)) b
  rw [h, Int.mul_comm b a] at h1
  have h2 := tmod_abs (wrap64 (a * b)) b hb0
  have h3 : -9223372036854775808 ≤ wrap64 (a * b) ∧ wrap64 (a * b) ≤ 9223372036854775807 := by unfold wrap64; omega
  obtain ⟨j, hj⟩ : ∃ j, wrap64 (a * b) = a * b - 18446744073709551616 * j := ⟨(a * b + 9223372036854775808) / 18446744073709551616, by unfold wrap64; omega⟩
  unfold ok at hb
  have hj0 : j = 0 := by omega
  unfold ok
  omega
theorem wrap_mul' {a b : Int} (h : ok (a * b)) (hb0 : b ≠ 0) : wrap64 (a * b) = a * b ∧ (wrap64 (a * b)).tdiv b = a := by
  have e : wrap64 (a * b) = a * b := by unfold ok at h; unfold wrap64; omega
  exact ⟨e, by rw [e]; exact Int.mul_tdiv_cancel _ hb0⟩
theorem wrap_ok (z : Int) : ok (wrap64 z) := by unfold ok wrap64; omega
theorem wrap_of_ok {z : Int} (h : ok z) : wrap64 z = z := by unfold ok at h; unfold wrap64; omega
end In

set_option maxHeartbeats 1000000 in
theorem refMul_any (a b : Int) (w : World) (ha : In.ok a) (hb : In.ok b) :
    Calls Tryd.prog 31 #[.int .i64 a, .int .i64 b] w fun e w' => e = .returned (.tuple #[.int .i64 (In.fit (a * b)).1, .int .i64 (In.fit (a * b)).2]) ∧ w = w' := by
  by_cases a0 : a = 0
  · subst a0
    rw [Int.zero_mul, In.fit_yes (by decide)]
    clear ha hb
    go_enter Tryd.func31, Tryd.ntmps31
    go_wp2_with fail
    go_ret2
    exact ⟨rfl, rfl⟩
  have a0' : (a == 0) = false := by simpa using a0
  by_cases b0 : b = 0
  · subst b0
    rw [Int.mul_zero, In.fit_yes (by decide)]
    clear ha hb a0
    go_enter Tryd.func31, Tryd.ntmps31
    go_wp2_with fail
    go_ret2
    exact ⟨rfl, rfl⟩
  have b0' : (b == 0) = false := by simpa using b0
  by_cases a1 : a = -1
  · subst a1
    have c1 := fun w => refSub_any 0 b w (by decide) hb
    rw [show (0 : Int) - b = -b by omega] at c1
    rw [show (-1 : Int) * b = -b by omega]
    have C1 := Lib.hid c1
    clear c1 ha hb a0 a0' b0
    go_enter Tryd.func31, Tryd.ntmps31
    go_wp2_with fail
    refine (C1.out _).mono ?_
    rintro e w1 ⟨rfl, rfl⟩
    go_wp2_with fail
    go_ret2
    exact ⟨rfl, rfl⟩
  have a1' : (a == -1) = false := by simpa using a1
  by_cases b1 : b = -1
  · subst b1
    have c1 := fun w => refSub_any 0 a w (by decide) ha
    rw [show (0 : Int) - a = -a by omega] at c1
    rw [show a * (-1 : Int) = -a by omega]
    have C1 := Lib.hid c1
    clear c1 ha hb a0 b0 b0' a1
    go_enter Tryd.func31, Tryd.ntmps31
    go_wp2_with fail
    refine (C1.out _).mono ?_
    rintro e w1 ⟨rfl, rfl⟩
    go_wp2_with fail
    go_ret2
    exact ⟨rfl, rfl⟩
  have b1' : (b == -1) = false := by simpa using b1
  have hq := In.tdiv_ok (In.wrap_ok (a * b)) b0 (fun h => b1 h.2)
  have hwq := In.wrap_of_ok hq
  by_cases hs : In.ok (a * b)
  · obtain ⟨e1, e2⟩ := In.wrap_mul' hs b0
    rw [In.fit_yes hs]
    have ht : (wrap64 ((wrap64 (a * b)).tdiv b) == a) = true := by rw [hwq, e2]; simp
    have E1 := Lib.hid e1
    clear hq hwq e1 e2 hs ha hb a0 a1 b1
    go_enter Tryd.func31, Tryd.ntmps31
    go_wp2_with fail
    go_ret2
    exact ⟨ret_two E1.out rfl, rfl⟩
  · have ht : (wrap64 ((wrap64 (a * b)).tdiv b) == a) = false := by
      rw [hwq]
      simp only [beq_eq_false_iff_ne]
      exact fun h => hs (In.wrap_mul hb b0 h)
    rw [In.fit_no hs]
    clear hq hwq hs ha hb a0 a1 b1
    go_enter Tryd.func31, Tryd.ntmps31
    go_wp2_with fail
    go_ret2
    exact ⟨rfl, rfl⟩

set_option maxHeartbeats 1000000 in
theorem refQuot_any (a b : Int) (w : World) (ha : In.ok a) (hb : In.ok b) (hb0 : b ≠ 0) :
    Calls Tryd.prog 35 #[.int .i64 a, .int .i64 b] w fun e w' => e = .returned (.tuple #[.int .i64 (In.fit (a.tdiv b)).1, .int .i64 (In.fit (a.tdiv b)).2]) ∧ w = w' := by
  by_cases b1 : b = -1
  · subst b1
    have c1 := fun w => refSub_any 0 a w (by decide) ha
    rw [show (0 : Int) - a = -a by omega] at c1
    rw [show a.tdiv (-1) = -a by rw [Int.tdiv_neg, Int.tdiv_one]]
    have C1 := Lib.hid c1
    clear c1 ha hb hb0
    go_enter Tryd.func35, Tryd.ntmps35
    go_wp2_with fail
    refine (C1.out _).mono ?_
    rintro e w1 ⟨rfl, rfl⟩
    go_wp2_with fail
    go_ret2
    exact ⟨rfl, rfl⟩
  · have b1' : (b == -1) = false := by simpa using b1
    have b0' : (b == 0) = false := by simpa using hb0
    have hq := In.tdiv_ok ha hb0 (fun h => b1 h.2)
    rw [In.fit_yes hq]
    have HQ := Lib.hid hq
    clear hq ha hb b1
    go_enter Tryd.func35, Tryd.ntmps35
    go_wp2_with fail
    go_ret2
    exact ⟨ret_two (by first | rfl | exact In.wrap_of_ok HQ.out) rfl, rfl⟩

set_option maxHeartbeats 1000000 in
theorem refRem_any (a b : Int) (w : World) (ha : In.ok a) (hb : In.ok b) (hb0 : b ≠ 0) :
    Calls Tryd.prog 36 #[.int .i64 a, .int .i64 b] w fun e w' => e = .returned (.int .i64 (a.tmod b)) ∧ w = w' := by
  by_cases b1 : b = -1
  · subst b1
    rw [show a.tmod (-1) = 0 by rw [Int.tmod_neg]; exact Int.tmod_one a]
    clear ha hb hb0
    go_enter Tryd.func36, Tryd.ntmps36
    go_wp2_with fail
    go_ret
    exact ⟨rfl, rfl⟩
  · have b1' : (b == -1) = false := by simpa using b1
    have b0' : (b == 0) = false := by simpa using hb0
    have hr := In.tmod_ok (a := a) hb hb0
    have hdm := Int.tmod_add_tdiv_mul a b
    have hq := In.wrap_of_ok (In.tdiv_ok ha hb0 (fun h => b1 h.2))
    have HR := Lib.hid (And.intro hr (And.intro hdm hq))
    clear hr hdm hq ha hb b1
    go_enter Tryd.func36, Tryd.ntmps36
    go_wp2_with fail
    go_ret
    refine ⟨ret_int ?_, rfl⟩
    obtain ⟨hr, hdm, hq⟩ := HR.out
    try rw [hq]
    unfold In.ok at hr
    unfold wrap64
    omega
end Go.Proofs.YtlajghpikilkgaaDoor
