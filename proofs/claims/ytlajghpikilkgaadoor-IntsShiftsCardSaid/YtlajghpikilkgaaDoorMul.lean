/-
  The product and the quotients of package ints.
-/
import Derived.Test.YtlajghpikilkgaaDoorSmall
import Derived.Test.YtlajghpikilkgaaDoorShelf
namespace Go.Proofs.YtlajghpikilkgaaDoor
set_option linter.unusedVariables false
set_option linter.unusedSimpArgs false
open Go.RowKit

theorem mul64 (x y : Int) (w : World) (hx0 : 0 ≤ x) (hx : x < 18446744073709551616) (hy0 : 0 ≤ y) (hy : y < 18446744073709551616) :
    Calls Tryd.prog 73 #[.int .u64 x, .int .u64 y] w fun e w' => e = .returned (.tuple #[.int .u64 (x * y / 18446744073709551616), .int .u64 (x * y % 18446744073709551616)]) ∧ w = w' := by
  obtain ⟨x, rfl⟩ := Int.eq_ofNat_of_zero_le hx0
  obtain ⟨y, rfl⟩ := Int.eq_ofNat_of_zero_le hy0
  refine (Tryd.bits_Mul64 x y (by omega) (by omega) w).mono ?_
  rintro e w' ⟨rfl, rfl⟩
  refine ⟨?_, rfl⟩
  rfl

namespace In
theorem size_mul (a b : Int) : size a * size b = size (a * b) := by
  rw [size_nat, size_nat, size_nat, Int.natAbs_mul]; rfl
theorem sgn_mul (a b : Int) (ha : b ≠ 0) : sgn (decide (a < 0) != decide (b < 0)) (size (a * b)) = a * b := by
  unfold sgn size
  rcases Int.lt_trichotomy a 0 with h | h | h
  · rcases Int.lt_trichotomy b 0 with g | g | g
    · have := Int.mul_pos_of_neg_of_neg h g
      simp [h, g, Int.not_lt.2 (Int.le_of_lt this)]
    · exact absurd g ha
    · have := Int.mul_neg_of_neg_of_pos h g
      simp [h, Int.not_lt.2 (Int.le_of_lt g), this]
  · subst h; simp
  · rcases Int.lt_trichotomy b 0 with g | g | g
    · have := Int.mul_neg_of_pos_of_neg h g
      simp [g, Int.not_lt.2 (Int.le_of_lt h), this]
    · exact absurd g ha
    · have := Int.mul_pos h g
      simp [Int.not_lt.2 (Int.le_of_lt h), Int.not_lt.2 (Int.le_of_lt g), Int.not_lt.2 (Int.le_of_lt this)]
theorem sgn_mul' (a b : Int) : sgn (decide (a < 0) != decide (b < 0)) (size (a * b)) = a * b := by
  by_cases h : b = 0
  · subst h; simp [sgn, size]
  · exact sgn_mul a b h
theorem sgn_tdiv (a b : Int) (hb : b ≠ 0) : sgn (decide (a < 0) != decide (b < 0)) (size a / size b) = a.tdiv b := by
  unfold sgn size
  by_cases h : a < 0 <;> by_cases g : b < 0
  · simp only [h, g, decide_true, bne_self_eq_false, if_true, Bool.false_eq_true, if_false]
    rw [← Int.neg_tdiv_neg, Int.tdiv_eq_ediv_of_nonneg (by omega)]
  · simp only [h, g, decide_true, decide_false, if_true, if_false]
    have : a.tdiv b = -((-a).tdiv b) := by rw [Int.neg_tdiv]; omega
    rw [this, Int.tdiv_eq_ediv_of_nonneg (by omega)]
    rfl
  · simp only [h, g, decide_true, decide_false, if_true, if_false]
    have : a.tdiv b = -(a.tdiv (-b)) := by rw [Int.tdiv_neg]; omega
    rw [this, Int.tdiv_eq_ediv_of_nonneg (by omega)]
    rfl
  · simp only [h, g, decide_false, bne_self_eq_false, Bool.false_eq_true, if_false]
    rw [Int.tdiv_eq_ediv_of_nonneg (by omega)]
theorem size_pos {b : Int} (hb : b ≠ 0) : 1 ≤ size b := by unfold size; split <;> omega
end In

set_option maxHeartbeats 400000 in
theorem multiply_any (a b : Int) (w : World) (ha : In.ok a) (hb : In.ok b) :
    Calls Tryd.prog 54 #[.int .i64 a, .int .i64 b] w fun e w' => e = .returned (.tuple #[.int .i64 (In.fit (a * b)).1, .int .i64 (In.fit (a * b)).2]) ∧ w = w' := by
  have s1 := fun w => size_any a w ha
  have s2 := fun w => size_any b w hb
  have m1 := fun w => mul64 (In.size a) (In.size b) w (In.size_lo a) (by have := In.size_hi ha; omega) (In.size_lo b) (by have := In.size_hi hb; omega)
  rw [In.size_mul] at m1
  have hsg := In.sgn_mul' a b
  have hlo := In.size_lo (a * b)
  obtain ⟨p, hp⟩ : ∃ p, p = a * b := ⟨_, rfl⟩
  rw [← hp] at m1 hsg hlo ⊢
  obtain ⟨x, hx⟩ : ∃ x, x = In.size a := ⟨_, rfl⟩
  obtain ⟨y, hy⟩ : ∃ y, y = In.size b := ⟨_, rfl⟩
  rw [← hx] at s1 m1
  rw [← hy] at s2 m1
  have S1 := Lib.hid s1
  have S2 := Lib.hid s2
  clear s1 s2 hx hy hp
  by_cases hz : In.size p / 18446744073709551616 = 0
  · have hm : In.size p % 18446744073709551616 = In.size p := by omega
    rw [hz, hm] at m1
    have M1 := Lib.hid m1
    have g1 := fun w => signed_any (decide (a < 0) != decide (b < 0)) (In.size p) w hlo (by omega)
    rw [hsg] at g1
    obtain ⟨q, hq⟩ : ∃ q, q = In.size p := ⟨_, rfl⟩
    rw [← hq] at M1 g1
    have G1 := Lib.hid g1
    clear m1 g1 hq hz hm hlo hsg ha hb
    go_enter Tryd.func54, Tryd.ntmps54
    go_wp2_with fail
    refine (S1.out _).mono ?_
    rintro e w1 ⟨rfl, rfl⟩
    go_wp2_with fail
    refine (S2.out _).mono ?_
    rintro e w1 ⟨rfl, rfl⟩
    go_wp2_with fail
    refine (M1.out _).mono ?_
    rintro e w1 ⟨rfl, rfl⟩
    go_wp2_with fail
    refine (G1.out _).mono ?_
    rintro e w1 ⟨rfl, rfl⟩
    go_wp2_with fail
    go_ret2
    exact ⟨rfl, rfl⟩
  · have hno : ¬ In.ok p := by
      unfold In.ok
      have := In.size_nat p
      omega
    rw [In.fit_no hno]
    obtain ⟨h, hh⟩ : ∃ h, h = In.size p / 18446744073709551616 := ⟨_, rfl⟩
    obtain ⟨l, hl⟩ : ∃ l, l = In.size p % 18446744073709551616 := ⟨_, rfl⟩
    rw [← hh, ← hl] at m1
    rw [← hh] at hz
    have M1 := Lib.hid m1
    have hz' : (h == 0) = false := by simpa using hz
    clear m1 hno hh hl hlo hsg ha hb
    go_enter Tryd.func54, Tryd.ntmps54
    go_wp2_with fail
    refine (S1.out _).mono ?_
    rintro e w1 ⟨rfl, rfl⟩
    go_wp2_with fail
    refine (S2.out _).mono ?_
    rintro e w1 ⟨rfl, rfl⟩
    go_wp2_with fail
    refine (M1.out _).mono ?_
    rintro e w1 ⟨rfl, rfl⟩
    go_wp2_with fail
    go_ret2
    exact ⟨rfl, rfl⟩

set_option maxHeartbeats 400000 in
theorem quotient_any (a b : Int) (w : World) (ha : In.ok a) (hb : In.ok b) (hb0 : b ≠ 0) :
    Calls Tryd.prog 56 #[.int .i64 a, .int .i64 b] w fun e w' => e = .returned (.tuple #[.int .i64 (In.fit (a.tdiv b)).1, .int .i64 (In.fit (a.tdiv b)).2]) ∧ w = w' := by
  have s1 := fun w => size_any a w ha
  have s2 := fun w => size_any b w hb
  have hl := In.size_lo a
  have hh := In.size_hi ha
  have hy1 := In.size_pos hb0
  have hq0 : 0 ≤ In.size a / In.size b := Int.ediv_nonneg hl (by omega)
  have hq1 : In.size a / In.size b ≤ In.size a := Int.ediv_le_self _ hl
  have g1 := fun w => signed_any (decide (a < 0) != decide (b < 0)) (In.size a / In.size b) w hq0 (by omega)
  rw [In.sgn_tdiv a b hb0] at g1
  obtain ⟨x, hx⟩ : ∃ x, x = In.size a := ⟨_, rfl⟩
  obtain ⟨y, hy⟩ : ∃ y, y = In.size b := ⟨_, rfl⟩
  rw [← hx] at s1 g1 hl hh
  rw [← hy] at s2 g1 hy1
  have S1 := Lib.hid s1
  have S2 := Lib.hid s2
  have G1 := Lib.hid g1
  have hy2 : (y == 0) = false := by simp; omega
  clear s1 s2 g1 hx hy hq0 hq1 ha hb hb0
  go_enter Tryd.func56, Tryd.ntmps56
  go_wp2_with fail
  refine (S1.out _).mono ?_
  rintro e w1 ⟨rfl, rfl⟩
  go_wp2_with fail
  refine (S2.out _).mono ?_
  rintro e w1 ⟨rfl, rfl⟩
  go_wp2_with fail
  refine (G1.out _).mono ?_
  rintro e w1 ⟨rfl, rfl⟩
  go_wp2_with fail
  go_ret2
  exact ⟨rfl, rfl⟩
end Go.Proofs.YtlajghpikilkgaaDoor
