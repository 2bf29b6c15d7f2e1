/-
  PLAIN MATHEMATICS: the two divisions, shifts and powers of integers of the range. No program in sight.
-/
import Derived.Test.YtlajghpikilkgaaDoorPlain
namespace Go.Proofs.YtlajghpikilkgaaDoor
set_option linter.unusedVariables false
set_option linter.unusedSimpArgs false
namespace In

theorem tmod_sign (a b : Int) : (0 ≤ a → 0 ≤ a.tmod b) ∧ (a ≤ 0 → a.tmod b ≤ 0) := by
  refine ⟨fun h => Int.tmod_nonneg _ h, fun h => ?_⟩
  have := Int.tmod_nonneg (a := -a) b (by omega)
  rw [Int.neg_tmod] at this
  omega
theorem tmod_abs (a b : Int) (hb : b ≠ 0) : (a.tmod b).natAbs < b.natAbs := by
  rw [Int.natAbs_tmod]
  exact Nat.mod_lt _ (by omega)
theorem tmod_ok {a b : Int} (hb : ok b) (hb0 : b ≠ 0) : ok (a.tmod b) := by
  have := tmod_abs a b hb0
  unfold ok at *
  omega

/-- The remainder's sign is the divisor's, or it is 0: the divisions are one; else they differ by one. -/
theorem floor_same {a b : Int} (hb0 : b ≠ 0) (h : a.tmod b = 0 ∨ (a.tmod b < 0 ↔ b < 0)) : a.fmod b = a.tmod b ∧ a.fdiv b = a.tdiv b := by
  have hs := tmod_sign a b
  rw [Int.fmod_eq_tmod, Int.fdiv_eq_tdiv]
  by_cases hd : b ∣ a
  · simp [hd]
  · have ht : a.tmod b ≠ 0 := fun e => hd (Int.dvd_of_tmod_eq_zero e)
    have hi : a.tmod b < 0 ↔ b < 0 := h.resolve_left ht
    by_cases ha : 0 ≤ a
    · have hb : 0 ≤ b := by have := hs.1 ha; omega
      simp [hd, ha, hb]
    · have hb : ¬ 0 ≤ b := by have := hs.2 (by omega); omega
      have hz : b.toNat = 0 := by omega
      have hg : b.sign = -1 := Int.sign_eq_neg_one_of_neg (by omega)
      simp [hd, ha, hb, hz, hg]
theorem floor_other {a b : Int} (hb0 : b ≠ 0) (h0 : a.tmod b ≠ 0) (h : ¬ (a.tmod b < 0 ↔ b < 0)) : a.fmod b = a.tmod b + b ∧ a.fdiv b = a.tdiv b - 1 := by
  have hs := tmod_sign a b
  rw [Int.fmod_eq_tmod, Int.fdiv_eq_tdiv]
  have hd : ¬ b ∣ a := fun e => h0 (Int.tmod_eq_zero_of_dvd e)
  by_cases ha : 0 ≤ a
  · have hb : ¬ 0 ≤ b := by have := hs.1 ha; omega
    simp [hd, ha, hb]
  · have hb : 0 ≤ b := by have := hs.2 (by omega); omega
    have hg : b.sign = 1 := Int.sign_eq_one_of_pos (by omega)
    have hn : (b.natAbs : Int) = b := by omega
    rw [if_neg hd, if_neg hd, if_neg ha, if_neg ha, if_pos hb, if_pos hb, hg, hn]
    exact ⟨rfl, rfl⟩
theorem fmod_ok {a b : Int} (hb : ok b) (hb0 : b ≠ 0) : ok (a.fmod b) := by
  have ht := tmod_abs a b hb0
  by_cases h : a.tmod b = 0 ∨ (a.tmod b < 0 ↔ b < 0)
  · rw [(floor_same hb0 h).1]; exact tmod_ok hb hb0
  · rw [(floor_other hb0 (fun e => h (.inl e)) (fun e => h (.inr e))).1]
    have := fun e => h (.inr e)
    unfold ok at *
    omega
/-- The quotient overflows for one pair alone. -/
theorem tdiv_ok {a b : Int} (ha : ok a) (hb0 : b ≠ 0) (h : ¬ (a = -9223372036854775808 ∧ b = -1)) : ok (a.tdiv b) := by
  by_cases h1 : a.natAbs ≤ 9223372036854775807
  · have := Int.natAbs_tdiv_le_natAbs a b
    unfold ok; omega
  · have ha' : a = -9223372036854775808 := by unfold ok at ha; omega
    by_cases h2 : b = 1
    · subst h2; rw [Int.tdiv_one]; exact ha
    · have hb2 : 2 ≤ b.natAbs := by omega
      have e : (a.tdiv b).natAbs = a.natAbs / b.natAbs := Int.natAbs_tdiv a b
      have h3 : a.natAbs / b.natAbs ≤ a.natAbs / 2 := Nat.div_le_div_left hb2 (by decide)
      unfold ok; omega
theorem tdiv_over : ¬ ok ((-9223372036854775808 : Int).tdiv (-1)) := by decide
theorem tmod_over : (-9223372036854775808 : Int).tmod (-1) = 0 := by decide
/-- Where the divisions differ the quotient lies within the range, and so does the one below it. -/
theorem fdiv_ok {a b : Int} (ha : ok a) (hb0 : b ≠ 0) (h : ¬ (a = -9223372036854775808 ∧ b = -1)) : ok (a.fdiv b) := by
  by_cases hs : a.tmod b = 0 ∨ (a.tmod b < 0 ↔ b < 0)
  · rw [(floor_same hb0 hs).2]; exact tdiv_ok ha hb0 h
  · have h0 : a.tmod b ≠ 0 := fun e => hs (.inl e)
    rw [(floor_other hb0 h0 (fun e => hs (.inr e))).2]
    by_cases h2 : 2 ≤ b.natAbs
    · have e : (a.tdiv b).natAbs = a.natAbs / b.natAbs := Int.natAbs_tdiv a b
      have h3 : a.natAbs / b.natAbs ≤ a.natAbs / 2 := Nat.div_le_div_left h2 (by decide)
      unfold ok at *; omega
    · exfalso
      have hb1 : b = 1 ∨ b = -1 := by omega
      rcases hb1 with rfl | rfl
      · exact h0 (Int.tmod_one a)
      · exact h0 (by rw [Int.tmod_neg]; exact Int.tmod_one a)
theorem fdiv_over : (-9223372036854775808 : Int).fdiv (-1) = (-9223372036854775808 : Int).tdiv (-1) := by decide

/-! ### powers -/
theorem not_ok_abs {z : Int} (h : ¬ ok z) : 9223372036854775808 ≤ z.natAbs := by unfold ok at h; omega
theorem big_not_ok {z : Int} (h : 9223372036854775808 < z.natAbs) : ¬ ok z := by unfold ok; omega
theorem abs_pow (a : Int) (n : Nat) : (a ^ n).natAbs = a.natAbs ^ n := Int.natAbs_pow a n
theorem no_root (r : Nat) : r * r ≠ 9223372036854775808 := by
  intro h
  rcases Nat.lt_or_ge r 3037000500 with g | g
  · have : r * r ≤ 3037000499 * 3037000499 := Nat.mul_le_mul (by omega) (by omega)
    omega
  · have : 3037000500 * 3037000500 ≤ r * r := Nat.mul_le_mul g g
    omega
theorem pow_split (a : Int) (n : Nat) : a ^ n = a ^ (n / 2) * a ^ (n / 2) * (if n % 2 = 0 then 1 else a) := by
  rw [← Int.pow_add]
  split
  · rw [Int.mul_one]; congr 1; omega
  · rw [← Int.pow_succ]; congr 1; omega
/-- A root that overflows makes the power overflow. -/
theorem root_over {a : Int} {n : Nat} (hn : 0 < n) (h : ¬ ok (a ^ (n / 2))) : ¬ ok (a ^ n) := by
  have h1 := not_ok_abs h
  refine big_not_ok ?_
  rw [abs_pow] at h1 ⊢
  have ha : 1 ≤ a.natAbs := by
    rcases Nat.eq_zero_or_pos a.natAbs with e | e
    · rw [e] at h1
      rcases Nat.eq_zero_or_pos (n / 2) with g | g
      · rw [g] at h1; simp at h1
      · rw [Nat.zero_pow g] at h1; simp at h1
    · exact e
  have h2 : a.natAbs ^ (n / 2 + n / 2) ≤ a.natAbs ^ n := Nat.pow_le_pow_right ha (by omega)
  rw [Nat.pow_add] at h2
  have h3 := Nat.mul_le_mul h1 h1
  omega
/-- A square that overflows makes the power overflow: no square is 2^63. -/
theorem square_over {a : Int} {n : Nat} (hn : 0 < n) (h : ¬ ok (a ^ (n / 2) * a ^ (n / 2))) : ¬ ok (a ^ n) := by
  have h1 := not_ok_abs h
  refine big_not_ok ?_
  rw [Int.natAbs_mul, abs_pow] at h1
  rw [abs_pow]
  have hne := no_root (a.natAbs ^ (n / 2))
  have ha : 1 ≤ a.natAbs := by
    rcases Nat.eq_zero_or_pos a.natAbs with e | e
    · rw [e] at h1
      rcases Nat.eq_zero_or_pos (n / 2) with g | g
      · rw [g] at h1; simp at h1
      · rw [Nat.zero_pow g] at h1; simp at h1
    · exact e
  have h2 : a.natAbs ^ (n / 2 + n / 2) ≤ a.natAbs ^ n := Nat.pow_le_pow_right ha (by omega)
  rw [Nat.pow_add] at h2
  omega

/-! ### shifts -/
theorem two_pow_pos (k : Nat) : (0 : Int) < 2 ^ k := Int.pow_pos (by decide)
end In
end Go.Proofs.YtlajghpikilkgaaDoor
