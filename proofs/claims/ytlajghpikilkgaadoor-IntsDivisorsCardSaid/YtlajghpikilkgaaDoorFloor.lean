/-
  The remainders, the quotient rounded down, the left shift and the powers below 0 of package ints.
-/
import Derived.Test.YtlajghpikilkgaaDoorMul
import Derived.Test.YtlajghpikilkgaaDoorDivs
import Derived.Deep.QuietTactic
import Derived.BigQuiet
import Derived.IntWalk
namespace Go.Proofs.YtlajghpikilkgaaDoor
set_option linter.unusedVariables false
set_option linter.unusedSimpArgs false
open Go.RowKit

set_option maxHeartbeats 400000 in
theorem modulus_any (a b : Int) (w : World) (ha : In.ok a) (hb : In.ok b) (hb0 : b ≠ 0) :
    Calls Tryd.prog 60 #[.int .i64 a, .int .i64 b] w fun e w' => e = .returned (.int .i64 (a.fmod b)) ∧ w' = w := by
  have hab := In.tmod_abs a b hb0
  go_enter Tryd.func60, Tryd.ntmps60
  go_wp2_with fail
  · have h : a.tmod b = 0 := by assumption
    go_ret
    exact ⟨ret_int (by rw [(In.floor_same hb0 (.inl h)).1, h]), rfl⟩
  · have h : (a.tmod b != 0) = true ∧ (!decide (a.tmod b < 0) == decide (b < 0)) = true := by assumption
    have h0 : a.tmod b ≠ 0 := by simpa using h.1
    have h1 : ¬ (a.tmod b < 0 ↔ b < 0) := by
      have := h.2
      by_cases g : a.tmod b < 0 <;> by_cases g' : b < 0 <;> simp [g, g'] at this ⊢
    clear h
    go_ret
    refine ⟨ret_int ?_, rfl⟩
    rw [(In.floor_other hb0 h0 h1).1]
    unfold In.ok at *
    unfold wrap64
    omega
  · have h : (a.tmod b != 0) = false ∨ (!decide (a.tmod b < 0) == decide (b < 0)) = false := by assumption
    have h1 : a.tmod b = 0 ∨ (a.tmod b < 0 ↔ b < 0) := by
      rcases h with h | h
      · exact .inl (by simpa using h)
      · refine .inr ?_
        by_cases g : a.tmod b < 0 <;> by_cases g' : b < 0 <;> simp [g, g'] at h ⊢
    clear h
    go_ret
    exact ⟨ret_int (by rw [(In.floor_same hb0 h1).1]), rfl⟩

set_option maxHeartbeats 400000 in
theorem floorQuotient_any (a b : Int) (w : World) (ha : In.ok a) (hb : In.ok b) (hb0 : b ≠ 0) :
    Calls Tryd.prog 59 #[.int .i64 a, .int .i64 b] w fun e w' => e = .returned (.tuple #[.int .i64 (In.fit (a.fdiv b)).1, .int .i64 (In.fit (a.fdiv b)).2]) ∧ ∃ q, w' = w.drewN q := by
  have q1 := fun w => quotient_any a b w ha hb hb0
  have m1 := fun w => modulus_any a b w ha hb hb0
  have Q1 := Lib.hid q1
  have M1 := Lib.hid m1
  clear q1 m1
  obtain ⟨v, hv⟩ : ∃ v, v = (In.fit (a.tdiv b)).1 := ⟨_, rfl⟩
  obtain ⟨k, hk⟩ : ∃ k, k = (In.fit (a.tdiv b)).2 := ⟨_, rfl⟩
  rw [← hv, ← hk] at Q1
  have hb1 : (b == 0) = false := by simpa using hb0
  have hwr : IntKind.i64.wrap (a.tmod b) = a.tmod b := IntWalk.i64_in _ (In.tmod_ok hb hb0)
  have HV := Lib.hid hv
  have HK := Lib.hid hk
  have HA := Lib.hid ha
  have HB := Lib.hid hb
  clear hv hk ha hb
  go_enter Tryd.func59, Tryd.ntmps59
  go_wp2_with fail
  refine (Q1.out _).mono ?_
  rintro e w1 ⟨rfl, rfl⟩
  go_wp2_with fail
  go_quiet ((go_at_call 60; exact Calls.quiet_of_same (M1.out _)))
  go_wp2_with fail
  · have h : (a.tmod b != a.fmod b) = true := by assumption
    have he : a.tmod b ≠ a.fmod b := by simpa using h
    have hs : ¬ (a.tmod b = 0 ∨ (a.tmod b < 0 ↔ b < 0)) := fun hs => he (In.floor_same hb0 hs).1.symm
    clear h
    go_ret2
    have hno : ¬ (a = -9223372036854775808 ∧ b = -1) := by
      rintro ⟨rfl, rfl⟩
      exact hs (.inl In.tmod_over)
    have o1 := In.tdiv_ok HA.out hb0 hno
    have o2 := In.fdiv_ok HA.out hb0 hno
    have e2 := (In.floor_other hb0 (fun e => hs (.inl e)) (fun e => hs (.inr e))).2
    have o3 := o2
    rw [e2] at o3
    exact ⟨ret_two (a := wrap64 (v - 1)) (c := k) (by rw [HV.out, In.fit_yes o1, In.fit_yes o2, e2]; unfold In.ok at o3; unfold wrap64; simp only; omega) (by rw [HK.out, In.fit_yes o1, In.fit_yes o2]), _, rfl⟩
  · have h : (a.tmod b != a.fmod b) = false := by assumption
    have he : a.tmod b = a.fmod b := by simpa using h
    have hs : a.tmod b = 0 ∨ (a.tmod b < 0 ↔ b < 0) := by
      by_cases h0 : a.tmod b = 0
      · exact .inl h0
      · by_cases h1 : a.tmod b < 0 ↔ b < 0
        · exact .inr h1
        · have := (In.floor_other hb0 h0 h1).1
          omega
    clear h
    go_ret2
    exact ⟨ret_two (a := v) (c := k) (by rw [(In.floor_same hb0 hs).2, HV.out]) (by rw [(In.floor_same hb0 hs).2, HK.out]), _, rfl⟩

namespace In
theorem wrap_shl {a : Int} {k : Nat} (hk : k ≤ 63) (h : wrap64 (a * 2 ^ k) / 2 ^ k = a) : ok (a * 2 ^ k) := by
  obtain ⟨j, hj⟩ : ∃ j, wrap64 (a * 2 ^ k) = a * 2 ^ k - 18446744073709551616 * j := ⟨(a * 2 ^ k + 9223372036854775808) / 18446744073709551616, by unfold wrap64; omega⟩
  have hp := two_pow_pos k
  have hq := two_pow_pos (64 - k)
  have e : (18446744073709551616 : Int) = 2 ^ k * 2 ^ (64 - k) := by
    rw [← Int.pow_add, show k + (64 - k) = 64 by omega]; rfl
  have hm : wrap64 (a * 2 ^ k) = 2 ^ k * (a - 2 ^ (64 - k) * j) := by
    rw [hj, e, Int.mul_sub, Int.mul_comm a, Int.mul_assoc]
  rw [hm, Int.mul_ediv_cancel_left _ (by omega)] at h
  have hz : 2 ^ (64 - k) * j = 0 := by omega
  have hj0 : j = 0 := by
    rcases Int.mul_eq_zero.1 hz with g | g
    · omega
    · exact g
  rw [hj0] at hj
  have hw : -9223372036854775808 ≤ wrap64 (a * 2 ^ k) ∧ wrap64 (a * 2 ^ k) ≤ 9223372036854775807 := by unfold wrap64; omega
  unfold ok
  omega
theorem wrap_shl' {a : Int} {k : Nat} (h : ok (a * 2 ^ k)) : wrap64 (a * 2 ^ k) = a * 2 ^ k ∧ wrap64 (a * 2 ^ k) / 2 ^ k = a := by
  have hp := two_pow_pos k
  have e : wrap64 (a * 2 ^ k) = a * 2 ^ k := by unfold ok at h; unfold wrap64; omega
  refine ⟨e, ?_⟩
  rw [e, Int.mul_ediv_cancel _ (by omega)]
end In

set_option maxHeartbeats 400000 in
theorem shiftLeft_any (a b : Int) (w : World) (ha : In.ok a) (h0 : 0 ≤ b) (h1 : b ≤ 63) :
    Calls Tryd.prog 65 #[.int .i64 a, .int .i64 b] w fun e w' => e = .returned (.tuple #[.int .i64 (In.fit (a * 2 ^ b.toNat)).1, .int .i64 (In.fit (a * 2 ^ b.toNat)).2]) ∧ w = w' := by
  go_enter Tryd.func65, Tryd.ntmps65
  go_wp2_with fail
  · have h : (wrap64 (a * 2 ^ b.toNat) / 2 ^ b.toNat != a) = true := by assumption
    have hn : ¬ In.ok (a * 2 ^ b.toNat) := fun ho => by simp [(In.wrap_shl' ho).2] at h
    clear h
    rw [In.fit_no hn]
    go_ret2
    exact ⟨rfl, rfl⟩
  · have h : (wrap64 (a * 2 ^ b.toNat) / 2 ^ b.toNat != a) = false := by assumption
    have hy : In.ok (a * 2 ^ b.toNat) := In.wrap_shl (by omega) (by simpa using h)
    clear h
    rw [In.fit_yes hy]
    go_ret2
    exact ⟨ret_two (In.wrap_shl' hy).1 rfl, rfl⟩

set_option maxHeartbeats 400000 in
theorem inverse_any (a b : Int) (w : World) (hb : b < 0) :
    Calls Tryd.prog 80 #[.int .i64 a, .int .i64 b] w fun e w' => e = .returned (.tuple #[.int .i64 (In.inv a b).1, .int .i64 (In.inv a b).2]) ∧ w = w' := by
  unfold In.inv
  by_cases h0 : a = 0
  · subst h0
    go_enter Tryd.func80, Tryd.ntmps80
    go_wp2_with fail
    go_ret2
    exact ⟨rfl, rfl⟩
  · by_cases h1 : a = 1
    · subst h1
      go_enter Tryd.func80, Tryd.ntmps80
      go_wp2_with fail
      go_ret2
      exact ⟨rfl, rfl⟩
    · by_cases h2 : a = -1
      · subst h2
        have ht : b.tmod 2 = 0 ↔ b % 2 = 0 := ⟨fun h => Int.emod_eq_zero_of_dvd (Int.dvd_of_tmod_eq_zero h), fun h => Int.tmod_eq_zero_of_dvd (Int.dvd_of_emod_eq_zero h)⟩
        by_cases hp : b % 2 = 0
        · rw [if_neg h0, if_neg h1, if_pos rfl, if_pos hp]
          have hq : b.tmod 2 = 0 := ht.2 hp
          clear ht hp
          go_enter Tryd.func80, Tryd.ntmps80
          go_wp2_with fail
          go_ret2
          exact ⟨rfl, rfl⟩
        · rw [if_neg h0, if_neg h1, if_pos rfl, if_neg hp]
          have hq : (b.tmod 2 == 0) = false := by simpa [ht] using hp
          clear ht hp
          go_enter Tryd.func80, Tryd.ntmps80
          go_wp2_with fail
          go_ret2
          exact ⟨rfl, rfl⟩
      · rw [if_neg h0, if_neg h1, if_neg h2]
        have g0 : (a == 0) = false := by simpa using h0
        have g1 : (a == 1) = false := by simpa using h1
        have g2 : (a == -1) = false := by simpa using h2
        clear h0 h1 h2
        go_enter Tryd.func80, Tryd.ntmps80
        go_wp2_with fail
        go_ret2
        exact ⟨rfl, rfl⟩
end Go.Proofs.YtlajghpikilkgaaDoor
