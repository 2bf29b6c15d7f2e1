/-
  The reference's powers, divisors and shifts.
-/
import Derived.Test.YtlajghpikilkgaaDoorRefDiv
namespace Go.Proofs.YtlajghpikilkgaaDoor
set_option linter.unusedVariables false
set_option linter.unusedSimpArgs false
open Go.RowKit

namespace In
theorem pow_one (b : Int) : pow 1 b = (1, 0) := by
  unfold pow
  split
  · rfl
  · rw [Int.one_pow]; rfl
theorem pow_zero_exp (a : Int) : pow a 0 = (1, 0) := by
  unfold pow
  rw [if_neg (by decide), show (0 : Int).toNat = 0 from rfl, Int.pow_zero]; rfl
theorem neg_one_pow (n : Nat) : (-1 : Int) ^ n = if n % 2 = 0 then 1 else -1 := by
  induction n with
  | zero => rfl
  | succ n ih =>
    rw [Int.pow_succ, ih]
    by_cases h : n % 2 = 0
    · rw [if_pos h, if_neg (by omega)]; rfl
    · rw [if_neg h, if_pos (by omega)]; rfl
theorem pow_neg_one (b : Int) : pow (-1) b = (if b % 2 = 0 then 1 else -1, 0) := by
  unfold pow
  split
  · unfold inv
    rw [if_neg (by decide), if_neg (by decide), if_pos rfl]
    split <;> rfl
  · rw [neg_one_pow]
    by_cases h : b % 2 = 0
    · rw [if_pos (by omega), if_pos h]; rfl
    · rw [if_neg (by omega), if_neg h]; rfl
theorem pow_zero_base {b : Int} (h : 0 < b) : pow 0 b = (0, 0) := by
  unfold pow
  rw [if_neg (by omega), Int.zero_pow (by omega)]; rfl
/-- Once a power overflows the later ones do. -/
theorem pow_over {a : Int} {i n : Nat} (h2 : 2 ≤ a.natAbs) (hin : i ≤ n) (h : ¬ ok (a ^ i)) : ¬ ok (a ^ n) := by
  rcases Nat.eq_or_lt_of_le hin with rfl | hlt
  · exact h
  · have h1 := not_ok_abs h
    refine big_not_ok ?_
    rw [abs_pow] at h1 ⊢
    have h3 : a.natAbs ^ (i + 1) ≤ a.natAbs ^ n := Nat.pow_le_pow_right (by omega) hlt
    rw [Nat.pow_succ] at h3
    have h4 : a.natAbs ^ i * 2 ≤ a.natAbs ^ i * a.natAbs := Nat.mul_le_mul_left _ h2
    omega
theorem shl_over {a : Int} {i n : Nat} (hin : i ≤ n) (h : ¬ ok (a * 2 ^ i)) : ¬ ok (a * 2 ^ n) := by
  obtain ⟨k, rfl⟩ : ∃ k, n = i + k := ⟨n - i, by omega⟩
  rw [Int.pow_add, ← Int.mul_assoc]
  have hp := two_pow_pos k
  obtain ⟨x, hx⟩ : ∃ x, x = a * 2 ^ i := ⟨_, rfl⟩
  rw [← hx] at h ⊢
  obtain ⟨y, hy⟩ : ∃ y : Int, y = 2 ^ k := ⟨_, rfl⟩
  rw [← hy] at hp ⊢
  unfold ok at *
  rcases Int.lt_or_le x 0 with hx0 | hx0
  · have : x * y ≤ x * 1 := Int.mul_le_mul_of_nonpos_left (by omega) (by omega)
    omega
  · have : x * 1 ≤ x * y := Int.mul_le_mul_of_nonneg_left (by omega) hx0
    omega
theorem fdiv_two (a : Int) : a.fdiv 2 = a / 2 := Int.fdiv_eq_ediv_of_nonneg a (by decide)
theorem shr_step (a : Int) (i : Nat) : a / 2 ^ (i + 1) = a / 2 ^ i / 2 := by
  rw [Int.pow_succ, Int.ediv_ediv_of_nonneg (Int.le_of_lt (two_pow_pos i))]
theorem shr_ok {a : Int} (i : Nat) (h : ok a) : ok (a / 2 ^ i) := by
  induction i with
  | zero => rw [Int.pow_zero, Int.ediv_one]; exact h
  | succ i ih => rw [shr_step]; unfold ok at *; omega
end In

set_option maxHeartbeats 2000000 in
set_option maxRecDepth 100000 in
theorem refPower_any (a b : Int) (w : World) (ha : In.ok a) (hb : In.ok b) :
    Calls Tryd.prog 33 #[.int .i64 a, .int .i64 b] w fun e w' => e = .returned (.tuple #[.int .i64 (In.pow a b).1, .int .i64 (In.pow a b).2]) ∧ w = w' := by
  by_cases a1 : a = 1
  · subst a1
    rw [In.pow_one]
    clear ha hb
    go_enter Tryd.func33, Tryd.ntmps33
    go_wp2_with fail
    go_ret2
    exact ⟨rfl, rfl⟩
  have a1' : (a == 1) = false := by simpa using a1
  by_cases b0 : b = 0
  · subst b0
    rw [In.pow_zero_exp]
    clear ha hb a1
    go_enter Tryd.func33, Tryd.ntmps33
    go_wp2_with fail
    go_ret2
    exact ⟨rfl, rfl⟩
  have b0' : (b == 0) = false := by simpa using b0
  by_cases a2 : a = -1
  · subst a2
    rw [In.pow_neg_one]
    have ht : b.tmod 2 = 0 ↔ b % 2 = 0 := ⟨fun h => Int.emod_eq_zero_of_dvd (Int.dvd_of_tmod_eq_zero h), fun h => Int.tmod_eq_zero_of_dvd (Int.dvd_of_emod_eq_zero h)⟩
    by_cases hp : b % 2 = 0
    · rw [if_pos hp]
      have hq : b.tmod 2 = 0 := ht.2 hp
      clear ht hp ha hb b0 a1 a1'
      go_enter Tryd.func33, Tryd.ntmps33
      go_wp2_with fail
      go_ret2
      exact ⟨rfl, rfl⟩
    · rw [if_neg hp]
      have hq : (b.tmod 2 == 0) = false := by simpa [ht] using hp
      clear ht hp ha hb b0 a1 a1'
      go_enter Tryd.func33, Tryd.ntmps33
      go_wp2_with fail
      go_ret2
      exact ⟨rfl, rfl⟩
  have a2' : (a == -1) = false := by simpa using a2
  by_cases hn : b < 0
  · rw [show In.pow a b = In.inv a b from if_pos hn]
    by_cases a0 : a = 0
    · subst a0
      rw [show In.inv 0 b = (0, 11) from if_pos rfl]
      clear ha hb b0 a1 a2
      go_enter Tryd.func33, Tryd.ntmps33
      go_wp2_with fail
      go_ret2
      exact ⟨rfl, rfl⟩
    · have a0' : (a == 0) = false := by simpa using a0
      rw [show In.inv a b = (0, 12) from by unfold In.inv; rw [if_neg a0, if_neg a1, if_neg a2]]
      clear ha hb b0 a1 a2 a0
      go_enter Tryd.func33, Tryd.ntmps33
      go_wp2_with fail
      go_ret2
      exact ⟨rfl, rfl⟩
  have hn' : 0 < b := by omega
  by_cases a0 : a = 0
  · subst a0
    rw [In.pow_zero_base hn']
    clear ha hb b0 a1 a2 hn
    go_enter Tryd.func33, Tryd.ntmps33
    go_wp2_with fail
    go_ret2
    exact ⟨rfl, rfl⟩
  have a0' : (a == 0) = false := by simpa using a0
  have hp : In.pow a b = In.fit (a ^ b.toNat) := if_neg (by omega)
  rw [hp]
  have h2 : 2 ≤ a.natAbs := by omega
  obtain ⟨n, rfl⟩ := Int.eq_ofNat_of_zero_le (Int.le_of_lt hn')
  rw [show ((n : Int)).toNat = n from rfl]
  have hn0 : 0 < n := by omega
  have hnm : n ≤ 9223372036854775807 := by unfold In.ok at hb; omega
  have HA := Lib.hid ha
  clear ha hb b0 a1 a2 hn a0 hp hn'
  go_enter Tryd.func33, Tryd.ntmps33
  go_wp2_with fail
  go_loop [6, 7] (fun p i => ∃ k : Nat, k ≤ n ∧ In.ok (a ^ k) ∧ p = .int .i64 (a ^ k) ∧ i = .int .i64 k) (fun _ i => n - (Lib.intOf i).toNat)
  case atStart => exact ⟨0, Nat.zero_le _, by rw [Int.pow_zero]; decide, by rw [Int.pow_zero], rfl⟩
  case round =>
    obtain ⟨k, hk, hok, rfl, rfl⟩ := hrel
    by_cases hlt : k < n
    · have c1 := fun w => refMul_any (a ^ k) a w hok HA.out
      rw [← Int.pow_succ] at c1
      by_cases hs : In.ok (a ^ (k + 1))
      · rw [In.fit_yes hs] at c1
        obtain ⟨p, hp⟩ : ∃ p, p = a ^ k := ⟨_, rfl⟩
        obtain ⟨p1, hp1⟩ : ∃ p, p = a ^ (k + 1) := ⟨_, rfl⟩
        rw [← hp, ← hp1] at c1
        rw [← hp]
        have C1 := Lib.hid c1
        have HP := Lib.hid hp1
        have HS := Lib.hid hs
        clear c1 hp hp1 hs hok
        go_wp2_with fail
        refine (C1.out _).mono ?_
        rintro e w1 ⟨rfl, rfl⟩
        go_wp2_with fail
        go_round
        case rel => exact ⟨k + 1, by omega, HS.out, by rw [HP.out], by go_num⟩
        case measure => simp [Lib.intOf]; omega
      · rw [In.fit_no hs] at c1
        have hno := In.pow_over h2 (show k + 1 ≤ n by omega) hs
        have HN := Lib.hid hno
        obtain ⟨p, hp⟩ : ∃ p, p = a ^ k := ⟨_, rfl⟩
        rw [← hp] at c1
        rw [← hp]
        have C1 := Lib.hid c1
        clear c1 hp hs hok hno
        go_wp2_with fail
        refine (C1.out _).mono ?_
        rintro e w1 ⟨rfl, rfl⟩
        go_wp2_with fail
        go_ret2
        exact ⟨ret_two (by rw [In.fit_no HN.out]) (by rw [In.fit_no HN.out]), rfl⟩
    · obtain rfl : k = n := by omega
      have HK := Lib.hid hok
      obtain ⟨p, hp⟩ : ∃ p, p = a ^ k := ⟨_, rfl⟩
      rw [← hp]
      have HP := Lib.hid hp
      clear hok hp
      go_wp2_with fail
      go_ret2
      exact ⟨ret_two (by rw [In.fit_yes HK.out, HP.out]) (by rw [In.fit_yes HK.out]), rfl⟩

theorem gcd_step (x y : Int) : Int.gcd y (x.tmod y) = Int.gcd x y := by
  show Nat.gcd y.natAbs (x.tmod y).natAbs = Nat.gcd x.natAbs y.natAbs
  rw [Int.natAbs_tmod, Nat.gcd_comm x.natAbs, Nat.gcd_rec y.natAbs x.natAbs, Nat.gcd_comm]

set_option maxHeartbeats 2000000 in
set_option maxRecDepth 100000 in
theorem refGcd_any (a b : Int) (w : World) (ha : In.ok a) (hb : In.ok b) :
    Calls Tryd.prog 34 #[.int .i64 a, .int .i64 b] w fun e w' => e = .returned (.tuple #[.int .i64 (In.gcd a b).1, .int .i64 (In.gcd a b).2]) ∧ w = w' := by
  have HAB := Lib.hid (And.intro ha hb)
  clear ha hb
  go_enter Tryd.func34, Tryd.ntmps34
  go_wp2_with fail
  go_loop [0, 1] (fun u v => ∃ x y : Int, In.ok x ∧ In.ok y ∧ Int.gcd x y = Int.gcd a b ∧ u = .int .i64 x ∧ v = .int .i64 y) (fun _ v => (Lib.intOf v).natAbs)
  case atStart => exact ⟨a, b, HAB.out.1, HAB.out.2, rfl, rfl, rfl⟩
  case round =>
    obtain ⟨x, y, hx, hy, hg, rfl, rfl⟩ := hrel
    have HG := Lib.hid hg
    clear hg
    by_cases y0 : y = 0
    · subst y0
      have hgx : In.gcd a b = In.fit (x.natAbs : Int) := by
        unfold In.gcd
        rw [← HG.out, Int.gcd_zero_right]
      by_cases hn : x < 0
      · have c1 := fun w => refSub_any 0 x w (by decide) hx
        rw [show (0 : Int) - x = -x by omega] at c1
        have hgx2 : In.gcd a b = In.fit (-x) := by rw [hgx]; congr 1; omega
        have HX := Lib.hid hgx2
        have C1 := Lib.hid c1
        clear c1 hgx hgx2 hx hy
        go_wp2_with fail
        refine (C1.out _).mono ?_
        rintro e w1 ⟨rfl, rfl⟩
        go_wp2_with fail
        go_ret2
        exact ⟨ret_two (by rw [HX.out]) (by rw [HX.out]), rfl⟩
      · have hgx2 : In.gcd a b = (x, 0) := by
          rw [hgx, show (x.natAbs : Int) = x by omega]
          exact In.fit_yes hx
        have HX := Lib.hid hgx2
        have hn' : 0 ≤ x := by omega
        clear hgx hgx2 hx hy hn
        go_wp2_with fail
        go_ret2
        exact ⟨ret_two (by rw [HX.out]) (by rw [HX.out]), rfl⟩
    · have y0' : (y == 0) = false := by simpa using y0
      have c1 := fun w => refRem_any x y w hx hy y0
      have C1 := Lib.hid c1
      have HR := Lib.hid (And.intro (In.tmod_ok (a := x) hy y0) (And.intro (In.tmod_abs x y y0) ((gcd_step x y).trans HG.out)))
      have HY := Lib.hid hy
      clear c1 hx hy y0
      go_wp2_with fail
      refine (C1.out _).mono ?_
      rintro e w1 ⟨rfl, rfl⟩
      go_wp2_with fail
      go_round
      case rel => exact ⟨y, x.tmod y, HY.out, HR.out.1, HR.out.2.2, rfl, rfl⟩
      case measure => simp only [Lib.intOf]; exact HR.out.2.1

set_option maxHeartbeats 2000000 in
set_option maxRecDepth 100000 in
theorem refShl_any (a b : Int) (w : World) (ha : In.ok a) :
    Calls Tryd.prog 32 #[.int .i64 a, .int .i64 b, .bool true] w fun e w' => e = .returned (.tuple #[.int .i64 (In.shl a b).1, .int .i64 (In.shl a b).2]) ∧ w = w' := by
  by_cases h0 : b < 0
  · rw [show In.shl a b = (0, 12) from if_pos (.inl h0)]
    clear ha
    go_enter Tryd.func32, Tryd.ntmps32
    go_wp2_with fail
    go_ret2
    exact ⟨rfl, rfl⟩
  by_cases h1 : 63 < b
  · rw [show In.shl a b = (0, 12) from if_pos (.inr h1)]
    have h2 : 0 ≤ b := by omega
    clear ha h0
    go_enter Tryd.func32, Tryd.ntmps32
    go_wp2_with fail
    go_ret2
    exact ⟨rfl, rfl⟩
  rw [show In.shl a b = In.fit (a * 2 ^ b.toNat) from if_neg (by omega)]
  obtain ⟨n, rfl⟩ := Int.eq_ofNat_of_zero_le (show 0 ≤ b by omega)
  rw [show ((n : Int)).toNat = n from rfl]
  have hn : n ≤ 63 := by omega
  have HA := Lib.hid ha
  clear ha h0 h1
  go_enter Tryd.func32, Tryd.ntmps32
  go_wp2_with fail
  go_loop [0, 8] (fun p i => ∃ k : Nat, k ≤ n ∧ In.ok (a * 2 ^ k) ∧ p = .int .i64 (a * 2 ^ k) ∧ i = .int .i64 k) (fun _ i => n - (Lib.intOf i).toNat)
  case atStart => exact ⟨0, Nat.zero_le _, by rw [Int.pow_zero, Int.mul_one]; exact HA.out, by rw [Int.pow_zero, Int.mul_one], rfl⟩
  case round =>
    obtain ⟨k, hk, hok, rfl, rfl⟩ := hrel
    by_cases hlt : k < n
    · have c1 := fun w => refAdd_any (a * 2 ^ k) (a * 2 ^ k) w hok hok
      have e1 : a * 2 ^ k + a * 2 ^ k = a * 2 ^ (k + 1) := by rw [Int.pow_succ, ← Int.mul_assoc]; omega
      rw [e1] at c1
      by_cases hs : In.ok (a * 2 ^ (k + 1))
      · rw [In.fit_yes hs] at c1
        obtain ⟨p, hp⟩ : ∃ p, p = a * 2 ^ k := ⟨_, rfl⟩
        obtain ⟨p1, hp1⟩ : ∃ p, p = a * 2 ^ (k + 1) := ⟨_, rfl⟩
        rw [← hp, ← hp1] at c1
        rw [← hp]
        have C1 := Lib.hid c1
        have HP := Lib.hid hp1
        have HS := Lib.hid hs
        clear c1 hp hp1 hs hok e1
        go_wp2_with fail
        refine (C1.out _).mono ?_
        rintro e w1 ⟨rfl, rfl⟩
        go_wp2_with fail
        go_round
        case rel => exact ⟨k + 1, by omega, HS.out, by rw [HP.out], by go_num⟩
        case measure => simp [Lib.intOf]; omega
      · rw [In.fit_no hs] at c1
        have hno := In.shl_over (show k + 1 ≤ n by omega) hs
        have HN := Lib.hid hno
        obtain ⟨p, hp⟩ : ∃ p, p = a * 2 ^ k := ⟨_, rfl⟩
        rw [← hp] at c1
        rw [← hp]
        have C1 := Lib.hid c1
        clear c1 hp hs hok hno e1
        go_wp2_with fail
        refine (C1.out _).mono ?_
        rintro e w1 ⟨rfl, rfl⟩
        go_wp2_with fail
        go_ret2
        exact ⟨ret_two (by rw [In.fit_no HN.out]) (by rw [In.fit_no HN.out]), rfl⟩
    · obtain rfl : k = n := by omega
      have HK := Lib.hid hok
      obtain ⟨p, hp⟩ : ∃ p, p = a * 2 ^ k := ⟨_, rfl⟩
      rw [← hp]
      have HP := Lib.hid hp
      clear hok hp
      go_wp2_with fail
      go_ret2
      exact ⟨ret_two (by rw [In.fit_yes HK.out, HP.out]) (by rw [In.fit_yes HK.out]), rfl⟩

set_option maxHeartbeats 2000000 in
set_option maxRecDepth 100000 in
theorem refShr_any (a b : Int) (w : World) (ha : In.ok a) :
    Calls Tryd.prog 32 #[.int .i64 a, .int .i64 b, .bool false] w fun e w' => e = .returned (.tuple #[.int .i64 (In.shr a b).1, .int .i64 (In.shr a b).2]) ∧ w = w' := by
  by_cases h0 : b < 0
  · rw [show In.shr a b = (0, 12) from if_pos (.inl h0)]
    clear ha
    go_enter Tryd.func32, Tryd.ntmps32
    go_wp2_with fail
    go_ret2
    exact ⟨rfl, rfl⟩
  by_cases h1 : 63 < b
  · rw [show In.shr a b = (0, 12) from if_pos (.inr h1)]
    have h2 : 0 ≤ b := by omega
    clear ha h0
    go_enter Tryd.func32, Tryd.ntmps32
    go_wp2_with fail
    go_ret2
    exact ⟨rfl, rfl⟩
  rw [show In.shr a b = (a / 2 ^ b.toNat, 0) from if_neg (by omega)]
  obtain ⟨n, rfl⟩ := Int.eq_ofNat_of_zero_le (show 0 ≤ b by omega)
  rw [show ((n : Int)).toNat = n from rfl]
  have hn : n ≤ 63 := by omega
  have HA := Lib.hid ha
  clear ha h0 h1
  go_enter Tryd.func32, Tryd.ntmps32
  go_wp2_with fail
  go_loop [0, 8] (fun p i => ∃ k : Nat, k ≤ n ∧ p = .int .i64 (a / 2 ^ k) ∧ i = .int .i64 k) (fun _ i => n - (Lib.intOf i).toNat)
  case atStart => exact ⟨0, Nat.zero_le _, by rw [Int.pow_zero, Int.ediv_one], rfl⟩
  case round =>
    obtain ⟨k, hk, rfl, rfl⟩ := hrel
    by_cases hlt : k < n
    · have c1 := fun w => refDiv_any (a / 2 ^ k) 2 w (In.shr_ok k HA.out) (by decide) (by decide)
      rw [In.fdiv_two, ← In.shr_step, In.fit_yes (In.shr_ok (k + 1) HA.out)] at c1
      obtain ⟨p, hp⟩ : ∃ p, p = a / 2 ^ k := ⟨_, rfl⟩
      obtain ⟨p1, hp1⟩ : ∃ p, p = a / 2 ^ (k + 1) := ⟨_, rfl⟩
      rw [← hp, ← hp1] at c1
      rw [← hp]
      have C1 := Lib.hid c1
      have HP := Lib.hid hp1
      clear c1 hp hp1
      go_wp2_with fail
      refine (C1.out _).mono ?_
      rintro e w1 ⟨rfl, rfl⟩
      go_wp2_with fail
      go_round
      case rel => exact ⟨k + 1, by omega, by rw [HP.out], by go_num⟩
      case measure => simp [Lib.intOf]; omega
    · obtain rfl : k = n := by omega
      obtain ⟨p, hp⟩ : ∃ p, p = a / 2 ^ k := ⟨_, rfl⟩
      rw [← hp]
      have HP := Lib.hid hp
      clear hp
      go_wp2_with fail
      go_ret2
      exact ⟨ret_two HP.out rfl, rfl⟩
end Go.Proofs.YtlajghpikilkgaaDoor
