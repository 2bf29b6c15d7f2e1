/-
  natural of package ints: the number of digits, or none if it has more than 64 bits.
-/
import Derived.Test.YtlajghpikilkgaaDoorParse1
namespace Go.Proofs.YtlajghpikilkgaaDoor
set_option linter.unusedVariables false
set_option linter.unusedSimpArgs false
open Go.RowKit Go.Shelf

theorem add64 (x y : Int) (hx : 0 ≤ x) (hx' : x < 18446744073709551616) (hy : 0 ≤ y) (hy' : y < 18446744073709551616) (w : World) : (callFunc 74 #[.int .u64 x, .int .u64 y, .int .u64 0]).run Tryd.prog w =
    .ok (.value (.tuple #[.int .u64 ((x + y) % 18446744073709551616), .int .u64 ((x + y) / 18446744073709551616)])) w := by
  obtain ⟨x, rfl⟩ := Int.eq_ofNat_of_zero_le hx
  obtain ⟨y, rfl⟩ := Int.eq_ofNat_of_zero_le hy
  rw [run_callFunc_extern Tryd.func74 (by kernel_rfl) (by kernel_rfl) (by kernel_rfl) (e := add64Entry) (by kernel_rfl)]
  have h := run_add64 (P := Tryd.prog) (w := w) x y 0 (by omega) (by omega) (by omega) (by omega)
  simp only [Int.add_zero] at h
  rw [h]
  rfl

namespace In
theorem natV_yes {b : Int} {l : List UInt8} (h : val b l < 18446744073709551616) : natV b l = val b l ∧ natB b l = true := ⟨if_pos h, decide_eq_true h⟩
theorem natV_no {b : Int} {l : List UInt8} (h : ¬ val b l < 18446744073709551616) : natV b l = 0 ∧ natB b l = false := ⟨if_neg h, decide_eq_false h⟩
end In

theorem ret_nat {a b : Int} {x y : Bool} (h : a = b) (h' : x = y) : Ending.returned (.tuple #[.int .u64 a, .bool x]) = .returned (.tuple #[.int .u64 b, .bool y]) := by rw [h, h']

set_option maxHeartbeats 2000000 in
set_option maxRecDepth 100000 in
theorem natural_any (s : ByteArray) (b : Int) (w : World) (hs : s.size ≤ 9223372036854775807) (hb2 : 2 ≤ b) (hb36 : b ≤ 36) :
    Calls Tryd.prog 41 #[.string s, .int .i64 b] w fun e w' => e = .returned (.tuple #[.int .u64 (In.natV b s.data.toList), .bool (In.natB b s.data.toList)]) ∧ w = w' := by
  go_enter Tryd.func41, Tryd.ntmps41
  go_wp2_with fail
  go_loop [4, 13] (fun n i => ∃ k : Nat, k ≤ s.size ∧ In.val b (s.data.toList.take k) < 18446744073709551616 ∧ n = .int .u64 (In.val b (s.data.toList.take k)) ∧ i = .int .i64 k) (fun _ i => s.size - (Lib.intOf i).toNat)
  case atStart => exact ⟨0, Nat.zero_le _, by simp [In.val], by simp [In.val], rfl⟩
  case round =>
    obtain ⟨k, hk, hv, rfl, rfl⟩ := hrel
    by_cases hlt : k < s.size
    · have hl : k < s.data.toList.length := by simpa using hlt
      have hc0 : (0 : Int) ≤ (s[k].toNat : Int) := by omega
      have hc1 : (s[k].toNat : Int) < 256 := by have := s[k].toNat_lt; omega
      have hstep := In.val_step b s.data.toList k hl
      have hn0 := In.val_nonneg b (by omega) (s.data.toList.take k)
      have hmore := In.val_take b (by omega) s.data.toList (k + 1)
      have hd := In.dg_bd (s[k].toNat : Int)
      have c1 := fun w => digit_any (s[k].toNat : Int) w hc0 hc1
      have hsk : s.data.toList[k] = s[k] := rfl
      rw [hsk] at hstep
      obtain ⟨n, hn⟩ : ∃ n, n = In.val b (s.data.toList.take k) := ⟨_, rfl⟩
      obtain ⟨n1, hn1⟩ : ∃ n, n = In.val b (s.data.toList.take (k + 1)) := ⟨_, rfl⟩
      obtain ⟨d, hdd⟩ : ∃ d, d = In.dg (s[k].toNat : Int) := ⟨_, rfl⟩
      have m1 := fun w => mul64 n b w (by omega) (by omega) (by omega) (by omega)
      have hp0 : 0 ≤ n * b := Int.mul_nonneg (by omega) (by omega)
      rw [← hn, ← hn1, ← hdd] at hstep
      rw [← hn] at hn0 hv ⊢
      rw [← hn1] at hmore
      rw [← hdd] at hd c1
      obtain ⟨p, hp⟩ : ∃ p, p = n * b := ⟨_, rfl⟩
      rw [← hp] at hp0 m1 hstep
      obtain ⟨hd0, hd1⟩ := hd
      have C1 := Lib.hid c1
      have HN1 := Lib.hid hn1
      clear c1 hsk hdd hp hn hn1
      by_cases hfit : n1 < 18446744073709551616
      · have e1 : p / 18446744073709551616 = 0 := by omega
        have e2 : p % 18446744073709551616 = p := by omega
        rw [e1, e2] at m1
        have M1 := Lib.hid m1
        have a1 := fun w => add64 p d hp0 (by omega) hd0 (by omega) w
        have e3 : (p + d) % 18446744073709551616 = n1 := by omega
        have e4 : (p + d) / 18446744073709551616 = 0 := by omega
        rw [e3, e4] at a1
        have hp1 : p < 18446744073709551616 := by omega
        clear m1 e1 e2 e3 e4 hstep hmore
        go_wp2_with fail
        refine (M1.out _).mono ?_
        rintro e w1 ⟨rfl, rfl⟩
        go_wp2_with fail
        refine (C1.out _).mono ?_
        rintro e w1 ⟨rfl, rfl⟩
        go_wp2_with (simp only [a1])
        go_round
        case rel => exact ⟨k + 1, by omega, by rw [← HN1.out]; exact hfit, by rw [HN1.out], by go_num⟩
        case measure => simp [Lib.intOf]; omega
      · have hno : ¬ In.val b s.data.toList < 18446744073709551616 := by omega
        have hr := In.natV_no hno
        have HR := Lib.hid hr
        clear hr hno hmore
        by_cases hz : p / 18446744073709551616 = 0
        · have e2 : p % 18446744073709551616 = p := by omega
          rw [hz, e2] at m1
          have M1 := Lib.hid m1
          have a1 := fun w => add64 p d hp0 (by omega) hd0 (by omega) w
          obtain ⟨S, hS⟩ : ∃ S, S = (p + d) % 18446744073709551616 := ⟨_, rfl⟩
          obtain ⟨C, hC⟩ : ∃ S, S = (p + d) / 18446744073709551616 := ⟨_, rfl⟩
          rw [← hS, ← hC] at a1
          have hC' : (C == 0) = false := by simp; omega
          have hp1 : p < 18446744073709551616 := by omega
          clear m1 e2 hz hS hC hstep hfit
          go_wp2_with fail
          refine (M1.out _).mono ?_
          rintro e w1 ⟨rfl, rfl⟩
          go_wp2_with fail
          refine (C1.out _).mono ?_
          rintro e w1 ⟨rfl, rfl⟩
          go_wp2_with (simp only [a1])
          go_ret2
          exact ⟨ret_nat HR.out.1.symm HR.out.2.symm, rfl⟩
        · obtain ⟨H, hH⟩ : ∃ S, S = p / 18446744073709551616 := ⟨_, rfl⟩
          obtain ⟨L, hL⟩ : ∃ S, S = p % 18446744073709551616 := ⟨_, rfl⟩
          rw [← hH, ← hL] at m1
          have M1 := Lib.hid m1
          have hL0 : 0 ≤ L := by omega
          have hL1 : L < 18446744073709551616 := by omega
          have a1 := fun w => add64 L d hL0 hL1 hd0 (by omega) w
          obtain ⟨S, hS⟩ : ∃ S, S = (L + d) % 18446744073709551616 := ⟨_, rfl⟩
          obtain ⟨C, hC⟩ : ∃ S, S = (L + d) / 18446744073709551616 := ⟨_, rfl⟩
          rw [← hS, ← hC] at a1
          have hH' : (H == 0) = false := by simp; omega
          clear m1 hz hS hC hstep hfit hH hL
          go_wp2_with fail
          refine (M1.out _).mono ?_
          rintro e w1 ⟨rfl, rfl⟩
          go_wp2_with fail
          refine (C1.out _).mono ?_
          rintro e w1 ⟨rfl, rfl⟩
          go_wp2_with (simp only [a1])
          go_ret2
          exact ⟨ret_nat HR.out.1.symm HR.out.2.symm, rfl⟩
    · obtain rfl : k = s.size := by omega
      have ht : s.data.toList.take s.size = s.data.toList := List.take_of_length_le (by simp)
      rw [ht] at hv ⊢
      have hr := In.natV_yes hv
      have HR := Lib.hid hr
      obtain ⟨n, hn⟩ : ∃ n, n = In.val b s.data.toList := ⟨_, rfl⟩
      rw [← hn] at HR hv ⊢
      clear hr ht hn
      go_wp2_with fail
      go_ret2
      exact ⟨ret_nat HR.out.1.symm HR.out.2.symm, rfl⟩
end Go.Proofs.YtlajghpikilkgaaDoor
