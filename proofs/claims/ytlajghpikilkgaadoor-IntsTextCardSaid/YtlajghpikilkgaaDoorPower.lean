/-
  The powers and the greatest common divisor of package ints.
-/
import Derived.Test.YtlajghpikilkgaaDoorFloor
namespace Go.Proofs.YtlajghpikilkgaaDoor
set_option linter.unusedVariables false
set_option linter.unusedSimpArgs false
open Go.RowKit

set_option maxHeartbeats 1000000 in
theorem power_up (k : Nat) : ∀ (a b : Int) (w : World), In.ok a → 0 ≤ b → b ≤ 9223372036854775807 → b.toNat ≤ k →
    Calls Tryd.prog 69 #[.int .i64 a, .int .i64 b] w fun e w' => e = .returned (.tuple #[.int .i64 (In.fit (a ^ b.toNat)).1, .int .i64 (In.fit (a ^ b.toNat)).2]) ∧ w = w' := by
  induction k with
  | zero =>
    intro a b w ha h0 h1 hk
    have hb : b = 0 := by omega
    subst hb
    rw [show a ^ (0 : Int).toNat = 1 from Int.pow_zero a, In.fit_yes (by decide)]
    clear h0 h1 hk ha
    go_enter Tryd.func69, Tryd.ntmps69
    go_wp2_with fail
    go_ret2
    exact ⟨rfl, rfl⟩
  | succ k ih =>
    intro a b w ha h0 h1 hk
    by_cases hz : b = 0
    · subst hz
      rw [show a ^ (0 : Int).toNat = 1 from Int.pow_zero a, In.fit_yes (by decide)]
      clear h0 h1 hk ha ih
      go_enter Tryd.func69, Tryd.ntmps69
      go_wp2_with fail
      go_ret2
      exact ⟨rfl, rfl⟩
    · have c1 := fun w => ih a (b / 2) w ha (by omega) (by omega) (by omega)
      have C1 := Lib.hid c1
      have hpos : 0 < b.toNat := by omega
      have hhalf : (b / 2).toNat = b.toNat / 2 := by omega
      rw [hhalf] at C1
      have hz' : (b == 0) = false := by simpa using hz
      clear c1 ih hk hhalf
      by_cases hr : In.ok (a ^ (b.toNat / 2))
      · rw [In.fit_yes hr] at C1
        have c2 := fun w => multiply_any (a ^ (b.toNat / 2)) (a ^ (b.toNat / 2)) w hr hr
        have C2 := Lib.hid c2
        clear c2
        by_cases hs : In.ok (a ^ (b.toNat / 2) * a ^ (b.toNat / 2))
        · rw [In.fit_yes hs] at C2
          have hsp := In.pow_split a b.toNat
          have c3 := fun w => multiply_any (a ^ (b.toNat / 2) * a ^ (b.toNat / 2)) a w hs ha
          have C3 := Lib.hid c3
          clear c3 hr
          obtain ⟨r, hr⟩ : ∃ r, r = a ^ (b.toNat / 2) := ⟨_, rfl⟩
          rw [← hr] at C1 C2 C3 hsp hs
          obtain ⟨s, hs1⟩ : ∃ s, s = r * r := ⟨_, rfl⟩
          rw [← hs1] at C2 C3 hsp hs
          by_cases hp : b % 2 = 0
          · rw [if_pos (by omega), Int.mul_one] at hsp
            rw [hsp, In.fit_yes hs]
            have hq : (b % 2 == 0) = true := by simpa using hp
            have hd : 0 ≤ b % 2 := by omega
            clear hsp hr hs1 hs hp ha hpos hz
            go_enter Tryd.func69, Tryd.ntmps69
            go_wp2_with fail
            refine (C1.out _).mono ?_
            rintro e w1 ⟨rfl, rfl⟩
            go_wp2_with fail
            refine (C2.out _).mono ?_
            rintro e w1 ⟨rfl, rfl⟩
            go_wp2_with fail
            go_ret2
            exact ⟨rfl, rfl⟩
          · rw [if_neg (by omega)] at hsp
            rw [hsp]
            have hq : (b % 2 == 0) = false := by simpa using hp
            obtain ⟨p, hp1⟩ : ∃ p, p = s * a := ⟨_, rfl⟩
            rw [← hp1] at C3 ⊢
            clear hsp hr hs1 hs hp ha hpos hz hp1
            go_enter Tryd.func69, Tryd.ntmps69
            go_wp2_with fail
            refine (C1.out _).mono ?_
            rintro e w1 ⟨rfl, rfl⟩
            go_wp2_with fail
            refine (C2.out _).mono ?_
            rintro e w1 ⟨rfl, rfl⟩
            go_wp2_with fail
            refine (C3.out _).mono ?_
            rintro e w1 ⟨rfl, rfl⟩
            go_wp2_with fail
            go_ret2
            exact ⟨rfl, rfl⟩
        · rw [In.fit_no hs] at C2
          rw [In.fit_no (In.square_over hpos hs)]
          obtain ⟨r, hr1⟩ : ∃ r, r = a ^ (b.toNat / 2) := ⟨_, rfl⟩
          rw [← hr1] at C1 C2
          clear hr hr1 hs ha hpos hz
          go_enter Tryd.func69, Tryd.ntmps69
          go_wp2_with fail
          refine (C1.out _).mono ?_
          rintro e w1 ⟨rfl, rfl⟩
          go_wp2_with fail
          refine (C2.out _).mono ?_
          rintro e w1 ⟨rfl, rfl⟩
          go_wp2_with fail
          go_ret2
          exact ⟨rfl, rfl⟩
      · rw [In.fit_no hr] at C1
        rw [In.fit_no (In.root_over hpos hr)]
        clear hr ha hpos hz
        go_enter Tryd.func69, Tryd.ntmps69
        go_wp2_with fail
        refine (C1.out _).mono ?_
        rintro e w1 ⟨rfl, rfl⟩
        go_wp2_with fail
        go_ret2
        exact ⟨rfl, rfl⟩

set_option maxHeartbeats 400000 in
theorem power_any (a b : Int) (w : World) (ha : In.ok a) (hb : In.ok b) :
    Calls Tryd.prog 69 #[.int .i64 a, .int .i64 b] w fun e w' => e = .returned (.tuple #[.int .i64 (In.pow a b).1, .int .i64 (In.pow a b).2]) ∧ w = w' := by
  unfold In.pow
  by_cases h : b < 0
  · rw [if_pos h]
    have c1 := fun w => inverse_any a b w h
    have C1 := Lib.hid c1
    clear c1 ha hb
    go_enter Tryd.func69, Tryd.ntmps69
    go_wp2_with fail
    refine (C1.out _).mono ?_
    rintro e w1 ⟨rfl, rfl⟩
    go_wp2_with fail
    go_ret2
    exact ⟨rfl, rfl⟩
  · rw [if_neg h]
    exact power_up b.toNat a b w ha (by omega) hb.2 (Nat.le_refl _)

set_option maxHeartbeats 1000000 in
theorem gcd_any (a b : Int) (w : World) (ha : In.ok a) (hb : In.ok b) :
    Calls Tryd.prog 70 #[.int .i64 a, .int .i64 b] w fun e w' => e = .returned (.tuple #[.int .i64 (In.gcd a b).1, .int .i64 (In.gcd a b).2]) ∧ ∃ q, w' = w.drewN q := by
  have s1 := fun w => size_any a w ha
  have s2 := fun w => size_any b w hb
  rw [In.size_nat] at s1 s2
  have hla : a.natAbs ≤ 9223372036854775808 := by unfold In.ok at ha; omega
  have hlb : b.natAbs ≤ 9223372036854775808 := by unfold In.ok at hb; omega
  have hg : In.gcd a b = In.fit ((Nat.gcd a.natAbs b.natAbs : Nat) : Int) := rfl
  rw [hg]
  obtain ⟨m, hm⟩ : ∃ m, m = a.natAbs := ⟨_, rfl⟩
  obtain ⟨n, hn⟩ : ∃ n, n = b.natAbs := ⟨_, rfl⟩
  rw [← hm] at s1 hla ⊢
  rw [← hn] at s2 hlb ⊢
  have S1 := Lib.hid s1
  have S2 := Lib.hid s2
  clear s1 s2 ha hb hg hm hn
  go_enter Tryd.func70, Tryd.ntmps70
  go_wp2_with fail
  refine (S1.out _).mono ?_
  rintro e w1 ⟨rfl, rfl⟩
  go_wp2_with fail
  refine (S2.out _).mono ?_
  rintro e w1 ⟨rfl, rfl⟩
  go_wp2_with fail
  go_loopw [6, 7] (fun u v wr => ∃ x y : Nat, x ≤ 9223372036854775808 ∧ y ≤ 9223372036854775808 ∧ Nat.gcd x y = Nat.gcd m n ∧ u = .int .u64 (x : Int) ∧ v = .int .u64 (y : Int) ∧ ∃ q, wr = w.drewN q) (fun _ v _ => (Lib.intOf v).toNat)
  case atStart => exact ⟨m, n, hla, hlb, rfl, rfl, rfl, 0, rfl⟩
  case round =>
    obtain ⟨x, y, hx, hy, hxy, rfl, rfl, q, rfl⟩ := hrel
    have HG := Lib.hid hxy
    clear hxy
    by_cases hy0 : y = 0
    · subst hy0
      have hx1 : x = Nat.gcd m n := by have := HG.out; rwa [Nat.gcd_zero_right] at this
      have c := fun w => signed_any false (x : Int) w (by omega) (by omega)
      have es : In.sgn false (x : Int) = ((Nat.gcd m n : Nat) : Int) := by rw [← hx1]; rfl
      rw [es] at c
      have C := Lib.hid c
      clear c es hx1
      go_wp2_with fail
      refine (C.out _).mono ?_
      rintro e w1 ⟨rfl, rfl⟩
      go_wp2_with fail
      go_ret2
      exact ⟨rfl, _, rfl⟩
    · have hy1 : ((y : Int) == 0) = false := by simp; omega
      have hr0 : x % y < y := Nat.mod_lt _ (by omega)
      have hG2 : Nat.gcd y (x % y) = Nat.gcd m n := by rw [← HG.out, Nat.gcd_comm x y, Nat.gcd_rec y x, Nat.gcd_comm]
      have HG2 := Lib.hid hG2
      clear hG2
      go_wp2_with fail
      go_quiet (fail)
      go_wp2_with fail
      go_roundw
      case rel => exact ⟨y, x % y, hy, by omega, HG2.out, rfl, rfl, q + nq, World.drewN_drewN _ _ _⟩
      case measure => simp [Lib.intOf]; omega
end Go.Proofs.YtlajghpikilkgaaDoor
