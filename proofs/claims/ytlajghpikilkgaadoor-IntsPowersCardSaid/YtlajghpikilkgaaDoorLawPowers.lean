/-
  The walks of IntsPowers and IntsShifts: they return true for every input.
-/
import Derived.Test.YtlajghpikilkgaaDoorExample
import Derived.Test.YtlajghpikilkgaaDoorRefPower
namespace Go.Proofs.YtlajghpikilkgaaDoor
set_option linter.unusedVariables false
set_option linter.unusedSimpArgs false
open Go.RowKit

namespace In
/-- Where the power with m + n lies in the range so do those with m and n, if the base is not 0. -/
theorem pow_parts {a : Int} {m n : Nat} (h : ok (a ^ (m + n))) : ok (a ^ m) := by
  rcases Nat.lt_or_ge a.natAbs 2 with h2 | h2
  · have h3 : (a ^ m).natAbs ≤ 1 := by
      rw [abs_pow]
      have : a.natAbs ^ m ≤ 1 ^ m := Nat.pow_le_pow_left (by omega) m
      rwa [Nat.one_pow] at this
    unfold ok; omega
  · exact Classical.byContradiction fun hn => pow_over h2 (Nat.le_add_right m n) hn h
end In

set_option maxHeartbeats 2000000 in
set_option maxRecDepth 100000 in
theorem walk_powers (a : Int) (m n : Nat) (w : World) (ha : In.ok a) (hm : m ≤ 255) (hn : n ≤ 255) (hT : Tabs w) :
    Calls Tryd.prog 9 #[.int .i64 a, .int .u8 (m : Int), .int .u8 (n : Int)] w fun e w' => e = .returned (.bool true) ∧ Below w.heap.size w w' := by
  have hb : ∀ k : Nat, k ≤ 510 → In.ok (k : Int) := fun k hk => by unfold In.ok; omega
  have hv : ∀ k : Nat, bin (⟨#[94]⟩ : ByteArray).data.toList a (k : Int) = In.fit (a ^ k) := fun k => by
    show In.pow a (k : Int) = _
    unfold In.pow
    rw [if_neg (by omega)]; rfl
  have c0 := fun w => two_any ⟨#[94]⟩ a ((m + n : Nat) : Int) w (by decide) ha (hb _ (by omega))
  have c1 := fun w => two_any ⟨#[94]⟩ a (m : Int) w (by decide) ha (hb _ (by omega))
  have c2 := fun w => two_any ⟨#[94]⟩ a (n : Int) w (by decide) ha (hb _ (by omega))
  rw [hv] at c0 c1 c2
  rw [show ((m + n : Nat) : Int) = (m : Int) + (n : Int) by omega] at c0
  obtain ⟨M, hM⟩ : ∃ M : Int, M = (m : Int) := ⟨_, rfl⟩
  obtain ⟨N, hN⟩ : ∃ N : Int, N = (n : Int) := ⟨_, rfl⟩
  rw [← hM, ← hN] at c0 ⊢
  rw [← hM] at c1
  rw [← hN] at c2
  have hM0 : 0 ≤ M := by omega
  have hM1 : M ≤ 255 := by omega
  have hN0 : 0 ≤ N := by omega
  have hN1 : N ≤ 255 := by omega
  have HT := Lib.hid hT
  by_cases hs : In.ok (a ^ (m + n))
  · have hs1 := In.pow_parts hs
    have hs2 : In.ok (a ^ n) := In.pow_parts (m := n) (n := m) (by rw [Nat.add_comm]; exact hs)
    have c3 := fun w => two_any ⟨#[42]⟩ (a ^ m) (a ^ n) w (by decide) hs1 hs2
    rw [show bin (⟨#[42]⟩ : ByteArray).data.toList (a ^ m) (a ^ n) = In.fit (a ^ m * a ^ n) from rfl, ← Int.pow_add, In.fit_yes hs] at c3
    rw [In.fit_yes hs] at c0
    rw [In.fit_yes hs1] at c1
    rw [In.fit_yes hs2] at c2
    simp only at c0 c1 c2 c3
    rw [show ((0 : Int) == 0) = true from rfl] at c0 c1 c2 c3
    obtain ⟨p, hp⟩ : ∃ p, p = a ^ (m + n) := ⟨_, rfl⟩
    obtain ⟨x, hx⟩ : ∃ p, p = a ^ m := ⟨_, rfl⟩
    obtain ⟨y, hy⟩ : ∃ p, p = a ^ n := ⟨_, rfl⟩
    rw [← hp] at c0 c3
    rw [← hx] at c1 c3
    rw [← hy] at c2 c3
    have C0 := Lib.hid c0
    have C1 := Lib.hid c1
    have C2 := Lib.hid c2
    have C3 := Lib.hid c3
    clear c0 c1 c2 c3 hp hx hy hs hs1 hs2 hb hv ha hT hM hN
    go_enter Tryd.func9, Tryd.ntmps9
    go_wp2_with fail
    refine (example_true _ HT.out).mono ?_
    rintro e w1 ⟨rfl, hb⟩
    have H1 := Lib.hid hb
    clear hb
    go_wp2_with fail
    refine (C0.out _).mono ?_
    rintro e w2 ⟨rfl, hb⟩
    have H2 := Lib.hid (H1.out.trans (hb.mono H1.out.size))
    clear hb
    go_wp2_with fail
    refine (C1.out _).mono ?_
    rintro e w3 ⟨rfl, hb⟩
    have H3 := Lib.hid (H2.out.trans (hb.mono H2.out.size))
    clear hb
    go_wp2_with fail
    refine (C2.out _).mono ?_
    rintro e w4 ⟨rfl, hb⟩
    have H4 := Lib.hid (H3.out.trans (hb.mono H3.out.size))
    clear hb
    go_wp2_with fail
    refine (C3.out _).mono ?_
    rintro e w5 ⟨rfl, hb⟩
    have H5 := Lib.hid (H4.out.trans (hb.mono H4.out.size))
    clear hb
    go_wp2_with fail
    go_ret
    exact ⟨rfl, H5.out⟩
  · rw [In.fit_no hs] at c0
    simp only at c0
    rw [show ((10 : Int) == 0) = false from rfl] at c0
    have C0 := Lib.hid c0
    clear c0 c1 c2 hs hb hv ha hT hM hN
    go_enter Tryd.func9, Tryd.ntmps9
    go_wp2_with fail
    refine (example_true _ HT.out).mono ?_
    rintro e w1 ⟨rfl, hb⟩
    have H1 := Lib.hid hb
    clear hb
    go_wp2_with fail
    refine (C0.out _).mono ?_
    rintro e w2 ⟨rfl, hb⟩
    have H2 := Lib.hid (H1.out.trans (hb.mono H1.out.size))
    clear hb
    go_wp2_with fail
    go_ret
    exact ⟨rfl, H2.out⟩

theorem walk_powers_int (a m n : Int) (w : World) (ha : In.ok a) (hm : 0 ≤ m ∧ m ≤ 255) (hn : 0 ≤ n ∧ n ≤ 255) (hT : Tabs w) :
    Calls Tryd.prog 9 #[.int .i64 a, .int .u8 m, .int .u8 n] w fun e w' => e = .returned (.bool true) ∧ Below w.heap.size w w' := by
  obtain ⟨m, rfl⟩ := Int.eq_ofNat_of_zero_le hm.1
  obtain ⟨n, rfl⟩ := Int.eq_ofNat_of_zero_le hn.1
  exact walk_powers a m n w ha (by omega) (by omega) hT
end Go.Proofs.YtlajghpikilkgaaDoor
