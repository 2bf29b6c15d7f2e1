/-
  The walks of IntsDivisors: they return true for every input.
-/
import Derived.Test.YtlajghpikilkgaaDoorExample
import Derived.Test.YtlajghpikilkgaaDoorRefPower
namespace Go.Proofs.YtlajghpikilkgaaDoor
set_option linter.unusedVariables false
set_option linter.unusedSimpArgs false
open Go.RowKit

namespace In
theorem gcd_big {a b : Int} (ha : ok a) (hb : ok b) (h : ¬ ok (Int.gcd a b : Int)) : a = -9223372036854775808 ∨ b = -9223372036854775808 := by
  have hg : 9223372036854775808 ≤ Int.gcd a b := by unfold ok at h; omega
  by_cases h0 : a = 0
  · have hb0 : b ≠ 0 := by
      intro e
      rw [h0, e] at hg
      exact absurd hg (by decide)
    have := Nat.le_of_dvd (by omega : 0 < b.natAbs) (Nat.gcd_dvd_right a.natAbs b.natAbs)
    have e : Nat.gcd a.natAbs b.natAbs = Int.gcd a b := rfl
    right
    unfold ok at hb
    omega
  · have := Nat.le_of_dvd (by omega : 0 < a.natAbs) (Nat.gcd_dvd_left a.natAbs b.natAbs)
    have e : Nat.gcd a.natAbs b.natAbs = Int.gcd a b := rfl
    left
    unfold ok at ha
    omega
end In

set_option maxHeartbeats 4000000 in
set_option maxRecDepth 100000 in
theorem walk_divisors (a b : Int) (w : World) (ha : In.ok a) (hb : In.ok b) (hT : Tabs w) :
    Calls Tryd.prog 11 #[.int .i64 a, .int .i64 b] w fun e w' => e = .returned (.bool true) ∧ Below w.heap.size w w' := by
  have c1 := fun w => binary_any ⟨#[103, 99, 100]⟩ a b w (by decide) ha hb
  have c2 := fun w => binary_any ⟨#[103, 99, 100]⟩ b a w (by decide) hb ha
  rw [show bin (⟨#[103, 99, 100]⟩ : ByteArray).data.toList a b = In.fit (Int.gcd a b : Int) from rfl] at c1
  rw [show bin (⟨#[103, 99, 100]⟩ : ByteArray).data.toList b a = In.fit (Int.gcd b a : Int) from rfl, Int.gcd_comm b a] at c2
  unfold Ret2 at c1 c2
  have HT := Lib.hid hT
  clear hT
  by_cases hs : In.ok (Int.gcd a b : Int)
  · rw [In.fit_yes hs] at c1 c2
    simp only at c1 c2
    have hz : Int.gcd a b = 0 ↔ a = 0 ∧ b = 0 := Int.gcd_eq_zero_iff
    have da : a.tmod (Int.gcd a b : Int) = 0 := Int.tmod_eq_zero_of_dvd (Int.gcd_dvd_left a b)
    have db : b.tmod (Int.gcd a b : Int) = 0 := Int.tmod_eq_zero_of_dvd (Int.gcd_dvd_right a b)
    have hr : b ≠ 0 → Int.gcd b (a.tmod b) = Int.gcd a b := fun _ => gcd_step a b
    obtain ⟨g, hg⟩ : ∃ g, g = Int.gcd a b := ⟨_, rfl⟩
    rw [← hg] at c1 c2 hz da db hr hs
    by_cases g0 : g = 0
    · obtain ⟨rfl, rfl⟩ := hz.1 g0
      subst g0
      have C1 := Lib.hid c1
      have C2 := Lib.hid c2
      clear c1 c2 hz da db hr hs ha hb hg
      go_enter Tryd.func11, Tryd.ntmps11
      go_wp2_with fail
      refine (example_true _ HT.out).mono ?_
      rintro e w1 ⟨rfl, hb⟩
      have H1 := Lib.hid (hb)
      clear hb
      go_wp2_with fail
      refine (C1.out _).mono ?_
      rintro e w2 ⟨rfl, hb⟩
      have H2 := Lib.hid (H1.out.trans (hb.mono H1.out.size))
      clear hb
      go_wp2_with fail
      refine (C2.out _).mono ?_
      rintro e w3 ⟨rfl, hb⟩
      have H3 := Lib.hid (H2.out.trans (hb.mono H2.out.size))
      clear hb
      go_wp2_with fail
      go_ret
      exact ⟨rfl, H3.out⟩
    · have gp : (0 : Int) < (g : Int) := by omega
      have c3 := fun w => two_any ⟨#[114, 101, 109]⟩ a (g : Int) w (by decide) ha hs
      have c4 := fun w => two_any ⟨#[114, 101, 109]⟩ b (g : Int) w (by decide) hb hs
      have e3 : ∀ x : Int, x.tmod (g : Int) = 0 → bin (⟨#[114, 101, 109]⟩ : ByteArray).data.toList x (g : Int) = (0, 0) := fun x hx => by
        show In.rem x _ = _
        unfold In.rem
        rw [if_neg (by omega), hx]
      rw [e3 a da] at c3
      rw [e3 b db] at c4
      simp only at c3 c4
      rw [show ((0 : Int) == 0) = true from rfl] at c3 c4
      have hzz : (a = 0 → b ≠ 0) := fun h h' => g0 (hz.2 ⟨h, h'⟩)
      by_cases b0 : b = 0
      · have a0 : (a == 0) = false := by
          have : a ≠ 0 := fun h => hzz h b0
          simpa using this
        obtain ⟨G, hG⟩ : ∃ G : Int, G = (g : Int) := ⟨_, rfl⟩
        rw [← hG] at c1 c2 c3 c4 gp
        have gz : (G == 0) = false := by simp; omega
        subst b0
        have C1 := Lib.hid c1
        have C2 := Lib.hid c2
        have C3 := Lib.hid c3
        have C4 := Lib.hid c4
        clear c1 c2 c3 c4 hz da db hr hs ha hb hg e3 hzz hG g0
        go_enter Tryd.func11, Tryd.ntmps11
        go_wp2_with fail
        refine (example_true _ HT.out).mono ?_
        rintro e w1 ⟨rfl, hb⟩
        have H1 := Lib.hid (hb)
        clear hb
        go_wp2_with fail
        refine (C1.out _).mono ?_
        rintro e w2 ⟨rfl, hb⟩
        have H2 := Lib.hid (H1.out.trans (hb.mono H1.out.size))
        clear hb
        go_wp2_with fail
        refine (C2.out _).mono ?_
        rintro e w3 ⟨rfl, hb⟩
        have H3 := Lib.hid (H2.out.trans (hb.mono H2.out.size))
        clear hb
        go_wp2_with fail
        refine (C3.out _).mono ?_
        rintro e w4 ⟨rfl, hb⟩
        have H4 := Lib.hid (H3.out.trans (hb.mono H3.out.size))
        clear hb
        go_wp2_with fail
        refine (C4.out _).mono ?_
        rintro e w5 ⟨rfl, hb⟩
        have H5 := Lib.hid (H4.out.trans (hb.mono H4.out.size))
        clear hb
        go_wp2_with fail
        go_ret
        exact ⟨rfl, H5.out⟩
      · have c5 := fun w => two_any ⟨#[114, 101, 109]⟩ a b w (by decide) ha hb
        have or : In.ok (a.tmod b) := In.tmod_ok hb b0
        have c6 := fun w => two_any ⟨#[103, 99, 100]⟩ b (a.tmod b) w (by decide) hb or
        rw [show bin (⟨#[114, 101, 109]⟩ : ByteArray).data.toList a b = (a.tmod b, 0) from by
          show In.rem a b = _
          unfold In.rem
          rw [if_neg b0]] at c5
        rw [show bin (⟨#[103, 99, 100]⟩ : ByteArray).data.toList b (a.tmod b) = ((g : Int), 0) from by
          show In.fit _ = _
          rw [hr b0]
          exact In.fit_yes hs] at c6
        simp only at c5 c6
        rw [show ((0 : Int) == 0) = true from rfl] at c5 c6
        obtain ⟨G, hG⟩ : ∃ G : Int, G = (g : Int) := ⟨_, rfl⟩
        obtain ⟨r, hrr⟩ : ∃ G : Int, G = a.tmod b := ⟨_, rfl⟩
        rw [← hG] at c1 c2 c3 c4 c6 gp
        rw [← hrr] at c5 c6
        have gz : (G == 0) = false := by simp; omega
        have bz : (b == 0) = false := by simpa using b0
        have C1 := Lib.hid c1
        have C2 := Lib.hid c2
        have C3 := Lib.hid c3
        have C4 := Lib.hid c4
        have C5 := Lib.hid c5
        have C6 := Lib.hid c6
        by_cases a0 : a = 0
        · subst a0
          clear c1 c2 c3 c4 c5 c6 hz da db hr hs ha hb hg e3 hzz hG g0 b0 or hrr
          go_enter Tryd.func11, Tryd.ntmps11
          go_wp2_with fail
          refine (example_true _ HT.out).mono ?_
          rintro e w1 ⟨rfl, hb⟩
          have H1 := Lib.hid (hb)
          clear hb
          go_wp2_with fail
          refine (C1.out _).mono ?_
          rintro e w2 ⟨rfl, hb⟩
          have H2 := Lib.hid (H1.out.trans (hb.mono H1.out.size))
          clear hb
          go_wp2_with fail
          refine (C2.out _).mono ?_
          rintro e w3 ⟨rfl, hb⟩
          have H3 := Lib.hid (H2.out.trans (hb.mono H2.out.size))
          clear hb
          go_wp2_with fail
          refine (C3.out _).mono ?_
          rintro e w4 ⟨rfl, hb⟩
          have H4 := Lib.hid (H3.out.trans (hb.mono H3.out.size))
          clear hb
          go_wp2_with fail
          refine (C4.out _).mono ?_
          rintro e w5 ⟨rfl, hb⟩
          have H5 := Lib.hid (H4.out.trans (hb.mono H4.out.size))
          clear hb
          go_wp2_with fail
          refine (C5.out _).mono ?_
          rintro e w6 ⟨rfl, hb⟩
          have H6 := Lib.hid (H5.out.trans (hb.mono H5.out.size))
          clear hb
          go_wp2_with fail
          refine (C6.out _).mono ?_
          rintro e w7 ⟨rfl, hb⟩
          have H7 := Lib.hid (H6.out.trans (hb.mono H6.out.size))
          clear hb
          go_wp2_with fail
          go_ret
          exact ⟨rfl, H7.out⟩
        · have az : (a == 0) = false := by simpa using a0
          clear c1 c2 c3 c4 c5 c6 hz da db hr hs ha hb hg e3 hzz hG g0 b0 or hrr a0
          go_enter Tryd.func11, Tryd.ntmps11
          go_wp2_with fail
          refine (example_true _ HT.out).mono ?_
          rintro e w1 ⟨rfl, hb⟩
          have H1 := Lib.hid (hb)
          clear hb
          go_wp2_with fail
          refine (C1.out _).mono ?_
          rintro e w2 ⟨rfl, hb⟩
          have H2 := Lib.hid (H1.out.trans (hb.mono H1.out.size))
          clear hb
          go_wp2_with fail
          refine (C2.out _).mono ?_
          rintro e w3 ⟨rfl, hb⟩
          have H3 := Lib.hid (H2.out.trans (hb.mono H2.out.size))
          clear hb
          go_wp2_with fail
          refine (C3.out _).mono ?_
          rintro e w4 ⟨rfl, hb⟩
          have H4 := Lib.hid (H3.out.trans (hb.mono H3.out.size))
          clear hb
          go_wp2_with fail
          refine (C4.out _).mono ?_
          rintro e w5 ⟨rfl, hb⟩
          have H5 := Lib.hid (H4.out.trans (hb.mono H4.out.size))
          clear hb
          go_wp2_with fail
          refine (C5.out _).mono ?_
          rintro e w6 ⟨rfl, hb⟩
          have H6 := Lib.hid (H5.out.trans (hb.mono H5.out.size))
          clear hb
          go_wp2_with fail
          refine (C6.out _).mono ?_
          rintro e w7 ⟨rfl, hb⟩
          have H7 := Lib.hid (H6.out.trans (hb.mono H6.out.size))
          clear hb
          go_wp2_with fail
          go_ret
          exact ⟨rfl, H7.out⟩
  · rw [In.fit_no hs] at c1 c2
    have C1 := Lib.hid c1
    have C2 := Lib.hid c2
    have hbig := In.gcd_big ha hb hs
    by_cases am : a = -9223372036854775808
    · have at1 : (a == -9223372036854775808) = true := by simpa using am
      clear c1 c2 hs hbig ha hb am
      go_enter Tryd.func11, Tryd.ntmps11
      go_wp2_with fail
      refine (example_true _ HT.out).mono ?_
      rintro e w1 ⟨rfl, hb⟩
      have H1 := Lib.hid (hb)
      clear hb
      go_wp2_with fail
      refine (C1.out _).mono ?_
      rintro e w2 ⟨rfl, hb⟩
      have H2 := Lib.hid (H1.out.trans (hb.mono H1.out.size))
      clear hb
      go_wp2_with fail
      refine (C2.out _).mono ?_
      rintro e w3 ⟨rfl, hb⟩
      have H3 := Lib.hid (H2.out.trans (hb.mono H2.out.size))
      clear hb
      go_wp2_with fail
      go_ret
      exact ⟨rfl, H3.out⟩
    · have at1 : (a == -9223372036854775808) = false := by simpa using am
      have at2 : (b == -9223372036854775808) = true := by simpa using hbig.resolve_left am
      clear c1 c2 hs hbig ha hb am
      go_enter Tryd.func11, Tryd.ntmps11
      go_wp2_with fail
      refine (example_true _ HT.out).mono ?_
      rintro e w1 ⟨rfl, hb⟩
      have H1 := Lib.hid (hb)
      clear hb
      go_wp2_with fail
      refine (C1.out _).mono ?_
      rintro e w2 ⟨rfl, hb⟩
      have H2 := Lib.hid (H1.out.trans (hb.mono H1.out.size))
      clear hb
      go_wp2_with fail
      refine (C2.out _).mono ?_
      rintro e w3 ⟨rfl, hb⟩
      have H3 := Lib.hid (H2.out.trans (hb.mono H2.out.size))
      clear hb
      go_wp2_with fail
      go_ret
      exact ⟨rfl, H3.out⟩
end Go.Proofs.YtlajghpikilkgaaDoor
