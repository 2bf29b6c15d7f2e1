/-
  The walks of IntsDivides: they return true for every input.
-/
import Derived.Test.YtlajghpikilkgaaDoorExample
import Derived.Test.YtlajghpikilkgaaDoorRefPower
namespace Go.Proofs.YtlajghpikilkgaaDoor
set_option linter.unusedVariables false
set_option linter.unusedSimpArgs false
open Go.RowKit

set_option maxHeartbeats 1000000 in
/-- nearer: the remainder is nearer to 0 than the divisor. -/
theorem nearer_true (r b : Int) (w : World) (hr : In.ok r) (hb : In.ok b) (h : r.natAbs < b.natAbs) :
    Calls Tryd.prog 25 #[.int .i64 r, .int .i64 b] w fun e w' => e = .returned (.bool true) ∧ w = w' := by
  obtain ⟨r0, r1⟩ := hr
  obtain ⟨b0, b1⟩ := hb
  rcases (show (b < 0 ∧ r ≤ 0) ∨ (b < 0 ∧ 0 < r) ∨ (0 < b ∧ 0 ≤ r) ∨ (0 < b ∧ r < 0) by omega) with ⟨g, g'⟩ | ⟨g, g'⟩ | ⟨g, g'⟩ | ⟨g, g'⟩
  · have h1 : b < r := by omega
    clear h
    go_enter Tryd.func25, Tryd.ntmps25
    go_wp2_with fail
    go_ret
    exact ⟨rfl, rfl⟩
  · have h1 : b < r := by omega
    have h2 : b < -r := by omega
    clear h
    go_enter Tryd.func25, Tryd.ntmps25
    go_wp2_with fail
    go_ret
    exact ⟨rfl, rfl⟩
  · have h1 : r < b := by omega
    have h2 : ¬ b < 0 := by omega
    clear h
    go_enter Tryd.func25, Tryd.ntmps25
    go_wp2_with fail
    go_ret
    exact ⟨rfl, rfl⟩
  · have h1 : r < b := by omega
    have h2 : -b < r := by omega
    have h3 : ¬ b < 0 := by omega
    have h4 : ¬ 0 ≤ r := by omega
    clear h
    go_enter Tryd.func25, Tryd.ntmps25
    go_wp2_with fail
    go_ret
    exact ⟨rfl, rfl⟩

namespace In
theorem fmod_abs {a b : Int} (hb0 : b ≠ 0) : (a.fmod b).natAbs < b.natAbs ∧ (a.fmod b = 0 ∨ (a.fmod b < 0 ↔ b < 0)) := by
  have ht := tmod_abs a b hb0
  by_cases h : a.tmod b = 0 ∨ (a.tmod b < 0 ↔ b < 0)
  · rw [(floor_same hb0 h).1]; exact ⟨ht, h⟩
  · have h0 := fun e => h (.inl e)
    have h1 := fun e => h (.inr e)
    rw [(floor_other hb0 h0 h1).1]
    omega
end In

set_option maxHeartbeats 4000000 in
set_option maxRecDepth 100000 in
theorem divides_zero (a : Int) (w : World) (ha : In.ok a) (hT : Tabs w) :
    Calls Tryd.prog 7 #[.int .i64 a, .int .i64 0] w fun e w' => e = .returned (.bool true) ∧ Below w.heap.size w w' := by
  have c1 := fun w => two_any ⟨#[47, 47]⟩ a 0 w (by decide) ha (by decide)
  have c2 := fun w => two_any ⟨#[114, 101, 109]⟩ a 0 w (by decide) ha (by decide)
  have c3 := fun w => two_any ⟨#[100, 105, 118]⟩ a 0 w (by decide) ha (by decide)
  have c4 := fun w => two_any ⟨#[109, 111, 100]⟩ a 0 w (by decide) ha (by decide)
  rw [show bin (⟨#[47, 47]⟩ : ByteArray).data.toList a 0 = (0, 11) from rfl] at c1
  rw [show bin (⟨#[114, 101, 109]⟩ : ByteArray).data.toList a 0 = (0, 11) from rfl] at c2
  rw [show bin (⟨#[100, 105, 118]⟩ : ByteArray).data.toList a 0 = (0, 11) from rfl] at c3
  rw [show bin (⟨#[109, 111, 100]⟩ : ByteArray).data.toList a 0 = (0, 11) from rfl] at c4
  simp only at c1 c2 c3 c4
  rw [show ((11 : Int) == 0) = false from rfl] at c1 c2 c3 c4
  have C1 := Lib.hid c1
  have C2 := Lib.hid c2
  have C3 := Lib.hid c3
  have C4 := Lib.hid c4
  have HT := Lib.hid hT
  clear c1 c2 c3 c4 hT ha
  go_enter Tryd.func7, Tryd.ntmps7
  go_wp2_with fail
  refine (example_true _ HT.out).mono ?_
  rintro e w1 ⟨rfl, hb⟩
  have H1 := Lib.hid (hb)
  clear hb
  go_wp2_with fail
  refine (C1.out _).mono ?_
  rintro e w2 ⟨rfl, hb⟩
  have H2 := Lib.hid (H1.out.trans (hb.mono H1.out.size))
  clear hb
  go_wp2_with fail
  refine (C2.out _).mono ?_
  rintro e w3 ⟨rfl, hb⟩
  have H3 := Lib.hid (H2.out.trans (hb.mono H2.out.size))
  clear hb
  go_wp2_with fail
  refine (C3.out _).mono ?_
  rintro e w4 ⟨rfl, hb⟩
  have H4 := Lib.hid (H3.out.trans (hb.mono H3.out.size))
  clear hb
  go_wp2_with fail
  refine (C4.out _).mono ?_
  rintro e w5 ⟨rfl, hb⟩
  have H5 := Lib.hid (H4.out.trans (hb.mono H4.out.size))
  clear hb
  go_wp2_with fail
  go_ret
  exact ⟨rfl, H5.out⟩

/-- The four values, where the divisor is not 0: what the walk's tests ask of them. -/
theorem divides_facts {a b : Int} (ha : In.ok a) (hb : In.ok b) (hb0 : b ≠ 0) (h : ¬ (a = -9223372036854775808 ∧ b = -1)) :
    wrap64 (wrap64 (a.tdiv b * b) + a.tmod b) = a ∧ wrap64 (wrap64 (a.fdiv b * b) + a.fmod b) = a := by
  have h1 := Int.tmod_add_tdiv_mul a b
  have h2 := Int.fmod_add_fdiv_mul a b
  unfold In.ok at ha
  constructor
  · obtain ⟨x, hx⟩ : ∃ x, x = a.tdiv b * b := ⟨_, rfl⟩
    rw [← hx] at h1 ⊢
    unfold wrap64; omega
  · obtain ⟨x, hx⟩ : ∃ x, x = a.fdiv b * b := ⟨_, rfl⟩
    rw [← hx] at h2 ⊢
    unfold wrap64; omega

/-- The two remainders' signs: each way through the tests. -/
theorem rem_ways {a b : Int} (hb0 : b ≠ 0) :
    (a.tmod b = 0 ∨ (a.tmod b < 0 ∧ a < 0) ∨ (0 < a.tmod b ∧ 0 < a)) ∧ (a.fmod b = 0 ∨ (a.fmod b < 0 ∧ b < 0) ∨ (0 < a.fmod b ∧ 0 < b)) := by
  have h1 := In.tmod_sign a b
  have h2 := (In.fmod_abs (a := a) hb0).2
  constructor
  · omega
  · omega

set_option maxHeartbeats 4000000 in
set_option maxRecDepth 100000 in
theorem divides_rest (a b : Int) (w : World) (ha : In.ok a) (hb : In.ok b) (hb0 : b ≠ 0) (hT : Tabs w) (p : Bool) (q d r m : Int) (hp : p = true ↔ ¬ (a = -9223372036854775808 ∧ b = -1))
    (hr : r = a.tmod b) (hm : m = a.fmod b) (hq : p = true → q = a.tdiv b ∧ d = a.fdiv b)
    (c1 : ∀ w, Calls Tryd.prog 24 #[.string ⟨#[47, 47]⟩, .int .i64 a, .int .i64 b] w fun e w' => e = .returned (.tuple #[.int .i64 q, .bool p]) ∧ Below w.heap.size w w')
    (c2 : ∀ w, Calls Tryd.prog 24 #[.string ⟨#[114, 101, 109]⟩, .int .i64 a, .int .i64 b] w fun e w' => e = .returned (.tuple #[.int .i64 r, .bool true]) ∧ Below w.heap.size w w')
    (c3 : ∀ w, Calls Tryd.prog 24 #[.string ⟨#[100, 105, 118]⟩, .int .i64 a, .int .i64 b] w fun e w' => e = .returned (.tuple #[.int .i64 d, .bool p]) ∧ Below w.heap.size w w')
    (c4 : ∀ w, Calls Tryd.prog 24 #[.string ⟨#[109, 111, 100]⟩, .int .i64 a, .int .i64 b] w fun e w' => e = .returned (.tuple #[.int .i64 m, .bool true]) ∧ Below w.heap.size w w') :
    Calls Tryd.prog 7 #[.int .i64 a, .int .i64 b] w fun e w' => e = .returned (.bool true) ∧ Below w.heap.size w w' := by
  have hw := rem_ways (a := a) hb0
  have n1 := fun w => nearer_true r b w (by rw [hr]; exact In.tmod_ok hb hb0) hb (by rw [hr]; exact In.tmod_abs a b hb0)
  have n2 := fun w => nearer_true m b w (by rw [hm]; exact In.fmod_ok hb hb0) hb (by rw [hm]; exact (In.fmod_abs hb0).1)
  have hbz : (b == 0) = false := by simpa using hb0
  have hf := fun h => divides_facts ha hb hb0 h
  have t0 : wrap64 a = a := In.wrap_of_ok ha
  rw [← hr, ← hm] at hw hf
  obtain ⟨w1, w2⟩ := hw
  have C1 := Lib.hid c1
  have C2 := Lib.hid c2
  have C3 := Lib.hid c3
  have C4 := Lib.hid c4
  have N1 := Lib.hid n1
  have N2 := Lib.hid n2
  have HT := Lib.hid hT
  clear c1 c2 c3 c4 n1 n2 hT ha hb hr hm
  have g0 : (a == -9223372036854775808 && b == -1) = !p := by
    cases p
    · have : a = -9223372036854775808 ∧ b = -1 := Classical.byContradiction fun h => Bool.noConfusion (hp.2 h)
      simp [this.1, this.2]
    · have := hp.1 rfl
      by_cases e : a = -9223372036854775808
      · have : b ≠ -1 := fun e' => this ⟨e, e'⟩
        simp [this]
      · simp [e]
  cases p
  · obtain ⟨rfl, rfl⟩ : a = -9223372036854775808 ∧ b = -1 := Classical.byContradiction fun h => Bool.noConfusion (hp.2 h)
    clear hf hp hq g0 hb0 hbz
    rcases w1 with h1 | ⟨h1, h1'⟩ | ⟨h1, h1'⟩
    · subst h1
      rcases w2 with h2 | ⟨h2, h2'⟩ | ⟨h2, h2'⟩
      · subst h2
        go_enter Tryd.func7, Tryd.ntmps7
        go_wp2_with fail
        refine (example_true _ HT.out).mono ?_
        rintro e w1 ⟨rfl, hb⟩
        have H1 := Lib.hid (hb)
        clear hb
        go_wp2_with fail
        refine (C1.out _).mono ?_
        rintro e w2 ⟨rfl, hb⟩
        have H2 := Lib.hid (H1.out.trans (hb.mono H1.out.size))
        clear hb
        go_wp2_with fail
        refine (C2.out _).mono ?_
        rintro e w3 ⟨rfl, hb⟩
        have H3 := Lib.hid (H2.out.trans (hb.mono H2.out.size))
        clear hb
        go_wp2_with fail
        refine (C3.out _).mono ?_
        rintro e w4 ⟨rfl, hb⟩
        have H4 := Lib.hid (H3.out.trans (hb.mono H3.out.size))
        clear hb
        go_wp2_with fail
        refine (C4.out _).mono ?_
        rintro e w5 ⟨rfl, hb⟩
        have H5 := Lib.hid (H4.out.trans (hb.mono H4.out.size))
        clear hb
        go_wp2_with fail
        refine (N1.out _).mono ?_
        rintro e w6 ⟨rfl, rfl⟩
        go_wp2_with fail
        refine (N2.out _).mono ?_
        rintro e w7 ⟨rfl, rfl⟩
        go_wp2_with fail
        go_ret
        exact ⟨rfl, H5.out⟩
      · have h3 : (m == 0) = false := by simp; omega
        go_enter Tryd.func7, Tryd.ntmps7
        go_wp2_with fail
        refine (example_true _ HT.out).mono ?_
        rintro e w1 ⟨rfl, hb⟩
        have H1 := Lib.hid (hb)
        clear hb
        go_wp2_with fail
        refine (C1.out _).mono ?_
        rintro e w2 ⟨rfl, hb⟩
        have H2 := Lib.hid (H1.out.trans (hb.mono H1.out.size))
        clear hb
        go_wp2_with fail
        refine (C2.out _).mono ?_
        rintro e w3 ⟨rfl, hb⟩
        have H3 := Lib.hid (H2.out.trans (hb.mono H2.out.size))
        clear hb
        go_wp2_with fail
        refine (C3.out _).mono ?_
        rintro e w4 ⟨rfl, hb⟩
        have H4 := Lib.hid (H3.out.trans (hb.mono H3.out.size))
        clear hb
        go_wp2_with fail
        refine (C4.out _).mono ?_
        rintro e w5 ⟨rfl, hb⟩
        have H5 := Lib.hid (H4.out.trans (hb.mono H4.out.size))
        clear hb
        go_wp2_with fail
        refine (N1.out _).mono ?_
        rintro e w6 ⟨rfl, rfl⟩
        go_wp2_with fail
        refine (N2.out _).mono ?_
        rintro e w7 ⟨rfl, rfl⟩
        go_wp2_with fail
        go_ret
        exact ⟨rfl, H5.out⟩
      · omega
    · have h3 : (r == 0) = false := by simp; omega
      rcases w2 with h2 | ⟨h2, h2'⟩ | ⟨h2, h2'⟩
      · subst h2
        go_enter Tryd.func7, Tryd.ntmps7
        go_wp2_with fail
        refine (example_true _ HT.out).mono ?_
        rintro e w1 ⟨rfl, hb⟩
        have H1 := Lib.hid (hb)
        clear hb
        go_wp2_with fail
        refine (C1.out _).mono ?_
        rintro e w2 ⟨rfl, hb⟩
        have H2 := Lib.hid (H1.out.trans (hb.mono H1.out.size))
        clear hb
        go_wp2_with fail
        refine (C2.out _).mono ?_
        rintro e w3 ⟨rfl, hb⟩
        have H3 := Lib.hid (H2.out.trans (hb.mono H2.out.size))
        clear hb
        go_wp2_with fail
        refine (C3.out _).mono ?_
        rintro e w4 ⟨rfl, hb⟩
        have H4 := Lib.hid (H3.out.trans (hb.mono H3.out.size))
        clear hb
        go_wp2_with fail
        refine (C4.out _).mono ?_
        rintro e w5 ⟨rfl, hb⟩
        have H5 := Lib.hid (H4.out.trans (hb.mono H4.out.size))
        clear hb
        go_wp2_with fail
        refine (N1.out _).mono ?_
        rintro e w6 ⟨rfl, rfl⟩
        go_wp2_with fail
        refine (N2.out _).mono ?_
        rintro e w7 ⟨rfl, rfl⟩
        go_wp2_with fail
        go_ret
        exact ⟨rfl, H5.out⟩
      · have h4 : (m == 0) = false := by simp; omega
        go_enter Tryd.func7, Tryd.ntmps7
        go_wp2_with fail
        refine (example_true _ HT.out).mono ?_
        rintro e w1 ⟨rfl, hb⟩
        have H1 := Lib.hid (hb)
        clear hb
        go_wp2_with fail
        refine (C1.out _).mono ?_
        rintro e w2 ⟨rfl, hb⟩
        have H2 := Lib.hid (H1.out.trans (hb.mono H1.out.size))
        clear hb
        go_wp2_with fail
        refine (C2.out _).mono ?_
        rintro e w3 ⟨rfl, hb⟩
        have H3 := Lib.hid (H2.out.trans (hb.mono H2.out.size))
        clear hb
        go_wp2_with fail
        refine (C3.out _).mono ?_
        rintro e w4 ⟨rfl, hb⟩
        have H4 := Lib.hid (H3.out.trans (hb.mono H3.out.size))
        clear hb
        go_wp2_with fail
        refine (C4.out _).mono ?_
        rintro e w5 ⟨rfl, hb⟩
        have H5 := Lib.hid (H4.out.trans (hb.mono H4.out.size))
        clear hb
        go_wp2_with fail
        refine (N1.out _).mono ?_
        rintro e w6 ⟨rfl, rfl⟩
        go_wp2_with fail
        refine (N2.out _).mono ?_
        rintro e w7 ⟨rfl, rfl⟩
        go_wp2_with fail
        go_ret
        exact ⟨rfl, H5.out⟩
      · omega
    · omega
  · obtain ⟨rfl, rfl⟩ := hq rfl
    obtain ⟨f1, f2⟩ := hf (hp.1 rfl)
    obtain ⟨q, hq1⟩ : ∃ q, q = a.tdiv b := ⟨_, rfl⟩
    obtain ⟨d, hd1⟩ : ∃ q, q = a.fdiv b := ⟨_, rfl⟩
    rw [← hq1] at C1 f1
    rw [← hd1] at C3 f2
    have t1 := f1
    have t2 := f2
    have g1 : (a == -9223372036854775808 && b == -1) = false := by simpa using g0
    clear hf hp hq hb0 hq1 hd1 f1 f2 g0
    rcases w1 with h1 | ⟨h1, h1'⟩ | ⟨h1, h1'⟩
    · subst h1
      have t5 : wrap64 (wrap64 (q * b)) = a := by rw [Int.add_zero] at t1; exact t1
      have t6 : wrap64 (q * b) = a := by rw [← t5]; unfold wrap64; omega
      by_cases am : a = -9223372036854775808
      · have am1 : (a == -9223372036854775808) = true := by simpa using am
        have am2 : (b == -1) = false := by rw [am1] at g1; simpa using g1
        clear am g1
        rcases w2 with h2 | ⟨h2, h2'⟩ | ⟨h2, h2'⟩
        · subst h2
          have t3 : wrap64 (wrap64 (d * b)) = a := by rw [Int.add_zero] at t2; exact t2
          have t4 : wrap64 (d * b) = a := by rw [← t3]; unfold wrap64; omega
          go_enter Tryd.func7, Tryd.ntmps7
          go_wp2_with fail
          refine (example_true _ HT.out).mono ?_
          rintro e w1 ⟨rfl, hb⟩
          have H1 := Lib.hid (hb)
          clear hb
          go_wp2_with fail
          refine (C1.out _).mono ?_
          rintro e w2 ⟨rfl, hb⟩
          have H2 := Lib.hid (H1.out.trans (hb.mono H1.out.size))
          clear hb
          go_wp2_with fail
          refine (C2.out _).mono ?_
          rintro e w3 ⟨rfl, hb⟩
          have H3 := Lib.hid (H2.out.trans (hb.mono H2.out.size))
          clear hb
          go_wp2_with fail
          refine (C3.out _).mono ?_
          rintro e w4 ⟨rfl, hb⟩
          have H4 := Lib.hid (H3.out.trans (hb.mono H3.out.size))
          clear hb
          go_wp2_with fail
          refine (C4.out _).mono ?_
          rintro e w5 ⟨rfl, hb⟩
          have H5 := Lib.hid (H4.out.trans (hb.mono H4.out.size))
          clear hb
          go_wp2_with fail
          refine (N1.out _).mono ?_
          rintro e w6 ⟨rfl, rfl⟩
          go_wp2_with fail
          refine (N2.out _).mono ?_
          rintro e w7 ⟨rfl, rfl⟩
          go_wp2_with fail
          go_ret
          exact ⟨rfl, H5.out⟩
        · have m0 : (m == 0) = false := by simp; omega
          have m3 : ¬ m = 0 := by omega
          go_enter Tryd.func7, Tryd.ntmps7
          go_wp2_with fail
          refine (example_true _ HT.out).mono ?_
          rintro e w1 ⟨rfl, hb⟩
          have H1 := Lib.hid (hb)
          clear hb
          go_wp2_with fail
          refine (C1.out _).mono ?_
          rintro e w2 ⟨rfl, hb⟩
          have H2 := Lib.hid (H1.out.trans (hb.mono H1.out.size))
          clear hb
          go_wp2_with fail
          refine (C2.out _).mono ?_
          rintro e w3 ⟨rfl, hb⟩
          have H3 := Lib.hid (H2.out.trans (hb.mono H2.out.size))
          clear hb
          go_wp2_with fail
          refine (C3.out _).mono ?_
          rintro e w4 ⟨rfl, hb⟩
          have H4 := Lib.hid (H3.out.trans (hb.mono H3.out.size))
          clear hb
          go_wp2_with fail
          refine (C4.out _).mono ?_
          rintro e w5 ⟨rfl, hb⟩
          have H5 := Lib.hid (H4.out.trans (hb.mono H4.out.size))
          clear hb
          go_wp2_with fail
          refine (N1.out _).mono ?_
          rintro e w6 ⟨rfl, rfl⟩
          go_wp2_with fail
          refine (N2.out _).mono ?_
          rintro e w7 ⟨rfl, rfl⟩
          go_wp2_with fail
          go_ret
          exact ⟨rfl, H5.out⟩
        · have m0 : (m == 0) = false := by simp; omega
          have m3 : ¬ m = 0 := by omega
          have m1 : decide (m < 0) = false := decide_eq_false (by omega)
          have m2 : decide (b < 0) = false := decide_eq_false (by omega)
          go_enter Tryd.func7, Tryd.ntmps7
          go_wp2_with fail
          refine (example_true _ HT.out).mono ?_
          rintro e w1 ⟨rfl, hb⟩
          have H1 := Lib.hid (hb)
          clear hb
          go_wp2_with fail
          refine (C1.out _).mono ?_
          rintro e w2 ⟨rfl, hb⟩
          have H2 := Lib.hid (H1.out.trans (hb.mono H1.out.size))
          clear hb
          go_wp2_with fail
          refine (C2.out _).mono ?_
          rintro e w3 ⟨rfl, hb⟩
          have H3 := Lib.hid (H2.out.trans (hb.mono H2.out.size))
          clear hb
          go_wp2_with fail
          refine (C3.out _).mono ?_
          rintro e w4 ⟨rfl, hb⟩
          have H4 := Lib.hid (H3.out.trans (hb.mono H3.out.size))
          clear hb
          go_wp2_with fail
          refine (C4.out _).mono ?_
          rintro e w5 ⟨rfl, hb⟩
          have H5 := Lib.hid (H4.out.trans (hb.mono H4.out.size))
          clear hb
          go_wp2_with fail
          refine (N1.out _).mono ?_
          rintro e w6 ⟨rfl, rfl⟩
          go_wp2_with fail
          refine (N2.out _).mono ?_
          rintro e w7 ⟨rfl, rfl⟩
          go_wp2_with fail
          go_ret
          exact ⟨rfl, H5.out⟩
      · have am1 : (a == -9223372036854775808) = false := by simpa using am
        clear am g1
        rcases w2 with h2 | ⟨h2, h2'⟩ | ⟨h2, h2'⟩
        · subst h2
          have t3 : wrap64 (wrap64 (d * b)) = a := by rw [Int.add_zero] at t2; exact t2
          have t4 : wrap64 (d * b) = a := by rw [← t3]; unfold wrap64; omega
          go_enter Tryd.func7, Tryd.ntmps7
          go_wp2_with fail
          refine (example_true _ HT.out).mono ?_
          rintro e w1 ⟨rfl, hb⟩
          have H1 := Lib.hid (hb)
          clear hb
          go_wp2_with fail
          refine (C1.out _).mono ?_
          rintro e w2 ⟨rfl, hb⟩
          have H2 := Lib.hid (H1.out.trans (hb.mono H1.out.size))
          clear hb
          go_wp2_with fail
          refine (C2.out _).mono ?_
          rintro e w3 ⟨rfl, hb⟩
          have H3 := Lib.hid (H2.out.trans (hb.mono H2.out.size))
          clear hb
          go_wp2_with fail
          refine (C3.out _).mono ?_
          rintro e w4 ⟨rfl, hb⟩
          have H4 := Lib.hid (H3.out.trans (hb.mono H3.out.size))
          clear hb
          go_wp2_with fail
          refine (C4.out _).mono ?_
          rintro e w5 ⟨rfl, hb⟩
          have H5 := Lib.hid (H4.out.trans (hb.mono H4.out.size))
          clear hb
          go_wp2_with fail
          refine (N1.out _).mono ?_
          rintro e w6 ⟨rfl, rfl⟩
          go_wp2_with fail
          refine (N2.out _).mono ?_
          rintro e w7 ⟨rfl, rfl⟩
          go_wp2_with fail
          go_ret
          exact ⟨rfl, H5.out⟩
        · have m0 : (m == 0) = false := by simp; omega
          have m3 : ¬ m = 0 := by omega
          go_enter Tryd.func7, Tryd.ntmps7
          go_wp2_with fail
          refine (example_true _ HT.out).mono ?_
          rintro e w1 ⟨rfl, hb⟩
          have H1 := Lib.hid (hb)
          clear hb
          go_wp2_with fail
          refine (C1.out _).mono ?_
          rintro e w2 ⟨rfl, hb⟩
          have H2 := Lib.hid (H1.out.trans (hb.mono H1.out.size))
          clear hb
          go_wp2_with fail
          refine (C2.out _).mono ?_
          rintro e w3 ⟨rfl, hb⟩
          have H3 := Lib.hid (H2.out.trans (hb.mono H2.out.size))
          clear hb
          go_wp2_with fail
          refine (C3.out _).mono ?_
          rintro e w4 ⟨rfl, hb⟩
          have H4 := Lib.hid (H3.out.trans (hb.mono H3.out.size))
          clear hb
          go_wp2_with fail
          refine (C4.out _).mono ?_
          rintro e w5 ⟨rfl, hb⟩
          have H5 := Lib.hid (H4.out.trans (hb.mono H4.out.size))
          clear hb
          go_wp2_with fail
          refine (N1.out _).mono ?_
          rintro e w6 ⟨rfl, rfl⟩
          go_wp2_with fail
          refine (N2.out _).mono ?_
          rintro e w7 ⟨rfl, rfl⟩
          go_wp2_with fail
          go_ret
          exact ⟨rfl, H5.out⟩
        · have m0 : (m == 0) = false := by simp; omega
          have m3 : ¬ m = 0 := by omega
          have m1 : decide (m < 0) = false := decide_eq_false (by omega)
          have m2 : decide (b < 0) = false := decide_eq_false (by omega)
          go_enter Tryd.func7, Tryd.ntmps7
          go_wp2_with fail
          refine (example_true _ HT.out).mono ?_
          rintro e w1 ⟨rfl, hb⟩
          have H1 := Lib.hid (hb)
          clear hb
          go_wp2_with fail
          refine (C1.out _).mono ?_
          rintro e w2 ⟨rfl, hb⟩
          have H2 := Lib.hid (H1.out.trans (hb.mono H1.out.size))
          clear hb
          go_wp2_with fail
          refine (C2.out _).mono ?_
          rintro e w3 ⟨rfl, hb⟩
          have H3 := Lib.hid (H2.out.trans (hb.mono H2.out.size))
          clear hb
          go_wp2_with fail
          refine (C3.out _).mono ?_
          rintro e w4 ⟨rfl, hb⟩
          have H4 := Lib.hid (H3.out.trans (hb.mono H3.out.size))
          clear hb
          go_wp2_with fail
          refine (C4.out _).mono ?_
          rintro e w5 ⟨rfl, hb⟩
          have H5 := Lib.hid (H4.out.trans (hb.mono H4.out.size))
          clear hb
          go_wp2_with fail
          refine (N1.out _).mono ?_
          rintro e w6 ⟨rfl, rfl⟩
          go_wp2_with fail
          refine (N2.out _).mono ?_
          rintro e w7 ⟨rfl, rfl⟩
          go_wp2_with fail
          go_ret
          exact ⟨rfl, H5.out⟩
    · have r0 : (r == 0) = false := by simp; omega
      have r3 : ¬ r = 0 := by omega
      by_cases am : a = -9223372036854775808
      · have am1 : (a == -9223372036854775808) = true := by simpa using am
        have am2 : (b == -1) = false := by rw [am1] at g1; simpa using g1
        clear am g1
        rcases w2 with h2 | ⟨h2, h2'⟩ | ⟨h2, h2'⟩
        · subst h2
          have t3 : wrap64 (wrap64 (d * b)) = a := by rw [Int.add_zero] at t2; exact t2
          have t4 : wrap64 (d * b) = a := by rw [← t3]; unfold wrap64; omega
          go_enter Tryd.func7, Tryd.ntmps7
          go_wp2_with fail
          refine (example_true _ HT.out).mono ?_
          rintro e w1 ⟨rfl, hb⟩
          have H1 := Lib.hid (hb)
          clear hb
          go_wp2_with fail
          refine (C1.out _).mono ?_
          rintro e w2 ⟨rfl, hb⟩
          have H2 := Lib.hid (H1.out.trans (hb.mono H1.out.size))
          clear hb
          go_wp2_with fail
          refine (C2.out _).mono ?_
          rintro e w3 ⟨rfl, hb⟩
          have H3 := Lib.hid (H2.out.trans (hb.mono H2.out.size))
          clear hb
          go_wp2_with fail
          refine (C3.out _).mono ?_
          rintro e w4 ⟨rfl, hb⟩
          have H4 := Lib.hid (H3.out.trans (hb.mono H3.out.size))
          clear hb
          go_wp2_with fail
          refine (C4.out _).mono ?_
          rintro e w5 ⟨rfl, hb⟩
          have H5 := Lib.hid (H4.out.trans (hb.mono H4.out.size))
          clear hb
          go_wp2_with fail
          refine (N1.out _).mono ?_
          rintro e w6 ⟨rfl, rfl⟩
          go_wp2_with fail
          refine (N2.out _).mono ?_
          rintro e w7 ⟨rfl, rfl⟩
          go_wp2_with fail
          go_ret
          exact ⟨rfl, H5.out⟩
        · have m0 : (m == 0) = false := by simp; omega
          have m3 : ¬ m = 0 := by omega
          go_enter Tryd.func7, Tryd.ntmps7
          go_wp2_with fail
          refine (example_true _ HT.out).mono ?_
          rintro e w1 ⟨rfl, hb⟩
          have H1 := Lib.hid (hb)
          clear hb
          go_wp2_with fail
          refine (C1.out _).mono ?_
          rintro e w2 ⟨rfl, hb⟩
          have H2 := Lib.hid (H1.out.trans (hb.mono H1.out.size))
          clear hb
          go_wp2_with fail
          refine (C2.out _).mono ?_
          rintro e w3 ⟨rfl, hb⟩
          have H3 := Lib.hid (H2.out.trans (hb.mono H2.out.size))
          clear hb
          go_wp2_with fail
          refine (C3.out _).mono ?_
          rintro e w4 ⟨rfl, hb⟩
          have H4 := Lib.hid (H3.out.trans (hb.mono H3.out.size))
          clear hb
          go_wp2_with fail
          refine (C4.out _).mono ?_
          rintro e w5 ⟨rfl, hb⟩
          have H5 := Lib.hid (H4.out.trans (hb.mono H4.out.size))
          clear hb
          go_wp2_with fail
          refine (N1.out _).mono ?_
          rintro e w6 ⟨rfl, rfl⟩
          go_wp2_with fail
          refine (N2.out _).mono ?_
          rintro e w7 ⟨rfl, rfl⟩
          go_wp2_with fail
          go_ret
          exact ⟨rfl, H5.out⟩
        · have m0 : (m == 0) = false := by simp; omega
          have m3 : ¬ m = 0 := by omega
          have m1 : decide (m < 0) = false := decide_eq_false (by omega)
          have m2 : decide (b < 0) = false := decide_eq_false (by omega)
          go_enter Tryd.func7, Tryd.ntmps7
          go_wp2_with fail
          refine (example_true _ HT.out).mono ?_
          rintro e w1 ⟨rfl, hb⟩
          have H1 := Lib.hid (hb)
          clear hb
          go_wp2_with fail
          refine (C1.out _).mono ?_
          rintro e w2 ⟨rfl, hb⟩
          have H2 := Lib.hid (H1.out.trans (hb.mono H1.out.size))
          clear hb
          go_wp2_with fail
          refine (C2.out _).mono ?_
          rintro e w3 ⟨rfl, hb⟩
          have H3 := Lib.hid (H2.out.trans (hb.mono H2.out.size))
          clear hb
          go_wp2_with fail
          refine (C3.out _).mono ?_
          rintro e w4 ⟨rfl, hb⟩
          have H4 := Lib.hid (H3.out.trans (hb.mono H3.out.size))
          clear hb
          go_wp2_with fail
          refine (C4.out _).mono ?_
          rintro e w5 ⟨rfl, hb⟩
          have H5 := Lib.hid (H4.out.trans (hb.mono H4.out.size))
          clear hb
          go_wp2_with fail
          refine (N1.out _).mono ?_
          rintro e w6 ⟨rfl, rfl⟩
          go_wp2_with fail
          refine (N2.out _).mono ?_
          rintro e w7 ⟨rfl, rfl⟩
          go_wp2_with fail
          go_ret
          exact ⟨rfl, H5.out⟩
      · have am1 : (a == -9223372036854775808) = false := by simpa using am
        clear am g1
        rcases w2 with h2 | ⟨h2, h2'⟩ | ⟨h2, h2'⟩
        · subst h2
          have t3 : wrap64 (wrap64 (d * b)) = a := by rw [Int.add_zero] at t2; exact t2
          have t4 : wrap64 (d * b) = a := by rw [← t3]; unfold wrap64; omega
          go_enter Tryd.func7, Tryd.ntmps7
          go_wp2_with fail
          refine (example_true _ HT.out).mono ?_
          rintro e w1 ⟨rfl, hb⟩
          have H1 := Lib.hid (hb)
          clear hb
          go_wp2_with fail
          refine (C1.out _).mono ?_
          rintro e w2 ⟨rfl, hb⟩
          have H2 := Lib.hid (H1.out.trans (hb.mono H1.out.size))
          clear hb
          go_wp2_with fail
          refine (C2.out _).mono ?_
          rintro e w3 ⟨rfl, hb⟩
          have H3 := Lib.hid (H2.out.trans (hb.mono H2.out.size))
          clear hb
          go_wp2_with fail
          refine (C3.out _).mono ?_
          rintro e w4 ⟨rfl, hb⟩
          have H4 := Lib.hid (H3.out.trans (hb.mono H3.out.size))
          clear hb
          go_wp2_with fail
          refine (C4.out _).mono ?_
          rintro e w5 ⟨rfl, hb⟩
          have H5 := Lib.hid (H4.out.trans (hb.mono H4.out.size))
          clear hb
          go_wp2_with fail
          refine (N1.out _).mono ?_
          rintro e w6 ⟨rfl, rfl⟩
          go_wp2_with fail
          refine (N2.out _).mono ?_
          rintro e w7 ⟨rfl, rfl⟩
          go_wp2_with fail
          go_ret
          exact ⟨rfl, H5.out⟩
        · have m0 : (m == 0) = false := by simp; omega
          have m3 : ¬ m = 0 := by omega
          go_enter Tryd.func7, Tryd.ntmps7
          go_wp2_with fail
          refine (example_true _ HT.out).mono ?_
          rintro e w1 ⟨rfl, hb⟩
          have H1 := Lib.hid (hb)
          clear hb
          go_wp2_with fail
          refine (C1.out _).mono ?_
          rintro e w2 ⟨rfl, hb⟩
          have H2 := Lib.hid (H1.out.trans (hb.mono H1.out.size))
          clear hb
          go_wp2_with fail
          refine (C2.out _).mono ?_
          rintro e w3 ⟨rfl, hb⟩
          have H3 := Lib.hid (H2.out.trans (hb.mono H2.out.size))
          clear hb
          go_wp2_with fail
          refine (C3.out _).mono ?_
          rintro e w4 ⟨rfl, hb⟩
          have H4 := Lib.hid (H3.out.trans (hb.mono H3.out.size))
          clear hb
          go_wp2_with fail
          refine (C4.out _).mono ?_
          rintro e w5 ⟨rfl, hb⟩
          have H5 := Lib.hid (H4.out.trans (hb.mono H4.out.size))
          clear hb
          go_wp2_with fail
          refine (N1.out _).mono ?_
          rintro e w6 ⟨rfl, rfl⟩
          go_wp2_with fail
          refine (N2.out _).mono ?_
          rintro e w7 ⟨rfl, rfl⟩
          go_wp2_with fail
          go_ret
          exact ⟨rfl, H5.out⟩
        · have m0 : (m == 0) = false := by simp; omega
          have m3 : ¬ m = 0 := by omega
          have m1 : decide (m < 0) = false := decide_eq_false (by omega)
          have m2 : decide (b < 0) = false := decide_eq_false (by omega)
          go_enter Tryd.func7, Tryd.ntmps7
          go_wp2_with fail
          refine (example_true _ HT.out).mono ?_
          rintro e w1 ⟨rfl, hb⟩
          have H1 := Lib.hid (hb)
          clear hb
          go_wp2_with fail
          refine (C1.out _).mono ?_
          rintro e w2 ⟨rfl, hb⟩
          have H2 := Lib.hid (H1.out.trans (hb.mono H1.out.size))
          clear hb
          go_wp2_with fail
          refine (C2.out _).mono ?_
          rintro e w3 ⟨rfl, hb⟩
          have H3 := Lib.hid (H2.out.trans (hb.mono H2.out.size))
          clear hb
          go_wp2_with fail
          refine (C3.out _).mono ?_
          rintro e w4 ⟨rfl, hb⟩
          have H4 := Lib.hid (H3.out.trans (hb.mono H3.out.size))
          clear hb
          go_wp2_with fail
          refine (C4.out _).mono ?_
          rintro e w5 ⟨rfl, hb⟩
          have H5 := Lib.hid (H4.out.trans (hb.mono H4.out.size))
          clear hb
          go_wp2_with fail
          refine (N1.out _).mono ?_
          rintro e w6 ⟨rfl, rfl⟩
          go_wp2_with fail
          refine (N2.out _).mono ?_
          rintro e w7 ⟨rfl, rfl⟩
          go_wp2_with fail
          go_ret
          exact ⟨rfl, H5.out⟩
    · have r0 : (r == 0) = false := by simp; omega
      have r3 : ¬ r = 0 := by omega
      have r1 : ¬ r < 0 := by omega
      have r2 : ¬ a < 0 := by omega
      have am1 : (a == -9223372036854775808) = false := by simp; omega
      clear g1
      rcases w2 with h2 | ⟨h2, h2'⟩ | ⟨h2, h2'⟩
      · subst h2
        have t3 : wrap64 (wrap64 (d * b)) = a := by rw [Int.add_zero] at t2; exact t2
        have t4 : wrap64 (d * b) = a := by rw [← t3]; unfold wrap64; omega
        go_enter Tryd.func7, Tryd.ntmps7
        go_wp2_with fail
        refine (example_true _ HT.out).mono ?_
        rintro e w1 ⟨rfl, hb⟩
        have H1 := Lib.hid (hb)
        clear hb
        go_wp2_with fail
        refine (C1.out _).mono ?_
        rintro e w2 ⟨rfl, hb⟩
        have H2 := Lib.hid (H1.out.trans (hb.mono H1.out.size))
        clear hb
        go_wp2_with fail
        refine (C2.out _).mono ?_
        rintro e w3 ⟨rfl, hb⟩
        have H3 := Lib.hid (H2.out.trans (hb.mono H2.out.size))
        clear hb
        go_wp2_with fail
        refine (C3.out _).mono ?_
        rintro e w4 ⟨rfl, hb⟩
        have H4 := Lib.hid (H3.out.trans (hb.mono H3.out.size))
        clear hb
        go_wp2_with fail
        refine (C4.out _).mono ?_
        rintro e w5 ⟨rfl, hb⟩
        have H5 := Lib.hid (H4.out.trans (hb.mono H4.out.size))
        clear hb
        go_wp2_with fail
        refine (N1.out _).mono ?_
        rintro e w6 ⟨rfl, rfl⟩
        go_wp2_with fail
        refine (N2.out _).mono ?_
        rintro e w7 ⟨rfl, rfl⟩
        go_wp2_with fail
        go_ret
        exact ⟨rfl, H5.out⟩
      · have m0 : (m == 0) = false := by simp; omega
        have m3 : ¬ m = 0 := by omega
        go_enter Tryd.func7, Tryd.ntmps7
        go_wp2_with fail
        refine (example_true _ HT.out).mono ?_
        rintro e w1 ⟨rfl, hb⟩
        have H1 := Lib.hid (hb)
        clear hb
        go_wp2_with fail
        refine (C1.out _).mono ?_
        rintro e w2 ⟨rfl, hb⟩
        have H2 := Lib.hid (H1.out.trans (hb.mono H1.out.size))
        clear hb
        go_wp2_with fail
        refine (C2.out _).mono ?_
        rintro e w3 ⟨rfl, hb⟩
        have H3 := Lib.hid (H2.out.trans (hb.mono H2.out.size))
        clear hb
        go_wp2_with fail
        refine (C3.out _).mono ?_
        rintro e w4 ⟨rfl, hb⟩
        have H4 := Lib.hid (H3.out.trans (hb.mono H3.out.size))
        clear hb
        go_wp2_with fail
        refine (C4.out _).mono ?_
        rintro e w5 ⟨rfl, hb⟩
        have H5 := Lib.hid (H4.out.trans (hb.mono H4.out.size))
        clear hb
        go_wp2_with fail
        refine (N1.out _).mono ?_
        rintro e w6 ⟨rfl, rfl⟩
        go_wp2_with fail
        refine (N2.out _).mono ?_
        rintro e w7 ⟨rfl, rfl⟩
        go_wp2_with fail
        go_ret
        exact ⟨rfl, H5.out⟩
      · have m0 : (m == 0) = false := by simp; omega
        have m3 : ¬ m = 0 := by omega
        have m1 : decide (m < 0) = false := decide_eq_false (by omega)
        have m2 : decide (b < 0) = false := decide_eq_false (by omega)
        go_enter Tryd.func7, Tryd.ntmps7
        go_wp2_with fail
        refine (example_true _ HT.out).mono ?_
        rintro e w1 ⟨rfl, hb⟩
        have H1 := Lib.hid (hb)
        clear hb
        go_wp2_with fail
        refine (C1.out _).mono ?_
        rintro e w2 ⟨rfl, hb⟩
        have H2 := Lib.hid (H1.out.trans (hb.mono H1.out.size))
        clear hb
        go_wp2_with fail
        refine (C2.out _).mono ?_
        rintro e w3 ⟨rfl, hb⟩
        have H3 := Lib.hid (H2.out.trans (hb.mono H2.out.size))
        clear hb
        go_wp2_with fail
        refine (C3.out _).mono ?_
        rintro e w4 ⟨rfl, hb⟩
        have H4 := Lib.hid (H3.out.trans (hb.mono H3.out.size))
        clear hb
        go_wp2_with fail
        refine (C4.out _).mono ?_
        rintro e w5 ⟨rfl, hb⟩
        have H5 := Lib.hid (H4.out.trans (hb.mono H4.out.size))
        clear hb
        go_wp2_with fail
        refine (N1.out _).mono ?_
        rintro e w6 ⟨rfl, rfl⟩
        go_wp2_with fail
        refine (N2.out _).mono ?_
        rintro e w7 ⟨rfl, rfl⟩
        go_wp2_with fail
        go_ret
        exact ⟨rfl, H5.out⟩

theorem walk_divides (a b : Int) (w : World) (ha : In.ok a) (hb : In.ok b) (hT : Tabs w) :
    Calls Tryd.prog 7 #[.int .i64 a, .int .i64 b] w fun e w' => e = .returned (.bool true) ∧ Below w.heap.size w w' := by
  by_cases b0 : b = 0
  · subst b0
    exact divides_zero a w ha hT
  have c1 := fun w => two_any ⟨#[47, 47]⟩ a b w (by decide) ha hb
  have c2 := fun w => two_any ⟨#[114, 101, 109]⟩ a b w (by decide) ha hb
  have c3 := fun w => two_any ⟨#[100, 105, 118]⟩ a b w (by decide) ha hb
  have c4 := fun w => two_any ⟨#[109, 111, 100]⟩ a b w (by decide) ha hb
  rw [show bin (⟨#[47, 47]⟩ : ByteArray).data.toList a b = In.fit (a.tdiv b) from if_neg b0] at c1
  rw [show bin (⟨#[114, 101, 109]⟩ : ByteArray).data.toList a b = (a.tmod b, 0) from if_neg b0] at c2
  rw [show bin (⟨#[100, 105, 118]⟩ : ByteArray).data.toList a b = In.fit (a.fdiv b) from if_neg b0] at c3
  rw [show bin (⟨#[109, 111, 100]⟩ : ByteArray).data.toList a b = (a.fmod b, 0) from if_neg b0] at c4
  by_cases ho : a = -9223372036854775808 ∧ b = -1
  · refine divides_rest a b w ha hb b0 hT false 0 0 (a.tmod b) (a.fmod b) ⟨fun h => Bool.noConfusion h, fun h => absurd ho h⟩ rfl rfl (fun h => Bool.noConfusion h) ?_ c2 ?_ c4
    · obtain ⟨rfl, rfl⟩ := ho
      rw [In.fit_no In.tdiv_over] at c1
      exact c1
    · obtain ⟨rfl, rfl⟩ := ho
      rw [In.fdiv_over, In.fit_no In.tdiv_over] at c3
      exact c3
  · refine divides_rest a b w ha hb b0 hT true (a.tdiv b) (a.fdiv b) (a.tmod b) (a.fmod b) ⟨fun _ => ho, fun _ => rfl⟩ rfl rfl (fun _ => ⟨rfl, rfl⟩) ?_ c2 ?_ c4
    · rw [In.fit_yes (In.tdiv_ok ha b0 ho)] at c1
      exact c1
    · rw [In.fit_yes (In.fdiv_ok ha b0 ho)] at c3
      exact c3
end Go.Proofs.YtlajghpikilkgaaDoor
