/-
  The reference's division rounded down, its remainder, its powers, divisors and shifts.
-/
import Derived.Test.YtlajghpikilkgaaDoorRefMul
namespace Go.Proofs.YtlajghpikilkgaaDoor
set_option linter.unusedVariables false
set_option linter.unusedSimpArgs false
open Go.RowKit

/-- The signs of a remainder and a divisor. -/
theorem signs (r b : Int) (hb0 : b ≠ 0) : ((r < 0 ∧ 0 < b) ∨ (0 < r ∧ b < 0)) ∨ (r = 0 ∧ 0 < b) ∨ (r = 0 ∧ b < 0) ∨ (r < 0 ∧ b < 0) ∨ (0 < r ∧ 0 < b) := by omega

set_option maxHeartbeats 1000000 in
theorem refDiv_any (a b : Int) (w : World) (ha : In.ok a) (hb : In.ok b) (hb0 : b ≠ 0) :
    Calls Tryd.prog 37 #[.int .i64 a, .int .i64 b] w fun e w' => e = .returned (.tuple #[.int .i64 (In.fit (a.fdiv b)).1, .int .i64 (In.fit (a.fdiv b)).2]) ∧ w = w' := by
  have q1 := fun w => refQuot_any a b w ha hb hb0
  have r1 := fun w => refRem_any a b w ha hb hb0
  by_cases ho : a = -9223372036854775808 ∧ b = -1
  · obtain ⟨rfl, rfl⟩ := ho
    rw [In.fdiv_over, In.fit_no In.tdiv_over]
    rw [In.fit_no In.tdiv_over] at q1
    have Q1 := Lib.hid q1
    clear q1 r1 ha hb hb0
    go_enter Tryd.func37, Tryd.ntmps37
    go_wp2_with fail
    refine (Q1.out _).mono ?_
    rintro e w1 ⟨rfl, rfl⟩
    go_wp2_with fail
    go_ret2
    exact ⟨rfl, rfl⟩
  · have o1 := In.tdiv_ok ha hb0 ho
    have o2 := In.fdiv_ok ha hb0 ho
    rw [In.fit_yes o2]
    rw [In.fit_yes o1] at q1
    have hsame := @In.floor_same a b hb0
    have hother := @In.floor_other a b hb0
    obtain ⟨q, hq⟩ : ∃ q, q = a.tdiv b := ⟨_, rfl⟩
    obtain ⟨r, hr⟩ : ∃ r, r = a.tmod b := ⟨_, rfl⟩
    rw [← hq] at q1 o1 hsame hother
    rw [← hr] at r1 hsame hother
    have Q1 := Lib.hid q1
    have R1 := Lib.hid r1
    have O := Lib.hid (And.intro o1 o2)
    clear q1 r1 o1 o2 hq hr ha hb ho
    rcases signs r b hb0 with h | h
    · have e := (hother (by omega) (by omega)).2
      have E := Lib.hid e
      clear e hsame hother hb0
      rcases h with ⟨h, h'⟩ | ⟨h, h'⟩
      · go_enter Tryd.func37, Tryd.ntmps37
        go_wp2_with fail
        refine (Q1.out _).mono ?_
        rintro e w1 ⟨rfl, rfl⟩
        go_wp2_with fail
        refine (R1.out _).mono ?_
        rintro e w1 ⟨rfl, rfl⟩
        go_wp2_with fail
        go_ret2
        exact ⟨ret_two (by rw [E.out]; have := O.out; rw [E.out] at this; unfold In.ok at this; unfold wrap64; omega) rfl, rfl⟩
      · have h2 : ¬ r < 0 := by omega
        go_enter Tryd.func37, Tryd.ntmps37
        go_wp2_with fail
        refine (Q1.out _).mono ?_
        rintro e w1 ⟨rfl, rfl⟩
        go_wp2_with fail
        refine (R1.out _).mono ?_
        rintro e w1 ⟨rfl, rfl⟩
        go_wp2_with fail
        go_ret2
        exact ⟨ret_two (by rw [E.out]; have := O.out; rw [E.out] at this; unfold In.ok at this; unfold wrap64; omega) rfl, rfl⟩
    · have e := (hsame (by omega)).2
      have E := Lib.hid e
      clear e hsame hother hb0
      rcases h with ⟨h, h'⟩ | ⟨h, h'⟩ | ⟨h, h'⟩ | ⟨h, h'⟩
      · subst h
        go_enter Tryd.func37, Tryd.ntmps37
        go_wp2_with fail
        refine (Q1.out _).mono ?_
        rintro e w1 ⟨rfl, rfl⟩
        go_wp2_with fail
        refine (R1.out _).mono ?_
        rintro e w1 ⟨rfl, rfl⟩
        go_wp2_with fail
        go_ret2
        exact ⟨ret_two E.out.symm rfl, rfl⟩
      · subst h
        go_enter Tryd.func37, Tryd.ntmps37
        go_wp2_with fail
        refine (Q1.out _).mono ?_
        rintro e w1 ⟨rfl, rfl⟩
        go_wp2_with fail
        refine (R1.out _).mono ?_
        rintro e w1 ⟨rfl, rfl⟩
        go_wp2_with fail
        go_ret2
        exact ⟨ret_two E.out.symm rfl, rfl⟩
      · have h1 : ¬ 0 < r := by omega
        have h2 : ¬ 0 < b := by omega
        go_enter Tryd.func37, Tryd.ntmps37
        go_wp2_with fail
        refine (Q1.out _).mono ?_
        rintro e w1 ⟨rfl, rfl⟩
        go_wp2_with fail
        refine (R1.out _).mono ?_
        rintro e w1 ⟨rfl, rfl⟩
        go_wp2_with fail
        go_ret2
        exact ⟨ret_two E.out.symm rfl, rfl⟩
      · have h1 : ¬ r < 0 := by omega
        have h2 : ¬ b < 0 := by omega
        go_enter Tryd.func37, Tryd.ntmps37
        go_wp2_with fail
        refine (Q1.out _).mono ?_
        rintro e w1 ⟨rfl, rfl⟩
        go_wp2_with fail
        refine (R1.out _).mono ?_
        rintro e w1 ⟨rfl, rfl⟩
        go_wp2_with fail
        go_ret2
        exact ⟨ret_two E.out.symm rfl, rfl⟩

set_option maxHeartbeats 1000000 in
theorem refMod_any (a b : Int) (w : World) (ha : In.ok a) (hb : In.ok b) (hb0 : b ≠ 0) :
    Calls Tryd.prog 38 #[.int .i64 a, .int .i64 b] w fun e w' => e = .returned (.int .i64 (a.fmod b)) ∧ w = w' := by
  have r1 := fun w => refRem_any a b w ha hb hb0
  have hsame := @In.floor_same a b hb0
  have hother := @In.floor_other a b hb0
  have o2 := In.fmod_ok (a := a) hb hb0
  obtain ⟨r, hr⟩ : ∃ r, r = a.tmod b := ⟨_, rfl⟩
  rw [← hr] at r1 hsame hother
  have R1 := Lib.hid r1
  have O := Lib.hid o2
  clear r1 hr ha hb o2
  rcases signs r b hb0 with h | h
  · have e := (hother (by omega) (by omega)).1
    have E := Lib.hid e
    clear e hsame hother hb0
    rcases h with ⟨h, h'⟩ | ⟨h, h'⟩
    · go_enter Tryd.func38, Tryd.ntmps38
      go_wp2_with fail
      refine (R1.out _).mono ?_
      rintro e w1 ⟨rfl, rfl⟩
      go_wp2_with fail
      go_ret
      exact ⟨ret_int (by rw [E.out]; have := O.out; rw [E.out] at this; unfold In.ok at this; unfold wrap64; omega), rfl⟩
    · have h2 : ¬ r < 0 := by omega
      go_enter Tryd.func38, Tryd.ntmps38
      go_wp2_with fail
      refine (R1.out _).mono ?_
      rintro e w1 ⟨rfl, rfl⟩
      go_wp2_with fail
      go_ret
      exact ⟨ret_int (by rw [E.out]; have := O.out; rw [E.out] at this; unfold In.ok at this; unfold wrap64; omega), rfl⟩
  · have e := (hsame (by omega)).1
    have E := Lib.hid e
    clear e hsame hother hb0
    rcases h with ⟨h, h'⟩ | ⟨h, h'⟩ | ⟨h, h'⟩ | ⟨h, h'⟩
    · subst h
      go_enter Tryd.func38, Tryd.ntmps38
      go_wp2_with fail
      refine (R1.out _).mono ?_
      rintro e w1 ⟨rfl, rfl⟩
      go_wp2_with fail
      go_ret
      exact ⟨ret_int E.out.symm, rfl⟩
    · subst h
      go_enter Tryd.func38, Tryd.ntmps38
      go_wp2_with fail
      refine (R1.out _).mono ?_
      rintro e w1 ⟨rfl, rfl⟩
      go_wp2_with fail
      go_ret
      exact ⟨ret_int E.out.symm, rfl⟩
    · have h1 : ¬ 0 < r := by omega
      have h2 : ¬ 0 < b := by omega
      go_enter Tryd.func38, Tryd.ntmps38
      go_wp2_with fail
      refine (R1.out _).mono ?_
      rintro e w1 ⟨rfl, rfl⟩
      go_wp2_with fail
      go_ret
      exact ⟨ret_int E.out.symm, rfl⟩
    · have h1 : ¬ r < 0 := by omega
      have h2 : ¬ b < 0 := by omega
      go_enter Tryd.func38, Tryd.ntmps38
      go_wp2_with fail
      refine (R1.out _).mono ?_
      rintro e w1 ⟨rfl, rfl⟩
      go_wp2_with fail
      go_ret
      exact ⟨ret_int E.out.symm, rfl⟩
end Go.Proofs.YtlajghpikilkgaaDoor
