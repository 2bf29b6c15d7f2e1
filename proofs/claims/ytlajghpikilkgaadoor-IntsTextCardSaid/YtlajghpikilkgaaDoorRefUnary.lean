/-
  The reference's Unary and Binary.
-/
import Derived.Test.YtlajghpikilkgaaDoorRefPower
import Derived.Test.YtlajghpikilkgaaDoorUnary
namespace Go.Proofs.YtlajghpikilkgaaDoor
set_option linter.unusedVariables false
set_option linter.unusedSimpArgs false
open Go.RowKit

theorem bytes_of {s : ByteArray} {l : List UInt8} (h : s.data.toList = l) : s = ⟨l.toArray⟩ := by
  subst h; rfl
theorem test_no {s : ByteArray} {l : List UInt8} (h : ¬ s.data.toList = l) : (s.toList == l) = false := by
  rw [Lib.toList_data]; simpa using h

set_option maxHeartbeats 2000000 in
set_option maxRecDepth 100000 in
theorem refUnary_any (s : ByteArray) (a : Int) (w : World) (ha : In.ok a) :
    Calls Tryd.prog 14 #[.string s, .int .i64 a] w fun e w' => e = .returned (.tuple #[.int .i64 (un s.data.toList a).1, .int .i64 (un s.data.toList a).2]) ∧ w = w' := by
  have c1 := fun w => refSub_any 0 a w (by decide) ha
  rw [show (0 : Int) - a = -a by omega] at c1
  have C1 := Lib.hid c1
  by_cases h1 : s.data.toList = [45]
  · obtain rfl : s = ⟨#[45]⟩ := bytes_of h1
    rw [show un (⟨#[45]⟩ : ByteArray).data.toList a = In.fit (-a) from rfl]
    clear h1 c1 ha
    go_enter Tryd.func14, Tryd.ntmps14
    go_wp2_with fail
    refine (C1.out _).mono ?_
    rintro e w1 ⟨rfl, rfl⟩
    go_wp2_with fail
    go_ret2
    exact ⟨rfl, rfl⟩
  by_cases h2 : s.data.toList = [43]
  · obtain rfl : s = ⟨#[43]⟩ := bytes_of h2
    rw [show un (⟨#[43]⟩ : ByteArray).data.toList a = (a, 0) from rfl]
    clear h1 h2 c1 ha
    go_enter Tryd.func14, Tryd.ntmps14
    go_wp2_with fail
    go_ret2
    exact ⟨rfl, rfl⟩
  by_cases h3 : s.data.toList = [97, 98, 115]
  · obtain rfl : s = ⟨#[97, 98, 115]⟩ := bytes_of h3
    rw [show un (⟨#[97, 98, 115]⟩ : ByteArray).data.toList a = In.fit (In.size a) from rfl]
    clear h1 h2 h3 c1
    by_cases hn : a < 0
    · rw [show In.size a = -a from if_pos hn]
      clear ha
      go_enter Tryd.func14, Tryd.ntmps14
      go_wp2_with fail
      refine (C1.out _).mono ?_
      rintro e w1 ⟨rfl, rfl⟩
      go_wp2_with fail
      go_ret2
      exact ⟨rfl, rfl⟩
    · rw [show In.size a = a from if_neg hn, In.fit_yes ha]
      clear ha
      go_enter Tryd.func14, Tryd.ntmps14
      go_wp2_with fail
      go_ret2
      exact ⟨rfl, rfl⟩
  by_cases h4 : s.data.toList = [115, 105, 103, 110]
  · obtain rfl : s = ⟨#[115, 105, 103, 110]⟩ := bytes_of h4
    rw [show un (⟨#[115, 105, 103, 110]⟩ : ByteArray).data.toList a = (if a < 0 then -1 else if a = 0 then 0 else 1, 0) from rfl]
    clear h1 h2 h3 h4 c1 ha
    rcases Int.lt_trichotomy a 0 with h | h | h
    · rw [if_pos h]
      go_enter Tryd.func14, Tryd.ntmps14
      go_wp2_with fail
      go_ret2
      exact ⟨rfl, rfl⟩
    · subst h
      go_enter Tryd.func14, Tryd.ntmps14
      go_wp2_with fail
      go_ret2
      exact ⟨rfl, rfl⟩
    · have h' : ¬ a < 0 := by omega
      rw [if_neg h', if_neg (by omega)]
      go_enter Tryd.func14, Tryd.ntmps14
      go_wp2_with fail
      go_ret2
      exact ⟨rfl, rfl⟩
  by_cases h5 : s.data.toList = [92]
  · obtain rfl : s = ⟨#[92]⟩ := bytes_of h5
    rw [show un (⟨#[92]⟩ : ByteArray).data.toList a = (-1 - a, 0) from rfl]
    have HA := Lib.hid ha
    clear h1 h2 h3 h4 h5 c1 ha
    go_enter Tryd.func14, Tryd.ntmps14
    go_wp2_with fail
    go_ret2
    exact ⟨ret_two (by have := HA.out; unfold In.ok at this; first | rfl | (unfold wrap64; omega)) rfl, rfl⟩
  have hn : specU.lookup s.data.toList = none := by
    unfold specU
    simp only [List.lookup, beq_eq_false_iff_ne.2 h1, beq_eq_false_iff_ne.2 h2, beq_eq_false_iff_ne.2 h3, beq_eq_false_iff_ne.2 h4, beq_eq_false_iff_ne.2 h5]
  have hu : un s.data.toList a = (0, 4) := by unfold un; rw [hn]
  rw [hu]
  have t1 := test_no h1
  have t2 := test_no h2
  have t3 := test_no h3
  have t4 := test_no h4
  have t5 := test_no h5
  clear h1 h2 h3 h4 h5 c1 hn hu ha
  go_enter Tryd.func14, Tryd.ntmps14
  go_wp2_with fail
  go_ret2
  exact ⟨rfl, rfl⟩
end Go.Proofs.YtlajghpikilkgaaDoor
