/-
  The reference's Binary.
-/
import Derived.Test.YtlajghpikilkgaaDoorRefUnary
namespace Go.Proofs.YtlajghpikilkgaaDoor
set_option linter.unusedVariables false
set_option linter.unusedSimpArgs false
open Go.RowKit


set_option maxHeartbeats 2000000 in
set_option maxRecDepth 100000 in
theorem refB_add (a b : Int) (w : World) (ha : In.ok a) (hb : In.ok b) :
    Calls Tryd.prog 19 #[.string ⟨#[43]⟩, .int .i64 a, .int .i64 b] w fun e w' => e = .returned (.tuple #[.int .i64 (bin [43] a b).1, .int .i64 (bin [43] a b).2]) ∧ w = w' := by
  rw [show bin [43] a b = (In.fit (a + b)) from rfl]
  have c1 := fun w => refAdd_any a b w ha hb
  have C1 := Lib.hid c1
  clear c1 ha hb
  go_enter Tryd.func19, Tryd.ntmps19
  go_wp2_with fail
  refine (C1.out _).mono ?_
  rintro e w1 ⟨rfl, rfl⟩
  go_wp2_with fail
  go_ret2
  exact ⟨rfl, rfl⟩

set_option maxHeartbeats 2000000 in
set_option maxRecDepth 100000 in
theorem refB_sub (a b : Int) (w : World) (ha : In.ok a) (hb : In.ok b) :
    Calls Tryd.prog 19 #[.string ⟨#[45]⟩, .int .i64 a, .int .i64 b] w fun e w' => e = .returned (.tuple #[.int .i64 (bin [45] a b).1, .int .i64 (bin [45] a b).2]) ∧ w = w' := by
  rw [show bin [45] a b = (In.fit (a - b)) from rfl]
  have c1 := fun w => refSub_any a b w ha hb
  have C1 := Lib.hid c1
  clear c1 ha hb
  go_enter Tryd.func19, Tryd.ntmps19
  go_wp2_with fail
  refine (C1.out _).mono ?_
  rintro e w1 ⟨rfl, rfl⟩
  go_wp2_with fail
  go_ret2
  exact ⟨rfl, rfl⟩

set_option maxHeartbeats 2000000 in
set_option maxRecDepth 100000 in
theorem refB_mul (a b : Int) (w : World) (ha : In.ok a) (hb : In.ok b) :
    Calls Tryd.prog 19 #[.string ⟨#[42]⟩, .int .i64 a, .int .i64 b] w fun e w' => e = .returned (.tuple #[.int .i64 (bin [42] a b).1, .int .i64 (bin [42] a b).2]) ∧ w = w' := by
  rw [show bin [42] a b = (In.fit (a * b)) from rfl]
  have c1 := fun w => refMul_any a b w ha hb
  have C1 := Lib.hid c1
  clear c1 ha hb
  go_enter Tryd.func19, Tryd.ntmps19
  go_wp2_with fail
  refine (C1.out _).mono ?_
  rintro e w1 ⟨rfl, rfl⟩
  go_wp2_with fail
  go_ret2
  exact ⟨rfl, rfl⟩

set_option maxHeartbeats 2000000 in
set_option maxRecDepth 100000 in
theorem refB_quo (a b : Int) (w : World) (ha : In.ok a) (hb : In.ok b) :
    Calls Tryd.prog 19 #[.string ⟨#[47, 47]⟩, .int .i64 a, .int .i64 b] w fun e w' => e = .returned (.tuple #[.int .i64 (bin [47, 47] a b).1, .int .i64 (bin [47, 47] a b).2]) ∧ w = w' := by
  rw [show bin [47, 47] a b = if b = 0 then (0, 11) else In.fit (a.tdiv b) from rfl]
  by_cases b0 : b = 0
  · rw [if_pos b0]
    subst b0
    clear ha hb
    go_enter Tryd.func19, Tryd.ntmps19
    go_wp2_with fail
    go_ret2
    exact ⟨rfl, rfl⟩
  · rw [if_neg b0]
    have c1 := fun w => refQuot_any a b w ha hb b0
    have C1 := Lib.hid c1
    have b0' : (b == 0) = false := by simpa using b0
    clear c1 ha hb b0
    go_enter Tryd.func19, Tryd.ntmps19
    go_wp2_with fail
    refine (C1.out _).mono ?_
    rintro e w1 ⟨rfl, rfl⟩
    go_wp2_with fail
    go_ret2
    exact ⟨rfl, rfl⟩

set_option maxHeartbeats 2000000 in
set_option maxRecDepth 100000 in
theorem refB_rem (a b : Int) (w : World) (ha : In.ok a) (hb : In.ok b) :
    Calls Tryd.prog 19 #[.string ⟨#[114, 101, 109]⟩, .int .i64 a, .int .i64 b] w fun e w' => e = .returned (.tuple #[.int .i64 (bin [114, 101, 109] a b).1, .int .i64 (bin [114, 101, 109] a b).2]) ∧ w = w' := by
  rw [show bin [114, 101, 109] a b = if b = 0 then (0, 11) else (a.tmod b, 0) from rfl]
  by_cases b0 : b = 0
  · rw [if_pos b0]
    subst b0
    clear ha hb
    go_enter Tryd.func19, Tryd.ntmps19
    go_wp2_with fail
    go_ret2
    exact ⟨rfl, rfl⟩
  · rw [if_neg b0]
    have c1 := fun w => refRem_any a b w ha hb b0
    have C1 := Lib.hid c1
    have b0' : (b == 0) = false := by simpa using b0
    clear c1 ha hb b0
    go_enter Tryd.func19, Tryd.ntmps19
    go_wp2_with fail
    refine (C1.out _).mono ?_
    rintro e w1 ⟨rfl, rfl⟩
    go_wp2_with fail
    go_ret2
    exact ⟨rfl, rfl⟩

set_option maxHeartbeats 2000000 in
set_option maxRecDepth 100000 in
theorem refB_div (a b : Int) (w : World) (ha : In.ok a) (hb : In.ok b) :
    Calls Tryd.prog 19 #[.string ⟨#[100, 105, 118]⟩, .int .i64 a, .int .i64 b] w fun e w' => e = .returned (.tuple #[.int .i64 (bin [100, 105, 118] a b).1, .int .i64 (bin [100, 105, 118] a b).2]) ∧ w = w' := by
  rw [show bin [100, 105, 118] a b = if b = 0 then (0, 11) else In.fit (a.fdiv b) from rfl]
  by_cases b0 : b = 0
  · rw [if_pos b0]
    subst b0
    clear ha hb
    go_enter Tryd.func19, Tryd.ntmps19
    go_wp2_with fail
    go_ret2
    exact ⟨rfl, rfl⟩
  · rw [if_neg b0]
    have c1 := fun w => refDiv_any a b w ha hb b0
    have C1 := Lib.hid c1
    have b0' : (b == 0) = false := by simpa using b0
    clear c1 ha hb b0
    go_enter Tryd.func19, Tryd.ntmps19
    go_wp2_with fail
    refine (C1.out _).mono ?_
    rintro e w1 ⟨rfl, rfl⟩
    go_wp2_with fail
    go_ret2
    exact ⟨rfl, rfl⟩

set_option maxHeartbeats 2000000 in
set_option maxRecDepth 100000 in
theorem refB_mod (a b : Int) (w : World) (ha : In.ok a) (hb : In.ok b) :
    Calls Tryd.prog 19 #[.string ⟨#[109, 111, 100]⟩, .int .i64 a, .int .i64 b] w fun e w' => e = .returned (.tuple #[.int .i64 (bin [109, 111, 100] a b).1, .int .i64 (bin [109, 111, 100] a b).2]) ∧ w = w' := by
  rw [show bin [109, 111, 100] a b = if b = 0 then (0, 11) else (a.fmod b, 0) from rfl]
  by_cases b0 : b = 0
  · rw [if_pos b0]
    subst b0
    clear ha hb
    go_enter Tryd.func19, Tryd.ntmps19
    go_wp2_with fail
    go_ret2
    exact ⟨rfl, rfl⟩
  · rw [if_neg b0]
    have c1 := fun w => refMod_any a b w ha hb b0
    have C1 := Lib.hid c1
    have b0' : (b == 0) = false := by simpa using b0
    clear c1 ha hb b0
    go_enter Tryd.func19, Tryd.ntmps19
    go_wp2_with fail
    refine (C1.out _).mono ?_
    rintro e w1 ⟨rfl, rfl⟩
    go_wp2_with fail
    go_ret2
    exact ⟨rfl, rfl⟩

set_option maxHeartbeats 2000000 in
set_option maxRecDepth 100000 in
theorem refB_min (a b : Int) (w : World) (ha : In.ok a) (hb : In.ok b) :
    Calls Tryd.prog 19 #[.string ⟨#[109, 105, 110]⟩, .int .i64 a, .int .i64 b] w fun e w' => e = .returned (.tuple #[.int .i64 (bin [109, 105, 110] a b).1, .int .i64 (bin [109, 105, 110] a b).2]) ∧ w = w' := by
  rw [show bin [109, 105, 110] a b = (min a b, 0) from rfl]
  by_cases h : b < a
  · rw [show min a b = b by omega]
    clear ha hb
    go_enter Tryd.func19, Tryd.ntmps19
    go_wp2_with fail
    go_ret2
    exact ⟨rfl, rfl⟩
  · rw [show min a b = a by omega]
    clear ha hb
    go_enter Tryd.func19, Tryd.ntmps19
    go_wp2_with fail
    go_ret2
    exact ⟨rfl, rfl⟩

set_option maxHeartbeats 2000000 in
set_option maxRecDepth 100000 in
theorem refB_max (a b : Int) (w : World) (ha : In.ok a) (hb : In.ok b) :
    Calls Tryd.prog 19 #[.string ⟨#[109, 97, 120]⟩, .int .i64 a, .int .i64 b] w fun e w' => e = .returned (.tuple #[.int .i64 (bin [109, 97, 120] a b).1, .int .i64 (bin [109, 97, 120] a b).2]) ∧ w = w' := by
  rw [show bin [109, 97, 120] a b = (max a b, 0) from rfl]
  by_cases h : a < b
  · rw [show max a b = b by omega]
    clear ha hb
    go_enter Tryd.func19, Tryd.ntmps19
    go_wp2_with fail
    go_ret2
    exact ⟨rfl, rfl⟩
  · rw [show max a b = a by omega]
    clear ha hb
    go_enter Tryd.func19, Tryd.ntmps19
    go_wp2_with fail
    go_ret2
    exact ⟨rfl, rfl⟩

set_option maxHeartbeats 2000000 in
set_option maxRecDepth 100000 in
theorem refB_shr (a b : Int) (w : World) (ha : In.ok a) (hb : In.ok b) :
    Calls Tryd.prog 19 #[.string ⟨#[62, 62]⟩, .int .i64 a, .int .i64 b] w fun e w' => e = .returned (.tuple #[.int .i64 (bin [62, 62] a b).1, .int .i64 (bin [62, 62] a b).2]) ∧ w = w' := by
  rw [show bin [62, 62] a b = (In.shr a b) from rfl]
  have c1 := fun w => refShr_any a b w ha
  have C1 := Lib.hid c1
  clear c1 ha hb
  go_enter Tryd.func19, Tryd.ntmps19
  go_wp2_with fail
  refine (C1.out _).mono ?_
  rintro e w1 ⟨rfl, rfl⟩
  go_wp2_with fail
  go_ret2
  exact ⟨rfl, rfl⟩

set_option maxHeartbeats 2000000 in
set_option maxRecDepth 100000 in
theorem refB_shl (a b : Int) (w : World) (ha : In.ok a) (hb : In.ok b) :
    Calls Tryd.prog 19 #[.string ⟨#[60, 60]⟩, .int .i64 a, .int .i64 b] w fun e w' => e = .returned (.tuple #[.int .i64 (bin [60, 60] a b).1, .int .i64 (bin [60, 60] a b).2]) ∧ w = w' := by
  rw [show bin [60, 60] a b = (In.shl a b) from rfl]
  have c1 := fun w => refShl_any a b w ha
  have C1 := Lib.hid c1
  clear c1 ha hb
  go_enter Tryd.func19, Tryd.ntmps19
  go_wp2_with fail
  refine (C1.out _).mono ?_
  rintro e w1 ⟨rfl, rfl⟩
  go_wp2_with fail
  go_ret2
  exact ⟨rfl, rfl⟩

set_option maxHeartbeats 2000000 in
set_option maxRecDepth 100000 in
theorem refB_and (a b : Int) (w : World) (ha : In.ok a) (hb : In.ok b) :
    Calls Tryd.prog 19 #[.string ⟨#[47, 92]⟩, .int .i64 a, .int .i64 b] w fun e w' => e = .returned (.tuple #[.int .i64 (bin [47, 92] a b).1, .int .i64 (bin [47, 92] a b).2]) ∧ w = w' := by
  rw [show bin [47, 92] a b = (bits .and .i64 a b, (0 : Int)) from rfl]
  clear ha hb
  go_enter Tryd.func19, Tryd.ntmps19
  go_wp2_with fail
  go_ret2
  exact ⟨rfl, rfl⟩

set_option maxHeartbeats 2000000 in
set_option maxRecDepth 100000 in
theorem refB_or (a b : Int) (w : World) (ha : In.ok a) (hb : In.ok b) :
    Calls Tryd.prog 19 #[.string ⟨#[92, 47]⟩, .int .i64 a, .int .i64 b] w fun e w' => e = .returned (.tuple #[.int .i64 (bin [92, 47] a b).1, .int .i64 (bin [92, 47] a b).2]) ∧ w = w' := by
  rw [show bin [92, 47] a b = (bits .or .i64 a b, (0 : Int)) from rfl]
  clear ha hb
  go_enter Tryd.func19, Tryd.ntmps19
  go_wp2_with fail
  go_ret2
  exact ⟨rfl, rfl⟩

set_option maxHeartbeats 2000000 in
set_option maxRecDepth 100000 in
theorem refB_xor (a b : Int) (w : World) (ha : In.ok a) (hb : In.ok b) :
    Calls Tryd.prog 19 #[.string ⟨#[120, 111, 114]⟩, .int .i64 a, .int .i64 b] w fun e w' => e = .returned (.tuple #[.int .i64 (bin [120, 111, 114] a b).1, .int .i64 (bin [120, 111, 114] a b).2]) ∧ w = w' := by
  rw [show bin [120, 111, 114] a b = (bits .xor .i64 a b, (0 : Int)) from rfl]
  clear ha hb
  go_enter Tryd.func19, Tryd.ntmps19
  go_wp2_with fail
  go_ret2
  exact ⟨rfl, rfl⟩

set_option maxHeartbeats 2000000 in
set_option maxRecDepth 100000 in
theorem refB_pow (a b : Int) (w : World) (ha : In.ok a) (hb : In.ok b) :
    Calls Tryd.prog 19 #[.string ⟨#[94]⟩, .int .i64 a, .int .i64 b] w fun e w' => e = .returned (.tuple #[.int .i64 (bin [94] a b).1, .int .i64 (bin [94] a b).2]) ∧ w = w' := by
  rw [show bin [94] a b = (In.pow a b) from rfl]
  have c1 := fun w => refPower_any a b w ha hb
  have C1 := Lib.hid c1
  clear c1 ha hb
  go_enter Tryd.func19, Tryd.ntmps19
  go_wp2_with fail
  refine (C1.out _).mono ?_
  rintro e w1 ⟨rfl, rfl⟩
  go_wp2_with fail
  go_ret2
  exact ⟨rfl, rfl⟩

set_option maxHeartbeats 2000000 in
set_option maxRecDepth 100000 in
theorem refB_gcd (a b : Int) (w : World) (ha : In.ok a) (hb : In.ok b) :
    Calls Tryd.prog 19 #[.string ⟨#[103, 99, 100]⟩, .int .i64 a, .int .i64 b] w fun e w' => e = .returned (.tuple #[.int .i64 (bin [103, 99, 100] a b).1, .int .i64 (bin [103, 99, 100] a b).2]) ∧ w = w' := by
  rw [show bin [103, 99, 100] a b = (In.gcd a b) from rfl]
  have c1 := fun w => refGcd_any a b w ha hb
  have C1 := Lib.hid c1
  clear c1 ha hb
  go_enter Tryd.func19, Tryd.ntmps19
  go_wp2_with fail
  refine (C1.out _).mono ?_
  rintro e w1 ⟨rfl, rfl⟩
  go_wp2_with fail
  go_ret2
  exact ⟨rfl, rfl⟩

set_option maxHeartbeats 2000000 in
set_option maxRecDepth 100000 in
theorem refBinary_any (s : ByteArray) (a b : Int) (w : World) (ha : In.ok a) (hb : In.ok b) :
    Calls Tryd.prog 19 #[.string s, .int .i64 a, .int .i64 b] w fun e w' => e = .returned (.tuple #[.int .i64 (bin s.data.toList a b).1, .int .i64 (bin s.data.toList a b).2]) ∧ w = w' := by
  by_cases h0 : s.data.toList = [43]
  · obtain rfl : s = ⟨#[43]⟩ := bytes_of h0
    exact refB_add a b w ha hb
  by_cases h1 : s.data.toList = [45]
  · obtain rfl : s = ⟨#[45]⟩ := bytes_of h1
    exact refB_sub a b w ha hb
  by_cases h2 : s.data.toList = [42]
  · obtain rfl : s = ⟨#[42]⟩ := bytes_of h2
    exact refB_mul a b w ha hb
  by_cases h3 : s.data.toList = [47, 47]
  · obtain rfl : s = ⟨#[47, 47]⟩ := bytes_of h3
    exact refB_quo a b w ha hb
  by_cases h4 : s.data.toList = [114, 101, 109]
  · obtain rfl : s = ⟨#[114, 101, 109]⟩ := bytes_of h4
    exact refB_rem a b w ha hb
  by_cases h5 : s.data.toList = [100, 105, 118]
  · obtain rfl : s = ⟨#[100, 105, 118]⟩ := bytes_of h5
    exact refB_div a b w ha hb
  by_cases h6 : s.data.toList = [109, 111, 100]
  · obtain rfl : s = ⟨#[109, 111, 100]⟩ := bytes_of h6
    exact refB_mod a b w ha hb
  by_cases h7 : s.data.toList = [109, 105, 110]
  · obtain rfl : s = ⟨#[109, 105, 110]⟩ := bytes_of h7
    exact refB_min a b w ha hb
  by_cases h8 : s.data.toList = [109, 97, 120]
  · obtain rfl : s = ⟨#[109, 97, 120]⟩ := bytes_of h8
    exact refB_max a b w ha hb
  by_cases h9 : s.data.toList = [62, 62]
  · obtain rfl : s = ⟨#[62, 62]⟩ := bytes_of h9
    exact refB_shr a b w ha hb
  by_cases h10 : s.data.toList = [60, 60]
  · obtain rfl : s = ⟨#[60, 60]⟩ := bytes_of h10
    exact refB_shl a b w ha hb
  by_cases h11 : s.data.toList = [47, 92]
  · obtain rfl : s = ⟨#[47, 92]⟩ := bytes_of h11
    exact refB_and a b w ha hb
  by_cases h12 : s.data.toList = [92, 47]
  · obtain rfl : s = ⟨#[92, 47]⟩ := bytes_of h12
    exact refB_or a b w ha hb
  by_cases h13 : s.data.toList = [120, 111, 114]
  · obtain rfl : s = ⟨#[120, 111, 114]⟩ := bytes_of h13
    exact refB_xor a b w ha hb
  by_cases h14 : s.data.toList = [94]
  · obtain rfl : s = ⟨#[94]⟩ := bytes_of h14
    exact refB_pow a b w ha hb
  by_cases h15 : s.data.toList = [103, 99, 100]
  · obtain rfl : s = ⟨#[103, 99, 100]⟩ := bytes_of h15
    exact refB_gcd a b w ha hb
  have hn : specB.lookup s.data.toList = none := by
    unfold specB
    simp only [List.lookup, beq_eq_false_iff_ne.2 h0, beq_eq_false_iff_ne.2 h1, beq_eq_false_iff_ne.2 h2, beq_eq_false_iff_ne.2 h3, beq_eq_false_iff_ne.2 h4, beq_eq_false_iff_ne.2 h5, beq_eq_false_iff_ne.2 h6, beq_eq_false_iff_ne.2 h7, beq_eq_false_iff_ne.2 h8, beq_eq_false_iff_ne.2 h9, beq_eq_false_iff_ne.2 h10, beq_eq_false_iff_ne.2 h11, beq_eq_false_iff_ne.2 h12, beq_eq_false_iff_ne.2 h13, beq_eq_false_iff_ne.2 h14, beq_eq_false_iff_ne.2 h15]
  have hu : bin s.data.toList a b = (0, 4) := by unfold bin; rw [hn]
  rw [hu]
  have t0 := test_no h0
  have t1 := test_no h1
  have t2 := test_no h2
  have t3 := test_no h3
  have t4 := test_no h4
  have t5 := test_no h5
  have t6 := test_no h6
  have t7 := test_no h7
  have t8 := test_no h8
  have t9 := test_no h9
  have t10 := test_no h10
  have t11 := test_no h11
  have t12 := test_no h12
  have t13 := test_no h13
  have t14 := test_no h14
  have t15 := test_no h15
  clear ha hb hn hu h0 h1 h2 h3 h4 h5 h6 h7 h8 h9 h10 h11 h12 h13 h14 h15
  go_enter Tryd.func19, Tryd.ntmps19
  go_wp2_with fail
  go_ret2
  exact ⟨rfl, rfl⟩
end Go.Proofs.YtlajghpikilkgaaDoor
