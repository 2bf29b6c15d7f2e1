/-
  The walks of IntsBits, IntsOrders, IntsPowers and IntsShifts: they return true for every input.
-/
import Derived.Test.YtlajghpikilkgaaDoorExample
namespace Go.Proofs.YtlajghpikilkgaaDoor
set_option linter.unusedVariables false
set_option linter.unusedSimpArgs false
open Go.RowKit

set_option maxHeartbeats 2000000 in
set_option maxRecDepth 100000 in
theorem walk_bits (a b : Int) (w : World) (ha : In.ok a) (hb : In.ok b) (hT : Tabs w) :
    Calls Tryd.prog 10 #[.int .i64 a, .int .i64 b] w fun e w' => e = .returned (.bool true) ∧ Below w.heap.size w w' := by
  have c1 := fun w => two_any ⟨#[47, 92]⟩ a b w (by decide) ha hb
  have c2 := fun w => two_any ⟨#[92, 47]⟩ a b w (by decide) ha hb
  have c3 := fun w => two_any ⟨#[120, 111, 114]⟩ a b w (by decide) ha hb
  have c4 := fun w => unary_any ⟨#[92]⟩ a w (by decide) ha
  have c5 := fun w => unary_any ⟨#[92]⟩ b w (by decide) hb
  have ha' : In.ok (-1 - a) := by unfold In.ok at *; omega
  have hb' : In.ok (-1 - b) := by unfold In.ok at *; omega
  have c6 := fun w => two_any ⟨#[47, 92]⟩ (-1 - a) (-1 - b) w (by decide) ha' hb'
  rw [show bin (⟨#[47, 92]⟩ : ByteArray).data.toList a b = (bits .and .i64 a b, 0) from rfl] at c1
  rw [show bin (⟨#[92, 47]⟩ : ByteArray).data.toList a b = (bits .or .i64 a b, 0) from rfl] at c2
  rw [show bin (⟨#[120, 111, 114]⟩ : ByteArray).data.toList a b = (bits .xor .i64 a b, 0) from rfl] at c3
  rw [show un (⟨#[92]⟩ : ByteArray).data.toList a = (-1 - a, 0) from rfl] at c4
  rw [show un (⟨#[92]⟩ : ByteArray).data.toList b = (-1 - b, 0) from rfl] at c5
  rw [show bin (⟨#[47, 92]⟩ : ByteArray).data.toList (-1 - a) (-1 - b) = (bits .and .i64 (-1 - a) (-1 - b), 0) from rfl, In.nor_bits ha hb] at c6
  have e1 := In.and_or_sum ha hb
  have e2 := In.or_sub_and a b
  have o1 := In.bits_ok .or (by decide) a b
  obtain ⟨x, hx⟩ : ∃ x, x = bits .and .i64 a b := ⟨_, rfl⟩
  obtain ⟨y, hy⟩ : ∃ x, x = bits .or .i64 a b := ⟨_, rfl⟩
  obtain ⟨z, hz⟩ : ∃ x, x = bits .xor .i64 a b := ⟨_, rfl⟩
  obtain ⟨na, hna⟩ : ∃ x, x = -1 - a := ⟨_, rfl⟩
  obtain ⟨nb, hnb⟩ : ∃ x, x = -1 - b := ⟨_, rfl⟩
  obtain ⟨ny, hny⟩ : ∃ x, x = -1 - y := ⟨_, rfl⟩
  rw [← hx] at c1 e1 e2
  rw [← hy] at c2 c6 e1 e2 o1
  rw [← hz] at c3 e2
  rw [← hna] at c4 c6
  rw [← hnb] at c5 c6
  rw [← hny] at c6
  unfold Ret2 at c4 c5
  simp only at c1 c2 c3 c4 c5 c6
  rw [show ((0 : Int) == 0) = true from rfl] at c1 c2 c3 c6
  have C1 := Lib.hid c1
  have C2 := Lib.hid c2
  have C3 := Lib.hid c3
  have C4 := Lib.hid c4
  have C5 := Lib.hid c5
  have C6 := Lib.hid c6
  have HT := Lib.hid hT
  have t1 : (wrap64 (x + y) == wrap64 (a + b)) = true := by simpa using e1
  have t2 : (z == wrap64 (y - x)) = true := by simpa using e2.symm
  have t3 : (ny == wrap64 (-1 - y)) = true := by
    have : wrap64 (-1 - y) = -1 - y := by unfold In.ok at o1; unfold wrap64; omega
    simp [this, hny]
  have b1 : -9223372036854775808 ≤ y := o1.1
  have b2 : y ≤ 9223372036854775807 := o1.2
  have t4 : (ny == -1 - y) = true := by simp [hny]
  clear c1 c2 c3 c4 c5 c6 hx hy hz hna hnb hny ha hb ha' hb' hT e1 e2 o1
  go_enter Tryd.func10, Tryd.ntmps10
  go_wp2_with fail
  refine (C1.out _).mono ?_
  rintro e w1 ⟨rfl, hb⟩
  have H1 := Lib.hid hb
  clear hb
  go_wp2_with fail
  refine (C2.out _).mono ?_
  rintro e w2 ⟨rfl, hb⟩
  have H2 := Lib.hid (H1.out.trans (hb.mono H1.out.size))
  clear hb
  go_wp2_with fail
  refine (C3.out _).mono ?_
  rintro e w3 ⟨rfl, hb⟩
  have H3 := Lib.hid (H2.out.trans (hb.mono H2.out.size))
  clear hb
  go_wp2_with fail
  refine (C4.out _).mono ?_
  rintro e w4 ⟨rfl, hb⟩
  have H4 := Lib.hid (H3.out.trans (hb.mono H3.out.size))
  clear hb
  go_wp2_with fail
  refine (C5.out _).mono ?_
  rintro e w5 ⟨rfl, hb⟩
  have H5 := Lib.hid (H4.out.trans (hb.mono H4.out.size))
  clear hb
  go_wp2_with fail
  refine (C6.out _).mono ?_
  rintro e w6 ⟨rfl, hb⟩
  have H6 := Lib.hid (H5.out.trans (hb.mono H5.out.size))
  clear hb
  go_wp2_with fail
  refine (example_true _ (HT.out.below H6.out)).mono ?_
  rintro e w7 ⟨rfl, hb⟩
  have H7 := Lib.hid (H6.out.trans (hb.mono H6.out.size))
  clear hb
  go_wp2_with fail
  go_ret
  exact ⟨rfl, H7.out⟩

namespace In
theorem sign_abs {a : Int} : (sign a).1 * size a = a := by
  unfold sign size
  simp only
  rcases Int.lt_trichotomy a 0 with h | h | h
  · rw [if_pos h, if_pos h]; omega
  · subst h; rfl
  · rw [if_neg (by omega), if_neg (by omega), if_neg (by omega)]; omega
theorem sign_bd (a : Int) : -1 ≤ (sign a).1 ∧ (sign a).1 ≤ 1 := by unfold sign; simp only; split <;> (try split) <;> omega
theorem size_ok {a : Int} (h : ok a) : ok (size a) ↔ a ≠ -9223372036854775808 := by
  unfold ok at *; unfold size; split <;> omega
end In

set_option maxHeartbeats 2000000 in
set_option maxRecDepth 100000 in
theorem walk_orders (a b : Int) (w : World) (ha : In.ok a) (hb : In.ok b) (hT : Tabs w) :
    Calls Tryd.prog 12 #[.int .i64 a, .int .i64 b] w fun e w' => e = .returned (.bool true) ∧ Below w.heap.size w w' := by
  have c1 := fun w => two_any ⟨#[109, 105, 110]⟩ a b w (by decide) ha hb
  have c2 := fun w => two_any ⟨#[109, 97, 120]⟩ a b w (by decide) ha hb
  have c3 := fun w => unary_any ⟨#[115, 105, 103, 110]⟩ a w (by decide) ha
  have c4 := fun w => unary_any ⟨#[97, 98, 115]⟩ a w (by decide) ha
  rw [show bin (⟨#[109, 105, 110]⟩ : ByteArray).data.toList a b = (min a b, 0) from rfl] at c1
  rw [show bin (⟨#[109, 97, 120]⟩ : ByteArray).data.toList a b = (max a b, 0) from rfl] at c2
  rw [show un (⟨#[115, 105, 103, 110]⟩ : ByteArray).data.toList a = ((In.sign a).1, 0) from rfl] at c3
  rw [show un (⟨#[97, 98, 115]⟩ : ByteArray).data.toList a = In.fit (In.size a) from rfl] at c4
  unfold Ret2 at c3 c4
  simp only at c1 c2 c3
  rw [show ((0 : Int) == 0) = true from rfl] at c1 c2
  have hsa := @In.sign_abs a
  obtain ⟨s0, s1⟩ := In.sign_bd a
  have hok := In.size_ok ha
  have hlo := In.size_lo a
  obtain ⟨sg, hsg⟩ : ∃ x, x = (In.sign a).1 := ⟨_, rfl⟩
  rw [← hsg] at c3 hsa s0 s1
  have C3 := Lib.hid c3
  have HT := Lib.hid hT
  clear c3 hsg
  by_cases hm : a = -9223372036854775808
  · have hno : ¬ In.ok (In.size a) := fun h => (hok.1 h) hm
    rw [In.fit_no hno] at c4
    have C4 := Lib.hid c4
    have t1 : (a == -9223372036854775808) = true := by simpa using hm
    clear c4 hok hlo hsa hno ha hT hm
    rcases Int.lt_or_le b a with h | h
    · rw [show min a b = b by omega] at c1
      rw [show max a b = a by omega] at c2
      have C1 := Lib.hid c1
      have C2 := Lib.hid c2
      have h1 : decide (a < b) = false := decide_eq_false (by omega)
      have h2 : (b == a) = false := by simp; omega
      clear c1 c2
      go_enter Tryd.func12, Tryd.ntmps12
      go_wp2_with fail
      refine (C1.out _).mono ?_
      rintro e w1 ⟨rfl, hb⟩
      have H1 := Lib.hid (hb)
      clear hb
      go_wp2_with fail
      refine (C2.out _).mono ?_
      rintro e w2 ⟨rfl, hb⟩
      have H2 := Lib.hid (H1.out.trans (hb.mono H1.out.size))
      clear hb
      go_wp2_with fail
      refine (C3.out _).mono ?_
      rintro e w3 ⟨rfl, hb⟩
      have H3 := Lib.hid (H2.out.trans (hb.mono H2.out.size))
      clear hb
      go_wp2_with fail
      refine (C4.out _).mono ?_
      rintro e w4 ⟨rfl, hb⟩
      have H4 := Lib.hid (H3.out.trans (hb.mono H3.out.size))
      clear hb
      go_wp2_with fail
      refine (example_true _ (HT.out.below H4.out)).mono ?_
      rintro e w5 ⟨rfl, hb⟩
      have H5 := Lib.hid (H4.out.trans (hb.mono H4.out.size))
      clear hb
      go_wp2_with fail
      go_ret
      exact ⟨rfl, H5.out⟩
    · rw [show min a b = a by omega] at c1
      rw [show max a b = b by omega] at c2
      have C1 := Lib.hid c1
      have C2 := Lib.hid c2
      have h1 : decide (b < a) = false := decide_eq_false (by omega)
      clear c1 c2
      go_enter Tryd.func12, Tryd.ntmps12
      go_wp2_with fail
      refine (C1.out _).mono ?_
      rintro e w1 ⟨rfl, hb⟩
      have H1 := Lib.hid (hb)
      clear hb
      go_wp2_with fail
      refine (C2.out _).mono ?_
      rintro e w2 ⟨rfl, hb⟩
      have H2 := Lib.hid (H1.out.trans (hb.mono H1.out.size))
      clear hb
      go_wp2_with fail
      refine (C3.out _).mono ?_
      rintro e w3 ⟨rfl, hb⟩
      have H3 := Lib.hid (H2.out.trans (hb.mono H2.out.size))
      clear hb
      go_wp2_with fail
      refine (C4.out _).mono ?_
      rintro e w4 ⟨rfl, hb⟩
      have H4 := Lib.hid (H3.out.trans (hb.mono H3.out.size))
      clear hb
      go_wp2_with fail
      refine (example_true _ (HT.out.below H4.out)).mono ?_
      rintro e w5 ⟨rfl, hb⟩
      have H5 := Lib.hid (H4.out.trans (hb.mono H4.out.size))
      clear hb
      go_wp2_with fail
      go_ret
      exact ⟨rfl, H5.out⟩
  · have hyes := hok.2 hm
    rw [In.fit_yes hyes] at c4
    have t1 : (a == -9223372036854775808) = false := by simpa using hm
    obtain ⟨n, hn⟩ : ∃ n, n = In.size a := ⟨_, rfl⟩
    rw [← hn] at c4 hlo hsa
    have C4 := Lib.hid c4
    have hw : wrap64 (sg * n) = a := by rw [hsa]; unfold In.ok at ha; unfold wrap64; omega
    have t2 : (wrap64 (sg * n) == a) = true := by rw [hw]; simp
    clear c4 hok hsa hyes ha hT hm hn hw
    rcases Int.lt_or_le b a with h | h
    · rw [show min a b = b by omega] at c1
      rw [show max a b = a by omega] at c2
      have C1 := Lib.hid c1
      have C2 := Lib.hid c2
      have h1 : decide (a < b) = false := decide_eq_false (by omega)
      have h2 : (b == a) = false := by simp; omega
      clear c1 c2
      go_enter Tryd.func12, Tryd.ntmps12
      go_wp2_with fail
      refine (C1.out _).mono ?_
      rintro e w1 ⟨rfl, hb⟩
      have H1 := Lib.hid (hb)
      clear hb
      go_wp2_with fail
      refine (C2.out _).mono ?_
      rintro e w2 ⟨rfl, hb⟩
      have H2 := Lib.hid (H1.out.trans (hb.mono H1.out.size))
      clear hb
      go_wp2_with fail
      refine (C3.out _).mono ?_
      rintro e w3 ⟨rfl, hb⟩
      have H3 := Lib.hid (H2.out.trans (hb.mono H2.out.size))
      clear hb
      go_wp2_with fail
      refine (C4.out _).mono ?_
      rintro e w4 ⟨rfl, hb⟩
      have H4 := Lib.hid (H3.out.trans (hb.mono H3.out.size))
      clear hb
      go_wp2_with fail
      refine (example_true _ (HT.out.below H4.out)).mono ?_
      rintro e w5 ⟨rfl, hb⟩
      have H5 := Lib.hid (H4.out.trans (hb.mono H4.out.size))
      clear hb
      go_wp2_with fail
      go_ret
      exact ⟨rfl, H5.out⟩
    · rw [show min a b = a by omega] at c1
      rw [show max a b = b by omega] at c2
      have C1 := Lib.hid c1
      have C2 := Lib.hid c2
      have h1 : decide (b < a) = false := decide_eq_false (by omega)
      clear c1 c2
      go_enter Tryd.func12, Tryd.ntmps12
      go_wp2_with fail
      refine (C1.out _).mono ?_
      rintro e w1 ⟨rfl, hb⟩
      have H1 := Lib.hid (hb)
      clear hb
      go_wp2_with fail
      refine (C2.out _).mono ?_
      rintro e w2 ⟨rfl, hb⟩
      have H2 := Lib.hid (H1.out.trans (hb.mono H1.out.size))
      clear hb
      go_wp2_with fail
      refine (C3.out _).mono ?_
      rintro e w3 ⟨rfl, hb⟩
      have H3 := Lib.hid (H2.out.trans (hb.mono H2.out.size))
      clear hb
      go_wp2_with fail
      refine (C4.out _).mono ?_
      rintro e w4 ⟨rfl, hb⟩
      have H4 := Lib.hid (H3.out.trans (hb.mono H3.out.size))
      clear hb
      go_wp2_with fail
      refine (example_true _ (HT.out.below H4.out)).mono ?_
      rintro e w5 ⟨rfl, hb⟩
      have H5 := Lib.hid (H4.out.trans (hb.mono H4.out.size))
      clear hb
      go_wp2_with fail
      go_ret
      exact ⟨rfl, H5.out⟩
end Go.Proofs.YtlajghpikilkgaaDoor
