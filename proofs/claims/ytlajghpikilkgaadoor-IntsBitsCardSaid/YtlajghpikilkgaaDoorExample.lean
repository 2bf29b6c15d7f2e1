/-
  The chapter's examples that each statement holds besides; a binary function's value and whether there is one.
-/
import Derived.Test.YtlajghpikilkgaaDoorUnary
import Derived.Test.YtlajghpikilkgaaDoorParse
namespace Go.Proofs.YtlajghpikilkgaaDoor
set_option linter.unusedVariables false
set_option linter.unusedSimpArgs false
open Go.RowKit

theorem itoa_m40 : (⟨(Lib.itoa (-40)).toArray⟩ : ByteArray) = ⟨#[45, 52, 48]⟩ := by
  have : Lib.itoa (-40) = [45, 52, 48] := by
    unfold Lib.itoa
    rw [if_pos (by decide)]
    rw [Lib.decDigits, dif_neg (by decide), Lib.decDigits, dif_pos (by decide)]
    rfl
  rw [this]

set_option maxHeartbeats 2000000 in
set_option maxRecDepth 100000 in
theorem example_true (w : World) (hT : Tabs w) : Calls Tryd.prog 17 #[] w fun e w' => e = .returned (.bool true) ∧ Below w.heap.size w w' := by
  have c1 := fun w => unary_any ⟨#[45]⟩ 5 w (by decide) (by decide)
  rw [show un (⟨#[45]⟩ : ByteArray).data.toList 5 = (-5, 0) from by decide +kernel] at c1
  have c2 := fun w => binary_any ⟨#[100, 105, 118]⟩ (-7) 2 w (by decide) (by decide) (by decide)
  rw [show bin (⟨#[100, 105, 118]⟩ : ByteArray).data.toList (-7) 2 = (-4, 0) from by decide +kernel] at c2
  have c3 := fun w => binary_any ⟨#[114, 101, 109]⟩ 1 0 w (by decide) (by decide) (by decide)
  rw [show bin (⟨#[114, 101, 109]⟩ : ByteArray).data.toList 1 0 = (0, 11) from by decide +kernel] at c3
  have c4 := fun w => parse_any ⟨#[45, 48, 102, 102]⟩ 16 w (by decide)
  rw [show In.parse (⟨#[45, 48, 102, 102]⟩ : ByteArray).data.toList 16 = (-255, 0) from by decide +kernel] at c4
  have c5 := fun w hT => text_any (-40) w (by decide) hT
  rw [itoa_m40] at c5
  have c6 := fun w => known_any ⟨#[103, 99, 100]⟩ 2 w (by decide)
  rw [show known (⟨#[103, 99, 100]⟩ : ByteArray).data.toList 2 = true from by decide +kernel] at c6
  have c7 := fun w => known_any ⟨#[103, 99, 100]⟩ 1 w (by decide)
  rw [show known (⟨#[103, 99, 100]⟩ : ByteArray).data.toList 1 = false from by decide +kernel] at c7
  unfold Ret2 at c1 c2 c3
  have C1 := Lib.hid c1
  have C2 := Lib.hid c2
  have C3 := Lib.hid c3
  have C4 := Lib.hid c4
  have C5 := Lib.hid c5
  have C6 := Lib.hid c6
  have C7 := Lib.hid c7
  have HT := Lib.hid hT
  clear c1 c2 c3 c4 c5 c6 c7 hT
  go_enter Tryd.func17, Tryd.ntmps17
  go_wp2_with fail
  refine (C1.out _).mono ?_
  rintro e w1 ⟨rfl, hb⟩
  have H1 := Lib.hid hb
  clear hb
  go_wp2_with fail
  refine (C2.out _).mono ?_
  rintro e w2 ⟨rfl, hb⟩
  have H2 := Lib.hid (H1.out.trans (hb.mono H1.out.size))
  clear hb
  go_wp2_with fail
  refine (C3.out _).mono ?_
  rintro e w3 ⟨rfl, hb⟩
  have H3 := Lib.hid (H2.out.trans (hb.mono H2.out.size))
  clear hb
  go_wp2_with fail
  refine (C4.out _).mono ?_
  rintro e w4 ⟨rfl, rfl⟩
  go_wp2_with fail
  refine (C5.out _ (HT.out.below H3.out)).mono ?_
  rintro e w5 ⟨rfl, hb⟩
  have H5 := Lib.hid (H3.out.trans (hb.mono H3.out.size))
  clear hb
  go_wp2_with fail
  refine (C6.out _).mono ?_
  rintro e w6 ⟨rfl, hb⟩
  have H6 := Lib.hid (H5.out.trans (hb.mono H5.out.size))
  clear hb
  go_wp2_with fail
  refine (C7.out _).mono ?_
  rintro e w7 ⟨rfl, hb⟩
  have H7 := Lib.hid (H6.out.trans (hb.mono H6.out.size))
  clear hb
  go_wp2_with fail
  go_ret
  exact ⟨rfl, H7.out⟩

set_option maxHeartbeats 1000000 in
/-- two: the value of a binary function, and whether there is one. -/
theorem two_any (s : ByteArray) (a b : Int) (w : World) (hs : s.size ≤ 9223372036854775807) (ha : In.ok a) (hb : In.ok b) :
    Calls Tryd.prog 24 #[.string s, .int .i64 a, .int .i64 b] w fun e w' => e = .returned (.tuple #[.int .i64 (bin s.data.toList a b).1, .bool ((bin s.data.toList a b).2 == 0)]) ∧ Below w.heap.size w w' := by
  have c1 := fun w => binary_any s a b w hs ha hb
  unfold Ret2 at c1
  obtain ⟨v, hv⟩ : ∃ v, v = (bin s.data.toList a b).1 := ⟨_, rfl⟩
  obtain ⟨k, hk⟩ : ∃ k, k = (bin s.data.toList a b).2 := ⟨_, rfl⟩
  rw [← hv, ← hk] at c1 ⊢
  have C1 := Lib.hid c1
  clear c1 hv hk hs ha hb
  go_enter Tryd.func24, Tryd.ntmps24
  go_wp2_with fail
  refine (C1.out _).mono ?_
  rintro e w1 ⟨rfl, hb⟩
  have HB := Lib.hid hb
  clear hb
  go_wp2_with fail
  go_ret2
  exact ⟨rfl, HB.out⟩
end Go.Proofs.YtlajghpikilkgaaDoor
