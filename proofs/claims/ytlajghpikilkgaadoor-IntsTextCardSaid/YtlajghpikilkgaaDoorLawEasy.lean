/-
  The walks of IntsUnary, IntsBinary, IntsParse and IntsText: they return true for every input.
-/
import Derived.Test.YtlajghpikilkgaaDoorRefBinary
import Derived.Test.YtlajghpikilkgaaDoorRefKnown
import Derived.Test.YtlajghpikilkgaaDoorRefText
import Derived.Test.YtlajghpikilkgaaDoorRefParse
import Derived.Test.YtlajghpikilkgaaDoorExample
import Derived.Lib.ItoaLen
namespace Go.Proofs.YtlajghpikilkgaaDoor
set_option linter.unusedVariables false
set_option linter.unusedSimpArgs false
open Go.RowKit

set_option maxHeartbeats 2000000 in
set_option maxRecDepth 100000 in
theorem walk_unary (s : ByteArray) (a n : Int) (w : World) (hs : s.size ≤ 9223372036854775807) (ha : In.ok a) (hT : Tabs w) :
    Calls Tryd.prog 3 #[.string s, .int .i64 a, .int .i64 n] w fun e w' => e = .returned (.bool true) ∧ Below w.heap.size w w' := by
  have c1 := fun w => unary_any s a w hs ha
  have c2 := fun w => refUnary_any s a w ha
  have c3 := fun w => known_any s n w hs
  have c4 := fun w => refKnown_any s n w
  unfold Ret2 at c1
  obtain ⟨v, hv⟩ : ∃ v, v = (un s.data.toList a).1 := ⟨_, rfl⟩
  obtain ⟨k, hk⟩ : ∃ k, k = (un s.data.toList a).2 := ⟨_, rfl⟩
  obtain ⟨r, hr⟩ : ∃ r, r = known s.data.toList n := ⟨_, rfl⟩
  rw [← hv, ← hk] at c1 c2
  rw [← hr] at c3 c4
  have C1 := Lib.hid c1
  have C2 := Lib.hid c2
  have C3 := Lib.hid c3
  have C4 := Lib.hid c4
  have HT := Lib.hid hT
  clear c1 c2 c3 c4 hv hk hr hs ha hT
  go_enter Tryd.func3, Tryd.ntmps3
  go_wp2_with fail
  refine (C1.out _).mono ?_
  rintro e w1 ⟨rfl, hb⟩
  have H1 := Lib.hid hb
  clear hb
  go_wp2_with fail
  refine (C2.out _).mono ?_
  rintro e w2 ⟨rfl, rfl⟩
  go_wp2_with fail
  refine (C3.out _).mono ?_
  rintro e w3 ⟨rfl, hb⟩
  have H3 := Lib.hid (H1.out.trans (hb.mono H1.out.size))
  clear hb
  go_wp2_with fail
  refine (C4.out _).mono ?_
  rintro e w4 ⟨rfl, hb⟩
  have H4 := Lib.hid (H3.out.trans (hb.mono H3.out.size))
  clear hb
  go_wp2_with fail
  refine (example_true _ (HT.out.below H4.out)).mono ?_
  rintro e w5 ⟨rfl, hb⟩
  have H5 := Lib.hid (H4.out.trans (hb.mono H4.out.size))
  clear hb
  go_wp2_with fail
  go_ret
  exact ⟨rfl, H5.out⟩

set_option maxHeartbeats 2000000 in
set_option maxRecDepth 100000 in
theorem walk_binary (s : ByteArray) (a b : Int) (w : World) (hs : s.size ≤ 9223372036854775807) (ha : In.ok a) (hb : In.ok b) (hT : Tabs w) :
    Calls Tryd.prog 4 #[.string s, .int .i64 a, .int .i64 b] w fun e w' => e = .returned (.bool true) ∧ Below w.heap.size w w' := by
  have c1 := fun w => binary_any s a b w hs ha hb
  have c2 := fun w => refBinary_any s a b w ha hb
  unfold Ret2 at c1
  obtain ⟨v, hv⟩ : ∃ v, v = (bin s.data.toList a b).1 := ⟨_, rfl⟩
  obtain ⟨k, hk⟩ : ∃ k, k = (bin s.data.toList a b).2 := ⟨_, rfl⟩
  rw [← hv, ← hk] at c1 c2
  have C1 := Lib.hid c1
  have C2 := Lib.hid c2
  have HT := Lib.hid hT
  clear c1 c2 hv hk hs ha hb hT
  go_enter Tryd.func4, Tryd.ntmps4
  go_wp2_with fail
  refine (C1.out _).mono ?_
  rintro e w1 ⟨rfl, hb⟩
  have H1 := Lib.hid hb
  clear hb
  go_wp2_with fail
  refine (C2.out _).mono ?_
  rintro e w2 ⟨rfl, rfl⟩
  go_wp2_with fail
  refine (example_true _ (HT.out.below H1.out)).mono ?_
  rintro e w5 ⟨rfl, hb⟩
  have H5 := Lib.hid (H1.out.trans (hb.mono H1.out.size))
  clear hb
  go_wp2_with fail
  go_ret
  exact ⟨rfl, H5.out⟩

set_option maxHeartbeats 2000000 in
set_option maxRecDepth 100000 in
theorem walk_parse (s : ByteArray) (b : Int) (w : World) (hs : s.size ≤ 9223372036854775807) (hT : Tabs w) :
    Calls Tryd.prog 5 #[.string s, .int .i64 b] w fun e w' => e = .returned (.bool true) ∧ Below w.heap.size w w' := by
  have c1 := fun w => parse_any s b w hs
  have c2 := fun w => refParse_any s b w hs
  obtain ⟨v, hv⟩ : ∃ v, v = (In.parse s.data.toList b).1 := ⟨_, rfl⟩
  obtain ⟨k, hk⟩ : ∃ k, k = (In.parse s.data.toList b).2 := ⟨_, rfl⟩
  rw [← hv, ← hk] at c1 c2
  have C1 := Lib.hid c1
  have C2 := Lib.hid c2
  have HT := Lib.hid hT
  clear c1 c2 hv hk hs hT
  go_enter Tryd.func5, Tryd.ntmps5
  go_wp2_with fail
  refine (C1.out _).mono ?_
  rintro e w1 ⟨rfl, rfl⟩
  go_wp2_with fail
  refine (C2.out _).mono ?_
  rintro e w2 ⟨rfl, rfl⟩
  go_wp2_with fail
  refine (example_true _ HT.out).mono ?_
  rintro e w5 ⟨rfl, hb⟩
  have H5 := Lib.hid hb
  clear hb
  go_wp2_with fail
  go_ret
  exact ⟨rfl, H5.out⟩

namespace In
/-- The digits of a numeral are digits of base 10, and their number is the number. -/
theorem dec_val : ∀ u : Nat, val 10 (Lib.decDigits u) = (u : Int) ∧ areD 10 (Lib.decDigits u) = true ∧ ∀ c r, Lib.decDigits u = c :: r → c ≠ 45 := by
  intro u
  induction u using Nat.strongRecOn with
  | ind u ih =>
    have hd : ∀ k : Nat, k < 10 → dg ((UInt8.ofNat (48 + k)).toNat : Int) = (k : Int) ∧ UInt8.ofNat (48 + k) ≠ 45 := by
      intro k hk
      have e : (UInt8.ofNat (48 + k)).toNat = 48 + k := by rw [UInt8.toNat_ofNat']; omega
      refine ⟨?_, fun h => ?_⟩
      · rw [e, dg_1 (by omega) (by omega)]; omega
      · have := congrArg UInt8.toNat h
        rw [e] at this
        have h45 : (45 : UInt8).toNat = 45 := rfl
        omega
    by_cases h : u < 10
    · rw [dec_small h]
      obtain ⟨h1, h2⟩ := hd u h
      refine ⟨by simp only [val, List.foldl_cons, List.foldl_nil, h1]; omega, ?_, ?_⟩
      · unfold areD allD
        simp only [List.all_cons, List.all_nil, h1]
        simp; omega
      · intro c r e
        injection e with e1 e2
        rw [← e1]; exact h2
    · rw [dec_big h]
      obtain ⟨h1, h2⟩ := hd (u % 10) (by omega)
      obtain ⟨i1, i2, i3⟩ := ih (u / 10) (by omega)
      refine ⟨by rw [val_snoc, i1, h1]; omega, ?_, ?_⟩
      · unfold areD allD at *
        rw [List.all_append]
        simp only [List.all_cons, List.all_nil, h1]
        rw [Bool.and_eq_true] at i2
        simp [i2.1]; omega
      · intro c r e
        cases hq : Lib.decDigits (u / 10) with
        | nil =>
          rw [hq] at i2
          exact absurd i2 (by decide)
        | cons c' r' =>
          rw [hq] at e
          injection e with e1 e2
          rw [← e1]
          exact i3 c' r' hq
/-- Parse undoes Text. -/
theorem parse_itoa {n : Int} (hn : ok n) : parse (Lib.itoa n) 10 = (n, 0) := by
  obtain ⟨h1, h2, h3⟩ := dec_val n.natAbs
  unfold Lib.itoa
  by_cases h : n < 0
  · rw [if_pos h]
    obtain ⟨e1, e2⟩ := rest_minus (l := 45 :: Lib.decDigits n.natAbs) rfl rfl
    rw [parse_num (by decide) (by decide) (by rw [e1]; exact h2), e1, e2]
    show fit (-val 10 (Lib.decDigits n.natAbs)) = _
    rw [h1, show -((n.natAbs : Nat) : Int) = n by omega]
    exact fit_yes hn
  · rw [if_neg h, show n.toNat = n.natAbs by omega]
    cases hq : Lib.decDigits n.natAbs with
    | nil => rw [hq] at h2; exact absurd h2 (by decide)
    | cons c r =>
      have hc := h3 c r hq
      obtain ⟨e1, e2⟩ := rest_plus (l := c :: r) rfl (by
        intro e
        apply hc
        apply UInt8.toNat_inj.1
        have : (45 : UInt8).toNat = 45 := rfl
        omega)
      rw [parse_num (by decide) (by decide) (by rw [e1, List.drop_zero, ← hq]; exact h2), e1, e2, List.drop_zero, ← hq]
      show fit (val 10 (Lib.decDigits n.natAbs)) = _
      rw [h1, show ((n.natAbs : Nat) : Int) = n by omega]
      exact fit_yes hn
end In

set_option maxHeartbeats 2000000 in
set_option maxRecDepth 100000 in
theorem walk_text (n : Int) (w : World) (hn : In.ok n) (hT : Tabs w) :
    Calls Tryd.prog 6 #[.int .i64 n] w fun e w' => e = .returned (.bool true) ∧ Below w.heap.size w w' := by
  have c1 := fun w hT => text_any n w hn hT
  have hsz : (⟨(Lib.itoa n).toArray⟩ : ByteArray).size ≤ 9223372036854775807 := by
    have := Lib.itoa_length_le n hn.1 hn.2
    show (Lib.itoa n).toArray.size ≤ _
    simp; omega
  have c2 := fun w => parse_any ⟨(Lib.itoa n).toArray⟩ 10 w hsz
  rw [show (⟨(Lib.itoa n).toArray⟩ : ByteArray).data.toList = Lib.itoa n from rfl, In.parse_itoa hn] at c2
  have c3 := fun w => refText_any n w hn
  obtain ⟨T, hTx⟩ : ∃ T : ByteArray, T = ⟨(Lib.itoa n).toArray⟩ := ⟨_, rfl⟩
  rw [← hTx] at c1 c2 c3
  have C1 := Lib.hid c1
  have C2 := Lib.hid c2
  have C3 := Lib.hid c3
  have HT := Lib.hid hT
  clear c1 c2 c3 hsz hTx hn hT
  go_enter Tryd.func6, Tryd.ntmps6
  go_wp2_with fail
  refine (C1.out _ HT.out).mono ?_
  rintro e w1 ⟨rfl, hb⟩
  have H1 := Lib.hid hb
  clear hb
  go_wp2_with fail
  refine (C2.out _).mono ?_
  rintro e w2 ⟨rfl, rfl⟩
  go_wp2_with fail
  refine (C3.out _).mono ?_
  rintro e w3 ⟨rfl, hb⟩
  have H3 := Lib.hid (H1.out.trans (hb.mono H1.out.size))
  clear hb
  go_wp2_with fail
  refine (example_true _ (HT.out.below H3.out)).mono ?_
  rintro e w5 ⟨rfl, hb⟩
  have H5 := Lib.hid (H3.out.trans (hb.mono H3.out.size))
  clear hb
  go_wp2_with fail
  go_ret
  exact ⟨rfl, H5.out⟩
end Go.Proofs.YtlajghpikilkgaaDoor
