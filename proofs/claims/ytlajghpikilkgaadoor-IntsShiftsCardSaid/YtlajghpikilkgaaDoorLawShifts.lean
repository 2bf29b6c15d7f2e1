/-
  The walks of IntsShifts: they return true for every input.
-/
import Derived.Test.YtlajghpikilkgaaDoorExample
import Derived.Test.YtlajghpikilkgaaDoorRefPower
namespace Go.Proofs.YtlajghpikilkgaaDoor
set_option linter.unusedVariables false
set_option linter.unusedSimpArgs false
open Go.RowKit

namespace In
theorem shl_in {a b : Int} (h0 : ¬ b < 0) (h1 : ¬ 63 < b) : shl a b = fit (a * 2 ^ b.toNat) := if_neg (by omega)
theorem shr_in {a b : Int} (h0 : ¬ b < 0) (h1 : ¬ 63 < b) : shr a b = (a / 2 ^ b.toNat, 0) := if_neg (by omega)
theorem shl_out {a b : Int} (h : b < 0 ∨ 63 < b) : shl a b = (0, 12) := if_pos h
theorem shr_out {a b : Int} (h : b < 0 ∨ 63 < b) : shr a b = (0, 12) := if_pos h
theorem shr_twice (a : Int) (b c : Nat) : a / 2 ^ b / 2 ^ c = a / 2 ^ (b + c) := by
  rw [Int.ediv_ediv_of_nonneg (Int.le_of_lt (two_pow_pos b)), ← Int.pow_add]
end In

set_option maxHeartbeats 4000000 in
set_option maxRecDepth 100000 in
theorem walk_shifts (a b c : Int) (w : World) (ha : In.ok a) (hb : In.ok b) (hc : In.ok c) (hT : Tabs w) :
    Calls Tryd.prog 8 #[.int .i64 a, .int .i64 b, .int .i64 c] w fun e w' => e = .returned (.bool true) ∧ Below w.heap.size w w' := by
  have c1 := fun w => binary_any ⟨#[60, 60]⟩ a b w (by decide) ha hb
  have c2 := fun w => binary_any ⟨#[62, 62]⟩ a b w (by decide) ha hb
  rw [show bin (⟨#[60, 60]⟩ : ByteArray).data.toList a b = In.shl a b from rfl] at c1
  rw [show bin (⟨#[62, 62]⟩ : ByteArray).data.toList a b = In.shr a b from rfl] at c2
  unfold Ret2 at c1 c2
  have HT := Lib.hid hT
  clear hT
  by_cases b0 : b < 0
  · rw [In.shl_out (.inl b0)] at c1
    rw [In.shr_out (.inl b0)] at c2
    have C1 := Lib.hid c1
    have C2 := Lib.hid c2
    clear c1 c2 ha hb hc
    go_enter Tryd.func8, Tryd.ntmps8
    go_wp2_with fail
    refine (example_true _ HT.out).mono ?_
    rintro e w1 ⟨rfl, hb⟩
    have H1 := Lib.hid (hb)
    clear hb
    go_wp2_with fail
    refine (C1.out _).mono ?_
    rintro e w2 ⟨rfl, hb⟩
    have H2 := Lib.hid (H1.out.trans (hb.mono H1.out.size))
    clear hb
    go_wp2_with fail
    refine (C2.out _).mono ?_
    rintro e w3 ⟨rfl, hb⟩
    have H3 := Lib.hid (H2.out.trans (hb.mono H2.out.size))
    clear hb
    go_wp2_with fail
    go_ret
    exact ⟨rfl, H3.out⟩
  by_cases b1 : 63 < b
  · rw [In.shl_out (.inr b1)] at c1
    rw [In.shr_out (.inr b1)] at c2
    have C1 := Lib.hid c1
    have C2 := Lib.hid c2
    have b2 : 0 ≤ b := by omega
    clear c1 c2 ha hb hc b0
    go_enter Tryd.func8, Tryd.ntmps8
    go_wp2_with fail
    refine (example_true _ HT.out).mono ?_
    rintro e w1 ⟨rfl, hb⟩
    have H1 := Lib.hid (hb)
    clear hb
    go_wp2_with fail
    refine (C1.out _).mono ?_
    rintro e w2 ⟨rfl, hb⟩
    have H2 := Lib.hid (H1.out.trans (hb.mono H1.out.size))
    clear hb
    go_wp2_with fail
    refine (C2.out _).mono ?_
    rintro e w3 ⟨rfl, hb⟩
    have H3 := Lib.hid (H2.out.trans (hb.mono H2.out.size))
    clear hb
    go_wp2_with fail
    go_ret
    exact ⟨rfl, H3.out⟩
  rw [In.shl_in b0 b1] at c1
  rw [In.shr_in b0 b1] at c2
  have oR : In.ok (a / 2 ^ b.toNat) := In.shr_ok b.toNat ha
  have d1 : c < 0 ∨ 63 - b < c ∨ (0 ≤ c ∧ c ≤ 63 - b) := by omega
  obtain ⟨R, hR⟩ : ∃ R, R = a / 2 ^ b.toNat := ⟨_, rfl⟩
  have tw : 0 ≤ c ∧ c ≤ 63 - b → In.ok (b + c) ∧ bin (⟨#[62, 62]⟩ : ByteArray).data.toList R c = (R / 2 ^ c.toNat, 0) ∧ bin (⟨#[62, 62]⟩ : ByteArray).data.toList a (b + c) = (R / 2 ^ c.toNat, 0) := by
    rintro ⟨g0, g1⟩
    refine ⟨by unfold In.ok; omega, In.shr_in (by omega) (by omega), ?_⟩
    rw [hR, In.shr_twice, ← show (b + c).toNat = b.toNat + c.toNat by omega]
    exact In.shr_in (by omega) (by omega)
  rw [← hR] at c2 oR
  have C2 := Lib.hid c2
  have b2 : 0 ≤ b := by omega
  have b3 : b ≤ 63 := by omega
  have c3 := fun (w : World) (h : 0 ≤ c ∧ c ≤ 63 - b) => two_any ⟨#[62, 62]⟩ R c w (by decide) oR hc
  have c4 := fun (w : World) (h : 0 ≤ c ∧ c ≤ 63 - b) => two_any ⟨#[62, 62]⟩ a (b + c) w (by decide) ha (tw h).1
  by_cases hs : In.ok (a * 2 ^ b.toNat)
  · rw [In.fit_yes hs] at c1
    have c5 := fun w => two_any ⟨#[62, 62]⟩ (a * 2 ^ b.toNat) b w (by decide) hs hb
    rw [show bin (⟨#[62, 62]⟩ : ByteArray).data.toList (a * 2 ^ b.toNat) b = (a, 0) from by
      show In.shr _ _ = _
      rw [In.shr_in b0 b1, Int.mul_ediv_cancel _ (by have := In.two_pow_pos b.toNat; omega)]] at c5
    simp only at c1 c5
    rw [show ((0 : Int) == 0) = true from rfl] at c5
    obtain ⟨L, hL⟩ : ∃ L, L = a * 2 ^ b.toNat := ⟨_, rfl⟩
    rw [← hL] at c1 c5
    have C1 := Lib.hid c1
    have C5 := Lib.hid c5
    clear c1 c5 hL hs
    rcases d1 with g | g | ⟨g, g'⟩
    · clear c2 c3 c4 tw ha hb hc hR oR b0 b1
      go_enter Tryd.func8, Tryd.ntmps8
      go_wp2_with fail
      refine (example_true _ HT.out).mono ?_
      rintro e w1 ⟨rfl, hb⟩
      have H1 := Lib.hid (hb)
      clear hb
      go_wp2_with fail
      refine (C1.out _).mono ?_
      rintro e w2 ⟨rfl, hb⟩
      have H2 := Lib.hid (H1.out.trans (hb.mono H1.out.size))
      clear hb
      go_wp2_with fail
      refine (C2.out _).mono ?_
      rintro e w3 ⟨rfl, hb⟩
      have H3 := Lib.hid (H2.out.trans (hb.mono H2.out.size))
      clear hb
      go_wp2_with fail
      refine (C5.out _).mono ?_
      rintro e w4 ⟨rfl, hb⟩
      have H4 := Lib.hid (H3.out.trans (hb.mono H3.out.size))
      clear hb
      go_wp2_with fail
      go_ret
      exact ⟨rfl, H4.out⟩
    · clear c2 c3 c4 tw ha hb hc hR oR b0 b1
      have g0 : 0 ≤ c := by omega
      go_enter Tryd.func8, Tryd.ntmps8
      go_wp2_with fail
      refine (example_true _ HT.out).mono ?_
      rintro e w1 ⟨rfl, hb⟩
      have H1 := Lib.hid (hb)
      clear hb
      go_wp2_with fail
      refine (C1.out _).mono ?_
      rintro e w2 ⟨rfl, hb⟩
      have H2 := Lib.hid (H1.out.trans (hb.mono H1.out.size))
      clear hb
      go_wp2_with fail
      refine (C2.out _).mono ?_
      rintro e w3 ⟨rfl, hb⟩
      have H3 := Lib.hid (H2.out.trans (hb.mono H2.out.size))
      clear hb
      go_wp2_with fail
      refine (C5.out _).mono ?_
      rintro e w4 ⟨rfl, hb⟩
      have H4 := Lib.hid (H3.out.trans (hb.mono H3.out.size))
      clear hb
      go_wp2_with fail
      go_ret
      exact ⟨rfl, H4.out⟩
    · have c3' := fun w => c3 w ⟨g, g'⟩
      have c4' := fun w => c4 w ⟨g, g'⟩
      rw [(tw ⟨g, g'⟩).2.1] at c3'
      rw [(tw ⟨g, g'⟩).2.2] at c4'
      simp only at c3' c4'
      rw [show ((0 : Int) == 0) = true from rfl] at c3' c4'
      obtain ⟨Z, hZ⟩ : ∃ Z, Z = R / 2 ^ c.toNat := ⟨_, rfl⟩
      rw [← hZ] at c3' c4'
      have C3 := Lib.hid c3'
      have C4 := Lib.hid c4'
      have hc1 : c ≤ 63 := by omega
      clear c2 c3 c4 c3' c4' tw ha hb hc hR oR b0 b1 hZ
      go_enter Tryd.func8, Tryd.ntmps8
      go_wp2_with fail
      refine (example_true _ HT.out).mono ?_
      rintro e w1 ⟨rfl, hb⟩
      have H1 := Lib.hid (hb)
      clear hb
      go_wp2_with fail
      refine (C1.out _).mono ?_
      rintro e w2 ⟨rfl, hb⟩
      have H2 := Lib.hid (H1.out.trans (hb.mono H1.out.size))
      clear hb
      go_wp2_with fail
      refine (C2.out _).mono ?_
      rintro e w3 ⟨rfl, hb⟩
      have H3 := Lib.hid (H2.out.trans (hb.mono H2.out.size))
      clear hb
      go_wp2_with fail
      refine (C5.out _).mono ?_
      rintro e w4 ⟨rfl, hb⟩
      have H4 := Lib.hid (H3.out.trans (hb.mono H3.out.size))
      clear hb
      go_wp2_with fail
      refine (C3.out _).mono ?_
      rintro e w5 ⟨rfl, hb⟩
      have H5 := Lib.hid (H4.out.trans (hb.mono H4.out.size))
      clear hb
      go_wp2_with fail
      refine (C4.out _).mono ?_
      rintro e w6 ⟨rfl, hb⟩
      have H6 := Lib.hid (H5.out.trans (hb.mono H5.out.size))
      clear hb
      go_wp2_with fail
      go_ret
      exact ⟨rfl, H6.out⟩
  · rw [In.fit_no hs] at c1
    have C1 := Lib.hid c1
    clear c1 hs
    rcases d1 with g | g | ⟨g, g'⟩
    · clear c2 c3 c4 tw ha hb hc hR oR b0 b1
      go_enter Tryd.func8, Tryd.ntmps8
      go_wp2_with fail
      refine (example_true _ HT.out).mono ?_
      rintro e w1 ⟨rfl, hb⟩
      have H1 := Lib.hid (hb)
      clear hb
      go_wp2_with fail
      refine (C1.out _).mono ?_
      rintro e w2 ⟨rfl, hb⟩
      have H2 := Lib.hid (H1.out.trans (hb.mono H1.out.size))
      clear hb
      go_wp2_with fail
      refine (C2.out _).mono ?_
      rintro e w3 ⟨rfl, hb⟩
      have H3 := Lib.hid (H2.out.trans (hb.mono H2.out.size))
      clear hb
      go_wp2_with fail
      go_ret
      exact ⟨rfl, H3.out⟩
    · clear c2 c3 c4 tw ha hb hc hR oR b0 b1
      have g0 : 0 ≤ c := by omega
      go_enter Tryd.func8, Tryd.ntmps8
      go_wp2_with fail
      refine (example_true _ HT.out).mono ?_
      rintro e w1 ⟨rfl, hb⟩
      have H1 := Lib.hid (hb)
      clear hb
      go_wp2_with fail
      refine (C1.out _).mono ?_
      rintro e w2 ⟨rfl, hb⟩
      have H2 := Lib.hid (H1.out.trans (hb.mono H1.out.size))
      clear hb
      go_wp2_with fail
      refine (C2.out _).mono ?_
      rintro e w3 ⟨rfl, hb⟩
      have H3 := Lib.hid (H2.out.trans (hb.mono H2.out.size))
      clear hb
      go_wp2_with fail
      go_ret
      exact ⟨rfl, H3.out⟩
    · have c3' := fun w => c3 w ⟨g, g'⟩
      have c4' := fun w => c4 w ⟨g, g'⟩
      rw [(tw ⟨g, g'⟩).2.1] at c3'
      rw [(tw ⟨g, g'⟩).2.2] at c4'
      simp only at c3' c4'
      rw [show ((0 : Int) == 0) = true from rfl] at c3' c4'
      obtain ⟨Z, hZ⟩ : ∃ Z, Z = R / 2 ^ c.toNat := ⟨_, rfl⟩
      rw [← hZ] at c3' c4'
      have C3 := Lib.hid c3'
      have C4 := Lib.hid c4'
      have hc1 : c ≤ 63 := by omega
      clear c2 c3 c4 c3' c4' tw ha hb hc hR oR b0 b1 hZ
      go_enter Tryd.func8, Tryd.ntmps8
      go_wp2_with fail
      refine (example_true _ HT.out).mono ?_
      rintro e w1 ⟨rfl, hb⟩
      have H1 := Lib.hid (hb)
      clear hb
      go_wp2_with fail
      refine (C1.out _).mono ?_
      rintro e w2 ⟨rfl, hb⟩
      have H2 := Lib.hid (H1.out.trans (hb.mono H1.out.size))
      clear hb
      go_wp2_with fail
      refine (C2.out _).mono ?_
      rintro e w3 ⟨rfl, hb⟩
      have H3 := Lib.hid (H2.out.trans (hb.mono H2.out.size))
      clear hb
      go_wp2_with fail
      refine (C3.out _).mono ?_
      rintro e w4 ⟨rfl, hb⟩
      have H4 := Lib.hid (H3.out.trans (hb.mono H3.out.size))
      clear hb
      go_wp2_with fail
      refine (C4.out _).mono ?_
      rintro e w5 ⟨rfl, hb⟩
      have H5 := Lib.hid (H4.out.trans (hb.mono H4.out.size))
      clear hb
      go_wp2_with fail
      go_ret
      exact ⟨rfl, H5.out⟩
end Go.Proofs.YtlajghpikilkgaaDoor
