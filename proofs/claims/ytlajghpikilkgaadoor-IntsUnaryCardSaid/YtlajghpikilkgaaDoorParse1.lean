/-
  areDigits and natural of package ints.
-/
import Derived.Test.YtlajghpikilkgaaDoorParseMath
namespace Go.Proofs.YtlajghpikilkgaaDoor
set_option linter.unusedVariables false
set_option linter.unusedSimpArgs false
open Go.RowKit

set_option maxHeartbeats 1000000 in
set_option maxRecDepth 100000 in
theorem areDigits_any (s : ByteArray) (b : Int) (w : World) (hs : s.size ≤ 9223372036854775807) :
    Calls Tryd.prog 40 #[.string s, .int .i64 b] w fun e w' => e = .returned (.bool (In.areD b s.data.toList)) ∧ w = w' := by
  go_enter Tryd.func40, Tryd.ntmps40
  go_wp2_with fail
  go_loop [8] (fun i => ∃ k : Nat, k ≤ s.size ∧ (∀ j (h : j < s.data.toList.length), j < k → In.dg (s.data.toList[j].toNat : Int) < b) ∧ i = .int .i64 k) (fun i => s.size - (Lib.intOf i).toNat)
  case atStart => exact ⟨0, Nat.zero_le _, fun _ _ h => absurd h (Nat.not_lt_zero _), rfl⟩
  case round =>
    obtain ⟨k, hk, hall, rfl⟩ := hrel
    have HALL := Lib.hid hall
    clear hall
    by_cases hlt : k < s.size
    · have hc0 : (0 : Int) ≤ (s[k].toNat : Int) := by omega
      have hc1 : (s[k].toNat : Int) < 256 := by have := s[k].toNat_lt; omega
      have c1 := fun w => digit_any (s[k].toNat : Int) w hc0 hc1
      obtain ⟨d, hd⟩ : ∃ d, d = In.dg (s[k].toNat : Int) := ⟨_, rfl⟩
      rw [← hd] at c1
      have HD := Lib.hid hd
      have C1 := Lib.hid c1
      clear c1 hd
      by_cases hb : d < b
      · go_wp2_with fail
        refine (C1.out _).mono ?_
        rintro e w1 ⟨rfl, rfl⟩
        go_wp2_with fail
        go_round
        case rel =>
          refine ⟨k + 1, by omega, fun j hj hjk => ?_, by go_num⟩
          by_cases e : j < k
          · exact HALL.out j hj e
          · obtain rfl : j = k := by omega
            have : d = In.dg (s.data.toList[j].toNat : Int) := HD.out
            omega
        case measure => simp [Lib.intOf]; omega
      · have hb' : b ≤ d := by omega
        go_wp2_with fail
        refine (C1.out _).mono ?_
        rintro e w1 ⟨rfl, rfl⟩
        go_wp2_with fail
        go_ret
        have hl : k < s.data.toList.length := by simpa using hlt
        exact ⟨by rw [In.areD_bad hl (by have : d = In.dg (s.data.toList[k].toNat : Int) := HD.out; omega)]; rfl, rfl⟩
    · go_wp2_with fail
      go_ret
      have hr := In.areD_all (b := b) (l := s.data.toList) (fun j hj => HALL.out j hj (by simp at hj; omega))
      exact ⟨by rw [hr, ← Lib.toList_data]; rfl, rfl⟩
end Go.Proofs.YtlajghpikilkgaaDoor
