/-
  The walk of CharsClasses: it returns true for every integer.
-/
import Derived.Test.YtdlobgnhoiednaaDoorAwake
namespace Go.Proofs.YtdlobgnhoiednaaDoor
set_option linter.unusedVariables false
set_option linter.unusedSimpArgs false
open Go.RowKit

/-- What the three calls return for a character. -/
theorem kinds (c : Int) (h0 : 0 ≤ c) (h1 : c ≤ 255) :
    (cls c = 1 ∧ Ch.digB c 10 = false ∧ Ch.digB c 36 = false ∧ (c != 95) = true) ∨ (cls c = 2 ∧ Ch.digB c 10 = false ∧ Ch.digB c 36 = true ∧ (c != 95) = true) ∨
    (cls c = 3 ∧ Ch.digB c 10 = false ∧ Ch.digB c 36 = true ∧ (c != 95) = true) ∨ (cls c = 3 ∧ Ch.digB c 10 = false ∧ Ch.digB c 36 = false ∧ (c != 95) = false) ∨
    (cls c = 4 ∧ Ch.digB c 10 = true ∧ Ch.digB c 36 = true ∧ (c != 95) = true) ∨ (cls c = 5 ∧ Ch.digB c 10 = false ∧ Ch.digB c 36 = false ∧ (c != 95) = true) ∨
    (cls c = 6 ∧ Ch.digB c 10 = false ∧ Ch.digB c 36 = false ∧ (c != 95) = true) ∨ (cls c = 7 ∧ Ch.digB c 10 = false ∧ Ch.digB c 36 = false ∧ (c != 95) = true) ∨
    (cls c = 8 ∧ Ch.digB c 10 = false ∧ Ch.digB c 36 = false ∧ (c != 95) = true) := by
  obtain ⟨n, rfl⟩ := Int.eq_ofNat_of_zero_le h0
  have hf : ∀ m : Fin 256, (cls (m.val : Int) = 1 ∧ Ch.digB (m.val : Int) 10 = false ∧ Ch.digB (m.val : Int) 36 = false ∧ ((m.val : Int) != 95) = true) ∨ (cls (m.val : Int) = 2 ∧ Ch.digB (m.val : Int) 10 = false ∧ Ch.digB (m.val : Int) 36 = true ∧ ((m.val : Int) != 95) = true) ∨
    (cls (m.val : Int) = 3 ∧ Ch.digB (m.val : Int) 10 = false ∧ Ch.digB (m.val : Int) 36 = true ∧ ((m.val : Int) != 95) = true) ∨ (cls (m.val : Int) = 3 ∧ Ch.digB (m.val : Int) 10 = false ∧ Ch.digB (m.val : Int) 36 = false ∧ ((m.val : Int) != 95) = false) ∨
    (cls (m.val : Int) = 4 ∧ Ch.digB (m.val : Int) 10 = true ∧ Ch.digB (m.val : Int) 36 = true ∧ ((m.val : Int) != 95) = true) ∨ (cls (m.val : Int) = 5 ∧ Ch.digB (m.val : Int) 10 = false ∧ Ch.digB (m.val : Int) 36 = false ∧ ((m.val : Int) != 95) = true) ∨
    (cls (m.val : Int) = 6 ∧ Ch.digB (m.val : Int) 10 = false ∧ Ch.digB (m.val : Int) 36 = false ∧ ((m.val : Int) != 95) = true) ∨ (cls (m.val : Int) = 7 ∧ Ch.digB (m.val : Int) 10 = false ∧ Ch.digB (m.val : Int) 36 = false ∧ ((m.val : Int) != 95) = true) ∨
    (cls (m.val : Int) = 8 ∧ Ch.digB (m.val : Int) 10 = false ∧ Ch.digB (m.val : Int) 36 = false ∧ ((m.val : Int) != 95) = true) := by decide +kernel
  exact hf ⟨n, by omega⟩

set_option maxHeartbeats 4000000 in
theorem classes_char (c : Int) (w : World) (h0 : 0 ≤ c) (h1 : c ≤ 255) (hT : Tabs w) :
    Calls Tryd.prog 6 #[.int .i64 c] w fun e w' => e = .returned (.bool true) ∧ Below w.heap.size w w' := by
  have HT := Lib.hid hT
  clear hT
  have c1 := class_any c w HT.out
  have c2 := digit_any c 10
  have c3 := digit_any c 36
  rcases kinds c h0 h1 with ⟨k1, k2, k3, k4⟩ | ⟨k1, k2, k3, k4⟩ | ⟨k1, k2, k3, k4⟩ | ⟨k1, k2, k3, k4⟩ | ⟨k1, k2, k3, k4⟩ | ⟨k1, k2, k3, k4⟩ | ⟨k1, k2, k3, k4⟩ | ⟨k1, k2, k3, k4⟩ | ⟨k1, k2, k3, k4⟩
  all_goals
    rw [k1] at c1
    rw [k2] at c2
    rw [k3] at c3
    have C1 := Lib.hid c1
    have C2 := Lib.hid c2
    have C3 := Lib.hid c3
    clear c1 c2 c3 k1 k2 k3
    go_enter Tryd.func6, Tryd.ntmps6
    go_wp2_with fail
    refine C1.out.mono ?_
    rintro e w1 ⟨rfl, hb1⟩
    have HB1 := Lib.hid hb1
    clear hb1
    go_wp2_with fail
    refine (C2.out _).mono ?_
    rintro e w2 ⟨rfl, rfl⟩
    go_wp2_with fail
    refine (C3.out _).mono ?_
    rintro e w2 ⟨rfl, rfl⟩
    go_wp2_with fail
    refine (awake_true _ (HT.out.below HB1.out)).mono ?_
    rintro e w2 ⟨rfl, hb2⟩
    go_wp2_with fail
    go_ret
    exact ⟨rfl, HB1.out.trans (hb2.mono HB1.out.size)⟩

set_option maxHeartbeats 1000000 in
theorem classes_none (c : Int) (w : World) (h : c < 0 ∨ 255 < c) (hT : Tabs w) :
    Calls Tryd.prog 6 #[.int .i64 c] w fun e w' => e = .returned (.bool true) ∧ Below w.heap.size w w' := by
  have HT := Lib.hid hT
  clear hT
  have c1 := class_any c w HT.out
  have c2 := digit_any c 10
  have c3 := digit_any c 36
  have k1 : cls c = 0 := by unfold cls; rw [Ch.isCh_no (by omega)]; rfl
  have hn : ¬ (48 ≤ c ∧ c ≤ 57) ∧ ¬ (97 ≤ c ∧ c ≤ 122) ∧ ¬ (65 ≤ c ∧ c ≤ 90) := by omega
  have k4 : (c != 95) = true := by rw [bne_iff_ne]; omega
  rw [k1] at c1
  rw [Ch.digB_none hn] at c2 c3
  have C1 := Lib.hid c1
  have C2 := Lib.hid c2
  have C3 := Lib.hid c3
  clear c1 c2 c3 k1 hn
  rcases h with h | h
  all_goals
    (try have hd : decide (c ≤ 255) = false := decide_eq_false (by omega))
    go_enter Tryd.func6, Tryd.ntmps6
    go_wp2_with fail
    refine C1.out.mono ?_
    rintro e w1 ⟨rfl, hb1⟩
    have HB1 := Lib.hid hb1
    clear hb1
    go_wp2_with fail
    refine (C2.out _).mono ?_
    rintro e w2 ⟨rfl, rfl⟩
    go_wp2_with fail
    refine (C3.out _).mono ?_
    rintro e w2 ⟨rfl, rfl⟩
    go_wp2_with fail
    refine (awake_true _ (HT.out.below HB1.out)).mono ?_
    rintro e w2 ⟨rfl, hb2⟩
    go_wp2_with fail
    go_ret
    exact ⟨rfl, HB1.out.trans (hb2.mono HB1.out.size)⟩

/-- CharsClasses returns true, for every integer. -/
theorem walk_classes (c : Int) (w : World) (hT : Tabs w) :
    Calls Tryd.prog 6 #[.int .i64 c] w fun e w' => e = .returned (.bool true) ∧ Below w.heap.size w w' := by
  by_cases h : 0 ≤ c ∧ c ≤ 255
  · exact classes_char c w h.1 h.2 hT
  · exact classes_none c w (by omega) hT

end Go.Proofs.YtdlobgnhoiednaaDoor
