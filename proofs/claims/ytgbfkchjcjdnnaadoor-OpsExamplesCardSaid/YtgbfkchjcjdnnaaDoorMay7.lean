/-
  maySet of package ops: which operators may be set.
-/
import Derived.Test.YtgbfkchjcjdnnaaDoorDef7
namespace Go.Proofs.YtgbfkchjcjdnnaaDoor
set_option linter.unusedVariables false
set_option linter.unusedSimpArgs false
open Go.RowKit Q

set_option maxHeartbeats 2000000 in
theorem maySet_any (A : Option Addr) (n cap : Nat) (p c : Int) (nm : ByteArray) (L : List Ent) (w : World) (hT : Tabs w) (hg : goodB L = true) (h : OpsIn w w.heap.size A n L) :
    Calls Tryd.prog 38 #[.slice A n cap, .int .i64 p, .int .i64 c, .string nm] w fun e w' => e = .returned (.bool (mayB L p c nm)) ∧ Below w.heap.size w w' := by
  have hn : n ≤ 100 := by have := (goodB_iff.1 hg).1; have := h.len; omega
  have hF := find_any A n cap nm (riv c) L w hT hn h (goodB_iff.1 hg).sorted
  have HS := Lib.hid (goodB_iff.1 hg).sorted
  obtain ⟨d, hd⟩ : ∃ d, d = riv c := ⟨_, rfl⟩
  have hR : ∀ W : World, Calls Tryd.prog 51 #[.int .i64 c] W fun e w' => e = .returned (.int .i64 d) ∧ W = w' := fun W => by rw [hd]; exact rival_any c W
  have hm : mayB L p c nm = if nm = sComma ∨ nm = sList ∨ nm = sCurly then false else if nm = sBar then decide (c = 2) && (decide (p = 0) || decide (1001 ≤ p)) else decide (p = 0) || (findM L d nm).isNone := by rw [hd]; rfl
  rw [← hd] at hF
  obtain ⟨r, hr⟩ : ∃ r, r = mayB L p c nm := ⟨_, rfl⟩
  rw [← hr] at hm ⊢
  have HF := Lib.hid hF
  have HR := Lib.hid hR
  clear hF hR hr hd h hT hg
  have k1 : (nm.toList == [44]) = decide (nm = sComma) := eqC' nm [44]
  have k2 : (nm.toList == [124]) = decide (nm = sBar) := eqC' nm [124]
  have k3 : (nm.toList == [91, 93]) = decide (nm = sList) := eqC' nm [91, 93]
  have k4 : (nm.toList == [123, 125]) = decide (nm = sCurly) := eqC' nm [123, 125]
  by_cases h1 : nm = sComma
  · rw [if_pos (.inl h1)] at hm
    rw [decide_eq_true h1] at k1
    have HM := Lib.hid hm
    clear hm k2 k3 k4 h1
    go_enter Tryd.func38, Tryd.ntmps38
    go_wp2_with fail
    go_ret
    exact ⟨by rw [HM.out]; rfl, Below.refl _ _⟩
  by_cases h3 : nm = sList
  · rw [if_pos (.inr (.inl h3))] at hm
    rw [decide_eq_false h1] at k1
    rw [decide_eq_true h3] at k3
    have HM := Lib.hid hm
    clear hm k2 k4 h1 h3
    go_enter Tryd.func38, Tryd.ntmps38
    go_wp2_with fail
    go_ret
    exact ⟨by rw [HM.out]; rfl, Below.refl _ _⟩
  by_cases h4 : nm = sCurly
  · rw [if_pos (.inr (.inr h4))] at hm
    rw [decide_eq_false h1] at k1
    rw [decide_eq_false h3] at k3
    rw [decide_eq_true h4] at k4
    have HM := Lib.hid hm
    clear hm k2 h1 h3 h4
    go_enter Tryd.func38, Tryd.ntmps38
    go_wp2_with fail
    go_ret
    exact ⟨by rw [HM.out]; rfl, Below.refl _ _⟩
  rw [if_neg (by simp [h1, h3, h4])] at hm
  rw [decide_eq_false h1] at k1
  rw [decide_eq_false h3] at k3
  rw [decide_eq_false h4] at k4
  clear h1 h3 h4
  by_cases h2 : nm = sBar
  · rw [if_pos h2] at hm
    rw [decide_eq_true h2] at k2
    clear h2
    by_cases hc : c = 2
    · rw [decide_eq_true hc, Bool.true_and] at hm
      by_cases hp : p = 0
      · rw [decide_eq_true hp, Bool.true_or] at hm
        have HM := Lib.hid hm
        subst hc
        subst hp
        clear hm
        go_enter Tryd.func38, Tryd.ntmps38
        go_wp2_with fail
        go_ret
        exact ⟨by rw [HM.out]; rfl, Below.refl _ _⟩
      · rw [decide_eq_false hp, Bool.false_or] at hm
        have hpb : (p == 0) = false := by rw [beq_eq_false_iff_ne]; exact hp
        have HM := Lib.hid hm
        subst hc
        clear hm hp
        go_enter Tryd.func38, Tryd.ntmps38
        go_wp2_with fail
        go_ret
        exact ⟨by rw [HM.out]; rfl, Below.refl _ _⟩
    · rw [decide_eq_false hc, Bool.false_and] at hm
      have hcb : (c == 2) = false := by rw [beq_eq_false_iff_ne]; exact hc
      have HM := Lib.hid hm
      clear hm hc
      go_enter Tryd.func38, Tryd.ntmps38
      go_wp2_with fail
      go_ret
      exact ⟨by rw [HM.out]; rfl, Below.refl _ _⟩
  rw [if_neg h2] at hm
  rw [decide_eq_false h2] at k2
  have HM := Lib.hid hm
  clear h2 hm
  by_cases hp : p = 0
  · subst hp
    go_enter Tryd.func38, Tryd.ntmps38
    go_wp2_with fail
    refine (HR.out _).mono ?_
    rintro e w1 ⟨rfl, rfl⟩
    go_wp2_with fail
    refine HF.out.mono ?_
    rintro e w1 ⟨⟨i, hi, rfl⟩, hb1⟩
    go_wp2_with fail
    go_ret
    exact ⟨by rw [HM.out]; rfl, hb1⟩
  · have hpb : (p == 0) = false := by rw [beq_eq_false_iff_ne]; exact hp
    have HPN := Lib.hid hp
    clear hp
    go_enter Tryd.func38, Tryd.ntmps38
    go_wp2_with fail
    refine (HR.out _).mono ?_
    rintro e w1 ⟨rfl, rfl⟩
    go_wp2_with fail
    refine HF.out.mono ?_
    rintro e w1 ⟨⟨i, hi, rfl⟩, hb1⟩
    have HI := Lib.hid (findM_pos hi HS.out)
    clear hi
    go_wp2_with fail
    go_ret
    refine ⟨?_, hb1⟩
    rw [HM.out, HI.out, decide_eq_false HPN.out]
    cases hitB L nm d i <;> rfl
end Go.Proofs.YtgbfkchjcjdnnaaDoor
