/-
  One operator, and one behind another: isValid and mayFollow of package ops; one and before of the reference; the closure of the search.
-/
import Derived.Test.YtgbfkchjcjdnnaaDoorCmp7
namespace Go.Proofs.YtgbfkchjcjdnnaaDoor
set_option linter.unusedVariables false
set_option linter.unusedSimpArgs false
open Go.RowKit Q

theorem place_any (e : Ent) (nm : ByteArray) (c : Int) (a : Addr) (w : World) (hT : Tabs w) (ha : a.block < w.heap.size) (hc : w.cell? a = some (.int .i64 c)) :
    Calls Tryd.prog 53 #[opV e, .string nm, .pointer (some a)] w fun e' w' => e' = .returned (.int .i64 (cmpE e nm c)) ∧ Below w.heap.size w w' := by
  obtain ⟨s, t, p⟩ := e
  have hb := (Below.refl w.heap.size w).alloc (Nat.le_refl _) (.cells #[.string s, .int .i64 t, .int .i64 p] 26)
  have hx : (w.alloc (.cells #[.string s, .int .i64 t, .int .i64 p] 26)).cell? a = some (.int .i64 c) := (hb.cell ha).trans hc
  have hC := compare_any (s, t, p) nm c _ (hT.below hb)
  have HC := Lib.hid hC
  have HB := Lib.hid hb
  clear hC hb hT ha hc
  unfold opV at HC ⊢
  go_enter Tryd.func53, Tryd.ntmps53
  go_wp2_with fail
  refine HC.out.mono ?_
  rintro e w' ⟨rfl, hb1⟩
  go_wp2_with fail
  go_ret
  exact ⟨rfl, HB.out.trans (hb1.mono HB.out.size)⟩

/-- okE by its parts. -/
theorem okE_rest {s : ByteArray} {t p : Int} (h1 : s.size ≤ 100) (h2 : cls t ≠ 0) (h3 : prB p = true) (h4 : p ≠ 0) :
    okE (s, t, p) = if s = sComma then decide (t = 2) && decide (p = 1000) else if s = sBar then decide (cls t = 2) && decide (1001 ≤ p) else decide (s ≠ sList) && decide (s ≠ sCurly) := by
  unfold prB at h3
  simp only [Bool.and_eq_true, decide_eq_true_eq] at h3
  unfold okE
  rw [decide_eq_true h1, decide_eq_true h2, decide_eq_true (show 1 ≤ (s, t, p).2.2 by show 1 ≤ p; omega), decide_eq_true (show (s, t, p).2.2 ≤ 1200 from h3.2)]
  simp only [Bool.true_and, Bool.and_self]
theorem okE_bad {s : ByteArray} {t p : Int} (h : 100 < s.size ∨ cls t = 0 ∨ prB p = false ∨ p = 0) : okE (s, t, p) = false := by
  unfold okE
  rcases h with h | h | h | h
  · rw [decide_eq_false (show ¬ (s, t, p).1.size ≤ 100 by show ¬ s.size ≤ 100; omega)]; simp
  · rw [decide_eq_false (show ¬ cls (s, t, p).2.1 ≠ 0 by show ¬ cls t ≠ 0; simp [h])]; simp
  · unfold prB at h
    simp only [Bool.and_eq_false_iff, decide_eq_false_iff_not] at h
    rcases h with h | h
    · rw [decide_eq_false (show ¬ 1 ≤ (s, t, p).2.2 by show ¬ 1 ≤ p; omega)]; simp
    · rw [decide_eq_false (show ¬ (s, t, p).2.2 ≤ 1200 from h)]; simp
  · rw [decide_eq_false (show ¬ 1 ≤ (s, t, p).2.2 by show ¬ 1 ≤ p; omega)]; simp

set_option maxHeartbeats 2000000 in
theorem isValid_any (e : Ent) (w : World) (hT : Tabs w) :
    Calls Tryd.prog 45 #[opV e] w fun e' w' => e' = .returned (.bool (okE e)) ∧ Below w.heap.size w w' := by
  obtain ⟨s, t, p⟩ := e
  have hb := (Below.refl w.heap.size w).alloc (Nat.le_refl _) (.cells #[.string s, .int .i64 t, .int .i64 p] 26)
  have hC := class_any t _ (hT.below hb)
  obtain ⟨d, hd⟩ : ∃ d, d = cls t := ⟨_, rfl⟩
  rw [← hd] at hC
  have HC := Lib.hid hC
  have HB := Lib.hid hb
  clear hC hb hT
  unfold opV
  by_cases hd0 : d = 0
  · rw [okE_bad (.inr (.inl (hd ▸ hd0)))]
    subst hd0
    clear hd
    go_enter Tryd.func45, Tryd.ntmps45
    go_wp2_with fail
    refine HC.out.mono ?_
    rintro e w' ⟨rfl, rfl⟩
    go_wp2_with fail
    go_ret
    exact ⟨rfl, HB.out⟩
  have hdb : (d == 0) = false := by rw [beq_eq_false_iff_ne]; exact hd0
  by_cases hs : ¬ s.size ≤ 100
  · rw [okE_bad (.inl (by omega))]
    clear hd hd0
    go_enter Tryd.func45, Tryd.ntmps45
    go_wp2_with fail
    refine HC.out.mono ?_
    rintro e w' ⟨rfl, rfl⟩
    go_wp2_with fail
    refine (name_any s _).mono ?_
    rintro e w' ⟨he, rfl⟩
    rw [decide_eq_false hs] at he
    subst he
    go_wp2_with fail
    go_ret
    exact ⟨rfl, HB.out⟩
  have hs := Decidable.not_not.1 hs
  have hN : ∀ W : World, Calls Tryd.prog 37 #[.string s] W fun e w' => e = .returned (.bool true) ∧ W = w' := fun W => by
    have := name_any s W
    rwa [decide_eq_true hs] at this
  have HN := Lib.hid hN
  clear hN
  cases hp : prB p
  · rw [okE_bad (.inr (.inr (.inl hp)))]
    have hP : ∀ W : World, Calls Tryd.prog 35 #[.int .i64 p] W fun e w' => e = .returned (.bool false) ∧ W = w' := fun W => hp ▸ prio_any p W
    have HP := Lib.hid hP
    clear hP hd hd0 hs hp
    go_enter Tryd.func45, Tryd.ntmps45
    go_wp2_with fail
    refine HC.out.mono ?_
    rintro e w' ⟨rfl, rfl⟩
    go_wp2_with fail
    refine (HN.out _).mono ?_
    rintro e w' ⟨rfl, rfl⟩
    go_wp2_with fail
    refine (HP.out _).mono ?_
    rintro e w' ⟨rfl, rfl⟩
    go_wp2_with fail
    go_ret
    exact ⟨rfl, HB.out⟩
  have hP : ∀ W : World, Calls Tryd.prog 35 #[.int .i64 p] W fun e w' => e = .returned (.bool true) ∧ W = w' := fun W => hp ▸ prio_any p W
  have HP := Lib.hid hP
  clear hP
  by_cases hp0 : p = 0
  · rw [okE_bad (.inr (.inr (.inr hp0)))]
    subst hp0
    clear hd hd0 hs hp
    go_enter Tryd.func45, Tryd.ntmps45
    go_wp2_with fail
    refine HC.out.mono ?_
    rintro e w' ⟨rfl, rfl⟩
    go_wp2_with fail
    refine (HN.out _).mono ?_
    rintro e w' ⟨rfl, rfl⟩
    go_wp2_with fail
    refine (HP.out _).mono ?_
    rintro e w' ⟨rfl, rfl⟩
    go_wp2_with fail
    go_ret
    exact ⟨rfl, HB.out⟩
  have hpb : (p == 0) = false := by rw [beq_eq_false_iff_ne]; exact hp0
  have hok := okE_rest hs (hd ▸ hd0) hp hp0
  rw [← hd] at hok
  obtain ⟨r, hr⟩ : ∃ r, r = okE (s, t, p) := ⟨_, rfl⟩
  rw [← hr] at hok ⊢
  clear hr hd hd0 hs hp hp0
  have k1 : (s.toList == [44]) = decide (s = sComma) := eqC' s [44]
  have k2 : (s.toList == [124]) = decide (s = sBar) := eqC' s [124]
  have k3 : (s.toList == [91, 93]) = decide (s = sList) := eqC' s [91, 93]
  have k4 : (s.toList == [123, 125]) = decide (s = sCurly) := eqC' s [123, 125]
  by_cases h1 : s = sComma
  · rw [if_pos h1] at hok
    rw [decide_eq_true h1] at k1
    by_cases ht : t = 2
    · by_cases hpp : p = 1000
      · subst hpp
        subst ht
        have HR := Lib.hid (show r = true by rw [hok]; rfl)
        clear hok k2 k3 k4 h1
        go_enter Tryd.func45, Tryd.ntmps45
        go_wp2_with fail
        refine HC.out.mono ?_
        rintro e w' ⟨rfl, rfl⟩
        go_wp2_with fail
        refine (HN.out _).mono ?_
        rintro e w' ⟨rfl, rfl⟩
        go_wp2_with fail
        refine (HP.out _).mono ?_
        rintro e w' ⟨rfl, rfl⟩
        go_wp2_with fail
        go_ret
        exact ⟨by rw [HR.out]; rfl, HB.out⟩
      · have hb2 : (p == 1000) = false := by rw [beq_eq_false_iff_ne]; exact hpp
        have HR := Lib.hid (show r = false by rw [hok, decide_eq_false hpp]; simp)
        subst ht
        clear hok k2 k3 k4 h1 hpp
        go_enter Tryd.func45, Tryd.ntmps45
        go_wp2_with fail
        refine HC.out.mono ?_
        rintro e w' ⟨rfl, rfl⟩
        go_wp2_with fail
        refine (HN.out _).mono ?_
        rintro e w' ⟨rfl, rfl⟩
        go_wp2_with fail
        refine (HP.out _).mono ?_
        rintro e w' ⟨rfl, rfl⟩
        go_wp2_with fail
        go_ret
        exact ⟨by rw [HR.out]; rfl, HB.out⟩
    · have hb2 : (t == 2) = false := by rw [beq_eq_false_iff_ne]; exact ht
      have HR := Lib.hid (show r = false by rw [hok, decide_eq_false ht]; rfl)
      clear hok k2 k3 k4 h1 ht
      go_enter Tryd.func45, Tryd.ntmps45
      go_wp2_with fail
      refine HC.out.mono ?_
      rintro e w' ⟨rfl, rfl⟩
      go_wp2_with fail
      refine (HN.out _).mono ?_
      rintro e w' ⟨rfl, rfl⟩
      go_wp2_with fail
      refine (HP.out _).mono ?_
      rintro e w' ⟨rfl, rfl⟩
      go_wp2_with fail
      go_ret
      exact ⟨by rw [HR.out]; rfl, HB.out⟩
  rw [if_neg h1] at hok
  rw [decide_eq_false h1] at k1
  clear h1
  by_cases h2 : s = sBar
  · rw [if_pos h2] at hok
    rw [decide_eq_true h2] at k2
    by_cases ht : d = 2
    · have HR := Lib.hid (show r = decide (1001 ≤ p) by rw [hok, decide_eq_true ht]; rfl)
      subst ht
      clear hok k3 k4 h2
      go_enter Tryd.func45, Tryd.ntmps45
      go_wp2_with fail
      refine HC.out.mono ?_
      rintro e w' ⟨rfl, rfl⟩
      go_wp2_with fail
      refine (HN.out _).mono ?_
      rintro e w' ⟨rfl, rfl⟩
      go_wp2_with fail
      refine (HP.out _).mono ?_
      rintro e w' ⟨rfl, rfl⟩
      go_wp2_with fail
      go_ret
      exact ⟨by rw [HR.out]; rfl, HB.out⟩
    · have hb2 : (d == 2) = false := by rw [beq_eq_false_iff_ne]; exact ht
      have HR := Lib.hid (show r = false by rw [hok, decide_eq_false ht]; rfl)
      clear hok k3 k4 h2 ht
      go_enter Tryd.func45, Tryd.ntmps45
      go_wp2_with fail
      refine HC.out.mono ?_
      rintro e w' ⟨rfl, rfl⟩
      go_wp2_with fail
      refine (HN.out _).mono ?_
      rintro e w' ⟨rfl, rfl⟩
      go_wp2_with fail
      refine (HP.out _).mono ?_
      rintro e w' ⟨rfl, rfl⟩
      go_wp2_with fail
      go_ret
      exact ⟨by rw [HR.out]; rfl, HB.out⟩
  rw [if_neg h2] at hok
  rw [decide_eq_false h2] at k2
  clear h2
  by_cases h3 : s = sList
  · have HR := Lib.hid (show r = false by rw [hok, decide_eq_false (show ¬ s ≠ sList from fun h => h h3)]; rfl)
    rw [decide_eq_true h3] at k3
    clear hok k4 h3
    go_enter Tryd.func45, Tryd.ntmps45
    go_wp2_with fail
    refine HC.out.mono ?_
    rintro e w' ⟨rfl, rfl⟩
    go_wp2_with fail
    refine (HN.out _).mono ?_
    rintro e w' ⟨rfl, rfl⟩
    go_wp2_with fail
    refine (HP.out _).mono ?_
    rintro e w' ⟨rfl, rfl⟩
    go_wp2_with fail
    go_ret
    exact ⟨by rw [HR.out]; rfl, HB.out⟩
  rw [decide_eq_false h3] at k3
  cases h4 : decide (s = sCurly)
  · have h4' := of_decide_eq_false h4
    have HR := Lib.hid (show r = true by rw [hok, decide_eq_true h3, decide_eq_true h4']; rfl)
    rw [h4] at k4
    clear hok h3 h4 h4'
    go_enter Tryd.func45, Tryd.ntmps45
    go_wp2_with fail
    refine HC.out.mono ?_
    rintro e w' ⟨rfl, rfl⟩
    go_wp2_with fail
    refine (HN.out _).mono ?_
    rintro e w' ⟨rfl, rfl⟩
    go_wp2_with fail
    refine (HP.out _).mono ?_
    rintro e w' ⟨rfl, rfl⟩
    go_wp2_with fail
    go_ret
    exact ⟨by rw [HR.out]; rfl, HB.out⟩
  · have h4' := of_decide_eq_true h4
    have HR := Lib.hid (show r = false by rw [hok, decide_eq_false (show ¬ s ≠ sCurly from fun h => h h4')]; simp)
    rw [h4] at k4
    clear hok h3 h4 h4'
    go_enter Tryd.func45, Tryd.ntmps45
    go_wp2_with fail
    refine HC.out.mono ?_
    rintro e w' ⟨rfl, rfl⟩
    go_wp2_with fail
    refine (HN.out _).mono ?_
    rintro e w' ⟨rfl, rfl⟩
    go_wp2_with fail
    refine (HP.out _).mono ?_
    rintro e w' ⟨rfl, rfl⟩
    go_wp2_with fail
    go_ret
    exact ⟨by rw [HR.out]; rfl, HB.out⟩
end Go.Proofs.YtgbfkchjcjdnnaaDoor
