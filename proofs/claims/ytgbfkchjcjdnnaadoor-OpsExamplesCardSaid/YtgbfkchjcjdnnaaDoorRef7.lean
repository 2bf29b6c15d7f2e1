/-
  One operator, and one behind another, by the reference: one and before; which tables are valid.
-/
import Derived.Test.YtgbfkchjcjdnnaaDoorSet7
namespace Go.Proofs.YtgbfkchjcjdnnaaDoor
set_option linter.unusedVariables false
set_option linter.unusedSimpArgs false
open Go.RowKit Q

theorem rclass_same (t : Int) (w : World) : Calls Tryd.prog 32 #[.int .i64 t] w fun e w' => e = .returned (.int .i64 (cls t)) ∧ w' = w :=
  (rclass_any t w).mono fun _ _ ⟨he, hw⟩ => ⟨he, hw.symm⟩

set_option maxHeartbeats 2000000 in
theorem one_any (e : Ent) (w : World) : Calls Tryd.prog 47 #[opV e] w fun e' w' => e' = .returned (.bool (okE e)) ∧ Below w.heap.size w w' := by
  obtain ⟨s, t, p⟩ := e
  have HB := Lib.hid ((Below.refl w.heap.size w).alloc (Nat.le_refl _) (.cells #[.string s, .int .i64 t, .int .i64 p] 26))
  obtain ⟨d, hd⟩ : ∃ d, d = cls t := ⟨_, rfl⟩
  have hC : ∀ W : World, Calls Tryd.prog 32 #[.int .i64 t] W fun e w' => e = .returned (.int .i64 d) ∧ W = w' := fun W => by rw [hd]; exact rclass_any t W
  have HC := Lib.hid hC
  clear hC
  unfold opV
  by_cases hs : 100 < s.size
  · rw [okE_bad (.inl hs)]
    clear hd
    go_enter Tryd.func47, Tryd.ntmps47
    go_wp2_with fail
    go_ret
    exact ⟨rfl, HB.out⟩
  by_cases hd0 : d = 0
  · rw [okE_bad (.inr (.inl (hd ▸ hd0)))]
    subst hd0
    clear hd
    go_enter Tryd.func47, Tryd.ntmps47
    go_wp2_with fail
    refine (HC.out _).mono ?_
    rintro e w' ⟨rfl, rfl⟩
    go_wp2_with fail
    go_ret
    exact ⟨rfl, HB.out⟩
  have hdb : (d == 0) = false := by rw [beq_eq_false_iff_ne]; exact hd0
  by_cases hp : p < 1
  · rw [okE_bad (s := s) (t := t) (p := p) (by
      by_cases h0 : p = 0
      · exact .inr (.inr (.inr h0))
      · exact .inr (.inr (.inl (by unfold prB; rw [decide_eq_false (by omega)]; rfl))))]
    clear hd hd0
    go_enter Tryd.func47, Tryd.ntmps47
    go_wp2_with fail
    refine (HC.out _).mono ?_
    rintro e w' ⟨rfl, rfl⟩
    go_wp2_with fail
    go_ret
    exact ⟨rfl, HB.out⟩
  by_cases hp' : 1200 < p
  · rw [okE_bad (s := s) (t := t) (p := p) (.inr (.inr (.inl (by unfold prB; rw [decide_eq_false (show ¬ p ≤ 1200 by omega)]; simp))))]
    clear hd hd0
    go_enter Tryd.func47, Tryd.ntmps47
    go_wp2_with fail
    refine (HC.out _).mono ?_
    rintro e w' ⟨rfl, rfl⟩
    go_wp2_with fail
    go_ret
    exact ⟨rfl, HB.out⟩
  have hok := okE_rest (s := s) (t := t) (p := p) (by omega) (hd ▸ hd0) (by unfold prB; rw [decide_eq_true (by omega), decide_eq_true (by omega)]; rfl) (by omega)
  rw [← hd] at hok
  obtain ⟨r, hr⟩ : ∃ r, r = okE (s, t, p) := ⟨_, rfl⟩
  rw [← hr] at hok ⊢
  clear hr hd hd0
  have k1 : (s.toList == [44]) = decide (s = sComma) := eqC' s [44]
  have k2 : (s.toList == [124]) = decide (s = sBar) := eqC' s [124]
  have k3 : (s.toList == [91, 93]) = decide (s = sList) := eqC' s [91, 93]
  have k4 : (s.toList == [123, 125]) = decide (s = sCurly) := eqC' s [123, 125]
  by_cases h3 : s = sList
  · have n1 : s ≠ sComma := fun h => by rw [h] at h3; revert h3; decide
    have n2 : s ≠ sBar := fun h => by rw [h] at h3; revert h3; decide
    rw [if_neg n1, if_neg n2, decide_eq_false (show ¬ s ≠ sList from fun h => h h3), Bool.false_and] at hok
    rw [decide_eq_true h3] at k3
    have HR := Lib.hid hok
    clear hok k1 k2 k4 h3 n1 n2
    go_enter Tryd.func47, Tryd.ntmps47
    go_wp2_with fail
    refine (HC.out _).mono ?_
    rintro e w' ⟨rfl, rfl⟩
    go_wp2_with fail
    go_ret
    exact ⟨by rw [HR.out]; rfl, HB.out⟩
  rw [decide_eq_false h3] at k3
  by_cases h4 : s = sCurly
  · have n1 : s ≠ sComma := fun h => by rw [h] at h4; revert h4; decide
    have n2 : s ≠ sBar := fun h => by rw [h] at h4; revert h4; decide
    rw [if_neg n1, if_neg n2, decide_eq_false (show ¬ s ≠ sCurly from fun h => h h4), Bool.and_false] at hok
    rw [decide_eq_true h4] at k4
    have HR := Lib.hid hok
    clear hok k1 k2 h3 h4 n1 n2
    go_enter Tryd.func47, Tryd.ntmps47
    go_wp2_with fail
    refine (HC.out _).mono ?_
    rintro e w' ⟨rfl, rfl⟩
    go_wp2_with fail
    go_ret
    exact ⟨by rw [HR.out]; rfl, HB.out⟩
  rw [decide_eq_false h4] at k4
  rw [decide_eq_true h3, decide_eq_true h4] at hok
  clear h3 h4
  by_cases h1 : s = sComma
  · rw [if_pos h1] at hok
    rw [decide_eq_true h1] at k1
    by_cases ht : t = 2
    · rw [decide_eq_true ht, Bool.true_and] at hok
      have hpp : decide (p = 1000) = (p == 1000) := by rw [Bool.eq_iff_iff, decide_eq_true_eq, beq_iff_eq]
      have HR := Lib.hid (hok.trans hpp)
      subst ht
      clear hok k2 h1 hpp
      go_enter Tryd.func47, Tryd.ntmps47
      go_wp2_with fail
      refine (HC.out _).mono ?_
      rintro e w' ⟨rfl, rfl⟩
      go_wp2_with fail
      go_ret
      exact ⟨by rw [HR.out]; rfl, HB.out⟩
    · have hb2 : (t == 2) = false := by rw [beq_eq_false_iff_ne]; exact ht
      rw [decide_eq_false ht, Bool.false_and] at hok
      have HR := Lib.hid hok
      clear hok k2 h1 ht
      go_enter Tryd.func47, Tryd.ntmps47
      go_wp2_with fail
      refine (HC.out _).mono ?_
      rintro e w' ⟨rfl, rfl⟩
      go_wp2_with fail
      go_ret
      exact ⟨by rw [HR.out]; rfl, HB.out⟩
  rw [if_neg h1] at hok
  rw [decide_eq_false h1] at k1
  clear h1
  by_cases h2 : s = sBar
  · rw [if_pos h2] at hok
    rw [decide_eq_true h2] at k2
    by_cases ht : d = 2
    · rw [decide_eq_true ht, Bool.true_and] at hok
      have HR := Lib.hid hok
      subst ht
      clear hok h2
      go_enter Tryd.func47, Tryd.ntmps47
      go_wp2_with fail
      refine (HC.out _).mono ?_
      rintro e w' ⟨rfl, rfl⟩
      go_wp2_with fail
      refine (HC.out _).mono ?_
      rintro e w' ⟨rfl, rfl⟩
      go_wp2_with fail
      go_ret
      exact ⟨by rw [HR.out]; rfl, HB.out⟩
    · have hb2 : (d == 2) = false := by rw [beq_eq_false_iff_ne]; exact ht
      rw [decide_eq_false ht, Bool.false_and] at hok
      have HR := Lib.hid hok
      clear hok h2 ht
      go_enter Tryd.func47, Tryd.ntmps47
      go_wp2_with fail
      refine (HC.out _).mono ?_
      rintro e w' ⟨rfl, rfl⟩
      go_wp2_with fail
      refine (HC.out _).mono ?_
      rintro e w' ⟨rfl, rfl⟩
      go_wp2_with fail
      go_ret
      exact ⟨by rw [HR.out]; rfl, HB.out⟩
  rw [if_neg h2] at hok
  rw [decide_eq_false h2] at k2
  have HR := Lib.hid hok
  clear hok h2
  go_enter Tryd.func47, Tryd.ntmps47
  go_wp2_with fail
  refine (HC.out _).mono ?_
  rintro e w' ⟨rfl, rfl⟩
  go_wp2_with fail
  go_ret
  exact ⟨by rw [HR.out]; rfl, HB.out⟩

theorem befB_names {a b : Ent} (h : a.1 ≠ b.1) : befB a b = decide (Tm.cmpS a.1 b.1 < 0) := by
  unfold befB keyE cmpE Tm.lex
  rw [if_neg (fun e => h ((Tm.cmpS_zero _ _).1 e))]
theorem befB_same {a b : Ent} (h : a.1 = b.1) : befB a b = decide (cls a.2.1 < cls b.2.1) := by
  unfold befB keyE cmpE Tm.lex
  rw [if_pos ((Tm.cmpS_zero _ _).2 h)]
  unfold Tm.cmpI
  rw [decide_eq_decide]
  split <;> (try split) <;> omega
set_option maxHeartbeats 2000000 in
theorem before_any (a b : Ent) (w : World) : Calls Tryd.prog 48 #[opV a, opV b] w fun e' w' => e' = .returned (.bool (befB a b)) ∧ Below w.heap.size w w' := by
  have hn := @befB_names a b
  have hs := @befB_same a b
  obtain ⟨r, hr⟩ : ∃ r, r = befB a b := ⟨_, rfl⟩
  rw [← hr] at hn hs ⊢
  clear hr
  obtain ⟨s, t, p⟩ := a
  obtain ⟨s', t', p'⟩ := b
  have HB := Lib.hid (((Below.refl w.heap.size w).alloc (Nat.le_refl _) (.cells #[.string s, .int .i64 t, .int .i64 p] 26)).alloc (by simp) (.cells #[.string s', .int .i64 t', .int .i64 p'] 26))
  unfold opV
  have k1 : (s.toList == s'.toList) = decide (s = s') := eqC s s'
  by_cases h : s = s'
  · have HR := Lib.hid (hs h)
    rw [decide_eq_true h] at k1
    have hm : Tryd.prog.follows .mixedOrders = true := by kernel_rfl
    have d0 := (cell_new w #[.string s, .int .i64 t, .int .i64 p] 26 1)
    have d1 := (cell_new (w.alloc (.cells #[.string s, .int .i64 t, .int .i64 p] 26)) #[.string s', .int .i64 t', .int .i64 p'] 26 1)
    have d2 := ((Below.refl (w.heap.size + 1) (w.alloc (.cells #[.string s, .int .i64 t, .int .i64 p] 26))).alloc (by simp) (.cells #[.string s', .int .i64 t', .int .i64 p'] 26)).cell (p := ⟨w.heap.size, 1, none⟩) (by show w.heap.size < w.heap.size + 1; omega)
    have d3 : ((w.alloc (.cells #[.string s, .int .i64 t, .int .i64 p] 26)).alloc (.cells #[.string s', .int .i64 t', .int .i64 p'] 26)).cell? ⟨w.heap.size, 1, none⟩ = some (.int .i64 t) := d2.trans d0
    have d4 : ((w.alloc (.cells #[.string s, .int .i64 t, .int .i64 p] 26)).alloc (.cells #[.string s', .int .i64 t', .int .i64 p'] 26)).cell? ⟨w.heap.size + 1, 1, none⟩ = some (.int .i64 t') := by simp
    have hsz : ((w.alloc (.cells #[.string s, .int .i64 t, .int .i64 p] 26)).alloc (.cells #[.string s', .int .i64 t', .int .i64 p'] 26)).heap.size = w.heap.size + 2 := by simp
    clear hn hs h d0 d1 d2
    go_enter Tryd.func48, Tryd.ntmps48
    go_wp2_with fail
    generalize (w.alloc (.cells #[.string s, .int .i64 t, .int .i64 p] 26)).alloc (.cells #[.string s', .int .i64 t', .int .i64 p'] 26) = W at HB d3 d4 hsz ⊢
    have e0 : ∀ q : Bw W, q.to.cell? ⟨w.heap.size, 1, none⟩ = some (.int .i64 t) := cell_bw (by show w.heap.size < _; omega) d3
    have e1 : ∀ q : Bw W, q.to.cell? ⟨w.heap.size + 1, 1, none⟩ = some (.int .i64 t') := cell_bw (by show w.heap.size + 1 < _; omega) d4
    have C1 : ∀ q : Bw W, Calls Tryd.prog 32 #[.int .i64 t] q.to fun e w' => e = .returned (.int .i64 (cls t)) ∧ Below q.to.heap.size q.to w' := fun q => same_below (rclass_any t q.to)
    have C2 : ∀ q : Bw W, Calls Tryd.prog 32 #[.int .i64 t'] q.to fun e w' => e = .returned (.int .i64 (cls t')) ∧ Below q.to.heap.size q.to w' := fun q => same_below (rclass_any t' q.to)
    clear d3 d4
    refine wp_region_bw hm (by kernel_rfl) ?_
    repeat (go_big_quiet_step (fail))
    go_big_quiet_step (exact calls_bw (C1 _))
    repeat (go_big_quiet_step (fail))
    go_big_quiet_step (exact calls_bw (C2 _))
    repeat (go_big_quiet_step (fail))
    refine wpQuiet_nil ?_
    intro _ hw'
    obtain ⟨pq, hw''⟩ := hw'
    subst hw''
    go_wp2_with fail
    go_ret
    exact ⟨by rw [HR.out]; rfl, HB.out.trans (pq.ok.mono (by omega))⟩
  · have HR := Lib.hid ((hn h).trans (lessC s s').symm)
    rw [decide_eq_false h] at k1
    clear hn hs h
    go_enter Tryd.func48, Tryd.ntmps48
    go_wp2_with fail
    go_ret
    exact ⟨by rw [HR.out]; rfl, HB.out⟩
end Go.Proofs.YtgbfkchjcjdnnaaDoor
