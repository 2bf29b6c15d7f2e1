/-
  What the listed package-level variables hold; the small functions of package ops and of the reference: classes, priorities, names, comparisons.
-/
import Derived.Test.YtgbfkchjcjdnnaaDoorInsert7
import Derived.WalkLawsBesides
import Derived.Outline
import Derived.Sort.Walk0
import Derived.Laws.Cover1
namespace Go.Proofs.YtgbfkchjcjdnnaaDoor
set_option linter.unusedVariables false
set_option linter.unusedSimpArgs false
open Go.RowKit Q

/-- The predefined operators, in the order of a valid table. -/
def defL : List Ent := [
  (⟨#[42]⟩, 3, 400), (⟨#[42, 42]⟩, 1, 200), (⟨#[43]⟩, 4, 200), (⟨#[43]⟩, 3, 500),
  (⟨#[44]⟩, 2, 1000), (⟨#[45]⟩, 4, 200), (⟨#[45]⟩, 3, 500), (⟨#[45, 45, 62]⟩, 1, 1200),
  (⟨#[45, 62]⟩, 2, 1050), (⟨#[47]⟩, 3, 400), (⟨#[47, 47]⟩, 3, 400), (⟨#[47, 92]⟩, 3, 500),
  (⟨#[58, 45]⟩, 5, 1200), (⟨#[58, 45]⟩, 1, 1200), (⟨#[59]⟩, 2, 1100), (⟨#[60]⟩, 1, 700),
  (⟨#[60, 60]⟩, 3, 400), (⟨#[61]⟩, 1, 700), (⟨#[61, 46, 46]⟩, 1, 700), (⟨#[61, 58, 61]⟩, 1, 700),
  (⟨#[61, 60]⟩, 1, 700), (⟨#[61, 61]⟩, 1, 700), (⟨#[61, 92, 61]⟩, 1, 700), (⟨#[62]⟩, 1, 700),
  (⟨#[62, 61]⟩, 1, 700), (⟨#[62, 62]⟩, 3, 400), (⟨#[63, 45]⟩, 5, 1200), (⟨#[64, 60]⟩, 1, 700),
  (⟨#[64, 61, 60]⟩, 1, 700), (⟨#[64, 62]⟩, 1, 700), (⟨#[64, 62, 61]⟩, 1, 700), (⟨#[92]⟩, 4, 200),
  (⟨#[92, 43]⟩, 4, 900), (⟨#[92, 47]⟩, 3, 500), (⟨#[92, 61]⟩, 1, 700), (⟨#[92, 61, 61]⟩, 1, 700),
  (⟨#[94]⟩, 2, 200), (⟨#[100, 105, 118]⟩, 3, 400), (⟨#[105, 115]⟩, 1, 700), (⟨#[109, 111, 100]⟩, 3, 400),
  (⟨#[114, 101, 109]⟩, 3, 400)]
def typL : List ByteArray := [⟨#[]⟩, ⟨#[120, 102, 120]⟩, ⟨#[120, 102, 121]⟩, ⟨#[121, 102, 120]⟩, ⟨#[102, 121]⟩, ⟨#[102, 120]⟩, ⟨#[120, 102]⟩, ⟨#[121, 102]⟩]
def claL : List Int := [0, 2, 2, 2, 1, 1, 3, 3]

/-- What the listed package-level variables hold. -/
structure Tabs (w : World) : Prop where
  size : 3 ≤ w.heap.size
  pre : ∀ j v, (cellsOf defL)[j]? = some v → w.cell? ⟨0, j, none⟩ = some v
  cla : ∀ j c, claL[j]? = some c → w.cell? ⟨2, j, none⟩ = some (.int .i64 c)
theorem Tabs.keep {w w' : World} (h : Tabs w) (hs : 3 ≤ w'.heap.size) (hk : ∀ p : Addr, p.block < 3 → w'.cell? p = w.cell? p) : Tabs w' :=
  ⟨hs, fun j v hv => (hk _ (show (0 : Nat) < 3 by decide)).trans (h.pre j v hv), fun j v hv => (hk _ (show (2 : Nat) < 3 by decide)).trans (h.cla j v hv)⟩
theorem Tabs.below {w w' : World} (h : Tabs w) (hb : Below w.heap.size w w') : Tabs w' :=
  h.keep (Nat.le_trans h.size hb.size) fun _ hp => hb.cell (Nat.lt_of_lt_of_le hp h.size)
theorem Tabs.below' {w w' : World} {B : Nat} (h : Tabs w) (hB : 3 ≤ B) (hb : Below B w w') : Tabs w' :=
  h.keep (Nat.le_trans h.size hb.size) fun _ hp => hb.cell (Nat.lt_of_lt_of_le hp hB)
/-- What the names of the types hold. -/
structure Nams (w : World) : Prop where
  size : 3 ≤ w.heap.size
  nam : ∀ j s, typL[j]? = some s → w.cell? ⟨1, j, none⟩ = some (.string s)
theorem Nams.below {w w' : World} (h : Nams w) (hb : Below w.heap.size w w') : Nams w' :=
  ⟨Nat.le_trans h.size hb.size, fun j v hv => (hb.cell (Nat.lt_of_lt_of_le (show (1 : Nat) < 3 by decide) h.size)).trans (h.nam j v hv)⟩
theorem Tabs.drewN {w : World} (h : Tabs w) (q : Nat) : Tabs (w.drewN q) := h.below (below_drewN (Below.refl _ _) q)

theorem eqC (s c : ByteArray) : (s.toList == c.toList) = decide (s = c) := by
  rw [Bool.eq_iff_iff, beq_iff_eq, decide_eq_true_eq, Lib.toList_data, Lib.toList_data]
  exact ⟨fun h => ByteArray.ext (Array.toList_inj.1 h), fun h => by rw [h]⟩
theorem eqC' (s : ByteArray) (l : List UInt8) : (s.toList == l) = decide (s = ⟨l.toArray⟩) := by
  rw [← eqC, Lib.toList_data ⟨l.toArray⟩]
theorem lessC (s t : ByteArray) : Op.bytesLess s.toList t.toList = decide (Tm.cmpS s t < 0) := by
  have h : ∀ a b : List UInt8, a < b ↔ Tm.cmpL a b = -1 := by
    intro a
    induction a with
    | nil => intro b; cases b <;> simp [Tm.cmpL]
    | cons x xs ih =>
      intro b
      cases b with
      | nil => simp [Tm.cmpL]
      | cons y ys =>
        rw [List.cons_lt_cons_iff, Tm.cmpL, ih ys]
        by_cases h : x < y
        · simp [h]
        · by_cases h' : y < x
          · have : x ≠ y := by intro e; subst e; exact h h'
            simp [h, h', this]
          · have := Tm.u8_eq h h'
            subst this
            simp [h]
  rw [Go.Proofs.bytesLess_eq, Lib.toList_data, Lib.toList_data, decide_eq_decide, h]
  have := Tm.cmpS_sgn s t
  unfold Tm.Sgn at this
  unfold Tm.cmpS at this ⊢
  omega

theorem prio_any (p : Int) (w : World) : Calls Tryd.prog 35 #[.int .i64 p] w fun e w' => e = .returned (.bool (prB p)) ∧ w = w' := by
  unfold prB
  by_cases h : 0 ≤ p
  · by_cases h' : p ≤ 1200
    · rw [decide_eq_true h, decide_eq_true h']
      go_enter Tryd.func35, Tryd.ntmps35
      go_wp2_with fail
      go_ret
      exact ⟨rfl, rfl⟩
    · rw [decide_eq_true h, decide_eq_false h']
      go_enter Tryd.func35, Tryd.ntmps35
      go_wp2_with fail
      go_ret
      exact ⟨rfl, rfl⟩
  · rw [decide_eq_false h]
    go_enter Tryd.func35, Tryd.ntmps35
    go_wp2_with fail
    go_ret
    exact ⟨rfl, rfl⟩
theorem name_any (s : ByteArray) (w : World) : Calls Tryd.prog 37 #[.string s] w fun e w' => e = .returned (.bool (decide (s.size ≤ 100))) ∧ w = w' := by
  by_cases h : s.size ≤ 100
  · rw [decide_eq_true h]
    go_enter Tryd.func37, Tryd.ntmps37
    go_wp2_with fail
    go_ret
    exact ⟨by simp; omega, rfl⟩
  · rw [decide_eq_false h]
    go_enter Tryd.func37, Tryd.ntmps37
    go_wp2_with fail
    go_ret
    exact ⟨by simp; omega, rfl⟩
theorem class_any (t : Int) (w : World) (hT : Tabs w) : Calls Tryd.prog 36 #[.int .i64 t] w fun e w' => e = .returned (.int .i64 (cls t)) ∧ w = w' := by
  by_cases h0 : t < 0
  · have hc : cls t = 0 := by unfold cls; rw [if_neg (by omega), if_neg (by omega), if_neg (by omega)]
    rw [hc]
    clear hT hc
    go_enter Tryd.func36, Tryd.ntmps36
    go_wp2_with fail
    go_ret
    exact ⟨rfl, rfl⟩
  · by_cases h8 : 8 ≤ t
    · have hc : cls t = 0 := by unfold cls; rw [if_neg (by omega), if_neg (by omega), if_neg (by omega)]
      rw [hc]
      clear hT hc
      go_enter Tryd.func36, Tryd.ntmps36
      go_wp2_with fail
      go_ret
      exact ⟨rfl, rfl⟩
    · obtain ⟨n, rfl⟩ := Int.eq_ofNat_of_zero_le (show 0 ≤ t by omega)
      have hn : n < 8 := by omega
      have hall : ∀ m : Fin 8, claL[m.val]? = some (cls (m.val : Int)) := by decide
      have hc := hT.cla n _ (hall ⟨n, hn⟩)
      clear hall
      obtain ⟨c, hcc⟩ : ∃ c, c = cls (n : Int) := ⟨_, rfl⟩
      have hc' : w.cell? ⟨2, n, none⟩ = some (.int .i64 c) := by rw [hcc]; exact hc
      rw [← hcc]
      clear hT hc hcc
      go_enter Tryd.func36, Tryd.ntmps36
      go_wp2_with fail
      go_ret
      exact ⟨rfl, rfl⟩
theorem rival_any (c : Int) (w : World) : Calls Tryd.prog 51 #[.int .i64 c] w fun e w' => e = .returned (.int .i64 (riv c)) ∧ w = w' := by
  by_cases h2 : c = 2
  · subst h2
    go_enter Tryd.func51, Tryd.ntmps51
    go_wp2_with fail
    go_ret
    exact ⟨rfl, rfl⟩
  · by_cases h3 : c = 3
    · subst h3
      go_enter Tryd.func51, Tryd.ntmps51
      go_wp2_with fail
      go_ret
      exact ⟨rfl, rfl⟩
    · have hr : riv c = 0 := by unfold riv; rw [if_neg h2, if_neg h3]
      have b2 : (c == 2) = false := by rw [beq_eq_false_iff_ne]; exact h2
      have b3 : (c == 3) = false := by rw [beq_eq_false_iff_ne]; exact h3
      rw [hr]
      clear hr
      go_enter Tryd.func51, Tryd.ntmps51
      go_wp2_with fail
      go_ret
      exact ⟨rfl, rfl⟩
theorem rclass_any (t : Int) (w : World) : Calls Tryd.prog 32 #[.int .i64 t] w fun e w' => e = .returned (.int .i64 (cls t)) ∧ w = w' := by
  by_cases h : 1 ≤ t ∧ t ≤ 7
  · have ht : t = 1 ∨ t = 2 ∨ t = 3 ∨ t = 4 ∨ t = 5 ∨ t = 6 ∨ t = 7 := by omega
    rcases ht with rfl | rfl | rfl | rfl | rfl | rfl | rfl
    all_goals
      clear h
      go_enter Tryd.func32, Tryd.ntmps32
      go_wp2_with fail
      go_ret
      exact ⟨rfl, rfl⟩
  · have hc : cls t = 0 := by unfold cls; rw [if_neg (by omega), if_neg (by omega), if_neg (by omega)]
    have b1 : (t == 1) = false := by rw [beq_eq_false_iff_ne]; omega
    have b2 : (t == 2) = false := by rw [beq_eq_false_iff_ne]; omega
    have b3 : (t == 3) = false := by rw [beq_eq_false_iff_ne]; omega
    have b4 : (t == 4) = false := by rw [beq_eq_false_iff_ne]; omega
    have b5 : (t == 5) = false := by rw [beq_eq_false_iff_ne]; omega
    have b6 : (t == 6) = false := by rw [beq_eq_false_iff_ne]; omega
    have b7 : (t == 7) = false := by rw [beq_eq_false_iff_ne]; omega
    rw [hc]
    clear hc h
    go_enter Tryd.func32, Tryd.ntmps32
    go_wp2_with fail
    go_ret
    exact ⟨rfl, rfl⟩

theorem nanInt (a : Int) (w : World) : Calls Tryd.prog 63 #[.int .i64 a] w fun e w' => e = .returned (.bool false) ∧ w = w' := by
  go_enter Tryd.func63, Tryd.ntmps63
  go_wp2_with fail
  go_ret
  exact ⟨by simp, rfl⟩
theorem nanString (s : ByteArray) (w : World) : Calls Tryd.prog 62 #[.string s] w fun e w' => e = .returned (.bool false) ∧ w = w' := by
  go_enter Tryd.func62, Tryd.ntmps62
  go_wp2_with fail
  go_ret
  exact ⟨by simp, rfl⟩
theorem compareInt (a b : Int) (w : World) : Calls Tryd.prog 60 #[.int .i64 a, .int .i64 b] w fun e w' => e = .returned (.int .i64 (Tm.cmpI a b)) ∧ w = w' := by
  unfold Tm.cmpI
  by_cases h : a < b
  · rw [if_pos h]
    go_enter Tryd.func60, Tryd.ntmps60
    go_wp2_with (refine (nanInt _ _).mono ?_; rintro e w' ⟨rfl, rfl⟩)
    go_ret
    exact ⟨rfl, rfl⟩
  · rw [if_neg h]
    by_cases h' : b < a
    · rw [if_pos h']
      go_enter Tryd.func60, Tryd.ntmps60
      go_wp2_with (refine (nanInt _ _).mono ?_; rintro e w' ⟨rfl, rfl⟩)
      go_ret
      exact ⟨rfl, rfl⟩
    · rw [if_neg h']
      go_enter Tryd.func60, Tryd.ntmps60
      go_wp2_with (refine (nanInt _ _).mono ?_; rintro e w' ⟨rfl, rfl⟩)
      go_ret
      exact ⟨rfl, rfl⟩
theorem compareString (s t : ByteArray) (w : World) : Calls Tryd.prog 59 #[.string s, .string t] w fun e w' => e = .returned (.int .i64 (Tm.cmpS s t)) ∧ w = w' := by
  have a1 : Op.bytesLess s.toList t.toList = decide (Tm.cmpS s t < 0) := lessC s t
  have a2 : Op.bytesLess t.toList s.toList = decide (0 < Tm.cmpS s t) := by rw [lessC, Tm.cmpS_neg s t, decide_eq_decide]; omega
  have a3 : (s.toList == t.toList) = decide (Tm.cmpS s t = 0) := by rw [eqC, decide_eq_decide]; exact (Tm.cmpS_zero s t).symm
  obtain ⟨c, hc⟩ : ∃ c, c = Tm.cmpS s t := ⟨_, rfl⟩
  have hs := Tm.cmpS_sgn s t
  rw [← hc] at a1 a2 a3 hs ⊢
  clear hc
  rcases hs with rfl | rfl | rfl
  · rw [decide_eq_true (by omega)] at a1
    rw [decide_eq_false (by omega)] at a2
    rw [decide_eq_false (by omega)] at a3
    go_enter Tryd.func59, Tryd.ntmps59
    go_wp2_with (refine (nanString _ _).mono ?_; rintro e w' ⟨rfl, rfl⟩)
    go_ret
    exact ⟨rfl, rfl⟩
  · rw [decide_eq_false (by omega)] at a1
    rw [decide_eq_false (by omega)] at a2
    rw [decide_eq_true (by omega)] at a3
    go_enter Tryd.func59, Tryd.ntmps59
    go_wp2_with (refine (nanString _ _).mono ?_; rintro e w' ⟨rfl, rfl⟩)
    go_ret
    exact ⟨rfl, rfl⟩
  · rw [decide_eq_false (by omega)] at a1
    rw [decide_eq_true (by omega)] at a2
    rw [decide_eq_false (by omega)] at a3
    go_enter Tryd.func59, Tryd.ntmps59
    go_wp2_with (refine (nanString _ _).mono ?_; rintro e w' ⟨rfl, rfl⟩)
    go_ret
    exact ⟨rfl, rfl⟩
end Go.Proofs.YtgbfkchjcjdnnaaDoor
