/-
  PLAIN MATHEMATICS: a valid table is told by what it makes of each character; what setting does to that; setting back, and in either order.
-/
import Derived.Test.YtdlobgnhoiednaaDoorRefSet
namespace Go.Proofs.YtdlobgnhoiednaaDoor
set_option linter.unusedVariables false
set_option linter.unusedSimpArgs false

/-- Valid, said of the pairs alone. -/
def Fine (M : List (Int × Int)) : Prop := (∀ p ∈ M, (0 ≤ p.1 ∧ p.1 ≤ 255) ∧ (0 ≤ p.2 ∧ p.2 ≤ 255) ∧ p.1 ≠ p.2) ∧ M.Pairwise fun p q => p.1 < q.1

theorem fine_of_good {M : List (Int × Int)} (h : Good M) : Fine M := by
  refine ⟨fun p hp => ?_, ?_⟩
  · obtain ⟨j, hj, rfl⟩ := List.getElem_of_mem hp
    have := h j hj
    unfold okAt fs sn at this
    rw [getD_at hj] at this
    exact ⟨this.1, this.2.1, this.2.2.1⟩
  · rw [List.pairwise_iff_getElem]
    intro i j hi hj hij
    have := h.sorted i j hij hj
    unfold fs at this
    rw [getD_at hi, getD_at hj] at this
    exact this
theorem good_of_fine {M : List (Int × Int)} (h : Fine M) : Good M := by
  intro j hj
  have hm := h.1 M[j] (List.getElem_mem hj)
  refine ⟨?_, ?_, ?_, fun h0 => ?_⟩
  · unfold fs; rw [getD_at hj]; exact hm.1
  · unfold sn; rw [getD_at hj]; exact hm.2.1
  · unfold fs sn; rw [getD_at hj]; exact hm.2.2
  · have := List.pairwise_iff_getElem.1 h.2 (j - 1) j (by omega) hj (by omega)
    unfold fs
    rw [getD_at (by omega), getD_at hj]
    exact this

theorem Fine.tail {p : Int × Int} {r : List (Int × Int)} (h : Fine (p :: r)) : Fine r :=
  ⟨fun q hq => h.1 q (List.mem_cons_of_mem _ hq), (List.pairwise_cons.1 h.2).2⟩

/-- What a table makes of its characters, listed. -/
def listF (f : Int → Int) : Nat → List (Int × Int)
  | 0 => []
  | k + 1 => listF f k ++ if f k = (k : Int) then [] else [((k : Int), f k)]
theorem listF_congr {f g : Int → Int} (k : Nat) (h : ∀ j : Nat, j < k → f j = g j) : listF f k = listF g k := by
  induction k with
  | zero => rfl
  | succ k ih => simp only [listF]; rw [ih (fun j hj => h j (by omega)), h k (by omega)]
theorem listTo_listF (L : List (Int × Int)) (a b : Int) (k : Nat) : listTo L a b k = listF (mapTo L a b) k := by
  induction k with
  | zero => rfl
  | succ k ih => simp only [listTo, listF]; rw [ih]

theorem filter_none {M : List (Int × Int)} {q : Int × Int → Bool} (h : ∀ p ∈ M, q p = false) : M.filter q = [] := by
  rw [List.filter_eq_nil_iff]
  intro p hp
  rw [h p hp]
  exact Bool.false_ne_true
theorem filter_at {M : List (Int × Int)} (h : Fine M) (c : Int) : (M.filter fun p => decide (p.1 = c)) = if convP M c = c then [] else [(c, convP M c)] := by
  induction M with
  | nil => simp [convP]
  | cons p r ih =>
    have hp := h.1 p (List.mem_cons_self)
    have hr := (List.pairwise_cons.1 h.2).1
    by_cases hc : p.1 = c
    · have e : convP (p :: r) c = p.2 := by simp [convP, hc]
      have er : (r.filter fun p => decide (p.1 = c)) = [] := filter_none fun q hq => decide_eq_false (by have := hr q hq; omega)
      rw [e, List.filter_cons, if_pos (by simpa using hc), er, if_neg (by omega)]
      rw [← hc]
    · have e : convP (p :: r) c = convP r c := by
        unfold convP
        rw [List.find?_cons_of_neg (by simpa using hc)]
      rw [e, List.filter_cons, if_neg (by simpa using hc)]
      exact ih h.tail
theorem filter_step {M : List (Int × Int)} (h : Fine M) (k : Int) : (M.filter fun p => decide (p.1 < k + 1)) = (M.filter fun p => decide (p.1 < k)) ++ M.filter fun p => decide (p.1 = k) := by
  induction M with
  | nil => simp
  | cons p r ih =>
    have hr := (List.pairwise_cons.1 h.2).1
    by_cases h1 : p.1 < k
    · have d1 : decide (p.1 < k + 1) = true := decide_eq_true (by omega)
      have d2 : decide (p.1 < k) = true := decide_eq_true h1
      have d3 : decide (p.1 = k) = false := decide_eq_false (by omega)
      simp only [List.filter_cons, d1, d2, d3, if_true, Bool.false_eq_true, if_false]
      rw [ih h.tail]
      rfl
    · by_cases h2 : p.1 = k
      · have e1 : (r.filter fun p => decide (p.1 < k + 1)) = [] := filter_none fun q hq => decide_eq_false (by have := hr q hq; omega)
        have e2 : (r.filter fun p => decide (p.1 < k)) = [] := filter_none fun q hq => decide_eq_false (by have := hr q hq; omega)
        have e3 : (r.filter fun p => decide (p.1 = k)) = [] := filter_none fun q hq => decide_eq_false (by have := hr q hq; omega)
        have d1 : decide (p.1 < k + 1) = true := decide_eq_true (by omega)
        have d2 : decide (p.1 < k) = false := decide_eq_false h1
        have d3 : decide (p.1 = k) = true := decide_eq_true h2
        simp only [List.filter_cons, d1, d2, d3, if_true, Bool.false_eq_true, if_false]
        rw [e1, e2, e3]
        rfl
      · have d1 : decide (p.1 < k + 1) = false := decide_eq_false (by omega)
        have d2 : decide (p.1 < k) = false := decide_eq_false h1
        have d3 : decide (p.1 = k) = false := decide_eq_false h2
        simp only [List.filter_cons, d1, d2, d3, Bool.false_eq_true, if_false]
        exact ih h.tail
theorem filter_listF {M : List (Int × Int)} (h : Fine M) (k : Nat) : (M.filter fun p => decide (p.1 < (k : Int))) = listF (convP M) k := by
  induction k with
  | zero => exact filter_none fun p hp => decide_eq_false (by have := (h.1 p hp).1.1; simp; omega)
  | succ k ih =>
    simp only [listF]
    rw [← ih, ← filter_at h, ← filter_step h]
    rfl
/-- A valid table is told by what it makes of each character. -/
theorem table_of {M : List (Int × Int)} (h : Fine M) : M = listF (convP M) 256 := by
  rw [← filter_listF h 256]
  exact (List.filter_eq_self.2 fun p hp => by have := (h.1 p hp).1.2; simp; omega).symm
theorem table_ext {M N : List (Int × Int)} (hM : Fine M) (hN : Fine N) (h : ∀ c : Int, 0 ≤ c → c ≤ 255 → convP M c = convP N c) : M = N := by
  rw [table_of hM, table_of hN]
  exact listF_congr 256 fun j hj => h j (by omega) (by omega)

/-! ### What setting does -/
theorem fine_setP {L : List (Int × Int)} {a b : Int} (h : Fine L) (ha : 0 ≤ a ∧ a ≤ 255) (hb : 0 ≤ b ∧ b ≤ 255) : Fine (setP L a b) := by
  unfold setP
  refine ⟨fun p hp => ?_, ?_⟩
  · simp only [List.mem_append, List.mem_filter] at hp
    rcases hp with ⟨hp, _⟩ | hp | ⟨hp, _⟩
    · exact h.1 p hp
    · by_cases hab : a = b
      · rw [if_pos hab] at hp; cases hp
      · rw [if_neg hab] at hp
        simp only [List.mem_singleton] at hp
        subst hp
        exact ⟨ha, hb, hab⟩
    · exact h.1 p hp
  · rw [List.pairwise_append]
    refine ⟨h.2.filter _, ?_, ?_⟩
    · rw [List.pairwise_append]
      refine ⟨?_, h.2.filter _, ?_⟩
      · by_cases hab : a = b
        · rw [if_pos hab]; exact List.Pairwise.nil
        · rw [if_neg hab]; exact List.pairwise_singleton _ _
      · intro p hp q hq
        simp only [List.mem_filter, decide_eq_true_eq] at hq
        by_cases hab : a = b
        · rw [if_pos hab] at hp; cases hp
        · rw [if_neg hab] at hp
          simp only [List.mem_singleton] at hp
          subst hp
          exact hq.2
    · intro p hp q hq
      simp only [List.mem_filter, decide_eq_true_eq] at hp
      simp only [List.mem_append, List.mem_filter, decide_eq_true_eq] at hq
      rcases hq with hq | hq
      · by_cases hab : a = b
        · rw [if_pos hab] at hq; cases hq
        · rw [if_neg hab] at hq
          simp only [List.mem_singleton] at hq
          subst hq
          exact hp.2
      · have := hp.2; have := hq.2; omega
theorem find_low (L : List (Int × Int)) (a c : Int) : ((L.filter fun p => decide (p.1 < a)).find? fun p => p.1 == c) = if c < a then L.find? fun p => p.1 == c else none := by
  rw [List.find?_filter]
  by_cases h : c < a
  · rw [if_pos h]
    congr 1
    funext p
    by_cases hp : p.1 = c
    · simp [hp, h]
    · simp [hp]
  · rw [if_neg h, List.find?_eq_none]
    intro p _ hp
    simp at hp
    omega
theorem find_high (L : List (Int × Int)) (a c : Int) : ((L.filter fun p => decide (a < p.1)).find? fun p => p.1 == c) = if a < c then L.find? fun p => p.1 == c else none := by
  rw [List.find?_filter]
  by_cases h : a < c
  · rw [if_pos h]
    congr 1
    funext p
    by_cases hp : p.1 = c
    · simp [hp, h]
    · simp [hp]
  · rw [if_neg h, List.find?_eq_none]
    intro p _ hp
    simp at hp
    omega
theorem convP_setP (L : List (Int × Int)) (a b c : Int) : convP (setP L a b) c = if c = a then b else convP L c := by
  unfold convP setP
  rw [List.find?_append, List.find?_append, find_low, find_high]
  by_cases hc : c = a
  · subst hc
    simp only [Int.lt_irrefl, if_false, if_true]
    by_cases hab : c = b
    · subst hab; simp
    · simp [hab]
  · rw [if_neg hc]
    have hmid : ((if a = b then [] else [(a, b)]).find? fun p => p.1 == c) = none := by
      by_cases hab : a = b
      · rw [if_pos hab]; rfl
      · rw [if_neg hab]
        have : (a == c) = false := by rw [beq_eq_false_iff_ne]; exact fun e => hc e.symm
        simp [List.find?, this]
    rw [hmid]
    by_cases hlt : c < a
    · rw [if_pos hlt, if_neg (by omega)]; simp
    · rw [if_neg hlt, if_pos (by omega)]; simp

/-- The reference's table is the same. -/
theorem ref_same {L : List (Int × Int)} {a b : Int} (h : setOk L a b = true) : listTo L a b 256 = setP L a b := by
  obtain ⟨hg, ha, hb⟩ := setOk_yes h
  have hf := fine_setP (fine_of_good (goodB_iff.1 hg)) (Ch.isCh_iff.1 ha) (Ch.isCh_iff.1 hb)
  rw [listTo_listF, table_of hf]
  refine listF_congr 256 fun j hj => ?_
  rw [convP_setP]
  unfold mapTo
  rw [conv_yes hg (Ch.isCh_yes (by omega) (by omega))]

theorem good_setP {L : List (Int × Int)} {a b : Int} (h : setOk L a b = true) : goodB (setP L a b) = true := by
  obtain ⟨hg, ha, hb⟩ := setOk_yes h
  exact goodB_iff.2 (good_of_fine (fine_setP (fine_of_good (goodB_iff.1 hg)) (Ch.isCh_iff.1 ha) (Ch.isCh_iff.1 hb)))
theorem conv_setP {L : List (Int × Int)} {a b : Int} (h : setOk L a b = true) (c : Int) : conv (setP L a b) c = if c = a then b else conv L c := by
  obtain ⟨hg, ha, hb⟩ := setOk_yes h
  cases hc : Ch.isCh c
  · rw [conv_no (.inr hc), conv_no (.inr hc), if_neg (fun e => by subst e; rw [ha] at hc; cases hc)]
  · rw [conv_yes (good_setP h) hc, conv_yes hg hc, convP_setP]
theorem conv_char {L : List (Int × Int)} {c : Int} (hg : goodB L = true) (hc : Ch.isCh c = true) : Ch.isCh (conv L c) = true := by
  rw [conv_yes hg hc]
  have hf := fine_of_good (goodB_iff.1 hg)
  unfold convP
  cases h : L.find? fun p => p.1 == c with
  | none => exact hc
  | some p => exact Ch.isCh_iff.2 (hf.1 p (List.mem_of_find?_eq_some h)).2.1
/-- Setting back restores the table. -/
theorem set_back {L : List (Int × Int)} {a b : Int} (h : setOk L a b = true) : setOk (setP L a b) a (conv L a) = true ∧ setP (setP L a b) a (conv L a) = L := by
  obtain ⟨hg, ha, hb⟩ := setOk_yes h
  have hcc := conv_char hg ha
  have hok : setOk (setP L a b) a (conv L a) = true := by unfold setOk; rw [good_setP h, ha, hcc]; rfl
  refine ⟨hok, ?_⟩
  have hL := fine_of_good (goodB_iff.1 hg)
  have hM := fine_setP hL (Ch.isCh_iff.1 ha) (Ch.isCh_iff.1 hb)
  refine table_ext (fine_setP hM (Ch.isCh_iff.1 ha) (Ch.isCh_iff.1 hcc)) hL fun c h0 h1 => ?_
  rw [convP_setP, convP_setP]
  by_cases hc : c = a
  · subst hc; rw [if_pos rfl, conv_yes hg ha]
  · rw [if_neg hc, if_neg hc]
/-- Two different characters in either order. -/
theorem set_swap {L : List (Int × Int)} {a x b y : Int} (hab : a ≠ b) (h1 : setOk L a x = true) (h2 : setOk L b y = true) :
    setOk (setP L a x) b y = true ∧ setOk (setP L b y) a x = true ∧ setP (setP L a x) b y = setP (setP L b y) a x := by
  obtain ⟨hg, ha, hx⟩ := setOk_yes h1
  obtain ⟨_, hb, hy⟩ := setOk_yes h2
  have hL := fine_of_good (goodB_iff.1 hg)
  refine ⟨by unfold setOk; rw [good_setP h1, hb, hy]; rfl, by unfold setOk; rw [good_setP h2, ha, hx]; rfl, ?_⟩
  refine table_ext (fine_setP (fine_setP hL (Ch.isCh_iff.1 ha) (Ch.isCh_iff.1 hx)) (Ch.isCh_iff.1 hb) (Ch.isCh_iff.1 hy)) (fine_setP (fine_setP hL (Ch.isCh_iff.1 hb) (Ch.isCh_iff.1 hy)) (Ch.isCh_iff.1 ha) (Ch.isCh_iff.1 hx)) fun c h0 h1 => ?_
  rw [convP_setP, convP_setP, convP_setP, convP_setP]
  by_cases hcb : c = b
  · subst hcb
    rw [if_pos rfl, if_neg (fun e => hab e.symm), if_pos rfl]
  · rw [if_neg hcb]
    by_cases hca : c = a
    · rw [if_pos hca, if_pos hca]
    · rw [if_neg hca, if_neg hca, if_neg hcb]

theorem setP_len {L : List (Int × Int)} {a b : Int} (h : setOk L a b = true) : (setP L a b).length ≤ 256 := by
  rw [← ref_same h]
  exact listTo_len _ _ _ _

end Go.Proofs.YtdlobgnhoiednaaDoor
