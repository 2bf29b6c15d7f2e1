/-
  PLAIN MATHEMATICS over characters: what the functions of package chars answer, as functions on integers. No program in sight.
-/
namespace Go.Proofs.YtdlobgnhoiednaaDoor
set_option linter.unusedVariables false
set_option linter.unusedSimpArgs false
namespace Ch

/-- A character is 0 to 255. -/
def isCh (c : Int) : Bool := decide (0 ≤ c) && decide (c ≤ 255)

theorem isCh_yes {c : Int} (h0 : 0 ≤ c) (h1 : c ≤ 255) : isCh c = true := by simp [isCh, h0, h1]
theorem isCh_no {c : Int} (h : ¬ (0 ≤ c ∧ c ≤ 255)) : isCh c = false := by
  simp [isCh]; omega
theorem isCh_iff {c : Int} : isCh c = true ↔ 0 ≤ c ∧ c ≤ 255 := by simp [isCh]

/-- The value of a digit or letter, or -1. -/
def raw (c : Int) : Int := if 48 ≤ c ∧ c ≤ 57 then c - 48 else if 97 ≤ c ∧ c ≤ 122 then c - 87 else if 65 ≤ c ∧ c ≤ 90 then c - 55 else -1
def digB (c b : Int) : Bool := decide (2 ≤ b) && decide (b ≤ 36) && decide (0 ≤ raw c) && decide (raw c < b)
def digV (c b : Int) : Int := if digB c b then raw c else 0

theorem digB_bad {c b : Int} (hb : b < 2 ∨ 36 < b) : digB c b = false := by simp [digB]; omega
theorem digV_bad {c b : Int} (hb : b < 2 ∨ 36 < b) : digV c b = 0 := by simp [digV, digB_bad hb]
theorem digB_none {c b : Int} (hn : ¬ (48 ≤ c ∧ c ≤ 57) ∧ ¬ (97 ≤ c ∧ c ≤ 122) ∧ ¬ (65 ≤ c ∧ c ≤ 90)) : digB c b = false := by
  simp only [digB, raw, if_neg hn.1, if_neg hn.2.1, if_neg hn.2.2]; simp
theorem digV_none {c b : Int} (hn : ¬ (48 ≤ c ∧ c ≤ 57) ∧ ¬ (97 ≤ c ∧ c ≤ 122) ∧ ¬ (65 ≤ c ∧ c ≤ 90)) : digV c b = 0 := by simp [digV, digB_none hn]
theorem dig_some {c b : Int} (h1 : 2 ≤ b) (h2 : b ≤ 36) (hn : ¬ (¬ (48 ≤ c ∧ c ≤ 57) ∧ ¬ (97 ≤ c ∧ c ≤ 122) ∧ ¬ (65 ≤ c ∧ c ≤ 90))) :
    ∃ lo hi k : Int, (lo = 48 ∧ hi = 57 ∧ k = 48 ∨ lo = 97 ∧ hi = 122 ∧ k = 87 ∨ lo = 65 ∧ hi = 90 ∧ k = 55) ∧ lo ≤ c ∧ c ≤ hi ∧ digB c b = decide (c - k < b) ∧ digV c b = if c - k < b then c - k else 0 := by
  have hs : ∃ lo hi k : Int, (lo = 48 ∧ hi = 57 ∧ k = 48 ∨ lo = 97 ∧ hi = 122 ∧ k = 87 ∨ lo = 65 ∧ hi = 90 ∧ k = 55) ∧ lo ≤ c ∧ c ≤ hi ∧ raw c = c - k ∧ 0 ≤ c - k := by
    unfold raw
    by_cases a1 : 48 ≤ c ∧ c ≤ 57
    · exact ⟨48, 57, 48, .inl ⟨rfl, rfl, rfl⟩, a1.1, a1.2, by rw [if_pos a1], by omega⟩
    · by_cases a2 : 97 ≤ c ∧ c ≤ 122
      · exact ⟨97, 122, 87, .inr (.inl ⟨rfl, rfl, rfl⟩), a2.1, a2.2, by rw [if_neg a1, if_pos a2], by omega⟩
      · have a3 : 65 ≤ c ∧ c ≤ 90 := by omega
        exact ⟨65, 90, 55, .inr (.inr ⟨rfl, rfl, rfl⟩), a3.1, a3.2, by rw [if_neg a1, if_neg a2, if_pos a3], by omega⟩
  obtain ⟨lo, hi, k, hk, hl, hh, hr, h0⟩ := hs
  have e : digB c b = decide (c - k < b) := by simp [digB, h1, h2, hr]; omega
  refine ⟨lo, hi, k, hk, hl, hh, e, ?_⟩
  unfold digV
  rw [e, hr]
  by_cases h : c - k < b <;> simp [h]

end Ch
end Go.Proofs.YtdlobgnhoiednaaDoor
