/-
  PLAIN MATHEMATICS: a table that Set returns is valid, what is found in it, and what setting again makes of it; the sides of a valid operator.
-/
import Derived.Test.YtgbfkchjcjdnnaaDoorSame7
namespace Go.Proofs.YtgbfkchjcjdnnaaDoor
set_option linter.unusedVariables false
set_option linter.unusedSimpArgs false
open Go.RowKit

namespace Q
open Tm
/-! ### valid tables, said of all their operators -/
def Apart (L : List Ent) : Prop := ∀ e ∈ L, ∀ e' ∈ L, e.1 = e'.1 → cls e.2.1 = 2 → cls e'.2.1 = 3 → False
theorem sorted_iff {L : List Ent} : Sorted L ↔ L.Pairwise fun a b => keyE a b < 0 := by
  rw [List.pairwise_iff_getElem]
  constructor
  · intro h i j hi hj hij
    have := h i j hij hj
    rwa [ent_at hi, ent_at hj] at this
  · intro h i j hij hj
    rw [ent_at (by omega), ent_at hj]
    exact h i j (by omega) hj hij
theorem good_all {L : List Ent} (h : Good L) : (∀ e ∈ L, okE e = true) ∧ Apart L := by
  have hok : ∀ e ∈ L, okE e = true := by
    intro e he
    obtain ⟨j, hj, rfl⟩ := List.getElem_of_mem he
    have := (h.2 j hj).1
    rwa [ent_at hj] at this
  refine ⟨hok, fun e he e' he' hn h2 h3 => ?_⟩
  obtain ⟨i, hi, rfl⟩ := List.getElem_of_mem he
  obtain ⟨j, hj, rfl⟩ := List.getElem_of_mem he'
  have hs := h.sorted
  have hk : keyE L[i] L[j] = -1 := by
    unfold keyE cmpE lex
    rw [if_pos ((cmpS_zero _ _).2 hn), h2, h3]
    rfl
  have hij : i < j := by
    rcases Nat.lt_trichotomy i j with hlt | heq | hgt
    · exact hlt
    · subst heq; omega
    · have := hs j i hgt hi
      rw [ent_at hj, ent_at hi, keyE_neg L[i] L[j], hk] at this
      omega
  -- nothing lies between the two
  have hadj : j = i + 1 := by
    rcases Nat.lt_or_ge (i + 1) j with hlt | hge
    · have hm : i + 1 < L.length := by omega
      have k1 := hs i (i + 1) (by omega) hm
      have k2 := hs (i + 1) j hlt hj
      rw [ent_at hi, ent_at hm] at k1
      rw [ent_at hm, ent_at hj] at k2
      generalize L[i + 1] = m at k1 k2
      generalize L[i] = a at k1 hn h2
      generalize L[j] = b at k2 hn h3
      have hf := cmpS_fit a.1 m.1 b.1
      have hz : cmpS a.1 b.1 = 0 := (cmpS_zero _ _).2 hn
      rw [hz] at hf
      unfold keyE cmpE lex at k1 k2
      rw [h2] at k1
      rw [h3] at k2
      obtain ⟨f1, f2, f3, f4⟩ := hf
      by_cases hx : cmpS a.1 m.1 = 0
      · have hy := f2 hx
        rw [if_pos hx] at k1
        rw [if_pos hy.symm] at k2
        unfold cmpI at k1 k2
        split at k1 <;> split at k2 <;> omega
      · rw [if_neg hx] at k1
        by_cases hy : cmpS m.1 b.1 = 0
        · have := f3 hy; omega
        · rw [if_neg hy] at k2
          have := f1 k1 k2
          omega
    · omega
  subst hadj
  have h4 := (h.2 (i + 1) hj).2 (by omega)
  simp only [Nat.add_sub_cancel] at h4
  rw [ent_at hi, ent_at hj, mayF_ref (by rw [h2]; decide) (by rw [h3]; decide)] at h4
  unfold bothB at h4
  rw [decide_eq_true hn, decide_eq_true h2, decide_eq_true h3] at h4
  simp at h4
theorem good_of {L : List Ent} (hl : L.length ≤ 100) (hok : ∀ e ∈ L, okE e = true) (hs : L.Pairwise fun a b => keyE a b < 0) (ha : Apart L) : Good L := by
  refine ⟨hl, fun j hj => ?_⟩
  have hm : L[j] ∈ L := List.getElem_mem _
  refine ⟨by rw [ent_at hj]; exact hok _ hm, fun h0 => ?_⟩
  have hp : j - 1 < L.length := by omega
  have hm' : L[j - 1] ∈ L := List.getElem_mem _
  have hk := sorted_iff.2 hs (j - 1) j (by omega) hj
  rw [ent_at hp, ent_at hj] at hk ⊢
  rw [mayF_ref (okE_cls (hok _ hm')) (okE_cls (hok _ hm))]
  unfold befB bothB
  rw [decide_eq_true hk]
  by_cases h1 : L[j - 1].1 = L[j].1
  · by_cases h2 : cls L[j - 1].2.1 = 2
    · by_cases h3 : cls L[j].2.1 = 3
      · exact (ha _ hm' _ hm h1 h2 h3).elim
      · rw [decide_eq_false h3]; simp
    · rw [decide_eq_false h2]; simp
  · rw [decide_eq_false h1]; simp

/-! ### what with and without leave -/
theorem mem_withM {op x : Ent} : ∀ {R : List Ent}, x ∈ withM op R ↔ x = op ∨ x ∈ R
  | [] => by simp [withM]
  | y :: r => by
    unfold withM
    split
    · simp
    · rw [List.mem_cons, mem_withM, List.mem_cons]
      constructor
      · rintro (h | h | h)
        · exact .inr (.inl h)
        · exact .inl h
        · exact .inr (.inr h)
      · rintro (h | h | h)
        · exact .inr (.inl h)
        · exact .inl h
        · exact .inr (.inr h)
theorem mem_withoutM {L : List Ent} {c : Int} {nm : ByteArray} {x : Ent} : x ∈ withoutM L c nm ↔ x ∈ L ∧ isB c nm x = false := by
  unfold withoutM
  rw [List.mem_filter, Bool.not_eq_true']
theorem sorted_without {L : List Ent} {c : Int} {nm : ByteArray} (h : L.Pairwise fun a b => keyE a b < 0) : (withoutM L c nm).Pairwise fun a b => keyE a b < 0 := h.filter _
theorem sorted_with {op : Ent} : ∀ {R : List Ent}, R.Pairwise (fun a b => keyE a b < 0) → (∀ x ∈ R, keyE op x ≠ 0) → (withM op R).Pairwise fun a b => keyE a b < 0
  | [], _, _ => by simp [withM]
  | y :: r, h, hne => by
    rw [List.pairwise_cons] at h
    unfold withM
    split
    · rename_i hb
      have hb' : keyE op y < 0 := of_decide_eq_true hb
      rw [List.pairwise_cons, List.pairwise_cons]
      refine ⟨fun x hx => ?_, h.1, h.2⟩
      rcases List.mem_cons.1 hx with rfl | hx
      · exact hb'
      · exact keyE_trans hb' (h.1 x hx)
    · rename_i hb
      have hb' : ¬ keyE op y < 0 := fun hx => hb (decide_eq_true hx)
      have hz := hne y (List.mem_cons_self ..)
      have hn := keyE_neg op y
      rw [List.pairwise_cons]
      refine ⟨fun x hx => ?_, sorted_with h.2 fun x hx => hne x (List.mem_cons_of_mem _ hx)⟩
      rcases mem_withM.1 hx with rfl | hx
      · omega
      · exact h.1 x hx
theorem find_with_other {op : Ent} {q : Ent → Bool} (hq : q op = false) : ∀ R : List Ent, (withM op R).find? q = R.find? q
  | [] => by simp [withM, hq]
  | y :: r => by
    unfold withM
    split
    · simp [List.find?, hq]
    · simp only [List.find?]
      rw [find_with_other hq r]
theorem find_with_mine {op : Ent} {q : Ent → Bool} (hq : q op = true) : ∀ R : List Ent, (∀ x ∈ R, q x = false) → (withM op R).find? q = some op
  | [], _ => by simp [withM, hq]
  | y :: r, h => by
    unfold withM
    split
    · simp [List.find?, hq]
    · simp only [List.find?]
      rw [h y (List.mem_cons_self ..), find_with_mine hq r fun x hx => h x (List.mem_cons_of_mem _ hx)]
theorem find_without_other {c : Int} {nm : ByteArray} {q : Ent → Bool} (hq : ∀ e, isB c nm e = true → q e = false) : ∀ L : List Ent, (withoutM L c nm).find? q = L.find? q
  | [] => rfl
  | y :: r => by
    rw [without_cons]
    cases hb : isB c nm y
    · simp only [Bool.false_eq_true, if_false, List.find?]
      rw [find_without_other hq r]
    · simp only [if_true, List.find?]
      rw [hq y hb, find_without_other hq r]
theorem without_with {op : Ent} {c : Int} {nm : ByteArray} (hop : isB c nm op = true) : ∀ R : List Ent, withoutM (withM op R) c nm = withoutM R c nm
  | [] => by simp [withM, withoutM, hop]
  | y :: r => by
    unfold withM
    split
    · rw [without_cons, hop, if_pos rfl]
    · rw [without_cons, without_cons, without_with hop r]
theorem without_twice (L : List Ent) (c : Int) (nm : ByteArray) : withoutM (withoutM L c nm) c nm = withoutM L c nm := by
  unfold withoutM
  rw [List.filter_filter]
  simp
theorem without_none {L : List Ent} {c : Int} {nm : ByteArray} (h : findM L c nm = none) : withoutM L c nm = L := by
  unfold findM at h
  rw [List.find?_eq_none] at h
  unfold withoutM
  rw [List.filter_eq_self]
  intro e he
  have := h e he
  simpa using this
theorem isB_self (nm : ByteArray) (t p : Int) : isB (cls t) nm (nm, t, p) = true := by unfold isB; simp
theorem isB_other {c c' : Int} {nm nm' : ByteArray} (hne : ¬ (c' = c ∧ nm' = nm)) {e : Ent} (h : isB c nm e = true) : isB c' nm' e = false := by
  unfold isB at h ⊢
  simp only [Bool.and_eq_true, decide_eq_true_eq] at h
  rw [h.1, h.2]
  by_cases h1 : c = c'
  · by_cases h2 : nm = nm'
    · exact absurd ⟨h1.symm, h2.symm⟩ hne
    · rw [decide_eq_false h2]; simp
  · rw [decide_eq_false h1]; simp

/-! ### a table that Set returns -/
theorem may_name {L : List Ent} {p c : Int} {nm : ByteArray} (h : mayB L p c nm = true) : nm ≠ sComma ∧ nm ≠ sList ∧ nm ≠ sCurly ∧ (nm = sBar → c = 2 ∧ (p = 0 ∨ 1001 ≤ p)) ∧ (nm ≠ sBar → p = 0 ∨ findM L (riv c) nm = none) := by
  unfold mayB at h
  by_cases h1 : nm = sComma ∨ nm = sList ∨ nm = sCurly
  · rw [if_pos h1] at h; cases h
  · rw [if_neg h1] at h
    refine ⟨fun hx => h1 (.inl hx), fun hx => h1 (.inr (.inl hx)), fun hx => h1 (.inr (.inr hx)), fun hx => ?_, fun hx => ?_⟩
    · rw [if_pos hx] at h
      simp only [Bool.and_eq_true, Bool.or_eq_true, decide_eq_true_eq] at h
      exact h
    · rw [if_neg hx] at h
      simp only [Bool.or_eq_true, decide_eq_true_eq] at h
      exact h.imp id fun hy => by
        cases hz : findM L (riv c) nm
        · rfl
        · rw [hz] at hy; cases hy
theorem ok_new {L : List Ent} {p t : Int} {nm : ByteArray} (h1 : argB L p t nm = true) (h2 : mayB L p (cls t) nm = true) (hp : 0 < p) : okE (nm, t, p) = true := by
  obtain ⟨a1, a2, a3, a4⟩ := argB_yes h1
  obtain ⟨b1, b2, b3, b4, b5⟩ := may_name h2
  rw [okE_rest a4 a3 a2 (by omega), if_neg b1]
  by_cases hb : nm = sBar
  · obtain ⟨c1, c2⟩ := b4 hb
    rw [if_pos hb, decide_eq_true c1, decide_eq_true (by omega)]
    rfl
  · rw [if_neg hb, decide_eq_true b2, decide_eq_true b3]
    rfl
theorem rival_none {L : List Ent} {p t : Int} {nm : ByteArray} (h1 : argB L p t nm = true) (h2 : mayB L p (cls t) nm = true) (hp : 0 < p) : findM L (riv (cls t)) nm = none := by
  obtain ⟨a1, a2, a3, a4⟩ := argB_yes h1
  obtain ⟨b1, b2, b3, b4, b5⟩ := may_name h2
  by_cases hb : nm = sBar
  · obtain ⟨c1, c2⟩ := b4 hb
    rw [c1, hb]
    exact find_bar a1
  · exact (b5 hb).resolve_left (by omega)
theorem set_valid {L : List Ent} {p t : Int} {nm : ByteArray} (h1 : argB L p t nm = true) (h2 : mayB L p (cls t) nm = true) (h3 : fullB L p (cls t) nm = false) : goodB (setM L p t nm) = true := by
  have hg := goodB_iff.1 (argB_yes h1).1
  obtain ⟨hok, hap⟩ := good_all hg
  have hs := sorted_iff.1 hg.sorted
  rw [full_iff hg.sorted hg.1] at h3
  have hl := of_decide_eq_false h3
  rw [goodB_iff]
  have hwo : ∀ e ∈ withoutM L (cls t) nm, e ∈ L := fun e he => (mem_withoutM.1 he).1
  by_cases hp : 0 < p
  · have he : setM L p t nm = withM (nm, t, p) (withoutM L (cls t) nm) := by unfold setM; rw [if_pos hp]
    rw [he] at hl ⊢
    have hrn := rival_none h1 h2 hp
    have hnone : ∀ e ∈ L, e.1 = nm → cls e.2.1 = riv (cls t) → False := by
      intro e he hn hc
      unfold findM at hrn
      rw [List.find?_eq_none] at hrn
      refine hrn e he ?_
      unfold isB
      rw [decide_eq_true hc, decide_eq_true hn]
      rfl
    refine good_of (by omega) (fun e he => ?_) (sorted_with (sorted_without hs) fun x hx => ?_) (fun e he e' he' hn hc2 hc3 => ?_)
    · rcases mem_withM.1 he with rfl | he
      · exact ok_new h1 h2 hp
      · exact hok e (hwo e he)
    · have hb := (mem_withoutM.1 hx).2
      intro hz
      rw [isB_zero] at hb
      have hz' : cmpE x nm (cls t) = 0 := by
        have := keyE_neg x (nm, t, p)
        have e : keyE x (nm, t, p) = cmpE x nm (cls t) := rfl
        omega
      rw [decide_eq_true hz'] at hb
      cases hb
    · rcases mem_withM.1 he with rfl | he <;> rcases mem_withM.1 he' with rfl | he'
      · rw [hc2] at hc3; cases hc3
      · exact hnone e' (hwo _ he') hn.symm (by rw [show cls t = 2 from hc2]; exact hc3)
      · exact hnone e (hwo _ he) hn (by rw [show cls t = 3 from hc3]; exact hc2)
      · exact hap e (hwo _ he) e' (hwo _ he') hn hc2 hc3
  · have he : setM L p t nm = withoutM L (cls t) nm := by unfold setM; rw [if_neg hp]
    rw [he] at hl ⊢
    exact good_of (by omega) (fun e he => hok e (hwo e he)) (sorted_without hs) fun e he e' he' => hap e (hwo _ he) e' (hwo _ he')
theorem set_mine {L : List Ent} (p t : Int) (nm : ByteArray) : findM (setM L p t nm) (cls t) nm = if 0 < p then some (nm, t, p) else none := by
  have hno : ∀ x ∈ withoutM L (cls t) nm, isB (cls t) nm x = false := fun x hx => (mem_withoutM.1 hx).2
  unfold findM setM
  by_cases hp : 0 < p
  · rw [if_pos hp, if_pos hp]
    exact find_with_mine (isB_self nm t p) _ hno
  · rw [if_neg hp, if_neg hp, List.find?_eq_none]
    intro x hx
    rw [hno x hx]
    exact Bool.false_ne_true
theorem set_other {L : List Ent} (p t : Int) (nm : ByteArray) {c' : Int} {nm' : ByteArray} (hne : ¬ (c' = cls t ∧ nm' = nm)) : findM (setM L p t nm) c' nm' = findM L c' nm' := by
  unfold findM setM
  have h := find_without_other (c := cls t) (nm := nm) (q := isB c' nm') (fun e he => isB_other hne he) L
  by_cases hp : 0 < p
  · rw [if_pos hp, find_with_other (isB_other hne (isB_self nm t p)), h]
  · rw [if_neg hp, h]
theorem set_again {L : List Ent} (p t : Int) (nm : ByteArray) : setM (setM L p t nm) p t nm = setM L p t nm := by
  by_cases hp : 0 < p
  · unfold setM
    rw [if_pos hp, if_pos hp, without_with (isB_self nm t p), without_twice]
  · unfold setM
    rw [if_neg hp, if_neg hp, without_twice]
theorem set_none (X : List Ent) (t : Int) (nm : ByteArray) : setM X 0 t nm = withoutM X (cls t) nm := by unfold setM; rw [if_neg (by omega)]
theorem set_back {L : List Ent} {p t : Int} {nm : ByteArray} (h : findM L (cls t) nm = none) : setM (setM L p t nm) 0 t nm = L := by
  rw [set_none]
  unfold setM
  by_cases hp : 0 < p
  · rw [if_pos hp, without_with (isB_self nm t p), without_twice, without_none h]
  · rw [if_neg hp, without_twice, without_none h]
theorem riv_ne {t : Int} (h : cls t ≠ 0) (nm : ByteArray) : ¬ (riv (cls t) = cls t ∧ nm = nm) := by
  rintro ⟨hr, _⟩
  rcases cls_range t with h' | h' | h' | h' <;> rw [h'] at hr <;> simp [riv] at hr
  exact h h'
/-- Setting the same operator again, and removing it, does not fail. -/
theorem err_again {L : List Ent} {p t : Int} {nm : ByteArray} (h1 : argB L p t nm = true) (h2 : mayB L p (cls t) nm = true) (h3 : fullB L p (cls t) nm = false) :
    errM (setM L p t nm) p t nm = 0 ∧ errM (setM L p t nm) 0 t nm = 0 := by
  have hv := set_valid h1 h2 h3
  obtain ⟨a1, a2, a3, a4⟩ := argB_yes h1
  obtain ⟨b1, b2, b3, b4, b5⟩ := may_name h2
  have n1 : ¬ (nm = sComma ∨ nm = sList ∨ nm = sCurly) := by rintro (h | h | h) <;> contradiction
  have m1 : mayB (setM L p t nm) p (cls t) nm = true := by
    rw [← h2]
    unfold mayB
    rw [set_other p t nm (riv_ne a3 nm)]
  have f1 : fullB (setM L p t nm) p (cls t) nm = false := by
    unfold fullB
    rw [set_mine]
    by_cases hp : 0 < p
    · rw [if_pos hp]; simp
    · rw [decide_eq_false hp]; rfl
  have g1 : argB (setM L p t nm) p t nm = true := by unfold argB; rw [hv, a2, decide_eq_true a3, decide_eq_true a4]; rfl
  have g2 : argB (setM L p t nm) 0 t nm = true := by unfold argB; rw [hv, decide_eq_true a3, decide_eq_true a4]; rfl
  have m2 : mayB (setM L p t nm) 0 (cls t) nm = true := by
    unfold mayB
    rw [if_neg n1]
    by_cases hb : nm = sBar
    · rw [if_pos hb, decide_eq_true (b4 hb).1]; rfl
    · rw [if_neg hb]; rfl
  exact ⟨(err_ok g1 m1 f1).1, (err_ok g2 m2 rfl).1⟩

/-! ### the sides of a valid operator -/
theorem sides_bound {e : Ent} (h : okE e = true) :
    0 ≤ (sidesM e.2.1 e.2.2).1 ∧ (sidesM e.2.1 e.2.2).1 ≤ e.2.2 ∧ 0 ≤ (sidesM e.2.1 e.2.2).2 ∧ (sidesM e.2.1 e.2.2).2 ≤ e.2.2 ∧ (cls e.2.1 = 2 → ¬ ((sidesM e.2.1 e.2.2).1 = e.2.2 ∧ (sidesM e.2.1 e.2.2).2 = e.2.2)) ∧ (cls e.2.1 = 1 → (sidesM e.2.1 e.2.2).1 = 0) ∧ (cls e.2.1 = 3 → (sidesM e.2.1 e.2.2).2 = 0) := by
  obtain ⟨s, t, p⟩ := e
  have hc := okE_cls h
  unfold okE at h
  simp only [Bool.and_eq_true, decide_eq_true_eq] at h
  have h1 : 1 ≤ p := h.1.1.2
  have h2 : p ≤ 1200 := h.1.2
  have ht : t = 1 ∨ t = 2 ∨ t = 3 ∨ t = 4 ∨ t = 5 ∨ t = 6 ∨ t = 7 := by
    unfold cls at hc
    simp only at hc
    split at hc
    · omega
    · split at hc
      · omega
      · split at hc
        · omega
        · exact absurd rfl hc
  simp only
  rw [sides_good h1 h2]
  rcases ht with rfl | rfl | rfl | rfl | rfl | rfl | rfl <;> simp [cls] <;> omega
end Q
end Go.Proofs.YtgbfkchjcjdnnaaDoor
