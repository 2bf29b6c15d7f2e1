/-
  PLAIN MATHEMATICS over terms: variables given other numbers; variables in order of first occurrence; the canonical form of a canonical form and of a renamed term.
-/
import Derived.Test.YtmljkhofahgelaaRRename
import Derived.Test.YtmljkhofahgelaaReplace
import Derived.Test.YtmljkhofahgelaaVariantM
import Derived.Test.YtmljkhofahgelaaVarsFn
namespace Go.Proofs.Ytmljkhofahgelaa
set_option linter.unusedVariables false
set_option linter.unusedSimpArgs false
open Go.RowKit

namespace Tm
/-- Induction over rows of valid terms. -/
theorem fo_ind {P : Fo → Prop} (h0 : P .nil) (hv : ∀ v r, 0 ≤ v → v ≤ 1099511627776 → allB r = true → P r → P (.node (0, v, ByteArray.empty) .nil r))
    (hs : ∀ p l r, ¬ p.1 = 0 → nodeB p (len l) = true → allB l = true → allB r = true → P l → P r → P (.node p l r)) : ∀ F, allB F = true → P F := by
  intro F
  induction F with
  | nil => exact fun _ => h0
  | node p l r ihl ihr =>
    intro h
    simp only [allB, Bool.and_eq_true] at h
    obtain ⟨⟨hn, hl⟩, hr⟩ := h
    obtain ⟨k, v, s⟩ := p
    by_cases hk : k = 0
    · subst hk
      obtain ⟨h1, h2, rfl, h4⟩ := nodeB_var hn
      obtain rfl := len_zero h4
      exact hv v r h1 h2 hr (ihr hr)
    · exact hs _ l r hk hn hl hr (ihl hl) (ihr hr)
/-- Each variable v becomes f v. -/
def renV (f : Int → Int) : Unit → Int → Unit × Pay × Fo := fun _ v => ((), (0, f v, ByteArray.empty), .nil)
def mapF (f : Int → Int) (F : Fo) : Fo := (reb (renV f) () F).2
theorem mapF_nil (f : Int → Int) : mapF f .nil = .nil := rfl
theorem mapF_var (f : Int → Int) (v : Int) (r : Fo) : mapF f (.node (0, v, ByteArray.empty) .nil r) = .node (0, f v, ByteArray.empty) .nil (mapF f r) := by
  unfold mapF; rw [reb_cons]; rfl
theorem mapF_node (f : Int → Int) {p : Pay} (l r : Fo) (h : ¬ p.1 = 0) : mapF f (.node p l r) = .node p (mapF f l) (mapF f r) := by
  unfold mapF; rw [reb_cons]; unfold rebT; rw [if_neg h]
theorem occF_var (v : Int) (r : Fo) : occF (.node (0, v, ByteArray.empty) .nil r) = v :: occF r := rfl
theorem occF_node {p : Pay} (l r : Fo) (h : ¬ p.1 = 0) : occF (.node p l r) = occF l ++ occF r := by rw [occF, if_neg h]; rfl
theorem len_map (f : Int → Int) (F : Fo) : len (mapF f F) = len F := reb_len _ F ()
theorem size_map (f : Int → Int) : ∀ F, allB F = true → size (mapF f F) = size F := by
  refine fo_ind rfl (fun v r _ _ _ ih => ?_) (fun p l r h _ _ _ ihl ihr => ?_)
  · rw [mapF_var]; simp only [size, ih]
  · rw [mapF_node f l r h]; simp only [size, ihl, ihr]
theorem occ_map (f : Int → Int) : ∀ F, allB F = true → occF (mapF f F) = (occF F).map f := by
  refine fo_ind rfl (fun v r _ _ _ ih => ?_) (fun p l r h _ _ _ ihl ihr => ?_)
  · rw [mapF_var, occF_var, occF_var, ih]; rfl
  · rw [mapF_node f l r h, occF_node _ _ h, occF_node _ _ h, ihl, ihr, List.map_append]
theorem map_map (g f : Int → Int) : ∀ F, allB F = true → mapF g (mapF f F) = mapF (fun v => g (f v)) F := by
  refine fo_ind rfl (fun v r _ _ _ ih => ?_) (fun p l r h _ _ _ ihl ihr => ?_)
  · rw [mapF_var, mapF_var, mapF_var, ih]
  · rw [mapF_node f l r h, mapF_node g _ _ h, mapF_node _ l r h, ihl, ihr]
theorem map_congr {g f : Int → Int} : ∀ F, allB F = true → (∀ v ∈ occF F, g v = f v) → mapF g F = mapF f F := by
  refine fo_ind (fun _ => rfl) (fun v r _ _ _ ih hc => ?_) (fun p l r h _ _ _ ihl ihr hc => ?_)
  · rw [occF_var] at hc
    rw [mapF_var, mapF_var, ih (fun x hx => hc x (List.mem_cons_of_mem _ hx)), hc v (List.mem_cons_self ..)]
  · rw [occF_node _ _ h] at hc
    rw [mapF_node _ l r h, mapF_node _ l r h, ihl (fun x hx => hc x (List.mem_append_left _ hx)), ihr (fun x hx => hc x (List.mem_append_right _ hx))]
theorem good_map (f : Int → Int) : ∀ F, allB F = true → (∀ v ∈ occF F, 0 ≤ f v ∧ f v ≤ 1099511627776) → allB (mapF f F) = true := by
  refine fo_ind (fun _ => rfl) (fun v r _ _ _ ih hc => ?_) (fun p l r h hn _ _ ihl ihr hc => ?_)
  · rw [occF_var] at hc
    rw [mapF_var]
    have h1 := hc v (List.mem_cons_self ..)
    have h2 := ih (fun x hx => hc x (List.mem_cons_of_mem _ hx))
    simp only [allB, h2, Bool.and_true]
    simp [nodeB, h1.1, h1.2, len]
  · rw [occF_node _ _ h] at hc
    rw [mapF_node _ l r h]
    simp only [allB, Bool.and_eq_true]
    exact ⟨⟨by rw [len_map]; exact hn, ihl (fun x hx => hc x (List.mem_append_left _ hx))⟩, ihr (fun x hx => hc x (List.mem_append_right _ hx))⟩
theorem occ_len : ∀ F, allB F = true → (occF F).length ≤ size F := by
  refine fo_ind (Nat.le_refl _) (fun v r _ _ _ ih => ?_) (fun p l r h _ _ _ ihl ihr => ?_)
  · rw [occF_var]; simp only [List.length_cons, size]; omega
  · rw [occF_node _ _ h]; simp only [List.length_append, size]; omega

/-! ### in order of first occurrence -/
def addAll (L : List Int) : List Int → List Int
  | [] => L
  | v :: vs => addAll (if v ∈ L then L else L ++ [v]) vs
theorem addAll_append (vs ws : List Int) : ∀ L, addAll L (vs ++ ws) = addAll (addAll L vs) ws := by
  induction vs with
  | nil => exact fun _ => rfl
  | cons v vs ih => exact fun L => ih _
theorem varsF_occ : ∀ F, allB F = true → ∀ L, varsF L F = addAll L (occF F) := by
  refine fo_ind (fun _ => rfl) (fun v r _ _ _ ih L => ?_) (fun p l r h _ _ _ ihl ihr L => ?_)
  · rw [varsF, varsF, vars1_eq, occF_var, ih]; rfl
  · rw [varsF, vars1_no h, occF_node _ _ h, addAll_append, ihl, ihr]
theorem mem_addAll (vs : List Int) : ∀ (L : List Int) (v : Int), v ∈ addAll L vs ↔ v ∈ L ∨ v ∈ vs := by
  induction vs with
  | nil => intro L v; simp [addAll]
  | cons x vs ih =>
    intro L v
    rw [addAll, ih]
    by_cases hx : x ∈ L
    · rw [if_pos hx]; simp only [List.mem_cons]
      exact ⟨fun h => h.elim .inl fun h => .inr (.inr h), fun h => h.elim .inl fun h => h.elim (fun e => .inl (e ▸ hx)) .inr⟩
    · rw [if_neg hx]; simp [or_assoc]
theorem addAll_nodup (vs : List Int) : ∀ L : List Int, L.Nodup → (addAll L vs).Nodup := by
  induction vs with
  | nil => exact fun _ h => h
  | cons x vs ih =>
    intro L h
    refine ih _ ?_
    by_cases hx : x ∈ L
    · rw [if_pos hx]; exact h
    · rw [if_neg hx, List.nodup_append]
      exact ⟨h, by simp, fun a ha b hb => by simp at hb; subst hb; exact fun e => hx (e ▸ ha)⟩
theorem addAll_len (vs : List Int) : ∀ L : List Int, (addAll L vs).length ≤ L.length + vs.length := by
  induction vs with
  | nil => exact fun _ => Nat.le_refl _
  | cons x vs ih =>
    intro L
    have := ih (if x ∈ L then L else L ++ [x])
    rw [addAll]
    simp only [List.length_cons]
    by_cases hx : x ∈ L
    · rw [if_pos hx] at this ⊢; omega
    · rw [if_neg hx] at this ⊢; rw [List.length_append] at this; simp only [List.length_cons, List.length_nil] at this; omega
theorem addAll_map (f : Int → Int) (vs : List Int) : ∀ L : List Int, (∀ a b, (a ∈ L ∨ a ∈ vs) → (b ∈ L ∨ b ∈ vs) → f a = f b → a = b) → addAll (L.map f) (vs.map f) = (addAll L vs).map f := by
  induction vs with
  | nil => exact fun _ _ => rfl
  | cons x vs ih =>
    intro L h
    show addAll (if f x ∈ L.map f then L.map f else L.map f ++ [f x]) (vs.map f) = _
    have hm : f x ∈ L.map f ↔ x ∈ L := by
      rw [List.mem_map]
      exact ⟨fun ⟨a, ha, e⟩ => h a x (.inl ha) (.inr (List.mem_cons_self ..)) e ▸ ha, fun hx => ⟨x, hx, rfl⟩⟩
    rw [addAll]
    by_cases hx : x ∈ L
    · rw [if_pos hx, if_pos (hm.2 hx)]
      exact ih L fun a b ha hb => h a b (ha.elim .inl fun h => .inr (List.mem_cons_of_mem _ h)) (hb.elim .inl fun h => .inr (List.mem_cons_of_mem _ h))
    · rw [if_neg hx, if_neg (fun e => hx (hm.1 e))]
      have e : L.map f ++ [f x] = (L ++ [x]).map f := by simp
      rw [e]
      refine ih _ fun a b ha hb => h a b ?_ ?_
      · rcases ha with ha | ha
        · rcases List.mem_append.1 ha with ha | ha
          · exact .inl ha
          · simp at ha; subst ha; exact .inr (List.mem_cons_self ..)
        · exact .inr (List.mem_cons_of_mem _ ha)
      · rcases hb with hb | hb
        · rcases List.mem_append.1 hb with hb | hb
          · exact .inl hb
          · simp at hb; subst hb; exact .inr (List.mem_cons_self ..)
        · exact .inr (List.mem_cons_of_mem _ hb)
theorem posI_mem {L : List Int} {v : Int} (h : v ∈ L) : 0 ≤ posI L v ∧ posI L v < (L.length : Int) := by
  unfold posI
  rw [if_pos h]
  have := List.idxOf_lt_length_of_mem h
  omega
theorem posI_inj {L : List Int} {a b : Int} (ha : a ∈ L) (hb : b ∈ L) (h : posI L a = posI L b) : a = b := by
  unfold posI at h
  rw [if_pos ha, if_pos hb] at h
  have h' : L.idxOf a = L.idxOf b := by omega
  have e1 := List.getElem_idxOf (List.idxOf_lt_length_of_mem ha)
  have e2 := List.getElem_idxOf (List.idxOf_lt_length_of_mem hb)
  rw [← e1, ← e2]
  simp only [h']
theorem posI_map (f : Int → Int) {v : Int} : ∀ L : List Int, v ∈ L → (∀ a ∈ L, f a = f v → a = v) → posI (L.map f) (f v) = posI L v := by
  intro L hv hi
  have key : ∀ L : List Int, (∀ a ∈ L, f a = f v → a = v) → (L.map f).idxOf (f v) = L.idxOf v := by
    intro L
    induction L with
    | nil => exact fun _ => rfl
    | cons x xs ih =>
      intro h
      rw [List.map_cons, List.idxOf_cons, List.idxOf_cons]
      by_cases hx : x = v
      · subst hx; simp
      · have h1 : ¬ f x = f v := fun e => hx (h x (List.mem_cons_self ..) e)
        have e1 : (f x == f v) = false := by simpa using h1
        have e2 : (x == v) = false := by simpa using hx
        rw [e1, e2, ih fun a ha => h a (List.mem_cons_of_mem _ ha)]
  unfold posI
  rw [if_pos hv, if_pos (List.mem_map.2 ⟨v, hv, rfl⟩), key L hi]
theorem posI_at {L : List Int} (hn : L.Nodup) (i : Nat) (h : i < L.length) : posI L L[i] = (i : Int) := by
  unfold posI
  rw [if_pos (List.getElem_mem h)]
  have h1 : L.idxOf L[i] < L.length := List.idxOf_lt_length_of_mem (List.getElem_mem h)
  have h2 := List.getElem_idxOf h1
  have h3 := List.pairwise_iff_getElem.1 hn
  rcases Nat.lt_trichotomy (L.idxOf L[i]) i with h4 | h4 | h4
  · exact absurd h2 (h3 _ _ h1 h h4)
  · omega
  · exact absurd h2.symm (h3 _ _ h h1 h4)

/-! ### one term -/
def one (q : Pay × Fo) : Fo := .node q.1 q.2 .nil
theorem one_inj {a b : Pay × Fo} (h : one a = one b) : a = b := by
  obtain ⟨p, l⟩ := a
  obtain ⟨q, m⟩ := b
  unfold one at h
  simp only [Fo.node.injEq] at h
  exact Prod.ext h.1 h.2.1
theorem one_ren (f : Int → Int) (p : Pay) (l : Fo) : one (rebT (renV f) () p l).2 = mapF f (one (p, l)) := by unfold mapF one; rw [reb_cons]; rfl
theorem one_shift (d : Int) (p : Pay) (l : Fo) : one (rebT (shiftF d) () p l).2 = mapF (fun v => v + d) (one (p, l)) := one_ren _ p l
theorem one_canon (p : Pay) (l : Fo) : one (canonOf p l) = mapF (posI (varsOf p l)) (one (p, l)) := one_ren _ p l
theorem one_occ (p : Pay) (l : Fo) : occT p l = occF (one (p, l)) := by unfold one; rw [occF_cons]; exact (List.append_nil _).symm
theorem one_good {p : Pay} {l : Fo} (h : goodB p l = true) : allB (one (p, l)) = true := by unfold one; rw [allB_cons, h]; rfl
theorem good_one {q : Pay × Fo} (h : allB (one q) = true) : goodB q.1 q.2 = true := by unfold one at h; rw [allB_cons, Bool.and_eq_true] at h; exact h.1
theorem one_size (p : Pay) (l : Fo) : size (one (p, l)) = 1 + size l := rfl
theorem one_vars {p : Pay} {l : Fo} (h : goodB p l = true) : varsOf p l = addAll [] (occF (one (p, l))) := by
  rw [← varsF_occ _ (one_good h) []]
  rfl
theorem valid_parts {p : Pay} {l : Fo} (h : validB p l = true) : 1 + size l ≤ 2000 ∧ goodB p l = true := by
  unfold validB at h; rw [Bool.and_eq_true, decide_eq_true_eq] at h; exact h
theorem valid_mk {p : Pay} {l : Fo} (h1 : 1 + size l ≤ 2000) (h2 : goodB p l = true) : validB p l = true := by
  unfold validB; rw [Bool.and_eq_true, decide_eq_true_eq]; exact ⟨h1, h2⟩
theorem valid_zero : validB zp .nil = true := by decide
/-- A renamed term: valid, of the same size. -/
theorem ren_valid {p : Pay} {l : Fo} {q : Pay × Fo} {f : Int → Int} (h : validB p l = true) (hq : one q = mapF f (one (p, l))) (hb : ∀ v ∈ occF (one (p, l)), 0 ≤ f v ∧ f v ≤ 1099511627776) : validB q.1 q.2 = true := by
  obtain ⟨h1, h2⟩ := valid_parts h
  have hg := one_good h2
  have e1 := size_map f _ hg
  rw [← hq] at e1
  have e2 := good_map f _ hg hb
  rw [← hq] at e2
  refine valid_mk ?_ (good_one e2)
  have e3 : size (one (p, l)) = 1 + size l + 0 := rfl
  have e4 : size (one q) = 1 + size q.2 + 0 := rfl
  omega
theorem ren_size {p : Pay} {l : Fo} {q : Pay × Fo} {f : Int → Int} (h : goodB p l = true) (hq : one q = mapF f (one (p, l))) : size q.2 = size l := by
  have e1 := size_map f _ (one_good h)
  rw [← hq] at e1
  have e3 : size (one (p, l)) = 1 + size l + 0 := rfl
  have e4 : size (one q) = 1 + size q.2 + 0 := rfl
  omega
/-- Other numbers, all different: the variables go along, and the canonical form is the same. -/
theorem ren_canon {p : Pay} {l : Fo} {q : Pay × Fo} {f : Int → Int} (h : goodB p l = true) (hg : goodB q.1 q.2 = true) (hq : one q = mapF f (one (p, l)))
    (hi : ∀ a b, a ∈ occF (one (p, l)) → b ∈ occF (one (p, l)) → f a = f b → a = b) : varsOf q.1 q.2 = (varsOf p l).map f ∧ canonOf q.1 q.2 = canonOf p l := by
  have hT := one_good h
  have hv : varsOf q.1 q.2 = (varsOf p l).map f := by
    rw [one_vars hg, one_vars h]
    show addAll [] (occF (one q)) = _
    rw [hq, occ_map f _ hT]
    refine addAll_map f (occF (one (p, l))) [] fun a b ha hb e => ?_
    simp only [List.not_mem_nil, false_or] at ha hb
    exact hi a b ha hb e
  refine ⟨hv, one_inj ?_⟩
  rw [one_canon, one_canon, hv]
  show mapF _ (one q) = _
  rw [hq, map_map _ _ _ hT]
  refine map_congr _ hT fun v hvo => ?_
  have hm : v ∈ varsOf p l := by rw [one_vars h, mem_addAll]; exact .inr hvo
  refine posI_map f _ hm fun a ha e => ?_
  rw [one_vars h, mem_addAll] at ha
  exact hi a v (ha.resolve_left (by simp)) hvo e
theorem vars_nodup {p : Pay} {l : Fo} (h : goodB p l = true) : (varsOf p l).Nodup := by rw [one_vars h]; exact addAll_nodup _ [] (by simp)
theorem vars_len {p : Pay} {l : Fo} (h : goodB p l = true) : (varsOf p l).length ≤ 1 + size l := by
  rw [one_vars h]
  have h1 := addAll_len (occF (one (p, l))) []
  have h2 := occ_len _ (one_good h)
  rw [one_size] at h2
  simp only [List.length_nil] at h1
  omega
theorem pos_bounds {p : Pay} {l : Fo} (h : validB p l = true) : ∀ v ∈ occF (one (p, l)), 0 ≤ posI (varsOf p l) v ∧ posI (varsOf p l) v ≤ 1099511627776 := by
  obtain ⟨h1, h2⟩ := valid_parts h
  intro v hv
  have hm : v ∈ varsOf p l := by rw [one_vars h2, mem_addAll]; exact .inr hv
  have h3 := posI_mem hm
  have h4 := vars_len h2
  omega
theorem canon_valid {p : Pay} {l : Fo} (h : validB p l = true) : validB (canonOf p l).1 (canonOf p l).2 = true := ren_valid h (one_canon p l) (pos_bounds h)
theorem canon_inj {p : Pay} {l : Fo} (h : goodB p l = true) : ∀ a b, a ∈ occF (one (p, l)) → b ∈ occF (one (p, l)) → posI (varsOf p l) a = posI (varsOf p l) b → a = b := by
  intro a b ha hb e
  refine posI_inj ?_ ?_ e
  · rw [one_vars h, mem_addAll]; exact .inr ha
  · rw [one_vars h, mem_addAll]; exact .inr hb
theorem canon_size {p : Pay} {l : Fo} (h : goodB p l = true) : size (canonOf p l).2 = size l := ren_size h (one_canon p l)
theorem canon_canon {p : Pay} {l : Fo} (h : validB p l = true) : canonOf (canonOf p l).1 (canonOf p l).2 = canonOf p l :=
  (ren_canon (valid_parts h).2 (valid_parts (canon_valid h)).2 (one_canon p l) (canon_inj (valid_parts h).2)).2
theorem canon_vars {p : Pay} {l : Fo} (h : validB p l = true) : varsOf (canonOf p l).1 (canonOf p l).2 = (varsOf p l).map (posI (varsOf p l)) :=
  (ren_canon (valid_parts h).2 (valid_parts (canon_valid h)).2 (one_canon p l) (canon_inj (valid_parts h).2)).1
theorem canon_vars_len {p : Pay} {l : Fo} (h : validB p l = true) : (varsOf (canonOf p l).1 (canonOf p l).2).length = (varsOf p l).length := by rw [canon_vars h, List.length_map]
theorem canon_vars_at {p : Pay} {l : Fo} (h : validB p l = true) (i : Nat) (z : Int) (hz : (varsOf (canonOf p l).1 (canonOf p l).2)[i]? = some z) : z = (i : Int) := by
  rw [canon_vars h, List.getElem?_map] at hz
  obtain ⟨v, hv, rfl⟩ := Option.map_eq_some_iff.1 hz
  obtain ⟨hi, rfl⟩ := List.getElem?_eq_some_iff.1 hv
  exact posI_at (vars_nodup (valid_parts h).2) i hi
/-- What Rename returns. -/
theorem rename_cases (p : Pay) (l : Fo) (d : Int) : ((renameOf p l d).1 = (zp, .nil) ∧ ((renameOf p l d).2 = 1 ∨ (renameOf p l d).2 = 2)) ∨ (validB p l = true ∧ (0 ≤ d ∧ d ≤ 1099511627776) ∧ overB d (occT p l) = false ∧ (renameOf p l d).1 = (rebT (shiftF d) () p l).2 ∧ (renameOf p l d).2 = 0) := by
  unfold renameOf
  by_cases h : validB p l = true ∧ 0 ≤ d ∧ d ≤ 1099511627776
  · rw [if_pos h]
    cases ho : overB d (occT p l) with
    | true => exact .inl ⟨rfl, .inr rfl⟩
    | false => exact .inr ⟨h.1, h.2, rfl, rfl, rfl⟩
  · rw [if_neg h]
    exact .inl ⟨rfl, .inl rfl⟩
theorem shift_bounds {p : Pay} {l : Fo} {d : Int} (h : validB p l = true) (hd : 0 ≤ d ∧ d ≤ 1099511627776) (ho : overB d (occT p l) = false) : ∀ v ∈ occF (one (p, l)), 0 ≤ v + d ∧ v + d ≤ 1099511627776 := by
  intro v hv
  have h1 := occ_bound _ (one_good (valid_parts h).2) v hv
  rw [one_occ] at ho
  unfold overB at ho
  rw [List.any_eq_false] at ho
  have h2 := ho v hv
  simp only [decide_eq_true_eq] at h2
  omega
theorem rename_valid (p : Pay) (l : Fo) (d : Int) : validB (renameOf p l d).1.1 (renameOf p l d).1.2 = true := by
  rcases rename_cases p l d with ⟨e, _⟩ | ⟨h, hd, ho, e, _⟩
  · rw [e]; exact valid_zero
  · rw [e]; exact ren_valid h (one_shift d p l) (shift_bounds h hd ho)
theorem rename_ok {p : Pay} {l : Fo} {d : Int} (h : (renameOf p l d).2 = 0) : validB p l = true ∧ canonOf (renameOf p l d).1.1 (renameOf p l d).1.2 = canonOf p l := by
  rcases rename_cases p l d with ⟨_, e | e⟩ | ⟨hv, hd, ho, e, _⟩
  · rw [e] at h; exact absurd h (by decide)
  · rw [e] at h; exact absurd h (by decide)
  · refine ⟨hv, ?_⟩
    rw [e]
    exact (ren_canon (valid_parts hv).2 (valid_parts (ren_valid hv (one_shift d p l) (shift_bounds hv hd ho))).2 (one_shift d p l) fun a b _ _ e => by omega).2
/-- What Replace returns is valid. -/
theorem replace_valid (p : Pay) (l : Fo) (x : Int) (pb : Pay) (lb : Fo) : validB (replaceOf p l x pb lb).1.1 (replaceOf p l x pb lb).1.2 = true := by
  unfold replaceOf
  split
  · rename_i h
    split
    · rename_i h2
      exact valid_mk h2 (goodT_put x pb lb (valid_parts h.2.2).2 p l (valid_parts h.1).2)
    · exact valid_zero
  · exact valid_zero
theorem same_self {p : Pay} {l : Fo} (h : validB p l = true) : (validB p l && sameT p l p l) = true := by rw [h, sameT_refl]; rfl
theorem same_of {p q : Pay} {l m : Fo} (h : validB p l = true) (e : (p, l) = (q, m)) : (validB p l && sameT p l q m) = true := by cases e; exact same_self h
theorem variant_of {p q : Pay} {l m : Fo} (h : validB p l = true) (h' : validB q m = true) (e : canonOf p l = canonOf q m) : variantB p l q m = true := by
  unfold variantB
  rw [h, h', e, sameT_refl]; rfl
end Tm
end Go.Proofs.Ytmljkhofahgelaa
