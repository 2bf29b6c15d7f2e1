/-
  Plain mathematics of BallsLists: a list of a row and a tail, its elements, what List returns of it.
-/
import Derived.Test.YtapcnehpechkpaaRList3
import Derived.Test.YtapcnehpechkpaaRows6
import Derived.Test.YtapcnehpechkpaaIndM
namespace Go.Proofs.Ytapcnehpechkpaa
set_option linter.unusedVariables false
set_option linter.unusedSimpArgs false
set_option maxRecDepth 100000
open Go.RowKit
namespace Bl
def consL : Fo → Pay → Fo → Pay × Fo
  | .nil, p, l => (p, l)
  | .node q m r, p, l => ((3, 0, ⟨#[46]⟩), .node q m (.node (consL r p l).1 (consL r p l).2 .nil))
theorem lastT_tail (q : Pay) (m r : Fo) (p : Pay) (l : Fo) : ∀ j, j ≤ Tm.len r → lastT (.node q m r) p l j = lastT r p l j
  | 0, _ => rfl
  | j + 1, h => by
    show consT (Tm.dropF (.node q m r) (Tm.len r + 1 - (j + 1))) (lastT (.node q m r) p l j) = consT (Tm.dropF r (Tm.len r - (j + 1))) (lastT r p l j)
    rw [lastT_tail q m r p l j (by omega), show Tm.len r + 1 - (j + 1) = (Tm.len r - (j + 1)) + 1 by omega]
    rfl
theorem lastT_all : ∀ (F : Fo) (p : Pay) (l : Fo), lastT F p l (Tm.len F) = consL F p l
  | .nil, p, l => rfl
  | .node q m r, p, l => by
    show consT (Tm.dropF (.node q m r) (Tm.len r + 1 - (Tm.len r + 1))) (lastT (.node q m r) p l (Tm.len r)) = _
    rw [lastT_tail q m r p l (Tm.len r) (Nat.le_refl _), lastT_all r p l, Nat.sub_self]
    rfl
theorem elems_consL : ∀ (F : Fo) (p : Pay) (l : Fo), Tm.elemsOf (consL F p l).1 (consL F p l).2 = (Tm.app F (Tm.elemsOf p l).1, (Tm.elemsOf p l).2)
  | .nil, p, l => rfl
  | .node q m r, p, l => by
    show Tm.elemsOf (3, 0, ⟨#[46]⟩) (.node q m (.node (consL r p l).1 (consL r p l).2 .nil)) = _
    rw [Tm.elemsOf_cons q m _ _ rfl rfl, elems_consL r p l]
    rfl
theorem consL_valid : ∀ (F : Fo) (p : Pay) (l : Fo), Tm.validB (consL F p l).1 (consL F p l).2 = true → Tm.validB p l = true ∧ Tm.allV F = true
  | .nil, p, l, h => ⟨h, rfl⟩
  | .node q m r, p, l, h => by
    have h : Tm.validB (3, 0, ⟨#[46]⟩) (.node q m (.node (consL r p l).1 (consL r p l).2 .nil)) = true := h
    have h0 : Tm.validB q m = true := valid_arg0 h rfl
    have h1 : Tm.validB (consL r p l).1 (consL r p l).2 = true := valid_arg1 h rfl
    obtain ⟨i1, i2⟩ := consL_valid r p l h1
    refine ⟨i1, ?_⟩
    show (Tm.validB q m && Tm.allV r) = true
    rw [h0, i2]
    rfl
/-- The list that is looked at further. -/
theorem mk_good {F : Fo} {p : Pay} {l : Fo} (h0 : ¬ ((Tm.len F : Nat) : Int) = 0) (h2 : ((Tm.len (mkList F p l).2 : Nat) : Int) = 2) : mkList F p l = consL F p l ∧ Tm.validB (consL F p l).1 (consL F p l).2 = true ∧ Tm.len F ≤ 2000 := by
  unfold mkList at h2 ⊢
  split at h2
  · exact absurd h2 (by decide)
  · rename_i hb
    rw [if_neg hb]
    rw [lastT_all] at h2 ⊢
    unfold Tm.cloneOf at h2 ⊢
    split at h2
    · rename_i hv
      rw [if_pos hv]
      exact ⟨rfl, hv, by omega⟩
    · exact absurd h2 (by decide)
theorem listOf_var {q : Fo × Pay × Fo} (p : Pay) (l : Fo) (h : q.2.1.1 = 0) : listOf q p l = (.nil, inst, false) := if_pos h
theorem listOf_end {q : Fo × Pay × Fo} (p : Pay) (l : Fo) (h : q.2.1.1 = 2) (h' : q.2.1.2.2 = ⟨#[91, 93]⟩) : listOf q p l = (q.1, (zp, .nil), true) := by
  unfold listOf
  rw [if_neg (by rw [h]; decide), if_pos ⟨h, h'⟩]
theorem listOf_bad {q : Fo × Pay × Fo} (p : Pay) (l : Fo) (h : ¬ q.2.1.1 = 0) (h' : ¬ (q.2.1.1 = 2 ∧ q.2.1.2.2 = ⟨#[91, 93]⟩)) : listOf q p l = (.nil, ty ⟨#[108, 105, 115, 116]⟩ p l, false) := by
  unfold listOf
  rw [if_neg h, if_neg h']
section
variable {F : Fo} {p : Pay} {l : Fo} (hv : Tm.validB (consL F p l).1 (consL F p l).2 = true)
include hv
theorem list_consL : list (consL F p l).1 (consL F p l).2 = listOf (Tm.app F (Tm.elemsOf p l).1, (Tm.elemsOf p l).2) (consL F p l).1 (consL F p l).2 := by
  unfold list
  rw [if_pos hv, elems_consL]
theorem list_var (h : p.1 = 0) : list (consL F p l).1 (consL F p l).2 = (.nil, inst, false) := by
  rw [list_consL hv]
  refine listOf_var _ _ ?_
  rw [Tm.elemsOf_end (by rw [h]; rintro ⟨h, _⟩; exact absurd h (by decide))]
  exact h
theorem list_nil (h : p = Tm.emptyA) (h' : l = .nil) : list (consL F p l).1 (consL F p l).2 = (F, (zp, .nil), true) := by
  subst h h'
  rw [list_consL hv, show Tm.elemsOf Tm.emptyA .nil = (.nil, Tm.emptyA, .nil) from rfl, Tm.app_nil]
  exact listOf_end _ _ rfl rfl
theorem list_other (h1 : ¬ p.1 = 0) (h2 : ¬ (p = Tm.emptyA ∧ l = .nil)) (h3 : ¬ (p.1 = 3 ∧ p.2.2 = ⟨#[46]⟩ ∧ Tm.len l = 2)) : list (consL F p l).1 (consL F p l).2 = (.nil, ty ⟨#[108, 105, 115, 116]⟩ (consL F p l).1 (consL F p l).2, false) := by
  rw [list_consL hv, Tm.elemsOf_end h3]
  refine listOf_bad _ _ h1 ?_
  rintro ⟨ha, hb⟩
  have ha : p.1 = 2 := ha
  have hb : p.2.2 = ⟨#[91, 93]⟩ := hb
  refine h2 ?_
  have hp := (consL_valid F p l hv).1
  unfold Tm.validB Tm.goodB Tm.nodeB at hp
  rw [if_neg (by rw [ha]; decide), if_neg (by rw [ha]; decide), if_pos ha] at hp
  simp only [Bool.and_eq_true, decide_eq_true_eq] at hp
  refine ⟨?_, Tm.len_zero hp.2.1.2⟩
  obtain ⟨k, n, m⟩ := p
  have e1 := hp.2.1.1.1
  simp only at ha hb e1
  rw [ha, hb, e1]
  rfl
/-- A tail that is a list's cell itself. -/
theorem list_more : (list p l = (.nil, inst, false) ∧ list (consL F p l).1 (consL F p l).2 = (.nil, inst, false)) ∨ (list p l = (.nil, ty ⟨#[108, 105, 115, 116]⟩ p l, false) ∧ list (consL F p l).1 (consL F p l).2 = (.nil, ty ⟨#[108, 105, 115, 116]⟩ (consL F p l).1 (consL F p l).2, false)) ∨
    (list p l = ((Tm.elemsOf p l).1, (zp, .nil), true) ∧ list (consL F p l).1 (consL F p l).2 = (Tm.app F (Tm.elemsOf p l).1, (zp, .nil), true)) := by
  have hp := (consL_valid F p l hv).1
  have e0 : list p l = listOf (Tm.elemsOf p l) p l := by unfold list; rw [if_pos hp]
  rw [list_consL hv, e0]
  by_cases h1 : (Tm.elemsOf p l).2.1.1 = 0
  · exact .inl ⟨listOf_var p l h1, listOf_var _ _ h1⟩
  · by_cases h2 : (Tm.elemsOf p l).2.1.1 = 2 ∧ (Tm.elemsOf p l).2.1.2.2 = ⟨#[91, 93]⟩
    · exact .inr (.inr ⟨listOf_end p l h2.1 h2.2, listOf_end _ _ h2.1 h2.2⟩)
    · exact .inr (.inl ⟨listOf_bad p l h1 h2, listOf_bad _ _ h1 h2⟩)
end
abbrev tyF (k : ByteArray) (p : Pay) (l : Fo) : Fo := .node (2, 0, k) .nil (.node p l .nil)
abbrev errT (F : Fo) : Fo := .node (3, 0, tyN) F (.node Tm.emptyA .nil .nil)
/-- A type error of a valid culprit, which is '...' where the whole would be too large. -/
theorem ty_small {k : ByteArray} {p : Pay} {l : Fo} (hk : Tm.validB (2, 0, k) .nil = true) (hv : Tm.validB p l = true) (hs : ¬ 2000 < 1 + Tm.size l + 4) : ty k p l = ((3, 0, Tm.errName), errT (tyF k p l)) := by
  refine err_small (by decide) ⟨by simp [at1, Tm.len], by simp [at1, Tm.len]⟩ ?_ (by simp only [at1, Tm.size]; omega)
  simp only [at1, Tm.allV, hk, hv]
  rfl
theorem ty_big {k : ByteArray} {p : Pay} {l : Fo} (hk : Tm.validB (2, 0, k) .nil = true) (hv : Tm.validB p l = true) (hs : 2000 < 1 + Tm.size l + 4) : ty k p l = ((3, 0, Tm.errName), errT (tyF k Tm.dots .nil)) := by
  have hd : Tm.validB Tm.dots .nil = true := by kernel_rfl
  have e : ty k p l = ty k Tm.dots .nil := by
    unfold ty Tm.errOf
    have a1 : Tm.allV (at1 k (.node p l .nil)) = true := by simp only [at1, Tm.allV, hk, hv]; rfl
    have a2 : Tm.allV (at1 k (.node Tm.dots .nil .nil)) = true := by simp only [at1, Tm.allV, hk, hd]; rfl
    rw [if_pos a1, if_pos a2]
    have c1 : Tm.cutF (at1 k (.node p l .nil)) = at1 k (.node Tm.dots .nil .nil) := by
      unfold Tm.cutF
      rw [if_pos (by simp only [at1, Tm.size]; omega)]
      rfl
    have c2 : Tm.cutF (at1 k (.node Tm.dots .nil .nil)) = at1 k (.node Tm.dots .nil .nil) := by
      unfold Tm.cutF
      rw [if_neg (by simp only [at1, Tm.size]; omega)]
    rw [c1, c2]
  rw [e]
  exact ty_small hk hd (by simp only [Tm.size]; omega)
theorem ty_not_inst {k : ByteArray} {p : Pay} {l : Fo} (hk : Tm.validB (2, 0, k) .nil = true) (hv : Tm.validB p l = true) : ¬ ((ty k p l).1 = (3, 0, Tm.errName) ∧ (ty k p l).2 = .node (2, 0, instN) .nil (.node Tm.emptyA .nil .nil)) := by
  rintro ⟨_, h⟩
  by_cases hs : 2000 < 1 + Tm.size l + 4
  · rw [ty_big hk hv hs] at h
    injection h with h _
    injection h with h _
    exact absurd h (by decide)
  · rw [ty_small hk hv hs] at h
    injection h with h _
    injection h with h _
    exact absurd h (by decide)
theorem len_app (F G : Fo) : Tm.len (Tm.app F G) = Tm.len F + Tm.len G := by
  induction F with
  | nil => simp [Tm.app, Tm.len]
  | node p l r _ ih => simp only [Tm.app, Tm.len, ih]; omega
theorem sizeB_valid {p : Pay} {l : Fo} (h : Tm.validB p l = true) : Tm.sizeB l = 1 + Tm.size l ∧ Tm.sizeB l ≤ 2000 := by
  unfold Tm.validB at h
  rw [Bool.and_eq_true, decide_eq_true_eq] at h
  unfold Tm.sizeB
  omega
theorem listN_valid : Tm.validB (2, 0, ⟨#[108, 105, 115, 116]⟩) .nil = true := by kernel_rfl
end Bl
/-! ### append of two rows -/
section
variable {ops : Array Oper} {Q : Exit → Act → World → Prop} {N : Nat} {env : Env} {w0 w : World} {a : Act}
theorem wpOps_append {i d : Nat} {s x : Operand} {rest : List Nat} (hop : (ops[i]?).map (fun o => (o.op, o.dst, o.guard)) = some (.call { callee := .builtin .append, args := #[s, x], argTypes := #[22, 22] }, some d, none))
    {M : Nat} {A0 : Option Addr} {n c0 : Nat} {F : Fo} (h : OwnR M w A0 n c0 F) (hs : a.eval s = .slice A0 n c0) {A : Option Addr} {m c : Nat} {G : Fo} (hx : a.eval x = .slice A m c)
    (hA : ArgsIn (fun b => b < w.heap.size ∧ (Value.slice A0 n c0).ownBlock ≠ some b) w A m G) (hb : n + m ≤ 100000)
    (hk : ∀ A' c' w', OwnR M w' A' (n + m) c' (Tm.app F G) → Below M w w' → wpOps Try.prog ops Q rest (a.put (some d) (.slice A' (n + m) c')) w') : wpOps Try.prog ops Q (i :: rest) a w := by
  cases ho : ops[i]? with
  | none => rw [ho] at hop; cases hop
  | some o =>
  rw [ho] at hop
  have hop := Option.some.inj hop
  obtain ⟨dst, op, ty, pos, after, guard⟩ := o
  simp only [Prod.mk.injEq] at hop
  obtain ⟨e1, e2, e3⟩ := hop
  subst e1 e2 e3
  obtain ⟨A', c', w', hr, h1, h2, h3⟩ := append_terms h hA hb ty
  simp only [wpOps, ho, wanted_free (o := ⟨some d, .call { callee := .builtin .append, args := #[s, x], argTypes := #[22, 22] }, ty, pos, after, none⟩) rfl, if_true]
  refine .inl ?_
  unfold Oper.wp
  simp [execOp, resolve, invoke, builtin, hs, hx, Result.andThen]
  rw [hr]
  exact hk _ _ _ h1 h2
theorem env_app2 {i1 i2 i3 d1 d2 d3 x y : Nat} {kx ky : Kd} {F G : Fo} {rest : List Nat} (hop1 : (ops[i1]?).map (fun o => (o.op, o.dst, o.guard)) = some (.call { callee := .builtin .append, args := #[.const (.slice none 0 0), .tmp x], argTypes := #[22, 22] }, some d1, none))
    (hop2 : (ops[i2]?).map (fun o => (o.op, o.dst, o.guard)) = some (.move (.tmp y), some d2, none)) (hop3 : (ops[i3]?).map (fun o => (o.op, o.dst, o.guard)) = some (.call { callee := .builtin .append, args := #[.tmp d1, .tmp d2], argTypes := #[22, 22] }, some d3, none))
    (hx : look env x = some kx) (cx : ∀ v w, kx.R v w → (Kd.row F).R v w) (hy : look env y = some ky) (cy : ∀ v w, ky.R v w → (Kd.row G).R v w) (hlen : Tm.len F + Tm.len G ≤ 100000)
    (h1 : d1 < N) (h2 : d2 < N) (h3 : d3 < N) (hne : d1 ≠ d2) (hyd : y ≠ d1) (n1 : look env d1 = none) (n2 : look env d2 = none) (n3 : look env d3 = none) (st : Hold N env w0 a w)
    (h : ∀ a' w', Hold N ((d3, .row (Tm.app F G)) :: env) w0 a' w' → wpOps Try.prog ops Q rest a' w') : wpOps Try.prog ops Q (i1 :: i2 :: i3 :: rest) a w := by
  obtain ⟨A, c, ex, hA⟩ := cx _ _ (st.slots _ _ hx)
  obtain ⟨A', c', ey, hA'⟩ := cy _ _ (st.slots _ _ hy)
  refine wpOps_append (M := w.heap.size) hop1 (OwnR.start (Nat.le_refl _)) rfl ex (hA.mono fun b hb => ⟨hb, by simp [Value.ownBlock]⟩) (by omega) fun B1 k1 w1 o1 b1 => ?_
  cases ho : ops[i2]? with
  | none => rw [ho] at hop2; cases hop2
  | some o =>
  rw [ho] at hop2
  have hop2 := Option.some.inj hop2
  obtain ⟨dst, op, ty, pos, after, guard⟩ := o
  simp only [Prod.mk.injEq] at hop2
  obtain ⟨e1, e2, e3⟩ := hop2
  subst e1 e2 e3
  simp only [wpOps, ho, wanted_free (o := ⟨some d2, .move (.tmp y), ty, pos, after, none⟩) rfl, if_true]
  refine .inl ?_
  have sz1 : (a.put (some d1) (.slice B1 (0 + Tm.len F) k1)).tmps.size = N := put_size.trans st.size
  have ey1 : (a.put (some d1) (.slice B1 (0 + Tm.len F) k1)).eval (.tmp y) = .slice A' (Tm.len G) c' := by
    show (a.put (some d1) _).tmps.getD y undef = _
    rw [put_other (fun e => hyd e)]
    exact ey
  unfold Oper.wp
  rw [show (execOp (a.put (some d1) (.slice B1 (0 + Tm.len F) k1)).eval ⟨some d2, .move (.tmp y), ty, pos, after, none⟩).run Try.prog w1 = .ok (.value ((a.put (some d1) (.slice B1 (0 + Tm.len F) k1)).eval (.tmp y))) w1 from rfl, ey1]
  have own1 : ∀ b, b < w.heap.size → (Value.slice B1 (0 + Tm.len F) k1).ownBlock ≠ some b := fun b hb e => by have := (o1.lt e).1; omega
  refine wpOps_append (M := w.heap.size) (s := .tmp d1) (x := .tmp d2) hop3 o1 ?_ (A := A') (m := Tm.len G) (c := c') ?_ ((hA'.keep fun b hb => b1.block b hb).mono fun b hb => ⟨Nat.lt_of_lt_of_le hb b1.size, own1 b hb⟩) (by omega) fun B2 k2 w2 o2 b2 => ?_
  · show ((a.put (some d1) _).put (some d2) _).tmps.getD d1 undef = _
    rw [put_other hne, put_self (by rw [st.size]; exact h1)]
  · show ((a.put (some d1) _).put (some d2) _).tmps.getD d2 undef = _
    rw [put_self (by rw [sz1]; exact h2)]
  have hb : Below w.heap.size w w2 := b1.trans b2
  replace o2 : OwnR w.heap.size w2 B2 (0 + Tm.len F + Tm.len G) k2 (Tm.app F G) := o2
  refine h _ _ ⟨put_size.trans (put_size.trans sz1), st.defers, st.world.trans (hb.mono st.world.size), fun t k hk => ?_⟩
  rw [look_cons] at hk
  by_cases e : d3 = t
  · subst e
    rw [if_pos (by simp)] at hk
    cases hk
    rw [put_self (by rw [put_size, sz1]; exact h3)]
    refine ⟨B2, k2, ?_, ?_⟩
    · rw [o2.len]
    · rw [o2.len]
      exact o2.args (by omega)
  · rw [if_neg (by simpa using e)] at hk
    rw [put_other (fun e' => e e'.symm), put_other (fun e' => by subst e'; rw [hk] at n2; cases n2), put_other (fun e' => by subst e'; rw [hk] at n1; cases n1)]
    exact Kd.keep (st.slots t k hk) hb
end
end Go.Proofs.Ytapcnehpechkpaa
