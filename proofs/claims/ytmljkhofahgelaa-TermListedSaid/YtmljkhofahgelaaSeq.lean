/-
  A REGION IN THE ORDER OF THE TEXT, by what each operation leaves in its slot; a new variable that is written at once counts as one step.
-/
import Derived.Test.YtmljkhofahgelaaClasses
namespace Go.Proofs.Ytmljkhofahgelaa
set_option linter.unusedVariables false
set_option linter.unusedSimpArgs false
open Go.RowKit

section
variable {ops : Array Oper} {Q : Exit → Act → World → Prop} {E : Nat → Kd} {D : Nat → Nat} {base : Nat → Option Kd} {N : Nat}

/-- The state behind the first i operations. -/
structure Sq (E : Nat → Kd) (D : Nat → Nat) (base : Nat → Option Kd) (N : Nat) (w0 : World) (i : Nat) (a : Act) (w : World) : Prop where
  size : a.tmps.size = N
  defers : a.defers = []
  world : Below w0.heap.size w0 w
  base : ∀ t k, base t = some k → k.R (a.tmps.getD t undef) w
  done : ∀ j, j < i → (E j).R (a.tmps.getD (D j) undef) w
/-- An operation waits for none behind it, is unguarded, and has its own slot. -/
def goodSeq (D : Nat → Nat) (base : Nat → Option Kd) (N i : Nat) (o : Oper) : Bool :=
  o.guard.isNone && (o.dst == some (D i)) && decide (D i < N) && (base (D i)).isNone && ((List.range i).all fun j => D j != D i)
theorem goodSeq_spec {i : Nat} {o : Oper} (h : goodSeq D base N i o = true) : o.guard = none ∧ o.dst = some (D i) ∧ D i < N ∧ base (D i) = none ∧ ∀ j, j < i → D j ≠ D i := by
  unfold goodSeq at h
  simp only [Bool.and_eq_true, decide_eq_true_eq, beq_iff_eq, Option.isNone_iff_eq_none] at h
  obtain ⟨⟨⟨⟨h2, h3⟩, h4⟩, h5⟩, h6⟩ := h
  refine ⟨h2, h3, h4, h5, fun j hj => ?_⟩
  · have := List.all_eq_true.1 h6 j (List.mem_range.2 hj)
    simpa using this
theorem wanted_free {o : Oper} (h : o.guard = none) (y : Nat → Option Bool) : Region.wanted o y = true := by
  unfold Region.wanted
  rw [h]
theorem put_self {a : Act} {t : Nat} {v : Value} (h : t < a.tmps.size) : (a.put (some t) v).tmps.getD t undef = v := by
  show (a.tmps.setIfInBounds t v).getD t undef = _
  simp [h]
theorem put_other {a : Act} {t s : Nat} {v : Value} (h : s ≠ t) : (a.put (some t) v).tmps.getD s undef = a.tmps.getD s undef := by
  show (a.tmps.setIfInBounds t v).getD s undef = _
  simp [Array.getElem?_setIfInBounds_ne (Ne.symm h)]
theorem put_size {a : Act} {t : Option Nat} {v : Value} : (a.put t v).tmps.size = a.tmps.size := by
  cases t with
  | none => rfl
  | some t => show (a.tmps.setIfInBounds t v).size = _; simp
theorem Sq.put {w0 w w' : World} {i : Nat} {a : Act} {v : Value} (st : Sq E D base N w0 i a w) (hD : D i < N) (hb0 : base (D i) = none) (hne : ∀ j, j < i → D j ≠ D i) (hv : (E i).R v w') (hb : Below w.heap.size w w') : Sq E D base N w0 (i + 1) (a.put (some (D i)) v) w' := by
  refine ⟨put_size.trans st.size, st.defers, st.world.trans (hb.mono st.world.size), fun t k hk => ?_, fun j hj => ?_⟩
  · rw [put_other (fun e => by subst e; rw [hk] at hb0; cases hb0)]
    exact Kd.keep (st.base t k hk) hb
  · by_cases hji : j = i
    · subst hji
      rw [put_self (by rw [st.size]; exact hD)]
      exact hv
    · rw [put_other (hne j (by omega))]
      exact Kd.keep (st.done j (by omega)) hb
theorem seq_one {w0 w : World} {i : Nat} {rest : List Nat} {a : Act} (hs : Step Try.prog ops Q E D base N i) (hg : (ops[i]?).map (goodSeq D base N i) = some true) (st : Sq E D base N w0 i a w)
    (h : ∀ a' w', Sq E D base N w0 (i + 1) a' w' → wpOps Try.prog ops Q rest a' w') : wpOps Try.prog ops Q (i :: rest) a w := by
  cases ho : ops[i]? with
  | none => rw [ho] at hg; cases hg
  | some o =>
    rw [ho] at hg
    obtain ⟨h2, h3, h4, h5, h6⟩ := goodSeq_spec (Option.some.inj hg)
    simp only [wpOps, ho, wanted_free h2, if_true]
    refine .inl (hs o ho a w ⟨st.size, st.base, fun j o' ho' hji _ => st.done j hji⟩ _ fun v w' hv hb => ?_)
    · rw [h3]
      exact h _ _ (st.put h4 h5 h6 hv hb)
theorem Sq.skip {w0 w : World} {i : Nat} {a : Act} (st : Sq E D base N w0 i a w) (hE : E i = .any) : Sq E D base N w0 (i + 1) a w :=
  ⟨st.size, st.defers, st.world, st.base, fun j hj => by
    by_cases hji : j = i
    · subst hji; rw [hE]; trivial
    · exact st.done j (by omega)⟩
/-- What the store of a term into a new variable does. -/
theorem box_store (w : World) (p : Pay) (A : Option Addr) (n c : Nat) :
    (Instr.storeAt 24 (.pointer (some ⟨w.heap.size, 0, none⟩)) (tv p A n c)).run Try.prog (w.alloc (.cells #[.int .i64 0, .int .i64 0, .string ⟨#[]⟩, .slice none 0 0] 24)) = .ok () (w.alloc (.cells #[.int .i64 p.1, .int .i64 p.2.1, .string p.2.2, .slice A n c] 24)) := by
  go_simp
theorem box_alloc (w : World) : (Instr.alloc 24 true (.tuple #[])).run Try.prog w = .ok (.pointer (some ⟨w.heap.size, 0, none⟩)) (w.alloc (.cells #[.int .i64 0, .int .i64 0, .string ⟨#[]⟩, .slice none 0 0] 24)) := by
  go_simp
theorem box_R (w : World) (p : Pay) (l : Fo) (A : Option Addr) (c : Nat) (ha : ArgsB w w.heap.size A (Tm.len l) l) : (Kd.ptrT p l).R (.pointer (some ⟨w.heap.size, 0, none⟩)) (w.alloc (.cells #[.int .i64 p.1, .int .i64 p.2.1, .string p.2.2, .slice A (Tm.len l) c] 24)) := by
  have ht := TermAt.new w p A (Tm.len l) c 24
  refine ⟨w.heap.size, 0, A, c, rfl, by rw [World.size_alloc]; omega, ⟨ht.kind, ht.num, ht.name, ht.args, ?_⟩⟩
  exact (ha.keep fun b (hb : b < w.heap.size) => Below.heap_alloc w _ b hb).mono fun b (hb : b < w.heap.size) => (by show b < _; rw [World.size_alloc]; omega)
theorem wp_alloc_op {a : Act} {w : World} {dst : Option Tmp} {ty : TypeId} {pos : String} {after : Array Edge} {guard : Option (Nat × Bool)} {K : Act → World → Prop} (h : K (a.put dst (.pointer (some ⟨w.heap.size, 0, none⟩))) (w.alloc (.cells #[.int .i64 0, .int .i64 0, .string ⟨#[]⟩, .slice none 0 0] 24))) :
    Oper.wp Try.prog ⟨dst, .alloc 24, ty, pos, after, guard⟩ a w K Q := by
  have hrun : (execOp a.eval ⟨dst, .alloc 24, ty, pos, after, guard⟩).run Try.prog w = .ok (.value (.pointer (some ⟨w.heap.size, 0, none⟩))) (w.alloc (.cells #[.int .i64 0, .int .i64 0, .string ⟨#[]⟩, .slice none 0 0] 24)) := by
    unfold execOp
    go_simp
  unfold Oper.wp
  rw [hrun]
  exact h
theorem wp_assign_op {a : Act} {w : World} {x : Operand} {dst : Option Tmp} {ty : TypeId} {pos : String} {after : Array Edge} {guard : Option (Nat × Bool)} {K : Act → World → Prop} (h : K (a.put dst (a.eval x)) w) :
    Oper.wp Try.prog ⟨dst, .assign x, ty, pos, after, guard⟩ a w K Q := h
theorem wp_store_op {a : Act} {w : World} {x y : Operand} {ty : TypeId} {pos : String} {after : Array Edge} {guard : Option (Nat × Bool)} {K : Act → World → Prop} (p : Pay) (A : Option Addr) (n c : Nat) (hx : a.eval x = .pointer (some ⟨w.heap.size, 0, none⟩)) (hy : a.eval y = tv p A n c)
    (h : K a (w.alloc (.cells #[.int .i64 p.1, .int .i64 p.2.1, .string p.2.2, .slice A n c] 24))) :
    Oper.wp Try.prog ⟨none, .store 24 x y, ty, pos, after, guard⟩ a (w.alloc (.cells #[.int .i64 0, .int .i64 0, .string ⟨#[]⟩, .slice none 0 0] 24)) K Q := by
  have hrun : (execOp a.eval ⟨none, .store 24 x y, ty, pos, after, guard⟩).run Try.prog (w.alloc (.cells #[.int .i64 0, .int .i64 0, .string ⟨#[]⟩, .slice none 0 0] 24)) = .ok .skip (w.alloc (.cells #[.int .i64 p.1, .int .i64 p.2.1, .string p.2.2, .slice A n c] 24)) := by
    unfold execOp
    simp only [hx, hy]
    go_simp
  unfold Oper.wp
  rw [hrun]
  exact h
/-- A new variable, written at once. -/
theorem seq_box {w0 w : World} {i j : Nat} {rest : List Nat} {a : Act} {p : Pay} {l : Fo} (hop : (ops[i]?).map (·.op) = some (.alloc 24)) (hg : (ops[i]?).map (goodSeq D base N i) = some true)
    (hst : (ops[i + 1]?).map (fun o => (o.op, o.dst, o.guard)) = some (.store 24 (.tmp (D i)) (.tmp (D j)), none, none)) (hj : j < i) (hEj : E j = .term p l) (hEi : E i = .ptrT p l) (hEs : E (i + 1) = .any) (st : Sq E D base N w0 i a w)
    (h : ∀ a' w', Sq E D base N w0 (i + 1 + 1) a' w' → wpOps Try.prog ops Q rest a' w') : wpOps Try.prog ops Q (i :: (i + 1) :: rest) a w := by
  cases ho : ops[i]? with
  | none => rw [ho] at hg; cases hg
  | some o =>
  cases ho2 : ops[i + 1]? with
  | none => rw [ho2] at hst; cases hst
  | some o2 =>
    have hx := op_of ho hop
    rw [ho] at hg
    obtain ⟨h2, h3, h4, h5, h6⟩ := goodSeq_spec (Option.some.inj hg)
    rw [ho2] at hst
    have hst := Option.some.inj hst
    obtain ⟨dst, op, ty, pos, after, guard⟩ := o
    obtain ⟨dst2, op2, ty2, pos2, after2, guard2⟩ := o2
    simp only [Prod.mk.injEq] at hst
    obtain ⟨e1, e2, e3⟩ := hst
    have hx' : op = _ := hx
    have h3' : dst = some (D i) := h3
    have h2' : guard = none := h2
    subst hx' e1 e2 e3 h3' h2'
    have hv := st.done j hj
    rw [hEj] at hv
    obtain ⟨A, c, e, ha⟩ := hv
    have hDi : D i < a.tmps.size := by rw [st.size]; exact h4
    simp only [wpOps, ho, wanted_free (o := ⟨some (D i), _, ty, pos, after, none⟩) rfl, if_true]
    refine .inl (wp_alloc_op ?_)
    simp only [wpOps, ho2, wanted_free (o := ⟨none, _, ty2, pos2, after2, none⟩) rfl, if_true]
    have ev1 : (a.put (some (D i)) (.pointer (some ⟨w.heap.size, 0, none⟩))).eval (.tmp (D i)) = .pointer (some ⟨w.heap.size, 0, none⟩) := put_self hDi
    have ev2 : (a.put (some (D i)) (.pointer (some ⟨w.heap.size, 0, none⟩))).eval (.tmp (D j)) = tv p A (Tm.len l) c := (put_other (h6 j hj)).trans e
    refine .inl (wp_store_op p A (Tm.len l) c ev1 ev2 ?_)
    have hb : Below w.heap.size w (w.alloc (.cells #[.int .i64 p.1, .int .i64 p.2.1, .string p.2.2, .slice A (Tm.len l) c] 24)) := (Below.refl _ _).alloc (Nat.le_refl _) _
    exact h _ _ ((st.put h4 h5 h6 (by rw [hEi]; exact box_R w p l A c ha) hb).skip hEs)
/-- A new variable, written behind an assignment. -/
theorem seq_box3 {w0 w : World} {i j m : Nat} {rest : List Nat} {a : Act} {p : Pay} {l : Fo} (hop : (ops[i]?).map (·.op) = some (.alloc 24)) (hg : (ops[i]?).map (goodSeq D base N i) = some true)
    (hop2 : (ops[i + 1]?).map (·.op) = some (.assign (.tmp (D m)))) (hg2 : (ops[i + 1]?).map (goodSeq D base N (i + 1)) = some true) (hm : m < i) (hEm : E (i + 1) = E m)
    (hst : (ops[i + 2]?).map (fun o => (o.op, o.dst, o.guard)) = some (.store 24 (.tmp (D i)) (.tmp (D j)), none, none)) (hj : j < i) (hEj : E j = .term p l) (hEi : E i = .ptrT p l) (hEs : E (i + 2) = .any) (st : Sq E D base N w0 i a w)
    (h : ∀ a' w', Sq E D base N w0 (i + 2 + 1) a' w' → wpOps Try.prog ops Q rest a' w') : wpOps Try.prog ops Q (i :: (i + 1) :: (i + 2) :: rest) a w := by
  cases ho : ops[i]? with
  | none => rw [ho] at hg; cases hg
  | some o =>
  cases hoa : ops[i + 1]? with
  | none => rw [hoa] at hg2; cases hg2
  | some oa =>
  cases ho2 : ops[i + 2]? with
  | none => rw [ho2] at hst; cases hst
  | some o2 =>
    have hx := op_of ho hop
    have hxa := op_of hoa hop2
    rw [ho] at hg
    rw [hoa] at hg2
    obtain ⟨h2, h3, h4, h5, h6⟩ := goodSeq_spec (Option.some.inj hg)
    obtain ⟨g2, g3, g4, g5, g6⟩ := goodSeq_spec (Option.some.inj hg2)
    rw [ho2] at hst
    have hst := Option.some.inj hst
    obtain ⟨dst, op, ty, pos, after, guard⟩ := o
    obtain ⟨dsta, opa, tya, posa, aftera, guarda⟩ := oa
    obtain ⟨dst2, op2, ty2, pos2, after2, guard2⟩ := o2
    simp only [Prod.mk.injEq] at hst
    obtain ⟨e1, e2, e3⟩ := hst
    have hx' : op = _ := hx
    have h3' : dst = some (D i) := h3
    have h2' : guard = none := h2
    have hxa' : opa = _ := hxa
    have g3' : dsta = some (D (i + 1)) := g3
    have g2' : guarda = none := g2
    subst hx' e1 e2 e3 h3' h2' hxa' g3' g2'
    have hv := st.done j hj
    rw [hEj] at hv
    obtain ⟨A, c, e, ha⟩ := hv
    have hDi : D i < a.tmps.size := by rw [st.size]; exact h4
    simp only [wpOps, ho, wanted_free (o := ⟨some (D i), _, ty, pos, after, none⟩) rfl, if_true]
    refine .inl (wp_alloc_op ?_)
    simp only [wpOps, hoa, wanted_free (o := ⟨some (D (i + 1)), _, tya, posa, aftera, none⟩) rfl, if_true]
    refine .inl (wp_assign_op ?_)
    have evm : (a.put (some (D i)) (.pointer (some ⟨w.heap.size, 0, none⟩))).eval (.tmp (D m)) = a.tmps.getD (D m) undef := put_other (h6 m hm)
    rw [evm]
    simp only [wpOps, ho2, wanted_free (o := ⟨none, _, ty2, pos2, after2, none⟩) rfl, if_true]
    have ev1 : ((a.put (some (D i)) (.pointer (some ⟨w.heap.size, 0, none⟩))).put (some (D (i + 1))) (a.tmps.getD (D m) undef)).eval (.tmp (D i)) = .pointer (some ⟨w.heap.size, 0, none⟩) := (put_other (g6 i (by omega))).trans (put_self hDi)
    have ev2 : ((a.put (some (D i)) (.pointer (some ⟨w.heap.size, 0, none⟩))).put (some (D (i + 1))) (a.tmps.getD (D m) undef)).eval (.tmp (D j)) = tv p A (Tm.len l) c := (put_other (g6 j (by omega))).trans ((put_other (h6 j hj)).trans e)
    refine .inl (wp_store_op p A (Tm.len l) c ev1 ev2 ?_)
    have hb : Below w.heap.size w (w.alloc (.cells #[.int .i64 p.1, .int .i64 p.2.1, .string p.2.2, .slice A (Tm.len l) c] 24)) := (Below.refl _ _).alloc (Nat.le_refl _) _
    have s1 := st.put h4 h5 h6 (by rw [hEi]; exact box_R w p l A c ha) hb
    have s2 := s1.put (v := a.tmps.getD (D m) undef) g4 g5 g6 (by rw [hEm]; exact Kd.keep (st.done m hm) hb) (Below.refl _ _)
    exact h _ _ (s2.skip hEs)
theorem region_seq {id : Nat} {w0 w : World} {a : Act} (n : Nat) (hn : ops.size = n) (h : wpOps Try.prog ops Q (List.range n) a w) : (Code.region id ops false).wp Try.prog Q a w := by
  subst hn
  exact wp_region h
end
end Go.Proofs.Ytmljkhofahgelaa
