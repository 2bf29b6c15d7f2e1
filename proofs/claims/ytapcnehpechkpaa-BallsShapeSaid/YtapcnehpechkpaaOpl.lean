/-
  The operations of a region, one law for each kind.
-/
import Derived.Test.YtapcnehpechkpaaSteps
import Derived.Test.YtapcnehpechkpaaValid
namespace Go.Proofs.Ytapcnehpechkpaa
set_option linter.unusedVariables false
set_option linter.unusedSimpArgs false
set_option maxRecDepth 100000
open Go.RowKit

section
variable {ops : Array Oper} {Q : Exit → Act → World → Prop} {E : Nat → Kd} {D : Nat → Nat} {base : Nat → Option Kd} {N : Nat}

/-- What operation i finds in an operand. -/
def Opd (ops : Array Oper) (E : Nat → Kd) (D : Nat → Nat) (base : Nat → Option Kd) (N i : Nat) (x : Operand) (k : Kd) : Prop := ∀ a w, Ctx ops E D base N i a w → k.R (a.eval x) w
theorem Opd.const {i : Nat} (v : Value) : Opd ops E D base N i (.const v) (.val v) := fun _ _ _ => rfl
theorem Opd.dep {i : Nat} (j : Nat) {t : Nat} {k : Kd} (ht : D j = t) (hk : E j = k) (hj : (ops[i]?).map (fun o => decide (j < i) && o.after.any fun e => e.on == j) = some true) : Opd ops E D base N i (.tmp t) k := by
  intro a w h
  subst ht
  subst hk
  cases ho : ops[i]? with
  | none => rw [ho] at hj; cases hj
  | some o =>
    rw [ho] at hj
    have h2 := Option.some.inj hj
    rw [Bool.and_eq_true, decide_eq_true_eq] at h2
    exact h.deps j o ho h2.1 h2.2
theorem Opd.of_base {i : Nat} (t : Nat) {k : Kd} (hk : base t = some k) : Opd ops E D base N i (.tmp t) k := fun a w h => h.base t k hk
theorem op_of {i : Nat} {o : Oper} {x : Op} (h : ops[i]? = some o) (hop : (ops[i]?).map (·.op) = some x) : o.op = x := by rw [h] at hop; exact Option.some.inj hop
/-- An operation that leaves the world alone. -/
theorem step_still {i : Nat} {x : Op} {k : Kd} (hop : (ops[i]?).map (·.op) = some x) (hE : E i = k)
    (h : ∀ a w, Ctx ops E D base N i a w → ∀ dst ty pos after guard, ∃ v, (execOp a.eval ⟨dst, x, ty, pos, after, guard⟩).run Try.prog w = .ok (.value v) w ∧ k.R v w) : Step Try.prog ops Q E D base N i := by
  intro o ho a w hc K hK
  have hx := op_of ho hop
  obtain ⟨dst, op, ty, pos, after, guard⟩ := o
  have hx' : op = x := hx
  subst hx'
  obtain ⟨v, hr, hv⟩ := h a w hc dst ty pos after guard
  unfold Oper.wp
  rw [hr]
  exact hK v w (hE ▸ hv) (Below.refl _ _)
theorem step_move {i : Nat} {x : Operand} {k : Kd} (hop : (ops[i]?).map (·.op) = some (.move x)) (hx : Opd ops E D base N i x k) (hE : E i = k) : Step Try.prog ops Q E D base N i :=
  step_still hop hE fun a w hc _ _ _ _ _ => ⟨a.eval x, rfl, hx a w hc⟩
theorem step_assign {i : Nat} {x : Operand} {k : Kd} (hop : (ops[i]?).map (·.op) = some (.assign x)) (hx : Opd ops E D base N i x k) (hE : E i = k) : Step Try.prog ops Q E D base N i :=
  step_still hop hE fun a w hc _ _ _ _ _ => ⟨a.eval x, rfl, hx a w hc⟩
theorem step_pick {i : Nat} {c x : Operand} {k : Kd} (hop : (ops[i]?).map (·.op) = some (.pick c x (.const (.bool false)))) (hc : Opd ops E D base N i c (.val (.bool true))) (hx : Opd ops E D base N i x k) (hE : E i = k) : Step Try.prog ops Q E D base N i :=
  step_still hop hE fun a w h dst ty pos after guard => by
    have e : a.eval c = .bool true := hc a w h
    refine ⟨a.eval x, ?_, hx a w h⟩
    show ((do pure (Next.value (if ← asBool (a.eval c) then a.eval x else a.eval (.const (.bool false)))) : Sem Next)).run _ w = _
    rw [e]
    rfl
theorem step_not {i : Nat} {x : Operand} {b : Bool} (hop : (ops[i]?).map (·.op) = some (.unOp .not 4 x)) (hx : Opd ops E D base N i x (.val (.bool b))) (hE : E i = .val (.bool (!b))) : Step Try.prog ops Q E D base N i :=
  step_still hop hE fun a w h dst ty' pos after guard => by
    have e : a.eval x = .bool b := hx a w h
    refine ⟨.bool (!b), ?_, rfl⟩
    unfold execOp
    simp only [e]
    go_simp
theorem step_eq_int {i : Nat} {x y : Operand} {m n : Int} (hop : (ops[i]?).map (·.op) = some (.binOp .eql 3 x y 3)) (hx : Opd ops E D base N i x (.val (.int .i64 m))) (hy : Opd ops E D base N i y (.val (.int .i64 n))) (hE : E i = .val (.bool (m == n))) : Step Try.prog ops Q E D base N i :=
  step_still hop hE fun a w h dst ty' pos after guard => by
    have e : a.eval x = .int .i64 m := hx a w h
    have e' : a.eval y = .int .i64 n := hy a w h
    refine ⟨.bool (m == n), ?_, rfl⟩
    unfold execOp
    simp only [e, e']
    go_simp
theorem step_eq_int64 {i : Nat} {x y : Operand} {m n : Int} (hop : (ops[i]?).map (·.op) = some (.binOp .eql 2 x y 2)) (hx : Opd ops E D base N i x (.val (.int .i64 m))) (hy : Opd ops E D base N i y (.val (.int .i64 n))) (hE : E i = .val (.bool (m == n))) : Step Try.prog ops Q E D base N i :=
  step_still hop hE fun a w h dst ty' pos after guard => by
    have e : a.eval x = .int .i64 m := hx a w h
    have e' : a.eval y = .int .i64 n := hy a w h
    refine ⟨.bool (m == n), ?_, rfl⟩
    unfold execOp
    simp only [e, e']
    go_simp
theorem step_len_row {i : Nat} {x : Operand} {F : Fo} (hop : (ops[i]?).map (·.op) = some (.call { callee := .builtin .len, args := #[x], argTypes := #[22] })) (hx : Opd ops E D base N i x (.row F)) (hE : E i = .val (.int .i64 (Tm.len F))) : Step Try.prog ops Q E D base N i :=
  step_still hop hE fun a w h dst ty' pos after guard => by
    obtain ⟨A, c, e, _⟩ := hx a w h
    refine ⟨.int .i64 (Tm.len F), ?_, rfl⟩
    unfold execOp
    simp only [resolve, List.map_toArray, List.map_cons, List.map_nil, e]
    go_simp
theorem step_load_int {i : Nat} {x : Operand} {n : Int} (hop : (ops[i]?).map (·.op) = some (.load 2 x)) (hx : Opd ops E D base N i x (.ptrI n)) (hE : E i = .val (.int .i64 n)) : Step Try.prog ops Q E D base N i :=
  step_still hop hE fun a w h dst ty' pos after guard => by
    obtain ⟨ad, e, hb, hc⟩ := hx a w h
    refine ⟨.int .i64 n, ?_, rfl⟩
    unfold execOp
    simp only [e]
    go_simp
theorem step_load_term {i : Nat} {x : Operand} {p : Pay} {l : Fo} (hop : (ops[i]?).map (·.op) = some (.load 24 x)) (hx : Opd ops E D base N i x (.ptrT p l)) (hE : E i = .term p l) : Step Try.prog ops Q E D base N i :=
  step_still hop hE fun a w h dst ty' pos after guard => by
    obtain ⟨b, o, A, c, e, hb, hn⟩ := hx a w h
    refine ⟨tv p A (Tm.len l) c, ?_, A, c, rfl, hn.inn⟩
    have h0 := hn.kind
    have h1 := hn.num
    have h2 := hn.name
    have h3 := hn.args
    generalize Tm.len l = n at h3
    unfold execOp
    simp only [e]
    go_simp

theorem row_new (w : World) (vs : List Value) (F : Fo) (n : Nat) (t : TypeId) (hv : Vals (fun b => b < w.heap.size) w vs F) (hn : Tm.len F = n) (h63 : n ≤ 1000) :
    (Kd.row F).R (.slice (some ⟨w.heap.size, 0, none⟩) n n) (w.alloc (.cells (tcells vs).toArray t)) := by
  subst hn
  refine ⟨some ⟨w.heap.size, 0, none⟩, Tm.len F, rfl, ?_⟩
  have hl := Vals.len vs F hv
  have hb := alloc_new w (.cells (tcells vs).toArray t)
  have hv' : Vals (fun b => b < w.heap.size + 1) (w.alloc (.cells (tcells vs).toArray t)) vs F := Vals.mono (fun b h => Nat.lt_succ_of_lt h) vs F (Vals.keep (fun b h => Below.heap_alloc w _ b h) vs F hv)
  have := Vals.args (b := w.heap.size) (o := 0) (by omega) hv' (by omega) (fun j u hu => by
    rw [Nat.zero_add]
    rw [cell_of_row _ _ _ _ _ _ hb]
    simpa using hu)
  rw [hl] at this
  have hs : (w.alloc (.cells (tcells vs).toArray t)).heap.size = w.heap.size + 1 := World.size_alloc _ _
  rw [hs]
  exact this
theorem step_call {i : Nat} {f : Nat} {xs : Array Operand} {tys : Array TypeId} (hop : (ops[i]?).map (·.op) = some (.call { callee := .value (.func f), args := xs, argTypes := tys })) (he : ∀ (args : Array Value) (w : World), (callFunc f args).run Try.prog w = .ok (.enter f args) w)
    (hc : ∀ a w, Ctx ops E D base N i a w → Calls Try.prog f (xs.map a.eval) w fun e w' => ∃ v, e = .returned v ∧ (E i).R v w' ∧ Below w.heap.size w w') : Step Try.prog ops Q E D base N i := by
  intro o ho a w h K hK
  have hxo := op_of ho hop
  obtain ⟨dst, op, ty, pos, after, guard⟩ := o
  have hx' : op = _ := hxo
  subst hx'
  have hrun : (execOp a.eval ⟨dst, .call { callee := .value (.func f), args := xs, argTypes := tys }, ty, pos, after, guard⟩).run Try.prog w = .ok (.enter f (xs.map a.eval)) w := by
    have h1 : (execOp a.eval ⟨dst, .call { callee := .value (.func f), args := xs, argTypes := tys }, ty, pos, after, guard⟩).run Try.prog w = (callFunc f ((#[] ++ xs.map a.eval) ++ #[])).run Try.prog w := rfl
    rw [h1, Array.empty_append, Array.append_empty]
    exact he _ w
  unfold Oper.wp
  rw [hrun]
  show Calls _ _ _ _ _
  refine (hc a w h).mono ?_
  rintro e w' ⟨v, rfl, hv, hb⟩
  exact hK v w' hv hb
/-- The state behind the first i operations. -/
structure Sq (E : Nat → Kd) (D : Nat → Nat) (base : Nat → Option Kd) (N : Nat) (w0 : World) (i : Nat) (a : Act) (w : World) : Prop where
  size : a.tmps.size = N
  defers : a.defers = []
  world : Below w0.heap.size w0 w
  base : ∀ t k, base t = some k → k.R (a.tmps.getD t undef) w
  done : ∀ j, j < i → (E j).R (a.tmps.getD (D j) undef) w
/-- An operation waits for none behind it, is unguarded, and has its own slot. -/
def goodSeq (D : Nat → Nat) (base : Nat → Option Kd) (N i : Nat) (o : Oper) : Bool :=
  o.guard.isNone && (o.dst == some (D i)) && decide (D i < N) && (base (D i)).isNone && ((List.range i).all fun j => D j != D i)
theorem goodSeq_spec {i : Nat} {o : Oper} (h : goodSeq D base N i o = true) : o.guard = none ∧ o.dst = some (D i) ∧ D i < N ∧ base (D i) = none ∧ ∀ j, j < i → D j ≠ D i := by
  unfold goodSeq at h
  simp only [Bool.and_eq_true, decide_eq_true_eq, beq_iff_eq, Option.isNone_iff_eq_none] at h
  obtain ⟨⟨⟨⟨h2, h3⟩, h4⟩, h5⟩, h6⟩ := h
  refine ⟨h2, h3, h4, h5, fun j hj => ?_⟩
  · have := List.all_eq_true.1 h6 j (List.mem_range.2 hj)
    simpa using this
theorem wanted_free {o : Oper} (h : o.guard = none) (y : Nat → Option Bool) : Region.wanted o y = true := by
  unfold Region.wanted
  rw [h]
theorem put_self {a : Act} {t : Nat} {v : Value} (h : t < a.tmps.size) : (a.put (some t) v).tmps.getD t undef = v := by
  show (a.tmps.setIfInBounds t v).getD t undef = _
  simp [h]
theorem put_other {a : Act} {t s : Nat} {v : Value} (h : s ≠ t) : (a.put (some t) v).tmps.getD s undef = a.tmps.getD s undef := by
  show (a.tmps.setIfInBounds t v).getD s undef = _
  simp [Array.getElem?_setIfInBounds_ne (Ne.symm h)]
theorem put_size {a : Act} {t : Option Nat} {v : Value} : (a.put t v).tmps.size = a.tmps.size := by
  cases t with
  | none => rfl
  | some t => show (a.tmps.setIfInBounds t v).size = _; simp
theorem Sq.put {w0 w w' : World} {i : Nat} {a : Act} {v : Value} (st : Sq E D base N w0 i a w) (hD : D i < N) (hb0 : base (D i) = none) (hne : ∀ j, j < i → D j ≠ D i) (hv : (E i).R v w') (hb : Below w.heap.size w w') : Sq E D base N w0 (i + 1) (a.put (some (D i)) v) w' := by
  refine ⟨put_size.trans st.size, st.defers, st.world.trans (hb.mono st.world.size), fun t k hk => ?_, fun j hj => ?_⟩
  · rw [put_other (fun e => by subst e; rw [hk] at hb0; cases hb0)]
    exact Kd.keep (st.base t k hk) hb
  · by_cases hji : j = i
    · subst hji
      rw [put_self (by rw [st.size]; exact hD)]
      exact hv
    · rw [put_other (hne j (by omega))]
      exact Kd.keep (st.done j (by omega)) hb
theorem seq_one {w0 w : World} {i : Nat} {rest : List Nat} {a : Act} (hs : Step Try.prog ops Q E D base N i) (hg : (ops[i]?).map (goodSeq D base N i) = some true) (st : Sq E D base N w0 i a w)
    (h : ∀ a' w', Sq E D base N w0 (i + 1) a' w' → wpOps Try.prog ops Q rest a' w') : wpOps Try.prog ops Q (i :: rest) a w := by
  cases ho : ops[i]? with
  | none => rw [ho] at hg; cases hg
  | some o =>
    rw [ho] at hg
    obtain ⟨h2, h3, h4, h5, h6⟩ := goodSeq_spec (Option.some.inj hg)
    simp only [wpOps, ho, wanted_free h2, if_true]
    refine .inl (hs o ho a w ⟨st.size, st.base, fun j o' ho' hji _ => st.done j hji⟩ _ fun v w' hv hb => ?_)
    · rw [h3]
      exact h _ _ (st.put h4 h5 h6 hv hb)
theorem Sq.skip {w0 w : World} {i : Nat} {a : Act} (st : Sq E D base N w0 i a w) (hE : E i = .any) : Sq E D base N w0 (i + 1) a w :=
  ⟨st.size, st.defers, st.world, st.base, fun j hj => by
    by_cases hji : j = i
    · subst hji; rw [hE]; trivial
    · exact st.done j (by omega)⟩
/-- What the store of a term into a new variable does. -/
theorem box_store (w : World) (p : Pay) (A : Option Addr) (n c : Nat) :
    (Instr.storeAt 24 (.pointer (some ⟨w.heap.size, 0, none⟩)) (tv p A n c)).run Try.prog (w.alloc (.cells #[.int .i64 0, .int .i64 0, .string ⟨#[]⟩, .slice none 0 0] 24)) = .ok () (w.alloc (.cells #[.int .i64 p.1, .int .i64 p.2.1, .string p.2.2, .slice A n c] 24)) := by
  go_simp
theorem box_alloc (w : World) : (Instr.alloc 24 true (.tuple #[])).run Try.prog w = .ok (.pointer (some ⟨w.heap.size, 0, none⟩)) (w.alloc (.cells #[.int .i64 0, .int .i64 0, .string ⟨#[]⟩, .slice none 0 0] 24)) := by
  go_simp
theorem box_R (w : World) (p : Pay) (l : Fo) (A : Option Addr) (c : Nat) (ha : ArgsB w w.heap.size A (Tm.len l) l) : (Kd.ptrT p l).R (.pointer (some ⟨w.heap.size, 0, none⟩)) (w.alloc (.cells #[.int .i64 p.1, .int .i64 p.2.1, .string p.2.2, .slice A (Tm.len l) c] 24)) := by
  have ht := TermAt.new w p A (Tm.len l) c 24
  refine ⟨w.heap.size, 0, A, c, rfl, by rw [World.size_alloc]; omega, ⟨ht.kind, ht.num, ht.name, ht.args, ?_⟩⟩
  exact (ha.keep fun b (hb : b < w.heap.size) => Below.heap_alloc w _ b hb).mono fun b (hb : b < w.heap.size) => (by show b < _; rw [World.size_alloc]; omega)
theorem wp_alloc_op {a : Act} {w : World} {dst : Option Tmp} {ty : TypeId} {pos : String} {after : Array Edge} {guard : Option (Nat × Bool)} {K : Act → World → Prop} (h : K (a.put dst (.pointer (some ⟨w.heap.size, 0, none⟩))) (w.alloc (.cells #[.int .i64 0, .int .i64 0, .string ⟨#[]⟩, .slice none 0 0] 24))) :
    Oper.wp Try.prog ⟨dst, .alloc 24, ty, pos, after, guard⟩ a w K Q := by
  have hrun : (execOp a.eval ⟨dst, .alloc 24, ty, pos, after, guard⟩).run Try.prog w = .ok (.value (.pointer (some ⟨w.heap.size, 0, none⟩))) (w.alloc (.cells #[.int .i64 0, .int .i64 0, .string ⟨#[]⟩, .slice none 0 0] 24)) := by
    unfold execOp
    go_simp
  unfold Oper.wp
  rw [hrun]
  exact h
theorem wp_assign_op {a : Act} {w : World} {x : Operand} {dst : Option Tmp} {ty : TypeId} {pos : String} {after : Array Edge} {guard : Option (Nat × Bool)} {K : Act → World → Prop} (h : K (a.put dst (a.eval x)) w) :
    Oper.wp Try.prog ⟨dst, .assign x, ty, pos, after, guard⟩ a w K Q := h
theorem wp_store_op {a : Act} {w : World} {x y : Operand} {ty : TypeId} {pos : String} {after : Array Edge} {guard : Option (Nat × Bool)} {K : Act → World → Prop} (p : Pay) (A : Option Addr) (n c : Nat) (hx : a.eval x = .pointer (some ⟨w.heap.size, 0, none⟩)) (hy : a.eval y = tv p A n c)
    (h : K a (w.alloc (.cells #[.int .i64 p.1, .int .i64 p.2.1, .string p.2.2, .slice A n c] 24))) :
    Oper.wp Try.prog ⟨none, .store 24 x y, ty, pos, after, guard⟩ a (w.alloc (.cells #[.int .i64 0, .int .i64 0, .string ⟨#[]⟩, .slice none 0 0] 24)) K Q := by
  have hrun : (execOp a.eval ⟨none, .store 24 x y, ty, pos, after, guard⟩).run Try.prog (w.alloc (.cells #[.int .i64 0, .int .i64 0, .string ⟨#[]⟩, .slice none 0 0] 24)) = .ok .skip (w.alloc (.cells #[.int .i64 p.1, .int .i64 p.2.1, .string p.2.2, .slice A n c] 24)) := by
    unfold execOp
    simp only [hx, hy]
    go_simp
  unfold Oper.wp
  rw [hrun]
  exact h
theorem region_seq {id : Nat} {w0 w : World} {a : Act} (n : Nat) (hn : ops.size = n) (h : wpOps Try.prog ops Q (List.range n) a w) : (Code.region id ops false).wp Try.prog Q a w := by
  subst hn
  exact wp_region h
theorem step_box {i : Nat} {x : Operand} {p : Pay} {l : Fo} (hop : (ops[i]?).map (·.op) = some (.box 24 x)) (hx : Opd ops E D base N i x (.term p l)) (hE : E i = .ptrT p l) : Step Try.prog ops Q E D base N i := by
  intro o ho a w hc K hK
  have hxo := op_of ho hop
  obtain ⟨dst, op, ty, pos, after, guard⟩ := o
  have hx' : op = _ := hxo
  subst hx'
  obtain ⟨A, c, e, ha⟩ := hx a w hc
  have hr := box_R w p l A c ha
  have hrun : (execOp a.eval ⟨dst, .box 24 x, ty, pos, after, guard⟩).run Try.prog w = .ok (.value (.pointer (some ⟨w.heap.size, 0, none⟩))) (w.alloc (.cells #[.int .i64 p.1, .int .i64 p.2.1, .string p.2.2, .slice A (Tm.len l) c] 24)) := by
    generalize Tm.len l = n at e
    unfold execOp
    simp only [e]
    go_simp
  unfold Oper.wp
  rw [hrun]
  exact hK _ _ (hE ▸ hr) ((Below.refl _ _).alloc (Nat.le_refl _) _)
theorem step_eq_bool {i : Nat} {x y : Operand} {b : Bool} (hop : (ops[i]?).map (·.op) = some (.binOp .eql 4 x y 4)) (hx : Opd ops E D base N i x (.val (.bool b))) (hy : Opd ops E D base N i y (.val (.bool b))) (hE : E i = .val (.bool true)) : Step Try.prog ops Q E D base N i :=
  step_still hop hE fun a w h dst ty' pos after guard => by
    have e : a.eval x = .bool b := hx a w h
    have e' : a.eval y = .bool b := hy a w h
    refine ⟨.bool true, ?_, rfl⟩
    unfold execOp
    simp only [e, e']
    cases b <;> go_simp
theorem step_eqs_int {i : Nat} {x y : Operand} {n : Int} (hop : (ops[i]?).map (·.op) = some (.binOp .eql 3 x y 3)) (hx : Opd ops E D base N i x (.val (.int .i64 n))) (hy : Opd ops E D base N i y (.val (.int .i64 n))) (hE : E i = .val (.bool true)) : Step Try.prog ops Q E D base N i :=
  step_eq_int hop hx hy (by rw [hE]; simp)
theorem step_pick_no {i : Nat} {c x y : Operand} {k : Kd} (hop : (ops[i]?).map (·.op) = some (.pick c x y)) (hc : Opd ops E D base N i c (.val (.bool false))) (hy : Opd ops E D base N i y k) (hE : E i = k) : Step Try.prog ops Q E D base N i :=
  step_still hop hE fun a w h dst ty pos after guard => by
    have e : a.eval c = .bool false := hc a w h
    refine ⟨a.eval y, ?_, hy a w h⟩
    show ((do pure (Next.value (if ← asBool (a.eval c) then a.eval x else a.eval y)) : Sem Next)).run _ w = _
    rw [e]
    rfl
theorem step_rvalid {i : Nat} {x : Operand} {p : Pay} {l : Fo} {b : Bool} (hop : (ops[i]?).map (·.op) = some (.call { callee := .value (.func 51), args := #[x], argTypes := #[24] })) (hx : Opd ops E D base N i x (.term p l)) (hb : Tm.validB p l = b) (hE : E i = .val (.bool b)) : Step Try.prog ops Q E D base N i :=
  step_call hop (fun _ _ => by kernel_rfl) fun a w h => by
    obtain ⟨A, c, e, ha⟩ := hx a w h
    have e1 : (#[x] : Array Operand).map a.eval = #[tv p A (Tm.len l) c] := by rw [← e]; simp
    rw [e1]
    exact (rvalid_any p l A c w.heap.size w ha (Nat.le_refl _)).mono fun e w' ⟨he, hbl⟩ => ⟨_, he, by rw [hE, ← hb]; rfl, hbl⟩
/-- At the end: the result is a slot. -/
theorem law_ret {fn : Func} {t : Tmp} (hres : fn.results = #[.tmp t]) {R : Ending → World → Prop} {a : Act} {w : World} (h : (Kd.val (.bool true)).R (a.tmps.getD t undef) w) (hd : a.defers = []) (hR : R (.returned (.bool true)) w) : Code.ret.wp Try.prog (bodyPost Try.prog fn R) a w := by
  refine wp_ret ?_
  have h' : a.tmps.getD t undef = .bool true := h
  refine bodyPost_ret (v := .bool true) ?_ hd hR
  rw [← h']
  exact results_tmp hres a.tmps Try.prog w
theorem step_pick_yes {i : Nat} {c x y : Operand} {k : Kd} (hop : (ops[i]?).map (·.op) = some (.pick c x y)) (hc : Opd ops E D base N i c (.val (.bool true))) (hx : Opd ops E D base N i x k) (hE : E i = k) : Step Try.prog ops Q E D base N i :=
  step_still hop hE fun a w h dst ty pos after guard => by
    have e : a.eval c = .bool true := hc a w h
    refine ⟨a.eval x, ?_, hx a w h⟩
    show ((do pure (Next.value (if ← asBool (a.eval c) then a.eval x else a.eval y)) : Sem Next)).run _ w = _
    rw [e]
    rfl
theorem step_eqb_int {i : Nat} {x y : Operand} {m n : Int} {b : Bool} (hop : (ops[i]?).map (·.op) = some (.binOp .eql 3 x y 3)) (hx : Opd ops E D base N i x (.val (.int .i64 m))) (hy : Opd ops E D base N i y (.val (.int .i64 n))) (hb : (m == n) = b) (hE : E i = .val (.bool b)) : Step Try.prog ops Q E D base N i :=
  step_eq_int hop hx hy (by rw [hE, hb])
theorem step_eqb_int64 {i : Nat} {x y : Operand} {m n : Int} {b : Bool} (hop : (ops[i]?).map (·.op) = some (.binOp .eql 2 x y 2)) (hx : Opd ops E D base N i x (.val (.int .i64 m))) (hy : Opd ops E D base N i y (.val (.int .i64 n))) (hb : (m == n) = b) (hE : E i = .val (.bool b)) : Step Try.prog ops Q E D base N i :=
  step_eq_int64 hop hx hy (by rw [hE, hb])
theorem step_lt_int {i : Nat} {x y : Operand} {m n : Int} {b : Bool} (hop : (ops[i]?).map (·.op) = some (.binOp .lss 3 x y 3)) (hx : Opd ops E D base N i x (.val (.int .i64 m))) (hy : Opd ops E D base N i y (.val (.int .i64 n))) (hb : (decide (m < n)) = b) (hE : E i = .val (.bool b)) : Step Try.prog ops Q E D base N i :=
  step_still hop hE fun a w h dst ty' pos after guard => by
    have e : a.eval x = .int .i64 m := hx a w h
    have e' : a.eval y = .int .i64 n := hy a w h
    refine ⟨.bool b, ?_, rfl⟩
    rw [← hb]
    unfold execOp
    simp only [e, e']
    go_simp
theorem step_lt_int64 {i : Nat} {x y : Operand} {m n : Int} {b : Bool} (hop : (ops[i]?).map (·.op) = some (.binOp .lss 2 x y 2)) (hx : Opd ops E D base N i x (.val (.int .i64 m))) (hy : Opd ops E D base N i y (.val (.int .i64 n))) (hb : (decide (m < n)) = b) (hE : E i = .val (.bool b)) : Step Try.prog ops Q E D base N i :=
  step_still hop hE fun a w h dst ty' pos after guard => by
    have e : a.eval x = .int .i64 m := hx a w h
    have e' : a.eval y = .int .i64 n := hy a w h
    refine ⟨.bool b, ?_, rfl⟩
    rw [← hb]
    unfold execOp
    simp only [e, e']
    go_simp
theorem step_gt_int {i : Nat} {x y : Operand} {m n : Int} {b : Bool} (hop : (ops[i]?).map (·.op) = some (.binOp .gtr 3 x y 3)) (hx : Opd ops E D base N i x (.val (.int .i64 m))) (hy : Opd ops E D base N i y (.val (.int .i64 n))) (hb : (decide (n < m)) = b) (hE : E i = .val (.bool b)) : Step Try.prog ops Q E D base N i :=
  step_still hop hE fun a w h dst ty' pos after guard => by
    have e : a.eval x = .int .i64 m := hx a w h
    have e' : a.eval y = .int .i64 n := hy a w h
    refine ⟨.bool b, ?_, rfl⟩
    rw [← hb]
    unfold execOp
    simp only [e, e']
    go_simp
theorem step_gt_int64 {i : Nat} {x y : Operand} {m n : Int} {b : Bool} (hop : (ops[i]?).map (·.op) = some (.binOp .gtr 2 x y 2)) (hx : Opd ops E D base N i x (.val (.int .i64 m))) (hy : Opd ops E D base N i y (.val (.int .i64 n))) (hb : (decide (n < m)) = b) (hE : E i = .val (.bool b)) : Step Try.prog ops Q E D base N i :=
  step_still hop hE fun a w h dst ty' pos after guard => by
    have e : a.eval x = .int .i64 m := hx a w h
    have e' : a.eval y = .int .i64 n := hy a w h
    refine ⟨.bool b, ?_, rfl⟩
    rw [← hb]
    unfold execOp
    simp only [e, e']
    go_simp
theorem step_ne_int {i : Nat} {x y : Operand} {m n : Int} {b : Bool} (hop : (ops[i]?).map (·.op) = some (.binOp .neq 3 x y 3)) (hx : Opd ops E D base N i x (.val (.int .i64 m))) (hy : Opd ops E D base N i y (.val (.int .i64 n))) (hb : (m != n) = b) (hE : E i = .val (.bool b)) : Step Try.prog ops Q E D base N i :=
  step_still hop hE fun a w h dst ty' pos after guard => by
    have e : a.eval x = .int .i64 m := hx a w h
    have e' : a.eval y = .int .i64 n := hy a w h
    refine ⟨.bool b, ?_, rfl⟩
    rw [← hb]
    unfold execOp
    simp only [e, e']
    go_simp
theorem step_ne_int64 {i : Nat} {x y : Operand} {m n : Int} {b : Bool} (hop : (ops[i]?).map (·.op) = some (.binOp .neq 2 x y 2)) (hx : Opd ops E D base N i x (.val (.int .i64 m))) (hy : Opd ops E D base N i y (.val (.int .i64 n))) (hb : (m != n) = b) (hE : E i = .val (.bool b)) : Step Try.prog ops Q E D base N i :=
  step_still hop hE fun a w h dst ty' pos after guard => by
    have e : a.eval x = .int .i64 m := hx a w h
    have e' : a.eval y = .int .i64 n := hy a w h
    refine ⟨.bool b, ?_, rfl⟩
    rw [← hb]
    unfold execOp
    simp only [e, e']
    go_simp
theorem step_add {i : Nat} {x y : Operand} {m n s : Int} (hop : (ops[i]?).map (·.op) = some (.binOp .add 3 x y 3)) (hx : Opd ops E D base N i x (.val (.int .i64 m))) (hy : Opd ops E D base N i y (.val (.int .i64 n))) (hs : IntKind.i64.wrap (m + n) = s) (hE : E i = .val (.int .i64 s)) : Step Try.prog ops Q E D base N i :=
  step_still hop hE fun a w h dst ty' pos after guard => by
    have e : a.eval x = .int .i64 m := hx a w h
    have e' : a.eval y = .int .i64 n := hy a w h
    refine ⟨.int .i64 s, ?_, rfl⟩
    rw [← hs]
    unfold execOp
    simp only [e, e']
    go_simp
theorem step_row_at {i : Nat} {x y : Operand} {F l r : Fo} {k : Nat} {p : Pay} (hop : (ops[i]?).map (·.op) = some (.indexAddr 22 x y)) (hx : Opd ops E D base N i x (.row F)) (hy : Opd ops E D base N i y (.val (.int .i64 (k : Int)))) (hd : Tm.dropF F k = .node p l r) (hE : E i = .ptrT p l) : Step Try.prog ops Q E D base N i :=
  step_still hop hE fun a w h dst ty' pos after guard => by
    obtain ⟨A, c, e, ha⟩ := hx a w h
    have e' : a.eval y = .int .i64 (k : Int) := hy a w h
    have hk : k < Tm.len F := by
      have h1 := Tm.len_drop F k
      rw [hd] at h1
      have h2 : Tm.len (Fo.node p l r) = Tm.len r + 1 := rfl
      omega
    obtain ⟨b, o, p1, l1, r1, A1, c1, rfl, hb, hd', hn⟩ := ha.at hk
    rw [hd] at hd'
    cases hd'
    refine ⟨.pointer (some ⟨b, o + k * 4, none⟩), ?_, b, o + k * 4, A1, c1, rfl, hb, hn⟩
    generalize Tm.len F = n at e hk
    unfold execOp
    simp only [e, e']
    go_simp
theorem step_valid {i : Nat} {x : Operand} {p : Pay} {l : Fo} {b : Bool} (hop : (ops[i]?).map (·.op) = some (.call { callee := .value (.func 70), args := #[x], argTypes := #[24] })) (hx : Opd ops E D base N i x (.term p l)) (hb : Tm.validB p l = b) (hE : E i = .val (.bool b)) : Step Try.prog ops Q E D base N i :=
  step_call hop (fun _ _ => by kernel_rfl) fun a w h => by
    obtain ⟨A, c, e, ha⟩ := hx a w h
    have e1 : (#[x] : Array Operand).map a.eval = #[tv p A (Tm.len l) c] := by rw [← e]; simp
    rw [e1]
    exact (valid_any p l A c w.heap.size w ha (Nat.le_refl _)).mono fun e w' ⟨he, hbl⟩ => ⟨_, he, by rw [hE, ← hb]; rfl, hbl⟩
end
end Go.Proofs.Ytapcnehpechkpaa
