/-
  The operations of a region, one law for each kind.
-/
import Derived.Test.YtmljkhofahgelaaSteps
import Derived.Test.YtmljkhofahgelaaRow
import Derived.Test.YtmljkhofahgelaaLaw
import Derived.Test.YtmljkhofahgelaaVariant
import Derived.Test.YtmljkhofahgelaaCanons
import Derived.Test.YtmljkhofahgelaaSames
import Derived.Test.YtmljkhofahgelaaVarsFn
import Derived.Test.YtmljkhofahgelaaRenames
import Derived.Test.YtmljkhofahgelaaReplace
import Derived.Test.YtmljkhofahgelaaList
import Derived.Test.YtmljkhofahgelaaElems
namespace Go.Proofs.Ytmljkhofahgelaa
set_option linter.unusedVariables false
set_option linter.unusedSimpArgs false
open Go.RowKit

section
variable {ops : Array Oper} {Q : Exit → Act → World → Prop} {E : Nat → Kd} {D : Nat → Nat} {base : Nat → Option Kd} {N : Nat}

/-- What operation i finds in an operand. -/
def Opd (ops : Array Oper) (E : Nat → Kd) (D : Nat → Nat) (base : Nat → Option Kd) (N i : Nat) (x : Operand) (k : Kd) : Prop := ∀ a w, Ctx ops E D base N i a w → k.R (a.eval x) w
theorem Opd.const {i : Nat} (v : Value) : Opd ops E D base N i (.const v) (.val v) := fun _ _ _ => rfl
theorem Opd.dep {i : Nat} (j : Nat) {t : Nat} {k : Kd} (ht : D j = t) (hk : E j = k) (hj : (ops[i]?).map (fun o => decide (j < i) && o.after.any fun e => e.on == j) = some true) : Opd ops E D base N i (.tmp t) k := by
  intro a w h
  subst ht
  subst hk
  cases ho : ops[i]? with
  | none => rw [ho] at hj; cases hj
  | some o =>
    rw [ho] at hj
    have h2 := Option.some.inj hj
    rw [Bool.and_eq_true, decide_eq_true_eq] at h2
    exact h.deps j o ho h2.1 h2.2
theorem Opd.of_base {i : Nat} (t : Nat) {k : Kd} (hk : base t = some k) : Opd ops E D base N i (.tmp t) k := fun a w h => h.base t k hk
theorem op_of {i : Nat} {o : Oper} {x : Op} (h : ops[i]? = some o) (hop : (ops[i]?).map (·.op) = some x) : o.op = x := by rw [h] at hop; exact Option.some.inj hop

/-- An operation that leaves the world alone. -/
theorem step_still {i : Nat} {x : Op} {k : Kd} (hop : (ops[i]?).map (·.op) = some x) (hE : E i = k)
    (h : ∀ a w, Ctx ops E D base N i a w → ∀ dst ty pos after guard, ∃ v, (execOp a.eval ⟨dst, x, ty, pos, after, guard⟩).run Try.prog w = .ok (.value v) w ∧ k.R v w) : Step Try.prog ops Q E D base N i := by
  intro o ho a w hc K hK
  have hx := op_of ho hop
  obtain ⟨dst, op, ty, pos, after, guard⟩ := o
  have hx' : op = x := hx
  subst hx'
  obtain ⟨v, hr, hv⟩ := h a w hc dst ty pos after guard
  unfold Oper.wp
  rw [hr]
  exact hK v w (hE ▸ hv) (Below.refl _ _)
theorem step_move {i : Nat} {x : Operand} {k : Kd} (hop : (ops[i]?).map (·.op) = some (.move x)) (hx : Opd ops E D base N i x k) (hE : E i = k) : Step Try.prog ops Q E D base N i :=
  step_still hop hE fun a w hc _ _ _ _ _ => ⟨a.eval x, rfl, hx a w hc⟩
theorem step_assign {i : Nat} {x : Operand} {k : Kd} (hop : (ops[i]?).map (·.op) = some (.assign x)) (hx : Opd ops E D base N i x k) (hE : E i = k) : Step Try.prog ops Q E D base N i :=
  step_still hop hE fun a w hc _ _ _ _ _ => ⟨a.eval x, rfl, hx a w hc⟩
theorem step_pick {i : Nat} {c x : Operand} {k : Kd} (hop : (ops[i]?).map (·.op) = some (.pick c x (.const (.bool false)))) (hc : Opd ops E D base N i c (.val (.bool true))) (hx : Opd ops E D base N i x k) (hE : E i = k) : Step Try.prog ops Q E D base N i :=
  step_still hop hE fun a w h dst ty pos after guard => by
    have e : a.eval c = .bool true := hc a w h
    refine ⟨a.eval x, ?_, hx a w h⟩
    show ((do pure (Next.value (if ← asBool (a.eval c) then a.eval x else a.eval (.const (.bool false)))) : Sem Next)).run _ w = _
    rw [e]
    rfl
theorem step_not {i : Nat} {x : Operand} {b : Bool} (hop : (ops[i]?).map (·.op) = some (.unOp .not 4 x)) (hx : Opd ops E D base N i x (.val (.bool b))) (hE : E i = .val (.bool (!b))) : Step Try.prog ops Q E D base N i :=
  step_still hop hE fun a w h dst ty' pos after guard => by
    have e : a.eval x = .bool b := hx a w h
    refine ⟨.bool (!b), ?_, rfl⟩
    unfold execOp
    simp only [e]
    go_simp
theorem step_eq_int {i : Nat} {x y : Operand} {m n : Int} (hop : (ops[i]?).map (·.op) = some (.binOp .eql 3 x y 3)) (hx : Opd ops E D base N i x (.val (.int .i64 m))) (hy : Opd ops E D base N i y (.val (.int .i64 n))) (hE : E i = .val (.bool (m == n))) : Step Try.prog ops Q E D base N i :=
  step_still hop hE fun a w h dst ty' pos after guard => by
    have e : a.eval x = .int .i64 m := hx a w h
    have e' : a.eval y = .int .i64 n := hy a w h
    refine ⟨.bool (m == n), ?_, rfl⟩
    unfold execOp
    simp only [e, e']
    go_simp
theorem step_eq_int64 {i : Nat} {x y : Operand} {m n : Int} (hop : (ops[i]?).map (·.op) = some (.binOp .eql 2 x y 2)) (hx : Opd ops E D base N i x (.val (.int .i64 m))) (hy : Opd ops E D base N i y (.val (.int .i64 n))) (hE : E i = .val (.bool (m == n))) : Step Try.prog ops Q E D base N i :=
  step_still hop hE fun a w h dst ty' pos after guard => by
    have e : a.eval x = .int .i64 m := hx a w h
    have e' : a.eval y = .int .i64 n := hy a w h
    refine ⟨.bool (m == n), ?_, rfl⟩
    unfold execOp
    simp only [e, e']
    go_simp
theorem step_eq_err {i : Nat} {x y : Operand} {m n : Int} (hop : (ops[i]?).map (·.op) = some (.binOp .eql 29 x y 29)) (hx : Opd ops E D base N i x (.val (.int .i64 m))) (hy : Opd ops E D base N i y (.val (.int .i64 n))) (hE : E i = .val (.bool (m == n))) : Step Try.prog ops Q E D base N i :=
  step_still hop hE fun a w h dst ty' pos after guard => by
    have e : a.eval x = .int .i64 m := hx a w h
    have e' : a.eval y = .int .i64 n := hy a w h
    refine ⟨.bool (m == n), ?_, rfl⟩
    unfold execOp
    simp only [e, e']
    go_simp
theorem step_build {i : Nat} {s : ByteArray} (hop : (ops[i]?).map (·.op) = some (.build 24 #[(0, .const (.int .i64 3)), (2, .const (.string s))])) (hE : E i = .term (3, 0, s) .nil) : Step Try.prog ops Q E D base N i :=
  step_still hop hE fun a w h dst ty' pos after guard => by
    refine ⟨tv (3, 0, s) none 0 0, ?_, none, 0, rfl, ArgsIn.nil _ _ _⟩
    unfold execOp
    simp only [Act.eval, List.map_toArray, List.map_cons, List.map_nil]
    go_simp
theorem step_len_row {i : Nat} {x : Operand} {F : Fo} (hop : (ops[i]?).map (·.op) = some (.call { callee := .builtin .len, args := #[x], argTypes := #[22] })) (hx : Opd ops E D base N i x (.row F)) (hE : E i = .val (.int .i64 (Tm.len F))) : Step Try.prog ops Q E D base N i :=
  step_still hop hE fun a w h dst ty' pos after guard => by
    obtain ⟨A, c, e, _⟩ := hx a w h
    refine ⟨.int .i64 (Tm.len F), ?_, rfl⟩
    unfold execOp
    simp only [resolve, List.map_toArray, List.map_cons, List.map_nil, e]
    go_simp
theorem step_len_ints {i : Nat} {x : Operand} {L : List Int} (hop : (ops[i]?).map (·.op) = some (.call { callee := .builtin .len, args := #[x], argTypes := #[42] })) (hx : Opd ops E D base N i x (.ints L)) (hE : E i = .val (.int .i64 (L.length : Nat))) : Step Try.prog ops Q E D base N i :=
  step_still hop hE fun a w h dst ty' pos after guard => by
    obtain ⟨A, c, e, _⟩ := hx a w h
    refine ⟨.int .i64 (L.length : Nat), ?_, rfl⟩
    unfold execOp
    simp only [resolve, List.map_toArray, List.map_cons, List.map_nil, e]
    go_simp
theorem step_ints0 {i : Nat} {x : Operand} {m n : Int} (hop : (ops[i]?).map (·.op) = some (.indexAddr 42 x (.const (.int .i64 0)))) (hx : Opd ops E D base N i x (.ints [m, n])) (hE : E i = .ptrI m) : Step Try.prog ops Q E D base N i :=
  step_still hop hE fun a w h dst ty' pos after guard => by
    obtain ⟨A, c, e, hl⟩ := hx a w h
    obtain ⟨b, o, rfl, hb, hr⟩ := hl.row (by simp)
    have hadd : (⟨b, o, none⟩ : Addr).add 0 = ⟨b, o, none⟩ := by unfold Addr.add; split <;> simp_all
    refine ⟨.pointer (some ⟨b, o, none⟩), ?_, _, rfl, hb, hr 0 m rfl⟩
    unfold execOp
    simp only [e, show a.eval (.const (.int .i64 0)) = .int .i64 0 from rfl]
    go_simp
theorem step_ints1 {i : Nat} {x : Operand} {m n : Int} (hop : (ops[i]?).map (·.op) = some (.indexAddr 42 x (.const (.int .i64 1)))) (hx : Opd ops E D base N i x (.ints [m, n])) (hE : E i = .ptrI n) : Step Try.prog ops Q E D base N i :=
  step_still hop hE fun a w h dst ty' pos after guard => by
    obtain ⟨A, c, e, hl⟩ := hx a w h
    obtain ⟨b, o, rfl, hb, hr⟩ := hl.row (by simp)
    refine ⟨.pointer (some ⟨b, o + 1, none⟩), ?_, _, rfl, hb, hr 1 n rfl⟩
    unfold execOp
    simp only [e, show a.eval (.const (.int .i64 1)) = .int .i64 1 from rfl]
    go_simp
theorem step_load_int {i : Nat} {x : Operand} {n : Int} (hop : (ops[i]?).map (·.op) = some (.load 2 x)) (hx : Opd ops E D base N i x (.ptrI n)) (hE : E i = .val (.int .i64 n)) : Step Try.prog ops Q E D base N i :=
  step_still hop hE fun a w h dst ty' pos after guard => by
    obtain ⟨ad, e, hb, hc⟩ := hx a w h
    refine ⟨.int .i64 n, ?_, rfl⟩
    unfold execOp
    simp only [e]
    go_simp
theorem step_row1 {i : Nat} {x : Operand} {p q : Pay} {l m r : Fo} (hop : (ops[i]?).map (·.op) = some (.indexAddr 22 x (.const (.int .i64 1)))) (hx : Opd ops E D base N i x (.row (.node p l (.node q m r)))) (hE : E i = .ptrT q m) : Step Try.prog ops Q E D base N i :=
  step_still hop hE fun a w h dst ty' pos after guard => by
    obtain ⟨A, c, e, ha⟩ := hx a w h
    obtain ⟨b, o, p1, l1, r1, A1, c1, rfl, hb, hd, hn⟩ := ha.at (k := 1) (by show 1 < Tm.len r + 1 + 1; omega)
    have hd' : Fo.node q m r = .node p1 l1 r1 := by have : Tm.dropF (.node p l (.node q m r)) 1 = .node q m r := by show Tm.dropF (.node q m r) 0 = _; exact Tm.drop_zero _
                                                    rw [this] at hd; exact hd
    cases hd'
    refine ⟨.pointer (some ⟨b, o + 4, none⟩), ?_, b, o + 4, A1, c1, rfl, hb, by simpa using hn⟩
    have h1 : (1 : Int) < ((Tm.len (.node p l (.node q m r)) : Nat) : Int) := by show (1 : Int) < ((Tm.len r + 1 + 1 : Nat) : Int); omega
    generalize Tm.len (.node p l (.node q m r)) = n at h1 e
    unfold execOp
    simp only [e, show a.eval (.const (.int .i64 1)) = .int .i64 1 from rfl]
    go_simp
theorem step_load_term {i : Nat} {x : Operand} {p : Pay} {l : Fo} (hop : (ops[i]?).map (·.op) = some (.load 24 x)) (hx : Opd ops E D base N i x (.ptrT p l)) (hE : E i = .term p l) : Step Try.prog ops Q E D base N i :=
  step_still hop hE fun a w h dst ty' pos after guard => by
    obtain ⟨b, o, A, c, e, hb, hn⟩ := hx a w h
    refine ⟨tv p A (Tm.len l) c, ?_, A, c, rfl, hn.inn⟩
    have h0 := hn.kind
    have h1 := hn.num
    have h2 := hn.name
    have h3 := hn.args
    generalize Tm.len l = n at h3
    unfold execOp
    simp only [e]
    go_simp

/-! ### a slice of terms -/
theorem row_new (w : World) (vs : List Value) (F : Fo) (n : Nat) (t : TypeId) (hv : Vals (fun b => b < w.heap.size) w vs F) (hn : Tm.len F = n) (h63 : n ≤ 1000) :
    (Kd.row F).R (.slice (some ⟨w.heap.size, 0, none⟩) n n) (w.alloc (.cells (tcells vs).toArray t)) := by
  subst hn
  refine ⟨some ⟨w.heap.size, 0, none⟩, Tm.len F, rfl, ?_⟩
  have hl := Vals.len vs F hv
  have hb := alloc_new w (.cells (tcells vs).toArray t)
  have hv' : Vals (fun b => b < w.heap.size + 1) (w.alloc (.cells (tcells vs).toArray t)) vs F := Vals.mono (fun b h => Nat.lt_succ_of_lt h) vs F (Vals.keep (fun b h => Below.heap_alloc w _ b h) vs F hv)
  have := Vals.args (b := w.heap.size) (o := 0) (by omega) hv' (by omega) (fun j u hu => by
    rw [Nat.zero_add]
    rw [cell_of_row _ _ _ _ _ _ hb]
    simpa using hu)
  rw [hl] at this
  have hs : (w.alloc (.cells (tcells vs).toArray t)).heap.size = w.heap.size + 1 := World.size_alloc _ _
  rw [hs]
  exact this
theorem step_slice1 {i : Nat} {x : Operand} {p : Pay} {l : Fo} (hop : (ops[i]?).map (·.op) = some (.buildSlice 22 1 #[(0, x)])) (hx : Opd ops E D base N i x (.term p l)) (hE : E i = .row (.node p l .nil)) : Step Try.prog ops Q E D base N i := by
  intro o ho a w hc K hK
  have hxo := op_of ho hop
  obtain ⟨dst, op, ty, pos, after, guard⟩ := o
  have hx' : op = _ := hxo
  subst hx'
  obtain ⟨A, c, e, ha⟩ := hx a w hc
  have hv : Vals (fun b => b < w.heap.size) w [tv p A (Tm.len l) c] (.node p l .nil) := ⟨⟨A, c, rfl, ha⟩, trivial⟩
  have hr := row_new w _ _ 1 24 hv rfl (by decide)
  have hrun : (execOp a.eval ⟨dst, .buildSlice 22 1 #[(0, x)], ty, pos, after, guard⟩).run Try.prog w = .ok (.value (.slice (some ⟨w.heap.size, 0, none⟩) 1 1)) (w.alloc (.cells (tcells [tv p A (Tm.len l) c]).toArray 24)) := by
    unfold execOp
    simp only [List.map_toArray, List.map_cons, List.map_nil, e]
    go_simp
    rfl
  unfold Oper.wp
  rw [hrun]
  exact hK _ _ (hE ▸ hr) ((Below.refl _ _).alloc (Nat.le_refl _) _)
theorem step_slice2 {i : Nat} {x y : Operand} {p q : Pay} {l m : Fo} (hop : (ops[i]?).map (·.op) = some (.buildSlice 22 2 #[(0, x), (1, y)])) (hx : Opd ops E D base N i x (.term p l)) (hy : Opd ops E D base N i y (.term q m)) (hE : E i = .row (.node p l (.node q m .nil))) : Step Try.prog ops Q E D base N i := by
  intro o ho a w hc K hK
  have hxo := op_of ho hop
  obtain ⟨dst, op, ty, pos, after, guard⟩ := o
  have hx' : op = _ := hxo
  subst hx'
  obtain ⟨A, c, e, ha⟩ := hx a w hc
  obtain ⟨A', c', e', ha'⟩ := hy a w hc
  have hv : Vals (fun b => b < w.heap.size) w [tv p A (Tm.len l) c, tv q A' (Tm.len m) c'] (.node p l (.node q m .nil)) := ⟨⟨A, c, rfl, ha⟩, ⟨A', c', rfl, ha'⟩, trivial⟩
  have hr := row_new w _ _ 2 24 hv rfl (by decide)
  have hrun : (execOp a.eval ⟨dst, .buildSlice 22 2 #[(0, x), (1, y)], ty, pos, after, guard⟩).run Try.prog w = .ok (.value (.slice (some ⟨w.heap.size, 0, none⟩) 2 2)) (w.alloc (.cells (tcells [tv p A (Tm.len l) c, tv q A' (Tm.len m) c']).toArray 24)) := by
    unfold execOp
    simp only [List.map_toArray, List.map_cons, List.map_nil, e, e']
    go_simp
    rfl
  unfold Oper.wp
  rw [hrun]
  exact hK _ _ (hE ▸ hr) ((Below.refl _ _).alloc (Nat.le_refl _) _)
theorem step_slice3 {i : Nat} {x y z : Operand} {p q r : Pay} {l m n : Fo} (hop : (ops[i]?).map (·.op) = some (.buildSlice 22 3 #[(0, x), (1, y), (2, z)])) (hx : Opd ops E D base N i x (.term p l)) (hy : Opd ops E D base N i y (.term q m)) (hz : Opd ops E D base N i z (.term r n)) (hE : E i = .row (.node p l (.node q m (.node r n .nil)))) : Step Try.prog ops Q E D base N i := by
  intro o ho a w hc K hK
  have hxo := op_of ho hop
  obtain ⟨dst, op, ty, pos, after, guard⟩ := o
  have hx' : op = _ := hxo
  subst hx'
  obtain ⟨A, c, e, ha⟩ := hx a w hc
  obtain ⟨A', c', e', ha'⟩ := hy a w hc
  obtain ⟨A2, c2, e2, ha2⟩ := hz a w hc
  have hv : Vals (fun b => b < w.heap.size) w [tv p A (Tm.len l) c, tv q A' (Tm.len m) c', tv r A2 (Tm.len n) c2] (.node p l (.node q m (.node r n .nil))) := ⟨⟨A, c, rfl, ha⟩, ⟨A', c', rfl, ha'⟩, ⟨A2, c2, rfl, ha2⟩, trivial⟩
  have hr := row_new w _ _ 3 24 hv rfl (by decide)
  have hrun : (execOp a.eval ⟨dst, .buildSlice 22 3 #[(0, x), (1, y), (2, z)], ty, pos, after, guard⟩).run Try.prog w = .ok (.value (.slice (some ⟨w.heap.size, 0, none⟩) 3 3)) (w.alloc (.cells (tcells [tv p A (Tm.len l) c, tv q A' (Tm.len m) c', tv r A2 (Tm.len n) c2]).toArray 24)) := by
    unfold execOp
    simp only [List.map_toArray, List.map_cons, List.map_nil, e, e', e2]
    go_simp
    rfl
  unfold Oper.wp
  rw [hrun]
  exact hK _ _ (hE ▸ hr) ((Below.refl _ _).alloc (Nat.le_refl _) _)

/-! ### calls -/
theorem step_call {i : Nat} {f : Nat} {xs : Array Operand} {tys : Array TypeId} (hop : (ops[i]?).map (·.op) = some (.call { callee := .value (.func f), args := xs, argTypes := tys })) (he : ∀ (args : Array Value) (w : World), (callFunc f args).run Try.prog w = .ok (.enter f args) w)
    (hc : ∀ a w, Ctx ops E D base N i a w → Calls Try.prog f (xs.map a.eval) w fun e w' => ∃ v, e = .returned v ∧ (E i).R v w' ∧ Below w.heap.size w w') : Step Try.prog ops Q E D base N i := by
  intro o ho a w h K hK
  have hxo := op_of ho hop
  obtain ⟨dst, op, ty, pos, after, guard⟩ := o
  have hx' : op = _ := hxo
  subst hx'
  have hrun : (execOp a.eval ⟨dst, .call { callee := .value (.func f), args := xs, argTypes := tys }, ty, pos, after, guard⟩).run Try.prog w = .ok (.enter f (xs.map a.eval)) w := by
    have h1 : (execOp a.eval ⟨dst, .call { callee := .value (.func f), args := xs, argTypes := tys }, ty, pos, after, guard⟩).run Try.prog w = (callFunc f ((#[] ++ xs.map a.eval) ++ #[])).run Try.prog w := rfl
    rw [h1, Array.empty_append, Array.append_empty]
    exact he _ w
  unfold Oper.wp
  rw [hrun]
  show Calls _ _ _ _ _
  refine (hc a w h).mono ?_
  rintro e w' ⟨v, rfl, hv, hb⟩
  exact hK v w' hv hb
theorem makes_R {p : Pay} {l : Fo} {w w' : World} {e : Ending} (h : Makes p l w e w') : ∃ v, e = .returned v ∧ (Kd.term p l).R v w' ∧ Below w.heap.size w w' := by
  obtain ⟨A, c, he, ha, hb⟩ := h
  exact ⟨_, he, ⟨A, c, rfl, ha.mono fun b h => h.2⟩, hb⟩
theorem step_x {i : Nat} {n : Int} (hop : (ops[i]?).map (·.op) = some (.call { callee := .value (.func 43), args := #[.const (.int .i64 n)], argTypes := #[2] })) (hE : E i = .term (0, n, ByteArray.empty) .nil) : Step Try.prog ops Q E D base N i :=
  step_call hop (fun _ _ => by kernel_rfl) fun a w h => by
    rw [show (#[.const (.int .i64 n)] : Array Operand).map a.eval = #[.int .i64 n] by simp [Act.eval]]
    exact (x_any n w).mono fun e w' ⟨he, hb⟩ => ⟨_, he, by rw [hE]; exact ⟨none, 0, rfl, ArgsIn.nil _ _ _⟩, hb⟩
theorem step_a {i : Nat} {s : ByteArray} (hop : (ops[i]?).map (·.op) = some (.call { callee := .value (.func 44), args := #[.const (.string s)], argTypes := #[9] })) (hE : E i = .term (2, 0, s) .nil) : Step Try.prog ops Q E D base N i :=
  step_call hop (fun _ _ => by kernel_rfl) fun a w h => by
    rw [show (#[.const (.string s)] : Array Operand).map a.eval = #[.string s] by simp [Act.eval]]
    exact (a_any s w).mono fun e w' ⟨he, hb⟩ => ⟨_, he, by rw [hE]; exact ⟨none, 0, rfl, ArgsIn.nil _ _ _⟩, hb⟩
theorem step_f {i : Nat} {s : ByteArray} {x : Operand} {F : Fo} (hop : (ops[i]?).map (·.op) = some (.call { callee := .value (.func 42), args := #[.const (.string s), x], argTypes := #[9, 22] })) (hx : Opd ops E D base N i x (.row F)) (hE : E i = .term (3, 0, s) F) : Step Try.prog ops Q E D base N i :=
  step_call hop (fun _ _ => by kernel_rfl) fun a w h => by
    obtain ⟨A, c, e, ha⟩ := hx a w h
    have e1 : (#[.const (.string s), x] : Array Operand).map a.eval = #[.string s, .slice A (Tm.len F) c] := by rw [← e]; simp [Act.eval]
    rw [e1]
    exact (f_any s A (Tm.len F) c w).mono fun e w' ⟨he, hb⟩ => ⟨_, he, by rw [hE]; exact ⟨A, c, rfl, (ha.below hb (Nat.le_refl _)).up hb.size⟩, hb⟩
theorem step_int {i : Nat} {n : Int} (hop : (ops[i]?).map (·.op) = some (.call { callee := .value (.func 27), args := #[.const (.int .i64 n)], argTypes := #[2] })) (hE : E i = .term (1, n, ByteArray.empty) .nil) : Step Try.prog ops Q E D base N i :=
  step_call hop (fun _ _ => by kernel_rfl) fun a w h => by
    rw [show (#[.const (.int .i64 n)] : Array Operand).map a.eval = #[.int .i64 n] by simp [Act.eval]]
    exact (int_any n w).mono fun e w' hm => by
      have := makes_R hm
      rw [hE]
      exact this
theorem step_struct0 {i : Nat} {s : ByteArray} (hop : (ops[i]?).map (·.op) = some (.call { callee := .value (.func 24), args := #[.const (.string s), .const (.slice none 0 0)], argTypes := #[9, 22] })) (hs : Tm.cloneOf (2, 0, s) .nil = ((2, 0, s), .nil)) (hE : E i = .term (2, 0, s) .nil) : Step Try.prog ops Q E D base N i :=
  step_call hop (fun _ _ => by kernel_rfl) fun a w h => by
    rw [show (#[.const (.string s), .const (.slice none 0 0)] : Array Operand).map a.eval = #[.string s, .slice none 0 0] by simp [Act.eval]]
    exact (struct_none s none 0 w).mono fun e w' hm => by
      have := makes_R hm
      rw [hs] at this
      rw [hE]
      exact this
theorem step_canon {i : Nat} {x : Operand} {p p' : Pay} {l l' : Fo} (hop : (ops[i]?).map (·.op) = some (.call { callee := .value (.func 34), args := #[x], argTypes := #[24] })) (hx : Opd ops E D base N i x (.term p l)) (hc : Tm.canonFn p l = (p', l')) (hE : E i = .term p' l') : Step Try.prog ops Q E D base N i :=
  step_call hop (fun _ _ => by kernel_rfl) fun a w h => by
    obtain ⟨A, c, e, ha⟩ := hx a w h
    have e1 : (#[x] : Array Operand).map a.eval = #[tv p A (Tm.len l) c] := by rw [← e]; simp
    rw [e1]
    exact (canon_any p l A c w.heap.size w ha (Nat.le_refl _)).mono fun e w' hm => by
      have := makes_R hm
      rw [hc] at this
      rw [hE]
      exact this
theorem step_valid {i : Nat} {x : Operand} {p : Pay} {l : Fo} {b : Bool} (hop : (ops[i]?).map (·.op) = some (.call { callee := .value (.func 10), args := #[x], argTypes := #[24] })) (hx : Opd ops E D base N i x (.term p l)) (hb : Tm.validB p l = b) (hE : E i = .val (.bool b)) : Step Try.prog ops Q E D base N i :=
  step_call hop (fun _ _ => by kernel_rfl) fun a w h => by
    obtain ⟨A, c, e, ha⟩ := hx a w h
    have e1 : (#[x] : Array Operand).map a.eval = #[tv p A (Tm.len l) c] := by rw [← e]; simp
    rw [e1]
    exact (valid_any p l A c w.heap.size w ha (Nat.le_refl _)).mono fun e w' ⟨he, hbl⟩ => ⟨_, he, by rw [hE, ← hb]; rfl, hbl⟩
theorem step_size {i : Nat} {x : Operand} {p : Pay} {l : Fo} {n : Nat} (hop : (ops[i]?).map (·.op) = some (.call { callee := .value (.func 12), args := #[x], argTypes := #[24] })) (hx : Opd ops E D base N i x (.term p l)) (hn : Tm.sizeB l = n) (hE : E i = .val (.int .i64 n)) : Step Try.prog ops Q E D base N i :=
  step_call hop (fun _ _ => by kernel_rfl) fun a w h => by
    obtain ⟨A, c, e, ha⟩ := hx a w h
    have e1 : (#[x] : Array Operand).map a.eval = #[tv p A (Tm.len l) c] := by rw [← e]; simp
    rw [e1]
    exact (size_any p l A c w.heap.size w ha (Nat.le_refl _)).mono fun e w' ⟨he, hbl⟩ => ⟨_, he, by rw [hE, ← hn]; rfl, hbl⟩
theorem step_same {i : Nat} {x y : Operand} {p q : Pay} {l m : Fo} {b : Bool} (hop : (ops[i]?).map (·.op) = some (.call { callee := .value (.func 15), args := #[x, y], argTypes := #[24, 24] })) (hx : Opd ops E D base N i x (.term p l)) (hy : Opd ops E D base N i y (.term q m)) (hb : (Tm.validB p l && Tm.sameT p l q m) = b) (hE : E i = .val (.bool b)) : Step Try.prog ops Q E D base N i :=
  step_call hop (fun _ _ => by kernel_rfl) fun a w h => by
    obtain ⟨A, c, e, ha⟩ := hx a w h
    obtain ⟨A', c', e', ha'⟩ := hy a w h
    have e1 : (#[x, y] : Array Operand).map a.eval = #[tv p A (Tm.len l) c, tv q A' (Tm.len m) c'] := by rw [← e, ← e']; simp
    rw [e1]
    exact (same_any p l A c q m A' c' w.heap.size w ha ha' (Nat.le_refl _)).mono fun e w' ⟨he, hbl⟩ => ⟨_, he, by rw [hE, ← hb]; rfl, hbl⟩
theorem step_variant {i : Nat} {x y : Operand} {p q : Pay} {l m : Fo} {b : Bool} (hop : (ops[i]?).map (·.op) = some (.call { callee := .value (.func 17), args := #[x, y], argTypes := #[24, 24] })) (hx : Opd ops E D base N i x (.term p l)) (hy : Opd ops E D base N i y (.term q m)) (hb : Tm.variantB p l q m = b) (hE : E i = .val (.bool b)) : Step Try.prog ops Q E D base N i :=
  step_call hop (fun _ _ => by kernel_rfl) fun a w h => by
    obtain ⟨A, c, e, ha⟩ := hx a w h
    obtain ⟨A', c', e', ha'⟩ := hy a w h
    have e1 : (#[x, y] : Array Operand).map a.eval = #[tv p A (Tm.len l) c, tv q A' (Tm.len m) c'] := by rw [← e, ← e']; simp
    rw [e1]
    exact (variant_any p l A c q m A' c' w.heap.size w ha ha' (Nat.le_refl _)).mono fun e w' ⟨he, hbl⟩ => ⟨_, he, by rw [hE, ← hb]; rfl, hbl⟩

theorem makes2_R {q : (Pay × Fo) × Int} {w w' : World} {e : Ending} (h : Makes2 q w e w') : ∃ v, e = .returned v ∧ (Kd.pair q.1.1 q.1.2 q.2).R v w' ∧ Below w.heap.size w w' := by
  obtain ⟨A, c, he, ha, hb⟩ := h
  exact ⟨_, he, ⟨A, c, rfl, ha.mono fun b h => h.2⟩, hb⟩
theorem step_vars {i : Nat} {x : Operand} {p : Pay} {l : Fo} {L : List Int} (hop : (ops[i]?).map (·.op) = some (.call { callee := .value (.func 35), args := #[x], argTypes := #[24] })) (hx : Opd ops E D base N i x (.term p l)) (hL : Tm.varsFn p l = L) (hE : E i = .ints L) : Step Try.prog ops Q E D base N i :=
  step_call hop (fun _ _ => by kernel_rfl) fun a w h => by
    obtain ⟨A, c, e, ha⟩ := hx a w h
    have e1 : (#[x] : Array Operand).map a.eval = #[tv p A (Tm.len l) c] := by rw [← e]; simp
    rw [e1]
    exact (vars_any p l A c w.heap.size w ha (Nat.le_refl _)).mono fun e w' ⟨A', n', c', he, hl, hb⟩ => by
      rw [hL] at hl
      have hn := hl.len
      subst hn
      exact ⟨_, he, by rw [hE]; exact ⟨A', c', rfl, hl⟩, hb⟩
theorem step_rename {i : Nat} {x : Operand} {d e2 : Int} {p p' : Pay} {l l' : Fo} (hop : (ops[i]?).map (·.op) = some (.call { callee := .value (.func 19), args := #[x, .const (.int .i64 d)], argTypes := #[24, 2] })) (hx : Opd ops E D base N i x (.term p l)) (hr : Tm.renameOf p l d = ((p', l'), e2)) (hE : E i = .pair p' l' e2) : Step Try.prog ops Q E D base N i :=
  step_call hop (fun _ _ => by kernel_rfl) fun a w h => by
    obtain ⟨A, c, e, ha⟩ := hx a w h
    have e1 : (#[x, .const (.int .i64 d)] : Array Operand).map a.eval = #[tv p A (Tm.len l) c, .int .i64 d] := by rw [← e]; simp [Act.eval]
    rw [e1]
    exact (rename_any p l A c w.heap.size d w ha (Nat.le_refl _)).mono fun e w' hm => by
      have := makes2_R hm
      rw [hr] at this
      rw [hE]
      exact this
theorem step_replace {i : Nat} {x y : Operand} {v e2 : Int} {p p' q : Pay} {l l' m : Fo} (hop : (ops[i]?).map (·.op) = some (.call { callee := .value (.func 22), args := #[x, .const (.int .i64 v), y], argTypes := #[24, 2, 24] })) (hx : Opd ops E D base N i x (.term p l)) (hy : Opd ops E D base N i y (.term q m)) (hr : Tm.replaceOf p l v q m = ((p', l'), e2)) (hE : E i = .pair p' l' e2) : Step Try.prog ops Q E D base N i :=
  step_call hop (fun _ _ => by kernel_rfl) fun a w h => by
    obtain ⟨A, c, e, ha⟩ := hx a w h
    obtain ⟨A', c', e', ha'⟩ := hy a w h
    have e1 : (#[x, .const (.int .i64 v), y] : Array Operand).map a.eval = #[tv p A (Tm.len l) c, .int .i64 v, tv q A' (Tm.len m) c'] := by rw [← e, ← e']; simp [Act.eval]
    rw [e1]
    exact (replace_any p l A c w.heap.size v q m A' c' w ha ha' (Nat.le_refl _)).mono fun e w' hm => by
      have := makes2_R hm
      rw [hr] at this
      rw [hE]
      exact this
theorem step_list {i : Nat} {x y : Operand} {F : Fo} {p p' : Pay} {l l' : Fo} (hop : (ops[i]?).map (·.op) = some (.call { callee := .value (.func 36), args := #[x, y], argTypes := #[22, 24] })) (hx : Opd ops E D base N i x (.row F)) (hy : Opd ops E D base N i y (.term p l)) (hr : Tm.listFn F p l = (p', l')) (hE : E i = .term p' l') : Step Try.prog ops Q E D base N i :=
  step_call hop (fun _ _ => by kernel_rfl) fun a w h => by
    obtain ⟨A, c, e, ha⟩ := hx a w h
    obtain ⟨A', c', e', ha'⟩ := hy a w h
    have e1 : (#[x, y] : Array Operand).map a.eval = #[.slice A (Tm.len F) c, tv p A' (Tm.len l) c'] := by rw [← e, ← e']; simp
    rw [e1]
    exact (list_any F A c p l A' c' w.heap.size w ha ha' (Nat.le_refl _)).mono fun e w' hm => by
      have := makes_R hm
      rw [hr] at this
      rw [hE]
      exact this
theorem step_elems {i : Nat} {x : Operand} {F : Fo} {p p' : Pay} {l l' : Fo} (hop : (ops[i]?).map (·.op) = some (.call { callee := .value (.func 37), args := #[x], argTypes := #[24] })) (hx : Opd ops E D base N i x (.term p l)) (hr : Tm.elemsFn p l = (F, p', l')) (hE : E i = .rowPair F p' l') : Step Try.prog ops Q E D base N i :=
  step_call hop (fun _ _ => by kernel_rfl) fun a w h => by
    obtain ⟨A, c, e, ha⟩ := hx a w h
    have e1 : (#[x] : Array Operand).map a.eval = #[tv p A (Tm.len l) c] := by rw [← e]; simp
    rw [e1]
    exact (elems_any p l A c w.heap.size w ha (Nat.le_refl _)).mono fun e w' ⟨A1, c1, A2, c2, he, h1, h2, hb⟩ => by
      rw [hr] at he h1 h2
      exact ⟨_, he, by rw [hE]; exact ⟨A1, c1, A2, c2, rfl, h1.mono fun b h => h.2, h2.mono fun b h => h.2⟩, hb⟩
theorem step_pair0 {i : Nat} {x : Operand} {p : Pay} {l : Fo} {e2 : Int} (hop : (ops[i]?).map (·.op) = some (.extract x 0)) (hx : Opd ops E D base N i x (.pair p l e2)) (hE : E i = .term p l) : Step Try.prog ops Q E D base N i :=
  step_still hop hE fun a w h dst ty' pos after guard => by
    obtain ⟨A, c, e, ha⟩ := hx a w h
    refine ⟨tv p A (Tm.len l) c, ?_, A, c, rfl, ha⟩
    unfold execOp
    simp only [e]
    go_simp
theorem step_pair1 {i : Nat} {x : Operand} {p : Pay} {l : Fo} {e2 : Int} (hop : (ops[i]?).map (·.op) = some (.extract x 1)) (hx : Opd ops E D base N i x (.pair p l e2)) (hE : E i = .val (.int .i64 e2)) : Step Try.prog ops Q E D base N i :=
  step_still hop hE fun a w h dst ty' pos after guard => by
    obtain ⟨A, c, e, ha⟩ := hx a w h
    refine ⟨.int .i64 e2, ?_, rfl⟩
    unfold execOp
    simp only [e]
    go_simp
theorem step_rowPair0 {i : Nat} {x : Operand} {F : Fo} {p : Pay} {l : Fo} (hop : (ops[i]?).map (·.op) = some (.extract x 0)) (hx : Opd ops E D base N i x (.rowPair F p l)) (hE : E i = .row F) : Step Try.prog ops Q E D base N i :=
  step_still hop hE fun a w h dst ty' pos after guard => by
    obtain ⟨A, c, A', c', e, ha, ha'⟩ := hx a w h
    refine ⟨.slice A (Tm.len F) c, ?_, A, c, rfl, ha⟩
    unfold execOp
    simp only [e]
    go_simp
theorem step_rowPair1 {i : Nat} {x : Operand} {F : Fo} {p : Pay} {l : Fo} (hop : (ops[i]?).map (·.op) = some (.extract x 1)) (hx : Opd ops E D base N i x (.rowPair F p l)) (hE : E i = .term p l) : Step Try.prog ops Q E D base N i :=
  step_still hop hE fun a w h dst ty' pos after guard => by
    obtain ⟨A, c, A', c', e, ha, ha'⟩ := hx a w h
    refine ⟨tv p A' (Tm.len l) c', ?_, A', c', rfl, ha'⟩
    unfold execOp
    simp only [e]
    go_simp
end
end Go.Proofs.Ytmljkhofahgelaa
