/-
  More kinds of operations, for the statements' own functions.
-/
import Derived.Test.YtmljkhofahgelaaSeq
import Derived.Test.YtmljkhofahgelaaAwake
import Derived.Test.YtmljkhofahgelaaVariant
namespace Go.Proofs.Ytmljkhofahgelaa
set_option linter.unusedVariables false
set_option linter.unusedSimpArgs false
open Go.RowKit

/-- The operations of a function's region, wherever it stands. -/
def findReg (id : Nat) : Code → Option (Array Oper)
  | .region k ops _ => if k = id then some ops else none
  | .seq a b => match findReg id a with
    | some r => some r
    | none => findReg id b
  | .cond _ a b => match findReg id a with
    | some r => some r
    | none => findReg id b
  | .block _ a => findReg id a
  | .loop a => findReg id a
  | _ => none
section
variable {ops : Array Oper} {Q : Exit → Act → World → Prop} {E : Nat → Kd} {D : Nat → Nat} {base : Nat → Option Kd} {N : Nat}

/-- A region that draws its order, guards that are false included. -/
def goodOp2 (D : Nat → Nat) (base : Nat → Option Kd) (N : Nat) (E : Nat → Kd) (i : Nat) (o : Oper) : Bool := goodOp D base N (fun g => (E g).isTrue) i o
theorem region_steps2 {id : Nat} (hop : ∀ i o, ops[i]? = some o → goodOp D base N (fun g => (E g).isTrue) i o = true) (hD : ∀ i j, i < ops.size → j < ops.size → D i = D j → i = j) (hs : ∀ i, i < ops.size → Step Try.prog ops Q E D base N i)
    {a : Act} {w : World} (hsize : a.tmps.size = N) (hdef : a.defers = []) (hbase : ∀ t k, base t = some k → k.R (a.tmps.getD t undef) w)
    (hQ : ∀ a' w', Sq E D base N w ops.size a' w' → Q .normal a' w') : (Code.region id ops true).wp Try.prog Q a w := by
  refine wp_region_any (by kernel_rfl) (wpAny_steps hop hD hs w (fun listed a' w' hl st => hQ a' w' ⟨st.size, st.defers, st.world, st.base, fun j hj => st.done j hj (hl j hj)⟩) ops.size _ a _ ?_ (by simp) ?_)
  · unfold cnt
    exact Nat.le_trans (List.countP_le_length) (by simp)
  · refine ⟨hsize, hdef, ⟨rfl, rfl, rfl, Nat.le_refl _, fun _ _ => rfl⟩, fun t k hk => Kd.keep (hbase t k hk) ⟨rfl, rfl, rfl, Nat.le_refl _, fun _ _ => rfl⟩, fun j hj hl => ?_⟩
    simp [hj] at hl
/-- An operation that is guarded by an earlier one, in the order of the text. -/
theorem seq_one_g {w0 w : World} {i : Nat} {rest : List Nat} {a : Act} (g : Nat) (b : Bool) (hs : Step Try.prog ops Q E D base N i) (hg : (ops[i]?).map (fun o => goodSeq D base N i { o with guard := none }) = some true)
    (hgd : (ops[i]?).map (·.guard) = some (some (g, b))) (hgi : g < i) (hE : E g = .val (.bool b)) (hgo : (ops[g]?).bind (·.dst) = some (D g)) (hgN : D g < N) (st : Sq E D base N w0 i a w)
    (h : ∀ a' w', Sq E D base N w0 (i + 1) a' w' → wpOps Try.prog ops Q rest a' w') : wpOps Try.prog ops Q (i :: rest) a w := by
  cases ho : ops[i]? with
  | none => rw [ho] at hg; cases hg
  | some o =>
    rw [ho] at hg hgd
    obtain ⟨h2, h3, h4, h5, h6⟩ := goodSeq_spec (Option.some.inj hg)
    have hgd : o.guard = some (g, b) := Option.some.inj hgd
    have hv := st.done g hgi
    rw [hE] at hv
    have hv' : a.tmps.getD (D g) undef = .bool b := hv
    have hlt : D g < a.tmps.size := by rw [st.size]; exact hgN
    have ht : a.tmps[D g]? = some (.bool b) := by
      rw [Array.getElem?_eq_getElem hlt]
      have : a.tmps.getD (D g) undef = a.tmps[D g] := by simp [hlt]
      rw [← this, hv']
    have hy : yielded ops a.tmps g = some b := by
      unfold yielded
      rw [hgo]
      simp only [Option.bind_some, ht]
    have hw : Region.wanted o (yielded ops a.tmps) = true := by
      unfold Region.wanted
      rw [hgd]
      simp only [hy]
      cases b <;> rfl
    simp only [wpOps, ho, hw, if_true]
    refine .inl (hs o ho a w ⟨st.size, st.base, fun j o' ho' hji _ => st.done j hji⟩ _ fun v w' hv hb => ?_)
    have h3' : o.dst = some (D i) := h3
    rw [h3']
    exact h _ _ (st.put h4 h5 h6 hv hb)

theorem step_box {i : Nat} {x : Operand} {p : Pay} {l : Fo} (hop : (ops[i]?).map (·.op) = some (.box 24 x)) (hx : Opd ops E D base N i x (.term p l)) (hE : E i = .ptrT p l) : Step Try.prog ops Q E D base N i := by
  intro o ho a w hc K hK
  have hxo := op_of ho hop
  obtain ⟨dst, op, ty, pos, after, guard⟩ := o
  have hx' : op = _ := hxo
  subst hx'
  obtain ⟨A, c, e, ha⟩ := hx a w hc
  have hr := box_R w p l A c ha
  have hrun : (execOp a.eval ⟨dst, .box 24 x, ty, pos, after, guard⟩).run Try.prog w = .ok (.value (.pointer (some ⟨w.heap.size, 0, none⟩))) (w.alloc (.cells #[.int .i64 p.1, .int .i64 p.2.1, .string p.2.2, .slice A (Tm.len l) c] 24)) := by
    generalize Tm.len l = n at e
    unfold execOp
    simp only [e]
    go_simp
  unfold Oper.wp
  rw [hrun]
  exact hK _ _ (hE ▸ hr) ((Below.refl _ _).alloc (Nat.le_refl _) _)
theorem step_eq_bool {i : Nat} {x y : Operand} {b : Bool} (hop : (ops[i]?).map (·.op) = some (.binOp .eql 4 x y 4)) (hx : Opd ops E D base N i x (.val (.bool b))) (hy : Opd ops E D base N i y (.val (.bool b))) (hE : E i = .val (.bool true)) : Step Try.prog ops Q E D base N i :=
  step_still hop hE fun a w h dst ty' pos after guard => by
    have e : a.eval x = .bool b := hx a w h
    have e' : a.eval y = .bool b := hy a w h
    refine ⟨.bool true, ?_, rfl⟩
    unfold execOp
    simp only [e, e']
    cases b <;> go_simp
theorem step_eqs_int {i : Nat} {x y : Operand} {n : Int} (hop : (ops[i]?).map (·.op) = some (.binOp .eql 3 x y 3)) (hx : Opd ops E D base N i x (.val (.int .i64 n))) (hy : Opd ops E D base N i y (.val (.int .i64 n))) (hE : E i = .val (.bool true)) : Step Try.prog ops Q E D base N i :=
  step_eq_int hop hx hy (by rw [hE]; simp)
theorem step_eqs_err {i : Nat} {x y : Operand} {n : Int} (hop : (ops[i]?).map (·.op) = some (.binOp .eql 29 x y 29)) (hx : Opd ops E D base N i x (.val (.int .i64 n))) (hy : Opd ops E D base N i y (.val (.int .i64 n))) (hE : E i = .val (.bool true)) : Step Try.prog ops Q E D base N i :=
  step_eq_err hop hx hy (by rw [hE]; simp)
theorem step_pick_no {i : Nat} {c x y : Operand} {k : Kd} (hop : (ops[i]?).map (·.op) = some (.pick c x y)) (hc : Opd ops E D base N i c (.val (.bool false))) (hy : Opd ops E D base N i y k) (hE : E i = k) : Step Try.prog ops Q E D base N i :=
  step_still hop hE fun a w h dst ty pos after guard => by
    have e : a.eval c = .bool false := hc a w h
    refine ⟨a.eval y, ?_, hy a w h⟩
    show ((do pure (Next.value (if ← asBool (a.eval c) then a.eval x else a.eval y)) : Sem Next)).run _ w = _
    rw [e]
    rfl
theorem step_awake {i : Nat} (hop : (ops[i]?).map (·.op) = some (.call { callee := .value (.func 14), args := #[], argTypes := #[] })) (hE : E i = .val (.bool true)) : Step Try.prog ops Q E D base N i :=
  step_call hop (fun _ _ => by kernel_rfl) fun a w h => by
    rw [show (#[] : Array Operand).map a.eval = #[] by simp]
    exact (awake_any w).mono fun e w' ⟨he, hbl⟩ => ⟨.bool true, he, by rw [hE]; exact rfl, hbl⟩
theorem step_rvalid {i : Nat} {x : Operand} {p : Pay} {l : Fo} {b : Bool} (hop : (ops[i]?).map (·.op) = some (.call { callee := .value (.func 11), args := #[x], argTypes := #[24] })) (hx : Opd ops E D base N i x (.term p l)) (hb : Tm.validB p l = b) (hE : E i = .val (.bool b)) : Step Try.prog ops Q E D base N i :=
  step_call hop (fun _ _ => by kernel_rfl) fun a w h => by
    obtain ⟨A, c, e, ha⟩ := hx a w h
    have e1 : (#[x] : Array Operand).map a.eval = #[tv p A (Tm.len l) c] := by rw [← e]; simp
    rw [e1]
    exact (rvalid_any p l A c w.heap.size w ha (Nat.le_refl _)).mono fun e w' ⟨he, hbl⟩ => ⟨_, he, by rw [hE, ← hb]; rfl, hbl⟩
theorem step_rsize {i : Nat} {x : Operand} {p : Pay} {l : Fo} {n : Int} (hop : (ops[i]?).map (·.op) = some (.call { callee := .value (.func 13), args := #[x], argTypes := #[24] })) (hx : Opd ops E D base N i x (.term p l)) (hn : (Tm.sizeB l : Int) = n) (hE : E i = .val (.int .i64 n)) : Step Try.prog ops Q E D base N i :=
  step_call hop (fun _ _ => by kernel_rfl) fun a w h => by
    obtain ⟨A, c, e, ha⟩ := hx a w h
    have e1 : (#[x] : Array Operand).map a.eval = #[tv p A (Tm.len l) c] := by rw [← e]; simp
    rw [e1]
    exact (rsize_any p l A c w.heap.size w ha (Nat.le_refl _)).mono fun e w' ⟨he, hbl⟩ => ⟨_, he, by rw [hE, ← hn]; rfl, hbl⟩
theorem step_rsame {i : Nat} {x y : Operand} {p q : Pay} {l m : Fo} {b : Bool} (hop : (ops[i]?).map (·.op) = some (.call { callee := .value (.func 16), args := #[x, y], argTypes := #[24, 24] })) (hx : Opd ops E D base N i x (.term p l)) (hy : Opd ops E D base N i y (.term q m)) (hb : (Tm.validB p l && Tm.sameT p l q m) = b) (hE : E i = .val (.bool b)) : Step Try.prog ops Q E D base N i :=
  step_call hop (fun _ _ => by kernel_rfl) fun a w h => by
    obtain ⟨A, c, e, ha⟩ := hx a w h
    obtain ⟨A', c', e', ha'⟩ := hy a w h
    have e1 : (#[x, y] : Array Operand).map a.eval = #[tv p A (Tm.len l) c, tv q A' (Tm.len m) c'] := by rw [← e, ← e']; simp
    rw [e1]
    exact (rsame_any p l A c q m A' c' w.heap.size w ha ha' (Nat.le_refl _)).mono fun e w' ⟨he, hbl⟩ => ⟨_, he, by rw [hE, ← hb]; rfl, hbl⟩
theorem step_lsame {i : Nat} {x y : Operand} {p q : Pay} {l m : Fo} {b : Bool} (hop : (ops[i]?).map (·.op) = some (.call { callee := .value (.func 21), args := #[x, y], argTypes := #[24, 24] })) (hx : Opd ops E D base N i x (.term p l)) (hy : Opd ops E D base N i y (.term q m)) (hb : (Tm.validB p l && Tm.sameT p l q m) = b) (hE : E i = .val (.bool b)) : Step Try.prog ops Q E D base N i :=
  step_call hop (fun _ _ => by kernel_rfl) fun a w h => by
    obtain ⟨A, c, e, ha⟩ := hx a w h
    obtain ⟨A', c', e', ha'⟩ := hy a w h
    have e1 : (#[x, y] : Array Operand).map a.eval = #[tv p A (Tm.len l) c, tv q A' (Tm.len m) c'] := by rw [← e, ← e']; simp
    rw [e1]
    exact (lsame_any p l A c q m A' c' w.heap.size w ha ha' (Nat.le_refl _)).mono fun e w' ⟨he, hbl⟩ => ⟨_, he, by rw [hE, ← hb]; rfl, hbl⟩
theorem step_rvariant {i : Nat} {x y : Operand} {p q : Pay} {l m : Fo} {b : Bool} (hop : (ops[i]?).map (·.op) = some (.call { callee := .value (.func 18), args := #[x, y], argTypes := #[24, 24] })) (hx : Opd ops E D base N i x (.term p l)) (hy : Opd ops E D base N i y (.term q m)) (hb : Tm.variantB p l q m = b) (hE : E i = .val (.bool b)) : Step Try.prog ops Q E D base N i :=
  step_call hop (fun _ _ => by kernel_rfl) fun a w h => by
    obtain ⟨A, c, e, ha⟩ := hx a w h
    obtain ⟨A', c', e', ha'⟩ := hy a w h
    have e1 : (#[x, y] : Array Operand).map a.eval = #[tv p A (Tm.len l) c, tv q A' (Tm.len m) c'] := by rw [← e, ← e']; simp
    rw [e1]
    exact (rvariant_any p l A c q m A' c' w.heap.size w ha ha' (Nat.le_refl _)).mono fun e w' ⟨he, hbl⟩ => ⟨_, he, by rw [hE, ← hb]; rfl, hbl⟩
/-- At the end: the result is a slot. -/
theorem law_ret {fn : Func} {t : Tmp} (hres : fn.results = #[.tmp t]) {R : Ending → World → Prop} {a : Act} {w : World} (h : (Kd.val (.bool true)).R (a.tmps.getD t undef) w) (hd : a.defers = []) (hR : R (.returned (.bool true)) w) : Code.ret.wp Try.prog (bodyPost Try.prog fn R) a w := by
  refine wp_ret ?_
  have h' : a.tmps.getD t undef = .bool true := h
  refine bodyPost_ret (v := .bool true) ?_ hd hR
  rw [← h']
  exact results_tmp hres a.tmps Try.prog w
end
end Go.Proofs.Ytmljkhofahgelaa
