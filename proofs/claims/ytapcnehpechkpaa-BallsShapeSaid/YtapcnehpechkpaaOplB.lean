/-
  Laws of operations by slots, more of them: fields of terms, strings, what a function returns.
-/
import Derived.Test.YtapcnehpechkpaaEnv
import Derived.Test.YtapcnehpechkpaaBw
namespace Go.Proofs.Ytapcnehpechkpaa
set_option linter.unusedVariables false
set_option linter.unusedSimpArgs false
set_option maxRecDepth 100000
open Go.RowKit
section
variable {ops : Array Oper} {Q : Exit → Act → World → Prop} {E : Nat → Kd} {D : Nat → Nat} {base : Nat → Option Kd} {N : Nat}
theorem step_field0 {i : Nat} {x : Operand} {p : Pay} {l : Fo} (hop : (ops[i]?).map (·.op) = some (.fieldAddr 24 x 0)) (hx : Opd ops E D base N i x (.ptrT p l)) (hE : E i = .ptrI p.1) : Step Try.prog ops Q E D base N i :=
  step_still hop hE fun a w h dst ty' pos after guard => by
    obtain ⟨b, o, A, c, e, hb, hn⟩ := hx a w h
    refine ⟨.pointer (some ⟨b, o, none⟩), ?_, _, rfl, hb, hn.kind⟩
    unfold execOp
    simp only [e]
    go_simp
theorem step_field1 {i : Nat} {x : Operand} {p : Pay} {l : Fo} (hop : (ops[i]?).map (·.op) = some (.fieldAddr 24 x 1)) (hx : Opd ops E D base N i x (.ptrT p l)) (hE : E i = .ptrI p.2.1) : Step Try.prog ops Q E D base N i :=
  step_still hop hE fun a w h dst ty' pos after guard => by
    obtain ⟨b, o, A, c, e, hb, hn⟩ := hx a w h
    refine ⟨.pointer (some ⟨b, o + 1, none⟩), ?_, _, rfl, hb, hn.num⟩
    unfold execOp
    simp only [e]
    go_simp
theorem step_field2 {i : Nat} {x : Operand} {p : Pay} {l : Fo} (hop : (ops[i]?).map (·.op) = some (.fieldAddr 24 x 2)) (hx : Opd ops E D base N i x (.ptrT p l)) (hE : E i = .ptrS p.2.2) : Step Try.prog ops Q E D base N i :=
  step_still hop hE fun a w h dst ty' pos after guard => by
    obtain ⟨b, o, A, c, e, hb, hn⟩ := hx a w h
    refine ⟨.pointer (some ⟨b, o + 2, none⟩), ?_, _, rfl, hb, hn.name⟩
    unfold execOp
    simp only [e]
    go_simp
theorem step_field3 {i : Nat} {x : Operand} {p : Pay} {l : Fo} (hop : (ops[i]?).map (·.op) = some (.fieldAddr 24 x 3)) (hx : Opd ops E D base N i x (.ptrT p l)) (hE : E i = .ptrR l) : Step Try.prog ops Q E D base N i :=
  step_still hop hE fun a w h dst ty' pos after guard => by
    obtain ⟨b, o, A, c, e, hb, hn⟩ := hx a w h
    refine ⟨.pointer (some ⟨b, o + 3, none⟩), ?_, _, A, c, rfl, hb, hn.args, hn.inn⟩
    unfold execOp
    simp only [e]
    go_simp
theorem step_load_int3 {i : Nat} {x : Operand} {n : Int} (hop : (ops[i]?).map (·.op) = some (.load 3 x)) (hx : Opd ops E D base N i x (.ptrI n)) (hE : E i = .val (.int .i64 n)) : Step Try.prog ops Q E D base N i :=
  step_still hop hE fun a w h dst ty' pos after guard => by
    obtain ⟨ad, e, hb, hc⟩ := hx a w h
    refine ⟨.int .i64 n, ?_, rfl⟩
    unfold execOp
    simp only [e]
    go_simp
theorem step_load_string {i : Nat} {x : Operand} {s : ByteArray} (hop : (ops[i]?).map (·.op) = some (.load 9 x)) (hx : Opd ops E D base N i x (.ptrS s)) (hE : E i = .val (.string s)) : Step Try.prog ops Q E D base N i :=
  step_still hop hE fun a w h dst ty' pos after guard => by
    obtain ⟨ad, e, hb, hc⟩ := hx a w h
    refine ⟨.string s, ?_, rfl⟩
    unfold execOp
    simp only [e]
    go_simp
theorem step_load_row {i : Nat} {x : Operand} {F : Fo} (hop : (ops[i]?).map (·.op) = some (.load 22 x)) (hx : Opd ops E D base N i x (.ptrR F)) (hE : E i = .row F) : Step Try.prog ops Q E D base N i :=
  step_still hop hE fun a w h dst ty' pos after guard => by
    obtain ⟨ad, A, c, e, hb, hc, hA⟩ := hx a w h
    refine ⟨.slice A (Tm.len F) c, ?_, A, c, rfl, hA⟩
    generalize Tm.len F = n at hc
    unfold execOp
    simp only [e]
    go_simp
theorem step_ge_int {i : Nat} {x y : Operand} {m n : Int} {b : Bool} (hop : (ops[i]?).map (·.op) = some (.binOp .geq 3 x y 3)) (hx : Opd ops E D base N i x (.val (.int .i64 m))) (hy : Opd ops E D base N i y (.val (.int .i64 n))) (hb : (decide (n ≤ m)) = b) (hE : E i = .val (.bool b)) : Step Try.prog ops Q E D base N i :=
  step_still hop hE fun a w h dst ty' pos after guard => by
    have e : a.eval x = .int .i64 m := hx a w h
    have e' : a.eval y = .int .i64 n := hy a w h
    refine ⟨.bool b, ?_, rfl⟩
    rw [← hb]
    unfold execOp
    simp only [e, e']
    go_simp
theorem step_le_int {i : Nat} {x y : Operand} {m n : Int} {b : Bool} (hop : (ops[i]?).map (·.op) = some (.binOp .leq 3 x y 3)) (hx : Opd ops E D base N i x (.val (.int .i64 m))) (hy : Opd ops E D base N i y (.val (.int .i64 n))) (hb : (decide (m ≤ n)) = b) (hE : E i = .val (.bool b)) : Step Try.prog ops Q E D base N i :=
  step_still hop hE fun a w h dst ty' pos after guard => by
    have e : a.eval x = .int .i64 m := hx a w h
    have e' : a.eval y = .int .i64 n := hy a w h
    refine ⟨.bool b, ?_, rfl⟩
    rw [← hb]
    unfold execOp
    simp only [e, e']
    go_simp
theorem step_sub {i : Nat} {x y : Operand} {m n s : Int} (hop : (ops[i]?).map (·.op) = some (.binOp .sub 3 x y 3)) (hx : Opd ops E D base N i x (.val (.int .i64 m))) (hy : Opd ops E D base N i y (.val (.int .i64 n))) (hs : IntKind.i64.wrap (m - n) = s) (hE : E i = .val (.int .i64 s)) : Step Try.prog ops Q E D base N i :=
  step_still hop hE fun a w h dst ty' pos after guard => by
    have e : a.eval x = .int .i64 m := hx a w h
    have e' : a.eval y = .int .i64 n := hy a w h
    refine ⟨.int .i64 s, ?_, rfl⟩
    rw [← hs]
    unfold execOp
    simp only [e, e']
    go_simp
/-! ### calls -/
theorem step_eqb_bool {i : Nat} {x y : Operand} {m n b : Bool} (hop : (ops[i]?).map (·.op) = some (.binOp .eql 4 x y 4)) (hx : Opd ops E D base N i x (.val (.bool m))) (hy : Opd ops E D base N i y (.val (.bool n))) (hb : (m == n) = b) (hE : E i = .val (.bool b)) : Step Try.prog ops Q E D base N i :=
  step_still hop hE fun a w h dst ty' pos after guard => by
    have e : a.eval x = .bool m := hx a w h
    have e' : a.eval y = .bool n := hy a w h
    refine ⟨.bool b, ?_, rfl⟩
    rw [← hb]
    unfold execOp
    simp only [e, e']
    cases m <;> cases n <;> go_simp
theorem step_ne_bool {i : Nat} {x y : Operand} {m n b : Bool} (hop : (ops[i]?).map (·.op) = some (.binOp .neq 4 x y 4)) (hx : Opd ops E D base N i x (.val (.bool m))) (hy : Opd ops E D base N i y (.val (.bool n))) (hb : (m != n) = b) (hE : E i = .val (.bool b)) : Step Try.prog ops Q E D base N i :=
  step_still hop hE fun a w h dst ty' pos after guard => by
    have e : a.eval x = .bool m := hx a w h
    have e' : a.eval y = .bool n := hy a w h
    refine ⟨.bool b, ?_, rfl⟩
    rw [← hb]
    unfold execOp
    simp only [e, e']
    cases m <;> cases n <;> go_simp <;> exact hb.symm
theorem step_ge_int64 {i : Nat} {x y : Operand} {m n : Int} {b : Bool} (hop : (ops[i]?).map (·.op) = some (.binOp .geq 2 x y 2)) (hx : Opd ops E D base N i x (.val (.int .i64 m))) (hy : Opd ops E D base N i y (.val (.int .i64 n))) (hb : (decide (n ≤ m)) = b) (hE : E i = .val (.bool b)) : Step Try.prog ops Q E D base N i :=
  step_still hop hE fun a w h dst ty' pos after guard => by
    have e : a.eval x = .int .i64 m := hx a w h
    have e' : a.eval y = .int .i64 n := hy a w h
    refine ⟨.bool b, ?_, rfl⟩
    rw [← hb]
    unfold execOp
    simp only [e, e']
    go_simp
end
/-- At the end: the result is a slot. -/
theorem law_out {fn : Func} {t : Tmp} (hres : fn.results = #[.tmp t]) {R : Ending → World → Prop} {v : Value} {a : Act} {w : World} (h : (Kd.val v).R (a.tmps.getD t undef) w) (hd : a.defers = []) (hR : R (.returned v) w) : bodyPost Try.prog fn R .ret a w := by
  have h' : a.tmps.getD t undef = v := h
  refine bodyPost_ret (v := v) ?_ hd hR
  rw [← h']
  exact results_tmp hres a.tmps Try.prog w
/-- At the end: the results are two slots. -/
theorem law_out2 {fn : Func} {t u : Tmp} (hres : fn.results = #[.tmp t, .tmp u]) {R : Ending → World → Prop} {v v' : Value} {a : Act} {w : World} (h : (Kd.val v).R (a.tmps.getD t undef) w) (h2 : (Kd.val v').R (a.tmps.getD u undef) w) (hd : a.defers = []) (hR : R (.returned (.tuple #[v, v'])) w) : bodyPost Try.prog fn R .ret a w := by
  have h' : a.tmps.getD t undef = v := h
  have h2' : a.tmps.getD u undef = v' := h2
  refine bodyPost_ret (v := .tuple #[v, v']) ?_ hd hR
  have h3 : a.tmps[t]?.getD undef = v := by simpa using h'
  have h4 : a.tmps[u]?.getD undef = v' := by simpa using h2'
  simp [results, hres, h3, h4]
theorem slots_nil {w : World} {tm : Array Value} : ∀ t k, look [] t = some k → k.R (tm.getD t undef) w := fun t k h => by cases h
theorem slots_cons {w : World} {tm : Array Value} {env : Env} (d : Nat) {k0 : Kd} (h0 : k0.R (tm.getD d undef) w) (h : ∀ t k, look env t = some k → k.R (tm.getD t undef) w) : ∀ t k, look ((d, k0) :: env) t = some k → k.R (tm.getD t undef) w := by
  intro t k hk
  rw [look_cons] at hk
  by_cases e : d = t
  · subst e
    rw [if_pos (by simp)] at hk
    cases hk
    exact h0
  · rw [if_neg (by simpa using e)] at hk
    exact h t k hk
end Go.Proofs.Ytapcnehpechkpaa
