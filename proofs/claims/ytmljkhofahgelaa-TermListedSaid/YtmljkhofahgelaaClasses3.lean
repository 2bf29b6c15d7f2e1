/-
  More kinds of operations: calls whose arguments are slots, comparisons, sums, elements.
-/
import Derived.Test.YtmljkhofahgelaaEnv
import Derived.Test.YtmljkhofahgelaaMath2
import Derived.Test.YtmljkhofahgelaaRReplace
import Derived.Test.YtmljkhofahgelaaInds
namespace Go.Proofs.Ytmljkhofahgelaa
set_option linter.unusedVariables false
set_option linter.unusedSimpArgs false
open Go.RowKit

namespace Tm
/-- What Struct returns. -/
def structFn (s : ByteArray) (F : Fo) : Pay × Fo := if len F = 0 then cloneOf (2, 0, s) .nil else cloneOf (3, 0, s) F
end Tm
theorem cloneOf_int (n : Int) : Tm.cloneOf (1, n, ByteArray.empty) .nil = ((1, n, ByteArray.empty), .nil) := by
  unfold Tm.cloneOf
  exact if_pos (by unfold Tm.validB Tm.goodB; simp [Tm.nodeB, Tm.size, Tm.len, Tm.allB])
section
variable {ops : Array Oper} {Q : Exit → Act → World → Prop} {E : Nat → Kd} {D : Nat → Nat} {base : Nat → Option Kd} {N : Nat}
theorem step_rename2 {i : Nat} {x y : Operand} {p : Pay} {l : Fo} {d : Int} {p' : Pay} {l' : Fo} {e' : Int} (hop : (ops[i]?).map (·.op) = some (.call { callee := .value (.func 19), args := #[x, y], argTypes := #[24, 2] })) (hx : Opd ops E D base N i x (.term p l)) (hy : Opd ops E D base N i y (.val (.int .i64 d))) (hr : Tm.renameOf p l d = ((p', l'), e')) (hE : E i = .pair p' l' e') : Step Try.prog ops Q E D base N i :=
  step_call hop (fun _ _ => by kernel_rfl) fun a w h => by
    obtain ⟨Ax, cx, ex, ax⟩ := hx a w h
    have ey : a.eval y = .int .i64 d := hy a w h
    have e1 : (#[x, y] : Array Operand).map a.eval = #[tv p Ax (Tm.len l) cx, .int .i64 d] := by rw [← ex, ← ey]; simp
    rw [e1]
    exact (rename_any p l Ax cx w.heap.size d w ax (Nat.le_refl _)).mono fun e w' hm => by
      have := makes2_R hm
      rw [hr] at this
      rw [hE]
      exact this
theorem step_rrename2 {i : Nat} {x y : Operand} {p : Pay} {l : Fo} {d : Int} {p' : Pay} {l' : Fo} {e' : Int} (hop : (ops[i]?).map (·.op) = some (.call { callee := .value (.func 20), args := #[x, y], argTypes := #[24, 2] })) (hx : Opd ops E D base N i x (.term p l)) (hy : Opd ops E D base N i y (.val (.int .i64 d))) (hr : Tm.renameOf p l d = ((p', l'), e')) (hE : E i = .pair p' l' e') : Step Try.prog ops Q E D base N i :=
  step_call hop (fun _ _ => by kernel_rfl) fun a w h => by
    obtain ⟨Ax, cx, ex, ax⟩ := hx a w h
    have ey : a.eval y = .int .i64 d := hy a w h
    have e1 : (#[x, y] : Array Operand).map a.eval = #[tv p Ax (Tm.len l) cx, .int .i64 d] := by rw [← ex, ← ey]; simp
    rw [e1]
    exact (rrename_any p l Ax cx w.heap.size d w ax (Nat.le_refl _)).mono fun e w' hm => by
      have := makes2_R hm
      rw [hr] at this
      rw [hE]
      exact this
theorem step_replace2 {i : Nat} {x y z : Operand} {p q : Pay} {l m : Fo} {d : Int} {p' : Pay} {l' : Fo} {e' : Int} (hop : (ops[i]?).map (·.op) = some (.call { callee := .value (.func 22), args := #[x, y, z], argTypes := #[24, 2, 24] })) (hx : Opd ops E D base N i x (.term p l)) (hy : Opd ops E D base N i y (.val (.int .i64 d))) (hz : Opd ops E D base N i z (.term q m)) (hr : Tm.replaceOf p l d q m = ((p', l'), e')) (hE : E i = .pair p' l' e') : Step Try.prog ops Q E D base N i :=
  step_call hop (fun _ _ => by kernel_rfl) fun a w h => by
    obtain ⟨Ax, cx, ex, ax⟩ := hx a w h
    have ey : a.eval y = .int .i64 d := hy a w h
    obtain ⟨Az, cz, ez, az⟩ := hz a w h
    have e1 : (#[x, y, z] : Array Operand).map a.eval = #[tv p Ax (Tm.len l) cx, .int .i64 d, tv q Az (Tm.len m) cz] := by rw [← ex, ← ey, ← ez]; simp
    rw [e1]
    exact (replace_any p l Ax cx w.heap.size d q m Az cz w ax az (Nat.le_refl _)).mono fun e w' hm => by
      have := makes2_R hm
      rw [hr] at this
      rw [hE]
      exact this
theorem step_rreplace2 {i : Nat} {x y z : Operand} {p q : Pay} {l m : Fo} {d : Int} {p' : Pay} {l' : Fo} {e' : Int} (hop : (ops[i]?).map (·.op) = some (.call { callee := .value (.func 23), args := #[x, y, z], argTypes := #[24, 2, 24] })) (hx : Opd ops E D base N i x (.term p l)) (hy : Opd ops E D base N i y (.val (.int .i64 d))) (hz : Opd ops E D base N i z (.term q m)) (hr : Tm.replaceOf p l d q m = ((p', l'), e')) (hE : E i = .pair p' l' e') : Step Try.prog ops Q E D base N i :=
  step_call hop (fun _ _ => by kernel_rfl) fun a w h => by
    obtain ⟨Ax, cx, ex, ax⟩ := hx a w h
    have ey : a.eval y = .int .i64 d := hy a w h
    obtain ⟨Az, cz, ez, az⟩ := hz a w h
    have e1 : (#[x, y, z] : Array Operand).map a.eval = #[tv p Ax (Tm.len l) cx, .int .i64 d, tv q Az (Tm.len m) cz] := by rw [← ex, ← ey, ← ez]; simp
    rw [e1]
    exact (rreplace_any p l Ax cx w.heap.size d q m Az cz w ax az (Nat.le_refl _)).mono fun e w' hm => by
      have := makes2_R hm
      rw [hr] at this
      rw [hE]
      exact this
theorem step_var {i : Nat} {x : Operand} {d : Int} {p' : Pay} {l' : Fo} (hop : (ops[i]?).map (·.op) = some (.call { callee := .value (.func 25), args := #[x], argTypes := #[2] })) (hx : Opd ops E D base N i x (.val (.int .i64 d))) (hr : Tm.cloneOf (0, d, ByteArray.empty) .nil = (p', l')) (hE : E i = .term p' l') : Step Try.prog ops Q E D base N i :=
  step_call hop (fun _ _ => by kernel_rfl) fun a w h => by
    have ex : a.eval x = .int .i64 d := hx a w h
    have e1 : (#[x] : Array Operand).map a.eval = #[.int .i64 d] := by rw [← ex]; simp
    rw [e1]
    exact (var_any d w).mono fun e w' hm => by
      have := makes_R hm
      rw [hr] at this
      rw [hE]
      exact this
theorem step_rvar {i : Nat} {x : Operand} {d : Int} {p' : Pay} {l' : Fo} (hop : (ops[i]?).map (·.op) = some (.call { callee := .value (.func 26), args := #[x], argTypes := #[2] })) (hx : Opd ops E D base N i x (.val (.int .i64 d))) (hr : Tm.cloneOf (0, d, ByteArray.empty) .nil = (p', l')) (hE : E i = .term p' l') : Step Try.prog ops Q E D base N i :=
  step_call hop (fun _ _ => by kernel_rfl) fun a w h => by
    have ex : a.eval x = .int .i64 d := hx a w h
    have e1 : (#[x] : Array Operand).map a.eval = #[.int .i64 d] := by rw [← ex]; simp
    rw [e1]
    exact (rvar_any d w).mono fun e w' hm => by
      have := makes_R hm
      rw [hr] at this
      rw [hE]
      exact this
theorem step_int2 {i : Nat} {x : Operand} {d : Int} {p' : Pay} {l' : Fo} (hop : (ops[i]?).map (·.op) = some (.call { callee := .value (.func 27), args := #[x], argTypes := #[2] })) (hx : Opd ops E D base N i x (.val (.int .i64 d))) (hr : Tm.cloneOf (1, d, ByteArray.empty) .nil = (p', l')) (hE : E i = .term p' l') : Step Try.prog ops Q E D base N i :=
  step_call hop (fun _ _ => by kernel_rfl) fun a w h => by
    have ex : a.eval x = .int .i64 d := hx a w h
    have e1 : (#[x] : Array Operand).map a.eval = #[.int .i64 d] := by rw [← ex]; simp
    rw [e1]
    exact (int_any d w).mono fun e w' hm => by
      have := makes_R hm
      rw [hr] at this
      rw [hE]
      exact this
theorem step_atom {i : Nat} {x : Operand} {s : ByteArray} {p' : Pay} {l' : Fo} (hop : (ops[i]?).map (·.op) = some (.call { callee := .value (.func 29), args := #[x], argTypes := #[9] })) (hx : Opd ops E D base N i x (.val (.string s))) (hr : Tm.cloneOf (2, 0, s) .nil = (p', l')) (hE : E i = .term p' l') : Step Try.prog ops Q E D base N i :=
  step_call hop (fun _ _ => by kernel_rfl) fun a w h => by
    have ex : a.eval x = .string s := hx a w h
    have e1 : (#[x] : Array Operand).map a.eval = #[.string s] := by rw [← ex]; simp
    rw [e1]
    exact (atom_any s w).mono fun e w' hm => by
      have := makes_R hm
      rw [hr] at this
      rw [hE]
      exact this
theorem step_ratom {i : Nat} {x : Operand} {s : ByteArray} {p' : Pay} {l' : Fo} (hop : (ops[i]?).map (·.op) = some (.call { callee := .value (.func 30), args := #[x], argTypes := #[9] })) (hx : Opd ops E D base N i x (.val (.string s))) (hr : Tm.cloneOf (2, 0, s) .nil = (p', l')) (hE : E i = .term p' l') : Step Try.prog ops Q E D base N i :=
  step_call hop (fun _ _ => by kernel_rfl) fun a w h => by
    have ex : a.eval x = .string s := hx a w h
    have e1 : (#[x] : Array Operand).map a.eval = #[.string s] := by rw [← ex]; simp
    rw [e1]
    exact (ratom_any s w).mono fun e w' hm => by
      have := makes_R hm
      rw [hr] at this
      rw [hE]
      exact this
theorem rint_any2 (n : Int) (w : World) : Calls Try.prog 28 #[.int .i64 n] w (Makes (Tm.cloneOf (1, n, ByteArray.empty) .nil).1 (Tm.cloneOf (1, n, ByteArray.empty) .nil).2 w) := by
  rw [cloneOf_int]
  exact rint_any n w
theorem step_rint {i : Nat} {x : Operand} {d : Int} {p' : Pay} {l' : Fo} (hop : (ops[i]?).map (·.op) = some (.call { callee := .value (.func 28), args := #[x], argTypes := #[2] })) (hx : Opd ops E D base N i x (.val (.int .i64 d))) (hr : Tm.cloneOf (1, d, ByteArray.empty) .nil = (p', l')) (hE : E i = .term p' l') : Step Try.prog ops Q E D base N i :=
  step_call hop (fun _ _ => by kernel_rfl) fun a w h => by
    have ex : a.eval x = .int .i64 d := hx a w h
    have e1 : (#[x] : Array Operand).map a.eval = #[.int .i64 d] := by rw [← ex]; simp
    rw [e1]
    exact (rint_any2 d w).mono fun e w' hm => by
      have := makes_R hm
      rw [hr] at this
      rw [hE]
      exact this
theorem struct_any (s : ByteArray) (F : Fo) (A : Option Addr) (c B : Nat) (w : World) (hA : ArgsB w B A (Tm.len F) F) (hB : B ≤ w.heap.size) : Calls Try.prog 24 #[.string s, .slice A (Tm.len F) c] w (Makes (Tm.structFn s F).1 (Tm.structFn s F).2 w) := by
  unfold Tm.structFn
  by_cases h0 : Tm.len F = 0
  · rw [if_pos h0, h0]
    exact struct_none s A c w
  · rw [if_neg h0]
    exact struct_some s F A c B w (by omega) hA hB
theorem step_struct {i : Nat} {x y : Operand} {F : Fo} {s : ByteArray} {p' : Pay} {l' : Fo} (hop : (ops[i]?).map (·.op) = some (.call { callee := .value (.func 24), args := #[x, y], argTypes := #[9, 22] })) (hx : Opd ops E D base N i x (.val (.string s))) (hy : Opd ops E D base N i y (.row F)) (hr : Tm.structFn s F = (p', l')) (hE : E i = .term p' l') : Step Try.prog ops Q E D base N i :=
  step_call hop (fun _ _ => by kernel_rfl) fun a w h => by
    have ex : a.eval x = .string s := hx a w h
    obtain ⟨Ay, cy, ey, ay⟩ := hy a w h
    have e1 : (#[x, y] : Array Operand).map a.eval = #[.string s, .slice Ay (Tm.len F) cy] := by rw [← ex, ← ey]; simp
    rw [e1]
    exact (struct_any s F Ay cy w.heap.size w ay (Nat.le_refl _)).mono fun e w' hm => by
      have := makes_R hm
      rw [hr] at this
      rw [hE]
      exact this
theorem rstruct_any (s : ByteArray) (F : Fo) (A : Option Addr) (c B : Nat) (w : World) (hA : ArgsB w B A (Tm.len F) F) (hB : B ≤ w.heap.size) : Calls Try.prog 31 #[.string s, .slice A (Tm.len F) c] w (Makes (Tm.structFn s F).1 (Tm.structFn s F).2 w) := by
  unfold Tm.structFn
  by_cases h0 : Tm.len F = 0
  · rw [if_pos h0, h0]
    exact rstruct_none s A c w
  · rw [if_neg h0]
    exact rstruct_some s F A c B w (by omega) hA hB
theorem step_rstruct {i : Nat} {x y : Operand} {F : Fo} {s : ByteArray} {p' : Pay} {l' : Fo} (hop : (ops[i]?).map (·.op) = some (.call { callee := .value (.func 31), args := #[x, y], argTypes := #[9, 22] })) (hx : Opd ops E D base N i x (.val (.string s))) (hy : Opd ops E D base N i y (.row F)) (hr : Tm.structFn s F = (p', l')) (hE : E i = .term p' l') : Step Try.prog ops Q E D base N i :=
  step_call hop (fun _ _ => by kernel_rfl) fun a w h => by
    have ex : a.eval x = .string s := hx a w h
    obtain ⟨Ay, cy, ey, ay⟩ := hy a w h
    have e1 : (#[x, y] : Array Operand).map a.eval = #[.string s, .slice Ay (Tm.len F) cy] := by rw [← ex, ← ey]; simp
    rw [e1]
    exact (rstruct_any s F Ay cy w.heap.size w ay (Nat.le_refl _)).mono fun e w' hm => by
      have := makes_R hm
      rw [hr] at this
      rw [hE]
      exact this
theorem step_ind {i : Nat} {x y : Operand} {d : Int} {s : ByteArray} {p' : Pay} {l' : Fo} (hop : (ops[i]?).map (·.op) = some (.call { callee := .value (.func 32), args := #[x, y], argTypes := #[9, 3] })) (hx : Opd ops E D base N i x (.val (.string s))) (hy : Opd ops E D base N i y (.val (.int .i64 d))) (hr : Tm.indFn s d = (p', l')) (hE : E i = .term p' l') : Step Try.prog ops Q E D base N i :=
  step_call hop (fun _ _ => by kernel_rfl) fun a w h => by
    have ex : a.eval x = .string s := hx a w h
    have ey : a.eval y = .int .i64 d := hy a w h
    have e1 : (#[x, y] : Array Operand).map a.eval = #[.string s, .int .i64 d] := by rw [← ex, ← ey]; simp
    rw [e1]
    exact (ind_any s d w).mono fun e w' hm => by
      have := makes_R hm
      rw [hr] at this
      rw [hE]
      exact this
theorem step_rind {i : Nat} {x y : Operand} {d : Int} {s : ByteArray} {p' : Pay} {l' : Fo} (hop : (ops[i]?).map (·.op) = some (.call { callee := .value (.func 33), args := #[x, y], argTypes := #[9, 3] })) (hx : Opd ops E D base N i x (.val (.string s))) (hy : Opd ops E D base N i y (.val (.int .i64 d))) (hr : Tm.indFn s d = (p', l')) (hE : E i = .term p' l') : Step Try.prog ops Q E D base N i :=
  step_call hop (fun _ _ => by kernel_rfl) fun a w h => by
    have ex : a.eval x = .string s := hx a w h
    have ey : a.eval y = .int .i64 d := hy a w h
    have e1 : (#[x, y] : Array Operand).map a.eval = #[.string s, .int .i64 d] := by rw [← ex, ← ey]; simp
    rw [e1]
    exact (rind_any s d w).mono fun e w' hm => by
      have := makes_R hm
      rw [hr] at this
      rw [hE]
      exact this
theorem step_pick_yes {i : Nat} {c x y : Operand} {k : Kd} (hop : (ops[i]?).map (·.op) = some (.pick c x y)) (hc : Opd ops E D base N i c (.val (.bool true))) (hx : Opd ops E D base N i x k) (hE : E i = k) : Step Try.prog ops Q E D base N i :=
  step_still hop hE fun a w h dst ty pos after guard => by
    have e : a.eval c = .bool true := hc a w h
    refine ⟨a.eval x, ?_, hx a w h⟩
    show ((do pure (Next.value (if ← asBool (a.eval c) then a.eval x else a.eval y)) : Sem Next)).run _ w = _
    rw [e]
    rfl
theorem step_eqb_int {i : Nat} {x y : Operand} {m n : Int} {b : Bool} (hop : (ops[i]?).map (·.op) = some (.binOp .eql 3 x y 3)) (hx : Opd ops E D base N i x (.val (.int .i64 m))) (hy : Opd ops E D base N i y (.val (.int .i64 n))) (hb : (m == n) = b) (hE : E i = .val (.bool b)) : Step Try.prog ops Q E D base N i :=
  step_eq_int hop hx hy (by rw [hE, hb])
theorem step_eqb_int64 {i : Nat} {x y : Operand} {m n : Int} {b : Bool} (hop : (ops[i]?).map (·.op) = some (.binOp .eql 2 x y 2)) (hx : Opd ops E D base N i x (.val (.int .i64 m))) (hy : Opd ops E D base N i y (.val (.int .i64 n))) (hb : (m == n) = b) (hE : E i = .val (.bool b)) : Step Try.prog ops Q E D base N i :=
  step_eq_int64 hop hx hy (by rw [hE, hb])
theorem step_eqb_err {i : Nat} {x y : Operand} {m n : Int} {b : Bool} (hop : (ops[i]?).map (·.op) = some (.binOp .eql 29 x y 29)) (hx : Opd ops E D base N i x (.val (.int .i64 m))) (hy : Opd ops E D base N i y (.val (.int .i64 n))) (hb : (m == n) = b) (hE : E i = .val (.bool b)) : Step Try.prog ops Q E D base N i :=
  step_eq_err hop hx hy (by rw [hE, hb])
theorem step_lt_int {i : Nat} {x y : Operand} {m n : Int} {b : Bool} (hop : (ops[i]?).map (·.op) = some (.binOp .lss 3 x y 3)) (hx : Opd ops E D base N i x (.val (.int .i64 m))) (hy : Opd ops E D base N i y (.val (.int .i64 n))) (hb : (decide (m < n)) = b) (hE : E i = .val (.bool b)) : Step Try.prog ops Q E D base N i :=
  step_still hop hE fun a w h dst ty' pos after guard => by
    have e : a.eval x = .int .i64 m := hx a w h
    have e' : a.eval y = .int .i64 n := hy a w h
    refine ⟨.bool b, ?_, rfl⟩
    rw [← hb]
    unfold execOp
    simp only [e, e']
    go_simp
theorem step_lt_int64 {i : Nat} {x y : Operand} {m n : Int} {b : Bool} (hop : (ops[i]?).map (·.op) = some (.binOp .lss 2 x y 2)) (hx : Opd ops E D base N i x (.val (.int .i64 m))) (hy : Opd ops E D base N i y (.val (.int .i64 n))) (hb : (decide (m < n)) = b) (hE : E i = .val (.bool b)) : Step Try.prog ops Q E D base N i :=
  step_still hop hE fun a w h dst ty' pos after guard => by
    have e : a.eval x = .int .i64 m := hx a w h
    have e' : a.eval y = .int .i64 n := hy a w h
    refine ⟨.bool b, ?_, rfl⟩
    rw [← hb]
    unfold execOp
    simp only [e, e']
    go_simp
theorem step_gt_int {i : Nat} {x y : Operand} {m n : Int} {b : Bool} (hop : (ops[i]?).map (·.op) = some (.binOp .gtr 3 x y 3)) (hx : Opd ops E D base N i x (.val (.int .i64 m))) (hy : Opd ops E D base N i y (.val (.int .i64 n))) (hb : (decide (n < m)) = b) (hE : E i = .val (.bool b)) : Step Try.prog ops Q E D base N i :=
  step_still hop hE fun a w h dst ty' pos after guard => by
    have e : a.eval x = .int .i64 m := hx a w h
    have e' : a.eval y = .int .i64 n := hy a w h
    refine ⟨.bool b, ?_, rfl⟩
    rw [← hb]
    unfold execOp
    simp only [e, e']
    go_simp
theorem step_gt_int64 {i : Nat} {x y : Operand} {m n : Int} {b : Bool} (hop : (ops[i]?).map (·.op) = some (.binOp .gtr 2 x y 2)) (hx : Opd ops E D base N i x (.val (.int .i64 m))) (hy : Opd ops E D base N i y (.val (.int .i64 n))) (hb : (decide (n < m)) = b) (hE : E i = .val (.bool b)) : Step Try.prog ops Q E D base N i :=
  step_still hop hE fun a w h dst ty' pos after guard => by
    have e : a.eval x = .int .i64 m := hx a w h
    have e' : a.eval y = .int .i64 n := hy a w h
    refine ⟨.bool b, ?_, rfl⟩
    rw [← hb]
    unfold execOp
    simp only [e, e']
    go_simp
theorem step_ne_int {i : Nat} {x y : Operand} {m n : Int} {b : Bool} (hop : (ops[i]?).map (·.op) = some (.binOp .neq 3 x y 3)) (hx : Opd ops E D base N i x (.val (.int .i64 m))) (hy : Opd ops E D base N i y (.val (.int .i64 n))) (hb : (m != n) = b) (hE : E i = .val (.bool b)) : Step Try.prog ops Q E D base N i :=
  step_still hop hE fun a w h dst ty' pos after guard => by
    have e : a.eval x = .int .i64 m := hx a w h
    have e' : a.eval y = .int .i64 n := hy a w h
    refine ⟨.bool b, ?_, rfl⟩
    rw [← hb]
    unfold execOp
    simp only [e, e']
    go_simp
theorem step_ne_int64 {i : Nat} {x y : Operand} {m n : Int} {b : Bool} (hop : (ops[i]?).map (·.op) = some (.binOp .neq 2 x y 2)) (hx : Opd ops E D base N i x (.val (.int .i64 m))) (hy : Opd ops E D base N i y (.val (.int .i64 n))) (hb : (m != n) = b) (hE : E i = .val (.bool b)) : Step Try.prog ops Q E D base N i :=
  step_still hop hE fun a w h dst ty' pos after guard => by
    have e : a.eval x = .int .i64 m := hx a w h
    have e' : a.eval y = .int .i64 n := hy a w h
    refine ⟨.bool b, ?_, rfl⟩
    rw [← hb]
    unfold execOp
    simp only [e, e']
    go_simp
theorem step_add {i : Nat} {x y : Operand} {m n s : Int} (hop : (ops[i]?).map (·.op) = some (.binOp .add 3 x y 3)) (hx : Opd ops E D base N i x (.val (.int .i64 m))) (hy : Opd ops E D base N i y (.val (.int .i64 n))) (hs : IntKind.i64.wrap (m + n) = s) (hE : E i = .val (.int .i64 s)) : Step Try.prog ops Q E D base N i :=
  step_still hop hE fun a w h dst ty' pos after guard => by
    have e : a.eval x = .int .i64 m := hx a w h
    have e' : a.eval y = .int .i64 n := hy a w h
    refine ⟨.int .i64 s, ?_, rfl⟩
    rw [← hs]
    unfold execOp
    simp only [e, e']
    go_simp
theorem step_ints_at {i : Nat} {x y : Operand} {L : List Int} {k : Nat} {z : Int} (hop : (ops[i]?).map (·.op) = some (.indexAddr 42 x y)) (hx : Opd ops E D base N i x (.ints L)) (hy : Opd ops E D base N i y (.val (.int .i64 (k : Int)))) (hz : L[k]? = some z) (hE : E i = .ptrI z) : Step Try.prog ops Q E D base N i :=
  step_still hop hE fun a w h dst ty' pos after guard => by
    obtain ⟨A, c, e, hl⟩ := hx a w h
    have e' : a.eval y = .int .i64 (k : Int) := hy a w h
    have hk : k < L.length := (List.getElem?_eq_some_iff.1 hz).1
    obtain ⟨b, o, rfl, hb, hr⟩ := hl.row (by omega)
    refine ⟨.pointer (some ⟨b, o + k, none⟩), ?_, _, rfl, hb, hr k z hz⟩
    generalize L.length = n at e hk
    unfold execOp
    simp only [e, e']
    go_simp
theorem step_row_at {i : Nat} {x y : Operand} {F l r : Fo} {k : Nat} {p : Pay} (hop : (ops[i]?).map (·.op) = some (.indexAddr 22 x y)) (hx : Opd ops E D base N i x (.row F)) (hy : Opd ops E D base N i y (.val (.int .i64 (k : Int)))) (hd : Tm.dropF F k = .node p l r) (hE : E i = .ptrT p l) : Step Try.prog ops Q E D base N i :=
  step_still hop hE fun a w h dst ty' pos after guard => by
    obtain ⟨A, c, e, ha⟩ := hx a w h
    have e' : a.eval y = .int .i64 (k : Int) := hy a w h
    have hk : k < Tm.len F := by
      have h1 := Tm.len_drop F k
      rw [hd] at h1
      have h2 : Tm.len (Fo.node p l r) = Tm.len r + 1 := rfl
      omega
    obtain ⟨b, o, p1, l1, r1, A1, c1, rfl, hb, hd', hn⟩ := ha.at hk
    rw [hd] at hd'
    cases hd'
    refine ⟨.pointer (some ⟨b, o + k * 4, none⟩), ?_, b, o + k * 4, A1, c1, rfl, hb, hn⟩
    generalize Tm.len F = n at e hk
    unfold execOp
    simp only [e, e']
    go_simp
end
end Go.Proofs.Ytmljkhofahgelaa
