/-
  A whole value stored in a block of the call's own; a result that is a cell; an operator loaded.
-/
import Derived.Test.YtgbfkchjcjdnnaaDoorFind7
import Derived.Laws.Tables
namespace Go.Proofs.YtgbfkchjcjdnnaaDoor
set_option linter.unusedVariables false
set_option linter.unusedSimpArgs false
open Go.RowKit Q

section
variable {P : Program}
theorem below_setRow {B g : Nat} {w0 w : World} (h : Below B w0 w) (hg : B ≤ g) (cs : Array Value) : Below B w0 (w.setRow g cs) :=
  ⟨h.os, h.tape, h.output, by rw [setRow_size]; exact h.size, fun b hb => (setRow_other w g b cs (by omega)).trans (h.block b hb)⟩
theorem wpList_store_own {ops : Array Oper} {rest : List Oper} {o : Oper} {a : Act} {w : World} {Q : Exit → Act → World → Prop} (hgd : o.guard = none) (ty : TypeId) (x y : Operand) (ho : o.op = .store ty x y)
    (g : Nat) (cells : Array Value) (hx : a.eval x = .pointer (some ⟨g, 0, none⟩)) (hy : a.eval y = .agg cells)
    (t : TypeId) (old : Array Value) (hg : w.heap[g]? = some (.cells old t (0, 0))) (hi : (P.info? ty).map (·.size) = some cells.size)
    (hold : old.size = cells.size) (h1 : cells.all (·.oneCell') = true) (B : Nat) (w0 : World) (hb : Below B w0 w) (hBg : B ≤ g)
    (h : ∀ w', Hid (w'.heap[g]? = some (.cells cells t (0, 0))) → Hid (Below B w0 w') → Hid (w'.heap.size = w.heap.size) → wpList P ops Q rest (a.put o.dst undef) w') : wpList P ops Q (o :: rest) a w :=
  wpList_plain hgd fun _ hK => wp_store_row ty x y ho g cells hx hy t old hg hi hold h1 (hK _ _ (h _ (setRow_heap w g old cells t (0, 0) hg) (below_setRow hb hBg cells) (setRow_size w g cells)))
end

theorem load_op (w : World) (b : Nat) (s : ByteArray) (t p : Int) (h : w.heap[b]? = some (.cells #[.string s, .int .i64 t, .int .i64 p] 26 (0, 0))) :
    (loadVar 26 ⟨b, 0, none⟩).run Tryd.prog w = .ok (.agg #[.string s, .int .i64 t, .int .i64 p]) w := by
  have hl : (loadCells ⟨b, 0, none⟩ 3).run Tryd.prog w = .ok #[.string s, .int .i64 t, .int .i64 p] w := by
    refine run_loadCells_list (P := Tryd.prog) w ⟨b, 0, none⟩ [.string s, .int .i64 t, .int .i64 p] (fun j v hv => ?_)
    rw [add_plain, Nat.zero_add]
    simp only [World.cell?, h]
    simpa using hv
  have hagg : (isAgg 26).run Tryd.prog w = .ok true w := by
    unfold isAgg
    rw [Sem.run_bind, run_underlying Tryd.underlying26 w]
    rfl
  obtain ⟨i0, hi0, hz0, hz1, hz2⟩ := info_parts op_info
  simp [loadVar, Sem.run_bind, hagg, sizeOf, typeInfo, hi0, hz1, hl]

theorem ret_op {fn : Func} {q u : Tmp} {g : Nat} {s : ByteArray} {t p : Int} {v : Value} (hres : fn.results = #[.cell q 26, .tmp u]) {R : Ending → World → Prop} {a : Act} {w : World}
    (hq : a.tmps.getD q undef = .pointer (some ⟨g, 0, none⟩)) (hu : a.tmps.getD u undef = v) (hd : a.defers = []) (h : w.heap[g]? = some (.cells #[.string s, .int .i64 t, .int .i64 p] 26 (0, 0)))
    (hR : R (.returned (.tuple #[.agg #[.string s, .int .i64 t, .int .i64 p], v])) w) : bodyPost Tryd.prog fn R .ret a w := by
  refine bodyPost_ret (v := .tuple #[.agg #[.string s, .int .i64 t, .int .i64 p], v]) ?_ hd hR
  have hp' : a.tmps[q]?.getD undef = .pointer (some ⟨g, 0, none⟩) := by simpa using hq
  have hxu : a.tmps[u]?.getD undef = v := by simpa using hu
  simp [results, hres, hp', hxu, asAddr, load_op w g s t p h]
end Go.Proofs.YtgbfkchjcjdnnaaDoor
