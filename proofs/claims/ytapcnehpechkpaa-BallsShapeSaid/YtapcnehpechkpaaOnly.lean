/-
  What a call leaves as it was: every block but those of a set; and small laws about cells behind new blocks.
-/
import Derived.Test.YtapcnehpechkpaaRows
import Derived.Test.YtapcnehpechkpaaForest
import Derived.Laws.AppendOwn
import Derived.Deep.Draws
import Derived.Deep.QuietTactic
import Derived.BigQuiet
import Derived.Laws.EntriesVeiled
namespace Go.Proofs.Ytapcnehpechkpaa
set_option linter.unusedVariables false
set_option linter.unusedSimpArgs false
set_option maxRecDepth 100000
open Go.RowKit

structure Only (X : Nat → Prop) (w w' : World) : Prop where
  os : w'.os = w.os
  tape : w'.tape = w.tape
  output : w'.output = w.output
  size : w.heap.size ≤ w'.heap.size
  block : ∀ k, k < w.heap.size → ¬ X k → w'.heap[k]? = w.heap[k]?
theorem Only.refl (X : Nat → Prop) (w : World) : Only X w w := ⟨rfl, rfl, rfl, Nat.le_refl _, fun _ _ _ => rfl⟩
theorem Only.trans {X : Nat → Prop} {a b c : World} (h : Only X a b) (k : Only X b c) : Only X a c :=
  ⟨k.os.trans h.os, k.tape.trans h.tape, k.output.trans h.output, Nat.le_trans h.size k.size, fun i hi hx => (k.block i (Nat.lt_of_lt_of_le hi h.size) hx).trans (h.block i hi hx)⟩
theorem Only.of_below {X : Nat → Prop} {w w' : World} (h : Below w.heap.size w w') : Only X w w' := ⟨h.os, h.tape, h.output, h.size, fun k hk _ => h.block k hk⟩
theorem Only.below {X : Nat → Prop} {w w' : World} {B : Nat} (h : Only X w w') (hB : B ≤ w.heap.size) (hX : ∀ k, X k → B ≤ k) : Below B w w' :=
  ⟨h.os, h.tape, h.output, h.size, fun k hk => h.block k (by omega) (fun hx => by have := hX k hx; omega)⟩
theorem Only.alloc {X : Nat → Prop} {a w : World} (h : Only X a w) (o : Obj) : Only X a (w.alloc o) :=
  h.trans (Only.of_below ((Below.refl _ w).alloc (Nat.le_refl _) o))
theorem Only.setCell {X : Nat → Prop} {a w : World} (h : Only X a w) {p : Addr} (hp : X p.block) (u : Value) : Only X a (w.setCell p u) :=
  h.trans ⟨rfl, rfl, rfl, by simp [World.setCell], fun k hk hx => Below.heap_setCell _ _ _ _ (fun e => hx (e ▸ hp))⟩
theorem Only.drew {X : Nat → Prop} {a w : World} (h : Only X a w) : Only X a w.drew := ⟨h.os, h.tape, h.output, h.size, h.block⟩
theorem Only.drewN {X : Nat → Prop} {a w : World} (h : Only X a w) (n : Nat) : Only X a (w.drewN n) := ⟨h.os, h.tape, h.output, h.size, h.block⟩
theorem Only.cell {X : Nat → Prop} {w w' : World} (h : Only X w w') {p : Addr} (hp : p.block < w.heap.size) (hx : ¬ X p.block) : w'.cell? p = w.cell? p := cell_of_block (h.block _ hp hx)
theorem Only.mono {X X' : Nat → Prop} {w w' : World} (h : Only X w w') (hX : ∀ k, X k → X' k) : Only X' w w' := ⟨h.os, h.tape, h.output, h.size, fun k hk hx => h.block k hk fun h => hx (hX k h)⟩
theorem frozen_of_block {w w' : World} {p : Addr} (h : w'.heap[p.block]? = w.heap[p.block]?) : w'.frozen? p = w.frozen? p := by simp [World.frozen?, h]
theorem Only.frozen {X : Nat → Prop} {w w' : World} (h : Only X w w') {p : Addr} (hp : p.block < w.heap.size) (hx : ¬ X p.block) : w'.frozen? p = w.frozen? p := frozen_of_block (h.block _ hp hx)
theorem below_drewN {B : Nat} {a w : World} (h : Below B a w) (n : Nat) : Below B a (w.drewN n) := ⟨h.os, h.tape, h.output, h.size, h.block⟩

/-- A cell that can be read and written. -/
structure CellIs (w : World) (b : Nat) (v : Value) : Prop where
  cell : w.cell? ⟨b, 0, none⟩ = some v
  soft : w.frozen? ⟨b, 0, none⟩ = false
theorem CellIs.lt {w : World} {b : Nat} {v : Value} (h : CellIs w b v) : b < w.heap.size := World.block_lt_of_cell? w _ h.cell
theorem CellIs.only {X : Nat → Prop} {w w' : World} {b : Nat} {v : Value} (h : CellIs w b v) (ho : Only X w w') (hx : ¬ X b) : CellIs w' b v :=
  ⟨(ho.cell (p := ⟨b, 0, none⟩) h.lt hx).trans h.cell, (ho.frozen (p := ⟨b, 0, none⟩) h.lt hx).trans h.soft⟩
theorem CellIs.below {w w' : World} {b : Nat} {v : Value} (h : CellIs w b v) {B : Nat} (ho : Below B w w') (hb : b < B) : CellIs w' b v :=
  ⟨(cell_of_block (ho.block b hb)).trans h.cell, (frozen_of_block (p := ⟨b, 0, none⟩) (ho.block b hb)).trans h.soft⟩
theorem CellIs.alloc {w : World} {b : Nat} {v : Value} (h : CellIs w b v) (o : Obj) : CellIs (w.alloc o) b v := h.below ((Below.refl w.heap.size w).alloc (Nat.le_refl _) o) h.lt
theorem CellIs.set {w : World} {b : Nat} {v : Value} (h : CellIs w b v) (u : Value) : CellIs (w.setCell ⟨b, 0, none⟩ u) b u :=
  ⟨World.cell?_setCell_same' _ _ _ (by rw [h.cell]; rfl), by rw [World.frozen?_setCell]; exact h.soft⟩
theorem CellIs.other {w : World} {b b' : Nat} {v : Value} (h : CellIs w b v) (hne : b ≠ b') (i : Nat) (u : Value) : CellIs (w.setCell ⟨b', i, none⟩ u) b v :=
  ⟨(cell_of_block (p := ⟨b, 0, none⟩) (Below.heap_setCell w ⟨b', i, none⟩ u b hne)).trans h.cell, by rw [World.frozen?_setCell]; exact h.soft⟩
theorem ArgsIn.only {X : Nat → Prop} {w w' : World} {n : Nat} {A : Option Addr} {F : Fo} {S : Nat → Prop} (h : ArgsIn S w A n F) (ho : Only X w w') (hS : ∀ b, S b → b < w.heap.size ∧ ¬ X b) : ArgsIn S w' A n F :=
  h.keep fun b hb => ho.block b (hS b hb).1 (hS b hb).2

theorem alloc_new (w : World) (o : Obj) : (w.alloc o).heap[w.heap.size]? = some o := heap_alloc_new w o
theorem CellIs.new (w : World) (v : Value) (t : TypeId) : CellIs (w.alloc (.cells #[v] t)) w.heap.size v := by
  have h := alloc_new w (.cells #[v] t)
  exact ⟨by rw [cell_of_row _ _ _ _ _ _ h]; rfl, by unfold World.frozen?; rw [h]; rfl⟩
theorem CellIs.new' (w : World) (v : Value) (t : TypeId) (b : Nat) (hb : w.heap.size = b) : CellIs (w.alloc (.cells #[v] t)) b v := by subst hb; exact CellIs.new w v t
/-- Cells that lie in a row. -/
def CellsAt (w : World) (b o : Nat) (cs : List Value) : Prop := ∀ j u, cs[j]? = some u → w.cell? ⟨b, o + j, none⟩ = some u
theorem CellsAt.below {w w' : World} {b o : Nat} {cs : List Value} (h : CellsAt w b o cs) {B : Nat} (hb : Below B w w') (hlt : b < B) : CellsAt w' b o cs := fun j u hj => (cell_of_block (p := ⟨b, o + j, none⟩) (hb.block b hlt)).trans (h j u hj)
/-- A term that lies in a block of its own. -/
structure TermAt (w : World) (b : Nat) (p : Pay) (A : Option Addr) (n c : Nat) : Prop where
  kind : w.cell? ⟨b, 0, none⟩ = some (.int .i64 p.1)
  num : w.cell? ⟨b, 1, none⟩ = some (.int .i64 p.2.1)
  name : w.cell? ⟨b, 2, none⟩ = some (.string p.2.2)
  args : w.cell? ⟨b, 3, none⟩ = some (.slice A n c)
theorem TermAt.below {w w' : World} {b : Nat} {p : Pay} {A : Option Addr} {n c : Nat} (h : TermAt w b p A n c) {B : Nat} (hb : Below B w w') (hlt : b < B) : TermAt w' b p A n c :=
  ⟨(cell_of_block (p := ⟨b, 0, none⟩) (hb.block b hlt)).trans h.kind, (cell_of_block (p := ⟨b, 1, none⟩) (hb.block b hlt)).trans h.num, (cell_of_block (p := ⟨b, 2, none⟩) (hb.block b hlt)).trans h.name, (cell_of_block (p := ⟨b, 3, none⟩) (hb.block b hlt)).trans h.args⟩
theorem TermAt.only {X : Nat → Prop} {w w' : World} {b : Nat} {p : Pay} {A : Option Addr} {n c : Nat} (h : TermAt w b p A n c) (ho : Only X w w') (hlt : b < w.heap.size) (hx : ¬ X b) : TermAt w' b p A n c :=
  ⟨(ho.cell (p := ⟨b, 0, none⟩) hlt hx).trans h.kind, (ho.cell (p := ⟨b, 1, none⟩) hlt hx).trans h.num, (ho.cell (p := ⟨b, 2, none⟩) hlt hx).trans h.name, (ho.cell (p := ⟨b, 3, none⟩) hlt hx).trans h.args⟩
theorem TermAt.new (w : World) (p : Pay) (A : Option Addr) (n c : Nat) (t : TypeId) : TermAt (w.alloc (.cells #[.int .i64 p.1, .int .i64 p.2.1, .string p.2.2, .slice A n c] t)) w.heap.size p A n c := by
  have h := alloc_new w (.cells #[.int .i64 p.1, .int .i64 p.2.1, .string p.2.2, .slice A n c] t)
  exact ⟨by rw [cell_of_row _ _ _ _ _ _ h]; rfl, by rw [cell_of_row _ _ _ _ _ _ h]; rfl, by rw [cell_of_row _ _ _ _ _ _ h]; rfl, by rw [cell_of_row _ _ _ _ _ _ h]; rfl⟩
end Go.Proofs.Ytapcnehpechkpaa
